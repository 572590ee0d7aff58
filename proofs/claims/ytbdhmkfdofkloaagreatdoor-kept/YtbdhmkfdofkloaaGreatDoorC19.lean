import Derived.Test.YtbdhmkfdofkloaaGreatDoorC17
import Derived.Deep.CutRange
/- SORTING NUMBERS (uint64), many of them: partition. -/
namespace Go.Proofs.YtbdhmkfdofkloaaGreatDoor
open Go.RowKit Go.Maps
open Sc

/-- how far a partition has come -/
structure PI (d : Array Nat) (a b x I J : Nat) (e : Array Nat) : Prop where
  perm : Go.Sort.PermIn a b d e
  piv : e[a]! = x
  lo : ∀ t, a < t → t < I → e[t]! < x
  hi : ∀ t, J < t → t < b → ¬ e[t]! < x
  aI : a < I
  ij : I ≤ J + 1
  jb : J < b
/-- what a partition leaves -/
structure PS (d : Array Nat) (a b m : Nat) (e : Array Nat) : Prop where
  perm : Go.Sort.PermIn a b d e
  am : a ≤ m
  mb : m < b
  lo : ∀ t, a ≤ t → t < m → e[t]! < e[m]!
  hi : ∀ t, m < t → t < b → ¬ e[t]! < e[m]!
section
variable {d e : Array Nat} {a b x I J : Nat}
theorem PI.up (h : PI d a b x I J e) (hI : I ≤ J) (hx : e[I]! < x) : PI d a b x (I + 1) J e :=
  ⟨h.perm, h.piv, fun t h1 h2 => (Nat.lt_or_ge t I).elim (fun h3 => h.lo t h1 h3) (fun h3 => (by omega : t = I) ▸ hx), h.hi, Nat.lt_succ_of_lt h.aI, by omega, h.jb⟩
theorem PI.dn (h : PI d a b x I J e) (hI : I ≤ J) (hx : ¬ e[J]! < x) : PI d a b x I (J - 1) e :=
  ⟨h.perm, h.piv, h.lo, fun t h1 h2 => (Nat.lt_or_ge J t).elim (fun h3 => h.hi t h3 h2) (fun h3 => (by omega : t = J) ▸ hx), h.aI, by have := h.aI; omega, by have := h.jb; omega⟩
theorem PI.swap (h : PI d a b x I J e) (hb : b ≤ d.size) (hI : I ≤ J) (h1 : ¬ e[I]! < x) (h2 : e[J]! < x) : PI d a b x (I + 1) (J - 1) (Go.Sort.swp e I J) ∧ I < J := by
  have hs : e.size = d.size := h.perm.1
  have hne : I ≠ J := fun e => by subst e; exact h1 h2
  have hjb := h.jb
  have hai := h.aI
  have hg := fun k => Go.Sort.swp_get e (i := I) (j := J) (by omega) (by omega) k
  refine ⟨⟨Go.Sort.permIn_trans _ _ _ _ _ h.perm (Go.Sort.swp_permIn _ _ _ _ _ (by omega) (by omega) (by omega) (by omega) (by omega)), ?_, fun t t1 t2 => ?_, fun t t1 t2 => ?_, by omega, by omega, by omega⟩, by omega⟩
  · rw [hg]; simp only [show a ≠ I by omega, show a ≠ J by omega, if_false]; exact h.piv
  · rw [hg]
    by_cases e1 : t = I
    · subst e1; simp only [hne, if_true, if_false]; exact h2
    · simp only [e1, show t ≠ J by omega, if_false]; exact h.lo t t1 (by omega)
  · rw [hg]
    by_cases e1 : t = J
    · subst e1; simp only [if_true]; exact h1
    · simp only [e1, show t ≠ I by omega, if_false]; exact h.hi t (by omega) t2
theorem PI.fin (h : PI d a b x I J e) (hb : b ≤ d.size) (hI : ¬ I ≤ J) : PS d a b J (Go.Sort.swp e J a) := by
  have hs : e.size = d.size := h.perm.1
  have hjb := h.jb
  have hai := h.aI
  have hij := h.ij
  have hg := fun k => Go.Sort.swp_get e (i := J) (j := a) (by omega) (by omega) k
  have hJ : (Go.Sort.swp e J a)[J]! = x := by
    rw [hg]
    by_cases e1 : J = a
    · simp only [e1, if_true]; exact h.piv
    · simp only [e1, if_true, if_false]; exact h.piv
  refine ⟨Go.Sort.permIn_trans _ _ _ _ _ h.perm (Go.Sort.swp_permIn _ _ _ _ _ (by omega) (by omega) (by omega) (by omega) (by omega)), by omega, hjb, fun t t1 t2 => ?_, fun t t1 t2 => ?_⟩
  · rw [hJ, hg]
    by_cases e1 : t = a
    · subst e1; simp only [show t ≠ J by omega, if_true, if_false]; exact h.lo J (by omega) (by omega)
    · simp only [e1, show t ≠ J by omega, if_false]; exact h.lo t (by omega) (by omega)
  · rw [hJ, hg]
    simp only [show t ≠ a by omega, show t ≠ J by omega, if_false]; exact h.hi t t1 t2
end
theorem PI.first {d : Array Nat} {a b p : Nat} (hb : b ≤ d.size) (hap : a ≤ p) (hpb : p < b) : PI d a b (Go.Sort.swp d a p)[a]! (a + 1) (b - 1) (Go.Sort.swp d a p) :=
  ⟨Go.Sort.swp_permIn _ _ _ _ _ (by omega) (by omega) (by omega) (by omega) (by omega), rfl, fun t h1 h2 => by omega, fun t h1 h2 => by omega, by omega, by omega, by omega⟩
set_option maxRecDepth 100000 in
set_option maxHeartbeats 8000000 in
theorem partU (B g n cap a b p : Nat) (d : Array Nat) (w0 w : World) (h : SU w0 w B g n cap d) (hap : a ≤ p) (hpb : p < b) (hb : b ≤ n) (hn : n ≤ 67108864) :
    Calls Tryz.prog 179 #[.slice (some ⟨g, 0, none⟩) n cap, .int .i64 (a : Int), .int .i64 (b : Int), .int .i64 (p : Int)] w fun e w' => ∃ (m : Nat) (al : Bool) (d' : Array Nat), e = .returned (.tuple #[.int .i64 (m : Int), .bool al]) ∧ SU w0 w' B g n cap d' ∧ PS d a b m d' := by
  have H0 : Hid (SU w0 w B g n cap d) := h
  have j0 : IntKind.i64.wrap ((a : Int) + 1) = ((a + 1 : Nat) : Int) := by rw [IntKind.wrap_i64]; omega
  have j1 : IntKind.i64.wrap ((b : Int) - 1) = ((b - 1 : Nat) : Int) := by rw [IntKind.wrap_i64]; omega
  have ba : (a : Int) < (n : Int) := by omega
  have bp : (p : Int) < (n : Int) := by omega
  have ca := h.at (k := a) (by omega)
  have cp := h.at (k := p) (by omega)
  have fa : w.frozen? ⟨g, a, none⟩ = false := h.free _
  have fp : w.frozen? ⟨g, p, none⟩ = false := h.free _
  have HD : Hid (b ≤ d.size) := by show b ≤ d.size; rw [h.sz]; exact hb
  clear h
  go_enter Tryz.func179, Tryz.ntmps179
  go_upto_region 1 with fail
  go_cut [12] from 12 to 25 (fun _ wx => SU w0 wx B g n cap (Go.Sort.swp d a p))
  case first =>
    by_cases hne : a = p
    · subst hne
      go_region
      all_goals (go_wp2; go_meet; exact (H0.out.swp a a).drew)
    · have hne2 : ¬ p = a := fun e => hne e.symm
      go_region
      all_goals (go_wp2; go_meet; exact (H0.out.swp a p).drew)
  case rest =>
    obtain ⟨d1, hd1⟩ : ∃ d1, d1 = Go.Sort.swp d a p := ⟨_, rfl⟩
    obtain ⟨x, hx⟩ : ∃ x, x = d1[a]! := ⟨_, rfl⟩
    obtain ⟨z, hz⟩ : ∃ z, z = b - 1 := ⟨_, rfl⟩
    have HP : Hid (PI d a b x (a + 1) z d1) := by rw [hx, hd1, hz]; exact PI.first HD.out hap hpb
    rw [← hd1] at hcut
    rw [← hz] at j1
    have HS : Hid (SU w0 wc B g n cap d1) := hcut
    clear hcut ca cp fa fp hd1 hx hz
    go_wp2
    go_loopw [10] (fun i wr => ∃ k : Nat, i = .int .i64 k ∧ a + 1 ≤ k ∧ Hid (SU w0 wr B g n cap d1 ∧ PI d a b x k z d1)) (fun i _ => n + 5 - (intOf i).toNat)
    case atStart => exact ⟨a + 1, by simp, Nat.le_refl _, HS.out, HP.out⟩
    case round =>
      obtain ⟨k, rfl, hk0, hR⟩ := hrel
      have hk1 := hR.out.2.aI
      have hk2 := hR.out.2.ij
      have hk3 := hR.out.2.jb
      go_upto_region 3 with fail
      go_cut [43] from 30 to 45 (fun s wx => s = .bool (decide (k ≤ z ∧ d1[k]! < x)) ∧ SU w0 wx B g n cap d1)
      case first =>
        by_cases hle : k ≤ z
        · have l1 : (k : Int) ≤ (z : Int) := by omega
          have ck := hR.out.1.at (k := k) (by omega)
          have ca := hR.out.1.at (k := a) (by omega)
          rw [hR.out.2.piv] at ca
          have bk : (k : Int) < (n : Int) := by omega
          go_quiet (first | (go_at_call 116; refine Calls.quiet_of_same (lessU _ _ _)))
          go_wp2
          go_meet
          refine ⟨?_, hR.out.1.drewN _⟩
          congr 1
          simp [hle]
        · have l1 : ¬ (k : Int) ≤ (z : Int) := by omega
          go_quiet (first | (go_at_call 116; refine Calls.quiet_of_same (lessU _ _ _)))
          go_wp2
          go_meet
          refine ⟨?_, hR.out.1.drewN _⟩
          congr 1
          simp [hle]
      case rest =>
        obtain ⟨rfl, hs⟩ := hcut
        have HS : Hid (SU w0 wc B g n cap d1) := hs
        clear hs
        by_cases hc : k ≤ z ∧ d1[k]! < x
        · have j2 : IntKind.i64.wrap ((k : Int) + 1) = ((k + 1 : Nat) : Int) := by rw [IntKind.wrap_i64]; omega
          rw [decide_eq_true hc]
          have HP1 := hR.out.2.up hc.1 hc.2
          have HQ : Hid (SU w0 wc B g n cap d1 ∧ PI d a b x (k + 1) z d1) := ⟨HS.out, HP1⟩
          clear hc HP1
          go_wp2
          go_roundw
          case rel => exact ⟨k + 1, by simp, by omega, HQ.out⟩
          case measure => simp [intOf]; omega
        · rw [decide_eq_false hc]
          have HU : Hid (SU w0 wc B g n cap d1 ∧ PI d a b x k z d1 ∧ (k ≤ z → ¬ d1[k]! < x)) := ⟨HS.out, hR.out.2, fun h1 h2 => hc ⟨h1, h2⟩⟩
          clear HS hR hc
          go_wp2
          go_loopw [11] (fun i wr => ∃ y : Nat, i = .int .i64 y ∧ y ≤ z ∧ Hid (SU w0 wr B g n cap d1 ∧ PI d a b x k y d1)) (fun i _ => (intOf i).toNat)
          case atStart => exact ⟨z, rfl, Nat.le_refl _, HU.out.1, HU.out.2.1⟩
          case round =>
            obtain ⟨y, rfl, hyj, hR⟩ := hrel
            have hy2 := hR.out.2.ij
            have hy3 := hR.out.2.jb
            go_upto_region 5 with fail
            go_cut [60] from 46 to 62 (fun s wx => s = .bool (decide (k ≤ y ∧ ¬ d1[y]! < x)) ∧ SU w0 wx B g n cap d1)
            case first =>
              by_cases hle : k ≤ y
              · have l1 : (k : Int) ≤ (y : Int) := by omega
                have ck := hR.out.1.at (k := y) (by omega)
                have ca := hR.out.1.at (k := a) (by omega)
                rw [hR.out.2.piv] at ca
                have bk : (y : Int) < (n : Int) := by omega
                go_quiet (first | (go_at_call 116; refine Calls.quiet_of_same (lessU _ _ _)))
                go_wp2
                go_meet
                refine ⟨?_, hR.out.1.drewN _⟩
                congr 1
                by_cases hq : d1[y]! < x
                · simp [hle, hq]
                · simp [hle, hq]
              · have l1 : ¬ (k : Int) ≤ (y : Int) := by omega
                go_quiet (first | (go_at_call 116; refine Calls.quiet_of_same (lessU _ _ _)))
                go_wp2
                go_meet
                refine ⟨?_, hR.out.1.drewN _⟩
                congr 1
                simp [hle]
            case rest =>
              obtain ⟨rfl, hs⟩ := hcut
              have HS : Hid (SU w0 wc B g n cap d1) := hs
              clear hs
              by_cases hc : k ≤ y ∧ ¬ d1[y]! < x
              · have j2 : IntKind.i64.wrap ((y : Int) - 1) = ((y - 1 : Nat) : Int) := by rw [IntKind.wrap_i64]; omega
                rw [decide_eq_true hc]
                have HP1 := hR.out.2.dn hc.1 hc.2
                have hy0 : 0 < y := by omega
                have HQ : Hid (SU w0 wc B g n cap d1 ∧ PI d a b x k (y - 1) d1) := ⟨HS.out, HP1⟩
                clear hc HP1
                go_wp2
                go_roundw
                case rel => exact ⟨y - 1, rfl, by omega, HQ.out⟩
                case measure => simp [intOf]; omega
              · rw [decide_eq_false hc]
                have HV : Hid (SU w0 wc B g n cap d1 ∧ PI d a b x k y d1 ∧ (k ≤ y → ¬ d1[k]! < x) ∧ (k ≤ y → d1[y]! < x)) := ⟨HS.out, hR.out.2, fun h1 => HU.out.2.2 (by omega), fun h1 => Classical.byContradiction fun h2 => hc ⟨h1, h2⟩⟩
                clear HS HU hR hc
                by_cases hky : k ≤ y
                · have l2 : ¬ (y : Int) < (k : Int) := by omega
                  obtain ⟨q1, q2⟩ := HV.out.2.1.swap HD.out hky (HV.out.2.2.1 hky) (HV.out.2.2.2 hky)
                  have cy := HV.out.1.at (k := y) (by omega)
                  have ck := HV.out.1.at (k := k) (by omega)
                  have fy : wc.frozen? ⟨g, y, none⟩ = false := HV.out.1.free _
                  have fk : wc.frozen? ⟨g, k, none⟩ = false := HV.out.1.free _
                  have by_ : (y : Int) < (n : Int) := by omega
                  have bk : (k : Int) < (n : Int) := by omega
                  have n1 : ¬ k = y := by omega
                  have n2 : ¬ y = k := by omega
                  have j3 : IntKind.i64.wrap ((k : Int) + 1) = ((k + 1 : Nat) : Int) := by rw [IntKind.wrap_i64]; omega
                  have j4 : IntKind.i64.wrap ((y : Int) - 1) = ((y - 1 : Nat) : Int) := by rw [IntKind.wrap_i64]; omega
                  have HN : Hid (PI d a b x (k + 1) (y - 1) (Go.Sort.swp d1 k y)) := q1
                  clear q1
                  go_wp2
                  go_region
                  all_goals go_wp2
                  go_loopw [10, 11] (fun i j wr => ∃ I J : Nat, i = .int .i64 I ∧ j = .int .i64 J ∧ J < b ∧ ∃ d3, Hid (SU w0 wr B g n cap d3 ∧ PI d a b x I J d3)) (fun i j _ => (intOf j).toNat + 1 - (intOf i).toNat)
                  case atStart => exact ⟨k + 1, y - 1, by simp, by simp, by omega, _, (HV.out.1.swp k y).drew, HN.out⟩
                  case round =>
                    obtain ⟨I, J, rfl, rfl, hJb, d3, hL⟩ := hrel
                    clear HV HN cy ck fy fk
                    go_wp2
                    go_loopw [10] (fun i wr => ∃ k : Nat, i = .int .i64 k ∧ I ≤ k ∧ Hid (SU w0 wr B g n cap d3 ∧ PI d a b x k J d3)) (fun i _ => n + 5 - (intOf i).toNat)
                    case atStart => exact ⟨I, rfl, Nat.le_refl _, hL.out⟩
                    case round =>
                      obtain ⟨k, rfl, hk0, hR⟩ := hrel
                      have hk1 := hR.out.2.aI
                      have hk2 := hR.out.2.ij
                      have hk3 := hR.out.2.jb
                      go_upto_region 13 with fail
                      go_cut [112] from 99 to 114 (fun s wx => s = .bool (decide (k ≤ J ∧ d3[k]! < x)) ∧ SU w0 wx B g n cap d3)
                      case first =>
                        by_cases hle : k ≤ J
                        · have l1 : (k : Int) ≤ (J : Int) := by omega
                          have ck := hR.out.1.at (k := k) (by omega)
                          have ca := hR.out.1.at (k := a) (by omega)
                          rw [hR.out.2.piv] at ca
                          have bk : (k : Int) < (n : Int) := by omega
                          go_quiet (first | (go_at_call 116; refine Calls.quiet_of_same (lessU _ _ _)))
                          go_wp2
                          go_meet
                          refine ⟨?_, hR.out.1.drewN _⟩
                          congr 1
                          simp [hle]
                        · have l1 : ¬ (k : Int) ≤ (J : Int) := by omega
                          go_quiet (first | (go_at_call 116; refine Calls.quiet_of_same (lessU _ _ _)))
                          go_wp2
                          go_meet
                          refine ⟨?_, hR.out.1.drewN _⟩
                          congr 1
                          simp [hle]
                      case rest =>
                        obtain ⟨rfl, hs⟩ := hcut
                        have HS : Hid (SU w0 wc B g n cap d3) := hs
                        clear hs
                        by_cases hc : k ≤ J ∧ d3[k]! < x
                        · have j2 : IntKind.i64.wrap ((k : Int) + 1) = ((k + 1 : Nat) : Int) := by rw [IntKind.wrap_i64]; omega
                          rw [decide_eq_true hc]
                          have HP1 := hR.out.2.up hc.1 hc.2
                          have HQ : Hid (SU w0 wc B g n cap d3 ∧ PI d a b x (k + 1) J d3) := ⟨HS.out, HP1⟩
                          clear hc HP1
                          go_wp2
                          go_roundw
                          case rel => exact ⟨k + 1, by simp, by omega, HQ.out⟩
                          case measure => simp [intOf]; omega
                        · rw [decide_eq_false hc]
                          have HU : Hid (SU w0 wc B g n cap d3 ∧ PI d a b x k J d3 ∧ (k ≤ J → ¬ d3[k]! < x)) := ⟨HS.out, hR.out.2, fun h1 h2 => hc ⟨h1, h2⟩⟩
                          clear HS hR hc
                          go_wp2
                          go_wp2
                          go_loopw [11] (fun i wr => ∃ y : Nat, i = .int .i64 y ∧ y ≤ J ∧ Hid (SU w0 wr B g n cap d3 ∧ PI d a b x k y d3)) (fun i _ => (intOf i).toNat)
                          case atStart => exact ⟨J, rfl, Nat.le_refl _, HU.out.1, HU.out.2.1⟩
                          case round =>
                            obtain ⟨y, rfl, hyj, hR⟩ := hrel
                            have hy2 := hR.out.2.ij
                            have hy3 := hR.out.2.jb
                            go_upto_region 15 with fail
                            go_cut [129] from 115 to 131 (fun s wx => s = .bool (decide (k ≤ y ∧ ¬ d3[y]! < x)) ∧ SU w0 wx B g n cap d3)
                            case first =>
                              by_cases hle : k ≤ y
                              · have l1 : (k : Int) ≤ (y : Int) := by omega
                                have ck := hR.out.1.at (k := y) (by omega)
                                have ca := hR.out.1.at (k := a) (by omega)
                                rw [hR.out.2.piv] at ca
                                have bk : (y : Int) < (n : Int) := by omega
                                go_quiet (first | (go_at_call 116; refine Calls.quiet_of_same (lessU _ _ _)))
                                go_wp2
                                go_meet
                                refine ⟨?_, hR.out.1.drewN _⟩
                                congr 1
                                by_cases hq : d3[y]! < x
                                · simp [hle, hq]
                                · simp [hle, hq]
                              · have l1 : ¬ (k : Int) ≤ (y : Int) := by omega
                                go_quiet (first | (go_at_call 116; refine Calls.quiet_of_same (lessU _ _ _)))
                                go_wp2
                                go_meet
                                refine ⟨?_, hR.out.1.drewN _⟩
                                congr 1
                                simp [hle]
                            case rest =>
                              obtain ⟨rfl, hs⟩ := hcut
                              have HS : Hid (SU w0 wc B g n cap d3) := hs
                              clear hs
                              by_cases hc : k ≤ y ∧ ¬ d3[y]! < x
                              · have j2 : IntKind.i64.wrap ((y : Int) - 1) = ((y - 1 : Nat) : Int) := by rw [IntKind.wrap_i64]; omega
                                rw [decide_eq_true hc]
                                have HP1 := hR.out.2.dn hc.1 hc.2
                                have hy0 : 0 < y := by omega
                                have HQ : Hid (SU w0 wc B g n cap d3 ∧ PI d a b x k (y - 1) d3) := ⟨HS.out, HP1⟩
                                clear hc HP1
                                go_wp2
                                go_roundw
                                case rel => exact ⟨y - 1, rfl, by omega, HQ.out⟩
                                case measure => simp [intOf]; omega
                              · rw [decide_eq_false hc]
                                have HV : Hid (SU w0 wc B g n cap d3 ∧ PI d a b x k y d3 ∧ (k ≤ y → ¬ d3[k]! < x) ∧ (k ≤ y → d3[y]! < x)) := ⟨HS.out, hR.out.2, fun h1 => HU.out.2.2 (by omega), fun h1 => Classical.byContradiction fun h2 => hc ⟨h1, h2⟩⟩
                                clear HS HU hR hc
                                by_cases hky : k ≤ y
                                · have l2 : ¬ (y : Int) < (k : Int) := by omega
                                  obtain ⟨q1, q2⟩ := HV.out.2.1.swap HD.out hky (HV.out.2.2.1 hky) (HV.out.2.2.2 hky)
                                  have cy := HV.out.1.at (k := y) (by omega)
                                  have ck := HV.out.1.at (k := k) (by omega)
                                  have fy : wc.frozen? ⟨g, y, none⟩ = false := HV.out.1.free _
                                  have fk : wc.frozen? ⟨g, k, none⟩ = false := HV.out.1.free _
                                  have by_ : (y : Int) < (n : Int) := by omega
                                  have bk : (k : Int) < (n : Int) := by omega
                                  have n1 : ¬ k = y := by omega
                                  have n2 : ¬ y = k := by omega
                                  have j3 : IntKind.i64.wrap ((k : Int) + 1) = ((k + 1 : Nat) : Int) := by rw [IntKind.wrap_i64]; omega
                                  have j4 : IntKind.i64.wrap ((y : Int) - 1) = ((y - 1 : Nat) : Int) := by rw [IntKind.wrap_i64]; omega
                                  have HN : Hid (PI d a b x (k + 1) (y - 1) (Go.Sort.swp d3 k y)) := q1
                                  clear q1
                                  go_wp2
                                  go_region
                                  all_goals go_wp2
                                  go_roundw
                                  case rel => exact ⟨k + 1, y - 1, by simp, by simp, by omega, _, (HV.out.1.swp k y).drew, HN.out⟩
                                  case measure => simp [intOf]; omega

                                · have l2 : (y : Int) < (k : Int) := by omega
                                  have ay := HV.out.2.1.aI
                                  have ky := HV.out.2.1.ij
                                  have cy := HV.out.1.at (k := y) (by omega)
                                  have ca := HV.out.1.at (k := a) (by omega)
                                  have fy : wc.frozen? ⟨g, y, none⟩ = false := HV.out.1.free _
                                  have fa : wc.frozen? ⟨g, a, none⟩ = false := HV.out.1.free _
                                  have by_ : (y : Int) < (n : Int) := by omega
                                  by_cases hya : y = a
                                  · subst hya
                                    go_wp2
                                    go_region
                                    all_goals go_wp2
                                    all_goals go_ret2
                                    all_goals exact ⟨y, false, _, rfl, (HV.out.1.swp y y).drew, HV.out.2.1.fin HD.out (by omega)⟩
                                  · have hya2 : ¬ a = y := fun e => hya e.symm
                                    go_wp2
                                    go_region
                                    all_goals go_wp2
                                    all_goals go_ret2
                                    all_goals exact ⟨y, false, _, rfl, (HV.out.1.swp y a).drew, HV.out.2.1.fin HD.out (by omega)⟩

                · have l2 : (y : Int) < (k : Int) := by omega
                  have ay := HV.out.2.1.aI
                  have ky := HV.out.2.1.ij
                  have cy := HV.out.1.at (k := y) (by omega)
                  have ca := HV.out.1.at (k := a) (by omega)
                  have fy : wc.frozen? ⟨g, y, none⟩ = false := HV.out.1.free _
                  have fa : wc.frozen? ⟨g, a, none⟩ = false := HV.out.1.free _
                  have by_ : (y : Int) < (n : Int) := by omega
                  by_cases hya : y = a
                  · subst hya
                    go_wp2
                    go_region
                    all_goals go_wp2
                    all_goals go_ret2
                    all_goals exact ⟨y, true, _, rfl, (HV.out.1.swp y y).drew, HV.out.2.1.fin HD.out (by omega)⟩
                  · have hya2 : ¬ a = y := fun e => hya e.symm
                    go_wp2
                    go_region
                    all_goals go_wp2
                    all_goals go_ret2
                    all_goals exact ⟨y, true, _, rfl, (HV.out.1.swp y a).drew, HV.out.2.1.fin HD.out (by omega)⟩

end Go.Proofs.YtbdhmkfdofkloaaGreatDoor
