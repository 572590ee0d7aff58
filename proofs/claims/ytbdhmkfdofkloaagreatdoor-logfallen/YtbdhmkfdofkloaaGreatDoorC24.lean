import Derived.Test.YtbdhmkfdofkloaaGreatDoorC23
import Derived.Deep.CutRange
/- SORTING NUMBERS (uint64), many of them: partition. -/
namespace Go.Proofs.YtbdhmkfdofkloaaGreatDoor
open Go.RowKit Go.Maps
open Sc

/-- how far a partition has come -/
structure PI (d : Array Nat) (a b x I J : Nat) (e : Array Nat) : Prop where
  perm : Go.Sort.PermIn a b d e
  piv : e[a]! = x
  lo : ∀ t, a < t → t < I → e[t]! < x
  hi : ∀ t, J < t → t < b → ¬ e[t]! < x
  aI : a < I
  ij : I ≤ J + 1
  jb : J < b
/-- what a partition leaves -/
structure PS (d : Array Nat) (a b m : Nat) (e : Array Nat) : Prop where
  perm : Go.Sort.PermIn a b d e
  am : a ≤ m
  mb : m < b
  lo : ∀ t, a ≤ t → t < m → e[t]! < e[m]!
  hi : ∀ t, m < t → t < b → ¬ e[t]! < e[m]!
section
variable {d e : Array Nat} {a b x I J : Nat}
theorem PI.up (h : PI d a b x I J e) (hI : I ≤ J) (hx : e[I]! < x) : PI d a b x (I + 1) J e :=
  ⟨h.perm, h.piv, fun t h1 h2 => (Nat.lt_or_ge t I).elim (fun h3 => h.lo t h1 h3) (fun h3 => (by omega : t = I) ▸ hx), h.hi, Nat.lt_succ_of_lt h.aI, by omega, h.jb⟩
theorem PI.dn (h : PI d a b x I J e) (hI : I ≤ J) (hx : ¬ e[J]! < x) : PI d a b x I (J - 1) e :=
  ⟨h.perm, h.piv, h.lo, fun t h1 h2 => (Nat.lt_or_ge J t).elim (fun h3 => h.hi t h3 h2) (fun h3 => (by omega : t = J) ▸ hx), h.aI, by have := h.aI; omega, by have := h.jb; omega⟩
theorem PI.swap (h : PI d a b x I J e) (hb : b ≤ d.size) (hI : I ≤ J) (h1 : ¬ e[I]! < x) (h2 : e[J]! < x) : PI d a b x (I + 1) (J - 1) (Go.Sort.swp e I J) ∧ I < J := by
  have hs : e.size = d.size := h.perm.1
  have hne : I ≠ J := fun e => by subst e; exact h1 h2
  have hjb := h.jb
  have hai := h.aI
  have hg := fun k => Go.Sort.swp_get e (i := I) (j := J) (by omega) (by omega) k
  refine ⟨⟨Go.Sort.permIn_trans _ _ _ _ _ h.perm (Go.Sort.swp_permIn _ _ _ _ _ (by omega) (by omega) (by omega) (by omega) (by omega)), ?_, fun t t1 t2 => ?_, fun t t1 t2 => ?_, by omega, by omega, by omega⟩, by omega⟩
  · rw [hg]; simp only [show a ≠ I by omega, show a ≠ J by omega, if_false]; exact h.piv
  · rw [hg]
    by_cases e1 : t = I
    · subst e1; simp only [hne, if_true, if_false]; exact h2
    · simp only [e1, show t ≠ J by omega, if_false]; exact h.lo t t1 (by omega)
  · rw [hg]
    by_cases e1 : t = J
    · subst e1; simp only [if_true]; exact h1
    · simp only [e1, show t ≠ I by omega, if_false]; exact h.hi t (by omega) t2
theorem PI.fin (h : PI d a b x I J e) (hb : b ≤ d.size) (hI : ¬ I ≤ J) : PS d a b J (Go.Sort.swp e J a) := by
  have hs : e.size = d.size := h.perm.1
  have hjb := h.jb
  have hai := h.aI
  have hij := h.ij
  have hg := fun k => Go.Sort.swp_get e (i := J) (j := a) (by omega) (by omega) k
  have hJ : (Go.Sort.swp e J a)[J]! = x := by
    rw [hg]
    by_cases e1 : J = a
    · simp only [e1, if_true]; exact h.piv
    · simp only [e1, if_true, if_false]; exact h.piv
  refine ⟨Go.Sort.permIn_trans _ _ _ _ _ h.perm (Go.Sort.swp_permIn _ _ _ _ _ (by omega) (by omega) (by omega) (by omega) (by omega)), by omega, hjb, fun t t1 t2 => ?_, fun t t1 t2 => ?_⟩
  · rw [hJ, hg]
    by_cases e1 : t = a
    · subst e1; simp only [show t ≠ J by omega, if_true, if_false]; exact h.lo J (by omega) (by omega)
    · simp only [e1, show t ≠ J by omega, if_false]; exact h.lo t (by omega) (by omega)
  · rw [hJ, hg]
    simp only [show t ≠ a by omega, show t ≠ J by omega, if_false]; exact h.hi t t1 t2
end
theorem PI.first {d : Array Nat} {a b p : Nat} (hb : b ≤ d.size) (hap : a ≤ p) (hpb : p < b) : PI d a b (Go.Sort.swp d a p)[a]! (a + 1) (b - 1) (Go.Sort.swp d a p) :=
  ⟨Go.Sort.swp_permIn _ _ _ _ _ (by omega) (by omega) (by omega) (by omega) (by omega), rfl, fun t h1 h2 => by omega, fun t h1 h2 => by omega, by omega, by omega, by omega⟩
set_option maxRecDepth 100000 in
set_option maxHeartbeats 8000000 in
theorem partU (B g n cap a b p : Nat) (d : Array Nat) (w0 w : World) (h : SU w0 w B g n cap d) (hap : a ≤ p) (hpb : p < b) (hb : b ≤ n) (hn : n ≤ 1000000000) :
    Calls Tryz.prog 179 #[.slice (some ⟨g, 0, none⟩) n cap, .int .i64 (a : Int), .int .i64 (b : Int), .int .i64 (p : Int)] w fun e w' => ∃ (m : Nat) (al : Bool) (d' : Array Nat), e = .returned (.tuple #[.int .i64 (m : Int), .bool al]) ∧ SU w0 w' B g n cap d' ∧ PS d a b m d' := by
  have H0 : Hid (SU w0 w B g n cap d) := h
  have j0 : IntKind.i64.wrap ((a : Int) + 1) = ((a + 1 : Nat) : Int) := by rw [IntKind.wrap_i64]; omega
  have j1 : IntKind.i64.wrap ((b : Int) - 1) = ((b - 1 : Nat) : Int) := by rw [IntKind.wrap_i64]; omega
  have ba : (a : Int) < (n : Int) := by omega
  have bp : (p : Int) < (n : Int) := by omega
  have ca := h.at (k := a) (by omega)
  have cp := h.at (k := p) (by omega)
  have fa : w.frozen? ⟨g, a, none⟩ = false := h.free _
  have fp : w.frozen? ⟨g, p, none⟩ = false := h.free _
  have HD : Hid (b ≤ d.size) := by show b ≤ d.size; rw [h.sz]; exact hb
  clear h
  go_enter Tryz.func179, Tryz.ntmps179
  go_upto_region 1 with fail
  go_cut [12] from 12 to 25 (fun _ wx => SU w0 wx B g n cap (Go.Sort.swp d a p))
  case first =>
    by_cases hne : a = p
    · subst hne
      go_region
      all_goals (go_wp2; go_meet; exact (H0.out.swp a a).drew)
    · have hne2 : ¬ p = a := fun e => hne e.symm
      go_region
      all_goals (go_wp2; go_meet; exact (H0.out.swp a p).drew)
  case rest =>
    obtain ⟨d1, hd1⟩ : ∃ d1, d1 = Go.Sort.swp d a p := ⟨_, rfl⟩
    obtain ⟨x, hx⟩ : ∃ x, x = d1[a]! := ⟨_, rfl⟩
    obtain ⟨z, hz⟩ : ∃ z, z = b - 1 := ⟨_, rfl⟩
    have HP : Hid (PI d a b x (a + 1) z d1) := by rw [hx, hd1, hz]; exact PI.first HD.out hap hpb
    rw [← hd1] at hcut
    rw [← hz] at j1
    have HS : Hid (SU w0 wc B g n cap d1) := hcut
    clear hcut ca cp fa fp hd1 hx hz
    go_wp2
    go_loopw [10] (fun i wr => ∃ k : Nat, i = .int .i64 k ∧ a + 1 ≤ k ∧ Hid (SU w0 wr B g n cap d1 ∧ PI d a b x k z d1)) (fun i _ => n + 5 - (intOf i).toNat)
    case atStart => exact ⟨a + 1, by simp, Nat.le_refl _, HS.out, HP.out⟩
    case round =>
      obtain ⟨k, rfl, hk0, hR⟩ := hrel
      have hk1 := hR.out.2.aI
      have hk2 := hR.out.2.ij
      have hk3 := hR.out.2.jb
      go_upto_region 3 with fail
      go_cut [43] from 30 to 45 (fun s wx => s = .bool (decide (k ≤ z ∧ d1[k]! < x)) ∧ SU w0 wx B g n cap d1)
      case first =>
        by_cases hle : k ≤ z
        · have l1 : (k : Int) ≤ (z : Int) := by omega
          have ck := hR.out.1.at (k := k) (by omega)
          have ca := hR.out.1.at (k := a) (by omega)
          rw [hR.out.2.piv] at ca
          have bk : (k : Int) < (n : Int) := by omega
          go_quiet (first | (go_at_call 116; refine Calls.quiet_of_same (lessU _ _ _)))
          go_wp2
          go_meet
          refine ⟨?_, hR.out.1.drewN _⟩
          congr 1
          simp [hle]
        · have l1 : ¬ (k : Int) ≤ (z : Int) := by omega
          go_quiet (first | (go_at_call 116; refine Calls.quiet_of_same (lessU _ _ _)))
          go_wp2
          go_meet
          refine ⟨?_, hR.out.1.drewN _⟩
          congr 1
          simp [hle]
      case rest =>
        obtain ⟨rfl, hs⟩ := hcut
        have HS : Hid (SU w0 wc B g n cap d1) := hs
        clear hs
        by_cases hc : k ≤ z ∧ d1[k]! < x
        · have j2 : IntKind.i64.wrap ((k : Int) + 1) = ((k + 1 : Nat) : Int) := by rw [IntKind.wrap_i64]; omega
          rw [decide_eq_true hc]
          have HP1 := hR.out.2.up hc.1 hc.2
          have HQ : Hid (SU w0 wc B g n cap d1 ∧ PI d a b x (k + 1) z d1) := ⟨HS.out, HP1⟩
          clear hc HP1
          go_wp2
          go_roundw
          case rel => exact ⟨k + 1, by simp, by omega, HQ.out⟩
          case measure => simp [intOf]; omega
        · rw [decide_eq_false hc]
          have HU : Hid (SU w0 wc B g n cap d1 ∧ PI d a b x k z d1 ∧ (k ≤ z → ¬ d1[k]! < x)) := ⟨HS.out, hR.out.2, fun h1 h2 => hc ⟨h1, h2⟩⟩
          clear HS hR hc
          go_wp2
          go_loopw [11] (fun i wr => ∃ y : Nat, i = .int .i64 y ∧ y ≤ z ∧ Hid (SU w0 wr B g n cap d1 ∧ PI d a b x k y d1)) (fun i _ => (intOf i).toNat)
          case atStart => exact ⟨z, rfl, Nat.le_refl _, HU.out.1, HU.out.2.1⟩
          case round =>
            obtain ⟨y, rfl, hyj, hR⟩ := hrel
            have hy2 := hR.out.2.ij
            have hy3 := hR.out.2.jb
            go_upto_region 5 with fail
            go_cut [60] from 46 to 62 (fun s wx => s = .bool (decide (k ≤ y ∧ ¬ d1[y]! < x)) ∧ SU w0 wx B g n cap d1)
            case first =>
              by_cases hle : k ≤ y
              · have l1 : (k : Int) ≤ (y : Int) := by omega
                have ck := hR.out.1.at (k := y) (by omega)
                have ca := hR.out.1.at (k := a) (by omega)
                rw [hR.out.2.piv] at ca
                have bk : (y : Int) < (n : Int) := by omega
                go_quiet (first | (go_at_call 116; refine Calls.quiet_of_same (lessU _ _ _)))
                go_wp2
                go_meet
                refine ⟨?_, hR.out.1.drewN _⟩
                congr 1
                by_cases hq : d1[y]! < x
                · simp [hle, hq]
                · simp [hle, hq]
              · have l1 : ¬ (k : Int) ≤ (y : Int) := by omega
                go_quiet (first | (go_at_call 116; refine Calls.quiet_of_same (lessU _ _ _)))
                go_wp2
                go_meet
                refine ⟨?_, hR.out.1.drewN _⟩
                congr 1
                simp [hle]
            case rest =>
              obtain ⟨rfl, hs⟩ := hcut
              have HS : Hid (SU w0 wc B g n cap d1) := hs
              clear hs
              by_cases hc : k ≤ y ∧ ¬ d1[y]! < x
              · have j2 : IntKind.i64.wrap ((y : Int) - 1) = ((y - 1 : Nat) : Int) := by rw [IntKind.wrap_i64]; omega
                rw [decide_eq_true hc]
                have HP1 := hR.out.2.dn hc.1 hc.2
                have hy0 : 0 < y := by omega
                have HQ : Hid (SU w0 wc B g n cap d1 ∧ PI d a b x k (y - 1) d1) := ⟨HS.out, HP1⟩
                clear hc HP1
                go_wp2
                go_roundw
                case rel => exact ⟨y - 1, rfl, by omega, HQ.out⟩
                case measure => simp [intOf]; omega
              · rw [decide_eq_false hc]
                have HV : Hid (SU w0 wc B g n cap d1 ∧ PI d a b x k y d1 ∧ (k ≤ y → ¬ d1[k]! < x) ∧ (k ≤ y → d1[y]! < x)) := ⟨HS.out, hR.out.2, fun h1 => HU.out.2.2 (by omega), fun h1 => Classical.byContradiction fun h2 => hc ⟨h1, h2⟩⟩
                clear HS HU hR hc
                by_cases hky : k ≤ y
                · have l2 : ¬ (y : Int) < (k : Int) := by omega
                  obtain ⟨q1, q2⟩ := HV.out.2.1.swap HD.out hky (HV.out.2.2.1 hky) (HV.out.2.2.2 hky)
                  have cy := HV.out.1.at (k := y) (by omega)
                  have ck := HV.out.1.at (k := k) (by omega)
                  have fy : wc.frozen? ⟨g, y, none⟩ = false := HV.out.1.free _
                  have fk : wc.frozen? ⟨g, k, none⟩ = false := HV.out.1.free _
                  have by_ : (y : Int) < (n : Int) := by omega
                  have bk : (k : Int) < (n : Int) := by omega
                  have n1 : ¬ k = y := by omega
                  have n2 : ¬ y = k := by omega
                  have j3 : IntKind.i64.wrap ((k : Int) + 1) = ((k + 1 : Nat) : Int) := by rw [IntKind.wrap_i64]; omega
                  have j4 : IntKind.i64.wrap ((y : Int) - 1) = ((y - 1 : Nat) : Int) := by rw [IntKind.wrap_i64]; omega
                  have HN : Hid (PI d a b x (k + 1) (y - 1) (Go.Sort.swp d1 k y)) := q1
                  clear q1
                  go_wp2
                  go_region
                  all_goals go_wp2
                  go_loopw [10, 11] (fun i j wr => ∃ I J : Nat, i = .int .i64 I ∧ j = .int .i64 J ∧ J < b ∧ ∃ d3, Hid (SU w0 wr B g n cap d3 ∧ PI d a b x I J d3)) (fun i j _ => (intOf j).toNat + 1 - (intOf i).toNat)
                  case atStart => exact ⟨k + 1, y - 1, by simp, by simp, by omega, _, (HV.out.1.swp k y).drew, HN.out⟩
                  case round =>
                    obtain ⟨I, J, rfl, rfl, hJb, d3, hL⟩ := hrel
                    clear HV HN cy ck fy fk
                    go_wp2
                    go_loopw [10] (fun i wr => ∃ k : Nat, i = .int .i64 k ∧ I ≤ k ∧ Hid (SU w0 wr B g n cap d3 ∧ PI d a b x k J d3)) (fun i _ => n + 5 - (intOf i).toNat)
                    case atStart => exact ⟨I, rfl, Nat.le_refl _, hL.out⟩
                    case round =>
                      obtain ⟨k, rfl, hk0, hR⟩ := hrel
                      have hk1 := hR.out.2.aI
                      have hk2 := hR.out.2.ij
                      have hk3 := hR.out.2.jb
                      go_upto_region 13 with fail
                      go_cut [112] from 99 to 114 (fun s wx => s = .bool (decide (k ≤ J ∧ d3[k]! < x)) ∧ SU w0 wx B g n cap d3)
                      case first =>
                        by_cases hle : k ≤ J
                        · have l1 : (k : Int) ≤ (J : Int) := by omega
                          have ck := hR.out.1.at (k := k) (by omega)
                          have ca := hR.out.1.at (k := a) (by omega)
                          rw [hR.out.2.piv] at ca
                          have bk : (k : Int) < (n : Int) := by omega
                          go_quiet (first | (go_at_call 116; refine Calls.quiet_of_same (lessU _ _ _)))
                          go_wp2
                          go_meet
                          refine ⟨?_, hR.out.1.drewN _⟩
                          congr 1
                          simp [hle]
                        · have l1 : ¬ (k : Int) ≤ (J : Int) := by omega
                          go_quiet (first | (go_at_call 116; refine Calls.quiet_of_same (lessU _ _ _)))
                          go_wp2
                          go_meet
                          refine ⟨?_, hR.out.1.drewN _⟩
                          congr 1
                          simp [hle]
                      case rest =>
                        obtain ⟨rfl, hs⟩ := hcut
                        have HS : Hid (SU w0 wc B g n cap d3) := hs
                        clear hs
                        by_cases hc : k ≤ J ∧ d3[k]! < x
                        · have j2 : IntKind.i64.wrap ((k : Int) + 1) = ((k + 1 : Nat) : Int) := by rw [IntKind.wrap_i64]; omega
                          rw [decide_eq_true hc]
                          have HP1 := hR.out.2.up hc.1 hc.2
                          have HQ : Hid (SU w0 wc B g n cap d3 ∧ PI d a b x (k + 1) J d3) := ⟨HS.out, HP1⟩
                          clear hc HP1
                          go_wp2
                          go_roundw
                          case rel => exact ⟨k + 1, by simp, by omega, HQ.out⟩
                          case measure => simp [intOf]; omega
                        · rw [decide_eq_false hc]
                          have HU : Hid (SU w0 wc B g n cap d3 ∧ PI d a b x k J d3 ∧ (k ≤ J → ¬ d3[k]! < x)) := ⟨HS.out, hR.out.2, fun h1 h2 => hc ⟨h1, h2⟩⟩
                          clear HS hR hc
                          go_wp2
                          go_wp2
                          go_loopw [11] (fun i wr => ∃ y : Nat, i = .int .i64 y ∧ y ≤ J ∧ Hid (SU w0 wr B g n cap d3 ∧ PI d a b x k y d3)) (fun i _ => (intOf i).toNat)
                          case atStart => exact ⟨J, rfl, Nat.le_refl _, HU.out.1, HU.out.2.1⟩
                          case round =>
                            obtain ⟨y, rfl, hyj, hR⟩ := hrel
                            have hy2 := hR.out.2.ij
                            have hy3 := hR.out.2.jb
                            go_upto_region 15 with fail
                            go_cut [129] from 115 to 131 (fun s wx => s = .bool (decide (k ≤ y ∧ ¬ d3[y]! < x)) ∧ SU w0 wx B g n cap d3)
                            case first =>
                              by_cases hle : k ≤ y
                              · have l1 : (k : Int) ≤ (y : Int) := by omega
                                have ck := hR.out.1.at (k := y) (by omega)
                                have ca := hR.out.1.at (k := a) (by omega)
                                rw [hR.out.2.piv] at ca
                                have bk : (y : Int) < (n : Int) := by omega
                                go_quiet (first | (go_at_call 116; refine Calls.quiet_of_same (lessU _ _ _)))
                                go_wp2
                                go_meet
                                refine ⟨?_, hR.out.1.drewN _⟩
                                congr 1
                                by_cases hq : d3[y]! < x
                                · simp [hle, hq]
                                · simp [hle, hq]
                              · have l1 : ¬ (k : Int) ≤ (y : Int) := by omega
                                go_quiet (first | (go_at_call 116; refine Calls.quiet_of_same (lessU _ _ _)))
                                go_wp2
                                go_meet
                                refine ⟨?_, hR.out.1.drewN _⟩
                                congr 1
                                simp [hle]
                            case rest =>
                              obtain ⟨rfl, hs⟩ := hcut
                              have HS : Hid (SU w0 wc B g n cap d3) := hs
                              clear hs
                              by_cases hc : k ≤ y ∧ ¬ d3[y]! < x
                              · have j2 : IntKind.i64.wrap ((y : Int) - 1) = ((y - 1 : Nat) : Int) := by rw [IntKind.wrap_i64]; omega
                                rw [decide_eq_true hc]
                                have HP1 := hR.out.2.dn hc.1 hc.2
                                have hy0 : 0 < y := by omega
                                have HQ : Hid (SU w0 wc B g n cap d3 ∧ PI d a b x k (y - 1) d3) := ⟨HS.out, HP1⟩
                                clear hc HP1
                                go_wp2
                                go_roundw
                                case rel => exact ⟨y - 1, rfl, by omega, HQ.out⟩
                                case measure => simp [intOf]; omega
                              · rw [decide_eq_false hc]
                                have HV : Hid (SU w0 wc B g n cap d3 ∧ PI d a b x k y d3 ∧ (k ≤ y → ¬ d3[k]! < x) ∧ (k ≤ y → d3[y]! < x)) := ⟨HS.out, hR.out.2, fun h1 => HU.out.2.2 (by omega), fun h1 => Classical.byContradiction fun h2 => hc ⟨h1, h2⟩⟩
                                clear HS HU hR hc
                                by_cases hky : k ≤ y
                                · have l2 : ¬ (y : Int) < (k : Int) := by omega
                                  obtain ⟨q1, q2⟩ := HV.out.2.1.swap HD.out hky (HV.out.2.2.1 hky) (HV.out.2.2.2 hky)
                                  have cy := HV.out.1.at (k := y) (by omega)
                                  have ck := HV.out.1.at (k := k) (by omega)
                                  have fy : wc.frozen? ⟨g, y, none⟩ = false := HV.out.1.free _
                                  have fk : wc.frozen? ⟨g, k, none⟩ = false := HV.out.1.free _
                                  have by_ : (y : Int) < (n : Int) := by omega
                                  have bk : (k : Int) < (n : Int) := by omega
                                  have n1 : ¬ k = y := by omega
                                  have n2 : ¬ y = k := by omega
                                  have j3 : IntKind.i64.wrap ((k : Int) + 1) = ((k + 1 : Nat) : Int) := by rw [IntKind.wrap_i64]; omega
                                  have j4 : IntKind.i64.wrap ((y : Int) - 1) = ((y - 1 : Nat) : Int) := by rw [IntKind.wrap_i64]; omega
                                  have HN : Hid (PI d a b x (k + 1) (y - 1) (Go.Sort.swp d3 k y)) := q1
                                  clear q1
                                  go_wp2
                                  go_region
                                  all_goals go_wp2
                                  go_roundw
                                  case rel => exact ⟨k + 1, y - 1, by simp, by simp, by omega, _, (HV.out.1.swp k y).drew, HN.out⟩
                                  case measure => simp [intOf]; omega

                                · have l2 : (y : Int) < (k : Int) := by omega
                                  have ay := HV.out.2.1.aI
                                  have ky := HV.out.2.1.ij
                                  have cy := HV.out.1.at (k := y) (by omega)
                                  have ca := HV.out.1.at (k := a) (by omega)
                                  have fy : wc.frozen? ⟨g, y, none⟩ = false := HV.out.1.free _
                                  have fa : wc.frozen? ⟨g, a, none⟩ = false := HV.out.1.free _
                                  have by_ : (y : Int) < (n : Int) := by omega
                                  by_cases hya : y = a
                                  · subst hya
                                    go_wp2
                                    go_region
                                    all_goals go_wp2
                                    all_goals go_ret2
                                    all_goals exact ⟨y, false, _, rfl, (HV.out.1.swp y y).drew, HV.out.2.1.fin HD.out (by omega)⟩
                                  · have hya2 : ¬ a = y := fun e => hya e.symm
                                    go_wp2
                                    go_region
                                    all_goals go_wp2
                                    all_goals go_ret2
                                    all_goals exact ⟨y, false, _, rfl, (HV.out.1.swp y a).drew, HV.out.2.1.fin HD.out (by omega)⟩

                · have l2 : (y : Int) < (k : Int) := by omega
                  have ay := HV.out.2.1.aI
                  have ky := HV.out.2.1.ij
                  have cy := HV.out.1.at (k := y) (by omega)
                  have ca := HV.out.1.at (k := a) (by omega)
                  have fy : wc.frozen? ⟨g, y, none⟩ = false := HV.out.1.free _
                  have fa : wc.frozen? ⟨g, a, none⟩ = false := HV.out.1.free _
                  have by_ : (y : Int) < (n : Int) := by omega
                  by_cases hya : y = a
                  · subst hya
                    go_wp2
                    go_region
                    all_goals go_wp2
                    all_goals go_ret2
                    all_goals exact ⟨y, true, _, rfl, (HV.out.1.swp y y).drew, HV.out.2.1.fin HD.out (by omega)⟩
                  · have hya2 : ¬ a = y := fun e => hya e.symm
                    go_wp2
                    go_region
                    all_goals go_wp2
                    all_goals go_ret2
                    all_goals exact ⟨y, true, _, rfl, (HV.out.1.swp y a).drew, HV.out.2.1.fin HD.out (by omega)⟩

end Go.Proofs.YtbdhmkfdofkloaaGreatDoor
/- SORTING NUMBERS (uint64), many of them: partialInsertionSort. -/
namespace Go.Proofs.YtbdhmkfdofkloaaGreatDoor
open Go.RowKit Go.Maps
open Sc

section
variable {d : Array Nat} {b i j : Nat}
theorem ssE (h : i < b) (hx : ¬ d[i]! < d[i - 1]!) : Go.Sort.scanSorted ltN d b i = Go.Sort.scanSorted ltN d b (i + 1) := by
  rw [Go.Sort.scanSorted, if_pos (by simp [ltN, h]; omega)]
theorem ssS (h : ¬ (i < b ∧ ¬ d[i]! < d[i - 1]!)) : Go.Sort.scanSorted ltN d b i = i := by
  rw [Go.Sort.scanSorted, if_neg]
  intro hc
  simp [ltN] at hc
  exact h ⟨hc.1, by omega⟩
theorem sdE {y : Nat} (hy : j = y + 1) (hx : d[j]! < d[y]!) : Go.Sort.shiftDown ltN j d = Go.Sort.shiftDown ltN y (Go.Sort.swp d j y) := by
  subst hy
  rw [Go.Sort.shiftDown, if_neg (by simp [ltN, hx])]
theorem sdS {y : Nat} (hy : j = y + 1) (hx : ¬ d[j]! < d[y]!) : Go.Sort.shiftDown ltN j d = d := by
  subst hy
  rw [Go.Sort.shiftDown, if_pos (by simp [ltN]; omega)]
theorem suE {y : Nat} (hy : j = y + 1) (h : j < b) (hx : d[j]! < d[y]!) : Go.Sort.shiftUp ltN b j d = Go.Sort.shiftUp ltN b (j + 1) (Go.Sort.swp d j y) := by
  subst hy
  rw [Go.Sort.shiftUp, if_pos h]
  simp only [Nat.add_sub_cancel]
  rw [if_neg (by simp [ltN, hx])]
theorem suS {y : Nat} (hy : j = y + 1) (hx : ¬ (j < b ∧ d[j]! < d[y]!)) : Go.Sort.shiftUp ltN b j d = d := by
  subst hy
  rw [Go.Sort.shiftUp]
  by_cases h : y + 1 < b
  · rw [if_pos h]
    simp only [Nat.add_sub_cancel]
    rw [if_pos (by simp [ltN]; have := fun h2 => hx ⟨h, h2⟩; omega)]
  · rw [if_neg h]
end
set_option maxRecDepth 100000 in
set_option maxHeartbeats 8000000 in
theorem pinsU (B g n cap a b : Nat) (d : Array Nat) (w0 w : World) (h : SU w0 w B g n cap d) (hab : a < b) (hb : b ≤ n) (hn : n ≤ 1000000000) :
    Calls Tryz.prog 177 #[.slice (some ⟨g, 0, none⟩) n cap, .int .i64 (a : Int), .int .i64 (b : Int)] w fun e w' => e = .returned (.bool (Go.Sort.partialInsertionSort ltN d a b).2) ∧ SU w0 w' B g n cap (Go.Sort.partialInsertionSort ltN d a b).1 := by
  have H0 : Hid (SU w0 w B g n cap d) := h
  have j0 : IntKind.i64.wrap ((a : Int) + 1) = ((a + 1 : Nat) : Int) := by rw [IntKind.wrap_i64]; omega
  have jl : IntKind.i64.wrap ((b : Int) - (a : Int)) = (b : Int) - (a : Int) := by rw [IntKind.wrap_i64]; omega
  clear h
  go_enter Tryz.func177, Tryz.ntmps177
  go_wp2
  go_loopw [7, 8] (fun i j wr => ∃ I q : Nat, i = .int .i64 I ∧ j = .int .i64 q ∧ q ≤ 5 ∧ a < I ∧ I ≤ b ∧ ∃ d', Hid (SU w0 wr B g n cap d' ∧ Go.Sort.partialIns ltN a b (5 - q) I d' = Go.Sort.partialInsertionSort ltN d a b)) (fun _ j _ => 5 - (intOf j).toNat)
  case atStart => exact ⟨a + 1, 0, by simp, rfl, by omega, by omega, by omega, d, H0.out, rfl⟩
  case round =>
    obtain ⟨I, q, rfl, rfl, hq5, haI, hIb, d1, hL⟩ := hrel
    by_cases hq : q < 5
    · have l0 : (q : Int) < 5 := by omega
      have jq : IntKind.i64.wrap ((q : Int) + 1) = ((q + 1 : Nat) : Int) := by rw [IntKind.wrap_i64]; omega
      obtain ⟨s, hs5⟩ : ∃ s, 5 - q = s + 1 := ⟨4 - q, by omega⟩
      have hs6 : 5 - (q + 1) = s := by omega
      have HL : Hid (SU w0 wr B g n cap d1 ∧ Go.Sort.partialIns ltN a b (s + 1) I d1 = Go.Sort.partialInsertionSort ltN d a b) := by rw [← hs5]; exact hL.out
      have HQ : Hid (5 - (q + 1) = s) := hs6
      clear hL hs5 hs6
      go_wp2
      go_loopw [7] (fun i wr => ∃ k : Nat, i = .int .i64 k ∧ a < k ∧ k ≤ b ∧ Hid (SU w0 wr B g n cap d1 ∧ Go.Sort.scanSorted ltN d1 b k = Go.Sort.scanSorted ltN d1 b I)) (fun i _ => n + 5 - (intOf i).toNat)
      case atStart => exact ⟨I, rfl, haI, hIb, HL.out.1, rfl⟩
      case round =>
        obtain ⟨k, rfl, hak, hkb, hR⟩ := hrel
        obtain ⟨y, hy⟩ : ∃ y, k = y + 1 := ⟨k - 1, by omega⟩
        have jy : IntKind.i64.wrap ((k : Int) - 1) = (y : Int) := by rw [IntKind.wrap_i64]; omega
        have HY : Hid (k = y + 1 ∧ k - 1 = y) := ⟨hy, by omega⟩
        have hyk : y < k := by omega
        have hay : a ≤ y := by omega
        clear hy
        go_upto_region 5 with fail
        go_cut [32] from 17 to 34 (fun s wx => s = .bool (decide (k < b ∧ ¬ d1[k]! < d1[y]!)) ∧ SU w0 wx B g n cap d1)
        case first =>
          by_cases hle : k < b
          · have l1 : (k : Int) < (b : Int) := by omega
            have ck := hR.out.1.at (k := k) (by omega)
            have cy := hR.out.1.at (k := y) (by omega)
            have bk : (k : Int) < (n : Int) := by omega
            have by_ : (y : Int) < (n : Int) := by omega
            go_quiet (first | (go_at_call 116; refine Calls.quiet_of_same (lessU _ _ _)))
            go_wp2
            go_meet
            refine ⟨?_, hR.out.1.drewN _⟩
            congr 1
            by_cases hx : d1[k]! < d1[y]!
            · simp [hle, hx]
            · simp [hle, hx]
          · have l1 : ¬ (k : Int) < (b : Int) := by omega
            go_quiet (first | (go_at_call 116; refine Calls.quiet_of_same (lessU _ _ _)))
            go_wp2
            go_meet
            refine ⟨?_, hR.out.1.drewN _⟩
            congr 1
            simp [hle]
        case rest =>
          obtain ⟨rfl, hs⟩ := hcut
          have HS : Hid (SU w0 wc B g n cap d1) := hs
          clear hs
          by_cases hc : k < b ∧ ¬ d1[k]! < d1[y]!
          · have j2 : IntKind.i64.wrap ((k : Int) + 1) = ((k + 1 : Nat) : Int) := by rw [IntKind.wrap_i64]; omega
            rw [decide_eq_true hc]
            have HP : Hid (SU w0 wc B g n cap d1 ∧ Go.Sort.scanSorted ltN d1 b (k + 1) = Go.Sort.scanSorted ltN d1 b I) := ⟨HS.out, by rw [← hR.out.2, ssE hc.1 (by rw [HY.out.2]; exact hc.2)]⟩
            have hkb2 : k + 1 ≤ b := hc.1
            clear hc
            go_wp2
            go_roundw
            case rel => exact ⟨k + 1, by simp, by omega, hkb2, HP.out⟩
            case measure => simp [intOf]; omega
          · rw [decide_eq_false hc]
            have HK : Hid (SU w0 wc B g n cap d1 ∧ Go.Sort.scanSorted ltN d1 b I = k) := ⟨HS.out, by rw [← hR.out.2, ssS (by rw [HY.out.2]; exact hc)]⟩
            have hpi := HL.out.2
            rw [Go.Sort.partialIns_succ, HK.out.2] at hpi
            have HPI := hpi
            clear hc hR HS HL
            by_cases hkb3 : k = b
            · have l2 : (k : Int) = (b : Int) := by omega
              rw [if_pos hkb3] at hpi
              have HR : Hid ((d1, true) = Go.Sort.partialInsertionSort ltN d a b) := hpi
              clear hpi HPI
              go_wp2
              go_ret
              exact ⟨by rw [← HR.out]; rfl, by rw [← HR.out]; exact HK.out.1⟩
            · have l2 : ¬ (k : Int) = (b : Int) := by omega
              rw [if_neg hkb3] at hpi
              by_cases h50 : b - a < 50
              · have l3 : (b : Int) - (a : Int) < 50 := by omega
                rw [if_pos h50] at hpi
                have HR : Hid ((d1, false) = Go.Sort.partialInsertionSort ltN d a b) := hpi
                clear hpi HPI
                go_wp2
                go_ret
                exact ⟨by rw [← HR.out]; rfl, by rw [← HR.out]; exact HK.out.1⟩
              · have l3 : ¬ (b : Int) - (a : Int) < 50 := by omega
                rw [if_neg h50, HY.out.2] at hpi
                have HR : Hid (Go.Sort.partialIns ltN a b s k (Go.Sort.fixUp ltN b k (Go.Sort.fixDown ltN a k (Go.Sort.swp d1 k y))) = Go.Sort.partialInsertionSort ltN d a b) := hpi
                clear hpi HPI
                have ck := HK.out.1.at (k := k) (by omega)
                have cy := HK.out.1.at (k := y) (by omega)
                have fk : wc.frozen? ⟨g, k, none⟩ = false := HK.out.1.free _
                have fy : wc.frozen? ⟨g, y, none⟩ = false := HK.out.1.free _
                have bk : (k : Int) < (n : Int) := by omega
                have by_ : (y : Int) < (n : Int) := by omega
                have n1 : ¬ k = y := by omega
                have n2 : ¬ y = k := by omega
                have jka : IntKind.i64.wrap ((k : Int) - (a : Int)) = (k : Int) - (a : Int) := by rw [IntKind.wrap_i64]; omega
                have jbk : IntKind.i64.wrap ((b : Int) - (k : Int)) = (b : Int) - (k : Int) := by rw [IntKind.wrap_i64]; omega
                go_wp2
                go_region
                obtain ⟨d2, hd2⟩ : ∃ d2, d2 = Go.Sort.swp d1 k y := ⟨_, rfl⟩
                rw [← hd2] at HR
                have hs2 : SU w0 ((wc.setCell ⟨g, k, none⟩ (.int .u64 (d1[y]! : Nat))).setCell ⟨g, y, none⟩ (.int .u64 (d1[k]! : Nat))).drew B g n cap d2 := by rw [hd2]; exact (HK.out.1.swp k y).drew
                obtain ⟨W2, hW2⟩ : ∃ W2, W2 = ((wc.setCell ⟨g, k, none⟩ (.int .u64 (d1[y]! : Nat))).setCell ⟨g, y, none⟩ (.int .u64 (d1[k]! : Nat))).drew := ⟨_, rfl⟩
                rw [← hW2] at hs2 ⊢
                have HS2 : Hid (SU w0 W2 B g n cap d2) := hs2
                clear hs2 hW2 hd2 ck cy fk fy HK
                go_upto_if 61 with fail
                go_cut [9] from 13 to 132 (fun _ wx => SU w0 wx B g n cap (Go.Sort.fixDown ltN a k d2))
                case first =>
                  by_cases hB : 2 ≤ k - a
                  · have l4 : (2 : Int) ≤ (k : Int) - (a : Int) := by omega
                    have HF : Hid (Go.Sort.shiftDown ltN y d2 = Go.Sort.fixDown ltN a k d2) := by show _ = _; unfold Go.Sort.fixDown; rw [if_pos hB, HY.out.2]
                    go_wp2
                    go_loopw [9] (fun j wr => ∃ t : Nat, j = .int .i64 t ∧ t ≤ y ∧ ∃ d3, Hid (SU w0 wr B g n cap d3 ∧ Go.Sort.shiftDown ltN t d3 = Go.Sort.fixDown ltN a k d2)) (fun j _ => (intOf j).toNat)
                    case atStart => exact ⟨y, rfl, Nat.le_refl _, d2, HS2.out, HF.out⟩
                    case round =>
                      obtain ⟨t, rfl, hty, d3, hT⟩ := hrel
                      by_cases ht0 : t = 0
                      · subst ht0
                        go_wp2
                        go_meet
                        have := hT.out.1
                        rw [← hT.out.2]
                        exact this
                      · obtain ⟨z, hz⟩ : ∃ z, t = z + 1 := ⟨t - 1, by omega⟩
                        have l5 : (1 : Int) ≤ (t : Int) := by omega
                        have jz : IntKind.i64.wrap ((t : Int) - 1) = (z : Int) := by rw [IntKind.wrap_i64]; omega
                        have HZ : Hid (t = z + 1) := hz
                        have ct := hT.out.1.at (k := t) (by omega)
                        have cz := hT.out.1.at (k := z) (by omega)
                        have bt : (t : Int) < (n : Int) := by omega
                        have bz : (z : Int) < (n : Int) := by omega
                        have m1 : ¬ t = z := by omega
                        have m2 : ¬ z = t := by omega
                        have hzt : z < t := by omega
                        clear hz
                        by_cases hx : d3[t]! < d3[z]!
                        · have hxi : decide (((d3[t]! : Nat) : Int) < ((d3[z]! : Nat) : Int)) = true := by rw [decide_eq_true_iff]; omega
                          have HE : Hid (Go.Sort.shiftDown ltN z (Go.Sort.swp d3 t z) = Go.Sort.fixDown ltN a k d2) := by rw [← sdE HZ.out hx]; exact hT.out.2
                          have ft : wr.frozen? ⟨g, t, none⟩ = false := hT.out.1.free _
                          have fz : wr.frozen? ⟨g, z, none⟩ = false := hT.out.1.free _
                          go_wp2
                          go_quiet (first | (go_at_call 116; refine Calls.quiet_of_same (lessU _ _ _)))
                          go_wp2
                          go_region
                          all_goals go_wp2
                          all_goals go_roundw
                          case rel => exact ⟨z, rfl, by omega, _, ((hT.out.1.drewN nq).swp t z).drew, HE.out⟩
                          case measure => simp [intOf]; omega
                        · have hxi : decide (((d3[t]! : Nat) : Int) < ((d3[z]! : Nat) : Int)) = false := by rw [decide_eq_false_iff_not]; omega
                          have HE : Hid (d3 = Go.Sort.fixDown ltN a k d2) := by rw [← hT.out.2]; exact (sdS HZ.out hx).symm
                          go_wp2
                          go_quiet (first | (go_at_call 116; refine Calls.quiet_of_same (lessU _ _ _)))
                          go_wp2
                          go_meet
                          rw [← HE.out]
                          exact hT.out.1.drewN _
                  · have l4 : ¬ (2 : Int) ≤ (k : Int) - (a : Int) := by omega
                    have HF : Hid (Go.Sort.fixDown ltN a k d2 = d2) := by show _ = _; unfold Go.Sort.fixDown; rw [if_neg (by omega)]
                    go_wp2
                    go_meet
                    rw [HF.out]
                    exact HS2.out
                case rest =>
                  obtain ⟨d3, hd3⟩ : ∃ d3, d3 = Go.Sort.fixDown ltN a k d2 := ⟨_, rfl⟩
                  rw [← hd3] at HR hcut
                  have HS3 : Hid (SU w0 wc B g n cap d3) := hcut
                  clear hcut hd3 HS2
                  by_cases hB : 2 ≤ b - k
                  · have l4 : (2 : Int) ≤ (b : Int) - (k : Int) := by omega
                    have HF : Hid (Go.Sort.shiftUp ltN b (k + 1) d3 = Go.Sort.fixUp ltN b k d3) := by show _ = _; unfold Go.Sort.fixUp; rw [if_pos hB]
                    have jk1 : IntKind.i64.wrap ((k : Int) + 1) = ((k + 1 : Nat) : Int) := by rw [IntKind.wrap_i64]; omega
                    go_wp2
                    go_loopw [10] (fun j wr => ∃ t : Nat, j = .int .i64 t ∧ k < t ∧ t ≤ b ∧ ∃ d4, Hid (SU w0 wr B g n cap d4 ∧ Go.Sort.shiftUp ltN b t d4 = Go.Sort.fixUp ltN b k d3)) (fun j _ => n + 5 - (intOf j).toNat)
                    case atStart => exact ⟨k + 1, by simp, by omega, by omega, d3, HS3.out, HF.out⟩
                    case round =>
                      obtain ⟨t, rfl, hkt, htb, d4, hT⟩ := hrel
                      obtain ⟨z, hz⟩ : ∃ z, t = z + 1 := ⟨t - 1, by omega⟩
                      have jz : IntKind.i64.wrap ((t : Int) - 1) = (z : Int) := by rw [IntKind.wrap_i64]; omega
                      have HZ : Hid (t = z + 1) := hz
                      have hzt : z < t := by omega
                      have m1 : ¬ t = z := by omega
                      have m2 : ¬ z = t := by omega
                      clear hz
                      by_cases htb2 : t < b
                      · have l5 : (t : Int) < (b : Int) := by omega
                        have ct := hT.out.1.at (k := t) (by omega)
                        have cz := hT.out.1.at (k := z) (by omega)
                        have bt : (t : Int) < (n : Int) := by omega
                        have bz : (z : Int) < (n : Int) := by omega
                        by_cases hx : d4[t]! < d4[z]!
                        · have hxi : decide (((d4[t]! : Nat) : Int) < ((d4[z]! : Nat) : Int)) = true := by rw [decide_eq_true_iff]; omega
                          have HE : Hid (Go.Sort.shiftUp ltN b (t + 1) (Go.Sort.swp d4 t z) = Go.Sort.fixUp ltN b k d3) := by rw [← suE HZ.out htb2 hx]; exact hT.out.2
                          have ft : wr.frozen? ⟨g, t, none⟩ = false := hT.out.1.free _
                          have fz : wr.frozen? ⟨g, z, none⟩ = false := hT.out.1.free _
                          have jt : IntKind.i64.wrap ((t : Int) + 1) = ((t + 1 : Nat) : Int) := by rw [IntKind.wrap_i64]; omega
                          go_wp2
                          go_quiet (first | (go_at_call 116; refine Calls.quiet_of_same (lessU _ _ _)))
                          go_wp2
                          go_region
                          all_goals go_wp2
                          all_goals go_roundw
                          case rel => exact ⟨t + 1, by simp, by omega, by omega, _, ((hT.out.1.drewN nq).swp t z).drew, HE.out⟩
                          case measure => simp [intOf]; omega
                        · have hxi : decide (((d4[t]! : Nat) : Int) < ((d4[z]! : Nat) : Int)) = false := by rw [decide_eq_false_iff_not]; omega
                          have HE : Hid (d4 = Go.Sort.fixUp ltN b k d3) := by rw [← hT.out.2]; exact (suS HZ.out (fun h => hx h.2)).symm
                          go_wp2
                          go_quiet (first | (go_at_call 116; refine Calls.quiet_of_same (lessU _ _ _)))
                          go_wp2
                          go_roundw
                          case rel => exact ⟨k, q + 1, rfl, by simp, by omega, by omega, by omega, Go.Sort.fixUp ltN b k d3, by rw [← HE.out]; exact hT.out.1.drewN _, by rw [HQ.out]; exact HR.out⟩
                          case measure => simp [intOf]; omega
                      · have l5 : ¬ (t : Int) < (b : Int) := by omega
                        have HE : Hid (d4 = Go.Sort.fixUp ltN b k d3) := by rw [← hT.out.2]; exact (suS HZ.out (fun h => htb2 h.1)).symm
                        go_wp2
                        go_roundw
                        case rel => exact ⟨k, q + 1, rfl, by simp, by omega, by omega, by omega, Go.Sort.fixUp ltN b k d3, by rw [← HE.out]; exact hT.out.1, by rw [HQ.out]; exact HR.out⟩
                        case measure => simp [intOf]; omega
                  · have l4 : ¬ (2 : Int) ≤ (b : Int) - (k : Int) := by omega
                    have HF : Hid (Go.Sort.fixUp ltN b k d3 = d3) := by show _ = _; unfold Go.Sort.fixUp; rw [if_neg (by omega)]
                    go_wp2
                    go_roundw
                    case rel => exact ⟨k, q + 1, rfl, by simp, by omega, by omega, by omega, Go.Sort.fixUp ltN b k d3, by rw [HF.out]; exact HS3.out, by rw [HQ.out]; exact HR.out⟩
                    case measure => simp [intOf]; omega
    · obtain rfl : q = 5 := by omega
      have HR : Hid ((d1, false) = Go.Sort.partialInsertionSort ltN d a b) := hL.out.2
      go_wp2
      go_ret
      exact ⟨by rw [← HR.out]; rfl, by rw [← HR.out]; exact hL.out.1⟩
end Go.Proofs.YtbdhmkfdofkloaaGreatDoor
