import Derived.Test.YtbdhmkfdofkloaaGreatDoorC17
import Derived.Deep.CutRange
import Derived.Test.YtbdhmkfdofkloaaGreatDoorC18
import Derived.Test.YtbdhmkfdofkloaaGreatDoorC19
/- SORTING NUMBERS (uint64), many of them: partialInsertionSort. -/
namespace Go.Proofs.YtbdhmkfdofkloaaGreatDoor
open Go.RowKit Go.Maps
open Sc

section
variable {d : Array Nat} {b i j : Nat}
theorem ssE (h : i < b) (hx : ¬ d[i]! < d[i - 1]!) : Go.Sort.scanSorted ltN d b i = Go.Sort.scanSorted ltN d b (i + 1) := by
  rw [Go.Sort.scanSorted, if_pos (by simp [ltN, h]; omega)]
theorem ssS (h : ¬ (i < b ∧ ¬ d[i]! < d[i - 1]!)) : Go.Sort.scanSorted ltN d b i = i := by
  rw [Go.Sort.scanSorted, if_neg]
  intro hc
  simp [ltN] at hc
  exact h ⟨hc.1, by omega⟩
theorem sdE {y : Nat} (hy : j = y + 1) (hx : d[j]! < d[y]!) : Go.Sort.shiftDown ltN j d = Go.Sort.shiftDown ltN y (Go.Sort.swp d j y) := by
  subst hy
  rw [Go.Sort.shiftDown, if_neg (by simp [ltN, hx])]
theorem sdS {y : Nat} (hy : j = y + 1) (hx : ¬ d[j]! < d[y]!) : Go.Sort.shiftDown ltN j d = d := by
  subst hy
  rw [Go.Sort.shiftDown, if_pos (by simp [ltN]; omega)]
theorem suE {y : Nat} (hy : j = y + 1) (h : j < b) (hx : d[j]! < d[y]!) : Go.Sort.shiftUp ltN b j d = Go.Sort.shiftUp ltN b (j + 1) (Go.Sort.swp d j y) := by
  subst hy
  rw [Go.Sort.shiftUp, if_pos h]
  simp only [Nat.add_sub_cancel]
  rw [if_neg (by simp [ltN, hx])]
theorem suS {y : Nat} (hy : j = y + 1) (hx : ¬ (j < b ∧ d[j]! < d[y]!)) : Go.Sort.shiftUp ltN b j d = d := by
  subst hy
  rw [Go.Sort.shiftUp]
  by_cases h : y + 1 < b
  · rw [if_pos h]
    simp only [Nat.add_sub_cancel]
    rw [if_pos (by simp [ltN]; have := fun h2 => hx ⟨h, h2⟩; omega)]
  · rw [if_neg h]
end
set_option maxRecDepth 100000 in
set_option maxHeartbeats 8000000 in
theorem pinsU (B g n cap a b : Nat) (d : Array Nat) (w0 w : World) (h : SU w0 w B g n cap d) (hab : a < b) (hb : b ≤ n) (hn : n ≤ 67108864) :
    Calls Tryz.prog 177 #[.slice (some ⟨g, 0, none⟩) n cap, .int .i64 (a : Int), .int .i64 (b : Int)] w fun e w' => e = .returned (.bool (Go.Sort.partialInsertionSort ltN d a b).2) ∧ SU w0 w' B g n cap (Go.Sort.partialInsertionSort ltN d a b).1 := by
  have H0 : Hid (SU w0 w B g n cap d) := h
  have j0 : IntKind.i64.wrap ((a : Int) + 1) = ((a + 1 : Nat) : Int) := by rw [IntKind.wrap_i64]; omega
  have jl : IntKind.i64.wrap ((b : Int) - (a : Int)) = (b : Int) - (a : Int) := by rw [IntKind.wrap_i64]; omega
  clear h
  go_enter Tryz.func177, Tryz.ntmps177
  go_wp2
  go_loopw [7, 8] (fun i j wr => ∃ I q : Nat, i = .int .i64 I ∧ j = .int .i64 q ∧ q ≤ 5 ∧ a < I ∧ I ≤ b ∧ ∃ d', Hid (SU w0 wr B g n cap d' ∧ Go.Sort.partialIns ltN a b (5 - q) I d' = Go.Sort.partialInsertionSort ltN d a b)) (fun _ j _ => 5 - (intOf j).toNat)
  case atStart => exact ⟨a + 1, 0, by simp, rfl, by omega, by omega, by omega, d, H0.out, rfl⟩
  case round =>
    obtain ⟨I, q, rfl, rfl, hq5, haI, hIb, d1, hL⟩ := hrel
    by_cases hq : q < 5
    · have l0 : (q : Int) < 5 := by omega
      have jq : IntKind.i64.wrap ((q : Int) + 1) = ((q + 1 : Nat) : Int) := by rw [IntKind.wrap_i64]; omega
      obtain ⟨s, hs5⟩ : ∃ s, 5 - q = s + 1 := ⟨4 - q, by omega⟩
      have hs6 : 5 - (q + 1) = s := by omega
      have HL : Hid (SU w0 wr B g n cap d1 ∧ Go.Sort.partialIns ltN a b (s + 1) I d1 = Go.Sort.partialInsertionSort ltN d a b) := by rw [← hs5]; exact hL.out
      have HQ : Hid (5 - (q + 1) = s) := hs6
      clear hL hs5 hs6
      go_wp2
      go_loopw [7] (fun i wr => ∃ k : Nat, i = .int .i64 k ∧ a < k ∧ k ≤ b ∧ Hid (SU w0 wr B g n cap d1 ∧ Go.Sort.scanSorted ltN d1 b k = Go.Sort.scanSorted ltN d1 b I)) (fun i _ => n + 5 - (intOf i).toNat)
      case atStart => exact ⟨I, rfl, haI, hIb, HL.out.1, rfl⟩
      case round =>
        obtain ⟨k, rfl, hak, hkb, hR⟩ := hrel
        obtain ⟨y, hy⟩ : ∃ y, k = y + 1 := ⟨k - 1, by omega⟩
        have jy : IntKind.i64.wrap ((k : Int) - 1) = (y : Int) := by rw [IntKind.wrap_i64]; omega
        have HY : Hid (k = y + 1 ∧ k - 1 = y) := ⟨hy, by omega⟩
        have hyk : y < k := by omega
        have hay : a ≤ y := by omega
        clear hy
        go_upto_region 5 with fail
        go_cut [32] from 17 to 34 (fun s wx => s = .bool (decide (k < b ∧ ¬ d1[k]! < d1[y]!)) ∧ SU w0 wx B g n cap d1)
        case first =>
          by_cases hle : k < b
          · have l1 : (k : Int) < (b : Int) := by omega
            have ck := hR.out.1.at (k := k) (by omega)
            have cy := hR.out.1.at (k := y) (by omega)
            have bk : (k : Int) < (n : Int) := by omega
            have by_ : (y : Int) < (n : Int) := by omega
            go_quiet (first | (go_at_call 116; refine Calls.quiet_of_same (lessU _ _ _)))
            go_wp2
            go_meet
            refine ⟨?_, hR.out.1.drewN _⟩
            congr 1
            by_cases hx : d1[k]! < d1[y]!
            · simp [hle, hx]
            · simp [hle, hx]
          · have l1 : ¬ (k : Int) < (b : Int) := by omega
            go_quiet (first | (go_at_call 116; refine Calls.quiet_of_same (lessU _ _ _)))
            go_wp2
            go_meet
            refine ⟨?_, hR.out.1.drewN _⟩
            congr 1
            simp [hle]
        case rest =>
          obtain ⟨rfl, hs⟩ := hcut
          have HS : Hid (SU w0 wc B g n cap d1) := hs
          clear hs
          by_cases hc : k < b ∧ ¬ d1[k]! < d1[y]!
          · have j2 : IntKind.i64.wrap ((k : Int) + 1) = ((k + 1 : Nat) : Int) := by rw [IntKind.wrap_i64]; omega
            rw [decide_eq_true hc]
            have HP : Hid (SU w0 wc B g n cap d1 ∧ Go.Sort.scanSorted ltN d1 b (k + 1) = Go.Sort.scanSorted ltN d1 b I) := ⟨HS.out, by rw [← hR.out.2, ssE hc.1 (by rw [HY.out.2]; exact hc.2)]⟩
            have hkb2 : k + 1 ≤ b := hc.1
            clear hc
            go_wp2
            go_roundw
            case rel => exact ⟨k + 1, by simp, by omega, hkb2, HP.out⟩
            case measure => simp [intOf]; omega
          · rw [decide_eq_false hc]
            have HK : Hid (SU w0 wc B g n cap d1 ∧ Go.Sort.scanSorted ltN d1 b I = k) := ⟨HS.out, by rw [← hR.out.2, ssS (by rw [HY.out.2]; exact hc)]⟩
            have hpi := HL.out.2
            rw [Go.Sort.partialIns_succ, HK.out.2] at hpi
            have HPI := hpi
            clear hc hR HS HL
            by_cases hkb3 : k = b
            · have l2 : (k : Int) = (b : Int) := by omega
              rw [if_pos hkb3] at hpi
              have HR : Hid ((d1, true) = Go.Sort.partialInsertionSort ltN d a b) := hpi
              clear hpi HPI
              go_wp2
              go_ret
              exact ⟨by rw [← HR.out]; rfl, by rw [← HR.out]; exact HK.out.1⟩
            · have l2 : ¬ (k : Int) = (b : Int) := by omega
              rw [if_neg hkb3] at hpi
              by_cases h50 : b - a < 50
              · have l3 : (b : Int) - (a : Int) < 50 := by omega
                rw [if_pos h50] at hpi
                have HR : Hid ((d1, false) = Go.Sort.partialInsertionSort ltN d a b) := hpi
                clear hpi HPI
                go_wp2
                go_ret
                exact ⟨by rw [← HR.out]; rfl, by rw [← HR.out]; exact HK.out.1⟩
              · have l3 : ¬ (b : Int) - (a : Int) < 50 := by omega
                rw [if_neg h50, HY.out.2] at hpi
                have HR : Hid (Go.Sort.partialIns ltN a b s k (Go.Sort.fixUp ltN b k (Go.Sort.fixDown ltN a k (Go.Sort.swp d1 k y))) = Go.Sort.partialInsertionSort ltN d a b) := hpi
                clear hpi HPI
                have ck := HK.out.1.at (k := k) (by omega)
                have cy := HK.out.1.at (k := y) (by omega)
                have fk : wc.frozen? ⟨g, k, none⟩ = false := HK.out.1.free _
                have fy : wc.frozen? ⟨g, y, none⟩ = false := HK.out.1.free _
                have bk : (k : Int) < (n : Int) := by omega
                have by_ : (y : Int) < (n : Int) := by omega
                have n1 : ¬ k = y := by omega
                have n2 : ¬ y = k := by omega
                have jka : IntKind.i64.wrap ((k : Int) - (a : Int)) = (k : Int) - (a : Int) := by rw [IntKind.wrap_i64]; omega
                have jbk : IntKind.i64.wrap ((b : Int) - (k : Int)) = (b : Int) - (k : Int) := by rw [IntKind.wrap_i64]; omega
                go_wp2
                go_region
                obtain ⟨d2, hd2⟩ : ∃ d2, d2 = Go.Sort.swp d1 k y := ⟨_, rfl⟩
                rw [← hd2] at HR
                have hs2 : SU w0 ((wc.setCell ⟨g, k, none⟩ (.int .u64 (d1[y]! : Nat))).setCell ⟨g, y, none⟩ (.int .u64 (d1[k]! : Nat))).drew B g n cap d2 := by rw [hd2]; exact (HK.out.1.swp k y).drew
                obtain ⟨W2, hW2⟩ : ∃ W2, W2 = ((wc.setCell ⟨g, k, none⟩ (.int .u64 (d1[y]! : Nat))).setCell ⟨g, y, none⟩ (.int .u64 (d1[k]! : Nat))).drew := ⟨_, rfl⟩
                rw [← hW2] at hs2 ⊢
                have HS2 : Hid (SU w0 W2 B g n cap d2) := hs2
                clear hs2 hW2 hd2 ck cy fk fy HK
                go_upto_if 61 with fail
                go_cut [9] from 13 to 132 (fun _ wx => SU w0 wx B g n cap (Go.Sort.fixDown ltN a k d2))
                case first =>
                  by_cases hB : 2 ≤ k - a
                  · have l4 : (2 : Int) ≤ (k : Int) - (a : Int) := by omega
                    have HF : Hid (Go.Sort.shiftDown ltN y d2 = Go.Sort.fixDown ltN a k d2) := by show _ = _; unfold Go.Sort.fixDown; rw [if_pos hB, HY.out.2]
                    go_wp2
                    go_loopw [9] (fun j wr => ∃ t : Nat, j = .int .i64 t ∧ t ≤ y ∧ ∃ d3, Hid (SU w0 wr B g n cap d3 ∧ Go.Sort.shiftDown ltN t d3 = Go.Sort.fixDown ltN a k d2)) (fun j _ => (intOf j).toNat)
                    case atStart => exact ⟨y, rfl, Nat.le_refl _, d2, HS2.out, HF.out⟩
                    case round =>
                      obtain ⟨t, rfl, hty, d3, hT⟩ := hrel
                      by_cases ht0 : t = 0
                      · subst ht0
                        go_wp2
                        go_meet
                        have := hT.out.1
                        rw [← hT.out.2]
                        exact this
                      · obtain ⟨z, hz⟩ : ∃ z, t = z + 1 := ⟨t - 1, by omega⟩
                        have l5 : (1 : Int) ≤ (t : Int) := by omega
                        have jz : IntKind.i64.wrap ((t : Int) - 1) = (z : Int) := by rw [IntKind.wrap_i64]; omega
                        have HZ : Hid (t = z + 1) := hz
                        have ct := hT.out.1.at (k := t) (by omega)
                        have cz := hT.out.1.at (k := z) (by omega)
                        have bt : (t : Int) < (n : Int) := by omega
                        have bz : (z : Int) < (n : Int) := by omega
                        have m1 : ¬ t = z := by omega
                        have m2 : ¬ z = t := by omega
                        have hzt : z < t := by omega
                        clear hz
                        by_cases hx : d3[t]! < d3[z]!
                        · have hxi : decide (((d3[t]! : Nat) : Int) < ((d3[z]! : Nat) : Int)) = true := by rw [decide_eq_true_iff]; omega
                          have HE : Hid (Go.Sort.shiftDown ltN z (Go.Sort.swp d3 t z) = Go.Sort.fixDown ltN a k d2) := by rw [← sdE HZ.out hx]; exact hT.out.2
                          have ft : wr.frozen? ⟨g, t, none⟩ = false := hT.out.1.free _
                          have fz : wr.frozen? ⟨g, z, none⟩ = false := hT.out.1.free _
                          go_wp2
                          go_quiet (first | (go_at_call 116; refine Calls.quiet_of_same (lessU _ _ _)))
                          go_wp2
                          go_region
                          all_goals go_wp2
                          all_goals go_roundw
                          case rel => exact ⟨z, rfl, by omega, _, ((hT.out.1.drewN nq).swp t z).drew, HE.out⟩
                          case measure => simp [intOf]; omega
                        · have hxi : decide (((d3[t]! : Nat) : Int) < ((d3[z]! : Nat) : Int)) = false := by rw [decide_eq_false_iff_not]; omega
                          have HE : Hid (d3 = Go.Sort.fixDown ltN a k d2) := by rw [← hT.out.2]; exact (sdS HZ.out hx).symm
                          go_wp2
                          go_quiet (first | (go_at_call 116; refine Calls.quiet_of_same (lessU _ _ _)))
                          go_wp2
                          go_meet
                          rw [← HE.out]
                          exact hT.out.1.drewN _
                  · have l4 : ¬ (2 : Int) ≤ (k : Int) - (a : Int) := by omega
                    have HF : Hid (Go.Sort.fixDown ltN a k d2 = d2) := by show _ = _; unfold Go.Sort.fixDown; rw [if_neg (by omega)]
                    go_wp2
                    go_meet
                    rw [HF.out]
                    exact HS2.out
                case rest =>
                  obtain ⟨d3, hd3⟩ : ∃ d3, d3 = Go.Sort.fixDown ltN a k d2 := ⟨_, rfl⟩
                  rw [← hd3] at HR hcut
                  have HS3 : Hid (SU w0 wc B g n cap d3) := hcut
                  clear hcut hd3 HS2
                  by_cases hB : 2 ≤ b - k
                  · have l4 : (2 : Int) ≤ (b : Int) - (k : Int) := by omega
                    have HF : Hid (Go.Sort.shiftUp ltN b (k + 1) d3 = Go.Sort.fixUp ltN b k d3) := by show _ = _; unfold Go.Sort.fixUp; rw [if_pos hB]
                    have jk1 : IntKind.i64.wrap ((k : Int) + 1) = ((k + 1 : Nat) : Int) := by rw [IntKind.wrap_i64]; omega
                    go_wp2
                    go_loopw [10] (fun j wr => ∃ t : Nat, j = .int .i64 t ∧ k < t ∧ t ≤ b ∧ ∃ d4, Hid (SU w0 wr B g n cap d4 ∧ Go.Sort.shiftUp ltN b t d4 = Go.Sort.fixUp ltN b k d3)) (fun j _ => n + 5 - (intOf j).toNat)
                    case atStart => exact ⟨k + 1, by simp, by omega, by omega, d3, HS3.out, HF.out⟩
                    case round =>
                      obtain ⟨t, rfl, hkt, htb, d4, hT⟩ := hrel
                      obtain ⟨z, hz⟩ : ∃ z, t = z + 1 := ⟨t - 1, by omega⟩
                      have jz : IntKind.i64.wrap ((t : Int) - 1) = (z : Int) := by rw [IntKind.wrap_i64]; omega
                      have HZ : Hid (t = z + 1) := hz
                      have hzt : z < t := by omega
                      have m1 : ¬ t = z := by omega
                      have m2 : ¬ z = t := by omega
                      clear hz
                      by_cases htb2 : t < b
                      · have l5 : (t : Int) < (b : Int) := by omega
                        have ct := hT.out.1.at (k := t) (by omega)
                        have cz := hT.out.1.at (k := z) (by omega)
                        have bt : (t : Int) < (n : Int) := by omega
                        have bz : (z : Int) < (n : Int) := by omega
                        by_cases hx : d4[t]! < d4[z]!
                        · have hxi : decide (((d4[t]! : Nat) : Int) < ((d4[z]! : Nat) : Int)) = true := by rw [decide_eq_true_iff]; omega
                          have HE : Hid (Go.Sort.shiftUp ltN b (t + 1) (Go.Sort.swp d4 t z) = Go.Sort.fixUp ltN b k d3) := by rw [← suE HZ.out htb2 hx]; exact hT.out.2
                          have ft : wr.frozen? ⟨g, t, none⟩ = false := hT.out.1.free _
                          have fz : wr.frozen? ⟨g, z, none⟩ = false := hT.out.1.free _
                          have jt : IntKind.i64.wrap ((t : Int) + 1) = ((t + 1 : Nat) : Int) := by rw [IntKind.wrap_i64]; omega
                          go_wp2
                          go_quiet (first | (go_at_call 116; refine Calls.quiet_of_same (lessU _ _ _)))
                          go_wp2
                          go_region
                          all_goals go_wp2
                          all_goals go_roundw
                          case rel => exact ⟨t + 1, by simp, by omega, by omega, _, ((hT.out.1.drewN nq).swp t z).drew, HE.out⟩
                          case measure => simp [intOf]; omega
                        · have hxi : decide (((d4[t]! : Nat) : Int) < ((d4[z]! : Nat) : Int)) = false := by rw [decide_eq_false_iff_not]; omega
                          have HE : Hid (d4 = Go.Sort.fixUp ltN b k d3) := by rw [← hT.out.2]; exact (suS HZ.out (fun h => hx h.2)).symm
                          go_wp2
                          go_quiet (first | (go_at_call 116; refine Calls.quiet_of_same (lessU _ _ _)))
                          go_wp2
                          go_roundw
                          case rel => exact ⟨k, q + 1, rfl, by simp, by omega, by omega, by omega, Go.Sort.fixUp ltN b k d3, by rw [← HE.out]; exact hT.out.1.drewN _, by rw [HQ.out]; exact HR.out⟩
                          case measure => simp [intOf]; omega
                      · have l5 : ¬ (t : Int) < (b : Int) := by omega
                        have HE : Hid (d4 = Go.Sort.fixUp ltN b k d3) := by rw [← hT.out.2]; exact (suS HZ.out (fun h => htb2 h.1)).symm
                        go_wp2
                        go_roundw
                        case rel => exact ⟨k, q + 1, rfl, by simp, by omega, by omega, by omega, Go.Sort.fixUp ltN b k d3, by rw [← HE.out]; exact hT.out.1, by rw [HQ.out]; exact HR.out⟩
                        case measure => simp [intOf]; omega
                  · have l4 : ¬ (2 : Int) ≤ (b : Int) - (k : Int) := by omega
                    have HF : Hid (Go.Sort.fixUp ltN b k d3 = d3) := by show _ = _; unfold Go.Sort.fixUp; rw [if_neg (by omega)]
                    go_wp2
                    go_roundw
                    case rel => exact ⟨k, q + 1, rfl, by simp, by omega, by omega, by omega, Go.Sort.fixUp ltN b k d3, by rw [HF.out]; exact HS3.out, by rw [HQ.out]; exact HR.out⟩
                    case measure => simp [intOf]; omega
    · obtain rfl : q = 5 := by omega
      have HR : Hid ((d1, false) = Go.Sort.partialInsertionSort ltN d a b) := hL.out.2
      go_wp2
      go_ret
      exact ⟨by rw [← HR.out]; rfl, by rw [← HR.out]; exact hL.out.1⟩
end Go.Proofs.YtbdhmkfdofkloaaGreatDoor
/- SORTING NUMBERS (uint64), many of them: pdqsort, the mathematics. -/
namespace Go.Proofs.YtbdhmkfdofkloaaGreatDoor
open Go.RowKit Go.Maps
open Go.Sort (PermIn SortedIn)

/-- no two are the same -/
def NdN (d : Array Nat) : Prop := ∀ i j, i < d.size → j < d.size → d[i]! = d[j]! → i = j
theorem ndN_iff (d : Array Nat) : NdN d ↔ d.toList.Nodup := by
  unfold NdN List.Nodup
  rw [List.pairwise_iff_getElem]
  constructor
  · intro h i j hi hj hij he
    have := h i j (by simpa using hi) (by simpa using hj) (by simpa [at_bang (show i < d.size by simpa using hi), at_bang (show j < d.size by simpa using hj)] using he)
    omega
  · intro h i j hi hj he
    rw [at_bang hi, at_bang hj] at he
    have hi' : i < d.toList.length := by simpa using hi
    have hj' : j < d.toList.length := by simpa using hj
    have he' : d.toList[i] = d.toList[j] := by rw [Array.getElem_toList, Array.getElem_toList]; exact he
    rcases Nat.lt_trichotomy i j with hl | hl | hl
    · exact absurd he' (h i j hi' hj' hl)
    · exact hl
    · exact absurd he'.symm (h j i hj' hi' hl)
theorem permIn_list {d e : Array Nat} {a b : Nat} (hb : b ≤ d.size) (h : PermIn a b d e) : e.toList.Perm d.toList := by
  have h1 := Go.Sort.permIn_mono d e a b 0 d.size (Nat.zero_le _) hb (Nat.le_refl _) h
  have h2 := h1.2.2
  have e1 : e.extract 0 d.size = e := by rw [← h1.1]; simp
  have e2 : d.extract 0 d.size = d := by simp
  rwa [e1, e2] at h2
theorem NdN.perm {d e : Array Nat} {a b : Nat} (h : NdN d) (hb : b ≤ d.size) (hp : PermIn a b d e) : NdN e :=
  (ndN_iff e).2 ((permIn_list hb hp).nodup_iff.2 ((ndN_iff d).1 h))
/-- nothing within is less than what lies ahead of it -/
def BelowN (a b : Nat) (d : Array Nat) : Prop := a = 0 ∨ ∀ i, a ≤ i → i < b → ¬ d[i]! < d[a - 1]!
theorem permAll {d e : Array Nat} {a b : Nat} {p : Nat → Prop} (hb : b ≤ d.size) (hp : PermIn a b d e) (h : ∀ i, a ≤ i → i < b → p d[i]!) : ∀ i, a ≤ i → i < b → p e[i]! :=
  Go.Sort.permIn_all d e a b p hb hp h
theorem BelowN.perm {d e : Array Nat} {a b : Nat} (h : BelowN a b d) (hb : b ≤ d.size) (hp : PermIn a b d e) : BelowN a b e := by
  rcases h with h | h
  · exact .inl h
  · by_cases h0 : a = 0
    · exact .inl h0
    · right
      rw [hp.2.1 (a - 1) (.inl (by omega))]
      exact permAll (p := fun x => ¬ x < d[a - 1]!) hb hp h
theorem BelowN.lib {d : Array Nat} {a b : Nat} (h : BelowN a b d) : Go.Sort.Below ltN a b d := by
  rcases h with h | h
  · exact .inl h
  · right; intro i h1 h2; simp only [ltN, decide_eq_false_iff_not]; exact h i h1 h2
def SortN (a b : Nat) (d : Array Nat) : Prop := ∀ i j, a ≤ i → i < j → j < b → ¬ d[j]! < d[i]!
theorem sortN_of {a b : Nat} {d : Array Nat} (h : SortedIn ltN a b d) : SortN a b d := fun i j h1 h2 h3 => by
  have := h i j h1 h2 h3
  simpa [ltN] using this
/-- all pairs of [a, b) are in order, but those of which both are in [A, B) -/
def Outs (a b A B : Nat) (d : Array Nat) : Prop := ∀ i j, a ≤ i → i < j → j < b → ¬ (A ≤ i ∧ j < B) → ¬ d[j]! < d[i]!
section
variable {a b A B m : Nat} {d e f : Array Nat}
theorem Outs.first : Outs a b a b d := fun _ _ h1 _ h3 h4 => absurd ⟨h1, h3⟩ h4
theorem Outs.done (h : Outs a b A B d) (hs : SortN A B d) : SortN a b d := fun i j h1 h2 h3 => by
  by_cases hc : A ≤ i ∧ j < B
  · exact hs i j hc.1 h2 hc.2
  · exact h i j h1 h2 h3 hc
theorem Outs.perm (h : Outs a b A B d) (hA : a ≤ A) (hB : B ≤ b) (hb : b ≤ d.size) (hp : PermIn A B d e) : Outs a b A B e := by
  intro i j h1 h2 h3 h4
  by_cases ji : A ≤ j ∧ j < B
  · have hi : i < A := by omega
    rw [hp.2.1 i (.inl hi)]
    exact permAll (p := fun x => ¬ x < d[i]!) (by omega) hp (fun t t1 t2 => h i t h1 (by omega) (by omega) (by omega)) j ji.1 ji.2
  · rw [hp.2.1 j (by omega)]
    by_cases ii : A ≤ i ∧ i < B
    · exact permAll (p := fun x => ¬ d[j]! < x) (by omega) hp (fun t t1 t2 => h t j (by omega) (by omega) h3 (by omega)) i ii.1 ii.2
    · rw [hp.2.1 i (by omega)]
      exact h i j h1 h2 h3 h4
/-- behind a partition, the left part sorted -/
theorem Outs.left (h : Outs a b A B d) (hA : a ≤ A) (hB : B ≤ b) (hb : b ≤ d.size) (hp : PS d A B m e) (hq : PermIn A m e f) (hs : SortN A m f) : Outs a b (m + 1) B f ∧ PermIn A B d f ∧ BelowN (m + 1) B f := by
  have hes : e.size = d.size := hp.perm.1
  have hm := hp.mb
  have ham := hp.am
  have hpf : PermIn A B d f := Go.Sort.permIn_trans _ _ _ _ _ hp.perm (Go.Sort.permIn_mono _ _ _ _ _ _ (Nat.le_refl _) (by omega) (by omega) hq)
  have hO := h.perm hA hB hb hpf
  have fm : f[m]! = e[m]! := hq.2.1 m (.inr (Nat.le_refl _))
  have flo : ∀ t, A ≤ t → t < m → f[t]! < f[m]! := by
    rw [fm]
    exact permAll (p := fun x => x < e[m]!) (by omega) hq hp.lo
  have fhi : ∀ t, m < t → t < B → ¬ f[t]! < f[m]! := fun t t1 t2 => by
    rw [fm, hq.2.1 t (.inr (by omega))]; exact hp.hi t t1 t2
  refine ⟨fun i j h1 h2 h3 h4 => ?_, hpf, .inr fun i h1 h2 => fhi i (by omega) h2⟩
  by_cases hc : A ≤ i ∧ j < B
  · rcases Nat.lt_trichotomy j m with hj | hj | hj
    · exact hs i j hc.1 h2 hj
    · subst hj; have := flo i hc.1 h2; omega
    · have h5 := fhi j hj hc.2
      rcases Nat.lt_trichotomy i m with hi | hi | hi
      · have := flo i hc.1 hi; omega
      · subst hi; exact h5
      · omega
  · exact hO i j h1 h2 h3 hc
/-- .. the right part sorted -/
theorem Outs.right (h : Outs a b A B d) (hA : a ≤ A) (hB : B ≤ b) (hb : b ≤ d.size) (hl : BelowN A B d) (hp : PS d A B m e) (hq : PermIn (m + 1) B e f) (hs : SortN (m + 1) B f) : Outs a b A m f ∧ PermIn A B d f ∧ BelowN A m f := by
  have hes : e.size = d.size := hp.perm.1
  have hm := hp.mb
  have ham := hp.am
  have hpf : PermIn A B d f := Go.Sort.permIn_trans _ _ _ _ _ hp.perm (Go.Sort.permIn_mono _ _ _ _ _ _ (by omega) (Nat.le_refl _) (by omega) hq)
  have hO := h.perm hA hB hb hpf
  have fm : f[m]! = e[m]! := hq.2.1 m (.inl (by omega))
  have flo : ∀ t, A ≤ t → t < m → f[t]! < f[m]! := fun t t1 t2 => by
    rw [fm, hq.2.1 t (.inl (by omega))]; exact hp.lo t t1 t2
  have fhi : ∀ t, m + 1 ≤ t → t < B → ¬ f[t]! < f[m]! := by
    rw [fm]
    exact permAll (p := fun x => ¬ x < e[m]!) (by omega) hq (fun t t1 t2 => hp.hi t (by omega) t2)
  refine ⟨fun i j h1 h2 h3 h4 => ?_, hpf, ?_⟩
  · by_cases hc : A ≤ i ∧ j < B
    · rcases Nat.lt_trichotomy i m with hi | hi | hi
      · have h5 := flo i hc.1 hi
        have h6 : m ≤ j := by omega
        rcases Nat.lt_or_ge m j with hj | hj
        · have := fhi j hj hc.2; omega
        · obtain rfl : j = m := by omega
          omega
      · subst hi; exact fhi j (by omega) hc.2
      · exact hs i j (by omega) h2 hc.2
    · exact hO i j h1 h2 h3 hc
  · rcases hl.perm (by omega) hpf with h0 | h0
    · exact .inl h0
    · exact .inr fun i h1 h2 => h0 i h1 (by omega)
theorem BelowN.sub (h : BelowN A B d) (hm : m ≤ B) : BelowN A m d := by
  rcases h with h | h
  · exact .inl h
  · exact .inr fun i h1 h2 => h i h1 (by omega)
end
end Go.Proofs.YtbdhmkfdofkloaaGreatDoor
