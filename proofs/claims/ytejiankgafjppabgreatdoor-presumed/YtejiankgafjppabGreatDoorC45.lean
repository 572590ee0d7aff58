import Derived.Test.YtejiankgafjppabGreatDoorC44
/- THE LAW Presumed, WALKED. -/
namespace Go.Proofs.YtejiankgafjppabGreatDoor
open Go.RowKit Go.Shelf Go.Maps
open Sc

theorem w1P (c : Int) (P : Nat) (h : P < 8) (hc : 0 ≤ c := by decide) (hc2 : c ≤ 8 := by decide) : wrap64 (c + (P : Int)) = c + (P : Int) ∧ IntKind.i64.wrap (c + (P : Int)) = c + (P : Int) := by
  constructor
  · unfold wrap64; omega
  · rw [IntKind.wrap_i64]; omega
theorem wS {s : Nat} (h : s ≤ 8) : wrap64 (s : Int) = (s : Int) ∧ IntKind.i64.wrap (s : Int) = (s : Int) := by
  constructor
  · unfold wrap64; omega
  · rw [IntKind.wrap_i64]; omega
theorem c1P {P s : Nat} (h : 1 + P = s) : 1 + (P : Int) = (s : Int) := by omega
theorem n1P {P s : Nat} (h : ¬ 1 + P = s) : ¬ 1 + (P : Int) = (s : Int) := by omega
theorem app_ok {l : List Nat} {s : Nat} (hp : l.Pairwise (· < ·)) (hl : ∀ y, l[l.length - 1]? = some y → y < s) : (l ++ [s]).Pairwise (· < ·) := by
  rw [List.pairwise_append]
  refine ⟨hp, List.pairwise_singleton _ _, fun a ha b hb => ?_⟩
  simp at hb
  subst hb
  obtain ⟨j, hj, rfl⟩ := List.mem_iff_getElem.1 ha
  have hlast : l[l.length - 1]? = some (l[l.length - 1]'(by omega)) := List.getElem?_eq_getElem (by omega)
  have h1 := hl _ hlast
  by_cases e : j = l.length - 1
  · subst e; exact h1
  · have := List.pairwise_iff_getElem.1 hp j (l.length - 1) hj (by omega) (by omega)
    omega
theorem row_last {w : World} {B g cap n m : Nat} {l : List Nat} (h : w.ownsRow B 3 1 (.slice (some ⟨g, 0, none⟩) n cap) n (ints l)) (y : Nat) (hy : l[m]? = some y) : w.cell? ⟨g, m, none⟩ = some (.int .i64 (y : Int)) := ints_at h m y hy
theorem len_s {l : List Nat} {s : Nat} (hp : l.Pairwise (· < ·)) (hb : ∀ x ∈ l, 1 ≤ x ∧ x ≤ s) (hs : s ≤ 8) : l.length ≤ 8 := by
  by_cases e : l = []
  · subst e; simp
  · exact Rising.len ⟨e, hp, fun x hx => ⟨(hb x hx).1, by have := (hb x hx).2; omega⟩⟩
theorem le_allocP {B : Nat} (w : World) (o : Obj) (h : B ≤ w.heap.size) : B ≤ (w.alloc o).heap.size := by simp; omega
theorem lenP {n : Nat} (h : n ≤ 8) : n + 1 ≤ maxLen ∧ (n + 1) * 8 ≤ 140737488355328 := by unfold maxLen; omega
/-- the row of shards as far as it goes -/
def Lst (w5 wr : World) (s : Nat) (v15 : Value) (l : List Nat) : Prop := wr.ownsRow w5.heap.size 3 1 v15 l.length (ints l) ∧ l.Pairwise (· < ·) ∧ (∀ x ∈ l, 1 ≤ x ∧ x ≤ s) ∧ Fr [] w5 wr ∧ (l = [] → v15 = .slice none 0 0)
theorem Lst.app {w5 wr w6 : World} {v15 v' : Value} {l : List Nat} {s : Nat} (h : Lst w5 wr s v15 l) (hs : 1 ≤ s) (hlast : ∀ y, l[l.length - 1]? = some y → y < s) (o : Obj) (hown : w6.ownsRow w5.heap.size 3 1 v' (l.length + 1) (ints l ++ [.int .i64 (s : Int)])) (hg : (wr.alloc o).grownBy w6 v15.ownBlock) : Lst w5 w6 s v' (l ++ [s]) := by
  obtain ⟨h1, h2, h3, h4, _⟩ := h
  refine ⟨by rw [ints_snoc, List.length_append]; exact hown, app_ok h2 hlast, fun x hx => ?_, ?_, fun e => by simp at e⟩
  · rcases List.mem_append.1 hx with e | e
    · exact h3 x e
    · simp at e; omega
  · exact (h4.alloc o).andThen (Fr.of_grown hg) (fun j hj hl => by
      simp at hj
      have := (h1.lt j hj).1
      omega)
theorem s1P {s : Nat} (h : s ≤ 20) : wrap64 ((s : Int) + 1) = (s : Int) + 1 ∧ IntKind.i64.wrap ((s : Int) + 1) = (s : Int) + 1 := by
  constructor
  · unfold wrap64; omega
  · rw [IntKind.wrap_i64]; omega
theorem hlast {l : List Nat} {y : Nat} (m : Nat) (hm : l.length = m + 1) (hy : l[m]? = some y) : l[l.length - 1]? = some y := by rw [hm]; exact hy
theorem Lst.last {w5 wr : World} {v15 : Value} {l : List Nat} {s : Nat} (h : Lst w5 wr s v15 l) (hn : l ≠ []) : ∃ g cap m y, l.length = m + 1 ∧ v15 = .slice (some ⟨g, 0, none⟩) (m + 1) cap ∧ l[m]? = some y ∧ wr.cell? ⟨g, m, none⟩ = some (.int .i64 (y : Int)) ∧ l[l.length - 1]? = some y := by
  have hp := List.length_pos_iff.2 hn
  obtain ⟨m, hm⟩ : ∃ m, l.length = m + 1 := ⟨l.length - 1, by omega⟩
  have hrow := h.1
  rcases h.1.2 with ⟨e15, el⟩ | ⟨g, cap, cur, e15, _⟩
  · omega
  · have hy : l[m]? = some (l[m]'(by omega)) := List.getElem?_eq_getElem (by omega)
    rw [e15] at hrow
    refine ⟨g, cap, m, _, hm, by rw [← hm]; exact e15, hy, row_last hrow _ hy, hlast m hm hy⟩
theorem ltP {i m : Nat} (h : i < m + 1) : (i : Int) < (m : Int) + 1 ∧ i ≤ m ∧ (i : Int) ≤ (m : Int) := by omega
theorem msP {i m : Nat} (h : i < m + 1) : m - i < m + 1 - i := by omega
theorem getX_at {l : List Nat} {i x : Nat} (h : i < l.length) (hx : x = l.getD i 0) : l[i]? = some x := by
  rw [hx, List.getD_eq_getElem?_getD, List.getElem?_eq_getElem h]; rfl
theorem nzP {C : Nat} (h : ¬ C = 0) : ¬ (C : Int) = 0 ∧ ((C : Int) == 0) = false := by constructor <;> simp <;> omega
theorem c2P {P : Nat} (h : P < 2) : P = 0 ∨ P = 1 := by omega
theorem c3P {P : Nat} (h : P < 3) : P = 0 ∨ P = 1 ∨ P = 2 := by omega
theorem stepP {i : Nat} (h : i < 20) : i + 1 ≤ 20 ∧ 19 - i < 20 - i := by omega
theorem c_lt {y s : Nat} (h : y < s) : (y : Int) < (s : Int) := by omega
theorem n_lt {y s : Nat} (h : ¬ y < s) : ¬ (y : Int) < (s : Int) := by omega
theorem mP {m : Nat} (h : m ≤ 8) : (0 : Int) ≤ (m : Int) ∧ (m : Int) < (m : Int) + 1 ∧ wrap64 (m : Int) = (m : Int) ∧ IntKind.i64.wrap (m : Int) = (m : Int) ∧ ((m : Int) + 1 == 0) = false := by
  refine ⟨by omega, by omega, by unfold wrap64; omega, by rw [IntKind.wrap_i64]; omega, by simp; omega⟩
set_option maxRecDepth 100000 in
set_option maxHeartbeats 16000000 in
theorem presumed_walk (v0 v1 : Value) (n0 n1 : Nat) (S0 S1 : Nat → Int) (lose kept : Int) (w : World) (h0 : IntsIn w v0 n0 S0) (h1 : IntsIn w v1 n1 S1) (hmet : Met w) (hpow : Pows w) (hB : 2 ≤ w.heap.size) (hl1 : -9223372036854775808 ≤ lose) (hl2 : lose ≤ 9223372036854775807) :
    Calls Tryz.prog 4 #[v0, v1, .int .i64 lose, .int .i64 kept] w fun e w' => e = .returned (.bool true) ∧ Below w.heap.size w w' := by
  obtain ⟨ao, cap0, rfl, hI0⟩ := h0
  have HI0 := toHid hI0
  have HI1 := toHid h1
  obtain ⟨ii, hi, hz0, hz1, hz2⟩ := info_parts Tryz.infoIn
  clear hI0 h1
  go_enter Tryz.func4, Tryz.ntmps4
  go_wp2_with fail
  refine (newHost_c w 10 (by decide)).mono ?_
  rintro e w1 ⟨hp, p, bD, bN, rfl, hh1, hd1, hhp, hb1⟩
  have H1 := toHid (show w1.heap[hp]? = some (hostC p false (.pointer none)) ∧ DiskIn w1 w.heap.size p bD bN (.slice none 0 0) ⟨fun _ => none, fun _ => none, [], -1, -1, false⟩ 10 0 0 ∧ Below w.heap.size w w1 from ⟨hh1, hd1, hb1⟩)
  clear hh1 hd1 hb1
  go_wp2_with fail
  refine (well_fnC w1).mono ?_
  rintro e w2 ⟨rfl, hf2⟩
  obtain ⟨W, hW⟩ : ∃ W, W = w2.alloc (fallO (-1) (-1) 0 0) := ⟨_, rfl⟩
  have hfW : Fr [] w1 W := by rw [hW]; exact hf2.alloc _
  have hx : W.heap[w2.heap.size]? = some (fallO (-1) (-1) 0 0) := by rw [hW]; exact heap_alloc_new w2 _
  obtain ⟨x0, x1, x2, x3⟩ := fall_cellsC hx
  have hh := (hfW.block hp (Array.getElem?_eq_some_iff.1 H1.out.1).1 (by simp)).trans H1.out.1
  have hd := H1.out.2.1.new hfW
  have hbW : Below w.heap.size w W := H1.out.2.2.trans (hfW.below H1.out.2.1.base.2.2.2 (by simp))
  have hmW : Met W := hmet.below hbW (by omega)
  have hpW : Pows W := hpow.of_block (hbW.block 1 (by omega))
  have hop := pvOpen0 hp p bD bN w.heap.size W hh hd hB hhp hmW
  obtain ⟨Q, hQ⟩ : ∃ Q, Q = w2.heap.size := ⟨_, rfl⟩
  have HW := toHid (show W.heap[Q]? = some (fallO (-1) (-1) 0 0) ∧ Below w.heap.size w W from ⟨by rw [hQ]; exact hx, hbW⟩)
  rw [hW] at x0 x1 x2 x3
  clear hf2 hfW hx hh hd hbW H1
  go_wp2_with fail
  have hW' : W = w2.alloc (.cells #[.int .i64 (-1), .int .i64 (-1), .int .i64 0, .int .i64 0] 25) := hW
  rw [← hW', ← hQ]
  refine hop.mono ?_
  clear hop hW hW' x0 x1 x2 x3 hQ
  rintro e w3 ⟨rfl, hl3, hf3⟩
  have hm3 := hf3.met hB hmW
  have hp3 := hf3.pows hB hpW
  have hx3 := hf3.fall _ _ _ _ _ HW.out.1
  obtain ⟨x0, x1, x2, x3⟩ := fall_cellsC hx3
  have hbe := pvBegin w.heap.size hp 0 w3 hl3 hB hm3 hp3 (by decide)
  have H3 := toHid (show w3.heap[Q]? = some (fallO (-1) (-1) 0 0) ∧ Below w.heap.size w w3 from ⟨hx3, HW.out.2.trans hf3.below⟩)
  clear hl3 hf3 hx3 HW hmW hpW
  go_wp2_with fail
  refine hbe.mono ?_
  clear hbe x0 x1 x2 x3
  rintro e w4 ⟨rfl, hl4, hf4⟩
  have hm4 := hf4.met hB hm3
  have hp4 := hf4.pows hB hp3
  have han : Calls Tryz.prog 22 #[.pointer (some ⟨hp, 0, none⟩), .int .u64 10] w4 fun e w' => e = .returned (.int .i64 6) ∧ w' = w4 := pwAnswer w.heap.size hp 3 10 _ w4 hl4.w (by decide)
  have H4 := toHid (show w4.heap[Q]? = some (fallO (-1) (-1) 0 0) ∧ Below w.heap.size w w4 ∧ Pv w4 w.heap.size hp 3 (co1 2 4 [0, 0, 0, 0, 0, 0, 0, 0, 0]) [eR] from ⟨hf4.fall _ _ _ _ _ H3.out.1, H3.out.2.trans hf4.below, hl4⟩)
  clear hl4 hf4 H3 hm3 hp3
  go_wp2_with fail
  refine han.mono ?_
  clear han
  rintro e w5 ⟨rfl, hw5⟩
  subst hw5
  go_wp2
  go_loopw [15, 16] (fun v15 v16 wr => ∃ (s : Nat) (l : List Nat), v16 = .int .i64 (s : Int) ∧ Hid (1 ≤ s ∧ s ≤ 9 ∧ Lst w5 wr (s - 1) v15 l)) (fun _ v16 _ => 9 - (intOf v16).toNat)
  case atStart => exact ⟨1, [], rfl, by decide, by decide, World.ownsRow_nil _ _ _ _, List.Pairwise.nil, by simp, Fr.refl _ _, fun _ => rfl⟩
  case round =>
    obtain ⟨s, l, rfl, HX⟩ := hrel
    by_cases hs : s ≤ 8
    · have is : (s : Int) ≤ 8 := by omega
      have HS := toHid HX.out.1
      go_wp2
      go_loopw [15, 17] (fun v15 v17 wr => ∃ (i : Nat) (l : List Nat), v17 = .int .i64 (i : Int) ∧ i ≤ 20 ∧ Hid (Lst w5 wr s v15 l)) (fun _ v17 _ => 20 - (intOf v17).toNat)
      case atStart => exact ⟨0, l, rfl, by decide, HX.out.2.2.1, HX.out.2.2.2.1, fun x hx => by have := HX.out.2.2.2.2.1 x hx; omega, HX.out.2.2.2.2.2⟩
      case round =>
        obtain ⟨i, l, rfl, hi20, HY⟩ := hrel
        by_cases hin : i < n0 ∧ i < 20
        · obtain ⟨b, off, hao, hbl, hcell, hb1, hb2⟩ := HI0.out i hin.1
          subst hao
          have hbb : Below w.heap.size w wr := H4.out.2.1.trans (HY.out.2.2.2.1.below H4.out.2.1.size (by simp))
          have ci := (hbb.cell (p := ⟨b, off + i, none⟩) hbl).trans hcell
          have i1 : (i : Int) < (n0 : Int) := by omega
          have i2 : (i : Int) < 20 := by omega
          have hpk := pick_fnC (S0 i) 8 wr hb1 hb2 (by decide) (by decide)
          obtain ⟨P, hP⟩ : ∃ P, P = pkC (S0 i) 8 := ⟨_, rfl⟩
          rw [← hP] at hpk
          have hP8 : P < 8 := by rw [hP]; exact pk_ltC _ _ (by decide)
          have HST := toHid (stepP hin.2)
          have hl8 := len_s HY.out.2.1 HY.out.2.2.1 hs
          have HLN := toHid (lenP hl8)
          have HSZ := toHid HY.out.2.2.2.1.size
          clear hP hbb hcell hb1 hb2
          by_cases hPs : 1 + P = s
          · have jj : 1 + (P : Int) = (s : Int) := c1P hPs
            obtain ⟨jP, kP⟩ := wS hs
            by_cases hl0 : l = []
            · have e15 := HY.out.2.2.2.2 hl0
              subst e15
              have HL0 := toHid hl0
              clear hl0 hPs hl8
              go_wp2_with fail
              refine hpk.mono ?_
              clear hpk
              rintro e wz ⟨rfl, hwz⟩
              subst hwz
              go_wp2_with (at_builtin; refine wpList_append_own _ rfl _ _ 44 rfl w5.heap.size 3 ii (.int .i64 0) 1 8 Tryz.underlying44 hi hz0 hz1 hz2 rfl (by decide) _ l.length (ints l) rfl (HY.out.1.alloc _) ⟨wz.heap.size, 0, none⟩ 1 1 [.int .i64 (s : Int)] rfl rfl (cells_new _ #[.int .i64 (s : Int)] _) (by intro u hu; simp at hu; subst hu; rfl) HLN.out.1 HLN.out.2 (le_allocP _ _ HSZ.out) ?_)
              intro v' w6 hown' hgrow _
              have H6 := toHid (HY.out.app HS.out (fun y hy => by rw [HL0.out] at hy; simp at hy) _ hown' hgrow)
              clear hown' hgrow jP kP jj
              go_wp2
              go_roundw
              case rel => exact ⟨i + 1, l ++ [s], by simp, HST.out.1, H6.out⟩
              case measure => simp [intOf]; exact HST.out.2
            · obtain ⟨g, cap, m, y, hm, e15, hy, cy, hyl⟩ := HY.out.last hl0
              subst e15
              obtain ⟨i3, i4, i5, i6, i7⟩ := mP (show m ≤ 8 by rw [hm] at hl8; exact Nat.le_of_succ_le hl8)
              have HYL := toHid hyl
              clear hl0 hPs hl8 hm hy hyl
              by_cases hys : y < s
              · have cys := c_lt hys
                go_wp2_with fail
                refine hpk.mono ?_
                clear hpk
                rintro e wz ⟨rfl, hwz⟩
                subst hwz
                go_wp2_with (at_builtin; refine wpList_append_own _ rfl _ _ 44 rfl w5.heap.size 3 ii (.int .i64 0) 1 8 Tryz.underlying44 hi hz0 hz1 hz2 rfl (by decide) _ l.length (ints l) rfl (HY.out.1.alloc _) ⟨wz.heap.size, 0, none⟩ 1 1 [.int .i64 (s : Int)] rfl rfl (cells_new _ #[.int .i64 (s : Int)] _) (by intro u hu; simp at hu; subst hu; rfl) HLN.out.1 HLN.out.2 (le_allocP _ _ HSZ.out) ?_)
                intro v' w6 hown' hgrow _
                have H6 := toHid (HY.out.app HS.out (fun y' hy' => by rw [HYL.out] at hy'; cases hy'; exact hys) _ hown' hgrow)
                clear hown' hgrow jP kP jj
                go_wp2
                go_roundw
                case rel => exact ⟨i + 1, l ++ [s], by simp, HST.out.1, H6.out⟩
                case measure => simp [intOf]; exact HST.out.2
              · have cys := n_lt hys
                go_wp2_with fail
                refine hpk.mono ?_
                clear hpk
                rintro e wz ⟨rfl, hwz⟩
                subst hwz
                go_wp2
                go_roundw
                case rel => exact ⟨i + 1, l, by simp, HST.out.1, HY.out⟩
                case measure => simp [intOf]; exact HST.out.2
          · have jj := n1P hPs
            obtain ⟨jP, kP⟩ := w1P 1 P hP8
            clear hPs hl8
            go_wp2_with fail
            refine hpk.mono ?_
            clear hpk
            rintro e wz ⟨rfl, hwz⟩
            subst hwz
            go_wp2
            go_roundw
            case rel => exact ⟨i + 1, l, by simp, HST.out.1, HY.out⟩
            case measure => simp [intOf]; exact HST.out.2
        · obtain ⟨q1, q2⟩ := s1P (show s ≤ 20 by omega)
          have HSM := toHid (show 1 ≤ s + 1 ∧ s + 1 ≤ 9 ∧ 8 - s < 9 - s by omega)
          have HS9 := toHid (show Lst w5 wr (s + 1 - 1) u15 l from HY.out)
          by_cases hi0 : i < n0
          · have i1 : (i : Int) < (n0 : Int) := by omega
            have i2 : ¬ (i : Int) < 20 := by omega
            clear hin hs hi0 hi20
            go_wp2
            go_roundw
            case rel => exact ⟨s + 1, l, by simp, HSM.out.1, HSM.out.2.1, HS9.out⟩
            case measure => simp [intOf]; exact HSM.out.2.2
          · have i1 : ¬ (i : Int) < (n0 : Int) := by omega
            clear hin hs hi0 hi20
            go_wp2
            go_roundw
            case rel => exact ⟨s + 1, l, by simp, HSM.out.1, HSM.out.2.1, HS9.out⟩
            case measure => simp [intOf]; exact HSM.out.2.2
    · have is : ¬ (s : Int) ≤ 8 := by omega
      have HL8 : Hid (Lst w5 wr 8 u15 l) := by
        have h9 : s - 1 = 8 := by have := HX.out.2.1; omega
        have := HX.out.2.2; rw [h9] at this; exact this
      clear hs HX
      by_cases hl0 : l = []
      · have e15 := HL8.out.2.2.2.2 hl0
        subst e15
        go_wp2
        go_ret
        exact ⟨rfl, H4.out.2.1.trans (HL8.out.2.2.2.1.below H4.out.2.1.size (by simp))⟩
      · obtain ⟨g, cap, m, y, hm, e15, hy, cy, hyl⟩ := HL8.out.last hl0
        subst e15
        have i7 : ¬ ((m : Int) + 1 = 0) := by omega
        have hris : Rising l := ⟨hl0, HL8.out.2.1, HL8.out.2.2.1⟩
        have hmL : m < 8 := by have := hris.len; omega
        have hf := HL8.out.2.2.2.1
        obtain ⟨hpv, hfI⟩ := H4.out.2.2.new hf
        have hmr := hfI.met hB hm4
        have hprr := hfI.pows hB hp4
        have hxr := hfI.fall _ _ _ _ _ H4.out.1
        have hbr := H4.out.2.1.trans hfI.below
        have hrow := HL8.out.1
        rw [← hm] at hrow
        have hco := pvCommit w.heap.size hp 3 2 [eR] wr g cap w5.heap.size l hpv hB hmr hris hrow (by decide)
        rw [hm] at hco
        obtain ⟨x0, x1, x2, x3⟩ := fall_cellsC hxr
        have HR := toHid hris
        have HM := toHid hm
        have HROW := toHid hrow
        have HMP := toHid (show Met wr ∧ Pows wr ∧ Below w.heap.size w wr ∧ wr.heap[Q]? = some (fallO (-1) (-1) 0 0) from ⟨hmr, hprr, hbr, hxr⟩)
        clear hl0 hm hy cy hyl hris hf hpv hfI hmr hprr hxr hbr hrow HL8 H4 hm4 hp4
        go_wp2_with fail
        refine hco.mono ?_
        clear hco x0 x1 x2 x3
        rintro e w6 ⟨rfl, hl6, hf6⟩
        obtain ⟨vt, hvt'⟩ : ∃ vt, vt = voteOf n1 S1 := ⟨_, rfl⟩
        have HVA : Hid (∀ j, vt j = 2 ∨ vt j = 3 ∨ vt j = 4) := fun j => by rw [hvt']; exact voteOf_is n1 S1 j
        have HVE := toHid hvt'
        clear hvt'
        have hcom : Com w w.heap.size Q g l w6 := Com.step ⟨HMP.out.1, HMP.out.2.1, HMP.out.2.2.1, HMP.out.2.2.2, fun k x hk => row_last HROW.out x hk, own_cells HROW.out rfl⟩ hB hf6
        have HV0 := toHid (vs_first (vt := vt) HR.out hcom hl6)
        obtain ⟨ao1, cap1, rfl, hI1⟩ := HI1.out
        have HI1' := toHid hI1
        clear hI1 HI1 hl6 hf6 hcom HMP HROW HI0
        go_wp2
        go_loopw [18, 19, 20] (fun v18 v19 v20 wr => ∃ (i C : Nat) (b : Bool), v18 = .bool b ∧ v19 = .int .i64 (C : Int) ∧ v20 = .int .i64 (i : Int) ∧ Hid (b = bdd vt i ∧ C = cnt vt i ∧ i ≤ l.length ∧ VS w w.heap.size hp Q g l vt i wr)) (fun _ _ v20 _ => m + 1 - (intOf v20).toNat)
        case atStart => exact ⟨0, 0, false, rfl, rfl, rfl, rfl, rfl, Nat.zero_le _, HV0.out⟩
        case round =>
          obtain ⟨i, C, b, rfl, rfl, rfl, HV⟩ := hrel
          by_cases hil : i < m + 1
          · have HI : Hid (i < l.length ∧ m - i < m + 1 - i) := ⟨by rw [HM.out]; exact hil, msP hil⟩
            have hC20 : C ≤ 20 := by rw [HV.out.2.1]; exact Nat.le_trans (cnt_le vt i) (by omega)
            obtain ⟨j1, j2, j3⟩ := ltP hil
            obtain ⟨q1, q2⟩ := s1P (show i ≤ 20 by omega)
            obtain ⟨q3, q4⟩ := s1P hC20
            clear hC20
            by_cases hin : i < n1
            · obtain ⟨bb, off, hao, hbl, hcell, hb1, hb2⟩ := HI1'.out i hin
              subst hao
              have ci := (HV.out.2.2.2.1.below.cell (p := ⟨bb, off + i, none⟩) hbl).trans hcell
              have i1 : (i : Int) < (n1 : Int) := c_lt hin
              obtain ⟨P, hP⟩ : ∃ P, P = pkC (S1 i) 3 := ⟨_, rfl⟩
              have hP3 : P = 0 ∨ P = 1 ∨ P = 2 := c3P (by rw [hP]; exact pk_ltC _ _ (by decide))
              have hpk0 : ∀ r : Nat, P = r → Calls Tryz.prog 11 #[.int .i64 (S1 i), .int .i64 3] wr fun e w' => e = .returned (.int .i64 (r : Int)) ∧ w' = wr := fun r hr => by
                have := pick_fnC (S1 i) 3 wr hb1 hb2 (by decide) (by decide)
                rw [← hP, hr] at this; exact this
              have hvP : vt i = 2 + P := by rw [HVE.out, hP]; exact if_pos hin
              clear hP hcell hb1 hb2 hbl hin
              rcases hP3 with hPV | hPV | hPV
              · have HVT : Hid (vt i = 2) := by have := hvP; rw [hPV] at this; exact this
                cases b with
                | false =>
                  have hpk := hpk0 0 hPV
                  clear hpk0 hPV hvP
                  go_wp2_with fail
                  refine hpk.mono ?_
                  clear hpk
                  rintro e wz ⟨rfl, hwz⟩
                  subst hwz
                  have han := vs_answer HV.out.2.2.2 HI.out.1 HV.out.1.symm
                  go_wp2_with fail
                  refine han.mono ?_
                  clear han
                  rintro e wy ⟨rfl, hwy⟩
                  subst hwy
                  have hvo := vs_vote HR.out HVA.out (HV.out.2.2.2.drew hB) hB HI.out.1
                  rw [HVT.out] at hvo
                  obtain ⟨x, hx⟩ : ∃ x, x = l.getD i 0 := ⟨_, rfl⟩
                  rw [← hx] at hvo
                  have cx := HV.out.2.2.2.1.ints i x (getX_at HI.out.1 hx)
                  obtain ⟨x0, x1, x2, x3⟩ := fall_cellsC HV.out.2.2.2.1.fall
                  have HGX := toHid (getX_at HI.out.1 hx)
                  clear hx
                  go_wp2
                  go_region_held3 (fun w' => w'.cell? ⟨g, i, none⟩ = some (.int .i64 (x : Int)) ∧ w'.cell? ⟨Q, 0, none⟩ = some (.int .i64 (-1)) ∧ w'.cell? ⟨Q, 1, none⟩ = some (.int .i64 (-1)) ∧ w'.cell? ⟨Q, 2, none⟩ = some (.int .i64 0) ∧ w'.cell? ⟨Q, 3, none⟩ = some (.int .i64 0))
                    (simp [*])
                    ((go_at_call 24; refine hvo.mono ?_; clear hvo cx x0 x1 x2 x3; rintro e w2 ⟨rfl, hv2⟩; have cx := hv2.1.ints i x HGX.out; obtain ⟨x0, x1, x2, x3⟩ := fall_cellsC hv2.1.fall; have HV2 := toHid hv2; clear hv2))
                  clear cx x0 x1 x2 x3
                  go_wp2
                  go_roundw
                  case rel => exact ⟨i + 1, C + 1, false, by simp, by simp, by simp, by rw [bdd_succ, ← HV.out.1, HVT.out]; rfl, by rw [cnt_succ, ← HV.out.2.1, HVT.out]; rfl, HI.out.1, HV2.out⟩
                  case measure => simp [intOf]; exact HI.out.2
                | true =>
                  have hpk := hpk0 0 hPV
                  clear hpk0 hPV hvP
                  go_wp2_with fail
                  refine hpk.mono ?_
                  clear hpk
                  rintro e wz ⟨rfl, hwz⟩
                  subst hwz
                  have hvo := vs_vote HR.out HVA.out (HV.out.2.2.2.drew hB) hB HI.out.1
                  rw [HVT.out] at hvo
                  obtain ⟨x, hx⟩ : ∃ x, x = l.getD i 0 := ⟨_, rfl⟩
                  rw [← hx] at hvo
                  have cx := HV.out.2.2.2.1.ints i x (getX_at HI.out.1 hx)
                  obtain ⟨x0, x1, x2, x3⟩ := fall_cellsC HV.out.2.2.2.1.fall
                  have HGX := toHid (getX_at HI.out.1 hx)
                  clear hx
                  go_wp2
                  go_region_held3 (fun w' => w'.cell? ⟨g, i, none⟩ = some (.int .i64 (x : Int)) ∧ w'.cell? ⟨Q, 0, none⟩ = some (.int .i64 (-1)) ∧ w'.cell? ⟨Q, 1, none⟩ = some (.int .i64 (-1)) ∧ w'.cell? ⟨Q, 2, none⟩ = some (.int .i64 0) ∧ w'.cell? ⟨Q, 3, none⟩ = some (.int .i64 0))
                    (simp [*])
                    ((go_at_call 24; refine hvo.mono ?_; clear hvo cx x0 x1 x2 x3; rintro e w2 ⟨rfl, hv2⟩; have cx := hv2.1.ints i x HGX.out; obtain ⟨x0, x1, x2, x3⟩ := fall_cellsC hv2.1.fall; have HV2 := toHid hv2; clear hv2))
                  clear cx x0 x1 x2 x3
                  go_wp2
                  go_roundw
                  case rel => exact ⟨i + 1, C + 1, true, by simp, by simp, by simp, by rw [bdd_succ, ← HV.out.1, HVT.out]; rfl, by rw [cnt_succ, ← HV.out.2.1, HVT.out]; rfl, HI.out.1, HV2.out⟩
                  case measure => simp [intOf]; exact HI.out.2
              · have HVT : Hid (vt i = 3) := by have := hvP; rw [hPV] at this; exact this
                cases b with
                | false =>
                  have hpk := hpk0 1 hPV
                  clear hpk0 hPV hvP
                  go_wp2_with fail
                  refine hpk.mono ?_
                  clear hpk
                  rintro e wz ⟨rfl, hwz⟩
                  subst hwz
                  have han := vs_answer HV.out.2.2.2 HI.out.1 HV.out.1.symm
                  go_wp2_with fail
                  refine han.mono ?_
                  clear han
                  rintro e wy ⟨rfl, hwy⟩
                  subst hwy
                  have hvo := vs_vote HR.out HVA.out (HV.out.2.2.2.drew hB) hB HI.out.1
                  rw [HVT.out] at hvo
                  obtain ⟨x, hx⟩ : ∃ x, x = l.getD i 0 := ⟨_, rfl⟩
                  rw [← hx] at hvo
                  have cx := HV.out.2.2.2.1.ints i x (getX_at HI.out.1 hx)
                  obtain ⟨x0, x1, x2, x3⟩ := fall_cellsC HV.out.2.2.2.1.fall
                  have HGX := toHid (getX_at HI.out.1 hx)
                  clear hx
                  go_wp2
                  go_region_held3 (fun w' => w'.cell? ⟨g, i, none⟩ = some (.int .i64 (x : Int)) ∧ w'.cell? ⟨Q, 0, none⟩ = some (.int .i64 (-1)) ∧ w'.cell? ⟨Q, 1, none⟩ = some (.int .i64 (-1)) ∧ w'.cell? ⟨Q, 2, none⟩ = some (.int .i64 0) ∧ w'.cell? ⟨Q, 3, none⟩ = some (.int .i64 0))
                    (simp [*])
                    ((go_at_call 24; refine hvo.mono ?_; clear hvo cx x0 x1 x2 x3; rintro e w2 ⟨rfl, hv2⟩; have cx := hv2.1.ints i x HGX.out; obtain ⟨x0, x1, x2, x3⟩ := fall_cellsC hv2.1.fall; have HV2 := toHid hv2; clear hv2))
                  clear cx x0 x1 x2 x3
                  go_wp2
                  go_roundw
                  case rel => exact ⟨i + 1, C, true, by simp, by simp, by simp, by rw [bdd_succ, ← HV.out.1, HVT.out]; rfl, by rw [cnt_succ, ← HV.out.2.1, HVT.out]; rfl, HI.out.1, HV2.out⟩
                  case measure => simp [intOf]; exact HI.out.2
                | true =>
                  have hpk := hpk0 1 hPV
                  clear hpk0 hPV hvP
                  go_wp2_with fail
                  refine hpk.mono ?_
                  clear hpk
                  rintro e wz ⟨rfl, hwz⟩
                  subst hwz
                  have hvo := vs_vote HR.out HVA.out (HV.out.2.2.2.drew hB) hB HI.out.1
                  rw [HVT.out] at hvo
                  obtain ⟨x, hx⟩ : ∃ x, x = l.getD i 0 := ⟨_, rfl⟩
                  rw [← hx] at hvo
                  have cx := HV.out.2.2.2.1.ints i x (getX_at HI.out.1 hx)
                  obtain ⟨x0, x1, x2, x3⟩ := fall_cellsC HV.out.2.2.2.1.fall
                  have HGX := toHid (getX_at HI.out.1 hx)
                  clear hx
                  go_wp2
                  go_region_held3 (fun w' => w'.cell? ⟨g, i, none⟩ = some (.int .i64 (x : Int)) ∧ w'.cell? ⟨Q, 0, none⟩ = some (.int .i64 (-1)) ∧ w'.cell? ⟨Q, 1, none⟩ = some (.int .i64 (-1)) ∧ w'.cell? ⟨Q, 2, none⟩ = some (.int .i64 0) ∧ w'.cell? ⟨Q, 3, none⟩ = some (.int .i64 0))
                    (simp [*])
                    ((go_at_call 24; refine hvo.mono ?_; clear hvo cx x0 x1 x2 x3; rintro e w2 ⟨rfl, hv2⟩; have cx := hv2.1.ints i x HGX.out; obtain ⟨x0, x1, x2, x3⟩ := fall_cellsC hv2.1.fall; have HV2 := toHid hv2; clear hv2))
                  clear cx x0 x1 x2 x3
                  go_wp2
                  go_roundw
                  case rel => exact ⟨i + 1, C, true, by simp, by simp, by simp, by rw [bdd_succ, ← HV.out.1, HVT.out]; rfl, by rw [cnt_succ, ← HV.out.2.1, HVT.out]; rfl, HI.out.1, HV2.out⟩
                  case measure => simp [intOf]; exact HI.out.2
              · have HVT : Hid (vt i = 4) := by have := hvP; rw [hPV] at this; exact this
                cases b with
                | false =>
                  have hpk := hpk0 2 hPV
                  clear hpk0 hPV hvP
                  go_wp2_with fail
                  refine hpk.mono ?_
                  clear hpk
                  rintro e wz ⟨rfl, hwz⟩
                  subst hwz
                  have han := vs_answer HV.out.2.2.2 HI.out.1 HV.out.1.symm
                  go_wp2_with fail
                  refine han.mono ?_
                  clear han
                  rintro e wy ⟨rfl, hwy⟩
                  subst hwy
                  have hvo := vs_vote HR.out HVA.out (HV.out.2.2.2.drew hB) hB HI.out.1
                  rw [HVT.out] at hvo
                  obtain ⟨x, hx⟩ : ∃ x, x = l.getD i 0 := ⟨_, rfl⟩
                  rw [← hx] at hvo
                  have cx := HV.out.2.2.2.1.ints i x (getX_at HI.out.1 hx)
                  obtain ⟨x0, x1, x2, x3⟩ := fall_cellsC HV.out.2.2.2.1.fall
                  have HGX := toHid (getX_at HI.out.1 hx)
                  clear hx
                  go_wp2
                  go_region_held3 (fun w' => w'.cell? ⟨g, i, none⟩ = some (.int .i64 (x : Int)) ∧ w'.cell? ⟨Q, 0, none⟩ = some (.int .i64 (-1)) ∧ w'.cell? ⟨Q, 1, none⟩ = some (.int .i64 (-1)) ∧ w'.cell? ⟨Q, 2, none⟩ = some (.int .i64 0) ∧ w'.cell? ⟨Q, 3, none⟩ = some (.int .i64 0))
                    (simp [*])
                    ((go_at_call 24; refine hvo.mono ?_; clear hvo cx x0 x1 x2 x3; rintro e w2 ⟨rfl, hv2⟩; have cx := hv2.1.ints i x HGX.out; obtain ⟨x0, x1, x2, x3⟩ := fall_cellsC hv2.1.fall; have HV2 := toHid hv2; clear hv2))
                  clear cx x0 x1 x2 x3
                  go_wp2
                  go_roundw
                  case rel => exact ⟨i + 1, C, false, by simp, by simp, by simp, by rw [bdd_succ, ← HV.out.1, HVT.out]; rfl, by rw [cnt_succ, ← HV.out.2.1, HVT.out]; rfl, HI.out.1, HV2.out⟩
                  case measure => simp [intOf]; exact HI.out.2
                | true =>
                  have hpk := hpk0 2 hPV
                  clear hpk0 hPV hvP
                  go_wp2_with fail
                  refine hpk.mono ?_
                  clear hpk
                  rintro e wz ⟨rfl, hwz⟩
                  subst hwz
                  have hvo := vs_vote HR.out HVA.out (HV.out.2.2.2.drew hB) hB HI.out.1
                  rw [HVT.out] at hvo
                  obtain ⟨x, hx⟩ : ∃ x, x = l.getD i 0 := ⟨_, rfl⟩
                  rw [← hx] at hvo
                  have cx := HV.out.2.2.2.1.ints i x (getX_at HI.out.1 hx)
                  obtain ⟨x0, x1, x2, x3⟩ := fall_cellsC HV.out.2.2.2.1.fall
                  have HGX := toHid (getX_at HI.out.1 hx)
                  clear hx
                  go_wp2
                  go_region_held3 (fun w' => w'.cell? ⟨g, i, none⟩ = some (.int .i64 (x : Int)) ∧ w'.cell? ⟨Q, 0, none⟩ = some (.int .i64 (-1)) ∧ w'.cell? ⟨Q, 1, none⟩ = some (.int .i64 (-1)) ∧ w'.cell? ⟨Q, 2, none⟩ = some (.int .i64 0) ∧ w'.cell? ⟨Q, 3, none⟩ = some (.int .i64 0))
                    (simp [*])
                    ((go_at_call 24; refine hvo.mono ?_; clear hvo cx x0 x1 x2 x3; rintro e w2 ⟨rfl, hv2⟩; have cx := hv2.1.ints i x HGX.out; obtain ⟨x0, x1, x2, x3⟩ := fall_cellsC hv2.1.fall; have HV2 := toHid hv2; clear hv2))
                  clear cx x0 x1 x2 x3
                  go_wp2
                  go_roundw
                  case rel => exact ⟨i + 1, C, true, by simp, by simp, by simp, by rw [bdd_succ, ← HV.out.1, HVT.out]; rfl, by rw [cnt_succ, ← HV.out.2.1, HVT.out]; rfl, HI.out.1, HV2.out⟩
                  case measure => simp [intOf]; exact HI.out.2
            · have HVT : Hid (vt i = 2) := by show vt i = 2; rw [HVE.out]; exact if_neg hin
              have i1 : ¬ (i : Int) < (n1 : Int) := n_lt hin
              clear hin
              cases b with
              | false =>
                have han := vs_answer HV.out.2.2.2 HI.out.1 HV.out.1.symm
                go_wp2_with fail
                refine han.mono ?_
                clear han
                rintro e wy ⟨rfl, hwy⟩
                subst hwy
                have hvo := vs_vote HR.out HVA.out (HV.out.2.2.2.drew hB) hB HI.out.1
                rw [HVT.out] at hvo
                obtain ⟨x, hx⟩ : ∃ x, x = l.getD i 0 := ⟨_, rfl⟩
                rw [← hx] at hvo
                have cx := HV.out.2.2.2.1.ints i x (getX_at HI.out.1 hx)
                obtain ⟨x0, x1, x2, x3⟩ := fall_cellsC HV.out.2.2.2.1.fall
                have HGX := toHid (getX_at HI.out.1 hx)
                clear hx
                go_wp2
                go_region_held3 (fun w' => w'.cell? ⟨g, i, none⟩ = some (.int .i64 (x : Int)) ∧ w'.cell? ⟨Q, 0, none⟩ = some (.int .i64 (-1)) ∧ w'.cell? ⟨Q, 1, none⟩ = some (.int .i64 (-1)) ∧ w'.cell? ⟨Q, 2, none⟩ = some (.int .i64 0) ∧ w'.cell? ⟨Q, 3, none⟩ = some (.int .i64 0))
                  (simp [*])
                  ((go_at_call 24; refine hvo.mono ?_; clear hvo cx x0 x1 x2 x3; rintro e w2 ⟨rfl, hv2⟩; have cx := hv2.1.ints i x HGX.out; obtain ⟨x0, x1, x2, x3⟩ := fall_cellsC hv2.1.fall; have HV2 := toHid hv2; clear hv2))
                clear cx x0 x1 x2 x3
                go_wp2
                go_roundw
                case rel => exact ⟨i + 1, C + 1, false, by simp, by simp, by simp, by rw [bdd_succ, ← HV.out.1, HVT.out]; rfl, by rw [cnt_succ, ← HV.out.2.1, HVT.out]; rfl, HI.out.1, HV2.out⟩
                case measure => simp [intOf]; exact HI.out.2
              | true =>
                have hvo := vs_vote HR.out HVA.out (HV.out.2.2.2.drew hB) hB HI.out.1
                rw [HVT.out] at hvo
                obtain ⟨x, hx⟩ : ∃ x, x = l.getD i 0 := ⟨_, rfl⟩
                rw [← hx] at hvo
                have cx := HV.out.2.2.2.1.ints i x (getX_at HI.out.1 hx)
                obtain ⟨x0, x1, x2, x3⟩ := fall_cellsC HV.out.2.2.2.1.fall
                have HGX := toHid (getX_at HI.out.1 hx)
                clear hx
                go_wp2
                go_region_held3 (fun w' => w'.cell? ⟨g, i, none⟩ = some (.int .i64 (x : Int)) ∧ w'.cell? ⟨Q, 0, none⟩ = some (.int .i64 (-1)) ∧ w'.cell? ⟨Q, 1, none⟩ = some (.int .i64 (-1)) ∧ w'.cell? ⟨Q, 2, none⟩ = some (.int .i64 0) ∧ w'.cell? ⟨Q, 3, none⟩ = some (.int .i64 0))
                  (simp [*])
                  ((go_at_call 24; refine hvo.mono ?_; clear hvo cx x0 x1 x2 x3; rintro e w2 ⟨rfl, hv2⟩; have cx := hv2.1.ints i x HGX.out; obtain ⟨x0, x1, x2, x3⟩ := fall_cellsC hv2.1.fall; have HV2 := toHid hv2; clear hv2))
                clear cx x0 x1 x2 x3
                go_wp2
                go_roundw
                case rel => exact ⟨i + 1, C + 1, true, by simp, by simp, by simp, by rw [bdd_succ, ← HV.out.1, HVT.out]; rfl, by rw [cnt_succ, ← HV.out.2.1, HVT.out]; rfl, HI.out.1, HV2.out⟩
                case measure => simp [intOf]; exact HI.out.2
          · have hie : i = m + 1 := by have := HV.out.2.2.1; rw [HM.out] at this; omega
            subst hie
            have HVL : Hid (VS w w.heap.size hp Q g l vt l.length wr) := by have := HV.out.2.2.2; rw [← HM.out] at this; exact this
            have HBC : Hid (b = bdd vt l.length ∧ C = cnt vt l.length) := by rw [HM.out]; exact ⟨HV.out.1, HV.out.2.1⟩
            clear HV hil
            obtain ⟨P, hP⟩ : ∃ P, P = pkC lose 2 := ⟨_, rfl⟩
            have hP2 : P = 0 ∨ P = 1 := c2P (by rw [hP]; exact pk_ltC _ _ (by decide))
            have hpk0 : ∀ r : Nat, P = r → Calls Tryz.prog 11 #[.int .i64 lose, .int .i64 2] wr fun e w' => e = .returned (.int .i64 (r : Int)) ∧ w' = wr := fun r hr => by
              have := pick_fnC lose 2 wr hl1 hl2 (by decide) (by decide)
              rw [← hP, hr] at this; exact this
            clear hP
            rcases hP2 with hPV | hPV
            · have hpk := hpk0 0 hPV
              clear hpk0 hPV
              go_wp2_with fail
              refine hpk.mono ?_
              clear hpk
              rintro e wz ⟨rfl, hwz⟩
              subst hwz
              have HD0 := toHid (vs_ds HR.out HVL.out)
              clear HVL
              cases b with
              | true =>
                have han := ds_answer_no HD0.out (.inl HBC.out.1.symm)
                go_wp2_with fail
                refine han.mono ?_
                clear han
                rintro e wy ⟨rfl, hwy⟩
                subst hwy
                go_wp2
                go_ret
                exact ⟨rfl, HD0.out.1.below⟩
              | false =>
                by_cases hC0 : C = 0
                · have han := ds_answer_no HD0.out (.inr fun hex => by have := (cnt_lt (Nat.zero_le _)).2 hex; rw [← HBC.out.2, hC0] at this; exact absurd this (Nat.not_lt_zero _))
                  subst hC0
                  go_wp2_with fail
                  refine han.mono ?_
                  clear han
                  rintro e wy ⟨rfl, hwy⟩
                  subst hwy
                  go_wp2
                  go_ret
                  exact ⟨rfl, HD0.out.1.below⟩
                · have han := ds_answer HD0.out HBC.out.1.symm ((cnt_lt (Nat.zero_le _)).1 (by rw [← HBC.out.2]; exact Nat.pos_of_ne_zero hC0))
                  obtain ⟨z1, z2⟩ := nzP hC0
                  go_wp2_with fail
                  refine han.mono ?_
                  clear han
                  rintro e wy ⟨rfl, hwy⟩
                  subst hwy
                  go_wp2
                  have HBC' : Hid (bdd vt l.length = false ∧ C = cnt vt l.length) := ⟨HBC.out.1.symm, HBC.out.2⟩
                  clear HBC z1 z2
                  have HBC := HBC'
                  clear HBC'
                  go_loopw [22, 23] (fun v22 v23 wr => ∃ (i D : Nat), v22 = .int .i64 (D : Int) ∧ v23 = .int .i64 (i : Int) ∧ Hid (D = cnt vt i ∧ i ≤ l.length ∧ DS w w.heap.size hp Q g l vt i wr)) (fun _ v23 _ => m + 1 - (intOf v23).toNat)
                  case atStart => exact ⟨0, 0, rfl, rfl, rfl, Nat.zero_le _, HD0.out⟩
                  case round =>
                    obtain ⟨i, D, rfl, rfl, HD⟩ := hrel
                    by_cases hil : i < m + 1
                    · have HI : Hid (i < l.length ∧ m - i < m + 1 - i) := ⟨by rw [HM.out]; exact hil, msP hil⟩
                      have hD20 : D ≤ 20 := by rw [HD.out.1]; exact Nat.le_trans (cnt_le vt i) (by omega)
                      obtain ⟨j1, j2, j3⟩ := ltP hil
                      obtain ⟨q1, q2⟩ := s1P (show i ≤ 20 by omega)
                      obtain ⟨q3, q4⟩ := s1P hD20
                      clear hD20
                      by_cases hin : i < n1
                      · obtain ⟨bb, off, hao, hbl, hcell, hb1, hb2⟩ := HI1'.out i hin
                        subst hao
                        have ci := (HD.out.2.2.1.below.cell (p := ⟨bb, off + i, none⟩) hbl).trans hcell
                        have i1 : (i : Int) < (n1 : Int) := c_lt hin
                        obtain ⟨P, hP⟩ : ∃ P, P = pkC (S1 i) 3 := ⟨_, rfl⟩
                        have hP3 : P = 0 ∨ P = 1 ∨ P = 2 := c3P (by rw [hP]; exact pk_ltC _ _ (by decide))
                        have hpk0 : ∀ r : Nat, P = r → Calls Tryz.prog 11 #[.int .i64 (S1 i), .int .i64 3] wr fun e w' => e = .returned (.int .i64 (r : Int)) ∧ w' = wr := fun r hr => by
                          have := pick_fnC (S1 i) 3 wr hb1 hb2 (by decide) (by decide)
                          rw [← hP, hr] at this; exact this
                        have hvP : vt i = 2 + P := by rw [HVE.out, hP]; exact if_pos hin
                        clear hP hcell hb1 hb2 hbl hin
                        rcases hP3 with hPV | hPV | hPV
                        · have HVT : Hid (vt i = 2) := by have := hvP; rw [hPV] at this; exact this
                          have hDC : D < C := by rw [HD.out.1, HBC.out.2]; exact (cnt_lt HD.out.2.1).2 ⟨i, Nat.le_refl _, HI.out.1, HVT.out⟩
                          have cDC : (D : Int) < (C : Int) := c_lt hDC
                          have hpk := hpk0 0 hPV
                          clear hpk0 hPV hvP
                          go_wp2_with fail
                          refine hpk.mono ?_
                          clear hpk
                          rintro e wz ⟨rfl, hwz⟩
                          subst hwz
                          have han := ds_answer HD.out.2.2 HBC.out.1 ((cnt_lt HD.out.2.1).1 (by rw [← HD.out.1, ← HBC.out.2]; exact hDC))
                          go_wp2_with fail
                          refine han.mono ?_
                          clear han
                          rintro e wy ⟨rfl, hwy⟩
                          subst hwy
                          have hdo := ds_done HR.out (HD.out.2.2.drew hB HD.out.2.2.1.below.size) hB HI.out.1 HBC.out.1 HVT.out
                          obtain ⟨x, hx⟩ : ∃ x, x = l.getD i 0 := ⟨_, rfl⟩
                          rw [← hx] at hdo
                          have cx := HD.out.2.2.1.ints i x (getX_at HI.out.1 hx)
                          obtain ⟨x0, x1, x2, x3⟩ := fall_cellsC HD.out.2.2.1.fall
                          have HGX := toHid (getX_at HI.out.1 hx)
                          clear hx
                          go_wp2
                          go_region_held3 (fun w' => w'.cell? ⟨g, i, none⟩ = some (.int .i64 (x : Int)) ∧ w'.cell? ⟨Q, 0, none⟩ = some (.int .i64 (-1)) ∧ w'.cell? ⟨Q, 1, none⟩ = some (.int .i64 (-1)) ∧ w'.cell? ⟨Q, 2, none⟩ = some (.int .i64 0) ∧ w'.cell? ⟨Q, 3, none⟩ = some (.int .i64 0))
                            (simp [*])
                            ((go_at_call 25; refine hdo.mono ?_; clear hdo cx x0 x1 x2 x3; rintro e w2 ⟨rfl, hv2⟩; have cx := hv2.1.ints i x HGX.out; obtain ⟨x0, x1, x2, x3⟩ := fall_cellsC hv2.1.fall; have HV2 := toHid hv2; clear hv2))
                          clear cx x0 x1 x2 x3
                          go_wp2
                          go_roundw
                          case rel => exact ⟨i + 1, D + 1, by simp, by simp, by rw [cnt_succ, ← HD.out.1, HVT.out]; rfl, HI.out.1, HV2.out⟩
                          case measure => simp [intOf]; exact HI.out.2
                        · have HVT : Hid (vt i = 3) := by have := hvP; rw [hPV] at this; exact this
                          by_cases hDC : D < C
                          · have cDC : (D : Int) < (C : Int) := c_lt hDC
                            have hpk := hpk0 1 hPV
                            clear hpk0 hPV hvP
                            go_wp2_with fail
                            refine hpk.mono ?_
                            clear hpk
                            rintro e wz ⟨rfl, hwz⟩
                            subst hwz
                            have han := ds_answer HD.out.2.2 HBC.out.1 ((cnt_lt HD.out.2.1).1 (by rw [← HD.out.1, ← HBC.out.2]; exact hDC))
                            go_wp2_with fail
                            refine han.mono ?_
                            clear han
                            rintro e wy ⟨rfl, hwy⟩
                            subst hwy
                            go_wp2
                            go_roundw
                            case rel => exact ⟨i + 1, D, by simp, by simp, by rw [cnt_succ, ← HD.out.1, HVT.out]; rfl, HI.out.1, ds_skip HD.out.2.2 (by rw [HVT.out]; decide)⟩
                            case measure => simp [intOf]; exact HI.out.2
                          · have cDC : ¬ (D : Int) < (C : Int) := n_lt hDC
                            have hpk := hpk0 1 hPV
                            clear hpk0 hPV hvP
                            go_wp2_with fail
                            refine hpk.mono ?_
                            clear hpk
                            rintro e wz ⟨rfl, hwz⟩
                            subst hwz
                            have han := ds_answer_no HD.out.2.2 (.inr fun hex => hDC (by rw [HD.out.1, HBC.out.2]; exact (cnt_lt HD.out.2.1).2 hex))
                            go_wp2_with fail
                            refine han.mono ?_
                            clear han
                            rintro e wy ⟨rfl, hwy⟩
                            subst hwy
                            go_wp2
                            go_roundw
                            case rel => exact ⟨i + 1, D, by simp, by simp, by rw [cnt_succ, ← HD.out.1, HVT.out]; rfl, HI.out.1, ds_skip HD.out.2.2 (by rw [HVT.out]; decide)⟩
                            case measure => simp [intOf]; exact HI.out.2
                        · have HVT : Hid (vt i = 4) := by have := hvP; rw [hPV] at this; exact this
                          by_cases hDC : D < C
                          · have cDC : (D : Int) < (C : Int) := c_lt hDC
                            have hpk := hpk0 2 hPV
                            clear hpk0 hPV hvP
                            go_wp2_with fail
                            refine hpk.mono ?_
                            clear hpk
                            rintro e wz ⟨rfl, hwz⟩
                            subst hwz
                            have han := ds_answer HD.out.2.2 HBC.out.1 ((cnt_lt HD.out.2.1).1 (by rw [← HD.out.1, ← HBC.out.2]; exact hDC))
                            go_wp2_with fail
                            refine han.mono ?_
                            clear han
                            rintro e wy ⟨rfl, hwy⟩
                            subst hwy
                            go_wp2
                            go_roundw
                            case rel => exact ⟨i + 1, D, by simp, by simp, by rw [cnt_succ, ← HD.out.1, HVT.out]; rfl, HI.out.1, ds_skip HD.out.2.2 (by rw [HVT.out]; decide)⟩
                            case measure => simp [intOf]; exact HI.out.2
                          · have cDC : ¬ (D : Int) < (C : Int) := n_lt hDC
                            have hpk := hpk0 2 hPV
                            clear hpk0 hPV hvP
                            go_wp2_with fail
                            refine hpk.mono ?_
                            clear hpk
                            rintro e wz ⟨rfl, hwz⟩
                            subst hwz
                            have han := ds_answer_no HD.out.2.2 (.inr fun hex => hDC (by rw [HD.out.1, HBC.out.2]; exact (cnt_lt HD.out.2.1).2 hex))
                            go_wp2_with fail
                            refine han.mono ?_
                            clear han
                            rintro e wy ⟨rfl, hwy⟩
                            subst hwy
                            go_wp2
                            go_roundw
                            case rel => exact ⟨i + 1, D, by simp, by simp, by rw [cnt_succ, ← HD.out.1, HVT.out]; rfl, HI.out.1, ds_skip HD.out.2.2 (by rw [HVT.out]; decide)⟩
                            case measure => simp [intOf]; exact HI.out.2
                      · have HVT : Hid (vt i = 2) := by show vt i = 2; rw [HVE.out]; exact if_neg hin
                        have i1 : ¬ (i : Int) < (n1 : Int) := n_lt hin
                        clear hin
                        have hDC : D < C := by rw [HD.out.1, HBC.out.2]; exact (cnt_lt HD.out.2.1).2 ⟨i, Nat.le_refl _, HI.out.1, HVT.out⟩
                        have cDC : (D : Int) < (C : Int) := c_lt hDC
                        have han := ds_answer HD.out.2.2 HBC.out.1 ((cnt_lt HD.out.2.1).1 (by rw [← HD.out.1, ← HBC.out.2]; exact hDC))
                        go_wp2_with fail
                        refine han.mono ?_
                        clear han
                        rintro e wy ⟨rfl, hwy⟩
                        subst hwy
                        have hdo := ds_done HR.out (HD.out.2.2.drew hB HD.out.2.2.1.below.size) hB HI.out.1 HBC.out.1 HVT.out
                        obtain ⟨x, hx⟩ : ∃ x, x = l.getD i 0 := ⟨_, rfl⟩
                        rw [← hx] at hdo
                        have cx := HD.out.2.2.1.ints i x (getX_at HI.out.1 hx)
                        obtain ⟨x0, x1, x2, x3⟩ := fall_cellsC HD.out.2.2.1.fall
                        have HGX := toHid (getX_at HI.out.1 hx)
                        clear hx
                        go_wp2
                        go_region_held3 (fun w' => w'.cell? ⟨g, i, none⟩ = some (.int .i64 (x : Int)) ∧ w'.cell? ⟨Q, 0, none⟩ = some (.int .i64 (-1)) ∧ w'.cell? ⟨Q, 1, none⟩ = some (.int .i64 (-1)) ∧ w'.cell? ⟨Q, 2, none⟩ = some (.int .i64 0) ∧ w'.cell? ⟨Q, 3, none⟩ = some (.int .i64 0))
                          (simp [*])
                          ((go_at_call 25; refine hdo.mono ?_; clear hdo cx x0 x1 x2 x3; rintro e w2 ⟨rfl, hv2⟩; have cx := hv2.1.ints i x HGX.out; obtain ⟨x0, x1, x2, x3⟩ := fall_cellsC hv2.1.fall; have HV2 := toHid hv2; clear hv2))
                        clear cx x0 x1 x2 x3
                        go_wp2
                        go_roundw
                        case rel => exact ⟨i + 1, D + 1, by simp, by simp, by rw [cnt_succ, ← HD.out.1, HVT.out]; rfl, HI.out.1, HV2.out⟩
                        case measure => simp [intOf]; exact HI.out.2
                    · have hie : i = m + 1 := by have := HD.out.2.1; rw [HM.out] at this; omega
                      subst hie
                      have han := ds_answer_no HD.out.2.2 (.inr fun ⟨j, a1, a2, _⟩ => by rw [HM.out] at a2; omega)
                      go_wp2_with fail
                      refine han.mono ?_
                      clear han
                      rintro e wy ⟨rfl, hwy⟩
                      subst hwy
                      go_wp2
                      go_ret
                      exact ⟨rfl, HD.out.2.2.1.below⟩
            · have hpk := hpk0 1 hPV
              clear hpk0 hPV
              go_wp2_with fail
              refine hpk.mono ?_
              clear hpk
              rintro e wz ⟨rfl, hwz⟩
              subst hwz
              have hlo := vs_lose HR.out kept HVL.out hB hhp
              go_wp2_with fail
              refine hlo.mono ?_
              clear hlo HVL
              rintro e w7 ⟨rfl, hL7⟩
              have hop := vs_open HR.out HVA.out hL7 hB hhp
              obtain ⟨x0, x1, x2, x3⟩ := fall_cellsC hL7.1.fall
              clear hL7
              go_wp2_with fail
              refine hop.mono ?_
              clear hop x0 x1 x2 x3
              rintro e w8 ⟨rfl, hD8⟩
              have HD0 := toHid hD8
              clear hD8
              cases b with
              | true =>
                have han := ds_answer_no HD0.out (.inl HBC.out.1.symm)
                go_wp2_with fail
                refine han.mono ?_
                clear han
                rintro e wy ⟨rfl, hwy⟩
                subst hwy
                go_wp2
                go_ret
                exact ⟨rfl, HD0.out.1.below⟩
              | false =>
                by_cases hC0 : C = 0
                · have han := ds_answer_no HD0.out (.inr fun hex => by have := (cnt_lt (Nat.zero_le _)).2 hex; rw [← HBC.out.2, hC0] at this; exact absurd this (Nat.not_lt_zero _))
                  subst hC0
                  go_wp2_with fail
                  refine han.mono ?_
                  clear han
                  rintro e wy ⟨rfl, hwy⟩
                  subst hwy
                  go_wp2
                  go_ret
                  exact ⟨rfl, HD0.out.1.below⟩
                · have han := ds_answer HD0.out HBC.out.1.symm ((cnt_lt (Nat.zero_le _)).1 (by rw [← HBC.out.2]; exact Nat.pos_of_ne_zero hC0))
                  obtain ⟨z1, z2⟩ := nzP hC0
                  go_wp2_with fail
                  refine han.mono ?_
                  clear han
                  rintro e wy ⟨rfl, hwy⟩
                  subst hwy
                  go_wp2
                  have HBC' : Hid (bdd vt l.length = false ∧ C = cnt vt l.length) := ⟨HBC.out.1.symm, HBC.out.2⟩
                  clear HBC z1 z2
                  have HBC := HBC'
                  clear HBC'
                  go_loopw [22, 23] (fun v22 v23 wr => ∃ (i D : Nat), v22 = .int .i64 (D : Int) ∧ v23 = .int .i64 (i : Int) ∧ Hid (D = cnt vt i ∧ i ≤ l.length ∧ DS w w.heap.size hp Q g l vt i wr)) (fun _ v23 _ => m + 1 - (intOf v23).toNat)
                  case atStart => exact ⟨0, 0, rfl, rfl, rfl, Nat.zero_le _, HD0.out⟩
                  case round =>
                    obtain ⟨i, D, rfl, rfl, HD⟩ := hrel
                    by_cases hil : i < m + 1
                    · have HI : Hid (i < l.length ∧ m - i < m + 1 - i) := ⟨by rw [HM.out]; exact hil, msP hil⟩
                      have hD20 : D ≤ 20 := by rw [HD.out.1]; exact Nat.le_trans (cnt_le vt i) (by omega)
                      obtain ⟨j1, j2, j3⟩ := ltP hil
                      obtain ⟨q1, q2⟩ := s1P (show i ≤ 20 by omega)
                      obtain ⟨q3, q4⟩ := s1P hD20
                      clear hD20
                      by_cases hin : i < n1
                      · obtain ⟨bb, off, hao, hbl, hcell, hb1, hb2⟩ := HI1'.out i hin
                        subst hao
                        have ci := (HD.out.2.2.1.below.cell (p := ⟨bb, off + i, none⟩) hbl).trans hcell
                        have i1 : (i : Int) < (n1 : Int) := c_lt hin
                        obtain ⟨P, hP⟩ : ∃ P, P = pkC (S1 i) 3 := ⟨_, rfl⟩
                        have hP3 : P = 0 ∨ P = 1 ∨ P = 2 := c3P (by rw [hP]; exact pk_ltC _ _ (by decide))
                        have hpk0 : ∀ r : Nat, P = r → Calls Tryz.prog 11 #[.int .i64 (S1 i), .int .i64 3] wr fun e w' => e = .returned (.int .i64 (r : Int)) ∧ w' = wr := fun r hr => by
                          have := pick_fnC (S1 i) 3 wr hb1 hb2 (by decide) (by decide)
                          rw [← hP, hr] at this; exact this
                        have hvP : vt i = 2 + P := by rw [HVE.out, hP]; exact if_pos hin
                        clear hP hcell hb1 hb2 hbl hin
                        rcases hP3 with hPV | hPV | hPV
                        · have HVT : Hid (vt i = 2) := by have := hvP; rw [hPV] at this; exact this
                          have hDC : D < C := by rw [HD.out.1, HBC.out.2]; exact (cnt_lt HD.out.2.1).2 ⟨i, Nat.le_refl _, HI.out.1, HVT.out⟩
                          have cDC : (D : Int) < (C : Int) := c_lt hDC
                          have hpk := hpk0 0 hPV
                          clear hpk0 hPV hvP
                          go_wp2_with fail
                          refine hpk.mono ?_
                          clear hpk
                          rintro e wz ⟨rfl, hwz⟩
                          subst hwz
                          have han := ds_answer HD.out.2.2 HBC.out.1 ((cnt_lt HD.out.2.1).1 (by rw [← HD.out.1, ← HBC.out.2]; exact hDC))
                          go_wp2_with fail
                          refine han.mono ?_
                          clear han
                          rintro e wy ⟨rfl, hwy⟩
                          subst hwy
                          have hdo := ds_done HR.out (HD.out.2.2.drew hB HD.out.2.2.1.below.size) hB HI.out.1 HBC.out.1 HVT.out
                          obtain ⟨x, hx⟩ : ∃ x, x = l.getD i 0 := ⟨_, rfl⟩
                          rw [← hx] at hdo
                          have cx := HD.out.2.2.1.ints i x (getX_at HI.out.1 hx)
                          obtain ⟨x0, x1, x2, x3⟩ := fall_cellsC HD.out.2.2.1.fall
                          have HGX := toHid (getX_at HI.out.1 hx)
                          clear hx
                          go_wp2
                          go_region_held3 (fun w' => w'.cell? ⟨g, i, none⟩ = some (.int .i64 (x : Int)) ∧ w'.cell? ⟨Q, 0, none⟩ = some (.int .i64 (-1)) ∧ w'.cell? ⟨Q, 1, none⟩ = some (.int .i64 (-1)) ∧ w'.cell? ⟨Q, 2, none⟩ = some (.int .i64 0) ∧ w'.cell? ⟨Q, 3, none⟩ = some (.int .i64 0))
                            (simp [*])
                            ((go_at_call 25; refine hdo.mono ?_; clear hdo cx x0 x1 x2 x3; rintro e w2 ⟨rfl, hv2⟩; have cx := hv2.1.ints i x HGX.out; obtain ⟨x0, x1, x2, x3⟩ := fall_cellsC hv2.1.fall; have HV2 := toHid hv2; clear hv2))
                          clear cx x0 x1 x2 x3
                          go_wp2
                          go_roundw
                          case rel => exact ⟨i + 1, D + 1, by simp, by simp, by rw [cnt_succ, ← HD.out.1, HVT.out]; rfl, HI.out.1, HV2.out⟩
                          case measure => simp [intOf]; exact HI.out.2
                        · have HVT : Hid (vt i = 3) := by have := hvP; rw [hPV] at this; exact this
                          by_cases hDC : D < C
                          · have cDC : (D : Int) < (C : Int) := c_lt hDC
                            have hpk := hpk0 1 hPV
                            clear hpk0 hPV hvP
                            go_wp2_with fail
                            refine hpk.mono ?_
                            clear hpk
                            rintro e wz ⟨rfl, hwz⟩
                            subst hwz
                            have han := ds_answer HD.out.2.2 HBC.out.1 ((cnt_lt HD.out.2.1).1 (by rw [← HD.out.1, ← HBC.out.2]; exact hDC))
                            go_wp2_with fail
                            refine han.mono ?_
                            clear han
                            rintro e wy ⟨rfl, hwy⟩
                            subst hwy
                            go_wp2
                            go_roundw
                            case rel => exact ⟨i + 1, D, by simp, by simp, by rw [cnt_succ, ← HD.out.1, HVT.out]; rfl, HI.out.1, ds_skip HD.out.2.2 (by rw [HVT.out]; decide)⟩
                            case measure => simp [intOf]; exact HI.out.2
                          · have cDC : ¬ (D : Int) < (C : Int) := n_lt hDC
                            have hpk := hpk0 1 hPV
                            clear hpk0 hPV hvP
                            go_wp2_with fail
                            refine hpk.mono ?_
                            clear hpk
                            rintro e wz ⟨rfl, hwz⟩
                            subst hwz
                            have han := ds_answer_no HD.out.2.2 (.inr fun hex => hDC (by rw [HD.out.1, HBC.out.2]; exact (cnt_lt HD.out.2.1).2 hex))
                            go_wp2_with fail
                            refine han.mono ?_
                            clear han
                            rintro e wy ⟨rfl, hwy⟩
                            subst hwy
                            go_wp2
                            go_roundw
                            case rel => exact ⟨i + 1, D, by simp, by simp, by rw [cnt_succ, ← HD.out.1, HVT.out]; rfl, HI.out.1, ds_skip HD.out.2.2 (by rw [HVT.out]; decide)⟩
                            case measure => simp [intOf]; exact HI.out.2
                        · have HVT : Hid (vt i = 4) := by have := hvP; rw [hPV] at this; exact this
                          by_cases hDC : D < C
                          · have cDC : (D : Int) < (C : Int) := c_lt hDC
                            have hpk := hpk0 2 hPV
                            clear hpk0 hPV hvP
                            go_wp2_with fail
                            refine hpk.mono ?_
                            clear hpk
                            rintro e wz ⟨rfl, hwz⟩
                            subst hwz
                            have han := ds_answer HD.out.2.2 HBC.out.1 ((cnt_lt HD.out.2.1).1 (by rw [← HD.out.1, ← HBC.out.2]; exact hDC))
                            go_wp2_with fail
                            refine han.mono ?_
                            clear han
                            rintro e wy ⟨rfl, hwy⟩
                            subst hwy
                            go_wp2
                            go_roundw
                            case rel => exact ⟨i + 1, D, by simp, by simp, by rw [cnt_succ, ← HD.out.1, HVT.out]; rfl, HI.out.1, ds_skip HD.out.2.2 (by rw [HVT.out]; decide)⟩
                            case measure => simp [intOf]; exact HI.out.2
                          · have cDC : ¬ (D : Int) < (C : Int) := n_lt hDC
                            have hpk := hpk0 2 hPV
                            clear hpk0 hPV hvP
                            go_wp2_with fail
                            refine hpk.mono ?_
                            clear hpk
                            rintro e wz ⟨rfl, hwz⟩
                            subst hwz
                            have han := ds_answer_no HD.out.2.2 (.inr fun hex => hDC (by rw [HD.out.1, HBC.out.2]; exact (cnt_lt HD.out.2.1).2 hex))
                            go_wp2_with fail
                            refine han.mono ?_
                            clear han
                            rintro e wy ⟨rfl, hwy⟩
                            subst hwy
                            go_wp2
                            go_roundw
                            case rel => exact ⟨i + 1, D, by simp, by simp, by rw [cnt_succ, ← HD.out.1, HVT.out]; rfl, HI.out.1, ds_skip HD.out.2.2 (by rw [HVT.out]; decide)⟩
                            case measure => simp [intOf]; exact HI.out.2
                      · have HVT : Hid (vt i = 2) := by show vt i = 2; rw [HVE.out]; exact if_neg hin
                        have i1 : ¬ (i : Int) < (n1 : Int) := n_lt hin
                        clear hin
                        have hDC : D < C := by rw [HD.out.1, HBC.out.2]; exact (cnt_lt HD.out.2.1).2 ⟨i, Nat.le_refl _, HI.out.1, HVT.out⟩
                        have cDC : (D : Int) < (C : Int) := c_lt hDC
                        have han := ds_answer HD.out.2.2 HBC.out.1 ((cnt_lt HD.out.2.1).1 (by rw [← HD.out.1, ← HBC.out.2]; exact hDC))
                        go_wp2_with fail
                        refine han.mono ?_
                        clear han
                        rintro e wy ⟨rfl, hwy⟩
                        subst hwy
                        have hdo := ds_done HR.out (HD.out.2.2.drew hB HD.out.2.2.1.below.size) hB HI.out.1 HBC.out.1 HVT.out
                        obtain ⟨x, hx⟩ : ∃ x, x = l.getD i 0 := ⟨_, rfl⟩
                        rw [← hx] at hdo
                        have cx := HD.out.2.2.1.ints i x (getX_at HI.out.1 hx)
                        obtain ⟨x0, x1, x2, x3⟩ := fall_cellsC HD.out.2.2.1.fall
                        have HGX := toHid (getX_at HI.out.1 hx)
                        clear hx
                        go_wp2
                        go_region_held3 (fun w' => w'.cell? ⟨g, i, none⟩ = some (.int .i64 (x : Int)) ∧ w'.cell? ⟨Q, 0, none⟩ = some (.int .i64 (-1)) ∧ w'.cell? ⟨Q, 1, none⟩ = some (.int .i64 (-1)) ∧ w'.cell? ⟨Q, 2, none⟩ = some (.int .i64 0) ∧ w'.cell? ⟨Q, 3, none⟩ = some (.int .i64 0))
                          (simp [*])
                          ((go_at_call 25; refine hdo.mono ?_; clear hdo cx x0 x1 x2 x3; rintro e w2 ⟨rfl, hv2⟩; have cx := hv2.1.ints i x HGX.out; obtain ⟨x0, x1, x2, x3⟩ := fall_cellsC hv2.1.fall; have HV2 := toHid hv2; clear hv2))
                        clear cx x0 x1 x2 x3
                        go_wp2
                        go_roundw
                        case rel => exact ⟨i + 1, D + 1, by simp, by simp, by rw [cnt_succ, ← HD.out.1, HVT.out]; rfl, HI.out.1, HV2.out⟩
                        case measure => simp [intOf]; exact HI.out.2
                    · have hie : i = m + 1 := by have := HD.out.2.1; rw [HM.out] at this; omega
                      subst hie
                      have han := ds_answer_no HD.out.2.2 (.inr fun ⟨j, a1, a2, _⟩ => by rw [HM.out] at a2; omega)
                      go_wp2_with fail
                      refine han.mono ?_
                      clear han
                      rintro e wy ⟨rfl, hwy⟩
                      subst hwy
                      go_wp2
                      go_ret
                      exact ⟨rfl, HD.out.2.2.1.below⟩
end Go.Proofs.YtejiankgafjppabGreatDoor
