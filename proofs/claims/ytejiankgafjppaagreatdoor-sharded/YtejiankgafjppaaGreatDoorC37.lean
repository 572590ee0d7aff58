import Derived.Test.YtejiankgafjppaaGreatDoorC36
/- THE DOCUMENT'S SHARD: set. (Written by mkrsj.py.) -/
namespace Go.Proofs.YtejiankgafjppaaGreatDoor
open Go.RowKit Go.Maps
open Sc

abbrev lockV (l : RLock) : Value := .agg #[.string l.key, .bool l.wr, .bool l.gone, .string l.val]
theorem bless_true {a b : ByteArray} (h : a.data.toList < b.data.toList) : Op.bytesLess a.toList b.toList = true := by rw [Proofs.bytesLess_eq]; simpa [Lib.toList_data] using h
theorem bless_false {a b : ByteArray} (h : ¬ a.data.toList < b.data.toList) : Op.bytesLess a.toList b.toList = false := by rw [Proofs.bytesLess_eq]; simpa [Lib.toList_data] using h
theorem beq_no {a b : ByteArray} (h : a ≠ b) : (a.toList == b.toList) = false := by
  rw [beq_eq_false_iff_ne]
  intro e
  exact h (key_ext (by simpa [Lib.toList_data] using e))
theorem tsetGo_ne (l : RLock) {p1 p2 : ByteArray} {r : Prs} {d : Bool} (h : p1 ≠ l.key) (hg : ¬ (d = false ∧ l.key.data.toList < p1.data.toList)) : tsetGo l ((p1, p2) :: r) d = (p1, p2) :: tsetGo l r d := by
  rw [tsetGo, if_neg hg, if_pos h]
theorem tsetGo_eq0 (l : RLock) {p2 : ByteArray} {r : Prs} : tsetGo l ((l.key, p2) :: r) false = (l.key, l.val) :: tsetGo l r true := by
  rw [tsetGo, if_neg (fun h => lt_irr _ h.2), if_neg (by simp), if_neg (by simp)]
theorem tsetGo_eq1 (l : RLock) {p2 : ByteArray} {r : Prs} : tsetGo l ((l.key, p2) :: r) true = tsetGo l r true := by
  rw [tsetGo, if_neg (fun h => by cases h.1), if_neg (by simp), if_pos rfl]
theorem tsetGo_gt (l : RLock) {p1 p2 : ByteArray} {r : Prs} (h : l.key.data.toList < p1.data.toList) : tsetGo l ((p1, p2) :: r) false = (l.key, l.val) :: (p1, p2) :: tsetGo l r true := by
  rw [tsetGo, if_pos ⟨rfl, h⟩]
theorem Fr.newer {w0 w1 w2 : World} {v : Value} {B : Nat} (hf : Fr [] w0 w1) (hv : ∀ k, v.ownBlock = some k → B ≤ k) (hB : w0.heap.size ≤ B) (hg : w1.grownBy w2 v.ownBlock) : Fr [] w0 w2 :=
  Fr.new_grown hf (fun k hk => Nat.le_trans hB (hv k hk)) hg
theorem RsIn.setTab [Inhabited Bs] {w w2 : World} {rp : Nat} {tv xv v2 : Value} {ps : List (RTx × Value)} {R : RSh} {tb : Prs} (h : RsIn w rp tv xv ps R) (hf : Fr [] w w2) (ho : w2.ownsRow B0 133 2 v2 tb.length (pairsV tb)) : RsIn (w2.setCell ⟨rp, 0, none⟩ v2) rp v2 xv ps ⟨tb, R.txns⟩ := by
  have h2 := h.fr hf
  refine { base := h2.base, blk := ?_, tab := ownsRow_set ho h2.blk (by decide), txs := ownsRow_set h2.txs h2.blk (by decide), lks := fun p hp => ownsRow_set (h2.lks p hp) h2.blk (by decide), apart := h2.apart, rs := h2.rs }
  have := blk_set h2.blk 0 v2
  simpa using this
set_option maxRecDepth 100000 in
set_option maxHeartbeats 8000000 in
theorem rset_any [Inhabited Bs] (rp : Nat) (l : RLock) (R : RSh) (w : World) (h : RS w rp R) (hn : R.table.length ≤ 1048576) :
    Calls Tryz.prog 149 #[.pointer (some ⟨rp, 0, none⟩), lockV l] w fun e w' => e = .returned (.tuple #[]) ∧ RS w' rp ⟨tset R.table l, R.txns⟩ ∧ RBr w w' := by
  obtain ⟨tv, xv, ps, h⟩ := h
  obtain ⟨i0, hin, hz0, hz1, hz2⟩ := info_parts Tryz.infoPair
  obtain ⟨W0, hW0⟩ : ∃ W0, W0 = w.alloc (.cells #[.string l.key, .bool l.wr, .bool l.gone, .string l.val] 201) := ⟨_, rfl⟩
  have hf0 : Fr [] w W0 := by rw [hW0]; exact (Fr.refl [] w).alloc _
  have hs0 : W0.heap.size = w.heap.size + 1 := by rw [hW0]; simp
  have hlb : W0.heap[w.heap.size]? = some (.cells #[.string l.key, .bool l.wr, .bool l.gone, .string l.val] 201 (0, 0)) := by rw [hW0]; exact heap_alloc_new w _
  obtain ⟨T, hT⟩ : ∃ T, T = R.table := ⟨_, rfl⟩
  obtain ⟨n, hnn⟩ : ∃ n, n = T.length := ⟨_, rfl⟩
  have HN : Hid (T.length = n) := hnn.symm
  have HI : Hid (RsIn W0 rp tv xv ps R ∧ Fr [] w W0 ∧ T = R.table ∧ W0.heap[w.heap.size]? = some (.cells #[.string l.key, .bool l.wr, .bool l.gone, .string l.val] 201 (0, 0))) := ⟨h.fr hf0, hf0, hT, hlb⟩
  rw [← hT, ← hnn] at hn
  have HW0 : Hid (True ∧ W0.heap.size ≤ W0.heap.size ∧ W0.heap.size = w.heap.size + 1) := ⟨trivial, Nat.le_refl _, hs0⟩
  clear h hf0 hlb hnn hT
  go_enter Tryz.func149, Tryz.ntmps149
  go_wp2
  rw [← hW0]
  clear hW0
  go_loopw [4, 5, 6] (fun o dn i wr => ∃ (k : Nat) (done : Bool) (out : Prs), k ≤ n ∧ i = .int .i64 k ∧ dn = .bool done ∧ Hid (wr.ownsRow W0.heap.size 133 2 o out.length (pairsV out) ∧ Fr [] W0 wr ∧ out.length ≤ 2 * k ∧ out ++ tsetGo l (T.drop k) done = tset T l)) (fun _ _ i _ => n - (intOf i).toNat)
  case atStart => exact ⟨0, l.gone, [], Nat.zero_le _, rfl, rfl, World.ownsRow_nil _ _ _ _, Fr.refl [] _, by simp, rfl⟩
  case round =>
    obtain ⟨k, done, out, hk, rfl, rfl, hr⟩ := hrel
    obtain ⟨m, hm⟩ : ∃ m, m = out.length := ⟨_, rfl⟩
    have HM : Hid (m = out.length) := hm
    have hmk : m ≤ 2 * k := by rw [hm]; exact hr.out.2.2.1
    have hfr := hr.out.2.1
    have hrow := hr.out.1
    rw [← hm] at hrow
    clear hm
    obtain ⟨ao, c, e0, H⟩ := HI.out.1.table
    rw [← HI.out.2.2.1, HN.out] at e0
    rw [← HI.out.2.2.1] at H
    by_cases hlt : k < n
    · obtain ⟨⟨p1, p2⟩, hp⟩ : ∃ p, T[k]? = some p := ⟨_, List.getElem?_eq_getElem (by rw [HN.out]; exact hlt)⟩
      obtain ⟨g, rfl, x0, x1⟩ := H k _ hp
      have HE : Hid (out ++ tsetGo l ((p1, p2) :: T.drop (k + 1)) done = tset T l) := by
        have := hr.out.2.2.2
        rw [List.drop_eq_getElem_cons (by rw [HN.out]; exact hlt), (List.getElem?_eq_some_iff.1 hp).2] at this
        exact this
      have i1 : (0 : Int) ≤ (k : Int) := by omega
      have i2 : (k : Int) < (n : Int) := by omega
      have FA : Hid (∀ W, Fr [] W0 W → W.cell? ⟨rp, 0, none⟩ = some (.slice (some ⟨g, 0, none⟩) n c) ∧ W.cell? ⟨g, k * 2, none⟩ = some (.string p1) ∧ W.cell? ⟨g, k * 2 + 1, none⟩ = some (.string p2) ∧ W.cell? ⟨w.heap.size, 0, none⟩ = some (.string l.key) ∧ W.cell? ⟨w.heap.size, 3, none⟩ = some (.string l.val)) := fun W hW => by
        have h1 := HI.out.1.fr hW
        have c0 := blk_cell h1.blk 0
        simp at c0
        rw [e0] at c0
        have hb := (hW.block w.heap.size (by rw [HW0.out.2.2]; omega) (by simp)).trans HI.out.2.2.2
        have l0 := blk_cell hb 0
        have l3 := blk_cell hb 3
        simp at l0 l3
        exact ⟨c0, (World.cell?_of_block (a := ⟨g, k * 2, none⟩) (hW.block g (World.block_lt_of_cell? W0 _ x0) (by simp))).trans x0, (World.cell?_of_block (a := ⟨g, k * 2 + 1, none⟩) (hW.block g (World.block_lt_of_cell? W0 _ x0) (by simp))).trans x1, l0, l3⟩
      obtain ⟨y0, y1, y2, y3, y4⟩ := FA.out wr hfr
      clear H hp x0 x1 hr e0
      cases done with
      | false =>
        rcases lt_or p1.data.toList l.key.data.toList with hlt2 | heq | hgt
        · have bl : Op.bytesLess p1.toList l.key.toList = true := bless_true hlt2
          have be : (p1.toList == l.key.toList) = false := beq_no (fun e => by rw [e] at hlt2; exact lt_irr _ hlt2)
          go_wp2
          go_quiet (fail)
          have hf1 : Fr [] W0 (wr.drewN nq) := hfr.drewM nq
          have hr1 := ownsRow_fr hrow ((Fr.refl [] wr).drewM nq) (by simp)
          generalize wr.drewN nq = wq1 at hf1 hr1 ⊢
          clear hrow hfr
          obtain ⟨z0, z1, z2, z3, z4⟩ := FA.out wq1 hf1
          go_wp2
          go_quiet (fail)
          have hf2 : Fr [] W0 (wq1.drewN nq) := hf1.drewM nq
          have hr2 := ownsRow_fr hr1 ((Fr.refl [] wq1).drewM nq) (by simp)
          generalize wq1.drewN nq = wq2 at hf2 hr2 ⊢
          clear hr1 hf1
          obtain ⟨z0, z1, z2, z3, z4⟩ := FA.out wq2 hf2
          go_wp2_with (at_builtin; (refine wpList_app rfl _ _ 68 rfl W0.heap.size 133 i0 _ 2 32 Tryz.underlying68 hin hz0 hz1 hz2 rfl (by decide) _ m _ rfl (hr2.alloc _) 1 [.string p1, .string p2] (.inl ⟨⟨wq2.heap.size, 0, none⟩, 1, rfl, cells_new _ #[.string p1, .string p2] _⟩) rfl (by intro u hu; simp at hu; rcases hu with rfl | rfl <;> rfl) (by unfold maxLen; omega) (by omega) (by have := hf2.size; simp; omega) ?_; intro v3 w3 ho hg _; have hf3 : Fr [] W0 w3 := Fr.newer (hf2.alloc _) (fun k hk => (hr2.lt k hk).1) (Nat.le_refl _) hg; have hr3 : w3.ownsRow W0.heap.size 133 2 v3 (m + 1) (pairsV (out ++ [(p1, p2)])) := (by rw [pairsV_snoc]; exact ho); obtain ⟨z0, z1, z2, z3, z4⟩ := FA.out w3 hf3; clear ho hg))
          have HR : Hid (w3.ownsRow W0.heap.size 133 2 v3 (out ++ [(p1, p2)]).length (pairsV (out ++ [(p1, p2)])) ∧ Fr [] W0 w3 ∧ (out ++ [(p1, p2)]).length ≤ 2 * (k + 1) ∧ out ++ [(p1, p2)] ++ tsetGo l (T.drop (k + 1)) false = tset T l) := by
            have e1 : (out ++ [(p1, p2)]).length = (m + 1) := by simp [← HM.out]
            refine ⟨by rw [e1]; exact hr3, hf3, by rw [e1]; omega, ?_⟩
            rw [← HE.out, tsetGo_ne l (fun e => by rw [e] at hlt2; exact lt_irr _ hlt2) (fun h => absurd h.2 (lt_as hlt2))]
            simp
          go_roundw
          case rel => exact ⟨k + 1, false, out ++ [(p1, p2)], by omega, by go_num, rfl, HR.out⟩
          case measure => simp [intOf]; omega
        · have ek : p1 = l.key := key_ext heq
          subst ek
          have bl : Op.bytesLess l.key.toList l.key.toList = false := bless_false (lt_irr _)
          have be : (l.key.toList == l.key.toList) = true := by simp
          go_wp2
          go_quiet (fail)
          have hf1 : Fr [] W0 (wr.drewN nq) := hfr.drewM nq
          have hr1 := ownsRow_fr hrow ((Fr.refl [] wr).drewM nq) (by simp)
          generalize wr.drewN nq = wq1 at hf1 hr1 ⊢
          clear hrow hfr
          obtain ⟨z0, z1, z2, z3, z4⟩ := FA.out wq1 hf1
          go_wp2
          go_quiet (fail)
          have hf2 : Fr [] W0 (wq1.drewN nq) := hf1.drewM nq
          have hr2 := ownsRow_fr hr1 ((Fr.refl [] wq1).drewM nq) (by simp)
          generalize wq1.drewN nq = wq2 at hf2 hr2 ⊢
          clear hr1 hf1
          obtain ⟨z0, z1, z2, z3, z4⟩ := FA.out wq2 hf2
          go_wp2_with (at_builtin; (refine wpList_app rfl _ _ 68 rfl W0.heap.size 133 i0 _ 2 32 Tryz.underlying68 hin hz0 hz1 hz2 rfl (by decide) _ m _ rfl (hr2.alloc _) 1 [.string l.key, .string l.val] (.inl ⟨⟨wq2.heap.size, 0, none⟩, 1, rfl, cells_new _ #[.string l.key, .string l.val] _⟩) rfl (by intro u hu; simp at hu; rcases hu with rfl | rfl <;> rfl) (by unfold maxLen; omega) (by omega) (by have := hf2.size; simp; omega) ?_; intro v3 w3 ho hg _; have hf3 : Fr [] W0 w3 := Fr.newer (hf2.alloc _) (fun k hk => (hr2.lt k hk).1) (Nat.le_refl _) hg; have hr3 : w3.ownsRow W0.heap.size 133 2 v3 (m + 1) (pairsV (out ++ [(l.key, l.val)])) := (by rw [pairsV_snoc]; exact ho); obtain ⟨z0, z1, z2, z3, z4⟩ := FA.out w3 hf3; clear ho hg))
          have HR : Hid (w3.ownsRow W0.heap.size 133 2 v3 (out ++ [(l.key, l.val)]).length (pairsV (out ++ [(l.key, l.val)])) ∧ Fr [] W0 w3 ∧ (out ++ [(l.key, l.val)]).length ≤ 2 * (k + 1) ∧ out ++ [(l.key, l.val)] ++ tsetGo l (T.drop (k + 1)) true = tset T l) := by
            have e1 : (out ++ [(l.key, l.val)]).length = (m + 1) := by simp [← HM.out]
            refine ⟨by rw [e1]; exact hr3, hf3, by rw [e1]; omega, ?_⟩
            rw [← HE.out, tsetGo_eq0 l]
            simp
          go_roundw
          case rel => exact ⟨k + 1, true, out ++ [(l.key, l.val)], by omega, by go_num, rfl, HR.out⟩
          case measure => simp [intOf]; omega
        · have bl : Op.bytesLess p1.toList l.key.toList = false := bless_false (lt_as hgt)
          have be : (p1.toList == l.key.toList) = false := beq_no (fun e => by rw [e] at hgt; exact lt_irr _ hgt)
          go_wp2
          go_quiet (fail)
          have hf1 : Fr [] W0 (wr.drewN nq) := hfr.drewM nq
          have hr1 := ownsRow_fr hrow ((Fr.refl [] wr).drewM nq) (by simp)
          generalize wr.drewN nq = wq1 at hf1 hr1 ⊢
          clear hrow hfr
          obtain ⟨z0, z1, z2, z3, z4⟩ := FA.out wq1 hf1
          go_wp2_with (at_builtin; (refine wpList_app rfl _ _ 68 rfl W0.heap.size 133 i0 _ 2 32 Tryz.underlying68 hin hz0 hz1 hz2 rfl (by decide) _ m _ rfl (hr1.alloc _) 1 [.string l.key, .string l.val] (.inl ⟨⟨wq1.heap.size, 0, none⟩, 1, rfl, cells_new _ #[.string l.key, .string l.val] _⟩) rfl (by intro u hu; simp at hu; rcases hu with rfl | rfl <;> rfl) (by unfold maxLen; omega) (by omega) (by have := hf1.size; simp; omega) ?_; intro v2 w2 ho hg _; have hf2 : Fr [] W0 w2 := Fr.newer (hf1.alloc _) (fun k hk => (hr1.lt k hk).1) (Nat.le_refl _) hg; have hr2 : w2.ownsRow W0.heap.size 133 2 v2 (m + 1) (pairsV (out ++ [(l.key, l.val)])) := (by rw [pairsV_snoc]; exact ho); obtain ⟨z0, z1, z2, z3, z4⟩ := FA.out w2 hf2; clear ho hg))
          go_wp2
          go_quiet (fail)
          have hf3 : Fr [] W0 (w2.drewN nq) := hf2.drewM nq
          have hr3 := ownsRow_fr hr2 ((Fr.refl [] w2).drewM nq) (by simp)
          generalize w2.drewN nq = wq3 at hf3 hr3 ⊢
          clear hr2 hf2
          obtain ⟨z0, z1, z2, z3, z4⟩ := FA.out wq3 hf3
          go_wp2_with (at_builtin; (refine wpList_app rfl _ _ 68 rfl W0.heap.size 133 i0 _ 2 32 Tryz.underlying68 hin hz0 hz1 hz2 rfl (by decide) _ (m + 1) _ rfl (hr3.alloc _) 1 [.string p1, .string p2] (.inl ⟨⟨wq3.heap.size, 0, none⟩, 1, rfl, cells_new _ #[.string p1, .string p2] _⟩) rfl (by intro u hu; simp at hu; rcases hu with rfl | rfl <;> rfl) (by unfold maxLen; omega) (by omega) (by have := hf3.size; simp; omega) ?_; intro v4 w4 ho hg _; have hf4 : Fr [] W0 w4 := Fr.newer (hf3.alloc _) (fun k hk => (hr3.lt k hk).1) (Nat.le_refl _) hg; have hr4 : w4.ownsRow W0.heap.size 133 2 v4 ((m + 1) + 1) (pairsV (out ++ [(l.key, l.val)] ++ [(p1, p2)])) := (by rw [pairsV_snoc]; exact ho); obtain ⟨z0, z1, z2, z3, z4⟩ := FA.out w4 hf4; clear ho hg))
          have HR : Hid (w4.ownsRow W0.heap.size 133 2 v4 (out ++ [(l.key, l.val)] ++ [(p1, p2)]).length (pairsV (out ++ [(l.key, l.val)] ++ [(p1, p2)])) ∧ Fr [] W0 w4 ∧ (out ++ [(l.key, l.val)] ++ [(p1, p2)]).length ≤ 2 * (k + 1) ∧ out ++ [(l.key, l.val)] ++ [(p1, p2)] ++ tsetGo l (T.drop (k + 1)) true = tset T l) := by
            have e1 : (out ++ [(l.key, l.val)] ++ [(p1, p2)]).length = ((m + 1) + 1) := by simp [← HM.out]
            refine ⟨by rw [e1]; exact hr4, hf4, by rw [e1]; omega, ?_⟩
            rw [← HE.out, tsetGo_gt l hgt]
            simp
          go_roundw
          case rel => exact ⟨k + 1, true, out ++ [(l.key, l.val)] ++ [(p1, p2)], by omega, by go_num, rfl, HR.out⟩
          case measure => simp [intOf]; omega
      | true =>
        by_cases heq : p1 = l.key
        · subst heq
          have be : (l.key.toList == l.key.toList) = true := by simp
          go_wp2
          go_quiet (fail)
          have hf1 : Fr [] W0 (wr.drewN nq) := hfr.drewM nq
          have hr1 := ownsRow_fr hrow ((Fr.refl [] wr).drewM nq) (by simp)
          generalize wr.drewN nq = wq1 at hf1 hr1 ⊢
          clear hrow hfr
          obtain ⟨z0, z1, z2, z3, z4⟩ := FA.out wq1 hf1
          go_wp2
          go_quiet (fail)
          have hf2 : Fr [] W0 (wq1.drewN nq) := hf1.drewM nq
          have hr2 := ownsRow_fr hr1 ((Fr.refl [] wq1).drewM nq) (by simp)
          generalize wq1.drewN nq = wq2 at hf2 hr2 ⊢
          clear hr1 hf1
          obtain ⟨z0, z1, z2, z3, z4⟩ := FA.out wq2 hf2
          have HR : Hid (wq2.ownsRow W0.heap.size 133 2 u4 (out).length (pairsV (out)) ∧ Fr [] W0 wq2 ∧ (out).length ≤ 2 * (k + 1) ∧ out ++ tsetGo l (T.drop (k + 1)) true = tset T l) := by
            have e1 : (out).length = m := by simp [← HM.out]
            refine ⟨by rw [e1]; exact hr2, hf2, by rw [e1]; omega, ?_⟩
            rw [← HE.out, tsetGo_eq1 l]
          go_wp2
          go_roundw
          case rel => exact ⟨k + 1, true, out, by omega, by go_num, rfl, HR.out⟩
          case measure => simp [intOf]; omega
        · have be : (p1.toList == l.key.toList) = false := beq_no heq
          go_wp2
          go_quiet (fail)
          have hf1 : Fr [] W0 (wr.drewN nq) := hfr.drewM nq
          have hr1 := ownsRow_fr hrow ((Fr.refl [] wr).drewM nq) (by simp)
          generalize wr.drewN nq = wq1 at hf1 hr1 ⊢
          clear hrow hfr
          obtain ⟨z0, z1, z2, z3, z4⟩ := FA.out wq1 hf1
          go_wp2
          go_quiet (fail)
          have hf2 : Fr [] W0 (wq1.drewN nq) := hf1.drewM nq
          have hr2 := ownsRow_fr hr1 ((Fr.refl [] wq1).drewM nq) (by simp)
          generalize wq1.drewN nq = wq2 at hf2 hr2 ⊢
          clear hr1 hf1
          obtain ⟨z0, z1, z2, z3, z4⟩ := FA.out wq2 hf2
          go_wp2_with (at_builtin; (refine wpList_app rfl _ _ 68 rfl W0.heap.size 133 i0 _ 2 32 Tryz.underlying68 hin hz0 hz1 hz2 rfl (by decide) _ m _ rfl (hr2.alloc _) 1 [.string p1, .string p2] (.inl ⟨⟨wq2.heap.size, 0, none⟩, 1, rfl, cells_new _ #[.string p1, .string p2] _⟩) rfl (by intro u hu; simp at hu; rcases hu with rfl | rfl <;> rfl) (by unfold maxLen; omega) (by omega) (by have := hf2.size; simp; omega) ?_; intro v3 w3 ho hg _; have hf3 : Fr [] W0 w3 := Fr.newer (hf2.alloc _) (fun k hk => (hr2.lt k hk).1) (Nat.le_refl _) hg; have hr3 : w3.ownsRow W0.heap.size 133 2 v3 (m + 1) (pairsV (out ++ [(p1, p2)])) := (by rw [pairsV_snoc]; exact ho); obtain ⟨z0, z1, z2, z3, z4⟩ := FA.out w3 hf3; clear ho hg))
          have HR : Hid (w3.ownsRow W0.heap.size 133 2 v3 (out ++ [(p1, p2)]).length (pairsV (out ++ [(p1, p2)])) ∧ Fr [] W0 w3 ∧ (out ++ [(p1, p2)]).length ≤ 2 * (k + 1) ∧ out ++ [(p1, p2)] ++ tsetGo l (T.drop (k + 1)) true = tset T l) := by
            have e1 : (out ++ [(p1, p2)]).length = (m + 1) := by simp [← HM.out]
            refine ⟨by rw [e1]; exact hr3, hf3, by rw [e1]; omega, ?_⟩
            rw [← HE.out, tsetGo_ne l heq (fun h => by cases h.1)]
            simp
          go_roundw
          case rel => exact ⟨k + 1, true, out ++ [(p1, p2)], by omega, by go_num, rfl, HR.out⟩
          case measure => simp [intOf]; omega
    · have hkn : k = n := by omega
      have HE : Hid (out ++ tsetGo l [] done = tset T l) := by
        have := hr.out.2.2.2
        rw [List.drop_eq_nil_of_le (by rw [HN.out]; omega)] at this
        exact this
      have h1 := HI.out.1.fr hfr
      have c0 := blk_cell h1.blk 0
      have f0 := blk_free h1.blk 0
      simp at c0
      rw [e0] at c0
      have hb := (hfr.block w.heap.size (by rw [HW0.out.2.2]; omega) (by simp)).trans HI.out.2.2.2
      have l0 := blk_cell hb 0
      have l3 := blk_cell hb 3
      simp at l0 l3
      have hfin : Hid (∀ (W : World) (v : Value), Fr [] W0 W → W.ownsRow W0.heap.size 133 2 v (tset T l).length (pairsV (tset T l)) → RS (W.setCell ⟨rp, 0, none⟩ v) rp ⟨tset R.table l, R.txns⟩ ∧ RBr w (W.setCell ⟨rp, 0, none⟩ v)) := fun W v hW ho => by
        rw [← HI.out.2.2.1]
        exact ⟨⟨_, _, _, HI.out.1.setTab hW (ownsRow_base_a ho HI.out.1.low)⟩, (RBr.of_fr (HI.out.2.1.trans hW) (by simp)).trans (RBr.of_fr (Fr.set1 (S := [rp]) (by simp) _ _) fun k hk => by simp at hk; subst hk; exact (HI.out.1.fr hW).ref)⟩
      clear H hr h1 hb
      cases done with
      | true =>
        have e9 : tset T l = out := by rw [← HE.out]; simp [tsetGo]
        have hR := hfin.out wr u4 hfr (by rw [e9, ← HM.out]; exact hrow)
        have HR := toHid hR
        obtain ⟨o2, c2, rfl⟩ := own_slice hrow
        clear hR hfin
        go_wp2
        go_end0
        exact ⟨rfl, HR.out⟩
      | false =>
        have e9 : Hid (tset T l = out ++ [(l.key, l.val)]) := by show _ = _; rw [← HE.out]; simp [tsetGo]
        go_wp2_with (at_builtin; refine wpList_app rfl _ _ 68 rfl W0.heap.size 133 i0 _ 2 32 Tryz.underlying68 hin hz0 hz1 hz2 rfl (by decide) _ m _ rfl (hrow.alloc _) 1 [.string l.key, .string l.val] (.inl ⟨⟨wr.heap.size, 0, none⟩, 1, rfl, cells_new _ #[.string l.key, .string l.val] _⟩) rfl (by intro u hu; simp at hu; rcases hu with rfl | rfl <;> rfl) (by unfold maxLen; omega) (by omega) (by have := hfr.size; simp; omega) ?_; intro v1 w1 ho1 hg1 _; obtain ⟨o2, c2, rfl⟩ := own_slice ho1; have hf1 : Fr [] W0 w1 := Fr.newer (hfr.alloc _) (fun k hk => (hrow.lt k hk).1) (Nat.le_refl _) hg1; have HR := toHid (hfin.out w1 _ hf1 (by rw [e9.out, pairsV_snoc, List.length_append, ← HM.out]; exact ho1)); have h1 := HI.out.1.fr hf1; have f1 := blk_free h1.blk 0; have c1 := blk_cell h1.blk 0; clear ho1 hg1 h1 hf1)
        go_end0
        exact ⟨rfl, HR.out⟩
end Go.Proofs.YtejiankgafjppaaGreatDoor
/- THE DOCUMENT'S SHARD: Commit. -/
namespace Go.Proofs.YtejiankgafjppaaGreatDoor
open Go.RowKit Go.Maps
open Sc

theorem tsetGo_len (l : RLock) : ∀ (tb : Prs) (d : Bool), (tsetGo l tb d).length ≤ tb.length + 1
  | [], d => by cases d <;> simp [tsetGo]
  | p :: r, d => by
    have h1 := tsetGo_len l r d
    have h2 : (tsetGo l r true).length ≤ r.length := by rw [tset_true]; exact List.length_filter_le _ _
    unfold tsetGo
    split
    · simp; omega
    · split
      · simp; omega
      · split
        · simp; omega
        · simp; omega
/-- a place of a transaction and of its locks, as they lie -/
theorem RS.tx [Inhabited Bs] {w : World} {rp : Nat} {R : RSh} (h : RS w rp R) {i : Nat} {x : RTx} (hi : R.txns[i]? = some x) : ∃ g c la lc, w.cell? ⟨rp, 1, none⟩ = some (.slice (some ⟨g, 0, none⟩) R.txns.length c) ∧ w.cell? ⟨g, i * 5 + 1, none⟩ = some (.int .i64 (x.st : Int)) ∧ w.cell? ⟨g, i * 5 + 4, none⟩ = some (.slice la x.locks.length lc) ∧
    ∀ k l, x.locks[k]? = some l → ∃ lg, la = some ⟨lg, 0, none⟩ ∧ w.cell? ⟨lg, k * 4, none⟩ = some (.string l.key) ∧ w.cell? ⟨lg, k * 4 + 1, none⟩ = some (.bool l.wr) ∧ w.cell? ⟨lg, k * 4 + 2, none⟩ = some (.bool l.gone) ∧ w.cell? ⟨lg, k * 4 + 3, none⟩ = some (.string l.val) := by
  obtain ⟨tv, xv, ps, h⟩ := h
  have c1 := blk_cell h.blk 1
  simp at c1
  obtain ⟨v, hp⟩ := h.at hi
  obtain ⟨ao, c, e0, H⟩ := h.slice
  obtain ⟨g, e3, x0, x1, x2, x3, x4⟩ := H i _ hp
  obtain ⟨la, lc, e4, HL⟩ := lock_slice (h.lks _ (List.mem_of_getElem? hp))
  simp only [] at x1 x4 e4 HL
  rw [e0, e3, h.len] at c1
  rw [e4] at x4
  exact ⟨g, c, la, lc, c1, x1, x4, HL⟩
def RSh.commit (R : RSh) (t : Nat) : RSh × Nat :=
  if t = 0 then (R, 7) else
  match txAt R.txns t with
  | none => (R, 0)
  | some x => if x.st = 3 then (⟨tsets R.table x.locks, del R.txns t⟩, 0) else (R, 4)
set_option maxRecDepth 100000 in
set_option maxHeartbeats 8000000 in
theorem rcommit_any [Inhabited Bs] (rp t : Nat) (R : RSh) (w : World) (h : RS w rp R) (hn : R.txns.length ≤ 1048576) (ha : Asc R.txns) (hl : ∀ x ∈ R.txns, x.locks.length ≤ 1000) (htb : R.table.length ≤ 500000) :
    Calls Tryz.prog 85 #[.pointer (some ⟨rp, 0, none⟩), .int .u64 (t : Int)] w fun e w' => e = .returned (.int .i64 ((R.commit t).2 : Int)) ∧ RS w' rp (R.commit t).1 ∧ RBr w w' ∧ (R.state t ≠ 3 → Fr [] w w') := by
  have hrs : Hid (RS w rp R ∧ Asc R.txns) := ⟨h, ha⟩
  have hfi : Calls Tryz.prog 142 #[.pointer (some ⟨rp, 0, none⟩), .int .u64 (t : Int)] w fun e w' => e = .returned (.int .i64 (ixI (txIx R.txns t))) ∧ ∃ q, w' = w.drewN q := by
    obtain ⟨tv, xv, ps, h⟩ := h
    exact rfind_any rp t tv xv ps R w h (by rw [h.len]; omega)
  by_cases h0 : t = 0
  · have e1 : R.commit t = (R, 7) := if_pos h0
    subst h0
    clear h
    go_enter Tryz.func85, Tryz.ntmps85
    go_wp2_with fail
    refine hfi.mono ?_
    rintro e w1 ⟨rfl, q, rfl⟩
    have hfw : Hid (Fr [] w (w.drewN q)) := (Fr.refl [] w).drewM q
    clear hfi
    go_wp2
    go_ret
    rw [e1]
    exact ⟨rfl, hrs.out.1.fr hfw.out, RBr.of_fr hfw.out (by simp), fun _ => hfw.out⟩
  have z1 : ¬ ((t : Int) = 0) := by omega
  have b0 : ((t : Int) == 0) = false := by simp; omega
  cases hx : txIx R.txns t with
  | none =>
    have e1 : R.commit t = (R, 0) := by unfold RSh.commit; rw [if_neg h0, txIx_none hx]
    rw [hx] at hfi
    have e2 : ixI none = -1 := rfl
    rw [e2] at hfi
    clear h hx
    go_enter Tryz.func85, Tryz.ntmps85
    go_wp2_with fail
    refine hfi.mono ?_
    rintro e w1 ⟨rfl, q, rfl⟩
    have hfw : Hid (Fr [] w (w.drewN q)) := (Fr.refl [] w).drewM q
    clear hfi
    go_wp2
    go_ret
    rw [e1]
    exact ⟨rfl, hrs.out.1.fr hfw.out, RBr.of_fr hfw.out (by simp), fun _ => hfw.out⟩
  | some i =>
    obtain ⟨x, hi, hid, hat⟩ := txIx_some hx
    rw [hx] at hfi
    have e2 : ixI (some i) = (i : Int) := rfl
    rw [e2] at hfi
    have hil : i < R.txns.length := (List.getElem?_eq_some_iff.1 hi).1
    have HX : Hid (R.txns.take i ++ R.txns.drop (i + 1) = del R.txns t) := by have := ha.erase hi; rw [hid] at this; exact this
    have hln := hl x (List.mem_of_getElem? hi)
    have HII : Hid (R.txns[i]? = some x ∧ txAt R.txns t = some x) := ⟨hi, hat⟩
    obtain ⟨n, hnn⟩ : ∃ n, n = R.txns.length := ⟨_, rfl⟩
    have HN : Hid (n = R.txns.length) := hnn
    rw [← hnn] at hil hn
    obtain ⟨nl, hnl⟩ : ∃ nl, nl = x.locks.length := ⟨_, rfl⟩
    have HNL : Hid (nl = x.locks.length) := hnl
    rw [← hnl] at hln
    have FA : Hid (∀ (W : World) (T : Prs), RS W rp ⟨T, R.txns⟩ → ∃ g c la lc, W.cell? ⟨rp, 1, none⟩ = some (.slice (some ⟨g, 0, none⟩) n c) ∧ W.cell? ⟨g, i * 5 + 1, none⟩ = some (.int .i64 (x.st : Int)) ∧ W.cell? ⟨g, i * 5 + 4, none⟩ = some (.slice la nl lc) ∧
      ∀ k l, x.locks[k]? = some l → ∃ lg, la = some ⟨lg, 0, none⟩ ∧ W.cell? ⟨lg, k * 4, none⟩ = some (.string l.key) ∧ W.cell? ⟨lg, k * 4 + 1, none⟩ = some (.bool l.wr) ∧ W.cell? ⟨lg, k * 4 + 2, none⟩ = some (.bool l.gone) ∧ W.cell? ⟨lg, k * 4 + 3, none⟩ = some (.string l.val)) := fun W T hW => by
      have := hW.tx hi
      rw [hnn, hnl]
      exact this
    have i0 : (0 : Int) ≤ (i : Int) := by omega
    have i1 : (i : Int) < (n : Int) := by omega
    have i2 : ¬ (i : Int) < 0 := by omega
    have hst : Hid (R.state t = x.st) := by show _ = _; unfold RSh.state; rw [hat]; rfl
    clear h hx hi hnn hnl hl ha hat
    by_cases h3 : x.st = 3
    · have e1 : R.commit t = (⟨tsets R.table x.locks, del R.txns t⟩, 0) := by unfold RSh.commit; rw [if_neg h0, HII.out.2]; simp [h3]
      go_enter Tryz.func85, Tryz.ntmps85
      go_wp2_with fail
      refine hfi.mono ?_
      rintro e w1 ⟨rfl, q, rfl⟩
      have hfw : Fr [] w (w.drewN q) := (Fr.refl [] w).drewM q
      generalize w.drewN q = w1 at hfw ⊢
      clear hfi
      obtain ⟨g, c, la, lc, c1, x1, x4, _⟩ := FA.out w1 R.table (hrs.out.1.fr hfw)
      rw [h3] at x1
      have HF : Hid (Fr [] w w1) := hfw
      clear hfw
      go_wp2
      clear c1 x1 x4
      go_loopw [6] (fun kv wr => ∃ (k : Nat) (T : Prs), k ≤ nl ∧ kv = .int .i64 k ∧ Hid (RS wr rp ⟨T, R.txns⟩ ∧ RBr w wr ∧ tsets T (x.locks.drop k) = tsets R.table x.locks ∧ T.length ≤ R.table.length + k)) (fun kv _ => nl - (intOf kv).toNat)
      case atStart => exact ⟨0, R.table, Nat.zero_le _, rfl, hrs.out.1.fr HF.out, RBr.of_fr HF.out (by simp), rfl, by simp⟩
      case round =>
        obtain ⟨k, T, hk, rfl, hr⟩ := hrel
        obtain ⟨g, c, la, lc, c1, x1, x4, HL⟩ := FA.out wr T hr.out.1
        by_cases hlt : k < nl
        · obtain ⟨l, hlk⟩ : ∃ l, x.locks[k]? = some l := ⟨_, List.getElem?_eq_getElem (by rw [← HNL.out]; exact hlt)⟩
          obtain ⟨lg, rfl, y0, y1, y2, y3⟩ := HL k l hlk
          have j0 : (0 : Int) ≤ (k : Int) := by omega
          have j1 : (k : Int) < (nl : Int) := by omega
          have HD : Hid (tsets T (x.locks.drop k) = tsets (if l.wr = true then tset T l else T) (x.locks.drop (k + 1))) := by
            show _ = _
            rw [List.drop_eq_getElem_cons (by rw [← HNL.out]; exact hlt), (List.getElem?_eq_some_iff.1 hlk).2]
            rfl
          have hTl : T.length ≤ 1048576 := by have := hr.out.2.2.2; omega
          clear HL hlk
          cases hw : l.wr with
          | true =>
            have hse := rset_any rp l ⟨T, R.txns⟩ wr hr.out.1 hTl
            rw [hw] at y1
            unfold lockV at hse
            rw [hw] at hse
            go_wp2_with fail
            refine hse.mono ?_
            rintro e w2 ⟨rfl, hr2, hb2⟩
            have HR : Hid (RS w2 rp ⟨tset T l, R.txns⟩ ∧ RBr w w2 ∧ tsets (tset T l) (x.locks.drop (k + 1)) = tsets R.table x.locks ∧ (tset T l).length ≤ R.table.length + (k + 1)) := by
              refine ⟨hr2, hr.out.2.1.trans hb2, ?_, ?_⟩
              · have := HD.out
                rw [if_pos hw] at this
                rw [← this]; exact hr.out.2.2.1
              · have h1 := tsetGo_len l T l.gone
                have h2 := hr.out.2.2.2
                unfold tset; omega
            clear hse hr2 hb2
            go_wp2
            go_roundw
            case rel => exact ⟨k + 1, tset T l, by omega, by go_num, HR.out⟩
            case measure => simp [intOf]; omega
          | false =>
            rw [hw] at y1
            have HR : Hid (RS wr rp ⟨T, R.txns⟩ ∧ RBr w wr ∧ tsets T (x.locks.drop (k + 1)) = tsets R.table x.locks ∧ T.length ≤ R.table.length + (k + 1)) := by
              refine ⟨hr.out.1, hr.out.2.1, ?_, by have := hr.out.2.2.2; omega⟩
              have := HD.out
              rw [if_neg (by simp [hw])] at this
              rw [← this]; exact hr.out.2.2.1
            go_wp2
            go_roundw
            case rel => exact ⟨k + 1, T, by omega, by go_num, HR.out⟩
            case measure => simp [intOf]; omega
        · have HT : Hid (T = tsets R.table x.locks) := by
            have := hr.out.2.2.1
            rw [List.drop_eq_nil_of_le (by rw [← HNL.out]; omega)] at this
            exact this
          obtain ⟨tv, xv, ps, hR⟩ := hr.out.1
          have hd := rdrop_any rp i tv xv ps ⟨T, R.txns⟩ wr hR (by rw [hR.len]; show i < R.txns.length; rw [← HN.out]; exact hil) (by rw [hR.len]; show R.txns.length ≤ _; rw [← HN.out]; exact hn)
          have HRF : Hid (RefBlk wr rp) := hR.ref
          clear HL hR
          go_wp2_with fail
          refine hd.mono ?_
          rintro e w2 ⟨rfl, ⟨xv', hr2⟩, hf⟩
          have HR : Hid (RS w2 rp ⟨tsets R.table x.locks, del R.txns t⟩ ∧ RBr w w2) := ⟨by rw [← HX.out, ← HT.out]; exact ⟨_, _, _, hr2⟩, hr.out.2.1.trans (RBr.of_fr hf fun k hk => by simp at hk; subst hk; exact HRF.out)⟩
          clear hd hr2 hf
          go_wp2
          go_ret
          rw [e1]
          exact ⟨rfl, HR.out.1, HR.out.2, fun h => absurd (hst.out.trans h3) h⟩
    · have e1 : R.commit t = (R, 4) := by unfold RSh.commit; rw [if_neg h0, HII.out.2]; simp [h3]
      have z3 : ¬ ((x.st : Int) = 3) := by omega
      go_enter Tryz.func85, Tryz.ntmps85
      go_wp2_with fail
      refine hfi.mono ?_
      rintro e w1 ⟨rfl, q, rfl⟩
      have hfw : Fr [] w (w.drewN q) := (Fr.refl [] w).drewM q
      generalize w.drewN q = w1 at hfw ⊢
      clear hfi
      obtain ⟨g, c, la, lc, c1, x1, x4, _⟩ := FA.out w1 R.table (hrs.out.1.fr hfw)
      have HF : Hid (Fr [] w w1) := hfw
      clear hfw
      go_wp2
      go_ret
      rw [e1]
      exact ⟨rfl, hrs.out.1.fr HF.out, RBr.of_fr HF.out (by simp), fun _ => HF.out⟩
end Go.Proofs.YtejiankgafjppaaGreatDoor
/- THE DOCUMENT'S SHARD: Copy. -/
namespace Go.Proofs.YtejiankgafjppaaGreatDoor
open Go.RowKit Go.Maps
open Sc

theorem pairs_one (l : Prs) : ∀ u ∈ pairsV l, u.oneCell' = true := by
  intro u hu
  obtain ⟨p, hp, hq⟩ := List.mem_flatMap.1 hu
  simp at hq
  rcases hq with rfl | rfl <;> rfl
theorem locks_one (l : List RLock) : ∀ u ∈ locksV l, u.oneCell' = true := by
  intro u hu
  obtain ⟨p, hp, hq⟩ := List.mem_flatMap.1 hu
  simp at hq
  rcases hq with rfl | rfl | rfl | rfl <;> rfl
/-- all of a row, to append from -/
theorem src_row {w : World} {base : Nat} {e : TypeId} {size n : Nat} {v : Value} {xs : List Value} (h : w.ownsRow base e size v n xs) : AppSrc w v n xs := by
  rcases h.2 with ⟨rfl, rfl⟩ | ⟨g, cap, cur, rfl, rest⟩
  · exact .inr ⟨rfl, rfl, List.eq_nil_of_length_eq_zero (by rw [h.1]; simp)⟩
  · refine .inl ⟨_, _, rfl, h.cells (g := g) rfl⟩
theorem Fr.trans_new {w w1 w2 : World} {v : Value} (h : Fr [] w w1) (k : Fr v.ownBlock.toList w1 w2) (hv : NewV w v) : Fr [] w w2 :=
  ⟨k.os.trans h.os, k.tape.trans h.tape, k.output.trans h.output, Nat.le_trans h.size k.size, fun i hi hn => (k.block i (Nat.lt_of_lt_of_le hi h.size) (fun hm => by have := hv i (by simpa using hm); omega)).trans (h.block i hi hn)⟩
/-- a transaction is put behind the others -/
theorem RsIn.pushTx [Inhabited Bs] {w w4 : World} {cp : Nat} {tc xv v4 lv : Value} {qs : List (RTx × Value)} {T : Prs} {X : List RTx} {x : RTx} (h : RsIn w cp tc xv qs ⟨T, X⟩) (hf : Fr xv.ownBlock.toList w w4) (ho : w4.ownsRow B0 126 5 v4 (qs.length + 1) (rtxsV qs ++ rtxC (x, lv))) (hl : w4.ownsRow B0 201 4 lv x.locks.length (locksV x.locks)) (hnew : NewV w lv) :
    RsIn (w4.setCell ⟨cp, 1, none⟩ v4) cp tc v4 (qs ++ [(x, lv)]) ⟨T, X ++ [x]⟩ := by
  have hno : ∀ {e : TypeId} {size n : Nat} {v : Value} {ys : List Value}, e ≠ 126 → w.ownsRow B0 e size v n ys → ∀ g, v.ownBlock = some g → g ∉ xv.ownBlock.toList := by
    intro e size n v ys hne hv g hg hm
    have hm2 : xv.ownBlock = some g := by simpa using hm
    obtain ⟨c1, e1⟩ := own_cells hv hg
    obtain ⟨c2, e2⟩ := own_cells h.txs hm2
    rw [e1] at e2
    cases e2
    exact hne rfl
  have hcp : w4.heap[cp]? = some (rshO tc xv) := (hf.block cp (Array.getElem?_eq_some_iff.1 h.blk).1 (fun hm => own_ne h.txs h.blk (by decide) (by simpa using hm))).trans h.blk
  refine { base := h.base, blk := ?_, tab := ownsRow_set (ownsRow_fr h.tab hf (hno (by decide) h.tab)) hcp (by decide), txs := ?_, lks := fun p hp => ?_, apart := ?_, rs := by rw [List.map_append, h.rs]; rfl }
  · have := blk_set hcp 1 v4
    simpa using this
  · rw [List.length_append, rtxsV_app]
    refine ownsRow_set ?_ hcp (by decide)
    have e : rtxsV [(x, lv)] = rtxC (x, lv) := rfl
    rw [e]
    exact ho
  · rcases List.mem_append.1 hp with hp | hp
    · exact ownsRow_set (ownsRow_fr (h.lks p hp) hf (hno (by decide) (h.lks p hp))) hcp (by decide)
    · simp at hp
      subst hp
      exact ownsRow_set hl hcp (by decide)
  · refine List.pairwise_append.2 ⟨h.apart, by simp, fun p hp q hq => ?_⟩
    simp at hq
    subst hq
    cases hb : p.2.ownBlock with
    | none => exact .inl rfl
    | some g =>
      refine .inr fun e => ?_
      have h1 := ((h.lks p hp).lt g hb).2
      have h2 := hnew g e.symm
      omega
set_option maxRecDepth 100000 in
set_option maxHeartbeats 8000000 in
theorem rcopy_any [Inhabited Bs] (rp : Nat) (R : RSh) (w : World) (h : RS w rp R) (hn : R.txns.length ≤ 1048576) (hl : ∀ x ∈ R.txns, x.locks.length ≤ 1000) (htb : R.table.length ≤ 1048576) :
    Calls Tryz.prog 36 #[.pointer (some ⟨rp, 0, none⟩)] w fun e w' => ∃ cp, e = .returned (.pointer (some ⟨cp, 0, none⟩)) ∧ w.heap.size ≤ cp ∧ RS w' cp R ∧ Fr [] w w' := by
  obtain ⟨tv, xv, ps, h⟩ := h
  obtain ⟨i0, hin, hz0, hz1, hz2⟩ := info_parts Tryz.infoPair
  obtain ⟨j0, hjn, gz0, gz1, gz2⟩ := info_parts Tryz.infoRTx
  obtain ⟨l0, hln0, lz0, lz1, lz2⟩ := info_parts Tryz.infoRLock
  have c0 := blk_cell h.blk 0
  have c1 := blk_cell h.blk 1
  simp at c0 c1
  have hrpl : rp < w.heap.size := (Array.getElem?_eq_some_iff.1 h.blk).1
  have hsrc := src_row h.tab
  have HI : Hid (RsIn w rp tv xv ps R) := h
  clear h
  go_enter Tryz.func36, Tryz.ntmps36
  go_wp2_with (at_builtin; refine wpList_app rfl _ _ 68 rfl w.heap.size 133 i0 _ 2 32 Tryz.underlying68 hin hz0 hz1 hz2 rfl (by decide) (.slice none 0 0) 0 [] rfl (World.ownsRow_nil _ _ _ _) R.table.length (pairsV R.table) hsrc (pairsV_len _) (pairs_one _) (by unfold maxLen; omega) (by omega) (Nat.le_refl _) ?_; intro t1 w1 ho1 hg1 ha1; obtain ⟨o1, k1, rfl⟩ := own_slice ho1; have hf1 : Fr [] w w1 := Fr.new_grown (Fr.refl [] w) (NewV.nil w) hg1; clear hg1 ha1)
  obtain ⟨cp, hcp⟩ : ∃ cp, cp = w1.heap.size := ⟨_, rfl⟩
  obtain ⟨W1, hW1⟩ : ∃ W1, W1 = w1.alloc (.cells #[.slice o1 R.table.length k1, .slice none 0 0] 71) := ⟨_, rfl⟩
  have hfW : Fr [] w W1 := by rw [hW1]; exact hf1.alloc _
  have hRW : RsIn W1 cp (.slice o1 R.table.length k1) (.slice none 0 0) [] ⟨R.table, []⟩ := by
    refine { base := Nat.le_trans HI.out.low (by rw [hcp]; exact hf1.size), blk := ?_, tab := ?_, txs := World.ownsRow_nil _ _ _ _, lks := by simp, apart := by simp, rs := rfl }
    · rw [hW1, hcp]; exact heap_alloc_new w1 _
    · rw [hW1]
      have := ownsRow_base_a ho1 HI.out.low
      simpa using this.alloc _
  have hcw : w.heap.size ≤ cp := by rw [hcp]; exact hf1.size
  have hcl : cp < W1.heap.size := (Array.getElem?_eq_some_iff.1 hRW.blk).1
  rw [← hW1]
  rw [← hcp]
  have H1 := toHid (show RsIn W1 cp (.slice o1 R.table.length k1) (.slice none 0 0) [] ⟨R.table, []⟩ ∧ Fr [] w W1 ∧ w.heap.size ≤ cp ∧ cp < W1.heap.size from ⟨hRW, hfW, hcw, hcl⟩)
  clear hW1 hcp hRW hfW ho1 hf1 hsrc c0 c1 hin hz0 hz1 hz2 hcw hcl
  obtain ⟨n, hnn⟩ : ∃ n, n = ps.length := ⟨_, rfl⟩
  have HN : Hid (ps.length = n) := hnn.symm
  rw [← HI.out.len, ← hnn] at hn
  clear hnn
  have HL : Hid (∀ x ∈ R.txns, x.locks.length ≤ 1000) := hl
  clear hl
  go_loopw [4] (fun i wr => ∃ (k : Nat) (xv' : Value) (qs : List (RTx × Value)), k ≤ n ∧ i = .int .i64 k ∧ Hid (RsIn wr cp (.slice o1 R.table.length k1) xv' qs ⟨R.table, R.txns.take k⟩ ∧ Fr [] w wr ∧ qs.length = k ∧ NewV w xv' ∧ W1.heap.size ≤ wr.heap.size)) (fun i _ => n - (intOf i).toNat)
  case atStart => exact ⟨0, .slice none 0 0, [], Nat.zero_le _, rfl, H1.out.1, H1.out.2.1, rfl, NewV.nil _, Nat.le_refl _⟩
  case round =>
    obtain ⟨k, xv', qs, hk, rfl, hr⟩ := hrel
    have hrI := HI.out.fr hr.out.2.1
    have c1 := blk_cell hrI.blk 1
    simp at c1
    obtain ⟨ao, c, e0, H⟩ := hrI.slice
    rw [e0, HN.out] at c1
    have hsz := hr.out.2.1.size
    have hBr : B0 ≤ wr.heap.size := Nat.le_trans HI.out.low hsz
    have hcl : cp < wr.heap.size := Nat.lt_of_lt_of_le H1.out.2.2.2 hr.out.2.2.2.2
    by_cases hlt : k < n
    · obtain ⟨p, hp⟩ : ∃ p, ps[k]? = some p := ⟨_, List.getElem?_eq_getElem (by rw [HN.out]; exact hlt)⟩
      obtain ⟨g, rfl, x0, x1, x2, x3, x4⟩ := H k p hp
      have hlk := hrI.lks p (List.mem_of_getElem? hp)
      obtain ⟨pa, pc, ep⟩ := own_slice hlk
      have hln := HL.out p.1 (List.mem_of_getElem? (HI.out.back hp))
      obtain ⟨nl, hnl⟩ : ∃ nl, nl = p.1.locks.length := ⟨_, rfl⟩
      rw [ep] at x4 hlk
      rw [← hnl] at x4 hlk hln
      have hbc := blk_cell hr.out.1.blk 1
      simp at hbc
      have i1 : (0 : Int) ≤ (k : Int) := by omega
      have i2 : (k : Int) < (n : Int) := by omega
      have HP : Hid (ps[k]? = some p ∧ nl = p.1.locks.length) := ⟨hp, hnl⟩
      have hls := src_row (hlk.alloc (.cells #[.int .u64 (p.1.id : Int), .int .i64 (p.1.st : Int), .int .i64 (p.1.ops : Int), .int .i64 (p.1.age : Int), .slice pa nl pc] 126))
      clear H hp hrI hnl ep hlk
      go_wp2_with (at_builtin; refine wpList_app rfl _ _ 124 rfl wr.heap.size 201 l0 _ 4 40 Tryz.underlying124 hln0 lz0 lz1 lz2 rfl (by decide) (.slice none 0 0) 0 [] rfl (World.ownsRow_nil _ _ _ _) nl (locksV p.1.locks) hls (by rw [locksV_len, ← HP.out.2]) (locks_one _) (by unfold maxLen; omega) (by omega) (by simp) ?_; intro lv w2 ho2 hg2 ha2; obtain ⟨o2, k2, rfl⟩ := own_slice ho2; have hb2 := (hg2.block wr.heap.size (by simp) (by simp [Value.ownBlock])).trans (heap_alloc_new wr _); have q0 := blk_cell hb2 0; have q1 := blk_cell hb2 1; have q2 := blk_cell hb2 2; have q3 := blk_cell hb2 3; have q4 := blk_cell hb2 4; have qf := blk_free hb2 4; have hc2 := hg2.cell ((World.cell?_of_block (a := ⟨cp, 1, none⟩) (Below.heap_alloc wr _ cp hcl)).trans hbc) (by simp [Value.ownBlock]); simp at q0 q1 q2 q3 q4)
      have hW3 : Fr [] wr (w2.setCell ⟨wr.heap.size, 4, none⟩ (.slice o2 nl k2)) := (Fr.new_grown ((Fr.refl [] wr).alloc _) (NewV.nil wr) hg2).setCell (.inr (Nat.le_refl _)) _
      have hl3 : (w2.setCell ⟨wr.heap.size, 4, none⟩ (.slice o2 nl k2)).ownsRow wr.heap.size 201 4 (.slice o2 nl k2) nl (locksV p.1.locks) := ownsRow_set (by simpa using ho2) hb2 (by decide)
      have hb3 := blk_set hb2 4 (.slice o2 nl k2)
      obtain ⟨W3, hw3⟩ : ∃ W3, W3 = w2.setCell ⟨wr.heap.size, 4, none⟩ (.slice o2 nl k2) := ⟨_, rfl⟩
      rw [← hw3] at hW3 hl3 hb3 ⊢
      clear hw3 q0 q1 q2 q3 q4 qf hc2 hg2 ha2 ho2 hb2 hbc hls
      have b0 := blk_cell hb3 0
      have b1 := blk_cell hb3 1
      have b2 := blk_cell hb3 2
      have b3 := blk_cell hb3 3
      have b4 := blk_cell hb3 4
      simp at b0 b1 b2 b3 b4
      have hr3 := hr.out.1.fr hW3
      have p2 := blk_cell hr3.blk 1
      have g2 := blk_free hr3.blk 1
      simp at p2
      have hc3 : cp < W3.heap.size := Nat.lt_of_lt_of_le hcl hW3.size
      have hfa : ∀ ob, (W3.alloc ob).frozen? ⟨cp, 1, none⟩ = false := fun ob => (World.frozen?_of_block (a := ⟨cp, 1, none⟩) (Below.heap_alloc W3 ob cp hc3)).trans g2
      have hpa : ∀ ob, (W3.alloc ob).cell? ⟨cp, 1, none⟩ = some xv' := fun ob => (World.cell?_of_block (a := ⟨cp, 1, none⟩) (Below.heap_alloc W3 ob cp hc3)).trans p2
      have hrow := hr3.txs
      rw [hr.out.2.2.1] at hrow
      obtain ⟨xo, xc, ex⟩ := own_slice hrow
      subst ex
      have HB : Hid (W3.heap[cp]? = some (rshO (.slice o1 R.table.length k1) (.slice xo k xc)) ∧ some cp ≠ (Value.slice xo k xc).ownBlock) := ⟨hr3.blk, fun e => own_ne hrow hr3.blk (by decide) e.symm⟩
      have hB3 : B0 ≤ W3.heap.size := Nat.le_trans hBr hW3.size
      have H3 := toHid (show Fr [] wr W3 ∧ W3.ownsRow wr.heap.size 201 4 (.slice o2 nl k2) nl (locksV p.1.locks) ∧ W3.ownsRow B0 126 5 (.slice xo k xc) k (rtxsV qs) from ⟨hW3, hl3, hrow⟩)
      clear hW3 hl3 hb3 hr3 hrow
      go_region_law (first | (rw [if_pos (by rfl)]; refine wp_append_at _ _ 69 rfl B0 126 j0 _ 5 56 Tryz.underlying69 hjn gz0 gz1 gz2 rfl (by decide) _ k (rtxsV qs) rfl (H3.out.2.2.alloc _) ⟨W3.heap.size, 0, none⟩ 1 1 [.int .u64 (p.1.id : Int), .int .i64 (p.1.st : Int), .int .i64 (p.1.ops : Int), .int .i64 (p.1.age : Int), .slice o2 nl k2] rfl rfl (cells_new _ #[.int .u64 (p.1.id : Int), .int .i64 (p.1.st : Int), .int .i64 (p.1.ops : Int), .int .i64 (p.1.age : Int), .slice o2 nl k2] _) (by intro u hu; simp at hu; rcases hu with rfl | rfl | rfl | rfl | rfl <;> rfl) (by unfold maxLen; omega) (by omega) (Nat.le_trans hB3 (by simp)) ?_; intro v4 w4 ho4 hg4 hl4; obtain ⟨o4, c4, rfl⟩ := own_slice ho4; have hb4 : w4.heap[cp]? = some (rshO (.slice o1 R.table.length k1) (.slice xo k xc)) := (hg4.block cp (by simp; omega) HB.out.2).trans ((Below.heap_alloc W3 _ cp hc3).trans HB.out.1); have t2 := blk_cell hb4 1; have tf := blk_free hb4 1; simp at t2))
      all_goals
        have hf4 : Fr (Value.slice xo k xc).ownBlock.toList wr w4 := (H3.out.1.mono (by simp)).trans ((((Fr.refl _ W3).alloc _).drew).trans (Fr.of_grown (r := (Value.slice xo k xc).ownBlock) hg4))
        have HR : Hid (RsIn (w4.setCell ⟨cp, 1, none⟩ (.slice o4 (k + 1) c4)) cp (.slice o1 R.table.length k1) (.slice o4 (k + 1) c4) (qs ++ [(p.1, .slice o2 nl k2)]) ⟨R.table, R.txns.take (k + 1)⟩ ∧ Fr [] w (w4.setCell ⟨cp, 1, none⟩ (.slice o4 (k + 1) c4)) ∧ (qs ++ [(p.1, (.slice o2 nl k2 : Value))]).length = k + 1 ∧ NewV w (.slice o4 (k + 1) c4) ∧ W1.heap.size ≤ (w4.setCell ⟨cp, 1, none⟩ (.slice o4 (k + 1) c4)).heap.size) := by
          have hlf : w4.ownsRow B0 201 4 (.slice o2 nl k2) p.1.locks.length (locksV p.1.locks) := by
            have h1 := ownsRow_fr (ownsRow_base_a H3.out.2.1 hBr) (((Fr.refl [] W3).alloc (.cells #[.int .u64 (p.1.id : Int), .int .i64 (p.1.st : Int), .int .i64 (p.1.ops : Int), .int .i64 (p.1.age : Int), .slice o2 nl k2] 126)).drew) (by simp)
            have h2 := ownsRow_fr H3.out.2.2 (((Fr.refl [] W3).alloc (.cells #[.int .u64 (p.1.id : Int), .int .i64 (p.1.st : Int), .int .i64 (p.1.ops : Int), .int .i64 (p.1.age : Int), .slice o2 nl k2] 126)).drew) (by simp)
            rw [← HP.out.2]
            refine ownsRow_fr h1 (Fr.of_grown (r := (Value.slice xo k xc).ownBlock) hg4) fun g hg hm => ?_
            have hm2 : (Value.slice xo k xc).ownBlock = some g := by simpa using hm
            obtain ⟨ca, ea⟩ := own_cells h1 hg
            obtain ⟨cb, eb⟩ := own_cells h2 hm2
            rw [ea] at eb
            cases eb
          have e1 : R.txns.take (k + 1) = R.txns.take k ++ [p.1] := by rw [List.take_add_one, HI.out.back HP.out.1]; rfl
          have hq := hr.out.2.2.1
          refine ⟨?_, ?_, by simp [hq], ?_, ?_⟩
          · rw [e1]
            exact hr.out.1.pushTx hf4 (by rw [hq]; exact ho4) hlf fun g hg => (H3.out.2.1.lt g hg).1
          · have hx : Fr [] w w4 := (hr.out.2.1).trans_new hf4 hr.out.2.2.2.1
            exact hx.setCell (.inr H1.out.2.2.1) _
          · exact NewV.next hr.out.2.2.2.1 (by have := H3.out.1.size; simp; omega) hl4
          · have h1 := hf4.size
            have h2 := hr.out.2.2.2.2
            simp [World.setCell]; omega
        clear hf4 hg4 ho4 hl4 hb4
        go_wp2
        go_roundw
        case rel => exact ⟨k + 1, _, _, by omega, by go_num, HR.out⟩
        case measure => simp [intOf]; omega
    · have hkn : k = n := by omega
      have HT : Hid (R.txns.take k = R.txns) := List.take_of_length_le (by rw [hkn, ← HN.out, HI.out.len]; omega)
      clear H
      go_wp2
      go_ret
      refine ⟨cp, rfl, H1.out.2.2.1, ?_, hr.out.2.1⟩
      have := hr.out.1
      rw [HT.out] at this
      exact ⟨_, _, _, this⟩
end Go.Proofs.YtejiankgafjppaaGreatDoor
