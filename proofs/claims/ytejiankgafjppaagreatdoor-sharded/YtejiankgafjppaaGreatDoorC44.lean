import Derived.Test.YtejiankgafjppaaGreatDoorC43
/- THE DOCUMENT'S SHARD: take of a transaction that is new. (Written by mkrss.py.) -/
namespace Go.Proofs.YtejiankgafjppaaGreatDoor
open Go.RowKit Go.Maps
open Sc

section
variable (rp t : Nat) (k : ByteArray) (wr : Bool) (R : RSh) (w : World)
set_option maxRecDepth 100000 in
set_option maxHeartbeats 16000000 in
theorem rtake_new [Inhabited Bs] (h : RS w rp R) (ha : Asc R.txns) (hn : R.txns.length ≤ 12) (hl : ∀ x ∈ R.txns, x.locks.length ≤ 4) (hat : txAt R.txns t = none) (hr : R.refuse t 0 k = 0) :
    Calls Tryz.prog 206 #[.pointer (some ⟨rp, 0, none⟩), .int .u64 (t : Int), .int .i64 0, .string k, .bool wr] w fun e w' => ∃ i kx : Nat, e = .returned (.tuple #[.int .i64 (i : Int), .int .i64 (kx : Int), .int .i64 ((R.op t 0 k wr (fget k)).2 : Int)]) ∧ Took w w' rp t 0 k wr R i kx := by
  have hfi := h.find (t := t) (by omega)
  obtain ⟨h0, hk1, hk2, _, hrn⟩ := refuse_zero hr
  obtain ⟨_, h12⟩ := hrn hat
  have hx : txIx R.txns t = none := by
    cases hz : txIx R.txns t with
    | none => rfl
    | some i => obtain ⟨x', _, _, e⟩ := txIx_some hz; rw [hat] at e; cases e
  rw [hx] at hfi
  have e2 : ixI none = -1 := rfl
  rw [e2] at hfi
  have z1 : ¬ ((t : Int) = 0) := by omega
  have b0 : ((t : Int) == 0) = false := by simp; omega
  have y1 : ¬ (k.size : Int) < 1 := by omega
  have y2 : ¬ (16 : Int) < (k.size : Int) := by omega
  obtain ⟨ao, cc, c1⟩ := h.nil
  obtain ⟨m, hm⟩ : ∃ m, m = R.txns.length := ⟨_, rfl⟩
  rw [← hm] at c1
  have hm12 : m < 12 := by omega
  have z12 : ¬ ((m : Int) = 12) := by omega
  have b12 : ((m : Int) == 12) = false := by simp; omega
  obtain ⟨tv, xv, ps, h⟩ := h
  have hpl : ps.length = m := by rw [h.len, hm]
  have HI : Hid (RsIn w rp tv xv ps R ∧ Asc R.txns ∧ (∀ x ∈ R.txns, x.locks.length ≤ 4) ∧ R.refuse t 0 k = 0 ∧ txAt R.txns t = none) := ⟨h, ha, hl, hr, hat⟩
  have hbg := fun q => rbegin_any rp t tv xv ps R (w.drewN q) (h.fr ((Fr.refl [] w).drewM q)) (by omega)
  clear h hx hat hl ha hn hrn hr hm h12
  go_enter Tryz.func206, Tryz.ntmps206
  go_wp2_with fail
  refine hfi.mono ?_
  rintro e w1 ⟨rfl, q, rfl⟩
  clear hfi
  have hbq := hbg q
  clear hbg
  go_wp2_with fail
  refine hbq.mono ?_
  rintro e W ⟨i, hik, rfl, hB⟩
  clear hbq c1
  obtain ⟨xv', hRb⟩ := hB.rs
  obtain ⟨x, hxx⟩ : ∃ x, x = newTx t := ⟨_, rfl⟩
  obtain ⟨v, hp⟩ := hRb.at hB.at_
  have hpv : (ps.take i ++ newP t :: ps.drop i)[i]? = some (newP t) := by
    rw [List.getElem?_append_right (by rw [List.length_take]; omega), List.length_take, Nat.min_eq_left hik, Nat.sub_self]
    rfl
  obtain ⟨ao', c, e0, H⟩ := hRb.slice
  obtain ⟨g, e3, _⟩ := H i _ hpv
  rw [e3] at e0
  subst e0
  obtain ⟨qs, hqs⟩ : ∃ qs, qs = ps.take i ++ newP t :: ps.drop i := ⟨_, rfl⟩
  obtain ⟨n, hnn⟩ : ∃ n, n = qs.length := ⟨_, rfl⟩
  have hn13 : n ≤ 13 := by rw [hnn, hqs, List.length_append, List.length_take, List.length_cons, List.length_drop]; omega
  have hil : i < n := by rw [hnn, hqs]; exact (List.getElem?_eq_some_iff.1 hpv).1
  obtain ⟨R1, hR1⟩ : ∃ R1, R1 = RSh.mk R.table (ins R.txns (newTx t)) := ⟨_, rfl⟩
  obtain ⟨la, hla⟩ : ∃ la : Option Addr, la = none := ⟨_, rfl⟩
  obtain ⟨lc, hlc⟩ : ∃ lc : Nat, lc = 0 := ⟨_, rfl⟩
  have hvv : Value.slice none 0 0 = .slice la x.locks.length lc := by rw [hla, hlc, hxx]; rfl
  have TL : Hid (Tl W rp g n c i tv qs R1 x (.slice la x.locks.length lc)) := by
    refine ⟨?_, hnn.symm, ?_⟩
    · rw [hnn, hqs, hR1]; exact hRb
    · rw [← hvv, hqs, hxx]; exact hpv
  have HB : Hid (TkB w W t 0 k qs R R1 x) := by
    refine ⟨?_, by rw [hR1], ?_, ?_, (RBr.of_fr ((Fr.refl [] w).drewM q) (by simp)).trans (RBr.of_fr hB.fr fun z hz => by simp at hz; subst hz; exact (HI.out.1.fr ((Fr.refl [] w).drewM q)).ref), fun p hp => ?_, HI.out.2.2.2.1, by rw [hxx]; show 0 < _; decide⟩
    · rw [hR1]; unfold began; rw [HI.out.2.2.2.2]; rfl
    · rw [hxx]; unfold RSh.tx; rw [HI.out.2.2.2.2]; rfl
    · rw [hR1]; exact HI.out.2.1.ins _ HI.out.2.2.2.2
    · rw [hqs] at hp
      rcases List.mem_append.1 hp with hp | hp
      · obtain ⟨j, hj⟩ := List.mem_iff_getElem?.1 (List.mem_of_mem_take hp)
        exact HI.out.2.2.1 p.1 (List.mem_of_getElem? (HI.out.1.back hj))
      · rcases List.mem_cons.1 hp with rfl | hp
        · show 0 ≤ 4; omega
        · obtain ⟨j, hj⟩ := List.mem_iff_getElem?.1 (List.mem_of_mem_drop hp)
          exact HI.out.2.2.1 p.1 (List.mem_of_getElem? (HI.out.1.back hj))
  have HJ : Hid (lockIx x.locks k = none) := by show _ = _; rw [hxx]; rfl
  have i0 : (0 : Int) ≤ (i : Int) := by omega
  have i1 : (i : Int) < (n : Int) := by omega
  have i2 : ¬ (i : Int) < 0 := by omega
  obtain ⟨ps, hps⟩ : ∃ ps, ps = qs := ⟨_, rfl⟩
  rw [← hps] at TL HB
  have c1 := True.intro
  have x1 := True.intro
  have x2 := True.intro
  have x3 := True.intro
  have x4 := True.intro
  clear hps hvv hla hlc hR1 hnn hqs hpv hp H e3 hRb hB hxx hik hpl
  obtain ⟨T1, r1⟩ := TL.out.set (j := 3) (u := .int .i64 0) (x' := ⟨x.id, x.st, x.ops, 0, x.locks⟩) (by decide) rfl rfl
  have hme := rmeets_any rp t k wr tv (.slice (some ⟨g, 0, none⟩) n c) _ _ _ T1.1 (by rw [T1.2.1]; omega) (fun p hp => by
    rcases List.mem_or_eq_of_mem_set hp with hp | rfl
    · have := HB.out.lks p hp; omega
    · have := HB.out.lks _ (List.mem_of_getElem? TL.out.2.2); exact Nat.le_trans this (by decide))
  have hmv : meets (R1.txns.set i ⟨x.id, x.st, x.ops, 0, x.locks⟩) t k wr = meets (began R.txns t) t k wr := by rw [meets_set (x := x) (x' := ⟨x.id, x.st, x.ops, 0, x.locks⟩) TL.out.tx rfl rfl, HB.out.xs]
  rw [show (RSh.mk R1.table (R1.txns.set i ⟨x.id, x.st, x.ops, 0, x.locks⟩)).txns = R1.txns.set i ⟨x.id, x.st, x.ops, 0, x.locks⟩ from rfl, hmv] at hme
  obtain ⟨b, hb⟩ : ∃ b, b = meets (began R.txns t) t k wr := ⟨_, rfl⟩
  rw [← hb] at hme
  have HM : Hid (b = meets (began R.txns t) t k wr) := hb
  have H1 := toHid (And.intro T1 r1)
  clear c1 x1 x2 x3 x4
  obtain ⟨c1, x1, x2, x3, x4, hrow, hfz⟩ := TL.out.1.cellsAt rfl TL.out.2.2
  have f3 := hfz (i * 5 + 3)
  try simp only [] at x1 x2 x3 x4 hrow
  have hxo := HB.out.ops
  have hx4 := HB.out.lks _ (List.mem_of_getElem? TL.out.2.2)
  try simp only [] at hx4
  clear T1 r1 hmv hb hrow hfz
  go_wp2_with fail
  refine hme.mono ?_
  rintro e wm ⟨rfl, q3, rfl⟩
  have T2 := H1.out.1.fr ((Fr.refl [] _).drewM q3)
  have r2 := H1.out.2.trans (RBr.of_fr ((Fr.refl [] _).drewM q3) (by simp))
  generalize (W.setCell ⟨g, i * 5 + 3, none⟩ (.int .i64 0)).drewN q3 = W2 at T2 r2 ⊢
  clear hme c1 x1 x2 x3 x4 f3 H1
  obtain ⟨c1, x1, x2, x3, x4, hrow, hfz⟩ := T2.1.cellsAt rfl T2.2.2
  have f1 := hfz (i * 5 + 1)
  have f2 := hfz (i * 5 + 2)
  try simp only [] at x1 x2 x3 x4 hrow
  cases b with
  | true =>
    obtain ⟨T3, r3⟩ := T2.set (j := 1) (u := .int .i64 2) (x' := x.doomed) (by decide) rfl rfl
    have HO : Hid (R.op t 0 k wr (fget k) = (⟨R.table, upd (began R.txns t) (R.tx t).doomed⟩, 3)) := op_doom HB.out.re HM.out.symm
    have HR : Hid (Took w (W2.setCell ⟨g, i * 5 + 1, none⟩ (.int .i64 2)) rp t 0 k wr R 0 0) := by
      refine ⟨?_, (HB.out.fr.trans r2).trans r3, fun h => by rw [HO.out] at h; cases h⟩
      rw [HO.out]
      have e9 : (R1.txns.set i ⟨x.id, x.st, x.ops, 0, x.locks⟩).set i x.doomed = upd (began R.txns t) (R.tx t).doomed := by rw [upd_set (z := x.doomed) HB.out.asc TL.out.tx rfl, HB.out.xs, ← HB.out.tx]
      have := T3.1
      rw [show (RSh.mk (RSh.mk R1.table (R1.txns.set i ⟨x.id, x.st, x.ops, 0, x.locks⟩)).table ((RSh.mk R1.table (R1.txns.set i ⟨x.id, x.st, x.ops, 0, x.locks⟩)).txns.set i x.doomed)) = RSh.mk R1.table ((R1.txns.set i ⟨x.id, x.st, x.ops, 0, x.locks⟩).set i x.doomed) from rfl, e9, HB.out.tab] at this
      exact ⟨_, _, _, this⟩
    clear T3 r3 hrow hfz T2 r2
    go_wp2
    go_ret3
    exact ⟨0, 0, by rw [HO.out]; rfl, HR.out⟩
  | false =>
    obtain ⟨T3, r3⟩ := T2.set (j := 2) (u := .int .i64 ((x.ops : Int) + 1)) (x' := ⟨x.id, x.st, x.ops + 1, 0, x.locks⟩) (by decide) rfl rfl
    have HO : Hid (R.op t 0 k wr (fget k) = (⟨R.table, upd (began R.txns t) ((R.tx t).worked (fget k))⟩, 0)) := op_work HB.out.re HM.out.symm
    obtain ⟨d1, d2, d3, d4, d5, drow, dfz⟩ := T3.1.cellsAt rfl T3.2.2
    have hlo := rlock_any g (i * 5) (.slice la x.locks.length lc) k x.locks _ d5 drow (by omega)
    have H3 := toHid (And.intro T3 ((HB.out.fr.trans r2).trans r3))
    clear T3 r3 hrow hfz T2 r2 d1 d2 d3 d4 d5 drow dfz
    go_wp2_with fail
    refine hlo.mono ?_
    rintro e wm ⟨rfl, q4, rfl⟩
    have T4 := H3.out.1.fr ((Fr.refl [] _).drewM q4)
    have r4 := H3.out.2.trans (RBr.of_fr ((Fr.refl [] _).drewM q4) (by simp))
    generalize (W2.setCell ⟨g, i * 5 + 2, none⟩ (.int .i64 ((x.ops : Int) + 1))).drewN q4 = W4 at T4 r4 ⊢
    clear hlo c1 x1 x2 x3 x4 f1 f2 H3
    obtain ⟨c1, x1, x2, x3, x4, hrow, hfz⟩ := T4.1.cellsAt rfl T4.2.2
    have f4 := hfz (i * 5 + 4)
    try simp only [] at x1 x2 x3 x4 hrow
    have HX : Hid (∀ y : RTx, y.id = x.id → (((R1.txns.set i ⟨x.id, x.st, x.ops, 0, x.locks⟩).set i ⟨x.id, x.st, x.ops + 1, 0, x.locks⟩).set i y) = upd (began R.txns t) y) := fun y hy => by rw [List.set_set, upd_set HB.out.asc TL.out.tx hy, HB.out.xs]
    have HA : Hid (∀ y : RTx, y.id = x.id → (upd (began R.txns t) y)[i]? = some y) := fun y hy => by
      rw [← HX.out y hy]
      exact set_at (set_at (set_at TL.out.tx))
    have e1 : ixI none = -1 := rfl
    have hx := HJ.out
    rw [hx, e1]
    have HW : Hid (Tl W4 rp g n c i tv ((ps.set i (⟨x.id, x.st, x.ops, 0, x.locks⟩, .slice la x.locks.length lc)).set i (⟨x.id, x.st, x.ops + 1, 0, x.locks⟩, .slice la x.locks.length lc)) ⟨R1.table, (R1.txns.set i ⟨x.id, x.st, x.ops, 0, x.locks⟩).set i ⟨x.id, x.st, x.ops + 1, 0, x.locks⟩⟩ ⟨x.id, x.st, x.ops + 1, 0, x.locks⟩ (.slice la x.locks.length lc) ∧ RBr w W4 ∧ lockAt x.locks k = none) := ⟨T4, r4, lockIx_none hx⟩
    have hgl : g < W4.heap.size := World.block_lt_of_cell? W4 _ x4
    have hrl : rp < W4.heap.size := World.block_lt_of_cell? W4 _ c1
    have hca : ∀ ob, (W4.alloc ob).cell? ⟨rp, 1, none⟩ = some (.slice (some ⟨g, 0, none⟩) n c) := fun ob => (World.cell?_of_block (a := ⟨rp, 1, none⟩) (Below.heap_alloc W4 ob rp hrl)).trans c1
    have hxa : ∀ ob, (W4.alloc ob).cell? ⟨g, i * 5 + 4, none⟩ = some (.slice la x.locks.length lc) := fun ob => (World.cell?_of_block (a := ⟨g, i * 5 + 4, none⟩) (Below.heap_alloc W4 ob g hgl)).trans x4
    have hfa : ∀ ob, (W4.alloc ob).frozen? ⟨g, i * 5 + 4, none⟩ = false := fun ob => (World.frozen?_of_block (a := ⟨g, i * 5 + 4, none⟩) (Below.heap_alloc W4 ob g hgl)).trans f4
    obtain ⟨l0, hln0, lz0, lz1, lz2⟩ := info_parts Tryz.infoRLock
    obtain ⟨nl, hnl⟩ : ∃ nl, nl = x.locks.length := ⟨_, rfl⟩
    have HNL : Hid (nl = x.locks.length) := hnl
    rw [← hnl] at x4 hxa hx4 hrow
    have HQ : Hid (W4.ownsRow B0 201 4 (.slice la nl lc) nl (locksV x.locks) ∧ some g ≠ (Value.slice la nl lc).ownBlock ∧ some rp ≠ (Value.slice la nl lc).ownBlock) := by
      have htx := T4.1.txs
      obtain ⟨cur, hg⟩ := own_cells htx (g := g) rfl
      exact ⟨hrow, fun e => own_ne hrow hg (by decide) e.symm, fun e => own_ne hrow T4.1.blk (by decide) e.symm⟩
    clear T4 r4 hfz hx hrow hnl
    go_wp2
    go_region_law (first | (rw [if_pos (by rfl)]; refine wp_append_at _ _ 124 rfl B0 201 l0 _ 4 40 Tryz.underlying124 hln0 lz0 lz1 lz2 rfl (by decide) _ nl (locksV x.locks) rfl (HQ.out.1.alloc _) ⟨W4.heap.size, 0, none⟩ 1 1 (lockC ⟨k, false, false, ByteArray.empty⟩) rfl rfl (cells_new _ #[.string k, .bool false, .bool false, .string ByteArray.empty] _) (by intro u hu; simp at hu; rcases hu with rfl | rfl | rfl | rfl <;> rfl) (by unfold maxLen; omega) (by omega) (Nat.le_trans HW.out.1.1.low (by simp)) ?_; intro v5 w5 ho5 hg5 hl5; obtain ⟨o5, c5, rfl⟩ := own_slice ho5; have hw5 : w5.heap[g]? = W4.heap[g]? := (hg5.block g (by simp; omega) HQ.out.2.1).trans (Below.heap_alloc W4 _ g hgl); have t4 := (World.cell?_of_block (a := ⟨g, i * 5 + 4, none⟩) hw5).trans x4; have tf := (World.frozen?_of_block (a := ⟨g, i * 5 + 4, none⟩) hw5).trans f4; have hv5 : w5.heap[rp]? = W4.heap[rp]? := (hg5.block rp (by simp; omega) HQ.out.2.2).trans (Below.heap_alloc W4 _ rp hrl); have t1 := (World.cell?_of_block (a := ⟨rp, 1, none⟩) hv5).trans c1; clear hw5 hv5))
    all_goals
      have HR : Hid (Took w (w5.setCell ⟨g, i * 5 + 4, none⟩ (.slice o5 (nl + 1) c5)) rp t 0 k wr R i nl) := by
        have ef : fget k x.locks = x.locks ++ [⟨k, false, false, ByteArray.empty⟩] := by unfold fget; simp [HW.out.2.2]
        have hfr : Fr (Value.slice la nl lc).ownBlock.toList W4 w5 := (((Fr.refl _ W4).alloc _).drew).trans (Fr.of_grown (r := (Value.slice la nl lc).ownBlock) hg5)
        have ew : x.worked (fget k) = ⟨x.id, x.st, x.ops + 1, 0, x.locks ++ [⟨k, false, false, ByteArray.empty⟩]⟩ := by unfold RTx.worked; rw [ef]
        have hTl := HW.out.1
        rw [← HNL.out] at hTl
        obtain ⟨k1, k2⟩ := hTl.setL (x' := x.worked (fget k)) (v2 := .slice o5 (nl + 1) c5) hfr (by rw [ew, locksV_app]; show w5.ownsRow _ _ _ _ (x.locks ++ [_]).length _; rw [List.length_append, ← HNL.out]; exact ho5) (hl5.elim (fun e => .inl e) (fun e => .inr ⟨_, e, by simp⟩)) (by rw [ew]; rfl)
        refine ⟨?_, HW.out.2.1.trans k2, fun _ => ⟨⟨k, false, false, ByteArray.empty⟩, ?_, ?_, rfl⟩⟩
        · rw [HO.out, ← HB.out.tx, ← HX.out (x.worked (fget k)) rfl, ← HB.out.tab]
          exact k1
        · rw [HO.out, ← HB.out.tx]
          exact HA.out _ rfl
        · rw [← HB.out.tx, ef, HNL.out]
          simp
      clear ho5 hg5 hl5
      go_wp2
      go_ret3
      exact ⟨i, nl, by rw [HO.out]; rfl, HR.out⟩
end
end Go.Proofs.YtejiankgafjppaaGreatDoor
