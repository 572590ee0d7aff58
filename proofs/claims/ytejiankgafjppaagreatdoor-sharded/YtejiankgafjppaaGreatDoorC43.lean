import Derived.Test.YtejiankgafjppaaGreatDoorC42
/- THE DOCUMENT'S SHARD: take, where it does not refuse. (Written by mkrsr.py.) -/
namespace Go.Proofs.YtejiankgafjppaaGreatDoor
open Go.RowKit Go.Maps
open Sc

abbrev fget (k : ByteArray) : List RLock → List RLock := fun ls => if (lockAt ls k).isSome = true then ls else ls ++ [⟨k, false, false, ByteArray.empty⟩]
theorem RsIn.cellsAt [Inhabited Bs] {w : World} {rp : Nat} {tv xv : Value} {ps : List (RTx × Value)} {R : RSh} (h : RsIn w rp tv xv ps R) {i g n c : Nat} {x : RTx} {v : Value} (hx : xv = .slice (some ⟨g, 0, none⟩) n c) (hp : ps[i]? = some (x, v)) :
    w.cell? ⟨rp, 1, none⟩ = some (.slice (some ⟨g, 0, none⟩) n c) ∧ w.cell? ⟨g, i * 5 + 1, none⟩ = some (.int .i64 (x.st : Int)) ∧ w.cell? ⟨g, i * 5 + 2, none⟩ = some (.int .i64 (x.ops : Int)) ∧ w.cell? ⟨g, i * 5 + 3, none⟩ = some (.int .i64 (x.age : Int)) ∧ w.cell? ⟨g, i * 5 + 4, none⟩ = some v ∧ w.ownsRow B0 201 4 v x.locks.length (locksV x.locks) ∧ ∀ j, w.frozen? ⟨g, j, none⟩ = false := by
  have c1 := blk_cell h.blk 1
  simp at c1
  obtain ⟨ao, c', e0, H⟩ := h.slice
  obtain ⟨g', e3, x0, x1, x2, x3, x4⟩ := H i _ hp
  rw [hx] at e0 c1
  simp only [Value.slice.injEq] at e0
  have eg : g' = g := by have := e0.1; rw [e3] at this; cases this; rfl
  subst eg
  have htx := h.txs
  rw [hx] at htx
  obtain ⟨cur, hg⟩ := own_cells htx (g := g') rfl
  exact ⟨c1, x1, x2, x3, x4, h.lks _ (List.mem_of_getElem? hp), fun j => blk_free hg j⟩
/-- what take leaves where it does not refuse -/
structure Took [Inhabited Bs] (w w' : World) (rp t : Nat) (seq : Int) (k : ByteArray) (wr : Bool) (R : RSh) (i kx : Nat) : Prop where
  rs : RS w' rp (R.op t seq k wr (fget k)).1
  fr : RBr w w'
  at_ : (R.op t seq k wr (fget k)).2 = 0 → ∃ l, (R.op t seq k wr (fget k)).1.txns[i]? = some ((R.tx t).worked (fget k)) ∧ (fget k (R.tx t).locks)[kx]? = some l ∧ l.key = k
theorem op_doom {t : Nat} {seq : Int} {k : ByteArray} {wr : Bool} {R : RSh} {f : List RLock → List RLock} (hr : R.refuse t seq k = 0) (hm : meets (began R.txns t) t k wr = true) : R.op t seq k wr f = (⟨R.table, upd (began R.txns t) (R.tx t).doomed⟩, 3) := by
  unfold RSh.op; rw [if_pos hr, if_pos hm]
theorem op_work {t : Nat} {seq : Int} {k : ByteArray} {wr : Bool} {R : RSh} {f : List RLock → List RLock} (hr : R.refuse t seq k = 0) (hm : meets (began R.txns t) t k wr = false) : R.op t seq k wr f = (⟨R.table, upd (began R.txns t) ((R.tx t).worked f)⟩, 0) := by
  unfold RSh.op; rw [if_pos hr, if_neg (by simp [hm])]
theorem upd_set {xs : List RTx} (ha : Asc xs) {i : Nat} {x y z : RTx} (hi : xs[i]? = some x) (hz : z.id = x.id) : (xs.set i y).set i z = upd xs z := by
  rw [List.set_set]
  exact ha.set hi hz
theorem set_at {α : Type} {xs : List α} {i : Nat} {x y : α} (hi : xs[i]? = some x) : (xs.set i y)[i]? = some y := by
  rw [List.getElem?_set]
  simp [(List.getElem?_eq_some_iff.1 hi).1]
/-- the place of a transaction -/
def Tl [Inhabited Bs] (W : World) (rp g n c i : Nat) (tv : Value) (ps : List (RTx × Value)) (R : RSh) (x : RTx) (v : Value) : Prop := RsIn W rp tv (.slice (some ⟨g, 0, none⟩) n c) ps R ∧ ps.length = n ∧ ps[i]? = some (x, v)
section
variable {W W' : World} {rp g n c i : Nat} {tv : Value} {ps : List (RTx × Value)} {R : RSh} {x : RTx} {v : Value}
theorem Tl.fr [Inhabited Bs] (h : Tl W rp g n c i tv ps R x v) (hf : Fr [] W W') : Tl W' rp g n c i tv ps R x v := ⟨h.1.fr hf, h.2⟩
theorem Tl.set [Inhabited Bs] (h : Tl W rp g n c i tv ps R x v) {j : Nat} {u : Value} {x' : RTx} (hj : j < 5) (hf : rtxC (x', v) = (rtxC (x, v)).set j u) (hl : x'.locks = x.locks) : Tl (W.setCell ⟨g, i * 5 + j, none⟩ u) rp g n c i tv (ps.set i (x', v)) ⟨R.table, R.txns.set i x'⟩ x' v ∧ RBr W (W.setCell ⟨g, i * 5 + j, none⟩ u) := by
  obtain ⟨h1, h2⟩ := h.1.setF (by rw [h.2.1]) h.2.2 hj hf hl
  exact ⟨⟨h1, by rw [List.length_set, h.2.1], set_at h.2.2⟩, RBr.of_fr (Fr.set1 (S := [g]) (by simp) _ _) fun k hk => by simp at hk; subst hk; exact h2⟩
theorem Tl.setL [Inhabited Bs] (h : Tl W rp g n c i tv ps R x v) {x' : RTx} {v2 : Value} (hf : Fr v.ownBlock.toList W W') (ho : W'.ownsRow B0 201 4 v2 x'.locks.length (locksV x'.locks)) (hat : v2.ownBlock = v.ownBlock ∨ ∃ z, v2.ownBlock = some z ∧ W.heap.size ≤ z) (hc : rtxC (x', v2) = (rtxC (x, v)).set 4 v2) : RS (W'.setCell ⟨g, i * 5 + 4, none⟩ v2) rp ⟨R.table, R.txns.set i x'⟩ ∧ RBr W (W'.setCell ⟨g, i * 5 + 4, none⟩ v2) := by
  obtain ⟨h1, h2, h3⟩ := h.1.setL (by rw [h.2.1]) h.2.2 hf ho hat hc
  refine ⟨⟨_, _, _, h1⟩, RBr.of_fr (S := g :: v.ownBlock.toList) ((hf.mono (by simp +contextual)).trans (Fr.set1 (by simp) _ _)) fun k hk => ?_⟩
  rcases List.mem_cons.1 hk with rfl | hk
  · exact h2
  · exact h3 k hk
theorem Tl.tx [Inhabited Bs] (h : Tl W rp g n c i tv ps R x v) : R.txns[i]? = some x := h.1.back h.2.2
end
/-- what take knows where it has found or laid the transaction -/
structure TkB [Inhabited Bs] (w W : World) (t : Nat) (seq : Int) (k : ByteArray) (ps : List (RTx × Value)) (R R1 : RSh) (x : RTx) : Prop where
  xs : R1.txns = began R.txns t
  tab : R1.table = R.table
  tx : x = R.tx t
  asc : Asc R1.txns
  fr : RBr w W
  lks : ∀ p ∈ ps, p.1.locks.length ≤ 4
  re : R.refuse t seq k = 0
  ops : x.ops < 4611686018427387904
section
variable (rp t : Nat) (k : ByteArray) (wr : Bool) (R : RSh) (w : World)
set_option maxRecDepth 100000 in
set_option maxHeartbeats 16000000 in
theorem rtake_old [Inhabited Bs] (x : RTx) (h : RS w rp R) (ha : Asc R.txns) (hn : R.txns.length ≤ 12) (hl : ∀ x ∈ R.txns, x.locks.length ≤ 4) (hat : txAt R.txns t = some x) (hr : R.refuse t (x.ops : Int) k = 0) (hops : x.ops < 4611686018427387904) :
    Calls Tryz.prog 206 #[.pointer (some ⟨rp, 0, none⟩), .int .u64 (t : Int), .int .i64 (x.ops : Int), .string k, .bool wr] w fun e w' => ∃ i kx : Nat, e = .returned (.tuple #[.int .i64 (i : Int), .int .i64 (kx : Int), .int .i64 ((R.op t (x.ops : Int) k wr (fget k)).2 : Int)]) ∧ Took w w' rp t (x.ops : Int) k wr R i kx := by
  have hfi := h.find (t := t) (by omega)
  obtain ⟨h0, hk1, hk2, hrs, _⟩ := refuse_zero hr
  obtain ⟨h3, h2, _, h4⟩ := hrs x hat
  obtain ⟨i, hx⟩ : ∃ i, txIx R.txns t = some i := by
    cases hz : txIx R.txns t with
    | none => rw [txIx_none hz] at hat; cases hat
    | some i => exact ⟨i, rfl⟩
  obtain ⟨x', hi, hid, hat'⟩ := txIx_some hx
  rw [hat] at hat'
  cases hat'
  rw [hx] at hfi
  have e2 : ixI (some i) = (i : Int) := rfl
  rw [e2] at hfi
  have z1 : ¬ ((t : Int) = 0) := by omega
  have b0 : ((t : Int) == 0) = false := by simp; omega
  have y1 : ¬ (k.size : Int) < 1 := by omega
  have y2 : ¬ (16 : Int) < (k.size : Int) := by omega
  have z3 : ¬ ((x.st : Int) = 3) := by omega
  have b3 : ((x.st : Int) == 3) = false := by simp; omega
  have z2 : ¬ ((x.st : Int) = 2) := by omega
  have b2 : ((x.st : Int) == 2) = false := by simp; omega
  obtain ⟨tv, xv, ps, h⟩ := h
  obtain ⟨v, hp⟩ := h.at hi
  obtain ⟨ao, c, e0, H⟩ := h.slice
  obtain ⟨g, e3, _⟩ := H i _ hp
  rw [e3] at e0
  subst e0
  obtain ⟨n, hnn⟩ : ∃ n, n = ps.length := ⟨_, rfl⟩
  have hil : i < ps.length := (List.getElem?_eq_some_iff.1 hp).1
  have hn12 : ps.length ≤ 12 := by rw [h.len]; exact hn
  rw [← hnn] at hil hn12 h
  have HT : Hid (Tl w rp g n c i tv ps R x v ∧ Asc R.txns ∧ ∀ p ∈ ps, p.1.locks.length ≤ 4) := ⟨⟨h, hnn.symm, hp⟩, ha, fun p hp => by
    obtain ⟨j, hj⟩ := List.mem_iff_getElem?.1 hp
    exact hl p.1 (List.mem_of_getElem? (h.back hj))⟩
  have HR0 : Hid (R.refuse t (x.ops : Int) k = 0 ∧ txAt R.txns t = some x) := ⟨hr, hat⟩
  have i0 : (0 : Int) ≤ (i : Int) := by omega
  have i1 : (i : Int) < (n : Int) := by omega
  have i2 : ¬ (i : Int) < 0 := by omega
  obtain ⟨c1, x1, x2, x3, x4, hrow, hfz⟩ := HT.out.1.1.cellsAt rfl HT.out.1.2.2
  try simp only [] at x1 x2 x3 x4 hrow
  obtain ⟨la, lc, ev⟩ := own_slice hrow
  subst ev
  have hx4 := hl x (List.mem_of_getElem? hi)
  have hlo := fun q => rlock_any g (i * 5) (.slice la x.locks.length lc) k x.locks (w.drewN q) (by simpa using x4) (ownsRow_fr hrow ((Fr.refl [] w).drewM q) (by simp)) (by omega)
  have hcond : (∃ j : Nat, lockIx x.locks k = some j) ∨ (lockIx x.locks k = none ∧ ¬ ((x.locks.length : Int) = 4)) := by
    cases hz : lockIx x.locks k with
    | some j => exact .inl ⟨j, rfl⟩
    | none => exact .inr ⟨rfl, by have := h4 (by rw [lockIx_none hz]; rfl); omega⟩
  clear h hp H e3 hnn hx hi hat hl ha hn hrs hr hrow hfz h4
  go_enter Tryz.func206, Tryz.ntmps206
  go_wp2_with fail
  refine hfi.mono ?_
  rintro e w1 ⟨rfl, q, rfl⟩
  clear hfi
  have hlq := hlo q
  clear hlo
  go_wp2_with fail
  refine hlq.mono ?_
  rintro e w2 ⟨rfl, q2, rfl⟩
  clear hlq
  have TW := HT.out.1.fr (((Fr.refl [] w).drewM q).drewM q2)
  have rW : RBr w ((w.drewN q).drewN q2) := RBr.of_fr (((Fr.refl [] w).drewM q).drewM q2) (by simp)
  generalize (w.drewN q).drewN q2 = W at TW rW ⊢
  clear c1 x1 x2 x3 x4
  obtain ⟨c1, x1, x2, x3, x4, hrow, hfz⟩ := TW.1.cellsAt rfl TW.2.2
  try simp only [] at x1 x2 x3 x4 hrow
  obtain ⟨R1, hR1⟩ : ∃ R1, R1 = R := ⟨_, rfl⟩
  have HB : Hid (TkB w W t (x.ops : Int) k ps R R1 x) := by
    subst hR1
    refine ⟨?_, rfl, ?_, HT.out.2.1, rW, HT.out.2.2, HR0.out.1, hops⟩
    · unfold began; rw [HR0.out.2]; simp
    · unfold RSh.tx; rw [HR0.out.2]; rfl
  rw [← hR1] at TW
  have TL := toHid TW
  clear TW rW hR1 hrow hfz
  rcases hcond with ⟨j, hj⟩ | ⟨hj, h5⟩
  · have e5 : ixI (some j) = (j : Int) := rfl
    have j5 : ¬ (j : Int) < 0 := by omega
    rw [hj, e5]
    have HJ : Hid (lockIx x.locks k = _) := hj
    clear hj e5
    obtain ⟨T1, r1⟩ := TL.out.set (j := 3) (u := .int .i64 0) (x' := ⟨x.id, x.st, x.ops, 0, x.locks⟩) (by decide) rfl rfl
    have hme := rmeets_any rp t k wr tv (.slice (some ⟨g, 0, none⟩) n c) _ _ _ T1.1 (by rw [T1.2.1]; omega) (fun p hp => by
      rcases List.mem_or_eq_of_mem_set hp with hp | rfl
      · have := HB.out.lks p hp; omega
      · have := HB.out.lks _ (List.mem_of_getElem? TL.out.2.2); exact Nat.le_trans this (by decide))
    have hmv : meets (R1.txns.set i ⟨x.id, x.st, x.ops, 0, x.locks⟩) t k wr = meets (began R.txns t) t k wr := by rw [meets_set (x := x) (x' := ⟨x.id, x.st, x.ops, 0, x.locks⟩) TL.out.tx rfl rfl, HB.out.xs]
    rw [show (RSh.mk R1.table (R1.txns.set i ⟨x.id, x.st, x.ops, 0, x.locks⟩)).txns = R1.txns.set i ⟨x.id, x.st, x.ops, 0, x.locks⟩ from rfl, hmv] at hme
    obtain ⟨b, hb⟩ : ∃ b, b = meets (began R.txns t) t k wr := ⟨_, rfl⟩
    rw [← hb] at hme
    have HM : Hid (b = meets (began R.txns t) t k wr) := hb
    have H1 := toHid (And.intro T1 r1)
    clear c1 x1 x2 x3 x4
    obtain ⟨c1, x1, x2, x3, x4, hrow, hfz⟩ := TL.out.1.cellsAt rfl TL.out.2.2
    have f3 := hfz (i * 5 + 3)
    try simp only [] at x1 x2 x3 x4 hrow
    have hxo := HB.out.ops
    have hx4 := HB.out.lks _ (List.mem_of_getElem? TL.out.2.2)
    try simp only [] at hx4
    clear T1 r1 hmv hb hrow hfz
    go_wp2_with fail
    refine hme.mono ?_
    rintro e wm ⟨rfl, q3, rfl⟩
    have T2 := H1.out.1.fr ((Fr.refl [] _).drewM q3)
    have r2 := H1.out.2.trans (RBr.of_fr ((Fr.refl [] _).drewM q3) (by simp))
    generalize (W.setCell ⟨g, i * 5 + 3, none⟩ (.int .i64 0)).drewN q3 = W2 at T2 r2 ⊢
    clear hme c1 x1 x2 x3 x4 f3 H1
    obtain ⟨c1, x1, x2, x3, x4, hrow, hfz⟩ := T2.1.cellsAt rfl T2.2.2
    have f1 := hfz (i * 5 + 1)
    have f2 := hfz (i * 5 + 2)
    try simp only [] at x1 x2 x3 x4 hrow
    cases b with
    | true =>
      obtain ⟨T3, r3⟩ := T2.set (j := 1) (u := .int .i64 2) (x' := x.doomed) (by decide) rfl rfl
      have HO : Hid (R.op t (x.ops : Int) k wr (fget k) = (⟨R.table, upd (began R.txns t) (R.tx t).doomed⟩, 3)) := op_doom HB.out.re HM.out.symm
      have HR : Hid (Took w (W2.setCell ⟨g, i * 5 + 1, none⟩ (.int .i64 2)) rp t (x.ops : Int) k wr R 0 0) := by
        refine ⟨?_, (HB.out.fr.trans r2).trans r3, fun h => by rw [HO.out] at h; cases h⟩
        rw [HO.out]
        have e9 : (R1.txns.set i ⟨x.id, x.st, x.ops, 0, x.locks⟩).set i x.doomed = upd (began R.txns t) (R.tx t).doomed := by rw [upd_set (z := x.doomed) HB.out.asc TL.out.tx rfl, HB.out.xs, ← HB.out.tx]
        have := T3.1
        rw [show (RSh.mk (RSh.mk R1.table (R1.txns.set i ⟨x.id, x.st, x.ops, 0, x.locks⟩)).table ((RSh.mk R1.table (R1.txns.set i ⟨x.id, x.st, x.ops, 0, x.locks⟩)).txns.set i x.doomed)) = RSh.mk R1.table ((R1.txns.set i ⟨x.id, x.st, x.ops, 0, x.locks⟩).set i x.doomed) from rfl, e9, HB.out.tab] at this
        exact ⟨_, _, _, this⟩
      clear T3 r3 hrow hfz T2 r2
      go_wp2
      go_ret3
      exact ⟨0, 0, by rw [HO.out]; rfl, HR.out⟩
    | false =>
      obtain ⟨T3, r3⟩ := T2.set (j := 2) (u := .int .i64 ((x.ops : Int) + 1)) (x' := ⟨x.id, x.st, x.ops + 1, 0, x.locks⟩) (by decide) rfl rfl
      have HO : Hid (R.op t (x.ops : Int) k wr (fget k) = (⟨R.table, upd (began R.txns t) ((R.tx t).worked (fget k))⟩, 0)) := op_work HB.out.re HM.out.symm
      obtain ⟨d1, d2, d3, d4, d5, drow, dfz⟩ := T3.1.cellsAt rfl T3.2.2
      have hlo := rlock_any g (i * 5) (.slice la x.locks.length lc) k x.locks _ d5 drow (by omega)
      have H3 := toHid (And.intro T3 ((HB.out.fr.trans r2).trans r3))
      clear T3 r3 hrow hfz T2 r2 d1 d2 d3 d4 d5 drow dfz
      go_wp2_with fail
      refine hlo.mono ?_
      rintro e wm ⟨rfl, q4, rfl⟩
      have T4 := H3.out.1.fr ((Fr.refl [] _).drewM q4)
      have r4 := H3.out.2.trans (RBr.of_fr ((Fr.refl [] _).drewM q4) (by simp))
      generalize (W2.setCell ⟨g, i * 5 + 2, none⟩ (.int .i64 ((x.ops : Int) + 1))).drewN q4 = W4 at T4 r4 ⊢
      clear hlo c1 x1 x2 x3 x4 f1 f2 H3
      obtain ⟨c1, x1, x2, x3, x4, hrow, hfz⟩ := T4.1.cellsAt rfl T4.2.2
      have f4 := hfz (i * 5 + 4)
      try simp only [] at x1 x2 x3 x4 hrow
      have HX : Hid (∀ y : RTx, y.id = x.id → (((R1.txns.set i ⟨x.id, x.st, x.ops, 0, x.locks⟩).set i ⟨x.id, x.st, x.ops + 1, 0, x.locks⟩).set i y) = upd (began R.txns t) y) := fun y hy => by rw [List.set_set, upd_set HB.out.asc TL.out.tx hy, HB.out.xs]
      have HA : Hid (∀ y : RTx, y.id = x.id → (upd (began R.txns t) y)[i]? = some y) := fun y hy => by
        rw [← HX.out y hy]
        exact set_at (set_at (set_at TL.out.tx))
      have hx := HJ.out
      rw [hx]
      obtain ⟨l, hj, hk, hat⟩ := lockIx_some hx
      have e1 : ixI (some j) = (j : Int) := rfl
      have j2 : ¬ (j : Int) < 0 := by omega
      have HR : Hid (Took w W4 rp t (x.ops : Int) k wr R i j) := by
        have ef : fget k x.locks = x.locks := by unfold fget; simp [hat]
        refine ⟨?_, r4, fun _ => ⟨l, ?_, ?_, hk⟩⟩
        · rw [HO.out, ← HB.out.tx]
          have ew : x.worked (fget k) = ⟨x.id, x.st, x.ops + 1, 0, x.locks⟩ := by unfold RTx.worked; rw [ef]
          rw [ew]
          have e9 := upd_set (y := ⟨x.id, x.st, x.ops, 0, x.locks⟩) (z := ⟨x.id, x.st, x.ops + 1, 0, x.locks⟩) HB.out.asc TL.out.tx rfl
          rw [HB.out.xs] at e9
          have := T4.1
          rw [show (RSh.mk (RSh.mk R1.table (R1.txns.set i ⟨x.id, x.st, x.ops, 0, x.locks⟩)).table ((RSh.mk R1.table (R1.txns.set i ⟨x.id, x.st, x.ops, 0, x.locks⟩)).txns.set i ⟨x.id, x.st, x.ops + 1, 0, x.locks⟩)) = RSh.mk R1.table ((R1.txns.set i ⟨x.id, x.st, x.ops, 0, x.locks⟩).set i ⟨x.id, x.st, x.ops + 1, 0, x.locks⟩) from rfl, HB.out.xs, e9, HB.out.tab] at this
          exact ⟨_, _, _, this⟩
        · rw [HO.out, ← HB.out.tx]
          exact HA.out _ rfl
        · rw [← HB.out.tx, ef]; exact hj
      rw [e1]
      clear T4 r4 hrow hfz hx
      go_wp2
      go_ret3
      exact ⟨i, j, by rw [HO.out]; rfl, HR.out⟩
  · have e5 : ixI none = -1 := rfl
    rw [hj, e5]
    have HJ : Hid (lockIx x.locks k = _) := hj
    clear hj e5
    obtain ⟨T1, r1⟩ := TL.out.set (j := 3) (u := .int .i64 0) (x' := ⟨x.id, x.st, x.ops, 0, x.locks⟩) (by decide) rfl rfl
    have hme := rmeets_any rp t k wr tv (.slice (some ⟨g, 0, none⟩) n c) _ _ _ T1.1 (by rw [T1.2.1]; omega) (fun p hp => by
      rcases List.mem_or_eq_of_mem_set hp with hp | rfl
      · have := HB.out.lks p hp; omega
      · have := HB.out.lks _ (List.mem_of_getElem? TL.out.2.2); exact Nat.le_trans this (by decide))
    have hmv : meets (R1.txns.set i ⟨x.id, x.st, x.ops, 0, x.locks⟩) t k wr = meets (began R.txns t) t k wr := by rw [meets_set (x := x) (x' := ⟨x.id, x.st, x.ops, 0, x.locks⟩) TL.out.tx rfl rfl, HB.out.xs]
    rw [show (RSh.mk R1.table (R1.txns.set i ⟨x.id, x.st, x.ops, 0, x.locks⟩)).txns = R1.txns.set i ⟨x.id, x.st, x.ops, 0, x.locks⟩ from rfl, hmv] at hme
    obtain ⟨b, hb⟩ : ∃ b, b = meets (began R.txns t) t k wr := ⟨_, rfl⟩
    rw [← hb] at hme
    have HM : Hid (b = meets (began R.txns t) t k wr) := hb
    have H1 := toHid (And.intro T1 r1)
    clear c1 x1 x2 x3 x4
    obtain ⟨c1, x1, x2, x3, x4, hrow, hfz⟩ := TL.out.1.cellsAt rfl TL.out.2.2
    have f3 := hfz (i * 5 + 3)
    try simp only [] at x1 x2 x3 x4 hrow
    have hxo := HB.out.ops
    have hx4 := HB.out.lks _ (List.mem_of_getElem? TL.out.2.2)
    try simp only [] at hx4
    clear T1 r1 hmv hb hrow hfz
    go_wp2_with fail
    refine hme.mono ?_
    rintro e wm ⟨rfl, q3, rfl⟩
    have T2 := H1.out.1.fr ((Fr.refl [] _).drewM q3)
    have r2 := H1.out.2.trans (RBr.of_fr ((Fr.refl [] _).drewM q3) (by simp))
    generalize (W.setCell ⟨g, i * 5 + 3, none⟩ (.int .i64 0)).drewN q3 = W2 at T2 r2 ⊢
    clear hme c1 x1 x2 x3 x4 f3 H1
    obtain ⟨c1, x1, x2, x3, x4, hrow, hfz⟩ := T2.1.cellsAt rfl T2.2.2
    have f1 := hfz (i * 5 + 1)
    have f2 := hfz (i * 5 + 2)
    try simp only [] at x1 x2 x3 x4 hrow
    cases b with
    | true =>
      obtain ⟨T3, r3⟩ := T2.set (j := 1) (u := .int .i64 2) (x' := x.doomed) (by decide) rfl rfl
      have HO : Hid (R.op t (x.ops : Int) k wr (fget k) = (⟨R.table, upd (began R.txns t) (R.tx t).doomed⟩, 3)) := op_doom HB.out.re HM.out.symm
      have HR : Hid (Took w (W2.setCell ⟨g, i * 5 + 1, none⟩ (.int .i64 2)) rp t (x.ops : Int) k wr R 0 0) := by
        refine ⟨?_, (HB.out.fr.trans r2).trans r3, fun h => by rw [HO.out] at h; cases h⟩
        rw [HO.out]
        have e9 : (R1.txns.set i ⟨x.id, x.st, x.ops, 0, x.locks⟩).set i x.doomed = upd (began R.txns t) (R.tx t).doomed := by rw [upd_set (z := x.doomed) HB.out.asc TL.out.tx rfl, HB.out.xs, ← HB.out.tx]
        have := T3.1
        rw [show (RSh.mk (RSh.mk R1.table (R1.txns.set i ⟨x.id, x.st, x.ops, 0, x.locks⟩)).table ((RSh.mk R1.table (R1.txns.set i ⟨x.id, x.st, x.ops, 0, x.locks⟩)).txns.set i x.doomed)) = RSh.mk R1.table ((R1.txns.set i ⟨x.id, x.st, x.ops, 0, x.locks⟩).set i x.doomed) from rfl, e9, HB.out.tab] at this
        exact ⟨_, _, _, this⟩
      clear T3 r3 hrow hfz T2 r2
      go_wp2
      go_ret3
      exact ⟨0, 0, by rw [HO.out]; rfl, HR.out⟩
    | false =>
      obtain ⟨T3, r3⟩ := T2.set (j := 2) (u := .int .i64 ((x.ops : Int) + 1)) (x' := ⟨x.id, x.st, x.ops + 1, 0, x.locks⟩) (by decide) rfl rfl
      have HO : Hid (R.op t (x.ops : Int) k wr (fget k) = (⟨R.table, upd (began R.txns t) ((R.tx t).worked (fget k))⟩, 0)) := op_work HB.out.re HM.out.symm
      obtain ⟨d1, d2, d3, d4, d5, drow, dfz⟩ := T3.1.cellsAt rfl T3.2.2
      have hlo := rlock_any g (i * 5) (.slice la x.locks.length lc) k x.locks _ d5 drow (by omega)
      have H3 := toHid (And.intro T3 ((HB.out.fr.trans r2).trans r3))
      clear T3 r3 hrow hfz T2 r2 d1 d2 d3 d4 d5 drow dfz
      go_wp2_with fail
      refine hlo.mono ?_
      rintro e wm ⟨rfl, q4, rfl⟩
      have T4 := H3.out.1.fr ((Fr.refl [] _).drewM q4)
      have r4 := H3.out.2.trans (RBr.of_fr ((Fr.refl [] _).drewM q4) (by simp))
      generalize (W2.setCell ⟨g, i * 5 + 2, none⟩ (.int .i64 ((x.ops : Int) + 1))).drewN q4 = W4 at T4 r4 ⊢
      clear hlo c1 x1 x2 x3 x4 f1 f2 H3
      obtain ⟨c1, x1, x2, x3, x4, hrow, hfz⟩ := T4.1.cellsAt rfl T4.2.2
      have f4 := hfz (i * 5 + 4)
      try simp only [] at x1 x2 x3 x4 hrow
      have HX : Hid (∀ y : RTx, y.id = x.id → (((R1.txns.set i ⟨x.id, x.st, x.ops, 0, x.locks⟩).set i ⟨x.id, x.st, x.ops + 1, 0, x.locks⟩).set i y) = upd (began R.txns t) y) := fun y hy => by rw [List.set_set, upd_set HB.out.asc TL.out.tx hy, HB.out.xs]
      have HA : Hid (∀ y : RTx, y.id = x.id → (upd (began R.txns t) y)[i]? = some y) := fun y hy => by
        rw [← HX.out y hy]
        exact set_at (set_at (set_at TL.out.tx))
      have e1 : ixI none = -1 := rfl
      have hx := HJ.out
      rw [hx, e1]
      have HW : Hid (Tl W4 rp g n c i tv ((ps.set i (⟨x.id, x.st, x.ops, 0, x.locks⟩, .slice la x.locks.length lc)).set i (⟨x.id, x.st, x.ops + 1, 0, x.locks⟩, .slice la x.locks.length lc)) ⟨R1.table, (R1.txns.set i ⟨x.id, x.st, x.ops, 0, x.locks⟩).set i ⟨x.id, x.st, x.ops + 1, 0, x.locks⟩⟩ ⟨x.id, x.st, x.ops + 1, 0, x.locks⟩ (.slice la x.locks.length lc) ∧ RBr w W4 ∧ lockAt x.locks k = none) := ⟨T4, r4, lockIx_none hx⟩
      have hgl : g < W4.heap.size := World.block_lt_of_cell? W4 _ x4
      have hrl : rp < W4.heap.size := World.block_lt_of_cell? W4 _ c1
      have hca : ∀ ob, (W4.alloc ob).cell? ⟨rp, 1, none⟩ = some (.slice (some ⟨g, 0, none⟩) n c) := fun ob => (World.cell?_of_block (a := ⟨rp, 1, none⟩) (Below.heap_alloc W4 ob rp hrl)).trans c1
      have hxa : ∀ ob, (W4.alloc ob).cell? ⟨g, i * 5 + 4, none⟩ = some (.slice la x.locks.length lc) := fun ob => (World.cell?_of_block (a := ⟨g, i * 5 + 4, none⟩) (Below.heap_alloc W4 ob g hgl)).trans x4
      have hfa : ∀ ob, (W4.alloc ob).frozen? ⟨g, i * 5 + 4, none⟩ = false := fun ob => (World.frozen?_of_block (a := ⟨g, i * 5 + 4, none⟩) (Below.heap_alloc W4 ob g hgl)).trans f4
      obtain ⟨l0, hln0, lz0, lz1, lz2⟩ := info_parts Tryz.infoRLock
      obtain ⟨nl, hnl⟩ : ∃ nl, nl = x.locks.length := ⟨_, rfl⟩
      have HNL : Hid (nl = x.locks.length) := hnl
      rw [← hnl] at x4 hxa hx4 hrow
      have HQ : Hid (W4.ownsRow B0 201 4 (.slice la nl lc) nl (locksV x.locks) ∧ some g ≠ (Value.slice la nl lc).ownBlock ∧ some rp ≠ (Value.slice la nl lc).ownBlock) := by
        have htx := T4.1.txs
        obtain ⟨cur, hg⟩ := own_cells htx (g := g) rfl
        exact ⟨hrow, fun e => own_ne hrow hg (by decide) e.symm, fun e => own_ne hrow T4.1.blk (by decide) e.symm⟩
      clear T4 r4 hfz hx hrow hnl
      go_wp2
      go_region_law (first | (rw [if_pos (by rfl)]; refine wp_append_at _ _ 124 rfl B0 201 l0 _ 4 40 Tryz.underlying124 hln0 lz0 lz1 lz2 rfl (by decide) _ nl (locksV x.locks) rfl (HQ.out.1.alloc _) ⟨W4.heap.size, 0, none⟩ 1 1 (lockC ⟨k, false, false, ByteArray.empty⟩) rfl rfl (cells_new _ #[.string k, .bool false, .bool false, .string ByteArray.empty] _) (by intro u hu; simp at hu; rcases hu with rfl | rfl | rfl | rfl <;> rfl) (by unfold maxLen; omega) (by omega) (Nat.le_trans HW.out.1.1.low (by simp)) ?_; intro v5 w5 ho5 hg5 hl5; obtain ⟨o5, c5, rfl⟩ := own_slice ho5; have hw5 : w5.heap[g]? = W4.heap[g]? := (hg5.block g (by simp; omega) HQ.out.2.1).trans (Below.heap_alloc W4 _ g hgl); have t4 := (World.cell?_of_block (a := ⟨g, i * 5 + 4, none⟩) hw5).trans x4; have tf := (World.frozen?_of_block (a := ⟨g, i * 5 + 4, none⟩) hw5).trans f4; have hv5 : w5.heap[rp]? = W4.heap[rp]? := (hg5.block rp (by simp; omega) HQ.out.2.2).trans (Below.heap_alloc W4 _ rp hrl); have t1 := (World.cell?_of_block (a := ⟨rp, 1, none⟩) hv5).trans c1; clear hw5 hv5))
      all_goals
        have HR : Hid (Took w (w5.setCell ⟨g, i * 5 + 4, none⟩ (.slice o5 (nl + 1) c5)) rp t (x.ops : Int) k wr R i nl) := by
          have ef : fget k x.locks = x.locks ++ [⟨k, false, false, ByteArray.empty⟩] := by unfold fget; simp [HW.out.2.2]
          have hfr : Fr (Value.slice la nl lc).ownBlock.toList W4 w5 := (((Fr.refl _ W4).alloc _).drew).trans (Fr.of_grown (r := (Value.slice la nl lc).ownBlock) hg5)
          have ew : x.worked (fget k) = ⟨x.id, x.st, x.ops + 1, 0, x.locks ++ [⟨k, false, false, ByteArray.empty⟩]⟩ := by unfold RTx.worked; rw [ef]
          have hTl := HW.out.1
          rw [← HNL.out] at hTl
          obtain ⟨k1, k2⟩ := hTl.setL (x' := x.worked (fget k)) (v2 := .slice o5 (nl + 1) c5) hfr (by rw [ew, locksV_app]; show w5.ownsRow _ _ _ _ (x.locks ++ [_]).length _; rw [List.length_append, ← HNL.out]; exact ho5) (hl5.elim (fun e => .inl e) (fun e => .inr ⟨_, e, by simp⟩)) (by rw [ew]; rfl)
          refine ⟨?_, HW.out.2.1.trans k2, fun _ => ⟨⟨k, false, false, ByteArray.empty⟩, ?_, ?_, rfl⟩⟩
          · rw [HO.out, ← HB.out.tx, ← HX.out (x.worked (fget k)) rfl, ← HB.out.tab]
            exact k1
          · rw [HO.out, ← HB.out.tx]
            exact HA.out _ rfl
          · rw [← HB.out.tx, ef, HNL.out]
            simp
        clear ho5 hg5 hl5
        go_wp2
        go_ret3
        exact ⟨i, nl, by rw [HO.out]; rfl, HR.out⟩
end
end Go.Proofs.YtejiankgafjppaaGreatDoor
