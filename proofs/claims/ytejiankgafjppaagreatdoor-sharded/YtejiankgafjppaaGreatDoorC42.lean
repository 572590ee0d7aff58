import Derived.Test.YtejiankgafjppaaGreatDoorC41
import Derived.Test.YtejiankgafjppaaGreatDoorC40
import Derived.Test.YtejiankgafjppaaGreatDoorC37
/- A KEEPER: step, what does nothing. (Written by mkkpg.py.) -/
namespace Go.Proofs.YtejiankgafjppaaGreatDoor
open Go.RowKit Go.Maps
open Sc

/-- what is not too great -/
def StepBd [Inhabited Bs] (m n c T txn : Nat) (key : ByteArray) (cs : List Value) (us : List Nat) : Prop := m ≤ 1000000 ∧ n ≤ 1000000 ∧ c ≤ 100000 ∧ us.length ≤ 100000 ∧ cs.length ≤ 100001 ∧ 2 ≤ (B0 : Nat) ∧ txn < 18446744073709551616 ∧ key.size ≤ 16384 ∧ T ≤ 1000000
/-- what a step leaves -/
structure Stepped [Inhabited Bs] (w w' : World) (hp p sp gp bV bT bH lp bD bN m n kp c T fst : Nat) (cs : List Value) (us : List Nat) : Prop where
  kin : ∃ m' n' s' l' d' g' mp' cv' uv' cs' us' R', m' ≤ m + 16 ∧ n' ≤ n + 3 ∧ cs'.length ≤ cs.length + 1 ∧ us'.length ≤ us.length + 1 ∧ KIn w' hp p sp gp bV bT bH lp bD bN m' n' s' l' d' kp mp' cv' uv' cs' us' R' ∧ Mu l' d' fst g' ∧ d'.down = false ∧ Gd (c + 1) (T + 20) s' R'
  fr : LFr w w'
section
variable [Inhabited Bs] (hp p sp gp bV bT bH lp bD bN m n kp mp c T fst : Nat) (s : AShard) (l : ALog) (d : ADisk) (cv uv : Value) (cs : List Value) (us : List Nat) (R : RSh) (g : List (List Rec)) (w : World)
set_option maxRecDepth 100000 in
set_option maxHeartbeats 16000000 in
theorem step_none (kd : Int) (sq nn : Int) (txn x y : Nat) (key sv : ByteArray) (ao : Option Addr) (h : KIn w hp p sp gp bV bT bH lp bD bN m n s l d kp mp cv uv cs us R) (hmu : Mu l d fst g) (hdn : d.down = false) (hg : Gd c T s R) (hbd : StepBd m n c T txn key cs us) (hmet : Met w) (hpow : Pows w) (h2 : kd ≠ 2) (h3 : kd ≠ 3) (h7 : kd ≠ 7) (h8 : kd ≠ 8) (h9 : kd ≠ 9) (h10 : kd ≠ 10) (h11 : kd ≠ 11) (h12 : kd ≠ 12) :
    Calls Tryz.prog 39 #[.pointer (some ⟨kp, 0, none⟩), stepV kd txn sq nn key sv ao x y (-1) (-1) 0 0] w fun e w' => e = .returned (.bool true) ∧ Stepped w w' hp p sp gp bV bT bH lp bD bN m n kp c T fst cs us := by
  obtain ⟨hm, hn, hc, hus, hcs, hB, ht, hk, hT⟩ := hbd
  obtain ⟨W, hW⟩ : ∃ W, W = w.alloc (stepO kd txn sq nn key sv ao x y (-1) (-1) 0 0) := ⟨_, rfl⟩
  have hf0 : Fr [] w W := by rw [hW]; exact (Fr.refl [] w).alloc _
  have hs0 : W.heap[w.heap.size]? = some (stepO kd txn sq nn key sv ao x y (-1) (-1) 0 0) := by rw [hW]; exact heap_alloc_new w _
  have K0 := h.new hf0
  have L0 := LFr.new hf0 h.size
  have hTx : R.txns.length ≤ 12 := hg.rel.len
  have hcp := rcopy_any mp R W K0.ref (by omega) (fun x hx => by have := hg.four x hx; omega) (by have := hg.table; omega)
  have k1 := blk_cell K0.kb 1
  simp at k1
  rw [hW] at k1
  have HK0 := toHid (And.intro K0 (And.intro L0 (And.intro hg (And.intro hmet (And.intro hpow (And.intro hs0 (And.intro hmu hdn)))))))
  clear h hg hs0 K0 L0 hf0 hmet hpow hmu hdn
  go_enter Tryz.func39, Tryz.ntmps39
  go_wp2_with fail
  rw [← hW]
  obtain ⟨bx, hbx⟩ : ∃ bx, bx = w.heap.size := ⟨_, rfl⟩
  rw [← hbx] at HK0 ⊢
  clear hW hbx k1
  refine hcp.mono ?_
  rintro e W1 ⟨np, rfl, hge, hrn, hf1⟩
  clear hcp
  have K1 := HK0.out.1.new hf1
  have hs1 : W1.heap[bx]? = some (stepO kd txn sq nn key sv ao x y (-1) (-1) 0 0) := (hf1.block bx (Array.getElem?_eq_some_iff.1 HK0.out.2.2.2.2.2.1).1 (by simp)).trans HK0.out.2.2.2.2.2.1
  have L1 := HK0.out.2.1.trans (LFr.new hf1 HK0.out.1.size)
  have k1 := blk_cell K1.kb 1
  have z1 := blk_cell hs1 1
  simp at k1 z1
  have hst := fun q => (K1.new ((Fr.refl [] W1).drewM q)).ref.state (t := txn) (by omega)
  obtain ⟨st, hst0⟩ : ∃ st, st = R.state txn := ⟨_, rfl⟩
  rw [← hst0] at hst
  have HK1 := toHid (And.intro K1 (And.intro L1 (And.intro hs1 (And.intro hrn hst0))))
  clear K1 L1 hs1 hrn hst0 hge hf1
  go_wp2
  go_quiet (first | (go_at_call 77; refine Calls.quiet_of (hst _)))
  clear hst k1 z1
  have hfq : Fr [] W1 (W1.drewN nq) := (Fr.refl [] W1).drewM nq
  have hs2 : (W1.drewN nq).heap[bx]? = some (stepO kd txn sq nn key sv ao x y (-1) (-1) 0 0) := (hfq.block bx (Array.getElem?_eq_some_iff.1 HK1.out.2.2.1).1 (by simp)).trans HK1.out.2.2.1
  have L2 := HK1.out.2.1.trans (LFr.new hfq HK1.out.1.size)
  have HK := toHid (And.intro (HK1.out.1.new hfq) (And.intro L2 (And.intro HK0.out.2.2.1 (And.intro (L2.met hB HK0.out.2.2.2.1) (And.intro (L2.pows hB HK0.out.2.2.2.2.1) (And.intro hs2 (And.intro (HK1.out.2.2.2.1.fr hfq) (And.intro HK1.out.2.2.2.2 HK0.out.2.2.2.2.2.2))))))))
  generalize W1.drewN nq = W2 at HK hs2 L2 hfq ⊢
  clear hfq L2 HK0 HK1
  have k0 := blk_cell HK.out.1.kb 0
  have k1 := blk_cell HK.out.1.kb 1
  have f1 := blk_free HK.out.1.kb 1
  have z0 := blk_cell hs2 0
  have z1 := blk_cell hs2 1
  have z2 := blk_cell hs2 2
  have z3 := blk_cell hs2 3
  have z4 := blk_cell hs2 4
  have z5 := blk_cell hs2 5
  have z6 := blk_cell hs2 6
  have z7 := blk_cell hs2 7
  have z8 := blk_cell hs2 8
  have z9 := blk_cell hs2 9
  have z10 := blk_cell hs2 10
  simp at k0 k1 z0 z1 z2 z3 z4 z5 z6 z7 z8 z9 z10
  clear hs2
  have y2 : (kd == 2) = false := by simpa using h2
  have y3 : (kd == 3) = false := by simpa using h3
  have y7 : (kd == 7) = false := by simpa using h7
  have y8 : (kd == 8) = false := by simpa using h8
  have y9 : (kd == 9) = false := by simpa using h9
  have y10 : (kd == 10) = false := by simpa using h10
  have y11 : (kd == 11) = false := by simpa using h11
  have y12 : (kd == 12) = false := by simpa using h12
  go_wp2
  go_ret
  exact ⟨rfl, ⟨m, n, s, l, d, g, mp, cv, uv, cs, us, R, by omega, by omega, by omega, by omega, HK.out.1, HK.out.2.2.2.2.2.2.2.2.1, HK.out.2.2.2.2.2.2.2.2.2, HK.out.2.2.1.mono (by omega) (by omega)⟩, HK.out.2.1⟩
end
end Go.Proofs.YtejiankgafjppaaGreatDoor
/- THE DOCUMENT'S SHARD: take, where it refuses. -/
namespace Go.Proofs.YtejiankgafjppaaGreatDoor
open Go.RowKit Go.Maps
open Sc

theorem RS.find [Inhabited Bs] {w : World} {rp t : Nat} {R : RSh} (h : RS w rp R) (hn : R.txns.length ≤ 1048576) : Calls Tryz.prog 142 #[.pointer (some ⟨rp, 0, none⟩), .int .u64 (t : Int)] w fun e w' => e = .returned (.int .i64 (ixI (txIx R.txns t))) ∧ ∃ q, w' = w.drewN q := by
  obtain ⟨tv, xv, ps, h⟩ := h
  exact rfind_any rp t tv xv ps R w h (by rw [h.len]; omega)
/-- a transaction's place, all of it -/
theorem RS.all [Inhabited Bs] {w : World} {rp : Nat} {R : RSh} (h : RS w rp R) {i : Nat} {x : RTx} (hi : R.txns[i]? = some x) : ∃ g c la lc, w.cell? ⟨rp, 1, none⟩ = some (.slice (some ⟨g, 0, none⟩) R.txns.length c) ∧ w.cell? ⟨g, i * 5 + 1, none⟩ = some (.int .i64 (x.st : Int)) ∧ w.cell? ⟨g, i * 5 + 2, none⟩ = some (.int .i64 (x.ops : Int)) ∧ w.cell? ⟨g, i * 5 + 4, none⟩ = some (.slice la x.locks.length lc) ∧ w.ownsRow B0 201 4 (.slice la x.locks.length lc) x.locks.length (locksV x.locks) := by
  obtain ⟨tv, xv, ps, h⟩ := h
  have c1 := blk_cell h.blk 1
  simp at c1
  obtain ⟨v, hp⟩ := h.at hi
  obtain ⟨ao, c, e0, H⟩ := h.slice
  obtain ⟨g, e3, x0, x1, x2, x3, x4⟩ := H i _ hp
  have hlk := h.lks _ (List.mem_of_getElem? hp)
  obtain ⟨la, lc, e4⟩ := own_slice hlk
  simp only [] at x1 x2 x4 e4 hlk
  rw [e0, e3, h.len] at c1
  rw [e4] at x4 hlk
  exact ⟨g, c, la, lc, c1, x1, x2, x4, hlk⟩
theorem RS.nil [Inhabited Bs] {w : World} {rp : Nat} {R : RSh} (h : RS w rp R) : ∃ ao c, w.cell? ⟨rp, 1, none⟩ = some (.slice ao R.txns.length c) := by
  obtain ⟨tv, xv, ps, h⟩ := h
  have c1 := blk_cell h.blk 1
  simp at c1
  obtain ⟨ao, c, e0, H⟩ := h.slice
  rw [e0, h.len] at c1
  exact ⟨_, _, c1⟩
section
variable (rp t : Nat) (seq : Int) (k : ByteArray) (wr : Bool) (R : RSh) (w : World)
set_option maxRecDepth 100000 in
set_option maxHeartbeats 8000000 in
theorem rtake_no [Inhabited Bs] (h : RS w rp R) (hn : R.txns.length ≤ 12) (hl : ∀ x ∈ R.txns, x.locks.length ≤ 4) (hr : R.refuse t seq k ≠ 0) :
    Calls Tryz.prog 206 #[.pointer (some ⟨rp, 0, none⟩), .int .u64 (t : Int), .int .i64 seq, .string k, .bool wr] w fun e w' => e = .returned (.tuple #[.int .i64 0, .int .i64 0, .int .i64 (R.refuse t seq k : Int)]) ∧ Fr [] w w' := by
  have hfi := h.find (t := t) (by omega)
  by_cases h0 : t = 0
  · have e1 : R.refuse t seq k = 7 := if_pos h0
    subst h0
    clear hfi h
    go_enter Tryz.func206, Tryz.ntmps206
    go_wp2
    go_ret3
    exact ⟨by first | (rw [e1]; rfl) | rfl, Fr.refl [] w⟩
  have z1 : ¬ ((t : Int) = 0) := by omega
  have b0 : ((t : Int) == 0) = false := by simp; omega
  by_cases hks : k.size < 1 ∨ 16 < k.size
  · have e1 : R.refuse t seq k = 1 := by unfold RSh.refuse; rw [if_neg h0, if_pos hks]
    clear hfi h
    rcases hks with hks | hks
    · have y1 : (k.size : Int) < 1 := by omega
      go_enter Tryz.func206, Tryz.ntmps206
      go_wp2
      go_ret3
      exact ⟨by first | (rw [e1]; rfl) | rfl, Fr.refl [] w⟩
    · have y1 : ¬ (k.size : Int) < 1 := by omega
      have y2 : (16 : Int) < (k.size : Int) := by omega
      go_enter Tryz.func206, Tryz.ntmps206
      go_wp2
      go_ret3
      exact ⟨by first | (rw [e1]; rfl) | rfl, Fr.refl [] w⟩
  have y1 : ¬ (k.size : Int) < 1 := by omega
  have y2 : ¬ (16 : Int) < (k.size : Int) := by omega
  cases hx : txIx R.txns t with
  | none =>
    rw [hx] at hfi
    have e2 : ixI none = -1 := rfl
    rw [e2] at hfi
    have hre : R.refuse t seq k = if seq ≠ 0 then 4 else if R.txns.length = 12 then 5 else 0 := by unfold RSh.refuse; rw [if_neg h0, if_neg hks, txIx_none hx]
    by_cases hq : seq = 0
    · have h12 : R.txns.length = 12 := by
        by_cases e : R.txns.length = 12
        · exact e
        · rw [hre, if_neg (by simp [hq]), if_neg e] at hr; exact absurd rfl hr
      have e1 : R.refuse t seq k = 5 := by rw [hre, if_neg (by simp [hq]), if_pos h12]
      obtain ⟨ao, c, c1⟩ := h.nil
      rw [h12] at c1
      subst hq
      clear h hx hre
      go_enter Tryz.func206, Tryz.ntmps206
      go_wp2_with fail
      refine hfi.mono ?_
      rintro e w1 ⟨rfl, q, rfl⟩
      have hfw : Hid (Fr [] w (w.drewN q)) := (Fr.refl [] w).drewM q
      clear hfi
      go_wp2
      go_ret3
      exact ⟨by first | (rw [e1]; rfl) | rfl, hfw.out⟩
    · have e1 : R.refuse t seq k = 4 := by rw [hre, if_pos hq]
      clear h hx hre
      go_enter Tryz.func206, Tryz.ntmps206
      go_wp2_with fail
      refine hfi.mono ?_
      rintro e w1 ⟨rfl, q, rfl⟩
      have hfw : Hid (Fr [] w (w.drewN q)) := (Fr.refl [] w).drewM q
      clear hfi
      go_wp2
      go_ret3
      exact ⟨by first | (rw [e1]; rfl) | rfl, hfw.out⟩
  | some i =>
    obtain ⟨x, hi, hid, hat⟩ := txIx_some hx
    rw [hx] at hfi
    have e2 : ixI (some i) = (i : Int) := rfl
    rw [e2] at hfi
    have hre : R.refuse t seq k = if x.st = 3 then 4 else if seq ≠ (x.ops : Int) then 4 else if x.st = 2 then 3 else if (lockAt x.locks k).isSome = false ∧ x.locks.length = 4 then 5 else 0 := by unfold RSh.refuse; rw [if_neg h0, if_neg hks, hat]
    have hil : i < R.txns.length := (List.getElem?_eq_some_iff.1 hi).1
    obtain ⟨g, c, la, lc, c1, x1, x2, x4, hrow⟩ := h.all hi
    obtain ⟨n, hnn⟩ : ∃ n, n = R.txns.length := ⟨_, rfl⟩
    rw [← hnn] at c1 hil hn
    have i0 : (0 : Int) ≤ (i : Int) := by omega
    have i1 : (i : Int) < (n : Int) := by omega
    have i2 : ¬ (i : Int) < 0 := by omega
    have hlx := hl x (List.mem_of_getElem? hi)
    clear h hx hi hnn hat hl
    by_cases h3 : x.st = 3
    · have e1 : R.refuse t seq k = 4 := by rw [hre, if_pos h3]
      rw [h3] at x1
      clear hre hrow
      go_enter Tryz.func206, Tryz.ntmps206
      go_wp2_with fail
      refine hfi.mono ?_
      rintro e w1 ⟨rfl, q, rfl⟩
      have hfw : Hid (Fr [] w (w.drewN q)) := (Fr.refl [] w).drewM q
      clear hfi
      go_wp2
      go_ret3
      exact ⟨by first | (rw [e1]; rfl) | rfl, hfw.out⟩
    have z3 : ¬ ((x.st : Int) = 3) := by omega
    have b3 : ((x.st : Int) == 3) = false := by simp; omega
    by_cases hq : ¬ seq = (x.ops : Int)
    · have e1 : R.refuse t seq k = 4 := by rw [hre, if_neg h3, if_pos hq]
      have bq : (seq != (x.ops : Int)) = true := by simp [hq]
      clear hre hrow
      go_enter Tryz.func206, Tryz.ntmps206
      go_wp2_with fail
      refine hfi.mono ?_
      rintro e w1 ⟨rfl, q, rfl⟩
      have hfw : Hid (Fr [] w (w.drewN q)) := (Fr.refl [] w).drewM q
      clear hfi
      go_wp2
      go_ret3
      exact ⟨by first | (rw [e1]; rfl) | rfl, hfw.out⟩
    have hq : seq = (x.ops : Int) := by omega
    subst hq
    by_cases h2 : x.st = 2
    · have e1 : R.refuse t (x.ops : Int) k = 3 := by rw [hre, if_neg h3, if_neg (by simp), if_pos h2]
      rw [h2] at x1
      clear hre hrow z3 b3
      go_enter Tryz.func206, Tryz.ntmps206
      go_wp2_with fail
      refine hfi.mono ?_
      rintro e w1 ⟨rfl, q, rfl⟩
      have hfw : Hid (Fr [] w (w.drewN q)) := (Fr.refl [] w).drewM q
      clear hfi
      go_wp2
      go_ret3
      exact ⟨by first | (rw [e1]; rfl) | rfl, hfw.out⟩
    have z2 : ¬ ((x.st : Int) = 2) := by omega
    have b2 : ((x.st : Int) == 2) = false := by simp; omega
    have h4 : (lockAt x.locks k).isSome = false ∧ x.locks.length = 4 := by
      by_cases e : (lockAt x.locks k).isSome = false ∧ x.locks.length = 4
      · exact e
      · rw [hre, if_neg h3, if_neg (by simp), if_neg h2, if_neg e] at hr; exact absurd rfl hr
    have e1 : R.refuse t (x.ops : Int) k = 5 := by rw [hre, if_neg h3, if_neg (by simp), if_neg h2, if_pos h4]
    have hlo := fun q => rlock_any g (i * 5) (.slice la x.locks.length lc) k x.locks (w.drewN q) (by simpa using x4) (ownsRow_fr hrow ((Fr.refl [] w).drewM q) (by simp)) (by have := hlx; omega)
    have hln : lockIx x.locks k = none := by
      cases hz : lockIx x.locks k with
      | none => rfl
      | some j => obtain ⟨l, _, _, ha⟩ := lockIx_some hz; rw [ha] at h4; simp at h4
    have e3 : ixI none = -1 := rfl
    simp only [hln, e3] at hlo
    rw [h4.2] at x4
    clear hre hrow hln hr h4
    go_enter Tryz.func206, Tryz.ntmps206
    go_wp2_with fail
    refine hfi.mono ?_
    rintro e w1 ⟨rfl, q, rfl⟩
    clear hfi
    have hlq := hlo q
    clear hlo
    go_wp2_with fail
    refine hlq.mono ?_
    rintro e w2 ⟨rfl, q2, rfl⟩
    have hfw : Hid (Fr [] w ((w.drewN q).drewN q2)) := ((Fr.refl [] w).drewM q).drewM q2
    clear hlq
    go_wp2
    go_ret3
    exact ⟨by first | (rw [e1]; rfl) | rfl, by first | exact hfw.out | exact (Fr.refl [] w).drewM _⟩
end
end Go.Proofs.YtejiankgafjppaaGreatDoor
/- THE DOCUMENT'S SHARD: a lock is put behind a transaction's. -/
namespace Go.Proofs.YtejiankgafjppaaGreatDoor
open Go.RowKit Go.Maps
open Sc

theorem meets_map (xs : List RTx) (t : Nat) (k : ByteArray) (wr : Bool) : meets xs t k wr = (xs.map fun x => (x.id, x.locks)).any fun y => !decide (y.1 = t) && ((lockAt y.2 k).map fun l => wr || l.wr).getD false := by
  unfold meets
  rw [List.any_map]
  rfl
theorem map_set_same {α β : Type} (f : α → β) {xs : List α} {i : Nat} {x x' : α} (hi : xs[i]? = some x) (hf : f x' = f x) : (xs.set i x').map f = xs.map f := by
  rw [List.map_set]
  apply List.ext_getElem?
  intro m
  rw [List.getElem?_set]
  split
  · rename_i em
    subst em
    rw [if_pos (by rw [List.length_map]; exact (List.getElem?_eq_some_iff.1 hi).1), List.getElem?_map, hi, hf]
    rfl
  · rfl
theorem meets_set {xs : List RTx} {i : Nat} {x x' : RTx} (hi : xs[i]? = some x) (h1 : x'.id = x.id) (h2 : x'.locks = x.locks) (t : Nat) (k : ByteArray) (wr : Bool) : meets (xs.set i x') t k wr = meets xs t k wr := by
  rw [meets_map, meets_map, map_set_same _ hi (by rw [h1, h2])]
section
variable {w w2 : World} {rp : Nat} {tv xv : Value} {ps : List (RTx × Value)} {R : RSh}
theorem apart_ix {ps : List (RTx × Value)} (h : ps.Pairwise fun p q => p.2.ownBlock = none ∨ p.2.ownBlock ≠ q.2.ownBlock) {i j : Nat} {p q : RTx × Value} (hi : ps[i]? = some p) (hj : ps[j]? = some q) (hne : i ≠ j) {g : Nat} (hp : p.2.ownBlock = some g) : q.2.ownBlock ≠ some g := by
  obtain ⟨h1, e1⟩ := List.getElem?_eq_some_iff.1 hi
  obtain ⟨h2, e2⟩ := List.getElem?_eq_some_iff.1 hj
  rcases Nat.lt_or_gt_of_ne hne with hlt | hgt
  · have := List.pairwise_iff_getElem.1 h i j h1 h2 hlt
    rw [e1, e2, hp] at this
    rcases this with e | e
    · cases e
    · exact fun e3 => e e3.symm
  · have := List.pairwise_iff_getElem.1 h j i h2 h1 hgt
    rw [e1, e2, hp] at this
    rcases this with e | e
    · rw [e]; simp
    · exact e
/-- the slice of a transaction's locks is another -/
theorem RsIn.setL [Inhabited Bs] (h : RsIn w rp tv xv ps R) {i g c : Nat} {x x' : RTx} {v v2 : Value} (hx : xv = .slice (some ⟨g, 0, none⟩) ps.length c) (hp : ps[i]? = some (x, v)) (hf : Fr v.ownBlock.toList w w2) (ho : w2.ownsRow B0 201 4 v2 x'.locks.length (locksV x'.locks)) (hat : v2.ownBlock = v.ownBlock ∨ ∃ z, v2.ownBlock = some z ∧ w.heap.size ≤ z) (hc : rtxC (x', v2) = (rtxC (x, v)).set 4 v2) :
    RsIn (w2.setCell ⟨g, i * 5 + 4, none⟩ v2) rp tv xv (ps.set i (x', v2)) ⟨R.table, R.txns.set i x'⟩ ∧ RefBlk w g ∧ ∀ k ∈ v.ownBlock.toList, RefBlk w k := by
  have hi : i < ps.length := (List.getElem?_eq_some_iff.1 hp).1
  have htx := h.txs
  rw [hx] at htx
  obtain ⟨cur, hg⟩ := own_cells htx (g := g) rfl
  have hlv := h.lks _ (List.mem_of_getElem? hp)
  have hno : ∀ {e : TypeId} {size n : Nat} {u : Value} {ys : List Value}, e ≠ 201 → w.ownsRow B0 e size u n ys → ∀ q, u.ownBlock = some q → q ∉ v.ownBlock.toList := by
    intro e size n u ys hne hv q hq hm
    have hm2 : v.ownBlock = some q := by simpa using hm
    obtain ⟨c1, e1⟩ := own_cells hv hq
    obtain ⟨c2, e2⟩ := own_cells hlv hm2
    rw [e1] at e2
    cases e2
    exact hne rfl
  have hgn : g ∉ v.ownBlock.toList := hno (by decide) htx g rfl
  have hg2 : w2.heap[g]? = some (.cells cur 126 (0, 0)) := (hf.block g (Array.getElem?_eq_some_iff.1 hg).1 hgn).trans hg
  have hrpn : rp ∉ v.ownBlock.toList := fun hm => own_ne hlv h.blk (by decide) (by simpa using hm)
  have htx2 := ownsRow_fr htx hf (hno (by decide) htx)
  refine ⟨{ base := h.base, blk := ?_, tab := ownsRow_set (ownsRow_fr h.tab hf (hno (by decide) h.tab)) hg2 (by decide), txs := ?_, lks := fun p hm => ?_, apart := ?_, rs := ?_ }, ⟨(htx.lt g rfl).1, _, _, hg, .inr (.inl rfl)⟩, fun k hk => ?_⟩
  · refine (Below.heap_setCell _ _ _ rp ?_).trans ((hf.block rp (Array.getElem?_eq_some_iff.1 h.blk).1 hrpn).trans h.blk)
    intro e
    simp only [] at e
    have := h.blk
    rw [e, hg] at this
    cases this
  · rw [List.length_set, hx]
    have := ownsRow_put (j := i * 5 + 4) (u := v2) htx2
    have e := flat_set (f := rtxC) (k := 5) (fun _ => rfl) ps i 4 (x, v) (x', v2) v2 hp (by decide) hc
    unfold rtxsV at this ⊢
    rw [e]
    exact this
  · obtain ⟨j, hj⟩ := List.mem_iff_getElem?.1 hm
    rw [List.getElem?_set] at hj
    split at hj
    · rename_i em
      subst em
      cases hj
      exact ownsRow_set ho hg2 (by decide)
    · rename_i em
      have hl := h.lks p (List.mem_of_getElem? hj)
      refine ownsRow_set (ownsRow_fr hl hf fun q hq hm2 => ?_) hg2 (by decide)
      exact apart_ix h.apart hp hj em (by simpa using hm2) hq
  · rw [List.pairwise_iff_getElem]
    intro a b ha hb hab
    rw [List.length_set] at ha hb
    have ea : ∀ m (hm : m < ps.length), ((ps.set i (x', v2))[m]'(by rw [List.length_set]; exact hm)).2 = if i = m then v2 else (ps[m]).2 := by
      intro m hm
      rw [List.getElem_set]
      split <;> rfl
    rw [ea a ha, ea b hb]
    have old := List.pairwise_iff_getElem.1 h.apart a b ha hb hab
    have hval : (ps[i]).2 = v := by have := (List.getElem?_eq_some_iff.1 hp).2; rw [this]
    by_cases e1 : i = a
    · subst e1
      rw [if_pos rfl, if_neg (by omega)]
      rw [hval] at old
      rcases hat with e | ⟨z, e, hz⟩
      · rw [e]; exact old
      · refine .inr fun e3 => ?_
        rw [e] at e3
        have := ((h.lks _ (List.getElem_mem hb)).lt z e3.symm).2
        omega
    · rw [if_neg e1]
      by_cases e2 : i = b
      · subst e2
        rw [if_pos rfl]
        rw [hval] at old
        rcases hat with e | ⟨z, e, hz⟩
        · rw [e]; exact old
        · cases hq : (ps[a]).2.ownBlock with
          | none => exact .inl rfl
          | some y =>
            refine .inr fun e3 => ?_
            rw [e] at e3
            cases e3
            have := ((h.lks _ (List.getElem_mem ha)).lt _ hq).2
            omega
      · rw [if_neg e2]; exact old
  · rw [List.map_set, h.rs]
  · have hk2 : v.ownBlock = some k := by simpa using hk
    obtain ⟨cc, ec⟩ := own_cells hlv hk2
    exact ⟨(hlv.lt k hk2).1, _, _, ec, .inr (.inr rfl)⟩
end
end Go.Proofs.YtejiankgafjppaaGreatDoor
