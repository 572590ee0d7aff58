import Derived.Test.YtejiankgafjppaaGreatDoorC42
import Derived.Test.YtejiankgafjppaaGreatDoorC46
/- A KEEPER: step, operations. (Written by mkkpg.py.) -/
namespace Go.Proofs.YtejiankgafjppaaGreatDoor
open Go.RowKit Go.Maps
open Sc

section
variable [Inhabited Bs] (hp p sp gp bV bT bH lp bD bN m n kp mp c T fst : Nat) (s : AShard) (l : ALog) (d : ADisk) (cv uv : Value) (cs : List Value) (us : List Nat) (R : RSh) (g : List (List Rec)) (w : World)
set_option maxRecDepth 100000 in
set_option maxHeartbeats 16000000 in
theorem step_work (kd : Int) (sq nn : Int) (txn x y : Nat) (key sv : ByteArray) (ao : Option Addr) (h : KIn w hp p sp gp bV bT bH lp bD bN m n s l d kp mp cv uv cs us R) (hmu : Mu l d fst g) (hdn : d.down = false) (hg : Gd c T s R) (hbd : StepBd m n c T txn key cs us) (hmet : Met w) (hpow : Pows w) (h7 : kd = 7 ∨ kd = 8 ∨ kd = 9) :
    Calls Tryz.prog 39 #[.pointer (some ⟨kp, 0, none⟩), stepV kd txn sq nn key sv ao x y (-1) (-1) 0 0] w fun e w' => e = .returned (.bool true) ∧ Stepped w w' hp p sp gp bV bT bH lp bD bN m n kp c T fst cs us := by
  obtain ⟨hm, hn, hc, hus, hcs, hB, ht, hk, hT⟩ := hbd
  obtain ⟨W, hW⟩ : ∃ W, W = w.alloc (stepO kd txn sq nn key sv ao x y (-1) (-1) 0 0) := ⟨_, rfl⟩
  have hf0 : Fr [] w W := by rw [hW]; exact (Fr.refl [] w).alloc _
  have hs0 : W.heap[w.heap.size]? = some (stepO kd txn sq nn key sv ao x y (-1) (-1) 0 0) := by rw [hW]; exact heap_alloc_new w _
  have K0 := h.new hf0
  have L0 := LFr.new hf0 h.size
  have hTx : R.txns.length ≤ 12 := hg.rel.len
  have hcp := rcopy_any mp R W K0.ref (by omega) (fun x hx => by have := hg.four x hx; omega) (by have := hg.table; omega)
  have k1 := blk_cell K0.kb 1
  simp at k1
  rw [hW] at k1
  have HK0 := toHid (And.intro K0 (And.intro L0 (And.intro hg (And.intro hmet (And.intro hpow (And.intro hs0 (And.intro hmu hdn)))))))
  clear h hg hs0 K0 L0 hf0 hmet hpow hmu hdn
  go_enter Tryz.func39, Tryz.ntmps39
  go_wp2_with fail
  rw [← hW]
  obtain ⟨bx, hbx⟩ : ∃ bx, bx = w.heap.size := ⟨_, rfl⟩
  rw [← hbx] at HK0 ⊢
  clear hW hbx k1
  refine hcp.mono ?_
  rintro e W1 ⟨np, rfl, hge, hrn, hf1⟩
  clear hcp
  have K1 := HK0.out.1.new hf1
  have hs1 : W1.heap[bx]? = some (stepO kd txn sq nn key sv ao x y (-1) (-1) 0 0) := (hf1.block bx (Array.getElem?_eq_some_iff.1 HK0.out.2.2.2.2.2.1).1 (by simp)).trans HK0.out.2.2.2.2.2.1
  have L1 := HK0.out.2.1.trans (LFr.new hf1 HK0.out.1.size)
  have k1 := blk_cell K1.kb 1
  have z1 := blk_cell hs1 1
  simp at k1 z1
  have hst := fun q => (K1.new ((Fr.refl [] W1).drewM q)).ref.state (t := txn) (by omega)
  obtain ⟨st, hst0⟩ : ∃ st, st = R.state txn := ⟨_, rfl⟩
  rw [← hst0] at hst
  have HK1 := toHid (And.intro K1 (And.intro L1 (And.intro hs1 (And.intro hrn hst0))))
  clear K1 L1 hs1 hrn hst0 hge hf1
  go_wp2
  go_quiet (first | (go_at_call 77; refine Calls.quiet_of (hst _)))
  clear hst k1 z1
  have hfq : Fr [] W1 (W1.drewN nq) := (Fr.refl [] W1).drewM nq
  have hs2 : (W1.drewN nq).heap[bx]? = some (stepO kd txn sq nn key sv ao x y (-1) (-1) 0 0) := (hfq.block bx (Array.getElem?_eq_some_iff.1 HK1.out.2.2.1).1 (by simp)).trans HK1.out.2.2.1
  have L2 := HK1.out.2.1.trans (LFr.new hfq HK1.out.1.size)
  have HK := toHid (And.intro (HK1.out.1.new hfq) (And.intro L2 (And.intro HK0.out.2.2.1 (And.intro (L2.met hB HK0.out.2.2.2.1) (And.intro (L2.pows hB HK0.out.2.2.2.2.1) (And.intro hs2 (And.intro (HK1.out.2.2.2.1.fr hfq) (And.intro HK1.out.2.2.2.2 HK0.out.2.2.2.2.2.2))))))))
  generalize W1.drewN nq = W2 at HK hs2 L2 hfq ⊢
  clear hfq L2 HK0 HK1
  have k0 := blk_cell HK.out.1.kb 0
  have k1 := blk_cell HK.out.1.kb 1
  have f1 := blk_free HK.out.1.kb 1
  have z0 := blk_cell hs2 0
  have z1 := blk_cell hs2 1
  have z2 := blk_cell hs2 2
  have z3 := blk_cell hs2 3
  have z4 := blk_cell hs2 4
  have z5 := blk_cell hs2 5
  have z6 := blk_cell hs2 6
  have z7 := blk_cell hs2 7
  have z8 := blk_cell hs2 8
  have z9 := blk_cell hs2 9
  have z10 := blk_cell hs2 10
  simp at k0 k1 z0 z1 z2 z3 z4 z5 z6 z7 z8 z9 z10
  clear hs2
  have hwk := work_any hp p sp gp bV bT bH lp bD bN m n kp mp c T s l d cv uv cs us R W2 kd sq nn (-1) (-1) 0 0 txn x y key sv ao HK.out.1 HK.out.2.2.1 hm hc hus hB HK.out.2.2.2.1 ht hk
  have hfin : ∀ w', Worked W2 w' hp p sp gp bV bT bH lp bD bN m n kp mp c T l d cv uv cs us → Stepped w w' hp p sp gp bV bT bH lp bD bN m n kp c T fst cs us := fun w' hW => by
    obtain ⟨m', s', R', h1, h2, h3⟩ := hW.kin
    exact ⟨⟨m', n, s', l, d, g, mp, cv, uv, cs, us, R', by omega, by omega, by omega, by omega, h2, HK.out.2.2.2.2.2.2.2.2.1, HK.out.2.2.2.2.2.2.2.2.2, h3.mono (Nat.le_refl _) (by omega)⟩, HK.out.2.1.trans hW.fr⟩
  have HF := toHid hfin
  clear hfin
  rcases h7 with rfl | rfl | rfl
  all_goals
    go_wp2_with fail
    refine hwk.mono ?_
    rintro e w3 ⟨rfl, hW⟩
    have HR := toHid (HF.out w3 hW)
    clear hW
    go_wp2
    go_ret
    exact ⟨rfl, HR.out⟩
end
end Go.Proofs.YtejiankgafjppaaGreatDoor
/- A KEEPER: step, ticks. (Written by mkkpg.py.) -/
namespace Go.Proofs.YtejiankgafjppaaGreatDoor
open Go.RowKit Go.Maps
open Sc

section
variable [Inhabited Bs] (hp p sp gp bV bT bH lp bD bN m n kp mp c T fst : Nat) (s : AShard) (l : ALog) (d : ADisk) (cv uv : Value) (cs : List Value) (us : List Nat) (R : RSh) (g : List (List Rec)) (w : World)
set_option maxRecDepth 100000 in
set_option maxHeartbeats 16000000 in
theorem step_tick (sq nn : Int) (txn x y : Nat) (key sv : ByteArray) (ao : Option Addr) (h : KIn w hp p sp gp bV bT bH lp bD bN m n s l d kp mp cv uv cs us R) (hmu : Mu l d fst g) (hdn : d.down = false) (hg : Gd c T s R) (hbd : StepBd m n c T txn key cs us) (hmet : Met w) (hpow : Pows w) (hn1 : -9223372036854775808 ≤ nn) (hn2 : nn ≤ 9223372036854775807) :
    Calls Tryz.prog 39 #[.pointer (some ⟨kp, 0, none⟩), stepV 3 txn sq nn key sv ao x y (-1) (-1) 0 0] w fun e w' => e = .returned (.bool true) ∧ Stepped w w' hp p sp gp bV bT bH lp bD bN m n kp c T fst cs us := by
  obtain ⟨hm, hn, hc, hus, hcs, hB, ht, hk, hT⟩ := hbd
  obtain ⟨W, hW⟩ : ∃ W, W = w.alloc (stepO 3 txn sq nn key sv ao x y (-1) (-1) 0 0) := ⟨_, rfl⟩
  have hf0 : Fr [] w W := by rw [hW]; exact (Fr.refl [] w).alloc _
  have hs0 : W.heap[w.heap.size]? = some (stepO 3 txn sq nn key sv ao x y (-1) (-1) 0 0) := by rw [hW]; exact heap_alloc_new w _
  have K0 := h.new hf0
  have L0 := LFr.new hf0 h.size
  have hTx : R.txns.length ≤ 12 := hg.rel.len
  have hcp := rcopy_any mp R W K0.ref (by omega) (fun x hx => by have := hg.four x hx; omega) (by have := hg.table; omega)
  have k1 := blk_cell K0.kb 1
  simp at k1
  rw [hW] at k1
  have HK0 := toHid (And.intro K0 (And.intro L0 (And.intro hg (And.intro hmet (And.intro hpow (And.intro hs0 (And.intro hmu hdn)))))))
  clear h hg hs0 K0 L0 hf0 hmet hpow hmu hdn
  go_enter Tryz.func39, Tryz.ntmps39
  go_wp2_with fail
  rw [← hW]
  obtain ⟨bx, hbx⟩ : ∃ bx, bx = w.heap.size := ⟨_, rfl⟩
  rw [← hbx] at HK0 ⊢
  clear hW hbx k1
  refine hcp.mono ?_
  rintro e W1 ⟨np, rfl, hge, hrn, hf1⟩
  clear hcp
  have K1 := HK0.out.1.new hf1
  have hs1 : W1.heap[bx]? = some (stepO 3 txn sq nn key sv ao x y (-1) (-1) 0 0) := (hf1.block bx (Array.getElem?_eq_some_iff.1 HK0.out.2.2.2.2.2.1).1 (by simp)).trans HK0.out.2.2.2.2.2.1
  have L1 := HK0.out.2.1.trans (LFr.new hf1 HK0.out.1.size)
  have k1 := blk_cell K1.kb 1
  have z1 := blk_cell hs1 1
  simp at k1 z1
  have hst := fun q => (K1.new ((Fr.refl [] W1).drewM q)).ref.state (t := txn) (by omega)
  obtain ⟨st, hst0⟩ : ∃ st, st = R.state txn := ⟨_, rfl⟩
  rw [← hst0] at hst
  have HK1 := toHid (And.intro K1 (And.intro L1 (And.intro hs1 (And.intro hrn hst0))))
  clear K1 L1 hs1 hrn hst0 hge hf1
  go_wp2
  go_quiet (first | (go_at_call 77; refine Calls.quiet_of (hst _)))
  clear hst k1 z1
  have hfq : Fr [] W1 (W1.drewN nq) := (Fr.refl [] W1).drewM nq
  have hs2 : (W1.drewN nq).heap[bx]? = some (stepO 3 txn sq nn key sv ao x y (-1) (-1) 0 0) := (hfq.block bx (Array.getElem?_eq_some_iff.1 HK1.out.2.2.1).1 (by simp)).trans HK1.out.2.2.1
  have L2 := HK1.out.2.1.trans (LFr.new hfq HK1.out.1.size)
  have HK := toHid (And.intro (HK1.out.1.new hfq) (And.intro L2 (And.intro HK0.out.2.2.1 (And.intro (L2.met hB HK0.out.2.2.2.1) (And.intro (L2.pows hB HK0.out.2.2.2.2.1) (And.intro hs2 (And.intro (HK1.out.2.2.2.1.fr hfq) (And.intro HK1.out.2.2.2.2 HK0.out.2.2.2.2.2.2))))))))
  generalize W1.drewN nq = W2 at HK hs2 L2 hfq ⊢
  clear hfq L2 HK0 HK1
  have k0 := blk_cell HK.out.1.kb 0
  have k1 := blk_cell HK.out.1.kb 1
  have f1 := blk_free HK.out.1.kb 1
  have z0 := blk_cell hs2 0
  have z1 := blk_cell hs2 1
  have z2 := blk_cell hs2 2
  have z3 := blk_cell hs2 3
  have z4 := blk_cell hs2 4
  have z5 := blk_cell hs2 5
  have z6 := blk_cell hs2 6
  have z7 := blk_cell hs2 7
  have z8 := blk_cell hs2 8
  have z9 := blk_cell hs2 9
  have z10 := blk_cell hs2 10
  simp at k0 k1 z0 z1 z2 z3 z4 z5 z6 z7 z8 z9 z10
  clear hs2
  have hpk := pickL_fn nn 20 W2 hn1 hn2 (by decide) (by decide)
  have hpl := pk_lt nn 20 (by decide)
  obtain ⟨z, hz⟩ : ∃ z, z = pk nn 20 := ⟨_, rfl⟩
  rw [← hz] at hpk hpl
  clear hz
  go_wp2_with fail
  refine hpk.mono ?_
  rintro e w3 ⟨rfl, rfl⟩
  clear hpk k0 k1 f1 z0 z1 z2 z3 z4 z5 z6 z7 z8 z9 z10
  go_wp2
  go_loopw [7] (fun i wr => ∃ j : Int, -1 ≤ j ∧ j ≤ 19 ∧ i = .int .i64 j ∧ Hid (∃ s' R', KIn wr hp p sp gp bV bT bH lp bD bN m n s' l d kp mp cv uv cs us R' ∧ Gd c (T + (19 - j).toNat) s' R' ∧ LFr w wr)) (fun i _ => (intOf i + 1).toNat)
  case atStart => exact ⟨(z : Int), by omega, by omega, rfl, s, R, HK.out.1, HK.out.2.2.1.mono (Nat.le_refl _) (by omega), HK.out.2.1⟩
  case round =>
    obtain ⟨j, hj1, hj2, rfl, s', R', K, hG, hL⟩ := hrel
    have k0 := blk_cell K.kb 0
    simp at k0
    by_cases hj0 : 0 ≤ j
    · have hti := hTick_x B0 hp p sp gp bV bT bH lp bD bN m n s' l d wr K.host (by have := hG.ticks; omega)
      have hRl : R'.txns.length ≤ 12 := hG.rel.len
      have H := toHid (And.intro K (And.intro hG hL))
      clear K hG hL
      go_wp2_with fail
      refine hti.mono ?_
      rintro e w4 ⟨rfl, hH, hS⟩
      have K4 := H.out.1.sfr hH hS
      have L4 := H.out.2.2.trans (LFr.host H.out.1.host hS)
      have b1 := blk_cell K4.kb 1
      simp at b1
      have hri := rtick_any mp R' w4 K4.ref (by omega) (fun x hx => by have := H.out.2.1.ages x hx; omega)
      have H4 := toHid (And.intro K4 L4)
      clear K4 L4 hH hS hti k0
      go_wp2_with fail
      refine hri.mono ?_
      rintro e w5 ⟨rfl, hR, hBr⟩
      have H5 : Hid (∃ s'' R'', KIn w5 hp p sp gp bV bT bH lp bD bN m n s'' l d kp mp cv uv cs us R'' ∧ Gd c (T + (19 - (j - 1)).toNat) s'' R'' ∧ LFr w w5) := ⟨_, _, H4.out.1.rbr hBr hR, H.out.2.1.tick.mono (Nat.le_refl _) (by omega), H4.out.2.trans (hBr.lfr H4.out.1.size)⟩
      clear hR hBr hri b1
      go_wp2
      go_roundw
      case rel => exact ⟨j - 1, by omega, by omega, by go_num, H5⟩
      case measure => simp [intOf]; omega
    · have H := toHid (And.intro K (And.intro hG hL))
      clear K hG hL
      go_wp2
      go_ret
      exact ⟨rfl, ⟨m, n, s', l, d, g, mp, cv, uv, cs, us, R', by omega, by omega, by omega, by omega, H.out.1, HK.out.2.2.2.2.2.2.2.2.1, HK.out.2.2.2.2.2.2.2.2.2, H.out.2.1.mono (by omega) (by omega)⟩, H.out.2.2⟩
end
end Go.Proofs.YtejiankgafjppaaGreatDoor
/- A KEEPER: step, Prepare. (Written by mkkpg.py.) -/
namespace Go.Proofs.YtejiankgafjppaaGreatDoor
open Go.RowKit Go.Maps
open Sc

theorem prep_yes (R : RSh) (t : Nat) (h : (R.prepare t).2.1 = 2) : (R.prepare t).2.2 = 0 := by
  unfold RSh.prepare at h ⊢
  split
  · rename_i h0; rw [if_pos h0] at h; cases h
  · split
    · rfl
    · split
      · rfl
      · split
        · rfl
        · split <;> rfl
section
variable [Inhabited Bs] (hp p sp gp bV bT bH lp bD bN m n kp mp c T fst : Nat) (s : AShard) (l : ALog) (d : ADisk) (cv uv : Value) (cs : List Value) (us : List Nat) (R : RSh) (g : List (List Rec)) (w : World)
set_option maxRecDepth 100000 in
set_option maxHeartbeats 16000000 in
theorem step_prep (sq nn : Int) (txn x y : Nat) (key sv : ByteArray) (ao : Option Addr) (h : KIn w hp p sp gp bV bT bH lp bD bN m n s l d kp mp cv uv cs us R) (hmu : Mu l d fst g) (hdn : d.down = false) (hg : Gd c T s R) (hbd : StepBd m n c T txn key cs us) (hmet : Met w) (hpow : Pows w) :
    Calls Tryz.prog 39 #[.pointer (some ⟨kp, 0, none⟩), stepV 10 txn sq nn key sv ao x y (-1) (-1) 0 0] w fun e w' => e = .returned (.bool true) ∧ Stepped w w' hp p sp gp bV bT bH lp bD bN m n kp c T fst cs us := by
  obtain ⟨hm, hn, hc, hus, hcs, hB, ht, hk, hT⟩ := hbd
  obtain ⟨W, hW⟩ : ∃ W, W = w.alloc (stepO 10 txn sq nn key sv ao x y (-1) (-1) 0 0) := ⟨_, rfl⟩
  have hf0 : Fr [] w W := by rw [hW]; exact (Fr.refl [] w).alloc _
  have hs0 : W.heap[w.heap.size]? = some (stepO 10 txn sq nn key sv ao x y (-1) (-1) 0 0) := by rw [hW]; exact heap_alloc_new w _
  have K0 := h.new hf0
  have L0 := LFr.new hf0 h.size
  have hTx : R.txns.length ≤ 12 := hg.rel.len
  have hcp := rcopy_any mp R W K0.ref (by omega) (fun x hx => by have := hg.four x hx; omega) (by have := hg.table; omega)
  have k1 := blk_cell K0.kb 1
  simp at k1
  rw [hW] at k1
  have HK0 := toHid (And.intro K0 (And.intro L0 (And.intro hg (And.intro hmet (And.intro hpow (And.intro hs0 (And.intro hmu hdn)))))))
  clear h hg hs0 K0 L0 hf0 hmet hpow hmu hdn
  go_enter Tryz.func39, Tryz.ntmps39
  go_wp2_with fail
  rw [← hW]
  obtain ⟨bx, hbx⟩ : ∃ bx, bx = w.heap.size := ⟨_, rfl⟩
  rw [← hbx] at HK0 ⊢
  clear hW hbx k1
  refine hcp.mono ?_
  rintro e W1 ⟨np, rfl, hge, hrn, hf1⟩
  clear hcp
  have K1 := HK0.out.1.new hf1
  have hs1 : W1.heap[bx]? = some (stepO 10 txn sq nn key sv ao x y (-1) (-1) 0 0) := (hf1.block bx (Array.getElem?_eq_some_iff.1 HK0.out.2.2.2.2.2.1).1 (by simp)).trans HK0.out.2.2.2.2.2.1
  have L1 := HK0.out.2.1.trans (LFr.new hf1 HK0.out.1.size)
  have k1 := blk_cell K1.kb 1
  have z1 := blk_cell hs1 1
  simp at k1 z1
  have hst := fun q => (K1.new ((Fr.refl [] W1).drewM q)).ref.state (t := txn) (by omega)
  obtain ⟨st, hst0⟩ : ∃ st, st = R.state txn := ⟨_, rfl⟩
  rw [← hst0] at hst
  have HK1 := toHid (And.intro K1 (And.intro L1 (And.intro hs1 (And.intro hrn hst0))))
  clear K1 L1 hs1 hrn hst0 hge hf1
  go_wp2
  go_quiet (first | (go_at_call 77; refine Calls.quiet_of (hst _)))
  clear hst k1 z1
  have hfq : Fr [] W1 (W1.drewN nq) := (Fr.refl [] W1).drewM nq
  have hs2 : (W1.drewN nq).heap[bx]? = some (stepO 10 txn sq nn key sv ao x y (-1) (-1) 0 0) := (hfq.block bx (Array.getElem?_eq_some_iff.1 HK1.out.2.2.1).1 (by simp)).trans HK1.out.2.2.1
  have L2 := HK1.out.2.1.trans (LFr.new hfq HK1.out.1.size)
  have HK := toHid (And.intro (HK1.out.1.new hfq) (And.intro L2 (And.intro HK0.out.2.2.1 (And.intro (L2.met hB HK0.out.2.2.2.1) (And.intro (L2.pows hB HK0.out.2.2.2.2.1) (And.intro hs2 (And.intro (HK1.out.2.2.2.1.fr hfq) (And.intro HK1.out.2.2.2.2 HK0.out.2.2.2.2.2.2))))))))
  generalize W1.drewN nq = W2 at HK hs2 L2 hfq ⊢
  clear hfq L2 HK0 HK1
  have k0 := blk_cell HK.out.1.kb 0
  have k1 := blk_cell HK.out.1.kb 1
  have f1 := blk_free HK.out.1.kb 1
  have z0 := blk_cell hs2 0
  have z1 := blk_cell hs2 1
  have z2 := blk_cell hs2 2
  have z3 := blk_cell hs2 3
  have z4 := blk_cell hs2 4
  have z5 := blk_cell hs2 5
  have z6 := blk_cell hs2 6
  have z7 := blk_cell hs2 7
  have z8 := blk_cell hs2 8
  have z9 := blk_cell hs2 9
  have z10 := blk_cell hs2 10
  simp at k0 k1 z0 z1 z2 z3 z4 z5 z6 z7 z8 z9 z10
  clear hs2
  have hop : ∀ w', Fr [] W2 w' → Calls Tryz.prog 25 #[.pointer (some ⟨hp, 0, none⟩), .int .u64 (txn : Int), wellV] w' fun e w3 => e = .returned (.tuple #[.int .i64 ((R.prepare txn).2.1 : Int), .int .i64 ((R.prepare txn).2.2 : Int)]) ∧ ∃ m' n' s' l' d' g', m' ≤ m + 16 ∧ n' ≤ n + 3 ∧ KIn w3 hp p sp gp bV bT bH lp bD bN m' n' s' l' d' kp mp cv uv cs us R ∧ Mu l' d' fst g' ∧ d'.down = false ∧ Gd (c) T s' (R.prepare txn).1 ∧ LFr w w3 ∧ w3.heap[bx]? = some (stepO 10 txn sq nn key sv ao x y (-1) (-1) 0 0) ∧ RS w3 np R := fun w' hw' => by
    have K := HK.out.1.new hw'
    have L := LFr.new hw' HK.out.1.size
    refine (kPrep hp p sp gp bV bT bH lp bD bN m n kp mp c T txn fst s l d cv uv cs us R g w' K HK.out.2.2.2.2.2.2.2.2.1 HK.out.2.2.2.2.2.2.2.2.2 HK.out.2.2.1 hm hn hB (L.met hB HK.out.2.2.2.1) (L.pows hB HK.out.2.2.2.2.1) ht).mono ?_
    rintro e w3 ⟨rfl, hWr⟩
    obtain ⟨m', n', s', l', d', g', e1, e2, e3, e4, e5, e6⟩ := hWr.kin
    exact ⟨rfl, m', n', s', l', d', g', e1, e2, e3, e4, e5, e6, (HK.out.2.1.trans L).trans hWr.fr, hWr.fr.step _ _ (L.step _ _ HK.out.2.2.2.2.2.1), hWr.ref _ _ (HK.out.2.2.2.2.2.2.1.fr hw')⟩
  have hye : (R.prepare txn).2.1 = 2 → (R.prepare txn).2.2 = 0 := prep_yes R txn
  have hpr := fun w' hw' => rprepare_any np txn R w' hw' (by omega) HK.out.2.2.1.rel.asc (fun x hx => by have := HK.out.2.2.1.four x hx; omega)
  obtain ⟨pv, hpv⟩ : ∃ pv, pv = (R.prepare txn).2.1 := ⟨_, rfl⟩
  obtain ⟨pe, hpe⟩ : ∃ pe, pe = (R.prepare txn).2.2 := ⟨_, rfl⟩
  rw [← hpv, ← hpe] at hop hpr hye
  have HPR := toHid hpr
  clear hpv hpe hpr
  go_wp2
  go_region_held3 (fun w' => w'.cell? ⟨kp, 0, none⟩ = some (.pointer (some ⟨hp, 0, none⟩)) ∧ w'.cell? ⟨bx, 1, none⟩ = some (.int .u64 (txn : Int)) ∧ w'.cell? ⟨bx, 7, none⟩ = some (.int .i64 (-1)) ∧ w'.cell? ⟨bx, 8, none⟩ = some (.int .i64 (-1)) ∧ w'.cell? ⟨bx, 9, none⟩ = some (.int .i64 0) ∧ w'.cell? ⟨bx, 10, none⟩ = some (.int .i64 0)) (simp [*])
    (first | (go_at_call 25; refine (hop _ (by first | exact (Fr.refl [] W2).drew | exact Fr.refl [] W2)).mono ?_; rintro e w3 ⟨rfl, m', n', s', l', d', g', h1, h2, h3, h4, h5, h6, h7, h8, h9⟩; have a0 := blk_cell h3.kb 0; have a1 := blk_cell h8 1; have a7 := blk_cell h8 7; have a8 := blk_cell h8 8; have a9 := blk_cell h8 9; have a10 := blk_cell h8 10; simp at a0 a1 a7 a8 a9 a10; have H3 := toHid (And.intro h1 (And.intro h2 (And.intro h3 (And.intro h4 (And.intro h5 (And.intro h6 (And.intro h7 (And.intro h8 h9)))))))); clear h1 h2 h3 h4 h5 h6 h7 h8 h9 hop))
  clear k0 k1 f1 z0 z1 z2 z3 z4 z5 z6 z7 z8 z9 z10 a7 a8 a9 a10
  have hpr := HPR.out w3 H3.out.2.2.2.2.2.2.2.2
  go_wp2_with fail
  refine hpr.mono ?_
  rintro e w4 ⟨rfl, hR4, hBr4⟩
  have K4 := H3.out.2.2.1.rbr hBr4 hR4
  have L4 := H3.out.2.2.2.2.2.2.1.trans (hBr4.lfr H3.out.2.2.1.size)
  have hs4 := (hBr4.lfr H3.out.2.2.1.size).step _ _ H3.out.2.2.2.2.2.2.2.1
  have H4 := toHid (And.intro K4 (And.intro L4 (And.intro hs4 hR4)))
  clear hpr hR4 hBr4 K4 L4 hs4 a0 a1
  obtain ⟨i0, hin, hz0, hz1, hz2⟩ := info_parts Tryz.infoU64
  by_cases hy : pv = 2 ∧ st = 1
  · obtain ⟨rfl, rfl⟩ := hy
    have e0 := hye rfl
    subst e0
    obtain ⟨uo, uc, eu⟩ := own_slice H4.out.1.used
    subst eu
    have k5 := blk_cell H4.out.1.kb 5
    have c1 := blk_cell H4.out.2.2.1 1
    have hkl : kp < w4.heap.size := (Array.getElem?_eq_some_iff.1 H4.out.1.kb).1
    simp at k5 c1
    have hrow := H4.out.1.used
    have hBW := H4.out.1.size
    obtain ⟨nu, hnu⟩ : ∃ nu, nu = us.length := ⟨_, rfl⟩
    have hne : some kp ≠ (Value.slice uo nu uc).ownBlock := by rw [hnu]; exact fun e => own_ne hrow H4.out.1.kb (by decide) e.symm
    have HX := toHid H4.out.1
    rw [← hnu] at hrow k5 HX hus
    have HN : Hid (us.length = nu) := hnu.symm
    clear hnu hye
    have hbl : bx < w4.heap.size := (Array.getElem?_eq_some_iff.1 H4.out.2.2.1).1
    have hka : ∀ ob, (w4.alloc ob).cell? ⟨kp, 5, none⟩ = some (.slice uo nu uc) := fun ob => (World.cell?_of_block (a := ⟨kp, 5, none⟩) (Below.heap_alloc w4 ob kp hkl)).trans k5
    have hxa : ∀ ob, (w4.alloc ob).cell? ⟨bx, 1, none⟩ = some (.int .u64 (txn : Int)) := fun ob => (World.cell?_of_block (a := ⟨bx, 1, none⟩) (Below.heap_alloc w4 ob bx hbl)).trans c1
    have HQ := toHid hrow
    clear hrow
    go_wp2
    go_region_law (first | (rw [if_pos (by rfl)]; refine wp_append_at _ _ 56 rfl B0 34 i0 _ 1 8 Tryz.underlying56 hin hz0 hz1 hz2 rfl (by decide) _ nu (u64s us) rfl (HQ.out.alloc _) ⟨w4.heap.size, 0, none⟩ 1 1 [.int .u64 (txn : Int)] rfl rfl (cells_new _ #[.int .u64 (txn : Int)] _) (by intro u hu; simp at hu; subst hu; rfl) (by unfold maxLen; omega) (by omega) (Nat.le_trans hBW (by simp)) ?_; intro v5 w5 ho5 hg5 ha5; obtain ⟨o5, c5, rfl⟩ := own_slice ho5; have hb5 : w5.heap[kp]? = some (keepO hp mp cv (.slice uo nu uc)) := (hg5.block kp (by simp; omega) hne).trans ((Below.heap_alloc w4 _ kp hkl).trans HX.out.kb); have t5 := blk_cell hb5 5; have tf := blk_free hb5 5; simp at t5))
    all_goals
      have HR := toHid (HX.out.setU (us' := us ++ [txn]) ((((Fr.refl _ w4).alloc _).drew).trans (Fr.of_grown (r := (Value.slice uo nu uc).ownBlock) hg5)) (by unfold u64s; rw [List.map_append, List.length_append, HN.out]; exact ho5) (fun g hg => ha5.elim (fun e => .inl (e ▸ hg)) (fun e => .inr (by rw [e] at hg; cases hg; simp))))
      have hR6 := HR.out.2.2 _ _ H4.out.2.2.2
      have hG := H3.out.2.2.2.2.2.1
      have hwr := wrote_any hp p sp gp bV bT bH lp bD bN m' n' kp mp np np 0 s' l' d' cv (.slice o5 (nu + 1) c5) cs (us ++ [txn]) (R.prepare txn).1 (R.prepare txn).1 _ true HR.out.1 hR6 (by have := hG.rel.len; omega) (fun x hx => by have := hG.four x hx; omega) (by have := hG.table; omega) (by omega)
      clear hR6 hG ho5 hg5 ha5 hb5 hka hxa
      go_wp2_with fail
      refine hwr.mono ?_
      rintro e w6 ⟨rfl, cv', cs', h1, h2, h4⟩
      have H6 := toHid (And.intro h1 (And.intro h2 h4))
      clear h1 h2 h4 hwr
      go_wp2
      go_ret
      exact ⟨rfl, ⟨m', n', s', l', d', g', np, cv', _, cs', us ++ [txn], (R.prepare txn).1, H3.out.1, H3.out.2.1, H6.out.1, by rw [List.length_append]; simp, H6.out.2.1, H3.out.2.2.2.1, H3.out.2.2.2.2.1, H3.out.2.2.2.2.2.1.mono (by omega) (by omega)⟩, (H4.out.2.1.trans HR.out.2.1).trans H6.out.2.2⟩
  · obtain ⟨K5, L5⟩ := H4.out.1.setM H4.out.2.2.2
    have b1 := blk_cell H4.out.1.kb 1
    have bf := blk_free H4.out.1.kb 1
    simp at b1
    have H5 := toHid (And.intro K5 (H4.out.2.1.trans L5))
    have hcase : ¬ ((pv : Int) = 2) ∨ (((pv : Int) = 2) ∧ ¬ ((st : Int) = 1)) := by omega
    clear K5 L5 hye hy
    rcases hcase with hn2 | ⟨hn2, hn1⟩
    all_goals
      go_wp2
      go_ret
      exact ⟨rfl, ⟨m', n', s', l', d', g', np, cv, uv, cs, us, (R.prepare txn).1, H3.out.1, H3.out.2.1, by omega, by omega, H5.out.1, H3.out.2.2.2.1, H3.out.2.2.2.2.1, H3.out.2.2.2.2.2.1.mono (by omega) (by omega)⟩, H5.out.2⟩
end
end Go.Proofs.YtejiankgafjppaaGreatDoor
/- A KEEPER: step, Commit, Abort. (Written by mkkpg.py.) -/
namespace Go.Proofs.YtejiankgafjppaaGreatDoor
open Go.RowKit Go.Maps
open Sc

section
variable [Inhabited Bs] (hp p sp gp bV bT bH lp bD bN m n kp mp c T fst : Nat) (s : AShard) (l : ALog) (d : ADisk) (cv uv : Value) (cs : List Value) (us : List Nat) (R : RSh) (g : List (List Rec)) (w : World)
set_option maxRecDepth 100000 in
set_option maxHeartbeats 16000000 in
theorem step_comm (sq nn : Int) (txn x y : Nat) (key sv : ByteArray) (ao : Option Addr) (h : KIn w hp p sp gp bV bT bH lp bD bN m n s l d kp mp cv uv cs us R) (hmu : Mu l d fst g) (hdn : d.down = false) (hg : Gd c T s R) (hbd : StepBd m n c T txn key cs us) (hmet : Met w) (hpow : Pows w) :
    Calls Tryz.prog 39 #[.pointer (some ⟨kp, 0, none⟩), stepV 11 txn sq nn key sv ao x y (-1) (-1) 0 0] w fun e w' => e = .returned (.bool true) ∧ Stepped w w' hp p sp gp bV bT bH lp bD bN m n kp c T fst cs us := by
  obtain ⟨hm, hn, hc, hus, hcs, hB, ht, hk, hT⟩ := hbd
  obtain ⟨W, hW⟩ : ∃ W, W = w.alloc (stepO 11 txn sq nn key sv ao x y (-1) (-1) 0 0) := ⟨_, rfl⟩
  have hf0 : Fr [] w W := by rw [hW]; exact (Fr.refl [] w).alloc _
  have hs0 : W.heap[w.heap.size]? = some (stepO 11 txn sq nn key sv ao x y (-1) (-1) 0 0) := by rw [hW]; exact heap_alloc_new w _
  have K0 := h.new hf0
  have L0 := LFr.new hf0 h.size
  have hTx : R.txns.length ≤ 12 := hg.rel.len
  have hcp := rcopy_any mp R W K0.ref (by omega) (fun x hx => by have := hg.four x hx; omega) (by have := hg.table; omega)
  have k1 := blk_cell K0.kb 1
  simp at k1
  rw [hW] at k1
  have HK0 := toHid (And.intro K0 (And.intro L0 (And.intro hg (And.intro hmet (And.intro hpow (And.intro hs0 (And.intro hmu hdn)))))))
  clear h hg hs0 K0 L0 hf0 hmet hpow hmu hdn
  go_enter Tryz.func39, Tryz.ntmps39
  go_wp2_with fail
  rw [← hW]
  obtain ⟨bx, hbx⟩ : ∃ bx, bx = w.heap.size := ⟨_, rfl⟩
  rw [← hbx] at HK0 ⊢
  clear hW hbx k1
  refine hcp.mono ?_
  rintro e W1 ⟨np, rfl, hge, hrn, hf1⟩
  clear hcp
  have K1 := HK0.out.1.new hf1
  have hs1 : W1.heap[bx]? = some (stepO 11 txn sq nn key sv ao x y (-1) (-1) 0 0) := (hf1.block bx (Array.getElem?_eq_some_iff.1 HK0.out.2.2.2.2.2.1).1 (by simp)).trans HK0.out.2.2.2.2.2.1
  have L1 := HK0.out.2.1.trans (LFr.new hf1 HK0.out.1.size)
  have k1 := blk_cell K1.kb 1
  have z1 := blk_cell hs1 1
  simp at k1 z1
  have hst := fun q => (K1.new ((Fr.refl [] W1).drewM q)).ref.state (t := txn) (by omega)
  obtain ⟨st, hst0⟩ : ∃ st, st = R.state txn := ⟨_, rfl⟩
  rw [← hst0] at hst
  have HK1 := toHid (And.intro K1 (And.intro L1 (And.intro hs1 (And.intro hrn hst0))))
  clear K1 L1 hs1 hrn hst0 hge hf1
  go_wp2
  go_quiet (first | (go_at_call 77; refine Calls.quiet_of (hst _)))
  clear hst k1 z1
  have hfq : Fr [] W1 (W1.drewN nq) := (Fr.refl [] W1).drewM nq
  have hs2 : (W1.drewN nq).heap[bx]? = some (stepO 11 txn sq nn key sv ao x y (-1) (-1) 0 0) := (hfq.block bx (Array.getElem?_eq_some_iff.1 HK1.out.2.2.1).1 (by simp)).trans HK1.out.2.2.1
  have L2 := HK1.out.2.1.trans (LFr.new hfq HK1.out.1.size)
  have HK := toHid (And.intro (HK1.out.1.new hfq) (And.intro L2 (And.intro HK0.out.2.2.1 (And.intro (L2.met hB HK0.out.2.2.2.1) (And.intro (L2.pows hB HK0.out.2.2.2.2.1) (And.intro hs2 (And.intro (HK1.out.2.2.2.1.fr hfq) (And.intro HK1.out.2.2.2.2 HK0.out.2.2.2.2.2.2))))))))
  generalize W1.drewN nq = W2 at HK hs2 L2 hfq ⊢
  clear hfq L2 HK0 HK1
  have k0 := blk_cell HK.out.1.kb 0
  have k1 := blk_cell HK.out.1.kb 1
  have f1 := blk_free HK.out.1.kb 1
  have z0 := blk_cell hs2 0
  have z1 := blk_cell hs2 1
  have z2 := blk_cell hs2 2
  have z3 := blk_cell hs2 3
  have z4 := blk_cell hs2 4
  have z5 := blk_cell hs2 5
  have z6 := blk_cell hs2 6
  have z7 := blk_cell hs2 7
  have z8 := blk_cell hs2 8
  have z9 := blk_cell hs2 9
  have z10 := blk_cell hs2 10
  simp at k0 k1 z0 z1 z2 z3 z4 z5 z6 z7 z8 z9 z10
  clear hs2
  have hop : ∀ w', Fr [] W2 w' → Calls Tryz.prog 27 #[.pointer (some ⟨hp, 0, none⟩), .int .u64 (txn : Int), wellV] w' fun e w3 => e = .returned (.int .i64 ((R.commit txn).2 : Int)) ∧ ∃ m' n' s' l' d' g', m' ≤ m + 16 ∧ n' ≤ n + 3 ∧ KIn w3 hp p sp gp bV bT bH lp bD bN m' n' s' l' d' kp mp cv uv cs us R ∧ Mu l' d' fst g' ∧ d'.down = false ∧ Gd (c + 1) T s' (R.commit txn).1 ∧ LFr w w3 ∧ w3.heap[bx]? = some (stepO 11 txn sq nn key sv ao x y (-1) (-1) 0 0) ∧ RS w3 np R := fun w' hw' => by
    have K := HK.out.1.new hw'
    have L := LFr.new hw' HK.out.1.size
    refine (kComm hp p sp gp bV bT bH lp bD bN m n kp mp c T txn fst s l d cv uv cs us R g w' K HK.out.2.2.2.2.2.2.2.2.1 HK.out.2.2.2.2.2.2.2.2.2 HK.out.2.2.1 hm hn hB (L.met hB HK.out.2.2.2.1) (L.pows hB HK.out.2.2.2.2.1) ht).mono ?_
    rintro e w3 ⟨rfl, hWr⟩
    obtain ⟨m', n', s', l', d', g', e1, e2, e3, e4, e5, e6⟩ := hWr.kin
    exact ⟨rfl, m', n', s', l', d', g', e1, e2, e3, e4, e5, e6, (HK.out.2.1.trans L).trans hWr.fr, hWr.fr.step _ _ (L.step _ _ HK.out.2.2.2.2.2.1), hWr.ref _ _ (HK.out.2.2.2.2.2.2.1.fr hw')⟩
  have hno : R.state txn ≠ 3 → (R.commit txn).1 = R := fun h3 => by rw [commit_no HK.out.2.2.1 h3]
  have hTb := HK.out.2.2.1.table
  have hpr := fun w' hw' => rcommit_any np txn R w' hw' (by omega) HK.out.2.2.1.rel.asc (fun x hx => by have := HK.out.2.2.1.four x hx; omega) (by omega)
  obtain ⟨pe, hpe⟩ : ∃ pe, pe = (R.commit txn).2 := ⟨_, rfl⟩
  rw [← hpe] at hop hpr
  have HPR := toHid hpr
  have HNO := toHid hno
  clear hpe hpr hno hTb
  go_wp2
  go_region_held3 (fun w' => w'.cell? ⟨kp, 0, none⟩ = some (.pointer (some ⟨hp, 0, none⟩)) ∧ w'.cell? ⟨bx, 1, none⟩ = some (.int .u64 (txn : Int)) ∧ w'.cell? ⟨bx, 7, none⟩ = some (.int .i64 (-1)) ∧ w'.cell? ⟨bx, 8, none⟩ = some (.int .i64 (-1)) ∧ w'.cell? ⟨bx, 9, none⟩ = some (.int .i64 0) ∧ w'.cell? ⟨bx, 10, none⟩ = some (.int .i64 0)) (simp [*])
    (first | (go_at_call 27; refine (hop _ (by first | exact (Fr.refl [] W2).drew | exact Fr.refl [] W2)).mono ?_; rintro e w3 ⟨rfl, m', n', s', l', d', g', h1, h2, h3, h4, h5, h6, h7, h8, h9⟩; have a0 := blk_cell h3.kb 0; have a1 := blk_cell h8 1; have a7 := blk_cell h8 7; have a8 := blk_cell h8 8; have a9 := blk_cell h8 9; have a10 := blk_cell h8 10; simp at a0 a1 a7 a8 a9 a10; have H3 := toHid (And.intro h1 (And.intro h2 (And.intro h3 (And.intro h4 (And.intro h5 (And.intro h6 (And.intro h7 (And.intro h8 h9)))))))); clear h1 h2 h3 h4 h5 h6 h7 h8 h9 hop))
  clear k0 k1 f1 z0 z1 z2 z3 z4 z5 z6 z7 z8 z9 z10 a7 a8 a9 a10
  have hpr := HPR.out w3 H3.out.2.2.2.2.2.2.2.2
  go_wp2_with fail
  refine hpr.mono ?_
  rintro e w4 ⟨rfl, hR4, hBr4, hF4⟩
  by_cases h3 : st = 3
  · have K4 := H3.out.2.2.1.rbr hBr4 hR4
    have L4 := H3.out.2.2.2.2.2.2.1.trans (hBr4.lfr H3.out.2.2.1.size)
    have hG := H3.out.2.2.2.2.2.1
    have hwr := wrote_any hp p sp gp bV bT bH lp bD bN m' n' kp mp np np pe s' l' d' cv uv cs us (R.commit txn).1 (R.commit txn).1 w4 true K4 hR4 (by have := hG.rel.len; omega) (fun x hx => by have := hG.four x hx; omega) (by have := hG.table; omega) (by omega)
    have H4 := toHid L4
    subst h3
    clear hpr hR4 hBr4 hF4 K4 L4 hG a0 a1
    go_wp2_with fail
    refine hwr.mono ?_
    rintro e w5 ⟨rfl, cv', cs', h1, h2, h4⟩
    have H5 := toHid (And.intro h1 (And.intro h2 h4))
    clear h1 h2 h4 hwr
    go_wp2
    go_ret
    exact ⟨rfl, ⟨m', n', s', l', d', g', np, cv', uv, cs', us, (R.commit txn).1, H3.out.1, H3.out.2.1, H5.out.1, by omega, H5.out.2.1, H3.out.2.2.2.1, H3.out.2.2.2.2.1, H3.out.2.2.2.2.2.1.mono (Nat.le_refl _) (by omega)⟩, H4.out.trans H5.out.2.2⟩
  · have hne : R.state txn ≠ 3 := by rw [← HK.out.2.2.2.2.2.2.2.1]; exact h3
    have K4 := H3.out.2.2.1.new (hF4 hne)
    have L4 := H3.out.2.2.2.2.2.2.1.trans (LFr.new (hF4 hne) H3.out.2.2.1.size)
    have hG := H3.out.2.2.2.2.2.1
    rw [HNO.out hne] at hG
    have z3 : ¬ ((st : Int) = 3) := by omega
    have H4 := toHid (And.intro K4 (And.intro L4 hG))
    clear hpr hR4 hBr4 hF4 K4 L4 hG a0 a1
    go_wp2
    go_ret
    exact ⟨rfl, ⟨m', n', s', l', d', g', mp, cv, uv, cs, us, R, H3.out.1, H3.out.2.1, by omega, by omega, H4.out.1, H3.out.2.2.2.1, H3.out.2.2.2.2.1, H4.out.2.2.mono (Nat.le_refl _) (by omega)⟩, H4.out.2.1⟩
set_option maxRecDepth 100000 in
set_option maxHeartbeats 16000000 in
theorem step_abrt (sq nn : Int) (txn x y : Nat) (key sv : ByteArray) (ao : Option Addr) (h : KIn w hp p sp gp bV bT bH lp bD bN m n s l d kp mp cv uv cs us R) (hmu : Mu l d fst g) (hdn : d.down = false) (hg : Gd c T s R) (hbd : StepBd m n c T txn key cs us) (hmet : Met w) (hpow : Pows w) :
    Calls Tryz.prog 39 #[.pointer (some ⟨kp, 0, none⟩), stepV 12 txn sq nn key sv ao x y (-1) (-1) 0 0] w fun e w' => e = .returned (.bool true) ∧ Stepped w w' hp p sp gp bV bT bH lp bD bN m n kp c T fst cs us := by
  obtain ⟨hm, hn, hc, hus, hcs, hB, ht, hk, hT⟩ := hbd
  obtain ⟨W, hW⟩ : ∃ W, W = w.alloc (stepO 12 txn sq nn key sv ao x y (-1) (-1) 0 0) := ⟨_, rfl⟩
  have hf0 : Fr [] w W := by rw [hW]; exact (Fr.refl [] w).alloc _
  have hs0 : W.heap[w.heap.size]? = some (stepO 12 txn sq nn key sv ao x y (-1) (-1) 0 0) := by rw [hW]; exact heap_alloc_new w _
  have K0 := h.new hf0
  have L0 := LFr.new hf0 h.size
  have hTx : R.txns.length ≤ 12 := hg.rel.len
  have hcp := rcopy_any mp R W K0.ref (by omega) (fun x hx => by have := hg.four x hx; omega) (by have := hg.table; omega)
  have k1 := blk_cell K0.kb 1
  simp at k1
  rw [hW] at k1
  have HK0 := toHid (And.intro K0 (And.intro L0 (And.intro hg (And.intro hmet (And.intro hpow (And.intro hs0 (And.intro hmu hdn)))))))
  clear h hg hs0 K0 L0 hf0 hmet hpow hmu hdn
  go_enter Tryz.func39, Tryz.ntmps39
  go_wp2_with fail
  rw [← hW]
  obtain ⟨bx, hbx⟩ : ∃ bx, bx = w.heap.size := ⟨_, rfl⟩
  rw [← hbx] at HK0 ⊢
  clear hW hbx k1
  refine hcp.mono ?_
  rintro e W1 ⟨np, rfl, hge, hrn, hf1⟩
  clear hcp
  have K1 := HK0.out.1.new hf1
  have hs1 : W1.heap[bx]? = some (stepO 12 txn sq nn key sv ao x y (-1) (-1) 0 0) := (hf1.block bx (Array.getElem?_eq_some_iff.1 HK0.out.2.2.2.2.2.1).1 (by simp)).trans HK0.out.2.2.2.2.2.1
  have L1 := HK0.out.2.1.trans (LFr.new hf1 HK0.out.1.size)
  have k1 := blk_cell K1.kb 1
  have z1 := blk_cell hs1 1
  simp at k1 z1
  have hst := fun q => (K1.new ((Fr.refl [] W1).drewM q)).ref.state (t := txn) (by omega)
  obtain ⟨st, hst0⟩ : ∃ st, st = R.state txn := ⟨_, rfl⟩
  rw [← hst0] at hst
  have HK1 := toHid (And.intro K1 (And.intro L1 (And.intro hs1 (And.intro hrn hst0))))
  clear K1 L1 hs1 hrn hst0 hge hf1
  go_wp2
  go_quiet (first | (go_at_call 77; refine Calls.quiet_of (hst _)))
  clear hst k1 z1
  have hfq : Fr [] W1 (W1.drewN nq) := (Fr.refl [] W1).drewM nq
  have hs2 : (W1.drewN nq).heap[bx]? = some (stepO 12 txn sq nn key sv ao x y (-1) (-1) 0 0) := (hfq.block bx (Array.getElem?_eq_some_iff.1 HK1.out.2.2.1).1 (by simp)).trans HK1.out.2.2.1
  have L2 := HK1.out.2.1.trans (LFr.new hfq HK1.out.1.size)
  have HK := toHid (And.intro (HK1.out.1.new hfq) (And.intro L2 (And.intro HK0.out.2.2.1 (And.intro (L2.met hB HK0.out.2.2.2.1) (And.intro (L2.pows hB HK0.out.2.2.2.2.1) (And.intro hs2 (And.intro (HK1.out.2.2.2.1.fr hfq) (And.intro HK1.out.2.2.2.2 HK0.out.2.2.2.2.2.2))))))))
  generalize W1.drewN nq = W2 at HK hs2 L2 hfq ⊢
  clear hfq L2 HK0 HK1
  have k0 := blk_cell HK.out.1.kb 0
  have k1 := blk_cell HK.out.1.kb 1
  have f1 := blk_free HK.out.1.kb 1
  have z0 := blk_cell hs2 0
  have z1 := blk_cell hs2 1
  have z2 := blk_cell hs2 2
  have z3 := blk_cell hs2 3
  have z4 := blk_cell hs2 4
  have z5 := blk_cell hs2 5
  have z6 := blk_cell hs2 6
  have z7 := blk_cell hs2 7
  have z8 := blk_cell hs2 8
  have z9 := blk_cell hs2 9
  have z10 := blk_cell hs2 10
  simp at k0 k1 z0 z1 z2 z3 z4 z5 z6 z7 z8 z9 z10
  clear hs2
  have hop : ∀ w', Fr [] W2 w' → Calls Tryz.prog 26 #[.pointer (some ⟨hp, 0, none⟩), .int .u64 (txn : Int), wellV] w' fun e w3 => e = .returned (.int .i64 ((R.abort txn).2 : Int)) ∧ ∃ m' n' s' l' d' g', m' ≤ m + 16 ∧ n' ≤ n + 3 ∧ KIn w3 hp p sp gp bV bT bH lp bD bN m' n' s' l' d' kp mp cv uv cs us R ∧ Mu l' d' fst g' ∧ d'.down = false ∧ Gd (c) T s' (R.abort txn).1 ∧ LFr w w3 ∧ w3.heap[bx]? = some (stepO 12 txn sq nn key sv ao x y (-1) (-1) 0 0) ∧ RS w3 np R := fun w' hw' => by
    have K := HK.out.1.new hw'
    have L := LFr.new hw' HK.out.1.size
    refine (kAbrt hp p sp gp bV bT bH lp bD bN m n kp mp c T txn fst s l d cv uv cs us R g w' K HK.out.2.2.2.2.2.2.2.2.1 HK.out.2.2.2.2.2.2.2.2.2 HK.out.2.2.1 hm hn hB (L.met hB HK.out.2.2.2.1) (L.pows hB HK.out.2.2.2.2.1) ht).mono ?_
    rintro e w3 ⟨rfl, hWr⟩
    obtain ⟨m', n', s', l', d', g', e1, e2, e3, e4, e5, e6⟩ := hWr.kin
    exact ⟨rfl, m', n', s', l', d', g', e1, e2, e3, e4, e5, e6, (HK.out.2.1.trans L).trans hWr.fr, hWr.fr.step _ _ (L.step _ _ HK.out.2.2.2.2.2.1), hWr.ref _ _ (HK.out.2.2.2.2.2.2.1.fr hw')⟩
  have hpr := fun w' hw' => rabort_any np txn R w' hw' (by omega) HK.out.2.2.1.rel.asc
  obtain ⟨pe, hpe⟩ : ∃ pe, pe = (R.abort txn).2 := ⟨_, rfl⟩
  rw [← hpe] at hop hpr
  have HPR := toHid hpr
  clear hpe hpr
  go_wp2
  go_region_held3 (fun w' => w'.cell? ⟨kp, 0, none⟩ = some (.pointer (some ⟨hp, 0, none⟩)) ∧ w'.cell? ⟨bx, 1, none⟩ = some (.int .u64 (txn : Int)) ∧ w'.cell? ⟨bx, 7, none⟩ = some (.int .i64 (-1)) ∧ w'.cell? ⟨bx, 8, none⟩ = some (.int .i64 (-1)) ∧ w'.cell? ⟨bx, 9, none⟩ = some (.int .i64 0) ∧ w'.cell? ⟨bx, 10, none⟩ = some (.int .i64 0)) (simp [*])
    (first | (go_at_call 26; refine (hop _ (by first | exact (Fr.refl [] W2).drew | exact Fr.refl [] W2)).mono ?_; rintro e w3 ⟨rfl, m', n', s', l', d', g', h1, h2, h3, h4, h5, h6, h7, h8, h9⟩; have a0 := blk_cell h3.kb 0; have a1 := blk_cell h8 1; have a7 := blk_cell h8 7; have a8 := blk_cell h8 8; have a9 := blk_cell h8 9; have a10 := blk_cell h8 10; simp at a0 a1 a7 a8 a9 a10; have H3 := toHid (And.intro h1 (And.intro h2 (And.intro h3 (And.intro h4 (And.intro h5 (And.intro h6 (And.intro h7 (And.intro h8 h9)))))))); clear h1 h2 h3 h4 h5 h6 h7 h8 h9 hop))
  clear k0 k1 f1 z0 z1 z2 z3 z4 z5 z6 z7 z8 z9 z10 a7 a8 a9 a10
  have hpr := HPR.out w3 H3.out.2.2.2.2.2.2.2.2
  go_wp2_with fail
  refine hpr.mono ?_
  rintro e w4 ⟨rfl, hR4, hBr4⟩
  have K4 := H3.out.2.2.1.rbr hBr4 hR4
  have L4 := H3.out.2.2.2.2.2.2.1.trans (hBr4.lfr H3.out.2.2.1.size)
  have hG := H3.out.2.2.2.2.2.1
  by_cases h3 : st = 3
  · have hwr := wrote_any hp p sp gp bV bT bH lp bD bN m' n' kp mp np np pe s' l' d' cv uv cs us (R.abort txn).1 (R.abort txn).1 w4 false K4 hR4 (by have := hG.rel.len; omega) (fun x hx => by have := hG.four x hx; omega) (by have := hG.table; omega) (by omega)
    have H4 := toHid L4
    subst h3
    clear hpr hR4 hBr4 K4 L4 hG a0 a1
    go_wp2_with fail
    refine hwr.mono ?_
    rintro e w5 ⟨rfl, cv', cs', h1, h2, h4⟩
    have H5 := toHid (And.intro h1 (And.intro h2 h4))
    clear h1 h2 h4 hwr
    go_wp2
    go_ret
    exact ⟨rfl, ⟨m', n', s', l', d', g', np, cv', uv, cs', us, (R.abort txn).1, H3.out.1, H3.out.2.1, H5.out.1, by omega, H5.out.2.1, H3.out.2.2.2.1, H3.out.2.2.2.2.1, H3.out.2.2.2.2.2.1.mono (by omega) (by omega)⟩, H4.out.trans H5.out.2.2⟩
  · have z3 : ¬ ((st : Int) = 3) := by omega
    obtain ⟨K5, L5⟩ := K4.setM hR4
    have b1 := blk_cell K4.kb 1
    have bf := blk_free K4.kb 1
    simp at b1
    have H4 := toHid (And.intro K5 (L4.trans L5))
    clear hpr hR4 hBr4 K4 L4 hG a0 a1 K5 L5
    go_wp2
    go_ret
    exact ⟨rfl, ⟨m', n', s', l', d', g', np, cv, uv, cs, us, (R.abort txn).1, H3.out.1, H3.out.2.1, by omega, by omega, H4.out.1, H3.out.2.2.2.1, H3.out.2.2.2.2.1, H3.out.2.2.2.2.2.1.mono (by omega) (by omega)⟩, H4.out.2⟩
end
end Go.Proofs.YtejiankgafjppaaGreatDoor
/- A KEEPER: step, whatever it is; the first state; what stays between two steps. -/
namespace Go.Proofs.YtejiankgafjppaaGreatDoor
open Go.RowKit Go.Maps
open Sc

section
variable [Inhabited Bs] (hp p sp gp bV bT bH lp bD bN m n kp mp c T fst : Nat) (s : AShard) (l : ALog) (d : ADisk) (cv uv : Value) (cs : List Value) (us : List Nat) (R : RSh) (g : List (List Rec)) (w : World)
theorem step_all (kd sq nn : Int) (txn x y : Nat) (key sv : ByteArray) (ao : Option Addr) (h : KIn w hp p sp gp bV bT bH lp bD bN m n s l d kp mp cv uv cs us R) (hmu : Mu l d fst g) (hdn : d.down = false) (hg : Gd c T s R) (hbd : StepBd m n c T txn key cs us) (hmet : Met w) (hpow : Pows w) (h2 : kd ≠ 2) (hn1 : -9223372036854775808 ≤ nn) (hn2 : nn ≤ 9223372036854775807) :
    Calls Tryz.prog 39 #[.pointer (some ⟨kp, 0, none⟩), stepV kd txn sq nn key sv ao x y (-1) (-1) 0 0] w fun e w' => e = .returned (.bool true) ∧ Stepped w w' hp p sp gp bV bT bH lp bD bN m n kp c T fst cs us := by
  by_cases h3 : kd = 3
  · subst h3; exact step_tick hp p sp gp bV bT bH lp bD bN m n kp mp c T fst s l d cv uv cs us R g w sq nn txn x y key sv ao h hmu hdn hg hbd hmet hpow hn1 hn2
  by_cases h7 : kd = 7 ∨ kd = 8 ∨ kd = 9
  · exact step_work hp p sp gp bV bT bH lp bD bN m n kp mp c T fst s l d cv uv cs us R g w kd sq nn txn x y key sv ao h hmu hdn hg hbd hmet hpow h7
  by_cases h10 : kd = 10
  · subst h10; exact step_prep hp p sp gp bV bT bH lp bD bN m n kp mp c T fst s l d cv uv cs us R g w sq nn txn x y key sv ao h hmu hdn hg hbd hmet hpow
  by_cases h11 : kd = 11
  · subst h11; exact step_comm hp p sp gp bV bT bH lp bD bN m n kp mp c T fst s l d cv uv cs us R g w sq nn txn x y key sv ao h hmu hdn hg hbd hmet hpow
  by_cases h12 : kd = 12
  · subst h12; exact step_abrt hp p sp gp bV bT bH lp bD bN m n kp mp c T fst s l d cv uv cs us R g w sq nn txn x y key sv ao h hmu hdn hg hbd hmet hpow
  exact step_none hp p sp gp bV bT bH lp bD bN m n kp mp c T fst s l d cv uv cs us R g w kd sq nn txn x y key sv ao h hmu hdn hg hbd hmet hpow h2 h3 (fun e => h7 (.inl e)) (fun e => h7 (.inr (.inl e))) (fun e => h7 (.inr (.inr e))) h10 h11 h12
end
theorem One.mu0 {l : ALog} {d : ADisk} (h : One l d []) : Mu l d 0 [] := by
  rcases h.file with ⟨_, sg, fi, no⟩ | ⟨ne, _⟩
  · refine { ok := { fail := h.failed, segs := by rw [sg]; rfl, recs := by rw [h.recs]; rfl, next := by rw [h.next]; rfl, nums := by simp, ne := by simp, size := by simp, none := fun _ => fi, fill := by simp, files := by rw [sg]; simp }, now := ?_, con := by unfold ADisk.Con; rw [h.pen, h.dur]; rfl, dur := Nat.le_of_eq h.durN, fine := by simp }
    funext k
    rw [no]; rfl
  · exact absurd rfl ne
theorem sort_nil : sortV [] = [] := by unfold sortV sortK; simp
theorem Gd.first : Gd 0 0 sh0 ⟨[], []⟩ where
  rel := { asc := by unfold Asc; simp, table := sort_nil.symm, txns := fun _ => rfl, holds := fun _ _ => rfl, ok := by simp, len := by simp, o1 := by unfold Once1; simp, o2 := by unfold Once1; simp }
  ticks := Nat.le_refl _
  table := by simp
  ops := by simp
  keys := by simp
  ages := by simp
section
variable [Inhabited Bs] {w w' w2 : World} {hp p sp gp bV bT bH lp bD bN m n kp mp mr : Nat} {s : AShard} {l : ALog} {d : ADisk} {cv uv : Value} {cs : List Value} {us : List Nat} {R : RSh}
/-- a step of the law's own has turned -/
theorem KIy.step (h : KIy w hp p sp gp bV bT bH lp bD bN m n s l d kp mp mr cv uv cs us R) {q : Nat} {c : Array Value} (hf : Fr [q] w w') (hq : w.heap[q]? = some (.cells c 64 (0, 0))) : KIy w' hp p sp gp bV bT bH lp bD bN m n s l d kp mp mr cv uv cs us R := by
  have hne : kp ∉ [q] := fun hm => by simp at hm; subst hm; exact cells_ne (by decide) (h.kb.symm.trans hq)
  refine h.law hf (fun k hk _ => ?_) ((hf.block kp (Array.getElem?_eq_some_iff.1 h.kb).1 hne).trans h.kb) (h.ref.frS hf fun k hk c2 t hc => ?_) (ownsRow_fr h.cands hf fun g hg hm => ?_) (ownsRow_fr h.used hf fun g hg hm => ?_) (fun g hg => .inl hg)
  · simp at hk; subst hk
    exact h.host.lw hq (by decide) (by decide) (by decide) (by decide) (by decide) (by decide) (by decide) (by decide) (by decide)
  · simp at hk; subst hk
    rw [hq] at hc; cases hc; decide
  · simp at hm; subst hm
    exact own_ne h.cands hq (by decide) hg
  · simp at hm; subst hm
    exact own_ne h.used hq (by decide) hg
theorem KIy.sick (h : KIy w hp p sp gp bV bT bH lp bD bN m n s l d kp mp mr cv uv cs us R) : KIy (w.setCell ⟨kp, 3, none⟩ (.bool false)) hp p sp gp bV bT bH lp bD bN m n s l d kp mp mr cv uv cs us R ∧ LFr w (w.setCell ⟨kp, 3, none⟩ (.bool false)) := by
  have hf : Fr [kp] w (w.setCell ⟨kp, 3, none⟩ (.bool false)) := Fr.set1 (by simp) _ _
  refine ⟨h.law hf (fun k hk _ => by simp at hk; subst hk; exact h.kpw) ?_ (h.ref.frS hf fun k hk c t hc => ?_) (ownsRow_set h.cands h.kb (by decide)) (ownsRow_set h.used h.kb (by decide)) (fun g hg => .inl hg), LFr.of_fr hf h.size fun k hk => ?_⟩
  · have := blk_set h.kb 3 (.bool false)
    simpa using this
  · simp at hk
    subst hk
    rw [h.kb] at hc
    cases hc
    decide
  · simp at hk
    subst hk
    exact ⟨h.low, fun c e => cells_ne (by decide) (h.kb.symm.trans e)⟩
/-- between two steps -/
def KQ (w0 w : World) (hp kp c : Nat) : Prop := ∃ (p sp gp bV bT bH lp bD bN m n : Nat) (s : AShard) (l : ALog) (d : ADisk) (fst mp : Nat) (g : List (List Rec)) (cv uv : Value) (cs : List Value) (us : List Nat) (R : RSh), KIn w hp p sp gp bV bT bH lp bD bN m n s l d kp mp cv uv cs us R ∧ Mu l d fst g ∧ d.down = false ∧ m ≤ 16 * c ∧ n ≤ 10 + 3 * c ∧ cs.length ≤ c + 1 ∧ us.length ≤ c ∧ Gd c (20 * c) s R ∧ Below B0 w0 w
end
end Go.Proofs.YtejiankgafjppaaGreatDoor
