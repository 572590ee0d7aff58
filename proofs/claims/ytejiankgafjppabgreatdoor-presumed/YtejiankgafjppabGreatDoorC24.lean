import Derived.Test.YtejiankgafjppabGreatDoorC10
import Derived.Test.YtejiankgafjppabGreatDoorC23
import Derived.Test.YtejiankgafjppabGreatDoorC21
import Derived.Test.YtejiankgafjppabGreatDoorC22
import Derived.Test.YtejiankgafjppabGreatDoorC19
import Derived.Deep.RegionHeld3
import Derived.Test.YtejiankgafjppabGreatDoorC02
import Derived.Test.YtejiankgafjppabGreatDoorC01
import Derived.Test.YtejiankgafjppabGreatDoorC06
import Derived.Lib.AppendStr
/- (*disk).up: what is durable is what is there. -/
namespace Go.Proofs.YtejiankgafjppabGreatDoor
open Go.RowKit Go.Maps

def ADisk.up (d : ADisk) : ADisk := { d with now := d.durable, pending := [], down := false }
set_option maxRecDepth 100000 in
set_option maxHeartbeats 2000000 in
theorem up_any (B p bD n nD : Nat) (pv nv : Value) (d : ADisk) (w : World) (hblk : w.heap[p]? = some (.cells #[.map (some bD), nv, pv, .int .i64 d.left, .int .i64 d.full, .bool d.down] 100)) (hB : B ≤ p ∧ B ≤ bD ∧ B ≤ w.heap.size) (hdur : FileMap w bD nD d.durable) (hn : nD ≤ n) (hn2 : n ≤ 67108864) (hle : d.durable.Le (nD * 4096)) :
    Calls Tryz.prog 51 #[.pointer (some ⟨p, 0, none⟩)] w fun e w' => e = .returned (.tuple #[]) ∧ DiskIn w' B p bD w.heap.size (.slice none 0 0) d.up n nD nD ∧ Fr [p] w w' := by
  have hmm := @run_makeMap Tryz.prog
  have c0 := blk_cell hblk 0
  have c1 := blk_cell hblk 1
  have c2 := blk_cell hblk 2
  have c5 := blk_cell hblk 5
  have f1 := blk_free hblk 1
  have f2 := blk_free hblk 2
  have f5 := blk_free hblk 5
  simp at c0 c1 c2 c5
  have hpl : p < w.heap.size := (Array.getElem?_eq_some_iff.1 hblk).1
  have hbl := hdur.lt
  have hpne : bD ≠ p := hdur.ne_cells hblk
  obtain ⟨D, hown, h5⟩ := hdur
  have H5 : Hid (∀ k : ByteArray, (d.durable k = none → Maps.has D (keyL k) = false) ∧ (∀ t, d.durable k = some t → Maps.has D (keyL k) = true ∧ k.size ≤ maxLen ∧ ∃ q : Nat, (∀ z, D.atKey (keyL k) z = .lit (.int .i64 (q : Int))) ∧ w.heap[q]? = some (textO t))) := h5
  clear h5
  have hsz := hown.size_le
  have HB : Hid (w.heap[p]? = some (.cells #[.map (some bD), nv, pv, .int .i64 d.left, .int .i64 d.full, .bool d.down] 100)) := hblk
  clear hblk
  have hpa1 : (w.alloc (.map #[] 0)).cell? ⟨p, 1, none⟩ = some nv := (World.cell?_of_block (a := ⟨p, 1, none⟩) (Below.heap_alloc w _ p hpl)).trans c1
  have hpa2 : (w.alloc (.map #[] 0)).frozen? ⟨p, 1, none⟩ = false := (World.frozen?_of_block (a := ⟨p, 1, none⟩) (Below.heap_alloc w _ p hpl)).trans f1
  obtain ⟨W1, hW1⟩ : ∃ W1, W1 = (w.setCell ⟨p, 1, none⟩ (.map (some w.heap.size))).alloc (.map #[] 0) := ⟨_, rfl⟩
  have hss : (w.setCell ⟨p, 1, none⟩ (.map (some w.heap.size))).heap.size = w.heap.size := by simp
  have hblk1 : W1.heap[p]? = some (.cells #[.map (some bD), .map (some w.heap.size), pv, .int .i64 d.left, .int .i64 d.full, .bool d.down] 100) := by
    have := blk_set HB.out 1 (.map (some w.heap.size))
    rw [hW1, Below.heap_alloc _ _ p (by rw [hss]; exact hpl)]; simpa using this
  have hfr1 : Fr [p] w W1 := by rw [hW1]; exact ((Fr.refl [p] w).setCell (Or.inl (by simp)) _).alloc _
  have hs1 : W1.heap.size = w.heap.size + 1 := by rw [hW1]; simp
  have hownW : W1.ownsMap Tryz.prog 9 ptrElem bD nD D := by rw [hW1]; exact (hown.setCell hpne _).alloc _
  have houtW : W1.ownsMap (H := Unit) Tryz.prog 9 ptrElem w.heap.size 0 (.map []) := by
    have := World.ownsMap_made (H := Unit) (w.setCell ⟨p, 1, none⟩ (.map (some w.heap.size))) Tryz.prog 9 ptrElem
    rw [hss] at this
    rw [hW1]; exact this
  have d0 := blk_cell hblk1 0
  simp at d0
  go_enter Tryz.func51, Tryz.ntmps51
  go_wp2_with (first
    | (at_range; rw [← hW1]; refine wpList_range_own _ rfl _ 97 rfl 9 101 Tryz.lawS Tryz.underlying97 ptrElem bD nD D rfl hownW ?_; intro w0 hrg0 hg0 hs0)
    | go_in)
  go_frame
  clear hW1
  have HB1 : Hid (W1.heap[p]? = some (.cells #[.map (some bD), .map (some w.heap.size), pv, .int .i64 d.left, .int .i64 d.full, .bool d.down] 100)) := hblk1
  clear hblk1
  rw [hs1] at hrg0 hs0 ⊢
  go_loopw [2] (fun _ wr => ∃ (left : Lit → Bool) (cnt : Nat) (Dout : DataW Unit), wr.ranges Tryz.prog 9 ptrElem bD (w.heap.size + 1) nD D left cnt ∧ cnt ≤ Maps.size D ∧
      wr.ownsMap Tryz.prog 9 ptrElem w.heap.size (Maps.size D - cnt) Dout ∧ Agree Dout D left ∧ Fr [w.heap.size, w.heap.size + 1] W1 wr)
    (fun _ wr => wr.rangeLeft bD (w.heap.size + 1))
  case atStart =>
    exact ⟨_, _, .map [], hrg0, Nat.le_refl _, (houtW.kept hg0 (by simp)).mono (Nat.zero_le _), agree_start D, (Fr.of_grown hg0).mono (by simp)⟩
  case round =>
    obtain ⟨left, cnt, Dout, hrg, hcs, hout, hA, hnx⟩ := hrel
    have HNX : Hid (Fr [w.heap.size, w.heap.size + 1] W1 wr) := hnx
    have hzr := hnx.size
    have hpr : wr.heap[p]? = some (.cells #[.map (some bD), .map (some w.heap.size), pv, .int .i64 d.left, .int .i64 d.full, .bool d.down] 100) := (hnx.block p (by omega) (by simp; omega)).trans HB1.out
    have HPR : Hid (wr.heap[p]? = some (.cells #[.map (some bD), .map (some w.heap.size), pv, .int .i64 d.left, .int .i64 d.full, .bool d.down] 100)) := hpr
    have r1 := blk_cell hpr 1
    have r2 := blk_cell hpr 2
    have r5 := blk_cell hpr 5
    have q2 := blk_free hpr 2
    have q5 := blk_free hpr 5
    simp at r1 r2 r5
    clear hnx hpr
    go_wp2_with (first
      | (at_next; refine wpList_next_ranges _ rfl _ rfl 9 Tryz.lawS ptrElem encStr Value.pointer (fun key kl hk => by obtain ⟨x, hx, _⟩ := Maps.keyOf_str Tryz.underlying9 hk; exact ⟨x, hx⟩) (fun v y hv => ptrElem_shape hv) bD (w.heap.size + 1) nD _ _ _ rfl hrg ?_ ?_)
      | go_in)
    · intro hc0 hl0
      go_wp2
      go_end0
      subst hc0
      have hD := agree_end hA hl0 (hout.canon Tryz.lawS) (hown.canon Tryz.lawS)
      subst hD
      obtain ⟨W2, hW2⟩ : ∃ W2, W2 = (wr.setCell ⟨p, 2, none⟩ (.slice none 0 0)).setCell ⟨p, 5, none⟩ (.bool false) := ⟨_, rfl⟩
      rw [← hW2]
      have hf2 : Fr [p] wr W2 := by rw [hW2]; exact (Fr.set1 (by simp) _ _).trans (Fr.set1 (by simp) _ _)
      have hfw : Fr [p] w W2 := (hfr1.andThen HNX.out (by intro j hj hl; simp at hj; omega)).trans hf2
      have hb2 : W2.heap[p]? = some (dskO bD w.heap.size (.slice none 0 0) d.left d.full false) := by
        have := blk_set (blk_set HPR.out 2 (.slice none 0 0)) 5 (.bool false)
        rw [hW2]; simpa using this
      have htx : ∀ (q : Nat) (t : ByteArray), w.heap[q]? = some (textO t) → W2.heap[q]? = some (textO t) := fun q t hq => by
        rw [hfw.block q (Array.getElem?_eq_some_iff.1 hq).1 (by simp; intro e; subst e; rw [HB.out] at hq; cases hq)]; exact hq
      have ho1 : W2.ownsMap Tryz.prog 9 ptrElem bD nD Dout := by
        obtain ⟨es, c, a1, a2⟩ := hrg.owns
        exact ⟨es, c, (hf2.block bD (by omega) (by simp; omega)).trans a1, a2⟩
      have ho2 : W2.ownsMap Tryz.prog 9 ptrElem w.heap.size nD Dout := by
        obtain ⟨es, c, a1, a2⟩ := hout.mono (n' := nD) (by omega)
        exact ⟨es, c, (hf2.block w.heap.size (by omega) (by simp; omega)).trans a1, a2⟩
      have h5 : ∀ k : ByteArray, (d.durable k = none → Maps.has Dout (keyL k) = false) ∧ (∀ t, d.durable k = some t → Maps.has Dout (keyL k) = true ∧ k.size ≤ maxLen ∧ ∃ q : Nat, (∀ z, Dout.atKey (keyL k) z = .lit (.int .i64 (q : Int))) ∧ W2.heap[q]? = some (textO t)) := fun k => by
        obtain ⟨a1, a2⟩ := H5.out k
        refine ⟨a1, fun t ht => ?_⟩
        obtain ⟨b1, b2, q, b3, b4⟩ := a2 t ht
        exact ⟨b1, b2, q, b3, htx q t b4⟩
      refine ⟨rfl, ?_, hfw⟩
      exact { blk := hb2, base := ⟨hB.1, hB.2.1, hB.2.2, by have := hfw.size; omega⟩, ne := by omega, dur := ⟨_, ho1, h5⟩, now := ⟨_, ho2, h5⟩, pen := World.ownsRow_nil _ _ _ _, hD := by simpa [ADisk.up] using hn, hN := hn, hn := hn2, leD := hle, leN := hle, ops := by simp [ADisk.up] }
    · intro x c kl yd yp w2 cnt2 hkey hlk hv hat hrg2 hlt hg2 hs2 hen
      obtain ⟨x', ex, rfl, hxl⟩ := Maps.keyOf_str Tryz.underlying9 hkey
      obtain rfl : x = x' := encStr_inj ex
      have hout1 := hout.kept hg2 (by simp)
      have s1 : w2.cell? ⟨p, 1, none⟩ = some (.map (some w.heap.size)) := (grown_cell hg2 (a := ⟨p, 1, none⟩) (by simp; omega) (by simp; omega)).trans r1
      clear hs2
      go_wp2_with (first
        | (at_mapUpdate; refine wpList_mapUpdate_own _ rfl _ _ _ 97 rfl 9 101 Tryz.lawS Tryz.underlying97 ptrElem w.heap.size _ _ rfl hout1 (by unfold maxLen; omega) _ _ _ rfl rfl hkey _ _ hv ?_; intro w3 hout2 hg3; go_frame)
        | go_in)
      have hrg3 := hrg2.kept hg3 (fun e => by have := Option.some.inj e; omega) (fun e => by have := Option.some.inj e; omega)
      go_roundw
      case rel =>
        exact ⟨_, cnt2, _, hrg3, by omega, hout2.mono (by omega), agree_step hA hout.isMap trivial hat, (HNX.out.trans ((Fr.of_grown1 hg2).mono (by intro k _ hk; simp at hk; simp [hk]))).trans ((Fr.of_grown1 hg3).mono (by intro k _ hk; simp at hk; simp [hk]))⟩
      case measure => rw [hrg3.left_eq, hrg.left_eq]; exact hlt
end Go.Proofs.YtejiankgafjppabGreatDoor
/- HOSTS: Open over nothing. -/
namespace Go.Proofs.YtejiankgafjppabGreatDoor
open Go.RowKit
open Sc

section
variable {w w' : World} {B p bD bN n nD nN : Nat} {pv : Value} {d : ADisk}
theorem DiskIn.geD (h : DiskIn w B p bD bN pv d n nD nN) {k : Nat} (hk : OwnD p w k) : B ≤ k := by
  have := (h.ownD k).1 hk
  simp at this
  rcases this with e | e | e | e
  · rw [e]; exact h.base.1
  · rw [e]; exact h.base.2.1
  · rw [e]; exact h.base.2.2.1
  · exact (h.pen.lt k e).1
theorem DFr.below (hf : DFr p w w') (h : DiskIn w B p bD bN pv d n nD nN) : Below B w w' :=
  ⟨hf.os, hf.tape, hf.output, hf.size, fun k hk => hf.block k (Nat.lt_of_lt_of_le hk h.base.2.2.2) (fun ho => by have := h.geD ho; omega)⟩
end
theorem OFr.below {w w' : World} {B lp p bD bN n nD nN : Nat} {pv sv rv : Value} {l : ALog} {d : ADisk} (hf : OFr lp p w w') (h : LogIn w B lp p bD bN pv sv rv l d n nD nN) : Below B w w' :=
  ⟨hf.os, hf.tape, hf.output, hf.size, fun _ hk => hf.low h hk⟩
/-- a block of another kind was written -/
theorem LogIn.other {w w' : World} {B lp p bD bN n nD nN q : Nat} {pv sv rv : Value} {l : ALog} {d : ADisk} {c : Array Value} {t : TypeId} (h : LogIn w B lp p bD bN pv sv rv l d n nD nN) (hf : Fr [q] w w') (hq : w.heap[q]? = some (.cells c t (0, 0))) (h1 : t ≠ 100) (h2 : t ≠ 150) (h3 : t ≠ 229) (h4 : t ≠ 28) (h5 : t ≠ 288) (h6 : t ≠ 9) : LogIn w' B lp p bD bN pv sv rv l d n nD nN := by
  have ho := h.free hq h1 h2 h3 h4 h5
  rw [h.own] at ho
  simp only [not_or] at ho
  refine h.turned (h.disk.fr hf ?_ ?_ ?_ ?_ ?_) hf ?_ (Nat.le_refl _)
  · simpa using fun e => ho.2.1 e.symm
  · simpa using fun e => ho.2.2.1 e.symm
  · simpa using fun e => ho.2.2.2.1 e.symm
  · intro g hg; simp; intro e; subst e; exact ho.2.2.2.2.1 hg
  · intro r hr x; simp at hr; subst hr; rw [hq]; intro e; cases e; exact h6 rfl
  · intro r hr _; simp at hr; subst hr; exact ⟨ho.1, ho.2.2.2.2.2.1, ho.2.2.2.2.2.2⟩
end Go.Proofs.YtejiankgafjppabGreatDoor
/- A SHARD BESIDE ITS LOG: what turns of the one leaves the other. -/
namespace Go.Proofs.YtejiankgafjppabGreatDoor
open Go.RowKit Go.Maps
open Sc

section
variable {w w' : World} {B lp p bD bN n nD nN : Nat} {pv sv rv : Value} {l : ALog} {d : ADisk}
theorem LogIn.freeMap (h : LogIn w B lp p bD bN pv sv rv l d n nD nN) {b : Nat} (hb : ∃ es c, w.heap[b]? = some (.map es c)) (h1 : b ≠ bD) (h2 : b ≠ bN) : ¬ Own lp p w b := by
  obtain ⟨es, c, hb⟩ := hb
  rw [h.own]
  rintro (e | e | e | e | e | e | e)
  · subst e; rw [h.blk] at hb; cases hb
  · subst e; rw [h.disk.blk] at hb; cases hb
  · exact h1 e
  · exact h2 e
  · obtain ⟨c, hc⟩ := own_cells h.disk.pen e; rw [hc] at hb; cases hb
  · obtain ⟨c, hc⟩ := own_cells h.segs e; rw [hc] at hb; cases hb
  · obtain ⟨c, hc⟩ := own_cells h.recs e; rw [hc] at hb; cases hb
/-- what is not the log's was turned -/
theorem LogIn.apart {S : List Nat} (h : LogIn w B lp p bD bN pv sv rv l d n nD nN) (hf : Fr S w w') (hS : ∀ k ∈ S, k < w.heap.size → ¬ Own lp p w k ∧ ∀ t, w.heap[k]? ≠ some (textO t)) : LogIn w' B lp p bD bN pv sv rv l d n nD nN := by
  have key : ∀ k, k < w.heap.size → Own lp p w k → k ∉ S := fun k hk ho hm => (hS k hm hk).1 ho
  have lt : ∀ k, Own lp p w k → k < w.heap.size := fun k ho => by
    rcases (h.own k).1 ho with e | e | e | e | e | e | e
    · rw [e]; exact (Array.getElem?_eq_some_iff.1 h.blk).1
    · rw [e]; exact (Array.getElem?_eq_some_iff.1 h.disk.blk).1
    · rw [e]; exact h.disk.dur.lt
    · rw [e]; exact h.disk.now.lt
    · exact (h.disk.pen.lt k e).2
    · exact (h.segs.lt k e).2
    · exact (h.recs.lt k e).2
  have no : ∀ k, Own lp p w k → k ∉ S := fun k ho => key k (lt k ho) ho
  have hin : ∀ {k}, (k = lp ∨ k = p ∨ k = bD ∨ k = bN ∨ pv.ownBlock = some k ∨ sv.ownBlock = some k ∨ rv.ownBlock = some k) → k ∉ S := fun {k} hk => no k ((h.own k).2 hk)
  refine h.turned (h.disk.fr hf (hin (by simp)) (hin (by simp)) (hin (by simp)) (fun g hg => hin (by simp [hg])) (fun q hq t => ?_)) hf (fun k hk hl => ?_) (Nat.le_refl _)
  · by_cases hl : q < w.heap.size
    · exact (hS q hq hl).2 t
    · intro e; exact hl (Array.getElem?_eq_some_iff.1 e).1
  · have := (hS k hk hl).1
    rw [h.own] at this
    simp only [not_or] at this
    exact ⟨this.1, this.2.2.2.2.2.1, this.2.2.2.2.2.2⟩
end
/-- a shard and its log lie apart -/
structure ShLog (w : World) (sp gp bV bT bH bD bN lp : Nat) : Prop where
  led : w.heap[gp]? = some (ledO lp)
  ne : bV ≠ bD ∧ bV ≠ bN ∧ bT ≠ bD ∧ bT ≠ bN ∧ bH ≠ bD ∧ bH ≠ bN
section
variable {w w' : World} {B sp gp bV bT bH m lp p bD bN n nD nN : Nat} {pv sv rv : Value} {l : ALog} {d : ADisk} {s : AShard}
theorem ShIn.free (hs : ShIn w sp gp bV bT bH m s) (h : LogIn w B lp p bD bN pv sv rv l d n nD nN) (hx : ShLog w sp gp bV bT bH bD bN lp) : ∀ k ∈ [sp, gp, bV, bT, bH], ¬ Own lp p w k ∧ ∀ t, w.heap[k]? ≠ some (textO t) := by
  intro k hk
  simp at hk
  rcases hk with rfl | rfl | rfl | rfl | rfl
  · exact ⟨h.free hs.blk (by decide) (by decide) (by decide) (by decide) (by decide), fun t e => by rw [hs.blk] at e; cases e⟩
  · exact ⟨h.free hx.led (by decide) (by decide) (by decide) (by decide) (by decide), fun t e => by rw [hx.led] at e; cases e⟩
  · exact ⟨h.freeMap hs.vals.isMap hx.ne.1 hx.ne.2.1, fun t e => by obtain ⟨es, c, e2⟩ := hs.vals.isMap; rw [e2] at e; cases e⟩
  · exact ⟨h.freeMap hs.txns.isMap hx.ne.2.2.1 hx.ne.2.2.2.1, fun t e => by obtain ⟨es, c, e2⟩ := hs.txns.isMap; rw [e2] at e; cases e⟩
  · exact ⟨h.freeMap hs.holds.isMap hx.ne.2.2.2.2.1 hx.ne.2.2.2.2.2, fun t e => by obtain ⟨es, c, e2⟩ := hs.holds.isMap; rw [e2] at e; cases e⟩
/-- the log has turned: the shard is as it was -/
theorem ShIn.ofr (hs : ShIn w sp gp bV bT bH m s) (h : LogIn w B lp p bD bN pv sv rv l d n nD nN) (hx : ShLog w sp gp bV bT bH bD bN lp) (hf : OFr lp p w w') : ShIn w' sp gp bV bT bH m s ∧ ShLog w' sp gp bV bT bH bD bN lp := by
  have hfree := hs.free h hx
  have mv : ∀ {K V : Type} [DecidableEq K] {kt : TypeId} {KR : KeyRep Tryz.prog K kt} {ER : ElRep V} {b k : Nat} {L : List (K × V)}, MapAs KR ER w b k L → b ∈ [sp, gp, bV, bT, bH] → MapAs KR ER w' b k L := by
    intro K V _ kt KR ER b k L hM hb
    have hlt := hM.lt
    obtain ⟨es, ⟨es', c, h1, h2⟩, r⟩ := hM
    exact ⟨es, ⟨es', c, (hf.block b hlt (hfree b hb).1).trans h1, h2⟩, r⟩
  exact ⟨{ blk := (hf.block sp hs.lts.1 (hfree sp (by simp)).1).trans hs.blk, vals := mv hs.vals (by simp), txns := mv hs.txns (by simp), holds := mv hs.holds (by simp), ne := hs.ne, ticks := hs.ticks },
    { led := (hf.block gp (Array.getElem?_eq_some_iff.1 hx.led).1 (hfree gp (by simp)).1).trans hx.led, ne := hx.ne }⟩
/-- the shard has turned: the log is as it was -/
theorem LogIn.shard {S : List Nat} (h : LogIn w B lp p bD bN pv sv rv l d n nD nN) (hs : ShIn w sp gp bV bT bH m s) (hx : ShLog w sp gp bV bT bH bD bN lp) (hf : Fr S w w') (hS : ∀ k ∈ S, k ∈ [sp, bV, bT, bH]) : LogIn w' B lp p bD bN pv sv rv l d n nD nN ∧ ShLog w' sp gp bV bT bH bD bN lp := by
  have hfree := hs.free h hx
  have sub : ∀ k ∈ S, k ∈ [sp, gp, bV, bT, bH] := fun k hk => by have := hS k hk; simp at this ⊢; rcases this with e | e | e | e <;> simp [e]
  refine ⟨h.apart hf (fun k hk _ => hfree k (sub k hk)), { led := (hf.block gp (Array.getElem?_eq_some_iff.1 hx.led).1 (fun hm => ?_)).trans hx.led, ne := hx.ne }⟩
  have := hS gp hm
  simp at this
  have hled := hx.led
  rcases this with e | e | e | e
  · rw [e, hs.blk] at hled; simp at hled
  · obtain ⟨es, c, e2⟩ := hs.vals.isMap; rw [e, e2] at hled; cases hled
  · obtain ⟨es, c, e2⟩ := hs.txns.isMap; rw [e, e2] at hled; cases hled
  · obtain ⟨es, c, e2⟩ := hs.holds.isMap; rw [e, e2] at hled; cases hled
end
end Go.Proofs.YtejiankgafjppabGreatDoor
/- SHARDS: anyWrites. -/
namespace Go.Proofs.YtejiankgafjppabGreatDoor
open Go.RowKit Go.Maps
open Sc

def anyW (L : List (ByteArray × AGrip)) : Bool := L.any fun p => p.2.writes
end Go.Proofs.YtejiankgafjppabGreatDoor
/- SHARDS: release, forget. -/
namespace Go.Proofs.YtejiankgafjppabGreatDoor
open Go.RowKit Go.Maps
open Sc

/-- does a transaction that is known hold it? -/
def aliveH (s : AShard) (p : (Nat × ByteArray) × AGrip) : Bool := !decide ((s.txn p.1.1).state = 0)
end Go.Proofs.YtejiankgafjppabGreatDoor
/- SHARDS: release, forget. -/
namespace Go.Proofs.YtejiankgafjppabGreatDoor
open Go.RowKit Go.Maps
open Sc

def AShard.release (s : AShard) : AShard := { s with holds := s.holds.filter (aliveH s) }
def AShard.forget (s : AShard) (t : Nat) : AShard := AShard.release { s with txns := alDel s.txns t }
theorem ShIn.setTxns {w w' : World} {sp lg bV bT bH n m : Nat} {s : AShard} {ts : List (Nat × ATxn)} (h : ShIn w sp lg bV bT bH n s) (hf : Fr [bT] w w') (hm : MapAs KU ET w' bT m ts) (hn : n ≤ m) : ShIn w' sp lg bV bT bH m { s with txns := ts } :=
  { blk := (hf.block sp h.lts.1 (by simp; exact h.lts.2.2.2.2.2.1)).trans h.blk
    vals := (h.vals.fr hf (by simp; exact h.ne.1)).mono hn
    txns := hm
    holds := (h.holds.fr hf (by simp; exact fun e => h.ne.2.2 e.symm)).mono hn
    ne := h.ne
    ticks := h.ticks }
end Go.Proofs.YtejiankgafjppabGreatDoor
/- SHARDS: Tick. -/
namespace Go.Proofs.YtejiankgafjppabGreatDoor
open Go.RowKit Go.Maps
open Sc

/-- nobody goes on with it -/
def idleT (s : AShard) (x : ATxn) : Bool := !decide (x.state = 3) && decide ((16 : Int) ≤ IntKind.u64.wrap ((s.ticks : Int) - (x.last : Int)))
def busyT (s : AShard) (p : Nat × ATxn) : Bool := !idleT s p.2
/-- a Tick goes by -/
def AShard.tick (s : AShard) : AShard :=
  let s1 : AShard := { s with ticks := s.ticks + 1 }
  AShard.release { s1 with txns := s1.txns.filter (busyT s1) }
end Go.Proofs.YtejiankgafjppabGreatDoor
/- SHARDS: apply. -/
namespace Go.Proofs.YtejiankgafjppabGreatDoor
open Go.RowKit Go.Maps
open Sc

/-- m[k] = v, as an equation on the run -/
theorem MapAs.putRun {K V : Type} [DecidableEq K] {kt t e : TypeId} {KR : KeyRep Tryz.prog K kt} {ER : ElRep V} {w : World} {b n : Nat} {l : List (K × V)} (h : MapAs KR ER w b n l) (ht : Tryz.prog.underlying t = some (.map kt e)) (hn : n < maxLen) {k : K} (hk : KR.ok k) {v : V} (hv : ER.ok v) :
    ∃ w', (Instr.mapUpdate t (.map (some b)) (KR.kv k) (ER.ev v)).run Tryz.prog w = .ok () w' ∧ MapAs KR ER w' b (n + 1) (alPut l k v) ∧ w.grownBy w' (some b) := by
  obtain ⟨es, ho, hp, h1, hok⟩ := h
  obtain ⟨w', hr, ho', htr⟩ := ho.store KR.law ht hn (KR.key k hk) (ER.made v hv)
  exact ⟨w', hr, MapAs.ofPut hp h1 hok hk hv ho', htr.grown⟩
/-- what a key has behind a hold -/
def gripped (g : Option AGrip) (old : Option ByteArray) : Option ByteArray :=
  match g with
  | none => old
  | some g => if g.way = 1 then some g.val else if g.way = 2 then none else old
end Go.Proofs.YtejiankgafjppabGreatDoor
/- SHARDS: refusal. -/
namespace Go.Proofs.YtejiankgafjppabGreatDoor
open Go.RowKit Go.Maps
open Sc

theorem ShIn.lenT {w : World} {sp lg bV bT bH n : Nat} {s : AShard} (h : ShIn w sp lg bV bT bH n s) (ty : TypeId) : (Builtin.len_ #[133] ty #[.map (some bT)]).run Tryz.prog w = .ok (.int .i64 (s.txns.length : Int)) w :=
  h.txns.lenRun Tryz.underlying133 ty
/-- the first errors, those that need not look at what is held -/
def AShard.refuse1 (s : AShard) (t : Nat) (seq : Int) (k v : ByteArray) : Nat :=
  if t = 0 then 7 else if k.size < 1 ∨ 16 < k.size ∨ 32 < v.size then 1 else if (s.txn t).state = 3 ∨ seq ≠ ((s.txn t).done : Int) then 4 else if (s.txn t).state = 2 then 3 else if (s.txn t).state = 0 ∧ 12 ≤ s.txns.length then 5 else 0
end Go.Proofs.YtejiankgafjppabGreatDoor
/- SHARDS: refusal, whole. -/
namespace Go.Proofs.YtejiankgafjppabGreatDoor
open Go.RowKit Go.Maps
open Sc

/-- how many keys a transaction holds -/
def AShard.count (s : AShard) (t : Nat) : Nat := (s.holds.filter fun p => decide (p.1.1 = t)).length
/-- the last error: a fifth key -/
def AShard.refuse2 (s : AShard) (t : Nat) (k : ByteArray) : Nat := if (alLook s.holds (t, k)).isSome = false ∧ 4 ≤ s.count t then 5 else 0
end Go.Proofs.YtejiankgafjppabGreatDoor
/- SHARDS: operate. -/
namespace Go.Proofs.YtejiankgafjppabGreatDoor
open Go.RowKit Go.Maps
open Sc

/-- what an operation says -/
def AShard.refuse (s : AShard) (t : Nat) (seq : Int) (k v : ByteArray) : Nat := if s.refuse1 t seq k v = 0 then s.refuse2 t k else s.refuse1 t seq k v
/-- an operation: what is left, and what it says -/
def AShard.operate (s : AShard) (t : Nat) (seq : Int) (k : ByteArray) (g : AGrip) : AShard × Nat :=
  if s.refuse t seq k g.val = 0 then
    if s.clash t k g.writes = true then ({ s with txns := alPut s.txns t ⟨2, (s.txn t).done, s.ticks⟩ }, 3)
    else (({ s with txns := alPut s.txns t ⟨1, (s.txn t).done + 1, s.ticks⟩ } : AShard).take t k g, 0)
  else (s, s.refuse t seq k g.val)
end Go.Proofs.YtejiankgafjppabGreatDoor
/- SHARDS: Get, Put, Delete. -/
namespace Go.Proofs.YtejiankgafjppabGreatDoor
open Go.RowKit Go.Maps
open Sc

section
variable (sp lg bV bT bH n t : Nat) (seq : Int) (k : ByteArray) (s : AShard) (w : World)
end
/-- what Get leaves, and says -/
def AShard.get (s : AShard) (t : Nat) (seq : Int) (k : ByteArray) : AShard × ByteArray × Bool × Nat :=
  if (s.operate t seq k ⟨0, ByteArray.empty⟩).2 = 0 then
    if ((s.operate t seq k ⟨0, ByteArray.empty⟩).1.grip t k).writes = true then ((s.operate t seq k ⟨0, ByteArray.empty⟩).1, ((s.operate t seq k ⟨0, ByteArray.empty⟩).1.grip t k).val, decide (((s.operate t seq k ⟨0, ByteArray.empty⟩).1.grip t k).way = 1), 0)
    else ((s.operate t seq k ⟨0, ByteArray.empty⟩).1, (alLook (s.operate t seq k ⟨0, ByteArray.empty⟩).1.vals k).getD ByteArray.empty, (alLook (s.operate t seq k ⟨0, ByteArray.empty⟩).1.vals k).isSome, 0)
  else ((s.operate t seq k ⟨0, ByteArray.empty⟩).1, ByteArray.empty, false, (s.operate t seq k ⟨0, ByteArray.empty⟩).2)
end Go.Proofs.YtejiankgafjppabGreatDoor
/- NUMBERS AS BYTES in package wire, whatever room there is. (Written by mkappn.py.) -/
namespace Go.Proofs.YtejiankgafjppabGreatDoor
open Go.RowKit
open Sc

/-- nothing has turned but blocks of one type, and new ones -/
structure TFr (t : TypeId) (w w' : World) : Prop where
  os : w'.os = w.os
  tape : w'.tape = w.tape
  output : w'.output = w.output
  size : w.heap.size ≤ w'.heap.size
  block : ∀ k, k < w.heap.size → (∀ c, w.heap[k]? ≠ some (.cells c t (0, 0))) → w'.heap[k]? = w.heap[k]?
theorem TFr.refl (t : TypeId) (w : World) : TFr t w w := ⟨rfl, rfl, rfl, Nat.le_refl _, fun _ _ _ => rfl⟩
theorem TFr.trans {t : TypeId} {a b c : World} (h : TFr t a b) (k : TFr t b c) : TFr t a c :=
  ⟨k.os.trans h.os, k.tape.trans h.tape, k.output.trans h.output, Nat.le_trans h.size k.size,
    fun i hi hn => (k.block i (Nat.lt_of_lt_of_le hi h.size) (fun c e => hn c ((h.block i hi hn).symm.trans e))).trans (h.block i hi hn)⟩
theorem TFr.alloc {t : TypeId} {a w : World} (h : TFr t a w) (o : Obj) : TFr t a (w.alloc o) :=
  ⟨h.os, h.tape, h.output, Nat.le_trans h.size (by simp), fun k hk hn => (Below.heap_alloc w o k (Nat.lt_of_lt_of_le hk h.size)).trans (h.block k hk hn)⟩
theorem TFr.grown {t : TypeId} {a b c : World} {r : Option Nat} (h : TFr t a b) (hg : b.grownBy c r) (hr : ∀ q, r = some q → ∃ x, b.heap[q]? = some (.cells x t (0, 0))) : TFr t a c :=
  h.trans ⟨hg.os, hg.tape, hg.output, hg.size, fun k hk hn => hg.block k hk (fun e => by obtain ⟨x, hx⟩ := hr k e.symm; exact hn x hx)⟩

set_option maxRecDepth 100000 in
set_option maxHeartbeats 400000 in
theorem grow_u64 (base : Nat) (v : Value) (xs : List Nat) (n m : Nat) (w : World) (hown : w.ownsRow base 5 1 v m (bs xs)) (hn : n < 18446744073709551616) (hm : m ≤ 1099511627776) (hbase : base ≤ w.heap.size) :
    Calls Tryz.prog 131 #[v, .int .u64 n] w fun e w' => ∃ v', e = .returned v' ∧ w'.ownsRow base 5 1 v' (m + 8) (bs (xs ++ be 8 n)) ∧ Below base w w' ∧ TFr 5 w w' := by
  obtain ⟨i0, hi, hz0, hz1, hz2⟩ := info_parts Tryz.info5
  have HNN : Hid (n < 18446744073709551616) := hn
  clear hn
  go_enter Tryz.func131, Tryz.ntmps131
  go_wp2_with (go_at_call 179; refine (width_u64 _).mono ?_; rintro e w' ⟨rfl, hw⟩; have hw2 := hw.symm; subst hw2; clear hw)
  go_loopw [0, 5] (fun v i wr => ∃ j : Nat, j ≤ 8 ∧ i = .int .i64 ((8 : Int) - 1 - j) ∧ wr.ownsRow base 5 1 v (m + j) (bs (xs ++ (List.range j).map (digit 8 n))) ∧ Below base w wr ∧ TFr 5 w wr) (fun _ i _ => (intOf i + 1).toNat)
  case atStart => exact ⟨0, Nat.zero_le _, by go_num, by simpa using hown, Below.refl _ _, TFr.refl _ _⟩
  case round =>
    obtain ⟨j, hj, rfl, hownr, hbel, htf⟩ := hrel
    by_cases hlt : j < 8
    · have HD : Hid (((n : Int) / 2 ^ (8 * (7 - j)) % 256) = ((digit 8 n j : Nat) : Int)) := digit_int n 8 j
      go_wp2_with (at_builtin; refine wpList_append_own _ rfl _ _ 29 rfl base 5 i0 (.int .u8 0) 1 1 Tryz.underlying29 hi hz0 hz1 hz2 rfl (by decide) _ _ _ rfl (hownr.alloc _) ⟨wr.heap.size, 0, none⟩ 1 1 [.int .u8 ((n : Int) / 2 ^ (8 * (7 - j)) % 256)] rfl rfl ?c1 ?c2 ?c3 ?c4 ?c5 ?_)
      case c1 =>
        intro jj u hjj
        match jj, hjj with
        | 0, hjj => simp at hjj; subst hjj; simp [Addr.add]
      case c2 => intro u hu; simp at hu; subst hu; rfl
      case c3 => unfold maxLen; omega
      case c4 => omega
      case c5 => have := hbel.size; simp; omega
      · intro v' w1 hown' hgrow _
        have hs1 := hbel.size
        have hB1 : Below base w w1 := Below.grown (hbel.alloc (by omega) _) hgrow (by simp; omega) (fun q hq => (hownr.lt q hq).1)
        have hT1 : TFr 5 w w1 := (htf.alloc _).grown hgrow (fun q hq => own_cells (hownr.alloc _) hq)
        have hO1 : w1.ownsRow base 5 1 v' (m + (j + 1)) (bs (xs ++ (List.range (j + 1)).map (digit 8 n))) := by
          rw [HD.out] at hown'
          rw [bs_snoc, ← Nat.add_assoc]
          exact hown'
        clear hown' hgrow hownr hbel htf
        go_wp2
        go_roundw
        case rel => exact ⟨j + 1, by omega, int_eq (by omega), hO1, hB1, hT1⟩
        case measure => simp [intOf] <;> omega
    · have ek : j = 8 := by omega
      subst ek
      go_wp2
      go_ret
      exact ⟨_, rfl, hownr, hbel, htf⟩
set_option maxRecDepth 100000 in
set_option maxHeartbeats 400000 in
theorem grow_u8 (base : Nat) (v : Value) (xs : List Nat) (n m : Nat) (w : World) (hown : w.ownsRow base 5 1 v m (bs xs)) (hn : n < 256) (hm : m ≤ 1099511627776) (hbase : base ≤ w.heap.size) :
    Calls Tryz.prog 174 #[v, .int .u8 n] w fun e w' => ∃ v', e = .returned v' ∧ w'.ownsRow base 5 1 v' (m + 1) (bs (xs ++ be 1 n)) ∧ Below base w w' ∧ TFr 5 w w' := by
  obtain ⟨i0, hi, hz0, hz1, hz2⟩ := info_parts Tryz.info5
  have HNN : Hid (n < 256) := hn
  go_enter Tryz.func174, Tryz.ntmps174
  go_wp2_with (go_at_call 227; refine (width_u8 _).mono ?_; rintro e w' ⟨rfl, hw⟩; have hw2 := hw.symm; subst hw2; clear hw)
  go_loopw [0, 5] (fun v i wr => ∃ j : Nat, j ≤ 1 ∧ i = .int .i64 ((1 : Int) - 1 - j) ∧ wr.ownsRow base 5 1 v (m + j) (bs (xs ++ (List.range j).map (digit 1 n))) ∧ Below base w wr ∧ TFr 5 w wr) (fun _ i _ => (intOf i + 1).toNat)
  case atStart => exact ⟨0, Nat.zero_le _, by go_num, by simpa using hown, Below.refl _ _, TFr.refl _ _⟩
  case round =>
    obtain ⟨j, hj, rfl, hownr, hbel, htf⟩ := hrel
    by_cases hlt : j < 1
    · have HD : Hid ((n : Int) = ((digit 1 n 0 : Nat) : Int)) := by show _ = _; unfold digit; simp; omega
      obtain rfl : j = 0 := by omega
      rw [Nat.add_zero] at hownr
      go_wp2_with (at_builtin; refine wpList_append_own _ rfl _ _ 29 rfl base 5 i0 (.int .u8 0) 1 1 Tryz.underlying29 hi hz0 hz1 hz2 rfl (by decide) _ _ _ rfl (hownr.alloc _) ⟨wr.heap.size, 0, none⟩ 1 1 [.int .u8 (n : Int)] rfl rfl ?c1 ?c2 ?c3 ?c4 ?c5 ?_)
      case c1 =>
        intro jj u hjj
        match jj, hjj with
        | 0, hjj => simp at hjj; subst hjj; simp [Addr.add]
      case c2 => intro u hu; simp at hu; subst hu; rfl
      case c3 => unfold maxLen; omega
      case c4 => omega
      case c5 => have := hbel.size; simp; omega
      · intro v' w1 hown' hgrow _
        have hs1 := hbel.size
        have hB1 : Below base w w1 := Below.grown (hbel.alloc (by omega) _) hgrow (by simp; omega) (fun q hq => (hownr.lt q hq).1)
        have hT1 : TFr 5 w w1 := (htf.alloc _).grown hgrow (fun q hq => own_cells (hownr.alloc _) hq)
        have hO1 : w1.ownsRow base 5 1 v' (m + (0 + 1)) (bs (xs ++ (List.range (0 + 1)).map (digit 1 n))) := by
          rw [HD.out] at hown'
          rw [bs_snoc, ← Nat.add_assoc]
          simpa using hown'
        clear hown' hgrow hownr hbel htf
        go_wp2
        go_roundw
        case rel => exact ⟨0 + 1, by omega, int_eq (by omega), hO1, hB1, hT1⟩
        case measure => simp [intOf] <;> omega
    · have ek : j = 1 := by omega
      subst ek
      go_wp2
      go_ret
      exact ⟨_, rfl, hownr, hbel, htf⟩
end Go.Proofs.YtejiankgafjppabGreatDoor
/- A SHARD AND ITS LEDGER: Commit, Abort. -/
namespace Go.Proofs.YtejiankgafjppabGreatDoor
open Go.RowKit Go.Maps
open Sc

/-- nothing has turned but what is the shard's or its log's, and new blocks -/
structure SFr (sp bV bT bH lp p : Nat) (w w' : World) : Prop where
  os : w'.os = w.os
  tape : w'.tape = w.tape
  output : w'.output = w.output
  size : w.heap.size ≤ w'.heap.size
  block : ∀ k, k < w.heap.size → ¬ Own lp p w k → k ∉ [sp, bV, bT, bH] → w'.heap[k]? = w.heap[k]?
  stay : ∀ k, k < w.heap.size → Own lp p w' k → Own lp p w k
theorem SFr.trans {sp bV bT bH lp p : Nat} {a b c : World} (h : SFr sp bV bT bH lp p a b) (k : SFr sp bV bT bH lp p b c) : SFr sp bV bT bH lp p a c :=
  ⟨k.os.trans h.os, k.tape.trans h.tape, k.output.trans h.output, Nat.le_trans h.size k.size,
    fun i hi hn hm => (k.block i (Nat.lt_of_lt_of_le hi h.size) (fun ho => hn (h.stay i hi ho)) hm).trans (h.block i hi hn hm),
    fun i hi ho => h.stay i hi (k.stay i (Nat.lt_of_lt_of_le hi h.size) ho)⟩
theorem OFr.s {sp bV bT bH lp p : Nat} {a b : World} (h : OFr lp p a b) : SFr sp bV bT bH lp p a b := ⟨h.os, h.tape, h.output, h.size, fun i hi hn _ => h.block i hi hn, h.stay⟩
/-- a shard, its ledger's log, and its disk -/
structure SL (w : World) (B sp gp bV bT bH m lp p bD bN n : Nat) (s : AShard) (l : ALog) (d : ADisk) : Prop where
  sh : ShIn w sp gp bV bT bH m s
  lg : ∃ pv sv rv nD nN, LogIn w B lp p bD bN pv sv rv l d n nD nN
  ap : ShLog w sp gp bV bT bH bD bN lp
  gp1 : 1 ≤ gp
section
variable {w w' : World} {B sp gp bV bT bH m m' lp p bD bN n n' : Nat} {s s' : AShard} {l l' : ALog} {d d' : ADisk}
theorem SL.turn {S : List Nat} (h : SL w B sp gp bV bT bH m lp p bD bN n s l d) (hs : ShIn w' sp gp bV bT bH m' s') (hf : Fr S w w') (hS : ∀ k ∈ S, k ∈ [sp, bV, bT, bH]) : SL w' B sp gp bV bT bH m' lp p bD bN n s' l d ∧ SFr sp bV bT bH lp p w w' := by
  obtain ⟨pv, sv, rv, nD, nN, hl⟩ := h.lg
  obtain ⟨h1, h2⟩ := hl.shard h.sh h.ap hf hS
  refine ⟨⟨hs, ⟨pv, sv, rv, nD, nN, h1⟩, h2, h.gp1⟩, hf.os, hf.tape, hf.output, hf.size, fun k hk _ hm => hf.block k hk (fun hx => hm (hS k hx)), fun k _ ho => ?_⟩
  rw [hl.own]
  exact (h1.own k).1 ho
theorem SL.new (h : SL w B sp gp bV bT bH m lp p bD bN n s l d) (hf : Fr [] w w') : SL w' B sp gp bV bT bH m lp p bD bN n s l d ∧ SFr sp bV bT bH lp p w w' :=
  h.turn (h.sh.fr hf (by simp) (by simp) (by simp) (by simp)) hf (by simp)
theorem SL.log (h : SL w B sp gp bV bT bH m lp p bD bN n s l d) (hf : OFr lp p w w') (hl : ∃ pv sv rv nD nN, LogIn w' B lp p bD bN pv sv rv l' d' n' nD nN) : SL w' B sp gp bV bT bH m lp p bD bN n' s l' d' ∧ SFr sp bV bT bH lp p w w' := by
  obtain ⟨pv, sv, rv, nD, nN, h1⟩ := h.lg
  obtain ⟨a, b⟩ := h.sh.ofr h1 h.ap hf
  exact ⟨⟨a, hl, b, h.gp1⟩, hf.s⟩
theorem SL.pows (h : SL w B sp gp bV bT bH m lp p bD bN n s l d) (hf : SFr sp bV bT bH lp p w w') (hB : 2 ≤ B) (hs : B ≤ sp ∧ B ≤ bV ∧ B ≤ bT ∧ B ≤ bH) (hp : Pows w) : Pows w' := by
  obtain ⟨pv, sv, rv, nD, nN, hl⟩ := h.lg
  exact hp.of_block (hf.block 1 (by have := hl.disk.base.2.2.2; omega) (fun ho => by have := hl.ge ho; omega) (by simp; omega))
end
/-- what Commit of one that is prepared leaves -/
def Committed (s s' : AShard) (t : Nat) : Prop := ∃ vs, s' = AShard.forget { s with vals := vs } t ∧ ∀ k, alLook vs k = gripped (alLook s.holds (t, k)) (alLook s.vals k)
section
variable (B sp gp bV bT bH m lp p bD bN n t c : Nat) (s : AShard) (l : ALog) (d : ADisk) (w : World)
end
end Go.Proofs.YtejiankgafjppabGreatDoor
