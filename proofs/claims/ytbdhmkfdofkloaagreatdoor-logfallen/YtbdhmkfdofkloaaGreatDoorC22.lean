import Derived.Test.YtbdhmkfdofkloaaGreatDoorC08
import Derived.Test.YtbdhmkfdofkloaaGreatDoorC21
import Derived.Test.YtbdhmkfdofkloaaGreatDoorC05
import Derived.Test.YtbdhmkfdofkloaaGreatDoorC06
import Derived.Test.YtbdhmkfdofkloaaGreatDoorC15
import Derived.BigQuiet
import Derived.Sort.AssemblyPlain
/- (*disk).up: what is durable is what is there. -/
namespace Go.Proofs.YtbdhmkfdofkloaaGreatDoor
open Go.RowKit Go.Maps

def ADisk.up (d : ADisk) : ADisk := { d with now := d.durable, pending := [], down := false }
set_option maxRecDepth 100000 in
set_option maxHeartbeats 2000000 in
theorem up_any (B p bD n nD : Nat) (pv nv : Value) (d : ADisk) (w : World) (hblk : w.heap[p]? = some (.cells #[.map (some bD), nv, pv, .int .i64 d.left, .int .i64 d.full, .bool d.down] 57)) (hB : B ≤ p ∧ B ≤ bD ∧ B ≤ w.heap.size) (hdur : FileMap w bD nD d.durable) (hn : nD ≤ n) (hn2 : n ≤ 1000000000) (hle : d.durable.Le (nD * 4096)) :
    Calls Tryz.prog 19 #[.pointer (some ⟨p, 0, none⟩)] w fun e w' => e = .returned (.tuple #[]) ∧ DiskIn w' B p bD w.heap.size (.slice none 0 0) d.up n nD nD ∧ Fr [p] w w' := by
  have hmm := @run_makeMap Tryz.prog
  have c0 := blk_cell hblk 0
  have c1 := blk_cell hblk 1
  have c2 := blk_cell hblk 2
  have c5 := blk_cell hblk 5
  have f1 := blk_free hblk 1
  have f2 := blk_free hblk 2
  have f5 := blk_free hblk 5
  simp at c0 c1 c2 c5
  have hpl : p < w.heap.size := (Array.getElem?_eq_some_iff.1 hblk).1
  have hbl := hdur.lt
  have hpne : bD ≠ p := hdur.ne_cells hblk
  obtain ⟨D, hown, h5⟩ := hdur
  have H5 : Hid (∀ k : ByteArray, (d.durable k = none → Maps.has D (keyL k) = false) ∧ (∀ t, d.durable k = some t → Maps.has D (keyL k) = true ∧ k.size ≤ maxLen ∧ ∃ q : Nat, (∀ z, D.atKey (keyL k) z = .lit (.int .i64 (q : Int))) ∧ w.heap[q]? = some (textO t))) := h5
  clear h5
  have hsz := hown.size_le
  have HB : Hid (w.heap[p]? = some (.cells #[.map (some bD), nv, pv, .int .i64 d.left, .int .i64 d.full, .bool d.down] 57)) := hblk
  clear hblk
  have hpa1 : (w.alloc (.map #[] 0)).cell? ⟨p, 1, none⟩ = some nv := (World.cell?_of_block (a := ⟨p, 1, none⟩) (Below.heap_alloc w _ p hpl)).trans c1
  have hpa2 : (w.alloc (.map #[] 0)).frozen? ⟨p, 1, none⟩ = false := (World.frozen?_of_block (a := ⟨p, 1, none⟩) (Below.heap_alloc w _ p hpl)).trans f1
  obtain ⟨W1, hW1⟩ : ∃ W1, W1 = (w.setCell ⟨p, 1, none⟩ (.map (some w.heap.size))).alloc (.map #[] 0) := ⟨_, rfl⟩
  have hss : (w.setCell ⟨p, 1, none⟩ (.map (some w.heap.size))).heap.size = w.heap.size := by simp
  have hblk1 : W1.heap[p]? = some (.cells #[.map (some bD), .map (some w.heap.size), pv, .int .i64 d.left, .int .i64 d.full, .bool d.down] 57) := by
    have := blk_set HB.out 1 (.map (some w.heap.size))
    rw [hW1, Below.heap_alloc _ _ p (by rw [hss]; exact hpl)]; simpa using this
  have hfr1 : Fr [p] w W1 := by rw [hW1]; exact ((Fr.refl [p] w).setCell (Or.inl (by simp)) _).alloc _
  have hs1 : W1.heap.size = w.heap.size + 1 := by rw [hW1]; simp
  have hownW : W1.ownsMap Tryz.prog 9 ptrElem bD nD D := by rw [hW1]; exact (hown.setCell hpne _).alloc _
  have houtW : W1.ownsMap (H := Unit) Tryz.prog 9 ptrElem w.heap.size 0 (.map []) := by
    have := World.ownsMap_made (H := Unit) (w.setCell ⟨p, 1, none⟩ (.map (some w.heap.size))) Tryz.prog 9 ptrElem
    rw [hss] at this
    rw [hW1]; exact this
  have d0 := blk_cell hblk1 0
  simp at d0
  go_enter Tryz.func19, Tryz.ntmps19
  go_wp2_with (first
    | (at_range; rw [← hW1]; refine wpList_range_own _ rfl _ 54 rfl 9 87 Tryz.lawS Tryz.underlying54 ptrElem bD nD D rfl hownW ?_; intro w0 hrg0 hg0 hs0)
    | go_in)
  go_frame
  clear hW1
  have HB1 : Hid (W1.heap[p]? = some (.cells #[.map (some bD), .map (some w.heap.size), pv, .int .i64 d.left, .int .i64 d.full, .bool d.down] 57)) := hblk1
  clear hblk1
  rw [hs1] at hrg0 hs0 ⊢
  go_loopw [2] (fun _ wr => ∃ (left : Lit → Bool) (cnt : Nat) (Dout : DataW Unit), wr.ranges Tryz.prog 9 ptrElem bD (w.heap.size + 1) nD D left cnt ∧ cnt ≤ Maps.size D ∧
      wr.ownsMap Tryz.prog 9 ptrElem w.heap.size (Maps.size D - cnt) Dout ∧ Agree Dout D left ∧ Fr [w.heap.size, w.heap.size + 1] W1 wr)
    (fun _ wr => wr.rangeLeft bD (w.heap.size + 1))
  case atStart =>
    exact ⟨_, _, .map [], hrg0, Nat.le_refl _, (houtW.kept hg0 (by simp)).mono (Nat.zero_le _), agree_start D, (Fr.of_grown hg0).mono (by simp)⟩
  case round =>
    obtain ⟨left, cnt, Dout, hrg, hcs, hout, hA, hnx⟩ := hrel
    have HNX : Hid (Fr [w.heap.size, w.heap.size + 1] W1 wr) := hnx
    have hzr := hnx.size
    have hpr : wr.heap[p]? = some (.cells #[.map (some bD), .map (some w.heap.size), pv, .int .i64 d.left, .int .i64 d.full, .bool d.down] 57) := (hnx.block p (by omega) (by simp; omega)).trans HB1.out
    have HPR : Hid (wr.heap[p]? = some (.cells #[.map (some bD), .map (some w.heap.size), pv, .int .i64 d.left, .int .i64 d.full, .bool d.down] 57)) := hpr
    have r1 := blk_cell hpr 1
    have r2 := blk_cell hpr 2
    have r5 := blk_cell hpr 5
    have q2 := blk_free hpr 2
    have q5 := blk_free hpr 5
    simp at r1 r2 r5
    clear hnx hpr
    go_wp2_with (first
      | (at_next; refine wpList_next_ranges _ rfl _ rfl 9 Tryz.lawS ptrElem encStr Value.pointer (fun key kl hk => by obtain ⟨x, hx, _⟩ := Maps.keyOf_str Tryz.underlying9 hk; exact ⟨x, hx⟩) (fun v y hv => ptrElem_shape hv) bD (w.heap.size + 1) nD _ _ _ rfl hrg ?_ ?_)
      | go_in)
    · intro hc0 hl0
      go_wp2
      go_end0
      subst hc0
      have hD := agree_end hA hl0 (hout.canon Tryz.lawS) (hown.canon Tryz.lawS)
      subst hD
      obtain ⟨W2, hW2⟩ : ∃ W2, W2 = (wr.setCell ⟨p, 2, none⟩ (.slice none 0 0)).setCell ⟨p, 5, none⟩ (.bool false) := ⟨_, rfl⟩
      rw [← hW2]
      have hf2 : Fr [p] wr W2 := by rw [hW2]; exact (Fr.set1 (by simp) _ _).trans (Fr.set1 (by simp) _ _)
      have hfw : Fr [p] w W2 := (hfr1.andThen HNX.out (by intro j hj hl; simp at hj; omega)).trans hf2
      have hb2 : W2.heap[p]? = some (dskO bD w.heap.size (.slice none 0 0) d.left d.full false) := by
        have := blk_set (blk_set HPR.out 2 (.slice none 0 0)) 5 (.bool false)
        rw [hW2]; simpa using this
      have htx : ∀ (q : Nat) (t : ByteArray), w.heap[q]? = some (textO t) → W2.heap[q]? = some (textO t) := fun q t hq => by
        rw [hfw.block q (Array.getElem?_eq_some_iff.1 hq).1 (by simp; intro e; subst e; rw [HB.out] at hq; cases hq)]; exact hq
      have ho1 : W2.ownsMap Tryz.prog 9 ptrElem bD nD Dout := by
        obtain ⟨es, c, a1, a2⟩ := hrg.owns
        exact ⟨es, c, (hf2.block bD (by omega) (by simp; omega)).trans a1, a2⟩
      have ho2 : W2.ownsMap Tryz.prog 9 ptrElem w.heap.size nD Dout := by
        obtain ⟨es, c, a1, a2⟩ := hout.mono (n' := nD) (by omega)
        exact ⟨es, c, (hf2.block w.heap.size (by omega) (by simp; omega)).trans a1, a2⟩
      have h5 : ∀ k : ByteArray, (d.durable k = none → Maps.has Dout (keyL k) = false) ∧ (∀ t, d.durable k = some t → Maps.has Dout (keyL k) = true ∧ k.size ≤ maxLen ∧ ∃ q : Nat, (∀ z, Dout.atKey (keyL k) z = .lit (.int .i64 (q : Int))) ∧ W2.heap[q]? = some (textO t)) := fun k => by
        obtain ⟨a1, a2⟩ := H5.out k
        refine ⟨a1, fun t ht => ?_⟩
        obtain ⟨b1, b2, q, b3, b4⟩ := a2 t ht
        exact ⟨b1, b2, q, b3, htx q t b4⟩
      refine ⟨rfl, ?_, hfw⟩
      exact { blk := hb2, base := ⟨hB.1, hB.2.1, hB.2.2, by have := hfw.size; omega⟩, ne := by omega, dur := ⟨_, ho1, h5⟩, now := ⟨_, ho2, h5⟩, pen := World.ownsRow_nil _ _ _ _, hD := by simpa [ADisk.up] using hn, hN := hn, hn := hn2, leD := hle, leN := hle, ops := by simp [ADisk.up] }
    · intro x c kl yd yp w2 cnt2 hkey hlk hv hat hrg2 hlt hg2 hs2 hen
      obtain ⟨x', ex, rfl, hxl⟩ := Maps.keyOf_str Tryz.underlying9 hkey
      obtain rfl : x = x' := encStr_inj ex
      have hout1 := hout.kept hg2 (by simp)
      have s1 : w2.cell? ⟨p, 1, none⟩ = some (.map (some w.heap.size)) := (grown_cell hg2 (a := ⟨p, 1, none⟩) (by simp; omega) (by simp; omega)).trans r1
      clear hs2
      go_wp2_with (first
        | (at_mapUpdate; refine wpList_mapUpdate_own _ rfl _ _ _ 54 rfl 9 87 Tryz.lawS Tryz.underlying54 ptrElem w.heap.size _ _ rfl hout1 (by unfold maxLen; omega) _ _ _ rfl rfl hkey _ _ hv ?_; intro w3 hout2 hg3; go_frame)
        | go_in)
      have hrg3 := hrg2.kept hg3 (fun e => by have := Option.some.inj e; omega) (fun e => by have := Option.some.inj e; omega)
      go_roundw
      case rel =>
        exact ⟨_, cnt2, _, hrg3, by omega, hout2.mono (by omega), agree_step hA hout.isMap trivial hat, (HNX.out.trans ((Fr.of_grown1 hg2).mono (by intro k _ hk; simp at hk; simp [hk]))).trans ((Fr.of_grown1 hg3).mono (by intro k _ hk; simp at hk; simp [hk]))⟩
      case measure => rw [hrg3.left_eq, hrg.left_eq]; exact hlt
end Go.Proofs.YtbdhmkfdofkloaaGreatDoor
/- HOSTS: NewHost, close, Open over nothing. -/
namespace Go.Proofs.YtbdhmkfdofkloaaGreatDoor
open Go.RowKit Go.Maps
open Sc

set_option maxRecDepth 100000 in
set_option maxHeartbeats 1000000 in
theorem close_any (hp p : Nat) (up : Bool) (lv : Value) (hlv : ∃ x, lv = .pointer x) (w : World) (hh : w.heap[hp]? = some (hostO p up lv)) :
    Calls Tryz.prog 21 #[.pointer (some ⟨hp, 0, none⟩)] w fun e w' => e = .returned (.tuple #[]) ∧ w'.heap[hp]? = some (hostO p false (.pointer none)) ∧ Fr [hp] w w' := by
  obtain ⟨x, rfl⟩ := hlv
  have c3 := blk_cell hh 3
  have c4 := blk_cell hh 4
  have c5 := blk_cell hh 5
  have c6 := blk_cell hh 6
  have c7 := blk_cell hh 7
  have f3 := blk_free hh 3
  have f4 := blk_free hh 4
  have f5 := blk_free hh 5
  have f6 := blk_free hh 6
  have f7 := blk_free hh 7
  simp at c3 c4 c5 c6 c7
  have HH : Hid (w.heap[hp]? = some (hostO p up (.pointer x))) := hh
  clear hh
  go_enter Tryz.func21, Tryz.ntmps21
  go_wp2
  go_end0
  refine ⟨rfl, ?_, ((((Fr.set1 (by simp) _ _).trans (Fr.set1 (by simp) _ _)).trans (Fr.set1 (by simp) _ _)).trans (Fr.set1 (by simp) _ _)).trans (Fr.set1 (by simp) _ _)⟩
  have := blk_set (blk_set (blk_set (blk_set (blk_set HH.out 3 (.bool false)) 4 (.pointer none)) 5 (.pointer none)) 6 (.pointer none)) 7 (.pointer none)
  simp at this
  exact this
set_option maxRecDepth 100000 in
set_option maxHeartbeats 1000000 in
theorem newHost_any (w : World) (n : Nat) (hn : n ≤ 1000000000) :
    Calls Tryz.prog 6 #[.int .i64 1, .int .i64 0] w fun e w' => ∃ hp p bD bN, e = .returned (.pointer (some ⟨hp, 0, none⟩)) ∧ w'.heap[hp]? = some (hostO p false (.pointer none)) ∧ DiskIn w' w.heap.size p bD bN (.slice none 0 0) ⟨fun _ => none, fun _ => none, [], -1, -1, false⟩ n 0 0 ∧ w.heap.size ≤ hp ∧ Below w.heap.size w w' := by
  have hmm := @run_makeMap Tryz.prog
  go_enter Tryz.func6, Tryz.ntmps6
  go_wp2_with fail
  obtain ⟨W, hW⟩ : ∃ W, W = ((w.alloc (.map #[] 0)).alloc (.cells #[.map (some w.heap.size), .map none, .slice none 0 0, .int .i64 (-1), .int .i64 (-1), .bool false] 57)).alloc (hostO (w.heap.size + 1) false (.pointer none)) := ⟨_, rfl⟩
  have hW2 : W = ((w.alloc (.map #[] 0)).alloc (.cells #[.map (some w.heap.size), .map none, .slice none 0 0, .int .i64 (-1), .int .i64 (-1), .bool false] 57)).alloc (.cells #[.int .i64 1, .int .i64 0, .pointer (some ⟨w.heap.size + 1, 0, none⟩), .bool false, .pointer none, .pointer none, .pointer none, .pointer none] 63) := hW
  rw [← hW2]
  clear hW2
  have hsz : W.heap.size = w.heap.size + 3 := by rw [hW]; simp
  have hb0 : Below w.heap.size w W := by rw [hW]; exact (((Below.refl _ w).alloc (Nat.le_refl _) _).alloc (by simp) _).alloc (by simp; omega) _
  have hfm : FileMap W w.heap.size 0 (fun _ => none) := by rw [hW]; exact ((FileMap.made w).alloc _).alloc _
  have hdb : W.heap[w.heap.size + 1]? = some (.cells #[.map (some w.heap.size), .map none, .slice none 0 0, .int .i64 (-1), .int .i64 (-1), .bool false] 57) := by
    rw [hW, Below.heap_alloc _ _ (w.heap.size + 1) (by simp)]; have := heap_alloc_new (w.alloc (.map #[] 0)) (.cells #[.map (some w.heap.size), .map none, .slice none 0 0, .int .i64 (-1), .int .i64 (-1), .bool false] 57); rw [World.size_alloc] at this; exact this
  have hhb : W.heap[w.heap.size + 2]? = some (hostO (w.heap.size + 1) false (.pointer none)) := by
    rw [hW]; have := heap_alloc_new ((w.alloc (.map #[] 0)).alloc (.cells #[.map (some w.heap.size), .map none, .slice none 0 0, .int .i64 (-1), .int .i64 (-1), .bool false] 57)) (hostO (w.heap.size + 1) false (.pointer none)); rw [World.size_alloc, World.size_alloc] at this; exact this
  clear hW
  have HH : Hid (W.heap[w.heap.size + 2]? = some (hostO (w.heap.size + 1) false (.pointer none))) := hhb
  refine (up_any w.heap.size (w.heap.size + 1) w.heap.size n 0 (.slice none 0 0) (.map none) ⟨fun _ => none, fun _ => none, [], -1, -1, false⟩ W hdb ⟨by omega, by omega, by omega⟩ hfm (by omega) hn (by intro k t ht; cases ht)).mono ?_
  rintro e w1 ⟨rfl, hd1, hf1⟩
  have hh1 : w1.heap[w.heap.size + 1 + 1]? = some (hostO (w.heap.size + 1) false (.pointer none)) := (hf1.block (w.heap.size + 2) (by omega) (by simp)).trans HH.out
  have hb1 : Below w.heap.size w w1 := hb0.trans (hf1.below (by omega) (by intro k hk; simp at hk; omega))
  have H1 : Hid (DiskIn w1 w.heap.size (w.heap.size + 1) w.heap.size W.heap.size (.slice none 0 0) ⟨fun _ => none, fun _ => none, [], -1, -1, false⟩ n 0 0 ∧ Below w.heap.size w w1 ∧ w1.heap[w.heap.size + 1 + 1]? = some (hostO (w.heap.size + 1) false (.pointer none))) := ⟨hd1, hb1, hh1⟩
  clear hd1 hf1 hh1 hb1 hdb hhb hfm hb0
  go_wp2
  go_ret
  exact ⟨w.heap.size + 1 + 1, w.heap.size + 1, w.heap.size, W.heap.size, rfl, H1.out.2.2, H1.out.1, by omega, H1.out.2.1⟩
end Go.Proofs.YtbdhmkfdofkloaaGreatDoor
/- HOSTS: Open over nothing. -/
namespace Go.Proofs.YtbdhmkfdofkloaaGreatDoor
open Go.RowKit
open Sc

section
variable {w w' : World} {B p bD bN n nD nN : Nat} {pv : Value} {d : ADisk}
theorem DiskIn.geD (h : DiskIn w B p bD bN pv d n nD nN) {k : Nat} (hk : OwnD p w k) : B ≤ k := by
  have := (h.ownD k).1 hk
  simp at this
  rcases this with e | e | e | e
  · rw [e]; exact h.base.1
  · rw [e]; exact h.base.2.1
  · rw [e]; exact h.base.2.2.1
  · exact (h.pen.lt k e).1
theorem DFr.below (hf : DFr p w w') (h : DiskIn w B p bD bN pv d n nD nN) : Below B w w' :=
  ⟨hf.os, hf.tape, hf.output, hf.size, fun k hk => hf.block k (Nat.lt_of_lt_of_le hk h.base.2.2.2) (fun ho => by have := h.geD ho; omega)⟩
end
theorem OFr.below {w w' : World} {B lp p bD bN n nD nN : Nat} {pv sv rv : Value} {l : ALog} {d : ADisk} (hf : OFr lp p w w') (h : LogIn w B lp p bD bN pv sv rv l d n nD nN) : Below B w w' :=
  ⟨hf.os, hf.tape, hf.output, hf.size, fun _ hk => hf.low h hk⟩
/-- a block of another kind was written -/
theorem LogIn.other {w w' : World} {B lp p bD bN n nD nN q : Nat} {pv sv rv : Value} {l : ALog} {d : ADisk} {c : Array Value} {t : TypeId} (h : LogIn w B lp p bD bN pv sv rv l d n nD nN) (hf : Fr [q] w w') (hq : w.heap[q]? = some (.cells c t (0, 0))) (h1 : t ≠ 57) (h2 : t ≠ 107) (h3 : t ≠ 100) (h4 : t ≠ 34) (h5 : t ≠ 44) (h6 : t ≠ 9) : LogIn w' B lp p bD bN pv sv rv l d n nD nN := by
  have ho := h.free hq h1 h2 h3 h4 h5
  rw [h.own] at ho
  simp only [not_or] at ho
  refine h.turned (h.disk.fr hf ?_ ?_ ?_ ?_ ?_) hf ?_ (Nat.le_refl _)
  · simpa using fun e => ho.2.1 e.symm
  · simpa using fun e => ho.2.2.1 e.symm
  · simpa using fun e => ho.2.2.2.1 e.symm
  · intro g hg; simp; intro e; subst e; exact ho.2.2.2.2.1 hg
  · intro r hr x; simp at hr; subst hr; rw [hq]; intro e; cases e; exact h6 rfl
  · intro r hr _; simp at hr; subst hr; exact ⟨ho.1, ho.2.2.2.2.2.1, ho.2.2.2.2.2.2⟩
end Go.Proofs.YtbdhmkfdofkloaaGreatDoor
/- sameRecords, the second list a piece of a longer one. -/
namespace Go.Proofs.YtbdhmkfdofkloaaGreatDoor
open Go.RowKit
open Sc

/-- the records rs, as a slice value holds them, from the cell o on -/
def RecsAtO (w : World) (v : Value) (o : Nat) (rs : List Rec) : Prop :=
  ∃ ao cap, v = .slice ao rs.length cap ∧ ∀ i (h : i < rs.length), ∃ g, ao = some ⟨g, o, none⟩ ∧ w.cell? ⟨g, o + i * 3, none⟩ = some (.int .u64 (rs[i].lsn : Int)) ∧ w.cell? ⟨g, o + i * 3 + 1, none⟩ = some (.int .u8 (rs[i].kind : Int)) ∧ w.cell? ⟨g, o + i * 3 + 2, none⟩ = some (.string (str rs[i].pay))
set_option maxHeartbeats 1000000 in
theorem same_piece (v1 v2 : Value) (o : Nat) (rs : List Rec) (w : World) (h1 : RecsAt w v1 rs) (h2 : RecsAtO w v2 o rs) (hn : rs.length ≤ 4398046511103) :
    Calls Tryz.prog 34 #[v1, v2] w fun e w' => e = .returned (.bool true) ∧ ∃ q, w' = w.drewN q := by
  obtain ⟨a1, c1, rfl, H1⟩ := h1
  obtain ⟨a2, c2, rfl, H2⟩ := h2
  have G1 : Hid (∀ i (h : i < rs.length), ∃ g, a1 = some ⟨g, 0, none⟩ ∧ w.cell? ⟨g, i * 3, none⟩ = some (.int .u64 (rs[i].lsn : Int)) ∧ w.cell? ⟨g, i * 3 + 1, none⟩ = some (.int .u8 (rs[i].kind : Int)) ∧ w.cell? ⟨g, i * 3 + 2, none⟩ = some (.string (str rs[i].pay))) := H1
  have G2 : Hid (∀ i (h : i < rs.length), ∃ g, a2 = some ⟨g, o, none⟩ ∧ w.cell? ⟨g, o + i * 3, none⟩ = some (.int .u64 (rs[i].lsn : Int)) ∧ w.cell? ⟨g, o + i * 3 + 1, none⟩ = some (.int .u8 (rs[i].kind : Int)) ∧ w.cell? ⟨g, o + i * 3 + 2, none⟩ = some (.string (str rs[i].pay))) := H2
  clear H1 H2
  obtain ⟨n, hnn⟩ : ∃ n, n = rs.length := ⟨_, rfl⟩
  rw [← hnn] at hn ⊢
  have HN : Hid (rs.length = n) := hnn.symm
  clear hnn
  go_enter Tryz.func34, Tryz.ntmps34
  go_wp2
  go_loopw [5] (fun i wr => ∃ k : Nat, k ≤ n ∧ i = .int .i64 k ∧ ∃ q, wr = w.drewN q) (fun i _ => n - (intOf i).toNat)
  case atStart => exact ⟨0, Nat.zero_le _, rfl, 0, rfl⟩
  case round =>
    obtain ⟨k, hk, rfl, q, rfl⟩ := hrel
    by_cases hlt : k < n
    · obtain ⟨g1, rfl, x0, x1, x2⟩ := G1.out k (by rw [HN.out]; exact hlt)
      obtain ⟨g2, rfl, y0, y1, y2⟩ := G2.out k (by rw [HN.out]; exact hlt)
      have i0 : (0 : Int) ≤ (k : Int) := by omega
      have i1 : (k : Int) < (n : Int) := by omega
      generalize rs[k]'(by rw [HN.out]; exact hlt) = r at x0 x1 x2 y0 y1 y2
      generalize str r.pay = sp at x2 y2
      go_wp2
      go_quiet (fail)
      go_wp2
      go_roundw
      case rel => exact ⟨k + 1, by omega, by go_num, _, rfl⟩
      case measure => simp [intOf]; omega
    · go_wp2
      go_ret
      exact ⟨rfl, q, rfl⟩
/-- a row of records, cut at its beginning -/
theorem recsAtO_own {w : World} {base n : Nat} {g cap : Nat} {all : List Rec} (h : w.ownsRow base 44 3 (.slice (some ⟨g, 0, none⟩) n cap) n (recsV all)) (f c : Nat) (hf : f ≤ all.length) : RecsAtO w (.slice (some ⟨g, f * 3, none⟩) (all.length - f) c) (f * 3) (all.drop f) := by
  have hall := recsAt_own h
  obtain ⟨ao, cap2, e, H⟩ := hall
  refine ⟨_, c, by rw [List.length_drop], fun i hi => ⟨g, rfl, ?_⟩⟩
  rw [List.length_drop] at hi
  obtain ⟨g', e2, a1, a2, a3⟩ := H (f + i) (by omega)
  cases e
  cases e2
  rw [List.getElem_drop]
  have h1 : (f + i) * 3 = f * 3 + i * 3 := by omega
  rw [h1] at a1 a2 a3
  exact ⟨a1, a2, a3⟩
theorem recsSl_own {w : World} {base n : Nat} {v : Value} {rs : List Rec} (h : w.ownsRow base 44 3 v n (recsV rs)) : RecsSl w.heap.size w v rs := by
  have hl : rs.length = n := by have := h.1; rw [recsV_len] at this; omega
  have hlt := h.lt
  obtain ⟨ao, cap, e, H⟩ := recsAt_own h
  rcases h.2 with ⟨e1, h0⟩ | ⟨g, cap', cur, e1, hb, hg, rest⟩
  · left
    exact ⟨e1, List.eq_nil_of_length_eq_zero (by omega)⟩
  · right
    refine ⟨g, cap', by rw [e1, hl], (hlt g (by rw [e1]; rfl)).2, fun k r hk => ?_⟩
    obtain ⟨hk1, hk2⟩ := List.getElem?_eq_some_iff.1 hk
    obtain ⟨g2, e2, a1, a2, a3⟩ := H k hk1
    rw [e1] at e
    cases e
    cases e2
    rw [hk2] at a1 a2 a3
    exact ⟨a1, a2, a3⟩
end Go.Proofs.YtbdhmkfdofkloaaGreatDoor
/- (*book).looks: the log says what it must. -/
namespace Go.Proofs.YtbdhmkfdofkloaaGreatDoor
open Go.RowKit
open Sc

theorem Fr.drewN {S : List Nat} {a w : World} (h : Fr S a w) : ∀ k, Fr S a (w.drewN k)
  | 0 => h
  | k + 1 => (Fr.drewN h k).drew
theorem bytesR_snoc {L : List Rec} {k : Nat} {r : Rec} (h : L[k]? = some r) : bytesR (L.take (k + 1)) = bytesR (L.take k) + (15 + r.pay.length) := by
  rw [List.take_add_one, h, bytesR_app]; simp [bytesR]
end Go.Proofs.YtbdhmkfdofkloaaGreatDoor
/- (*book).looks, whatever its log has come through. (Written by mklja.py, from Look.) -/
namespace Go.Proofs.YtbdhmkfdofkloaaGreatDoor
open Go.RowKit
open Sc

/-- what looks reads -/
structure LookIn (w : World) (B bp hp lp p bD bN : Nat) (av : Value) (b : ABook) (l : ALog) (d : ADisk) (n : Nat) : Prop where
  host : HostIn w B hp lp p bD bN l d n
  lt : bp < w.heap.size
  c0 : w.cell? ⟨bp, 0, none⟩ = some (.pointer (some ⟨hp, 0, none⟩))
  c1 : w.cell? ⟨bp, 1, none⟩ = some av
  c3 : w.cell? ⟨bp, 3, none⟩ = some (.int .u64 (b.low : Int))
  c4 : w.cell? ⟨bp, 4, none⟩ = some (.int .u64 (b.must : Int))
  all : w.ownsRow B 44 3 av b.all.length (recsV b.all)
  len : b.all.length ≤ 1048576
  must : b.must < 18446744073709551616
/-- the log says what it must: fst of the records are gone -/
structure LookOk (b : ABook) (l : ALog) (fst : Nat) (X : List Rec) : Prop where
  recs : l.recs = X
  next : l.next = b.all.length + 1
  le : fst ≤ b.all.length
  all : b.all.drop fst = X
  low : fst + 1 ≤ b.low ∨ fst = 0
  small : ∀ j, (j = 0 ∨ fst + j + 1 ≤ b.must) → bytesR (X.take j) < 870
theorem LookOk.fstLe {b : ABook} {l : ALog} {fst : Nat} {X : List Rec} (h : LookOk b l fst X) : X.length = b.all.length - fst ∧ fst ≤ b.all.length := ⟨by rw [← h.all, List.length_drop], h.le⟩
set_option maxRecDepth 100000 in
set_option maxHeartbeats 40000000 in
theorem looks_gen (B bp hp lp p bD bN n fst : Nat) (av : Value) (b : ABook) (l : ALog) (d : ADisk) (X : List Rec) (w : World) (h : LookIn w B bp hp lp p bD bN av b l d n) (hk : LookOk b l fst X) :
    Calls Tryz.prog 16 #[.pointer (some ⟨bp, 0, none⟩)] w fun e w' => e = .returned (.bool true) ∧ Fr [] w w' := by
  have c0 := h.c0
  have c1 := h.c1
  have c3 := h.c3
  have c4 := h.c4
  have hlen := h.len
  have hmust := h.must
  obtain ⟨hfl, hle⟩ := hk.fstLe
  obtain ⟨m, hm⟩ : ∃ m, m = b.all.length := ⟨_, rfl⟩
  obtain ⟨K, hK⟩ : ∃ K, K = X.length := ⟨_, rfl⟩
  obtain ⟨mu, hmu⟩ : ∃ mu, mu = b.must := ⟨_, rfl⟩
  obtain ⟨lo, hlo⟩ : ∃ lo, lo = b.low := ⟨_, rfl⟩
  have hnx := hk.next
  have hlow := hk.low
  rw [← hm] at hlen hle hnx
  rw [← hm, ← hK] at hfl
  rw [← hmu] at c4 hmust
  rw [← hlo] at c3 hlow
  obtain rfl : fst = m - K := by omega
  have hKm : K ≤ m := by omega
  have HK : Hid (LookOk b l (m - K) X) := hk
  have HE : Hid (m = b.all.length ∧ K = X.length ∧ mu = b.must ∧ lo = b.low) := ⟨hm, hK, hmu, hlo⟩
  have hrecs : l.recs = X := hk.recs
  have hbpl := h.lt
  have hN : Calls Tryz.prog 33 #[.pointer (some ⟨hp, 0, none⟩)] w fun e w' => e = .returned (.int .u64 ((m : Int) + 1)) ∧ w' = w := by
    have := hNext B hp lp p bD bN n l d w h.host
    rw [hnx] at this
    simpa using this
  obtain ⟨hh, pv, sv, rv, nD, nN, hl⟩ := h.host
  have h4 := blk_cell hh 4
  have l3 := blk_cell hl.blk 3
  simp at h4 l3
  have hrr := hl.recs
  rw [hrecs] at hrr
  have hR := records_any hp lp rv X (by omega) w h4 l3 (Array.getElem?_eq_some_iff.1 hl.blk).1 (recsSl_own hrr)
  have HR : Hid (Calls Tryz.prog 13 #[.pointer (some ⟨hp, 0, none⟩), .int .i64 0] w fun e W' => ∃ v, e = .returned (.tuple #[v, .bool true]) ∧ W'.ownsRow w.heap.size 44 3 v X.length (recsV X) ∧ Below w.heap.size w W') := hR
  have hall := h.all
  have q2 : ¬ (m : Int) < (K : Int) := by omega
  clear h hk hm hh hl h4 l3 hrr hR hnx hrecs hK hmu hlo hfl hle
  rcases hall.2 with ⟨rfl, h0⟩ | ⟨g, cap, cur, rfl, hb, hg, rest⟩
  · have hm0 : m = 0 := by rw [HE.out.1]; exact h0
    subst hm0
    have hk0 : K = 0 := by omega
    subst hk0
    clear q2 hlen hKm hlow
    go_enter Tryz.func16, Tryz.ntmps16
    go_wp2_with fail
    refine hN.mono ?_
    rintro e w1 ⟨rfl, rfl⟩
    go_wp2_with fail
    refine HR.out.mono ?_
    rintro e w2 ⟨v, rfl, hv, hb2⟩
    have d1 := (hb2.cell (p := ⟨bp, 1, none⟩) hbpl).trans c1
    have d3 := (hb2.cell (p := ⟨bp, 3, none⟩) hbpl).trans c3
    have d4 := (hb2.cell (p := ⟨bp, 4, none⟩) hbpl).trans c4
    have hat := recsAt_own hv
    have hF2 : Fr [] w1 w2 := Fr.of_below hb2 _
    obtain ⟨ao, cv, rfl, hcells⟩ := hat
    have HA : Hid (RecsAt w2 (.slice ao X.length cv) X) := ⟨ao, cv, rfl, hcells⟩
    have HF : Hid (Fr [] w1 w2) := hF2
    rw [← HE.out.2.1] at HA ⊢
    have HP : Hid (RecsAtO w2 (.slice none 0 0) 0 X) := ⟨none, 0, by rw [← HE.out.2.1], fun i hi => by have := HE.out.2.1; omega⟩
    have hbig : X.length ≤ 4398046511103 := by have := HE.out.2.1; omega
    have HB : Hid (X.length ≤ 4398046511103) := hbig
    clear hcells hv hb2 hF2 hall HR c0 c1 c3 c4 h0 hbig
    go_wp2_with fail
    refine (same_piece _ _ 0 X w2 HA.out HP.out HB.out).mono ?_
    rintro e w3 ⟨rfl, q, rfl⟩
    go_wp2
    all_goals refine wp_loop_rounds 1 ?_
    all_goals rw [rounds_succ]
    all_goals go_wp2
    all_goals go_ret
    all_goals exact ⟨rfl, HF.out.drewN _⟩
  · have hcap : m ≤ cap ∧ cap ≤ 9223372036854775807 := by
      rw [HE.out.1]; have := rest.2.1; unfold maxLen at this; exact ⟨rest.1, by omega⟩
    obtain ⟨hcap1, hcap2⟩ := hcap
    rw [← HE.out.1] at c1
    go_enter Tryz.func16, Tryz.ntmps16
    go_wp2_with fail
    refine hN.mono ?_
    rintro e w1 ⟨rfl, rfl⟩
    go_wp2_with fail
    refine HR.out.mono ?_
    rintro e w2 ⟨v, rfl, hv, hb2⟩
    have d1 := (hb2.cell (p := ⟨bp, 1, none⟩) hbpl).trans c1
    have d3 := (hb2.cell (p := ⟨bp, 3, none⟩) hbpl).trans c3
    have d4 := (hb2.cell (p := ⟨bp, 4, none⟩) hbpl).trans c4
    have hat := recsAt_own hv
    have hF2 : Fr [] w1 w2 := Fr.of_below hb2 _
    obtain ⟨ao, cv, rfl, hcells⟩ := hat
    have HA : Hid (RecsAt w2 (.slice ao X.length cv) X) := ⟨ao, cv, rfl, hcells⟩
    have HF : Hid (Fr [] w1 w2) := hF2
    rw [← HE.out.2.1] at HA ⊢
    have h1 : w2.ownsRow B 44 3 (.slice (some ⟨g, 0, none⟩) b.all.length cap) b.all.length (recsV b.all) := ownsRow_fr hall hF2 (by simp)
    have HP : Hid (∀ o, RecsAtO w2 (.slice (some ⟨g, o, none⟩) (m - (m - K)) (cap - (m - K))) o X ∨ (cap = m - K ∨ o ≠ (m - K) * 3)) := fun o => by
      by_cases ho : o = (m - K) * 3
      · left
        have h2 := recsAtO_own h1 (m - K) (cap - (m - K)) HK.out.le
        rw [HK.out.all, ← HE.out.1] at h2
        rw [ho]; exact h2
      · exact .inr (.inr ho)
    have HP0 : Hid (cap = m - K → RecsAtO w2 (.slice (some ⟨g, 0, none⟩) (m - (m - K)) 0) 0 X) := fun he => by
      have hz : K = 0 := by omega
      exact ⟨some ⟨g, 0, none⟩, 0, by rw [← HE.out.2.1]; congr 1; omega, fun i hi => by have := HE.out.2.1; omega⟩
    have HC : Hid (∀ i (hi : i < b.all.length), w2.cell? ⟨g, i * 3 + 2, none⟩ = some (.string (str b.all[i].pay))) := fun i hi => by
      obtain ⟨ao', cap', e', H'⟩ := recsAt_own h1
      obtain ⟨g', e2, _, _, a3⟩ := H' i hi
      cases e'
      cases e2
      exact a3
    have HB : Hid (X.length ≤ 4398046511103) := by have := HE.out.2.1; show X.length ≤ _; omega
    clear hcells hv hb2 hF2 hall HR c0 c1 c3 c4 hg rest h1
    by_cases hK0 : K = 0
    · subst hK0
      have HPz : Hid (∀ (a : Addr) (c : Nat), RecsAtO w2 (.slice (some a) 0 c) a.off X) := fun a c => ⟨some a, c, by rw [← HE.out.2.1], fun i hi => by have := HE.out.2.1; omega⟩
      clear HP HP0 HC q2 hKm
      have q3 : ¬ (lo : Int) < (m : Int) + 1 ∨ ¬ (0 : Int) < (m : Int) := by omega
      clear hlow
      simp only [Nat.sub_zero] at *
      go_wp2_with fail
      · refine (same_piece _ _ _ X w2 HA.out (HPz.out ⟨g, 0, none⟩ 0) HB.out).mono ?_
        rintro e w3 ⟨rfl, q, rfl⟩
        rcases q3 with q3 | q3
        all_goals go_wp2
        all_goals refine wp_loop_rounds 1 ?_
        all_goals rw [rounds_succ]
        all_goals go_wp2
        all_goals go_ret
        all_goals exact ⟨rfl, HF.out.drewN _⟩
      · refine (same_piece _ _ _ X w2 HA.out (HPz.out ⟨g, m * 3, none⟩ (cap - m)) HB.out).mono ?_
        rintro e w3 ⟨rfl, q, rfl⟩
        rcases q3 with q3 | q3
        all_goals go_wp2
        all_goals refine wp_loop_rounds 1 ?_
        all_goals rw [rounds_succ]
        all_goals go_wp2
        all_goals go_ret
        all_goals exact ⟨rfl, HF.out.drewN _⟩
    · have hcc : ¬ cap = m - K := by omega
      clear HP0
      go_wp2_with fail
      refine (same_piece _ _ ((m - K) * 3) X w2 HA.out ((HP.out _).resolve_right (by omega)) HB.out).mono ?_
      rintro e w3 ⟨rfl, q, rfl⟩
      have q3 : ¬ (lo : Int) < (m : Int) - (K : Int) + 1 ∨ ¬ (0 : Int) < (m : Int) - (K : Int) := by omega
      clear hlow hcc
      rcases q3 with q3 | q3
      all_goals go_wp2
      all_goals clear q3
      all_goals (
        go_loopw [8, 9] (fun sz i wr => ∃ x : Nat, m - K ≤ x ∧ x ≤ m ∧ i = .int .i64 (x : Int) ∧ sz = .int .i64 (bytesR (X.take (x - (m - K))) : Nat) ∧ (x = m - K ∨ x < mu) ∧ ∃ q, wr = w2.drewN q) (fun _ i _ => m - (intOf i).toNat)
        case atStart => exact ⟨m - K, Nat.le_refl _, by omega, by congr 1; omega, by simp [bytesR], .inl rfl, _, rfl⟩
        case round =>
          obtain ⟨x, hx1, hx2, rfl, rfl, hx3, q2, rfl⟩ := hrel
          have hsm : bytesR (X.take (x - (m - K))) < 870 := HK.out.small _ (by rw [← HE.out.2.2.1]; omega)
          have HZ : Hid (bytesR (X.take (x - (m - K))) < 870) := hsm
          by_cases hxm : x < m
          · by_cases hxu : x + 1 < mu
            · have hxa : x < b.all.length := by rw [← HE.out.1]; exact hxm
              have hc := HC.out x hxa
              have hr : X[x - (m - K)]? = some b.all[x] := by
                rw [← HK.out.all, List.getElem?_drop, show m - K + (x - (m - K)) = x by omega]
                exact List.getElem?_eq_getElem hxa
              have hsn := bytesR_snoc hr
              have hs2 : bytesR (X.take (x - (m - K) + 1)) < 870 := HK.out.small _ (by rw [← HE.out.2.2.1]; omega)
              have hpl := str_size b.all[x].pay
              rw [hsn] at hs2
              generalize b.all[x] = r at hc hsn hs2 hpl
              have HN2 : Hid (bytesR (X.take (x + 1 - (m - K))) = bytesR (X.take (x - (m - K))) + (15 + r.pay.length)) := by
                show _ = _
                rw [← hsn, show x + 1 - (m - K) = x - (m - K) + 1 by omega]
              clear hsn hr hsm
              generalize bytesR (X.take (x - (m - K))) = z at hs2 HN2 HZ ⊢
              generalize str r.pay = sp at hc hpl
              generalize r.pay.length = pl at hs2 HN2 hpl
              subst hpl
              go_wp2
              go_roundw
              case rel => exact ⟨x + 1, by omega, by omega, by congr 1, by rw [HN2.out]; congr 1; omega, .inr (by omega), _, rfl⟩
              case measure => simp [intOf]; omega
            · clear hsm
              generalize bytesR (X.take (x - (m - K))) = z at HZ ⊢
              have hz9 : (z : Int) < 900 := by have := HZ.out; omega
              go_wp2
              go_ret
              exact ⟨rfl, HF.out.drewN _⟩
          · clear hsm
            generalize bytesR (X.take (x - (m - K))) = z at HZ ⊢
            have hz9 : (z : Int) < 900 := by have := HZ.out; omega
            go_wp2
            go_ret
            exact ⟨rfl, HF.out.drewN _⟩)
end Go.Proofs.YtbdhmkfdofkloaaGreatDoor
/- SORTING NUMBERS (uint64), few of them: cmp.Less, slices.insertionSortOrdered. -/
namespace Go.Proofs.YtbdhmkfdofkloaaGreatDoor
open Go.RowKit Go.Maps
open Sc

theorem getD_at {l : List Nat} {j : Nat} (h : j < l.length) : l.getD j 0 = l[j] := by simp [List.getD, List.getElem?_eq_getElem h]
/-- the first k in order -/
def AscTo (l : List Nat) (k : Nat) : Prop := ∀ a b, a < b → b < k → l.getD a 0 ≤ l.getD b 0
theorem AscTo.pairwise {l : List Nat} (h : AscTo l l.length) : l.Pairwise (· ≤ ·) := by
  rw [List.pairwise_iff_getElem]
  intro i j hi hj hij
  have := h i j hij hj
  rwa [getD_at hi, getD_at hj] at this

set_option maxRecDepth 100000 in
set_option maxHeartbeats 2000000 in
theorem nanU (x : Int) (w : World) : Calls Tryz.prog 149 #[.int .u64 x] w fun e w' => e = .returned (.bool false) ∧ w' = w := by
  go_enter Tryz.func149, Tryz.ntmps149
  go_wp2
  go_ret
  exact ⟨by simp, rfl⟩
set_option maxRecDepth 100000 in
set_option maxHeartbeats 2000000 in
theorem lessU (x y : Int) (w : World) : Calls Tryz.prog 116 #[.int .u64 x, .int .u64 y] w fun e w' => e = .returned (.bool (decide (x < y))) ∧ w' = w := by
  go_enter Tryz.func116, Tryz.ntmps116
  go_wp2_with fail
  refine (nanU x w).mono ?_
  rintro e w1 ⟨rfl, rfl⟩
  go_wp2
  go_ret
  exact ⟨rfl, rfl⟩
/-- how the row lies while it is sorted -/
structure SrtIn (w wr : World) (B g n cap : Nat) (l l' : List Nat) : Prop where
  perm : l'.Perm l
  row : wr.ownsRow B 34 1 (.slice (some ⟨g, 0, none⟩) n cap) n (u64s l')
  fr : Fr [g] w wr
end Go.Proofs.YtbdhmkfdofkloaaGreatDoor
/- SORTING NUMBERS (uint64), many of them: a row that is sorted; reverseRange; order2, median, choosePivot. -/
namespace Go.Proofs.YtbdhmkfdofkloaaGreatDoor
open Go.RowKit Go.Maps
open Sc

abbrev ltN (x y : Nat) : Bool := decide (x < y)
theorem swoN : Go.Sort.SWO ltN where
  irrefl := fun x => by simp [ltN]
  trans := fun x y z h1 h2 => by simp [ltN] at *; omega
  ntrans := fun x y z h1 h2 => by simp [ltN] at *; omega
/-- how the row lies while it is sorted -/
structure SU (w wr : World) (B g n cap : Nat) (d : Array Nat) : Prop where
  sz : d.size = n
  row : wr.ownsRow B 34 1 (.slice (some ⟨g, 0, none⟩) n cap) n (u64s d.toList)
  fr : Fr [g] w wr
theorem at_bang {d : Array Nat} {i : Nat} (h : i < d.size) : d[i]! = d[i] := by simp [h]
theorem u64s_swp (d : Array Nat) (i j : Nat) : ((u64s d.toList).set i (.int .u64 (d[j]! : Nat))).set j (.int .u64 (d[i]! : Nat)) = u64s (Go.Sort.swp d i j).toList := by
  unfold u64s Go.Sort.swp
  simp [List.map_set]
theorem size_swpN (d : Array Nat) (i j : Nat) : (Go.Sort.swp d i j).size = d.size := by simp [Go.Sort.swp]
section
variable {w wr : World} {B g n cap : Nat} {d : Array Nat}
theorem SU.on (h : SU w wr B g n cap d) {wq : World} (hf : Fr [] wr wq) : SU w wq B g n cap d := ⟨h.sz, ownsRow_fr h.row hf (fun _ _ => by simp), h.fr.trans (hf.mono (by simp))⟩
theorem SU.drewN (h : SU w wr B g n cap d) (k : Nat) : SU w (wr.drewN k) B g n cap d := h.on (frDrewN (Fr.refl [] wr) k)
theorem SU.drew (h : SU w wr B g n cap d) : SU w wr.drew B g n cap d := h.on (Fr.refl [] wr).drew
theorem SU.at (h : SU w wr B g n cap d) {k : Nat} (hk : k < n) : wr.cell? ⟨g, k, none⟩ = some (.int .u64 ((d[k]! : Nat) : Int)) :=
  segs_cell h.row k _ (by rw [at_bang (by rw [h.sz]; exact hk)]; simp [h.sz, hk])
theorem SU.free (h : SU w wr B g n cap d) (k : Nat) : wr.frozen? ⟨g, k, none⟩ = false := by
  rcases h.row.2 with ⟨h', _⟩ | ⟨g', cap', cur, h', hb, hg, _⟩
  · simp at h'
  · simp only [Value.slice.injEq, Option.some.injEq, Addr.mk.injEq, and_true, true_and] at h'
    obtain ⟨rfl, rfl⟩ := h'
    exact blk_free hg _
theorem SU.swp (h : SU w wr B g n cap d) (i j : Nat) :
    SU w ((wr.setCell ⟨g, i, none⟩ (.int .u64 (d[j]! : Nat))).setCell ⟨g, j, none⟩ (.int .u64 (d[i]! : Nat))) B g n cap (Go.Sort.swp d i j) where
  sz := by rw [size_swpN]; exact h.sz
  row := by
    have h1 := ((h.row.stored i (.int .u64 (d[j]! : Nat))).1.stored j (.int .u64 (d[i]! : Nat))).1
    rwa [u64s_swp] at h1
  fr := (h.fr.setCell (.inl (by simp)) _).setCell (.inl (by simp)) _
end

set_option maxRecDepth 100000 in
set_option maxHeartbeats 4000000 in
theorem revU (B g n cap a b : Nat) (d : Array Nat) (w0 w : World) (h : SU w0 w B g n cap d) (hab : a < b) (hb : b ≤ n) (hn : n ≤ 1000000000) :
    Calls Tryz.prog 176 #[.slice (some ⟨g, 0, none⟩) n cap, .int .i64 (a : Int), .int .i64 (b : Int)] w fun e w' => e = .returned (.tuple #[]) ∧ SU w0 w' B g n cap (Go.Sort.reverseRange d a b) := by
  have H0 : Hid (SU w0 w B g n cap d) := h
  have j0 : IntKind.i64.wrap ((b : Int) - 1) = ((b - 1 : Nat) : Int) := by rw [IntKind.wrap_i64]; omega
  clear h
  go_enter Tryz.func176, Tryz.ntmps176
  go_wp2
  go_loopw [6, 7] (fun i j wr => ∃ x y : Nat, i = .int .i64 x ∧ j = .int .i64 y ∧ a ≤ x ∧ y < b ∧ x ≤ y + 1 ∧ ∃ d', SU w0 wr B g n cap d' ∧ Go.Sort.reverseLoop x y d' = Go.Sort.reverseRange d a b) (fun i j _ => (intOf j).toNat + 1 - (intOf i).toNat)
  case atStart => exact ⟨a, b - 1, rfl, rfl, by omega, by omega, by omega, d, H0.out, rfl⟩
  case round =>
    obtain ⟨x, y, rfl, rfl, hx, hy, hxy, d1, hs1, he1⟩ := hrel
    have HS : Hid (SU w0 wr B g n cap d1) := hs1
    have HE : Hid (Go.Sort.reverseLoop x y d1 = Go.Sort.reverseRange d a b) := he1
    clear hs1 he1
    by_cases hlt : x < y
    · have j1 : (x : Int) < (y : Int) := by omega
      have c1 := HS.out.at (k := x) (by omega)
      have c2 := HS.out.at (k := y) (by omega)
      have f1 : wr.frozen? ⟨g, x, none⟩ = false := HS.out.free _
      have f2 : wr.frozen? ⟨g, y, none⟩ = false := HS.out.free _
      have j2 : IntKind.i64.wrap ((x : Int) + 1) = ((x + 1 : Nat) : Int) := by rw [IntKind.wrap_i64]; omega
      have j3 : IntKind.i64.wrap ((y : Int) - 1) = ((y - 1 : Nat) : Int) := by rw [IntKind.wrap_i64]; omega
      have j5 : (x : Int) < (n : Int) := by omega
      have j6 : (y : Int) < (n : Int) := by omega
      go_wp2
      go_region
      all_goals go_wp2
      refine ⟨⟨x + 1, y - 1, by simp, rfl, by omega, by omega, by omega, _, (HS.out.swp x y).drew, ?_⟩, by simp [intOf]; omega⟩
      rw [← HE.out]
      conv => rhs; rw [Go.Sort.reverseLoop, if_pos hlt]
    · have j1 : ¬ (x : Int) < (y : Int) := by omega
      go_wp2
      go_end0
      refine ⟨rfl, ?_⟩
      rw [← HE.out, Go.Sort.reverseLoop, if_neg hlt]
      exact HS.out

/-- where exchanges are counted -/
structure SwIn (w0 w : World) (B g n cap : Nat) (d : Array Nat) (sp s : Nat) : Prop where
  su : SU w0 w B g n cap d
  ne : sp ≠ g
  new : w0.heap.size ≤ sp
  blk : w.heap[sp]? = some (.cells #[.int .i64 (s : Int)] 3 (0, 0))
section
variable {w0 w : World} {B g n cap sp s : Nat} {d : Array Nat}
theorem SwIn.drewN (h : SwIn w0 w B g n cap d sp s) (k : Nat) : SwIn w0 (w.drewN k) B g n cap d sp s := ⟨h.su.drewN k, h.ne, h.new, by rw [(frDrewN (Fr.refl [] w) k).block sp (by have := h.blk; exact (Array.getElem?_eq_some_iff.mp this).1) (by simp)]; exact h.blk⟩
theorem SwIn.count (h : SwIn w0 w B g n cap d sp s) : SwIn w0 (w.setCell ⟨sp, 0, none⟩ (.int .i64 ((s : Int) + 1))) B g n cap d sp (s + 1) where
  su := ⟨h.su.sz, ownsRow_fr h.su.row (Fr.set1 (S := [sp]) (by simp) 0 _) (fun q hq => by simp [Value.ownBlock] at hq; subst hq; simp; exact fun e => h.ne e.symm), h.su.fr.setCell (.inr h.new) _⟩
  ne := h.ne
  new := h.new
  blk := by rw [blk_set h.blk]; simp
end
set_option maxRecDepth 100000 in
set_option maxHeartbeats 4000000 in
theorem order2U (B g n cap a b sp s : Nat) (d : Array Nat) (w0 w : World) (h : SwIn w0 w B g n cap d sp s) (ha : a < n) (hb : b < n) (hs : s ≤ 1000) :
    Calls Tryz.prog 199 #[.slice (some ⟨g, 0, none⟩) n cap, .int .i64 (a : Int), .int .i64 (b : Int), .pointer (some ⟨sp, 0, none⟩)] w fun e w' => ∃ x y t : Nat, e = .returned (.tuple #[.int .i64 (x : Int), .int .i64 (y : Int)]) ∧ (x = a ∧ y = b ∨ x = b ∧ y = a) ∧ t ≤ s + 1 ∧ SwIn w0 w' B g n cap d sp t := by
  have H0 : Hid (SwIn w0 w B g n cap d sp s) := h
  have c1 := h.su.at ha
  have c2 := h.su.at hb
  have f1 : w.frozen? ⟨g, a, none⟩ = false := h.su.free _
  have f2 : w.frozen? ⟨g, b, none⟩ = false := h.su.free _
  have c3 : w.cell? ⟨sp, 0, none⟩ = some (.int .i64 (s : Int)) := blk_cell h.blk 0
  have f3 : w.frozen? ⟨sp, 0, none⟩ = false := blk_free h.blk 0
  have j5 : (a : Int) < (n : Int) := by omega
  have j6 : (b : Int) < (n : Int) := by omega
  have j7 : IntKind.i64.wrap ((s : Int) + 1) = (s : Int) + 1 := by rw [IntKind.wrap_i64]; omega
  obtain ⟨x, hx⟩ : ∃ x, x = d[a]! := ⟨_, rfl⟩
  obtain ⟨y, hy⟩ : ∃ y, y = d[b]! := ⟨_, rfl⟩
  rw [← hx] at c1
  rw [← hy] at c2
  clear h hx hy
  go_enter Tryz.func199, Tryz.ntmps199
  by_cases hxy : (y : Int) < (x : Int)
  · have hd : decide ((y : Int) < (x : Int)) = true := by simp [hxy]
    go_wp2
    go_quiet (first | (go_at_call 116; refine Calls.quiet_of_same (lessU _ _ _)))
    go_wp2
    go_ret2
    refine ⟨b, a, s + 1, rfl, .inr ⟨rfl, rfl⟩, by omega, (H0.out.drewN nq).count⟩
  · have hd : decide ((y : Int) < (x : Int)) = false := by simp [hxy]
    go_wp2
    go_quiet (first | (go_at_call 116; refine Calls.quiet_of_same (lessU _ _ _)))
    go_wp2
    go_ret2
    refine ⟨a, b, s, rfl, .inl ⟨rfl, rfl⟩, by omega, H0.out.drewN nq⟩

set_option maxRecDepth 100000 in
set_option maxHeartbeats 4000000 in
theorem medianU (B g n cap a b c sp s : Nat) (d : Array Nat) (w0 w : World) (h : SwIn w0 w B g n cap d sp s) (ha : a < n) (hb : b < n) (hc : c < n) (hs : s ≤ 900) :
    Calls Tryz.prog 193 #[.slice (some ⟨g, 0, none⟩) n cap, .int .i64 (a : Int), .int .i64 (b : Int), .int .i64 (c : Int), .pointer (some ⟨sp, 0, none⟩)] w fun e w' => ∃ x t : Nat, e = .returned (.int .i64 (x : Int)) ∧ (x = a ∨ x = b ∨ x = c) ∧ t ≤ s + 3 ∧ SwIn w0 w' B g n cap d sp t := by
  have H0 : Hid (SwIn w0 w B g n cap d sp s) := h
  clear h
  go_enter Tryz.func193, Tryz.ntmps193
  go_wp2_with fail
  refine (order2U B g n cap a b sp s d w0 w H0.out ha hb (by omega)).mono ?_
  rintro e w1 ⟨x1, y1, t1, rfl, h1, ht1, hw1⟩
  have H1 : Hid (SwIn w0 w1 B g n cap d sp t1) := hw1
  clear hw1
  go_wp2_with fail
  refine (order2U B g n cap y1 c sp t1 d w0 w1 H1.out (by omega) hc (by omega)).mono ?_
  rintro e w2 ⟨x2, y2, t2, rfl, h2, ht2, hw2⟩
  have H2 : Hid (SwIn w0 w2 B g n cap d sp t2) := hw2
  clear hw2
  go_wp2_with fail
  refine (order2U B g n cap x1 x2 sp t2 d w0 w2 H2.out (by omega) (by omega) (by omega)).mono ?_
  rintro e w3 ⟨x3, y3, t3, rfl, h3, ht3, hw3⟩
  have H3 : Hid (SwIn w0 w3 B g n cap d sp t3) := hw3
  clear hw3
  go_wp2
  go_ret
  exact ⟨y3, t3, rfl, by omega, by omega, H3.out⟩
set_option maxRecDepth 100000 in
set_option maxHeartbeats 4000000 in
theorem medAdjU (B g n cap a sp s : Nat) (d : Array Nat) (w0 w : World) (h : SwIn w0 w B g n cap d sp s) (ha1 : 1 ≤ a) (ha : a + 1 < n) (hn : n ≤ 1000000000) (hs : s ≤ 900) :
    Calls Tryz.prog 192 #[.slice (some ⟨g, 0, none⟩) n cap, .int .i64 (a : Int), .pointer (some ⟨sp, 0, none⟩)] w fun e w' => ∃ x t : Nat, e = .returned (.int .i64 (x : Int)) ∧ (x = a - 1 ∨ x = a ∨ x = a + 1) ∧ t ≤ s + 3 ∧ SwIn w0 w' B g n cap d sp t := by
  have H0 : Hid (SwIn w0 w B g n cap d sp s) := h
  have j1 : IntKind.i64.wrap ((a : Int) - 1) = ((a - 1 : Nat) : Int) := by rw [IntKind.wrap_i64]; omega
  have j2 : IntKind.i64.wrap ((a : Int) + 1) = ((a + 1 : Nat) : Int) := by rw [IntKind.wrap_i64]; omega
  clear h
  go_enter Tryz.func192, Tryz.ntmps192
  go_wp2_with fail
  refine (medianU B g n cap (a - 1) a (a + 1) sp s d w0 w H0.out (by omega) (by omega) ha hs).mono ?_
  rintro e w1 ⟨x1, t1, rfl, h1, ht1, hw1⟩
  have H1 : Hid (SwIn w0 w1 B g n cap d sp t1) := hw1
  clear hw1
  go_wp2
  go_ret
  exact ⟨x1, t1, rfl, h1, ht1, H1.out⟩
end Go.Proofs.YtbdhmkfdofkloaaGreatDoor
