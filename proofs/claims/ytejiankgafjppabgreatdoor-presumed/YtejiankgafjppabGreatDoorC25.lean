import Derived.Test.YtejiankgafjppabGreatDoorC24
import Derived.Test.YtejiankgafjppabGreatDoorC21
import Derived.Test.YtejiankgafjppabGreatDoorC22
/- HOSTS: NewHost, close, Open over nothing. -/
namespace Go.Proofs.YtejiankgafjppabGreatDoor
open Go.RowKit Go.Maps
open Sc

set_option maxRecDepth 100000 in
set_option maxHeartbeats 1000000 in
theorem close_any (hp p : Nat) (up : Bool) (lv : Value) (hlv : ∃ x, lv = .pointer x) (w : World) (hh : w.heap[hp]? = some (hostO p up lv)) :
    Calls Tryz.prog 43 #[.pointer (some ⟨hp, 0, none⟩)] w fun e w' => e = .returned (.tuple #[]) ∧ w'.heap[hp]? = some (hostO p false (.pointer none)) ∧ Fr [hp] w w' := by
  obtain ⟨x, rfl⟩ := hlv
  have c3 := blk_cell hh 3
  have c4 := blk_cell hh 4
  have c5 := blk_cell hh 5
  have c6 := blk_cell hh 6
  have c7 := blk_cell hh 7
  have f3 := blk_free hh 3
  have f4 := blk_free hh 4
  have f5 := blk_free hh 5
  have f6 := blk_free hh 6
  have f7 := blk_free hh 7
  simp at c3 c4 c5 c6 c7
  have HH : Hid (w.heap[hp]? = some (hostO p up (.pointer x))) := hh
  clear hh
  go_enter Tryz.func43, Tryz.ntmps43
  go_wp2
  go_end0
  refine ⟨rfl, ?_, ((((Fr.set1 (by simp) _ _).trans (Fr.set1 (by simp) _ _)).trans (Fr.set1 (by simp) _ _)).trans (Fr.set1 (by simp) _ _)).trans (Fr.set1 (by simp) _ _)⟩
  have := blk_set (blk_set (blk_set (blk_set (blk_set HH.out 3 (.bool false)) 4 (.pointer none)) 5 (.pointer none)) 6 (.pointer none)) 7 (.pointer none)
  simp at this
  exact this
set_option maxRecDepth 100000 in
set_option maxHeartbeats 1000000 in
theorem newHost_any (w : World) (n : Nat) (hn : n ≤ 67108864) :
    Calls Tryz.prog 20 #[.int .i64 1, .int .i64 0] w fun e w' => ∃ hp p bD bN, e = .returned (.pointer (some ⟨hp, 0, none⟩)) ∧ w'.heap[hp]? = some (hostO p false (.pointer none)) ∧ DiskIn w' w.heap.size p bD bN (.slice none 0 0) ⟨fun _ => none, fun _ => none, [], -1, -1, false⟩ n 0 0 ∧ w.heap.size ≤ hp ∧ Below w.heap.size w w' := by
  have hmm := @run_makeMap Tryz.prog
  go_enter Tryz.func20, Tryz.ntmps20
  go_wp2_with fail
  obtain ⟨W, hW⟩ : ∃ W, W = ((w.alloc (.map #[] 0)).alloc (.cells #[.map (some w.heap.size), .map none, .slice none 0 0, .int .i64 (-1), .int .i64 (-1), .bool false] 100)).alloc (hostO (w.heap.size + 1) false (.pointer none)) := ⟨_, rfl⟩
  have hW2 : W = ((w.alloc (.map #[] 0)).alloc (.cells #[.map (some w.heap.size), .map none, .slice none 0 0, .int .i64 (-1), .int .i64 (-1), .bool false] 100)).alloc (.cells #[.int .i64 1, .int .i64 0, .pointer (some ⟨w.heap.size + 1, 0, none⟩), .bool false, .pointer none, .pointer none, .pointer none, .pointer none] 87) := hW
  rw [← hW2]
  clear hW2
  have hsz : W.heap.size = w.heap.size + 3 := by rw [hW]; simp
  have hb0 : Below w.heap.size w W := by rw [hW]; exact (((Below.refl _ w).alloc (Nat.le_refl _) _).alloc (by simp) _).alloc (by simp; omega) _
  have hfm : FileMap W w.heap.size 0 (fun _ => none) := by rw [hW]; exact ((FileMap.made w).alloc _).alloc _
  have hdb : W.heap[w.heap.size + 1]? = some (.cells #[.map (some w.heap.size), .map none, .slice none 0 0, .int .i64 (-1), .int .i64 (-1), .bool false] 100) := by
    rw [hW, Below.heap_alloc _ _ (w.heap.size + 1) (by simp)]; have := heap_alloc_new (w.alloc (.map #[] 0)) (.cells #[.map (some w.heap.size), .map none, .slice none 0 0, .int .i64 (-1), .int .i64 (-1), .bool false] 100); rw [World.size_alloc] at this; exact this
  have hhb : W.heap[w.heap.size + 2]? = some (hostO (w.heap.size + 1) false (.pointer none)) := by
    rw [hW]; have := heap_alloc_new ((w.alloc (.map #[] 0)).alloc (.cells #[.map (some w.heap.size), .map none, .slice none 0 0, .int .i64 (-1), .int .i64 (-1), .bool false] 100)) (hostO (w.heap.size + 1) false (.pointer none)); rw [World.size_alloc, World.size_alloc] at this; exact this
  clear hW
  have HH : Hid (W.heap[w.heap.size + 2]? = some (hostO (w.heap.size + 1) false (.pointer none))) := hhb
  refine (up_any w.heap.size (w.heap.size + 1) w.heap.size n 0 (.slice none 0 0) (.map none) ⟨fun _ => none, fun _ => none, [], -1, -1, false⟩ W hdb ⟨by omega, by omega, by omega⟩ hfm (by omega) hn (by intro k t ht; cases ht)).mono ?_
  rintro e w1 ⟨rfl, hd1, hf1⟩
  have hh1 : w1.heap[w.heap.size + 1 + 1]? = some (hostO (w.heap.size + 1) false (.pointer none)) := (hf1.block (w.heap.size + 2) (by omega) (by simp)).trans HH.out
  have hb1 : Below w.heap.size w w1 := hb0.trans (hf1.below (by omega) (by intro k hk; simp at hk; omega))
  have H1 : Hid (DiskIn w1 w.heap.size (w.heap.size + 1) w.heap.size W.heap.size (.slice none 0 0) ⟨fun _ => none, fun _ => none, [], -1, -1, false⟩ n 0 0 ∧ Below w.heap.size w w1 ∧ w1.heap[w.heap.size + 1 + 1]? = some (hostO (w.heap.size + 1) false (.pointer none))) := ⟨hd1, hb1, hh1⟩
  clear hd1 hf1 hh1 hb1 hdb hhb hfm hb0
  go_wp2
  go_ret
  exact ⟨w.heap.size + 1 + 1, w.heap.size + 1, w.heap.size, W.heap.size, rfl, H1.out.2.2, H1.out.1, by omega, H1.out.2.1⟩
end Go.Proofs.YtejiankgafjppabGreatDoor
/- HOSTS: Open over nothing. -/
namespace Go.Proofs.YtejiankgafjppabGreatDoor
open Go.RowKit
open Sc

section
variable {w w' : World} {B p bD bN n nD nN : Nat} {pv : Value} {d : ADisk}
theorem DiskIn.geD (h : DiskIn w B p bD bN pv d n nD nN) {k : Nat} (hk : OwnD p w k) : B ≤ k := by
  have := (h.ownD k).1 hk
  simp at this
  rcases this with e | e | e | e
  · rw [e]; exact h.base.1
  · rw [e]; exact h.base.2.1
  · rw [e]; exact h.base.2.2.1
  · exact (h.pen.lt k e).1
theorem DFr.below (hf : DFr p w w') (h : DiskIn w B p bD bN pv d n nD nN) : Below B w w' :=
  ⟨hf.os, hf.tape, hf.output, hf.size, fun k hk => hf.block k (Nat.lt_of_lt_of_le hk h.base.2.2.2) (fun ho => by have := h.geD ho; omega)⟩
end
theorem OFr.below {w w' : World} {B lp p bD bN n nD nN : Nat} {pv sv rv : Value} {l : ALog} {d : ADisk} (hf : OFr lp p w w') (h : LogIn w B lp p bD bN pv sv rv l d n nD nN) : Below B w w' :=
  ⟨hf.os, hf.tape, hf.output, hf.size, fun _ hk => hf.low h hk⟩
/-- a block of another kind was written -/
theorem LogIn.other {w w' : World} {B lp p bD bN n nD nN q : Nat} {pv sv rv : Value} {l : ALog} {d : ADisk} {c : Array Value} {t : TypeId} (h : LogIn w B lp p bD bN pv sv rv l d n nD nN) (hf : Fr [q] w w') (hq : w.heap[q]? = some (.cells c t (0, 0))) (h1 : t ≠ 100) (h2 : t ≠ 150) (h3 : t ≠ 229) (h4 : t ≠ 28) (h5 : t ≠ 288) (h6 : t ≠ 9) : LogIn w' B lp p bD bN pv sv rv l d n nD nN := by
  have ho := h.free hq h1 h2 h3 h4 h5
  rw [h.own] at ho
  simp only [not_or] at ho
  refine h.turned (h.disk.fr hf ?_ ?_ ?_ ?_ ?_) hf ?_ (Nat.le_refl _)
  · simpa using fun e => ho.2.1 e.symm
  · simpa using fun e => ho.2.2.1 e.symm
  · simpa using fun e => ho.2.2.2.1 e.symm
  · intro g hg; simp; intro e; subst e; exact ho.2.2.2.2.1 hg
  · intro r hr x; simp at hr; subst hr; rw [hq]; intro e; cases e; exact h6 rfl
  · intro r hr _; simp at hr; subst hr; exact ⟨ho.1, ho.2.2.2.2.2.1, ho.2.2.2.2.2.2⟩
set_option maxRecDepth 100000 in
set_option maxHeartbeats 4000000 in
theorem hOpen_empty (B hp p bD bN n nD : Nat) (pv : Value) (d : ADisk) (a b c k : Int) (w : World) (hh : w.heap[hp]? = some (hostO p false (.pointer none))) (h : DiskIn w B p bD bN pv d n nD 0) (hB : 2 ≤ B) (hhp : B ≤ hp) (hmet : Met w) (hdn : d.down = false) (hno : d.now markNm = none)
    (hr : ((log0 1).opens (d.knob a b)).2.2 = 0) (hdn2 : ((log0 1).opens (d.knob a b)).2.1.down = false) :
    Calls Tryz.prog 18 #[.pointer (some ⟨hp, 0, none⟩), fallV a b c k] w fun e w' => e = .returned (.int .i64 0) ∧ ∃ lp, HostIn w' B hp lp p bD bN ((log0 1).opens (d.knob a b)).1 (((log0 1).opens (d.knob a b)).2.1.knob (-1) (-1)) n ∧ Below B w w' := by
  obtain ⟨W, hW⟩ : ∃ W, W = w.alloc (fallO a b c k) := ⟨_, rfl⟩
  have hf0 : Fr [] w W := by rw [hW]; exact (Fr.refl [] w).alloc _
  have hd0 := h.new hf0
  have hpl := (Array.getElem?_eq_some_iff.1 hh).1
  have hh0 : W.heap[hp]? = some (hostO p false (.pointer none)) := (hf0.block hp hpl (by simp)).trans hh
  have hx0 : W.heap[w.heap.size]? = some (fallO a b c k) := by rw [hW]; exact heap_alloc_new w _
  have hb0 : Below B w W := hf0.below h.base.2.2.2 (by simp)
  have x0 := blk_cell hx0 0
  have x1 := blk_cell hx0 1
  have x2 := blk_cell hx0 2
  have x3 := blk_cell hx0 3
  simp at x0 x1 x2 x3
  rw [hW] at x0 x1 x2 x3
  have hmet0 : Met W := hmet.below hb0 (by omega)
  have HH : Hid (W.heap[hp]? = some (hostO p false (.pointer none)) ∧ W.heap[w.heap.size]? = some (fallO a b c k) ∧ DiskIn W B p bD bN pv d n nD 0 ∧ Below B w W) := ⟨hh0, hx0, hd0, hb0⟩
  clear hh hf0 hd0 hh0 hx0 hb0 h hmet
  go_enter Tryz.func18, Tryz.ntmps18
  go_wp2_with fail
  rw [← hW]
  clear hW x0 x1 x2 x3
  refine (before_any hp p bD bN pv _ false d.down d.left d.full a b c k W HH.out.1 HH.out.2.2.1.blk).mono ?_
  rintro e w1 ⟨rfl, hb1, hf1⟩
  have hd1 : DiskIn w1 B p bD bN pv (d.knob a b) n nD 0 := HH.out.2.2.1.turn hf1 a b d.down hb1
  have hne : hp ≠ p := by intro e; have := HH.out.1; rw [e, HH.out.2.2.1.blk] at this; cases this
  have hh1 : w1.heap[hp]? = some (hostO p false (.pointer none)) := (hf1.block hp (Array.getElem?_eq_some_iff.1 HH.out.1).1 (by simpa using hne)).trans HH.out.1
  have hxne : w.heap.size ≠ p := by intro e; have := HH.out.2.1; rw [e, HH.out.2.2.1.blk] at this; cases this
  have hx1 : w1.heap[w.heap.size]? = some (fallO a b c k) := (hf1.block _ (Array.getElem?_eq_some_iff.1 HH.out.2.1).1 (by simpa using hxne)).trans HH.out.2.1
  have hbl1 : Below B W w1 := hf1.below HH.out.2.2.1.base.2.2.2 (by intro j hj; simp at hj; rw [hj]; exact HH.out.2.2.1.base.1)
  have H1 : Hid (w1.heap[hp]? = some (hostO p false (.pointer none)) ∧ w1.heap[w.heap.size]? = some (fallO a b c k) ∧ DiskIn w1 B p bD bN pv (d.knob a b) n nD 0 ∧ Below B w w1) := ⟨hh1, hx1, hd1, HH.out.2.2.2.trans hbl1⟩
  have hmet1 : Met w1 := hmet0.below hbl1 (by omega)
  clear hb1 hf1 hd1 hh1 hx1 hbl1
  go_wp2_with fail
  refine (close_any hp p false _ ⟨_, rfl⟩ w1 H1.out.1).mono ?_
  rintro e w2 ⟨rfl, hh2, hf2⟩
  have hd2 : DiskIn w2 B p bD bN pv (d.knob a b) n nD 0 := by
    refine H1.out.2.2.1.fr hf2 (by simpa using fun e => hne e.symm) ?_ ?_ ?_ ?_
    · simp; exact H1.out.2.2.1.dur.ne_cells H1.out.1
    · simp; exact H1.out.2.2.1.now.ne_cells H1.out.1
    · intro g hg; simp; intro e; subst e; exact own_ne H1.out.2.2.1.pen H1.out.1 (by decide) hg
    · intro q hq t; simp at hq; subst hq; rw [H1.out.1]; intro e; cases e
  have hxh : w.heap.size ≠ hp := by omega
  have hx2 : w2.heap[w.heap.size]? = some (fallO a b c k) := (hf2.block _ (Array.getElem?_eq_some_iff.1 H1.out.2.1).1 (by simpa using hxh)).trans H1.out.2.1
  have hbl2 : Below B w1 w2 := hf2.below H1.out.2.2.1.base.2.2.2 (by intro j hj; simp at hj; omega)
  have hc0 := blk_cell hh2 0
  have hc2 := blk_cell hh2 2
  simp at hc0 hc2
  have H2 : Hid (w2.heap[hp]? = some (hostO p false (.pointer none)) ∧ w2.heap[w.heap.size]? = some (fallO a b c k) ∧ DiskIn w2 B p bD bN pv (d.knob a b) n nD 0 ∧ Below B w w2) := ⟨hh2, hx2, hd2, H1.out.2.2.2.trans hbl2⟩
  have hmet2 : Met w2 := hmet1.below hbl2 (by omega)
  clear hh2 hf2 hd2 hx2 hbl2
  go_wp2_with fail
  refine (openLog_empty B p bD bN n nD pv (d.knob a b) w2 H2.out.2.2.1 hdn hno hr).mono ?_
  rintro e w3 ⟨lp, rfl, hlp, ⟨pv3, sv3, rv3, nD3, nN3, hl3⟩, hf3⟩
  have hh3 : w3.heap[hp]? = some (hostO p false (.pointer none)) := (hf3.block hp (Array.getElem?_eq_some_iff.1 H2.out.1).1 (H2.out.2.2.1.freeD H2.out.1 (by decide) (by decide))).trans H2.out.1
  have hx3 : w3.heap[w.heap.size]? = some (fallO a b c k) := (hf3.block _ (Array.getElem?_eq_some_iff.1 H2.out.2.1).1 (H2.out.2.2.1.freeD H2.out.2.1 (by decide) (by decide))).trans H2.out.2.1
  have hbl3 : Below B w2 w3 := hf3.below H2.out.2.2.1
  have hmet3 : Met w3 := hmet2.below hbl3 (by omega)
  obtain ⟨R, hR⟩ : ∃ R, R = (log0 1).opens (d.knob a b) := ⟨_, rfl⟩
  rw [← hR] at hl3 hr hdn2
  have HR : Hid (R = (log0 1).opens (d.knob a b)) := hR
  clear hR
  obtain ⟨W4, hW4⟩ : ∃ W4, W4 = (w3.setCell ⟨hp, 4, none⟩ (.pointer (some ⟨lp, 0, none⟩))).setCell ⟨hp, 3, none⟩ (.bool true) := ⟨_, rfl⟩
  have hh4 : W4.heap[hp]? = some (hostO p true (.pointer (some ⟨lp, 0, none⟩))) := by
    have := blk_set (blk_set hh3 4 (.pointer (some ⟨lp, 0, none⟩))) 3 (.bool true)
    simp at this
    rw [hW4]; exact this
  have hf4 : Fr [hp] w3 W4 := by rw [hW4]; exact (Fr.set1 (by simp) _ _).trans (Fr.set1 (by simp) _ _)
  have hx4 : W4.heap[w.heap.size]? = some (fallO a b c k) := (hf4.block _ (Array.getElem?_eq_some_iff.1 hx3).1 (by simpa using hxh)).trans hx3
  have hl4 := hl3.other hf4 hh3 (by decide) (by decide) (by decide) (by decide) (by decide) (by decide)
  have hbl4 : Below B w3 W4 := hf4.below hl3.disk.base.2.2.2 (by intro j hj; simp at hj; omega)
  have hmet4 : Met W4 := hmet3.below hbl4 (by omega)
  have y0 := blk_cell hx4 0
  have y1 := blk_cell hx4 1
  have y2 := blk_cell hx4 2
  have y3 := blk_cell hx4 3
  simp at y0 y1 y2 y3
  rw [hW4] at y0 y1 y2 y3
  have H4 : Hid (W4.heap[hp]? = some (hostO p true (.pointer (some ⟨lp, 0, none⟩))) ∧ LogIn W4 B lp p bD bN pv3 sv3 rv3 R.1 R.2.1 n nD3 nN3 ∧ Below B w W4) := ⟨hh4, hl4, (H2.out.2.2.2.trans hbl3).trans hbl4⟩
  have c3 := blk_cell hh3 3
  have c4 := blk_cell hh3 4
  have f3 := blk_free hh3 3
  have f4 := blk_free hh3 4
  have c2 := blk_cell hh3 2
  simp at c3 c4 c2
  clear hc0 hc2 hh3 hx3 hbl3 hl3 hf3 hh4 hf4 hx4 hl4 hbl4
  go_wp2_with fail
  rw [← hW4]
  clear hW4 y0 y1 y2 y3 c3 c4 f3 f4 c2
  have hbd := H4.out.2.1.disk.blk
  rw [hdn2] at hbd
  refine (after_well hp p bD bN pv3 _ true R.2.1.left R.2.1.full a b c k W4 H4.out.1 hbd).mono ?_
  rintro e w5 ⟨rfl, hb5, hf5⟩
  have hb5' := hb5
  rw [← hdn2] at hb5'
  obtain ⟨hl5, ho5⟩ := H4.out.2.1.knob (-1) (-1) hf5 hb5'
  have hmet5 : Met w5 := ho5.met H4.out.2.1 hB hmet4
  have hh5 := ho5.host H4.out.2.1 H4.out.1
  have H5 : Hid (w5.heap[hp]? = some (hostO p true (.pointer (some ⟨lp, 0, none⟩))) ∧ LogIn w5 B lp p bD bN pv3 sv3 rv3 R.1 (R.2.1.knob (-1) (-1)) n nD3 nN3 ∧ Below B w w5) := ⟨hh5, hl5, H4.out.2.2.trans (ho5.below H4.out.2.1)⟩
  clear hb5 hb5' hf5 hl5 ho5 hh5 hbd
  go_wp2_with fail
  refine (told_any 0 w5 hmet5).mono ?_
  rintro e w6 ⟨rfl, hf6⟩
  have HF6 : Hid (Fr [] w5 w6) := hf6
  clear hf6
  go_wp2
  go_ret
  have hR := HR.out
  subst hR
  have hl6 := H5.out.2.1.new HF6.out
  have ho6 := H5.out.2.1.newO HF6.out
  exact ⟨rfl, lp, ⟨ho6.host H5.out.2.1 H5.out.1, _, _, _, _, _, hl6⟩, H5.out.2.2.trans (ho6.below H5.out.2.1)⟩
end Go.Proofs.YtejiankgafjppabGreatDoor
/- A SHARD BESIDE ITS LOG: what turns of the one leaves the other. -/
namespace Go.Proofs.YtejiankgafjppabGreatDoor
open Go.RowKit Go.Maps
open Sc

section
variable {w w' : World} {B lp p bD bN n nD nN : Nat} {pv sv rv : Value} {l : ALog} {d : ADisk}
theorem LogIn.freeMap (h : LogIn w B lp p bD bN pv sv rv l d n nD nN) {b : Nat} (hb : ∃ es c, w.heap[b]? = some (.map es c)) (h1 : b ≠ bD) (h2 : b ≠ bN) : ¬ Own lp p w b := by
  obtain ⟨es, c, hb⟩ := hb
  rw [h.own]
  rintro (e | e | e | e | e | e | e)
  · subst e; rw [h.blk] at hb; cases hb
  · subst e; rw [h.disk.blk] at hb; cases hb
  · exact h1 e
  · exact h2 e
  · obtain ⟨c, hc⟩ := own_cells h.disk.pen e; rw [hc] at hb; cases hb
  · obtain ⟨c, hc⟩ := own_cells h.segs e; rw [hc] at hb; cases hb
  · obtain ⟨c, hc⟩ := own_cells h.recs e; rw [hc] at hb; cases hb
/-- what is not the log's was turned -/
theorem LogIn.apart {S : List Nat} (h : LogIn w B lp p bD bN pv sv rv l d n nD nN) (hf : Fr S w w') (hS : ∀ k ∈ S, k < w.heap.size → ¬ Own lp p w k ∧ ∀ t, w.heap[k]? ≠ some (textO t)) : LogIn w' B lp p bD bN pv sv rv l d n nD nN := by
  have key : ∀ k, k < w.heap.size → Own lp p w k → k ∉ S := fun k hk ho hm => (hS k hm hk).1 ho
  have lt : ∀ k, Own lp p w k → k < w.heap.size := fun k ho => by
    rcases (h.own k).1 ho with e | e | e | e | e | e | e
    · rw [e]; exact (Array.getElem?_eq_some_iff.1 h.blk).1
    · rw [e]; exact (Array.getElem?_eq_some_iff.1 h.disk.blk).1
    · rw [e]; exact h.disk.dur.lt
    · rw [e]; exact h.disk.now.lt
    · exact (h.disk.pen.lt k e).2
    · exact (h.segs.lt k e).2
    · exact (h.recs.lt k e).2
  have no : ∀ k, Own lp p w k → k ∉ S := fun k ho => key k (lt k ho) ho
  have hin : ∀ {k}, (k = lp ∨ k = p ∨ k = bD ∨ k = bN ∨ pv.ownBlock = some k ∨ sv.ownBlock = some k ∨ rv.ownBlock = some k) → k ∉ S := fun {k} hk => no k ((h.own k).2 hk)
  refine h.turned (h.disk.fr hf (hin (by simp)) (hin (by simp)) (hin (by simp)) (fun g hg => hin (by simp [hg])) (fun q hq t => ?_)) hf (fun k hk hl => ?_) (Nat.le_refl _)
  · by_cases hl : q < w.heap.size
    · exact (hS q hq hl).2 t
    · intro e; exact hl (Array.getElem?_eq_some_iff.1 e).1
  · have := (hS k hk hl).1
    rw [h.own] at this
    simp only [not_or] at this
    exact ⟨this.1, this.2.2.2.2.2.1, this.2.2.2.2.2.2⟩
end
/-- a shard and its log lie apart -/
structure ShLog (w : World) (sp gp bV bT bH bD bN lp : Nat) : Prop where
  led : w.heap[gp]? = some (ledO lp)
  ne : bV ≠ bD ∧ bV ≠ bN ∧ bT ≠ bD ∧ bT ≠ bN ∧ bH ≠ bD ∧ bH ≠ bN
section
variable {w w' : World} {B sp gp bV bT bH m lp p bD bN n nD nN : Nat} {pv sv rv : Value} {l : ALog} {d : ADisk} {s : AShard}
theorem ShIn.free (hs : ShIn w sp gp bV bT bH m s) (h : LogIn w B lp p bD bN pv sv rv l d n nD nN) (hx : ShLog w sp gp bV bT bH bD bN lp) : ∀ k ∈ [sp, gp, bV, bT, bH], ¬ Own lp p w k ∧ ∀ t, w.heap[k]? ≠ some (textO t) := by
  intro k hk
  simp at hk
  rcases hk with rfl | rfl | rfl | rfl | rfl
  · exact ⟨h.free hs.blk (by decide) (by decide) (by decide) (by decide) (by decide), fun t e => by rw [hs.blk] at e; cases e⟩
  · exact ⟨h.free hx.led (by decide) (by decide) (by decide) (by decide) (by decide), fun t e => by rw [hx.led] at e; cases e⟩
  · exact ⟨h.freeMap hs.vals.isMap hx.ne.1 hx.ne.2.1, fun t e => by obtain ⟨es, c, e2⟩ := hs.vals.isMap; rw [e2] at e; cases e⟩
  · exact ⟨h.freeMap hs.txns.isMap hx.ne.2.2.1 hx.ne.2.2.2.1, fun t e => by obtain ⟨es, c, e2⟩ := hs.txns.isMap; rw [e2] at e; cases e⟩
  · exact ⟨h.freeMap hs.holds.isMap hx.ne.2.2.2.2.1 hx.ne.2.2.2.2.2, fun t e => by obtain ⟨es, c, e2⟩ := hs.holds.isMap; rw [e2] at e; cases e⟩
/-- the log has turned: the shard is as it was -/
theorem ShIn.ofr (hs : ShIn w sp gp bV bT bH m s) (h : LogIn w B lp p bD bN pv sv rv l d n nD nN) (hx : ShLog w sp gp bV bT bH bD bN lp) (hf : OFr lp p w w') : ShIn w' sp gp bV bT bH m s ∧ ShLog w' sp gp bV bT bH bD bN lp := by
  have hfree := hs.free h hx
  have mv : ∀ {K V : Type} [DecidableEq K] {kt : TypeId} {KR : KeyRep Tryz.prog K kt} {ER : ElRep V} {b k : Nat} {L : List (K × V)}, MapAs KR ER w b k L → b ∈ [sp, gp, bV, bT, bH] → MapAs KR ER w' b k L := by
    intro K V _ kt KR ER b k L hM hb
    have hlt := hM.lt
    obtain ⟨es, ⟨es', c, h1, h2⟩, r⟩ := hM
    exact ⟨es, ⟨es', c, (hf.block b hlt (hfree b hb).1).trans h1, h2⟩, r⟩
  exact ⟨{ blk := (hf.block sp hs.lts.1 (hfree sp (by simp)).1).trans hs.blk, vals := mv hs.vals (by simp), txns := mv hs.txns (by simp), holds := mv hs.holds (by simp), ne := hs.ne, ticks := hs.ticks },
    { led := (hf.block gp (Array.getElem?_eq_some_iff.1 hx.led).1 (hfree gp (by simp)).1).trans hx.led, ne := hx.ne }⟩
/-- the shard has turned: the log is as it was -/
theorem LogIn.shard {S : List Nat} (h : LogIn w B lp p bD bN pv sv rv l d n nD nN) (hs : ShIn w sp gp bV bT bH m s) (hx : ShLog w sp gp bV bT bH bD bN lp) (hf : Fr S w w') (hS : ∀ k ∈ S, k ∈ [sp, bV, bT, bH]) : LogIn w' B lp p bD bN pv sv rv l d n nD nN ∧ ShLog w' sp gp bV bT bH bD bN lp := by
  have hfree := hs.free h hx
  have sub : ∀ k ∈ S, k ∈ [sp, gp, bV, bT, bH] := fun k hk => by have := hS k hk; simp at this ⊢; rcases this with e | e | e | e <;> simp [e]
  refine ⟨h.apart hf (fun k hk _ => hfree k (sub k hk)), { led := (hf.block gp (Array.getElem?_eq_some_iff.1 hx.led).1 (fun hm => ?_)).trans hx.led, ne := hx.ne }⟩
  have := hS gp hm
  simp at this
  have hled := hx.led
  rcases this with e | e | e | e
  · rw [e, hs.blk] at hled; simp at hled
  · obtain ⟨es, c, e2⟩ := hs.vals.isMap; rw [e, e2] at hled; cases hled
  · obtain ⟨es, c, e2⟩ := hs.txns.isMap; rw [e, e2] at hled; cases hled
  · obtain ⟨es, c, e2⟩ := hs.holds.isMap; rw [e, e2] at hled; cases hled
end
end Go.Proofs.YtejiankgafjppabGreatDoor
/- SHARDS: holdsOf. -/
namespace Go.Proofs.YtejiankgafjppabGreatDoor
open Go.RowKit Go.Maps
open Sc

theorem del_shorter {K V : Type} [DecidableEq K] {l : List (K × V)} {k : K} {v : V} (h : (k, v) ∈ l) : (alDel l k).length + 1 ≤ l.length := by
  have : (alDel l k).length < l.length := by
    unfold alDel
    rw [List.length_filter_lt_length_iff_exists]
    exact ⟨_, h, by simp⟩
  omega
theorem alLook_put {K V : Type} [DecidableEq K] {l : List (K × V)} {k j : K} {v : V} : alLook (alPut l k v) j = if j = k then some v else alLook l j := by
  by_cases e : j = k
  · subst e
    rw [if_pos rfl]
    simp [alLook, alPut]
  · rw [if_neg e]
    have h1 := alLook_del (rem := l) (k := k) (j := j)
    rw [if_neg e] at h1
    rw [← h1]
    have e2 : ¬ k = j := fun x => e x.symm
    simp [alLook, alPut, e2]
theorem mkHeld (W : World) : (Instr.makeMap 210 none).run Tryz.prog W = .ok (.map (some W.heap.size)) (W.alloc (.map #[] 0)) := by
  simp [Instr.makeMap]
set_option maxRecDepth 100000 in
set_option maxHeartbeats 4000000 in
theorem holdsOf_any (sp lg bV bT bH n t : Nat) (s : AShard) (w : World) (h : ShIn w sp lg bV bT bH n s) (ht : t < 18446744073709551616) (hn : n < maxLen) :
    Calls Tryz.prog 126 #[.pointer (some ⟨sp, 0, none⟩), .int .u64 (t : Int)] w fun e w' => ∃ b L, e = .returned (.map (some b)) ∧ w.heap.size ≤ b ∧ MapAs KS EG w' b n L ∧ (∀ k, alLook L k = alLook s.holds (t, k)) ∧ Fr [] w w' := by
  have HI : Hid (ShIn w sp lg bV bT bH n s) := h
  have c3 := blk_cell h.blk 3
  simp at c3
  have hsp : sp < w.heap.size := (Array.getElem?_eq_some_iff.1 h.blk).1
  clear h
  have hmk := mkHeld
  go_enter Tryz.func126, Tryz.ntmps126
  go_wp2_with (first
    | (at_range; refine wpList_map_range (KR := KH) (ER := EG) rfl _ 134 129 rfl Tryz.underlying134 bH n s.holds rfl (HI.out.holds.fr ((Fr.refl [] w).alloc _) (by simp)) ?_; intro w0 hrg0 hg0 hs0)
    | go_in)
  have hsz1 : (w.alloc (.map #[] 0)).heap.size = w.heap.size + 1 := by simp
  rw [hsz1] at hrg0 hs0 ⊢
  clear hsz1
  go_frame
  have HF0 : Hid (Fr [] w w0) := ((Fr.refl [] w).alloc _).trans (Fr.of_grown hg0)
  have HM0 : Hid (MapAs KS EG w0 w.heap.size 0 []) := (MapAs.made w).fr (Fr.of_grown hg0) (by simp)
  have HR0 : Hid (RangesAs KH EG w0 bH (w.heap.size + 1) n s.holds s.holds) := hrg0
  have hlen := HI.out.holds.len
  clear hrg0 hg0
  go_loopw [6] (fun _ wr => ∃ rem L m, Hid (RangesAs KH EG wr bH (w.heap.size + 1) n s.holds rem ∧ MapAs KS EG wr w.heap.size m L ∧ m + rem.length ≤ n ∧ (∀ k, alLook L k = if (alLook rem (t, k)).isSome = true then none else alLook s.holds (t, k)) ∧ Fr [] w wr ∧ w.heap.size + 2 ≤ wr.heap.size)) (fun _ wr => wr.rangeLeft bH (w.heap.size + 1))
  case atStart =>
    refine ⟨s.holds, [], 0, HR0.out, HM0.out, by omega, fun k => ?_, HF0.out, by omega⟩
    cases alLook s.holds (t, k) with
    | none => rfl
    | some v => rfl
  case round =>
    obtain ⟨rem, L, m, HX⟩ := hrel
    have hrg := HX.out.1
    go_wp2_with (first
      | (at_next; refine wpList_map_next (KR := KH) (ER := EG) rfl _ rfl bH (w.heap.size + 1) n s.holds rem rfl hrg ?_ ?_)
      | go_in)
    · intro hnil
      go_wp2
      go_ret
      refine ⟨w.heap.size, L, rfl, Nat.le_refl _, HX.out.2.1.mono (by have := HX.out.2.2.1; omega), fun k => ?_, HX.out.2.2.2.2.1⟩
      rw [HX.out.2.2.2.1 k, hnil]
      rfl
    · intro tx k2 x w2 hm hrg2 hlt hg2 hs2 hen
      have hms : ((tx, k2), x) ∈ s.holds := by
        obtain ⟨_, _, _, _, _, _, _, _, h6, _⟩ := hrg
        exact h6 _ hm
      have hok : tx < 18446744073709551616 ∧ k2.size ≤ maxLen := by
        obtain ⟨_, _, _, _, hok⟩ := hrg.owns
        exact (hok _ hms).1
      have HLT : Hid (w2.rangeLeft bH (w.heap.size + 1) < wr.rangeLeft bH (w.heap.size + 1)) := hlt
      have HRG2 : Hid (RangesAs KH EG w2 bH (w.heap.size + 1) n s.holds (alDel rem (tx, k2))) := hrg2
      have HF2 : Hid (Fr [] w w2) := HX.out.2.2.2.2.1.andThen (Fr.of_grown1 hg2) (fun j hj hl => by simp at hj; omega)
      have HM2 : Hid (MapAs KS EG w2 w.heap.size m L) := HX.out.2.1.fr (Fr.of_grown1 hg2) (by simp)
      have hsz2 : w.heap.size + 2 ≤ w2.heap.size := by have := HX.out.2.2.2.2.2; omega
      have hen' : (Instr.entry (.pointer (some ⟨w.heap.size + 1, 0, none⟩))).run Tryz.prog w2 = .ok (.tuple #[.agg #[.int .u64 (tx : Int), .string k2], .agg #[.int .u8 (x.way : Int), .string x.val]]) w2 := hen
      have HMM : Hid (((tx, k2), x) ∈ rem ∧ ((tx, k2), x) ∈ s.holds) := ⟨hm, hms⟩
      have HONE : Hid (Once1 s.holds) := by obtain ⟨_, _, _, h3, _⟩ := hrg.owns; exact h3
      clear hrg hrg2 hm hms hen hg2 hs2 hlt
      have hmb : m < maxLen := by
        have h1 := del_shorter HMM.out.1
        have h2 := HX.out.2.2.1
        omega
      by_cases htt : tx = t
      · subst htt
        go_wp2_with (first
          | (at_mapUpdate; refine wpList_map_put (KR := KS) (ER := EG) rfl _ _ _ 210 129 rfl Tryz.underlying210 w.heap.size m L rfl (HM2.out.fr (((Fr.refl [] w2).alloc _).alloc _) (by simp)) hmb k2 hok.2 rfl x trivial rfl ?_; intro w3 hm3 hg3)
          | go_in)
        go_frame
        go_wp2
        have hf3 : Fr [w.heap.size] w2 w3 := (((Fr.refl [w.heap.size] w2).alloc _).alloc _).trans (Fr.of_grown1 hg3)
        have hbl : bH < w.heap.size := HI.out.lts.2.2.2.1
        obtain ⟨r1, r2⟩ := HRG2.out.fr hf3 (by simp; omega) (by simp)
        go_roundw
        case rel =>
          refine ⟨alDel rem (tx, k2), alPut L k2 x, m + 1, r1, hm3, ?_, fun k => ?_, HF2.out.andThen hf3 (fun j hj hl => by simp at hj; omega), Nat.le_trans hsz2 hf3.size⟩
          · have h1 := del_shorter HMM.out.1
            have h2 := HX.out.2.2.1
            omega
          · rw [alLook_put, alLook_del]
            by_cases e : k = k2
            · subst e
              rw [if_pos rfl, if_pos (rfl : (tx, k) = (tx, k))]
              exact (alLook_of HONE.out HMM.out.2).symm
            · have e1 : ¬ (tx, k) = (tx, k2) := by simp [e]
              rw [if_neg e, if_neg e1]
              exact HX.out.2.2.2.1 k
        case measure => rw [r2]; exact HLT.out
      · have hb : ((tx : Int) == (t : Int)) = false := by simp; omega
        go_wp2
        obtain ⟨r1, r2⟩ := HRG2.out.fr (((Fr.refl [] w2).alloc (.cells #[.int .u64 (tx : Int), .string k2] 182)).alloc (.cells #[.int .u8 (x.way : Int), .string x.val] 129)) (by simp) (by simp)
        refine ⟨⟨alDel rem (tx, k2), L, m, r1, HM2.out.fr (((Fr.refl [] w2).alloc _).alloc _) (by simp), ?_, fun k => ?_, HF2.out.trans (((Fr.refl [] w2).alloc _).alloc _), Nat.le_trans hsz2 (by simp; omega)⟩, by rw [r2]; exact HLT.out⟩
        · have h1 := del_shorter HMM.out.1
          have h2 := HX.out.2.2.1
          omega
        · have e1 : ¬ (t, k) = (tx, k2) := fun e => htt (congrArg Prod.fst e).symm
          rw [alLook_del, if_neg e1]
          exact HX.out.2.2.2.1 k
end Go.Proofs.YtejiankgafjppabGreatDoor
/- SHARDS: anyWrites. -/
namespace Go.Proofs.YtejiankgafjppabGreatDoor
open Go.RowKit Go.Maps
open Sc

def anyW (L : List (ByteArray × AGrip)) : Bool := L.any fun p => p.2.writes
set_option maxRecDepth 100000 in
set_option maxHeartbeats 4000000 in
theorem anyWrites_any (b n : Nat) (L : List (ByteArray × AGrip)) (w : World) (h : MapAs KS EG w b n L) :
    Calls Tryz.prog 127 #[.map (some b)] w fun e w' => e = .returned (.bool (anyW L)) ∧ Fr [] w w' := by
  have HI : Hid (MapAs KS EG w b n L) := h
  clear h
  go_enter Tryz.func127, Tryz.ntmps127
  go_wp2_with (first
    | (at_range; refine wpList_map_range (KR := KS) (ER := EG) rfl _ 210 129 rfl Tryz.underlying210 b n L rfl HI.out ?_; intro w0 hrg0 hg0 hs0)
    | go_in)
  go_frame
  have HF0 : Hid (Fr [] w w0) := Fr.of_grown hg0
  have HR0 : Hid (RangesAs KS EG w0 b w.heap.size n L L) := hrg0
  clear hrg0 hg0
  go_loopw [4] (fun _ wr => ∃ rem, Hid (RangesAs KS EG wr b w.heap.size n L rem ∧ (∀ p ∈ L, p ∉ rem → p.2.writes = false) ∧ Fr [] w wr ∧ w.heap.size + 1 ≤ wr.heap.size)) (fun _ wr => wr.rangeLeft b w.heap.size)
  case atStart => exact ⟨L, HR0.out, fun p h1 h2 => absurd h1 h2, HF0.out, by omega⟩
  case round =>
    obtain ⟨rem, HX⟩ := hrel
    have hrg := HX.out.1
    go_wp2_with (first
      | (at_next; refine wpList_map_next (KR := KS) (ER := EG) rfl _ rfl b w.heap.size n L rem rfl hrg ?_ ?_)
      | go_in)
    · intro hnil
      go_wp2
      go_ret
      refine ⟨?_, HX.out.2.2.1⟩
      have hno : anyW L = false := by
        unfold anyW
        rw [List.any_eq_false]
        intro p hp
        rw [HX.out.2.1 p hp (by rw [hnil]; simp)]
        simp
      rw [hno]; rfl
    · intro k x w2 hm hrg2 hlt hg2 hs2 hen
      have hms : (k, x) ∈ L := by
        obtain ⟨_, _, _, _, _, _, _, _, h6, _⟩ := hrg
        exact h6 _ hm
      have HF2 : Hid (Fr [] w w2) := HX.out.2.2.1.andThen (Fr.of_grown1 hg2) (fun j hj hl => by simp at hj; omega)
      have hsz2 : w.heap.size + 1 ≤ w2.heap.size := by have := HX.out.2.2.2; omega
      have hen' : (Instr.entry (.pointer (some ⟨w.heap.size, 0, none⟩))).run Tryz.prog w2 = .ok (.tuple #[.string k, .agg #[.int .u8 (x.way : Int), .string x.val]]) w2 := hen
      have GO : Hid (x.writes = false → ∀ W, Fr [] w2 W → (∃ rem, Hid (RangesAs KS EG W b w.heap.size n L rem ∧ (∀ p ∈ L, p ∉ rem → p.2.writes = false) ∧ Fr [] w W ∧ w.heap.size + 1 ≤ W.heap.size)) ∧ W.rangeLeft b w.heap.size < wr.rangeLeft b w.heap.size) := fun hc W hW => by
        obtain ⟨r1, r2⟩ := hrg2.fr hW (by simp) (by simp)
        refine ⟨⟨alDel rem k, r1, fun p hp hn => ?_, HF2.out.trans hW, Nat.le_trans hsz2 hW.size⟩, by rw [r2]; exact hlt⟩
        by_cases hpr : p ∈ rem
        · have hpo : p.1 = k := Decidable.byContradiction fun hne => hn (List.mem_filter.2 ⟨hpr, by simp [hne]⟩)
          have hone : Once1 L := by obtain ⟨_, _, _, h3, _⟩ := hrg.owns; exact h3
          have := hone.same hp hms hpo
          rw [this]; exact hc
        · exact HX.out.2.1 p hp hpr
      have YES : Hid (x.writes = true → anyW L = true) := fun hc => by
        unfold anyW
        rw [List.any_eq_true]
        exact ⟨_, hms, hc⟩
      clear hrg hrg2 hm hms hen hg2 hs2 hlt
      by_cases hx : x.way = 0
      · have hb : ((x.way : Int) != 0) = false := by simp [hx]
        have GO2 : Hid _ := GO.out (by simp [AGrip.writes, hx])
        clear GO YES hx
        go_wp2
        exact GO2.out _ (((Fr.refl [] w2).alloc _).alloc _)
      · have hb : ((x.way : Int) != 0) = true := by simp [hx]
        have YES2 : Hid _ := YES.out (by simp [AGrip.writes, hx])
        clear GO YES hx
        go_wp2
        go_ret
        exact ⟨by rw [YES2.out]; rfl, HF2.out.trans (((Fr.refl [] w2).alloc _).alloc _)⟩
end Go.Proofs.YtejiankgafjppabGreatDoor
/- MAPS, BY LISTS OF WHAT THEY HOLD: to delete while ranging. -/
namespace Go.Proofs.YtejiankgafjppabGreatDoor
open Go.RowKit Go.Maps
open Sc

section
variable {P : Program} {K V : Type} [DecidableEq K] {kt : TypeId} {KR : KeyRep P K kt} {ER : ElRep V} {w : World} {ops : Array Oper} {rest : List Oper} {o : Oper} {a : Act} {Q : Exit → Act → World → Prop}
/-- delete(m, k) in a round, at the operation -/
theorem wpList_map_ddel (hg : o.guard = none) (m x : Operand) (t e : TypeId) (hop : o.op = Op.call { callee := Callee.builtin Builtin.delete, args := #[m, x], argTypes := #[t, kt] }) (ht : P.underlying t = some (.map kt e)) (b r n : Nat) (l rem : List (K × V)) (hm : a.eval m = .map (some b)) (hM : RangesAs KR ER w b r n l rem)
    (k : K) (hk : KR.ok k) (hx : a.eval x = KR.kv k)
    (hK : ∀ w', RangesAs KR ER w' b r n (alDel l k) (alDel rem k) → w'.rangeLeft b r ≤ w.rangeLeft b r → w.grownBy w' (some b) → wpList P ops Q rest (a.put o.dst (.tuple #[])) w') : wpList P ops Q (o :: rest) a w := by
  obtain ⟨es, left, cnt, hrg, hp, h1, hok, h5, h6, h7⟩ := hM
  refine wpList_delete_ranges w hg m x t kt hop e KR.law ht ER.R b r n _ left cnt hm hrg _ (KR.kl k) hx (KR.key k hk) ?_
  intro w' cnt' hrg' hle htr
  have hle' : w'.rangeLeft b r ≤ w.rangeLeft b r := by rw [hrg'.left_eq, hrg.left_eq]; exact hle
  rw [DataW.del_eq] at hrg'
  refine hK w' ⟨_, _, cnt', hrg', filter_of hp hok hk, h1.del k, fun p hp => hok p (List.mem_filter.1 hp).1, h5.del k, fun p hp => ?_, fun j hj => ?_⟩ hle' htr.grown
  · have := List.mem_filter.1 hp
    exact List.mem_filter.2 ⟨h6 p this.1, this.2⟩
  · rw [h7 j hj, KR.same hj hk, alLook_del]
    by_cases e : j = k
    · simp [e]
    · simp [e]
end
end Go.Proofs.YtejiankgafjppabGreatDoor
/- SHARDS: release, forget. -/
namespace Go.Proofs.YtejiankgafjppabGreatDoor
open Go.RowKit Go.Maps
open Sc

set_option maxRecDepth 100000 in
set_option maxHeartbeats 4000000 in
theorem release1_any (bs sp lg bV bT bH n tx : Nat) (k : ByteArray) (x : AGrip) (s : AShard) (w : World) (h : ShIn w sp lg bV bT bH n s) (hbs : w.heap[bs]? = some (.cells #[.pointer (some ⟨sp, 0, none⟩)] 83)) (htx : tx < 18446744073709551616) :
    Calls Tryz.prog 177 #[.agg #[.int .u64 (tx : Int), .string k], .agg #[.int .u8 (x.way : Int), .string x.val], .pointer (some ⟨bs, 0, none⟩)] w fun e w' => e = .returned (.bool (decide ((s.txn tx).state = 0))) ∧ Fr [] w w' := by
  have HI : Hid (ShIn w sp lg bV bT bH n s) := h
  have d0 := blk_cell hbs 0
  simp at d0
  have hbl : bs < w.heap.size := (Array.getElem?_eq_some_iff.1 hbs).1
  have z1 : ¬ bs = w.heap.size := by omega
  have z2 : ¬ bs = w.heap.size + 1 := by omega
  clear h hbs
  go_enter Tryz.func177, Tryz.ntmps177
  go_wp2_with fail
  refine (state_any sp lg bV bT bH n tx s _ (HI.out.fr (((Fr.refl [] w).alloc _).alloc _) (by simp) (by simp) (by simp) (by simp)) htx).mono ?_
  rintro e w1 ⟨rfl, q, rfl⟩
  go_wp2
  go_ret
  refine ⟨?_, frDrewN (((Fr.refl [] w).alloc _).alloc _) q⟩
  congr 2
  by_cases e : (s.txn tx).state = 0
  · simp [e]
  · simp [e]
/-- does a transaction that is known hold it? -/
def aliveH (s : AShard) (p : (Nat × ByteArray) × AGrip) : Bool := !decide ((s.txn p.1.1).state = 0)
set_option maxRecDepth 100000 in
set_option maxHeartbeats 4000000 in
theorem deleteH_any (bs sp lg bV bT bH n : Nat) (s : AShard) (w : World) (h : ShIn w sp lg bV bT bH n s) (hbs : w.heap[bs]? = some (.cells #[.pointer (some ⟨sp, 0, none⟩)] 83)) :
    Calls Tryz.prog 176 #[.map (some bH), .func (.func 177) #[] #[.pointer (some ⟨bs, 0, none⟩)]] w fun e w' => e = .returned (.tuple #[]) ∧ ShIn w' sp lg bV bT bH n { s with holds := s.holds.filter (aliveH s) } ∧ Fr [bH] w w' := by
  have HI : Hid (ShIn w sp lg bV bT bH n s) := h
  have HB : Hid (w.heap[bs]? = some (.cells #[.pointer (some ⟨sp, 0, none⟩)] 83)) := hbs
  have hbl : bs < w.heap.size := (Array.getElem?_eq_some_iff.1 hbs).1
  have hbH : bH < w.heap.size := h.lts.2.2.2.1
  have hne : bs ≠ bH := by rintro rfl; obtain ⟨es, c, e⟩ := h.holds.isMap; rw [hbs] at e; cases e
  clear h hbs
  go_enter Tryz.func176, Tryz.ntmps176
  go_wp2_with (first
    | (at_range; refine wpList_map_range (KR := KH) (ER := EG) rfl _ 134 129 rfl Tryz.underlying134 bH n s.holds rfl HI.out.holds ?_; intro w0 hrg0 hg0 hs0)
    | go_in)
  go_frame
  have HF0 : Hid (Fr [bH] w w0) := (Fr.of_grown hg0).mono (by simp)
  have HR0 : Hid (RangesAs KH EG w0 bH w.heap.size n (s.holds.filter fun _ => true) s.holds) := by
    have e : (s.holds.filter fun _ => true) = s.holds := List.filter_eq_self.2 (by simp)
    rw [e]; exact hrg0
  clear hrg0 hg0
  go_loopw [4] (fun _ wr => ∃ rem g, Hid (RangesAs KH EG wr bH w.heap.size n (s.holds.filter g) rem ∧ (∀ p ∈ s.holds, p ∉ rem → g p = aliveH s p) ∧ (∀ p ∈ rem, p ∈ s.holds) ∧ Fr [bH] w wr ∧ w.heap.size + 1 ≤ wr.heap.size)) (fun _ wr => wr.rangeLeft bH w.heap.size)
  case atStart => exact ⟨s.holds, fun _ => true, HR0.out, fun p h1 h2 => absurd h1 h2, fun p hp => hp, HF0.out, by omega⟩
  case round =>
    obtain ⟨rem, g, HX⟩ := hrel
    have hrg := HX.out.1
    go_wp2_with (first
      | (at_next; refine wpList_map_next (KR := KH) (ER := EG) rfl _ rfl bH w.heap.size n (s.holds.filter g) rem rfl hrg ?_ ?_)
      | go_in)
    · intro hnil
      go_wp2
      go_end0
      have e : s.holds.filter g = s.holds.filter (aliveH s) := List.filter_congr fun p hp => HX.out.2.1 p hp (by rw [hnil]; simp)
      refine ⟨rfl, ?_, HX.out.2.2.2.1⟩
      rw [← e]
      exact HI.out.setHolds HX.out.2.2.2.1 HX.out.1.owns (Nat.le_refl _)
    · intro tx k2 x w2 hm hrg2 hlt hg2 hs2 hen
      have hms : ((tx, k2), x) ∈ s.holds := HX.out.2.2.1 _ hm
      have hok : tx < 18446744073709551616 ∧ k2.size ≤ maxLen := by
        obtain ⟨_, _, _, _, hok⟩ := HI.out.holds
        exact (hok _ hms).1
      have HLT : Hid (w2.rangeLeft bH w.heap.size < wr.rangeLeft bH w.heap.size) := hlt
      have HRG2 : Hid (RangesAs KH EG w2 bH w.heap.size n (s.holds.filter g) (alDel rem (tx, k2))) := hrg2
      have HF2 : Hid (Fr [bH] w w2) := HX.out.2.2.2.1.andThen (Fr.of_grown1 hg2) (fun j hj hl => by simp at hj; omega)
      have hsz2 : w.heap.size + 1 ≤ w2.heap.size := by have := HX.out.2.2.2.2; omega
      have hen' : (Instr.entry (.pointer (some ⟨w.heap.size, 0, none⟩))).run Tryz.prog w2 = .ok (.tuple #[.agg #[.int .u64 (tx : Int), .string k2], .agg #[.int .u8 (x.way : Int), .string x.val]]) w2 := hen
      have HIN2 : Hid (ShIn w2 sp lg bV bT bH n { s with holds := s.holds.filter g }) := HI.out.setHolds HF2.out HRG2.out.owns (Nat.le_refl _)
      have HB2 : Hid (w2.heap[bs]? = some (.cells #[.pointer (some ⟨sp, 0, none⟩)] 83)) := (HF2.out.block bs hbl (by simp; exact hne)).trans HB.out
      have HONE : Hid (Once1 s.holds) := by obtain ⟨_, _, _, h3, _⟩ := HI.out.holds; exact h3
      have HMM : Hid (((tx, k2), x) ∈ rem ∧ ((tx, k2), x) ∈ s.holds) := ⟨hm, hms⟩
      have HG : Hid (g ((tx, k2), x) = true) := by
        obtain ⟨_, _, _, _, _, _, _, _, h6, _⟩ := hrg
        exact (List.mem_filter.1 (h6 _ hm)).2
      clear hrg hrg2 hm hms hen hg2 hs2 hlt
      go_wp2_with fail
      refine (release1_any bs sp lg bV bT bH n tx k2 x { s with holds := s.holds.filter g } _ (HIN2.out.fr (((Fr.refl [] w2).alloc _).alloc _) (by simp) (by simp) (by simp) (by simp)) (((((Fr.refl [] w2).alloc _).alloc _).block bs (by omega) (by simp)).trans HB2.out) hok.1).mono ?_
      rintro e w3 ⟨rfl, hf3'⟩
      have HF3 : Hid (Fr [] w2 w3) := (((Fr.refl [] w2).alloc _).alloc _).trans hf3'
      have hbx : w3.heap[w2.heap.size]? = some (.cells #[.int .u64 (tx : Int), .string k2] 182) := by
        rw [hf3'.block w2.heap.size (by simp; omega) (by simp), ((Fr.refl [] (w2.alloc (.cells #[.int .u64 (tx : Int), .string k2] 182))).alloc _).block w2.heap.size (by simp) (by simp)]
        exact heap_alloc_new _ _
      have k0 := blk_cell hbx 0
      have k1 := blk_cell hbx 1
      simp at k0 k1
      clear hf3' hbx
      have HAL : Hid (aliveH s ((tx, k2), x) = !decide ((s.txn tx).state = 0)) := rfl
      have HSZ : Hid (w.heap.size + 1 ≤ w3.heap.size) := Nat.le_trans hsz2 HF3.out.size
      have hst : ({ s with holds := s.holds.filter g } : AShard).txn tx = s.txn tx := rfl
      rw [hst]
      clear hst
      obtain ⟨r1, r2⟩ := HRG2.out.fr HF3.out (by simp) (by simp)
      have HR3 : Hid (RangesAs KH EG w3 bH w.heap.size n (s.holds.filter g) (alDel rem (tx, k2)) ∧ w3.rangeLeft bH w.heap.size < wr.rangeLeft bH w.heap.size) := ⟨r1, by rw [r2]; exact HLT.out⟩
      have HWF : Hid (Fr [bH] w w3) := HF2.out.trans (HF3.out.mono (by simp))
      have HREM : Hid (∀ p ∈ alDel rem (tx, k2), p ∈ s.holds) := fun p hp => HX.out.2.2.1 p (List.mem_filter.1 hp).1
      have HOLD : Hid (∀ p ∈ s.holds, p ∉ alDel rem (tx, k2) → p = ((tx, k2), x) ∨ p ∉ rem) := fun p hp hn => by
        by_cases hpr : p ∈ rem
        · have hpo : p.1 = (tx, k2) := Decidable.byContradiction fun hne => hn (List.mem_filter.2 ⟨hpr, by simp [hne]⟩)
          exact .inl (HONE.out.same hp HMM.out.2 hpo)
        · exact .inr hpr
      clear r1 r2
      by_cases hz : (s.txn tx).state = 0
      · have hd : decide ((s.txn tx).state = 0) = true := by simp [hz]
        rw [hd] at HAL ⊢
        clear hz hd
        go_wp2_with (first
          | (at_delete; refine wpList_map_ddel (KR := KH) (ER := EG) rfl _ _ 134 129 rfl Tryz.underlying134 bH w.heap.size n (s.holds.filter g) (alDel rem (tx, k2)) rfl HR3.out.1 (tx, k2) hok rfl ?_; intro w4 hr4 hl4 hg4)
          | go_in)
        go_frame
        go_wp2
        have hf4 : Fr [bH] w3 w4 := Fr.of_grown1 hg4
        have e4 : alDel (s.holds.filter g) (tx, k2) = s.holds.filter fun p => !decide (p.1 = (tx, k2)) && g p := List.filter_filter ..
        rw [e4] at hr4
        go_roundw
        case rel =>
          refine ⟨alDel (alDel rem (tx, k2)) (tx, k2), fun p => !decide (p.1 = (tx, k2)) && g p, hr4, fun p hp hn => ?_, fun p hp => HREM.out p (List.mem_filter.1 hp).1, HWF.out.trans hf4, Nat.le_trans HSZ.out hf4.size⟩
          have hn2 : p ∉ alDel rem (tx, k2) := fun hm => hn (List.mem_filter.2 ⟨hm, (List.mem_filter.1 hm).2⟩)
          rcases HOLD.out p hp hn2 with rfl | hnr
          · rw [HAL.out]; simp
          · have hpk : ¬ p.1 = (tx, k2) := fun e => hnr (by rw [HONE.out.same hp HMM.out.2 e]; exact HMM.out.1)
            rw [← HX.out.2.1 p hp hnr]
            simp [hpk]
        case measure => exact Nat.lt_of_le_of_lt hl4 HR3.out.2
      · have hd : decide ((s.txn tx).state = 0) = false := by simp [hz]
        rw [hd] at HAL ⊢
        clear hz hd
        go_wp2
        refine ⟨⟨alDel rem (tx, k2), g, HR3.out.1, fun p hp hn => ?_, HREM.out, HWF.out, HSZ.out⟩, HR3.out.2⟩
        rcases HOLD.out p hp hn with rfl | hnr
        · rw [HG.out, HAL.out]; rfl
        · exact HX.out.2.1 p hp hnr
end Go.Proofs.YtejiankgafjppabGreatDoor
/- SHARDS: release, forget. -/
namespace Go.Proofs.YtejiankgafjppabGreatDoor
open Go.RowKit Go.Maps
open Sc

def AShard.release (s : AShard) : AShard := { s with holds := s.holds.filter (aliveH s) }
def AShard.forget (s : AShard) (t : Nat) : AShard := AShard.release { s with txns := alDel s.txns t }
theorem ShIn.setTxns {w w' : World} {sp lg bV bT bH n m : Nat} {s : AShard} {ts : List (Nat × ATxn)} (h : ShIn w sp lg bV bT bH n s) (hf : Fr [bT] w w') (hm : MapAs KU ET w' bT m ts) (hn : n ≤ m) : ShIn w' sp lg bV bT bH m { s with txns := ts } :=
  { blk := (hf.block sp h.lts.1 (by simp; exact h.lts.2.2.2.2.2.1)).trans h.blk
    vals := (h.vals.fr hf (by simp; exact h.ne.1)).mono hn
    txns := hm
    holds := (h.holds.fr hf (by simp; exact fun e => h.ne.2.2 e.symm)).mono hn
    ne := h.ne
    ticks := h.ticks }
set_option maxRecDepth 100000 in
set_option maxHeartbeats 4000000 in
theorem release_any (sp lg bV bT bH n : Nat) (s : AShard) (w : World) (h : ShIn w sp lg bV bT bH n s) :
    Calls Tryz.prog 129 #[.pointer (some ⟨sp, 0, none⟩)] w fun e w' => e = .returned (.tuple #[]) ∧ ShIn w' sp lg bV bT bH n s.release ∧ Fr [bH] w w' := by
  have HI : Hid (ShIn w sp lg bV bT bH n s) := h
  have c3 := blk_cell h.blk 3
  simp at c3
  have hsp := h.lts.1
  have z1 : ¬ sp = w.heap.size := by omega
  have z2 : ¬ w.heap.size = sp := by omega
  clear h
  go_enter Tryz.func129, Tryz.ntmps129
  go_wp2_with fail
  refine (deleteH_any w.heap.size sp lg bV bT bH n s _ (HI.out.fr ((Fr.refl [] w).alloc _) (by simp) (by simp) (by simp) (by simp)) (heap_alloc_new _ _)).mono ?_
  rintro e w1 ⟨rfl, hs1, hf1⟩
  have HS1 : Hid (ShIn w1 sp lg bV bT bH n s.release) := hs1
  clear hs1
  go_wp2
  go_end0
  exact ⟨rfl, HS1.out, ((Fr.refl [bH] w).alloc _).trans hf1⟩
set_option maxRecDepth 100000 in
set_option maxHeartbeats 4000000 in
theorem forget_any (sp lg bV bT bH n t : Nat) (s : AShard) (w : World) (h : ShIn w sp lg bV bT bH n s) (ht : t < 18446744073709551616) :
    Calls Tryz.prog 73 #[.pointer (some ⟨sp, 0, none⟩), .int .u64 (t : Int)] w fun e w' => e = .returned (.tuple #[]) ∧ ShIn w' sp lg bV bT bH n (s.forget t) ∧ Fr [bT, bH] w w' := by
  have HI : Hid (ShIn w sp lg bV bT bH n s) := h
  have c2 := blk_cell h.blk 2
  simp at c2
  clear h
  go_enter Tryz.func73, Tryz.ntmps73
  go_wp2_with (first
    | (at_delete; refine wpList_map_del (KR := KU) (ER := ET) rfl _ _ 133 206 rfl Tryz.underlying133 bT n s.txns rfl HI.out.txns t ht rfl ?_; intro w1 hm1 hg1)
    | fail)
  have hin1 := HI.out.setTxns (Fr.of_grown1 hg1) hm1 (Nat.le_refl _)
  have hr := release_any sp lg bV bT bH n _ w1 hin1
  have HF1 : Hid (Fr [bT] w w1) := Fr.of_grown1 hg1
  clear hin1 hm1 hg1 c2
  go_wp2_with fail
  refine hr.mono ?_
  rintro e w2 ⟨rfl, hs2, hf2⟩
  have HS2 : Hid (ShIn w2 sp lg bV bT bH n (s.forget t)) := hs2
  clear hs2
  go_wp2
  go_end0
  exact ⟨rfl, HS2.out, (HF1.out.mono (by intro k _ hk; simp at hk; simp [hk])).trans (hf2.mono (by intro k _ hk; simp at hk; simp [hk]))⟩
end Go.Proofs.YtejiankgafjppabGreatDoor
/- SHARDS: Tick. -/
namespace Go.Proofs.YtejiankgafjppabGreatDoor
open Go.RowKit Go.Maps
open Sc

/-- nobody goes on with it -/
def idleT (s : AShard) (x : ATxn) : Bool := !decide (x.state = 3) && decide ((16 : Int) ≤ IntKind.u64.wrap ((s.ticks : Int) - (x.last : Int)))
def busyT (s : AShard) (p : Nat × ATxn) : Bool := !idleT s p.2
set_option maxRecDepth 100000 in
set_option maxHeartbeats 4000000 in
theorem tick1_any (bs sp lg bV bT bH n tx : Nat) (x : ATxn) (s : AShard) (w : World) (h : ShIn w sp lg bV bT bH n s) (hbs : w.heap[bs]? = some (.cells #[.pointer (some ⟨sp, 0, none⟩)] 83)) :
    Calls Tryz.prog 220 #[.int .u64 (tx : Int), .agg #[.int .i64 (x.state : Int), .int .i64 (x.done : Int), .int .u64 (x.last : Int)], .pointer (some ⟨bs, 0, none⟩)] w fun e w' => e = .returned (.bool (idleT s x)) ∧ Fr [] w w' := by
  have d0 := blk_cell hbs 0
  have c4 := blk_cell h.blk 4
  simp at d0 c4
  have hbl : bs < w.heap.size := (Array.getElem?_eq_some_iff.1 hbs).1
  have hsp := h.lts.1
  have z1 : ¬ bs = w.heap.size := by omega
  have z2 : ¬ sp = w.heap.size := by omega
  clear h hbs
  by_cases h3 : x.state = 3
  · have hb : ((x.state : Int) != 3) = false := by simp [h3]
    have hI : idleT s x = false := by simp [idleT, h3]
    rw [hI]
    clear h3 hI
    go_enter Tryz.func220, Tryz.ntmps220
    go_wp2
    go_quiet (fail)
    go_wp2
    go_ret
    exact ⟨rfl, frDrewN ((Fr.refl [] w).alloc _) _⟩
  · have hb : ((x.state : Int) != 3) = true := by simp; omega
    have hI : idleT s x = decide ((16 : Int) ≤ IntKind.u64.wrap ((s.ticks : Int) - (x.last : Int))) := by simp [idleT, h3]
    rw [hI]
    clear h3 hI
    go_enter Tryz.func220, Tryz.ntmps220
    go_wp2
    go_quiet (fail)
    go_wp2
    go_ret
    exact ⟨rfl, frDrewN ((Fr.refl [] w).alloc _) _⟩
set_option maxRecDepth 100000 in
set_option maxHeartbeats 4000000 in
theorem deleteT_any (bs sp lg bV bT bH n : Nat) (s : AShard) (w : World) (h : ShIn w sp lg bV bT bH n s) (hbs : w.heap[bs]? = some (.cells #[.pointer (some ⟨sp, 0, none⟩)] 83)) :
    Calls Tryz.prog 219 #[.map (some bT), .func (.func 220) #[] #[.pointer (some ⟨bs, 0, none⟩)]] w fun e w' => e = .returned (.tuple #[]) ∧ ShIn w' sp lg bV bT bH n { s with txns := s.txns.filter (busyT s) } ∧ Fr [bT] w w' := by
  have HI : Hid (ShIn w sp lg bV bT bH n s) := h
  have HB : Hid (w.heap[bs]? = some (.cells #[.pointer (some ⟨sp, 0, none⟩)] 83)) := hbs
  have hbl : bs < w.heap.size := (Array.getElem?_eq_some_iff.1 hbs).1
  have hbT2 : bT < w.heap.size := h.lts.2.2.1
  have hne : bs ≠ bT := by rintro rfl; obtain ⟨es, c, e⟩ := h.txns.isMap; rw [hbs] at e; cases e
  clear h hbs
  go_enter Tryz.func219, Tryz.ntmps219
  go_wp2_with (first
    | (at_range; refine wpList_map_range (KR := KU) (ER := ET) rfl _ 133 206 rfl Tryz.underlying133 bT n s.txns rfl HI.out.txns ?_; intro w0 hrg0 hg0 hs0)
    | go_in)
  go_frame
  have HF0 : Hid (Fr [bT] w w0) := (Fr.of_grown hg0).mono (by simp)
  have HR0 : Hid (RangesAs KU ET w0 bT w.heap.size n (s.txns.filter fun _ => true) s.txns) := by
    have e : (s.txns.filter fun _ => true) = s.txns := List.filter_eq_self.2 (by simp)
    rw [e]; exact hrg0
  clear hrg0 hg0
  go_loopw [4] (fun _ wr => ∃ rem g, Hid (RangesAs KU ET wr bT w.heap.size n (s.txns.filter g) rem ∧ (∀ p ∈ s.txns, p ∉ rem → g p = busyT s p) ∧ (∀ p ∈ rem, p ∈ s.txns) ∧ Fr [bT] w wr ∧ w.heap.size + 1 ≤ wr.heap.size)) (fun _ wr => wr.rangeLeft bT w.heap.size)
  case atStart => exact ⟨s.txns, fun _ => true, HR0.out, fun p h1 h2 => absurd h1 h2, fun p hp => hp, HF0.out, by omega⟩
  case round =>
    obtain ⟨rem, g, HX⟩ := hrel
    have hrg := HX.out.1
    go_wp2_with (first
      | (at_next; refine wpList_map_next (KR := KU) (ER := ET) rfl _ rfl bT w.heap.size n (s.txns.filter g) rem rfl hrg ?_ ?_)
      | go_in)
    · intro hnil
      go_wp2
      go_end0
      have e : s.txns.filter g = s.txns.filter (busyT s) := List.filter_congr fun p hp => HX.out.2.1 p hp (by rw [hnil]; simp)
      refine ⟨rfl, ?_, HX.out.2.2.2.1⟩
      rw [← e]
      exact HI.out.setTxns HX.out.2.2.2.1 HX.out.1.owns (Nat.le_refl _)
    · intro tx x w2 hm hrg2 hlt hg2 hs2 hen
      have hms : (tx, x) ∈ s.txns := HX.out.2.2.1 _ hm
      have hok : tx < 18446744073709551616 := by
        obtain ⟨_, _, _, _, hok⟩ := HI.out.txns
        exact (hok _ hms).1
      have HLT : Hid (w2.rangeLeft bT w.heap.size < wr.rangeLeft bT w.heap.size) := hlt
      have HRG2 : Hid (RangesAs KU ET w2 bT w.heap.size n (s.txns.filter g) (alDel rem tx)) := hrg2
      have HF2 : Hid (Fr [bT] w w2) := HX.out.2.2.2.1.andThen (Fr.of_grown1 hg2) (fun j hj hl => by simp at hj; omega)
      have hsz2 : w.heap.size + 1 ≤ w2.heap.size := by have := HX.out.2.2.2.2; omega
      have hen' : (Instr.entry (.pointer (some ⟨w.heap.size, 0, none⟩))).run Tryz.prog w2 = .ok (.tuple #[.int .u64 (tx : Int), .agg #[.int .i64 (x.state : Int), .int .i64 (x.done : Int), .int .u64 (x.last : Int)]]) w2 := hen
      have HIN2 : Hid (ShIn w2 sp lg bV bT bH n { s with txns := s.txns.filter g }) := HI.out.setTxns HF2.out HRG2.out.owns (Nat.le_refl _)
      have HB2 : Hid (w2.heap[bs]? = some (.cells #[.pointer (some ⟨sp, 0, none⟩)] 83)) := (HF2.out.block bs hbl (by simp; exact hne)).trans HB.out
      have HONE : Hid (Once1 s.txns) := by obtain ⟨_, _, _, h3, _⟩ := HI.out.txns; exact h3
      have HMM : Hid ((tx, x) ∈ rem ∧ (tx, x) ∈ s.txns) := ⟨hm, hms⟩
      have HG : Hid (g (tx, x) = true) := by
        obtain ⟨_, _, _, _, _, _, _, _, h6, _⟩ := hrg
        exact (List.mem_filter.1 (h6 _ hm)).2
      clear hrg hrg2 hm hms hen hg2 hs2 hlt
      go_wp2_with fail
      refine (tick1_any bs sp lg bV bT bH n tx x { s with txns := s.txns.filter g } _ (HIN2.out.fr ((Fr.refl [] w2).alloc _) (by simp) (by simp) (by simp) (by simp)) ((((Fr.refl [] w2).alloc _).block bs (by omega) (by simp)).trans HB2.out)).mono ?_
      rintro e w3 ⟨rfl, hf3'⟩
      have HF3 : Hid (Fr [] w2 w3) := ((Fr.refl [] w2).alloc _).trans hf3'
      clear hf3'
      have HAL : Hid (busyT s (tx, x) = !idleT s x) := rfl
      have HSZ : Hid (w.heap.size + 1 ≤ w3.heap.size) := Nat.le_trans hsz2 HF3.out.size
      have hst : idleT { s with txns := s.txns.filter g } x = idleT s x := rfl
      rw [hst]
      clear hst
      obtain ⟨r1, r2⟩ := HRG2.out.fr HF3.out (by simp) (by simp)
      have HR3 : Hid (RangesAs KU ET w3 bT w.heap.size n (s.txns.filter g) (alDel rem tx) ∧ w3.rangeLeft bT w.heap.size < wr.rangeLeft bT w.heap.size) := ⟨r1, by rw [r2]; exact HLT.out⟩
      have HWF : Hid (Fr [bT] w w3) := HF2.out.trans (HF3.out.mono (by simp))
      have HREM : Hid (∀ p ∈ alDel rem tx, p ∈ s.txns) := fun p hp => HX.out.2.2.1 p (List.mem_filter.1 hp).1
      have HOLD : Hid (∀ p ∈ s.txns, p ∉ alDel rem tx → p = (tx, x) ∨ p ∉ rem) := fun p hp hn => by
        by_cases hpr : p ∈ rem
        · have hpo : p.1 = tx := Decidable.byContradiction fun hne => hn (List.mem_filter.2 ⟨hpr, by simp [hne]⟩)
          exact .inl (HONE.out.same hp HMM.out.2 hpo)
        · exact .inr hpr
      clear r1 r2
      cases hd : idleT s x with
      | true =>
        rw [hd] at HAL
        clear hd
        go_wp2_with (first
          | (at_delete; refine wpList_map_ddel (KR := KU) (ER := ET) rfl _ _ 133 206 rfl Tryz.underlying133 bT w.heap.size n (s.txns.filter g) (alDel rem tx) rfl HR3.out.1 tx hok rfl ?_; intro w4 hr4 hl4 hg4)
          | go_in)
        go_frame
        go_wp2
        have hf4 : Fr [bT] w3 w4 := Fr.of_grown1 hg4
        have e4 : alDel (s.txns.filter g) tx = s.txns.filter fun p => !decide (p.1 = tx) && g p := List.filter_filter ..
        rw [e4] at hr4
        go_roundw
        case rel =>
          refine ⟨alDel (alDel rem tx) tx, fun p => !decide (p.1 = tx) && g p, hr4, fun p hp hn => ?_, fun p hp => HREM.out p (List.mem_filter.1 hp).1, HWF.out.trans hf4, Nat.le_trans HSZ.out hf4.size⟩
          have hn2 : p ∉ alDel rem tx := fun hm => hn (List.mem_filter.2 ⟨hm, (List.mem_filter.1 hm).2⟩)
          rcases HOLD.out p hp hn2 with rfl | hnr
          · rw [HAL.out]; simp
          · have hpk : ¬ p.1 = tx := fun e => hnr (by rw [HONE.out.same hp HMM.out.2 e]; exact HMM.out.1)
            rw [← HX.out.2.1 p hp hnr]
            simp [hpk]
        case measure => exact Nat.lt_of_le_of_lt hl4 HR3.out.2
      | false =>
        rw [hd] at HAL
        clear hd
        go_wp2
        refine ⟨⟨alDel rem tx, g, HR3.out.1, fun p hp hn => ?_, HREM.out, HWF.out, HSZ.out⟩, HR3.out.2⟩
        rcases HOLD.out p hp hn with rfl | hnr
        · rw [HG.out, HAL.out]; rfl
        · exact HX.out.2.1 p hp hnr
/-- a Tick goes by -/
def AShard.tick (s : AShard) : AShard :=
  let s1 : AShard := { s with ticks := s.ticks + 1 }
  AShard.release { s1 with txns := s1.txns.filter (busyT s1) }
end Go.Proofs.YtejiankgafjppabGreatDoor
/- SHARDS: Tick. -/
namespace Go.Proofs.YtejiankgafjppabGreatDoor
open Go.RowKit Go.Maps
open Sc

theorem ShIn.ticked {w : World} {sp lg bV bT bH n : Nat} {s : AShard} (h : ShIn w sp lg bV bT bH n s) (ht : s.ticks + 1 < 18446744073709551616) : ShIn (w.setCell ⟨sp, 4, none⟩ (.int .u64 ((s.ticks : Int) + 1))) sp lg bV bT bH n { s with ticks := s.ticks + 1 } := by
  have hf : Fr [sp] w (w.setCell ⟨sp, 4, none⟩ (.int .u64 ((s.ticks : Int) + 1))) := Fr.set1 (by simp) _ _
  obtain ⟨_, _, _, _, h1, h2, h3⟩ := h.lts
  refine { blk := ?_, vals := h.vals.fr hf (by simp; exact fun e => h1 e.symm), txns := h.txns.fr hf (by simp; exact fun e => h2 e.symm), holds := h.holds.fr hf (by simp; exact fun e => h3 e.symm), ne := h.ne, ticks := ht }
  have := blk_set h.blk 4 (.int .u64 ((s.ticks : Int) + 1))
  simp at this
  exact this
set_option maxRecDepth 100000 in
set_option maxHeartbeats 4000000 in
theorem tick_any (sp lg bV bT bH n : Nat) (s : AShard) (w : World) (h : ShIn w sp lg bV bT bH n s) (ht : s.ticks + 1 < 18446744073709551616) :
    Calls Tryz.prog 164 #[.pointer (some ⟨sp, 0, none⟩)] w fun e w' => e = .returned (.tuple #[]) ∧ ShIn w' sp lg bV bT bH n s.tick ∧ Fr [sp, bT, bH] w w' := by
  have HI : Hid (ShIn w sp lg bV bT bH n s) := h
  have c2 := blk_cell h.blk 2
  have c4 := blk_cell h.blk 4
  have f4 := blk_free h.blk 4
  simp at c2 c4
  have hsp := h.lts.1
  have z1 : ¬ sp = w.heap.size := by omega
  have z2 : ¬ w.heap.size = sp := by omega
  have j1 : IntKind.u64.wrap ((s.ticks : Int) + 1) = (s.ticks : Int) + 1 := by rw [IntKind.wrap_u64]; omega
  clear h
  go_enter Tryz.func164, Tryz.ntmps164
  go_wp2_with fail
  have hss : (w.setCell ⟨sp, 4, none⟩ (.int .u64 ((s.ticks : Int) + 1))).heap.size = w.heap.size := by simp
  have hbs := heap_alloc_new (w.setCell ⟨sp, 4, none⟩ (.int .u64 ((s.ticks : Int) + 1))) (.cells #[.pointer (some ⟨sp, 0, none⟩)] 83)
  rw [hss] at hbs
  have hbT := HI.out.lts.2.2.1
  refine (deleteT_any w.heap.size sp lg bV bT bH n { s with ticks := s.ticks + 1 } _ ((HI.out.ticked ht).fr ((Fr.refl [] _).alloc _) (by simp) (by simp) (by simp) (by simp)) hbs).mono ?_
  rintro e w1 ⟨rfl, hs1, hf1⟩
  have HF1 : Hid (Fr [sp, bT, bH] w w1) := ((Fr.set1 (S := [sp, bT, bH]) (w := w) (p := sp) (by simp) 4 (.int .u64 ((s.ticks : Int) + 1))).alloc _).trans (hf1.mono (by intro k _ hk; simp at hk; simp [hk]))
  have hb1 : w1.heap[w.heap.size]? = some (.cells #[.pointer (some ⟨sp, 0, none⟩)] 83) := (hf1.block w.heap.size (by simp) (by simp; omega)).trans hbs
  have k0 := blk_cell hb1 0
  simp at k0
  have hr := release_any sp lg bV bT bH n _ w1 hs1
  clear hs1 hf1 hb1 hbs hss
  go_wp2_with fail
  refine hr.mono ?_
  rintro e w2 ⟨rfl, hs2, hf2⟩
  have HS2 : Hid (ShIn w2 sp lg bV bT bH n s.tick) := hs2
  clear hs2 hr
  go_wp2
  go_end0
  exact ⟨rfl, HS2.out, HF1.out.trans (hf2.mono (by intro k _ hk; simp at hk; simp [hk]))⟩
end Go.Proofs.YtejiankgafjppabGreatDoor
