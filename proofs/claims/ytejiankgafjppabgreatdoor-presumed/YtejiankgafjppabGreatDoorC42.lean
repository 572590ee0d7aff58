import Derived.Test.YtejiankgafjppabGreatDoorC41
/- HOSTS OF A COORDINATOR: NewHost, Open, Lose. (Written by mkhod.py.) -/
namespace Go.Proofs.YtejiankgafjppabGreatDoor
open Go.RowKit Go.Maps
open Sc

set_option maxRecDepth 100000 in
set_option maxHeartbeats 1000000 in
theorem newHost_c (w : World) (n : Nat) (hn : n ≤ 67108864) :
    Calls Tryz.prog 20 #[.int .i64 3, .int .i64 0] w fun e w' => ∃ hp p bD bN, e = .returned (.pointer (some ⟨hp, 0, none⟩)) ∧ w'.heap[hp]? = some (hostC p false (.pointer none)) ∧ DiskIn w' w.heap.size p bD bN (.slice none 0 0) ⟨fun _ => none, fun _ => none, [], -1, -1, false⟩ n 0 0 ∧ w.heap.size ≤ hp ∧ Below w.heap.size w w' := by
  have hmm := @run_makeMap Tryz.prog
  go_enter Tryz.func20, Tryz.ntmps20
  go_wp2_with fail
  obtain ⟨W, hW⟩ : ∃ W, W = ((w.alloc (.map #[] 0)).alloc (.cells #[.map (some w.heap.size), .map none, .slice none 0 0, .int .i64 (-1), .int .i64 (-1), .bool false] 100)).alloc (hostC (w.heap.size + 1) false (.pointer none)) := ⟨_, rfl⟩
  have hW2 : W = ((w.alloc (.map #[] 0)).alloc (.cells #[.map (some w.heap.size), .map none, .slice none 0 0, .int .i64 (-1), .int .i64 (-1), .bool false] 100)).alloc (.cells #[.int .i64 3, .int .i64 0, .pointer (some ⟨w.heap.size + 1, 0, none⟩), .bool false, .pointer none, .pointer none, .pointer none, .pointer none] 87) := hW
  rw [← hW2]
  clear hW2
  have hsz : W.heap.size = w.heap.size + 3 := by rw [hW]; simp
  have hb0 : Below w.heap.size w W := by rw [hW]; exact (((Below.refl _ w).alloc (Nat.le_refl _) _).alloc (by simp) _).alloc (by simp; omega) _
  have hfm : FileMap W w.heap.size 0 (fun _ => none) := by rw [hW]; exact ((FileMap.made w).alloc _).alloc _
  have hdb : W.heap[w.heap.size + 1]? = some (.cells #[.map (some w.heap.size), .map none, .slice none 0 0, .int .i64 (-1), .int .i64 (-1), .bool false] 100) := by
    rw [hW, Below.heap_alloc _ _ (w.heap.size + 1) (by simp)]; have := heap_alloc_new (w.alloc (.map #[] 0)) (.cells #[.map (some w.heap.size), .map none, .slice none 0 0, .int .i64 (-1), .int .i64 (-1), .bool false] 100); rw [World.size_alloc] at this; exact this
  have hhb : W.heap[w.heap.size + 2]? = some (hostC (w.heap.size + 1) false (.pointer none)) := by
    rw [hW]; have := heap_alloc_new ((w.alloc (.map #[] 0)).alloc (.cells #[.map (some w.heap.size), .map none, .slice none 0 0, .int .i64 (-1), .int .i64 (-1), .bool false] 100)) (hostC (w.heap.size + 1) false (.pointer none)); rw [World.size_alloc, World.size_alloc] at this; exact this
  clear hW
  have HH : Hid (W.heap[w.heap.size + 2]? = some (hostC (w.heap.size + 1) false (.pointer none))) := hhb
  refine (up_any w.heap.size (w.heap.size + 1) w.heap.size n 0 (.slice none 0 0) (.map none) ⟨fun _ => none, fun _ => none, [], -1, -1, false⟩ W hdb ⟨by omega, by omega, by omega⟩ hfm (by omega) hn (by intro k t ht; cases ht)).mono ?_
  rintro e w1 ⟨rfl, hd1, hf1⟩
  have hh1 : w1.heap[w.heap.size + 1 + 1]? = some (hostC (w.heap.size + 1) false (.pointer none)) := (hf1.block (w.heap.size + 2) (by omega) (by simp)).trans HH.out
  have hb1 : Below w.heap.size w w1 := hb0.trans (hf1.below (by omega) (by intro k hk; simp at hk; omega))
  have H1 : Hid (DiskIn w1 w.heap.size (w.heap.size + 1) w.heap.size W.heap.size (.slice none 0 0) ⟨fun _ => none, fun _ => none, [], -1, -1, false⟩ n 0 0 ∧ Below w.heap.size w w1 ∧ w1.heap[w.heap.size + 1 + 1]? = some (hostC (w.heap.size + 1) false (.pointer none))) := ⟨hd1, hb1, hh1⟩
  clear hd1 hf1 hh1 hb1 hdb hhb hfm hb0
  go_wp2
  go_ret
  exact ⟨w.heap.size + 1 + 1, w.heap.size + 1, w.heap.size, W.heap.size, rfl, H1.out.2.2, H1.out.1, by omega, H1.out.2.1⟩
set_option maxRecDepth 100000 in
set_option maxHeartbeats 4000000 in
theorem hOpen_c (B hp p bD bN n nD nN : Nat) (pv : Value) (d : ADisk) (a b c k : Int) (ys : List Nat) (R : ALog × ADisk × Nat) (w : World) (hh : w.heap[hp]? = some (hostC p false (.pointer none))) (h : DiskIn w B p bD bN pv d n nD nN) (hB : 2 ≤ B) (hhp : B ≤ hp) (hmet : Met w)
    (hpre : ∀ W, DiskIn W B p bD bN pv (d.knob a b) n nD nN → Below B w W → CoPre ys B p bD bN n R W) (hdn2 : R.2.1.down = false) :
    Calls Tryz.prog 18 #[.pointer (some ⟨hp, 0, none⟩), fallV a b c k] w fun e w' => e = .returned (.int .i64 0) ∧ HCt w' B hp R.1.recs.length n { cst ys R.1.recs.length with next := (cst ys R.1.recs.length).limit } R.1 (R.2.1.knob (-1) (-1)) ∧ IFr B w w' := by
  obtain ⟨W, hW⟩ : ∃ W, W = w.alloc (fallO a b c k) := ⟨_, rfl⟩
  have hf0 : Fr [] w W := by rw [hW]; exact (Fr.refl [] w).alloc _
  have hd0 := h.new hf0
  have hpl := (Array.getElem?_eq_some_iff.1 hh).1
  have hh0 : W.heap[hp]? = some (hostC p false (.pointer none)) := (hf0.block hp hpl (by simp)).trans hh
  have hx0 : W.heap[w.heap.size]? = some (fallO a b c k) := by rw [hW]; exact heap_alloc_new w _
  have hb0 : IFr B w W := IFr.new hf0 h.base.2.2.2
  have x0 := blk_cell hx0 0
  have x1 := blk_cell hx0 1
  have x2 := blk_cell hx0 2
  have x3 := blk_cell hx0 3
  simp at x0 x1 x2 x3
  rw [hW] at x0 x1 x2 x3
  have hmet0 : Met W := hb0.met hB hmet
  have HH : Hid (W.heap[hp]? = some (hostC p false (.pointer none)) ∧ W.heap[w.heap.size]? = some (fallO a b c k) ∧ DiskIn W B p bD bN pv d n nD nN ∧ IFr B w W) := ⟨hh0, hx0, hd0, hb0⟩
  clear hh hf0 hd0 hh0 hx0 hb0 h hmet
  go_enter Tryz.func18, Tryz.ntmps18
  go_wp2_with fail
  rw [← hW]
  clear hW x0 x1 x2 x3
  refine (before_c hp p bD bN pv _ false d.down d.left d.full a b c k W HH.out.1 HH.out.2.2.1.blk).mono ?_
  rintro e w1 ⟨rfl, hb1, hf1⟩
  have hd1 : DiskIn w1 B p bD bN pv (d.knob a b) n nD nN := HH.out.2.2.1.turn hf1 a b d.down hb1
  have hne : hp ≠ p := by intro e; have := HH.out.1; rw [e, HH.out.2.2.1.blk] at this; cases this
  have hh1 : w1.heap[hp]? = some (hostC p false (.pointer none)) := (hf1.block hp (Array.getElem?_eq_some_iff.1 HH.out.1).1 (by simpa using hne)).trans HH.out.1
  have fal1 : ∀ (q : Nat) (x y z u : Int), W.heap[q]? = some (fallO x y z u) → w1.heap[q]? = some (fallO x y z u) := fun q x y z u hq => (hf1.block q (Array.getElem?_eq_some_iff.1 hq).1 (by simp; intro e; rw [e, HH.out.2.2.1.blk] at hq; cases hq)).trans hq
  have int1 : ∀ (q : Nat) (cc : Array Value), W.heap[q]? = some (.cells cc 3 (0, 0)) → w1.heap[q]? = some (.cells cc 3 (0, 0)) := fun q cc hq => (hf1.block q (Array.getElem?_eq_some_iff.1 hq).1 (by simp; intro e; rw [e, HH.out.2.2.1.blk] at hq; cases hq)).trans hq
  have hx1 := fal1 _ _ _ _ _ HH.out.2.1
  have hr1 : IFr B W w1 := ⟨hf1.below HH.out.2.2.1.base.2.2.2 (by intro j hj; simp at hj; rw [hj]; exact HH.out.2.2.1.base.1), fal1, int1⟩
  have H1 : Hid (w1.heap[hp]? = some (hostC p false (.pointer none)) ∧ w1.heap[w.heap.size]? = some (fallO a b c k) ∧ DiskIn w1 B p bD bN pv (d.knob a b) n nD nN ∧ IFr B w w1) := ⟨hh1, hx1, hd1, HH.out.2.2.2.trans hr1⟩
  have hmet1 : Met w1 := hr1.met hB hmet0
  clear hb1 hf1 hd1 hh1 hx1 hr1 fal1 int1
  go_wp2_with fail
  refine (close_c hp p false _ ⟨_, rfl⟩ w1 H1.out.1).mono ?_
  rintro e w2 ⟨rfl, hh2, hf2⟩
  have hd2 : DiskIn w2 B p bD bN pv (d.knob a b) n nD nN := by
    refine H1.out.2.2.1.fr hf2 (by simpa using fun e => hne e.symm) ?_ ?_ ?_ ?_
    · simp; exact H1.out.2.2.1.dur.ne_cells H1.out.1
    · simp; exact H1.out.2.2.1.now.ne_cells H1.out.1
    · intro g hg; simp; intro e; subst e; exact own_ne H1.out.2.2.1.pen H1.out.1 (by decide) hg
    · intro q hq t; simp at hq; subst hq; rw [H1.out.1]; intro e; cases e
  have fal2 : ∀ (q : Nat) (x y z u : Int), w1.heap[q]? = some (fallO x y z u) → w2.heap[q]? = some (fallO x y z u) := fun q x y z u hq => (hf2.block q (Array.getElem?_eq_some_iff.1 hq).1 (by simp; intro e; rw [e, H1.out.1] at hq; cases hq)).trans hq
  have int2 : ∀ (q : Nat) (cc : Array Value), w1.heap[q]? = some (.cells cc 3 (0, 0)) → w2.heap[q]? = some (.cells cc 3 (0, 0)) := fun q cc hq => (hf2.block q (Array.getElem?_eq_some_iff.1 hq).1 (by simp; intro e; rw [e, H1.out.1] at hq; cases hq)).trans hq
  have hx2 := fal2 _ _ _ _ _ H1.out.2.1
  have hr2 : IFr B w1 w2 := ⟨hf2.below H1.out.2.2.1.base.2.2.2 (by intro j hj; simp at hj; omega), fal2, int2⟩
  have hc0 := blk_cell hh2 0
  have hc2 := blk_cell hh2 2
  simp at hc0 hc2
  have hop := openCo_any ys B p bD bN n R w2 (hpre w2 hd2 (H1.out.2.2.2.below.trans hr2.below))
  have H2 : Hid (w2.heap[hp]? = some (hostC p false (.pointer none)) ∧ w2.heap[w.heap.size]? = some (fallO a b c k) ∧ DiskIn w2 B p bD bN pv (d.knob a b) n nD nN ∧ IFr B w w2) := ⟨hh2, hx2, hd2, H1.out.2.2.2.trans hr2⟩
  have hmet2 : Met w2 := hr2.met hB hmet1
  clear hh2 hf2 hd2 hx2 hr2 fal2 int2 hpre
  go_wp2_with fail
  refine hop.mono ?_
  clear hop
  rintro e w3 ⟨sp, gp, bT, lp, rfl, hs3, hlow, hx3⟩
  have cel3 : ∀ {q : Nat} {c : Array Value} {t : TypeId}, w2.heap[q]? = some (.cells c t (0, 0)) → t ≠ 100 → t ≠ 150 → w3.heap[q]? = some (.cells c t (0, 0)) := fun {q c t} hq t1 t2 => (hx3.block q (Array.getElem?_eq_some_iff.1 hq).1 (H2.out.2.2.1.freeD hq t1 t2) (by simp)).trans hq
  have hh3 := cel3 H2.out.1 (by decide) (by decide)
  have hfa3 := cel3 H2.out.2.1 (by decide) (by decide)
  have hr3 : IFr B w2 w3 := ⟨⟨hx3.os, hx3.tape, hx3.output, hx3.size, fun q hq => hx3.block q (Nat.lt_of_lt_of_le hq H2.out.2.2.1.base.2.2.2) (fun ho => by have := H2.out.2.2.1.geD ho; omega) (by simp)⟩, fun q x y z u hq => cel3 hq (by decide) (by decide), fun q cc hq => cel3 hq (by decide) (by decide)⟩
  have hBw := H2.out.2.2.1.base.2.2.2
  have hmet3 : Met w3 := hr3.met hB hmet2
  obtain ⟨W4, hW4⟩ : ∃ W4, W4 = (w3.setCell ⟨hp, 6, none⟩ (.pointer (some ⟨sp, 0, none⟩))).setCell ⟨hp, 3, none⟩ (.bool true) := ⟨_, rfl⟩
  have hh4 : W4.heap[hp]? = some (hostC p true (.pointer (some ⟨sp, 0, none⟩))) := by
    have := blk_set (blk_set hh3 6 (.pointer (some ⟨sp, 0, none⟩))) 3 (.bool true)
    simp at this
    rw [hW4]; exact this
  have hf4 : Fr [hp] w3 W4 := by rw [hW4]; exact (Fr.set1 (by simp) _ _).trans (Fr.set1 (by simp) _ _)
  have hs4 := hs3.other hf4 hh3 (by decide) (by decide) (by decide) (by decide) (by decide) (by decide) (by decide) (by decide) (by decide) (by decide)
  have hxh : w.heap.size ≠ hp := by omega
  have fal4 : ∀ (q : Nat) (x y z u : Int), w3.heap[q]? = some (fallO x y z u) → W4.heap[q]? = some (fallO x y z u) := fun q x y z u hq => (hf4.block q (Array.getElem?_eq_some_iff.1 hq).1 (by simp; intro e; rw [e, hh3] at hq; cases hq)).trans hq
  have int4 : ∀ (q : Nat) (cc : Array Value), w3.heap[q]? = some (.cells cc 3 (0, 0)) → W4.heap[q]? = some (.cells cc 3 (0, 0)) := fun q cc hq => (hf4.block q (Array.getElem?_eq_some_iff.1 hq).1 (by simp; intro e; rw [e, hh3] at hq; cases hq)).trans hq
  have hx4 := fal4 _ _ _ _ _ hfa3
  have hr4 : IFr B w3 W4 := ⟨hf4.below (by have := hr3.below.size; omega) (by intro j hj; simp at hj; omega), fal4, int4⟩
  have hmet4 : Met W4 := hr4.met hB hmet3
  have y0 := blk_cell hx4 0
  have y1 := blk_cell hx4 1
  have y2 := blk_cell hx4 2
  have y3 := blk_cell hx4 3
  simp at y0 y1 y2 y3
  rw [hW4] at y0 y1 y2 y3
  obtain ⟨pv4, hd4⟩ : ∃ pv, W4.heap[p]? = some (dskO bD bN pv R.2.1.left R.2.1.full R.2.1.down) := by obtain ⟨pv, sv, rv, nD, nN, hl⟩ := hs4.lg; exact ⟨pv, hl.disk.blk⟩
  have H4 : Hid (W4.heap[hp]? = some (hostC p true (.pointer (some ⟨sp, 0, none⟩))) ∧ CL W4 B sp gp bT R.1.recs.length lp p bD bN n { cst ys R.1.recs.length with next := (cst ys R.1.recs.length).limit } R.1 R.2.1 ∧ IFr B w W4 ∧ W4.heap[p]? = some (dskO bD bN pv4 R.2.1.left R.2.1.full R.2.1.down)) := ⟨hh4, hs4, (H2.out.2.2.2.trans hr3).trans hr4, hd4⟩
  have c3 := blk_cell hh3 3
  have c6 := blk_cell hh3 6
  have f3 := blk_free hh3 3
  have f6 := blk_free hh3 6
  have c2 := blk_cell hh3 2
  simp at c3 c6 c2
  clear hc0 hc2 hh3 hfa3 hr3 hs3 hx3 cel3 hh4 hf4 hx4 hs4 hr4 fal4 int4 hd4
  go_wp2_with fail
  rw [← hW4]
  clear hW4 y0 y1 y2 y3 c3 c6 f3 f6 c2
  have hbd := H4.out.2.2.2
  rw [hdn2] at hbd
  refine (after_c hp p bD bN pv4 _ true R.2.1.left R.2.1.full a b c k W4 H4.out.1 hbd).mono ?_
  clear hbd
  rintro e w5 ⟨rfl, hb5, hf5⟩
  rw [← hdn2] at hb5
  obtain ⟨hs5, hx5⟩ := H4.out.2.1.knob (-1) (-1) hf5 hb5 H4.out.2.2.2
  have hh5 := hx5.cells H4.out.2.1 H4.out.1 (by decide) (by decide) (by decide) (by decide) (by decide) (by decide) (by decide) (by decide)
  have hr5 := hx5.hfr H4.out.2.1
  have hmet5 : Met w5 := hr5.met hB hmet4
  have H5 : Hid (w5.heap[hp]? = some (hostC p true (.pointer (some ⟨sp, 0, none⟩))) ∧ CL w5 B sp gp bT R.1.recs.length lp p bD bN n { cst ys R.1.recs.length with next := (cst ys R.1.recs.length).limit } R.1 (R.2.1.knob (-1) (-1)) ∧ IFr B w w5) := ⟨hh5, hs5, H4.out.2.2.1.trans hr5⟩
  clear hb5 hf5 hs5 hx5 hh5 hr5
  go_wp2_with fail
  refine (told_any 0 w5 hmet5).mono ?_
  rintro e w6 ⟨rfl, hf6⟩
  obtain ⟨hs6, hx6⟩ := H5.out.2.1.new hf6
  have H6 : Hid (HCt w6 B hp R.1.recs.length n { cst ys R.1.recs.length with next := (cst ys R.1.recs.length).limit } R.1 (R.2.1.knob (-1) (-1)) ∧ IFr B w w6) := ⟨⟨p, sp, gp, bT, lp, bD, bN, hx6.cells H5.out.2.1 H5.out.1 (by decide) (by decide) (by decide) (by decide) (by decide) (by decide) (by decide) (by decide), hs6⟩, H5.out.2.2.trans (hx6.hfr H5.out.2.1)⟩
  clear hs6 hx6 hf6
  go_wp2
  go_ret
  exact ⟨rfl, H6.out⟩
/-- a host of a coordinator that is not open -/
def HCc (w : World) (B hp n : Nat) (d : ADisk) : Prop :=
  ∃ p bD bN pv nD nN, w.heap[hp]? = some (hostC p false (.pointer none)) ∧ DiskIn w B p bD bN pv d n nD nN
set_option maxRecDepth 100000 in
set_option maxHeartbeats 2000000 in
theorem hLose_c (B hp m n : Nat) (c : ACo) (l : ALog) (d : ADisk) (kept : Int) (w : World) (h : HCt w B hp m n c l d) (hhp : B ≤ hp) (h0 : d.pending = []) :
    Calls Tryz.prog 17 #[.pointer (some ⟨hp, 0, none⟩), .int .i64 kept, .int .i64 0] w fun e w' => e = .returned (.tuple #[]) ∧ HCc w' B hp n (d.up.knob (-1) (-1)) ∧ IFr B w w' := by
  obtain ⟨p, sp, gp, bT, lp, bD, bN, hh, hs⟩ := h
  obtain ⟨pv, sv, rv, nD, nN, hl⟩ := hs.lg
  have hd := hl.disk
  have hcl := close_c hp p true (.pointer (some ⟨sp, 0, none⟩)) ⟨_, rfl⟩ w hh
  have hne : hp ≠ p := by intro e; have := hh; rw [e, hd.blk] at this; cases this
  have H0 := toHid (show w.heap[hp]? = some (hostC p true (.pointer (some ⟨sp, 0, none⟩))) ∧ DiskIn w B p bD bN pv d n nD nN from ⟨hh, hd⟩)
  clear hh hs hl hd
  go_enter Tryz.func17, Tryz.ntmps17
  go_wp2_with fail
  refine hcl.mono ?_
  clear hcl
  rintro e w1 ⟨rfl, hh1, hf1⟩
  have hd1 : DiskIn w1 B p bD bN pv d n nD nN := by
    refine H0.out.2.fr hf1 (by simpa using fun e => hne e.symm) ?_ ?_ ?_ ?_
    · simp; exact H0.out.2.dur.ne_cells H0.out.1
    · simp; exact H0.out.2.now.ne_cells H0.out.1
    · intro g hg; simp; intro e; subst e; exact own_ne H0.out.2.pen H0.out.1 (by decide) hg
    · intro q hq t; simp at hq; subst hq; rw [H0.out.1]; intro e; cases e
  have hr1 : IFr B w w1 := ⟨hf1.below H0.out.2.base.2.2.2 (by intro j hj; simp at hj; omega), fun q x y z u hq => (hf1.block q (Array.getElem?_eq_some_iff.1 hq).1 (by simp; intro e; rw [e, H0.out.1] at hq; cases hq)).trans hq, fun q cc hq => (hf1.block q (Array.getElem?_eq_some_iff.1 hq).1 (by simp; intro e; rw [e, H0.out.1] at hq; cases hq)).trans hq⟩
  have c2 := blk_cell hh1 2
  simp at c2
  have hcr := crash_none B p bD bN n nD nN pv d kept w1 hd1 h0
  have H1 := toHid (show w1.heap[hp]? = some (hostC p false (.pointer none)) ∧ DiskIn w1 B p bD bN pv d n nD nN ∧ IFr B w w1 from ⟨hh1, hd1, hr1⟩)
  clear hh1 hf1 hd1 hr1
  go_wp2_with fail
  refine hcr.mono ?_
  clear hcr
  rintro e w2 ⟨rfl, bN', hd2, hf2⟩
  have hh2 := (hf2.block hp (Array.getElem?_eq_some_iff.1 H1.out.1).1 (by simpa using hne)).trans H1.out.1
  have hr2 : IFr B w1 w2 := ⟨hf2.below H1.out.2.1.base.2.2.2 (by intro j hj; simp at hj; rw [hj]; exact H1.out.2.1.base.1), fun q x y z u hq => (hf2.block q (Array.getElem?_eq_some_iff.1 hq).1 (by simp; intro e; rw [e, H1.out.2.1.blk] at hq; cases hq)).trans hq, fun q cc hq => (hf2.block q (Array.getElem?_eq_some_iff.1 hq).1 (by simp; intro e; rw [e, H1.out.2.1.blk] at hq; cases hq)).trans hq⟩
  have H2 := toHid (show HCc w2 B hp n (d.up.knob (-1) (-1)) ∧ IFr B w w2 from ⟨⟨p, bD, bN', _, nD, nD, hh2, hd2⟩, H1.out.2.2.trans hr2⟩)
  clear hh2 hr2 hd2 hf2
  go_wp2
  go_end0
  exact ⟨rfl, H2.out⟩
end Go.Proofs.YtejiankgafjppabGreatDoor
/- HOSTS OF A COORDINATOR: Commit. -/
namespace Go.Proofs.YtejiankgafjppabGreatDoor
open Go.RowKit Go.Shelf Go.Maps
open Sc

theorem ints_one (l : List Nat) : ∀ u ∈ ints l, u.oneCell' = true := by
  intro u hu
  unfold ints at hu
  obtain ⟨x, _, rfl⟩ := List.mem_map.1 hu
  rfl
theorem ints_len (l : List Nat) : (ints l).length = l.length := by simp [ints]
set_option maxRecDepth 100000 in
set_option maxHeartbeats 8000000 in
theorem hCommit_c (B hp m n t g cap b0 : Nat) (xs : List Nat) (s : ACo) (l : ALog) (d : ADisk) (a b c k : Int) (w : World) (h : HCt w B hp m n s l d) (hB : 2 ≤ B) (hmet : Met w) (hdn : d.down = false) (ht : t < 18446744073709551616) (hst : (s.tx t).state = 4) (hr : Rising xs) (hrow : w.ownsRow b0 3 1 (.slice (some ⟨g, 0, none⟩) xs.length cap) xs.length (ints xs)) (hm : m + 10 < 67108864) :
    Calls Tryz.prog 23 #[.pointer (some ⟨hp, 0, none⟩), .int .u64 (t : Int), .slice (some ⟨g, 0, none⟩) xs.length cap, fallV a b c k] w fun e w' => e = .returned (.int .i64 0) ∧ HCt w' B hp (m + 10) n { s with txns := alPut s.txns t ⟨5, partsL xs 1, s.ticks⟩ } l (d.knob (-1) (-1)) ∧ IFr B w w' := by
  obtain ⟨p, cp, gp, bT, lp, bD, bN, hh, hs⟩ := h
  obtain ⟨ii, hi, hz0, hz1, hz2⟩ := info_parts Tryz.infoIn
  obtain ⟨W, hW⟩ : ∃ W, W = w.alloc (fallO a b c k) := ⟨_, rfl⟩
  have hf0 : Fr [] w W := by rw [hW]; exact (Fr.refl [] w).alloc _
  obtain ⟨hs0, hx0⟩ := hs.new hf0
  have hh0 := hx0.cells hs hh (by decide) (by decide) (by decide) (by decide) (by decide) (by decide) (by decide) (by decide)
  have hfa0 : W.heap[w.heap.size]? = some (fallO a b c k) := by rw [hW]; exact heap_alloc_new w _
  obtain ⟨cc0, hg0⟩ := own_cells hrow (g := g) rfl
  have hg0' := hx0.cells hs hg0 (by decide) (by decide) (by decide) (by decide) (by decide) (by decide) (by decide) (by decide)
  have c6 := blk_cell hh0 6
  have x0 := blk_cell hfa0 0
  have x1 := blk_cell hfa0 1
  have x2 := blk_cell hfa0 2
  have x3 := blk_cell hfa0 3
  simp at c6 x0 x1 x2 x3
  rw [hW] at c6 x0 x1 x2 x3
  obtain ⟨pv0, hd0⟩ : ∃ pv, W.heap[p]? = some (dskO bD bN pv d.left d.full d.down) := by obtain ⟨pv, sv, rv, nD, nN, hl⟩ := hs0.lg; exact ⟨pv, hl.disk.blk⟩
  have H0 := toHid (show CL W B cp gp bT m lp p bD bN n s l d ∧ W.heap[hp]? = some (hostC p true (.pointer (some ⟨cp, 0, none⟩))) ∧ W.heap[w.heap.size]? = some (fallO a b c k) ∧ CFr B cp bT lp p w W ∧ W.heap[p]? = some (dskO bD bN pv0 d.left d.full d.down) ∧ W.heap[g]? = some (.cells cc0 3 (0, 0)) from ⟨hs0, hh0, hfa0, hx0, hd0, hg0'⟩)
  have HR := toHid (show w.ownsRow b0 3 1 (.slice (some ⟨g, 0, none⟩) xs.length cap) xs.length (ints xs) ∧ w.heap[g]? = some (.cells cc0 3 (0, 0)) ∧ Rising xs ∧ CL w B cp gp bT m lp p bD bN n s l d from ⟨hrow, hg0, hr, hs⟩)
  have hlen := hr.len
  have hpos : 0 < xs.length := List.length_pos_iff.2 hr.ne
  obtain ⟨N, hN⟩ : ∃ N, N = xs.length := ⟨_, rfl⟩
  have HN := toHid hN
  rw [← hN] at hlen hpos ⊢
  clear hs hh hf0 hs0 hx0 hh0 hfa0 hd0 hg0 hg0' hrow hr hN
  go_enter Tryz.func23, Tryz.ntmps23
  go_wp2_with fail
  rw [← hW]
  clear hW c6 x0 x1 x2 x3
  refine (before_c hp p bD bN pv0 _ true d.down d.left d.full a b c k W H0.out.2.1 H0.out.2.2.2.2.1).mono ?_
  rintro e w1 ⟨rfl, hb1, hf1⟩
  obtain ⟨hs1, hx1⟩ := H0.out.1.knob a b hf1 hb1 H0.out.2.2.2.2.1
  have hh1 := hx1.cells H0.out.1 H0.out.2.1 (by decide) (by decide) (by decide) (by decide) (by decide) (by decide) (by decide) (by decide)
  have hfa1 := hx1.cells H0.out.1 H0.out.2.2.1 (by decide) (by decide) (by decide) (by decide) (by decide) (by decide) (by decide) (by decide)
  have hg1 := hx1.cells H0.out.1 H0.out.2.2.2.2.2 (by decide) (by decide) (by decide) (by decide) (by decide) (by decide) (by decide) (by decide)
  have hia : IntsAt w1 g xs := fun k x hk => (World.cell?_of_block (a := ⟨g, k, none⟩) (hg1.trans HR.out.2.1.symm)).trans (ints_at HR.out.1 k x hk)
  have H1 := toHid (show CL w1 B cp gp bT m lp p bD bN n s l (d.knob a b) ∧ w1.heap[hp]? = some (hostC p true (.pointer (some ⟨cp, 0, none⟩))) ∧ w1.heap[w.heap.size]? = some (fallO a b c k) ∧ CFr B cp bT lp p w w1 from ⟨hs1, hh1, hfa1, H0.out.2.2.2.1.trans hx1⟩)
  clear hs1 hx1 hh1 hfa1 hb1 hf1 H0 hg1
  go_wp2_with (at_builtin; refine wpList_append_own _ rfl _ _ 44 rfl w1.heap.size 3 ii (.int .i64 0) 1 8 Tryz.underlying44 hi hz0 hz1 hz2 rfl (by decide) (.slice none 0 0) 0 [] rfl (World.ownsRow_nil _ _ _ _) ⟨g, 0, none⟩ N cap (ints xs) rfl (by rw [ints_len, ← HN.out]; omega) ?c1 (ints_one xs) (by unfold maxLen; omega) (by omega) (Nat.le_refl _) ?_)
  case c1 =>
    intro j u hj
    unfold ints at hj
    rw [List.getElem?_map] at hj
    cases hx : xs[j]? with
    | none => rw [hx] at hj; cases hj
    | some y =>
      rw [hx] at hj
      cases hj
      simpa [Addr.add_lit] using hia j y hx
  intro v' w2 hown' hgrow _
  obtain ⟨g2, c2, rfl⟩ := own_pos hown' (by omega)
  have hf2 : Fr [] w1 w2 := Fr.of_grown hgrow
  obtain ⟨hs2, hx2⟩ := H1.out.1.new hf2
  have hh2 := hx2.cells H1.out.1 H1.out.2.1 (by decide) (by decide) (by decide) (by decide) (by decide) (by decide) (by decide) (by decide)
  have hfa2 := hx2.cells H1.out.1 H1.out.2.2.1 (by decide) (by decide) (by decide) (by decide) (by decide) (by decide) (by decide) (by decide)
  obtain ⟨cc2, hg2⟩ := own_cells hown' (g := g2) rfl
  have hgl : w1.heap.size ≤ g2 := (hown'.lt g2 rfl).1
  have hcs : N ≤ cc2.size := by
    rcases hown'.2 with ⟨e, _⟩ | ⟨g', cap', cur, e, _, e2, e3, _, e4, _⟩
    · cases e
    · cases e
      rw [hg2] at e2
      cases e2
      omega
  have hcm := cCommit_any B cp gp bT m t g2 c2 xs s w2 hs2.co ht hst HR.out.2.2.1 (ints_at hown') hm
  rw [← HN.out] at hcm
  have k6 := blk_cell hh2 6
  simp at k6
  have H2 := toHid (show CL w2 B cp gp bT m lp p bD bN n s l (d.knob a b) ∧ w2.heap[hp]? = some (hostC p true (.pointer (some ⟨cp, 0, none⟩))) ∧ w2.heap[w.heap.size]? = some (fallO a b c k) ∧ CFr B cp bT lp p w w2 ∧ w2.heap[g2]? = some (.cells cc2 3 (0, 0)) ∧ w.heap.size ≤ g2 from ⟨hs2, hh2, hfa2, H1.out.2.2.2.trans hx2, hg2, Nat.le_trans H1.out.2.2.2.size hgl⟩)
  clear hown' hgrow hf2 hs2 hx2 hh2 hfa2 hg2 H1 hgl hia
  go_wp2_with fail
  refine hcm.mono ?_
  clear hcm k6
  rintro e w3 ⟨rfl, hc3, hf3⟩
  obtain ⟨hs3, hx3⟩ := H2.out.1.turn hc3 hf3
  have hh3 := hx3.cells H2.out.1 H2.out.2.1 (by decide) (by decide) (by decide) (by decide) (by decide) (by decide) (by decide) (by decide)
  have hfa3 := hx3.cells H2.out.1 H2.out.2.2.1 (by decide) (by decide) (by decide) (by decide) (by decide) (by decide) (by decide) (by decide)
  have hg3 := hx3.cells H2.out.1 H2.out.2.2.2.2.1 (by decide) (by decide) (by decide) (by decide) (by decide) (by decide) (by decide) (by decide)
  have H3 := toHid (show CL w3 B cp gp bT (m + 10) lp p bD bN n { s with txns := alPut s.txns t ⟨5, partsL xs 1, s.ticks⟩ } l (d.knob a b) ∧ w3.heap[hp]? = some (hostC p true (.pointer (some ⟨cp, 0, none⟩))) ∧ w3.heap[w.heap.size]? = some (fallO a b c k) ∧ CFr B cp bT lp p w w3 ∧ w3.heap[g2]? = some (.cells cc2 3 (0, 0)) ∧ w.heap.size ≤ g2 from ⟨hs3, hh3, hfa3, H2.out.2.2.2.1.trans hx3, hg3, H2.out.2.2.2.2.2⟩)
  clear hc3 hf3 hs3 hx3 hh3 hfa3 hg3 H2
  go_wp2
  go_loopw [31] (fun i wr => ∃ q : Nat, q ≤ N ∧ i = .int .i64 q ∧ Hid ((∃ cc, wr.heap[g2]? = some (.cells cc 3 (0, 0)) ∧ N ≤ cc.size) ∧ Fr [g2] w3 wr)) (fun i _ => N - (intOf i).toNat)
  case atStart => exact ⟨0, Nat.zero_le _, rfl, ⟨cc2, H3.out.2.2.2.2.1, hcs⟩, Fr.refl _ _⟩
  case round =>
    obtain ⟨q, hq, rfl, HX⟩ := hrel
    by_cases hlt : q < N
    · obtain ⟨cc, hgq, hcq⟩ := HX.out.1
      have i3 : (q : Int) < (N : Int) := by omega
      have d0 := blk_cell hgq q
      have f0 := blk_free hgq q
      obtain ⟨u, hu⟩ : ∃ u, cc[q]? = some u := ⟨_, Array.getElem?_eq_getElem (by omega)⟩
      rw [hu] at d0
      have HQ := toHid (show (∃ cc, (wr.setCell ⟨g2, q, none⟩ (.int .i64 7)).heap[g2]? = some (.cells cc 3 (0, 0)) ∧ N ≤ cc.size) ∧ Fr [g2] w3 (wr.setCell ⟨g2, q, none⟩ (.int .i64 7)) from ⟨⟨_, blk_set hgq q (.int .i64 7), by simpa using hcq⟩, HX.out.2.trans (Fr.set1 (by simp) _ _)⟩)
      clear hgq hu
      go_wp2
      go_roundw
      case rel => exact ⟨q + 1, by omega, by simp, HQ.out⟩
      case measure => simp [intOf]; omega
    · obtain rfl : q = N := by omega
      have i3 : ¬ (q : Int) < (q : Int) := by omega
      obtain ⟨hs4, ho4⟩ := H3.out.1.otherF HX.out.2 H3.out.2.2.2.2.1 (by decide) (by decide) (by decide) (by decide) (by decide) (by decide) (by decide) (by decide) (by decide) (by decide)
      have hx4 := H3.out.2.2.2.1.young HX.out.2 H3.out.2.2.2.2.2 ho4
      have nh : hp ∉ [g2] := by
        simp; intro e
        have := H3.out.2.1
        rw [e, H3.out.2.2.2.2.1] at this; cases this
      have nf : w.heap.size ∉ [g2] := by
        simp; intro e
        have := H3.out.2.2.1
        rw [e, H3.out.2.2.2.2.1] at this; cases this
      have hh4 := (HX.out.2.block hp (Array.getElem?_eq_some_iff.1 H3.out.2.1).1 nh).trans H3.out.2.1
      have hfa4 := (HX.out.2.block w.heap.size (Array.getElem?_eq_some_iff.1 H3.out.2.2.1).1 nf).trans H3.out.2.2.1
      have y0 := blk_cell hfa4 0
      have y1 := blk_cell hfa4 1
      have y2 := blk_cell hfa4 2
      have y3 := blk_cell hfa4 3
      simp at y0 y1 y2 y3
      obtain ⟨pv4, hd4⟩ : ∃ pv, wr.heap[p]? = some (dskO bD bN pv (d.knob a b).left (d.knob a b).full (d.knob a b).down) := by obtain ⟨pv, sv, rv, nD, nN, hl⟩ := hs4.lg; exact ⟨pv, hl.disk.blk⟩
      have hdn4 : (d.knob a b).down = false := hdn
      have H4 := toHid (show CL wr B cp gp bT (m + 10) lp p bD bN n { s with txns := alPut s.txns t ⟨5, partsL xs 1, s.ticks⟩ } l (d.knob a b) ∧ wr.heap[hp]? = some (hostC p true (.pointer (some ⟨cp, 0, none⟩))) ∧ CFr B cp bT lp p w wr ∧ wr.heap[p]? = some (dskO bD bN pv4 (d.knob a b).left (d.knob a b).full (d.knob a b).down) from ⟨hs4, hh4, hx4, hd4⟩)
      clear hs4 ho4 hx4 hh4 hfa4 hd4 nh nf
      go_wp2_with fail
      have hbd := H4.out.2.2.2
      rw [hdn4] at hbd
      refine (after_c hp p bD bN pv4 _ true _ _ a b c k wr H4.out.2.1 hbd).mono ?_
      clear hbd y0 y1 y2 y3
      rintro e w5 ⟨rfl, hb5, hf5⟩
      rw [← hdn4] at hb5
      obtain ⟨hs5, hx5⟩ := H4.out.1.knob (-1) (-1) hf5 hb5 H4.out.2.2.2
      have hh5 := hx5.cells H4.out.1 H4.out.2.1 (by decide) (by decide) (by decide) (by decide) (by decide) (by decide) (by decide) (by decide)
      have hcf5 := H4.out.2.2.1.trans hx5
      have hr5 := hcf5.hfr HR.out.2.2.2
      have hmet5 : Met w5 := hr5.met hB hmet
      have H5 := toHid (show CL w5 B cp gp bT (m + 10) lp p bD bN n { s with txns := alPut s.txns t ⟨5, partsL xs 1, s.ticks⟩ } l (d.knob (-1) (-1)) ∧ w5.heap[hp]? = some (hostC p true (.pointer (some ⟨cp, 0, none⟩))) ∧ CFr B cp bT lp p w w5 from ⟨hs5, hh5, hcf5⟩)
      clear hs5 hx5 hh5 hr5 hb5 hf5 H4 hcf5
      go_wp2_with fail
      refine (told_any 0 w5 hmet5).mono ?_
      rintro e w6 ⟨rfl, hf6⟩
      obtain ⟨hs6, hx6⟩ := H5.out.1.new hf6
      have hh6 := hx6.cells H5.out.1 H5.out.2.1 (by decide) (by decide) (by decide) (by decide) (by decide) (by decide) (by decide) (by decide)
      have H6 := toHid (show HCt w6 B hp (m + 10) n { s with txns := alPut s.txns t ⟨5, partsL xs 1, s.ticks⟩ } l (d.knob (-1) (-1)) ∧ IFr B w w6 from ⟨⟨p, cp, gp, bT, lp, bD, bN, hh6, hs6⟩, (H5.out.2.2.trans hx6).hfr HR.out.2.2.2⟩)
      clear hs6 hx6 hh6 hf6
      go_wp2
      go_ret
      exact ⟨rfl, H6.out⟩
end Go.Proofs.YtejiankgafjppabGreatDoor
