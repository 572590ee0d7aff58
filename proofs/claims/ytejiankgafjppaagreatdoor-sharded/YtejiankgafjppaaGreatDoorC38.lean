import Derived.Test.YtejiankgafjppaaGreatDoorC34
import Derived.Test.YtejiankgafjppaaGreatDoorC27
import Derived.Test.YtejiankgafjppaaGreatDoorC19
import Derived.Test.YtejiankgafjppaaGreatDoorC14
import Derived.Test.YtejiankgafjppaaGreatDoorC22
import Derived.Sort.OwnSorted
import Derived.Test.YtejiankgafjppaaGreatDoorC26
import Derived.Test.YtejiankgafjppaaGreatDoorC15
/- HOSTS OF A SHARD: Put, Delete, Get, Value, Waiting. -/
namespace Go.Proofs.YtejiankgafjppaaGreatDoor
open Go.RowKit Go.Maps
open Sc

section
variable (B hp m n t : Nat) (seq : Int) (k : ByteArray) (s : AShard) (l : ALog) (d : ADisk) (w : World)
theorem SL.ops {w w' : World} {B sp gp bV bT bH m m' lp p bD bN n : Nat} {s s' : AShard} {l : ALog} {d : ADisk} (h : SL w B sp gp bV bT bH m lp p bD bN n s l d) (hin : ShIn w' sp gp bV bT bH m' s') (hf : Fr [bT, bH] w w') : SL w' B sp gp bV bT bH m' lp p bD bN n s' l d ∧ SFr sp bV bT bH lp p w w' :=
  h.turn hin hf (by intro k hk; simp at hk ⊢; rcases hk with e | e <;> simp [e])
end
end Go.Proofs.YtejiankgafjppaaGreatDoor
/- HOSTS OF A SHARD, with the frame that names its blocks. (Written by mkhot.py.) -/
namespace Go.Proofs.YtejiankgafjppaaGreatDoor
open Go.RowKit Go.Maps
open Sc

/-- an open host of a shard, its blocks named -/
def HSx (w : World) (B hp p sp gp bV bT bH lp bD bN m n : Nat) (s : AShard) (l : ALog) (d : ADisk) : Prop :=
  w.heap[hp]? = some (hostS p true (.pointer (some ⟨sp, 0, none⟩))) ∧ SL w B sp gp bV bT bH m lp p bD bN n s l d ∧ (B ≤ sp ∧ B ≤ bV ∧ B ≤ bT ∧ B ≤ bH)
theorem HSx.new {w w' : World} {B hp p sp gp bV bT bH lp bD bN m n : Nat} {s : AShard} {l : ALog} {d : ADisk} (h : HSx w B hp p sp gp bV bT bH lp bD bN m n s l d) (hf : Fr [] w w') : HSx w' B hp p sp gp bV bT bH lp bD bN m n s l d ∧ SFr sp bV bT bH lp p w w' := by
  obtain ⟨hh, hs, hb⟩ := h
  obtain ⟨hs2, hx2⟩ := hs.new hf
  exact ⟨⟨hx2.cells hs hh (by decide) (by decide) (by decide) (by decide) (by decide) (by decide), hs2, hb⟩, hx2⟩
theorem HSx.hfr {w w' : World} {B hp p sp gp bV bT bH lp bD bN m n : Nat} {s : AShard} {l : ALog} {d : ADisk} (h : HSx w B hp p sp gp bV bT bH lp bD bN m n s l d) (hf : SFr sp bV bT bH lp p w w') : HFr B w w' := hf.hfr h.2.1 h.2.2
set_option maxRecDepth 100000 in
set_option maxHeartbeats 4000000 in
theorem hPrep_x (B hp sp gp bV bT bH m lp p bD bN n t : Nat) (s : AShard) (l : ALog) (d : ADisk) (a b c k : Int) (w : World) (Q : Nat → Nat → AShard → ALog → ADisk → Nat → Nat → Prop) (hh : w.heap[hp]? = some (hostS p true (.pointer (some ⟨sp, 0, none⟩)))) (hs : SL w B sp gp bV bT bH m lp p bD bN n s l d) (hb : B ≤ sp ∧ B ≤ bV ∧ B ≤ bT ∧ B ≤ bH) (hB : 2 ≤ B) (hmet : Met w)
    (hX : ∀ w1, SL w1 B sp gp bV bT bH m lp p bD bN n s l (d.knob a b) → SFr sp bV bT bH lp p w w1 → Calls Tryz.prog 61 #[.pointer (some ⟨sp, 0, none⟩), .int .u64 (t : Int)] w1 fun e w2 => ∃ v x s' l' d' m' n', Q v x s' l' d' m' n' ∧ e = .returned (.tuple #[.int .i64 (v : Int), errN x]) ∧ SL w2 B sp gp bV bT bH m' lp p bD bN n' s' l' d' ∧ d'.down = false ∧ SFr sp bV bT bH lp p w1 w2) :
    Calls Tryz.prog 25 #[.pointer (some ⟨hp, 0, none⟩), .int .u64 (t : Int), fallV a b c k] w fun e w' => ∃ v x s' l' d' m' n', Q v x s' l' d' m' n' ∧ e = .returned (.tuple #[.int .i64 (v : Int), .int .i64 (x : Int)]) ∧ HSx w' B hp p sp gp bV bT bH lp bD bN m' n' s' l' (d'.knob (-1) (-1)) ∧ SFr sp bV bT bH lp p w w' := by
  obtain ⟨W, hW⟩ : ∃ W, W = w.alloc (fallO a b c k) := ⟨_, rfl⟩
  have hf0 : Fr [] w W := by rw [hW]; exact (Fr.refl [] w).alloc _
  obtain ⟨hs0, hx0⟩ := hs.new hf0
  have hh0 := hx0.cells hs hh (by decide) (by decide) (by decide) (by decide) (by decide) (by decide)
  have hfa0 : W.heap[w.heap.size]? = some (fallO a b c k) := by rw [hW]; exact heap_alloc_new w _
  have hr0 := hx0
  have HSW := toHid hs
  have c5 := blk_cell hh0 5
  have x0 := blk_cell hfa0 0
  have x1 := blk_cell hfa0 1
  have x2 := blk_cell hfa0 2
  have x3 := blk_cell hfa0 3
  simp at c5 x0 x1 x2 x3
  rw [hW] at c5 x0 x1 x2 x3
  obtain ⟨pv0, hd0⟩ : ∃ pv, W.heap[p]? = some (dskO bD bN pv d.left d.full d.down) := by obtain ⟨pv, sv, rv, nD, nN, hl⟩ := hs0.lg; exact ⟨pv, hl.disk.blk⟩
  have H0 : Hid (SL W B sp gp bV bT bH m lp p bD bN n s l d ∧ W.heap[hp]? = some (hostS p true (.pointer (some ⟨sp, 0, none⟩))) ∧ W.heap[w.heap.size]? = some (fallO a b c k) ∧ SFr sp bV bT bH lp p w W ∧ W.heap[p]? = some (dskO bD bN pv0 d.left d.full d.down)) := ⟨hs0, hh0, hfa0, hr0, hd0⟩
  clear hs hh hf0 hs0 hx0 hh0 hfa0 hr0 hd0
  go_enter Tryz.func25, Tryz.ntmps25
  go_wp2_with fail
  rw [← hW]
  clear hW c5 x0 x1 x2 x3
  refine (before_s hp p bD bN pv0 _ true d.down d.left d.full a b c k W H0.out.2.1 H0.out.2.2.2.2).mono ?_
  rintro e w1 ⟨rfl, hb1, hf1⟩
  obtain ⟨hs1, hx1⟩ := H0.out.1.knob a b hf1 hb1 H0.out.2.2.2.2
  have hh1 := hx1.cells H0.out.1 H0.out.2.1 (by decide) (by decide) (by decide) (by decide) (by decide) (by decide)
  have hfa1 := hx1.cells H0.out.1 H0.out.2.2.1 (by decide) (by decide) (by decide) (by decide) (by decide) (by decide)
  have hr1 := H0.out.2.2.2.1.trans hx1
  have hap := hX w1 hs1 hr1
  have k5 := blk_cell hh1 5
  simp at k5
  have H1 : Hid (SL w1 B sp gp bV bT bH m lp p bD bN n s l (d.knob a b) ∧ w1.heap[hp]? = some (hostS p true (.pointer (some ⟨sp, 0, none⟩))) ∧ w1.heap[w.heap.size]? = some (fallO a b c k) ∧ SFr sp bV bT bH lp p w w1) := ⟨hs1, hh1, hfa1, hr1⟩
  clear hs1 hx1 hh1 hfa1 hr1 hb1 hf1 hX H0
  go_wp2_with fail
  refine hap.mono ?_
  clear hap
  rintro e w2 ⟨v, x, s', l', d', m', n', hQ, rfl, hs2, hdn, hx2⟩
  have hh2 := hx2.cells H1.out.1 H1.out.2.1 (by decide) (by decide) (by decide) (by decide) (by decide) (by decide)
  have hfa2 := hx2.cells H1.out.1 H1.out.2.2.1 (by decide) (by decide) (by decide) (by decide) (by decide) (by decide)
  have hr2 := H1.out.2.2.2.trans hx2
  have y0 := blk_cell hfa2 0
  have y1 := blk_cell hfa2 1
  have y2 := blk_cell hfa2 2
  have y3 := blk_cell hfa2 3
  simp at y0 y1 y2 y3
  have hmet2 : Met w2 := (hr2.hfr HSW.out hb).met hB hmet
  obtain ⟨pv2, hd2⟩ : ∃ pv, w2.heap[p]? = some (dskO bD bN pv d'.left d'.full d'.down) := by obtain ⟨pv, sv, rv, nD, nN, hl⟩ := hs2.lg; exact ⟨pv, hl.disk.blk⟩
  have H2 : Hid (SL w2 B sp gp bV bT bH m' lp p bD bN n' s' l' d' ∧ w2.heap[hp]? = some (hostS p true (.pointer (some ⟨sp, 0, none⟩))) ∧ SFr sp bV bT bH lp p w w2 ∧ w2.heap[p]? = some (dskO bD bN pv2 d'.left d'.full d'.down) ∧ Q v x s' l' d' m' n') := ⟨hs2, hh2, hr2, hd2, hQ⟩
  clear hs2 hx2 hh2 hfa2 hr2 hd2 hQ k5 H1
  go_wp2_with fail
  have hbd := H2.out.2.2.2.1
  rw [hdn] at hbd
  refine (after_s hp p bD bN pv2 _ true d'.left d'.full a b c k w2 H2.out.2.1 hbd).mono ?_
  clear hbd y0 y1 y2 y3
  rintro e w3 ⟨rfl, hb3, hf3⟩
  rw [← hdn] at hb3
  obtain ⟨hs3, hx3⟩ := H2.out.1.knob (-1) (-1) hf3 hb3 H2.out.2.2.2.1
  have hh3 := hx3.cells H2.out.1 H2.out.2.1 (by decide) (by decide) (by decide) (by decide) (by decide) (by decide)
  have hr3' := hx3.hfr H2.out.1 hb
  have hmet3 : Met w3 := hr3'.met hB hmet2
  have H3 : Hid (SL w3 B sp gp bV bT bH m' lp p bD bN n' s' l' (d'.knob (-1) (-1)) ∧ w3.heap[hp]? = some (hostS p true (.pointer (some ⟨sp, 0, none⟩))) ∧ SFr sp bV bT bH lp p w w3 ∧ Q v x s' l' d' m' n') := ⟨hs3, hh3, H2.out.2.2.1.trans hx3, H2.out.2.2.2.2⟩
  clear hs3 hx3 hh3 hr3' hb3 hf3 H2
  go_wp2_with fail
  refine (told_any x w3 hmet3).mono ?_
  rintro e w4 ⟨rfl, hf4⟩
  obtain ⟨hs4, hx4⟩ := H3.out.1.new hf4
  have hh4 := hx4.cells H3.out.1 H3.out.2.1 (by decide) (by decide) (by decide) (by decide) (by decide) (by decide)
  have hr4 := H3.out.2.2.1.trans hx4
  have H4 : Hid (Q v x s' l' d' m' n' ∧ HSx w4 B hp p sp gp bV bT bH lp bD bN m' n' s' l' (d'.knob (-1) (-1)) ∧ SFr sp bV bT bH lp p w w4) := ⟨H3.out.2.2.2, ⟨hh4, hs4, hb⟩, hr4⟩
  clear hs4 hx4 hh4 hr4 hf4 H3
  go_wp2
  go_ret2
  exact ⟨v, x, s', l', d', m', n', H4.out.1, rfl, H4.out.2⟩
set_option maxRecDepth 100000 in
set_option maxHeartbeats 4000000 in
theorem hComm_x (B hp sp gp bV bT bH m lp p bD bN n t : Nat) (s : AShard) (l : ALog) (d : ADisk) (a b c k : Int) (w : World) (Q : Nat → Nat → AShard → ALog → ADisk → Nat → Nat → Prop) (hh : w.heap[hp]? = some (hostS p true (.pointer (some ⟨sp, 0, none⟩)))) (hs : SL w B sp gp bV bT bH m lp p bD bN n s l d) (hb : B ≤ sp ∧ B ≤ bV ∧ B ≤ bT ∧ B ≤ bH) (hB : 2 ≤ B) (hmet : Met w)
    (hX : ∀ w1, SL w1 B sp gp bV bT bH m lp p bD bN n s l (d.knob a b) → SFr sp bV bT bH lp p w w1 → Calls Tryz.prog 63 #[.pointer (some ⟨sp, 0, none⟩), .int .u64 (t : Int)] w1 fun e w2 => ∃ v x s' l' d' m' n', Q v x s' l' d' m' n' ∧ e = .returned (errN x) ∧ SL w2 B sp gp bV bT bH m' lp p bD bN n' s' l' d' ∧ d'.down = false ∧ SFr sp bV bT bH lp p w1 w2) :
    Calls Tryz.prog 27 #[.pointer (some ⟨hp, 0, none⟩), .int .u64 (t : Int), fallV a b c k] w fun e w' => ∃ v x s' l' d' m' n', Q v x s' l' d' m' n' ∧ e = .returned (.int .i64 (x : Int)) ∧ HSx w' B hp p sp gp bV bT bH lp bD bN m' n' s' l' (d'.knob (-1) (-1)) ∧ SFr sp bV bT bH lp p w w' := by
  obtain ⟨W, hW⟩ : ∃ W, W = w.alloc (fallO a b c k) := ⟨_, rfl⟩
  have hf0 : Fr [] w W := by rw [hW]; exact (Fr.refl [] w).alloc _
  obtain ⟨hs0, hx0⟩ := hs.new hf0
  have hh0 := hx0.cells hs hh (by decide) (by decide) (by decide) (by decide) (by decide) (by decide)
  have hfa0 : W.heap[w.heap.size]? = some (fallO a b c k) := by rw [hW]; exact heap_alloc_new w _
  have hr0 := hx0
  have HSW := toHid hs
  have c5 := blk_cell hh0 5
  have x0 := blk_cell hfa0 0
  have x1 := blk_cell hfa0 1
  have x2 := blk_cell hfa0 2
  have x3 := blk_cell hfa0 3
  simp at c5 x0 x1 x2 x3
  rw [hW] at c5 x0 x1 x2 x3
  obtain ⟨pv0, hd0⟩ : ∃ pv, W.heap[p]? = some (dskO bD bN pv d.left d.full d.down) := by obtain ⟨pv, sv, rv, nD, nN, hl⟩ := hs0.lg; exact ⟨pv, hl.disk.blk⟩
  have H0 : Hid (SL W B sp gp bV bT bH m lp p bD bN n s l d ∧ W.heap[hp]? = some (hostS p true (.pointer (some ⟨sp, 0, none⟩))) ∧ W.heap[w.heap.size]? = some (fallO a b c k) ∧ SFr sp bV bT bH lp p w W ∧ W.heap[p]? = some (dskO bD bN pv0 d.left d.full d.down)) := ⟨hs0, hh0, hfa0, hr0, hd0⟩
  clear hs hh hf0 hs0 hx0 hh0 hfa0 hr0 hd0
  go_enter Tryz.func27, Tryz.ntmps27
  go_wp2_with fail
  rw [← hW]
  clear hW c5 x0 x1 x2 x3
  refine (before_s hp p bD bN pv0 _ true d.down d.left d.full a b c k W H0.out.2.1 H0.out.2.2.2.2).mono ?_
  rintro e w1 ⟨rfl, hb1, hf1⟩
  obtain ⟨hs1, hx1⟩ := H0.out.1.knob a b hf1 hb1 H0.out.2.2.2.2
  have hh1 := hx1.cells H0.out.1 H0.out.2.1 (by decide) (by decide) (by decide) (by decide) (by decide) (by decide)
  have hfa1 := hx1.cells H0.out.1 H0.out.2.2.1 (by decide) (by decide) (by decide) (by decide) (by decide) (by decide)
  have hr1 := H0.out.2.2.2.1.trans hx1
  have hap := hX w1 hs1 hr1
  have k5 := blk_cell hh1 5
  simp at k5
  have H1 : Hid (SL w1 B sp gp bV bT bH m lp p bD bN n s l (d.knob a b) ∧ w1.heap[hp]? = some (hostS p true (.pointer (some ⟨sp, 0, none⟩))) ∧ w1.heap[w.heap.size]? = some (fallO a b c k) ∧ SFr sp bV bT bH lp p w w1) := ⟨hs1, hh1, hfa1, hr1⟩
  clear hs1 hx1 hh1 hfa1 hr1 hb1 hf1 hX H0
  go_wp2_with fail
  refine hap.mono ?_
  clear hap
  rintro e w2 ⟨v, x, s', l', d', m', n', hQ, rfl, hs2, hdn, hx2⟩
  have hh2 := hx2.cells H1.out.1 H1.out.2.1 (by decide) (by decide) (by decide) (by decide) (by decide) (by decide)
  have hfa2 := hx2.cells H1.out.1 H1.out.2.2.1 (by decide) (by decide) (by decide) (by decide) (by decide) (by decide)
  have hr2 := H1.out.2.2.2.trans hx2
  have y0 := blk_cell hfa2 0
  have y1 := blk_cell hfa2 1
  have y2 := blk_cell hfa2 2
  have y3 := blk_cell hfa2 3
  simp at y0 y1 y2 y3
  have hmet2 : Met w2 := (hr2.hfr HSW.out hb).met hB hmet
  obtain ⟨pv2, hd2⟩ : ∃ pv, w2.heap[p]? = some (dskO bD bN pv d'.left d'.full d'.down) := by obtain ⟨pv, sv, rv, nD, nN, hl⟩ := hs2.lg; exact ⟨pv, hl.disk.blk⟩
  have H2 : Hid (SL w2 B sp gp bV bT bH m' lp p bD bN n' s' l' d' ∧ w2.heap[hp]? = some (hostS p true (.pointer (some ⟨sp, 0, none⟩))) ∧ SFr sp bV bT bH lp p w w2 ∧ w2.heap[p]? = some (dskO bD bN pv2 d'.left d'.full d'.down) ∧ Q v x s' l' d' m' n') := ⟨hs2, hh2, hr2, hd2, hQ⟩
  clear hs2 hx2 hh2 hfa2 hr2 hd2 hQ k5 H1
  go_wp2_with fail
  have hbd := H2.out.2.2.2.1
  rw [hdn] at hbd
  refine (after_s hp p bD bN pv2 _ true d'.left d'.full a b c k w2 H2.out.2.1 hbd).mono ?_
  clear hbd y0 y1 y2 y3
  rintro e w3 ⟨rfl, hb3, hf3⟩
  rw [← hdn] at hb3
  obtain ⟨hs3, hx3⟩ := H2.out.1.knob (-1) (-1) hf3 hb3 H2.out.2.2.2.1
  have hh3 := hx3.cells H2.out.1 H2.out.2.1 (by decide) (by decide) (by decide) (by decide) (by decide) (by decide)
  have hr3' := hx3.hfr H2.out.1 hb
  have hmet3 : Met w3 := hr3'.met hB hmet2
  have H3 : Hid (SL w3 B sp gp bV bT bH m' lp p bD bN n' s' l' (d'.knob (-1) (-1)) ∧ w3.heap[hp]? = some (hostS p true (.pointer (some ⟨sp, 0, none⟩))) ∧ SFr sp bV bT bH lp p w w3 ∧ Q v x s' l' d' m' n') := ⟨hs3, hh3, H2.out.2.2.1.trans hx3, H2.out.2.2.2.2⟩
  clear hs3 hx3 hh3 hr3' hb3 hf3 H2
  go_wp2_with fail
  refine (told_any x w3 hmet3).mono ?_
  rintro e w4 ⟨rfl, hf4⟩
  obtain ⟨hs4, hx4⟩ := H3.out.1.new hf4
  have hh4 := hx4.cells H3.out.1 H3.out.2.1 (by decide) (by decide) (by decide) (by decide) (by decide) (by decide)
  have hr4 := H3.out.2.2.1.trans hx4
  have H4 : Hid (Q v x s' l' d' m' n' ∧ HSx w4 B hp p sp gp bV bT bH lp bD bN m' n' s' l' (d'.knob (-1) (-1)) ∧ SFr sp bV bT bH lp p w w4) := ⟨H3.out.2.2.2, ⟨hh4, hs4, hb⟩, hr4⟩
  clear hs4 hx4 hh4 hr4 hf4 H3
  go_wp2
  go_ret
  exact ⟨v, x, s', l', d', m', n', H4.out.1, rfl, H4.out.2⟩
set_option maxRecDepth 100000 in
set_option maxHeartbeats 4000000 in
theorem hAbrt_x (B hp sp gp bV bT bH m lp p bD bN n t : Nat) (s : AShard) (l : ALog) (d : ADisk) (a b c k : Int) (w : World) (Q : Nat → Nat → AShard → ALog → ADisk → Nat → Nat → Prop) (hh : w.heap[hp]? = some (hostS p true (.pointer (some ⟨sp, 0, none⟩)))) (hs : SL w B sp gp bV bT bH m lp p bD bN n s l d) (hb : B ≤ sp ∧ B ≤ bV ∧ B ≤ bT ∧ B ≤ bH) (hB : 2 ≤ B) (hmet : Met w)
    (hX : ∀ w1, SL w1 B sp gp bV bT bH m lp p bD bN n s l (d.knob a b) → SFr sp bV bT bH lp p w w1 → Calls Tryz.prog 62 #[.pointer (some ⟨sp, 0, none⟩), .int .u64 (t : Int)] w1 fun e w2 => ∃ v x s' l' d' m' n', Q v x s' l' d' m' n' ∧ e = .returned (errN x) ∧ SL w2 B sp gp bV bT bH m' lp p bD bN n' s' l' d' ∧ d'.down = false ∧ SFr sp bV bT bH lp p w1 w2) :
    Calls Tryz.prog 26 #[.pointer (some ⟨hp, 0, none⟩), .int .u64 (t : Int), fallV a b c k] w fun e w' => ∃ v x s' l' d' m' n', Q v x s' l' d' m' n' ∧ e = .returned (.int .i64 (x : Int)) ∧ HSx w' B hp p sp gp bV bT bH lp bD bN m' n' s' l' (d'.knob (-1) (-1)) ∧ SFr sp bV bT bH lp p w w' := by
  obtain ⟨W, hW⟩ : ∃ W, W = w.alloc (fallO a b c k) := ⟨_, rfl⟩
  have hf0 : Fr [] w W := by rw [hW]; exact (Fr.refl [] w).alloc _
  obtain ⟨hs0, hx0⟩ := hs.new hf0
  have hh0 := hx0.cells hs hh (by decide) (by decide) (by decide) (by decide) (by decide) (by decide)
  have hfa0 : W.heap[w.heap.size]? = some (fallO a b c k) := by rw [hW]; exact heap_alloc_new w _
  have hr0 := hx0
  have HSW := toHid hs
  have c5 := blk_cell hh0 5
  have x0 := blk_cell hfa0 0
  have x1 := blk_cell hfa0 1
  have x2 := blk_cell hfa0 2
  have x3 := blk_cell hfa0 3
  simp at c5 x0 x1 x2 x3
  rw [hW] at c5 x0 x1 x2 x3
  obtain ⟨pv0, hd0⟩ : ∃ pv, W.heap[p]? = some (dskO bD bN pv d.left d.full d.down) := by obtain ⟨pv, sv, rv, nD, nN, hl⟩ := hs0.lg; exact ⟨pv, hl.disk.blk⟩
  have H0 : Hid (SL W B sp gp bV bT bH m lp p bD bN n s l d ∧ W.heap[hp]? = some (hostS p true (.pointer (some ⟨sp, 0, none⟩))) ∧ W.heap[w.heap.size]? = some (fallO a b c k) ∧ SFr sp bV bT bH lp p w W ∧ W.heap[p]? = some (dskO bD bN pv0 d.left d.full d.down)) := ⟨hs0, hh0, hfa0, hr0, hd0⟩
  clear hs hh hf0 hs0 hx0 hh0 hfa0 hr0 hd0
  go_enter Tryz.func26, Tryz.ntmps26
  go_wp2_with fail
  rw [← hW]
  clear hW c5 x0 x1 x2 x3
  refine (before_s hp p bD bN pv0 _ true d.down d.left d.full a b c k W H0.out.2.1 H0.out.2.2.2.2).mono ?_
  rintro e w1 ⟨rfl, hb1, hf1⟩
  obtain ⟨hs1, hx1⟩ := H0.out.1.knob a b hf1 hb1 H0.out.2.2.2.2
  have hh1 := hx1.cells H0.out.1 H0.out.2.1 (by decide) (by decide) (by decide) (by decide) (by decide) (by decide)
  have hfa1 := hx1.cells H0.out.1 H0.out.2.2.1 (by decide) (by decide) (by decide) (by decide) (by decide) (by decide)
  have hr1 := H0.out.2.2.2.1.trans hx1
  have hap := hX w1 hs1 hr1
  have k5 := blk_cell hh1 5
  simp at k5
  have H1 : Hid (SL w1 B sp gp bV bT bH m lp p bD bN n s l (d.knob a b) ∧ w1.heap[hp]? = some (hostS p true (.pointer (some ⟨sp, 0, none⟩))) ∧ w1.heap[w.heap.size]? = some (fallO a b c k) ∧ SFr sp bV bT bH lp p w w1) := ⟨hs1, hh1, hfa1, hr1⟩
  clear hs1 hx1 hh1 hfa1 hr1 hb1 hf1 hX H0
  go_wp2_with fail
  refine hap.mono ?_
  clear hap
  rintro e w2 ⟨v, x, s', l', d', m', n', hQ, rfl, hs2, hdn, hx2⟩
  have hh2 := hx2.cells H1.out.1 H1.out.2.1 (by decide) (by decide) (by decide) (by decide) (by decide) (by decide)
  have hfa2 := hx2.cells H1.out.1 H1.out.2.2.1 (by decide) (by decide) (by decide) (by decide) (by decide) (by decide)
  have hr2 := H1.out.2.2.2.trans hx2
  have y0 := blk_cell hfa2 0
  have y1 := blk_cell hfa2 1
  have y2 := blk_cell hfa2 2
  have y3 := blk_cell hfa2 3
  simp at y0 y1 y2 y3
  have hmet2 : Met w2 := (hr2.hfr HSW.out hb).met hB hmet
  obtain ⟨pv2, hd2⟩ : ∃ pv, w2.heap[p]? = some (dskO bD bN pv d'.left d'.full d'.down) := by obtain ⟨pv, sv, rv, nD, nN, hl⟩ := hs2.lg; exact ⟨pv, hl.disk.blk⟩
  have H2 : Hid (SL w2 B sp gp bV bT bH m' lp p bD bN n' s' l' d' ∧ w2.heap[hp]? = some (hostS p true (.pointer (some ⟨sp, 0, none⟩))) ∧ SFr sp bV bT bH lp p w w2 ∧ w2.heap[p]? = some (dskO bD bN pv2 d'.left d'.full d'.down) ∧ Q v x s' l' d' m' n') := ⟨hs2, hh2, hr2, hd2, hQ⟩
  clear hs2 hx2 hh2 hfa2 hr2 hd2 hQ k5 H1
  go_wp2_with fail
  have hbd := H2.out.2.2.2.1
  rw [hdn] at hbd
  refine (after_s hp p bD bN pv2 _ true d'.left d'.full a b c k w2 H2.out.2.1 hbd).mono ?_
  clear hbd y0 y1 y2 y3
  rintro e w3 ⟨rfl, hb3, hf3⟩
  rw [← hdn] at hb3
  obtain ⟨hs3, hx3⟩ := H2.out.1.knob (-1) (-1) hf3 hb3 H2.out.2.2.2.1
  have hh3 := hx3.cells H2.out.1 H2.out.2.1 (by decide) (by decide) (by decide) (by decide) (by decide) (by decide)
  have hr3' := hx3.hfr H2.out.1 hb
  have hmet3 : Met w3 := hr3'.met hB hmet2
  have H3 : Hid (SL w3 B sp gp bV bT bH m' lp p bD bN n' s' l' (d'.knob (-1) (-1)) ∧ w3.heap[hp]? = some (hostS p true (.pointer (some ⟨sp, 0, none⟩))) ∧ SFr sp bV bT bH lp p w w3 ∧ Q v x s' l' d' m' n') := ⟨hs3, hh3, H2.out.2.2.1.trans hx3, H2.out.2.2.2.2⟩
  clear hs3 hx3 hh3 hr3' hb3 hf3 H2
  go_wp2_with fail
  refine (told_any x w3 hmet3).mono ?_
  rintro e w4 ⟨rfl, hf4⟩
  obtain ⟨hs4, hx4⟩ := H3.out.1.new hf4
  have hh4 := hx4.cells H3.out.1 H3.out.2.1 (by decide) (by decide) (by decide) (by decide) (by decide) (by decide)
  have hr4 := H3.out.2.2.1.trans hx4
  have H4 : Hid (Q v x s' l' d' m' n' ∧ HSx w4 B hp p sp gp bV bT bH lp bD bN m' n' s' l' (d'.knob (-1) (-1)) ∧ SFr sp bV bT bH lp p w w4) := ⟨H3.out.2.2.2, ⟨hh4, hs4, hb⟩, hr4⟩
  clear hs4 hx4 hh4 hr4 hf4 H3
  go_wp2
  go_ret
  exact ⟨v, x, s', l', d', m', n', H4.out.1, rfl, H4.out.2⟩
section
variable (B hp p sp gp bV bT bH lp bD bN m n t : Nat) (seq : Int) (k : ByteArray) (s : AShard) (l : ALog) (d : ADisk) (w : World)
set_option maxRecDepth 100000 in
set_option maxHeartbeats 2000000 in
theorem hPut_x (v : ByteArray) (h : HSx w B hp p sp gp bV bT bH lp bD bN m n s l d) (hB : 2 ≤ B) (hmet : Met w) (ht : t < 18446744073709551616) (hn : m + 2 < maxLen) (hst : (s.txn t).state ≤ 3) (hdn : (s.txn t).done < 4611686018427387904) :
    Calls Tryz.prog 59 #[.pointer (some ⟨hp, 0, none⟩), .int .u64 (t : Int), .int .i64 seq, .string k, .string v] w fun e w' => e = .returned (.int .i64 ((s.operate t seq k ⟨1, v⟩).2 : Int)) ∧ HSx w' B hp p sp gp bV bT bH lp bD bN (m + 2) n (s.operate t seq k ⟨1, v⟩).1 l d ∧ SFr sp bV bT bH lp p w w' := by
  obtain ⟨hh, hs, hb⟩ := h
  have hlg := hs.gp1
  have hpu := put_op sp gp bV bT bH m t seq k s w v hs.sh ht hn hst hdn
  obtain ⟨r, hr⟩ : ∃ r, r = s.operate t seq k ⟨1, v⟩ := ⟨_, rfl⟩
  rw [← hr] at hpu ⊢
  have c5 := blk_cell hh 5
  simp at c5
  have H0 : Hid (w.heap[hp]? = some (hostS p true (.pointer (some ⟨sp, 0, none⟩))) ∧ SL w B sp gp bV bT bH m lp p bD bN n s l d) := ⟨hh, hs⟩
  clear hh hs hr hst hdn
  go_enter Tryz.func59, Tryz.ntmps59
  go_wp2_with fail
  refine hpu.mono ?_
  clear hpu
  rintro e w1 ⟨rfl, hin1, hf1⟩
  obtain ⟨hs1, hx1⟩ := H0.out.2.ops hin1 hf1
  have hh1 := hx1.cells H0.out.2 H0.out.1 (by decide) (by decide) (by decide) (by decide) (by decide) (by decide)
  have hr1 := hx1
  have hmet1 := (hr1.hfr H0.out.2 hb).met hB hmet
  have H1 : Hid (w1.heap[hp]? = some (hostS p true (.pointer (some ⟨sp, 0, none⟩))) ∧ SL w1 B sp gp bV bT bH (m + 2) lp p bD bN n r.1 l d ∧ SFr sp bV bT bH lp p w w1) := ⟨hh1, hs1, hr1⟩
  clear hin1 hf1 hs1 hx1 hh1 hr1 c5
  go_wp2_with fail
  refine (told_any r.2 w1 hmet1).mono ?_
  rintro e w2 ⟨rfl, hf2⟩
  obtain ⟨hs2, hx2⟩ := H1.out.2.1.new hf2
  have H2 : Hid (HSx w2 B hp p sp gp bV bT bH lp bD bN (m + 2) n r.1 l d ∧ SFr sp bV bT bH lp p w w2) := ⟨⟨hx2.cells H1.out.2.1 H1.out.1 (by decide) (by decide) (by decide) (by decide) (by decide) (by decide), hs2, hb⟩, H1.out.2.2.trans hx2⟩
  clear hs2 hx2 hf2
  go_wp2
  go_ret
  exact ⟨rfl, H2.out⟩
set_option maxRecDepth 100000 in
set_option maxHeartbeats 2000000 in
theorem hDelete_x (h : HSx w B hp p sp gp bV bT bH lp bD bN m n s l d) (hB : 2 ≤ B) (hmet : Met w) (ht : t < 18446744073709551616) (hn : m + 2 < maxLen) (hst : (s.txn t).state ≤ 3) (hdn : (s.txn t).done < 4611686018427387904) :
    Calls Tryz.prog 60 #[.pointer (some ⟨hp, 0, none⟩), .int .u64 (t : Int), .int .i64 seq, .string k] w fun e w' => e = .returned (.int .i64 ((s.operate t seq k ⟨2, ByteArray.empty⟩).2 : Int)) ∧ HSx w' B hp p sp gp bV bT bH lp bD bN (m + 2) n (s.operate t seq k ⟨2, ByteArray.empty⟩).1 l d ∧ SFr sp bV bT bH lp p w w' := by
  obtain ⟨hh, hs, hb⟩ := h
  have hlg := hs.gp1
  have hpu := delete_op sp gp bV bT bH m t seq k s w hs.sh ht hn hst hdn
  obtain ⟨r, hr⟩ : ∃ r, r = s.operate t seq k ⟨2, ByteArray.empty⟩ := ⟨_, rfl⟩
  rw [← hr] at hpu ⊢
  have c5 := blk_cell hh 5
  simp at c5
  have H0 : Hid (w.heap[hp]? = some (hostS p true (.pointer (some ⟨sp, 0, none⟩))) ∧ SL w B sp gp bV bT bH m lp p bD bN n s l d) := ⟨hh, hs⟩
  clear hh hs hr hst hdn
  go_enter Tryz.func60, Tryz.ntmps60
  go_wp2_with fail
  refine hpu.mono ?_
  clear hpu
  rintro e w1 ⟨rfl, hin1, hf1⟩
  obtain ⟨hs1, hx1⟩ := H0.out.2.ops hin1 hf1
  have hh1 := hx1.cells H0.out.2 H0.out.1 (by decide) (by decide) (by decide) (by decide) (by decide) (by decide)
  have hr1 := hx1
  have hmet1 := (hr1.hfr H0.out.2 hb).met hB hmet
  have H1 : Hid (w1.heap[hp]? = some (hostS p true (.pointer (some ⟨sp, 0, none⟩))) ∧ SL w1 B sp gp bV bT bH (m + 2) lp p bD bN n r.1 l d ∧ SFr sp bV bT bH lp p w w1) := ⟨hh1, hs1, hr1⟩
  clear hin1 hf1 hs1 hx1 hh1 hr1 c5
  go_wp2_with fail
  refine (told_any r.2 w1 hmet1).mono ?_
  rintro e w2 ⟨rfl, hf2⟩
  obtain ⟨hs2, hx2⟩ := H1.out.2.1.new hf2
  have H2 : Hid (HSx w2 B hp p sp gp bV bT bH lp bD bN (m + 2) n r.1 l d ∧ SFr sp bV bT bH lp p w w2) := ⟨⟨hx2.cells H1.out.2.1 H1.out.1 (by decide) (by decide) (by decide) (by decide) (by decide) (by decide), hs2, hb⟩, H1.out.2.2.trans hx2⟩
  clear hs2 hx2 hf2
  go_wp2
  go_ret
  exact ⟨rfl, H2.out⟩
set_option maxRecDepth 100000 in
set_option maxHeartbeats 2000000 in
theorem hGet_x (h : HSx w B hp p sp gp bV bT bH lp bD bN m n s l d) (hB : 2 ≤ B) (hmet : Met w) (ht : t < 18446744073709551616) (hk : k.size ≤ maxLen) (hn : m + 2 < maxLen) (hst : (s.txn t).state ≤ 3) (hdn : (s.txn t).done < 4611686018427387904) :
    Calls Tryz.prog 28 #[.pointer (some ⟨hp, 0, none⟩), .int .u64 (t : Int), .int .i64 seq, .string k] w fun e w' => e = .returned (.tuple #[.string (s.get t seq k).2.1, .bool (s.get t seq k).2.2.1, .int .i64 ((s.get t seq k).2.2.2 : Int)]) ∧ HSx w' B hp p sp gp bV bT bH lp bD bN (m + 2) n (s.get t seq k).1 l d ∧ SFr sp bV bT bH lp p w w' := by
  obtain ⟨hh, hs, hb⟩ := h
  have hlg := hs.gp1
  have hpu := get_op sp gp bV bT bH m t seq k s w hs.sh ht hk hn hst hdn
  obtain ⟨r, hr⟩ : ∃ r, r = s.get t seq k := ⟨_, rfl⟩
  rw [← hr] at hpu ⊢
  have c5 := blk_cell hh 5
  simp at c5
  have H0 : Hid (w.heap[hp]? = some (hostS p true (.pointer (some ⟨sp, 0, none⟩))) ∧ SL w B sp gp bV bT bH m lp p bD bN n s l d) := ⟨hh, hs⟩
  clear hh hs hr hst hdn
  go_enter Tryz.func28, Tryz.ntmps28
  go_wp2_with fail
  refine hpu.mono ?_
  clear hpu
  rintro e w1 ⟨rfl, hin1, hf1⟩
  obtain ⟨hs1, hx1⟩ := H0.out.2.ops hin1 hf1
  have hh1 := hx1.cells H0.out.2 H0.out.1 (by decide) (by decide) (by decide) (by decide) (by decide) (by decide)
  have hr1 := hx1
  have hmet1 := (hr1.hfr H0.out.2 hb).met hB hmet
  have H1 : Hid (w1.heap[hp]? = some (hostS p true (.pointer (some ⟨sp, 0, none⟩))) ∧ SL w1 B sp gp bV bT bH (m + 2) lp p bD bN n r.1 l d ∧ SFr sp bV bT bH lp p w w1) := ⟨hh1, hs1, hr1⟩
  clear hin1 hf1 hs1 hx1 hh1 hr1 c5
  go_wp2_with fail
  refine (told_any r.2.2.2 w1 hmet1).mono ?_
  rintro e w2 ⟨rfl, hf2⟩
  obtain ⟨hs2, hx2⟩ := H1.out.2.1.new hf2
  have H2 : Hid (HSx w2 B hp p sp gp bV bT bH lp bD bN (m + 2) n r.1 l d ∧ SFr sp bV bT bH lp p w w2) := ⟨⟨hx2.cells H1.out.2.1 H1.out.1 (by decide) (by decide) (by decide) (by decide) (by decide) (by decide), hs2, hb⟩, H1.out.2.2.trans hx2⟩
  clear hs2 hx2 hf2
  go_wp2
  go_ret3
  exact ⟨rfl, H2.out⟩
set_option maxRecDepth 100000 in
set_option maxHeartbeats 2000000 in
theorem hValue_x (h : HSx w B hp p sp gp bV bT bH lp bD bN m n s l d) (hk : k.size ≤ maxLen) :
    Calls Tryz.prog 29 #[.pointer (some ⟨hp, 0, none⟩), .string k] w fun e w' => e = .returned (.tuple #[.string ((alLook s.vals k).getD ByteArray.empty), .bool (alLook s.vals k).isSome]) ∧ ∃ q, w' = w.drewN q := by
  obtain ⟨hh, hs, hb⟩ := h
  have hpu := value_any sp gp bV bT bH m k s w hs.sh hk
  have c5 := blk_cell hh 5
  simp at c5
  clear hh hs
  go_enter Tryz.func29, Tryz.ntmps29
  go_wp2_with fail
  refine hpu.mono ?_
  clear hpu
  rintro e w1 ⟨rfl, q, rfl⟩
  go_wp2
  go_ret2
  exact ⟨rfl, q, rfl⟩
set_option maxRecDepth 100000 in
set_option maxHeartbeats 2000000 in
theorem hWaiting_x (h : HSx w B hp p sp gp bV bT bH lp bD bN m n s l d) (hl : s.txns.length ≤ 12) :
    Calls Tryz.prog 30 #[.pointer (some ⟨hp, 0, none⟩)] w fun e w' => ∃ v ss, e = .returned v ∧ ss.Perm (s.txns.map (·.1)) ∧ ss.Pairwise (· ≤ ·) ∧ w'.ownsRow w.heap.size 34 1 v (waits (atT s.txns ss)).length (u64s (waits (atT s.txns ss))) ∧ (v = .slice none 0 0 ↔ waits (atT s.txns ss) = []) ∧ Fr [] w w' := by
  obtain ⟨hh, hs, hb⟩ := h
  have hpu := waiting_any sp gp bV bT bH m s w hs.sh hl
  have c5 := blk_cell hh 5
  simp at c5
  clear hh hs
  go_enter Tryz.func30, Tryz.ntmps30
  go_wp2_with fail
  refine hpu.mono ?_
  clear hpu
  rintro e w1 ⟨v, ss, rfl, h1, h2, h3, h4, h5⟩
  have H1 := toHid (show ss.Perm (s.txns.map (·.1)) ∧ ss.Pairwise (· ≤ ·) ∧ w1.ownsRow w.heap.size 34 1 v (waits (atT s.txns ss)).length (u64s (waits (atT s.txns ss))) ∧ (v = .slice none 0 0 ↔ waits (atT s.txns ss) = []) ∧ Fr [] w w1 from ⟨h1, h2, h3, h4, Fr.of_below h5 []⟩)
  clear h1 h2 h3 h4 h5
  go_wp2
  go_ret
  exact ⟨v, ss, rfl, H1.out⟩
set_option maxRecDepth 100000 in
set_option maxHeartbeats 2000000 in
theorem hTick_x (h : HSx w B hp p sp gp bV bT bH lp bD bN m n s l d) (ht : s.ticks + 1 < 18446744073709551616) :
    Calls Tryz.prog 81 #[.pointer (some ⟨hp, 0, none⟩)] w fun e w' => e = .returned (.tuple #[]) ∧ HSx w' B hp p sp gp bV bT bH lp bD bN m n s.tick l d ∧ SFr sp bV bT bH lp p w w' := by
  have H0 := toHid h
  obtain ⟨hh, hs, hb⟩ := h
  have hpu := tick_any sp gp bV bT bH m s w hs.sh ht
  have c5 := blk_cell hh 5
  simp at c5
  clear hh hs
  go_enter Tryz.func81, Tryz.ntmps81
  go_wp2_with fail
  refine hpu.mono ?_
  clear hpu
  rintro e w1 ⟨rfl, hin1, hf1⟩
  obtain ⟨hs1, hx1⟩ := H0.out.2.1.turn hin1 hf1 (by intro k hk; simp at hk ⊢; rcases hk with e | e | e <;> simp [e])
  have hh1 := hx1.cells H0.out.2.1 H0.out.1 (by decide) (by decide) (by decide) (by decide) (by decide) (by decide)
  have k6 := blk_cell hh1 6
  simp at k6
  have H1 := toHid (show HSx w1 B hp p sp gp bV bT bH lp bD bN m n s.tick l d ∧ SFr sp bV bT bH lp p w w1 from ⟨⟨hh1, hs1, hb⟩, hx1⟩)
  clear hin1 hf1 hs1 hx1 hh1 c5
  go_wp2
  go_end0
  exact ⟨rfl, H1.out⟩
set_option maxRecDepth 100000 in
set_option maxHeartbeats 2000000 in
theorem hState_x (h : HSx w B hp p sp gp bV bT bH lp bD bN m n s l d) (ht : t < 18446744073709551616) :
    Calls Tryz.prog 76 #[.pointer (some ⟨hp, 0, none⟩), .int .u64 (t : Int)] w fun e w' => e = .returned (.int .i64 ((s.txn t).state : Int)) ∧ w' = w := by
  obtain ⟨hh, hs, hb⟩ := h
  have hpu := state_eq sp gp bV bT bH m t s w hs.sh ht
  have c5 := blk_cell hh 5
  simp at c5
  clear hh hs
  go_enter Tryz.func76, Tryz.ntmps76
  go_wp2_with fail
  refine hpu.mono ?_
  rintro e w1 ⟨rfl, rfl⟩
  clear hpu
  go_wp2
  go_ret
  exact ⟨rfl, rfl⟩
set_option maxRecDepth 100000 in
set_option maxHeartbeats 2000000 in
theorem hIs_x (h : HSx w B hp p sp gp bV bT bH lp bD bN m n s l d) :
    Calls Tryz.prog 32 #[.pointer (some ⟨hp, 0, none⟩)] w fun e w' => e = .returned (.bool true) ∧ w' = w := by
  obtain ⟨hh, hs, hb⟩ := h
  have c3 := blk_cell hh 3
  simp at c3
  clear hh hs
  go_enter Tryz.func32, Tryz.ntmps32
  go_wp2
  go_ret
  exact ⟨rfl, rfl⟩
theorem hPairs_x (h : HSx w B hp p sp gp bV bT bH lp bD bN m n s l d) (hm : m ≤ 67108864) :
    Calls Tryz.prog 72 #[.pointer (some ⟨hp, 0, none⟩), .int .i64 0] w fun e w' => ∃ v, e = .returned (.tuple #[v, .bool true]) ∧ w'.ownsRow w.heap.size 133 2 v (sortV s.vals).length (pairsV (sortV s.vals)) ∧ Fr [] w w' := by
  obtain ⟨hh, hs, hb⟩ := h
  refine ((callsIn_wide (n := 9)).1 (pairs_in 9 (Nat.le_refl _) hp p sp gp bV bT bH m s w hh hs.sh hm)).mono ?_
  rintro e w' ⟨v, rfl, hr, hbl⟩
  exact ⟨v, rfl, hr, Fr.of_below hbl _⟩
end
end Go.Proofs.YtejiankgafjppaaGreatDoor
/- HOSTS OF A SHARD: NewHost, Open. (Written by mkhoo.py.) -/
namespace Go.Proofs.YtejiankgafjppaaGreatDoor
open Go.RowKit Go.Maps
open Sc

set_option maxRecDepth 100000 in
set_option maxHeartbeats 1000000 in
theorem newHost_s (w : World) (n : Nat) (hn : n ≤ 67108864) :
    Calls Tryz.prog 15 #[.int .i64 2, .int .i64 0] w fun e w' => ∃ hp p bD bN, e = .returned (.pointer (some ⟨hp, 0, none⟩)) ∧ w'.heap[hp]? = some (hostS p false (.pointer none)) ∧ DiskIn w' w.heap.size p bD bN (.slice none 0 0) ⟨fun _ => none, fun _ => none, [], -1, -1, false⟩ n 0 0 ∧ w.heap.size ≤ hp ∧ Below w.heap.size w w' := by
  have hmm := @run_makeMap Tryz.prog
  go_enter Tryz.func15, Tryz.ntmps15
  go_wp2_with fail
  obtain ⟨W, hW⟩ : ∃ W, W = ((w.alloc (.map #[] 0)).alloc (.cells #[.map (some w.heap.size), .map none, .slice none 0 0, .int .i64 (-1), .int .i64 (-1), .bool false] 88)).alloc (hostS (w.heap.size + 1) false (.pointer none)) := ⟨_, rfl⟩
  have hW2 : W = ((w.alloc (.map #[] 0)).alloc (.cells #[.map (some w.heap.size), .map none, .slice none 0 0, .int .i64 (-1), .int .i64 (-1), .bool false] 88)).alloc (.cells #[.int .i64 2, .int .i64 0, .pointer (some ⟨w.heap.size + 1, 0, none⟩), .bool false, .pointer none, .pointer none, .pointer none, .pointer none] 94) := hW
  rw [← hW2]
  clear hW2
  have hsz : W.heap.size = w.heap.size + 3 := by rw [hW]; simp
  have hb0 : Below w.heap.size w W := by rw [hW]; exact (((Below.refl _ w).alloc (Nat.le_refl _) _).alloc (by simp) _).alloc (by simp; omega) _
  have hfm : FileMap W w.heap.size 0 (fun _ => none) := by rw [hW]; exact ((FileMap.made w).alloc _).alloc _
  have hdb : W.heap[w.heap.size + 1]? = some (.cells #[.map (some w.heap.size), .map none, .slice none 0 0, .int .i64 (-1), .int .i64 (-1), .bool false] 88) := by
    rw [hW, Below.heap_alloc _ _ (w.heap.size + 1) (by simp)]; have := heap_alloc_new (w.alloc (.map #[] 0)) (.cells #[.map (some w.heap.size), .map none, .slice none 0 0, .int .i64 (-1), .int .i64 (-1), .bool false] 88); rw [World.size_alloc] at this; exact this
  have hhb : W.heap[w.heap.size + 2]? = some (hostS (w.heap.size + 1) false (.pointer none)) := by
    rw [hW]; have := heap_alloc_new ((w.alloc (.map #[] 0)).alloc (.cells #[.map (some w.heap.size), .map none, .slice none 0 0, .int .i64 (-1), .int .i64 (-1), .bool false] 88)) (hostS (w.heap.size + 1) false (.pointer none)); rw [World.size_alloc, World.size_alloc] at this; exact this
  clear hW
  have HH : Hid (W.heap[w.heap.size + 2]? = some (hostS (w.heap.size + 1) false (.pointer none))) := hhb
  refine (up_any w.heap.size (w.heap.size + 1) w.heap.size n 0 (.slice none 0 0) (.map none) ⟨fun _ => none, fun _ => none, [], -1, -1, false⟩ W hdb ⟨by omega, by omega, by omega⟩ hfm (by omega) hn (by intro k t ht; cases ht)).mono ?_
  rintro e w1 ⟨rfl, hd1, hf1⟩
  have hh1 : w1.heap[w.heap.size + 1 + 1]? = some (hostS (w.heap.size + 1) false (.pointer none)) := (hf1.block (w.heap.size + 2) (by omega) (by simp)).trans HH.out
  have hb1 : Below w.heap.size w w1 := hb0.trans (hf1.below (by omega) (by intro k hk; simp at hk; omega))
  have H1 : Hid (DiskIn w1 w.heap.size (w.heap.size + 1) w.heap.size W.heap.size (.slice none 0 0) ⟨fun _ => none, fun _ => none, [], -1, -1, false⟩ n 0 0 ∧ Below w.heap.size w w1 ∧ w1.heap[w.heap.size + 1 + 1]? = some (hostS (w.heap.size + 1) false (.pointer none))) := ⟨hd1, hb1, hh1⟩
  clear hd1 hf1 hh1 hb1 hdb hhb hfm hb0
  go_wp2
  go_ret
  exact ⟨w.heap.size + 1 + 1, w.heap.size + 1, w.heap.size, W.heap.size, rfl, H1.out.2.2, H1.out.1, by omega, H1.out.2.1⟩
/-- cells of another kind turn -/
theorem SL.other {w w' : World} {B sp gp bV bT bH m lp p bD bN n q : Nat} {s : AShard} {l : ALog} {d : ADisk} {c : Array Value} {t : TypeId} (h : SL w B sp gp bV bT bH m lp p bD bN n s l d) (hf : Fr [q] w w') (hq : w.heap[q]? = some (.cells c t (0, 0))) (h1 : t ≠ 88) (h2 : t ≠ 175) (h3 : t ≠ 168) (h4 : t ≠ 34) (h5 : t ≠ 44) (h6 : t ≠ 9) (h7 : t ≠ 185) (h8 : t ≠ 272) : SL w' B sp gp bV bT bH m lp p bD bN n s l d := by
  obtain ⟨pv, sv, rv, nD, nN, hl⟩ := h.lg
  have n1 : sp ≠ q := by intro e; have := h.sh.blk; rw [e, hq] at this; cases this; exact h7 rfl
  have n2 : bV ≠ q := by intro e; obtain ⟨es, c2, e2⟩ := h.sh.vals.isMap; rw [e, hq] at e2; cases e2
  have n3 : bT ≠ q := by intro e; obtain ⟨es, c2, e2⟩ := h.sh.txns.isMap; rw [e, hq] at e2; cases e2
  have n4 : bH ≠ q := by intro e; obtain ⟨es, c2, e2⟩ := h.sh.holds.isMap; rw [e, hq] at e2; cases e2
  have n5 : gp ≠ q := by intro e; have := h.ap.led; rw [e, hq] at this; cases this; exact h8 rfl
  exact ⟨h.sh.fr hf (by simpa using n1) (by simpa using n2) (by simpa using n3) (by simpa using n4), ⟨_, _, _, _, _, hl.other hf hq h1 h2 h3 h4 h5 h6⟩, ⟨(hf.block gp (Array.getElem?_eq_some_iff.1 h.ap.led).1 (by simpa using n5)).trans h.ap.led, h.ap.ne⟩, h.gp1⟩
set_option maxRecDepth 100000 in
set_option maxHeartbeats 4000000 in
theorem hOpen_s (B hp p bD bN n nD nN : Nat) (pv : Value) (d : ADisk) (a b c k : Int) (J : List Rec → AShard → Prop) (R : ALog × ADisk × Nat) (w : World) (hh : w.heap[hp]? = some (hostS p false (.pointer none))) (h : DiskIn w B p bD bN pv d n nD nN) (hB : 2 ≤ B) (hhp : B ≤ hp) (hmet : Met w)
    (hpre : ∀ W, DiskIn W B p bD bN pv (d.knob a b) n nD nN → Below B w W → ShPre J B p bD bN n R W) (hdn2 : R.2.1.down = false) :
    Calls Tryz.prog 17 #[.pointer (some ⟨hp, 0, none⟩), fallV a b c k] w fun e w' => e = .returned (.int .i64 0) ∧ ∃ s', J R.1.recs s' ∧ HSt w' B hp (20 * R.1.recs.length) n s' R.1 (R.2.1.knob (-1) (-1)) ∧ HFr B w w' := by
  obtain ⟨W, hW⟩ : ∃ W, W = w.alloc (fallO a b c k) := ⟨_, rfl⟩
  have hf0 : Fr [] w W := by rw [hW]; exact (Fr.refl [] w).alloc _
  have hd0 := h.new hf0
  have hpl := (Array.getElem?_eq_some_iff.1 hh).1
  have hh0 : W.heap[hp]? = some (hostS p false (.pointer none)) := (hf0.block hp hpl (by simp)).trans hh
  have hx0 : W.heap[w.heap.size]? = some (fallO a b c k) := by rw [hW]; exact heap_alloc_new w _
  have hb0 : HFr B w W := HFr.new hf0 h.base.2.2.2
  have x0 := blk_cell hx0 0
  have x1 := blk_cell hx0 1
  have x2 := blk_cell hx0 2
  have x3 := blk_cell hx0 3
  simp at x0 x1 x2 x3
  rw [hW] at x0 x1 x2 x3
  have hmet0 : Met W := hb0.met hB hmet
  have HH : Hid (W.heap[hp]? = some (hostS p false (.pointer none)) ∧ W.heap[w.heap.size]? = some (fallO a b c k) ∧ DiskIn W B p bD bN pv d n nD nN ∧ HFr B w W) := ⟨hh0, hx0, hd0, hb0⟩
  clear hh hf0 hd0 hh0 hx0 hb0 h hmet
  go_enter Tryz.func17, Tryz.ntmps17
  go_wp2_with fail
  rw [← hW]
  clear hW x0 x1 x2 x3
  refine (before_s hp p bD bN pv _ false d.down d.left d.full a b c k W HH.out.1 HH.out.2.2.1.blk).mono ?_
  rintro e w1 ⟨rfl, hb1, hf1⟩
  have hd1 : DiskIn w1 B p bD bN pv (d.knob a b) n nD nN := HH.out.2.2.1.turn hf1 a b d.down hb1
  have hne : hp ≠ p := by intro e; have := HH.out.1; rw [e, HH.out.2.2.1.blk] at this; cases this
  have hh1 : w1.heap[hp]? = some (hostS p false (.pointer none)) := (hf1.block hp (Array.getElem?_eq_some_iff.1 HH.out.1).1 (by simpa using hne)).trans HH.out.1
  have fal1 : ∀ (q : Nat) (x y z u : Int), W.heap[q]? = some (fallO x y z u) → w1.heap[q]? = some (fallO x y z u) := fun q x y z u hq => (hf1.block q (Array.getElem?_eq_some_iff.1 hq).1 (by simp; intro e; rw [e, HH.out.2.2.1.blk] at hq; cases hq)).trans hq
  have hx1 := fal1 _ _ _ _ _ HH.out.2.1
  have hr1 : HFr B W w1 := ⟨hf1.below HH.out.2.2.1.base.2.2.2 (by intro j hj; simp at hj; rw [hj]; exact HH.out.2.2.1.base.1), fal1⟩
  have H1 : Hid (w1.heap[hp]? = some (hostS p false (.pointer none)) ∧ w1.heap[w.heap.size]? = some (fallO a b c k) ∧ DiskIn w1 B p bD bN pv (d.knob a b) n nD nN ∧ HFr B w w1) := ⟨hh1, hx1, hd1, HH.out.2.2.2.trans hr1⟩
  have hmet1 : Met w1 := hr1.met hB hmet0
  clear hb1 hf1 hd1 hh1 hx1 hr1 fal1
  go_wp2_with fail
  refine (close_s hp p false _ ⟨_, rfl⟩ w1 H1.out.1).mono ?_
  rintro e w2 ⟨rfl, hh2, hf2⟩
  have hd2 : DiskIn w2 B p bD bN pv (d.knob a b) n nD nN := by
    refine H1.out.2.2.1.fr hf2 (by simpa using fun e => hne e.symm) ?_ ?_ ?_ ?_
    · simp; exact H1.out.2.2.1.dur.ne_cells H1.out.1
    · simp; exact H1.out.2.2.1.now.ne_cells H1.out.1
    · intro g hg; simp; intro e; subst e; exact own_ne H1.out.2.2.1.pen H1.out.1 (by decide) hg
    · intro q hq t; simp at hq; subst hq; rw [H1.out.1]; intro e; cases e
  have fal2 : ∀ (q : Nat) (x y z u : Int), w1.heap[q]? = some (fallO x y z u) → w2.heap[q]? = some (fallO x y z u) := fun q x y z u hq => (hf2.block q (Array.getElem?_eq_some_iff.1 hq).1 (by simp; intro e; rw [e, H1.out.1] at hq; cases hq)).trans hq
  have hx2 := fal2 _ _ _ _ _ H1.out.2.1
  have hr2 : HFr B w1 w2 := ⟨hf2.below H1.out.2.2.1.base.2.2.2 (by intro j hj; simp at hj; omega), fal2⟩
  have hc0 := blk_cell hh2 0
  have hc2 := blk_cell hh2 2
  simp at hc0 hc2
  have hop := openShard_any J B p bD bN n R w2 (hpre w2 hd2 (H1.out.2.2.2.below.trans hr2.below))
  have H2 : Hid (w2.heap[hp]? = some (hostS p false (.pointer none)) ∧ w2.heap[w.heap.size]? = some (fallO a b c k) ∧ DiskIn w2 B p bD bN pv (d.knob a b) n nD nN ∧ HFr B w w2) := ⟨hh2, hx2, hd2, H1.out.2.2.2.trans hr2⟩
  have hmet2 : Met w2 := hr2.met hB hmet1
  clear hh2 hf2 hd2 hx2 hr2 fal2 hpre
  go_wp2_with fail
  refine hop.mono ?_
  clear hop
  rintro e w3 ⟨sp, gp, bV, bT, bH, lp, s', rfl, hre, hs3, hlow, hx3⟩
  have cel3 : ∀ {q : Nat} {c : Array Value} {t : TypeId}, w2.heap[q]? = some (.cells c t (0, 0)) → t ≠ 88 → t ≠ 175 → w3.heap[q]? = some (.cells c t (0, 0)) := fun {q c t} hq t1 t2 => (hx3.block q (Array.getElem?_eq_some_iff.1 hq).1 (H2.out.2.2.1.freeD hq t1 t2) (by simp)).trans hq
  have hh3 := cel3 H2.out.1 (by decide) (by decide)
  have hfa3 := cel3 H2.out.2.1 (by decide) (by decide)
  have hr3 : HFr B w2 w3 := ⟨⟨hx3.os, hx3.tape, hx3.output, hx3.size, fun q hq => hx3.block q (Nat.lt_of_lt_of_le hq H2.out.2.2.1.base.2.2.2) (fun ho => by have := H2.out.2.2.1.geD ho; omega) (by simp)⟩, fun q x y z u hq => cel3 hq (by decide) (by decide)⟩
  have hBw := H2.out.2.2.1.base.2.2.2
  have hb3 : B ≤ sp ∧ B ≤ bV ∧ B ≤ bT ∧ B ≤ bH := ⟨by omega, by omega, by omega, by omega⟩
  have hmet3 : Met w3 := hr3.met hB hmet2
  obtain ⟨W4, hW4⟩ : ∃ W4, W4 = (w3.setCell ⟨hp, 5, none⟩ (.pointer (some ⟨sp, 0, none⟩))).setCell ⟨hp, 3, none⟩ (.bool true) := ⟨_, rfl⟩
  have hh4 : W4.heap[hp]? = some (hostS p true (.pointer (some ⟨sp, 0, none⟩))) := by
    have := blk_set (blk_set hh3 5 (.pointer (some ⟨sp, 0, none⟩))) 3 (.bool true)
    simp at this
    rw [hW4]; exact this
  have hf4 : Fr [hp] w3 W4 := by rw [hW4]; exact (Fr.set1 (by simp) _ _).trans (Fr.set1 (by simp) _ _)
  have hs4 := hs3.other hf4 hh3 (by decide) (by decide) (by decide) (by decide) (by decide) (by decide) (by decide) (by decide)
  have hxh : w.heap.size ≠ hp := by omega
  have fal4 : ∀ (q : Nat) (x y z u : Int), w3.heap[q]? = some (fallO x y z u) → W4.heap[q]? = some (fallO x y z u) := fun q x y z u hq => (hf4.block q (Array.getElem?_eq_some_iff.1 hq).1 (by simp; intro e; rw [e, hh3] at hq; cases hq)).trans hq
  have hx4 := fal4 _ _ _ _ _ hfa3
  have hr4 : HFr B w3 W4 := ⟨hf4.below (by have := hr3.below.size; omega) (by intro j hj; simp at hj; omega), fal4⟩
  have hmet4 : Met W4 := hr4.met hB hmet3
  have y0 := blk_cell hx4 0
  have y1 := blk_cell hx4 1
  have y2 := blk_cell hx4 2
  have y3 := blk_cell hx4 3
  simp at y0 y1 y2 y3
  rw [hW4] at y0 y1 y2 y3
  obtain ⟨pv4, hd4⟩ : ∃ pv, W4.heap[p]? = some (dskO bD bN pv R.2.1.left R.2.1.full R.2.1.down) := by obtain ⟨pv, sv, rv, nD, nN, hl⟩ := hs4.lg; exact ⟨pv, hl.disk.blk⟩
  have H4 : Hid (W4.heap[hp]? = some (hostS p true (.pointer (some ⟨sp, 0, none⟩))) ∧ SL W4 B sp gp bV bT bH (20 * R.1.recs.length) lp p bD bN n s' R.1 R.2.1 ∧ HFr B w W4 ∧ W4.heap[p]? = some (dskO bD bN pv4 R.2.1.left R.2.1.full R.2.1.down) ∧ J R.1.recs s') := ⟨hh4, hs4, (H2.out.2.2.2.trans hr3).trans hr4, hd4, hre⟩
  have c3 := blk_cell hh3 3
  have c5 := blk_cell hh3 5
  have f3 := blk_free hh3 3
  have f5 := blk_free hh3 5
  have c2 := blk_cell hh3 2
  simp at c3 c5 c2
  clear hc0 hc2 hh3 hfa3 hr3 hs3 hx3 cel3 hh4 hf4 hx4 hs4 hr4 fal4 hd4 hre
  go_wp2_with fail
  rw [← hW4]
  clear hW4 y0 y1 y2 y3 c3 c5 f3 f5 c2
  have hbd := H4.out.2.2.2.1
  rw [hdn2] at hbd
  refine (after_s hp p bD bN pv4 _ true R.2.1.left R.2.1.full a b c k W4 H4.out.1 hbd).mono ?_
  clear hbd
  rintro e w5 ⟨rfl, hb5, hf5⟩
  rw [← hdn2] at hb5
  obtain ⟨hs5, hx5⟩ := H4.out.2.1.knob (-1) (-1) hf5 hb5 H4.out.2.2.2.1
  have hh5 := hx5.cells H4.out.2.1 H4.out.1 (by decide) (by decide) (by decide) (by decide) (by decide) (by decide)
  have hr5 := hx5.hfr H4.out.2.1 hb3
  have hmet5 : Met w5 := hr5.met hB hmet4
  have H5 : Hid (w5.heap[hp]? = some (hostS p true (.pointer (some ⟨sp, 0, none⟩))) ∧ SL w5 B sp gp bV bT bH (20 * R.1.recs.length) lp p bD bN n s' R.1 (R.2.1.knob (-1) (-1)) ∧ HFr B w w5 ∧ J R.1.recs s') := ⟨hh5, hs5, H4.out.2.2.1.trans hr5, H4.out.2.2.2.2⟩
  clear hb5 hf5 hs5 hx5 hh5 hr5
  go_wp2_with fail
  refine (told_any 0 w5 hmet5).mono ?_
  rintro e w6 ⟨rfl, hf6⟩
  obtain ⟨hs6, hx6⟩ := H5.out.2.1.new hf6
  have H6 : Hid (J R.1.recs s' ∧ HSt w6 B hp (20 * R.1.recs.length) n s' R.1 (R.2.1.knob (-1) (-1)) ∧ HFr B w w6) := ⟨H5.out.2.2.2, ⟨p, sp, gp, bV, bT, bH, lp, bD, bN, hx6.cells H5.out.2.1 H5.out.1 (by decide) (by decide) (by decide) (by decide) (by decide) (by decide), hs6, hb3⟩, H5.out.2.2.1.trans (hx6.hfr H5.out.2.1 hb3)⟩
  clear hs6 hx6 hf6
  go_wp2
  go_ret
  exact ⟨rfl, s', H6.out⟩
end Go.Proofs.YtejiankgafjppaaGreatDoor
/- THE POWER FAILS, all that was told being durable: crash, (*Host).Lose. -/
namespace Go.Proofs.YtejiankgafjppaaGreatDoor
open Go.RowKit Go.Maps
open Sc

/-- a host of a shard that is not open -/
def HCl (w : World) (B hp n : Nat) (d : ADisk) : Prop :=
  ∃ p bD bN pv nD nN, w.heap[hp]? = some (hostS p false (.pointer none)) ∧ DiskIn w B p bD bN pv d n nD nN
end Go.Proofs.YtejiankgafjppaaGreatDoor
/- RECOVERY: (*disk).Names. -/
namespace Go.Proofs.YtejiankgafjppaaGreatDoor
open Go.RowKit Go.Maps Go.Sort
open Sc

/-- the names of the files, each once -/
def NamesOk (m : Files) (ns : List ByteArray) : Prop := ns.Nodup ∧ ∀ k, k ∈ ns ↔ m k ≠ none
end Go.Proofs.YtejiankgafjppaaGreatDoor
/- RECOVERY: segmentsAmong, BinarySearch. -/
namespace Go.Proofs.YtejiankgafjppaaGreatDoor
open Go.RowKit Go.Maps
open Sc

/-- the cells of names -/
def SegNames (w : World) (g : Nat) (us : List Nat) : Prop := ∀ (k u : Nat), us[k]? = some u → w.cell? ⟨g, k, none⟩ = some (.string (segName u))
end Go.Proofs.YtejiankgafjppaaGreatDoor
