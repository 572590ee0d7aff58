import Derived.Test.YtejiankgafjppaaGreatDoorC33
import Derived.Test.YtejiankgafjppaaGreatDoorC18
import Derived.Test.YtejiankgafjppaaGreatDoorC24
import Derived.Test.YtejiankgafjppaaGreatDoorC27
import Derived.Test.YtejiankgafjppaaGreatDoorC28
/- SHARDS: Open. -/
namespace Go.Proofs.YtejiankgafjppaaGreatDoor
open Go.RowKit Go.Maps
open Sc

/-- a shard that nothing was done with -/
abbrev sh0 : AShard := ⟨[], [], [], 0⟩
/-- what stands behind an opening of a shard -/
def ShPost (J : List Rec → AShard → Prop) (B p bD bN n : Nat) (R : ALog × ADisk × Nat) (w : World) (e : Ending) (w' : World) : Prop :=
  ∃ sp gp bV bT bH lp s', e = .returned (.tuple #[.pointer (some ⟨sp, 0, none⟩), .nilIface]) ∧ J R.1.recs s' ∧ SL w' B sp gp bV bT bH (20 * R.1.recs.length) lp p bD bN n s' R.1 R.2.1 ∧ (w.heap.size ≤ sp ∧ w.heap.size ≤ bV ∧ w.heap.size ≤ bT ∧ w.heap.size ≤ bH) ∧ SDFr p [] w w'
/-- what an opening needs -/
structure ShPre (J : List Rec → AShard → Prop) (B p bD bN n : Nat) (R : ALog × ADisk × Nat) (w : World) : Prop where
  disk : ∃ pv d nD nN, DiskIn w B p bD bN pv d n nD nN
  jop : ∀ W, Fr [] w W → Calls Tryz.prog 109 #[dskV p] W (OpenPost B p bD bN n R W)
  plain : PlainR R.1.recs
  first : firstN R.1.recs R.1.next = 1
  byt : ∀ r ∈ R.1.recs, Byt r.pay ∧ r.pay.length ≤ 4096
  none : J [] sh0
  ents : ∀ pre x s', pre ++ [x] <+: R.1.recs → J pre s' → Entr (J (pre ++ [x])) s' x
  few : 20 * R.1.recs.length + 32 < maxLen
  num : n ≤ 67108864
set_option maxRecDepth 100000 in
set_option maxHeartbeats 4000000 in
theorem shOpen_any (J : List Rec → AShard → Prop) (B p bD bN n : Nat) (R : ALog × ADisk × Nat) (w : World) (h : ShPre J B p bD bN n R w) :
    Calls Tryz.prog 110 #[dskV p] w (ShPost J B p bD bN n R w) := by
  have hmm := @run_makeMap Tryz.prog
  obtain ⟨pv, d, nD, nN, hd⟩ := h.disk
  have hbase := hd.base
  have hnl := hd.now.lt
  have hdl := hd.dur.lt
  obtain ⟨W, hW⟩ : ∃ W, W = (((w.alloc (.map #[] 0)).alloc (.map #[] 0)).alloc (.map #[] 0)).alloc (shO 0 w.heap.size (w.heap.size + 1) (w.heap.size + 1 + 1) 0) := ⟨_, rfl⟩
  have hfr : Fr [] w W := by rw [hW]; exact ((((Fr.refl [] w).alloc _).alloc _).alloc _).alloc _
  have hsz : W.heap.size = w.heap.size + 4 := by rw [hW]; simp
  have hin : ShIn W (w.heap.size + 1 + 1 + 1) 0 w.heap.size (w.heap.size + 1) (w.heap.size + 1 + 1) 0 sh0 := by
    refine { blk := ?_, vals := ?_, txns := ?_, holds := ?_, ne := ⟨by omega, by omega, by omega⟩, ticks := by decide }
    · rw [hW]; have := heap_alloc_new (((w.alloc (.map #[] 0)).alloc (.map #[] 0)).alloc (.map #[] 0)) (shO 0 w.heap.size (w.heap.size + 1) (w.heap.size + 1 + 1) 0); rwa [World.size_alloc, World.size_alloc, World.size_alloc] at this
    · rw [hW]; exact (((MapAs.made w).fr ((Fr.refl [] _).alloc _) (by simp)).fr ((Fr.refl [] _).alloc _) (by simp)).fr ((Fr.refl [] _).alloc _) (by simp)
    · rw [hW]; have := MapAs.made (KR := KU) (ER := ET) (w.alloc (.map #[] 0)); rw [World.size_alloc] at this; exact (this.fr ((Fr.refl [] _).alloc _) (by simp)).fr ((Fr.refl [] _).alloc _) (by simp)
    · rw [hW]; have := MapAs.made (KR := KH) (ER := EG) ((w.alloc (.map #[] 0)).alloc (.map #[] 0)); rw [World.size_alloc, World.size_alloc] at this; exact this.fr ((Fr.refl [] _).alloc _) (by simp)
  have hlo := led_open B p bD bN n 0 (w.heap.size + 1 + 1 + 1) w.heap.size (w.heap.size + 1) (w.heap.size + 1 + 1) R J sh0 W h.none hin ⟨_, _, _, _, hd.new hfr⟩ ⟨by omega, by omega, by omega, by omega, by omega, by omega⟩
    (fun W' hW' => h.jop W' (hfr.trans hW')) h.plain h.first h.byt h.ents (by have := h.few; omega) h.num
  have HF : Hid (Fr [] w W ∧ DiskIn w B p bD bN pv d n nD nN) := ⟨hfr, hd⟩
  clear h hfr hd hin
  go_enter Tryz.func110, Tryz.ntmps110
  go_wp2_with fail
  have hW2 : W = (((w.alloc (.map #[] 0)).alloc (.map #[] 0)).alloc (.map #[] 0)).alloc (.cells #[.pointer none, .map (some w.heap.size), .map (some (w.heap.size + 1)), .map (some (w.heap.size + 1 + 1)), .int .u64 0] 185) := hW
  rw [← hW2]
  clear hW hW2
  refine hlo.mono ?_
  clear hlo
  rintro e w1 ⟨gp, lp, s', rfl, hre, hin1, ⟨pv1, sv1, rv1, nD1, nN1, hl1⟩, hg1, hgp, hsd1⟩
  have c0 := blk_cell hin1.blk 0
  have f0 := blk_free hin1.blk 0
  simp at c0 f0
  obtain ⟨W2, hW2⟩ : ∃ W2, W2 = w1.setCell ⟨w.heap.size + 1 + 1 + 1, 0, none⟩ (.pointer (some ⟨gp, 0, none⟩)) := ⟨_, rfl⟩
  have hf2 : Fr [w.heap.size + 1 + 1 + 1] w1 W2 := by rw [hW2]; exact Fr.set1 (by simp) _ _
  have hgp1 : 1 ≤ gp := by omega
  have hb2 : W2.heap[w.heap.size + 1 + 1 + 1]? = some (shO gp w.heap.size (w.heap.size + 1) (w.heap.size + 1 + 1) s'.ticks) := by
    have := blk_set hin1.blk 0 (.pointer (some ⟨gp, 0, none⟩))
    simp at this
    rw [hW2]; unfold shO; rw [lgP_pos hgp1]; exact this
  have hne1 : gp ≠ w.heap.size + 1 + 1 + 1 := by omega
  have HS : Hid (J R.1.recs s' ∧ SL W2 B (w.heap.size + 1 + 1 + 1) gp w.heap.size (w.heap.size + 1) (w.heap.size + 1 + 1) (20 * R.1.recs.length) lp p bD bN n s' R.1 R.2.1 ∧ SDFr p [] w W2) := by
    have hin2 := hin1
    rw [Nat.zero_add] at hin2
    refine ⟨hre, ⟨{ blk := hb2, vals := hin2.vals.fr hf2 (by simp; omega), txns := hin2.txns.fr hf2 (by simp), holds := hin2.holds.fr hf2 (by simp), ne := hin2.ne, ticks := hin2.ticks }, ⟨pv1, sv1, rv1, nD1, nN1, hl1.apart hf2 (fun k hk _ => ?_)⟩, { led := (hf2.block gp (Array.getElem?_eq_some_iff.1 hg1).1 (by simpa using hne1)).trans hg1, ne := ⟨by omega, by omega, by omega, by omega, by omega, by omega⟩ }, hgp1⟩, ?_⟩
    · simp at hk
      subst hk
      exact ⟨hl1.free hin1.blk (by decide) (by decide) (by decide) (by decide) (by decide), fun t e => by rw [hin1.blk] at e; cases e⟩
    · have hf0 := HF.out.1
      have hd0 := HF.out.2
      refine ⟨hf2.os.trans (hsd1.os.trans hf0.os), hf2.tape.trans (hsd1.tape.trans hf0.tape), hf2.output.trans (hsd1.output.trans hf0.output), by have := hf2.size; have := hsd1.size; omega, fun k hk ho _ => ?_⟩
      rw [hf2.block k (by have := hsd1.size; omega) (by simp; omega), hsd1.block k (by omega) (fun ho' => ho ((hd0.ownD k).2 (((hd0.new hf0).ownD k).1 ho'))) (by simp; omega), hf0.block k hk (by simp)]
  clear hre hin1 hl1 hg1 hsd1 hf2 hb2
  go_wp2
  rw [← hW2]
  go_ret2
  exact ⟨w.heap.size + 1 + 1 + 1, gp, w.heap.size, w.heap.size + 1, w.heap.size + 1 + 1, lp, s', rfl, HS.out.1, HS.out.2.1, ⟨by omega, by omega, by omega, by omega⟩, HS.out.2.2⟩
set_option maxHeartbeats 1000000 in
theorem openShard_any (J : List Rec → AShard → Prop) (B p bD bN n : Nat) (R : ALog × ADisk × Nat) (w : World) (h : ShPre J B p bD bN n R w) :
    Calls Tryz.prog 49 #[dskV p] w (ShPost J B p bD bN n R w) := by
  have HC : Hid (Calls Tryz.prog 110 #[dskV p] w (ShPost J B p bD bN n R w)) := shOpen_any J B p bD bN n R w h
  clear h
  go_enter Tryz.func49, Tryz.ntmps49
  go_wp2_with fail
  refine HC.out.mono ?_
  rintro e w1 ⟨sp, gp, bV, bT, bH, lp, s', rfl, h1⟩
  have H1 := toHid h1
  clear h1
  go_wp2
  go_ret2
  exact ⟨sp, gp, bV, bT, bH, lp, s', rfl, H1.out⟩
end Go.Proofs.YtejiankgafjppaaGreatDoor
/- HOSTS OF A SHARD: before, after, close; Prepare, CommitHere, AbortHere. (Written by mkhos.py.) -/
namespace Go.Proofs.YtejiankgafjppaaGreatDoor
open Go.RowKit Go.Maps
open Sc

abbrev hostS (p : Nat) (up : Bool) (lv : Value) : Obj := .cells #[.int .i64 2, .int .i64 0, .pointer (some ⟨p, 0, none⟩), .bool up, .pointer none, lv, .pointer none, .pointer none] 94
set_option maxRecDepth 100000 in
set_option maxHeartbeats 1000000 in
theorem before_s (hp p bD bN : Nat) (pv lv : Value) (up dn : Bool) (l f a b c k : Int) (w : World) (hh : w.heap[hp]? = some (hostS p up lv)) (hd : w.heap[p]? = some (dskO bD bN pv l f dn)) :
    Calls Tryz.prog 46 #[.pointer (some ⟨hp, 0, none⟩), fallV a b c k] w fun e w' => e = .returned (.tuple #[]) ∧ w'.heap[p]? = some (dskO bD bN pv a b dn) ∧ Fr [p] w w' := by
  have hhl : hp < w.heap.size := (Array.getElem?_eq_some_iff.1 hh).1
  have hpl : p < w.heap.size := (Array.getElem?_eq_some_iff.1 hd).1
  have hne : ¬ hp = p := by intro e; subst e; rw [hh] at hd; cases hd
  have hne2 : ¬ p = hp := fun e => hne e.symm
  have hz1 : ¬ p = w.heap.size := by omega
  have hz2 : ¬ w.heap.size = p := by omega
  obtain ⟨W, hW⟩ : ∃ W, W = w.alloc (.cells #[.int .i64 a, .int .i64 b, .int .i64 c, .int .i64 k] 30) := ⟨_, rfl⟩
  have hhW : W.heap[hp]? = some (hostS p up lv) := by rw [hW, Below.heap_alloc w _ hp hhl]; exact hh
  have hdW : W.heap[p]? = some (dskO bD bN pv l f dn) := by rw [hW, Below.heap_alloc w _ p hpl]; exact hd
  have hfW : W.heap[w.heap.size]? = some (.cells #[.int .i64 a, .int .i64 b, .int .i64 c, .int .i64 k] 30 (0, 0)) := by rw [hW]; exact heap_alloc_new w _
  have c2 := blk_cell hhW 2
  have c3 := blk_cell hdW 3
  have c4 := blk_cell hdW 4
  have c5 := blk_cell hdW 5
  have f3 := blk_free hdW 3
  have f4 := blk_free hdW 4
  have x0 := blk_cell hfW 0
  have x1 := blk_cell hfW 1
  simp at c2 c3 c4 c5 x0 x1
  have HD : Hid (W.heap[p]? = some (dskO bD bN pv l f dn)) := hdW
  have HF : Hid (Fr [p] w W) := by rw [hW]; exact (Fr.refl [p] w).alloc _
  clear hd hh hhW hdW hfW
  clear c5
  go_enter Tryz.func46, Tryz.ntmps46
  go_wp2
  rw [← hW]
  clear hW
  go_region_held3 (fun w' => w'.cell? ⟨hp, 2, none⟩ = some (.pointer (some ⟨p, 0, none⟩)) ∧ w'.cell? ⟨w.heap.size, 0, none⟩ = some (.int .i64 a) ∧ w'.cell? ⟨w.heap.size, 1, none⟩ = some (.int .i64 b)) (simp [setCell_far, *]) (fail)
  go_end0
  refine ⟨rfl, ?_, HF.out.trans (((Fr.set1 (by simp) _ _).trans (Fr.set1 (by simp) _ _)).drew)⟩
  have := blk_set (blk_set HD.out 3 (.int .i64 a)) 4 (.int .i64 b)
  simp at this
  exact this
set_option maxRecDepth 100000 in
set_option maxHeartbeats 1000000 in
theorem after_s (hp p bD bN : Nat) (pv lv : Value) (up : Bool) (l f a b c k : Int) (w : World) (hh : w.heap[hp]? = some (hostS p up lv)) (hd : w.heap[p]? = some (dskO bD bN pv l f false)) :
    Calls Tryz.prog 53 #[.pointer (some ⟨hp, 0, none⟩), fallV a b c k] w fun e w' => e = .returned (.tuple #[]) ∧ w'.heap[p]? = some (dskO bD bN pv (-1) (-1) false) ∧ Fr [p] w w' := by
  have hhl : hp < w.heap.size := (Array.getElem?_eq_some_iff.1 hh).1
  have hpl : p < w.heap.size := (Array.getElem?_eq_some_iff.1 hd).1
  have hne : ¬ hp = p := by intro e; subst e; rw [hh] at hd; cases hd
  have hne2 : ¬ p = hp := fun e => hne e.symm
  have hz1 : ¬ p = w.heap.size := by omega
  have hz2 : ¬ w.heap.size = p := by omega
  obtain ⟨W, hW⟩ : ∃ W, W = w.alloc (.cells #[.int .i64 a, .int .i64 b, .int .i64 c, .int .i64 k] 30) := ⟨_, rfl⟩
  have hhW : W.heap[hp]? = some (hostS p up lv) := by rw [hW, Below.heap_alloc w _ hp hhl]; exact hh
  have hdW : W.heap[p]? = some (dskO bD bN pv l f false) := by rw [hW, Below.heap_alloc w _ p hpl]; exact hd
  have hfW : W.heap[w.heap.size]? = some (.cells #[.int .i64 a, .int .i64 b, .int .i64 c, .int .i64 k] 30 (0, 0)) := by rw [hW]; exact heap_alloc_new w _
  have c2 := blk_cell hhW 2
  have c3 := blk_cell hdW 3
  have c4 := blk_cell hdW 4
  have c5 := blk_cell hdW 5
  have f3 := blk_free hdW 3
  have f4 := blk_free hdW 4
  have x0 := blk_cell hfW 0
  have x1 := blk_cell hfW 1
  simp at c2 c3 c4 c5 x0 x1
  have HD : Hid (W.heap[p]? = some (dskO bD bN pv l f false)) := hdW
  have HF : Hid (Fr [p] w W) := by rw [hW]; exact (Fr.refl [p] w).alloc _
  clear hd hh hhW hdW hfW
  go_enter Tryz.func53, Tryz.ntmps53
  have d2 := c2
  have d5 := c5
  rw [hW] at d2 d5
  go_wp2
  rw [← hW]
  clear hW d2 d5
  go_region_held3 (fun w' => w'.cell? ⟨hp, 2, none⟩ = some (.pointer (some ⟨p, 0, none⟩))) (simp [setCell_far, *]) (fail)
  go_end0
  refine ⟨rfl, ?_, HF.out.trans (((Fr.set1 (by simp) _ _).trans (Fr.set1 (by simp) _ _)).drew)⟩
  have := blk_set (blk_set HD.out 3 (.int .i64 (-1))) 4 (.int .i64 (-1))
  simp at this
  exact this
set_option maxRecDepth 100000 in
set_option maxHeartbeats 1000000 in
theorem close_s (hp p : Nat) (up : Bool) (lv : Value) (hlv : ∃ x, lv = .pointer x) (w : World) (hh : w.heap[hp]? = some (hostS p up lv)) :
    Calls Tryz.prog 47 #[.pointer (some ⟨hp, 0, none⟩)] w fun e w' => e = .returned (.tuple #[]) ∧ w'.heap[hp]? = some (hostS p false (.pointer none)) ∧ Fr [hp] w w' := by
  obtain ⟨x, rfl⟩ := hlv
  have c3 := blk_cell hh 3
  have c4 := blk_cell hh 4
  have c5 := blk_cell hh 5
  have c6 := blk_cell hh 6
  have c7 := blk_cell hh 7
  have f3 := blk_free hh 3
  have f4 := blk_free hh 4
  have f5 := blk_free hh 5
  have f6 := blk_free hh 6
  have f7 := blk_free hh 7
  simp at c3 c4 c5 c6 c7
  have HH : Hid (w.heap[hp]? = some (hostS p up (.pointer x))) := hh
  clear hh
  go_enter Tryz.func47, Tryz.ntmps47
  go_wp2
  go_end0
  refine ⟨rfl, ?_, ((((Fr.set1 (by simp) _ _).trans (Fr.set1 (by simp) _ _)).trans (Fr.set1 (by simp) _ _)).trans (Fr.set1 (by simp) _ _)).trans (Fr.set1 (by simp) _ _)⟩
  have := blk_set (blk_set (blk_set (blk_set (blk_set HH.out 3 (.bool false)) 4 (.pointer none)) 5 (.pointer none)) 6 (.pointer none)) 7 (.pointer none)
  simp at this
  exact this
/-- what a caller's own memory needs -/
structure HFr (B : Nat) (w w' : World) : Prop where
  below : Below B w w'
  fall : ∀ (k : Nat) (a b c d : Int), w.heap[k]? = some (fallO a b c d) → w'.heap[k]? = some (fallO a b c d)
theorem HFr.trans {B : Nat} {a b c : World} (h : HFr B a b) (k : HFr B b c) : HFr B a c := ⟨h.below.trans k.below, fun i x y z u hi => k.fall i x y z u (h.fall i x y z u hi)⟩
theorem HFr.new {B : Nat} {w w' : World} (h : Fr [] w w') (hB : B ≤ w.heap.size) : HFr B w w' := ⟨h.below hB (by simp), fun k a b c d hk => (h.block k (Array.getElem?_eq_some_iff.1 hk).1 (by simp)).trans hk⟩
section
variable {w w' : World} {B sp gp bV bT bH m m' lp p bD bN n n' : Nat} {s s' : AShard} {l l' : ALog} {d d' : ADisk}
/-- cells of another kind stay -/
theorem SFr.cells (hf : SFr sp bV bT bH lp p w w') (h : SL w B sp gp bV bT bH m lp p bD bN n s l d) {k : Nat} {c : Array Value} {t : TypeId} (hk : w.heap[k]? = some (.cells c t (0, 0))) (h1 : t ≠ 88) (h2 : t ≠ 175) (h3 : t ≠ 168) (h4 : t ≠ 34) (h5 : t ≠ 44) (h6 : t ≠ 185) : w'.heap[k]? = some (.cells c t (0, 0)) := by
  obtain ⟨pv, sv, rv, nD, nN, hl⟩ := h.lg
  refine (hf.block k (Array.getElem?_eq_some_iff.1 hk).1 (hl.free hk h1 h2 h3 h4 h5) ?_).trans hk
  intro hm
  simp at hm
  rcases hm with e | e | e | e
  · rw [e, h.sh.blk] at hk; cases hk; exact h6 rfl
  · obtain ⟨es, c2, e2⟩ := h.sh.vals.isMap; rw [e, e2] at hk; cases hk
  · obtain ⟨es, c2, e2⟩ := h.sh.txns.isMap; rw [e, e2] at hk; cases hk
  · obtain ⟨es, c2, e2⟩ := h.sh.holds.isMap; rw [e, e2] at hk; cases hk
theorem SFr.hfr (hf : SFr sp bV bT bH lp p w w') (h : SL w B sp gp bV bT bH m lp p bD bN n s l d) (hb : B ≤ sp ∧ B ≤ bV ∧ B ≤ bT ∧ B ≤ bH) : HFr B w w' := by
  obtain ⟨pv, sv, rv, nD, nN, hl⟩ := h.lg
  refine ⟨⟨hf.os, hf.tape, hf.output, hf.size, fun k hk => hf.block k (Nat.lt_of_lt_of_le hk hl.disk.base.2.2.2) (fun ho => by have := hl.ge ho; omega) (by simp; omega)⟩, fun k a b c x hk => hf.cells h hk (by decide) (by decide) (by decide) (by decide) (by decide) (by decide)⟩
theorem SL.knob (h : SL w B sp gp bV bT bH m lp p bD bN n s l d) (a b : Int) (hf : Fr [p] w w') {pv : Value} (hb : w'.heap[p]? = some (dskO bD bN pv a b d.down)) (hb0 : w.heap[p]? = some (dskO bD bN pv d.left d.full d.down)) :
    SL w' B sp gp bV bT bH m lp p bD bN n s l (d.knob a b) ∧ SFr sp bV bT bH lp p w w' := by
  obtain ⟨pv', sv, rv, nD, nN, hl⟩ := h.lg
  have e : pv' = pv := by have := hl.disk.blk; rw [hb0] at this; cases this; rfl
  subst e
  obtain ⟨h1, h2⟩ := hl.knob a b hf hb
  exact h.log h2 ⟨_, _, _, _, _, h1⟩
end
theorem HFr.met {B : Nat} {w w' : World} (h : HFr B w w') (hB : 2 ≤ B) (hm : Met w) : Met w' := hm.below h.below (by omega)
theorem HFr.pows {B : Nat} {w w' : World} (h : HFr B w w') (hB : 2 ≤ B) (hm : Pows w) : Pows w' := hm.of_block (h.below.block 1 (by omega))
/-- an open host of a shard -/
def HSt (w : World) (B hp m n : Nat) (s : AShard) (l : ALog) (d : ADisk) : Prop :=
  ∃ p sp gp bV bT bH lp bD bN, w.heap[hp]? = some (hostS p true (.pointer (some ⟨sp, 0, none⟩))) ∧ SL w B sp gp bV bT bH m lp p bD bN n s l d ∧ (B ≤ sp ∧ B ≤ bV ∧ B ≤ bT ∧ B ≤ bH)
end Go.Proofs.YtejiankgafjppaaGreatDoor
/- HOSTS OF A SHARD: Pairs. -/
namespace Go.Proofs.YtejiankgafjppaaGreatDoor
open Go.RowKit Go.Maps Go.Shelf
open Sc

abbrev pairC (x : ByteArray × ByteArray) : List Value := [.string x.1, .string x.2]
/-- pairs as cells -/
def pairsV (l : List (ByteArray × ByteArray)) : List Value := l.flatMap pairC
theorem pairsV_snoc (l : List (ByteArray × ByteArray)) (x : ByteArray × ByteArray) : pairsV (l ++ [x]) = pairsV l ++ pairC x := by simp [pairsV]
theorem Tryz.infoPair : (Tryz.prog.info? 133).map (fun i => (i.zero, i.size, i.bytes)) = some (some (.agg #[.string ByteArray.empty, .string ByteArray.empty]), 2, 32) := by kernel_rfl
theorem Tryz.eqNilP (v : Array Value) (w : World) : (binOp .eql 197 (.func (.func 260) #[] v) .nilFunc).run Tryz.prog w = .ok (.bool false) w := by kernel_rfl
theorem Tryz.lenPair (p : Option Addr) (n c : Nat) (w : World) : (Builtin.len_ #[68] 3 #[.slice p n c]).run Tryz.prog w = .ok (.int .i64 n) w := by simp [Builtin.len_, run_underlying Tryz.underlying68, goInt]
set_option maxHeartbeats 1000000 in
theorem all_fn (n : Nat) (hn : 1 ≤ n) (sp lg bV bT bH m : Nat) (s : AShard) (w : World) (h : ShIn w sp lg bV bT bH m s) :
    CallsIn Fence.wide n Tryz.prog 141 #[.pointer (some ⟨sp, 0, none⟩)] w fun e w' => e = .returned (.func (.func 260) #[] #[.pointer (some ⟨w.heap.size, 0, none⟩)]) ∧ w' = w.alloc (.cells #[.map (some bV)] 181) := by
  have c1 := blk_cell h.blk 1
  simp at c1
  have hbf := byKeysV_fn (n - 1) bV w
  have hf2 : Fence.wide.fn 205 := trivial
  refine callsIn_of_wp Tryz.func141 rfl trivial ?_ rfl
  simp only [Tryz.ntmps141, List.size_toArray, List.length_cons, List.length_nil, Nat.reduceAdd, Nat.reduceSub, Array.replicate_succ, Array.replicate_zero, List.push_toArray, List.append_toArray, List.nil_append, List.cons_append]
  gi_wp2_with fail
  refine hbf.mono ?_
  rintro e w1 ⟨rfl, rfl⟩
  gi_wp2
  go_ret
  exact ⟨rfl, rfl⟩
/-- what was gone over -/
def pairsS {L : List (ByteArray × ByteArray)} (pre : List { x : ByteArray × ByteArray // x ∈ sortV L }) : List (ByteArray × ByteArray) := pre.map (·.1)
theorem pairsS_snoc {L : List (ByteArray × ByteArray)} (pre : List { x : ByteArray × ByteArray // x ∈ sortV L }) (x : { x : ByteArray × ByteArray // x ∈ sortV L }) : pairsS (pre ++ [x]) = pairsS pre ++ [x.1] := by simp [pairsS]
set_option maxRecDepth 100000 in
set_option maxHeartbeats 4000000 in
theorem pairs_in (n : Nat) (hn : 9 ≤ n) (hp p sp lg bV bT bH m : Nat) (s : AShard) (w : World) (hh : w.heap[hp]? = some (hostS p true (.pointer (some ⟨sp, 0, none⟩)))) (h : ShIn w sp lg bV bT bH m s) (hm : m ≤ 67108864) :
    CallsIn Fence.wide n Tryz.prog 72 #[.pointer (some ⟨hp, 0, none⟩), .int .i64 0] w fun e w' => ∃ v, e = .returned (.tuple #[v, .bool true]) ∧ w'.ownsRow w.heap.size 133 2 v (sortV s.vals).length (pairsV (sortV s.vals)) ∧ Below w.heap.size w w' := by
  have hro : Fence.wide.round = none := rfl
  have h1 : 1 ≤ n := by omega
  have hf2 : Fence.wide.fn 141 := trivial
  have hf3 : Fence.wide.fn 260 := trivial
  obtain ⟨i0, hi, hz0, hz1, hz2⟩ := info_parts Tryz.infoPair
  obtain ⟨W1, hW1⟩ : ∃ W1, W1 = w.alloc (.cells #[.int .i64 0] 3) := ⟨_, rfl⟩
  have hB1 : Below w.heap.size w W1 := by rw [hW1]; exact (Below.refl _ w).alloc (Nat.le_refl _) _
  have hs1 : W1.heap.size = w.heap.size + 1 := by rw [hW1]; simp
  have bL : Boxed W1 w.heap.size 3 (.int .i64 0) := by rw [hW1]; exact Boxed.new w _ _
  have hh1 := (hB1.block hp (Array.getElem?_eq_some_iff.1 hh).1).trans hh
  have hin1 := h.fr (Fr.of_below hB1 []) (by simp) (by simp) (by simp) (by simp)
  have c5 := blk_cell hh1 5
  simp at c5
  have hal := all_fn (n - 1) (by omega) sp lg bV bT bH m s W1 hin1
  have HV : Hid (MapAs KS ES W1 bV m s.vals) := hin1.vals
  have hnf := Tryz.eqNilP
  clear h hin1 hh hh1
  rw [hW1] at c5
  refine callsIn_of_wp_marks Tryz.func72 rfl trivial ?_ hro
  simp only [Tryz.ntmps72, List.size_toArray, List.length_cons, List.length_nil, Nat.reduceAdd, Nat.reduceSub, Array.replicate_succ, Array.replicate_zero, List.push_toArray, List.append_toArray, List.nil_append, List.cons_append]
  gi_wp2_with (gi_at_call 141; rw [← hW1]; refine hal.mono ?_; rintro e w2 ⟨rfl, rfl⟩)
  rw [← hW1]
  have hlenP := Tryz.lenPair
  obtain ⟨W2, hW2⟩ : ∃ W2, W2 = W1.alloc (.cells #[.map (some bV)] 181) := ⟨_, rfl⟩
  obtain ⟨W0, hW0⟩ : ∃ W0, W0 = W2.alloc (.cells #[.slice none 0 0] 68) := ⟨_, rfl⟩
  rw [← hW2, ← hW0]
  have hs2 : W2.heap.size = w.heap.size + 2 := by rw [hW2, World.size_alloc, hs1]
  have hsz : W0.heap.size = w.heap.size + 3 := by rw [hW0, World.size_alloc, hs2]
  have bA : Boxed W0 (w.heap.size + 1) 181 (.map (some bV)) := by
    rw [hW0]
    have := Boxed.new W1 181 (.map (some bV))
    rw [hs1, ← hW2] at this
    exact this.alloc _
  have bO1 : Boxed W0 (w.heap.size + 1 + 1) 68 (.slice none 0 0) := by
    have := Boxed.new W2 68 (.slice none 0 0)
    rw [hs2, ← hW0] at this
    exact this
  have bL0 : Boxed W0 w.heap.size 3 (.int .i64 0) := by rw [hW0, hW2]; exact (bL.alloc _).alloc _
  have hB0 : Below w.heap.size w W0 := by rw [hW0, hW2]; exact (hB1.alloc (by omega) _).alloc (by simp; omega) _
  have hL0 : MapAs KS ES W0 bV m s.vals := by rw [hW0, hW2]; exact (HV.out.fr ((Fr.refl [] _).alloc _) (by simp)).fr ((Fr.refl [] _).alloc _) (by simp)
  have hvl : s.vals.length ≤ 67108864 := by have h1 := HV.out.len; omega
  clear hW0 hW2 hW1 bL hal c5 hB1 HV
  refine wpIn_rangeFunc_ownH hro h1 (gf := 260) (lb := #[.pointer (some ⟨w.heap.size + 1, 0, none⟩)]) rfl hf3 (enters_of Tryz.func260 (by kernel_rfl) rfl)
    (byKeysV_stops (n - 1) (by omega) (w.heap.size + 1) bV m s.vals (fun x => x ∈ sortV s.vals) (fun x hx => hx) hm W0 (by omega) bA.cell hL0 (KpB 9 9 w.heap.size (w.heap.size + 1 + 1)) (fun k A => ¬ RowOf (w.heap.size + 1 + 1) A k)
      (fun W k A hW _ hA hr => by
        obtain ⟨v, e1, e2⟩ := hr
        have h1 : A.cell? ⟨w.heap.size + 1 + 1, 0, none⟩ = W0.cell? ⟨w.heap.size + 1 + 1, 0, none⟩ := (hA.cell (p := ⟨w.heap.size + 1 + 1, 0, none⟩) (by have := hW.size; show w.heap.size + 1 + 1 < _; omega)).trans (hW.cell (p := ⟨w.heap.size + 1 + 1, 0, none⟩) (by show w.heap.size + 1 + 1 < _; omega))
        rw [h1, bO1.cell] at e1
        cases e1
        cases e2)
      (fun k A B c t ht hk hA hn => ⟨hk.same k c t ht hA hn, fun hr => hn (hk.stay k (Array.getElem?_eq_some_iff.1 hA).1 hr)⟩))
    (fun h k => h.trans k) (KpB.book (by omega) (by omega)) (Below.refl _ _) (fun _ => rfl)
    (fun pre W => ((∃ v, Boxed W (w.heap.size + 1 + 1) 68 v ∧ W.ownsRow w.heap.size 133 2 v (pairsS pre).length (pairsV (pairsS pre)) ∧ True) ∧ Boxed W w.heap.size 3 (.int .i64 0)) ∧ Below w.heap.size w W)
    (fun _ _ _ => False)
    (OwnFrom.and (OwnFrom.and (Own.from (holdsRow_own w.heap.size (w.heap.size + 1 + 1) 68 133 2 (fun pre : List { x : ByteArray × ByteArray // x ∈ sortV s.vals } => (pairsS pre).length) (fun pre => pairsV (pairsS pre)) (fun _ _ => True)) _) (Own.from (boxed_own _ _ _) _)) (ownFrom_below (Nat.le_refl _) (by omega)))
    (fun _ _ _ _ _ hs _ _ => hs)
    ⟨⟨⟨_, bO1, World.ownsRow_nil _ _ _ _, trivial⟩, bL0⟩, hB0⟩
    (fun x a' W => a' = { tmps := #[.pointer (some ⟨hp, 0, none⟩), .int .i64 0, undef, .pointer (some ⟨w.heap.size, 0, none⟩), .slice none 0 0, .bool false, .func (.func 260) #[] #[.pointer (some ⟨w.heap.size + 1, 0, none⟩)], .pointer (some ⟨w.heap.size + 1 + 1, 0, none⟩), .string x.1.1, .string x.1.2, .pointer (some ⟨hp, 0, none⟩), .pointer (some ⟨hp, 0, none⟩), .pointer (some ⟨hp, 5, none⟩), .pointer (some ⟨sp, 0, none⟩), .bool false, .pointer (some ⟨hp, 0, none⟩), .pointer (some ⟨hp, 0, none⟩), .pointer (some ⟨hp, 5, none⟩), .pointer (some ⟨sp, 0, none⟩), .func (.func 260) #[] #[.pointer (some ⟨w.heap.size + 1, 0, none⟩)], .func (.func 260) #[] #[.pointer (some ⟨w.heap.size + 1, 0, none⟩)], .bool false, .func (.func 260) #[] #[.pointer (some ⟨w.heap.size + 1, 0, none⟩)], .string x.1.1, .string x.1.2, undef, undef, undef, undef, undef, undef, undef, undef, undef, undef, undef], defers := [] })
    (fun x a' _ X Y row hs _ _ => hs)
    ?assign ?body ?done ?stop
  case assign =>
    have hsem := @Oper.semAt_some
    rintro l pre x W K ⟨⟨⟨v, hv, hrow, _⟩, hlb⟩, hB1⟩ hK
    gi_wp2
    exact hK _ _ (KeepsFrom.refl _ _) (KpB.refl _) ⟨⟨⟨v, hv, hrow, trivial⟩, hlb⟩, hB1⟩ rfl
  case body =>
    have hsem := @Oper.semAt_some
    rintro l pre x a' W hl2 _ ⟨⟨⟨v, hv, hrow, _⟩, hlb⟩, hB⟩ rfl hlt
    have hc := hv.cell
    have hpl : (pairsS pre).length = pre.length := by unfold pairsS; rw [List.length_map]
    have HW : Hid (pairsS (pre ++ [x]) = pairsS pre ++ [x.1]) := pairsS_snoc pre x
    have hpb : (pairsS pre).length < 67108864 := by omega
    clear hpl
    obtain ⟨q, hq⟩ : ∃ q, q = (pairsS pre).length := ⟨_, rfl⟩
    have HQ : Hid (q = (pairsS pre).length) := hq
    rw [← hq] at hrow hpb
    clear hq
    have iq : ¬ ((q : Int) + 1 = 0) := by omega
    gi_wp2_with (gi_at_builtin; refine wpListIn_append_at _ rfl _ _ 68 rfl w.heap.size 133 i0 _ 2 32 Tryz.underlying68 hi hz0 hz1 hz2 rfl (by decide) _ _ _ rfl (hrow.alloc _) ⟨W.heap.size, 0, none⟩ 1 1 [.string x.1.1, .string x.1.2] rfl rfl (cells_new _ #[.string x.1.1, .string x.1.2] _) (by intro u hu; simp at hu; rcases hu with rfl | rfl <;> rfl) (by unfold maxLen; omega) (by omega) (by have := hB.size; simp; omega) ?_; intro v' w1 hown' hgrow hat; obtain ⟨g', cap', rfl⟩ := ownsRow_succ hown'; obtain ⟨hv1, hv2, hr2, hk2, hb2⟩ := hv.appended (by decide) hrow hB.size (by omega) hown' hgrow; have hc1 := hv1.cell; have hf1 := hv1.frozen; have hc2 := hv2.cell; have hl1 : Boxed (w1.setCell ⟨w.heap.size + 1 + 1, 0, none⟩ (.slice (some ⟨g', 0, none⟩) (q + 1) cap')) w.heap.size 3 (.int .i64 0) := (Below.heap_setCell _ _ _ w.heap.size (by show w.heap.size ≠ w.heap.size + 1 + 1; omega)).trans ((hgrow.block w.heap.size (by have := hlb.lt; simp; omega) (hlb.not_row (by decide) hrow)).trans ((Below.heap_alloc _ _ _ hlb.lt).trans hlb)); have hl1c := hl1.cell; have HKP : Hid (KpB 9 9 w.heap.size (w.heap.size + 1 + 1) W (w1.setCell ⟨w.heap.size + 1 + 1, 0, none⟩ (.slice (some ⟨g', 0, none⟩) (q + 1) cap')) ∧ KeepsOthers W (w1.setCell ⟨w.heap.size + 1 + 1, 0, none⟩ (.slice (some ⟨g', 0, none⟩) (q + 1) cap'))) := ⟨KpB.appended hv (by decide) (by decide) hgrow hat hb2 hv2, hk2⟩; clear hat)
    refine ⟨HKP.out.2.from _, HKP.out.1, ⟨⟨_, hv2, ?_, trivial⟩, hl1⟩, hB.trans hb2⟩
    rw [HW.out, pairsV_snoc, List.length_append, ← HQ.out]
    exact hr2
  case done =>
    rintro D ys W hD hys ⟨⟨⟨v, hv, hrow, _⟩, hlb⟩, hB⟩ hK
    have hc := hv.cell
    have HE : Hid (pairsS ys = sortV s.vals) := by show _ = _; unfold pairsS; exact hys
    gi_wp2
    refine ⟨by simp, .inl ⟨_, _, rfl, run_takeDeferred hK, ?_⟩⟩
    rw [HE.out] at hrow
    refine ⟨.tuple #[v, .bool true], ?_, v, rfl, ownsRow_putObj hrow _ hK rfl, hB.trans (belowK_b (w := w) (Nat.le_refl _) W D _ _ (by omega) hK rfl rfl)⟩
    simp only [results, Tryz.f72]
    simp [go_sem]
  case stop =>
    rintro D c pre W _ _ h _
    exact h.elim
end Go.Proofs.YtejiankgafjppaaGreatDoor
/- THE DOCUMENT'S SHARD IN MEMORY; find, State, lock, Value. -/
namespace Go.Proofs.YtejiankgafjppaaGreatDoor
open Go.RowKit Go.Maps
open Sc

theorem flat_at {α : Type} {f : α → List Value} {k : Nat} (hk : ∀ x, (f x).length = k) : ∀ (l : List α) (i : Nat) (x : α), l[i]? = some x → ∀ j, j < k → (l.flatMap f)[i * k + j]? = (f x)[j]?
  | [], i, x, h, _, _ => by simp at h
  | y :: l, 0, x, h, j, hj => by
    simp at h
    subst h
    rw [List.flatMap_cons, Nat.zero_mul, Nat.zero_add, List.getElem?_append_left (by rw [hk]; exact hj)]
  | y :: l, i + 1, x, h, j, hj => by
    simp at h
    have e : (i + 1) * k + j = k + (i * k + j) := by rw [Nat.add_mul, Nat.one_mul]; omega
    rw [List.flatMap_cons, e, List.getElem?_append_right (by rw [hk]; omega), hk, Nat.add_sub_cancel_left]
    exact flat_at hk l i x h j hj
theorem flat_len {α : Type} {f : α → List Value} {k : Nat} (hk : ∀ x, (f x).length = k) (l : List α) : (l.flatMap f).length = l.length * k := by
  induction l with
  | nil => simp
  | cons x l ih => rw [List.flatMap_cons, List.length_append, hk, ih, List.length_cons, Nat.add_mul, Nat.one_mul]; omega
abbrev lockC (l : RLock) : List Value := [.string l.key, .bool l.wr, .bool l.gone, .string l.val]
def locksV (ls : List RLock) : List Value := ls.flatMap lockC
abbrev rtxC (p : RTx × Value) : List Value := [.int .u64 (p.1.id : Int), .int .i64 (p.1.st : Int), .int .i64 (p.1.ops : Int), .int .i64 (p.1.age : Int), p.2]
def rtxsV (ps : List (RTx × Value)) : List Value := ps.flatMap rtxC
abbrev rshO (tv xv : Value) : Obj := .cells #[tv, xv] 71
/-- a row's cell -/
theorem row_cell {w : World} {base : Nat} {e : TypeId} {size n : Nat} {v : Value} {xs : List Value} (h : w.ownsRow base e size v n xs) {g c m : Nat} (hv : v = .slice (some ⟨g, 0, none⟩) m c) {j : Nat} {u : Value} (hj : xs[j]? = some u) : w.cell? ⟨g, j, none⟩ = some u := by
  have := h.cells (g := g) (by rw [hv]; rfl) j u hj
  have e : (⟨g, 0, none⟩ : Addr).add j = ⟨g, j, none⟩ := by unfold Addr.add; split <;> simp_all
  rw [e] at this
  exact this
/-- how it lies: its table, its transactions each with the slice of its locks -/
structure Bs where
  b : Nat
/-- what the document's shard owns lies from here on -/
abbrev B0 [Inhabited Bs] : Nat := (default : Bs).b
structure RsIn [Inhabited Bs] (w : World) (rp : Nat) (tv xv : Value) (ps : List (RTx × Value)) (R : RSh) : Prop where
  base : B0 ≤ rp
  blk : w.heap[rp]? = some (rshO tv xv)
  tab : w.ownsRow B0 133 2 tv R.table.length (pairsV R.table)
  txs : w.ownsRow B0 126 5 xv ps.length (rtxsV ps)
  lks : ∀ p ∈ ps, w.ownsRow B0 201 4 p.2 p.1.locks.length (locksV p.1.locks)
  apart : ps.Pairwise fun p q => p.2.ownBlock = none ∨ p.2.ownBlock ≠ q.2.ownBlock
  rs : ps.map (·.1) = R.txns
section
variable {w w' : World} {rp : Nat} {tv xv : Value} {ps : List (RTx × Value)} {R : RSh}
theorem RsIn.fr [Inhabited Bs] (h : RsIn w rp tv xv ps R) (hf : Fr [] w w') : RsIn w' rp tv xv ps R where
  base := h.base
  blk := (hf.block rp (Array.getElem?_eq_some_iff.1 h.blk).1 (by simp)).trans h.blk
  tab := ownsRow_fr h.tab hf (by simp)
  txs := ownsRow_fr h.txs hf (by simp)
  lks := fun p hp => ownsRow_fr (h.lks p hp) hf (by simp)
  apart := h.apart
  rs := h.rs
theorem RsIn.low [Inhabited Bs] (h : RsIn w rp tv xv ps R) : B0 ≤ w.heap.size := Nat.le_trans h.base (Nat.le_of_lt (Array.getElem?_eq_some_iff.1 h.blk).1)
theorem RsIn.len [Inhabited Bs] (h : RsIn w rp tv xv ps R) : ps.length = R.txns.length := by rw [← h.rs, List.length_map]
theorem RsIn.at [Inhabited Bs] (h : RsIn w rp tv xv ps R) {i : Nat} {x : RTx} (hi : R.txns[i]? = some x) : ∃ v, ps[i]? = some (x, v) := by
  rw [← h.rs, List.getElem?_map] at hi
  cases hp : ps[i]? with
  | none => rw [hp] at hi; cases hi
  | some p => rw [hp] at hi; exact ⟨p.2, by rw [← Option.some.inj hi]⟩
theorem RsIn.back [Inhabited Bs] (h : RsIn w rp tv xv ps R) {i : Nat} {p : RTx × Value} (hi : ps[i]? = some p) : R.txns[i]? = some p.1 := by rw [← h.rs, List.getElem?_map, hi]; rfl
/-- the slice of the transactions -/
theorem RsIn.slice [Inhabited Bs] (h : RsIn w rp tv xv ps R) : ∃ ao c, xv = .slice ao ps.length c ∧ (∀ i p, ps[i]? = some p → ∃ g, ao = some ⟨g, 0, none⟩ ∧ w.cell? ⟨g, i * 5, none⟩ = some (.int .u64 (p.1.id : Int)) ∧ w.cell? ⟨g, i * 5 + 1, none⟩ = some (.int .i64 (p.1.st : Int)) ∧ w.cell? ⟨g, i * 5 + 2, none⟩ = some (.int .i64 (p.1.ops : Int)) ∧ w.cell? ⟨g, i * 5 + 3, none⟩ = some (.int .i64 (p.1.age : Int)) ∧ w.cell? ⟨g, i * 5 + 4, none⟩ = some p.2) := by
  rcases h.txs.2 with ⟨e, h0⟩ | ⟨g, cap, cur, e, rest⟩
  · refine ⟨none, 0, by rw [e, h0], fun i p hp => ?_⟩
    have := (List.getElem?_eq_some_iff.1 hp).1
    omega
  · refine ⟨some ⟨g, 0, none⟩, cap, e, fun i p hp => ⟨g, rfl, ?_⟩⟩
    have key := fun j hj => flat_at (f := rtxC) (k := 5) (fun _ => rfl) ps i p hp j hj
    exact ⟨row_cell h.txs e (key 0 (by decide)), row_cell h.txs e (key 1 (by decide)), row_cell h.txs e (key 2 (by decide)), row_cell h.txs e (key 3 (by decide)), row_cell h.txs e (key 4 (by decide))⟩
theorem RsIn.table [Inhabited Bs] (h : RsIn w rp tv xv ps R) : ∃ ao c, tv = .slice ao R.table.length c ∧ (∀ i p, R.table[i]? = some p → ∃ g, ao = some ⟨g, 0, none⟩ ∧ w.cell? ⟨g, i * 2, none⟩ = some (.string p.1) ∧ w.cell? ⟨g, i * 2 + 1, none⟩ = some (.string p.2)) := by
  rcases h.tab.2 with ⟨e, h0⟩ | ⟨g, cap, cur, e, rest⟩
  · refine ⟨none, 0, by rw [e, h0], fun i p hp => ?_⟩
    have := (List.getElem?_eq_some_iff.1 hp).1
    omega
  · refine ⟨some ⟨g, 0, none⟩, cap, e, fun i p hp => ⟨g, rfl, ?_⟩⟩
    have key := fun j hj => flat_at (f := pairC) (k := 2) (fun _ => rfl) R.table i p hp j hj
    exact ⟨row_cell h.tab e (key 0 (by decide)), row_cell h.tab e (key 1 (by decide))⟩
end
theorem lock_slice [Inhabited Bs] {w : World} {v : Value} {ls : List RLock} (h : w.ownsRow B0 201 4 v ls.length (locksV ls)) : ∃ ao c, v = .slice ao ls.length c ∧ (∀ i l, ls[i]? = some l → ∃ g, ao = some ⟨g, 0, none⟩ ∧ w.cell? ⟨g, i * 4, none⟩ = some (.string l.key) ∧ w.cell? ⟨g, i * 4 + 1, none⟩ = some (.bool l.wr) ∧ w.cell? ⟨g, i * 4 + 2, none⟩ = some (.bool l.gone) ∧ w.cell? ⟨g, i * 4 + 3, none⟩ = some (.string l.val)) := by
  rcases h.2 with ⟨e, h0⟩ | ⟨g, cap, cur, e, rest⟩
  · refine ⟨none, 0, by rw [e, h0], fun i p hp => ?_⟩
    have := (List.getElem?_eq_some_iff.1 hp).1
    omega
  · refine ⟨some ⟨g, 0, none⟩, cap, e, fun i p hp => ⟨g, rfl, ?_⟩⟩
    have key := fun j hj => flat_at (f := lockC) (k := 4) (fun _ => rfl) ls i p hp j hj
    exact ⟨row_cell h e (key 0 (by decide)), row_cell h e (key 1 (by decide)), row_cell h e (key 2 (by decide)), row_cell h e (key 3 (by decide))⟩
/-- a place, or -1 -/
def ixI (o : Option Nat) : Int := (o.map fun n : Nat => (n : Int)).getD (-1)
theorem ix_none {α : Type} {p : α → Bool} {xs : List α} (h : ∀ (i : Nat) (x : α), xs[i]? = some x → p x = false) : xs.findIdx? p = none := by
  rw [List.findIdx?_eq_none_iff]
  intro x hx
  obtain ⟨i, hi⟩ := List.mem_iff_getElem?.1 hx
  exact h i x hi
theorem ix_some {α : Type} {p : α → Bool} {xs : List α} {k : Nat} {x : α} (hk : xs[k]? = some x) (hx : p x = true) (h : ∀ (i : Nat) (y : α), i < k → xs[i]? = some y → p y = false) : xs.findIdx? p = some k := by
  rw [List.findIdx?_eq_some_iff_getElem]
  obtain ⟨hl, e⟩ := List.getElem?_eq_some_iff.1 hk
  refine ⟨hl, by rw [e]; exact hx, fun j hj => ?_⟩
  have := h j xs[j] hj (List.getElem?_eq_getElem _)
  simp [this]
set_option maxRecDepth 100000 in
set_option maxHeartbeats 2000000 in
theorem rfind_any [Inhabited Bs] (rp t : Nat) (tv xv : Value) (ps : List (RTx × Value)) (R : RSh) (w : World) (h : RsIn w rp tv xv ps R) (hn : ps.length ≤ 1099511627776) :
    Calls Tryz.prog 142 #[.pointer (some ⟨rp, 0, none⟩), .int .u64 (t : Int)] w fun e w' => e = .returned (.int .i64 (ixI (txIx R.txns t))) ∧ ∃ q, w' = w.drewN q := by
  have c1 := blk_cell h.blk 1
  simp at c1
  obtain ⟨ao, c, rfl, H⟩ := h.slice
  have G : Hid (∀ i p, ps[i]? = some p → ∃ g, ao = some ⟨g, 0, none⟩ ∧ w.cell? ⟨g, i * 5, none⟩ = some (.int .u64 (p.1.id : Int))) := fun i p hp => by obtain ⟨g, e, a, _⟩ := H i p hp; exact ⟨g, e, a⟩
  have hrs : Hid (ps.map (·.1) = R.txns) := h.rs
  obtain ⟨n, hnn⟩ : ∃ n, n = ps.length := ⟨_, rfl⟩
  rw [← hnn] at hn c1
  have HN : Hid (ps.length = n) := hnn.symm
  clear hnn h H
  go_enter Tryz.func142, Tryz.ntmps142
  go_wp2
  go_loopw [5] (fun i wr => ∃ k : Nat, k ≤ n ∧ i = .int .i64 k ∧ Hid (∀ j p, j < k → ps[j]? = some p → p.1.id ≠ t) ∧ ∃ q, wr = w.drewN q) (fun i _ => n - (intOf i).toNat)
  case atStart => exact ⟨0, Nat.zero_le _, rfl, fun j p hj => by omega, 0, rfl⟩
  case round =>
    obtain ⟨k, hk, rfl, hpre, q, rfl⟩ := hrel
    by_cases hlt : k < n
    · obtain ⟨p, hp⟩ : ∃ p, ps[k]? = some p := ⟨_, List.getElem?_eq_getElem (by rw [HN.out]; exact hlt)⟩
      obtain ⟨g, rfl, x0⟩ := G.out k p hp
      have i0 : (0 : Int) ≤ (k : Int) := by omega
      have i1 : (k : Int) < (n : Int) := by omega
      have HP : Hid (ps[k]? = some p) := hp
      obtain ⟨d, hd⟩ : ∃ d, d = p.1.id := ⟨_, rfl⟩
      have HD : Hid (d = p.1.id) := hd
      rw [← hd] at x0
      clear hp hd
      by_cases he : d = t
      · have be : ((d : Int) == (t : Int)) = true := by simp [he]
        go_wp2
        go_ret
        refine ⟨?_, _, rfl⟩
        have : txIx R.txns t = some k := ix_some (x := p.1) (by rw [← hrs.out, List.getElem?_map, HP.out]; rfl) (by simp [← HD.out, he]) fun i y hi hy => by
          rw [← hrs.out, List.getElem?_map] at hy
          cases hq : ps[i]? with
          | none => rw [hq] at hy; cases hy
          | some z => rw [hq] at hy; cases hy; simpa using hpre.out i z hi hq
        rw [this]; rfl
      · have be : ((d : Int) == (t : Int)) = false := by simp; omega
        go_wp2
        go_roundw
        case rel => exact ⟨k + 1, by omega, by go_num, fun j p' hj hp' => by
          by_cases e : j = k
          · subst e; rw [HP.out] at hp'; cases hp'; rw [← HD.out]; exact he
          · exact hpre.out j p' (by omega) hp', _, rfl⟩
        case measure => simp [intOf]; omega
    · go_wp2
      go_ret
      refine ⟨?_, q, rfl⟩
      have : txIx R.txns t = none := ix_none fun i y hy => by
        rw [← hrs.out, List.getElem?_map] at hy
        cases hq : ps[i]? with
        | none => rw [hq] at hy; cases hy
        | some z => rw [hq] at hy; cases hy; simpa using hpre.out i z (by have := (List.getElem?_eq_some_iff.1 hq).1; rw [HN.out] at this; omega) hq
      rw [this]; rfl
end Go.Proofs.YtejiankgafjppaaGreatDoor
