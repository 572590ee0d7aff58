import Derived.Test.YtkhjhojmhllkaaaGreatDoorC23
import Derived.Test.YtkhjhojmhllkaaaGreatDoorC25
import Derived.Test.YtkhjhojmhllkaaaGreatDoorC28
import Derived.Test.YtkhjhojmhllkaaaGreatDoorC22
/- SHARDS: Open over a log without records. -/
namespace Go.Proofs.YtkhjhojmhllkaaaGreatDoor
open Go.RowKit Go.Maps
open Sc

/-- a shard that nothing was done with -/
abbrev sh0 : AShard := ⟨[], [], [], 0⟩
/-- what stands behind an opening of a shard over a log without records -/
def ShP0 (B p bD bN n : Nat) (R : ALog × ADisk × Nat) (w : World) (e : Ending) (w' : World) : Prop :=
  ∃ sp gp bV bT bH lp, e = .returned (.tuple #[.pointer (some ⟨sp, 0, none⟩), .nilIface]) ∧ SL w' B sp gp bV bT bH 0 lp p bD bN n sh0 R.1 R.2.1 ∧ (w.heap.size ≤ sp ∧ w.heap.size ≤ bV ∧ w.heap.size ≤ bT ∧ w.heap.size ≤ bH ∧ w.heap.size ≤ gp) ∧ SDFr p [] w w'
set_option maxRecDepth 100000 in
set_option maxHeartbeats 4000000 in
theorem shOpen_0 (B p bD bN n : Nat) (R : ALog × ADisk × Nat) (w : World) (hR : R.1.recs = []) (hd : ∃ pv d nD nN, DiskIn w B p bD bN pv d n nD nN) (hJ : ∀ W, Fr [] w W → Calls Tryz.prog 84 #[dskV p] W (OpenPost B p bD bN n R W)) (hfi : firstN R.1.recs R.1.next = 1) :
    Calls Tryz.prog 85 #[dskV p] w (ShP0 B p bD bN n R w) := by
  have hmm := @run_makeMap Tryz.prog
  obtain ⟨pv, d, nD, nN, hd⟩ := hd
  have hbase := hd.base
  have hnl := hd.now.lt
  have hdl := hd.dur.lt
  obtain ⟨W, hW⟩ : ∃ W, W = (((w.alloc (.map #[] 0)).alloc (.map #[] 0)).alloc (.map #[] 0)).alloc (shO 0 w.heap.size (w.heap.size + 1) (w.heap.size + 1 + 1) 0) := ⟨_, rfl⟩
  have hfr : Fr [] w W := by rw [hW]; exact ((((Fr.refl [] w).alloc _).alloc _).alloc _).alloc _
  have hsz : W.heap.size = w.heap.size + 4 := by rw [hW]; simp
  have hin : ShIn W (w.heap.size + 1 + 1 + 1) 0 w.heap.size (w.heap.size + 1) (w.heap.size + 1 + 1) 0 sh0 := by
    refine { blk := ?_, vals := ?_, txns := ?_, holds := ?_, ne := ⟨by omega, by omega, by omega⟩, ticks := by decide }
    · rw [hW]; have := heap_alloc_new (((w.alloc (.map #[] 0)).alloc (.map #[] 0)).alloc (.map #[] 0)) (shO 0 w.heap.size (w.heap.size + 1) (w.heap.size + 1 + 1) 0); rwa [World.size_alloc, World.size_alloc, World.size_alloc] at this
    · rw [hW]; exact (((MapAs.made w).fr ((Fr.refl [] _).alloc _) (by simp)).fr ((Fr.refl [] _).alloc _) (by simp)).fr ((Fr.refl [] _).alloc _) (by simp)
    · rw [hW]; have := MapAs.made (KR := KU) (ER := ET) (w.alloc (.map #[] 0)); rw [World.size_alloc] at this; exact (this.fr ((Fr.refl [] _).alloc _) (by simp)).fr ((Fr.refl [] _).alloc _) (by simp)
    · rw [hW]; have := MapAs.made (KR := KH) (ER := EG) ((w.alloc (.map #[] 0)).alloc (.map #[] 0)); rw [World.size_alloc, World.size_alloc] at this; exact this.fr ((Fr.refl [] _).alloc _) (by simp)
  have hlo := led0 B p bD bN n 130 (w.heap.size + 1 + 1 + 1) R hR W ⟨_, _, _, _, hd.new hfr⟩ (fun W' hW' => hJ W' (hfr.trans hW')) hfi
  have HF : Hid (Fr [] w W ∧ DiskIn w B p bD bN pv d n nD nN) := ⟨hfr, hd⟩
  have HI := toHid hin
  clear hfr hd hin hJ
  go_enter Tryz.func85, Tryz.ntmps85
  go_wp2_with fail
  have hW2 : W = (((w.alloc (.map #[] 0)).alloc (.map #[] 0)).alloc (.map #[] 0)).alloc (.cells #[.pointer none, .map (some w.heap.size), .map (some (w.heap.size + 1)), .map (some (w.heap.size + 1 + 1)), .int .u64 0] 141) := hW
  rw [← hW2]
  clear hW hW2
  refine hlo.mono ?_
  clear hlo
  rintro e w1 ⟨gp, lp, rfl, ⟨pv1, sv1, rv1, nD1, nN1, hl1⟩, hg1, hgp, hsd1⟩
  have hin1 := HI.out.blocks (w' := w1) (fun k hk => by
    have hdW := HF.out.2.new HF.out.1
    have hl := HI.out.lts
    simp at hk
    rcases hk with rfl | rfl | rfl | rfl
    · exact hsd1.block _ (by omega) (hdW.freeD HI.out.blk (by decide) (by decide)) (by simp)
    · exact hsd1.block _ (by omega) (hdW.freeDMap HI.out.vals.isMap (by omega) (by omega)) (by simp)
    · exact hsd1.block _ (by omega) (hdW.freeDMap HI.out.txns.isMap (by omega) (by omega)) (by simp)
    · exact hsd1.block _ (by omega) (hdW.freeDMap HI.out.holds.isMap (by omega) (by omega)) (by simp))
  have c0 := blk_cell hin1.blk 0
  have f0 := blk_free hin1.blk 0
  simp at c0 f0
  obtain ⟨W2, hW2⟩ : ∃ W2, W2 = w1.setCell ⟨w.heap.size + 1 + 1 + 1, 0, none⟩ (.pointer (some ⟨gp, 0, none⟩)) := ⟨_, rfl⟩
  have hf2 : Fr [w.heap.size + 1 + 1 + 1] w1 W2 := by rw [hW2]; exact Fr.set1 (by simp) _ _
  have hgp1 : 1 ≤ gp := by omega
  have hb2 : W2.heap[w.heap.size + 1 + 1 + 1]? = some (shO gp w.heap.size (w.heap.size + 1) (w.heap.size + 1 + 1) 0) := by
    have := blk_set hin1.blk 0 (.pointer (some ⟨gp, 0, none⟩))
    simp at this
    rw [hW2]; unfold shO; rw [lgP_pos hgp1]; exact this
  have hne1 : gp ≠ w.heap.size + 1 + 1 + 1 := by omega
  have HS : Hid (SL W2 B (w.heap.size + 1 + 1 + 1) gp w.heap.size (w.heap.size + 1) (w.heap.size + 1 + 1) 0 lp p bD bN n sh0 R.1 R.2.1 ∧ SDFr p [] w W2) := by
    have hin2 := hin1
    refine ⟨⟨{ blk := hb2, vals := hin2.vals.fr hf2 (by simp; omega), txns := hin2.txns.fr hf2 (by simp), holds := hin2.holds.fr hf2 (by simp), ne := hin2.ne, ticks := hin2.ticks }, ⟨pv1, sv1, rv1, nD1, nN1, hl1.apart hf2 (fun k hk _ => ?_)⟩, { led := (hf2.block gp (Array.getElem?_eq_some_iff.1 hg1).1 (by simpa using hne1)).trans hg1, ne := ⟨by omega, by omega, by omega, by omega, by omega, by omega⟩ }, hgp1⟩, ?_⟩
    · simp at hk
      subst hk
      exact ⟨hl1.free hin1.blk (by decide) (by decide) (by decide) (by decide) (by decide), fun t e => by rw [hin1.blk] at e; cases e⟩
    · have hf0 := HF.out.1
      have hd0 := HF.out.2
      refine ⟨hf2.os.trans (hsd1.os.trans hf0.os), hf2.tape.trans (hsd1.tape.trans hf0.tape), hf2.output.trans (hsd1.output.trans hf0.output), by have := hf2.size; have := hsd1.size; omega, fun k hk ho _ => ?_⟩
      rw [hf2.block k (by have := hsd1.size; omega) (by simp; omega), hsd1.block k (by omega) (fun ho' => ho ((hd0.ownD k).2 (((hd0.new hf0).ownD k).1 ho'))) (by simp), hf0.block k hk (by simp)]
  clear hin1 hl1 hg1 hsd1 hf2 hb2
  go_wp2
  rw [← hW2]
  go_ret2
  exact ⟨w.heap.size + 1 + 1 + 1, gp, w.heap.size, w.heap.size + 1, w.heap.size + 1 + 1, lp, rfl, HS.out.1, ⟨by omega, by omega, by omega, by omega, by omega⟩, HS.out.2⟩
end Go.Proofs.YtkhjhojmhllkaaaGreatDoor
/- SHARDS: Open. -/
namespace Go.Proofs.YtkhjhojmhllkaaaGreatDoor
open Go.RowKit Go.Maps
open Sc

/-- what stands behind an opening of a shard -/
def ShPost (J : List Rec → AShard → Prop) (B p bD bN n : Nat) (R : ALog × ADisk × Nat) (w : World) (e : Ending) (w' : World) : Prop :=
  ∃ sp gp bV bT bH lp s', e = .returned (.tuple #[.pointer (some ⟨sp, 0, none⟩), .nilIface]) ∧ J R.1.recs s' ∧ SL w' B sp gp bV bT bH (20 * R.1.recs.length) lp p bD bN n s' R.1 R.2.1 ∧ (w.heap.size ≤ sp ∧ w.heap.size ≤ bV ∧ w.heap.size ≤ bT ∧ w.heap.size ≤ bH ∧ w.heap.size ≤ gp) ∧ SDFr p [] w w'
/-- what an opening needs -/
structure ShPre (J : List Rec → AShard → Prop) (B p bD bN n : Nat) (R : ALog × ADisk × Nat) (w : World) : Prop where
  disk : ∃ pv d nD nN, DiskIn w B p bD bN pv d n nD nN
  jop : ∀ W, Fr [] w W → Calls Tryz.prog 84 #[dskV p] W (OpenPost B p bD bN n R W)
  plain : PlainR R.1.recs
  first : firstN R.1.recs R.1.next = 1
  byt : ∀ r ∈ R.1.recs, Byt r.pay ∧ r.pay.length ≤ 4096
  none : J [] sh0
  ents : ∀ pre x s', pre ++ [x] <+: R.1.recs → J pre s' → Entr (J (pre ++ [x])) s' x
  few : 20 * R.1.recs.length + 32 < maxLen
  num : n ≤ 67108864
set_option maxRecDepth 100000 in
set_option maxHeartbeats 4000000 in
theorem shOpen_any (J : List Rec → AShard → Prop) (B p bD bN n : Nat) (R : ALog × ADisk × Nat) (w : World) (h : ShPre J B p bD bN n R w) :
    Calls Tryz.prog 85 #[dskV p] w (ShPost J B p bD bN n R w) := by
  have hmm := @run_makeMap Tryz.prog
  obtain ⟨pv, d, nD, nN, hd⟩ := h.disk
  have hbase := hd.base
  have hnl := hd.now.lt
  have hdl := hd.dur.lt
  obtain ⟨W, hW⟩ : ∃ W, W = (((w.alloc (.map #[] 0)).alloc (.map #[] 0)).alloc (.map #[] 0)).alloc (shO 0 w.heap.size (w.heap.size + 1) (w.heap.size + 1 + 1) 0) := ⟨_, rfl⟩
  have hfr : Fr [] w W := by rw [hW]; exact ((((Fr.refl [] w).alloc _).alloc _).alloc _).alloc _
  have hsz : W.heap.size = w.heap.size + 4 := by rw [hW]; simp
  have hin : ShIn W (w.heap.size + 1 + 1 + 1) 0 w.heap.size (w.heap.size + 1) (w.heap.size + 1 + 1) 0 sh0 := by
    refine { blk := ?_, vals := ?_, txns := ?_, holds := ?_, ne := ⟨by omega, by omega, by omega⟩, ticks := by decide }
    · rw [hW]; have := heap_alloc_new (((w.alloc (.map #[] 0)).alloc (.map #[] 0)).alloc (.map #[] 0)) (shO 0 w.heap.size (w.heap.size + 1) (w.heap.size + 1 + 1) 0); rwa [World.size_alloc, World.size_alloc, World.size_alloc] at this
    · rw [hW]; exact (((MapAs.made w).fr ((Fr.refl [] _).alloc _) (by simp)).fr ((Fr.refl [] _).alloc _) (by simp)).fr ((Fr.refl [] _).alloc _) (by simp)
    · rw [hW]; have := MapAs.made (KR := KU) (ER := ET) (w.alloc (.map #[] 0)); rw [World.size_alloc] at this; exact (this.fr ((Fr.refl [] _).alloc _) (by simp)).fr ((Fr.refl [] _).alloc _) (by simp)
    · rw [hW]; have := MapAs.made (KR := KH) (ER := EG) ((w.alloc (.map #[] 0)).alloc (.map #[] 0)); rw [World.size_alloc, World.size_alloc] at this; exact this.fr ((Fr.refl [] _).alloc _) (by simp)
  have hlo := led_open B p bD bN n 0 (w.heap.size + 1 + 1 + 1) w.heap.size (w.heap.size + 1) (w.heap.size + 1 + 1) R J sh0 W h.none hin ⟨_, _, _, _, hd.new hfr⟩ ⟨by omega, by omega, by omega, by omega, by omega, by omega⟩
    (fun W' hW' => h.jop W' (hfr.trans hW')) h.plain h.first h.byt h.ents (by have := h.few; omega) h.num
  have HF : Hid (Fr [] w W ∧ DiskIn w B p bD bN pv d n nD nN) := ⟨hfr, hd⟩
  clear h hfr hd hin
  go_enter Tryz.func85, Tryz.ntmps85
  go_wp2_with fail
  have hW2 : W = (((w.alloc (.map #[] 0)).alloc (.map #[] 0)).alloc (.map #[] 0)).alloc (.cells #[.pointer none, .map (some w.heap.size), .map (some (w.heap.size + 1)), .map (some (w.heap.size + 1 + 1)), .int .u64 0] 141) := hW
  rw [← hW2]
  clear hW hW2
  refine hlo.mono ?_
  clear hlo
  rintro e w1 ⟨gp, lp, s', rfl, hre, hin1, ⟨pv1, sv1, rv1, nD1, nN1, hl1⟩, hg1, hgp, hsd1⟩
  have c0 := blk_cell hin1.blk 0
  have f0 := blk_free hin1.blk 0
  simp at c0 f0
  obtain ⟨W2, hW2⟩ : ∃ W2, W2 = w1.setCell ⟨w.heap.size + 1 + 1 + 1, 0, none⟩ (.pointer (some ⟨gp, 0, none⟩)) := ⟨_, rfl⟩
  have hf2 : Fr [w.heap.size + 1 + 1 + 1] w1 W2 := by rw [hW2]; exact Fr.set1 (by simp) _ _
  have hgp1 : 1 ≤ gp := by omega
  have hb2 : W2.heap[w.heap.size + 1 + 1 + 1]? = some (shO gp w.heap.size (w.heap.size + 1) (w.heap.size + 1 + 1) s'.ticks) := by
    have := blk_set hin1.blk 0 (.pointer (some ⟨gp, 0, none⟩))
    simp at this
    rw [hW2]; unfold shO; rw [lgP_pos hgp1]; exact this
  have hne1 : gp ≠ w.heap.size + 1 + 1 + 1 := by omega
  have HS : Hid (J R.1.recs s' ∧ SL W2 B (w.heap.size + 1 + 1 + 1) gp w.heap.size (w.heap.size + 1) (w.heap.size + 1 + 1) (20 * R.1.recs.length) lp p bD bN n s' R.1 R.2.1 ∧ SDFr p [] w W2) := by
    have hin2 := hin1
    rw [Nat.zero_add] at hin2
    refine ⟨hre, ⟨{ blk := hb2, vals := hin2.vals.fr hf2 (by simp; omega), txns := hin2.txns.fr hf2 (by simp), holds := hin2.holds.fr hf2 (by simp), ne := hin2.ne, ticks := hin2.ticks }, ⟨pv1, sv1, rv1, nD1, nN1, hl1.apart hf2 (fun k hk _ => ?_)⟩, { led := (hf2.block gp (Array.getElem?_eq_some_iff.1 hg1).1 (by simpa using hne1)).trans hg1, ne := ⟨by omega, by omega, by omega, by omega, by omega, by omega⟩ }, hgp1⟩, ?_⟩
    · simp at hk
      subst hk
      exact ⟨hl1.free hin1.blk (by decide) (by decide) (by decide) (by decide) (by decide), fun t e => by rw [hin1.blk] at e; cases e⟩
    · have hf0 := HF.out.1
      have hd0 := HF.out.2
      refine ⟨hf2.os.trans (hsd1.os.trans hf0.os), hf2.tape.trans (hsd1.tape.trans hf0.tape), hf2.output.trans (hsd1.output.trans hf0.output), by have := hf2.size; have := hsd1.size; omega, fun k hk ho _ => ?_⟩
      rw [hf2.block k (by have := hsd1.size; omega) (by simp; omega), hsd1.block k (by omega) (fun ho' => ho ((hd0.ownD k).2 (((hd0.new hf0).ownD k).1 ho'))) (by simp; omega), hf0.block k hk (by simp)]
  clear hre hin1 hl1 hg1 hsd1 hf2 hb2
  go_wp2
  rw [← hW2]
  go_ret2
  exact ⟨w.heap.size + 1 + 1 + 1, gp, w.heap.size, w.heap.size + 1, w.heap.size + 1 + 1, lp, s', rfl, HS.out.1, HS.out.2.1, ⟨by omega, by omega, by omega, by omega, by omega⟩, HS.out.2.2⟩
set_option maxHeartbeats 1000000 in
theorem openShard_any (J : List Rec → AShard → Prop) (B p bD bN n : Nat) (R : ALog × ADisk × Nat) (w : World) (h : ShPre J B p bD bN n R w) :
    Calls Tryz.prog 41 #[dskV p] w (ShPost J B p bD bN n R w) := by
  have HC : Hid (Calls Tryz.prog 85 #[dskV p] w (ShPost J B p bD bN n R w)) := shOpen_any J B p bD bN n R w h
  clear h
  go_enter Tryz.func41, Tryz.ntmps41
  go_wp2_with fail
  refine HC.out.mono ?_
  rintro e w1 ⟨sp, gp, bV, bT, bH, lp, s', rfl, h1⟩
  have H1 := toHid h1
  clear h1
  go_wp2
  go_ret2
  exact ⟨sp, gp, bV, bT, bH, lp, s', rfl, H1.out⟩
end Go.Proofs.YtkhjhojmhllkaaaGreatDoor
/- HOSTS OF A SHARD: before, after, close; Prepare, CommitHere, AbortHere. (Written by mkhos.py.) -/
namespace Go.Proofs.YtkhjhojmhllkaaaGreatDoor
open Go.RowKit Go.Maps
open Sc

abbrev hostS (p : Nat) (up : Bool) (lv : Value) : Obj := .cells #[.int .i64 2, .int .i64 0, .pointer (some ⟨p, 0, none⟩), .bool up, .pointer none, lv, .pointer none, .pointer none] 76
set_option maxRecDepth 100000 in
set_option maxHeartbeats 1000000 in
theorem before_s (hp p bD bN : Nat) (pv lv : Value) (up dn : Bool) (l f a b c k : Int) (w : World) (hh : w.heap[hp]? = some (hostS p up lv)) (hd : w.heap[p]? = some (dskO bD bN pv l f dn)) :
    Calls Tryz.prog 34 #[.pointer (some ⟨hp, 0, none⟩), fallV a b c k] w fun e w' => e = .returned (.tuple #[]) ∧ w'.heap[p]? = some (dskO bD bN pv a b dn) ∧ Fr [p] w w' := by
  have hhl : hp < w.heap.size := (Array.getElem?_eq_some_iff.1 hh).1
  have hpl : p < w.heap.size := (Array.getElem?_eq_some_iff.1 hd).1
  have hne : ¬ hp = p := by intro e; subst e; rw [hh] at hd; cases hd
  have hne2 : ¬ p = hp := fun e => hne e.symm
  have hz1 : ¬ p = w.heap.size := by omega
  have hz2 : ¬ w.heap.size = p := by omega
  obtain ⟨W, hW⟩ : ∃ W, W = w.alloc (.cells #[.int .i64 a, .int .i64 b, .int .i64 c, .int .i64 k] 28) := ⟨_, rfl⟩
  have hhW : W.heap[hp]? = some (hostS p up lv) := by rw [hW, Below.heap_alloc w _ hp hhl]; exact hh
  have hdW : W.heap[p]? = some (dskO bD bN pv l f dn) := by rw [hW, Below.heap_alloc w _ p hpl]; exact hd
  have hfW : W.heap[w.heap.size]? = some (.cells #[.int .i64 a, .int .i64 b, .int .i64 c, .int .i64 k] 28 (0, 0)) := by rw [hW]; exact heap_alloc_new w _
  have c2 := blk_cell hhW 2
  have c3 := blk_cell hdW 3
  have c4 := blk_cell hdW 4
  have c5 := blk_cell hdW 5
  have f3 := blk_free hdW 3
  have f4 := blk_free hdW 4
  have x0 := blk_cell hfW 0
  have x1 := blk_cell hfW 1
  simp at c2 c3 c4 c5 x0 x1
  have HD : Hid (W.heap[p]? = some (dskO bD bN pv l f dn)) := hdW
  have HF : Hid (Fr [p] w W) := by rw [hW]; exact (Fr.refl [p] w).alloc _
  clear hd hh hhW hdW hfW
  clear c5
  go_enter Tryz.func34, Tryz.ntmps34
  go_wp2
  rw [← hW]
  clear hW
  go_region_held3 (fun w' => w'.cell? ⟨hp, 2, none⟩ = some (.pointer (some ⟨p, 0, none⟩)) ∧ w'.cell? ⟨w.heap.size, 0, none⟩ = some (.int .i64 a) ∧ w'.cell? ⟨w.heap.size, 1, none⟩ = some (.int .i64 b)) (simp [setCell_far, *]) (fail)
  go_end0
  refine ⟨rfl, ?_, HF.out.trans (((Fr.set1 (by simp) _ _).trans (Fr.set1 (by simp) _ _)).drew)⟩
  have := blk_set (blk_set HD.out 3 (.int .i64 a)) 4 (.int .i64 b)
  simp at this
  exact this
set_option maxRecDepth 100000 in
set_option maxHeartbeats 1000000 in
theorem after_s (hp p bD bN : Nat) (pv lv : Value) (up : Bool) (l f a b c k : Int) (w : World) (hh : w.heap[hp]? = some (hostS p up lv)) (hd : w.heap[p]? = some (dskO bD bN pv l f false)) :
    Calls Tryz.prog 36 #[.pointer (some ⟨hp, 0, none⟩), fallV a b c k] w fun e w' => e = .returned (.tuple #[]) ∧ w'.heap[p]? = some (dskO bD bN pv (-1) (-1) false) ∧ Fr [p] w w' := by
  have hhl : hp < w.heap.size := (Array.getElem?_eq_some_iff.1 hh).1
  have hpl : p < w.heap.size := (Array.getElem?_eq_some_iff.1 hd).1
  have hne : ¬ hp = p := by intro e; subst e; rw [hh] at hd; cases hd
  have hne2 : ¬ p = hp := fun e => hne e.symm
  have hz1 : ¬ p = w.heap.size := by omega
  have hz2 : ¬ w.heap.size = p := by omega
  obtain ⟨W, hW⟩ : ∃ W, W = w.alloc (.cells #[.int .i64 a, .int .i64 b, .int .i64 c, .int .i64 k] 28) := ⟨_, rfl⟩
  have hhW : W.heap[hp]? = some (hostS p up lv) := by rw [hW, Below.heap_alloc w _ hp hhl]; exact hh
  have hdW : W.heap[p]? = some (dskO bD bN pv l f false) := by rw [hW, Below.heap_alloc w _ p hpl]; exact hd
  have hfW : W.heap[w.heap.size]? = some (.cells #[.int .i64 a, .int .i64 b, .int .i64 c, .int .i64 k] 28 (0, 0)) := by rw [hW]; exact heap_alloc_new w _
  have c2 := blk_cell hhW 2
  have c3 := blk_cell hdW 3
  have c4 := blk_cell hdW 4
  have c5 := blk_cell hdW 5
  have f3 := blk_free hdW 3
  have f4 := blk_free hdW 4
  have x0 := blk_cell hfW 0
  have x1 := blk_cell hfW 1
  simp at c2 c3 c4 c5 x0 x1
  have HD : Hid (W.heap[p]? = some (dskO bD bN pv l f false)) := hdW
  have HF : Hid (Fr [p] w W) := by rw [hW]; exact (Fr.refl [p] w).alloc _
  clear hd hh hhW hdW hfW
  go_enter Tryz.func36, Tryz.ntmps36
  have d2 := c2
  have d5 := c5
  rw [hW] at d2 d5
  go_wp2
  rw [← hW]
  clear hW d2 d5
  go_region_held3 (fun w' => w'.cell? ⟨hp, 2, none⟩ = some (.pointer (some ⟨p, 0, none⟩))) (simp [setCell_far, *]) (fail)
  go_end0
  refine ⟨rfl, ?_, HF.out.trans (((Fr.set1 (by simp) _ _).trans (Fr.set1 (by simp) _ _)).drew)⟩
  have := blk_set (blk_set HD.out 3 (.int .i64 (-1))) 4 (.int .i64 (-1))
  simp at this
  exact this
set_option maxRecDepth 100000 in
set_option maxHeartbeats 1000000 in
theorem close_s (hp p : Nat) (up : Bool) (lv : Value) (hlv : ∃ x, lv = .pointer x) (w : World) (hh : w.heap[hp]? = some (hostS p up lv)) :
    Calls Tryz.prog 38 #[.pointer (some ⟨hp, 0, none⟩)] w fun e w' => e = .returned (.tuple #[]) ∧ w'.heap[hp]? = some (hostS p false (.pointer none)) ∧ Fr [hp] w w' := by
  obtain ⟨x, rfl⟩ := hlv
  have c3 := blk_cell hh 3
  have c4 := blk_cell hh 4
  have c5 := blk_cell hh 5
  have c6 := blk_cell hh 6
  have c7 := blk_cell hh 7
  have f3 := blk_free hh 3
  have f4 := blk_free hh 4
  have f5 := blk_free hh 5
  have f6 := blk_free hh 6
  have f7 := blk_free hh 7
  simp at c3 c4 c5 c6 c7
  have HH : Hid (w.heap[hp]? = some (hostS p up (.pointer x))) := hh
  clear hh
  go_enter Tryz.func38, Tryz.ntmps38
  go_wp2
  go_end0
  refine ⟨rfl, ?_, ((((Fr.set1 (by simp) _ _).trans (Fr.set1 (by simp) _ _)).trans (Fr.set1 (by simp) _ _)).trans (Fr.set1 (by simp) _ _)).trans (Fr.set1 (by simp) _ _)⟩
  have := blk_set (blk_set (blk_set (blk_set (blk_set HH.out 3 (.bool false)) 4 (.pointer none)) 5 (.pointer none)) 6 (.pointer none)) 7 (.pointer none)
  simp at this
  exact this
/-- what a caller's own memory needs -/
structure HFs (B : Nat) (w w' : World) : Prop where
  below : Below B w w'
  fall : ∀ (k : Nat) (a b c d : Int), w.heap[k]? = some (fallO a b c d) → w'.heap[k]? = some (fallO a b c d)
theorem HFs.trans {B : Nat} {a b c : World} (h : HFs B a b) (k : HFs B b c) : HFs B a c := ⟨h.below.trans k.below, fun i x y z u hi => k.fall i x y z u (h.fall i x y z u hi)⟩
theorem HFs.new {B : Nat} {w w' : World} (h : Fr [] w w') (hB : B ≤ w.heap.size) : HFs B w w' := ⟨h.below hB (by simp), fun k a b c d hk => (h.block k (Array.getElem?_eq_some_iff.1 hk).1 (by simp)).trans hk⟩
section
variable {w w' : World} {B sp gp bV bT bH m m' lp p bD bN n n' : Nat} {s s' : AShard} {l l' : ALog} {d d' : ADisk}
/-- cells of another kind stay -/
theorem SFr.cells (hf : SFr sp bV bT bH lp p w w') (h : SL w B sp gp bV bT bH m lp p bD bN n s l d) {k : Nat} {c : Array Value} {t : TypeId} (hk : w.heap[k]? = some (.cells c t (0, 0))) (h1 : t ≠ 97) (h2 : t ≠ 130) (h3 : t ≠ 187) (h4 : t ≠ 33) (h5 : t ≠ 103) (h6 : t ≠ 141) : w'.heap[k]? = some (.cells c t (0, 0)) := by
  obtain ⟨pv, sv, rv, nD, nN, hl⟩ := h.lg
  refine (hf.block k (Array.getElem?_eq_some_iff.1 hk).1 (hl.free hk h1 h2 h3 h4 h5) ?_).trans hk
  intro hm
  simp at hm
  rcases hm with e | e | e | e
  · rw [e, h.sh.blk] at hk; cases hk; exact h6 rfl
  · obtain ⟨es, c2, e2⟩ := h.sh.vals.isMap; rw [e, e2] at hk; cases hk
  · obtain ⟨es, c2, e2⟩ := h.sh.txns.isMap; rw [e, e2] at hk; cases hk
  · obtain ⟨es, c2, e2⟩ := h.sh.holds.isMap; rw [e, e2] at hk; cases hk
theorem SFr.hfr (hf : SFr sp bV bT bH lp p w w') (h : SL w B sp gp bV bT bH m lp p bD bN n s l d) (hb : B ≤ sp ∧ B ≤ bV ∧ B ≤ bT ∧ B ≤ bH) : HFs B w w' := by
  obtain ⟨pv, sv, rv, nD, nN, hl⟩ := h.lg
  refine ⟨⟨hf.os, hf.tape, hf.output, hf.size, fun k hk => hf.block k (Nat.lt_of_lt_of_le hk hl.disk.base.2.2.2) (fun ho => by have := hl.ge ho; omega) (by simp; omega)⟩, fun k a b c x hk => hf.cells h hk (by decide) (by decide) (by decide) (by decide) (by decide) (by decide)⟩
theorem SL.knob (h : SL w B sp gp bV bT bH m lp p bD bN n s l d) (a b : Int) (hf : Fr [p] w w') {pv : Value} (hb : w'.heap[p]? = some (dskO bD bN pv a b d.down)) (hb0 : w.heap[p]? = some (dskO bD bN pv d.left d.full d.down)) :
    SL w' B sp gp bV bT bH m lp p bD bN n s l (d.knob a b) ∧ SFr sp bV bT bH lp p w w' := by
  obtain ⟨pv', sv, rv, nD, nN, hl⟩ := h.lg
  have e : pv' = pv := by have := hl.disk.blk; rw [hb0] at this; cases this; rfl
  subst e
  obtain ⟨h1, h2⟩ := hl.knob a b hf hb
  exact h.log h2 ⟨_, _, _, _, _, h1⟩
end
theorem HFs.met {B : Nat} {w w' : World} (h : HFs B w w') (hB : 2 ≤ B) (hm : Met w) : Met w' := hm.below h.below (by omega)
theorem HFs.pows {B : Nat} {w w' : World} (h : HFs B w w') (hB : 2 ≤ B) (hm : Pows w) : Pows w' := hm.of_block (h.below.block 1 (by omega))
/-- an open host of a shard -/
def HSt (w : World) (B hp m n : Nat) (s : AShard) (l : ALog) (d : ADisk) : Prop :=
  ∃ p sp gp bV bT bH lp bD bN, w.heap[hp]? = some (hostS p true (.pointer (some ⟨sp, 0, none⟩))) ∧ SL w B sp gp bV bT bH m lp p bD bN n s l d ∧ (B ≤ sp ∧ B ≤ bV ∧ B ≤ bT ∧ B ≤ bH)
set_option maxRecDepth 100000 in
set_option maxHeartbeats 4000000 in
theorem hPrep_s (B hp sp gp bV bT bH m lp p bD bN n t : Nat) (s : AShard) (l : ALog) (d : ADisk) (a b c k : Int) (w : World) (Q : Nat → Nat → AShard → ALog → ADisk → Nat → Nat → Prop) (hh : w.heap[hp]? = some (hostS p true (.pointer (some ⟨sp, 0, none⟩)))) (hs : SL w B sp gp bV bT bH m lp p bD bN n s l d) (hb : B ≤ sp ∧ B ≤ bV ∧ B ≤ bT ∧ B ≤ bH) (hB : 2 ≤ B) (hmet : Met w)
    (hX : ∀ w1, SL w1 B sp gp bV bT bH m lp p bD bN n s l (d.knob a b) → HFs B w w1 → Calls Tryz.prog 35 #[.pointer (some ⟨sp, 0, none⟩), .int .u64 (t : Int)] w1 fun e w2 => ∃ v x s' l' d' m' n', Q v x s' l' d' m' n' ∧ e = .returned (.tuple #[.int .i64 (v : Int), errN x]) ∧ SL w2 B sp gp bV bT bH m' lp p bD bN n' s' l' d' ∧ d'.down = false ∧ SFr sp bV bT bH lp p w1 w2) :
    Calls Tryz.prog 14 #[.pointer (some ⟨hp, 0, none⟩), .int .u64 (t : Int), fallV a b c k] w fun e w' => ∃ v x s' l' d' m' n', Q v x s' l' d' m' n' ∧ e = .returned (.tuple #[.int .i64 (v : Int), .int .i64 (x : Int)]) ∧ HSt w' B hp m' n' s' l' (d'.knob (-1) (-1)) ∧ HFs B w w' := by
  obtain ⟨W, hW⟩ : ∃ W, W = w.alloc (fallO a b c k) := ⟨_, rfl⟩
  have hf0 : Fr [] w W := by rw [hW]; exact (Fr.refl [] w).alloc _
  obtain ⟨hs0, hx0⟩ := hs.new hf0
  have hh0 := hx0.cells hs hh (by decide) (by decide) (by decide) (by decide) (by decide) (by decide)
  have hfa0 : W.heap[w.heap.size]? = some (fallO a b c k) := by rw [hW]; exact heap_alloc_new w _
  have hr0 := hx0.hfr hs hb
  have c5 := blk_cell hh0 5
  have x0 := blk_cell hfa0 0
  have x1 := blk_cell hfa0 1
  have x2 := blk_cell hfa0 2
  have x3 := blk_cell hfa0 3
  simp at c5 x0 x1 x2 x3
  rw [hW] at c5 x0 x1 x2 x3
  obtain ⟨pv0, hd0⟩ : ∃ pv, W.heap[p]? = some (dskO bD bN pv d.left d.full d.down) := by obtain ⟨pv, sv, rv, nD, nN, hl⟩ := hs0.lg; exact ⟨pv, hl.disk.blk⟩
  have H0 : Hid (SL W B sp gp bV bT bH m lp p bD bN n s l d ∧ W.heap[hp]? = some (hostS p true (.pointer (some ⟨sp, 0, none⟩))) ∧ W.heap[w.heap.size]? = some (fallO a b c k) ∧ HFs B w W ∧ W.heap[p]? = some (dskO bD bN pv0 d.left d.full d.down)) := ⟨hs0, hh0, hfa0, hr0, hd0⟩
  clear hs hh hf0 hs0 hx0 hh0 hfa0 hr0 hd0
  go_enter Tryz.func14, Tryz.ntmps14
  go_wp2_with fail
  rw [← hW]
  clear hW c5 x0 x1 x2 x3
  refine (before_s hp p bD bN pv0 _ true d.down d.left d.full a b c k W H0.out.2.1 H0.out.2.2.2.2).mono ?_
  rintro e w1 ⟨rfl, hb1, hf1⟩
  obtain ⟨hs1, hx1⟩ := H0.out.1.knob a b hf1 hb1 H0.out.2.2.2.2
  have hh1 := hx1.cells H0.out.1 H0.out.2.1 (by decide) (by decide) (by decide) (by decide) (by decide) (by decide)
  have hfa1 := hx1.cells H0.out.1 H0.out.2.2.1 (by decide) (by decide) (by decide) (by decide) (by decide) (by decide)
  have hr1 := H0.out.2.2.2.1.trans (hx1.hfr H0.out.1 hb)
  have hap := hX w1 hs1 hr1
  have k5 := blk_cell hh1 5
  simp at k5
  have H1 : Hid (SL w1 B sp gp bV bT bH m lp p bD bN n s l (d.knob a b) ∧ w1.heap[hp]? = some (hostS p true (.pointer (some ⟨sp, 0, none⟩))) ∧ w1.heap[w.heap.size]? = some (fallO a b c k) ∧ HFs B w w1) := ⟨hs1, hh1, hfa1, hr1⟩
  clear hs1 hx1 hh1 hfa1 hr1 hb1 hf1 hX H0
  go_wp2_with fail
  refine hap.mono ?_
  clear hap
  rintro e w2 ⟨v, x, s', l', d', m', n', hQ, rfl, hs2, hdn, hx2⟩
  have hh2 := hx2.cells H1.out.1 H1.out.2.1 (by decide) (by decide) (by decide) (by decide) (by decide) (by decide)
  have hfa2 := hx2.cells H1.out.1 H1.out.2.2.1 (by decide) (by decide) (by decide) (by decide) (by decide) (by decide)
  have hr2 := H1.out.2.2.2.trans (hx2.hfr H1.out.1 hb)
  have y0 := blk_cell hfa2 0
  have y1 := blk_cell hfa2 1
  have y2 := blk_cell hfa2 2
  have y3 := blk_cell hfa2 3
  simp at y0 y1 y2 y3
  have hmet2 : Met w2 := hr2.met hB hmet
  obtain ⟨pv2, hd2⟩ : ∃ pv, w2.heap[p]? = some (dskO bD bN pv d'.left d'.full d'.down) := by obtain ⟨pv, sv, rv, nD, nN, hl⟩ := hs2.lg; exact ⟨pv, hl.disk.blk⟩
  have H2 : Hid (SL w2 B sp gp bV bT bH m' lp p bD bN n' s' l' d' ∧ w2.heap[hp]? = some (hostS p true (.pointer (some ⟨sp, 0, none⟩))) ∧ HFs B w w2 ∧ w2.heap[p]? = some (dskO bD bN pv2 d'.left d'.full d'.down) ∧ Q v x s' l' d' m' n') := ⟨hs2, hh2, hr2, hd2, hQ⟩
  clear hs2 hx2 hh2 hfa2 hr2 hd2 hQ k5 H1
  go_wp2_with fail
  have hbd := H2.out.2.2.2.1
  rw [hdn] at hbd
  refine (after_s hp p bD bN pv2 _ true d'.left d'.full a b c k w2 H2.out.2.1 hbd).mono ?_
  clear hbd y0 y1 y2 y3
  rintro e w3 ⟨rfl, hb3, hf3⟩
  rw [← hdn] at hb3
  obtain ⟨hs3, hx3⟩ := H2.out.1.knob (-1) (-1) hf3 hb3 H2.out.2.2.2.1
  have hh3 := hx3.cells H2.out.1 H2.out.2.1 (by decide) (by decide) (by decide) (by decide) (by decide) (by decide)
  have hr3' := hx3.hfr H2.out.1 hb
  have hmet3 : Met w3 := hr3'.met hB hmet2
  have H3 : Hid (SL w3 B sp gp bV bT bH m' lp p bD bN n' s' l' (d'.knob (-1) (-1)) ∧ w3.heap[hp]? = some (hostS p true (.pointer (some ⟨sp, 0, none⟩))) ∧ HFs B w w3 ∧ Q v x s' l' d' m' n') := ⟨hs3, hh3, H2.out.2.2.1.trans hr3', H2.out.2.2.2.2⟩
  clear hs3 hx3 hh3 hr3' hb3 hf3 H2
  go_wp2_with fail
  refine (told_any x w3 hmet3).mono ?_
  rintro e w4 ⟨rfl, hf4⟩
  obtain ⟨hs4, hx4⟩ := H3.out.1.new hf4
  have hh4 := hx4.cells H3.out.1 H3.out.2.1 (by decide) (by decide) (by decide) (by decide) (by decide) (by decide)
  have hr4 := H3.out.2.2.1.trans (hx4.hfr H3.out.1 hb)
  have H4 : Hid (Q v x s' l' d' m' n' ∧ HSt w4 B hp m' n' s' l' (d'.knob (-1) (-1)) ∧ HFs B w w4) := ⟨H3.out.2.2.2, ⟨p, sp, gp, bV, bT, bH, lp, bD, bN, hh4, hs4, hb⟩, hr4⟩
  clear hs4 hx4 hh4 hr4 hf4 H3
  go_wp2
  go_ret2
  exact ⟨v, x, s', l', d', m', n', H4.out.1, rfl, H4.out.2⟩
set_option maxRecDepth 100000 in
set_option maxHeartbeats 4000000 in
theorem hComm_s (B hp sp gp bV bT bH m lp p bD bN n t : Nat) (s : AShard) (l : ALog) (d : ADisk) (a b c k : Int) (w : World) (Q : Nat → Nat → AShard → ALog → ADisk → Nat → Nat → Prop) (hh : w.heap[hp]? = some (hostS p true (.pointer (some ⟨sp, 0, none⟩)))) (hs : SL w B sp gp bV bT bH m lp p bD bN n s l d) (hb : B ≤ sp ∧ B ≤ bV ∧ B ≤ bT ∧ B ≤ bH) (hB : 2 ≤ B) (hmet : Met w)
    (hX : ∀ w1, SL w1 B sp gp bV bT bH m lp p bD bN n s l (d.knob a b) → HFs B w w1 → Calls Tryz.prog 46 #[.pointer (some ⟨sp, 0, none⟩), .int .u64 (t : Int)] w1 fun e w2 => ∃ v x s' l' d' m' n', Q v x s' l' d' m' n' ∧ e = .returned (errN x) ∧ SL w2 B sp gp bV bT bH m' lp p bD bN n' s' l' d' ∧ d'.down = false ∧ SFr sp bV bT bH lp p w1 w2) :
    Calls Tryz.prog 18 #[.pointer (some ⟨hp, 0, none⟩), .int .u64 (t : Int), fallV a b c k] w fun e w' => ∃ v x s' l' d' m' n', Q v x s' l' d' m' n' ∧ e = .returned (.int .i64 (x : Int)) ∧ HSt w' B hp m' n' s' l' (d'.knob (-1) (-1)) ∧ HFs B w w' := by
  obtain ⟨W, hW⟩ : ∃ W, W = w.alloc (fallO a b c k) := ⟨_, rfl⟩
  have hf0 : Fr [] w W := by rw [hW]; exact (Fr.refl [] w).alloc _
  obtain ⟨hs0, hx0⟩ := hs.new hf0
  have hh0 := hx0.cells hs hh (by decide) (by decide) (by decide) (by decide) (by decide) (by decide)
  have hfa0 : W.heap[w.heap.size]? = some (fallO a b c k) := by rw [hW]; exact heap_alloc_new w _
  have hr0 := hx0.hfr hs hb
  have c5 := blk_cell hh0 5
  have x0 := blk_cell hfa0 0
  have x1 := blk_cell hfa0 1
  have x2 := blk_cell hfa0 2
  have x3 := blk_cell hfa0 3
  simp at c5 x0 x1 x2 x3
  rw [hW] at c5 x0 x1 x2 x3
  obtain ⟨pv0, hd0⟩ : ∃ pv, W.heap[p]? = some (dskO bD bN pv d.left d.full d.down) := by obtain ⟨pv, sv, rv, nD, nN, hl⟩ := hs0.lg; exact ⟨pv, hl.disk.blk⟩
  have H0 : Hid (SL W B sp gp bV bT bH m lp p bD bN n s l d ∧ W.heap[hp]? = some (hostS p true (.pointer (some ⟨sp, 0, none⟩))) ∧ W.heap[w.heap.size]? = some (fallO a b c k) ∧ HFs B w W ∧ W.heap[p]? = some (dskO bD bN pv0 d.left d.full d.down)) := ⟨hs0, hh0, hfa0, hr0, hd0⟩
  clear hs hh hf0 hs0 hx0 hh0 hfa0 hr0 hd0
  go_enter Tryz.func18, Tryz.ntmps18
  go_wp2_with fail
  rw [← hW]
  clear hW c5 x0 x1 x2 x3
  refine (before_s hp p bD bN pv0 _ true d.down d.left d.full a b c k W H0.out.2.1 H0.out.2.2.2.2).mono ?_
  rintro e w1 ⟨rfl, hb1, hf1⟩
  obtain ⟨hs1, hx1⟩ := H0.out.1.knob a b hf1 hb1 H0.out.2.2.2.2
  have hh1 := hx1.cells H0.out.1 H0.out.2.1 (by decide) (by decide) (by decide) (by decide) (by decide) (by decide)
  have hfa1 := hx1.cells H0.out.1 H0.out.2.2.1 (by decide) (by decide) (by decide) (by decide) (by decide) (by decide)
  have hr1 := H0.out.2.2.2.1.trans (hx1.hfr H0.out.1 hb)
  have hap := hX w1 hs1 hr1
  have k5 := blk_cell hh1 5
  simp at k5
  have H1 : Hid (SL w1 B sp gp bV bT bH m lp p bD bN n s l (d.knob a b) ∧ w1.heap[hp]? = some (hostS p true (.pointer (some ⟨sp, 0, none⟩))) ∧ w1.heap[w.heap.size]? = some (fallO a b c k) ∧ HFs B w w1) := ⟨hs1, hh1, hfa1, hr1⟩
  clear hs1 hx1 hh1 hfa1 hr1 hb1 hf1 hX H0
  go_wp2_with fail
  refine hap.mono ?_
  clear hap
  rintro e w2 ⟨v, x, s', l', d', m', n', hQ, rfl, hs2, hdn, hx2⟩
  have hh2 := hx2.cells H1.out.1 H1.out.2.1 (by decide) (by decide) (by decide) (by decide) (by decide) (by decide)
  have hfa2 := hx2.cells H1.out.1 H1.out.2.2.1 (by decide) (by decide) (by decide) (by decide) (by decide) (by decide)
  have hr2 := H1.out.2.2.2.trans (hx2.hfr H1.out.1 hb)
  have y0 := blk_cell hfa2 0
  have y1 := blk_cell hfa2 1
  have y2 := blk_cell hfa2 2
  have y3 := blk_cell hfa2 3
  simp at y0 y1 y2 y3
  have hmet2 : Met w2 := hr2.met hB hmet
  obtain ⟨pv2, hd2⟩ : ∃ pv, w2.heap[p]? = some (dskO bD bN pv d'.left d'.full d'.down) := by obtain ⟨pv, sv, rv, nD, nN, hl⟩ := hs2.lg; exact ⟨pv, hl.disk.blk⟩
  have H2 : Hid (SL w2 B sp gp bV bT bH m' lp p bD bN n' s' l' d' ∧ w2.heap[hp]? = some (hostS p true (.pointer (some ⟨sp, 0, none⟩))) ∧ HFs B w w2 ∧ w2.heap[p]? = some (dskO bD bN pv2 d'.left d'.full d'.down) ∧ Q v x s' l' d' m' n') := ⟨hs2, hh2, hr2, hd2, hQ⟩
  clear hs2 hx2 hh2 hfa2 hr2 hd2 hQ k5 H1
  go_wp2_with fail
  have hbd := H2.out.2.2.2.1
  rw [hdn] at hbd
  refine (after_s hp p bD bN pv2 _ true d'.left d'.full a b c k w2 H2.out.2.1 hbd).mono ?_
  clear hbd y0 y1 y2 y3
  rintro e w3 ⟨rfl, hb3, hf3⟩
  rw [← hdn] at hb3
  obtain ⟨hs3, hx3⟩ := H2.out.1.knob (-1) (-1) hf3 hb3 H2.out.2.2.2.1
  have hh3 := hx3.cells H2.out.1 H2.out.2.1 (by decide) (by decide) (by decide) (by decide) (by decide) (by decide)
  have hr3' := hx3.hfr H2.out.1 hb
  have hmet3 : Met w3 := hr3'.met hB hmet2
  have H3 : Hid (SL w3 B sp gp bV bT bH m' lp p bD bN n' s' l' (d'.knob (-1) (-1)) ∧ w3.heap[hp]? = some (hostS p true (.pointer (some ⟨sp, 0, none⟩))) ∧ HFs B w w3 ∧ Q v x s' l' d' m' n') := ⟨hs3, hh3, H2.out.2.2.1.trans hr3', H2.out.2.2.2.2⟩
  clear hs3 hx3 hh3 hr3' hb3 hf3 H2
  go_wp2_with fail
  refine (told_any x w3 hmet3).mono ?_
  rintro e w4 ⟨rfl, hf4⟩
  obtain ⟨hs4, hx4⟩ := H3.out.1.new hf4
  have hh4 := hx4.cells H3.out.1 H3.out.2.1 (by decide) (by decide) (by decide) (by decide) (by decide) (by decide)
  have hr4 := H3.out.2.2.1.trans (hx4.hfr H3.out.1 hb)
  have H4 : Hid (Q v x s' l' d' m' n' ∧ HSt w4 B hp m' n' s' l' (d'.knob (-1) (-1)) ∧ HFs B w w4) := ⟨H3.out.2.2.2, ⟨p, sp, gp, bV, bT, bH, lp, bD, bN, hh4, hs4, hb⟩, hr4⟩
  clear hs4 hx4 hh4 hr4 hf4 H3
  go_wp2
  go_ret
  exact ⟨v, x, s', l', d', m', n', H4.out.1, rfl, H4.out.2⟩
set_option maxRecDepth 100000 in
set_option maxHeartbeats 4000000 in
theorem hAbrt_s (B hp sp gp bV bT bH m lp p bD bN n t : Nat) (s : AShard) (l : ALog) (d : ADisk) (a b c k : Int) (w : World) (Q : Nat → Nat → AShard → ALog → ADisk → Nat → Nat → Prop) (hh : w.heap[hp]? = some (hostS p true (.pointer (some ⟨sp, 0, none⟩)))) (hs : SL w B sp gp bV bT bH m lp p bD bN n s l d) (hb : B ≤ sp ∧ B ≤ bV ∧ B ≤ bT ∧ B ≤ bH) (hB : 2 ≤ B) (hmet : Met w)
    (hX : ∀ w1, SL w1 B sp gp bV bT bH m lp p bD bN n s l (d.knob a b) → HFs B w w1 → Calls Tryz.prog 45 #[.pointer (some ⟨sp, 0, none⟩), .int .u64 (t : Int)] w1 fun e w2 => ∃ v x s' l' d' m' n', Q v x s' l' d' m' n' ∧ e = .returned (errN x) ∧ SL w2 B sp gp bV bT bH m' lp p bD bN n' s' l' d' ∧ d'.down = false ∧ SFr sp bV bT bH lp p w1 w2) :
    Calls Tryz.prog 17 #[.pointer (some ⟨hp, 0, none⟩), .int .u64 (t : Int), fallV a b c k] w fun e w' => ∃ v x s' l' d' m' n', Q v x s' l' d' m' n' ∧ e = .returned (.int .i64 (x : Int)) ∧ HSt w' B hp m' n' s' l' (d'.knob (-1) (-1)) ∧ HFs B w w' := by
  obtain ⟨W, hW⟩ : ∃ W, W = w.alloc (fallO a b c k) := ⟨_, rfl⟩
  have hf0 : Fr [] w W := by rw [hW]; exact (Fr.refl [] w).alloc _
  obtain ⟨hs0, hx0⟩ := hs.new hf0
  have hh0 := hx0.cells hs hh (by decide) (by decide) (by decide) (by decide) (by decide) (by decide)
  have hfa0 : W.heap[w.heap.size]? = some (fallO a b c k) := by rw [hW]; exact heap_alloc_new w _
  have hr0 := hx0.hfr hs hb
  have c5 := blk_cell hh0 5
  have x0 := blk_cell hfa0 0
  have x1 := blk_cell hfa0 1
  have x2 := blk_cell hfa0 2
  have x3 := blk_cell hfa0 3
  simp at c5 x0 x1 x2 x3
  rw [hW] at c5 x0 x1 x2 x3
  obtain ⟨pv0, hd0⟩ : ∃ pv, W.heap[p]? = some (dskO bD bN pv d.left d.full d.down) := by obtain ⟨pv, sv, rv, nD, nN, hl⟩ := hs0.lg; exact ⟨pv, hl.disk.blk⟩
  have H0 : Hid (SL W B sp gp bV bT bH m lp p bD bN n s l d ∧ W.heap[hp]? = some (hostS p true (.pointer (some ⟨sp, 0, none⟩))) ∧ W.heap[w.heap.size]? = some (fallO a b c k) ∧ HFs B w W ∧ W.heap[p]? = some (dskO bD bN pv0 d.left d.full d.down)) := ⟨hs0, hh0, hfa0, hr0, hd0⟩
  clear hs hh hf0 hs0 hx0 hh0 hfa0 hr0 hd0
  go_enter Tryz.func17, Tryz.ntmps17
  go_wp2_with fail
  rw [← hW]
  clear hW c5 x0 x1 x2 x3
  refine (before_s hp p bD bN pv0 _ true d.down d.left d.full a b c k W H0.out.2.1 H0.out.2.2.2.2).mono ?_
  rintro e w1 ⟨rfl, hb1, hf1⟩
  obtain ⟨hs1, hx1⟩ := H0.out.1.knob a b hf1 hb1 H0.out.2.2.2.2
  have hh1 := hx1.cells H0.out.1 H0.out.2.1 (by decide) (by decide) (by decide) (by decide) (by decide) (by decide)
  have hfa1 := hx1.cells H0.out.1 H0.out.2.2.1 (by decide) (by decide) (by decide) (by decide) (by decide) (by decide)
  have hr1 := H0.out.2.2.2.1.trans (hx1.hfr H0.out.1 hb)
  have hap := hX w1 hs1 hr1
  have k5 := blk_cell hh1 5
  simp at k5
  have H1 : Hid (SL w1 B sp gp bV bT bH m lp p bD bN n s l (d.knob a b) ∧ w1.heap[hp]? = some (hostS p true (.pointer (some ⟨sp, 0, none⟩))) ∧ w1.heap[w.heap.size]? = some (fallO a b c k) ∧ HFs B w w1) := ⟨hs1, hh1, hfa1, hr1⟩
  clear hs1 hx1 hh1 hfa1 hr1 hb1 hf1 hX H0
  go_wp2_with fail
  refine hap.mono ?_
  clear hap
  rintro e w2 ⟨v, x, s', l', d', m', n', hQ, rfl, hs2, hdn, hx2⟩
  have hh2 := hx2.cells H1.out.1 H1.out.2.1 (by decide) (by decide) (by decide) (by decide) (by decide) (by decide)
  have hfa2 := hx2.cells H1.out.1 H1.out.2.2.1 (by decide) (by decide) (by decide) (by decide) (by decide) (by decide)
  have hr2 := H1.out.2.2.2.trans (hx2.hfr H1.out.1 hb)
  have y0 := blk_cell hfa2 0
  have y1 := blk_cell hfa2 1
  have y2 := blk_cell hfa2 2
  have y3 := blk_cell hfa2 3
  simp at y0 y1 y2 y3
  have hmet2 : Met w2 := hr2.met hB hmet
  obtain ⟨pv2, hd2⟩ : ∃ pv, w2.heap[p]? = some (dskO bD bN pv d'.left d'.full d'.down) := by obtain ⟨pv, sv, rv, nD, nN, hl⟩ := hs2.lg; exact ⟨pv, hl.disk.blk⟩
  have H2 : Hid (SL w2 B sp gp bV bT bH m' lp p bD bN n' s' l' d' ∧ w2.heap[hp]? = some (hostS p true (.pointer (some ⟨sp, 0, none⟩))) ∧ HFs B w w2 ∧ w2.heap[p]? = some (dskO bD bN pv2 d'.left d'.full d'.down) ∧ Q v x s' l' d' m' n') := ⟨hs2, hh2, hr2, hd2, hQ⟩
  clear hs2 hx2 hh2 hfa2 hr2 hd2 hQ k5 H1
  go_wp2_with fail
  have hbd := H2.out.2.2.2.1
  rw [hdn] at hbd
  refine (after_s hp p bD bN pv2 _ true d'.left d'.full a b c k w2 H2.out.2.1 hbd).mono ?_
  clear hbd y0 y1 y2 y3
  rintro e w3 ⟨rfl, hb3, hf3⟩
  rw [← hdn] at hb3
  obtain ⟨hs3, hx3⟩ := H2.out.1.knob (-1) (-1) hf3 hb3 H2.out.2.2.2.1
  have hh3 := hx3.cells H2.out.1 H2.out.2.1 (by decide) (by decide) (by decide) (by decide) (by decide) (by decide)
  have hr3' := hx3.hfr H2.out.1 hb
  have hmet3 : Met w3 := hr3'.met hB hmet2
  have H3 : Hid (SL w3 B sp gp bV bT bH m' lp p bD bN n' s' l' (d'.knob (-1) (-1)) ∧ w3.heap[hp]? = some (hostS p true (.pointer (some ⟨sp, 0, none⟩))) ∧ HFs B w w3 ∧ Q v x s' l' d' m' n') := ⟨hs3, hh3, H2.out.2.2.1.trans hr3', H2.out.2.2.2.2⟩
  clear hs3 hx3 hh3 hr3' hb3 hf3 H2
  go_wp2_with fail
  refine (told_any x w3 hmet3).mono ?_
  rintro e w4 ⟨rfl, hf4⟩
  obtain ⟨hs4, hx4⟩ := H3.out.1.new hf4
  have hh4 := hx4.cells H3.out.1 H3.out.2.1 (by decide) (by decide) (by decide) (by decide) (by decide) (by decide)
  have hr4 := H3.out.2.2.1.trans (hx4.hfr H3.out.1 hb)
  have H4 : Hid (Q v x s' l' d' m' n' ∧ HSt w4 B hp m' n' s' l' (d'.knob (-1) (-1)) ∧ HFs B w w4) := ⟨H3.out.2.2.2, ⟨p, sp, gp, bV, bT, bH, lp, bD, bN, hh4, hs4, hb⟩, hr4⟩
  clear hs4 hx4 hh4 hr4 hf4 H3
  go_wp2
  go_ret
  exact ⟨v, x, s', l', d', m', n', H4.out.1, rfl, H4.out.2⟩
end Go.Proofs.YtkhjhojmhllkaaaGreatDoor
/- HOSTS OF A SHARD: NewHost, Open. (Written by mkhoo.py.) -/
namespace Go.Proofs.YtkhjhojmhllkaaaGreatDoor
open Go.RowKit Go.Maps
open Sc

set_option maxRecDepth 100000 in
set_option maxHeartbeats 1000000 in
theorem newHost_s (w : World) (n : Nat) (hn : n ≤ 67108864) :
    Calls Tryz.prog 23 #[.int .i64 2, .int .i64 0] w fun e w' => ∃ hp p bD bN, e = .returned (.pointer (some ⟨hp, 0, none⟩)) ∧ w'.heap[hp]? = some (hostS p false (.pointer none)) ∧ DiskIn w' w.heap.size p bD bN (.slice none 0 0) ⟨fun _ => none, fun _ => none, [], -1, -1, false⟩ n 0 0 ∧ w.heap.size ≤ hp ∧ Below w.heap.size w w' := by
  have hmm := @run_makeMap Tryz.prog
  go_enter Tryz.func23, Tryz.ntmps23
  go_wp2_with fail
  obtain ⟨W, hW⟩ : ∃ W, W = ((w.alloc (.map #[] 0)).alloc (.cells #[.map (some w.heap.size), .map none, .slice none 0 0, .int .i64 (-1), .int .i64 (-1), .bool false] 97)).alloc (hostS (w.heap.size + 1) false (.pointer none)) := ⟨_, rfl⟩
  have hW2 : W = ((w.alloc (.map #[] 0)).alloc (.cells #[.map (some w.heap.size), .map none, .slice none 0 0, .int .i64 (-1), .int .i64 (-1), .bool false] 97)).alloc (.cells #[.int .i64 2, .int .i64 0, .pointer (some ⟨w.heap.size + 1, 0, none⟩), .bool false, .pointer none, .pointer none, .pointer none, .pointer none] 76) := hW
  rw [← hW2]
  clear hW2
  have hsz : W.heap.size = w.heap.size + 3 := by rw [hW]; simp
  have hb0 : Below w.heap.size w W := by rw [hW]; exact (((Below.refl _ w).alloc (Nat.le_refl _) _).alloc (by simp) _).alloc (by simp; omega) _
  have hfm : FileMap W w.heap.size 0 (fun _ => none) := by rw [hW]; exact ((FileMap.made w).alloc _).alloc _
  have hdb : W.heap[w.heap.size + 1]? = some (.cells #[.map (some w.heap.size), .map none, .slice none 0 0, .int .i64 (-1), .int .i64 (-1), .bool false] 97) := by
    rw [hW, Below.heap_alloc _ _ (w.heap.size + 1) (by simp)]; have := heap_alloc_new (w.alloc (.map #[] 0)) (.cells #[.map (some w.heap.size), .map none, .slice none 0 0, .int .i64 (-1), .int .i64 (-1), .bool false] 97); rw [World.size_alloc] at this; exact this
  have hhb : W.heap[w.heap.size + 2]? = some (hostS (w.heap.size + 1) false (.pointer none)) := by
    rw [hW]; have := heap_alloc_new ((w.alloc (.map #[] 0)).alloc (.cells #[.map (some w.heap.size), .map none, .slice none 0 0, .int .i64 (-1), .int .i64 (-1), .bool false] 97)) (hostS (w.heap.size + 1) false (.pointer none)); rw [World.size_alloc, World.size_alloc] at this; exact this
  clear hW
  have HH : Hid (W.heap[w.heap.size + 2]? = some (hostS (w.heap.size + 1) false (.pointer none))) := hhb
  refine (up_any w.heap.size (w.heap.size + 1) w.heap.size n 0 (.slice none 0 0) (.map none) ⟨fun _ => none, fun _ => none, [], -1, -1, false⟩ W hdb ⟨by omega, by omega, by omega⟩ hfm (by omega) hn (by intro k t ht; cases ht)).mono ?_
  rintro e w1 ⟨rfl, hd1, hf1⟩
  have hh1 : w1.heap[w.heap.size + 1 + 1]? = some (hostS (w.heap.size + 1) false (.pointer none)) := (hf1.block (w.heap.size + 2) (by omega) (by simp)).trans HH.out
  have hb1 : Below w.heap.size w w1 := hb0.trans (hf1.below (by omega) (by intro k hk; simp at hk; omega))
  have H1 : Hid (DiskIn w1 w.heap.size (w.heap.size + 1) w.heap.size W.heap.size (.slice none 0 0) ⟨fun _ => none, fun _ => none, [], -1, -1, false⟩ n 0 0 ∧ Below w.heap.size w w1 ∧ w1.heap[w.heap.size + 1 + 1]? = some (hostS (w.heap.size + 1) false (.pointer none))) := ⟨hd1, hb1, hh1⟩
  clear hd1 hf1 hh1 hb1 hdb hhb hfm hb0
  go_wp2
  go_ret
  exact ⟨w.heap.size + 1 + 1, w.heap.size + 1, w.heap.size, W.heap.size, rfl, H1.out.2.2, H1.out.1, by omega, H1.out.2.1⟩
/-- cells of another kind turn -/
theorem SL.other {w w' : World} {B sp gp bV bT bH m lp p bD bN n q : Nat} {s : AShard} {l : ALog} {d : ADisk} {c : Array Value} {t : TypeId} (h : SL w B sp gp bV bT bH m lp p bD bN n s l d) (hf : Fr [q] w w') (hq : w.heap[q]? = some (.cells c t (0, 0))) (h1 : t ≠ 97) (h2 : t ≠ 130) (h3 : t ≠ 187) (h4 : t ≠ 33) (h5 : t ≠ 103) (h6 : t ≠ 9) (h7 : t ≠ 141) (h8 : t ≠ 205) : SL w' B sp gp bV bT bH m lp p bD bN n s l d := by
  obtain ⟨pv, sv, rv, nD, nN, hl⟩ := h.lg
  have n1 : sp ≠ q := by intro e; have := h.sh.blk; rw [e, hq] at this; cases this; exact h7 rfl
  have n2 : bV ≠ q := by intro e; obtain ⟨es, c2, e2⟩ := h.sh.vals.isMap; rw [e, hq] at e2; cases e2
  have n3 : bT ≠ q := by intro e; obtain ⟨es, c2, e2⟩ := h.sh.txns.isMap; rw [e, hq] at e2; cases e2
  have n4 : bH ≠ q := by intro e; obtain ⟨es, c2, e2⟩ := h.sh.holds.isMap; rw [e, hq] at e2; cases e2
  have n5 : gp ≠ q := by intro e; have := h.ap.led; rw [e, hq] at this; cases this; exact h8 rfl
  exact ⟨h.sh.fr hf (by simpa using n1) (by simpa using n2) (by simpa using n3) (by simpa using n4), ⟨_, _, _, _, _, hl.other hf hq h1 h2 h3 h4 h5 h6⟩, ⟨(hf.block gp (Array.getElem?_eq_some_iff.1 h.ap.led).1 (by simpa using n5)).trans h.ap.led, h.ap.ne⟩, h.gp1⟩
set_option maxRecDepth 100000 in
set_option maxHeartbeats 4000000 in
theorem hOpen_s (B hp p bD bN n nD nN : Nat) (pv : Value) (d : ADisk) (a b c k : Int) (J : List Rec → AShard → Prop) (R : ALog × ADisk × Nat) (w : World) (hh : w.heap[hp]? = some (hostS p false (.pointer none))) (h : DiskIn w B p bD bN pv d n nD nN) (hB : 2 ≤ B) (hhp : B ≤ hp) (hmet : Met w)
    (hpre : ∀ W, DiskIn W B p bD bN pv (d.knob a b) n nD nN → Below B w W → ShPre J B p bD bN n R W) (hdn2 : R.2.1.down = false) :
    Calls Tryz.prog 16 #[.pointer (some ⟨hp, 0, none⟩), fallV a b c k] w fun e w' => e = .returned (.int .i64 0) ∧ ∃ s', J R.1.recs s' ∧ HSt w' B hp (20 * R.1.recs.length) n s' R.1 (R.2.1.knob (-1) (-1)) ∧ HFs B w w' := by
  obtain ⟨W, hW⟩ : ∃ W, W = w.alloc (fallO a b c k) := ⟨_, rfl⟩
  have hf0 : Fr [] w W := by rw [hW]; exact (Fr.refl [] w).alloc _
  have hd0 := h.new hf0
  have hpl := (Array.getElem?_eq_some_iff.1 hh).1
  have hh0 : W.heap[hp]? = some (hostS p false (.pointer none)) := (hf0.block hp hpl (by simp)).trans hh
  have hx0 : W.heap[w.heap.size]? = some (fallO a b c k) := by rw [hW]; exact heap_alloc_new w _
  have hb0 : HFs B w W := HFs.new hf0 h.base.2.2.2
  have x0 := blk_cell hx0 0
  have x1 := blk_cell hx0 1
  have x2 := blk_cell hx0 2
  have x3 := blk_cell hx0 3
  simp at x0 x1 x2 x3
  rw [hW] at x0 x1 x2 x3
  have hmet0 : Met W := hb0.met hB hmet
  have HH : Hid (W.heap[hp]? = some (hostS p false (.pointer none)) ∧ W.heap[w.heap.size]? = some (fallO a b c k) ∧ DiskIn W B p bD bN pv d n nD nN ∧ HFs B w W) := ⟨hh0, hx0, hd0, hb0⟩
  clear hh hf0 hd0 hh0 hx0 hb0 h hmet
  go_enter Tryz.func16, Tryz.ntmps16
  go_wp2_with fail
  rw [← hW]
  clear hW x0 x1 x2 x3
  refine (before_s hp p bD bN pv _ false d.down d.left d.full a b c k W HH.out.1 HH.out.2.2.1.blk).mono ?_
  rintro e w1 ⟨rfl, hb1, hf1⟩
  have hd1 : DiskIn w1 B p bD bN pv (d.knob a b) n nD nN := HH.out.2.2.1.turn hf1 a b d.down hb1
  have hne : hp ≠ p := by intro e; have := HH.out.1; rw [e, HH.out.2.2.1.blk] at this; cases this
  have hh1 : w1.heap[hp]? = some (hostS p false (.pointer none)) := (hf1.block hp (Array.getElem?_eq_some_iff.1 HH.out.1).1 (by simpa using hne)).trans HH.out.1
  have fal1 : ∀ (q : Nat) (x y z u : Int), W.heap[q]? = some (fallO x y z u) → w1.heap[q]? = some (fallO x y z u) := fun q x y z u hq => (hf1.block q (Array.getElem?_eq_some_iff.1 hq).1 (by simp; intro e; rw [e, HH.out.2.2.1.blk] at hq; cases hq)).trans hq
  have hx1 := fal1 _ _ _ _ _ HH.out.2.1
  have hr1 : HFs B W w1 := ⟨hf1.below HH.out.2.2.1.base.2.2.2 (by intro j hj; simp at hj; rw [hj]; exact HH.out.2.2.1.base.1), fal1⟩
  have H1 : Hid (w1.heap[hp]? = some (hostS p false (.pointer none)) ∧ w1.heap[w.heap.size]? = some (fallO a b c k) ∧ DiskIn w1 B p bD bN pv (d.knob a b) n nD nN ∧ HFs B w w1) := ⟨hh1, hx1, hd1, HH.out.2.2.2.trans hr1⟩
  have hmet1 : Met w1 := hr1.met hB hmet0
  clear hb1 hf1 hd1 hh1 hx1 hr1 fal1
  go_wp2_with fail
  refine (close_s hp p false _ ⟨_, rfl⟩ w1 H1.out.1).mono ?_
  rintro e w2 ⟨rfl, hh2, hf2⟩
  have hd2 : DiskIn w2 B p bD bN pv (d.knob a b) n nD nN := by
    refine H1.out.2.2.1.fr hf2 (by simpa using fun e => hne e.symm) ?_ ?_ ?_ ?_
    · simp; exact H1.out.2.2.1.dur.ne_cells H1.out.1
    · simp; exact H1.out.2.2.1.now.ne_cells H1.out.1
    · intro g hg; simp; intro e; subst e; exact own_ne H1.out.2.2.1.pen H1.out.1 (by decide) hg
    · intro q hq t; simp at hq; subst hq; rw [H1.out.1]; intro e; cases e
  have fal2 : ∀ (q : Nat) (x y z u : Int), w1.heap[q]? = some (fallO x y z u) → w2.heap[q]? = some (fallO x y z u) := fun q x y z u hq => (hf2.block q (Array.getElem?_eq_some_iff.1 hq).1 (by simp; intro e; rw [e, H1.out.1] at hq; cases hq)).trans hq
  have hx2 := fal2 _ _ _ _ _ H1.out.2.1
  have hr2 : HFs B w1 w2 := ⟨hf2.below H1.out.2.2.1.base.2.2.2 (by intro j hj; simp at hj; omega), fal2⟩
  have hc0 := blk_cell hh2 0
  have hc2 := blk_cell hh2 2
  simp at hc0 hc2
  have hop := openShard_any J B p bD bN n R w2 (hpre w2 hd2 (H1.out.2.2.2.below.trans hr2.below))
  have H2 : Hid (w2.heap[hp]? = some (hostS p false (.pointer none)) ∧ w2.heap[w.heap.size]? = some (fallO a b c k) ∧ DiskIn w2 B p bD bN pv (d.knob a b) n nD nN ∧ HFs B w w2) := ⟨hh2, hx2, hd2, H1.out.2.2.2.trans hr2⟩
  have hmet2 : Met w2 := hr2.met hB hmet1
  clear hh2 hf2 hd2 hx2 hr2 fal2 hpre
  go_wp2_with fail
  refine hop.mono ?_
  clear hop
  rintro e w3 ⟨sp, gp, bV, bT, bH, lp, s', rfl, hre, hs3, hlow, hx3⟩
  have cel3 : ∀ {q : Nat} {c : Array Value} {t : TypeId}, w2.heap[q]? = some (.cells c t (0, 0)) → t ≠ 97 → t ≠ 130 → w3.heap[q]? = some (.cells c t (0, 0)) := fun {q c t} hq t1 t2 => (hx3.block q (Array.getElem?_eq_some_iff.1 hq).1 (H2.out.2.2.1.freeD hq t1 t2) (by simp)).trans hq
  have hh3 := cel3 H2.out.1 (by decide) (by decide)
  have hfa3 := cel3 H2.out.2.1 (by decide) (by decide)
  have hr3 : HFs B w2 w3 := ⟨⟨hx3.os, hx3.tape, hx3.output, hx3.size, fun q hq => hx3.block q (Nat.lt_of_lt_of_le hq H2.out.2.2.1.base.2.2.2) (fun ho => by have := H2.out.2.2.1.geD ho; omega) (by simp)⟩, fun q x y z u hq => cel3 hq (by decide) (by decide)⟩
  have hBw := H2.out.2.2.1.base.2.2.2
  have hb3 : B ≤ sp ∧ B ≤ bV ∧ B ≤ bT ∧ B ≤ bH := ⟨by omega, by omega, by omega, by omega⟩
  have hmet3 : Met w3 := hr3.met hB hmet2
  obtain ⟨W4, hW4⟩ : ∃ W4, W4 = (w3.setCell ⟨hp, 5, none⟩ (.pointer (some ⟨sp, 0, none⟩))).setCell ⟨hp, 3, none⟩ (.bool true) := ⟨_, rfl⟩
  have hh4 : W4.heap[hp]? = some (hostS p true (.pointer (some ⟨sp, 0, none⟩))) := by
    have := blk_set (blk_set hh3 5 (.pointer (some ⟨sp, 0, none⟩))) 3 (.bool true)
    simp at this
    rw [hW4]; exact this
  have hf4 : Fr [hp] w3 W4 := by rw [hW4]; exact (Fr.set1 (by simp) _ _).trans (Fr.set1 (by simp) _ _)
  have hs4 := hs3.other hf4 hh3 (by decide) (by decide) (by decide) (by decide) (by decide) (by decide) (by decide) (by decide)
  have hxh : w.heap.size ≠ hp := by omega
  have fal4 : ∀ (q : Nat) (x y z u : Int), w3.heap[q]? = some (fallO x y z u) → W4.heap[q]? = some (fallO x y z u) := fun q x y z u hq => (hf4.block q (Array.getElem?_eq_some_iff.1 hq).1 (by simp; intro e; rw [e, hh3] at hq; cases hq)).trans hq
  have hx4 := fal4 _ _ _ _ _ hfa3
  have hr4 : HFs B w3 W4 := ⟨hf4.below (by have := hr3.below.size; omega) (by intro j hj; simp at hj; omega), fal4⟩
  have hmet4 : Met W4 := hr4.met hB hmet3
  have y0 := blk_cell hx4 0
  have y1 := blk_cell hx4 1
  have y2 := blk_cell hx4 2
  have y3 := blk_cell hx4 3
  simp at y0 y1 y2 y3
  rw [hW4] at y0 y1 y2 y3
  obtain ⟨pv4, hd4⟩ : ∃ pv, W4.heap[p]? = some (dskO bD bN pv R.2.1.left R.2.1.full R.2.1.down) := by obtain ⟨pv, sv, rv, nD, nN, hl⟩ := hs4.lg; exact ⟨pv, hl.disk.blk⟩
  have H4 : Hid (W4.heap[hp]? = some (hostS p true (.pointer (some ⟨sp, 0, none⟩))) ∧ SL W4 B sp gp bV bT bH (20 * R.1.recs.length) lp p bD bN n s' R.1 R.2.1 ∧ HFs B w W4 ∧ W4.heap[p]? = some (dskO bD bN pv4 R.2.1.left R.2.1.full R.2.1.down) ∧ J R.1.recs s') := ⟨hh4, hs4, (H2.out.2.2.2.trans hr3).trans hr4, hd4, hre⟩
  have c3 := blk_cell hh3 3
  have c5 := blk_cell hh3 5
  have f3 := blk_free hh3 3
  have f5 := blk_free hh3 5
  have c2 := blk_cell hh3 2
  simp at c3 c5 c2
  clear hc0 hc2 hh3 hfa3 hr3 hs3 hx3 cel3 hh4 hf4 hx4 hs4 hr4 fal4 hd4 hre
  go_wp2_with fail
  rw [← hW4]
  clear hW4 y0 y1 y2 y3 c3 c5 f3 f5 c2
  have hbd := H4.out.2.2.2.1
  rw [hdn2] at hbd
  refine (after_s hp p bD bN pv4 _ true R.2.1.left R.2.1.full a b c k W4 H4.out.1 hbd).mono ?_
  clear hbd
  rintro e w5 ⟨rfl, hb5, hf5⟩
  rw [← hdn2] at hb5
  obtain ⟨hs5, hx5⟩ := H4.out.2.1.knob (-1) (-1) hf5 hb5 H4.out.2.2.2.1
  have hh5 := hx5.cells H4.out.2.1 H4.out.1 (by decide) (by decide) (by decide) (by decide) (by decide) (by decide)
  have hr5 := hx5.hfr H4.out.2.1 hb3
  have hmet5 : Met w5 := hr5.met hB hmet4
  have H5 : Hid (w5.heap[hp]? = some (hostS p true (.pointer (some ⟨sp, 0, none⟩))) ∧ SL w5 B sp gp bV bT bH (20 * R.1.recs.length) lp p bD bN n s' R.1 (R.2.1.knob (-1) (-1)) ∧ HFs B w w5 ∧ J R.1.recs s') := ⟨hh5, hs5, H4.out.2.2.1.trans hr5, H4.out.2.2.2.2⟩
  clear hb5 hf5 hs5 hx5 hh5 hr5
  go_wp2_with fail
  refine (told_any 0 w5 hmet5).mono ?_
  rintro e w6 ⟨rfl, hf6⟩
  obtain ⟨hs6, hx6⟩ := H5.out.2.1.new hf6
  have H6 : Hid (J R.1.recs s' ∧ HSt w6 B hp (20 * R.1.recs.length) n s' R.1 (R.2.1.knob (-1) (-1)) ∧ HFs B w w6) := ⟨H5.out.2.2.2, ⟨p, sp, gp, bV, bT, bH, lp, bD, bN, hx6.cells H5.out.2.1 H5.out.1 (by decide) (by decide) (by decide) (by decide) (by decide) (by decide), hs6, hb3⟩, H5.out.2.2.1.trans (hx6.hfr H5.out.2.1 hb3)⟩
  clear hs6 hx6 hf6
  go_wp2
  go_ret
  exact ⟨rfl, s', H6.out⟩
end Go.Proofs.YtkhjhojmhllkaaaGreatDoor
/- THE POWER FAILS, all that was told being durable: crash, (*Host).Lose. -/
namespace Go.Proofs.YtkhjhojmhllkaaaGreatDoor
open Go.RowKit Go.Maps
open Sc

set_option maxHeartbeats 1000000 in
theorem ppick_zero (w : World) : Calls Tryz.prog 82 #[.int .i64 0, .int .i64 1] w fun e w' => e = .returned (.int .i64 0) ∧ w' = w := by
  go_enter Tryz.func82, Tryz.ntmps82
  go_wp2
  go_ret
  exact ⟨rfl, rfl⟩
set_option maxRecDepth 100000 in
set_option maxHeartbeats 4000000 in
theorem crash_none (B p bD bN n nD nN : Nat) (pv : Value) (d : ADisk) (kept : Int) (w : World) (h : DiskIn w B p bD bN pv d n nD nN) (h0 : d.pending = []) :
    Calls Tryz.prog 39 #[.pointer (some ⟨p, 0, none⟩), .int .i64 kept, .int .i64 0] w fun e w' => e = .returned (.tuple #[]) ∧ ∃ bN', DiskIn w' B p bD bN' (.slice none 0 0) (d.up.knob (-1) (-1)) n nD nD ∧ Fr [p] w w' := by
  have hmm := @run_makeMap Tryz.prog
  have hn := h.hn
  have hbase := h.base
  have hD := h.hD
  have hleD := h.leD
  obtain ⟨pa, pc, rfl⟩ : ∃ a c, pv = .slice a 0 c := by
    have := h.pen
    rw [h0] at this
    rcases this.2 with ⟨e, _⟩ | ⟨g, cap, cur, e, _⟩
    · exact ⟨_, _, e⟩
    · exact ⟨_, _, e⟩
  have hpl : p < w.heap.size := (Array.getElem?_eq_some_iff.1 h.blk).1
  have c2 := blk_cell h.blk 2
  simp at c2
  have hlen : ∀ (ty : TypeId) (W : World), (Builtin.len_ #[95] ty #[.slice pa 0 pc]).run Tryz.prog W = .ok (.int .i64 0) W := fun ty W => by simp [go_sem]
  obtain ⟨W, hW⟩ : ∃ W, W = w.alloc (.map #[] 0) := ⟨_, rfl⟩
  have hfW : Fr [] w W := by rw [hW]; exact (Fr.refl [] w).alloc _
  have hbW : W.heap[p]? = some (dskO bD bN (.slice pa 0 pc) d.left d.full d.down) := (hfW.block p hpl (by simp)).trans h.blk
  have b2 := blk_cell hbW 2
  have b3 := blk_cell hbW 3
  have b4 := blk_cell hbW 4
  have f3 := blk_free hbW 3
  have f4 := blk_free hbW 4
  simp at b2 b3 b4
  obtain ⟨W2, hW2⟩ : ∃ W2, W2 = (W.setCell ⟨p, 3, none⟩ (.int .i64 (-1))).setCell ⟨p, 4, none⟩ (.int .i64 (-1)) := ⟨_, rfl⟩
  have hf2 : Fr [p] w W2 := by rw [hW2]; exact (hfW.mono (by simp)).trans ((Fr.set1 (by simp) _ _).trans (Fr.set1 (by simp) _ _))
  have hb2 : W2.heap[p]? = some (.cells #[.map (some bD), .map (some bN), .slice pa 0 pc, .int .i64 (d.knob (-1) (-1)).left, .int .i64 (d.knob (-1) (-1)).full, .bool (d.knob (-1) (-1)).down] 97) := by
    have := blk_set (blk_set hbW 3 (.int .i64 (-1))) 4 (.int .i64 (-1))
    simp at this
    rw [hW2]; exact this
  have hdu : FileMap W2 bD nD d.durable := by
    have := (h.turn (d := d) hf2 (-1) (-1) d.down hb2).dur
    exact this
  have hup := up_any B p bD n nD (.slice pa 0 pc) (.map (some bN)) (d.knob (-1) (-1)) W2 hb2 ⟨hbase.1, hbase.2.1, Nat.le_trans hbase.2.2.2 hf2.size⟩ hdu (by omega) hn hleD
  have HF : Hid (Fr [p] w W2) := hf2
  clear h hfW hbW hb2 hdu hf2
  go_enter Tryz.func39, Tryz.ntmps39
  go_wp2_with fail
  refine (ppick_zero w).mono ?_
  rintro e w1 ⟨rfl, rfl⟩
  go_wp2
  rw [← hW]
  clear hW
  go_loopw [24] (fun i wr => i = .int .i64 0 ∧ wr = W) (fun _ _ => 0)
  case atStart => exact ⟨rfl, rfl⟩
  case round =>
    obtain ⟨rfl, rfl⟩ := hrel
    go_wp2_with fail
    rw [← hW2]
    refine hup.mono ?_
    rintro e w3 ⟨rfl, hd3, hf3⟩
    have H3 := toHid (show DiskIn w3 B p bD W2.heap.size (.slice none 0 0) (d.knob (-1) (-1)).up n nD nD ∧ Fr [p] w1 w3 from ⟨hd3, HF.out.trans hf3⟩)
    clear hd3 hf3
    go_wp2
    go_end0
    exact ⟨rfl, W2.heap.size, H3.out⟩
/-- a host of a shard that is not open -/
def HCl (w : World) (B hp n : Nat) (d : ADisk) : Prop :=
  ∃ p bD bN pv nD nN, w.heap[hp]? = some (hostS p false (.pointer none)) ∧ DiskIn w B p bD bN pv d n nD nN
set_option maxRecDepth 100000 in
set_option maxHeartbeats 2000000 in
theorem hLose_s (B hp m n : Nat) (s : AShard) (l : ALog) (d : ADisk) (kept : Int) (w : World) (h : HSt w B hp m n s l d) (hhp : B ≤ hp) (h0 : d.pending = []) :
    Calls Tryz.prog 15 #[.pointer (some ⟨hp, 0, none⟩), .int .i64 kept, .int .i64 0] w fun e w' => e = .returned (.tuple #[]) ∧ HCl w' B hp n (d.up.knob (-1) (-1)) ∧ HFs B w w' := by
  obtain ⟨p, sp, gp, bV, bT, bH, lp, bD, bN, hh, hs, hb⟩ := h
  obtain ⟨pv, sv, rv, nD, nN, hl⟩ := hs.lg
  have hd := hl.disk
  have hcl := close_s hp p true (.pointer (some ⟨sp, 0, none⟩)) ⟨_, rfl⟩ w hh
  have hne : hp ≠ p := by intro e; have := hh; rw [e, hd.blk] at this; cases this
  have H0 := toHid (show w.heap[hp]? = some (hostS p true (.pointer (some ⟨sp, 0, none⟩))) ∧ DiskIn w B p bD bN pv d n nD nN from ⟨hh, hd⟩)
  clear hh hs hl hd
  go_enter Tryz.func15, Tryz.ntmps15
  go_wp2_with fail
  refine hcl.mono ?_
  clear hcl
  rintro e w1 ⟨rfl, hh1, hf1⟩
  have hd1 : DiskIn w1 B p bD bN pv d n nD nN := by
    refine H0.out.2.fr hf1 (by simpa using fun e => hne e.symm) ?_ ?_ ?_ ?_
    · simp; exact H0.out.2.dur.ne_cells H0.out.1
    · simp; exact H0.out.2.now.ne_cells H0.out.1
    · intro g hg; simp; intro e; subst e; exact own_ne H0.out.2.pen H0.out.1 (by decide) hg
    · intro q hq t; simp at hq; subst hq; rw [H0.out.1]; intro e; cases e
  have hr1 : HFs B w w1 := ⟨hf1.below H0.out.2.base.2.2.2 (by intro j hj; simp at hj; omega), fun q x y z u hq => (hf1.block q (Array.getElem?_eq_some_iff.1 hq).1 (by simp; intro e; rw [e, H0.out.1] at hq; cases hq)).trans hq⟩
  have c2 := blk_cell hh1 2
  simp at c2
  have hcr := crash_none B p bD bN n nD nN pv d kept w1 hd1 h0
  have H1 := toHid (show w1.heap[hp]? = some (hostS p false (.pointer none)) ∧ DiskIn w1 B p bD bN pv d n nD nN ∧ HFs B w w1 from ⟨hh1, hd1, hr1⟩)
  clear hh1 hf1 hd1 hr1
  go_wp2_with fail
  refine hcr.mono ?_
  clear hcr
  rintro e w2 ⟨rfl, bN', hd2, hf2⟩
  have hh2 := (hf2.block hp (Array.getElem?_eq_some_iff.1 H1.out.1).1 (by simpa using hne)).trans H1.out.1
  have hr2 : HFs B w1 w2 := ⟨hf2.below H1.out.2.1.base.2.2.2 (by intro j hj; simp at hj; rw [hj]; exact H1.out.2.1.base.1), fun q x y z u hq => (hf2.block q (Array.getElem?_eq_some_iff.1 hq).1 (by simp; intro e; rw [e, H1.out.2.1.blk] at hq; cases hq)).trans hq⟩
  have H2 := toHid (show HCl w2 B hp n (d.up.knob (-1) (-1)) ∧ HFs B w w2 from ⟨⟨p, bD, bN', _, nD, nD, hh2, hd2⟩, H1.out.2.2.trans hr2⟩)
  clear hh2 hr2 hd2 hf2
  go_wp2
  go_end0
  exact ⟨rfl, H2.out⟩
end Go.Proofs.YtkhjhojmhllkaaaGreatDoor
