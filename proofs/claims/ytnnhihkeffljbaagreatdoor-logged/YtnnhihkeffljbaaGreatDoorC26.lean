import Derived.Test.YtnnhihkeffljbaaGreatDoorC25
/- THE BOOK: done; what stays behind a call. -/
namespace Go.Proofs.YtnnhihkeffljbaaGreatDoor
open Go.RowKit
open Sc

section
variable {w w' : World} {B bp hp lp p bD bN n n' : Nat} {av : Value} {b b' : ABook} {l l' : ALog} {d d' : ADisk}
theorem BookIn.newB (h : BookIn w B bp hp lp p bD bN av b l d n) (hf : Fr [] w w') : BookIn w' B bp hp lp p bD bN av b l d n := by
  obtain ⟨hh, pv, sv, rv, nD, nN, hl⟩ := h.host
  have ho := hl.newO hf
  refine ⟨⟨ho.host hl hh, pv, sv, rv, nD, nN, hl.new hf⟩, h.base, (hf.block bp (Array.getElem?_eq_some_iff.1 h.blk).1 (by simp)).trans h.blk, ownsRow_fr h.all hf (by simp), fun k hk hO => h.sep k hk (ho.stay k (h.all.lt k hk).2 hO), h.len, h.nums⟩
theorem BookIn.afterHost (h : BookIn w B bp hp lp p bD bN av b l d n) (hh : HostIn w' B hp lp p bD bN l' d' n') (ho : OFr lp p w w') : BookIn w' B bp hp lp p bD bN av b l' d' n' := by
  obtain ⟨_, pv, sv, rv, nD, nN, hl⟩ := h.host
  refine ⟨hh, h.base, (ho.block bp (Array.getElem?_eq_some_iff.1 h.blk).1 (hl.free h.blk (by decide) (by decide) (by decide) (by decide) (by decide))).trans h.blk, ?_, fun k hk hO => h.sep k hk (ho.stay k (h.all.lt k hk).2 hO), h.len, h.nums⟩
  refine ⟨h.all.1, ?_⟩
  rcases h.all.2 with h1 | ⟨g, cap, cur, rfl, h2, h3, h4⟩
  · exact .inl h1
  · exact .inr ⟨g, cap, cur, rfl, h2, (ho.block g (Array.getElem?_eq_some_iff.1 h3).1 (h.sep g rfl)).trans h3, h4⟩
/-- the book's own block alone was written -/
theorem BookIn.setB (h : BookIn w B bp hp lp p bD bN av b l d n) (hf : Fr [bp] w w') (hb : w'.heap[bp]? = some (bookO hp av b')) (e : b'.all = b.all) (hn : b'.forced ≤ 1048576 ∧ b'.low < 18446744073709551616 ∧ b'.must < 18446744073709551616 ∧ b'.tries < 18446744073709551616) : BookIn w' B bp hp lp p bD bN av b' l d n := by
  obtain ⟨hh, pv, sv, rv, nD, nN, hl⟩ := h.host
  have hl' := hl.other hf h.blk (by decide) (by decide) (by decide) (by decide) (by decide) (by decide)
  have hne : hp ≠ bp := by intro e; have := h.blk; rw [← e, hh] at this; cases this
  refine ⟨⟨(hf.block hp (Array.getElem?_eq_some_iff.1 hh).1 (by simpa using hne)).trans hh, pv, sv, rv, nD, nN, hl'⟩, h.base, hb, ?_, ?_, by rw [e]; exact h.len, hn⟩
  · rw [e]; exact ownsRow_fr h.all hf (fun g hg => by simp; intro e; subst e; exact own_ne h.all h.blk (by decide) hg)
  · intro k hk hO
    refine h.sep k hk ?_
    rw [hl.own]; rw [hl'.own] at hO; exact hO
theorem BookIn.lowB (h : BookIn w B bp hp lp p bD bN av b l d n) : B ≤ w.heap.size := by
  obtain ⟨_, pv, sv, rv, nD, nN, hl⟩ := h.host
  exact hl.disk.base.2.2.2
end
set_option maxRecDepth 100000 in
set_option maxHeartbeats 1000000 in
theorem done_ok (bp hp : Nat) (e : Nat) (av : Value) (b : ABook) (w : World) (h : w.heap[bp]? = some (bookO hp av b)) :
    Calls Tryz.prog 50 #[.pointer (some ⟨bp, 0, none⟩), .int .i64 (e : Int), .int .i64 (e : Int)] w fun ev w' => ev = .returned (.tuple #[.bool (decide (e = 0)), .bool true]) ∧ w' = w := by
  have c7 := blk_cell h 7
  simp at c7
  by_cases he : e = 0
  · subst he
    go_enter Tryz.func50, Tryz.ntmps50
    go_wp2
    go_ret2
    exact ⟨rfl, rfl⟩
  · have h1 : ((e : Int) == 0) = false := by simp; omega
    have h2 : ¬ ((e : Int) = 0) := by omega
    go_enter Tryz.func50, Tryz.ntmps50
    go_wp2
    all_goals go_ret2
    all_goals trace_state
    all_goals exact ⟨by simp [he], rfl⟩
end Go.Proofs.YtnnhihkeffljbaaGreatDoor
/- (*book).step: Force, Cut, and what does nothing. -/
namespace Go.Proofs.YtnnhihkeffljbaaGreatDoor
open Go.RowKit
open Sc

abbrev stepV (kd : Int) (txn : Nat) (sq nn : Int) (key s : ByteArray) (ao : Option Addr) (x y : Nat) (f1 f2 f3 f4 : Int) : Value := .agg #[.int .i64 kd, .int .u64 (txn : Int), .int .i64 sq, .int .i64 nn, .string key, .string s, .slice ao x y, .int .i64 f1, .int .i64 f2, .int .i64 f3, .int .i64 f4]
abbrev stepO (kd : Int) (txn : Nat) (sq nn : Int) (key s : ByteArray) (ao : Option Addr) (x y : Nat) (f1 f2 f3 f4 : Int) : Obj := .cells #[.int .i64 kd, .int .u64 (txn : Int), .int .i64 sq, .int .i64 nn, .string key, .string s, .slice ao x y, .int .i64 f1, .int .i64 f2, .int .i64 f3, .int .i64 f4] 55
/-- what stands behind a step -/
def StepPost (B bp hp lp p bD bN n t sz : Nat) (b : ABook) (w : World) (e : Ending) (w' : World) : Prop :=
  e = .returned (.bool true) ∧ (∃ av' b' l' d' fst' cs' t', BookIn w' B bp hp lp p bD bN av' b' l' d' n ∧ BookOk b' l' d' fst' cs' t' ∧ t' ≤ t + sz ∧ b'.all.length ≤ b.all.length + 1) ∧ Below B w w'
section
variable {w w' : World} {B bp hp lp p bD bN n n' : Nat} {av : Value} {b b' : ABook} {l l' : ALog} {d d' : ADisk}
theorem BookIn.ofrB (h : BookIn w B bp hp lp p bD bN av b l d n) (ho : OFr lp p w w') : Below B w w' := by
  obtain ⟨_, pv, sv, rv, nD, nN, hl⟩ := h.host
  exact ho.below hl
theorem BookIn.keepO (h : BookIn w B bp hp lp p bD bN av b l d n) (ho : OFr lp p w w') {q : Nat} {c : Array Value} {t : TypeId} {fr : Nat × Nat} (hq : w.heap[q]? = some (.cells c t fr)) (h1 : t ≠ 86) (h2 : t ≠ 107) (h3 : t ≠ 158) (h4 : t ≠ 33) (h5 : t ≠ 92) : w'.heap[q]? = some (.cells c t fr) := by
  obtain ⟨_, pv, sv, rv, nD, nN, hl⟩ := h.host
  exact (ho.block q (Array.getElem?_eq_some_iff.1 hq).1 (hl.free hq h1 h2 h3 h4 h5)).trans hq
theorem BookIn.mores (h : BookIn w B bp hp lp p bD bN av b l d n) {m : Nat} (hm : n ≤ m) (hm2 : m ≤ 67108864) : BookIn w B bp hp lp p bD bN av b l d m := by
  obtain ⟨hh, pv, sv, rv, nD, nN, hl⟩ := h.host
  exact ⟨⟨hh, pv, sv, rv, nD, nN, hl.mores hm hm2⟩, h.base, h.blk, h.all, h.sep, h.len, h.nums⟩
end
set_option maxRecDepth 100000 in
set_option maxHeartbeats 4000000 in
theorem step_force (B bp hp lp p bD bN n fst t txn x y : Nat) (sq nn : Int) (key s : ByteArray) (ao : Option Addr) (av : Value) (b : ABook) (l : ALog) (d : ADisk) (cs : List (List Rec)) (w : World) (h : BookIn w B bp hp lp p bD bN av b l d n) (hk : BookOk b l d fst cs t) (hB : 2 ≤ B) (hmet : Met w) (hn : n ≤ 67108864) :
    Calls Tryz.prog 25 #[.pointer (some ⟨bp, 0, none⟩), stepV 5 txn sq nn key s ao x y (-1) (-1) 0 0] w (StepPost B bp hp lp p bD bN n t 0 b w) := by
  obtain ⟨W, hW⟩ : ∃ W, W = w.alloc (stepO 5 txn sq nn key s ao x y (-1) (-1) 0 0) := ⟨_, rfl⟩
  have hf0 : Fr [] w W := by rw [hW]; exact (Fr.refl [] w).alloc _
  have hI := h.newB hf0
  have hs0 : W.heap[w.heap.size]? = some (stepO 5 txn sq nn key s ao x y (-1) (-1) 0 0) := by rw [hW]; exact heap_alloc_new w _
  have hb0 : Below B w W := hf0.below h.lowB (by simp)
  have hmet0 : Met W := hmet.below hb0 (by omega)
  obtain ⟨g1, g2⟩ := (hk.knob (-1) (-1)).force (knob_well hk.up) (by omega)
  have hal := own_sl hI.all
  obtain ⟨a0, am, ac, hav⟩ := hal
  have ham : am = b.all.length := by
    rcases hI.all.2 with ⟨e, h0⟩ | ⟨g, cap, cur, e, _⟩
    · rw [hav] at e; cases e; exact h0.symm
    · rw [hav] at e; cases e; rfl
  subst ham
  subst hav
  have hlen := hI.len
  have c0 := blk_cell hI.blk 0
  have c1 := blk_cell hI.blk 1
  have c2 := blk_cell hI.blk 2
  have c7 := blk_cell hI.blk 7
  have z0 := blk_cell hs0 0
  have z7 := blk_cell hs0 7
  have z8 := blk_cell hs0 8
  have z9 := blk_cell hs0 9
  have z10 := blk_cell hs0 10
  simp at c0 c1 c2 c7 z0 z7 z8 z9 z10
  rw [hW] at c0 c1 c2 c7 z0 z7 z8 z9 z10
  have hID : BookIn W.drew B bp hp lp p bD bN (.slice a0 b.all.length ac) b l d n := hI.newB ((Fr.refl [] W).drew)
  have hsD : W.drew.heap[w.heap.size]? = some (stepO 5 txn sq nn key s ao x y (-1) (-1) 0 0) := hs0
  have HI : Hid (BookIn W.drew B bp hp lp p bD bN (.slice a0 b.all.length ac) b l d n ∧ Below B w W.drew ∧ Met W.drew ∧ W.drew.heap[w.heap.size]? = some (stepO 5 txn sq nn key s ao x y (-1) (-1) 0 0)) := ⟨hID, hb0.drew, hmet0, hsD⟩
  obtain ⟨m, hm⟩ : ∃ m, m = b.all.length := ⟨_, rfl⟩
  rw [← hm] at c1 hlen
  have HG : Hid (((l.force (d.knob (-1) (-1))).2.2 = 0 ∧ BookOk { b with forced := b.all.length } (l.force (d.knob (-1) (-1))).1 (l.force (d.knob (-1) (-1))).2.1 fst cs t) ∧ m = b.all.length) := ⟨⟨g1, g2⟩, hm⟩
  clear hf0 hI hs0 hb0 h hmet hmet0 g1 g2 hk hm hID hsD
  go_enter Tryz.func25, Tryz.ntmps25
  go_wp2_with fail
  rw [← hW]
  rw [← hW] at c0 c1 c2 c7 z0 z7 z8 z9 z10
  clear hW
  go_region_held3 (fun w' => w'.cell? ⟨bp, 0, none⟩ = some (.pointer (some ⟨hp, 0, none⟩)) ∧ w'.cell? ⟨w.heap.size, 7, none⟩ = some (.int .i64 (-1)) ∧ w'.cell? ⟨w.heap.size, 8, none⟩ = some (.int .i64 (-1)) ∧ w'.cell? ⟨w.heap.size, 9, none⟩ = some (.int .i64 0) ∧ w'.cell? ⟨w.heap.size, 10, none⟩ = some (.int .i64 0))
    (simp [*])
    (first | (go_at_call 51; refine (hForce B hp lp p bD bN n l d (-1) (-1) 0 0 W.drew HI.out.1.host hB HI.out.2.2.1 hn HG.out.1.2.up).mono ?_; rintro e w2 ⟨rfl, hh2, ho2⟩; have hI2 := HI.out.1.afterHost hh2 ho2; have hs2 := HI.out.1.keepO ho2 HI.out.2.2.2 (by decide) (by decide) (by decide) (by decide) (by decide); have k0 := blk_cell hI2.blk 0; have k1 := blk_cell hI2.blk 1; have k2 := blk_cell hI2.blk 2; have k7 := blk_cell hI2.blk 7; have f2 := blk_free hI2.blk 2; have y7 := blk_cell hs2 7; have y8 := blk_cell hs2 8; have y9 := blk_cell hs2 9; have y10 := blk_cell hs2 10; simp at k0 k1 k2 k7 y7 y8 y9 y10; have H2 : Hid (BookIn w2 B bp hp lp p bD bN (.slice a0 b.all.length ac) b (l.force (d.knob (-1) (-1))).1 ((l.force (d.knob (-1) (-1))).2.1.knob (-1) (-1)) n ∧ OFr lp p W.drew w2) := ⟨hI2, ho2⟩; clear hI2 ho2 hh2 hs2))
  rw [HG.out.1.1]
  have hdone : Calls Tryz.prog 50 #[.pointer (some ⟨bp, 0, none⟩), .int .i64 0, .int .i64 0] w2 fun ev w' => ev = .returned (.tuple #[.bool true, .bool true]) ∧ w' = w2 := by
    have := done_ok bp hp 0 _ b w2 H2.out.1.blk
    simpa using this
  have HD : Hid (Calls Tryz.prog 50 #[.pointer (some ⟨bp, 0, none⟩), .int .i64 0, .int .i64 0] w2 fun ev w' => ev = .returned (.tuple #[.bool true, .bool true]) ∧ w' = w2) := hdone
  clear hdone y7 y8 y9 y10 c0 c1 c2 c7 z0 z7 z8 z9 z10
  rw [← HG.out.2] at k1
  go_wp2_with fail
  refine HD.out.mono ?_
  rintro e w3 ⟨rfl, rfl⟩
  go_wp2
  go_ret
  obtain ⟨WF, hWF⟩ : ∃ WF, WF = w3.setCell ⟨bp, 2, none⟩ (.int .i64 (m : Int)) := ⟨_, rfl⟩
  have hf : Fr [bp] w3 WF := by rw [hWF]; exact Fr.set1 (by simp) _ _
  have hb : WF.heap[bp]? = some (bookO hp (.slice a0 b.all.length ac) { b with forced := b.all.length }) := by
    rw [hWF]; have := blk_set H2.out.1.blk 2 (.int .i64 (m : Int)); rw [HG.out.2] at this ⊢; simp at this ⊢; exact this
  have hB2 := H2.out.1.setB hf hb rfl ⟨by have := H2.out.1.len; exact this, H2.out.1.nums.2⟩
  rw [← hWF]
  exact ⟨rfl, ⟨_, _, _, _, _, _, t, hB2, HG.out.1.2.knob (-1) (-1), by omega, by simp⟩, (HI.out.2.1.trans (HI.out.1.ofrB H2.out.2)).trans (hf.below H2.out.1.lowB (by intro k hk; simp at hk; rw [hk]; exact H2.out.1.base.1))⟩
end Go.Proofs.YtnnhihkeffljbaaGreatDoor
/- (*book).step: Cut, and what does nothing. -/
namespace Go.Proofs.YtnnhihkeffljbaaGreatDoor
open Go.RowKit
open Sc

set_option maxRecDepth 100000 in
set_option maxHeartbeats 4000000 in
theorem step_none (B bp hp lp p bD bN n fst t txn x y : Nat) (kd sq nn : Int) (key s : ByteArray) (ao : Option Addr) (av : Value) (b : ABook) (l : ALog) (d : ADisk) (cs : List (List Rec)) (w : World) (h : BookIn w B bp hp lp p bD bN av b l d n) (hk : BookOk b l d fst cs t) (hkd : kd ≠ 4 ∧ kd ≠ 5 ∧ kd ≠ 6) :
    Calls Tryz.prog 25 #[.pointer (some ⟨bp, 0, none⟩), stepV kd txn sq nn key s ao x y (-1) (-1) 0 0] w (StepPost B bp hp lp p bD bN n t 0 b w) := by
  obtain ⟨W, hW⟩ : ∃ W, W = w.alloc (stepO kd txn sq nn key s ao x y (-1) (-1) 0 0) := ⟨_, rfl⟩
  have hf0 : Fr [] w W := by rw [hW]; exact (Fr.refl [] w).alloc _
  have hI := h.newB hf0
  have hs0 : W.heap[w.heap.size]? = some (stepO kd txn sq nn key s ao x y (-1) (-1) 0 0) := by rw [hW]; exact heap_alloc_new w _
  have hb0 : Below B w W := hf0.below h.lowB (by simp)
  have hal := own_sl hI.all
  obtain ⟨a0, am, ac, hav⟩ := hal
  have ham : am = b.all.length := by
    rcases hI.all.2 with ⟨e, h0⟩ | ⟨g, cap, cur, e, _⟩
    · rw [hav] at e; cases e; exact h0.symm
    · rw [hav] at e; cases e; rfl
  subst ham
  subst hav
  have hlen := hI.len
  have c1 := blk_cell hI.blk 1
  have z0 := blk_cell hs0 0
  simp at c1 z0
  rw [hW] at c1 z0
  have HI : Hid (BookIn W B bp hp lp p bD bN (.slice a0 b.all.length ac) b l d n ∧ Below B w W ∧ BookOk b l d fst cs t) := ⟨hI, hb0, hk⟩
  obtain ⟨m, hm⟩ : ∃ m, m = b.all.length := ⟨_, rfl⟩
  rw [← hm] at c1 hlen
  have k4 : (kd == 4) = false := by simpa using hkd.1
  have k5 : (kd == 5) = false := by simpa using hkd.2.1
  have k6 : (kd == 6) = false := by simpa using hkd.2.2
  obtain ⟨n4, n5, n6⟩ := hkd
  clear hf0 hI hs0 hb0 h hk hm
  go_enter Tryz.func25, Tryz.ntmps25
  go_wp2
  go_ret
  rw [← hW]
  exact ⟨rfl, ⟨_, _, _, _, _, _, t, HI.out.1, HI.out.2.2, by omega, by omega⟩, HI.out.2.1⟩
end Go.Proofs.YtnnhihkeffljbaaGreatDoor
/- (*book).step: Cut. (Written by mkstep.py.) -/
namespace Go.Proofs.YtnnhihkeffljbaaGreatDoor
open Go.RowKit
open Sc

set_option maxRecDepth 100000 in
set_option maxHeartbeats 8000000 in
theorem step_cut_00 (B bp hp lp p bD bN n fst t txn x y : Nat) (sq nn : Int) (key s : ByteArray) (ao : Option Addr) (av : Value) (b : ABook) (l : ALog) (d : ADisk) (cs : List (List Rec)) (w : World) (h : BookIn w B bp hp lp p bD bN av b l d n) (hk : BookOk b l d fst cs t) (hB : 2 ≤ B) (hmet : Met w) (hpow : Pows w) (hn : n + 600 ≤ 67108864) (ht : t ≤ 300000) (Lw m : Nat) (hLw : Lw < 18446744073709551616) (hwr : IntKind.u64.wrap ((m : Int) + 1 - IntKind.u64.wrap sq) = (Lw : Int)) (hm : m = b.all.length)
    (hA : ¬ (m : Int) + 1 < (Lw : Int)) (hT : ¬ (b.tries : Int) < (Lw : Int)) :
    Calls Tryz.prog 25 #[.pointer (some ⟨bp, 0, none⟩), stepV 6 txn sq nn key s ao x y (-1) (-1) 0 0] w (StepPost B bp hp lp p bD bN (n + 600) t 0 b w) := by
  have hal := own_sl h.all
  obtain ⟨a0, am, ac, hav⟩ := hal
  have ham : am = b.all.length := by
    rcases h.all.2 with ⟨e, h0⟩ | ⟨g, cap, cur, e, _⟩
    · rw [hav] at e; cases e; exact h0.symm
    · rw [hav] at e; cases e; rfl
  subst ham
  subst hav
  obtain ⟨W, hW⟩ : ∃ W, W = w.alloc (stepO 6 txn sq nn key s ao x y (-1) (-1) 0 0) := ⟨_, rfl⟩
  have hf0 : Fr [] w W := by rw [hW]; exact (Fr.refl [] w).alloc _
  have hI := h.newB hf0
  have hs0 : W.heap[w.heap.size]? = some (stepO 6 txn sq nn key s ao x y (-1) (-1) 0 0) := by rw [hW]; exact heap_alloc_new w _
  have hlen := hI.len
  have hbpl := (Array.getElem?_eq_some_iff.1 h.blk).1
  have c0 := blk_cell hI.blk 0
  have c1 := blk_cell hI.blk 1
  have c5 := blk_cell hI.blk 5
  have f5 := blk_free hI.blk 5
  have z0 := blk_cell hs0 0
  have z2 := blk_cell hs0 2
  have z7 := blk_cell hs0 7
  have z8 := blk_cell hs0 8
  have z9 := blk_cell hs0 9
  have z10 := blk_cell hs0 10
  simp at c0 c1 c5 z0 z2 z7 z8 z9 z10
  rw [hW] at c0 c1 c5 f5 z0 z2 z7 z8 z9 z10
  clear hW hf0 hI hs0
  rw [← hm] at c1 hlen
  have hcut := (hk.knob (-1) (-1)).cut (knob_well hk.up) (by have := hk.segsLen; omega) Lw Lw (by omega) (by omega) (by omega) (by omega)
  have hseg : l.segs.length ≤ 501 := by have := hk.segsLen; omega
  obtain ⟨b1, hb1⟩ : ∃ b1 : ABook, b1 = { b with tries := if b.tries < Lw then Lw else b.tries } := ⟨_, rfl⟩
  obtain ⟨w0, hw0⟩ : ∃ w0, w0 = w := ⟨_, rfl⟩
  have hf1 : Fr [bp] w w0 := by rw [hw0]; exact Fr.refl _ _
  have hsz : w0.heap.size = w.heap.size := by rw [hw0]
  have hblk1 : w0.heap[bp]? = some (bookO hp (.slice a0 b.all.length ac) b1) := by
    rw [hw0, hb1, if_neg (by omega)]; exact h.blk
  have hI0 : BookIn w0 B bp hp lp p bD bN (.slice a0 b.all.length ac) b1 l d n := h.setB hf1 hblk1 (by rw [hb1]) (by rw [hb1]; have := h.nums; refine ⟨this.1, this.2.1, this.2.2.1, ?_⟩; simp only; split <;> omega)
  have hbl0 : Below B w w0 := hf1.below h.lowB (by intro k hk; simp at hk; rw [hk]; exact h.base.1)
  obtain ⟨W1, hW1⟩ : ∃ W1, W1 = w0.alloc (stepO 6 txn sq nn key s ao x y (-1) (-1) 0 0) := ⟨_, rfl⟩
  have hf2 : Fr [] w0 W1 := by rw [hW1]; exact (Fr.refl [] w0).alloc _
  have hI1 := hI0.newB hf2
  have hs1 : W1.heap[w.heap.size]? = some (stepO 6 txn sq nn key s ao x y (-1) (-1) 0 0) := by rw [← hsz, hW1]; exact heap_alloc_new w0 _
  have hbl1 : Below B w W1 := hbl0.trans (hf2.below hI0.lowB (by simp))
  have hmet1 : Met W1 := hmet.below hbl1 (by omega)
  have hpow1 : Pows W1 := hpow.of_block (hbl1.block 1 (by omega))
  have hID : BookIn W1.drew B bp hp lp p bD bN (.slice a0 b.all.length ac) b1 l d n := hI1.newB ((Fr.refl [] W1).drew)
  have hsD : W1.drew.heap[w.heap.size]? = some (stepO 6 txn sq nn key s ao x y (-1) (-1) 0 0) := hs1
  have HI : Hid (BookIn W1.drew B bp hp lp p bD bN (.slice a0 b.all.length ac) b1 l d n ∧ Below B w W1.drew ∧ Met W1.drew ∧ W1.drew.heap[w.heap.size]? = some (stepO 6 txn sq nn key s ao x y (-1) (-1) 0 0) ∧ Pows W1.drew) := ⟨hID, hbl1.drew, hmet1, hsD, hpow1⟩
  have HG : Hid (((l.cut (d.knob (-1) (-1)) Lw).2.2 = 0 ∧ (l.cut (d.knob (-1) (-1)) Lw).2.1.down = false ∧ ∃ fst' cs', BookOk (b.cut Lw) (l.cut (d.knob (-1) (-1)) Lw).1 (l.cut (d.knob (-1) (-1)) Lw).2.1 fst' cs' t) ∧ m = b.all.length ∧ b1 = { b with tries := if b.tries < Lw then Lw else b.tries } ∧ n + 2 + l.segs.length ≤ n + 600) := ⟨⟨hcut.1, by obtain ⟨_, _, q⟩ := hcut.2; exact q.up, hcut.2⟩, hm, hb1, by omega⟩
  have hinv := fun (_ : l.failed = 0) => hk.log.hinv
  have HV : Hid (l.failed = 0 → ∀ k s : Nat, l.segs[k]? = some s → ∃ r rs, l.recs = r :: rs ∧ r.lsn ≤ s ∧ s - r.lsn < l.recs.length) := hinv
  have d0 := blk_cell hI1.blk 0
  have y7 := blk_cell hs1 7
  have y8 := blk_cell hs1 8
  have y9 := blk_cell hs1 9
  have y10 := blk_cell hs1 10
  simp at d0 y7 y8 y9 y10
  have e1 : b1.low = b.low := by rw [hb1]
  have e2 : b1.must = b.must := by rw [hb1]
  have HE : Hid (b1.low = b.low ∧ b1.must = b.must) := ⟨e1, e2⟩
  clear h hmet hcut hk hm hID hsD hpow hf1 hblk1 hI0 hI1 hs1 hbl0 hbl1 hmet1 hpow1 hinv hb1 hf2 hsz e1 e2 hseg
  rw [hw0] at hW1
  clear hw0
  go_enter Tryz.func25, Tryz.ntmps25
  go_wp2_with fail
  rw [← hW1]
  clear hW1 c0 c1 c5 f5 z0 z2 z7 z8 z9 z10
  go_region_held3 (fun w' => w'.cell? ⟨bp, 0, none⟩ = some (.pointer (some ⟨hp, 0, none⟩)) ∧ w'.cell? ⟨w.heap.size, 7, none⟩ = some (.int .i64 (-1)) ∧ w'.cell? ⟨w.heap.size, 8, none⟩ = some (.int .i64 (-1)) ∧ w'.cell? ⟨w.heap.size, 9, none⟩ = some (.int .i64 0) ∧ w'.cell? ⟨w.heap.size, 10, none⟩ = some (.int .i64 0))
    (simp [*])
    (first | (go_at_call 52; refine (hCut B hp lp p bD bN n Lw l d (-1) (-1) 0 0 W1.drew HI.out.1.host hB HI.out.2.2.1 (by have := HG.out.2.2.2; omega) HI.out.2.2.2.2 HV.out HG.out.1.2.1).mono ?_; rintro e w2 ⟨rfl, hh2, ho2⟩; have hI2 := HI.out.1.afterHost hh2 ho2; have hs2 := HI.out.1.keepO ho2 HI.out.2.2.2.1 (by decide) (by decide) (by decide) (by decide) (by decide); have k0 := blk_cell hI2.blk 0; have k1 := blk_cell hI2.blk 1; have k2 := blk_cell hI2.blk 2; have k3 := blk_cell hI2.blk 3; have k4 := blk_cell hI2.blk 4; have k7 := blk_cell hI2.blk 7; have f2 := blk_free hI2.blk 2; have f3 := blk_free hI2.blk 3; have f4 := blk_free hI2.blk 4; have v7 := blk_cell hs2 7; have v8 := blk_cell hs2 8; have v9 := blk_cell hs2 9; have v10 := blk_cell hs2 10; simp at k0 k1 k2 k3 k4 k7 v7 v8 v9 v10; have H2 : Hid (BookIn w2 B bp hp lp p bD bN (.slice a0 b.all.length ac) b1 (l.cut (d.knob (-1) (-1)) Lw).1 ((l.cut (d.knob (-1) (-1)) Lw).2.1.knob (-1) (-1)) (n + 2 + l.segs.length) ∧ OFr lp p W1.drew w2) := ⟨hI2, ho2⟩; clear hI2 ho2 hh2 hs2))
  rw [HG.out.1.1]
  have hdone : Calls Tryz.prog 50 #[.pointer (some ⟨bp, 0, none⟩), .int .i64 0, .int .i64 0] w2 fun ev w' => ev = .returned (.tuple #[.bool true, .bool true]) ∧ w' = w2 := by
    have := done_ok bp hp 0 _ b1 w2 H2.out.1.blk
    simpa using this
  have HD : Hid (Calls Tryz.prog 50 #[.pointer (some ⟨bp, 0, none⟩), .int .i64 0, .int .i64 0] w2 fun ev w' => ev = .returned (.tuple #[.bool true, .bool true]) ∧ w' = w2) := hdone
  have HS : Hid (∀ (WF : World) (b2 : ABook), Fr [bp] w2 WF → WF.heap[bp]? = some (bookO hp (.slice a0 b.all.length ac) b2) → b2 = b.cut Lw → StepPost B bp hp lp p bD bN (n + 600) t 0 b w (.returned (.bool true)) WF) := fun WF b2 hf hb he => by
    subst he
    have hB2 := H2.out.1.setB hf hb (by rw [HG.out.2.2.1]; rfl) (by have q := H2.out.1.len; have q2 := H2.out.1.nums; rw [HG.out.2.2.1] at q q2; simp only at q q2; have q3 := HG.out.2.1; refine ⟨q, ?_, ?_, ?_⟩ <;> (simp only [ABook.cut]; split <;> (try split at q2) <;> omega))
    obtain ⟨_, _, fst', cs', hbk⟩ := HG.out.1
    exact ⟨rfl, ⟨_, _, _, _, _, _, t, hB2.mores HG.out.2.2.2 (by omega), hbk.knob (-1) (-1), by omega, by simp [ABook.cut]⟩, (HI.out.2.1.trans (HI.out.1.ofrB H2.out.2)).trans (hf.below H2.out.1.lowB (by intro k hk; simp at hk; rw [hk]; exact H2.out.1.base.1))⟩
  clear hdone v7 v8 v9 v10 d0 y7 y8 y9 y10
  rw [← HG.out.2.1] at k1
  rw [HE.out.1] at k3
  rw [HE.out.2] at k4
  clear hA hT hwr
  have hLL : (b.low : Int) < (Lw : Int) ∨ ¬ (b.low : Int) < (Lw : Int) := by omega
  have hMM : (b.must : Int) < (Lw : Int) ∨ ¬ (b.must : Int) < (Lw : Int) := by omega
  rcases hLL with hL0 | hL0
  · have hL : b.low < Lw := by omega
    rcases hMM with hM0 | hM0
    · have hM : b.must < Lw := by omega
      go_wp2_with fail
      refine HD.out.mono ?_
      rintro e w3 ⟨rfl, rfl⟩
      go_wp2
      go_ret
      refine HS.out _ ⟨b.all, b.all.length, Lw, Lw, if b.tries < Lw then Lw else b.tries⟩ (((Fr.set1 (by simp) _ _).trans (Fr.set1 (by simp) _ _)).trans (Fr.set1 (by simp) _ _)) ?_ (by simp only [ABook.cut]; rw [if_pos hL, if_pos hM])
      have := blk_set (blk_set (blk_set H2.out.1.blk 2 (.int .i64 (m : Int))) 3 (.int .u64 (Lw : Int))) 4 (.int .u64 (Lw : Int))
      rw [HG.out.2.2.1] at this
      rw [HG.out.2.1] at this ⊢
      simp at this ⊢
      exact this
    · have hM : ¬ b.must < Lw := by omega
      go_wp2_with fail
      refine HD.out.mono ?_
      rintro e w3 ⟨rfl, rfl⟩
      go_wp2
      go_ret
      refine HS.out _ ⟨b.all, b.all.length, Lw, b.must, if b.tries < Lw then Lw else b.tries⟩ ((Fr.set1 (by simp) _ _).trans (Fr.set1 (by simp) _ _)) ?_ (by simp only [ABook.cut]; rw [if_pos hL, if_neg hM])
      have := blk_set (blk_set H2.out.1.blk 2 (.int .i64 (m : Int))) 3 (.int .u64 (Lw : Int))
      rw [HG.out.2.2.1] at this
      rw [HG.out.2.1] at this ⊢
      simp at this ⊢
      exact this
  · have hL : ¬ b.low < Lw := by omega
    rcases hMM with hM0 | hM0
    · have hM : b.must < Lw := by omega
      go_wp2_with fail
      refine HD.out.mono ?_
      rintro e w3 ⟨rfl, rfl⟩
      go_wp2
      go_ret
      refine HS.out _ ⟨b.all, b.all.length, b.low, Lw, if b.tries < Lw then Lw else b.tries⟩ ((Fr.set1 (by simp) _ _).trans (Fr.set1 (by simp) _ _)) ?_ (by simp only [ABook.cut]; rw [if_neg hL, if_pos hM])
      have := blk_set (blk_set H2.out.1.blk 2 (.int .i64 (m : Int))) 4 (.int .u64 (Lw : Int))
      rw [HG.out.2.2.1] at this
      rw [HG.out.2.1] at this ⊢
      simp at this ⊢
      exact this
    · have hM : ¬ b.must < Lw := by omega
      go_wp2_with fail
      refine HD.out.mono ?_
      rintro e w3 ⟨rfl, rfl⟩
      go_wp2
      go_ret
      refine HS.out _ ⟨b.all, b.all.length, b.low, b.must, if b.tries < Lw then Lw else b.tries⟩ (Fr.set1 (by simp) _ _) ?_ (by simp only [ABook.cut]; rw [if_neg hL, if_neg hM])
      have := blk_set H2.out.1.blk 2 (.int .i64 (m : Int))
      rw [HG.out.2.2.1] at this
      rw [HG.out.2.1] at this ⊢
      simp at this ⊢
      exact this
end Go.Proofs.YtnnhihkeffljbaaGreatDoor
/- (*book).step: Cut. (Written by mkstep.py.) -/
namespace Go.Proofs.YtnnhihkeffljbaaGreatDoor
open Go.RowKit
open Sc

set_option maxRecDepth 100000 in
set_option maxHeartbeats 8000000 in
theorem step_cut_01 (B bp hp lp p bD bN n fst t txn x y : Nat) (sq nn : Int) (key s : ByteArray) (ao : Option Addr) (av : Value) (b : ABook) (l : ALog) (d : ADisk) (cs : List (List Rec)) (w : World) (h : BookIn w B bp hp lp p bD bN av b l d n) (hk : BookOk b l d fst cs t) (hB : 2 ≤ B) (hmet : Met w) (hpow : Pows w) (hn : n + 600 ≤ 67108864) (ht : t ≤ 300000) (Lw m : Nat) (hLw : Lw < 18446744073709551616) (hwr : IntKind.u64.wrap ((m : Int) + 1 - IntKind.u64.wrap sq) = (Lw : Int)) (hm : m = b.all.length)
    (hA : ¬ (m : Int) + 1 < (Lw : Int)) (hT : (b.tries : Int) < (Lw : Int)) :
    Calls Tryz.prog 25 #[.pointer (some ⟨bp, 0, none⟩), stepV 6 txn sq nn key s ao x y (-1) (-1) 0 0] w (StepPost B bp hp lp p bD bN (n + 600) t 0 b w) := by
  have hal := own_sl h.all
  obtain ⟨a0, am, ac, hav⟩ := hal
  have ham : am = b.all.length := by
    rcases h.all.2 with ⟨e, h0⟩ | ⟨g, cap, cur, e, _⟩
    · rw [hav] at e; cases e; exact h0.symm
    · rw [hav] at e; cases e; rfl
  subst ham
  subst hav
  obtain ⟨W, hW⟩ : ∃ W, W = w.alloc (stepO 6 txn sq nn key s ao x y (-1) (-1) 0 0) := ⟨_, rfl⟩
  have hf0 : Fr [] w W := by rw [hW]; exact (Fr.refl [] w).alloc _
  have hI := h.newB hf0
  have hs0 : W.heap[w.heap.size]? = some (stepO 6 txn sq nn key s ao x y (-1) (-1) 0 0) := by rw [hW]; exact heap_alloc_new w _
  have hlen := hI.len
  have hbpl := (Array.getElem?_eq_some_iff.1 h.blk).1
  have c0 := blk_cell hI.blk 0
  have c1 := blk_cell hI.blk 1
  have c5 := blk_cell hI.blk 5
  have f5 := blk_free hI.blk 5
  have z0 := blk_cell hs0 0
  have z2 := blk_cell hs0 2
  have z7 := blk_cell hs0 7
  have z8 := blk_cell hs0 8
  have z9 := blk_cell hs0 9
  have z10 := blk_cell hs0 10
  simp at c0 c1 c5 z0 z2 z7 z8 z9 z10
  rw [hW] at c0 c1 c5 f5 z0 z2 z7 z8 z9 z10
  clear hW hf0 hI hs0
  rw [← hm] at c1 hlen
  have hcut := (hk.knob (-1) (-1)).cut (knob_well hk.up) (by have := hk.segsLen; omega) Lw Lw (by omega) (by omega) (by omega) (by omega)
  have hseg : l.segs.length ≤ 501 := by have := hk.segsLen; omega
  obtain ⟨b1, hb1⟩ : ∃ b1 : ABook, b1 = { b with tries := if b.tries < Lw then Lw else b.tries } := ⟨_, rfl⟩
  obtain ⟨w0, hw0⟩ : ∃ w0, w0 = w.setCell ⟨bp, 5, none⟩ (.int .u64 (Lw : Int)) := ⟨_, rfl⟩
  have hf1 : Fr [bp] w w0 := by rw [hw0]; exact Fr.set1 (by simp) _ _
  have hsz : w0.heap.size = w.heap.size := by rw [hw0]; simp
  have hblk1 : w0.heap[bp]? = some (bookO hp (.slice a0 b.all.length ac) b1) := by
    rw [hw0, hb1, if_pos (by omega)]; have := blk_set h.blk 5 (.int .u64 (Lw : Int)); simp at this ⊢; exact this
  have hI0 : BookIn w0 B bp hp lp p bD bN (.slice a0 b.all.length ac) b1 l d n := h.setB hf1 hblk1 (by rw [hb1]) (by rw [hb1]; have := h.nums; refine ⟨this.1, this.2.1, this.2.2.1, ?_⟩; simp only; split <;> omega)
  have hbl0 : Below B w w0 := hf1.below h.lowB (by intro k hk; simp at hk; rw [hk]; exact h.base.1)
  obtain ⟨W1, hW1⟩ : ∃ W1, W1 = w0.alloc (stepO 6 txn sq nn key s ao x y (-1) (-1) 0 0) := ⟨_, rfl⟩
  have hf2 : Fr [] w0 W1 := by rw [hW1]; exact (Fr.refl [] w0).alloc _
  have hI1 := hI0.newB hf2
  have hs1 : W1.heap[w.heap.size]? = some (stepO 6 txn sq nn key s ao x y (-1) (-1) 0 0) := by rw [← hsz, hW1]; exact heap_alloc_new w0 _
  have hbl1 : Below B w W1 := hbl0.trans (hf2.below hI0.lowB (by simp))
  have hmet1 : Met W1 := hmet.below hbl1 (by omega)
  have hpow1 : Pows W1 := hpow.of_block (hbl1.block 1 (by omega))
  have hID : BookIn W1.drew B bp hp lp p bD bN (.slice a0 b.all.length ac) b1 l d n := hI1.newB ((Fr.refl [] W1).drew)
  have hsD : W1.drew.heap[w.heap.size]? = some (stepO 6 txn sq nn key s ao x y (-1) (-1) 0 0) := hs1
  have HI : Hid (BookIn W1.drew B bp hp lp p bD bN (.slice a0 b.all.length ac) b1 l d n ∧ Below B w W1.drew ∧ Met W1.drew ∧ W1.drew.heap[w.heap.size]? = some (stepO 6 txn sq nn key s ao x y (-1) (-1) 0 0) ∧ Pows W1.drew) := ⟨hID, hbl1.drew, hmet1, hsD, hpow1⟩
  have HG : Hid (((l.cut (d.knob (-1) (-1)) Lw).2.2 = 0 ∧ (l.cut (d.knob (-1) (-1)) Lw).2.1.down = false ∧ ∃ fst' cs', BookOk (b.cut Lw) (l.cut (d.knob (-1) (-1)) Lw).1 (l.cut (d.knob (-1) (-1)) Lw).2.1 fst' cs' t) ∧ m = b.all.length ∧ b1 = { b with tries := if b.tries < Lw then Lw else b.tries } ∧ n + 2 + l.segs.length ≤ n + 600) := ⟨⟨hcut.1, by obtain ⟨_, _, q⟩ := hcut.2; exact q.up, hcut.2⟩, hm, hb1, by omega⟩
  have hinv := fun (_ : l.failed = 0) => hk.log.hinv
  have HV : Hid (l.failed = 0 → ∀ k s : Nat, l.segs[k]? = some s → ∃ r rs, l.recs = r :: rs ∧ r.lsn ≤ s ∧ s - r.lsn < l.recs.length) := hinv
  have d0 := blk_cell hI1.blk 0
  have y7 := blk_cell hs1 7
  have y8 := blk_cell hs1 8
  have y9 := blk_cell hs1 9
  have y10 := blk_cell hs1 10
  simp at d0 y7 y8 y9 y10
  have e1 : b1.low = b.low := by rw [hb1]
  have e2 : b1.must = b.must := by rw [hb1]
  have HE : Hid (b1.low = b.low ∧ b1.must = b.must) := ⟨e1, e2⟩
  clear h hmet hcut hk hm hID hsD hpow hf1 hblk1 hI0 hI1 hs1 hbl0 hbl1 hmet1 hpow1 hinv hb1 hf2 hsz e1 e2 hseg
  rw [hw0] at hW1
  clear hw0
  go_enter Tryz.func25, Tryz.ntmps25
  go_wp2_with fail
  rw [← hW1]
  clear hW1 c0 c1 c5 f5 z0 z2 z7 z8 z9 z10
  go_region_held3 (fun w' => w'.cell? ⟨bp, 0, none⟩ = some (.pointer (some ⟨hp, 0, none⟩)) ∧ w'.cell? ⟨w.heap.size, 7, none⟩ = some (.int .i64 (-1)) ∧ w'.cell? ⟨w.heap.size, 8, none⟩ = some (.int .i64 (-1)) ∧ w'.cell? ⟨w.heap.size, 9, none⟩ = some (.int .i64 0) ∧ w'.cell? ⟨w.heap.size, 10, none⟩ = some (.int .i64 0))
    (simp [*])
    (first | (go_at_call 52; refine (hCut B hp lp p bD bN n Lw l d (-1) (-1) 0 0 W1.drew HI.out.1.host hB HI.out.2.2.1 (by have := HG.out.2.2.2; omega) HI.out.2.2.2.2 HV.out HG.out.1.2.1).mono ?_; rintro e w2 ⟨rfl, hh2, ho2⟩; have hI2 := HI.out.1.afterHost hh2 ho2; have hs2 := HI.out.1.keepO ho2 HI.out.2.2.2.1 (by decide) (by decide) (by decide) (by decide) (by decide); have k0 := blk_cell hI2.blk 0; have k1 := blk_cell hI2.blk 1; have k2 := blk_cell hI2.blk 2; have k3 := blk_cell hI2.blk 3; have k4 := blk_cell hI2.blk 4; have k7 := blk_cell hI2.blk 7; have f2 := blk_free hI2.blk 2; have f3 := blk_free hI2.blk 3; have f4 := blk_free hI2.blk 4; have v7 := blk_cell hs2 7; have v8 := blk_cell hs2 8; have v9 := blk_cell hs2 9; have v10 := blk_cell hs2 10; simp at k0 k1 k2 k3 k4 k7 v7 v8 v9 v10; have H2 : Hid (BookIn w2 B bp hp lp p bD bN (.slice a0 b.all.length ac) b1 (l.cut (d.knob (-1) (-1)) Lw).1 ((l.cut (d.knob (-1) (-1)) Lw).2.1.knob (-1) (-1)) (n + 2 + l.segs.length) ∧ OFr lp p W1.drew w2) := ⟨hI2, ho2⟩; clear hI2 ho2 hh2 hs2))
  rw [HG.out.1.1]
  have hdone : Calls Tryz.prog 50 #[.pointer (some ⟨bp, 0, none⟩), .int .i64 0, .int .i64 0] w2 fun ev w' => ev = .returned (.tuple #[.bool true, .bool true]) ∧ w' = w2 := by
    have := done_ok bp hp 0 _ b1 w2 H2.out.1.blk
    simpa using this
  have HD : Hid (Calls Tryz.prog 50 #[.pointer (some ⟨bp, 0, none⟩), .int .i64 0, .int .i64 0] w2 fun ev w' => ev = .returned (.tuple #[.bool true, .bool true]) ∧ w' = w2) := hdone
  have HS : Hid (∀ (WF : World) (b2 : ABook), Fr [bp] w2 WF → WF.heap[bp]? = some (bookO hp (.slice a0 b.all.length ac) b2) → b2 = b.cut Lw → StepPost B bp hp lp p bD bN (n + 600) t 0 b w (.returned (.bool true)) WF) := fun WF b2 hf hb he => by
    subst he
    have hB2 := H2.out.1.setB hf hb (by rw [HG.out.2.2.1]; rfl) (by have q := H2.out.1.len; have q2 := H2.out.1.nums; rw [HG.out.2.2.1] at q q2; simp only at q q2; have q3 := HG.out.2.1; refine ⟨q, ?_, ?_, ?_⟩ <;> (simp only [ABook.cut]; split <;> (try split at q2) <;> omega))
    obtain ⟨_, _, fst', cs', hbk⟩ := HG.out.1
    exact ⟨rfl, ⟨_, _, _, _, _, _, t, hB2.mores HG.out.2.2.2 (by omega), hbk.knob (-1) (-1), by omega, by simp [ABook.cut]⟩, (HI.out.2.1.trans (HI.out.1.ofrB H2.out.2)).trans (hf.below H2.out.1.lowB (by intro k hk; simp at hk; rw [hk]; exact H2.out.1.base.1))⟩
  clear hdone v7 v8 v9 v10 d0 y7 y8 y9 y10
  rw [← HG.out.2.1] at k1
  rw [HE.out.1] at k3
  rw [HE.out.2] at k4
  clear hA hT hwr
  have hLL : (b.low : Int) < (Lw : Int) ∨ ¬ (b.low : Int) < (Lw : Int) := by omega
  have hMM : (b.must : Int) < (Lw : Int) ∨ ¬ (b.must : Int) < (Lw : Int) := by omega
  rcases hLL with hL0 | hL0
  · have hL : b.low < Lw := by omega
    rcases hMM with hM0 | hM0
    · have hM : b.must < Lw := by omega
      go_wp2_with fail
      refine HD.out.mono ?_
      rintro e w3 ⟨rfl, rfl⟩
      go_wp2
      go_ret
      refine HS.out _ ⟨b.all, b.all.length, Lw, Lw, if b.tries < Lw then Lw else b.tries⟩ (((Fr.set1 (by simp) _ _).trans (Fr.set1 (by simp) _ _)).trans (Fr.set1 (by simp) _ _)) ?_ (by simp only [ABook.cut]; rw [if_pos hL, if_pos hM])
      have := blk_set (blk_set (blk_set H2.out.1.blk 2 (.int .i64 (m : Int))) 3 (.int .u64 (Lw : Int))) 4 (.int .u64 (Lw : Int))
      rw [HG.out.2.2.1] at this
      rw [HG.out.2.1] at this ⊢
      simp at this ⊢
      exact this
    · have hM : ¬ b.must < Lw := by omega
      go_wp2_with fail
      refine HD.out.mono ?_
      rintro e w3 ⟨rfl, rfl⟩
      go_wp2
      go_ret
      refine HS.out _ ⟨b.all, b.all.length, Lw, b.must, if b.tries < Lw then Lw else b.tries⟩ ((Fr.set1 (by simp) _ _).trans (Fr.set1 (by simp) _ _)) ?_ (by simp only [ABook.cut]; rw [if_pos hL, if_neg hM])
      have := blk_set (blk_set H2.out.1.blk 2 (.int .i64 (m : Int))) 3 (.int .u64 (Lw : Int))
      rw [HG.out.2.2.1] at this
      rw [HG.out.2.1] at this ⊢
      simp at this ⊢
      exact this
  · have hL : ¬ b.low < Lw := by omega
    rcases hMM with hM0 | hM0
    · have hM : b.must < Lw := by omega
      go_wp2_with fail
      refine HD.out.mono ?_
      rintro e w3 ⟨rfl, rfl⟩
      go_wp2
      go_ret
      refine HS.out _ ⟨b.all, b.all.length, b.low, Lw, if b.tries < Lw then Lw else b.tries⟩ ((Fr.set1 (by simp) _ _).trans (Fr.set1 (by simp) _ _)) ?_ (by simp only [ABook.cut]; rw [if_neg hL, if_pos hM])
      have := blk_set (blk_set H2.out.1.blk 2 (.int .i64 (m : Int))) 4 (.int .u64 (Lw : Int))
      rw [HG.out.2.2.1] at this
      rw [HG.out.2.1] at this ⊢
      simp at this ⊢
      exact this
    · have hM : ¬ b.must < Lw := by omega
      go_wp2_with fail
      refine HD.out.mono ?_
      rintro e w3 ⟨rfl, rfl⟩
      go_wp2
      go_ret
      refine HS.out _ ⟨b.all, b.all.length, b.low, b.must, if b.tries < Lw then Lw else b.tries⟩ (Fr.set1 (by simp) _ _) ?_ (by simp only [ABook.cut]; rw [if_neg hL, if_neg hM])
      have := blk_set H2.out.1.blk 2 (.int .i64 (m : Int))
      rw [HG.out.2.2.1] at this
      rw [HG.out.2.1] at this ⊢
      simp at this ⊢
      exact this
end Go.Proofs.YtnnhihkeffljbaaGreatDoor
