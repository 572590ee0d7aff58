import Derived.Test.YtnnhihkeffljbaaGreatDoorC26
/- (*book).step: Cut. (Written by mkstep.py.) -/
namespace Go.Proofs.YtnnhihkeffljbaaGreatDoor
open Go.RowKit
open Sc

set_option maxRecDepth 100000 in
set_option maxHeartbeats 8000000 in
theorem step_cut_10 (B bp hp lp p bD bN n fst t txn x y : Nat) (sq nn : Int) (key s : ByteArray) (ao : Option Addr) (av : Value) (b : ABook) (l : ALog) (d : ADisk) (cs : List (List Rec)) (w : World) (h : BookIn w B bp hp lp p bD bN av b l d n) (hk : BookOk b l d fst cs t) (hB : 2 ≤ B) (hmet : Met w) (hpow : Pows w) (hn : n + 600 ≤ 67108864) (ht : t ≤ 300000) (Lw m : Nat) (_hLw : Lw < 18446744073709551616) (hwr : IntKind.u64.wrap ((m : Int) + 1 - IntKind.u64.wrap sq) = (Lw : Int)) (hm : m = b.all.length)
    (hA : (m : Int) + 1 < (Lw : Int)) (hT : ¬ (b.tries : Int) < ((m : Int) + 1)) :
    Calls Tryz.prog 25 #[.pointer (some ⟨bp, 0, none⟩), stepV 6 txn sq nn key s ao x y (-1) (-1) 0 0] w (StepPost B bp hp lp p bD bN (n + 600) t 0 b w) := by
  have hal := own_sl h.all
  obtain ⟨a0, am, ac, hav⟩ := hal
  have ham : am = b.all.length := by
    rcases h.all.2 with ⟨e, h0⟩ | ⟨g, cap, cur, e, _⟩
    · rw [hav] at e; cases e; exact h0.symm
    · rw [hav] at e; cases e; rfl
  subst ham
  subst hav
  obtain ⟨W, hW⟩ : ∃ W, W = w.alloc (stepO 6 txn sq nn key s ao x y (-1) (-1) 0 0) := ⟨_, rfl⟩
  have hf0 : Fr [] w W := by rw [hW]; exact (Fr.refl [] w).alloc _
  have hI := h.newB hf0
  have hs0 : W.heap[w.heap.size]? = some (stepO 6 txn sq nn key s ao x y (-1) (-1) 0 0) := by rw [hW]; exact heap_alloc_new w _
  have hlen := hI.len
  have hbpl := (Array.getElem?_eq_some_iff.1 h.blk).1
  have c0 := blk_cell hI.blk 0
  have c1 := blk_cell hI.blk 1
  have c5 := blk_cell hI.blk 5
  have f5 := blk_free hI.blk 5
  have z0 := blk_cell hs0 0
  have z2 := blk_cell hs0 2
  have z7 := blk_cell hs0 7
  have z8 := blk_cell hs0 8
  have z9 := blk_cell hs0 9
  have z10 := blk_cell hs0 10
  simp at c0 c1 c5 z0 z2 z7 z8 z9 z10
  rw [hW] at c0 c1 c5 f5 z0 z2 z7 z8 z9 z10
  clear hW hf0 hI hs0
  rw [← hm] at c1 hlen
  have hcut := (hk.knob (-1) (-1)).cut (knob_well hk.up) (by have := hk.segsLen; omega) Lw (m + 1) (by omega) (by omega) (by omega) (by omega)
  have hseg : l.segs.length ≤ 501 := by have := hk.segsLen; omega
  obtain ⟨b1, hb1⟩ : ∃ b1 : ABook, b1 = { b with tries := if b.tries < (m + 1) then (m + 1) else b.tries } := ⟨_, rfl⟩
  obtain ⟨w0, hw0⟩ : ∃ w0, w0 = w := ⟨_, rfl⟩
  have hf1 : Fr [bp] w w0 := by rw [hw0]; exact Fr.refl _ _
  have hsz : w0.heap.size = w.heap.size := by rw [hw0]
  have hblk1 : w0.heap[bp]? = some (bookO hp (.slice a0 b.all.length ac) b1) := by
    rw [hw0, hb1, if_neg (by omega)]; exact h.blk
  have hI0 : BookIn w0 B bp hp lp p bD bN (.slice a0 b.all.length ac) b1 l d n := h.setB hf1 hblk1 (by rw [hb1]) (by rw [hb1]; have := h.nums; refine ⟨this.1, this.2.1, this.2.2.1, ?_⟩; simp only; split <;> omega)
  have hbl0 : Below B w w0 := hf1.below h.lowB (by intro k hk; simp at hk; rw [hk]; exact h.base.1)
  obtain ⟨W1, hW1⟩ : ∃ W1, W1 = w0.alloc (stepO 6 txn sq nn key s ao x y (-1) (-1) 0 0) := ⟨_, rfl⟩
  have hf2 : Fr [] w0 W1 := by rw [hW1]; exact (Fr.refl [] w0).alloc _
  have hI1 := hI0.newB hf2
  have hs1 : W1.heap[w.heap.size]? = some (stepO 6 txn sq nn key s ao x y (-1) (-1) 0 0) := by rw [← hsz, hW1]; exact heap_alloc_new w0 _
  have hbl1 : Below B w W1 := hbl0.trans (hf2.below hI0.lowB (by simp))
  have hmet1 : Met W1 := hmet.below hbl1 (by omega)
  have hpow1 : Pows W1 := hpow.of_block (hbl1.block 1 (by omega))
  have hID : BookIn W1.drew B bp hp lp p bD bN (.slice a0 b.all.length ac) b1 l d n := hI1.newB ((Fr.refl [] W1).drew)
  have hsD : W1.drew.heap[w.heap.size]? = some (stepO 6 txn sq nn key s ao x y (-1) (-1) 0 0) := hs1
  have HI : Hid (BookIn W1.drew B bp hp lp p bD bN (.slice a0 b.all.length ac) b1 l d n ∧ Below B w W1.drew ∧ Met W1.drew ∧ W1.drew.heap[w.heap.size]? = some (stepO 6 txn sq nn key s ao x y (-1) (-1) 0 0) ∧ Pows W1.drew) := ⟨hID, hbl1.drew, hmet1, hsD, hpow1⟩
  have HG : Hid (((l.cut (d.knob (-1) (-1)) Lw).2.2 = 0 ∧ (l.cut (d.knob (-1) (-1)) Lw).2.1.down = false ∧ ∃ fst' cs', BookOk (b.cut (m + 1)) (l.cut (d.knob (-1) (-1)) Lw).1 (l.cut (d.knob (-1) (-1)) Lw).2.1 fst' cs' t) ∧ m = b.all.length ∧ b1 = { b with tries := if b.tries < (m + 1) then (m + 1) else b.tries } ∧ n + 2 + l.segs.length ≤ n + 600) := ⟨⟨hcut.1, by obtain ⟨_, _, q⟩ := hcut.2; exact q.up, hcut.2⟩, hm, hb1, by omega⟩
  have hinv := fun (_ : l.failed = 0) => hk.log.hinv
  have HV : Hid (l.failed = 0 → ∀ k s : Nat, l.segs[k]? = some s → ∃ r rs, l.recs = r :: rs ∧ r.lsn ≤ s ∧ s - r.lsn < l.recs.length) := hinv
  have d0 := blk_cell hI1.blk 0
  have y7 := blk_cell hs1 7
  have y8 := blk_cell hs1 8
  have y9 := blk_cell hs1 9
  have y10 := blk_cell hs1 10
  simp at d0 y7 y8 y9 y10
  have e1 : b1.low = b.low := by rw [hb1]
  have e2 : b1.must = b.must := by rw [hb1]
  have HE : Hid (b1.low = b.low ∧ b1.must = b.must) := ⟨e1, e2⟩
  clear h hmet hcut hk hm hID hsD hpow hf1 hblk1 hI0 hI1 hs1 hbl0 hbl1 hmet1 hpow1 hinv hb1 hf2 hsz e1 e2 hseg
  rw [hw0] at hW1
  clear hw0
  go_enter Tryz.func25, Tryz.ntmps25
  go_wp2_with fail
  rw [← hW1]
  clear hW1 c0 c1 c5 f5 z0 z2 z7 z8 z9 z10
  go_region_held3 (fun w' => w'.cell? ⟨bp, 0, none⟩ = some (.pointer (some ⟨hp, 0, none⟩)) ∧ w'.cell? ⟨w.heap.size, 7, none⟩ = some (.int .i64 (-1)) ∧ w'.cell? ⟨w.heap.size, 8, none⟩ = some (.int .i64 (-1)) ∧ w'.cell? ⟨w.heap.size, 9, none⟩ = some (.int .i64 0) ∧ w'.cell? ⟨w.heap.size, 10, none⟩ = some (.int .i64 0))
    (simp [*])
    (first | (go_at_call 52; refine (hCut B hp lp p bD bN n Lw l d (-1) (-1) 0 0 W1.drew HI.out.1.host hB HI.out.2.2.1 (by have := HG.out.2.2.2; omega) HI.out.2.2.2.2 HV.out HG.out.1.2.1).mono ?_; rintro e w2 ⟨rfl, hh2, ho2⟩; have hI2 := HI.out.1.afterHost hh2 ho2; have hs2 := HI.out.1.keepO ho2 HI.out.2.2.2.1 (by decide) (by decide) (by decide) (by decide) (by decide); have k0 := blk_cell hI2.blk 0; have k1 := blk_cell hI2.blk 1; have k2 := blk_cell hI2.blk 2; have k3 := blk_cell hI2.blk 3; have k4 := blk_cell hI2.blk 4; have k7 := blk_cell hI2.blk 7; have f2 := blk_free hI2.blk 2; have f3 := blk_free hI2.blk 3; have f4 := blk_free hI2.blk 4; have v7 := blk_cell hs2 7; have v8 := blk_cell hs2 8; have v9 := blk_cell hs2 9; have v10 := blk_cell hs2 10; simp at k0 k1 k2 k3 k4 k7 v7 v8 v9 v10; have H2 : Hid (BookIn w2 B bp hp lp p bD bN (.slice a0 b.all.length ac) b1 (l.cut (d.knob (-1) (-1)) Lw).1 ((l.cut (d.knob (-1) (-1)) Lw).2.1.knob (-1) (-1)) (n + 2 + l.segs.length) ∧ OFr lp p W1.drew w2) := ⟨hI2, ho2⟩; clear hI2 ho2 hh2 hs2))
  rw [HG.out.1.1]
  have hdone : Calls Tryz.prog 50 #[.pointer (some ⟨bp, 0, none⟩), .int .i64 0, .int .i64 0] w2 fun ev w' => ev = .returned (.tuple #[.bool true, .bool true]) ∧ w' = w2 := by
    have := done_ok bp hp 0 _ b1 w2 H2.out.1.blk
    simpa using this
  have HD : Hid (Calls Tryz.prog 50 #[.pointer (some ⟨bp, 0, none⟩), .int .i64 0, .int .i64 0] w2 fun ev w' => ev = .returned (.tuple #[.bool true, .bool true]) ∧ w' = w2) := hdone
  have HS : Hid (∀ (WF : World) (b2 : ABook), Fr [bp] w2 WF → WF.heap[bp]? = some (bookO hp (.slice a0 b.all.length ac) b2) → b2 = b.cut (m + 1) → StepPost B bp hp lp p bD bN (n + 600) t 0 b w (.returned (.bool true)) WF) := fun WF b2 hf hb he => by
    subst he
    have hB2 := H2.out.1.setB hf hb (by rw [HG.out.2.2.1]; rfl) (by have q := H2.out.1.len; have q2 := H2.out.1.nums; rw [HG.out.2.2.1] at q q2; simp only at q q2; have q3 := HG.out.2.1; refine ⟨q, ?_, ?_, ?_⟩ <;> (simp only [ABook.cut]; split <;> (try split at q2) <;> omega))
    obtain ⟨_, _, fst', cs', hbk⟩ := HG.out.1
    exact ⟨rfl, ⟨_, _, _, _, _, _, t, hB2.mores HG.out.2.2.2 (by omega), hbk.knob (-1) (-1), by omega, by simp [ABook.cut]⟩, (HI.out.2.1.trans (HI.out.1.ofrB H2.out.2)).trans (hf.below H2.out.1.lowB (by intro k hk; simp at hk; rw [hk]; exact H2.out.1.base.1))⟩
  clear hdone v7 v8 v9 v10 d0 y7 y8 y9 y10
  rw [← HG.out.2.1] at k1
  rw [HE.out.1] at k3
  rw [HE.out.2] at k4
  clear hA hT hwr
  have hLL : (b.low : Int) < ((m : Int) + 1) ∨ ¬ (b.low : Int) < ((m : Int) + 1) := by omega
  have hMM : (b.must : Int) < ((m : Int) + 1) ∨ ¬ (b.must : Int) < ((m : Int) + 1) := by omega
  rcases hLL with hL0 | hL0
  · have hL : b.low < (m + 1) := by omega
    rcases hMM with hM0 | hM0
    · have hM : b.must < (m + 1) := by omega
      go_wp2_with fail
      refine HD.out.mono ?_
      rintro e w3 ⟨rfl, rfl⟩
      go_wp2
      go_ret
      refine HS.out _ ⟨b.all, b.all.length, (m + 1), (m + 1), if b.tries < (m + 1) then (m + 1) else b.tries⟩ (((Fr.set1 (by simp) _ _).trans (Fr.set1 (by simp) _ _)).trans (Fr.set1 (by simp) _ _)) ?_ (by simp only [ABook.cut]; rw [if_pos hL, if_pos hM])
      have := blk_set (blk_set (blk_set H2.out.1.blk 2 (.int .i64 (m : Int))) 3 (.int .u64 ((m : Int) + 1))) 4 (.int .u64 ((m : Int) + 1))
      rw [HG.out.2.2.1] at this
      rw [HG.out.2.1] at this ⊢
      simp at this ⊢
      exact this
    · have hM : ¬ b.must < (m + 1) := by omega
      go_wp2_with fail
      refine HD.out.mono ?_
      rintro e w3 ⟨rfl, rfl⟩
      go_wp2
      go_ret
      refine HS.out _ ⟨b.all, b.all.length, (m + 1), b.must, if b.tries < (m + 1) then (m + 1) else b.tries⟩ ((Fr.set1 (by simp) _ _).trans (Fr.set1 (by simp) _ _)) ?_ (by simp only [ABook.cut]; rw [if_pos hL, if_neg hM])
      have := blk_set (blk_set H2.out.1.blk 2 (.int .i64 (m : Int))) 3 (.int .u64 ((m : Int) + 1))
      rw [HG.out.2.2.1] at this
      rw [HG.out.2.1] at this ⊢
      simp at this ⊢
      exact this
  · have hL : ¬ b.low < (m + 1) := by omega
    rcases hMM with hM0 | hM0
    · have hM : b.must < (m + 1) := by omega
      go_wp2_with fail
      refine HD.out.mono ?_
      rintro e w3 ⟨rfl, rfl⟩
      go_wp2
      go_ret
      refine HS.out _ ⟨b.all, b.all.length, b.low, (m + 1), if b.tries < (m + 1) then (m + 1) else b.tries⟩ ((Fr.set1 (by simp) _ _).trans (Fr.set1 (by simp) _ _)) ?_ (by simp only [ABook.cut]; rw [if_neg hL, if_pos hM])
      have := blk_set (blk_set H2.out.1.blk 2 (.int .i64 (m : Int))) 4 (.int .u64 ((m : Int) + 1))
      rw [HG.out.2.2.1] at this
      rw [HG.out.2.1] at this ⊢
      simp at this ⊢
      exact this
    · have hM : ¬ b.must < (m + 1) := by omega
      go_wp2_with fail
      refine HD.out.mono ?_
      rintro e w3 ⟨rfl, rfl⟩
      go_wp2
      go_ret
      refine HS.out _ ⟨b.all, b.all.length, b.low, b.must, if b.tries < (m + 1) then (m + 1) else b.tries⟩ (Fr.set1 (by simp) _ _) ?_ (by simp only [ABook.cut]; rw [if_neg hL, if_neg hM])
      have := blk_set H2.out.1.blk 2 (.int .i64 (m : Int))
      rw [HG.out.2.2.1] at this
      rw [HG.out.2.1] at this ⊢
      simp at this ⊢
      exact this
end Go.Proofs.YtnnhihkeffljbaaGreatDoor
/- (*book).step: Cut. (Written by mkstep.py.) -/
namespace Go.Proofs.YtnnhihkeffljbaaGreatDoor
open Go.RowKit
open Sc

set_option maxRecDepth 100000 in
set_option maxHeartbeats 8000000 in
theorem step_cut_11 (B bp hp lp p bD bN n fst t txn x y : Nat) (sq nn : Int) (key s : ByteArray) (ao : Option Addr) (av : Value) (b : ABook) (l : ALog) (d : ADisk) (cs : List (List Rec)) (w : World) (h : BookIn w B bp hp lp p bD bN av b l d n) (hk : BookOk b l d fst cs t) (hB : 2 ≤ B) (hmet : Met w) (hpow : Pows w) (hn : n + 600 ≤ 67108864) (ht : t ≤ 300000) (Lw m : Nat) (_hLw : Lw < 18446744073709551616) (hwr : IntKind.u64.wrap ((m : Int) + 1 - IntKind.u64.wrap sq) = (Lw : Int)) (hm : m = b.all.length)
    (hA : (m : Int) + 1 < (Lw : Int)) (hT : (b.tries : Int) < ((m : Int) + 1)) :
    Calls Tryz.prog 25 #[.pointer (some ⟨bp, 0, none⟩), stepV 6 txn sq nn key s ao x y (-1) (-1) 0 0] w (StepPost B bp hp lp p bD bN (n + 600) t 0 b w) := by
  have hal := own_sl h.all
  obtain ⟨a0, am, ac, hav⟩ := hal
  have ham : am = b.all.length := by
    rcases h.all.2 with ⟨e, h0⟩ | ⟨g, cap, cur, e, _⟩
    · rw [hav] at e; cases e; exact h0.symm
    · rw [hav] at e; cases e; rfl
  subst ham
  subst hav
  obtain ⟨W, hW⟩ : ∃ W, W = w.alloc (stepO 6 txn sq nn key s ao x y (-1) (-1) 0 0) := ⟨_, rfl⟩
  have hf0 : Fr [] w W := by rw [hW]; exact (Fr.refl [] w).alloc _
  have hI := h.newB hf0
  have hs0 : W.heap[w.heap.size]? = some (stepO 6 txn sq nn key s ao x y (-1) (-1) 0 0) := by rw [hW]; exact heap_alloc_new w _
  have hlen := hI.len
  have hbpl := (Array.getElem?_eq_some_iff.1 h.blk).1
  have c0 := blk_cell hI.blk 0
  have c1 := blk_cell hI.blk 1
  have c5 := blk_cell hI.blk 5
  have f5 := blk_free hI.blk 5
  have z0 := blk_cell hs0 0
  have z2 := blk_cell hs0 2
  have z7 := blk_cell hs0 7
  have z8 := blk_cell hs0 8
  have z9 := blk_cell hs0 9
  have z10 := blk_cell hs0 10
  simp at c0 c1 c5 z0 z2 z7 z8 z9 z10
  rw [hW] at c0 c1 c5 f5 z0 z2 z7 z8 z9 z10
  clear hW hf0 hI hs0
  rw [← hm] at c1 hlen
  have hcut := (hk.knob (-1) (-1)).cut (knob_well hk.up) (by have := hk.segsLen; omega) Lw (m + 1) (by omega) (by omega) (by omega) (by omega)
  have hseg : l.segs.length ≤ 501 := by have := hk.segsLen; omega
  obtain ⟨b1, hb1⟩ : ∃ b1 : ABook, b1 = { b with tries := if b.tries < (m + 1) then (m + 1) else b.tries } := ⟨_, rfl⟩
  obtain ⟨w0, hw0⟩ : ∃ w0, w0 = w.setCell ⟨bp, 5, none⟩ (.int .u64 ((m : Int) + 1)) := ⟨_, rfl⟩
  have hf1 : Fr [bp] w w0 := by rw [hw0]; exact Fr.set1 (by simp) _ _
  have hsz : w0.heap.size = w.heap.size := by rw [hw0]; simp
  have hblk1 : w0.heap[bp]? = some (bookO hp (.slice a0 b.all.length ac) b1) := by
    rw [hw0, hb1, if_pos (by omega)]; have := blk_set h.blk 5 (.int .u64 ((m : Int) + 1)); simp at this ⊢; exact this
  have hI0 : BookIn w0 B bp hp lp p bD bN (.slice a0 b.all.length ac) b1 l d n := h.setB hf1 hblk1 (by rw [hb1]) (by rw [hb1]; have := h.nums; refine ⟨this.1, this.2.1, this.2.2.1, ?_⟩; simp only; split <;> omega)
  have hbl0 : Below B w w0 := hf1.below h.lowB (by intro k hk; simp at hk; rw [hk]; exact h.base.1)
  obtain ⟨W1, hW1⟩ : ∃ W1, W1 = w0.alloc (stepO 6 txn sq nn key s ao x y (-1) (-1) 0 0) := ⟨_, rfl⟩
  have hf2 : Fr [] w0 W1 := by rw [hW1]; exact (Fr.refl [] w0).alloc _
  have hI1 := hI0.newB hf2
  have hs1 : W1.heap[w.heap.size]? = some (stepO 6 txn sq nn key s ao x y (-1) (-1) 0 0) := by rw [← hsz, hW1]; exact heap_alloc_new w0 _
  have hbl1 : Below B w W1 := hbl0.trans (hf2.below hI0.lowB (by simp))
  have hmet1 : Met W1 := hmet.below hbl1 (by omega)
  have hpow1 : Pows W1 := hpow.of_block (hbl1.block 1 (by omega))
  have hID : BookIn W1.drew B bp hp lp p bD bN (.slice a0 b.all.length ac) b1 l d n := hI1.newB ((Fr.refl [] W1).drew)
  have hsD : W1.drew.heap[w.heap.size]? = some (stepO 6 txn sq nn key s ao x y (-1) (-1) 0 0) := hs1
  have HI : Hid (BookIn W1.drew B bp hp lp p bD bN (.slice a0 b.all.length ac) b1 l d n ∧ Below B w W1.drew ∧ Met W1.drew ∧ W1.drew.heap[w.heap.size]? = some (stepO 6 txn sq nn key s ao x y (-1) (-1) 0 0) ∧ Pows W1.drew) := ⟨hID, hbl1.drew, hmet1, hsD, hpow1⟩
  have HG : Hid (((l.cut (d.knob (-1) (-1)) Lw).2.2 = 0 ∧ (l.cut (d.knob (-1) (-1)) Lw).2.1.down = false ∧ ∃ fst' cs', BookOk (b.cut (m + 1)) (l.cut (d.knob (-1) (-1)) Lw).1 (l.cut (d.knob (-1) (-1)) Lw).2.1 fst' cs' t) ∧ m = b.all.length ∧ b1 = { b with tries := if b.tries < (m + 1) then (m + 1) else b.tries } ∧ n + 2 + l.segs.length ≤ n + 600) := ⟨⟨hcut.1, by obtain ⟨_, _, q⟩ := hcut.2; exact q.up, hcut.2⟩, hm, hb1, by omega⟩
  have hinv := fun (_ : l.failed = 0) => hk.log.hinv
  have HV : Hid (l.failed = 0 → ∀ k s : Nat, l.segs[k]? = some s → ∃ r rs, l.recs = r :: rs ∧ r.lsn ≤ s ∧ s - r.lsn < l.recs.length) := hinv
  have d0 := blk_cell hI1.blk 0
  have y7 := blk_cell hs1 7
  have y8 := blk_cell hs1 8
  have y9 := blk_cell hs1 9
  have y10 := blk_cell hs1 10
  simp at d0 y7 y8 y9 y10
  have e1 : b1.low = b.low := by rw [hb1]
  have e2 : b1.must = b.must := by rw [hb1]
  have HE : Hid (b1.low = b.low ∧ b1.must = b.must) := ⟨e1, e2⟩
  clear h hmet hcut hk hm hID hsD hpow hf1 hblk1 hI0 hI1 hs1 hbl0 hbl1 hmet1 hpow1 hinv hb1 hf2 hsz e1 e2 hseg
  rw [hw0] at hW1
  clear hw0
  go_enter Tryz.func25, Tryz.ntmps25
  go_wp2_with fail
  rw [← hW1]
  clear hW1 c0 c1 c5 f5 z0 z2 z7 z8 z9 z10
  go_region_held3 (fun w' => w'.cell? ⟨bp, 0, none⟩ = some (.pointer (some ⟨hp, 0, none⟩)) ∧ w'.cell? ⟨w.heap.size, 7, none⟩ = some (.int .i64 (-1)) ∧ w'.cell? ⟨w.heap.size, 8, none⟩ = some (.int .i64 (-1)) ∧ w'.cell? ⟨w.heap.size, 9, none⟩ = some (.int .i64 0) ∧ w'.cell? ⟨w.heap.size, 10, none⟩ = some (.int .i64 0))
    (simp [*])
    (first | (go_at_call 52; refine (hCut B hp lp p bD bN n Lw l d (-1) (-1) 0 0 W1.drew HI.out.1.host hB HI.out.2.2.1 (by have := HG.out.2.2.2; omega) HI.out.2.2.2.2 HV.out HG.out.1.2.1).mono ?_; rintro e w2 ⟨rfl, hh2, ho2⟩; have hI2 := HI.out.1.afterHost hh2 ho2; have hs2 := HI.out.1.keepO ho2 HI.out.2.2.2.1 (by decide) (by decide) (by decide) (by decide) (by decide); have k0 := blk_cell hI2.blk 0; have k1 := blk_cell hI2.blk 1; have k2 := blk_cell hI2.blk 2; have k3 := blk_cell hI2.blk 3; have k4 := blk_cell hI2.blk 4; have k7 := blk_cell hI2.blk 7; have f2 := blk_free hI2.blk 2; have f3 := blk_free hI2.blk 3; have f4 := blk_free hI2.blk 4; have v7 := blk_cell hs2 7; have v8 := blk_cell hs2 8; have v9 := blk_cell hs2 9; have v10 := blk_cell hs2 10; simp at k0 k1 k2 k3 k4 k7 v7 v8 v9 v10; have H2 : Hid (BookIn w2 B bp hp lp p bD bN (.slice a0 b.all.length ac) b1 (l.cut (d.knob (-1) (-1)) Lw).1 ((l.cut (d.knob (-1) (-1)) Lw).2.1.knob (-1) (-1)) (n + 2 + l.segs.length) ∧ OFr lp p W1.drew w2) := ⟨hI2, ho2⟩; clear hI2 ho2 hh2 hs2))
  rw [HG.out.1.1]
  have hdone : Calls Tryz.prog 50 #[.pointer (some ⟨bp, 0, none⟩), .int .i64 0, .int .i64 0] w2 fun ev w' => ev = .returned (.tuple #[.bool true, .bool true]) ∧ w' = w2 := by
    have := done_ok bp hp 0 _ b1 w2 H2.out.1.blk
    simpa using this
  have HD : Hid (Calls Tryz.prog 50 #[.pointer (some ⟨bp, 0, none⟩), .int .i64 0, .int .i64 0] w2 fun ev w' => ev = .returned (.tuple #[.bool true, .bool true]) ∧ w' = w2) := hdone
  have HS : Hid (∀ (WF : World) (b2 : ABook), Fr [bp] w2 WF → WF.heap[bp]? = some (bookO hp (.slice a0 b.all.length ac) b2) → b2 = b.cut (m + 1) → StepPost B bp hp lp p bD bN (n + 600) t 0 b w (.returned (.bool true)) WF) := fun WF b2 hf hb he => by
    subst he
    have hB2 := H2.out.1.setB hf hb (by rw [HG.out.2.2.1]; rfl) (by have q := H2.out.1.len; have q2 := H2.out.1.nums; rw [HG.out.2.2.1] at q q2; simp only at q q2; have q3 := HG.out.2.1; refine ⟨q, ?_, ?_, ?_⟩ <;> (simp only [ABook.cut]; split <;> (try split at q2) <;> omega))
    obtain ⟨_, _, fst', cs', hbk⟩ := HG.out.1
    exact ⟨rfl, ⟨_, _, _, _, _, _, t, hB2.mores HG.out.2.2.2 (by omega), hbk.knob (-1) (-1), by omega, by simp [ABook.cut]⟩, (HI.out.2.1.trans (HI.out.1.ofrB H2.out.2)).trans (hf.below H2.out.1.lowB (by intro k hk; simp at hk; rw [hk]; exact H2.out.1.base.1))⟩
  clear hdone v7 v8 v9 v10 d0 y7 y8 y9 y10
  rw [← HG.out.2.1] at k1
  rw [HE.out.1] at k3
  rw [HE.out.2] at k4
  clear hA hT hwr
  have hLL : (b.low : Int) < ((m : Int) + 1) ∨ ¬ (b.low : Int) < ((m : Int) + 1) := by omega
  have hMM : (b.must : Int) < ((m : Int) + 1) ∨ ¬ (b.must : Int) < ((m : Int) + 1) := by omega
  rcases hLL with hL0 | hL0
  · have hL : b.low < (m + 1) := by omega
    rcases hMM with hM0 | hM0
    · have hM : b.must < (m + 1) := by omega
      go_wp2_with fail
      refine HD.out.mono ?_
      rintro e w3 ⟨rfl, rfl⟩
      go_wp2
      go_ret
      refine HS.out _ ⟨b.all, b.all.length, (m + 1), (m + 1), if b.tries < (m + 1) then (m + 1) else b.tries⟩ (((Fr.set1 (by simp) _ _).trans (Fr.set1 (by simp) _ _)).trans (Fr.set1 (by simp) _ _)) ?_ (by simp only [ABook.cut]; rw [if_pos hL, if_pos hM])
      have := blk_set (blk_set (blk_set H2.out.1.blk 2 (.int .i64 (m : Int))) 3 (.int .u64 ((m : Int) + 1))) 4 (.int .u64 ((m : Int) + 1))
      rw [HG.out.2.2.1] at this
      rw [HG.out.2.1] at this ⊢
      simp at this ⊢
      exact this
    · have hM : ¬ b.must < (m + 1) := by omega
      go_wp2_with fail
      refine HD.out.mono ?_
      rintro e w3 ⟨rfl, rfl⟩
      go_wp2
      go_ret
      refine HS.out _ ⟨b.all, b.all.length, (m + 1), b.must, if b.tries < (m + 1) then (m + 1) else b.tries⟩ ((Fr.set1 (by simp) _ _).trans (Fr.set1 (by simp) _ _)) ?_ (by simp only [ABook.cut]; rw [if_pos hL, if_neg hM])
      have := blk_set (blk_set H2.out.1.blk 2 (.int .i64 (m : Int))) 3 (.int .u64 ((m : Int) + 1))
      rw [HG.out.2.2.1] at this
      rw [HG.out.2.1] at this ⊢
      simp at this ⊢
      exact this
  · have hL : ¬ b.low < (m + 1) := by omega
    rcases hMM with hM0 | hM0
    · have hM : b.must < (m + 1) := by omega
      go_wp2_with fail
      refine HD.out.mono ?_
      rintro e w3 ⟨rfl, rfl⟩
      go_wp2
      go_ret
      refine HS.out _ ⟨b.all, b.all.length, b.low, (m + 1), if b.tries < (m + 1) then (m + 1) else b.tries⟩ ((Fr.set1 (by simp) _ _).trans (Fr.set1 (by simp) _ _)) ?_ (by simp only [ABook.cut]; rw [if_neg hL, if_pos hM])
      have := blk_set (blk_set H2.out.1.blk 2 (.int .i64 (m : Int))) 4 (.int .u64 ((m : Int) + 1))
      rw [HG.out.2.2.1] at this
      rw [HG.out.2.1] at this ⊢
      simp at this ⊢
      exact this
    · have hM : ¬ b.must < (m + 1) := by omega
      go_wp2_with fail
      refine HD.out.mono ?_
      rintro e w3 ⟨rfl, rfl⟩
      go_wp2
      go_ret
      refine HS.out _ ⟨b.all, b.all.length, b.low, b.must, if b.tries < (m + 1) then (m + 1) else b.tries⟩ (Fr.set1 (by simp) _ _) ?_ (by simp only [ABook.cut]; rw [if_neg hL, if_neg hM])
      have := blk_set H2.out.1.blk 2 (.int .i64 (m : Int))
      rw [HG.out.2.2.1] at this
      rw [HG.out.2.1] at this ⊢
      simp at this ⊢
      exact this
end Go.Proofs.YtnnhihkeffljbaaGreatDoor
/- (*book).step: Append. (Written by mkstep4.py.) -/
namespace Go.Proofs.YtnnhihkeffljbaaGreatDoor
open Go.RowKit
open Sc

set_option maxRecDepth 100000 in
set_option maxHeartbeats 8000000 in
theorem step_big (B bp hp lp p bD bN n fst t txn x y kind m : Nat) (sq nn : Int) (key s : ByteArray) (ao : Option Addr) (av : Value) (b : ABook) (l : ALog) (d : ADisk) (cs : List (List Rec)) (w : World) (h : BookIn w B bp hp lp p bD bN av b l d n) (hk : BookOk b l d fst cs t) (hB : 2 ≤ B) (hmet : Met w) (hpow : Pows w) (hn : n + 600 ≤ 67108864) (hkd : kind < 256) (hwr : IntKind.u8.wrap nn = (kind : Int)) (hm : m = b.all.length) (hs : 255 < s.size) (hs2 : s.size ≤ 16384) :
    Calls Tryz.prog 25 #[.pointer (some ⟨bp, 0, none⟩), stepV 4 txn sq nn key s ao x y (-1) (-1) 0 0] w (StepPost B bp hp lp p bD bN (n + 600) t 0 b w) := by
  have hal := own_sl h.all
  obtain ⟨a0, am, ac, hav⟩ := hal
  have ham : am = b.all.length := by
    rcases h.all.2 with ⟨e, h0⟩ | ⟨g, cap, cur, e, _⟩
    · rw [hav] at e; cases e; exact h0.symm
    · rw [hav] at e; cases e; rfl
  subst ham
  subst hav
  obtain ⟨W1, hW1⟩ : ∃ W1, W1 = w.alloc (stepO 4 txn sq nn key s ao x y (-1) (-1) 0 0) := ⟨_, rfl⟩
  have hf2 : Fr [] w W1 := by rw [hW1]; exact (Fr.refl [] w).alloc _
  have hI1 := h.newB hf2
  have hs1 : W1.heap[w.heap.size]? = some (stepO 4 txn sq nn key s ao x y (-1) (-1) 0 0) := by rw [hW1]; exact heap_alloc_new w _
  have hlen := h.len
  have hbpl := (Array.getElem?_eq_some_iff.1 h.blk).1
  have c0 := blk_cell hI1.blk 0
  have c1 := blk_cell hI1.blk 1
  have c7 := blk_cell hI1.blk 7
  have z0 := blk_cell hs1 0
  have z3 := blk_cell hs1 3
  have z5 := blk_cell hs1 5
  have z7 := blk_cell hs1 7
  have z8 := blk_cell hs1 8
  have z9 := blk_cell hs1 9
  have z10 := blk_cell hs1 10
  simp at c0 c1 c7 z0 z3 z5 z7 z8 z9 z10
  rw [← hm] at c1 hlen
  have d0 := c0
  have d1 := c1
  have d7 := c7
  have y0 := z0
  have y3 := z3
  have y5 := z5
  have y7 := z7
  have y8 := z8
  have y9 := z9
  have y10 := z10
  rw [hW1] at c0 c1 c7 z0 z3 z5 z7 z8 z9 z10
  have hbl1 : Below B w W1 := hf2.below h.lowB (by simp)
  have hmet1 : Met W1 := hmet.below hbl1 (by omega)
  have hpow1 : Pows W1 := hpow.of_block (hbl1.block 1 (by omega))
  have hID : BookIn W1.drew B bp hp lp p bD bN (.slice a0 b.all.length ac) b l d n := hI1.newB ((Fr.refl [] W1).drew)
  have hsD : W1.drew.heap[w.heap.size]? = some (stepO 4 txn sq nn key s ao x y (-1) (-1) 0 0) := hs1
  have HI : Hid (BookIn W1.drew B bp hp lp p bD bN (.slice a0 b.all.length ac) b l d n ∧ Below B w W1.drew ∧ Met W1.drew ∧ W1.drew.heap[w.heap.size]? = some (stepO 4 txn sq nn key s ao x y (-1) (-1) 0 0) ∧ Pows W1.drew) := ⟨hID, hbl1.drew, hmet1, hsD, hpow1⟩
  obtain ⟨R, hR⟩ : ∃ R, R = l.append (d.knob (-1) (-1)) kind s := ⟨_, rfl⟩
  have hRe : R = (l, d.knob (-1) (-1), 0, 1) := by rw [hR]; unfold ALog.append; rw [if_pos hs]
  have HG : Hid (R = (l, d.knob (-1) (-1), 0, 1) ∧ BookOk b l d fst cs t) := ⟨hRe, hk⟩
  have hup : R.2.1.down = false := by rw [hRe]; exact hk.up
  have hsg : l.filled < 600 → l.segs ≠ [] := fun hf => hk.log.segsNe hf
  have HV : Hid (l.filled < 600 → l.segs ≠ []) := hsg
  have HR : Hid (R = l.append (d.knob (-1) (-1)) kind s ∧ (l.append (d.knob (-1) (-1)) kind s).2.1.down = false) := ⟨hR, by rw [← hR]; exact hup⟩
  have HM : Hid (m = b.all.length) := hm
  clear h hmet hk hm hID hsD hpow hI1 hs1 hbl1 hmet1 hpow1 hf2 hsg hup hR hRe
  go_enter Tryz.func25, Tryz.ntmps25
  go_wp2_with fail
  rw [← hW1]
  clear hW1 c0 c1 c7 z0 z3 z5 z7 z8 z9 z10
  go_region_held3 (fun w' => w'.cell? ⟨bp, 0, none⟩ = some (.pointer (some ⟨hp, 0, none⟩)) ∧ w'.cell? ⟨w.heap.size, 3, none⟩ = some (.int .i64 nn) ∧ w'.cell? ⟨w.heap.size, 5, none⟩ = some (.string s) ∧ w'.cell? ⟨w.heap.size, 7, none⟩ = some (.int .i64 (-1)) ∧ w'.cell? ⟨w.heap.size, 8, none⟩ = some (.int .i64 (-1)) ∧ w'.cell? ⟨w.heap.size, 9, none⟩ = some (.int .i64 0) ∧ w'.cell? ⟨w.heap.size, 10, none⟩ = some (.int .i64 0))
    (simp [*])
    (first | (go_at_call 49; refine (hAppend B hp lp p bD bN n kind s l d (-1) (-1) 0 0 W1.drew HI.out.1.host hB HI.out.2.2.1 hkd (by omega) HV.out HI.out.2.2.2.2 HR.out.2).mono ?_; rw [← HR.out.1]; rintro e w2 ⟨rfl, hh2, ho2⟩; have hI2 := HI.out.1.afterHost hh2 ho2; have hs2 := HI.out.1.keepO ho2 HI.out.2.2.2.1 (by decide) (by decide) (by decide) (by decide) (by decide); have k0 := blk_cell hI2.blk 0; have k1 := blk_cell hI2.blk 1; have k7 := blk_cell hI2.blk 7; have f1 := blk_free hI2.blk 1; have v3 := blk_cell hs2 3; have v5 := blk_cell hs2 5; have v7 := blk_cell hs2 7; have v8 := blk_cell hs2 8; have v9 := blk_cell hs2 9; have v10 := blk_cell hs2 10; simp at k0 k1 k7 v3 v5 v7 v8 v9 v10; have H2 : Hid (BookIn w2 B bp hp lp p bD bN (.slice a0 b.all.length ac) b R.1 (R.2.1.knob (-1) (-1)) (n + 3) ∧ OFr lp p W1.drew w2 ∧ w2.heap[w.heap.size]? = some (stepO 4 txn sq nn key s ao x y (-1) (-1) 0 0)) := ⟨hI2, ho2, hs2⟩; clear hI2 ho2 hh2 hs2))
  rw [← HM.out] at k1
  clear d0 d1 d7 y0 y3 y5 y7 y8 y9 y10
  rw [show R.2.2.1 = 0 by rw [HG.out.1], show R.2.2.2 = 1 by rw [HG.out.1]]
  have hdone : Calls Tryz.prog 50 #[.pointer (some ⟨bp, 0, none⟩), .int .i64 1, .int .i64 1] w2 fun ev w' => ev = .returned (.tuple #[.bool false, .bool true]) ∧ w' = w2 := by
    have := done_ok bp hp 1 _ b w2 H2.out.1.blk
    simpa using this
  have HD : Hid (Calls Tryz.prog 50 #[.pointer (some ⟨bp, 0, none⟩), .int .i64 1, .int .i64 1] w2 fun ev w' => ev = .returned (.tuple #[.bool false, .bool true]) ∧ w' = w2) := hdone
  clear hdone
  go_wp2_with fail
  refine HD.out.mono ?_
  rintro e w3 ⟨rfl, rfl⟩
  go_wp2
  go_ret
  have hf : Fr [] w3 (w3.alloc (.cells #[.int .u64 ((m : Int) + 1), .int .u8 (kind : Int), .string s] 92)) := (Fr.refl [] w3).alloc _
  have hB2 := (H2.out.1.newB hf).mores (m := n + 600) (by omega) (by omega)
  rw [HG.out.1] at hB2
  exact ⟨rfl, ⟨_, _, _, _, _, _, t, hB2, (HG.out.2.knob (-1) (-1)).knob (-1) (-1), by omega, by omega⟩, (HI.out.2.1.trans (HI.out.1.ofrB H2.out.2.1)).trans (hf.below H2.out.1.lowB (by simp))⟩
end Go.Proofs.YtnnhihkeffljbaaGreatDoor
