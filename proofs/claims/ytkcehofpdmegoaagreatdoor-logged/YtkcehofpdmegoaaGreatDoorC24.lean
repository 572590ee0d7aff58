import Derived.Test.YtkcehofpdmegoaaGreatDoorC23
import Derived.Deep.CutRange
/- (*book).step: Append. (Written by mkstep4.py.) -/
namespace Go.Proofs.YtkcehofpdmegoaaGreatDoor
open Go.RowKit
open Sc

set_option maxRecDepth 100000 in
set_option maxHeartbeats 8000000 in
theorem step_big (B bp hp lp p bD bN n fst t txn x y kind m : Nat) (sq nn : Int) (key s : ByteArray) (ao : Option Addr) (av : Value) (b : ABook) (l : ALog) (d : ADisk) (cs : List (List Rec)) (w : World) (h : BookIn w B bp hp lp p bD bN av b l d n) (hk : BookOk b l d fst cs t) (hB : 2 ≤ B) (hmet : Met w) (hpow : Pows w) (hn : n + 600 ≤ 67108864) (hkd : kind < 256) (hwr : IntKind.u8.wrap nn = (kind : Int)) (hm : m = b.all.length) (hs : 255 < s.size) (hs2 : s.size ≤ 16384) :
    Calls Tryz.prog 32 #[.pointer (some ⟨bp, 0, none⟩), stepV 4 txn sq nn key s ao x y (-1) (-1) 0 0] w (StepPost B bp hp lp p bD bN (n + 600) t 0 b w) := by
  have hal := own_sl h.all
  obtain ⟨a0, am, ac, hav⟩ := hal
  have ham : am = b.all.length := by
    rcases h.all.2 with ⟨e, h0⟩ | ⟨g, cap, cur, e, _⟩
    · rw [hav] at e; cases e; exact h0.symm
    · rw [hav] at e; cases e; rfl
  subst ham
  subst hav
  obtain ⟨W1, hW1⟩ : ∃ W1, W1 = w.alloc (stepO 4 txn sq nn key s ao x y (-1) (-1) 0 0) := ⟨_, rfl⟩
  have hf2 : Fr [] w W1 := by rw [hW1]; exact (Fr.refl [] w).alloc _
  have hI1 := h.newB hf2
  have hs1 : W1.heap[w.heap.size]? = some (stepO 4 txn sq nn key s ao x y (-1) (-1) 0 0) := by rw [hW1]; exact heap_alloc_new w _
  have hlen := h.len
  have hbpl := (Array.getElem?_eq_some_iff.1 h.blk).1
  have c0 := blk_cell hI1.blk 0
  have c1 := blk_cell hI1.blk 1
  have c7 := blk_cell hI1.blk 7
  have z0 := blk_cell hs1 0
  have z3 := blk_cell hs1 3
  have z5 := blk_cell hs1 5
  have z7 := blk_cell hs1 7
  have z8 := blk_cell hs1 8
  have z9 := blk_cell hs1 9
  have z10 := blk_cell hs1 10
  simp at c0 c1 c7 z0 z3 z5 z7 z8 z9 z10
  rw [← hm] at c1 hlen
  have d0 := c0
  have d1 := c1
  have d7 := c7
  have y0 := z0
  have y3 := z3
  have y5 := z5
  have y7 := z7
  have y8 := z8
  have y9 := z9
  have y10 := z10
  rw [hW1] at c0 c1 c7 z0 z3 z5 z7 z8 z9 z10
  have hbl1 : Below B w W1 := hf2.below h.lowB (by simp)
  have hmet1 : Met W1 := hmet.below hbl1 (by omega)
  have hpow1 : Pows W1 := hpow.of_block (hbl1.block 1 (by omega))
  have hID : BookIn W1.drew B bp hp lp p bD bN (.slice a0 b.all.length ac) b l d n := hI1.newB ((Fr.refl [] W1).drew)
  have hsD : W1.drew.heap[w.heap.size]? = some (stepO 4 txn sq nn key s ao x y (-1) (-1) 0 0) := hs1
  have HI : Hid (BookIn W1.drew B bp hp lp p bD bN (.slice a0 b.all.length ac) b l d n ∧ Below B w W1.drew ∧ Met W1.drew ∧ W1.drew.heap[w.heap.size]? = some (stepO 4 txn sq nn key s ao x y (-1) (-1) 0 0) ∧ Pows W1.drew) := ⟨hID, hbl1.drew, hmet1, hsD, hpow1⟩
  obtain ⟨R, hR⟩ : ∃ R, R = l.append (d.knob (-1) (-1)) kind s := ⟨_, rfl⟩
  have hRe : R = (l, d.knob (-1) (-1), 0, 1) := by rw [hR]; unfold ALog.append; rw [if_pos hs]
  have HG : Hid (R = (l, d.knob (-1) (-1), 0, 1) ∧ BookOk b l d fst cs t) := ⟨hRe, hk⟩
  have hup : R.2.1.down = false := by rw [hRe]; exact hk.up
  have hsg : l.filled < 600 → l.segs ≠ [] := fun hf => hk.log.segsNe hf
  have HV : Hid (l.filled < 600 → l.segs ≠ []) := hsg
  have HR : Hid (R = l.append (d.knob (-1) (-1)) kind s ∧ (l.append (d.knob (-1) (-1)) kind s).2.1.down = false) := ⟨hR, by rw [← hR]; exact hup⟩
  have HM : Hid (m = b.all.length) := hm
  clear h hmet hk hm hID hsD hpow hI1 hs1 hbl1 hmet1 hpow1 hf2 hsg hup hR hRe
  go_enter Tryz.func32, Tryz.ntmps32
  go_wp2_with fail
  rw [← hW1]
  clear hW1 c0 c1 c7 z0 z3 z5 z7 z8 z9 z10
  go_region_held3 (fun w' => w'.cell? ⟨bp, 0, none⟩ = some (.pointer (some ⟨hp, 0, none⟩)) ∧ w'.cell? ⟨w.heap.size, 3, none⟩ = some (.int .i64 nn) ∧ w'.cell? ⟨w.heap.size, 5, none⟩ = some (.string s) ∧ w'.cell? ⟨w.heap.size, 7, none⟩ = some (.int .i64 (-1)) ∧ w'.cell? ⟨w.heap.size, 8, none⟩ = some (.int .i64 (-1)) ∧ w'.cell? ⟨w.heap.size, 9, none⟩ = some (.int .i64 0) ∧ w'.cell? ⟨w.heap.size, 10, none⟩ = some (.int .i64 0))
    (simp [*])
    (first | (go_at_call 15; refine (hAppend B hp lp p bD bN n kind s l d (-1) (-1) 0 0 W1.drew HI.out.1.host hB HI.out.2.2.1 hkd (by omega) HV.out HI.out.2.2.2.2 HR.out.2).mono ?_; rw [← HR.out.1]; rintro e w2 ⟨rfl, hh2, ho2⟩; have hI2 := HI.out.1.afterHost hh2 ho2; have hs2 := HI.out.1.keepO ho2 HI.out.2.2.2.1 (by decide) (by decide) (by decide) (by decide) (by decide); have k0 := blk_cell hI2.blk 0; have k1 := blk_cell hI2.blk 1; have k7 := blk_cell hI2.blk 7; have f1 := blk_free hI2.blk 1; have v3 := blk_cell hs2 3; have v5 := blk_cell hs2 5; have v7 := blk_cell hs2 7; have v8 := blk_cell hs2 8; have v9 := blk_cell hs2 9; have v10 := blk_cell hs2 10; simp at k0 k1 k7 v3 v5 v7 v8 v9 v10; have H2 : Hid (BookIn w2 B bp hp lp p bD bN (.slice a0 b.all.length ac) b R.1 (R.2.1.knob (-1) (-1)) (n + 3) ∧ OFr lp p W1.drew w2 ∧ w2.heap[w.heap.size]? = some (stepO 4 txn sq nn key s ao x y (-1) (-1) 0 0)) := ⟨hI2, ho2, hs2⟩; clear hI2 ho2 hh2 hs2))
  rw [← HM.out] at k1
  clear d0 d1 d7 y0 y3 y5 y7 y8 y9 y10
  rw [show R.2.2.1 = 0 by rw [HG.out.1], show R.2.2.2 = 1 by rw [HG.out.1]]
  have hdone : Calls Tryz.prog 62 #[.pointer (some ⟨bp, 0, none⟩), .int .i64 1, .int .i64 1] w2 fun ev w' => ev = .returned (.tuple #[.bool false, .bool true]) ∧ w' = w2 := by
    have := done_ok bp hp 1 _ b w2 H2.out.1.blk
    simpa using this
  have HD : Hid (Calls Tryz.prog 62 #[.pointer (some ⟨bp, 0, none⟩), .int .i64 1, .int .i64 1] w2 fun ev w' => ev = .returned (.tuple #[.bool false, .bool true]) ∧ w' = w2) := hdone
  clear hdone
  go_wp2_with fail
  refine HD.out.mono ?_
  rintro e w3 ⟨rfl, rfl⟩
  go_wp2
  go_ret
  have hf : Fr [] w3 (w3.alloc (.cells #[.int .u64 ((m : Int) + 1), .int .u8 (kind : Int), .string s] 44)) := (Fr.refl [] w3).alloc _
  have hB2 := (H2.out.1.newB hf).mores (m := n + 600) (by omega) (by omega)
  rw [HG.out.1] at hB2
  exact ⟨rfl, ⟨_, _, _, _, _, _, t, hB2, (HG.out.2.knob (-1) (-1)).knob (-1) (-1), by omega, by omega⟩, (HI.out.2.1.trans (HI.out.1.ofrB H2.out.2.1)).trans (hf.below H2.out.1.lowB (by simp))⟩
end Go.Proofs.YtkcehofpdmegoaaGreatDoor
/- (*book).step: Append of a record that is not too big. (Written by mkstep4.py.) -/
namespace Go.Proofs.YtkcehofpdmegoaaGreatDoor
open Go.RowKit
open Sc

theorem LogIn.foreign {w W : World} {B lp p bD bN n nD nN : Nat} {pv sv rv : Value} {l : ALog} {d : ADisk} {S : List Nat} (h : LogIn w B lp p bD bN pv sv rv l d n nD nN) (hf : Fr S w W) (hS : ∀ k ∈ S, ¬ Own lp p w k ∧ ∀ t, w.heap[k]? ≠ some (textO t)) : LogIn W B lp p bD bN pv sv rv l d n nD nN := by
  have key : ∀ k, Own lp p w k → k ∉ S := fun k hk hm => (hS k hm).1 hk
  refine h.turned (h.disk.fr hf (key p ((h.own p).2 (by simp))) (key bD ((h.own bD).2 (by simp))) (key bN ((h.own bN).2 (by simp))) (fun g hg => key g ((h.own g).2 (by simp [hg]))) (fun q hq => (hS q hq).2)) hf ?_ (Nat.le_refl _)
  intro k hk _
  have := (hS k hk).1
  rw [h.own] at this
  simp only [not_or] at this
  exact ⟨this.1, this.2.2.2.2.2.1, this.2.2.2.2.2.2⟩
theorem BookIn.allApp {w w4 : World} {B bp hp lp p bD bN n : Nat} {av v4 : Value} {b : ABook} {l : ALog} {d : ADisk} {ob : Obj} {r : Rec} (h : BookIn w B bp hp lp p bD bN av b l d n) (hg : (w.alloc ob).drew.grownBy w4 av.ownBlock) (ho : w4.ownsRow B 44 3 v4 (b.all.length + 1) (recsV (b.all ++ [r]))) (hnr : Near w.heap.size av v4) (hlen : b.all.length + 1 ≤ 1048576) :
    BookIn (w4.setCell ⟨bp, 1, none⟩ v4) B bp hp lp p bD bN v4 { b with all := b.all ++ [r] } l d n ∧ Below B w (w4.setCell ⟨bp, 1, none⟩ v4) := by
  obtain ⟨hh, pv, sv, rv, nD, nN, hl⟩ := h.host
  have hbpl := (Array.getElem?_eq_some_iff.1 h.blk).1
  have hfg : Fr av.ownBlock.toList w w4 := (((Fr.refl _ w).alloc _).drew).trans (Fr.of_grown hg)
  have hb4 : w4.heap[bp]? = some (bookO hp av b) := (hfg.block bp hbpl (by simp; exact own_ne h.all h.blk (by decide))).trans h.blk
  obtain ⟨W, hW⟩ : ∃ W, W = w4.setCell ⟨bp, 1, none⟩ v4 := ⟨_, rfl⟩
  rw [← hW]
  have hfw : Fr [bp] w4 W := by rw [hW]; exact Fr.set1 (by simp) _ _
  have hf : Fr (bp :: av.ownBlock.toList) w W := (hfg.mono (fun k _ hk => List.mem_cons_of_mem _ hk)).trans (hfw.mono (by intro k _ hk; simp at hk; simp [hk]))
  have hb : W.heap[bp]? = some (bookO hp v4 { b with all := b.all ++ [r] }) := by
    rw [hW]
    have := blk_set hb4 1 v4
    simp at this ⊢
    exact this
  have hr : W.ownsRow B 44 3 v4 (b.all ++ [r]).length (recsV (b.all ++ [r])) := by
    have := ownsRow_fr ho hfw (fun g hg => by simp; intro e; subst e; exact own_ne ho hb4 (by decide) hg)
    simpa using this
  have hS : ∀ k ∈ bp :: av.ownBlock.toList, ¬ Own lp p w k ∧ ∀ t, w.heap[k]? ≠ some (textO t) := by
    intro k hk
    rcases List.mem_cons.1 hk with e | hk
    · subst e
      exact ⟨hl.free h.blk (by decide) (by decide) (by decide) (by decide) (by decide), fun t => by rw [h.blk]; intro e; cases e⟩
    · simp at hk
      obtain ⟨c, hc⟩ := own_cells h.all hk
      exact ⟨h.sep k hk, fun t => by rw [hc]; intro e; cases e⟩
  have hl' := hl.foreign hf hS
  have hhne : hp ∉ bp :: av.ownBlock.toList := by
    intro hm
    rcases List.mem_cons.1 hm with e | hm
    · rw [e, h.blk] at hh; cases hh
    · simp at hm; exact own_ne h.all hh (by decide) hm
  refine ⟨⟨⟨(hf.block hp (Array.getElem?_eq_some_iff.1 hh).1 hhne).trans hh, pv, sv, rv, nD, nN, hl'⟩, h.base, hb, hr, ?_, by simpa using hlen, h.nums⟩, hf.below h.lowB ?_⟩
  · intro k hk hO
    have hO' : Own lp p w k := by rw [hl.own]; rw [hl'.own] at hO; exact hO
    rcases hnr k hk with e | e
    · exact h.sep k e hO'
    · have := hl.ltO hO'; omega
  · intro k hk
    rcases List.mem_cons.1 hk with e | hk
    · rw [e]; exact h.base.1
    · simp at hk; exact (h.all.lt k hk).1
set_option maxRecDepth 100000 in
set_option maxHeartbeats 8000000 in
theorem step_app (B bp hp lp p bD bN n fst t txn x y kind m : Nat) (sq nn : Int) (key s : ByteArray) (ao : Option Addr) (av : Value) (b : ABook) (l : ALog) (d : ADisk) (cs : List (List Rec)) (w : World) (h : BookIn w B bp hp lp p bD bN av b l d n) (hk : BookOk b l d fst cs t) (hB : 2 ≤ B) (hmet : Met w) (hpow : Pows w) (hn : n + 600 ≤ 67108864) (hkd : kind < 256) (hwr : IntKind.u8.wrap nn = (kind : Int)) (hm : m = b.all.length) (hs : s.size ≤ 255) (hml : m + 1 ≤ 1048576) :
    Calls Tryz.prog 32 #[.pointer (some ⟨bp, 0, none⟩), stepV 4 txn sq nn key s ao x y (-1) (-1) 0 0] w (StepPost B bp hp lp p bD bN (n + 600) t (15 + s.size) b w) := by
  have hal := own_sl h.all
  obtain ⟨a0, am, ac, hav⟩ := hal
  have ham : am = b.all.length := by
    rcases h.all.2 with ⟨e, h0⟩ | ⟨g, cap, cur, e, _⟩
    · rw [hav] at e; cases e; exact h0.symm
    · rw [hav] at e; cases e; rfl
  subst ham
  subst hav
  obtain ⟨W1, hW1⟩ : ∃ W1, W1 = w.alloc (stepO 4 txn sq nn key s ao x y (-1) (-1) 0 0) := ⟨_, rfl⟩
  have hf2 : Fr [] w W1 := by rw [hW1]; exact (Fr.refl [] w).alloc _
  have hI1 := h.newB hf2
  have hs1 : W1.heap[w.heap.size]? = some (stepO 4 txn sq nn key s ao x y (-1) (-1) 0 0) := by rw [hW1]; exact heap_alloc_new w _
  have hlen := h.len
  have hbpl := (Array.getElem?_eq_some_iff.1 h.blk).1
  have c0 := blk_cell hI1.blk 0
  have c1 := blk_cell hI1.blk 1
  have c7 := blk_cell hI1.blk 7
  have z0 := blk_cell hs1 0
  have z3 := blk_cell hs1 3
  have z5 := blk_cell hs1 5
  have z7 := blk_cell hs1 7
  have z8 := blk_cell hs1 8
  have z9 := blk_cell hs1 9
  have z10 := blk_cell hs1 10
  simp at c0 c1 c7 z0 z3 z5 z7 z8 z9 z10
  rw [← hm] at c1 hlen
  have d0 := c0
  have d1 := c1
  have d7 := c7
  have y0 := z0
  have y3 := z3
  have y5 := z5
  have y7 := z7
  have y8 := z8
  have y9 := z9
  have y10 := z10
  rw [hW1] at c0 c1 c7 z0 z3 z5 z7 z8 z9 z10
  have hbl1 : Below B w W1 := hf2.below h.lowB (by simp)
  have hmet1 : Met W1 := hmet.below hbl1 (by omega)
  have hpow1 : Pows W1 := hpow.of_block (hbl1.block 1 (by omega))
  have hID : BookIn W1.drew B bp hp lp p bD bN (.slice a0 b.all.length ac) b l d n := hI1.newB ((Fr.refl [] W1).drew)
  have hsD : W1.drew.heap[w.heap.size]? = some (stepO 4 txn sq nn key s ao x y (-1) (-1) 0 0) := hs1
  have HI : Hid (BookIn W1.drew B bp hp lp p bD bN (.slice a0 b.all.length ac) b l d n ∧ Below B w W1.drew ∧ Met W1.drew ∧ W1.drew.heap[w.heap.size]? = some (stepO 4 txn sq nn key s ao x y (-1) (-1) 0 0) ∧ Pows W1.drew) := ⟨hID, hbl1.drew, hmet1, hsD, hpow1⟩
  obtain ⟨R, hR⟩ : ∃ R, R = l.append (d.knob (-1) (-1)) kind s := ⟨_, rfl⟩
  have hap := (hk.knob (-1) (-1)).append (knob_well hk.up) (by omega) kind s hs
  rw [← hR, ← hm] at hap
  obtain ⟨r1, r2, cs', r3⟩ := hap
  have HG : Hid (R.2.2.1 = m + 1 ∧ R.2.2.2 = 0 ∧ BookOk { b with all := b.all ++ [⟨m + 1, kind, bytesOf s⟩] } R.1 R.2.1 fst cs' (t + 15 + s.size)) := ⟨r1, r2, r3⟩
  have hup : R.2.1.down = false := r3.up
  clear r1 r2 r3
  have hsg : l.filled < 600 → l.segs ≠ [] := fun hf => hk.log.segsNe hf
  have HV : Hid (l.filled < 600 → l.segs ≠ []) := hsg
  have HR : Hid (R = l.append (d.knob (-1) (-1)) kind s ∧ (l.append (d.knob (-1) (-1)) kind s).2.1.down = false) := ⟨hR, by rw [← hR]; exact hup⟩
  have HM : Hid (m = b.all.length) := hm
  clear h hmet hk hm hID hsD hpow hI1 hs1 hbl1 hmet1 hpow1 hf2 hsg hup hR
  go_enter Tryz.func32, Tryz.ntmps32
  go_wp2_with fail
  rw [← hW1]
  clear hW1 c0 c1 c7 z0 z3 z5 z7 z8 z9 z10
  go_region_held3 (fun w' => w'.cell? ⟨bp, 0, none⟩ = some (.pointer (some ⟨hp, 0, none⟩)) ∧ w'.cell? ⟨w.heap.size, 3, none⟩ = some (.int .i64 nn) ∧ w'.cell? ⟨w.heap.size, 5, none⟩ = some (.string s) ∧ w'.cell? ⟨w.heap.size, 7, none⟩ = some (.int .i64 (-1)) ∧ w'.cell? ⟨w.heap.size, 8, none⟩ = some (.int .i64 (-1)) ∧ w'.cell? ⟨w.heap.size, 9, none⟩ = some (.int .i64 0) ∧ w'.cell? ⟨w.heap.size, 10, none⟩ = some (.int .i64 0))
    (simp [*])
    (first | (go_at_call 15; refine (hAppend B hp lp p bD bN n kind s l d (-1) (-1) 0 0 W1.drew HI.out.1.host hB HI.out.2.2.1 hkd (by omega) HV.out HI.out.2.2.2.2 HR.out.2).mono ?_; rw [← HR.out.1]; rintro e w2 ⟨rfl, hh2, ho2⟩; have hI2 := HI.out.1.afterHost hh2 ho2; have hs2 := HI.out.1.keepO ho2 HI.out.2.2.2.1 (by decide) (by decide) (by decide) (by decide) (by decide); have k0 := blk_cell hI2.blk 0; have k1 := blk_cell hI2.blk 1; have k7 := blk_cell hI2.blk 7; have f1 := blk_free hI2.blk 1; have v3 := blk_cell hs2 3; have v5 := blk_cell hs2 5; have v7 := blk_cell hs2 7; have v8 := blk_cell hs2 8; have v9 := blk_cell hs2 9; have v10 := blk_cell hs2 10; simp at k0 k1 k7 v3 v5 v7 v8 v9 v10; have H2 : Hid (BookIn w2 B bp hp lp p bD bN (.slice a0 b.all.length ac) b R.1 (R.2.1.knob (-1) (-1)) (n + 3) ∧ OFr lp p W1.drew w2 ∧ w2.heap[w.heap.size]? = some (stepO 4 txn sq nn key s ao x y (-1) (-1) 0 0)) := ⟨hI2, ho2, hs2⟩; clear hI2 ho2 hh2 hs2))
  rw [← HM.out] at k1
  clear d0 d1 d7 y0 y3 y5 y7 y8 y9 y10
  rw [show R.2.2.1 = m + 1 from HG.out.1, show R.2.2.2 = 0 from HG.out.2.1]
  have hdone : Calls Tryz.prog 62 #[.pointer (some ⟨bp, 0, none⟩), .int .i64 0, .int .i64 0] w2 fun ev w' => ev = .returned (.tuple #[.bool true, .bool true]) ∧ w' = w2 := by
    have := done_ok bp hp 0 _ b w2 H2.out.1.blk
    simpa using this
  have HD : Hid (Calls Tryz.prog 62 #[.pointer (some ⟨bp, 0, none⟩), .int .i64 0, .int .i64 0] w2 fun ev w' => ev = .returned (.tuple #[.bool true, .bool true]) ∧ w' = w2) := hdone
  clear hdone
  go_wp2_with fail
  refine HD.out.mono ?_
  rintro e w3 ⟨rfl, rfl⟩
  obtain ⟨W9, hW9⟩ : ∃ W9, W9 = w3.alloc (.cells #[.int .u64 ((m : Int) + 1), .int .u8 (kind : Int), .string s] 44) := ⟨_, rfl⟩
  have hf9 : Fr [] w3 W9 := by rw [hW9]; exact (Fr.refl [] w3).alloc _
  have h9 := H2.out.1.newB hf9
  have hr9 : W9.heap[w3.heap.size]? = some (.cells #[.int .u64 ((m : Int) + 1), .int .u8 (kind : Int), .string s] 44) := by rw [hW9]; exact heap_alloc_new w3 _
  have hbl9 : Below B w W9 := (HI.out.2.1.trans (HI.out.1.ofrB H2.out.2.1)).trans (hf9.below H2.out.1.lowB (by simp))
  have H9 : Hid (BookIn W9 B bp hp lp p bD bN (.slice a0 b.all.length ac) b R.1 (R.2.1.knob (-1) (-1)) (n + 3) ∧ Below B w W9) := ⟨h9, hbl9⟩
  clear k0 k1 k7 f1 v3 v5 v7 v8 v9 v10
  have k1 := blk_cell h9.blk 1
  have f1 := blk_free h9.blk 1
  have r0 := blk_cell hr9 0
  have r1 := blk_cell hr9 1
  have r2 := blk_cell hr9 2
  simp at k1 r0 r1 r2
  rw [← HM.out] at k1
  have hz9 : bp < W9.heap.size := (Array.getElem?_eq_some_iff.1 h9.blk).1
  have hrow9 := h9.all
  rw [← HM.out] at hrow9
  have HW9 : Hid (W9.ownsRow B 44 3 (.slice a0 m ac) m (recsV b.all)) := hrow9
  have hstr : str (bytesOf s) = s := strOf_bytes s
  have k1' : ∀ ob, (W9.alloc ob).cell? ⟨bp, 1, none⟩ = some (.slice a0 m ac) := fun ob => (World.cell?_of_block (a := ⟨bp, 1, none⟩) (Below.heap_alloc W9 ob bp hz9)).trans k1
  clear hf9 h9 hr9 hbl9 hrow9
  have y3 := blk_cell H2.out.2.2 3
  have y5 := blk_cell H2.out.2.2 5
  simp at y3 y5
  go_wp2_with fail
  rw [← hW9]
  clear hW9 y3 y5
  go_cut [77] from 70 to 79 (fun _ wx => ∃ avx, BookIn wx B bp hp lp p bD bN avx { b with all := b.all ++ [⟨m + 1, kind, bytesOf s⟩] } R.1 (R.2.1.knob (-1) (-1)) (n + 3) ∧ Below B w wx)
  case first =>
    go_region_law (first | (rw [if_pos (by rfl)]; refine wp_recat _ _ rfl B (.slice a0 m ac) m b.all ⟨m + 1, kind, bytesOf s⟩ W9.heap.size rfl ?_ rfl ?_ ?_ ?_ ?_ ?_ ?_; (exact HW9.out.alloc _); (simp); (simp); (simp [hstr]); (omega); (have := H9.out.1.lowB; simp; omega); intro v4 w4 ho4 hg4 hl4; obtain ⟨q4, cap4, rfl⟩ := own_some ho4; have q1 : w4.cell? ⟨bp, 1, none⟩ = some (.slice a0 m ac) := (World.cell?_of_block (a := ⟨bp, 1, none⟩) (hg4.block bp (by simp; omega) (fun e => own_ne HW9.out H9.out.1.blk (by decide) e.symm))).trans (k1' _); have q2 : w4.frozen? ⟨bp, 1, none⟩ = false := (World.frozen?_of_block (a := ⟨bp, 1, none⟩) ((hg4.block bp (by simp; omega) (fun e => own_ne HW9.out H9.out.1.blk (by decide) e.symm)).trans (Below.heap_alloc W9 _ bp hz9))).trans f1; have HL4 : Hid (Near W9.heap.size (.slice a0 m ac) (.slice (some ⟨q4, 0, none⟩) (m + 1) cap4)) := Near.of_at hl4 (by simp); clear hl4))
    all_goals (
      go_wp2_with fail
      go_meet
      case rel =>
        obtain ⟨t1, t2⟩ := H9.out.1.allApp (r := ⟨m + 1, kind, bytesOf s⟩) (by rw [← HM.out]; exact hg4) (by rw [← HM.out]; exact ho4) (by rw [← HM.out]; exact HL4.out) (by rw [← HM.out]; exact hml)
        exact ⟨_, t1, H9.out.2.trans t2⟩)
  case rest =>
    obtain ⟨avx, hbx, hblx⟩ := hcut
    have HX : Hid (BookIn wc B bp hp lp p bD bN avx { b with all := b.all ++ [⟨m + 1, kind, bytesOf s⟩] } R.1 (R.2.1.knob (-1) (-1)) (n + 3) ∧ Below B w wc) := ⟨hbx, hblx⟩
    clear hbx hblx
    go_wp2
    go_ret
    exact ⟨rfl, ⟨_, _, _, _, _, _, t + 15 + s.size, HX.out.1.mores (by omega) (by omega), HG.out.2.2.knob (-1) (-1), by omega, by simp⟩, HX.out.2⟩
end Go.Proofs.YtkcehofpdmegoaaGreatDoor
/- (*book).step, whatever it is; small; Well. -/
namespace Go.Proofs.YtkcehofpdmegoaaGreatDoor
open Go.RowKit
open Sc

theorem u64wrap (z : Int) : ∃ k : Nat, k < 18446744073709551616 ∧ IntKind.u64.wrap z = (k : Int) := by
  have h : 0 ≤ IntKind.u64.wrap z ∧ IntKind.u64.wrap z < 18446744073709551616 := by
    simp [IntKind.wrap, IntKind.signed, IntKind.bits]; omega
  exact ⟨(IntKind.u64.wrap z).toNat, by omega, by omega⟩
theorem u8wrap (z : Int) : ∃ k : Nat, k < 256 ∧ IntKind.u8.wrap z = (k : Int) := by
  have h : 0 ≤ IntKind.u8.wrap z ∧ IntKind.u8.wrap z < 256 := by
    simp [IntKind.wrap, IntKind.signed, IntKind.bits]; omega
  exact ⟨(IntKind.u8.wrap z).toNat, by omega, by omega⟩
theorem StepPost.mono {B bp hp lp p bD bN n n' t sz sz' : Nat} {b : ABook} {w w' : World} {e : Ending} (h : StepPost B bp hp lp p bD bN n t sz b w e w') (hn : n ≤ n') (hn' : n' ≤ 67108864) (hs : sz ≤ sz') : StepPost B bp hp lp p bD bN n' t sz' b w e w' := by
  obtain ⟨h1, ⟨av', b', l', d', fst', cs', t', h2, h3, h4, h5⟩, h6⟩ := h
  exact ⟨h1, ⟨av', b', l', d', fst', cs', t', h2.mores hn hn', h3, by omega, h5⟩, h6⟩
theorem step_any (B bp hp lp p bD bN n fst t txn x y : Nat) (kd sq nn : Int) (key s : ByteArray) (ao : Option Addr) (av : Value) (b : ABook) (l : ALog) (d : ADisk) (cs : List (List Rec)) (w : World) (h : BookIn w B bp hp lp p bD bN av b l d n) (hk : BookOk b l d fst cs t) (hB : 2 ≤ B) (hmet : Met w) (hpow : Pows w) (hn : n + 600 ≤ 67108864) (ht : t ≤ 300000) (hml : b.all.length + 1 ≤ 1048576) (hs : s.size ≤ 16384) :
    Calls Tryz.prog 32 #[.pointer (some ⟨bp, 0, none⟩), stepV kd txn sq nn key s ao x y (-1) (-1) 0 0] w (StepPost B bp hp lp p bD bN (n + 600) t (15 + s.size) b w) := by
  by_cases h4 : kd = 4
  · subst h4
    obtain ⟨kind, hk1, hk2⟩ := u8wrap nn
    by_cases hb : 255 < s.size
    · exact (step_big B bp hp lp p bD bN n fst t txn x y kind b.all.length sq nn key s ao av b l d cs w h hk hB hmet hpow hn hk1 hk2 rfl hb hs).mono fun e w' hp => hp.mono (Nat.le_refl _) hn (by omega)
    · exact step_app B bp hp lp p bD bN n fst t txn x y kind b.all.length sq nn key s ao av b l d cs w h hk hB hmet hpow hn hk1 hk2 rfl (by omega) hml
  by_cases h5 : kd = 5
  · subst h5
    exact (step_force B bp hp lp p bD bN n fst t txn x y sq nn key s ao av b l d cs w h hk hB hmet (by omega)).mono fun e w' hp => hp.mono (by omega) hn (by omega)
  by_cases h6 : kd = 6
  · subst h6
    obtain ⟨Lw, hL1, hL2⟩ := u64wrap ((b.all.length : Int) + 1 - IntKind.u64.wrap sq)
    by_cases hA : (b.all.length : Int) + 1 < (Lw : Int)
    · by_cases hT : (b.tries : Int) < (b.all.length : Int) + 1
      · exact (step_cut_11 B bp hp lp p bD bN n fst t txn x y sq nn key s ao av b l d cs w h hk hB hmet hpow hn ht Lw b.all.length hL1 hL2 rfl hA hT).mono fun e w' hp => hp.mono (Nat.le_refl _) hn (by omega)
      · exact (step_cut_10 B bp hp lp p bD bN n fst t txn x y sq nn key s ao av b l d cs w h hk hB hmet hpow hn ht Lw b.all.length hL1 hL2 rfl hA hT).mono fun e w' hp => hp.mono (Nat.le_refl _) hn (by omega)
    · by_cases hT : (b.tries : Int) < (Lw : Int)
      · exact (step_cut_01 B bp hp lp p bD bN n fst t txn x y sq nn key s ao av b l d cs w h hk hB hmet hpow hn ht Lw b.all.length hL1 hL2 rfl hA hT).mono fun e w' hp => hp.mono (Nat.le_refl _) hn (by omega)
      · exact (step_cut_00 B bp hp lp p bD bN n fst t txn x y sq nn key s ao av b l d cs w h hk hB hmet hpow hn ht Lw b.all.length hL1 hL2 rfl hA hT).mono fun e w' hp => hp.mono (Nat.le_refl _) hn (by omega)
  · exact (step_none B bp hp lp p bD bN n fst t txn x y kd sq nn key s ao av b l d cs w h hk ⟨h4, h5, h6⟩).mono fun e w' hp => hp.mono (by omega) hn (by omega)
/-- a step of a script -/
structure AStep where
  kd : Int
  txn : Nat
  sq : Int
  nn : Int
  key : ByteArray
  s : ByteArray
  sa : Option Addr
  sx : Nat
  sy : Nat
  f1 : Int
  f2 : Int
  f3 : Int
  f4 : Int
def StepCells (w : World) (b o : Nat) (a : AStep) : Prop :=
  w.cell? ⟨b, o, none⟩ = some (.int .i64 a.kd) ∧ w.cell? ⟨b, o + 1, none⟩ = some (.int .u64 (a.txn : Int)) ∧ w.cell? ⟨b, o + 2, none⟩ = some (.int .i64 a.sq) ∧ w.cell? ⟨b, o + 3, none⟩ = some (.int .i64 a.nn) ∧ w.cell? ⟨b, o + 4, none⟩ = some (.string a.key) ∧ w.cell? ⟨b, o + 5, none⟩ = some (.string a.s) ∧ w.cell? ⟨b, o + 6, none⟩ = some (.slice a.sa a.sx a.sy) ∧
  w.cell? ⟨b, o + 7, none⟩ = some (.int .i64 a.f1) ∧ w.cell? ⟨b, o + 8, none⟩ = some (.int .i64 a.f2) ∧ w.cell? ⟨b, o + 9, none⟩ = some (.int .i64 a.f3) ∧ w.cell? ⟨b, o + 10, none⟩ = some (.int .i64 a.f4)
def StepsAt (w : World) (v : Value) (L : List AStep) : Prop :=
  L.length ≤ 281474976710656 ∧ ∃ ao cap, v = .slice ao L.length cap ∧ ∀ i a, L[i]? = some a → (∃ b off, ao = some ⟨b, off, none⟩ ∧ b < w.heap.size ∧ StepCells w b (off + i * 11) a) ∧ a.key.size ≤ 281474976710656 ∧ a.s.size ≤ 281474976710656 ∧ a.sx ≤ 281474976710656
theorem StepCells.below {w w' : World} {b o B : Nat} {a : AStep} (h : StepCells w b o a) (hb : Below B w w') (hlt : b < B) : StepCells w' b o a := by
  obtain ⟨h0, h1, h2, h3, h4, h5, h6, h7, h8, h9, h10⟩ := h
  exact ⟨(hb.cell (p := ⟨b, o, none⟩) hlt).trans h0, (hb.cell (p := ⟨b, o + 1, none⟩) hlt).trans h1, (hb.cell (p := ⟨b, o + 2, none⟩) hlt).trans h2, (hb.cell (p := ⟨b, o + 3, none⟩) hlt).trans h3, (hb.cell (p := ⟨b, o + 4, none⟩) hlt).trans h4, (hb.cell (p := ⟨b, o + 5, none⟩) hlt).trans h5, (hb.cell (p := ⟨b, o + 6, none⟩) hlt).trans h6, (hb.cell (p := ⟨b, o + 7, none⟩) hlt).trans h7, (hb.cell (p := ⟨b, o + 8, none⟩) hlt).trans h8, (hb.cell (p := ⟨b, o + 9, none⟩) hlt).trans h9, (hb.cell (p := ⟨b, o + 10, none⟩) hlt).trans h10⟩
/-- what a script weighs -/
def AStep.wt (a : AStep) : Nat := a.key.size + a.s.size + a.sx
def sumW : List AStep → Nat
  | [] => 0
  | a :: L => a.wt + sumW L
theorem sumW_app (K L : List AStep) : sumW (K ++ L) = sumW K + sumW L := by
  induction K with
  | nil => simp [sumW]
  | cons a K ih => simp [sumW, ih]; omega
theorem sumW_take (L : List AStep) (k : Nat) : sumW (L.take k) ≤ sumW L := by
  have := sumW_app (L.take k) (L.drop k)
  rw [List.take_append_drop] at this
  omega
theorem sumW_snoc {L : List AStep} {k : Nat} {a : AStep} (h : L[k]? = some a) : sumW (L.take (k + 1)) = sumW (L.take k) + a.wt := by
  rw [List.take_add_one, h, sumW_app]; simp [sumW]
set_option maxHeartbeats 1000000 in
theorem well_any (w : World) : Calls Tryz.prog 13 #[] w fun e w' => e = .returned (fallV (-1) (-1) 0 0) ∧ Below w.heap.size w w' := by
  go_enter Tryz.func13, Tryz.ntmps13
  go_wp2
  refine bodyPost_ret (v := fallV (-1) (-1) 0 0) (by simp [results, Tryz.results13, go_sem]) rfl ⟨rfl, (Below.refl _ _).alloc (Nat.le_refl _) _⟩
set_option maxRecDepth 100000 in
set_option maxHeartbeats 4000000 in
theorem small_any (v : Value) (L : List AStep) (w : World) (h : StepsAt w v L) :
    Calls Tryz.prog 28 #[v] w fun e w' => e = .returned (.bool (decide (L.length + sumW L ≤ 16384))) ∧ ∃ q, w' = w.drewN q := by
  obtain ⟨hlen, ao, cap, rfl, hc⟩ := h
  obtain ⟨m, hm⟩ : ∃ m, m = L.length := ⟨_, rfl⟩
  rw [← hm] at hlen ⊢
  have HM : Hid (m = L.length) := hm
  have HC : Hid (∀ i a, L[i]? = some a → (∃ b off, ao = some ⟨b, off, none⟩ ∧ b < w.heap.size ∧ StepCells w b (off + i * 11) a) ∧ a.key.size ≤ 281474976710656 ∧ a.s.size ≤ 281474976710656 ∧ a.sx ≤ 281474976710656) := hc
  clear hm hc
  go_enter Tryz.func28, Tryz.ntmps28
  go_wp2
  go_loopw [3, 4] (fun n i wr => ∃ k : Nat, k ≤ m ∧ i = .int .i64 (k : Int) ∧ n = .int .i64 ((m + sumW (L.take k) : Nat) : Int) ∧ (k = 0 ∨ m + sumW (L.take (k - 1)) ≤ 16384) ∧ ∃ q, wr = w.drewN q) (fun _ i _ => m - (intOf i).toNat)
  case atStart => exact ⟨0, Nat.zero_le _, rfl, by simp [sumW], .inl rfl, 0, rfl⟩
  case round =>
    obtain ⟨k, hk, rfl, rfl, hpr, q, rfl⟩ := hrel
    have hsz : ∀ j, m + sumW (L.take j) ≤ m + sumW L := fun j => by have := sumW_take L j; omega
    by_cases hkm : k < m
    · obtain ⟨a, ha⟩ : ∃ a, L[k]? = some a := ⟨_, List.getElem?_eq_getElem (by have := HM.out; omega)⟩
      obtain ⟨⟨b, off, rfl, hb, h0, h1, h2, h3, h4, h5, h6, h7, h8, h9, h10⟩, w1, w2, w3⟩ := HC.out k a ha
      have hsn := sumW_snoc ha
      have HT : Hid (sumW (L.take (k + 1)) = sumW (L.take k) + a.wt ∧ m + sumW (L.take k) ≤ m + sumW L ∧ m + sumW (L.take (k + 1)) ≤ m + sumW L) := ⟨hsn, hsz k, hsz (k + 1)⟩
      by_cases hle : m + sumW (L.take k) ≤ 16384
      · have HW : Hid (a.wt = a.key.size + a.s.size + a.sx) := rfl
        generalize hz : sumW (L.take k) = z at hle HT ⊢
        have HZ : Hid (sumW (L.take k) = z) := hz
        clear hz hsn hsz hpr h0 h1 h2 h3 h7 h8 h9 h10
        have i0 : (0 : Int) ≤ (k : Int) := by omega
        have i1 : (k : Int) < (m : Int) := by omega
        go_wp2
        go_quiet (fail)
        go_wp2
        go_roundw
        case rel => exact ⟨k + 1, by omega, by go_num, by rw [HT.out.1, HW.out]; congr 1; omega, .inr (by simpa [HZ.out] using hle), _, rfl⟩
        case measure => simp [intOf]; omega
      · have hbig : ¬ m + sumW L ≤ 16384 := by have := HT.out; omega
        have hdd : decide (m + sumW L ≤ 16384) = false := decide_eq_false hbig
        generalize hz : sumW (L.take k) = z at hle HT ⊢
        clear hz hsn hsz hpr h0 h1 h2 h3 h4 h5 h6 h7 h8 h9 h10
        go_wp2
        go_ret
        have hd2 : decide ((m : Int) + (z : Int) ≤ 16384) = false := decide_eq_false (by omega)
        refine ⟨?_, q, rfl⟩
        rw [hdd]
        show Ending.returned (Value.bool (decide ((m : Int) + (z : Int) ≤ 16384))) = _
        rw [hd2]
    · obtain rfl : k = m := by omega
      have hall : L.take k = L := by rw [HM.out, List.take_length]
      rw [hall]
      clear hsz hpr
      generalize hz : sumW L = z
      have HZ : Hid (sumW L = z) := hz
      clear hz hall
      go_wp2
      go_ret
      refine ⟨?_, q, rfl⟩
      show Ending.returned (Value.bool (decide ((k : Int) + (z : Int) ≤ 16384))) = _
      rw [HZ.out]
      congr 2
      exact decide_eq_decide.2 (by omega)
end Go.Proofs.YtkcehofpdmegoaaGreatDoor
/- THE SCRIPT over a log, the disk being well. -/
namespace Go.Proofs.YtkcehofpdmegoaaGreatDoor
open Go.RowKit
open Sc

/-- between two steps -/
def LogsIn (w : World) (B bp hp lp p bD bN k W : Nat) (wr : World) : Prop :=
  ∃ av b l d fst cs t n, BookIn wr B bp hp lp p bD bN av b l d n ∧ BookOk b l d fst cs t ∧ t ≤ 15 * k + W ∧ b.all.length ≤ k ∧ n ≤ 4 + 600 * k ∧ Below B w wr
theorem opens_well {d : ADisk} (h : d.down = false) : ((log0 1).opens (d.knob (-1) (-1))).2.2 = 0 ∧ ((log0 1).opens (d.knob (-1) (-1))).1 = ⟨[], 600, [], 1, 1, 0⟩ ∧ ((log0 1).opens (d.knob (-1) (-1))).2.1.down = false := by
  have hw := knob_well h
  obtain ⟨a1, a2, a3⟩ := syncW hw (by omega)
  have e : (log0 1).sync (d.knob (-1) (-1)) = ({ log0 1 with durable := (log0 1).next }, (d.knob (-1) (-1)).sync.1, 0) := by
    unfold ALog.sync; rw [if_pos a1]
  obtain ⟨b1, b2, b3⟩ := syncW a2 (by omega)
  have e2 : (log0 1).opens (d.knob (-1) (-1)) = ({ log0 1 with durable := (log0 1).next }, (d.knob (-1) (-1)).sync.1.sync) := by
    unfold ALog.opens; rw [e]; simp [ADisk.removeAll]
  rw [e2]
  exact ⟨b1, rfl, b2.up⟩
theorem book_first (d : ADisk) (h : d.down = false) : BookOk ⟨[], 0, 1, 1, 1⟩ ⟨[], 600, [], 1, 1, 0⟩ d 0 [] 0 where
  log := { fail := rfl, segs := rfl, recs := rfl, next := rfl, nums := by simp, ne := by simp, size := by simp, none := fun _ => rfl, fill := by simp, files := by simp }
  up := h
  le := Nat.zero_le _
  all := rfl
  low := .inr rfl
  must := Nat.le_refl _
  two := by simp
  sum := by simp
theorem BookIn.otherB {w w' : World} {B bp hp lp p bD bN n q : Nat} {av : Value} {b : ABook} {l : ALog} {d : ADisk} {c : Array Value} {t : TypeId} (h : BookIn w B bp hp lp p bD bN av b l d n) (hf : Fr [q] w w') (hq : w.heap[q]? = some (.cells c t (0, 0))) (h1 : t ≠ 81) (h2 : t ≠ 149) (h3 : t ≠ 142) (h4 : t ≠ 34) (h5 : t ≠ 44) (h6 : t ≠ 9) (h7 : t ≠ 87) (h8 : t ≠ 62) : BookIn w' B bp hp lp p bD bN av b l d n := by
  obtain ⟨hh, pv, sv, rv, nD, nN, hl⟩ := h.host
  have hl' := hl.other hf hq h1 h2 h3 h4 h5 h6
  have n1 : hp ≠ q := by intro e; rw [e, hq] at hh; cases hh; exact h7 rfl
  have n2 : bp ≠ q := by intro e; have := h.blk; rw [e, hq] at this; cases this; exact h8 rfl
  refine ⟨⟨(hf.block hp (Array.getElem?_eq_some_iff.1 hh).1 (by simpa using n1)).trans hh, pv, sv, rv, nD, nN, hl'⟩, h.base, (hf.block bp (Array.getElem?_eq_some_iff.1 h.blk).1 (by simpa using n2)).trans h.blk, ownsRow_fr h.all hf (fun g hg => by simp; intro e; subst e; exact own_ne h.all hq (fun e => h5 e.symm) hg), ?_, h.len, h.nums⟩
  intro k hk hO
  refine h.sep k hk ?_
  rw [hl.own]; rw [hl'.own] at hO; exact hO
set_option maxRecDepth 100000 in
set_option maxHeartbeats 8000000 in
theorem logs_any (v : Value) (L : List AStep) (w : World) (h : StepsAt w v L) (hmet : Met w) (hpow : Pows w) (hB : 2 ≤ w.heap.size) :
    Calls Tryz.prog 10 #[v, .bool false] w fun e w' => e = .returned (.bool true) ∧ Below w.heap.size w w' := by
  have hsm := small_any v L w h
  have HST : Hid (StepsAt w v L) := h
  obtain ⟨hlen, ao, cap, rfl, hc⟩ := h
  obtain ⟨m, hm⟩ : ∃ m, m = L.length := ⟨_, rfl⟩
  rw [← hm] at hlen hsm ⊢
  have HM : Hid (m = L.length) := hm
  have HMP : Hid (Met w ∧ Pows w) := ⟨hmet, hpow⟩
  clear hm hc
  by_cases hbig : m + sumW L ≤ 16384
  · rw [decide_eq_true hbig] at hsm
    have HBIG : Hid (m + sumW L ≤ 16384) := hbig
    have HSM : Hid (Calls Tryz.prog 28 #[.slice ao m cap] w fun e w' => e = .returned (.bool true) ∧ ∃ q, w' = w.drewN q) := hsm
    clear hsm
    go_enter Tryz.func10, Tryz.ntmps10
    go_wp2_with fail
    refine HSM.out.mono ?_
    rintro e w1 ⟨rfl, q, rfl⟩
    have hb1 : Below w.heap.size w (w.drewN q) := (Fr.refl [] w).drewN q |>.below (Nat.le_refl _) (by simp)
    have hsz1 : (w.drewN q).heap.size = w.heap.size := by simp
    go_wp2_with fail
    refine (newHost_any (w.drewN q) 4 (by omega)).mono ?_
    rw [hsz1]
    rintro e w2 ⟨hp, p, bD, bN, rfl, hh2, hd2, hhp, hb2⟩
    have hb02 : Below w.heap.size w w2 := hb1.trans hb2
    have H2 : Hid (w2.heap[hp]? = some (hostO p false (.pointer none)) ∧ DiskIn w2 w.heap.size p bD bN (.slice none 0 0) ⟨fun _ => none, fun _ => none, [], -1, -1, false⟩ 4 0 0 ∧ w.heap.size ≤ hp ∧ Below w.heap.size w w2 ∧ Met w2 ∧ Pows w2) := ⟨hh2, hd2, hhp, hb02, hmet.below hb02 (by omega), hpow.of_block (hb02.block 1 (by omega))⟩
    clear hh2 hd2 hb2 hb02 hb1 hsz1
    go_wp2_with fail
    refine (well_any w2).mono ?_
    rintro e w3 ⟨rfl, hb3⟩
    have hf3 : Fr [] w2 w3 := Fr.of_below hb3 _
    have hb3' : Below w.heap.size w2 w3 := hb3.mono H2.out.2.2.2.1.size
    have hh3 : w3.heap[hp]? = some (hostO p false (.pointer none)) := (hf3.block hp (Array.getElem?_eq_some_iff.1 H2.out.1).1 (by simp)).trans H2.out.1
    have ho := opens_well (d := ⟨fun _ => none, fun _ => none, [], -1, -1, false⟩) rfl
    have hop := hOpen_empty w.heap.size hp p bD bN 4 0 (.slice none 0 0) ⟨fun _ => none, fun _ => none, [], -1, -1, false⟩ (-1) (-1) 0 0 w3 hh3 (H2.out.2.1.new hf3) hB H2.out.2.2.1 (H2.out.2.2.2.2.1.below hb3' (by omega)) rfl rfl ho.1 ho.2.2
    obtain ⟨R, hR⟩ : ∃ R, R = (log0 1).opens (ADisk.knob ⟨fun _ => none, fun _ => none, [], -1, -1, false⟩ (-1) (-1)) := ⟨_, rfl⟩
    rw [← hR] at ho hop
    have HO : Hid (R.2.2 = 0 ∧ R.1 = ⟨[], 600, [], 1, 1, 0⟩ ∧ R.2.1.down = false) := ho
    have HOP : Hid (Calls Tryz.prog 14 #[.pointer (some ⟨hp, 0, none⟩), fallV (-1) (-1) 0 0] w3 fun e w' => e = .returned (.int .i64 0) ∧ ∃ lp, HostIn w' w.heap.size hp lp p bD bN R.1 (R.2.1.knob (-1) (-1)) 4 ∧ Below w.heap.size w3 w') := hop
    have HB3 : Hid (Below w.heap.size w w3) := H2.out.2.2.2.1.trans hb3'
    clear hop ho hR hh3 hf3 hb3 hb3'
    go_wp2_with fail
    refine HOP.out.mono ?_
    rintro e w4 ⟨rfl, lp, hh4, hb4⟩
    have hb4' : Below w.heap.size w w4 := HB3.out.trans hb4
    have H4 : Hid (HostIn w4 w.heap.size hp lp p bD bN R.1 (R.2.1.knob (-1) (-1)) 4 ∧ Below w.heap.size w w4) := ⟨hh4, hb4'⟩
    clear hh4 hb4 hb4'
    go_wp2_with fail
    refine (hIs p hp true _ w4 H4.out.1.blk).mono ?_
    rintro e w5 ⟨rfl, rfl⟩
    obtain ⟨W6, hW6⟩ : ∃ W6, W6 = w5.alloc (bookO hp (.slice none 0 0) ⟨[], 0, 1, 1, 1⟩) := ⟨_, rfl⟩
    have hW6' : W6 = w5.alloc (.cells #[.pointer (some ⟨hp, 0, none⟩), .slice none 0 0, .int .i64 0, .int .u64 1, .int .u64 1, .int .u64 1, .bool false, .bool false, .slice none 0 0] 62) := hW6
    have hbk6 : BookIn W6 w.heap.size w5.heap.size hp lp p bD bN (.slice none 0 0) ⟨[], 0, 1, 1, 1⟩ R.1 (R.2.1.knob (-1) (-1)) 4 := by
      have hf6 : Fr [] w5 W6 := by rw [hW6]; exact (Fr.refl [] w5).alloc _
      obtain ⟨hh, pv, sv, rv, nD, nN, hl⟩ := H4.out.1
      exact ⟨⟨(hf6.block hp (Array.getElem?_eq_some_iff.1 hh).1 (by simp)).trans hh, pv, sv, rv, nD, nN, hl.new hf6⟩, ⟨H4.out.2.size, H2.out.2.2.1⟩, by rw [hW6]; exact heap_alloc_new w5 _, World.ownsRow_nil _ _ _ _, (by intro k hk; cases hk), by simp, by simp⟩
    have hb6 : Below w.heap.size w W6 := by rw [hW6]; exact H4.out.2.alloc H4.out.2.size _
    have H6 : Hid (BookIn W6 w.heap.size w5.heap.size hp lp p bD bN (.slice none 0 0) ⟨[], 0, 1, 1, 1⟩ R.1 (R.2.1.knob (-1) (-1)) 4 ∧ Below w.heap.size w W6 ∧ BookOk ⟨[], 0, 1, 1, 1⟩ R.1 (R.2.1.knob (-1) (-1)) 0 [] 0) := ⟨hbk6, hb6, by rw [HO.out.2.1]; exact book_first _ HO.out.2.2⟩
    clear hbk6 hb6 hW6
    go_wp2_with fail
    rw [← hW6']
    refine (looks_any w.heap.size w5.heap.size hp lp p bD bN 4 0 0 (.slice none 0 0) ⟨[], 0, 1, 1, 1⟩ R.1 (R.2.1.knob (-1) (-1)) [] W6 H6.out.1 H6.out.2.2).mono ?_
    rintro e w7 ⟨rfl, hf7⟩
    have H7 : Hid (LogsIn w w.heap.size w5.heap.size hp lp p bD bN 0 0 w7) := ⟨_, _, _, _, _, _, 0, 4, H6.out.1.newB hf7, H6.out.2.2, by omega, by simp, by omega, H6.out.2.1.trans (hf7.below H6.out.1.lowB (by simp))⟩
    clear hf7 hW6'
    go_wp2
    obtain ⟨bp, hbp⟩ : ∃ bp, bp = w5.heap.size := ⟨_, rfl⟩
    rw [← hbp] at H7 ⊢
    clear hbp
    go_loopw [5, 8, 10] (fun ok is i wr => ∃ k : Nat, k ≤ m ∧ ok = .bool true ∧ is = .bool true ∧ i = .int .i64 (k : Int) ∧ Hid (LogsIn w w.heap.size bp hp lp p bD bN k (sumW (L.take k)) wr)) (fun _ _ i _ => m - (intOf i).toNat)
    case atStart => exact ⟨0, Nat.zero_le _, rfl, rfl, rfl, by simpa [sumW] using H7⟩
    case round =>
      obtain ⟨k, hkm, rfl, rfl, rfl, HK⟩ := hrel
      by_cases hlt : k < m
      · obtain ⟨a, ha⟩ : ∃ a, L[k]? = some a := ⟨_, List.getElem?_eq_getElem (by have := HM.out; omega)⟩
        obtain ⟨_, ao', cap', e', hcc⟩ := HST.out
        obtain ⟨⟨b0, off, rfl, hb0, hcell⟩, z1, z2, z3⟩ := hcc k a ha
        cases e'
        obtain ⟨av, b, l, d, fst, cs, t, n, hbk, hok, ht, hal, hnn, hbl⟩ := HK.out
        have hcell' := hcell.below hbl hb0
        obtain ⟨c0, c1, c2, c3, c4, c5, c6, c7, c8, c9, c10⟩ := hcell'
        have hsn := sumW_snoc ha
        have hst := sumW_take L (k + 1)
        have HW : Hid (sumW (L.take (k + 1)) = sumW (L.take k) + a.wt ∧ sumW (L.take (k + 1)) ≤ sumW L ∧ a.wt = a.key.size + a.s.size + a.sx) := ⟨hsn, hst, rfl⟩
        have HB : Hid (BookIn wr w.heap.size bp hp lp p bD bN av b l d n ∧ BookOk b l d fst cs t ∧ t ≤ 15 * k + sumW (L.take k) ∧ b.all.length ≤ k ∧ n ≤ 4 + 600 * k ∧ Below w.heap.size w wr) := ⟨hbk, hok, ht, hal, hnn, hbl⟩
        clear hcell hcc hsn hst hbk hok ht hal hnn hbl HK
        have i1 : (k : Int) < (m : Int) := by omega
        obtain ⟨kd, txn, sq, nn, key, s, sa, sx, sy, f1, f2, f3, f4⟩ := a
        simp only at c0 c1 c2 c3 c4 c5 c6 c7 c8 c9 c10 z1 z2 z3 HW
        by_cases hk1 : kd = 1
        · subst hk1
          go_wp2
          go_roundw
          case rel =>
            have hf : Fr [] wr (wr.alloc (.cells #[.int .i64 1, .int .u64 (txn : Int), .int .i64 sq, .int .i64 nn, .string key, .string s, .slice sa sx sy, .int .i64 f1, .int .i64 f2, .int .i64 f3, .int .i64 f4] 64)) := (Fr.refl [] wr).alloc _
            exact ⟨k + 1, by omega, rfl, rfl, by go_num, av, b, l, d, fst, cs, t, n, HB.out.1.newB hf, HB.out.2.1, by have := HB.out.2.2.1; have := HW.out.1; omega, by have := HB.out.2.2.2.1; omega, by have := HB.out.2.2.2.2.1; omega, HB.out.2.2.2.2.2.trans (hf.below HB.out.1.lowB (by simp))⟩
          case measure => simp [intOf]; omega
        · have hk1' : (kd == 1) = false := by simpa using hk1
          obtain ⟨Wa, hWa⟩ : ∃ Wa, Wa = wr.alloc (stepO kd txn sq nn key s sa sx sy f1 f2 f3 f4) := ⟨_, rfl⟩
          have hfa : Fr [] wr Wa := by rw [hWa]; exact (Fr.refl [] wr).alloc _
          have hsa : Wa.heap[wr.heap.size]? = some (stepO kd txn sq nn key s sa sx sy f1 f2 f3 f4) := by rw [hWa]; exact heap_alloc_new wr _
          have HA : Hid (BookIn Wa w.heap.size bp hp lp p bD bN av b l d n ∧ Wa.heap[wr.heap.size]? = some (stepO kd txn sq nn key s sa sx sy f1 f2 f3 f4) ∧ Below w.heap.size w Wa) := ⟨HB.out.1.newB hfa, hsa, HB.out.2.2.2.2.2.trans (hfa.below HB.out.1.lowB (by simp))⟩
          clear hfa hsa
          go_wp2_with fail
          rw [← hWa]
          clear hWa c0 c1 c2 c3 c4 c5 c6 c7 c8 c9 c10
          refine (well_any Wa).mono ?_
          rintro e w8 ⟨rfl, hb8⟩
          have hf8 : Fr [] Wa w8 := Fr.of_below hb8 _
          have h8 := HA.out.1.newB hf8
          have hs8 : w8.heap[wr.heap.size]? = some (stepO kd txn sq nn key s sa sx sy f1 f2 f3 f4) := (hf8.block _ (Array.getElem?_eq_some_iff.1 HA.out.2.1).1 (by simp)).trans HA.out.2.1
          have hb8' : Below w.heap.size w w8 := HA.out.2.2.trans (hb8.mono HA.out.2.2.size)
          have x7 := blk_cell hs8 7
          have x8 := blk_cell hs8 8
          have x9 := blk_cell hs8 9
          have x10 := blk_cell hs8 10
          have g7 := blk_free hs8 7
          have g8 := blk_free hs8 8
          have g9 := blk_free hs8 9
          have g10 := blk_free hs8 10
          simp at x7 x8 x9 x10
          have hne : ¬ bp = wr.heap.size := by intro e; have := h8.blk; rw [e, hs8] at this; cases this
          have y6 := blk_cell h8.blk 6
          have gy6 := blk_free h8.blk 6
          simp at y6
          have hne2 : ¬ wr.heap.size = bp := fun e => hne e.symm
          obtain ⟨Wc, hWc⟩ : ∃ Wc, Wc = (((w8.setCell ⟨wr.heap.size, 7, none⟩ (.int .i64 (-1))).setCell ⟨wr.heap.size, 8, none⟩ (.int .i64 (-1))).setCell ⟨wr.heap.size, 9, none⟩ (.int .i64 0)).setCell ⟨wr.heap.size, 10, none⟩ (.int .i64 0) := ⟨_, rfl⟩
          have H8 : Hid (BookIn w8 w.heap.size bp hp lp p bD bN av b l d n ∧ w8.heap[wr.heap.size]? = some (stepO kd txn sq nn key s sa sx sy f1 f2 f3 f4) ∧ Below w.heap.size w w8) := ⟨h8, hs8, hb8'⟩
          clear h8 hs8 hb8' hf8 hb8 hmet hpow hbig z1 z2 z3 hk1 hk1' hb0 hhp y6 gy6
          have hfc : Fr [wr.heap.size] w8 Wc := by rw [hWc]; exact (((Fr.set1 (by simp) _ _).trans (Fr.set1 (by simp) _ _)).trans (Fr.set1 (by simp) _ _)).trans (Fr.set1 (by simp) _ _)
          have hsc : Wc.heap[wr.heap.size]? = some (stepO kd txn sq nn key s sa sx sy (-1) (-1) 0 0) := by
            rw [hWc]; have := blk_set (blk_set (blk_set (blk_set H8.out.2.1 7 (.int .i64 (-1))) 8 (.int .i64 (-1))) 9 (.int .i64 0)) 10 (.int .i64 0); simp at this; exact this
          have hbc := H8.out.1.otherB hfc H8.out.2.1 (by decide) (by decide) (by decide) (by decide) (by decide) (by decide) (by decide) (by decide)
          have hblc : Below w.heap.size w Wc := H8.out.2.2.trans (hfc.below H8.out.1.lowB (by intro j hj; simp at hj; rw [hj]; exact HB.out.2.2.2.2.2.size))
          obtain ⟨Wd, hWd⟩ : ∃ Wd, Wd = Wc.setCell ⟨bp, 6, none⟩ (.bool false) := ⟨_, rfl⟩
          have hfd : Fr [bp] Wc Wd := by rw [hWd]; exact Fr.set1 (by simp) _ _
          have hbd : BookIn Wd w.heap.size bp hp lp p bD bN av b l d n := hbc.setB hfd (by rw [hWd]; have := blk_set hbc.blk 6 (.bool false); simp at this ⊢; exact this) rfl hbc.nums
          have hsd : Wd.heap[wr.heap.size]? = some (stepO kd txn sq nn key s sa sx sy (-1) (-1) 0 0) := (hfd.block _ (Array.getElem?_eq_some_iff.1 hsc).1 (by simpa using hne2)).trans hsc
          have hbld : Below w.heap.size w Wd := hblc.trans (hfd.below hbc.lowB (by intro j hj; simp at hj; rw [hj]; exact hbc.base.1))
          have y6 := blk_cell hbc.blk 6
          have gy6 := blk_free hbc.blk 6
          have u7 := blk_cell hsc 7
          have u8 := blk_cell hsc 8
          simp at y6 u7 u8
          have HDD : Hid (BookIn Wd w.heap.size bp hp lp p bD bN av b l d n ∧ Wd.heap[wr.heap.size]? = some (stepO kd txn sq nn key s sa sx sy (-1) (-1) 0 0) ∧ Below w.heap.size w Wd) := ⟨hbd, hsd, hbld⟩
          clear hfc hsc hbc hblc hfd hbd hsd hbld
          go_upto_region 20 with fail
          rw [← hWc]
          clear hWc x7 x8 x9 x10 g7 g8 g9 g10
          go_upto_region 21 with fail
          rw [← hWd]
          clear hWd y6 gy6 u7 u8
          have s0 := blk_cell HDD.out.2.1 0
          have s1 := blk_cell HDD.out.2.1 1
          have s2 := blk_cell HDD.out.2.1 2
          have s3 := blk_cell HDD.out.2.1 3
          have s4 := blk_cell HDD.out.2.1 4
          have s5 := blk_cell HDD.out.2.1 5
          have s6 := blk_cell HDD.out.2.1 6
          have s7 := blk_cell HDD.out.2.1 7
          have s8 := blk_cell HDD.out.2.1 8
          have s9 := blk_cell HDD.out.2.1 9
          have s10 := blk_cell HDD.out.2.1 10
          simp at s0 s1 s2 s3 s4 s5 s6 s7 s8 s9 s10
          go_wp2_with fail
          refine (step_any w.heap.size bp hp lp p bD bN n fst t txn sx sy kd sq nn key s sa av b l d cs Wd HDD.out.1 HB.out.2.1 hB (HMP.out.1.below HDD.out.2.2 (by omega)) (HMP.out.2.of_block (HDD.out.2.2.block 1 (by omega))) (by have := HB.out.2.2.2.2.1; have := HBIG.out; omega) (by have := HB.out.2.2.1; have := HBIG.out; have := HW.out; omega) (by have := HB.out.2.2.2.1; have := HBIG.out; omega) (by have := HBIG.out; have := HW.out; omega)).mono ?_
          rintro e w9 ⟨rfl, ⟨av', b', l', d', fst', cs', t', hb9, hk9, ht9, hl9⟩, hbl9⟩
          have H9 : Hid (BookIn w9 w.heap.size bp hp lp p bD bN av' b' l' d' (n + 600) ∧ BookOk b' l' d' fst' cs' t' ∧ t' ≤ t + (15 + s.size) ∧ b'.all.length ≤ b.all.length + 1 ∧ Below w.heap.size w w9) := ⟨hb9, hk9, ht9, hl9, HDD.out.2.2.trans hbl9⟩
          clear hb9 hk9 ht9 hl9 hbl9 s0 s1 s2 s3 s4 s5 s6 s7 s8 s9 s10
          go_wp2_with fail
          refine (hIs p hp true _ w9 H9.out.1.host.blk).mono ?_
          rintro e w10 ⟨rfl, rfl⟩
          go_wp2_with fail
          refine (looks_any w.heap.size bp hp lp p bD bN (n + 600) fst' t' av' b' l' d' cs' w10 H9.out.1 H9.out.2.1).mono ?_
          rintro e w11 ⟨rfl, hf11⟩
          have HF : Hid (Fr [] w10 w11) := hf11
          clear hf11
          go_wp2
          go_roundw
          case rel =>
            exact ⟨k + 1, by omega, rfl, rfl, by go_num, av', b', l', d', fst', cs', t', n + 600, H9.out.1.newB HF.out, H9.out.2.1, by have := H9.out.2.2.1; have := HB.out.2.2.1; have := HW.out; omega, by have := H9.out.2.2.2.1; have := HB.out.2.2.2.1; omega, by have := HB.out.2.2.2.2.1; omega, H9.out.2.2.2.2.trans (HF.out.below H9.out.1.lowB (by simp))⟩
          case measure => simp [intOf]; omega
      · go_wp2
        go_ret
        obtain ⟨av, b, l, d, fst, cs, t, n, hbk, hok, ht, hal, hnn, hbl⟩ := HK.out
        exact ⟨rfl, hbl⟩
  · rw [decide_eq_false hbig] at hsm
    have HSM : Hid (Calls Tryz.prog 28 #[.slice ao m cap] w fun e w' => e = .returned (.bool false) ∧ ∃ q, w' = w.drewN q) := hsm
    clear hsm
    go_enter Tryz.func10, Tryz.ntmps10
    go_wp2_with fail
    refine HSM.out.mono ?_
    rintro e w1 ⟨rfl, q, rfl⟩
    go_wp2
    go_ret
    exact ⟨rfl, (Fr.refl [] w).drewN q |>.below (Nat.le_refl _) (by simp)⟩
end Go.Proofs.YtkcehofpdmegoaaGreatDoor
