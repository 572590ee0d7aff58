import Derived.Test.YtnnhihkeffljbaaGreatDoorC26
import Derived.Deep.CutRange
import Derived.Test.YtnnhihkeffljbaaGreatDoorC27
/- (*book).step: Append of a record that is not too big. (Written by mkstep4.py.) -/
namespace Go.Proofs.YtnnhihkeffljbaaGreatDoor
open Go.RowKit
open Sc

theorem LogIn.foreign {w W : World} {B lp p bD bN n nD nN : Nat} {pv sv rv : Value} {l : ALog} {d : ADisk} {S : List Nat} (h : LogIn w B lp p bD bN pv sv rv l d n nD nN) (hf : Fr S w W) (hS : ∀ k ∈ S, ¬ Own lp p w k ∧ ∀ t, w.heap[k]? ≠ some (textO t)) : LogIn W B lp p bD bN pv sv rv l d n nD nN := by
  have key : ∀ k, Own lp p w k → k ∉ S := fun k hk hm => (hS k hm).1 hk
  refine h.turned (h.disk.fr hf (key p ((h.own p).2 (by simp))) (key bD ((h.own bD).2 (by simp))) (key bN ((h.own bN).2 (by simp))) (fun g hg => key g ((h.own g).2 (by simp [hg]))) (fun q hq => (hS q hq).2)) hf ?_ (Nat.le_refl _)
  intro k hk _
  have := (hS k hk).1
  rw [h.own] at this
  simp only [not_or] at this
  exact ⟨this.1, this.2.2.2.2.2.1, this.2.2.2.2.2.2⟩
theorem BookIn.allApp {w w4 : World} {B bp hp lp p bD bN n : Nat} {av v4 : Value} {b : ABook} {l : ALog} {d : ADisk} {ob : Obj} {r : Rec} (h : BookIn w B bp hp lp p bD bN av b l d n) (hg : (w.alloc ob).drew.grownBy w4 av.ownBlock) (ho : w4.ownsRow B 92 3 v4 (b.all.length + 1) (recsV (b.all ++ [r]))) (hnr : Near w.heap.size av v4) (hlen : b.all.length + 1 ≤ 1048576) :
    BookIn (w4.setCell ⟨bp, 1, none⟩ v4) B bp hp lp p bD bN v4 { b with all := b.all ++ [r] } l d n ∧ Below B w (w4.setCell ⟨bp, 1, none⟩ v4) := by
  obtain ⟨hh, pv, sv, rv, nD, nN, hl⟩ := h.host
  have hbpl := (Array.getElem?_eq_some_iff.1 h.blk).1
  have hfg : Fr av.ownBlock.toList w w4 := (((Fr.refl _ w).alloc _).drew).trans (Fr.of_grown hg)
  have hb4 : w4.heap[bp]? = some (bookO hp av b) := (hfg.block bp hbpl (by simp; exact own_ne h.all h.blk (by decide))).trans h.blk
  obtain ⟨W, hW⟩ : ∃ W, W = w4.setCell ⟨bp, 1, none⟩ v4 := ⟨_, rfl⟩
  rw [← hW]
  have hfw : Fr [bp] w4 W := by rw [hW]; exact Fr.set1 (by simp) _ _
  have hf : Fr (bp :: av.ownBlock.toList) w W := (hfg.mono (fun k _ hk => List.mem_cons_of_mem _ hk)).trans (hfw.mono (by intro k _ hk; simp at hk; simp [hk]))
  have hb : W.heap[bp]? = some (bookO hp v4 { b with all := b.all ++ [r] }) := by
    rw [hW]
    have := blk_set hb4 1 v4
    simp at this ⊢
    exact this
  have hr : W.ownsRow B 92 3 v4 (b.all ++ [r]).length (recsV (b.all ++ [r])) := by
    have := ownsRow_fr ho hfw (fun g hg => by simp; intro e; subst e; exact own_ne ho hb4 (by decide) hg)
    simpa using this
  have hS : ∀ k ∈ bp :: av.ownBlock.toList, ¬ Own lp p w k ∧ ∀ t, w.heap[k]? ≠ some (textO t) := by
    intro k hk
    rcases List.mem_cons.1 hk with e | hk
    · subst e
      exact ⟨hl.free h.blk (by decide) (by decide) (by decide) (by decide) (by decide), fun t => by rw [h.blk]; intro e; cases e⟩
    · simp at hk
      obtain ⟨c, hc⟩ := own_cells h.all hk
      exact ⟨h.sep k hk, fun t => by rw [hc]; intro e; cases e⟩
  have hl' := hl.foreign hf hS
  have hhne : hp ∉ bp :: av.ownBlock.toList := by
    intro hm
    rcases List.mem_cons.1 hm with e | hm
    · rw [e, h.blk] at hh; cases hh
    · simp at hm; exact own_ne h.all hh (by decide) hm
  refine ⟨⟨⟨(hf.block hp (Array.getElem?_eq_some_iff.1 hh).1 hhne).trans hh, pv, sv, rv, nD, nN, hl'⟩, h.base, hb, hr, ?_, by simpa using hlen, h.nums⟩, hf.below h.lowB ?_⟩
  · intro k hk hO
    have hO' : Own lp p w k := by rw [hl.own]; rw [hl'.own] at hO; exact hO
    rcases hnr k hk with e | e
    · exact h.sep k e hO'
    · have := hl.ltO hO'; omega
  · intro k hk
    rcases List.mem_cons.1 hk with e | hk
    · rw [e]; exact h.base.1
    · simp at hk; exact (h.all.lt k hk).1
set_option maxRecDepth 100000 in
set_option maxHeartbeats 8000000 in
theorem step_app (B bp hp lp p bD bN n fst t txn x y kind m : Nat) (sq nn : Int) (key s : ByteArray) (ao : Option Addr) (av : Value) (b : ABook) (l : ALog) (d : ADisk) (cs : List (List Rec)) (w : World) (h : BookIn w B bp hp lp p bD bN av b l d n) (hk : BookOk b l d fst cs t) (hB : 2 ≤ B) (hmet : Met w) (hpow : Pows w) (hn : n + 600 ≤ 67108864) (hkd : kind < 256) (hwr : IntKind.u8.wrap nn = (kind : Int)) (hm : m = b.all.length) (hs : s.size ≤ 255) (hml : m + 1 ≤ 1048576) :
    Calls Tryz.prog 25 #[.pointer (some ⟨bp, 0, none⟩), stepV 4 txn sq nn key s ao x y (-1) (-1) 0 0] w (StepPost B bp hp lp p bD bN (n + 600) t (15 + s.size) b w) := by
  have hal := own_sl h.all
  obtain ⟨a0, am, ac, hav⟩ := hal
  have ham : am = b.all.length := by
    rcases h.all.2 with ⟨e, h0⟩ | ⟨g, cap, cur, e, _⟩
    · rw [hav] at e; cases e; exact h0.symm
    · rw [hav] at e; cases e; rfl
  subst ham
  subst hav
  obtain ⟨W1, hW1⟩ : ∃ W1, W1 = w.alloc (stepO 4 txn sq nn key s ao x y (-1) (-1) 0 0) := ⟨_, rfl⟩
  have hf2 : Fr [] w W1 := by rw [hW1]; exact (Fr.refl [] w).alloc _
  have hI1 := h.newB hf2
  have hs1 : W1.heap[w.heap.size]? = some (stepO 4 txn sq nn key s ao x y (-1) (-1) 0 0) := by rw [hW1]; exact heap_alloc_new w _
  have hlen := h.len
  have hbpl := (Array.getElem?_eq_some_iff.1 h.blk).1
  have c0 := blk_cell hI1.blk 0
  have c1 := blk_cell hI1.blk 1
  have c7 := blk_cell hI1.blk 7
  have z0 := blk_cell hs1 0
  have z3 := blk_cell hs1 3
  have z5 := blk_cell hs1 5
  have z7 := blk_cell hs1 7
  have z8 := blk_cell hs1 8
  have z9 := blk_cell hs1 9
  have z10 := blk_cell hs1 10
  simp at c0 c1 c7 z0 z3 z5 z7 z8 z9 z10
  rw [← hm] at c1 hlen
  have d0 := c0
  have d1 := c1
  have d7 := c7
  have y0 := z0
  have y3 := z3
  have y5 := z5
  have y7 := z7
  have y8 := z8
  have y9 := z9
  have y10 := z10
  rw [hW1] at c0 c1 c7 z0 z3 z5 z7 z8 z9 z10
  have hbl1 : Below B w W1 := hf2.below h.lowB (by simp)
  have hmet1 : Met W1 := hmet.below hbl1 (by omega)
  have hpow1 : Pows W1 := hpow.of_block (hbl1.block 1 (by omega))
  have hID : BookIn W1.drew B bp hp lp p bD bN (.slice a0 b.all.length ac) b l d n := hI1.newB ((Fr.refl [] W1).drew)
  have hsD : W1.drew.heap[w.heap.size]? = some (stepO 4 txn sq nn key s ao x y (-1) (-1) 0 0) := hs1
  have HI : Hid (BookIn W1.drew B bp hp lp p bD bN (.slice a0 b.all.length ac) b l d n ∧ Below B w W1.drew ∧ Met W1.drew ∧ W1.drew.heap[w.heap.size]? = some (stepO 4 txn sq nn key s ao x y (-1) (-1) 0 0) ∧ Pows W1.drew) := ⟨hID, hbl1.drew, hmet1, hsD, hpow1⟩
  obtain ⟨R, hR⟩ : ∃ R, R = l.append (d.knob (-1) (-1)) kind s := ⟨_, rfl⟩
  have hap := (hk.knob (-1) (-1)).append (knob_well hk.up) (by omega) kind s hs
  rw [← hR, ← hm] at hap
  obtain ⟨r1, r2, cs', r3⟩ := hap
  have HG : Hid (R.2.2.1 = m + 1 ∧ R.2.2.2 = 0 ∧ BookOk { b with all := b.all ++ [⟨m + 1, kind, bytesOf s⟩] } R.1 R.2.1 fst cs' (t + 15 + s.size)) := ⟨r1, r2, r3⟩
  have hup : R.2.1.down = false := r3.up
  clear r1 r2 r3
  have hsg : l.filled < 600 → l.segs ≠ [] := fun hf => hk.log.segsNe hf
  have HV : Hid (l.filled < 600 → l.segs ≠ []) := hsg
  have HR : Hid (R = l.append (d.knob (-1) (-1)) kind s ∧ (l.append (d.knob (-1) (-1)) kind s).2.1.down = false) := ⟨hR, by rw [← hR]; exact hup⟩
  have HM : Hid (m = b.all.length) := hm
  clear h hmet hk hm hID hsD hpow hI1 hs1 hbl1 hmet1 hpow1 hf2 hsg hup hR
  go_enter Tryz.func25, Tryz.ntmps25
  go_wp2_with fail
  rw [← hW1]
  clear hW1 c0 c1 c7 z0 z3 z5 z7 z8 z9 z10
  go_region_held3 (fun w' => w'.cell? ⟨bp, 0, none⟩ = some (.pointer (some ⟨hp, 0, none⟩)) ∧ w'.cell? ⟨w.heap.size, 3, none⟩ = some (.int .i64 nn) ∧ w'.cell? ⟨w.heap.size, 5, none⟩ = some (.string s) ∧ w'.cell? ⟨w.heap.size, 7, none⟩ = some (.int .i64 (-1)) ∧ w'.cell? ⟨w.heap.size, 8, none⟩ = some (.int .i64 (-1)) ∧ w'.cell? ⟨w.heap.size, 9, none⟩ = some (.int .i64 0) ∧ w'.cell? ⟨w.heap.size, 10, none⟩ = some (.int .i64 0))
    (simp [*])
    (first | (go_at_call 49; refine (hAppend B hp lp p bD bN n kind s l d (-1) (-1) 0 0 W1.drew HI.out.1.host hB HI.out.2.2.1 hkd (by omega) HV.out HI.out.2.2.2.2 HR.out.2).mono ?_; rw [← HR.out.1]; rintro e w2 ⟨rfl, hh2, ho2⟩; have hI2 := HI.out.1.afterHost hh2 ho2; have hs2 := HI.out.1.keepO ho2 HI.out.2.2.2.1 (by decide) (by decide) (by decide) (by decide) (by decide); have k0 := blk_cell hI2.blk 0; have k1 := blk_cell hI2.blk 1; have k7 := blk_cell hI2.blk 7; have f1 := blk_free hI2.blk 1; have v3 := blk_cell hs2 3; have v5 := blk_cell hs2 5; have v7 := blk_cell hs2 7; have v8 := blk_cell hs2 8; have v9 := blk_cell hs2 9; have v10 := blk_cell hs2 10; simp at k0 k1 k7 v3 v5 v7 v8 v9 v10; have H2 : Hid (BookIn w2 B bp hp lp p bD bN (.slice a0 b.all.length ac) b R.1 (R.2.1.knob (-1) (-1)) (n + 3) ∧ OFr lp p W1.drew w2 ∧ w2.heap[w.heap.size]? = some (stepO 4 txn sq nn key s ao x y (-1) (-1) 0 0)) := ⟨hI2, ho2, hs2⟩; clear hI2 ho2 hh2 hs2))
  rw [← HM.out] at k1
  clear d0 d1 d7 y0 y3 y5 y7 y8 y9 y10
  rw [show R.2.2.1 = m + 1 from HG.out.1, show R.2.2.2 = 0 from HG.out.2.1]
  have hdone : Calls Tryz.prog 50 #[.pointer (some ⟨bp, 0, none⟩), .int .i64 0, .int .i64 0] w2 fun ev w' => ev = .returned (.tuple #[.bool true, .bool true]) ∧ w' = w2 := by
    have := done_ok bp hp 0 _ b w2 H2.out.1.blk
    simpa using this
  have HD : Hid (Calls Tryz.prog 50 #[.pointer (some ⟨bp, 0, none⟩), .int .i64 0, .int .i64 0] w2 fun ev w' => ev = .returned (.tuple #[.bool true, .bool true]) ∧ w' = w2) := hdone
  clear hdone
  go_wp2_with fail
  refine HD.out.mono ?_
  rintro e w3 ⟨rfl, rfl⟩
  obtain ⟨W9, hW9⟩ : ∃ W9, W9 = w3.alloc (.cells #[.int .u64 ((m : Int) + 1), .int .u8 (kind : Int), .string s] 92) := ⟨_, rfl⟩
  have hf9 : Fr [] w3 W9 := by rw [hW9]; exact (Fr.refl [] w3).alloc _
  have h9 := H2.out.1.newB hf9
  have hr9 : W9.heap[w3.heap.size]? = some (.cells #[.int .u64 ((m : Int) + 1), .int .u8 (kind : Int), .string s] 92) := by rw [hW9]; exact heap_alloc_new w3 _
  have hbl9 : Below B w W9 := (HI.out.2.1.trans (HI.out.1.ofrB H2.out.2.1)).trans (hf9.below H2.out.1.lowB (by simp))
  have H9 : Hid (BookIn W9 B bp hp lp p bD bN (.slice a0 b.all.length ac) b R.1 (R.2.1.knob (-1) (-1)) (n + 3) ∧ Below B w W9) := ⟨h9, hbl9⟩
  clear k0 k1 k7 f1 v3 v5 v7 v8 v9 v10
  have k1 := blk_cell h9.blk 1
  have f1 := blk_free h9.blk 1
  have r0 := blk_cell hr9 0
  have r1 := blk_cell hr9 1
  have r2 := blk_cell hr9 2
  simp at k1 r0 r1 r2
  rw [← HM.out] at k1
  have hz9 : bp < W9.heap.size := (Array.getElem?_eq_some_iff.1 h9.blk).1
  have hrow9 := h9.all
  rw [← HM.out] at hrow9
  have HW9 : Hid (W9.ownsRow B 92 3 (.slice a0 m ac) m (recsV b.all)) := hrow9
  have hstr : str (bytesOf s) = s := strOf_bytes s
  have k1' : ∀ ob, (W9.alloc ob).cell? ⟨bp, 1, none⟩ = some (.slice a0 m ac) := fun ob => (World.cell?_of_block (a := ⟨bp, 1, none⟩) (Below.heap_alloc W9 ob bp hz9)).trans k1
  clear hf9 h9 hr9 hbl9 hrow9
  have y3 := blk_cell H2.out.2.2 3
  have y5 := blk_cell H2.out.2.2 5
  simp at y3 y5
  go_wp2_with fail
  rw [← hW9]
  clear hW9 y3 y5
  go_cut [77] from 70 to 79 (fun _ wx => ∃ avx, BookIn wx B bp hp lp p bD bN avx { b with all := b.all ++ [⟨m + 1, kind, bytesOf s⟩] } R.1 (R.2.1.knob (-1) (-1)) (n + 3) ∧ Below B w wx)
  case first =>
    go_region_law (first | (rw [if_pos (by rfl)]; refine wp_recat _ _ rfl B (.slice a0 m ac) m b.all ⟨m + 1, kind, bytesOf s⟩ W9.heap.size rfl ?_ rfl ?_ ?_ ?_ ?_ ?_ ?_; (exact HW9.out.alloc _); (simp); (simp); (simp [hstr]); (omega); (have := H9.out.1.lowB; simp; omega); intro v4 w4 ho4 hg4 hl4; obtain ⟨q4, cap4, rfl⟩ := own_some ho4; have q1 : w4.cell? ⟨bp, 1, none⟩ = some (.slice a0 m ac) := (World.cell?_of_block (a := ⟨bp, 1, none⟩) (hg4.block bp (by simp; omega) (fun e => own_ne HW9.out H9.out.1.blk (by decide) e.symm))).trans (k1' _); have q2 : w4.frozen? ⟨bp, 1, none⟩ = false := (World.frozen?_of_block (a := ⟨bp, 1, none⟩) ((hg4.block bp (by simp; omega) (fun e => own_ne HW9.out H9.out.1.blk (by decide) e.symm)).trans (Below.heap_alloc W9 _ bp hz9))).trans f1; have HL4 : Hid (Near W9.heap.size (.slice a0 m ac) (.slice (some ⟨q4, 0, none⟩) (m + 1) cap4)) := Near.of_at hl4 (by simp); clear hl4))
    all_goals (
      go_wp2_with fail
      go_meet
      case rel =>
        obtain ⟨t1, t2⟩ := H9.out.1.allApp (r := ⟨m + 1, kind, bytesOf s⟩) (by rw [← HM.out]; exact hg4) (by rw [← HM.out]; exact ho4) (by rw [← HM.out]; exact HL4.out) (by rw [← HM.out]; exact hml)
        exact ⟨_, t1, H9.out.2.trans t2⟩)
  case rest =>
    obtain ⟨avx, hbx, hblx⟩ := hcut
    have HX : Hid (BookIn wc B bp hp lp p bD bN avx { b with all := b.all ++ [⟨m + 1, kind, bytesOf s⟩] } R.1 (R.2.1.knob (-1) (-1)) (n + 3) ∧ Below B w wc) := ⟨hbx, hblx⟩
    clear hbx hblx
    go_wp2
    go_ret
    exact ⟨rfl, ⟨_, _, _, _, _, _, t + 15 + s.size, HX.out.1.mores (by omega) (by omega), HG.out.2.2.knob (-1) (-1), by omega, by simp⟩, HX.out.2⟩
end Go.Proofs.YtnnhihkeffljbaaGreatDoor
/- (*book).step, whatever it is; small; Well. -/
namespace Go.Proofs.YtnnhihkeffljbaaGreatDoor
open Go.RowKit
open Sc

theorem u64wrap (z : Int) : ∃ k : Nat, k < 18446744073709551616 ∧ IntKind.u64.wrap z = (k : Int) := by
  have h : 0 ≤ IntKind.u64.wrap z ∧ IntKind.u64.wrap z < 18446744073709551616 := by
    simp [IntKind.wrap, IntKind.signed, IntKind.bits]; omega
  exact ⟨(IntKind.u64.wrap z).toNat, by omega, by omega⟩
theorem u8wrap (z : Int) : ∃ k : Nat, k < 256 ∧ IntKind.u8.wrap z = (k : Int) := by
  have h : 0 ≤ IntKind.u8.wrap z ∧ IntKind.u8.wrap z < 256 := by
    simp [IntKind.wrap, IntKind.signed, IntKind.bits]; omega
  exact ⟨(IntKind.u8.wrap z).toNat, by omega, by omega⟩
theorem StepPost.mono {B bp hp lp p bD bN n n' t sz sz' : Nat} {b : ABook} {w w' : World} {e : Ending} (h : StepPost B bp hp lp p bD bN n t sz b w e w') (hn : n ≤ n') (hn' : n' ≤ 67108864) (hs : sz ≤ sz') : StepPost B bp hp lp p bD bN n' t sz' b w e w' := by
  obtain ⟨h1, ⟨av', b', l', d', fst', cs', t', h2, h3, h4, h5⟩, h6⟩ := h
  exact ⟨h1, ⟨av', b', l', d', fst', cs', t', h2.mores hn hn', h3, by omega, h5⟩, h6⟩
theorem step_any (B bp hp lp p bD bN n fst t txn x y : Nat) (kd sq nn : Int) (key s : ByteArray) (ao : Option Addr) (av : Value) (b : ABook) (l : ALog) (d : ADisk) (cs : List (List Rec)) (w : World) (h : BookIn w B bp hp lp p bD bN av b l d n) (hk : BookOk b l d fst cs t) (hB : 2 ≤ B) (hmet : Met w) (hpow : Pows w) (hn : n + 600 ≤ 67108864) (ht : t ≤ 300000) (hml : b.all.length + 1 ≤ 1048576) (hs : s.size ≤ 16384) :
    Calls Tryz.prog 25 #[.pointer (some ⟨bp, 0, none⟩), stepV kd txn sq nn key s ao x y (-1) (-1) 0 0] w (StepPost B bp hp lp p bD bN (n + 600) t (15 + s.size) b w) := by
  by_cases h4 : kd = 4
  · subst h4
    obtain ⟨kind, hk1, hk2⟩ := u8wrap nn
    by_cases hb : 255 < s.size
    · exact (step_big B bp hp lp p bD bN n fst t txn x y kind b.all.length sq nn key s ao av b l d cs w h hk hB hmet hpow hn hk1 hk2 rfl hb hs).mono fun e w' hp => hp.mono (Nat.le_refl _) hn (by omega)
    · exact step_app B bp hp lp p bD bN n fst t txn x y kind b.all.length sq nn key s ao av b l d cs w h hk hB hmet hpow hn hk1 hk2 rfl (by omega) hml
  by_cases h5 : kd = 5
  · subst h5
    exact (step_force B bp hp lp p bD bN n fst t txn x y sq nn key s ao av b l d cs w h hk hB hmet (by omega)).mono fun e w' hp => hp.mono (by omega) hn (by omega)
  by_cases h6 : kd = 6
  · subst h6
    obtain ⟨Lw, hL1, hL2⟩ := u64wrap ((b.all.length : Int) + 1 - IntKind.u64.wrap sq)
    by_cases hA : (b.all.length : Int) + 1 < (Lw : Int)
    · by_cases hT : (b.tries : Int) < (b.all.length : Int) + 1
      · exact (step_cut_11 B bp hp lp p bD bN n fst t txn x y sq nn key s ao av b l d cs w h hk hB hmet hpow hn ht Lw b.all.length hL1 hL2 rfl hA hT).mono fun e w' hp => hp.mono (Nat.le_refl _) hn (by omega)
      · exact (step_cut_10 B bp hp lp p bD bN n fst t txn x y sq nn key s ao av b l d cs w h hk hB hmet hpow hn ht Lw b.all.length hL1 hL2 rfl hA hT).mono fun e w' hp => hp.mono (Nat.le_refl _) hn (by omega)
    · by_cases hT : (b.tries : Int) < (Lw : Int)
      · exact (step_cut_01 B bp hp lp p bD bN n fst t txn x y sq nn key s ao av b l d cs w h hk hB hmet hpow hn ht Lw b.all.length hL1 hL2 rfl hA hT).mono fun e w' hp => hp.mono (Nat.le_refl _) hn (by omega)
      · exact (step_cut_00 B bp hp lp p bD bN n fst t txn x y sq nn key s ao av b l d cs w h hk hB hmet hpow hn ht Lw b.all.length hL1 hL2 rfl hA hT).mono fun e w' hp => hp.mono (Nat.le_refl _) hn (by omega)
  · exact (step_none B bp hp lp p bD bN n fst t txn x y kd sq nn key s ao av b l d cs w h hk ⟨h4, h5, h6⟩).mono fun e w' hp => hp.mono (by omega) hn (by omega)
/-- a step of a script -/
structure AStep where
  kd : Int
  txn : Nat
  sq : Int
  nn : Int
  key : ByteArray
  s : ByteArray
  sa : Option Addr
  sx : Nat
  sy : Nat
  f1 : Int
  f2 : Int
  f3 : Int
  f4 : Int
def StepCells (w : World) (b o : Nat) (a : AStep) : Prop :=
  w.cell? ⟨b, o, none⟩ = some (.int .i64 a.kd) ∧ w.cell? ⟨b, o + 1, none⟩ = some (.int .u64 (a.txn : Int)) ∧ w.cell? ⟨b, o + 2, none⟩ = some (.int .i64 a.sq) ∧ w.cell? ⟨b, o + 3, none⟩ = some (.int .i64 a.nn) ∧ w.cell? ⟨b, o + 4, none⟩ = some (.string a.key) ∧ w.cell? ⟨b, o + 5, none⟩ = some (.string a.s) ∧ w.cell? ⟨b, o + 6, none⟩ = some (.slice a.sa a.sx a.sy) ∧
  w.cell? ⟨b, o + 7, none⟩ = some (.int .i64 a.f1) ∧ w.cell? ⟨b, o + 8, none⟩ = some (.int .i64 a.f2) ∧ w.cell? ⟨b, o + 9, none⟩ = some (.int .i64 a.f3) ∧ w.cell? ⟨b, o + 10, none⟩ = some (.int .i64 a.f4)
def StepsAt (w : World) (v : Value) (L : List AStep) : Prop :=
  L.length ≤ 281474976710656 ∧ ∃ ao cap, v = .slice ao L.length cap ∧ ∀ i a, L[i]? = some a → (∃ b off, ao = some ⟨b, off, none⟩ ∧ b < w.heap.size ∧ StepCells w b (off + i * 11) a) ∧ a.key.size ≤ 281474976710656 ∧ a.s.size ≤ 281474976710656 ∧ a.sx ≤ 281474976710656
theorem StepCells.below {w w' : World} {b o B : Nat} {a : AStep} (h : StepCells w b o a) (hb : Below B w w') (hlt : b < B) : StepCells w' b o a := by
  obtain ⟨h0, h1, h2, h3, h4, h5, h6, h7, h8, h9, h10⟩ := h
  exact ⟨(hb.cell (p := ⟨b, o, none⟩) hlt).trans h0, (hb.cell (p := ⟨b, o + 1, none⟩) hlt).trans h1, (hb.cell (p := ⟨b, o + 2, none⟩) hlt).trans h2, (hb.cell (p := ⟨b, o + 3, none⟩) hlt).trans h3, (hb.cell (p := ⟨b, o + 4, none⟩) hlt).trans h4, (hb.cell (p := ⟨b, o + 5, none⟩) hlt).trans h5, (hb.cell (p := ⟨b, o + 6, none⟩) hlt).trans h6, (hb.cell (p := ⟨b, o + 7, none⟩) hlt).trans h7, (hb.cell (p := ⟨b, o + 8, none⟩) hlt).trans h8, (hb.cell (p := ⟨b, o + 9, none⟩) hlt).trans h9, (hb.cell (p := ⟨b, o + 10, none⟩) hlt).trans h10⟩
/-- what a script weighs -/
def AStep.wt (a : AStep) : Nat := a.key.size + a.s.size + a.sx
def sumW : List AStep → Nat
  | [] => 0
  | a :: L => a.wt + sumW L
theorem sumW_app (K L : List AStep) : sumW (K ++ L) = sumW K + sumW L := by
  induction K with
  | nil => simp [sumW]
  | cons a K ih => simp [sumW, ih]; omega
theorem sumW_take (L : List AStep) (k : Nat) : sumW (L.take k) ≤ sumW L := by
  have := sumW_app (L.take k) (L.drop k)
  rw [List.take_append_drop] at this
  omega
theorem sumW_snoc {L : List AStep} {k : Nat} {a : AStep} (h : L[k]? = some a) : sumW (L.take (k + 1)) = sumW (L.take k) + a.wt := by
  rw [List.take_add_one, h, sumW_app]; simp [sumW]
set_option maxHeartbeats 1000000 in
theorem well_any (w : World) : Calls Tryz.prog 9 #[] w fun e w' => e = .returned (fallV (-1) (-1) 0 0) ∧ Below w.heap.size w w' := by
  go_enter Tryz.func9, Tryz.ntmps9
  go_wp2
  refine bodyPost_ret (v := fallV (-1) (-1) 0 0) (by simp [results, Tryz.results9, go_sem]) rfl ⟨rfl, (Below.refl _ _).alloc (Nat.le_refl _) _⟩
set_option maxRecDepth 100000 in
set_option maxHeartbeats 4000000 in
theorem small_any (v : Value) (L : List AStep) (w : World) (h : StepsAt w v L) :
    Calls Tryz.prog 20 #[v] w fun e w' => e = .returned (.bool (decide (L.length + sumW L ≤ 16384))) ∧ ∃ q, w' = w.drewN q := by
  obtain ⟨hlen, ao, cap, rfl, hc⟩ := h
  obtain ⟨m, hm⟩ : ∃ m, m = L.length := ⟨_, rfl⟩
  rw [← hm] at hlen ⊢
  have HM : Hid (m = L.length) := hm
  have HC : Hid (∀ i a, L[i]? = some a → (∃ b off, ao = some ⟨b, off, none⟩ ∧ b < w.heap.size ∧ StepCells w b (off + i * 11) a) ∧ a.key.size ≤ 281474976710656 ∧ a.s.size ≤ 281474976710656 ∧ a.sx ≤ 281474976710656) := hc
  clear hm hc
  go_enter Tryz.func20, Tryz.ntmps20
  go_wp2
  go_loopw [3, 4] (fun n i wr => ∃ k : Nat, k ≤ m ∧ i = .int .i64 (k : Int) ∧ n = .int .i64 ((m + sumW (L.take k) : Nat) : Int) ∧ (k = 0 ∨ m + sumW (L.take (k - 1)) ≤ 16384) ∧ ∃ q, wr = w.drewN q) (fun _ i _ => m - (intOf i).toNat)
  case atStart => exact ⟨0, Nat.zero_le _, rfl, by simp [sumW], .inl rfl, 0, rfl⟩
  case round =>
    obtain ⟨k, hk, rfl, rfl, hpr, q, rfl⟩ := hrel
    have hsz : ∀ j, m + sumW (L.take j) ≤ m + sumW L := fun j => by have := sumW_take L j; omega
    by_cases hkm : k < m
    · obtain ⟨a, ha⟩ : ∃ a, L[k]? = some a := ⟨_, List.getElem?_eq_getElem (by have := HM.out; omega)⟩
      obtain ⟨⟨b, off, rfl, hb, h0, h1, h2, h3, h4, h5, h6, h7, h8, h9, h10⟩, w1, w2, w3⟩ := HC.out k a ha
      have hsn := sumW_snoc ha
      have HT : Hid (sumW (L.take (k + 1)) = sumW (L.take k) + a.wt ∧ m + sumW (L.take k) ≤ m + sumW L ∧ m + sumW (L.take (k + 1)) ≤ m + sumW L) := ⟨hsn, hsz k, hsz (k + 1)⟩
      by_cases hle : m + sumW (L.take k) ≤ 16384
      · have HW : Hid (a.wt = a.key.size + a.s.size + a.sx) := rfl
        generalize hz : sumW (L.take k) = z at hle HT ⊢
        have HZ : Hid (sumW (L.take k) = z) := hz
        clear hz hsn hsz hpr h0 h1 h2 h3 h7 h8 h9 h10
        have i0 : (0 : Int) ≤ (k : Int) := by omega
        have i1 : (k : Int) < (m : Int) := by omega
        go_wp2
        go_quiet (fail)
        go_wp2
        go_roundw
        case rel => exact ⟨k + 1, by omega, by go_num, by rw [HT.out.1, HW.out]; congr 1; omega, .inr (by simpa [HZ.out] using hle), _, rfl⟩
        case measure => simp [intOf]; omega
      · have hbig : ¬ m + sumW L ≤ 16384 := by have := HT.out; omega
        have hdd : decide (m + sumW L ≤ 16384) = false := decide_eq_false hbig
        generalize hz : sumW (L.take k) = z at hle HT ⊢
        clear hz hsn hsz hpr h0 h1 h2 h3 h4 h5 h6 h7 h8 h9 h10
        go_wp2
        go_ret
        have hd2 : decide ((m : Int) + (z : Int) ≤ 16384) = false := decide_eq_false (by omega)
        refine ⟨?_, q, rfl⟩
        rw [hdd]
        show Ending.returned (Value.bool (decide ((m : Int) + (z : Int) ≤ 16384))) = _
        rw [hd2]
    · obtain rfl : k = m := by omega
      have hall : L.take k = L := by rw [HM.out, List.take_length]
      rw [hall]
      clear hsz hpr
      generalize hz : sumW L = z
      have HZ : Hid (sumW L = z) := hz
      clear hz hall
      go_wp2
      go_ret
      refine ⟨?_, q, rfl⟩
      show Ending.returned (Value.bool (decide ((k : Int) + (z : Int) ≤ 16384))) = _
      rw [HZ.out]
      congr 2
      exact decide_eq_decide.2 (by omega)
end Go.Proofs.YtnnhihkeffljbaaGreatDoor
