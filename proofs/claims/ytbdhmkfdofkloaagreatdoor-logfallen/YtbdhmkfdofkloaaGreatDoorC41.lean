import Derived.Test.YtbdhmkfdofkloaaGreatDoorC40
import Derived.Deep.CutRange
/- (*book).step over a disk that may fail: Append of a record that is not too big. -/
namespace Go.Proofs.YtbdhmkfdofkloaaGreatDoor
open Go.RowKit
open Sc

set_option maxRecDepth 100000 in
set_option maxHeartbeats 8000000 in
theorem stepX_app {w : World} {B bp hp p bD bN n : Nat} {lo : Option Nat} {l : ALog} {d : ADisk} {av mv : Value} {b : ABook} {M : List Rec} {sk hu : Bool} (txn x y kind : Nat) (sq nn : Int) (key s : ByteArray) (ao : Option Addr) (f1 f2 f3 f4 : Int)
    (h : BkM w B bp hp p lo av mv b M sk hu) (hl : HLo w B hp p bD bN lo (some l) d n) (hst : BSt (some l) d b M sk hu) (hB : 3 ≤ B) (hmet : Met w) (hpow : Pows w) (hn : n + 3 < 1000000000) (hsk : sk = false → f1 < 0 ∧ f2 < 0) (hkd : kind < 256) (hwr : IntKind.u8.wrap nn = (kind : Int)) (hml : b.all.length + 1 ≤ 1048576) (hs : s.size ≤ 255)
    (h11 : -9223372036854775808 ≤ f1) (h21 : -9223372036854775808 ≤ f2) (h41 : -9223372036854775808 ≤ f4) (h42 : f4 ≤ 9223372036854775807) :
    Calls Tryz.prog 18 #[.pointer (some ⟨bp, 0, none⟩), stepV 4 txn sq nn key s ao x y f1 f2 f3 f4] w (StX B bp hp p bD (n + 3) (b.all.length + M.length + 1) sk w) := by
  obtain ⟨W, hW⟩ : ∃ W, W = w.alloc (stepO 4 txn sq nn key s ao x y f1 f2 f3 f4) := ⟨_, rfl⟩
  have hf0 : Fr [] w W := by rw [hW]; exact (Fr.refl [] w).alloc _
  obtain ⟨hl0, hr0⟩ := hl.new hf0
  have hm0 := h.hfr hr0
  have hs0 : W.heap[w.heap.size]? = some (stepO 4 txn sq nn key s ao x y f1 f2 f3 f4) := by rw [hW]; exact heap_alloc_new w _
  have hB0 : BlS B w W := hf0.blN hl.base
  have hb0 := hB0.bel
  have hmet0 : Met W := hmet.below hb0 (by omega)
  have hpow0 : Pows W := hpow.of_block (hb0.block 1 (by omega))
  have hfo := hst.append (x' := -1) (y' := -1) hsk h11 h21 kind hkd s (by omega)
  have hsg := hst.sg.2.1
  obtain ⟨a0, ac, hav⟩ := own_slc hm0.all
  obtain ⟨m, hm⟩ : ∃ m, m = b.all.length := ⟨_, rfl⟩
  have c0 := blk_cell hm0.blk 0
  have c1 := blk_cell hm0.blk 1
  have c7 := blk_cell hm0.blk 7
  have z0 := blk_cell hs0 0
  have z3 := blk_cell hs0 3
  have z5 := blk_cell hs0 5
  have z7 := blk_cell hs0 7
  have z8 := blk_cell hs0 8
  have z9 := blk_cell hs0 9
  have z10 := blk_cell hs0 10
  simp at c0 c1 c7 z0 z3 z5 z7 z8 z9 z10
  rw [hav, ← hm] at c1
  rw [← hm] at hml
  obtain ⟨hlD, hrD⟩ := hl0.new ((Fr.refl [] W).drew)
  have HI : Hid (HLo W.drew B hp p bD bN lo (some l) d n ∧ BkM W.drew B bp hp p lo av mv b M sk hu ∧ BlS B w W.drew ∧ Met W.drew ∧ Pows W.drew ∧ W.drew.heap[w.heap.size]? = some (stepO 4 txn sq nn key s ao x y f1 f2 f3 f4)) := ⟨hlD, hm0.hfr hrD, hB0.drew, hmet0, hpow0, hs0⟩
  have HM : Hid (m = b.all.length ∧ av = .slice a0 m ac ∧ (l.filled < 600 → l.segs ≠ [])) := ⟨hm, by rw [hm]; exact hav, hsg⟩
  obtain ⟨R, hR⟩ : ∃ R, R = l.append (d.knob f1 f2) kind s := ⟨_, rfl⟩
  rw [← hR, ← hm] at hfo
  have HR : Hid (R = l.append (d.knob f1 f2) kind s) := hR
  have HF := hfo
  have hhp : B ≤ hp := h.base.2
  clear h hl hst hmet hpow hf0 hl0 hr0 hm0 hs0 hb0 hB0 hmet0 hpow0 hlD hrD hm hav hR hfo hsk hsg
  rw [hW] at c0 c1 c7 z0 z3 z5 z7 z8 z9 z10
  go_enter Tryz.func18, Tryz.ntmps18
  go_wp2_with fail
  rw [← hW]
  rw [← hW] at c0 c1 c7 z0 z3 z5 z7 z8 z9 z10
  clear hW
  go_region_held3 (fun w' => w'.cell? ⟨bp, 0, none⟩ = some (.pointer (some ⟨hp, 0, none⟩)) ∧ w'.cell? ⟨w.heap.size, 3, none⟩ = some (.int .i64 nn) ∧ w'.cell? ⟨w.heap.size, 5, none⟩ = some (.string s) ∧ w'.cell? ⟨w.heap.size, 7, none⟩ = some (.int .i64 f1) ∧ w'.cell? ⟨w.heap.size, 8, none⟩ = some (.int .i64 f2) ∧ w'.cell? ⟨w.heap.size, 9, none⟩ = some (.int .i64 f3) ∧ w'.cell? ⟨w.heap.size, 10, none⟩ = some (.int .i64 f4))
    (simp [*])
    (first | (go_at_call 9; refine (hAppX kind s f1 f2 f3 f4 HI.out.1 (by omega) hhp HI.out.2.2.2.1 HI.out.2.2.2.2.1 hkd hn HM.out.2.2 h41 h42).mono ?_; rw [← HR.out]; rintro e w2 ⟨rfl, bN2, lo2, o2, d2, hA2, hl2, hr2⟩; have hm2 := HI.out.2.1.hfr hr2; have hs2 := (hr2.block w.heap.size (Array.getElem?_eq_some_iff.1 HI.out.2.2.2.2.2).1 (HI.out.1.ei.step HI.out.2.2.2.2.2)).trans HI.out.2.2.2.2.2; have y0 := blk_cell hm2.blk 0; have y3 := blk_cell hs2 3; have y5 := blk_cell hs2 5; have y7 := blk_cell hs2 7; have y8 := blk_cell hs2 8; have y9 := blk_cell hs2 9; have y10 := blk_cell hs2 10; simp at y0 y3 y5 y7 y8 y9 y10; have hb2 : BlS B W.drew w2 := HI.out.1.ei.blS hhp hr2; have H2 : Hid (HLo w2 B hp p bD bN2 lo2 o2 d2 (n + 3) ∧ BkM w2 B bp hp p lo2 av mv b M sk hu ∧ BlS B w w2 ∧ After R.1 R.2.1 (-1) (-1) o2 d2 ∧ w2.heap[w.heap.size]? = some (stepO 4 txn sq nn key s ao x y f1 f2 f3 f4)) := ⟨hl2, hm2, HI.out.2.2.1.trans hb2, hA2, hs2⟩; clear hA2 hl2 hr2 hm2 hs2 hb2))
  clear c0 c1 c7 z0 z3 z5 z7 z8 z9 z10 y7 y8 y9 y10 HI
  rcases HF with ⟨hq, _⟩ | ⟨_, rfl, rfl, e1, e2, hB2⟩ | ⟨_, rfl, e1, e9, hB2⟩
  · omega
  · have HB2 : Hid (BSt o2 d2 { b with all := b.all ++ [⟨m + 1, kind, bytesOf s⟩] } [] sk false) := hB2 _ _ H2.out.2.2.2.1
    rw [e1, e2]
    have hdone : Calls Tryz.prog 36 #[.pointer (some ⟨bp, 0, none⟩), .int .i64 0, .int .i64 0] w2 fun ev w' => ev = .returned (.tuple #[.bool true, .bool true]) ∧ w' = w2 := by
      have := done_good bp hp 0 av mv b sk false w2 H2.out.2.1.blk (.inr rfl)
      simpa using this
    clear hB2 e1 e2 HR
    go_wp2_with fail
    refine hdone.mono ?_
    clear hdone
    rintro e w3 ⟨rfl, rfl⟩
    obtain ⟨W9, hW9⟩ : ∃ W9, W9 = w3.alloc (.cells #[.int .u64 ((m : Int) + 1), .int .u8 (kind : Int), .string s] 44) := ⟨_, rfl⟩
    have hf9 : Fr [] w3 W9 := by rw [hW9]; exact (Fr.refl [] w3).alloc _
    obtain ⟨hl9, hr9'⟩ := H2.out.1.new hf9
    have h9 := H2.out.2.1.hfr hr9'
    have hr9 : W9.heap[w3.heap.size]? = some (.cells #[.int .u64 ((m : Int) + 1), .int .u8 (kind : Int), .string s] 44) := by rw [hW9]; exact heap_alloc_new w3 _
    have hbl9 : BlS B w W9 := H2.out.2.2.1.trans (hf9.blN H2.out.1.base)
    have H9 : Hid (BkM W9 B bp hp p lo2 av mv b [] sk false ∧ HLo W9 B hp p bD bN2 lo2 o2 d2 (n + 3) ∧ BlS B w W9) := ⟨h9, hl9, hbl9⟩
    have hrow9 := h9.all
    rw [HM.out.2.1, ← HM.out.1] at hrow9
    have k1 := blk_cell h9.blk 1
    have f1' := blk_free h9.blk 1
    have r0 := blk_cell hr9 0
    have r1 := blk_cell hr9 1
    have r2 := blk_cell hr9 2
    simp at k1 r0 r1 r2
    rw [HM.out.2.1] at k1
    have hz9 : bp < W9.heap.size := (Array.getElem?_eq_some_iff.1 h9.blk).1
    have HW9 : Hid (W9.ownsRow B 44 3 (.slice a0 m ac) m (recsV b.all) ∧ W9.heap[bp]? = some (bookG hp av mv b sk false)) := ⟨hrow9, h9.blk⟩
    have hstr : str (bytesOf s) = s := strOf_bytes s
    have k1' : ∀ ob, (W9.alloc ob).cell? ⟨bp, 1, none⟩ = some (.slice a0 m ac) := fun ob => (World.cell?_of_block (a := ⟨bp, 1, none⟩) (Below.heap_alloc W9 ob bp hz9)).trans k1
    clear hf9 h9 hr9 hbl9 hrow9 hl9 hr9'
    go_wp2_with fail
    rw [← hW9]
    clear hW9 y0 y3 y5
    go_cut [77] from 70 to 79 (fun _ wx => ∃ avx, HLo wx B hp p bD bN2 lo2 o2 d2 (n + 3) ∧ BkM wx B bp hp p lo2 avx mv { b with all := b.all ++ [⟨m + 1, kind, bytesOf s⟩] } [] sk false ∧ BlS B w wx)
    case first =>
      go_region_law (first | (rw [if_pos (by rfl)]; refine wp_recat _ _ rfl B (.slice a0 m ac) m b.all ⟨m + 1, kind, bytesOf s⟩ W9.heap.size rfl ?_ rfl ?_ ?_ ?_ ?_ ?_ ?_; (exact HW9.out.1.alloc _); (simp); (simp); (simp [hstr]); (omega); (have := H9.out.2.1.base; simp; omega); intro v4 w4 ho4 hg4 hl4; obtain ⟨q4, cap4, rfl⟩ := own_some ho4; have q1 : w4.cell? ⟨bp, 1, none⟩ = some (.slice a0 m ac) := (World.cell?_of_block (a := ⟨bp, 1, none⟩) (hg4.block bp (by simp; omega) (fun e => own_ne HW9.out.1 HW9.out.2 (by decide) e.symm))).trans (k1' _); have q2 : w4.frozen? ⟨bp, 1, none⟩ = false := (World.frozen?_of_block (a := ⟨bp, 1, none⟩) ((hg4.block bp (by simp; omega) (fun e => own_ne HW9.out.1 HW9.out.2 (by decide) e.symm)).trans (Below.heap_alloc W9 _ bp hz9))).trans f1'; have HL4 : Hid (Near W9.heap.size (.slice a0 m ac) (.slice (some ⟨q4, 0, none⟩) (m + 1) cap4)) := Near.of_at hl4 (by simp); clear hl4))
      all_goals (
        go_wp2_with fail
        go_meet
        case rel =>
          obtain ⟨t1, t2, t3⟩ := H9.out.1.allApp (r := ⟨m + 1, kind, bytesOf s⟩) H9.out.2.1 (by rw [HM.out.2.1]; exact hg4) (by rw [← HM.out.1]; exact ho4) (by rw [HM.out.2.1]; exact HL4.out) (by rw [← HM.out.1]; exact hml)
          exact ⟨_, t1, t2, H9.out.2.2.trans t3⟩)
    case rest =>
      obtain ⟨avx, hlx, hbx, hblx⟩ := hcut
      have HX : Hid (HLo wc B hp p bD bN2 lo2 o2 d2 (n + 3) ∧ BkM wc B bp hp p lo2 avx mv { b with all := b.all ++ [⟨m + 1, kind, bytesOf s⟩] } [] sk false ∧ BlS B w wc) := ⟨hlx, hbx, hblx⟩
      clear hlx hbx hblx
      go_wp2
      go_ret
      exact ⟨rfl, HX.out.2.2, bN2, lo2, o2, d2, avx, mv, _, [], false, HX.out.1, HX.out.2.1, HB2.out, by simp⟩
  · obtain ⟨c, hc⟩ : ∃ c, c = R.2.2.2 := ⟨_, rfl⟩
    rw [e1]
    rw [← hc] at e9 ⊢
    have hdone := done_fell bp hp c av mv b hu w2 H2.out.2.1.blk e9
    have hcz : ¬ (c : Int) = 0 := by omega
    have hcb : ((c : Int) == 0) = false := by simp; omega
    clear hc HR e9 e1
    cases hu
    · have HB2 : Hid (BSt o2 d2 b [⟨m + 1, kind, bytesOf s⟩] true true) := by
        have := hB2 _ _ H2.out.2.2.2.1
        simp at this
        exact this
      clear hB2
      go_wp2_with fail
      refine hdone.mono ?_
      clear hdone
      rintro e w3 ⟨rfl, hb3, hf3⟩
      obtain ⟨q1, q2, q3⟩ := H2.out.2.1.set H2.out.1 hf3 hb3 rfl H2.out.2.1.nums
      have hs3 : w3.heap[w.heap.size]? = some (stepO 4 txn sq nn key s ao x y f1 f2 f3 f4) := by
        refine (hf3.block _ (Array.getElem?_eq_some_iff.1 H2.out.2.2.2.2).1 ?_).trans H2.out.2.2.2.2
        simp
        intro e
        have hq := H2.out.2.2.2.2
        rw [e, H2.out.2.1.blk] at hq
        cases hq
      obtain ⟨W9, hW9⟩ : ∃ W9, W9 = w3.alloc (.cells #[.int .u64 ((m : Int) + 1), .int .u8 (kind : Int), .string s] 44) := ⟨_, rfl⟩
      have hf9 : Fr [] w3 W9 := by rw [hW9]; exact (Fr.refl [] w3).alloc _
      have hb9 : W9.heap[bp]? = some (bookG hp av mv b true true) := (hf9.block bp (Array.getElem?_eq_some_iff.1 q2.blk).1 (by simp)).trans q2.blk
      have hr9 : W9.heap[w3.heap.size]? = some (.cells #[.int .u64 ((m : Int) + 1), .int .u8 (kind : Int), .string s] 44) := by rw [hW9]; exact heap_alloc_new w3 _
      have H3 : Hid (HLo w3 B hp p bD bN2 lo2 o2 d2 (n + 3) ∧ BkM w3 B bp hp p lo2 av mv b M true true ∧ BlS B w w3 ∧ Fr [] w3 W9 ∧ W9.heap[bp]? = some (bookG hp av mv b true true)) := ⟨q1, q2, H2.out.2.2.1.trans q3, hf9, hb9⟩
      have k8 := blk_cell hb9 8
      have f8 := blk_free hb9 8
      have r0 := blk_cell hr9 0
      have r1 := blk_cell hr9 1
      have r2 := blk_cell hr9 2
      simp at k8 r0 r1 r2
      have hz9 : bp < W9.heap.size := (Array.getElem?_eq_some_iff.1 hb9).1
      have k8' : ∀ ob, (W9.alloc ob).cell? ⟨bp, 8, none⟩ = some mv := fun ob => (World.cell?_of_block (a := ⟨bp, 8, none⟩) (Below.heap_alloc W9 ob bp hz9)).trans k8
      have f8' : ∀ ob, (W9.alloc ob).frozen? ⟨bp, 8, none⟩ = false := fun ob => (World.frozen?_of_block (a := ⟨bp, 8, none⟩) (Below.heap_alloc W9 ob bp hz9)).trans f8
      have y3 := blk_cell hs3 3
      have y5 := blk_cell hs3 5
      simp at y3 y5
      clear q1 q2 q3 hs3 hb3 hf3 hf9 hb9 hr9
      go_upto_region 15 with fail
      rw [← hW9]
      clear hW9 y3 y5 k8 f8
      go_wp2
      go_ret
      rw [← World.setCell_alloc_past _ bp 8 _ hz9]
      obtain ⟨WA, hWA⟩ : ∃ WA, WA = W9.alloc (.cells #[.int .u64 ((m : Int) + 1), .int .u8 (kind : Int), .string s] 44) := ⟨_, rfl⟩
      rw [← hWA]
      have hgA : WA.heap[W9.heap.size]? = some (.cells #[.int .u64 ((m : Int) + 1), .int .u8 (kind : Int), .string s] 44) := by rw [hWA]; exact heap_alloc_new W9 _
      have hfA : Fr [] w3 WA := H3.out.2.2.2.1.trans (by rw [hWA]; exact (Fr.refl [] W9).alloc _)
      have hbA : WA.heap[bp]? = some (bookG hp av mv b true true) := by rw [hWA]; exact (Below.heap_alloc W9 _ bp hz9).trans H3.out.2.2.2.2
      have hrow : WA.ownsRow w3.heap.size 44 3 (.slice (some ⟨W9.heap.size, 0, none⟩) 1 1) [(⟨m + 1, kind, bytesOf s⟩ : Rec)].length (recsV [⟨m + 1, kind, bytesOf s⟩]) := by
        refine ⟨rfl, .inr ⟨W9.heap.size, 1, _, rfl, H3.out.2.2.2.1.size, hgA, Nat.le_refl _, by unfold maxLen; omega, rfl, ?_⟩⟩
        simp [recsV, recCells, strOf_bytes s]
      obtain ⟨q1, q2, q3⟩ := H3.out.2.1.setMay H3.out.1 hfA hrow (w' := WA.setCell ⟨bp, 8, none⟩ (.slice (some ⟨W9.heap.size, 0, none⟩) 1 1)) (Fr.set1 (by simp) _ _) (by rw [blk_set hbA 8 _]; rfl)
      exact ⟨rfl, H3.out.2.2.1.trans q3, bN2, lo2, o2, d2, av, _, b, _, true, q1, q2, HB2.out, by simp⟩
    · have HB2 : Hid (BSt o2 d2 b M true true) := by
        have := hB2 _ _ H2.out.2.2.2.1
        simp at this
        exact this
      clear hB2
      go_wp2_with fail
      refine hdone.mono ?_
      clear hdone
      rintro e w3 ⟨rfl, hb3, hf3⟩
      obtain ⟨q1, q2, q3⟩ := H2.out.2.1.set H2.out.1 hf3 hb3 rfl H2.out.2.1.nums
      have hs3 : w3.heap[w.heap.size]? = some (stepO 4 txn sq nn key s ao x y f1 f2 f3 f4) := by
        refine (hf3.block _ (Array.getElem?_eq_some_iff.1 H2.out.2.2.2.2).1 ?_).trans H2.out.2.2.2.2
        simp
        intro e
        have hq := H2.out.2.2.2.2
        rw [e, H2.out.2.1.blk] at hq
        cases hq
      have H3 : Hid (HLo w3 B hp p bD bN2 lo2 o2 d2 (n + 3) ∧ BkM w3 B bp hp p lo2 av mv b M true true ∧ BlS B w w3) := ⟨q1, q2, H2.out.2.2.1.trans q3⟩
      have y3 := blk_cell hs3 3
      have y5 := blk_cell hs3 5
      simp at y3 y5
      clear q1 q2 q3 hs3 hb3 hf3
      go_wp2
      go_ret
      have hf : Fr [] w3 (w3.alloc (.cells #[.int .u64 ((m : Int) + 1), .int .u8 (kind : Int), .string s] 44)) := (Fr.refl [] w3).alloc _
      obtain ⟨q1, q2⟩ := H3.out.1.new hf
      exact ⟨rfl, H3.out.2.2.trans (hf.blN H3.out.1.base), bN2, lo2, o2, d2, av, mv, b, M, true, q1, H3.out.2.1.hfr q2, HB2.out, by omega⟩
end Go.Proofs.YtbdhmkfdofkloaaGreatDoor
