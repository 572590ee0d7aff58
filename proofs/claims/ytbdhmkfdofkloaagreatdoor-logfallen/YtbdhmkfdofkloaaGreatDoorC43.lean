import Derived.Test.YtbdhmkfdofkloaaGreatDoorC40
import Derived.Deep.CutRange
/- (*book).again. -/
namespace Go.Proofs.YtbdhmkfdofkloaaGreatDoor
open Go.RowKit
open Sc

theorem Fr.grown_new {w w1 w2 : World} {v : Value} (h : Fr [] w w1) (hv : ∀ k, v.ownBlock = some k → w.heap.size ≤ k) (hg : w1.grownBy w2 v.ownBlock) : Fr [] w w2 :=
  ⟨hg.os.trans h.os, hg.tape.trans h.tape, hg.output.trans h.output, Nat.le_trans h.size hg.size, fun k hk hn => (hg.block k (Nat.lt_of_lt_of_le hk h.size) (fun e => by have := hv k e.symm; omega)).trans (h.block k hk hn)⟩
theorem recsV_take (rs : List Rec) (k : Nat) : recsV (rs.take k) = (recsV rs).take (k * 3) := by
  have h := recsV_app (rs.take k) (rs.drop k)
  rw [List.take_append_drop] at h
  by_cases hk : k ≤ rs.length
  · have hl : (recsV (rs.take k)).length = k * 3 := by rw [recsV_len, List.length_take, Nat.min_eq_left hk]
    rw [h, ← hl, List.take_left]
  · rw [List.take_of_length_le (by omega), List.take_of_length_le (by rw [recsV_len]; omega)]
/-- what stands behind again -/
def AgPost (B bp hp p bD n T K : Nat) (w : World) (e : Ending) (w' : World) : Prop :=
  e = .returned (.bool true) ∧ Below B w w' ∧ ∃ bN' lp' av' b' l' d', HLo w' B hp p bD bN' (some lp') (some l') d' n ∧ BkM w' B bp hp p (some lp') av' (.slice none 0 0) b' [] false false ∧ BSt (some l') d' b' [] false false ∧ b'.all.length ≤ K ∧ b'.tries = T
set_option maxRecDepth 100000 in
set_option maxHeartbeats 16000000 in
theorem again_any {w : World} {B bp hp p bD bN n N : Nat} {lo : Option Nat} {o : Option ALog} {d : ADisk} {av mv : Value} {b : ABook} {M : List Rec} {sk hu : Bool} (kd : Int) (txn x y : Nat) (sq nn : Int) (key s : ByteArray) (ao : Option Addr) (f1 f2 f3 f4 : Int)
    (h : BkM w B bp hp p lo av mv b M sk hu) (hl : HLo w B hp p bD bN lo o d n) (hst : BSt o d b M sk hu) (hB : 3 ≤ B) (hg : Met w ∧ Pows w ∧ ErrS w) (hNN : b.all.length + 2 ≤ N) (hN : N + 1 ≤ n) (hn : n + N + N + N + 40 ≤ 1000000000) (hN2 : N < 900000)
    (hn1 : -9223372036854775808 ≤ nn) (hn2 : nn ≤ 9223372036854775807) (h11 : -9223372036854775808 ≤ f1) (h21 : -9223372036854775808 ≤ f2) (h41 : -9223372036854775808 ≤ f4) (h42 : f4 ≤ 9223372036854775807) :
    Calls Tryz.prog 17 #[.pointer (some ⟨bp, 0, none⟩), stepV kd txn sq nn key s ao x y f1 f2 f3 f4] w (AgPost B bp hp p bD (n + N + N + 2 + N + 1) b.tries (b.all.length + M.length) w) := by
  obtain ⟨hdn, hsu⟩ := hst.sure
  have hone := hst.one
  obtain ⟨hmf, hfo⟩ := hst.mf
  have hQ : ∀ mk ss, BQ b M mk ss → nextOf mk ss ≤ N := fun mk ss hq => by have := hq.next; rw [List.length_append] at this; omega
  obtain ⟨W, hW⟩ : ∃ W, W = w.alloc (stepO kd txn sq nn key s ao x y f1 f2 f3 f4) := ⟨_, rfl⟩
  have hf0 : Fr [] w W := by rw [hW]; exact (Fr.refl [] w).alloc _
  obtain ⟨hl0, hr0⟩ := hl.new hf0
  have hm0 := h.hfr hr0
  have hs0 : W.heap[w.heap.size]? = some (stepO kd txn sq nn key s ao x y f1 f2 f3 f4) := by rw [hW]; exact heap_alloc_new w _
  have hb0 : Below B w W := hf0.below hl.base (by simp)
  have hg0 : Met W ∧ Pows W ∧ ErrS W := ⟨hg.1.below hb0 (by omega), hg.2.1.of_block (hb0.block 1 (by omega)), hg.2.2.below hb0 (by omega)⟩
  have c0 := blk_cell hm0.blk 0
  have z0 := blk_cell hs0 0
  have z1 := blk_cell hs0 1
  have z2 := blk_cell hs0 2
  have z3 := blk_cell hs0 3
  have z4 := blk_cell hs0 4
  have z5 := blk_cell hs0 5
  have z6 := blk_cell hs0 6
  have z7 := blk_cell hs0 7
  have z8 := blk_cell hs0 8
  have z9 := blk_cell hs0 9
  have z10 := blk_cell hs0 10
  simp at c0 z0 z1 z2 z3 z4 z5 z6 z7 z8 z9 z10
  obtain ⟨hlD, hrD⟩ := hl0.new ((Fr.refl [] W).drew)
  have hmD := hm0.hfr hrD
  have HI : Hid (HLo W.drew B hp p bD bN lo o d n ∧ BkM W.drew B bp hp p lo av mv b M sk hu ∧ Below B w W.drew ∧ (Met W.drew ∧ Pows W.drew ∧ ErrS W.drew) ∧ W.drew.heap[w.heap.size]? = some (stepO kd txn sq nn key s ao x y f1 f2 f3 f4)) := ⟨hlD, hmD, hb0.drew, hg0, hs0⟩
  have HS : Hid (Sure (Holds (BQ b M)) d ∧ d.down = false ∧ (∀ mk ss, BQ b M mk ss → nextOf mk ss ≤ N) ∧ M.length ≤ 1 ∧ b.must ≤ b.forced + 1 ∧ b.forced ≤ b.all.length) := ⟨hsu, hdn, hQ, hone, hmf, hfo⟩
  have hhp : B ≤ hp := h.base.2
  clear h hl hst hg hdn hsu hone hmf hfo hQ hf0 hl0 hr0 hm0 hs0 hb0 hg0 hlD hrD hmD
  go_enter Tryz.func17, Tryz.ntmps17
  go_wp2_with fail
  rw [← hW]
  clear hW
  go_region_held3 (fun w' => w'.cell? ⟨bp, 0, none⟩ = some (.pointer (some ⟨hp, 0, none⟩)) ∧ w'.cell? ⟨w.heap.size, 0, none⟩ = some (.int .i64 kd) ∧ w'.cell? ⟨w.heap.size, 1, none⟩ = some (.int .u64 (txn : Int)) ∧ w'.cell? ⟨w.heap.size, 2, none⟩ = some (.int .i64 sq) ∧ w'.cell? ⟨w.heap.size, 3, none⟩ = some (.int .i64 nn) ∧ w'.cell? ⟨w.heap.size, 4, none⟩ = some (.string key) ∧ w'.cell? ⟨w.heap.size, 5, none⟩ = some (.string s) ∧ w'.cell? ⟨w.heap.size, 6, none⟩ = some (.slice ao x y) ∧ w'.cell? ⟨w.heap.size, 7, none⟩ = some (.int .i64 f1) ∧ w'.cell? ⟨w.heap.size, 8, none⟩ = some (.int .i64 f2) ∧ w'.cell? ⟨w.heap.size, 9, none⟩ = some (.int .i64 f3) ∧ w'.cell? ⟨w.heap.size, 10, none⟩ = some (.int .i64 f4))
    (simp [*])
    (first | (go_at_call 35; refine (opened_any kd txn x y sq nn key s ao f1 f2 f3 f4 HI.out.1.ei HS.out.1 HS.out.2.1 HS.out.2.2.1 hB hhp HI.out.2.2.2.1 hN (by omega) hN2 hn1 hn2 h11 h21 h41 h42).mono ?_; rintro e w2 ⟨rfl, hb2, lp, bN2, l2, d2, mk2, ss2, a1, a2, a3, a4, a5, a6⟩; have hm2 := HI.out.2.1.hfr a6; have hs2 := (a6.block w.heap.size (Array.getElem?_eq_some_iff.1 HI.out.2.2.2.2).1 (HI.out.1.ei.step HI.out.2.2.2.2)).trans HI.out.2.2.2.2; have y0 := blk_cell hm2.blk 0; have y1 := blk_cell hs2 0; have y2 := blk_cell hs2 1; have y3 := blk_cell hs2 2; have y4 := blk_cell hs2 3; have y5 := blk_cell hs2 4; have y6 := blk_cell hs2 5; have y7 := blk_cell hs2 6; have y8 := blk_cell hs2 7; have y9 := blk_cell hs2 8; have y10 := blk_cell hs2 9; have y11 := blk_cell hs2 10; simp at y0 y1 y2 y3 y4 y5 y6 y7 y8 y9 y10 y11; have H2 : Hid ((HLo w2 B hp p bD bN2 (some lp) (some l2) d2 (n + N + N + 2) ∧ BkM w2 B bp hp p (some lp) av mv b M sk hu ∧ Below B w w2 ∧ w2.heap[w.heap.size]? = some (stepO kd txn sq nn key s ao x y f1 f2 f3 f4) ∧ (Met w2 ∧ Pows w2 ∧ ErrS w2)) ∧ (HostIn w2 B hp lp p bD bN2 l2 d2 (n + N + N + 2) ∧ d2.down = false ∧ LgS l2 d2 mk2 ss2 [] ∧ Bare d2.durable mk2 ss2 ∧ BQ b M mk2 ss2)) := ⟨⟨.inl ⟨lp, l2, rfl, rfl, a1⟩, hm2, HI.out.2.2.1.trans hb2, hs2, HI.out.2.2.2.1.1.below hb2 (by omega), HI.out.2.2.2.1.2.1.of_block (hb2.block 1 (by omega)), HI.out.2.2.2.1.2.2.below hb2 (by omega)⟩, a1, a2, a3, a4, a5⟩; clear a1 a2 a3 a4 a5 a6 hm2 hs2 hb2))
  clear c0 z0 z1 z2 z3 z4 z5 z6 z7 z8 z9 z10 y1 y2 y3 y4 y5 y6 y7 y8 y9 y10 y11 HI
  obtain ⟨k, k1, k2, k3, k4⟩ := H2.out.2.2.2.2.2.opened H2.out.2.2.2.1 H2.out.2.2.2.2.1 H2.out.2.2.1
  have hNx : Calls Tryz.prog 33 #[.pointer (some ⟨hp, 0, none⟩)] w2 fun e w' => e = .returned (.int .u64 ((k : Int) + 1)) ∧ w' = w2 := by
    have := hNext B hp lp p bD bN2 _ l2 d2 w2 H2.out.2.1
    rw [k3] at this
    simpa using this
  obtain ⟨m, hm⟩ : ∃ m, m = b.all.length := ⟨_, rfl⟩
  obtain ⟨a0, ac, hav⟩ := own_slc H2.out.1.2.1.all
  obtain ⟨e0, ec, hmv⟩ := own_slc H2.out.1.2.1.may
  have c1 := blk_cell H2.out.1.2.1.blk 1
  have c2 := blk_cell H2.out.1.2.1.blk 2
  have c3 := blk_cell H2.out.1.2.1.blk 3
  have c4 := blk_cell H2.out.1.2.1.blk 4
  have c5 := blk_cell H2.out.1.2.1.blk 5
  have c8 := blk_cell H2.out.1.2.1.blk 8
  simp at c1 c2 c3 c4 c5 c8
  rw [hav, ← hm] at c1
  obtain ⟨q, hq⟩ : ∃ q, q = M.length := ⟨_, rfl⟩
  rw [hmv, ← hq] at c8
  rw [List.length_append] at k2
  have hM1 := HS.out.2.2.2.1
  have hmf := HS.out.2.2.2.2.1
  have hfo := HS.out.2.2.2.2.2
  rw [← hm] at k2 hNN hfo
  rw [← hq] at k2 hM1
  have HK : Hid (BOpen (b.anew M k) l2 d2 mk2 ss2 [] ∧ m = b.all.length ∧ av = .slice a0 m ac ∧ mv = .slice e0 q ec ∧ q = M.length) := ⟨k4, hm, by rw [hm]; exact hav, by rw [hq]; exact hmv, hq⟩
  clear k4 hm hav hmv k3 hq
  go_wp2_with fail
  refine hNx.mono ?_
  clear hNx
  rintro e w3 ⟨rfl, rfl⟩
  have hkn : ¬ ((k : Int) + 1 = 0) := by omega
  go_upto_if 36 with fail
  have hbl : bp < w3.heap.size := (Array.getElem?_eq_some_iff.1 H2.out.1.2.1.blk).1
  have hrow := H2.out.1.2.1.all
  have hmay := H2.out.1.2.1.may
  rw [← HK.out.2.1, HK.out.2.2.1] at hrow
  rw [HK.out.2.2.2.1, ← HK.out.2.2.2.2] at hmay
  have HA : Hid (w3.ownsRow B 44 3 (.slice a0 m ac) m (recsV b.all)) := hrow
  have HMy : Hid (w3.ownsRow B 44 3 (.slice e0 q ec) q (recsV M)) := hmay
  clear hrow hmay
  obtain ⟨i0, hi, hz0, hz1, hz2⟩ := info_parts Tryz.infoRec
  have hBs : B ≤ w3.heap.size := H2.out.1.1.base
  obtain ⟨cb, hcb⟩ : ∃ cb : Bool, cb = ((k : Int) == (m : Int) + 1) := ⟨_, rfl⟩
  rw [← hcb]
  have HCB : Hid ((cb = true → k = m + 1) ∧ (cb = false → k ≤ m)) := by
    refine ⟨fun e => ?_, fun e => ?_⟩
    · rw [e] at hcb
      have := eq_of_beq hcb.symm
      omega
    · rw [e] at hcb
      have := ne_of_beq_false hcb.symm
      omega
  clear hcb
  go_cut [8] from 37 to 43 (fun v wx => ∃ A : List Rec, wx.ownsRow B 44 3 v A.length (recsV A) ∧ Fr [] w3 wx ∧ A.take k = (b.all ++ M).take k ∧ k ≤ A.length ∧ A.length ≤ 1048577)
  case first =>
    cases cb
    case true =>
      go_wp2_with fail
      go_region_law (first
        | (rw [if_pos (by rfl)]; refine wp_asrc _ _ 40 rfl w3.heap.size 44 i0 _ 3 32 Tryz.underlying40 hi hz0 hz1 hz2 rfl (by decide) (.slice none 0 0) 0 [] rfl (World.ownsRow_nil _ _ _ _) m (recsV b.all) (asrc_row HA.out) (by rw [recsV_len, ← HK.out.2.1]) (recs_one _) (by unfold maxLen; omega) (by omega) (Nat.le_refl _) ?_; intro v4 w4 ho4 hg4 hl4; have q8 : w4.cell? ⟨bp, 8, none⟩ = some (.slice e0 q ec) := (World.cell?_of_block (a := ⟨bp, 8, none⟩) (hg4.block bp hbl (by simp [Value.ownBlock]))).trans c8; have HM4 : Hid (w4.ownsRow B 44 3 (.slice e0 q ec) q (recsV M) ∧ Fr [] w3 w4) := ⟨ownsRow_fr HMy.out ((Fr.refl [] w3).drew.trans (show Fr [] _ w4 from Fr.of_grown hg4)) (by simp), (Fr.refl [] w3).drew.trans (show Fr [] _ w4 from Fr.of_grown hg4)⟩)
        | (rw [if_pos (by rfl)]; refine wp_asrc _ _ 40 rfl w3.heap.size 44 i0 _ 3 32 Tryz.underlying40 hi hz0 hz1 hz2 rfl (by decide) v4 (0 + m) ([] ++ recsV b.all) rfl ho4 q (recsV M) (asrc_row HM4.out.1) (by rw [recsV_len, ← HK.out.2.2.2.2]) (recs_one _) (by unfold maxLen; omega) (by omega) HM4.out.2.size ?_; intro v5 w5 ho5 hg5 hl5))
      all_goals (
        go_wp2_with fail
        go_meet
        case rel =>
          have hkm := HCB.out.1 (by simp)
          refine ⟨b.all ++ M, ?_, HM4.out.2.grown_new (fun k hk => (ho4.lt k hk).1) hg5, rfl, ?_, ?_⟩
          · have e : (b.all ++ M).length = 0 + m + q := by rw [List.length_append, ← HK.out.2.1, ← HK.out.2.2.2.2]; omega
            rw [e]
            have := Joins.ownsRow_le ho5 hBs
            rw [recsV_app]
            exact this
          · rw [List.length_append, ← HK.out.2.1, ← HK.out.2.2.2.2]; omega
          · rw [List.length_append, ← HK.out.2.1, ← HK.out.2.2.2.2]; omega)
    case false =>
      go_wp2_with fail
      go_meet
      case rel =>
        have hkm := HCB.out.2 (by simp)
        exact ⟨b.all, by rw [← HK.out.2.1]; exact HA.out, Fr.refl [] _, by rw [take_front _ _ _ (by rw [← HK.out.2.1]; omega)], by rw [← HK.out.2.1]; omega, by rw [← HK.out.2.1]; omega⟩
  case rest =>
    obtain ⟨A, hA1, hA2, hA3, hA4, hA5⟩ := hcut
    obtain ⟨g0, gc, rfl⟩ := own_slc hA1
    obtain ⟨hlc, hrc⟩ := H2.out.1.1.new hA2
    have hmc := H2.out.1.2.1.hfr hrc
    obtain ⟨J, hJ⟩ : ∃ J, J = A.length := ⟨_, rfl⟩
    rw [← hJ] at hA1 hA4 hA5 ⊢
    have HC : Hid (wc.ownsRow B 44 3 (.slice g0 J gc) J (recsV A) ∧ Fr [] w3 wc ∧ A.take k = (b.all ++ M).take k ∧ J = A.length ∧ HLo wc B hp p bD bN2 (some lp) (some l2) d2 (n + N + N + 2) ∧ BkM wc B bp hp p (some lp) av mv b M sk hu) := ⟨hA1, hA2, hA3, hJ, hlc, hmc⟩
    clear c1 c2 c3 c4 c5 c8 y0 HA HMy hA1 hA2 hA3 hJ hlc hrc hbl hBs
    have c2 := blk_cell hmc.blk 2
    have c3 := blk_cell hmc.blk 3
    have c4 := blk_cell hmc.blk 4
    have c5 := blk_cell hmc.blk 5
    have t1 := blk_free hmc.blk 1
    have hc1 := blk_cell hmc.blk 1
    have hblc : bp < wc.heap.size := (Array.getElem?_eq_some_iff.1 hmc.blk).1
    simp at c2 c3 c4 c5 hc1
    clear hmc
    have n1 : ¬ (k : Int) < (b.forced : Int) := by omega
    have n2 : ¬ (J : Int) < (k : Int) := by omega
    go_upto_region 13 with fail
    have hBc : B ≤ wc.heap.size := HC.out.2.2.2.2.1.base
    go_cut [60] from 56 to 62 (fun v wx => ∃ w4, Fr [] wc w4 ∧ w4.ownsRow wc.heap.size 44 3 v k (recsV (A.take k)) ∧ wx = w4.setCell ⟨bp, 1, none⟩ v)
    case first =>
      have HR := HC.out.1
      rcases HR.2 with ⟨e1, e2⟩ | ⟨g, cap, cur, e1, hb5, hg5, hle5, hmax5, hrest⟩
      · cases e1
        obtain rfl : k = 0 := by omega
        go_wp2_with (first | (at_builtin; refine wpList_asrc rfl _ _ 40 rfl wc.heap.size 44 i0 _ 3 32 Tryz.underlying40 hi hz0 hz1 hz2 rfl (by decide) (.slice none 0 0) 0 [] rfl (World.ownsRow_nil _ _ _ _) 0 [] (.inr ⟨rfl, rfl, rfl⟩) rfl (by simp) (by unfold maxLen; omega) (by omega) (Nat.le_refl _) ?_; intro v4 w4 ho4 hg4 hl4; obtain ⟨o4, c4', rfl⟩ := own_slc ho4; have t4 : w4.frozen? ⟨bp, 1, none⟩ = false := (World.frozen?_of_block (a := ⟨bp, 1, none⟩) (hg4.block bp hblc (by simp [Value.ownBlock]))).trans t1; have q4 := hg4.cell hc1 (by simp [Value.ownBlock])) | fail)
        go_meet
        case rel =>
          exact ⟨w4, show Fr [] wc w4 from Fr.of_grown hg4, by simpa [recsV] using ho4, rfl⟩
      · cases e1
        have hkc : k ≤ gc := by omega
        go_wp2_with (first | (at_builtin; refine wpList_asrc rfl _ _ 40 rfl wc.heap.size 44 i0 _ 3 32 Tryz.underlying40 hi hz0 hz1 hz2 rfl (by decide) (.slice none 0 0) 0 [] rfl (World.ownsRow_nil _ _ _ _) k (recsV (A.take k)) (by rw [recsV_take]; exact asrc_take HC.out.1 _) (by rw [recsV_len, List.length_take, ← HC.out.2.2.2.1, Nat.min_eq_left hA4]) (recs_one _) (by unfold maxLen; omega) (by omega) (Nat.le_refl _) ?_; intro v4 w4 ho4 hg4 hl4; obtain ⟨o4, c4', rfl⟩ := own_slc ho4; have t4 : w4.frozen? ⟨bp, 1, none⟩ = false := (World.frozen?_of_block (a := ⟨bp, 1, none⟩) (hg4.block bp hblc (by simp [Value.ownBlock]))).trans t1; have q4 := hg4.cell hc1 (by simp [Value.ownBlock])) | fail)
        go_meet
        case rel =>
          exact ⟨w4, show Fr [] wc w4 from Fr.of_grown hg4, by simpa using ho4, rfl⟩
    case rest =>
      obtain ⟨w4, hx1, hx2, rfl⟩ := hcut
      obtain ⟨o4, c4', rfl⟩ := own_slc hx2
      have hb4 : w4.heap[bp]? = some (bookG hp av mv b sk hu) := (hx1.block bp hblc (by simp)).trans HC.out.2.2.2.2.2.blk
      have hb5 := blk_set hb4 1 (.slice o4 k c4')
      obtain ⟨w5, hw5⟩ : ∃ w5, w5 = w4.setCell ⟨bp, 1, none⟩ (.slice o4 k c4') := ⟨_, rfl⟩
      have hf5 : Fr [bp] w4 w5 := by rw [hw5]; exact Fr.set1 (by simp) _ _
      rw [← hw5] at hb5 ⊢
      have hB5 : w5.heap[bp]? = some (bookG hp (.slice o4 k c4') mv b sk hu) := by rw [hb5]; rfl
      have H5 : Hid (w5.heap[bp]? = some (bookG hp (.slice o4 k c4') mv b sk hu) ∧ Fr [bp] w4 w5 ∧ Fr [] wc w4 ∧ w4.ownsRow wc.heap.size 44 3 (.slice o4 k c4') k (recsV (A.take k))) := ⟨hB5, hf5, hx1, hx2⟩
      clear hw5 hb4 hb5 hf5 hx1 hx2 c2 c3 c4 c5 t1 hc1
      have c2 := blk_cell hB5 2
      have c3 := blk_cell hB5 3
      have c4 := blk_cell hB5 4
      have c5 := blk_cell hB5 5
      have t2 := blk_free hB5 2
      have t3 := blk_free hB5 3
      simp at c2 c3 c4 c5
      clear hB5
      go_upto_if 79 with fail
      obtain ⟨w6, hw6⟩ : ∃ w6, w6 = (w5.setCell ⟨bp, 2, none⟩ (.int .i64 (k : Int))).setCell ⟨bp, 3, none⟩ (.int .u64 (b.tries : Int)) := ⟨_, rfl⟩
      rw [← hw6]
      have hB6 : w6.heap[bp]? = some (bookG hp (.slice o4 k c4') mv { b with forced := k, low := b.tries } sk hu) := by
        rw [hw6]
        have := blk_set (blk_set H5.out.1 2 (.int .i64 (k : Int))) 3 (.int .u64 (b.tries : Int))
        rw [this]; rfl
      have hf6 : Fr [bp] w4 w6 := by rw [hw6]; exact (H5.out.2.1.trans (Fr.set1 (by simp) _ _)).trans (Fr.set1 (by simp) _ _)
      have H6 : Hid (w6.heap[bp]? = some (bookG hp (.slice o4 k c4') mv { b with forced := k, low := b.tries } sk hu) ∧ Fr [bp] w4 w6) := ⟨hB6, hf6⟩
      clear hw6 hf6 c2 c3 c4 c5 t2 t3
      have t3 := blk_free hB6 3
      have c3 := blk_cell hB6 3
      simp at c3
      clear hB6
      obtain ⟨cx, hcx⟩ : ∃ cx : Bool, cx = decide ((k : Int) + 1 < (b.tries : Int)) := ⟨_, rfl⟩
      rw [← hcx]
      have HCX : Hid ((cx = true → k + 1 < b.tries) ∧ (cx = false → b.tries ≤ k + 1)) := by
        refine ⟨fun e => ?_, fun e => ?_⟩
        · rw [e] at hcx
          have := of_decide_eq_true hcx.symm
          omega
        · rw [e] at hcx
          have := of_decide_eq_false hcx.symm
          omega
      clear hcx
      go_cut [] from 80 to 83 (fun wx => ∃ wy, wy = wx ∧ wy.heap[bp]? = some (bookG hp (.slice o4 k c4') mv { b with forced := k, low := min b.tries (k + 1) } sk hu) ∧ Fr [bp] w4 wy)
      case first =>
        cases cx
        case true =>
          go_wp2_with fail
          go_meet
          case rel =>
            have hlt := HCX.out.1 (by simp)
            refine ⟨_, rfl, ?_, H6.out.2.trans (Fr.set1 (by simp) _ _)⟩
            have := blk_set H6.out.1 3 (.int .u64 ((k : Int) + 1))
            rw [this]
            rw [Nat.min_eq_right (by omega)]
            rfl
        case false =>
          go_wp2_with fail
          go_meet
          case rel =>
            have hlt := HCX.out.2 (by simp)
            refine ⟨_, rfl, ?_, H6.out.2⟩
            rw [Nat.min_eq_left (by omega)]
            exact H6.out.1
      case rest =>
        obtain ⟨wy, rfl, hby, hfy⟩ := hcut
        have c4 := blk_cell hby 4
        have t6 := blk_free hby 6
        have t7 := blk_free hby 7
        have t8 := blk_free hby 8
        have c6 := blk_cell hby 6
        have c7 := blk_cell hby 7
        have c8 := blk_cell hby 8
        simp at c4 c6 c7 c8
        have HY : Hid (wy.heap[bp]? = some (bookG hp (.slice o4 k c4') mv { b with forced := k, low := min b.tries (k + 1) } sk hu) ∧ Fr [bp] w4 wy) := ⟨hby, hfy⟩
        clear hby hfy
        have n3 : ¬ ((k : Int) + 1 < (b.must : Int)) := by omega
        go_wp2_with fail
        obtain ⟨w9, hw9⟩ : ∃ w9, w9 = ((wy.setCell ⟨bp, 6, none⟩ (.bool false)).setCell ⟨bp, 7, none⟩ (.bool false)).setCell ⟨bp, 8, none⟩ (.slice none 0 0) := ⟨_, rfl⟩
        rw [← hw9]
        have hB9 : w9.heap[bp]? = some (bookG hp (.slice o4 k c4') (.slice none 0 0) (b.anew M k) false false) := by
          rw [hw9]
          have := blk_set (blk_set (blk_set HY.out.1 6 (.bool false)) 7 (.bool false)) 8 (.slice none 0 0)
          rw [this]
          have e : (b.anew M k).must = b.must := Nat.min_eq_left (by omega)
          show _ = some (Obj.cells #[_, _, _, _, Value.int .u64 (((b.anew M k).must : Nat) : Int), _, _, _, _] _)
          rw [e]; rfl
        have hf9 : Fr [bp] w4 w9 := by rw [hw9]; exact ((HY.out.2.trans (Fr.set1 (by simp) _ _)).trans (Fr.set1 (by simp) _ _)).trans (Fr.set1 (by simp) _ _)
        have hAk : (A.take k).length = k := by rw [List.length_take, ← HC.out.2.2.2.1, Nat.min_eq_left hA4]
        obtain ⟨hl9, hm9, hb9⟩ := HC.out.2.2.2.2.2.setAnew (b' := b.anew M k) (A := A.take k) HC.out.2.2.2.2.1 H5.out.2.2.1 (by rw [hAk]; exact H5.out.2.2.2) hf9 hB9 HC.out.2.2.1.symm (by omega) ⟨by show k ≤ _; omega, by show min b.tries (k + 1) < _; omega, by show min b.must (k + 1) < _; omega, H2.out.1.2.1.nums.2.2.2⟩
        have hh9 : HostIn w9 B hp lp p bD bN2 l2 d2 (n + N + N + 2) := by
          rcases hl9 with ⟨_, _, e1, e2, h⟩ | ⟨e1, _⟩
          · cases e1; cases e2; exact h
          · cases e1
        have hs9 : w9.heap[w.heap.size]? = some (stepO kd txn sq nn key s ao x y f1 f2 f3 f4) := by
          have hq := H2.out.1.2.2.2.1
          have hq1 := (HC.out.2.1.block _ (Array.getElem?_eq_some_iff.1 hq).1 (by simp)).trans hq
          have hq2 := (H5.out.2.2.1.block _ (Array.getElem?_eq_some_iff.1 hq1).1 (by simp)).trans hq1
          refine (hf9.block _ (Array.getElem?_eq_some_iff.1 hq2).1 ?_).trans hq2
          simp
          intro e
          rw [e] at hq
          rw [H2.out.1.2.1.blk] at hq
          cases hq
        have hbw : Below B w w9 := (H2.out.1.2.2.1.trans (HC.out.2.1.below (by have := H2.out.1.1.base; exact this) (by simp))).trans hb9
        have hlk := looks_gen B bp hp lp p bD bN2 (n + N + N + 2) (mk2 - 1) (.slice o4 k c4') (b.anew M k) l2 d2 _ w9 (hm9.look hh9) HK.out.1.look
        have hg3 := H2.out.1.2.2.2.2
        have hb39 : Below B w3 w9 := (HC.out.2.1.below (by have := H2.out.1.1.base; exact this) (by simp)).trans hb9
        have H9 : Hid (HLo w9 B hp p bD bN2 (some lp) (some l2) d2 (n + N + N + 2) ∧ BkM w9 B bp hp p (some lp) (.slice o4 k c4') (.slice none 0 0) (b.anew M k) [] false false ∧ Below B w w9 ∧ (Met w9 ∧ Pows w9 ∧ ErrS w9) ∧ w9.heap[w.heap.size]? = some (stepO kd txn sq nn key s ao x y f1 f2 f3 f4)) := ⟨hl9, hm9, hbw, ⟨hg3.1.below hb39 (by omega), hg3.2.1.of_block (hb39.block 1 (by omega)), hg3.2.2.below hb39 (by omega)⟩, hs9⟩
        have HBO : Hid (BOpen (b.anew M k) l2 d2 mk2 ss2 [] ∧ k + 1 ≤ N ∧ k ≤ b.all.length + M.length) := ⟨HK.out.1, by omega, by rw [← HK.out.2.1, ← HK.out.2.2.2.2]; exact k2⟩
        clear hw9 hB9 hf9 hAk hl9 hm9 hb9 hh9 hs9 hbw hg3 hb39 c4 c6 c7 c8 t6 t7 t8 HY H6 H5 HC HK H2 HS HCB HCX t3 c3 hblc hA4 hA5 hBc hM1 hmf hfo n1 n2 n3 k1 k2
        refine hlk.mono ?_
        clear hlk
        rintro e wA ⟨rfl, hfA⟩
        obtain ⟨hlA, hrA⟩ := H9.out.1.new hfA
        have hmA := H9.out.2.1.hfr hrA
        have hsA := (hfA.block _ (Array.getElem?_eq_some_iff.1 H9.out.2.2.2.2).1 (by simp)).trans H9.out.2.2.2.2
        have hbA : Below B w9 wA := hfA.below H9.out.1.base (by simp)
        have hgA : Met wA ∧ Pows wA ∧ ErrS wA := ⟨H9.out.2.2.2.1.1.below hbA (by omega), H9.out.2.2.2.1.2.1.of_block (hbA.block 1 (by omega)), H9.out.2.2.2.1.2.2.below hbA (by omega)⟩
        obtain ⟨hlA', hrA'⟩ := hlA.new ((Fr.refl [] wA).drew)
        have HA : Hid (HLo wA.drew B hp p bD bN2 (some lp) (some l2) d2 (n + N + N + 2) ∧ BkM wA.drew B bp hp p (some lp) (.slice o4 k c4') (.slice none 0 0) (b.anew M k) [] false false ∧ Below B w wA.drew ∧ (Met wA.drew ∧ Pows wA.drew ∧ ErrS wA.drew) ∧ wA.drew.heap[w.heap.size]? = some (stepO kd txn sq nn key s ao x y f1 f2 f3 f4)) := ⟨hlA', hmA.hfr hrA', (H9.out.2.2.1.trans hbA).drew, hgA, hsA⟩
        have c0 := blk_cell hmA.blk 0
        have z9 := blk_cell hsA 9
        have z10 := blk_cell hsA 10
        simp at c0 z9 z10
        clear hfA hlA hrA hmA hsA hbA hgA hlA' hrA' H9
        go_wp2_with fail
        go_region_held3 (fun w' => w'.cell? ⟨bp, 0, none⟩ = some (.pointer (some ⟨hp, 0, none⟩)) ∧ w'.cell? ⟨w.heap.size, 9, none⟩ = some (.int .i64 f3) ∧ w'.cell? ⟨w.heap.size, 10, none⟩ = some (.int .i64 f4))
          (simp [*])
          (first | (go_at_call 12; refine (oLose f3 f4 HA.out.1.ei.any HBO.out.1.still h41 h42).mono ?_; rintro e wB ⟨rfl, FB, bNB, hPB, hCB, hFB⟩; have hmB := HA.out.2.1.hfr hFB; have hsB := (hFB.block w.heap.size (Array.getElem?_eq_some_iff.1 HA.out.2.2.2.2).1 (HA.out.1.ei.step HA.out.2.2.2.2)).trans HA.out.2.2.2.2; have y0 := blk_cell hmB.blk 0; have y9 := blk_cell hsB 9; have y10 := blk_cell hsB 10; simp at y0 y9 y10; have hbB : Below B wA.drew wB := HA.out.1.ei.below hhp hFB; have HB : Hid (HLo wB B hp p bD bNB none none (fallen FB) (n + N + N + 2) ∧ BkM wB B bp hp p none (.slice o4 k c4') (.slice none 0 0) (b.anew M k) [] false false ∧ Below B w wB ∧ (Met wB ∧ Pows wB ∧ ErrS wB) ∧ Holds (fun a s => a = mk2 ∧ s = ss2) FB) := ⟨.inr ⟨rfl, rfl, hCB⟩, hmB, HA.out.2.2.1.trans hbB, ⟨HA.out.2.2.2.1.1.below hbB (by omega), HA.out.2.2.2.1.2.1.of_block (hbB.block 1 (by omega)), HA.out.2.2.2.1.2.2.below hbB (by omega)⟩, hPB⟩; clear hPB hCB hFB hmB hsB hbB))
        clear c0 z9 z10 y9 y10 HA
        go_wp2_with fail
        obtain ⟨hlD, hrD⟩ := HB.out.1.new ((Fr.refl [] wB).drew)
        have HBD : Hid (HLo wB.drew B hp p bD bNB none none (fallen FB) (n + N + N + 2) ∧ BkM wB.drew B bp hp p none (.slice o4 k c4') (.slice none 0 0) (b.anew M k) [] false false ∧ Below B w wB.drew ∧ (Met wB.drew ∧ Pows wB.drew ∧ ErrS wB.drew) ∧ Holds (fun a s => a = mk2 ∧ s = ss2) FB) := ⟨hlD, HB.out.2.1.hfr hrD, HB.out.2.2.1.drew, HB.out.2.2.2.1, HB.out.2.2.2.2⟩
        clear hlD hrD HB
        have hQ : ∀ mk ss, (mk = mk2 ∧ ss = ss2) → nextOf mk ss ≤ N := fun mk ss e => by
          rw [e.1, e.2]
          have h1 := HBO.out.1.lg.next
          rw [HBO.out.1.next] at h1
          have h2 := HBO.out.2.1
          have h3 : (b.anew M k).all.length ≤ k := by show ((b.all ++ M).take k).length ≤ k; rw [List.length_take]; omega
          simp at h1
          omega
        have HQ : Hid (∀ mk ss, (mk = mk2 ∧ ss = ss2) → nextOf mk ss ≤ N) := hQ
        clear hQ
        go_region_held3 (fun w' => w'.cell? ⟨bp, 0, none⟩ = some (.pointer (some ⟨hp, 0, none⟩)))
          (simp [*])
          (first
            | (go_at_call 7; refine (well_any _).mono ?_; rintro e wE ⟨rfl, hbE⟩; have hfE : Fr [] wB.drew wE := Fr.of_below hbE []; obtain ⟨hlE, hrE⟩ := HBD.out.1.new hfE; have hmE := HBD.out.2.1.hfr hrE; have hbE' : Below B wB.drew wE := HBD.out.1.ei.below hhp hrE; have hE0 := blk_cell hmE.blk 0; simp at hE0; have HE : Hid (HLo wE B hp p bD bNB none none (fallen FB) (n + N + N + 2) ∧ BkM wE B bp hp p none (.slice o4 k c4') (.slice none 0 0) (b.anew M k) [] false false ∧ Below B w wE ∧ (Met wE ∧ Pows wE ∧ ErrS wE) ∧ Holds (fun a s => a = mk2 ∧ s = ss2) FB) := ⟨hlE, hmE, HBD.out.2.2.1.trans hbE', ⟨HBD.out.2.2.2.1.1.below hbE' (by omega), HBD.out.2.2.2.1.2.1.of_block (hbE'.block 1 (by omega)), HBD.out.2.2.2.1.2.2.below hbE' (by omega)⟩, HBD.out.2.2.2.2⟩; clear hbE hfE hlE hrE hmE hbE')
            | (go_at_call 8; refine (openWell HE.out.1.ei (fallen_sure HE.out.2.2.2.2) rfl HQ.out hB hhp HE.out.2.2.2.1 (by omega) (by omega) hN2).mono ?_; rintro e wG ⟨rfl, hbG, lpG, bNG, lG, dG, mkG, ssG, g1, g2, g3, g4, ⟨rfl, rfl⟩, g6⟩; have hmG := HE.out.2.1.hfr g6; have hG0 := blk_cell hmG.blk 0; simp at hG0; have HG : Hid (HostIn wG B hp lpG p bD bNG lG dG (n + N + N + 2 + N + 1) ∧ BkM wG B bp hp p (some lpG) (.slice o4 k c4') (.slice none 0 0) (b.anew M k) [] false false ∧ Below B w wG ∧ dG.down = false ∧ LgS lG dG mkG ssG [] ∧ Bare dG.durable mkG ssG) := ⟨g1, hmG, HE.out.2.2.1.trans hbG, g2, g3, g4⟩; clear hbG g1 g2 g3 g4 g6 hmG))
        have hBO : BOpen (b.anew M k) lG dG mkG ssG [] := ⟨HBO.out.1.fit, HG.out.2.2.2.2.1, HG.out.2.2.2.2.2, HG.out.2.2.2.1, HBO.out.1.recs, by rw [HG.out.2.2.2.2.1.dur, ← HBO.out.1.lg.dur]; exact HBO.out.1.dur⟩
        have hlk := looks_gen B bp hp lpG p bD bNG (n + N + N + 2 + N + 1) (mkG - 1) (.slice o4 k c4') (b.anew M k) lG dG _ wG (HG.out.2.1.look HG.out.1) hBO.look
        have HBG : Hid (BOpen (b.anew M k) lG dG mkG ssG []) := hBO
        clear hBO HE HBD HQ y0 hE0 hG0
        go_wp2_with fail
        refine hlk.mono ?_
        clear hlk
        rintro e wZ ⟨rfl, hfZ⟩
        have HZ : Hid (Fr [] wG wZ) := hfZ
        clear hfZ
        go_wp2
        go_ret
        have hlG : HLo wG B hp p bD bNG (some lpG) (some lG) dG (n + N + N + 2 + N + 1) := .inl ⟨lpG, lG, rfl, rfl, HG.out.1⟩
        obtain ⟨hlZ, hrZ⟩ := hlG.new HZ.out
        have hlen : (b.anew M k).all.length ≤ k := by show ((b.all ++ M).take k).length ≤ k; rw [List.length_take]; omega
        exact ⟨rfl, HG.out.2.2.1.trans (HZ.out.below hlG.base (by simp)), bNG, lpG, _, b.anew M k, lG, dG, hlZ, HG.out.2.1.hfr hrZ, .inl ⟨lG, mkG, ssG, [], rfl, rfl, rfl, HBG.out⟩, by have := HBO.out.2.2; omega, rfl⟩
end Go.Proofs.YtbdhmkfdofkloaaGreatDoor
