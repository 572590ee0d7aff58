import Derived.Test.YtbdhmkfdofkloaaGreatDoorC40
import Derived.Deep.CutRange
import Derived.Test.YtbdhmkfdofkloaaGreatDoorC41
/- (*book).step over a disk that may fail: Cut. -/
namespace Go.Proofs.YtbdhmkfdofkloaaGreatDoor
open Go.RowKit
open Sc

theorem decided {p : Prop} [Decidable p] {c : Bool} (h : c = decide p) : (c = true → p) ∧ (c = false → ¬ p) :=
  ⟨fun e => of_decide_eq_true (by rw [← h]; exact e), fun e => of_decide_eq_false (by rw [← h]; exact e)⟩
set_option maxRecDepth 100000 in
set_option maxHeartbeats 16000000 in
theorem stepX_cut {w : World} {B bp hp p bD bN n : Nat} {lo : Option Nat} {l : ALog} {d : ADisk} {av mv : Value} {b : ABook} {M : List Rec} {sk hu : Bool} (txn x y Lw : Nat) (sq nn : Int) (key s : ByteArray) (ao : Option Addr) (f1 f2 f3 f4 : Int)
    (h : BkM w B bp hp p lo av mv b M sk hu) (hl : HLo w B hp p bD bN lo (some l) d n) (hst : BSt (some l) d b M sk hu) (hB : 3 ≤ B) (hmet : Met w) (hpow : Pows w) (hn : n + 4 + b.all.length ≤ 1000000000) (hsk : sk = false → f1 < 0 ∧ f2 < 0) (hml : b.all.length ≤ 900000) (hwr : IntKind.u64.wrap ((b.all.length : Int) + 1 - IntKind.u64.wrap sq) = (Lw : Int))
    (h11 : -9223372036854775808 ≤ f1) (h21 : -9223372036854775808 ≤ f2) (h41 : -9223372036854775808 ≤ f4) (h42 : f4 ≤ 9223372036854775807) :
    Calls Tryz.prog 18 #[.pointer (some ⟨bp, 0, none⟩), stepV 6 txn sq nn key s ao x y f1 f2 f3 f4] w (StX B bp hp p bD (n + 4 + b.all.length) (b.all.length + M.length) sk w) := by
  obtain ⟨W, hW⟩ : ∃ W, W = w.alloc (stepO 6 txn sq nn key s ao x y f1 f2 f3 f4) := ⟨_, rfl⟩
  have hf0 : Fr [] w W := by rw [hW]; exact (Fr.refl [] w).alloc _
  obtain ⟨hl0, hr0⟩ := hl.new hf0
  have hm0 := h.hfr hr0
  have hs0 : W.heap[w.heap.size]? = some (stepO 6 txn sq nn key s ao x y f1 f2 f3 f4) := by rw [hW]; exact heap_alloc_new w _
  have hB0 : BlS B w W := hf0.blN hl.base
  have hb0 := hB0.bel
  have hmet0 : Met W := hmet.below hb0 (by omega)
  have hpow0 : Pows W := hpow.of_block (hb0.block 1 (by omega))
  obtain ⟨a0, ac, hav⟩ := own_slc hm0.all
  obtain ⟨m, hm⟩ : ∃ m, m = b.all.length := ⟨_, rfl⟩
  obtain ⟨tp, htp⟩ : ∃ tp, tp = min Lw (b.all.length + 1) := ⟨_, rfl⟩
  have hcu := (hst.tries (T := max b.tries tp) (Nat.le_max_left _ _)).cut (x := f1) (y := f2) (x' := -1) (y' := -1) hsk h11 h21 Lw tp htp (Nat.le_max_right _ _) hml
  have hsg := hst.sg
  have c0 := blk_cell hm0.blk 0
  have c1 := blk_cell hm0.blk 1
  have c5 := blk_cell hm0.blk 5
  have z0 := blk_cell hs0 0
  have z2 := blk_cell hs0 2
  simp at c0 c1 c5 z0 z2
  rw [hav, ← hm] at c1
  rw [← hm] at hml htp hwr hn
  have HI : Hid (HLo W B hp p bD bN lo (some l) d n ∧ BkM W B bp hp p lo av mv b M sk hu ∧ BlS B w W ∧ Met W ∧ Pows W ∧ W.heap[w.heap.size]? = some (stepO 6 txn sq nn key s ao x y f1 f2 f3 f4)) := ⟨hl0, hm0, hB0, hmet0, hpow0, hs0⟩
  have HM : Hid (m = b.all.length ∧ av = .slice a0 m ac ∧ tp = min Lw (m + 1) ∧ l.segs.length ≤ m + 2 ∧ (l.failed = 0 → ∀ k s : Nat, l.segs[k]? = some s → ∃ r rs, l.recs = r :: rs ∧ r.lsn ≤ s ∧ s - r.lsn < l.recs.length)) := ⟨hm, by rw [hm]; exact hav, htp, by rw [hm]; exact hsg.1, hsg.2.2⟩
  obtain ⟨R, hR⟩ : ∃ R, R = l.cut (d.knob f1 f2) Lw := ⟨_, rfl⟩
  rw [← hR] at hcu
  have HR : Hid (R = l.cut (d.knob f1 f2) Lw) := hR
  have HF := hcu
  have hhp : B ≤ hp := h.base.2
  have hnum := h.nums
  clear h hl hst hmet hpow hf0 hl0 hr0 hm0 hs0 hb0 hB0 hmet0 hpow0 hav hR hcu hsk hsg htp hm
  rw [hW] at c0 c1 c5 z0 z2
  go_enter Tryz.func18, Tryz.ntmps18
  go_upto_if 153 with fail
  rw [← hW]
  rw [← hW] at c0 c1 c5 z0 z2
  clear hW
  obtain ⟨ca, hca⟩ : ∃ ca : Bool, ca = decide ((m : Int) + 1 < (Lw : Int)) := ⟨_, rfl⟩
  rw [← hca]
  have HCA : Hid ((ca = true → (m : Int) + 1 < (Lw : Int)) ∧ (ca = false → ¬ (m : Int) + 1 < (Lw : Int))) := decided hca
  clear hca
  go_cut [17] from 154 to 154 (fun v wx => v = .int .u64 (tp : Int) ∧ wx = W)
  case first =>
    cases ca
    case true =>
      go_wp2_with fail
      go_meet
      case rel =>
        have := HCA.out.1 (by simp)
        refine ⟨?_, rfl⟩
        congr 1
        have := HM.out.2.2.1
        omega
    case false =>
      go_wp2_with fail
      go_meet
      case rel =>
        have := HCA.out.2 (by simp)
        refine ⟨?_, rfl⟩
        congr 1
        have := HM.out.2.2.1
        omega
  case rest =>
    obtain ⟨rfl, rfl⟩ := hcut
    clear hwr
    go_upto_if 160 with fail
    obtain ⟨cc, hcc⟩ : ∃ cc : Bool, cc = decide (b.tries < tp) := ⟨_, rfl⟩
    rw [← hcc]
    have HCC : Hid ((cc = true → b.tries < tp) ∧ (cc = false → ¬ b.tries < tp)) := decided hcc
    clear hcc
    have t5 := blk_free HI.out.2.1.blk 5
    go_cut [] from 161 to 164 (fun wx => ∃ wy, wy = wx ∧ wy.heap[bp]? = some (bookG hp av mv { b with tries := max b.tries tp } sk hu) ∧ Fr [bp] wc wy)
    case first =>
      cases cc
      case true =>
        go_wp2_with fail
        go_meet
        case rel =>
          have := HCC.out.1 (by simp)
          refine ⟨_, rfl, ?_, Fr.set1 (by simp) _ _⟩
          rw [blk_set HI.out.2.1.blk 5 _, Nat.max_eq_right (by omega)]
          rfl
      case false =>
        go_wp2_with fail
        go_meet
        case rel =>
          have := HCC.out.2 (by simp)
          refine ⟨_, rfl, ?_, Fr.refl _ _⟩
          rw [Nat.max_eq_left (by omega)]
          exact HI.out.2.1.blk
    case rest =>
      obtain ⟨wy, rfl, hby, hfy⟩ := hcut
      have htl : tp ≤ m + 1 := by have := HM.out.2.2.1; omega
      obtain ⟨hl1, hm1, hb1⟩ := HI.out.2.1.set HI.out.1 hfy hby rfl ⟨hnum.1, hnum.2.1, hnum.2.2.1, by show max b.tries tp < _; omega⟩
      have hs1 : wy.heap[w.heap.size]? = some (stepO 6 txn sq nn key s ao x y f1 f2 f3 f4) := by
        refine (hfy.block _ (Array.getElem?_eq_some_iff.1 HI.out.2.2.2.2.2).1 ?_).trans HI.out.2.2.2.2.2
        simp
        intro e
        have hq := HI.out.2.2.2.2.2
        rw [e, HI.out.2.1.blk] at hq
        cases hq
      have hg1 : Met wy ∧ Pows wy := ⟨HI.out.2.2.2.1.below hb1.bel (by omega), HI.out.2.2.2.2.1.of_block (hb1.bel.block 1 (by omega))⟩
      have hbw : BlS B w wy := HI.out.2.2.1.trans hb1
      obtain ⟨hlD, hrD⟩ := hl1.new ((Fr.refl [] wy).drew)
      have HY : Hid (HLo wy.drew B hp p bD bN lo (some l) d n ∧ BkM wy.drew B bp hp p lo av mv { b with tries := max b.tries tp } M sk hu ∧ BlS B w wy.drew ∧ Met wy.drew ∧ Pows wy.drew ∧ wy.drew.heap[w.heap.size]? = some (stepO 6 txn sq nn key s ao x y f1 f2 f3 f4)) := ⟨hlD, hm1.hfr hrD, hbw.drew, hg1.1, hg1.2, hs1⟩
      clear c0 c1 c5 z0 z2 t5 HI hfy hby hbw
      have c0 := blk_cell hm1.blk 0
      have z7 := blk_cell hs1 7
      have z8 := blk_cell hs1 8
      have z9 := blk_cell hs1 9
      have z10 := blk_cell hs1 10
      simp at c0 z7 z8 z9 z10
      clear hl1 hm1 hb1 hs1 hg1 hlD hrD
      go_wp2_with fail
      go_region_held3 (fun w' => w'.cell? ⟨bp, 0, none⟩ = some (.pointer (some ⟨hp, 0, none⟩)) ∧ w'.cell? ⟨w.heap.size, 7, none⟩ = some (.int .i64 f1) ∧ w'.cell? ⟨w.heap.size, 8, none⟩ = some (.int .i64 f2) ∧ w'.cell? ⟨w.heap.size, 9, none⟩ = some (.int .i64 f3) ∧ w'.cell? ⟨w.heap.size, 10, none⟩ = some (.int .i64 f4))
        (simp [*])
        (first | (go_at_call 37; refine (hCutX Lw f1 f2 f3 f4 HY.out.1 (by omega) hhp HY.out.2.2.2.1 HY.out.2.2.2.2.1 (by have := HM.out.2.2.2.1; omega) HM.out.2.2.2.2 h41 h42).mono ?_; rw [← HR.out]; rintro e w2 ⟨rfl, bN2, lo2, o2, d2, hA2, hl2, hr2⟩; have hm2 := HY.out.2.1.hfr hr2; have hs2 := (hr2.block w.heap.size (Array.getElem?_eq_some_iff.1 HY.out.2.2.2.2.2).1 (HY.out.1.ei.step HY.out.2.2.2.2.2)).trans HY.out.2.2.2.2.2; have y0 := blk_cell hm2.blk 0; have y7 := blk_cell hs2 7; have y8 := blk_cell hs2 8; have y9 := blk_cell hs2 9; have y10 := blk_cell hs2 10; simp at y0 y7 y8 y9 y10; have hb2 : BlS B wy.drew w2 := HY.out.1.ei.blS hhp hr2; have H2 : Hid (HLo w2 B hp p bD bN2 lo2 o2 d2 (n + 4 + b.all.length) ∧ BkM w2 B bp hp p lo2 av mv { b with tries := max b.tries tp } M sk hu ∧ BlS B w w2 ∧ After R.1 R.2.1 (-1) (-1) o2 d2) := ⟨hl2.mores (by have := HM.out.2.2.2.1; have := HM.out.1; omega) (by have := HM.out.1; omega), hm2, HY.out.2.2.1.trans hb2, hA2⟩; clear hA2 hl2 hr2 hm2 hs2 hb2))
      clear c0 z7 z8 z9 z10 y7 y8 y9 y10 HY
      have k1 := blk_cell H2.out.2.1.blk 1
      have k2 := blk_cell H2.out.2.1.blk 2
      have k3 := blk_cell H2.out.2.1.blk 3
      have k4 := blk_cell H2.out.2.1.blk 4
      have k7 := blk_cell H2.out.2.1.blk 7
      have t2 := blk_free H2.out.2.1.blk 2
      have t3 := blk_free H2.out.2.1.blk 3
      have t4 := blk_free H2.out.2.1.blk 4
      simp at k1 k2 k3 k4 k7
      rw [HM.out.2.1] at k1
      rcases HF with ⟨rfl, e0, hB2⟩ | ⟨rfl, e9, hB2⟩
      · have HB2 : Hid (BSt o2 d2 { b with forced := b.all.length, low := max b.low tp, must := max b.must tp, tries := max b.tries tp } M sk false) := hB2 _ _ H2.out.2.2.2
        rw [e0]
        clear hB2 e0 HR
        have fin : ∀ W2, Fr [bp] w2 W2 → W2.heap[bp]? = some (bookG hp av mv { b with forced := b.all.length, low := max b.low tp, must := max b.must tp, tries := max b.tries tp } sk false) → StX B bp hp p bD (n + 4 + b.all.length) (b.all.length + M.length) sk w (.returned (.bool true)) W2 := fun W2 hf hb => by
          obtain ⟨q1, q2, q3⟩ := H2.out.2.1.set H2.out.1 hf hb rfl ⟨H2.out.2.1.len, by show max b.low tp < _; omega, by show max b.must tp < _; omega, H2.out.2.1.nums.2.2.2⟩
          exact ⟨rfl, H2.out.2.2.1.trans q3, bN2, lo2, o2, d2, av, mv, _, M, false, q1, q2, HB2.out, Nat.le_refl _⟩
        have FIN : Hid (∀ W2, Fr [bp] w2 W2 → W2.heap[bp]? = some (bookG hp av mv { b with forced := b.all.length, low := max b.low tp, must := max b.must tp, tries := max b.tries tp } sk false) → StX B bp hp p bD (n + 4 + b.all.length) (b.all.length + M.length) sk w (.returned (.bool true)) W2) := fin
        have hdone : Calls Tryz.prog 36 #[.pointer (some ⟨bp, 0, none⟩), .int .i64 0, .int .i64 0] w2 fun ev w' => ev = .returned (.tuple #[.bool true, .bool true]) ∧ w' = w2 := by
          have := done_good bp hp 0 av mv _ sk false w2 H2.out.2.1.blk (.inr rfl)
          simpa using this
        have HD : Hid (Calls Tryz.prog 36 #[.pointer (some ⟨bp, 0, none⟩), .int .i64 0, .int .i64 0] w2 fun ev w' => ev = .returned (.tuple #[.bool true, .bool true]) ∧ w' = w2) := hdone
        clear fin hdone
        have hbb := H2.out.2.1.blk
        have HBB : Hid (w2.heap[bp]? = some (bookG hp av mv { b with tries := max b.tries tp } sk false)) := hbb
        clear hbb
        by_cases hL0 : (b.low : Int) < (tp : Int)
        · by_cases hM0 : (b.must : Int) < (tp : Int)
          · go_wp2_with fail
            refine HD.out.mono ?_
            rintro e w3 ⟨rfl, rfl⟩
            go_wp2
            go_ret
            refine FIN.out _ (((Fr.set1 (by simp) _ _).trans (Fr.set1 (by simp) _ _)).trans (Fr.set1 (by simp) _ _)) ?_
            rw [blk_set (blk_set (blk_set HBB.out 2 (.int .i64 (m : Int))) 3 (.int .u64 (tp : Int))) 4 (.int .u64 (tp : Int)), HM.out.1, Nat.max_eq_right (show b.low ≤ tp by omega), Nat.max_eq_right (show b.must ≤ tp by omega)]
            rfl
          · go_wp2_with fail
            refine HD.out.mono ?_
            rintro e w3 ⟨rfl, rfl⟩
            go_wp2
            go_ret
            refine FIN.out _ ((Fr.set1 (by simp) _ _).trans (Fr.set1 (by simp) _ _)) ?_
            rw [blk_set (blk_set HBB.out 2 (.int .i64 (m : Int))) 3 (.int .u64 (tp : Int)), HM.out.1, Nat.max_eq_right (show b.low ≤ tp by omega), Nat.max_eq_left (show tp ≤ b.must by omega)]
            rfl
        · by_cases hM0 : (b.must : Int) < (tp : Int)
          · go_wp2_with fail
            refine HD.out.mono ?_
            rintro e w3 ⟨rfl, rfl⟩
            go_wp2
            go_ret
            refine FIN.out _ ((Fr.set1 (by simp) _ _).trans (Fr.set1 (by simp) _ _)) ?_
            rw [blk_set (blk_set HBB.out 2 (.int .i64 (m : Int))) 4 (.int .u64 (tp : Int)), HM.out.1, Nat.max_eq_left (show tp ≤ b.low by omega), Nat.max_eq_right (show b.must ≤ tp by omega)]
            rfl
          · go_wp2_with fail
            refine HD.out.mono ?_
            rintro e w3 ⟨rfl, rfl⟩
            go_wp2
            go_ret
            refine FIN.out _ (Fr.set1 (by simp) _ _) ?_
            rw [blk_set HBB.out 2 (.int .i64 (m : Int)), HM.out.1, Nat.max_eq_left (show tp ≤ b.low by omega), Nat.max_eq_left (show tp ≤ b.must by omega)]
            rfl
      · have HB2 : Hid (BSt o2 d2 { b with tries := max b.tries tp } M true true) := hB2 _ _ H2.out.2.2.2
        obtain ⟨c, hc⟩ : ∃ c, c = R.2.2 := ⟨_, rfl⟩
        rw [← hc] at e9 ⊢
        have hdone := done_fell bp hp c av mv _ hu w2 H2.out.2.1.blk e9
        have hcz : ¬ (c : Int) = 0 := by omega
        have hcb : ((c : Int) == 0) = false := by simp; omega
        clear hB2 hc HR e9
        cases hu
        all_goals (
          go_wp2_with fail
          refine hdone.mono ?_
          clear hdone
          rintro e w3 ⟨rfl, hb3, hf3⟩
          have H3 : Hid (w3.heap[bp]? = some (bookG hp av mv { b with tries := max b.tries tp } true true) ∧ Fr [bp] w2 w3) := ⟨hb3, hf3⟩
          clear hb3 hf3
          go_wp2
          go_ret
          obtain ⟨q1, q2, q3⟩ := H2.out.2.1.set H2.out.1 H3.out.2 H3.out.1 rfl H2.out.2.1.nums
          exact ⟨rfl, H2.out.2.2.1.trans q3, bN2, lo2, o2, d2, av, mv, _, M, true, q1, q2, HB2.out, Nat.le_refl _⟩)
end Go.Proofs.YtbdhmkfdofkloaaGreatDoor
/- (*book).step over a disk that may fail, whatever it is. -/
namespace Go.Proofs.YtbdhmkfdofkloaaGreatDoor
open Go.RowKit
open Sc

theorem StX.mono {B bp hp p bD n n' K K' : Nat} {sk : Bool} {w w' : World} {e : Ending} (h : StX B bp hp p bD n K sk w e w') (hn : n ≤ n') (hn' : n' ≤ 1000000000) (hK : K ≤ K') : StX B bp hp p bD n' K' sk w e w' := by
  obtain ⟨h1, h2, bN', lo', o', d', av', mv', b', M', hu', h3, h4, h5, h6⟩ := h
  exact ⟨h1, h2, bN', lo', o', d', av', mv', b', M', hu', h3.mores hn hn', h4, h5, by omega⟩
set_option maxRecDepth 100000 in
set_option maxHeartbeats 4000000 in
theorem stepX_none {w : World} {B bp hp p bD bN n : Nat} {lo : Option Nat} {l : ALog} {d : ADisk} {av mv : Value} {b : ABook} {M : List Rec} {sk hu : Bool} (kd : Int) (txn x y : Nat) (sq nn : Int) (key s : ByteArray) (ao : Option Addr) (f1 f2 f3 f4 : Int)
    (h : BkM w B bp hp p lo av mv b M sk hu) (hl : HLo w B hp p bD bN lo (some l) d n) (hst : BSt (some l) d b M sk hu) (hkd : kd ≠ 4 ∧ kd ≠ 5 ∧ kd ≠ 6) :
    Calls Tryz.prog 18 #[.pointer (some ⟨bp, 0, none⟩), stepV kd txn sq nn key s ao x y f1 f2 f3 f4] w (StX B bp hp p bD n (b.all.length + M.length) sk w) := by
  obtain ⟨W, hW⟩ : ∃ W, W = w.alloc (stepO kd txn sq nn key s ao x y f1 f2 f3 f4) := ⟨_, rfl⟩
  have hf0 : Fr [] w W := by rw [hW]; exact (Fr.refl [] w).alloc _
  obtain ⟨hl0, hr0⟩ := hl.new hf0
  have hm0 := h.hfr hr0
  have hs0 : W.heap[w.heap.size]? = some (stepO kd txn sq nn key s ao x y f1 f2 f3 f4) := by rw [hW]; exact heap_alloc_new w _
  have hb0 : BlS B w W := hf0.blN hl.base
  obtain ⟨a0, ac, hav⟩ := own_slc hm0.all
  obtain ⟨m, hm⟩ : ∃ m, m = b.all.length := ⟨_, rfl⟩
  have hlen := h.len
  have c1 := blk_cell hm0.blk 1
  have z0 := blk_cell hs0 0
  simp at c1 z0
  rw [hav, ← hm] at c1
  rw [← hm] at hlen
  rw [hW] at c1 z0
  have HI : Hid (HLo W B hp p bD bN lo (some l) d n ∧ BkM W B bp hp p lo av mv b M sk hu ∧ BlS B w W ∧ BSt (some l) d b M sk hu) := ⟨hl0, hm0, hb0, hst⟩
  have k4 : (kd == 4) = false := by simpa using hkd.1
  have k5 : (kd == 5) = false := by simpa using hkd.2.1
  have k6 : (kd == 6) = false := by simpa using hkd.2.2
  obtain ⟨n4, n5, n6⟩ := hkd
  clear h hl hst hf0 hl0 hr0 hm0 hs0 hb0 hm hav
  go_enter Tryz.func18, Tryz.ntmps18
  go_wp2
  go_ret
  rw [← hW]
  exact ⟨rfl, HI.out.2.2.1, bN, lo, some l, d, av, mv, b, M, hu, HI.out.1, HI.out.2.1, HI.out.2.2.2, Nat.le_refl _⟩
theorem stepX_any {w : World} {B bp hp p bD bN n : Nat} {lo : Option Nat} {l : ALog} {d : ADisk} {av mv : Value} {b : ABook} {M : List Rec} {sk hu : Bool} (kd : Int) (txn x y : Nat) (sq nn : Int) (key s : ByteArray) (ao : Option Addr) (f1 f2 f3 f4 : Int)
    (h : BkM w B bp hp p lo av mv b M sk hu) (hl : HLo w B hp p bD bN lo (some l) d n) (hst : BSt (some l) d b M sk hu) (hB : 3 ≤ B) (hmet : Met w) (hpow : Pows w) (hn : n + 4 + b.all.length < 1000000000) (hsk : sk = false → f1 < 0 ∧ f2 < 0) (hml : b.all.length < 900000)
    (h11 : -9223372036854775808 ≤ f1) (h21 : -9223372036854775808 ≤ f2) (h41 : -9223372036854775808 ≤ f4) (h42 : f4 ≤ 9223372036854775807) :
    Calls Tryz.prog 18 #[.pointer (some ⟨bp, 0, none⟩), stepV kd txn sq nn key s ao x y f1 f2 f3 f4] w (StX B bp hp p bD (n + 4 + b.all.length) (b.all.length + M.length + 1) sk w) := by
  by_cases h4 : kd = 4
  · subst h4
    obtain ⟨kind, hk1, hk2⟩ := u8wrap nn
    by_cases hb : 255 < s.size
    · exact (stepX_big txn x y kind sq nn key s ao f1 f2 f3 f4 h hl hst hB hmet hpow (by omega) hsk hk1 hk2 (by omega) hb h11 h21 h41 h42).mono fun e w' hp => hp.mono (by omega) (by omega) (by omega)
    · exact (stepX_app txn x y kind sq nn key s ao f1 f2 f3 f4 h hl hst hB hmet hpow (by omega) hsk hk1 hk2 (by omega) (by omega) h11 h21 h41 h42).mono fun e w' hp => hp.mono (by omega) (by omega) (by omega)
  by_cases h5 : kd = 5
  · subst h5
    exact (stepX_force txn x y sq nn key s ao f1 f2 f3 f4 h hl hst hB hmet (by omega) hsk h11 h21 h41 h42).mono fun e w' hp => hp.mono (by omega) (by omega) (by omega)
  by_cases h6 : kd = 6
  · subst h6
    obtain ⟨Lw, hL1, hL2⟩ := u64wrap ((b.all.length : Int) + 1 - IntKind.u64.wrap sq)
    exact (stepX_cut txn x y Lw sq nn key s ao f1 f2 f3 f4 h hl hst hB hmet hpow (by omega) hsk (by omega) hL2 h11 h21 h41 h42).mono fun e w' hp => hp.mono (by omega) (by omega) (by omega)
  · exact (stepX_none kd txn x y sq nn key s ao f1 f2 f3 f4 h hl hst ⟨h4, h5, h6⟩).mono fun e w' hp => hp.mono (by omega) (by omega) (by omega)
end Go.Proofs.YtbdhmkfdofkloaaGreatDoor
