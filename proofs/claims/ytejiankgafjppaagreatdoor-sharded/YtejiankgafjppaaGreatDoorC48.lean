import Derived.Test.YtejiankgafjppaaGreatDoorC47
import Derived.Deep.CutRange
/- THE SCRIPT over a shard, the disk being well. -/
namespace Go.Proofs.YtejiankgafjppaaGreatDoor
open Go.RowKit Go.Maps
open Sc

/-- the document's shard, empty -/
theorem RS.first [Inhabited Bs] (w : World) (hB : B0 ≤ w.heap.size) : RS (w.alloc (rshO (.slice none 0 0) (.slice none 0 0))) w.heap.size ⟨[], []⟩ :=
  ⟨.slice none 0 0, .slice none 0 0, [], { base := hB, blk := heap_alloc_new w _, tab := World.ownsRow_nil _ _ _ _, txs := World.ownsRow_nil _ _ _ _, lks := by simp, apart := by simp, rs := rfl }⟩
theorem KIn.first [Inhabited Bs] {w : World} {hp p sp gp bV bT bH lp bD bN m n : Nat} {s : AShard} {l : ALog} {d : ADisk} (h : HSx w B0 hp p sp gp bV bT bH lp bD bN m n s l d) (hB : B0 ≤ w.heap.size) : KIn ((w.alloc (rshO (.slice none 0 0) (.slice none 0 0))).alloc (keepO hp w.heap.size (.slice none 0 0) (.slice none 0 0))) hp p sp gp bV bT bH lp bD bN m n s l d (w.heap.size + 1) w.heap.size (.slice none 0 0) (.slice none 0 0) [] [] ⟨[], []⟩ := by
  have hf : Fr [] w ((w.alloc (rshO (.slice none 0 0) (.slice none 0 0))).alloc (keepO hp w.heap.size (.slice none 0 0) (.slice none 0 0))) := ((Fr.refl [] w).alloc _).alloc _
  refine ⟨(h.new hf).1, by omega, ?_, (RS.first w hB).fr ((Fr.refl [] _).alloc _), World.ownsRow_nil _ _ _ _, World.ownsRow_nil _ _ _ _, fun g hg => by cases hg⟩
  have := heap_alloc_new (w.alloc (rshO (.slice none 0 0) (.slice none 0 0))) (keepO hp w.heap.size (.slice none 0 0) (.slice none 0 0))
  rw [World.size_alloc] at this
  exact this
theorem one_row {w : World} {B : Nat} {e : TypeId} {x : Value} (hB : B ≤ w.heap.size) : (w.alloc (.cells #[x] e)).ownsRow B e 1 (.slice (some ⟨w.heap.size, 0, none⟩) 1 1) 1 [x] :=
  ⟨rfl, .inr ⟨_, 1, #[x], rfl, hB, heap_alloc_new w _, Nat.le_refl _, by unfold maxLen; decide, rfl, rfl⟩⟩
set_option maxRecDepth 100000 in
set_option maxHeartbeats 16000000 in
theorem shards_any [Inhabited Bs] (v : Value) (L : List AStep) (w : World) (hB0 : w.heap.size = B0) (h : StepsAt w v L) (hbn : ∀ (i : Nat) (a : AStep), L[i]? = some a → a.txn < 18446744073709551616 ∧ -9223372036854775808 ≤ a.nn ∧ a.nn ≤ 9223372036854775807) (hmet : Met w) (hpow : Pows w) (hB : 2 ≤ (B0 : Nat)) :
    Calls Tryz.prog 13 #[v, .bool false] w fun e w' => e = .returned (.bool true) ∧ Below B0 w w' := by
  have hsm := small_any v L w h
  have HST : Hid (StepsAt w v L) := h
  have HBN := toHid hbn
  have HB0 := toHid hB0
  obtain ⟨hlen, ao, cap, rfl, hc⟩ := h
  obtain ⟨m, hm⟩ : ∃ m, m = L.length := ⟨_, rfl⟩
  rw [← hm] at hlen hsm ⊢
  have HM : Hid (m = L.length) := hm
  have HMP : Hid (Met w ∧ Pows w) := ⟨hmet, hpow⟩
  clear hm hc hbn hB0
  by_cases hbig : m + sumW L ≤ 16384
  · rw [decide_eq_true hbig] at hsm
    have HBIG : Hid (m + sumW L ≤ 16384) := hbig
    have HSM := toHid hsm
    clear hsm hmet hpow
    go_enter Tryz.func13, Tryz.ntmps13
    go_wp2_with fail
    refine HSM.out.mono ?_
    rintro e w1 ⟨rfl, q, rfl⟩
    have hb1 : Below B0 w (w.drewN q) := (Fr.refl [] w).drewM q |>.below (Nat.le_of_eq HB0.out.symm) (by simp)
    have hsz1 : (w.drewN q).heap.size = B0 := by rw [← HB0.out]; simp
    have hnh := newHost_s (w.drewN q) 10 (by decide)
    rw [hsz1] at hnh
    go_wp2_with fail
    refine hnh.mono ?_
    rintro e w2 ⟨hp, p, bD, bN, rfl, hh2, hd2, hhp, hb2⟩
    have hb02 : Below B0 w w2 := hb1.trans hb2
    have H2 := toHid (And.intro hh2 (And.intro hd2 (And.intro hhp (And.intro hb02 (And.intro (HMP.out.1.below hb02 (by omega)) (HMP.out.2.of_block (hb02.block 1 (by omega))))))))
    clear hh2 hd2 hb2 hb02 hb1 hsz1 hnh hhp
    go_wp2_with fail
    refine (well_fn w2).mono ?_
    rintro e w3 ⟨rfl, hf3⟩
    have hb3 : Below B0 w2 w3 := hf3.below (Nat.le_trans (Nat.le_of_eq HB0.out.symm) H2.out.2.2.2.1.size) (by simp)
    have hh3 : w3.heap[hp]? = some (hostS p false (.pointer none)) := (hf3.block hp (Array.getElem?_eq_some_iff.1 H2.out.1).1 (by simp)).trans H2.out.1
    have hop := lvOpen0 hp p bD bN B0 w3 hh3 (H2.out.2.1.new hf3) hB H2.out.2.2.1 (H2.out.2.2.2.2.1.below hb3 (by omega))
    have HB3 := toHid (H2.out.2.2.2.1.trans hb3)
    clear hh3 hf3 hb3
    go_wp2_with fail
    refine hop.mono ?_
    rintro e w4 ⟨rfl, ⟨m0, n0, l0, d0, hm0, _, hn0, ⟨p', sp, gp, bV, bT, bH, lp, bD', bN', hhx, hsx, hbx⟩, hO⟩, hf4⟩
    have X4 : HSx w4 B0 hp p' sp gp bV bT bH lp bD' bN' m0 n0 sh0 l0 d0 := ⟨hhx, hsx, hbx⟩
    have H4 := toHid (And.intro X4 (And.intro hO (And.intro hm0 (And.intro hn0 (HB3.out.trans hf4.below)))))
    have his := hIs_x B0 hp p' sp gp bV bT bH lp bD' bN' m0 n0 sh0 l0 d0 w4 X4
    clear hop X4 hO hm0 hn0 hhx hsx hbx hf4 HB3 H2
    go_wp2_with fail
    refine his.mono ?_
    rintro e w5 ⟨rfl, rfl⟩
    clear his
    have hBw : B0 ≤ w5.heap.size := Nat.le_trans (Nat.le_of_eq HB0.out.symm) H4.out.2.2.2.2.size
    have K5 := KIn.first H4.out.1 hBw
    obtain ⟨W5, hW5⟩ : ∃ W5, W5 = (w5.alloc (rshO (.slice none 0 0) (.slice none 0 0))).alloc (keepO hp w5.heap.size (.slice none 0 0) (.slice none 0 0)) := ⟨_, rfl⟩
    have hW5' : W5 = (w5.alloc (.cells #[.slice none 0 0, .slice none 0 0] 71)).alloc (.cells #[.pointer (some ⟨hp, 0, none⟩), .pointer (some ⟨w5.heap.size, 0, none⟩), .slice none 0 0, .bool false, .bool false, .slice none 0 0] 74) := hW5
    rw [← hW5] at K5
    have hb5 : Below B0 w W5 := by rw [hW5]; exact (H4.out.2.2.2.2.alloc hBw _).alloc (by rw [World.size_alloc]; omega) _
    have hcp := rcopy_any w5.heap.size ⟨[], []⟩ W5 K5.ref (by simp) (by simp) (by simp)
    have H5 := toHid (And.intro K5 hb5)
    clear K5 hb5 hW5
    go_wp2_with fail
    rw [← hW5']
    obtain ⟨mp, hmp⟩ : ∃ mp, mp = w5.heap.size := ⟨_, rfl⟩
    obtain ⟨kp, hkp⟩ : ∃ kp, kp = w5.heap.size + 1 := ⟨_, rfl⟩
    rw [← hkp, ← hmp]
    rw [← hkp, ← hmp] at H5
    rw [← hmp] at hcp
    clear hkp hmp hW5' hBw
    refine hcp.mono ?_
    rintro e w6 ⟨cp, rfl, hge, hrc, hf6⟩
    have K6 := H5.out.1.new hf6
    have hb6 : Below B0 w w6 := H5.out.2.trans (hf6.below H5.out.1.size (by simp))
    have hkl : kp < w6.heap.size := (Array.getElem?_eq_some_iff.1 K6.kb).1
    have k1 := blk_cell K6.kb 1
    have k2 := blk_cell K6.kb 2
    have f2 := blk_free K6.kb 2
    simp at k1 k2
    obtain ⟨K7, L7⟩ := K6.setC (cv' := .slice (some ⟨w6.heap.size, 0, none⟩) 1 1) (cs' := [.pointer (some ⟨cp, 0, none⟩)]) ((Fr.refl _ w6).alloc _) (one_row K6.size)
    have hlk := looks_any hp p' sp gp bV bT bH lp bD' bN' m0 n0 kp mp 0 0 sh0 l0 d0 _ _ _ _ ⟨[], []⟩ _ K7 Gd.first (by decide) (by have := H4.out.2.2.1; omega)
    have H7 := toHid (And.intro K7 (hb6.trans L7.below))
    rw [World.setCell_alloc_past _ _ _ _ hkl] at hlk H7
    clear hcp hge hrc hf6 K6 hb6 K7 L7
    go_wp2_with fail
    refine hlk.mono ?_
    rintro e w8 ⟨rfl, hf8⟩
    have H8 : Hid (KQ w w8 hp kp 0) := ⟨p', sp, gp, bV, bT, bH, lp, bD', bN', m0, n0, sh0, l0, d0, 0, mp, [], _, _, _, _, ⟨[], []⟩, H7.out.1.new hf8, H4.out.2.1.mu0, H4.out.2.1.well.up, by have := H4.out.2.2.1; omega, by have := H4.out.2.2.2.1; omega, by simp, by simp, Gd.first, H7.out.2.trans (hf8.below H7.out.1.size (by simp))⟩
    clear hlk hf8 H7 H5 H4 k1 k2 f2 hkl
    go_wp2
    go_loopw [5, 8, 10] (fun ok is i wr => ∃ k : Nat, k ≤ m ∧ ok = .bool true ∧ is = .bool true ∧ i = .int .i64 (k : Int) ∧ Hid (KQ w wr hp kp k)) (fun _ _ i _ => m - (intOf i).toNat)
    case atStart => exact ⟨0, Nat.zero_le _, rfl, rfl, rfl, H8⟩
    case round =>
      obtain ⟨k, hkm, rfl, rfl, rfl, HK⟩ := hrel
      by_cases hlt : k < m
      · obtain ⟨a, ha⟩ : ∃ a, L[k]? = some a := ⟨_, List.getElem?_eq_getElem (by have := HM.out; omega)⟩
        obtain ⟨_, ao', cap', e', hcc⟩ := HST.out
        obtain ⟨⟨b0, off, rfl, hb0, hcell⟩, z1, z2, z3⟩ := hcc k a ha
        cases e'
        rw [HB0.out] at hb0
        obtain ⟨p, sp, gp, bV, bT, bH, lp, bD, bN, m1, n1, s1, l1, d1, fst, mp1, g1, cv, uv, cs, us, R, hKI, hMu, hdn, hm1, hn1, hcs, hus, hGd, hbl⟩ := HK.out
        have hcell' := hcell.below hbl hb0
        obtain ⟨c0, c1, c2, c3, c4, c5, c6, c7, c8, c9, c10⟩ := hcell'
        have hst := sumW_take L (k + 1)
        have hsn := sumW_snoc ha
        have HW : Hid (a.key.size ≤ 16384) := by
          have h1 := HBIG.out
          have h2 : a.wt = a.key.size + a.s.size + a.sx := rfl
          show _ ≤ _
          omega
        have HBA := toHid (HBN.out k a ha)
        have HB := toHid (And.intro hKI (And.intro hMu (And.intro hdn (And.intro hm1 (And.intro hn1 (And.intro hcs (And.intro hus (And.intro hGd hbl))))))))
        clear hcell hcc hsn hst hKI hMu hdn hm1 hn1 hcs hus hGd hbl HK
        have i1 : (k : Int) < (m : Int) := by omega
        obtain ⟨kd, txn, sq, nn, key, s, sa, sx, sy, f1, f2, f3, f4⟩ := a
        simp only at c0 c1 c2 c3 c4 c5 c6 c7 c8 c9 c10 z1 z2 z3 HW HBA
        have hskip : ∀ w', Fr [] wr w' → KQ w w' hp kp (k + 1) := fun w' hw' => ⟨p, sp, gp, bV, bT, bH, lp, bD, bN, m1, n1, s1, l1, d1, fst, mp1, g1, cv, uv, cs, us, R, HB.out.1.new hw', HB.out.2.1, HB.out.2.2.1, by have := HB.out.2.2.2.1; omega, by have := HB.out.2.2.2.2.1; omega, by have := HB.out.2.2.2.2.2.1; omega, by have := HB.out.2.2.2.2.2.2.1; omega, HB.out.2.2.2.2.2.2.2.1.mono (by omega) (by omega), HB.out.2.2.2.2.2.2.2.2.trans (hw'.below HB.out.1.size (by simp))⟩
        have HSK := toHid hskip
        clear hskip
        by_cases hk1 : kd = 1
        · subst hk1
          go_wp2
          go_roundw
          case rel => exact ⟨k + 1, by omega, rfl, rfl, by go_num, HSK.out _ ((Fr.refl [] wr).alloc _)⟩
          case measure => simp [intOf]; omega
        by_cases hk2 : kd = 2
        · subst hk2
          go_wp2
          go_roundw
          case rel => exact ⟨k + 1, by omega, rfl, rfl, by go_num, HSK.out _ ((Fr.refl [] wr).alloc _)⟩
          case measure => simp [intOf]; omega
        have hk1' : (kd == 1) = false := by simpa using hk1
        have hk2' : (kd == 2) = false := by simpa using hk2
        obtain ⟨bx, hbx⟩ : ∃ bx, bx = wr.heap.size := ⟨_, rfl⟩
        obtain ⟨Wa, hWa⟩ : ∃ Wa, Wa = wr.alloc (stepO kd txn sq nn key s sa sx sy f1 f2 f3 f4) := ⟨_, rfl⟩
        have hfa : Fr [] wr Wa := by rw [hWa]; exact (Fr.refl [] wr).alloc _
        have hsa : Wa.heap[bx]? = some (stepO kd txn sq nn key s sa sx sy f1 f2 f3 f4) := by rw [hWa, hbx]; exact heap_alloc_new wr _
        have hBb : B0 ≤ bx := by rw [hbx]; exact HB.out.1.size
        have HA := toHid (And.intro (HB.out.1.new hfa) (And.intro hsa (HB.out.2.2.2.2.2.2.2.2.trans (hfa.below HB.out.1.size (by simp)))))
        clear hfa hsa
        go_wp2_with fail
        rw [← hWa, ← hbx]
        clear hWa hbx c0 c1 c2 c3 c4 c5 c6 c7 c8 c9 c10
        refine (well_fn Wa).mono ?_
        rintro e w8 ⟨rfl, hf8⟩
        have K8 := HA.out.1.new hf8
        have hs8 : w8.heap[bx]? = some (stepO kd txn sq nn key s sa sx sy f1 f2 f3 f4) := (hf8.block _ (Array.getElem?_eq_some_iff.1 HA.out.2.1).1 (by simp)).trans HA.out.2.1
        have hb8 : Below B0 w w8 := HA.out.2.2.trans (hf8.below HA.out.1.size (by simp))
        have x7 := blk_cell hs8 7
        have x8 := blk_cell hs8 8
        have x9 := blk_cell hs8 9
        have x10 := blk_cell hs8 10
        have g7 := blk_free hs8 7
        have g8 := blk_free hs8 8
        have g9 := blk_free hs8 9
        have g10 := blk_free hs8 10
        simp at x7 x8 x9 x10
        have hne : ¬ kp = bx := by intro e; have := K8.kb; rw [e, hs8] at this; cases this
        have hne2 : ¬ bx = kp := fun e => hne e.symm
        obtain ⟨Wc, hWc⟩ : ∃ Wc, Wc = (((w8.setCell ⟨bx, 7, none⟩ (.int .i64 (-1))).setCell ⟨bx, 8, none⟩ (.int .i64 (-1))).setCell ⟨bx, 9, none⟩ (.int .i64 0)).setCell ⟨bx, 10, none⟩ (.int .i64 0) := ⟨_, rfl⟩
        have hfc : Fr [bx] w8 Wc := by rw [hWc]; exact (((Fr.set1 (by simp) _ _).trans (Fr.set1 (by simp) _ _)).trans (Fr.set1 (by simp) _ _)).trans (Fr.set1 (by simp) _ _)
        have hsc : Wc.heap[bx]? = some (stepO kd txn sq nn key s sa sx sy (-1) (-1) 0 0) := by
          rw [hWc]; have := blk_set (blk_set (blk_set (blk_set hs8 7 (.int .i64 (-1))) 8 (.int .i64 (-1))) 9 (.int .i64 0)) 10 (.int .i64 0); simp at this; exact this
        have Kc := K8.step hfc hs8
        have hbc : Below B0 w Wc := hb8.trans (hfc.below K8.size (by intro j hj; simp at hj; rw [hj]; exact hBb))
        obtain ⟨Kd, Ld⟩ := Kc.sick
        obtain ⟨Wd, hWd⟩ : ∃ Wd, Wd = Wc.setCell ⟨kp, 3, none⟩ (.bool false) := ⟨_, rfl⟩
        rw [← hWd] at Kd Ld
        have hsd := Ld.step _ _ hsc
        have y3 := blk_cell Kc.kb 3
        have gy3 := blk_free Kc.kb 3
        have u7 := blk_cell hsc 7
        have u8 := blk_cell hsc 8
        simp at y3 u7 u8
        have HDD := toHid (And.intro Kd (And.intro hsd (hbc.trans Ld.below)))
        clear Kc Kd Ld hsd hbc hfc hsc K8 hs8 hb8 hf8 hk1 hk1' hk2' z1 z2 z3 hb0
        go_upto_region 21 with fail
        rw [← hWc]
        clear hWc x7 x8 x9 x10 g7 g8 g9 g10
        go_upto_region 22 with fail
        rw [← hWd]
        clear hWd y3 gy3 u7 u8
        have sc0 := blk_cell HDD.out.2.1 0
        have sc1 := blk_cell HDD.out.2.1 1
        have sc2 := blk_cell HDD.out.2.1 2
        have sc3 := blk_cell HDD.out.2.1 3
        have sc4 := blk_cell HDD.out.2.1 4
        have sc5 := blk_cell HDD.out.2.1 5
        have sc6 := blk_cell HDD.out.2.1 6
        have sc7 := blk_cell HDD.out.2.1 7
        have sc8 := blk_cell HDD.out.2.1 8
        have sc9 := blk_cell HDD.out.2.1 9
        have sc10 := blk_cell HDD.out.2.1 10
        simp at sc0 sc1 sc2 sc3 sc4 sc5 sc6 sc7 sc8 sc9 sc10
        have hkk : k ≤ 16384 := by have := HBIG.out; omega
        have hsp := step_all hp p sp gp bV bT bH lp bD bN m1 n1 kp mp1 k (20 * k) fst s1 l1 d1 cv uv cs us R g1 Wd kd sq nn txn sx sy key s sa HDD.out.1 HB.out.2.1 HB.out.2.2.1 HB.out.2.2.2.2.2.2.2.1 ⟨by have := HB.out.2.2.2.1; omega, by have := HB.out.2.2.2.2.1; omega, by omega, by have := HB.out.2.2.2.2.2.2.1; omega, by have := HB.out.2.2.2.2.2.1; omega, hB, HBA.out.1, HW.out, by omega⟩ (HMP.out.1.below HDD.out.2.2 (by omega)) (HMP.out.2.of_block (HDD.out.2.2.block 1 (by omega))) hk2 HBA.out.2.1 HBA.out.2.2
        clear hkk hk2
        go_wp2_with fail
        refine hsp.mono ?_
        rintro e w9 ⟨rfl, hSt⟩
        obtain ⟨m2, n2, s2', l2, d2, g2, mp2, cv2, uv2, cs2, us2, R2, r1, r2, r3, r4, K9, M9, D9, G9⟩ := hSt.kin
        have k1 := blk_cell K9.kb 1
        simp at k1
        have hm2 : m2 ≤ 67108864 := by have := HB.out.2.2.2.1; have := HBIG.out; omega
        have his := hIs_x B0 hp p sp gp bV bT bH lp bD bN m2 n2 s2' l2 d2 w9 K9.host
        have hlk := looks_any hp p sp gp bV bT bH lp bD bN m2 n2 kp mp2 (k + 1) (20 * k + 20) s2' l2 d2 cv2 uv2 cs2 us2 R2 w9 K9 G9 (by have := HBIG.out; omega) hm2
        have H9 := toHid (And.intro r1 (And.intro r2 (And.intro r3 (And.intro r4 (And.intro K9 (And.intro M9 (And.intro D9 (And.intro G9 (HDD.out.2.2.trans hSt.fr.below)))))))))
        clear hsp hSt r1 r2 r3 r4 K9 M9 D9 G9 sc0 sc1 sc2 sc3 sc4 sc5 sc6 sc7 sc8 sc9 sc10 hm2
        go_wp2_with fail
        refine his.mono ?_
        rintro e w10 ⟨rfl, hw10⟩
        subst hw10
        clear his
        go_wp2_with fail
        refine hlk.mono ?_
        rintro e w11 ⟨rfl, hf11⟩
        have HF : Hid (KQ w w11 hp kp (k + 1)) := ⟨p, sp, gp, bV, bT, bH, lp, bD, bN, m2, n2, s2', l2, d2, fst, mp2, g2, cv2, uv2, cs2, us2, R2, H9.out.2.2.2.2.1.new hf11, H9.out.2.2.2.2.2.1, H9.out.2.2.2.2.2.2.1, by have := H9.out.1; have := HB.out.2.2.2.1; omega, by have := H9.out.2.1; have := HB.out.2.2.2.2.1; omega, by have := H9.out.2.2.1; have := HB.out.2.2.2.2.2.1; omega, by have := H9.out.2.2.2.1; have := HB.out.2.2.2.2.2.2.1; omega, H9.out.2.2.2.2.2.2.2.1.mono (Nat.le_refl _) (by omega), H9.out.2.2.2.2.2.2.2.2.trans (hf11.below H9.out.2.2.2.2.1.size (by simp))⟩
        clear hf11 hlk k1
        go_wp2
        go_roundw
        case rel => exact ⟨k + 1, by omega, rfl, rfl, by go_num, HF⟩
        case measure => simp [intOf]; omega
      · go_wp2
        go_ret
        obtain ⟨p, sp, gp, bV, bT, bH, lp, bD, bN, m1, n1, s1, l1, d1, fst, mp1, g1, cv, uv, cs, us, R, hKI, hMu, hdn, hm1, hn1, hcs, hus, hGd, hbl⟩ := HK.out
        exact ⟨rfl, hbl⟩
  · rw [decide_eq_false hbig] at hsm
    have HSM := toHid hsm
    clear hsm
    go_enter Tryz.func13, Tryz.ntmps13
    go_wp2_with fail
    refine HSM.out.mono ?_
    rintro e w1 ⟨rfl, q, rfl⟩
    go_wp2
    go_ret
    exact ⟨rfl, (Fr.refl [] w).drewM q |>.below (Nat.le_of_eq HB0.out.symm) (by simp)⟩
end Go.Proofs.YtejiankgafjppaaGreatDoor
/- THE LAW Sharded: the walk at any script. -/
namespace Go.Proofs.YtejiankgafjppaaGreatDoor
open Go.RowKit Go.Maps
open Sc

set_option maxRecDepth 100000 in
set_option maxHeartbeats 1000000 in
theorem sharded_any (v : Value) (L : List AStep) (w : World) (h : StepsAt w v L) (hbn : ∀ (i : Nat) (a : AStep), L[i]? = some a → a.txn < 18446744073709551616 ∧ -9223372036854775808 ≤ a.nn ∧ a.nn ≤ 9223372036854775807) (hmet : Met w) (hpow : Pows w) (hB : 2 ≤ w.heap.size) :
    Calls Tryz.prog 5 #[v] w fun e w' => e = .returned (.bool true) ∧ Below w.heap.size w w' := by
  have HC : Hid (Calls Tryz.prog 13 #[v, .bool false] w fun e w' => e = .returned (.bool true) ∧ Below w.heap.size w w') := @shards_any ⟨⟨w.heap.size⟩⟩ v L w rfl h hbn hmet hpow hB
  obtain ⟨_, ao, cap, rfl, _⟩ := h
  go_enter Tryz.func5, Tryz.ntmps5
  go_wp2_with fail
  refine HC.out.mono ?_
  rintro e w1 ⟨rfl, hb⟩
  go_wp2
  go_ret
  exact ⟨rfl, hb⟩
end Go.Proofs.YtejiankgafjppaaGreatDoor
