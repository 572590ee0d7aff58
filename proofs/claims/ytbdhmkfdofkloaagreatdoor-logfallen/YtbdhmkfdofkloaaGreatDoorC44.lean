import Derived.Test.YtbdhmkfdofkloaaGreatDoorC42
import Derived.Test.YtbdhmkfdofkloaaGreatDoorC43
/- THE SCRIPT over a log, whatever its disk does. -/
namespace Go.Proofs.YtbdhmkfdofkloaaGreatDoor
open Go.RowKit
open Sc

/-- how often a disk may have been told -/
def nk (k : Nat) : Nat := 1100 + 2 * (k * k) + 20 * k
theorem nk_succ (k : Nat) : nk (k + 1) = nk k + 4 * k + 22 := by
  unfold nk
  have : (k + 1) * (k + 1) = k * k + 2 * k + 1 := by rw [Nat.add_mul, Nat.mul_add]; omega
  omega
theorem nk_le {k : Nat} (h : k ≤ 16384) : nk k ≤ 540000000 := by
  unfold nk
  have : k * k ≤ 16384 * 16384 := Nat.mul_le_mul h h
  omega
theorem nk_ge (k : Nat) : 1100 + 20 * k ≤ nk k := by unfold nk; omega
theorem BSt.sick {o : Option ALog} {d : ADisk} {b : ABook} {M : List Rec} {sk sk' hu : Bool} (h : BSt o d b M sk hu) (hs : sk = true → sk' = true) : BSt o d b M sk' hu := by
  rcases h with ⟨l, mk, ss, c1, e, e2, e3, h⟩ | ⟨l, mk, e, e2, e3, h⟩ | ⟨mk, e, e2, e3, h⟩
  · exact .inl ⟨l, mk, ss, c1, e, e2, e3, h⟩
  · exact .inr (.inl ⟨l, mk, e, e2, hs e3, h⟩)
  · exact .inr (.inr ⟨mk, e, e2, hs e3, h⟩)
theorem BSt.downs {d : ADisk} {b : ABook} {M : List Rec} {sk hu : Bool} (h : BSt none d b M sk hu) : sk = true := by
  rcases h with ⟨l, mk, ss, c1, e, _⟩ | ⟨l, mk, e, _⟩ | ⟨mk, _, _, e, _⟩
  · cases e
  · cases e
  · exact e
theorem stands_nothing : Stands (fun _ => none) 1 [] where
  mark := .inl ⟨rfl, rfl⟩
  pos := Nat.le_refl _
  ne := by simp
  files := by simp
  junk := by simp
  size := by simp
  nums := by simp
  fine := by intro r hr; simp at hr
  other := fun nm h => absurd rfl h
  dead := fun t h => by cases h
  big := by rw [nextOf_nil]; omega
theorem first_open {l : ALog} {d : ADisk} (h : LgS l d 1 [] []) (hb : Bare d.durable 1 []) (hd : d.down = false) : BOpen ⟨[], 0, 1, 1, 1⟩ l d 1 [] [] where
  fit := ⟨Nat.le_refl _, Nat.le_refl _, .inl rfl, Nat.le_refl _, Nat.le_refl _, Nat.le_refl _, Nat.le_refl _, fun j _ => by simp [bytesR]⟩
  lg := h
  ba := hb
  up := hd
  recs := rfl
  dur := by rw [h.dur, nextOf_nil]; exact Nat.le_refl _
/-- between two steps -/
def LfIn (w : World) (B bp hp p bD k : Nat) (wr : World) : Prop :=
  ∃ bN lp av mv b M sk hu l d, HLo wr B hp p bD bN (some lp) (some l) d (nk k) ∧ BkM wr B bp hp p (some lp) av mv b M sk hu ∧ BSt (some l) d b M sk hu ∧ b.all.length + M.length ≤ k ∧ Below B w wr
theorem LfIn.of {w : World} {B bp hp p bD k n bN lp : Nat} {wr : World} {av mv : Value} {b : ABook} {M : List Rec} {sk hu : Bool} {l : ALog} {d : ADisk} (h1 : HLo wr B hp p bD bN (some lp) (some l) d n) (h2 : BkM wr B bp hp p (some lp) av mv b M sk hu) (h3 : BSt (some l) d b M sk hu) (h4 : b.all.length + M.length ≤ k) (h5 : Below B w wr) (hn : n ≤ nk k) (hk : k ≤ 16384) : LfIn w B bp hp p bD k wr :=
  ⟨bN, lp, av, mv, b, M, sk, hu, l, d, h1.mores hn (by have := nk_le hk; omega), h2, h3, h4, h5⟩
/-- a step's numbers -/
def InR (a : AStep) : Prop := -9223372036854775808 ≤ a.nn ∧ a.nn ≤ 9223372036854775807 ∧ -9223372036854775808 ≤ a.f1 ∧ -9223372036854775808 ≤ a.f2 ∧ -9223372036854775808 ≤ a.f4 ∧ a.f4 ≤ 9223372036854775807
set_option maxRecDepth 100000 in
set_option maxHeartbeats 16000000 in
theorem logsF_any (v : Value) (L : List AStep) (w : World) (h : StepsAt w v L) (hin : ∀ (i : Nat) (a : AStep), L[i]? = some a → InR a) (hmet : Met w) (hpow : Pows w) (herr : ErrS w) (hB : 3 ≤ w.heap.size) :
    Calls Tryz.prog 5 #[v, .bool true] w fun e w' => e = .returned (.bool true) ∧ Below w.heap.size w w' := by
  have hsm := small_any v L w h
  have HST : Hid (StepsAt w v L ∧ ∀ (i : Nat) (a : AStep), L[i]? = some a → InR a) := ⟨h, hin⟩
  obtain ⟨hlen, ao, cap, rfl, hc⟩ := h
  obtain ⟨m, hm⟩ : ∃ m, m = L.length := ⟨_, rfl⟩
  rw [← hm] at hlen hsm ⊢
  have HM : Hid (m = L.length) := hm
  have HMP : Hid (Met w ∧ Pows w ∧ ErrS w) := ⟨hmet, hpow, herr⟩
  have hmp : ∀ {W : World}, Below w.heap.size w W → Met W ∧ Pows W ∧ ErrS W := fun {W} hb => ⟨hmet.below hb (by omega), hpow.of_block (hb.block 1 (by omega)), herr.below hb (by omega)⟩
  have HP : Hid (∀ {W : World}, Below w.heap.size w W → Met W ∧ Pows W ∧ ErrS W) := hmp
  clear hm hc hin hmet hpow herr hmp HMP
  by_cases hbig : m + sumW L ≤ 16384
  · rw [decide_eq_true hbig] at hsm
    have hm16 : m ≤ 16384 := by omega
    have HSM : Hid (Calls Tryz.prog 14 #[.slice ao m cap] w fun e w' => e = .returned (.bool true) ∧ ∃ q, w' = w.drewN q) := hsm
    clear hsm hbig
    go_enter Tryz.func5, Tryz.ntmps5
    go_wp2_with fail
    refine HSM.out.mono ?_
    rintro e w1 ⟨rfl, q, rfl⟩
    have hb1 : Below w.heap.size w (w.drewN q) := (Fr.refl [] w).drewN q |>.below (Nat.le_refl _) (by simp)
    have hsz1 : (w.drewN q).heap.size = w.heap.size := by simp
    go_wp2_with fail
    refine (newHost_any (w.drewN q) 1000 (by omega)).mono ?_
    rw [hsz1]
    rintro e w2 ⟨hp, p, bD, bN, rfl, hh2, hd2, hhp, hb2⟩
    have hb02 : Below w.heap.size w w2 := hb1.trans hb2
    have H2 : Hid (HEi w2 w.heap.size hp p bD bN none (fallen (fun _ => none)) 1000 ∧ Below w.heap.size w w2) := ⟨.inr ⟨rfl, hh2, _, _, _, hd2⟩, hb02⟩
    clear hh2 hd2 hb2 hb02 hb1 hsz1 HSM
    go_wp2_with fail
    refine (well_any w2).mono ?_
    rintro e w3 ⟨rfl, hb3⟩
    have hf3 : Fr [] w2 w3 := Fr.of_below hb3 _
    obtain ⟨hE3, hr3⟩ := H2.out.1.new hf3
    have hb3' : Below w.heap.size w w3 := H2.out.2.trans (H2.out.1.below hhp hr3)
    have hop := openWell (N := 1) (Q := fun mk ss => mk = 1 ∧ ss = []) hE3 (fallen_sure ⟨1, [], stands_nothing, .inr ⟨rfl, fun nm h => absurd rfl h⟩, rfl, rfl⟩) rfl (fun mk ss e => by rw [e.1, e.2, nextOf_nil]; exact Nat.le_refl _) hB hhp (HP.out hb3') (by omega) (by omega) (by omega)
    have HB3 : Hid (Below w.heap.size w w3) := hb3'
    clear hf3 hb3 hb3' hE3 hr3 H2
    go_wp2_with fail
    refine hop.mono ?_
    clear hop
    rintro e w4 ⟨rfl, hb4, lp, bN4, l4, d4, mk4, ss4, g1, g2, g3, g4, ⟨rfl, rfl⟩, g6⟩
    have hb4' : Below w.heap.size w w4 := HB3.out.trans hb4
    have his := hIs p hp true _ w4 g1.blk
    have H4 : Hid (HLo w4 w.heap.size hp p bD bN4 (some lp) (some l4) d4 (1000 + 1 + 1) ∧ Below w.heap.size w w4 ∧ BOpen ⟨[], 0, 1, 1, 1⟩ l4 d4 1 [] []) := ⟨.inl ⟨lp, l4, rfl, rfl, g1⟩, hb4', first_open g3 g4 g2⟩
    clear hb4 hb4' g1 g2 g3 g4 g6 HB3
    go_wp2_with fail
    refine his.mono ?_
    clear his
    rintro e w5 ⟨rfl, rfl⟩
    obtain ⟨W6, hW6⟩ : ∃ W6, W6 = w5.alloc (bookG hp (.slice none 0 0) (.slice none 0 0) ⟨[], 0, 1, 1, 1⟩ false false) := ⟨_, rfl⟩
    have hW6' : W6 = w5.alloc (.cells #[.pointer (some ⟨hp, 0, none⟩), .slice none 0 0, .int .i64 0, .int .u64 1, .int .u64 1, .int .u64 1, .bool false, .bool false, .slice none 0 0] 49) := hW6
    have hf6 : Fr [] w5 W6 := by rw [hW6]; exact (Fr.refl [] w5).alloc _
    obtain ⟨hl6, hr6⟩ := H4.out.1.new hf6
    have hold := H4.out.1.old hf6
    have hbk6 : BkM W6 w.heap.size w5.heap.size hp p (some lp) (.slice none 0 0) (.slice none 0 0) ⟨[], 0, 1, 1, 1⟩ [] false false :=
      ⟨⟨H4.out.2.1.size, hhp⟩, by rw [hW6]; exact heap_alloc_new w5 _, World.ownsRow_nil _ _ _ _, World.ownsRow_nil _ _ _ _, fun ho => by have := hold _ ho; omega, (by intro k hk; cases hk), (by intro k hk; cases hk), (by intro k hk; cases hk), by simp, by simp⟩
    have hb6 : Below w.heap.size w W6 := by rw [hW6]; exact H4.out.2.1.alloc H4.out.2.1.size _
    have hh6 : HostIn W6 w.heap.size hp lp p bD bN4 l4 d4 (1000 + 1 + 1) := by
      rcases hl6 with ⟨_, _, e1, e2, h⟩ | ⟨e1, _⟩
      · cases e1; cases e2; exact h
      · cases e1
    have hlk := looks_gen w.heap.size w5.heap.size hp lp p bD bN4 (1000 + 1 + 1) _ (.slice none 0 0) ⟨[], 0, 1, 1, 1⟩ l4 d4 _ W6 (hbk6.look hh6) H4.out.2.2.look
    have H6 : Hid (HLo W6 w.heap.size hp p bD bN4 (some lp) (some l4) d4 (1000 + 1 + 1) ∧ BkM W6 w.heap.size w5.heap.size hp p (some lp) (.slice none 0 0) (.slice none 0 0) ⟨[], 0, 1, 1, 1⟩ [] false false ∧ Below w.heap.size w W6 ∧ BOpen ⟨[], 0, 1, 1, 1⟩ l4 d4 1 [] []) := ⟨hl6, hbk6, hb6, H4.out.2.2⟩
    clear hbk6 hb6 hW6 hf6 hl6 hr6 hold hh6 H4
    go_wp2_with fail
    rw [← hW6']
    refine hlk.mono ?_
    clear hlk
    rintro e w7 ⟨rfl, hf7⟩
    have H7 : Hid (LfIn w w.heap.size w5.heap.size hp p bD 0 w7) := by
      obtain ⟨q1, q2⟩ := H6.out.1.new hf7
      exact LfIn.of q1 (H6.out.2.1.hfr q2) (.inl ⟨l4, 1, [], [], rfl, rfl, rfl, H6.out.2.2.2⟩) (by simp) (H6.out.2.2.1.trans (hf7.below H6.out.1.base (by simp))) (by have := nk_ge 0; omega) (by omega)
    clear hf7 hW6' H6
    go_wp2
    obtain ⟨bp, hbp⟩ : ∃ bp, bp = w5.heap.size := ⟨_, rfl⟩
    rw [← hbp] at H7 ⊢
    clear hbp
    go_loopw [5, 8, 10] (fun ok is i wr => ∃ (k : Nat) (c : Bool), k ≤ m ∧ ok = .bool true ∧ is = .bool c ∧ i = .int .i64 (k : Int) ∧ Hid (LfIn w w.heap.size bp hp p bD k wr)) (fun _ _ i _ => m - (intOf i).toNat)
    case atStart => exact ⟨0, true, Nat.zero_le _, rfl, rfl, rfl, H7⟩
    case round =>
      obtain ⟨k, cz, hkm, rfl, rfl, rfl, HK⟩ := hrel
      by_cases hlt : k < m
      · obtain ⟨a, ha⟩ : ∃ a, L[k]? = some a := ⟨_, List.getElem?_eq_getElem (by have := HM.out; omega)⟩
        obtain ⟨⟨_, ao', cap', e', hcc⟩, hir⟩ := HST.out
        obtain ⟨⟨b0, off, rfl, hb0, hcell⟩, z1, z2, z3⟩ := hcc k a ha
        cases e'
        obtain ⟨bN, lp, av, mv, b, M, sk, hu, l, d, hl, hbk, hst, hal, hbl⟩ := HK.out
        have hcell' := hcell.below hbl hb0
        obtain ⟨c0, c1, c2, c3, c4, c5, c6, c7, c8, c9, c10⟩ := hcell'
        obtain ⟨r1, r2, r3, r4, r5, r6⟩ := hir k a ha
        have HB : Hid (HLo wr w.heap.size hp p bD bN (some lp) (some l) d (nk k) ∧ BkM wr w.heap.size bp hp p (some lp) av mv b M sk hu ∧ BSt (some l) d b M sk hu ∧ b.all.length + M.length ≤ k ∧ Below w.heap.size w wr) := ⟨hl, hbk, hst, hal, hbl⟩
        have hnk := nk_le (show k ≤ 16384 by omega)
        have hng := nk_ge k
        have hns := nk_succ k
        have hlo2 : k + 1 ≤ 16384 := by omega
        clear hcell hcc hl hbk hst hbl HK hir ha z1 z2 z3
        have i1 : (k : Int) < (m : Int) := by omega
        obtain ⟨kd, txn, sq, nn, key, s, sa, sx, sy, f1, f2, f3, f4⟩ := a
        simp only at c0 c1 c2 c3 c4 c5 c6 c7 c8 c9 c10 r1 r2 r3 r4 r5 r6
        obtain ⟨Wa, hWa⟩ : ∃ Wa, Wa = wr.alloc (stepO kd txn sq nn key s sa sx sy f1 f2 f3 f4) := ⟨_, rfl⟩
        have hfa : Fr [] wr Wa := by rw [hWa]; exact (Fr.refl [] wr).alloc _
        have hsa : Wa.heap[wr.heap.size]? = some (stepO kd txn sq nn key s sa sx sy f1 f2 f3 f4) := by rw [hWa]; exact heap_alloc_new wr _
        obtain ⟨hla, hra⟩ := HB.out.1.new hfa
        have hba : Below w.heap.size w Wa := HB.out.2.2.2.2.trans (hfa.below HB.out.1.base (by simp))
        have HA : Hid (HLo Wa w.heap.size hp p bD bN (some lp) (some l) d (nk k) ∧ BkM Wa w.heap.size bp hp p (some lp) av mv b M sk hu ∧ Wa.heap[wr.heap.size]? = some (stepO kd txn sq nn key s sa sx sy f1 f2 f3 f4) ∧ Below w.heap.size w Wa) := ⟨hla, HB.out.2.1.hfr hra, hsa, hba⟩
        have x0 := blk_cell hsa 0
        simp at x0
        by_cases hk1 : kd = 1
        · subst hk1
          have hag := again_any (N := k + 2) 1 txn sx sy sq nn key s sa f1 f2 f3 f4 HA.out.2.1 HA.out.1 HB.out.2.2.1 hB (HP.out hba) (by omega) (by omega) (by omega) (by omega) r1 r2 r3 r4 r5 r6
          clear hfa hsa hla hra hba x0
          go_wp2_with fail
          rw [← hWa]
          refine hag.mono ?_
          clear hag hWa
          rintro e w8 ⟨rfl, hb8, bN', lp', av', b', l', d', g1, g2, g3, g4, g5⟩
          have H8 : Hid (LfIn w w.heap.size bp hp p bD (k + 1) w8) := LfIn.of g1 g2 g3 (by have := HB.out.2.2.2.1; simp; omega) (HA.out.2.2.2.trans hb8) (by omega) hlo2
          clear hb8 g1 g2 g3 g4 g5 HA HB c0 c1 c2 c3 c4 c5 c6 c7 c8 c9 c10
          go_wp2
          go_roundw
          case rel => exact ⟨k + 1, cz, by omega, rfl, rfl, by go_num, H8⟩
          case measure => simp [intOf]; omega
        · have hk1' : (kd == 1) = false := by simpa using hk1
          have hne : ¬ bp = wr.heap.size := by intro e; have := HA.out.2.1.blk; rw [e, hsa] at this; cases this
          have hne2 : ¬ wr.heap.size = bp := fun e => hne e.symm
          have y6 := blk_cell HA.out.2.1.blk 6
          have gy6 := blk_free HA.out.2.1.blk 6
          have x7 := blk_cell hsa 7
          have x8 := blk_cell hsa 8
          simp at y6 x7 x8
          clear hfa hsa hla hra hba
          go_upto_region 20 with fail
          rw [← hWa]
          clear hWa c0 c1 c2 c3 c4 c5 c6 c7 c8 c9 c10 x0
          have hcase : sk = true ∨ (sk = false ∧ 0 ≤ f1) ∨ (sk = false ∧ ¬ 0 ≤ f1 ∧ 0 ≤ f2) ∨ (sk = false ∧ ¬ 0 ≤ f1 ∧ ¬ 0 ≤ f2) := by
            cases sk
            · by_cases q1 : 0 ≤ f1
              · exact .inr (.inl ⟨rfl, q1⟩)
              · by_cases q2 : 0 ≤ f2
                · exact .inr (.inr (.inl ⟨rfl, q1, q2⟩))
                · exact .inr (.inr (.inr ⟨rfl, q1, q2⟩))
            · exact .inl rfl
          rcases hcase with hs | ⟨hs, g1⟩ | ⟨hs, g1, g2⟩ | ⟨hs, g1, g2⟩
          all_goals rw [hs] at y6
          all_goals go_upto_region 21 with fail
          all_goals (
            obtain ⟨sk', hsv⟩ : ∃ sk' : Bool, sk' = (sk || decide (0 ≤ f1) || decide (0 ≤ f2)) := ⟨_, rfl⟩
            obtain ⟨Wd, hWd⟩ : ∃ Wd, Wd = Wa.setCell ⟨bp, 6, none⟩ (.bool sk') := ⟨_, rfl⟩
            have hwd : Wd = Wa.setCell ⟨bp, 6, none⟩ (.bool (sk || decide (0 ≤ f1) || decide (0 ≤ f2))) := by rw [hWd, hsv]
            simp [hs] at hwd
            first
            | rw [← hwd]
            | (simp [g1] at hwd; rw [← hwd])
            | (simp [g1, g2] at hwd; rw [← hwd])
            have hsk' : sk = true → sk' = true := fun e => by rw [hsv, e]; simp
            have hskv : sk' = false → f1 < 0 ∧ f2 < 0 := fun e => by
              rw [hsv] at e
              simp at e
              omega
            clear hsv hwd
            have hfd : Fr [bp] Wa Wd := by rw [hWd]; exact Fr.set1 (by simp) _ _
            have hbd : Wd.heap[bp]? = some (bookG hp av mv b sk' hu) := by rw [hWd, blk_set HA.out.2.1.blk 6 _]; rfl
            obtain ⟨hld, hmd, hBd⟩ := HA.out.2.1.set HA.out.1 hfd hbd rfl HA.out.2.1.nums
            have hsd := hBd.stp _ _ HA.out.2.2.1
            have hbw : Below w.heap.size w Wd := HA.out.2.2.2.trans hBd.bel
            have hstp := stepX_any kd txn sx sy sq nn key s sa f1 f2 f3 f4 hmd hld (HB.out.2.2.1.sick hsk') hB (HP.out hbw).1 (HP.out hbw).2.1 (by have := HB.out.2.2.2.1; omega) hskv (by have := HB.out.2.2.2.1; omega) r3 r4 r5 r6
            have hcnt := HB.out.2.2.2.1
            have s0 := blk_cell hsd 0
            have s1 := blk_cell hsd 1
            have s2 := blk_cell hsd 2
            have s3 := blk_cell hsd 3
            have s4 := blk_cell hsd 4
            have s5 := blk_cell hsd 5
            have s6 := blk_cell hsd 6
            have s7 := blk_cell hsd 7
            have s8 := blk_cell hsd 8
            have s9 := blk_cell hsd 9
            have s10 := blk_cell hsd 10
            simp at s0 s1 s2 s3 s4 s5 s6 s7 s8 s9 s10
            have HD : Hid (Wd.heap[wr.heap.size]? = some (stepO kd txn sq nn key s sa sx sy f1 f2 f3 f4) ∧ Below w.heap.size w Wd) := ⟨hsd, hbw⟩
            clear hfd hbd hld hmd hBd hsd hbw hWd hsk' hskv hs y6 gy6 x7 x8 HA HB
            go_wp2_with fail
            refine hstp.mono ?_
            clear hstp s0 s1 s2 s3 s4 s5 s6 s7 s8 s9 s10
            rintro e w9 ⟨rfl, hb9, bN9, lo9, o9, d9, av9, mv9, b9, M9, hu9, g1, g2, g3, g4⟩
            have hs9 := hb9.stp _ _ HD.out.1
            have hbw9 : Below w.heap.size w w9 := HD.out.2.trans hb9.bel
            rcases g1 with ⟨lp9, l9, rfl, rfl, g1⟩ | ⟨rfl, rfl, g1⟩
            · have his := hIs p hp true _ w9 g1.blk
              obtain ⟨fst9, X9, hlo9⟩ := g3.look
              have hlk := looks_gen w.heap.size bp hp lp9 p bD bN9 (nk k + 4 + b.all.length) fst9 av9 b9 l9 d9 X9 w9 (g2.look g1) hlo9
              have H9 : Hid (HLo w9 w.heap.size hp p bD bN9 (some lp9) (some l9) d9 (nk k + 4 + b.all.length) ∧ BkM w9 w.heap.size bp hp p (some lp9) av9 mv9 b9 M9 sk' hu9 ∧ BSt (some l9) d9 b9 M9 sk' hu9 ∧ b9.all.length + M9.length ≤ k + 1 ∧ Below w.heap.size w w9) := ⟨.inl ⟨lp9, l9, rfl, rfl, g1⟩, g2, g3, by omega, hbw9⟩
              clear hb9 g1 g2 g3 g4 hs9 hbw9 hlo9 HD
              go_wp2_with fail
              refine his.mono ?_
              clear his
              rintro e wX ⟨rfl, rfl⟩
              go_wp2_with fail
              refine hlk.mono ?_
              clear hlk
              rintro e wY ⟨rfl, hfY⟩
              have HY : Hid (LfIn w w.heap.size bp hp p bD (k + 1) wY) := by
                obtain ⟨q1, q2⟩ := H9.out.1.new hfY
                exact LfIn.of q1 (H9.out.2.1.hfr q2) H9.out.2.2.1 H9.out.2.2.2.1 (H9.out.2.2.2.2.trans (hfY.below H9.out.1.base (by simp))) (by omega) hlo2
              clear hfY H9
              go_wp2
              go_roundw
              case rel => exact ⟨k + 1, true, by omega, rfl, rfl, by go_num, HY⟩
              case measure => simp [intOf]; omega
            · have his := hIs p hp false _ w9 g1.blk
              obtain rfl := g3.downs
              have hag := again_any (N := k + 3) kd txn sx sy sq nn key s sa f1 f2 f3 f4 g2 (.inr ⟨rfl, rfl, g1⟩) g3 hB (HP.out hbw9) (by omega) (by omega) (by omega) (by omega) r1 r2 r3 r4 r5 r6
              have v6 := blk_cell g2.blk 6
              have s0 := blk_cell hs9 0
              have s1 := blk_cell hs9 1
              have s2 := blk_cell hs9 2
              have s3 := blk_cell hs9 3
              have s4 := blk_cell hs9 4
              have s5 := blk_cell hs9 5
              have s6 := blk_cell hs9 6
              have s7 := blk_cell hs9 7
              have s8 := blk_cell hs9 8
              have s9 := blk_cell hs9 9
              have s10 := blk_cell hs9 10
              simp at v6 s0 s1 s2 s3 s4 s5 s6 s7 s8 s9 s10
              have H9 : Hid (b9.all.length + M9.length ≤ k + 1 ∧ Below w.heap.size w w9) := ⟨by omega, hbw9⟩
              clear hb9 g1 g2 g3 g4 hs9 hbw9 HD
              go_wp2_with fail
              refine his.mono ?_
              clear his
              rintro e wX ⟨rfl, rfl⟩
              go_wp2_with fail
              refine hag.mono ?_
              clear hag v6 s0 s1 s2 s3 s4 s5 s6 s7 s8 s9 s10
              rintro e wY ⟨rfl, hbY, bN', lp', av', b', l', d', g1, g2, g3, g4, g5⟩
              have HY : Hid (LfIn w w.heap.size bp hp p bD (k + 1) wY) := LfIn.of g1 g2 g3 (by have := H9.out.1; simp; omega) (H9.out.2.trans hbY) (by omega) hlo2
              clear hbY g1 g2 g3 g4 g5 H9
              go_wp2
              go_roundw
              case rel => exact ⟨k + 1, false, by omega, rfl, rfl, by go_num, HY⟩
              case measure => simp [intOf]; omega)
      · go_wp2
        go_ret
        obtain ⟨bN, lp, av, mv, b, M, sk, hu, l, d, hl, hbk, hst, hal, hbl⟩ := HK.out
        exact ⟨rfl, hbl⟩
  · rw [decide_eq_false hbig] at hsm
    have HSM : Hid (Calls Tryz.prog 14 #[.slice ao m cap] w fun e w' => e = .returned (.bool false) ∧ ∃ q, w' = w.drewN q) := hsm
    clear hsm
    go_enter Tryz.func5, Tryz.ntmps5
    go_wp2_with fail
    refine HSM.out.mono ?_
    rintro e w1 ⟨rfl, q, rfl⟩
    go_wp2
    go_ret
    exact ⟨rfl, (Fr.refl [] w).drewN q |>.below (Nat.le_refl _) (by simp)⟩
end Go.Proofs.YtbdhmkfdofkloaaGreatDoor
