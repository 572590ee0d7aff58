import Derived.Test.YtnnhihkeffljbaaGreatDoorC28
import Derived.Deep.CutRange
import Derived.Test.YtnnhihkeffljbaaGreatDoorRows
import Derived.ProofKit
import Derived.ChangeSame
import Derived.ChangeVars
import Derived.JoinedOf
import Derived.RowKit
import Derived.RowKitTokens
import Derived.LaidLaws
import Derived.LaidHandle
import Derived.Stop.Joined
import Derived.SizedLaws
import Derived.Lib.SmallJoins
import Derived.OpenShut
import Derived.Deep.Strs
/- THE SCRIPT over a log, the disk being well. -/
namespace Go.Proofs.YtnnhihkeffljbaaGreatDoor
open Go.RowKit
open Sc

/-- between two steps -/
def LogsIn (w : World) (B bp hp lp p bD bN k W : Nat) (wr : World) : Prop :=
  ∃ av b l d fst cs t n, BookIn wr B bp hp lp p bD bN av b l d n ∧ BookOk b l d fst cs t ∧ t ≤ 15 * k + W ∧ b.all.length ≤ k ∧ n ≤ 4 + 600 * k ∧ Below B w wr
theorem opens_well {d : ADisk} (h : d.down = false) : ((log0 1).opens (d.knob (-1) (-1))).2.2 = 0 ∧ ((log0 1).opens (d.knob (-1) (-1))).1 = ⟨[], 600, [], 1, 1, 0⟩ ∧ ((log0 1).opens (d.knob (-1) (-1))).2.1.down = false := by
  have hw := knob_well h
  obtain ⟨a1, a2, a3⟩ := syncW hw (by omega)
  have e : (log0 1).sync (d.knob (-1) (-1)) = ({ log0 1 with durable := (log0 1).next }, (d.knob (-1) (-1)).sync.1, 0) := by
    unfold ALog.sync; rw [if_pos a1]
  obtain ⟨b1, b2, b3⟩ := syncW a2 (by omega)
  have e2 : (log0 1).opens (d.knob (-1) (-1)) = ({ log0 1 with durable := (log0 1).next }, (d.knob (-1) (-1)).sync.1.sync) := by
    unfold ALog.opens; rw [e]; simp [ADisk.removeAll]
  rw [e2]
  exact ⟨b1, rfl, b2.up⟩
theorem book_first (d : ADisk) (h : d.down = false) : BookOk ⟨[], 0, 1, 1, 1⟩ ⟨[], 600, [], 1, 1, 0⟩ d 0 [] 0 where
  log := { fail := rfl, segs := rfl, recs := rfl, next := rfl, nums := by simp, ne := by simp, size := by simp, none := fun _ => rfl, fill := by simp, files := by simp }
  up := h
  le := Nat.zero_le _
  all := rfl
  low := .inr rfl
  must := Nat.le_refl _
  two := by simp
  sum := by simp
theorem BookIn.otherB {w w' : World} {B bp hp lp p bD bN n q : Nat} {av : Value} {b : ABook} {l : ALog} {d : ADisk} {c : Array Value} {t : TypeId} (h : BookIn w B bp hp lp p bD bN av b l d n) (hf : Fr [q] w w') (hq : w.heap[q]? = some (.cells c t (0, 0))) (h1 : t ≠ 86) (h2 : t ≠ 107) (h3 : t ≠ 158) (h4 : t ≠ 33) (h5 : t ≠ 92) (h6 : t ≠ 9) (h7 : t ≠ 65) (h8 : t ≠ 52) : BookIn w' B bp hp lp p bD bN av b l d n := by
  obtain ⟨hh, pv, sv, rv, nD, nN, hl⟩ := h.host
  have hl' := hl.other hf hq h1 h2 h3 h4 h5 h6
  have n1 : hp ≠ q := by intro e; rw [e, hq] at hh; cases hh; exact h7 rfl
  have n2 : bp ≠ q := by intro e; have := h.blk; rw [e, hq] at this; cases this; exact h8 rfl
  refine ⟨⟨(hf.block hp (Array.getElem?_eq_some_iff.1 hh).1 (by simpa using n1)).trans hh, pv, sv, rv, nD, nN, hl'⟩, h.base, (hf.block bp (Array.getElem?_eq_some_iff.1 h.blk).1 (by simpa using n2)).trans h.blk, ownsRow_fr h.all hf (fun g hg => by simp; intro e; subst e; exact own_ne h.all hq (fun e => h5 e.symm) hg), ?_, h.len, h.nums⟩
  intro k hk hO
  refine h.sep k hk ?_
  rw [hl.own]; rw [hl'.own] at hO; exact hO
set_option maxRecDepth 100000 in
set_option maxHeartbeats 8000000 in
theorem logs_any (v : Value) (L : List AStep) (w : World) (h : StepsAt w v L) (hmet : Met w) (hpow : Pows w) (hB : 2 ≤ w.heap.size) :
    Calls Tryz.prog 7 #[v, .bool false] w fun e w' => e = .returned (.bool true) ∧ Below w.heap.size w w' := by
  have hsm := small_any v L w h
  have HST : Hid (StepsAt w v L) := h
  obtain ⟨hlen, ao, cap, rfl, hc⟩ := h
  obtain ⟨m, hm⟩ : ∃ m, m = L.length := ⟨_, rfl⟩
  rw [← hm] at hlen hsm ⊢
  have HM : Hid (m = L.length) := hm
  have HMP : Hid (Met w ∧ Pows w) := ⟨hmet, hpow⟩
  clear hm hc
  by_cases hbig : m + sumW L ≤ 16384
  · rw [decide_eq_true hbig] at hsm
    have HBIG : Hid (m + sumW L ≤ 16384) := hbig
    have HSM : Hid (Calls Tryz.prog 20 #[.slice ao m cap] w fun e w' => e = .returned (.bool true) ∧ ∃ q, w' = w.drewN q) := hsm
    clear hsm
    go_enter Tryz.func7, Tryz.ntmps7
    go_wp2_with fail
    refine HSM.out.mono ?_
    rintro e w1 ⟨rfl, q, rfl⟩
    have hb1 : Below w.heap.size w (w.drewN q) := (Fr.refl [] w).drewN q |>.below (Nat.le_refl _) (by simp)
    have hsz1 : (w.drewN q).heap.size = w.heap.size := by simp
    go_wp2_with fail
    refine (newHost_any (w.drewN q) 4 (by omega)).mono ?_
    rw [hsz1]
    rintro e w2 ⟨hp, p, bD, bN, rfl, hh2, hd2, hhp, hb2⟩
    have hb02 : Below w.heap.size w w2 := hb1.trans hb2
    have H2 : Hid (w2.heap[hp]? = some (hostO p false (.pointer none)) ∧ DiskIn w2 w.heap.size p bD bN (.slice none 0 0) ⟨fun _ => none, fun _ => none, [], -1, -1, false⟩ 4 0 0 ∧ w.heap.size ≤ hp ∧ Below w.heap.size w w2 ∧ Met w2 ∧ Pows w2) := ⟨hh2, hd2, hhp, hb02, hmet.below hb02 (by omega), hpow.of_block (hb02.block 1 (by omega))⟩
    clear hh2 hd2 hb2 hb02 hb1 hsz1
    go_wp2_with fail
    refine (well_any w2).mono ?_
    rintro e w3 ⟨rfl, hb3⟩
    have hf3 : Fr [] w2 w3 := Fr.of_below hb3 _
    have hb3' : Below w.heap.size w2 w3 := hb3.mono H2.out.2.2.2.1.size
    have hh3 : w3.heap[hp]? = some (hostO p false (.pointer none)) := (hf3.block hp (Array.getElem?_eq_some_iff.1 H2.out.1).1 (by simp)).trans H2.out.1
    have ho := opens_well (d := ⟨fun _ => none, fun _ => none, [], -1, -1, false⟩) rfl
    have hop := hOpen_empty w.heap.size hp p bD bN 4 0 (.slice none 0 0) ⟨fun _ => none, fun _ => none, [], -1, -1, false⟩ (-1) (-1) 0 0 w3 hh3 (H2.out.2.1.new hf3) hB H2.out.2.2.1 (H2.out.2.2.2.2.1.below hb3' (by omega)) rfl rfl ho.1 ho.2.2
    obtain ⟨R, hR⟩ : ∃ R, R = (log0 1).opens (ADisk.knob ⟨fun _ => none, fun _ => none, [], -1, -1, false⟩ (-1) (-1)) := ⟨_, rfl⟩
    rw [← hR] at ho hop
    have HO : Hid (R.2.2 = 0 ∧ R.1 = ⟨[], 600, [], 1, 1, 0⟩ ∧ R.2.1.down = false) := ho
    have HOP : Hid (Calls Tryz.prog 14 #[.pointer (some ⟨hp, 0, none⟩), fallV (-1) (-1) 0 0] w3 fun e w' => e = .returned (.int .i64 0) ∧ ∃ lp, HostIn w' w.heap.size hp lp p bD bN R.1 (R.2.1.knob (-1) (-1)) 4 ∧ Below w.heap.size w3 w') := hop
    have HB3 : Hid (Below w.heap.size w w3) := H2.out.2.2.2.1.trans hb3'
    clear hop ho hR hh3 hf3 hb3 hb3'
    go_wp2_with fail
    refine HOP.out.mono ?_
    rintro e w4 ⟨rfl, lp, hh4, hb4⟩
    have hb4' : Below w.heap.size w w4 := HB3.out.trans hb4
    have H4 : Hid (HostIn w4 w.heap.size hp lp p bD bN R.1 (R.2.1.knob (-1) (-1)) 4 ∧ Below w.heap.size w w4) := ⟨hh4, hb4'⟩
    clear hh4 hb4 hb4'
    go_wp2_with fail
    refine (hIs p hp true _ w4 H4.out.1.blk).mono ?_
    rintro e w5 ⟨rfl, rfl⟩
    obtain ⟨W6, hW6⟩ : ∃ W6, W6 = w5.alloc (bookO hp (.slice none 0 0) ⟨[], 0, 1, 1, 1⟩) := ⟨_, rfl⟩
    have hW6' : W6 = w5.alloc (.cells #[.pointer (some ⟨hp, 0, none⟩), .slice none 0 0, .int .i64 0, .int .u64 1, .int .u64 1, .int .u64 1, .bool false, .bool false, .slice none 0 0] 52) := hW6
    have hbk6 : BookIn W6 w.heap.size w5.heap.size hp lp p bD bN (.slice none 0 0) ⟨[], 0, 1, 1, 1⟩ R.1 (R.2.1.knob (-1) (-1)) 4 := by
      have hf6 : Fr [] w5 W6 := by rw [hW6]; exact (Fr.refl [] w5).alloc _
      obtain ⟨hh, pv, sv, rv, nD, nN, hl⟩ := H4.out.1
      exact ⟨⟨(hf6.block hp (Array.getElem?_eq_some_iff.1 hh).1 (by simp)).trans hh, pv, sv, rv, nD, nN, hl.new hf6⟩, ⟨H4.out.2.size, H2.out.2.2.1⟩, by rw [hW6]; exact heap_alloc_new w5 _, World.ownsRow_nil _ _ _ _, (by intro k hk; cases hk), by simp, by simp⟩
    have hb6 : Below w.heap.size w W6 := by rw [hW6]; exact H4.out.2.alloc H4.out.2.size _
    have H6 : Hid (BookIn W6 w.heap.size w5.heap.size hp lp p bD bN (.slice none 0 0) ⟨[], 0, 1, 1, 1⟩ R.1 (R.2.1.knob (-1) (-1)) 4 ∧ Below w.heap.size w W6 ∧ BookOk ⟨[], 0, 1, 1, 1⟩ R.1 (R.2.1.knob (-1) (-1)) 0 [] 0) := ⟨hbk6, hb6, by rw [HO.out.2.1]; exact book_first _ HO.out.2.2⟩
    clear hbk6 hb6 hW6
    go_wp2_with fail
    rw [← hW6']
    refine (looks_any w.heap.size w5.heap.size hp lp p bD bN 4 0 0 (.slice none 0 0) ⟨[], 0, 1, 1, 1⟩ R.1 (R.2.1.knob (-1) (-1)) [] W6 H6.out.1 H6.out.2.2).mono ?_
    rintro e w7 ⟨rfl, hf7⟩
    have H7 : Hid (LogsIn w w.heap.size w5.heap.size hp lp p bD bN 0 0 w7) := ⟨_, _, _, _, _, _, 0, 4, H6.out.1.newB hf7, H6.out.2.2, by omega, by simp, by omega, H6.out.2.1.trans (hf7.below H6.out.1.lowB (by simp))⟩
    clear hf7 hW6'
    go_wp2
    obtain ⟨bp, hbp⟩ : ∃ bp, bp = w5.heap.size := ⟨_, rfl⟩
    rw [← hbp] at H7 ⊢
    clear hbp
    go_loopw [5, 8, 10] (fun ok is i wr => ∃ k : Nat, k ≤ m ∧ ok = .bool true ∧ is = .bool true ∧ i = .int .i64 (k : Int) ∧ Hid (LogsIn w w.heap.size bp hp lp p bD bN k (sumW (L.take k)) wr)) (fun _ _ i _ => m - (intOf i).toNat)
    case atStart => exact ⟨0, Nat.zero_le _, rfl, rfl, rfl, by simpa [sumW] using H7⟩
    case round =>
      obtain ⟨k, hkm, rfl, rfl, rfl, HK⟩ := hrel
      by_cases hlt : k < m
      · obtain ⟨a, ha⟩ : ∃ a, L[k]? = some a := ⟨_, List.getElem?_eq_getElem (by have := HM.out; omega)⟩
        obtain ⟨_, ao', cap', e', hcc⟩ := HST.out
        obtain ⟨⟨b0, off, rfl, hb0, hcell⟩, z1, z2, z3⟩ := hcc k a ha
        cases e'
        obtain ⟨av, b, l, d, fst, cs, t, n, hbk, hok, ht, hal, hnn, hbl⟩ := HK.out
        have hcell' := hcell.below hbl hb0
        obtain ⟨c0, c1, c2, c3, c4, c5, c6, c7, c8, c9, c10⟩ := hcell'
        have hsn := sumW_snoc ha
        have hst := sumW_take L (k + 1)
        have HW : Hid (sumW (L.take (k + 1)) = sumW (L.take k) + a.wt ∧ sumW (L.take (k + 1)) ≤ sumW L ∧ a.wt = a.key.size + a.s.size + a.sx) := ⟨hsn, hst, rfl⟩
        have HB : Hid (BookIn wr w.heap.size bp hp lp p bD bN av b l d n ∧ BookOk b l d fst cs t ∧ t ≤ 15 * k + sumW (L.take k) ∧ b.all.length ≤ k ∧ n ≤ 4 + 600 * k ∧ Below w.heap.size w wr) := ⟨hbk, hok, ht, hal, hnn, hbl⟩
        clear hcell hcc hsn hst hbk hok ht hal hnn hbl HK
        have i1 : (k : Int) < (m : Int) := by omega
        obtain ⟨kd, txn, sq, nn, key, s, sa, sx, sy, f1, f2, f3, f4⟩ := a
        simp only at c0 c1 c2 c3 c4 c5 c6 c7 c8 c9 c10 z1 z2 z3 HW
        by_cases hk1 : kd = 1
        · subst hk1
          go_wp2
          go_roundw
          case rel =>
            have hf : Fr [] wr (wr.alloc (.cells #[.int .i64 1, .int .u64 (txn : Int), .int .i64 sq, .int .i64 nn, .string key, .string s, .slice sa sx sy, .int .i64 f1, .int .i64 f2, .int .i64 f3, .int .i64 f4] 55)) := (Fr.refl [] wr).alloc _
            exact ⟨k + 1, by omega, rfl, rfl, by go_num, av, b, l, d, fst, cs, t, n, HB.out.1.newB hf, HB.out.2.1, by have := HB.out.2.2.1; have := HW.out.1; omega, by have := HB.out.2.2.2.1; omega, by have := HB.out.2.2.2.2.1; omega, HB.out.2.2.2.2.2.trans (hf.below HB.out.1.lowB (by simp))⟩
          case measure => simp [intOf]; omega
        · have hk1' : (kd == 1) = false := by simpa using hk1
          obtain ⟨Wa, hWa⟩ : ∃ Wa, Wa = wr.alloc (stepO kd txn sq nn key s sa sx sy f1 f2 f3 f4) := ⟨_, rfl⟩
          have hfa : Fr [] wr Wa := by rw [hWa]; exact (Fr.refl [] wr).alloc _
          have hsa : Wa.heap[wr.heap.size]? = some (stepO kd txn sq nn key s sa sx sy f1 f2 f3 f4) := by rw [hWa]; exact heap_alloc_new wr _
          have HA : Hid (BookIn Wa w.heap.size bp hp lp p bD bN av b l d n ∧ Wa.heap[wr.heap.size]? = some (stepO kd txn sq nn key s sa sx sy f1 f2 f3 f4) ∧ Below w.heap.size w Wa) := ⟨HB.out.1.newB hfa, hsa, HB.out.2.2.2.2.2.trans (hfa.below HB.out.1.lowB (by simp))⟩
          clear hfa hsa
          go_wp2_with fail
          rw [← hWa]
          clear hWa c0 c1 c2 c3 c4 c5 c6 c7 c8 c9 c10
          refine (well_any Wa).mono ?_
          rintro e w8 ⟨rfl, hb8⟩
          have hf8 : Fr [] Wa w8 := Fr.of_below hb8 _
          have h8 := HA.out.1.newB hf8
          have hs8 : w8.heap[wr.heap.size]? = some (stepO kd txn sq nn key s sa sx sy f1 f2 f3 f4) := (hf8.block _ (Array.getElem?_eq_some_iff.1 HA.out.2.1).1 (by simp)).trans HA.out.2.1
          have hb8' : Below w.heap.size w w8 := HA.out.2.2.trans (hb8.mono HA.out.2.2.size)
          have x7 := blk_cell hs8 7
          have x8 := blk_cell hs8 8
          have x9 := blk_cell hs8 9
          have x10 := blk_cell hs8 10
          have g7 := blk_free hs8 7
          have g8 := blk_free hs8 8
          have g9 := blk_free hs8 9
          have g10 := blk_free hs8 10
          simp at x7 x8 x9 x10
          have hne : ¬ bp = wr.heap.size := by intro e; have := h8.blk; rw [e, hs8] at this; cases this
          have y6 := blk_cell h8.blk 6
          have gy6 := blk_free h8.blk 6
          simp at y6
          have hne2 : ¬ wr.heap.size = bp := fun e => hne e.symm
          obtain ⟨Wc, hWc⟩ : ∃ Wc, Wc = (((w8.setCell ⟨wr.heap.size, 7, none⟩ (.int .i64 (-1))).setCell ⟨wr.heap.size, 8, none⟩ (.int .i64 (-1))).setCell ⟨wr.heap.size, 9, none⟩ (.int .i64 0)).setCell ⟨wr.heap.size, 10, none⟩ (.int .i64 0) := ⟨_, rfl⟩
          have H8 : Hid (BookIn w8 w.heap.size bp hp lp p bD bN av b l d n ∧ w8.heap[wr.heap.size]? = some (stepO kd txn sq nn key s sa sx sy f1 f2 f3 f4) ∧ Below w.heap.size w w8) := ⟨h8, hs8, hb8'⟩
          clear h8 hs8 hb8' hf8 hb8 hmet hpow hbig z1 z2 z3 hk1 hk1' hb0 hhp y6 gy6
          have hfc : Fr [wr.heap.size] w8 Wc := by rw [hWc]; exact (((Fr.set1 (by simp) _ _).trans (Fr.set1 (by simp) _ _)).trans (Fr.set1 (by simp) _ _)).trans (Fr.set1 (by simp) _ _)
          have hsc : Wc.heap[wr.heap.size]? = some (stepO kd txn sq nn key s sa sx sy (-1) (-1) 0 0) := by
            rw [hWc]; have := blk_set (blk_set (blk_set (blk_set H8.out.2.1 7 (.int .i64 (-1))) 8 (.int .i64 (-1))) 9 (.int .i64 0)) 10 (.int .i64 0); simp at this; exact this
          have hbc := H8.out.1.otherB hfc H8.out.2.1 (by decide) (by decide) (by decide) (by decide) (by decide) (by decide) (by decide) (by decide)
          have hblc : Below w.heap.size w Wc := H8.out.2.2.trans (hfc.below H8.out.1.lowB (by intro j hj; simp at hj; rw [hj]; exact HB.out.2.2.2.2.2.size))
          obtain ⟨Wd, hWd⟩ : ∃ Wd, Wd = Wc.setCell ⟨bp, 6, none⟩ (.bool false) := ⟨_, rfl⟩
          have hfd : Fr [bp] Wc Wd := by rw [hWd]; exact Fr.set1 (by simp) _ _
          have hbd : BookIn Wd w.heap.size bp hp lp p bD bN av b l d n := hbc.setB hfd (by rw [hWd]; have := blk_set hbc.blk 6 (.bool false); simp at this ⊢; exact this) rfl hbc.nums
          have hsd : Wd.heap[wr.heap.size]? = some (stepO kd txn sq nn key s sa sx sy (-1) (-1) 0 0) := (hfd.block _ (Array.getElem?_eq_some_iff.1 hsc).1 (by simpa using hne2)).trans hsc
          have hbld : Below w.heap.size w Wd := hblc.trans (hfd.below hbc.lowB (by intro j hj; simp at hj; rw [hj]; exact hbc.base.1))
          have y6 := blk_cell hbc.blk 6
          have gy6 := blk_free hbc.blk 6
          have u7 := blk_cell hsc 7
          have u8 := blk_cell hsc 8
          simp at y6 u7 u8
          have HDD : Hid (BookIn Wd w.heap.size bp hp lp p bD bN av b l d n ∧ Wd.heap[wr.heap.size]? = some (stepO kd txn sq nn key s sa sx sy (-1) (-1) 0 0) ∧ Below w.heap.size w Wd) := ⟨hbd, hsd, hbld⟩
          clear hfc hsc hbc hblc hfd hbd hsd hbld
          go_upto_region 20 with fail
          rw [← hWc]
          clear hWc x7 x8 x9 x10 g7 g8 g9 g10
          go_upto_region 21 with fail
          rw [← hWd]
          clear hWd y6 gy6 u7 u8
          have s0 := blk_cell HDD.out.2.1 0
          have s1 := blk_cell HDD.out.2.1 1
          have s2 := blk_cell HDD.out.2.1 2
          have s3 := blk_cell HDD.out.2.1 3
          have s4 := blk_cell HDD.out.2.1 4
          have s5 := blk_cell HDD.out.2.1 5
          have s6 := blk_cell HDD.out.2.1 6
          have s7 := blk_cell HDD.out.2.1 7
          have s8 := blk_cell HDD.out.2.1 8
          have s9 := blk_cell HDD.out.2.1 9
          have s10 := blk_cell HDD.out.2.1 10
          simp at s0 s1 s2 s3 s4 s5 s6 s7 s8 s9 s10
          go_wp2_with fail
          refine (step_any w.heap.size bp hp lp p bD bN n fst t txn sx sy kd sq nn key s sa av b l d cs Wd HDD.out.1 HB.out.2.1 hB (HMP.out.1.below HDD.out.2.2 (by omega)) (HMP.out.2.of_block (HDD.out.2.2.block 1 (by omega))) (by have := HB.out.2.2.2.2.1; have := HBIG.out; omega) (by have := HB.out.2.2.1; have := HBIG.out; have := HW.out; omega) (by have := HB.out.2.2.2.1; have := HBIG.out; omega) (by have := HBIG.out; have := HW.out; omega)).mono ?_
          rintro e w9 ⟨rfl, ⟨av', b', l', d', fst', cs', t', hb9, hk9, ht9, hl9⟩, hbl9⟩
          have H9 : Hid (BookIn w9 w.heap.size bp hp lp p bD bN av' b' l' d' (n + 600) ∧ BookOk b' l' d' fst' cs' t' ∧ t' ≤ t + (15 + s.size) ∧ b'.all.length ≤ b.all.length + 1 ∧ Below w.heap.size w w9) := ⟨hb9, hk9, ht9, hl9, HDD.out.2.2.trans hbl9⟩
          clear hb9 hk9 ht9 hl9 hbl9 s0 s1 s2 s3 s4 s5 s6 s7 s8 s9 s10
          go_wp2_with fail
          refine (hIs p hp true _ w9 H9.out.1.host.blk).mono ?_
          rintro e w10 ⟨rfl, rfl⟩
          go_wp2_with fail
          refine (looks_any w.heap.size bp hp lp p bD bN (n + 600) fst' t' av' b' l' d' cs' w10 H9.out.1 H9.out.2.1).mono ?_
          rintro e w11 ⟨rfl, hf11⟩
          have HF : Hid (Fr [] w10 w11) := hf11
          clear hf11
          go_wp2
          go_roundw
          case rel =>
            exact ⟨k + 1, by omega, rfl, rfl, by go_num, av', b', l', d', fst', cs', t', n + 600, H9.out.1.newB HF.out, H9.out.2.1, by have := H9.out.2.2.1; have := HB.out.2.2.1; have := HW.out; omega, by have := H9.out.2.2.2.1; have := HB.out.2.2.2.1; omega, by have := HB.out.2.2.2.2.1; omega, H9.out.2.2.2.2.trans (HF.out.below H9.out.1.lowB (by simp))⟩
          case measure => simp [intOf]; omega
      · go_wp2
        go_ret
        obtain ⟨av, b, l, d, fst, cs, t, n, hbk, hok, ht, hal, hnn, hbl⟩ := HK.out
        exact ⟨rfl, hbl⟩
  · rw [decide_eq_false hbig] at hsm
    have HSM : Hid (Calls Tryz.prog 20 #[.slice ao m cap] w fun e w' => e = .returned (.bool false) ∧ ∃ q, w' = w.drewN q) := hsm
    clear hsm
    go_enter Tryz.func7, Tryz.ntmps7
    go_wp2_with fail
    refine HSM.out.mono ?_
    rintro e w1 ⟨rfl, q, rfl⟩
    go_wp2
    go_ret
    exact ⟨rfl, (Fr.refl [] w).drewN q |>.below (Nat.le_refl _) (by simp)⟩
end Go.Proofs.YtnnhihkeffljbaaGreatDoor
/- THE LAW ON A LOG OVER A DISK THAT IS WELL: what was handed in; the walk at any script. -/
namespace Go.Proofs.YtnnhihkeffljbaaGreatDoor
open Go.ChangeShapes Go.WideShapes Go.RowKit Go.Joins
open Go.ChangeMaps (setBlock shut_map_nil open_string shut_string keptBut_setBlock frozen?_setBlock heap_setBlock_same)
open Sc

theorem Tryz.cellsStep : Tryz.prog.cellsOf 55 = 11 := by kernel_rfl
theorem Tryz.cellsFall : Tryz.prog.cellsOf 28 = 4 := by kernel_rfl
theorem Tryz.cellsI : Tryz.prog.cellsOf 3 = 1 := by kernel_rfl
theorem Tryz.cellsU64' : Tryz.prog.cellsOf 33 = 1 := by kernel_rfl
theorem Tryz.cellsStr' : Tryz.prog.cellsOf 9 = 1 := by kernel_rfl
theorem Tryz.cellsInts : Tryz.prog.cellsOf 53 = 1 := by kernel_rfl
theorem Tryz.bytesStep : Tryz.prog.bytesOf 55 = 120 := by kernel_rfl
theorem Tryz.bytesI : Tryz.prog.bytesOf 3 = 8 := by kernel_rfl
theorem eleven_of {cs : List Value} (h : cs.length = 11) : ∃ a b c d e f g i j k l, cs = [a, b, c, d, e, f, g, i, j, k, l] := by
  match cs, h with
  | [a, b, c, d, e, f, g, i, j, k, l], _ => exact ⟨a, b, c, d, e, f, g, i, j, k, l, rfl⟩
section
variable {H : Type} {enc : TypeId × Value → H} {P : Program} {w : World} {base : Nat} {spare : Nat → Bool} {held : Bool}
theorem trod_struct8 {t : TypeId} {f0 f1 f2 f3 f4 f5 f6 f7 : Field} {fuel : Nat} {cs : List Value} {x : DataW H × List MemPlace} (ht : P.underlying t = some (.struct #[f0, f1, f2, f3, f4, f5, f6, f7])) (h : DataW.trod enc P w base spare held fuel t cs = some x) :
    ∃ y0 y1 y2 y3 y4 y5 y6 y7 n, x.1 = .agg [y0.1, y1.1, y2.1, y3.1, y4.1, y5.1, y6.1, y7.1] ∧ DataW.trod enc P w base spare held n f0.type ((cs.drop f0.offset).take (P.cellsOf f0.type)) = some y0 ∧
      DataW.trod enc P w base spare held n f1.type ((cs.drop f1.offset).take (P.cellsOf f1.type)) = some y1 ∧ DataW.trod enc P w base spare held n f2.type ((cs.drop f2.offset).take (P.cellsOf f2.type)) = some y2 ∧
      DataW.trod enc P w base spare held n f3.type ((cs.drop f3.offset).take (P.cellsOf f3.type)) = some y3 ∧ DataW.trod enc P w base spare held n f4.type ((cs.drop f4.offset).take (P.cellsOf f4.type)) = some y4 ∧
      DataW.trod enc P w base spare held n f5.type ((cs.drop f5.offset).take (P.cellsOf f5.type)) = some y5 ∧ DataW.trod enc P w base spare held n f6.type ((cs.drop f6.offset).take (P.cellsOf f6.type)) = some y6 ∧
      DataW.trod enc P w base spare held n f7.type ((cs.drop f7.offset).take (P.cellsOf f7.type)) = some y7 := by
  obtain ⟨xs, n, _, rfl, hl, hlen, hf⟩ := DataW.trod_struct ht h
  match xs, hlen with
  | [y0, y1, y2, y3, y4, y5, y6, y7], _ => exact ⟨y0, y1, y2, y3, y4, y5, y6, y7, n, by simp, by simpa using hf 0 f0 rfl, by simpa using hf 1 f1 rfl, by simpa using hf 2 f2 rfl, by simpa using hf 3 f3 rfl, by simpa using hf 4 f4 rfl, by simpa using hf 5 f5 rfl, by simpa using hf 6 f6 rfl, by simpa using hf 7 f7 rfl⟩
theorem weightsAll_mem {e : TypeId} {d : DataW H} {k : Nat} : ∀ {l : List (DataW H)}, d ∈ l → k ∈ d.weights P e → k ∈ DataW.weightsAll P e l
  | x :: l, h, hk => by
    rcases List.mem_cons.1 h with rfl | h
    · simp [DataW.weightsAll, hk]
    · simp [DataW.weightsAll, weightsAll_mem h hk]
end
set_option maxRecDepth 100000 in
/-- the steps that were handed in -/
theorem steps_of {H : Type} {enc : TypeId × Value → H} {W : World} {v : Value} {d : DataW H} {p : List MemPlace} (h : DataW.Trod enc Tryz.prog W 0 (fun _ => true) true 22 v d p) (hv : ∃ a len cap, v = .slice a len cap) (hz : (DataW.weightsEach Tryz.prog [22] [d]).all (· ≤ reachBytes) = true) : ∃ L, StepsAt W v L := by
  obtain ⟨a0, len0, cap0, rfl⟩ := hv
  obtain ⟨fuel, hf⟩ := h
  rcases Deep.open_slice Tryz.underlying22 hf with ⟨hcs, _⟩ | ⟨a', len', cap', m, n, D, Pl, hcs, _, hl, _, hm, hd, hx⟩
  · simp [Value.cells] at hcs
    obtain ⟨rfl, rfl, rfl⟩ := hcs
    exact ⟨[], by simp, none, 0, rfl, by simp⟩
  · simp [Value.cells] at hcs
    obtain ⟨rfl, rfl, rfl⟩ := hcs
    simp only [if_true] at hm
    have hd1 : d = .slice ((List.range len0).map D) ((List.range (m - len0)).map fun j => D (len0 + j)) := congrArg Prod.fst hd
    have hall := List.all_eq_true.1 hz
    have hrb : reachBytes ≤ 140737488355328 := by have := reachBytes_lt; omega
    have hwt : ∀ i, i < len0 → ∀ k ∈ (D i).weights Tryz.prog 55, k ≤ 140737488355328 := fun i hi k hk => by
      have := hall k (by
        rw [hd1]
        simp only [DataW.weightsEach, DataW.weights, Tryz.underlying22, List.append_nil]
        exact List.mem_cons_of_mem _ (List.mem_append_left _ (weightsAll_mem (List.mem_map.2 ⟨i, List.mem_range.2 hi, rfl⟩) hk)))
      simp at this; omega
    have hlen : len0 ≤ 281474976710656 := by
      have := sized_slice (j := 0) hz rfl (by rw [hd1]; rfl) Tryz.underlying22
      rw [Tryz.bytesStep] at this
      simp at this; omega
    have key : ∀ i, ∃ s : AStep, i < len0 → (∃ b off, (some a' : Option Addr) = some ⟨b, off, none⟩ ∧ b < W.heap.size ∧ StepCells W b (off + i * 11) s) ∧ s.key.size ≤ 281474976710656 ∧ s.s.size ≤ 281474976710656 ∧ s.sx ≤ 281474976710656 := fun i => by
      by_cases hi : i < len0
      · obtain ⟨cs', h1, h2⟩ := hx i (by omega)
        rw [Tryz.cellsStep] at h1
        obtain ⟨_, hcl, hcell⟩ := World.cells?_some h1
        obtain ⟨y0, y1, y2, y3, y4, y5, y6, y7, n', hy, g0, g1, g2, g3, g4, g5, g6, g7⟩ := trod_struct8 Tryz.underlying55 h2
        obtain ⟨v0, v1, v2, v3, v4, v5, v6, v7, v8, v9, v10, rfl⟩ := eleven_of hcl
        have g0' : DataW.trod enc Tryz.prog W 0 (fun _ => true) true n' 3 [v0] = some y0 := by simpa [Tryz.cellsI] using g0
        have g1' : DataW.trod enc Tryz.prog W 0 (fun _ => true) true n' 33 [v1] = some y1 := by simpa [Tryz.cellsU64'] using g1
        have g2' : DataW.trod enc Tryz.prog W 0 (fun _ => true) true n' 3 [v2] = some y2 := by simpa [Tryz.cellsI] using g2
        have g3' : DataW.trod enc Tryz.prog W 0 (fun _ => true) true n' 3 [v3] = some y3 := by simpa [Tryz.cellsI] using g3
        have g4' : DataW.trod enc Tryz.prog W 0 (fun _ => true) true n' 9 [v4] = some y4 := by simpa [Tryz.cellsStr'] using g4
        have g5' : DataW.trod enc Tryz.prog W 0 (fun _ => true) true n' 9 [v5] = some y5 := by simpa [Tryz.cellsStr'] using g5
        have g6' : DataW.trod enc Tryz.prog W 0 (fun _ => true) true n' 53 [v6] = some y6 := by simpa [Tryz.cellsInts] using g6
        have g7' : DataW.trod enc Tryz.prog W 0 (fun _ => true) true n' 28 [v7, v8, v9, v10] = some y7 := by simpa [Tryz.cellsFall] using g7
        obtain ⟨q0, q1, q2, q3, n'', _, _, r0, r1, r2, r3⟩ := trod_struct4 Tryz.underlying28 g7'
        have r0' : DataW.trod enc Tryz.prog W 0 (fun _ => true) true n'' 3 [v7] = some q0 := by simpa [Tryz.cellsI] using r0
        have r1' : DataW.trod enc Tryz.prog W 0 (fun _ => true) true n'' 3 [v8] = some q1 := by simpa [Tryz.cellsI] using r1
        have r2' : DataW.trod enc Tryz.prog W 0 (fun _ => true) true n'' 3 [v9] = some q2 := by simpa [Tryz.cellsI] using r2
        have r3' : DataW.trod enc Tryz.prog W 0 (fun _ => true) true n'' 3 [v10] = some q3 := by simpa [Tryz.cellsI] using r3
        obtain ⟨x0, e0, _, _⟩ := DataW.trod_int Tryz.underlying3 g0'
        obtain ⟨x1, e1, _, wx1⟩ := DataW.trod_int Tryz.underlying33 g1'
        obtain ⟨x2, e2, _, _⟩ := DataW.trod_int Tryz.underlying3 g2'
        obtain ⟨x3, e3, _, _⟩ := DataW.trod_int Tryz.underlying3 g3'
        obtain ⟨x4, e4, ey4, _⟩ := DataW.trod_string Tryz.underlying9 g4'
        obtain ⟨x5, e5, ey5, _⟩ := DataW.trod_string Tryz.underlying9 g5'
        obtain ⟨x7, e7, _, _⟩ := DataW.trod_int Tryz.underlying3 r0'
        obtain ⟨x8, e8, _, _⟩ := DataW.trod_int Tryz.underlying3 r1'
        obtain ⟨x9, e9, _, _⟩ := DataW.trod_int Tryz.underlying3 r2'
        obtain ⟨x10, e10, _, _⟩ := DataW.trod_int Tryz.underlying3 r3'
        simp at e0 e1 e2 e3 e4 e5 e7 e8 e9 e10
        subst e0 e1 e2 e3 e4 e5 e7 e8 e9 e10
        have bx := bounds_u64 wx1
        obtain ⟨X1, rfl⟩ := Int.eq_ofNat_of_zero_le bx.1
        have hyw : ∀ k ∈ DataW.weightsEach Tryz.prog [3, 33, 3, 3, 9, 9, 53, 28] [y0.1, y1.1, y2.1, y3.1, y4.1, y5.1, y6.1, y7.1], k ≤ 140737488355328 := fun k hk => hwt i hi k (by
          have hy' : D i = .agg [y0.1, y1.1, y2.1, y3.1, y4.1, y5.1, y6.1, y7.1] := hy
          rw [hy']
          simpa [DataW.weights, Tryz.underlying55] using hk)
        have s4 : x4.size ≤ 281474976710656 := by
          have := hyw x4.data.toList.length (DataW.weights_mem_each (j := 4) rfl rfl _ (by rw [ey4]; simp [DataW.weights]))
          simp at this; omega
        have s5 : x5.size ≤ 281474976710656 := by
          have := hyw x5.data.toList.length (DataW.weights_mem_each (j := 5) rfl rfl _ (by rw [ey5]; simp [DataW.weights]))
          simp at this; omega
        obtain ⟨sa, sx, sy, ev6, s6⟩ : ∃ sa sx sy, v6 = .slice sa sx sy ∧ sx ≤ 281474976710656 := by
          rcases Deep.open_slice Tryz.underlying53 g6' with ⟨h6, _⟩ | ⟨a6, len6, cap6, m6, n6, D6, P6, h6, _, _, _, _, h6d, _⟩
          · simp at h6; exact ⟨none, 0, 0, h6, by omega⟩
          · simp at h6
            refine ⟨_, _, _, h6, ?_⟩
            have := hyw (((List.range len6).map D6).length + ((List.range (m6 - len6)).map fun j => D6 (len6 + j)).length |>.mul 8) (DataW.weights_mem_each (j := 6) rfl rfl _ (by
              rw [h6d]
              simp [DataW.weights, Tryz.underlying53, Tryz.bytesI]))
            simp at this; omega
        subst ev6
        obtain ⟨b, off, spot⟩ := a'
        have c0 := hcell 0 (by omega)
        have c1 := hcell 1 (by omega)
        have c2 := hcell 2 (by omega)
        have c3 := hcell 3 (by omega)
        have c4 := hcell 4 (by omega)
        have c5 := hcell 5 (by omega)
        have c6 := hcell 6 (by omega)
        have c7 := hcell 7 (by omega)
        have c8 := hcell 8 (by omega)
        have c9 := hcell 9 (by omega)
        have c10 := hcell 10 (by omega)
        rw [Deep.add_add] at c0 c1 c2 c3 c4 c5 c6 c7 c8 c9 c10
        have hspot : spot = none := by
          obtain ⟨cs0, z1, _⟩ := hx 0 (by omega)
          rw [Tryz.cellsStep] at z1
          obtain ⟨_, zl, zc⟩ := World.cells?_some z1
          obtain ⟨u0, u1, u2, u3, u4, u5, u6, u7, u8, u9, u10, rfl⟩ := eleven_of zl
          have z0 := zc 0 (by omega)
          rw [Deep.add_add] at z0
          simpa [Addr.add] using World.cell?_spot z0
        subst hspot
        have ea : ∀ j, ((⟨b, off, none⟩ : Addr).add j) = ⟨b, off + j, none⟩ := fun j => by
          unfold Addr.add; split
          · rename_i h0; subst h0; rfl
          · rfl
        rw [ea] at c0 c1 c2 c3 c4 c5 c6 c7 c8 c9 c10
        simp only [Nat.add_zero] at c0
        simp only [← Nat.add_assoc] at c1 c2 c3 c4 c5 c6 c7 c8 c9 c10
        exact ⟨⟨x0, X1, x2, x3, x4, x5, sa, sx, sy, x7, x8, x9, x10⟩, fun _ => ⟨⟨b, off, rfl, World.block_lt_of_cell? W _ c0, c0, c1, c2, c3, c4, c5, c6, c7, c8, c9, c10⟩, s4, s5, s6⟩⟩
      · exact ⟨⟨0, 0, 0, 0, ByteArray.empty, ByteArray.empty, none, 0, 0, 0, 0, 0, 0⟩, fun h => absurd h hi⟩
    obtain ⟨f, hf'⟩ := Classical.skolem.1 key
    refine ⟨(List.range len0).map f, by simpa using hlen, some a', cap0, by simp, fun i s hs => ?_⟩
    rw [List.getElem?_map] at hs
    have hi : i < len0 := by
      have := (Option.map_eq_some_iff.1 hs)
      obtain ⟨j, hj, _⟩ := this
      have := (List.getElem?_eq_some_iff.1 hj).1
      simpa using this
    rw [List.getElem?_range hi] at hs
    simp at hs
    subst hs
    exact hf' i hi
set_option maxRecDepth 100000 in
set_option maxHeartbeats 1000000 in
theorem logged_any (v : Value) (L : List AStep) (w : World) (h : StepsAt w v L) (hmet : Met w) (hpow : Pows w) (hB : 2 ≤ w.heap.size) :
    Calls Tryz.prog 3 #[v] w fun e w' => e = .returned (.bool true) ∧ Below w.heap.size w w' := by
  have HC : Hid (Calls Tryz.prog 7 #[v, .bool false] w fun e w' => e = .returned (.bool true) ∧ Below w.heap.size w w') := logs_any v L w h hmet hpow hB
  obtain ⟨_, ao, cap, rfl, _⟩ := h
  go_enter Tryz.func3, Tryz.ntmps3
  go_wp2_with fail
  refine HC.out.mono ?_
  rintro e w1 ⟨rfl, hb⟩
  go_wp2
  go_ret
  exact ⟨rfl, hb⟩
end Go.Proofs.YtnnhihkeffljbaaGreatDoor
