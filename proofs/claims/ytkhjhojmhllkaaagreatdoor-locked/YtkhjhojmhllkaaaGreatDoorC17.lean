import Derived.Test.YtkhjhojmhllkaaaGreatDoorC14
import Derived.Test.YtkhjhojmhllkaaaGreatDoorC16
/- (*Log).Cut. -/
namespace Go.Proofs.YtkhjhojmhllkaaaGreatDoor
open Go.RowKit
open Sc

theorem belowFrom_lt {segs : List Nat} {low : Nat} : ∀ {f k : Nat}, k < segs.length → belowFrom segs low f k < segs.length := by
  intro f
  induction f with
  | zero => intro k h; exact h
  | succ f ih =>
    intro k h
    by_cases hk : k + 1 < segs.length
    · obtain ⟨s, hs⟩ : ∃ s, segs[k + 1]? = some s := ⟨_, List.getElem?_eq_getElem hk⟩
      by_cases hl : s ≤ low
      · rw [below_step hs hl]; exact ih hk
      · rw [below_stop hs hl]; exact h
    · rw [below_none (by omega)]; exact h
theorem segsBelow_lt {segs : List Nat} {low : Nat} (h : segsBelow segs low ≠ 0) : segsBelow segs low < segs.length := by
  cases segs with
  | nil => exact absurd rfl h
  | cons a t => exact belowFrom_lt (by simp)
theorem LogIn.ltO {w : World} {B lp p bD bN n nD nN k : Nat} {pv sv rv : Value} {l : ALog} {d : ADisk} (h : LogIn w B lp p bD bN pv sv rv l d n nD nN) (hk : Own lp p w k) : k < w.heap.size := by
  rcases (h.own k).1 hk with e | e | e | e | e | e | e
  · rw [e]; exact (Array.getElem?_eq_some_iff.1 h.blk).1
  · rw [e]; exact (Array.getElem?_eq_some_iff.1 h.disk.blk).1
  · rw [e]; exact h.disk.dur.lt
  · rw [e]; exact h.disk.now.lt
  · exact (h.disk.pen.lt k e).2
  · exact (h.segs.lt k e).2
  · exact (h.recs.lt k e).2
theorem PutL.mores {B lp p bD bN n m : Nat} {X : List Nat} {r : ALog × ADisk × Nat} {w w' : World} {e : Ending} (h : PutL B lp p bD bN n X r w e w') (hm : n ≤ m) (hm2 : m ≤ 67108864) : PutL B lp p bD bN m X r w e w' := by
  obtain ⟨h1, ⟨pv, sv, rv, nD, nN, h2⟩, h3⟩ := h
  exact ⟨h1, ⟨pv, sv, rv, nD, nN, h2.mores hm hm2⟩, h3⟩
theorem cutS_segs (l : ALog) (d : ADisk) (gone first : Nat) : (l.cutS d gone first).1.segs = l.segs := by unfold ALog.cutS; split; split; all_goals exact sync_segs l d
theorem cutS_recs (l : ALog) (d : ADisk) (gone first : Nat) : (l.cutS d gone first).1.recs = l.recs := by unfold ALog.cutS; split; split; all_goals exact sync_recs l d
theorem setCell_far (w : World) (a i b j : Nat) (v : Value) (h : b ≠ a) : (w.setCell ⟨a, i, none⟩ v).cell? ⟨b, j, none⟩ = w.cell? ⟨b, j, none⟩ :=
  World.cell?_of_block (a := ⟨b, j, none⟩) (by
    by_cases hb : b < w.heap.size
    · exact (Fr.set1 (w := w) (p := a) (S := [a]) (by simp) i v).block b hb (by simpa using h)
    · rw [Array.getElem?_eq_none (by simpa using hb), Array.getElem?_eq_none (by simpa using hb)])
/-- what Cut leaves of the log, and says -/
def ALog.cut (l : ALog) (d : ADisk) (low : Nat) : ALog × ADisk × Nat :=
  if segsBelow l.segs low = 0 then l.wr d (l.sync d) else
    let gone := segsBelow l.segs low
    let first := l.segs.getD gone 0
    let r := l.wr d (l.cutS d gone first)
    if r.2.2 = 0 then ({ r.1 with recs := r.1.recs.drop (first - (r.1.recs.headD ⟨0, 0, []⟩).lsn), segs := r.1.segs.drop gone }, r.2.1, 0) else r
set_option maxRecDepth 100000 in
set_option maxHeartbeats 4000000 in
theorem cut_fine (g B lp p bD bN n nD nN low : Nat) (pv sv rv : Value) (l : ALog) (d : ADisk) (w : World) (h : LogIn w B lp p bD bN pv sv rv l d n nD nN) (hn : n + 2 + l.segs.length ≤ 67108864) (hB : 2 ≤ B) (hpow : Pows w)
    (hgs : g ≤ l.segs.length) (hgc : l.failed = 0 → segsBelow l.segs low ≠ 0 → l.cutG d (segsBelow l.segs low) (l.segs.getD (segsBelow l.segs low) 0) ≤ g) (hinv : l.failed = 0 → ∀ k s : Nat, l.segs[k]? = some s → ∃ r rs, l.recs = r :: rs ∧ r.lsn ≤ s ∧ s - r.lsn < l.recs.length) :
    Calls Tryz.prog 102 #[.pointer (some ⟨lp, 0, none⟩), .int .u64 (low : Int)] w (ErrPost B lp p bD bN (n + 2 + g) (l.cut d low) w) := by
  have hn2 : n + 2 + g ≤ 67108864 := by omega
  have HGC : Hid (l.failed = 0 → segsBelow l.segs low ≠ 0 → l.cutG d (segsBelow l.segs low) (l.segs.getD (segsBelow l.segs low) 0) ≤ g) := hgc
  clear hgc
  have HI : Hid (LogIn w B lp p bD bN pv sv rv l d n nD nN) := h
  clear h
  by_cases hq : segsBelow l.segs low = 0
  · have e : l.cut d low = l.wr d (l.sync d) := by unfold ALog.cut; rw [if_pos hq]
    rw [e]
    go_enter Tryz.func102, Tryz.ntmps102
    go_wp2_with fail
    have hf0 : Fr [] w (w.alloc (.cells #[.pointer (some ⟨lp, 0, none⟩)] 71)) := (Fr.refl [] w).alloc _
    refine (segsBelow_any B lp p bD bN n nD nN low pv sv rv l d _ (HI.out.new hf0)).mono ?_
    rintro e w1 ⟨rfl, q, hw1⟩
    rw [hq]
    have hf1 : Fr [] w w1 := by rw [hw1]; exact ⟨hf0.os, hf0.tape, hf0.output, hf0.size, hf0.block⟩
    have hbl : w1.heap[w.heap.size]? = some (.cells #[.pointer (some ⟨lp, 0, none⟩)] 71) := by rw [hw1]; exact heap_alloc_new w _
    have x1 := blk_cell hbl 0
    simp at x1
    have hl1 : w.heap.size < w1.heap.size := (Array.getElem?_eq_some_iff.1 hbl).1
    have HF1 : Hid (Fr [] w w1) := hf1
    clear hw1 hf0 hf1 hbl
    go_wp2_with fail
    have hf2 : Fr [] w ((w1.alloc (.cells #[.int .i64 0] 3)).alloc (.cells #[.func (.func 126) #[.pointer (some ⟨lp, 0, none⟩)] #[]] 160)) := (HF1.out.alloc _).alloc _
    refine (writeF B lp p bD bN n nD nN (w1.heap.size + 1) pv sv rv l d _ (HI.out.new hf2) (by omega) ((congrArg _ (by simp)).trans (heap_alloc_new _ _))).mono ?_
    rintro e w2 ⟨rfl, ⟨pv2, sv2, rv2, nD2, nN2, hl2⟩, ho2⟩
    have H2 : Hid (ErrPost B lp p bD bN (n + 2 + g) (l.wr d (l.sync d)) w (.returned (errN (l.wr d (l.sync d)).2.2)) w2) := ⟨rfl, ⟨pv2, sv2, rv2, nD2, nN2, hl2.mores (by omega) hn2⟩, (HI.out.newO hf2).trans ho2.ofr⟩
    clear hl2 ho2
    go_wp2
    go_ret
    exact H2.out
  · obtain ⟨gone, hgone⟩ : ∃ gone, segsBelow l.segs low = gone := ⟨_, rfl⟩
    have hgl : gone < l.segs.length := by rw [← hgone]; exact segsBelow_lt hq
    obtain ⟨first, hfirst⟩ : ∃ first, l.segs[gone]? = some first := ⟨_, List.getElem?_eq_getElem hgl⟩
    obtain ⟨gs, cs, hsv⟩ := own_pos HI.out.segs (by omega)
    subst hsv
    have hfx : first < 18446744073709551616 := HI.out.segsN.2 first (List.mem_of_getElem? hfirst)
    have s0 := segs_cell HI.out.segs gone first hfirst
    have c1 := blk_cell HI.out.blk 1
    simp at c1
    have HFI : Hid (l.segs[gone]? = some first) := hfirst
    have HGX : Hid (l.failed = 0 → n + 2 + l.cutG d gone first ≤ n + 2 + g) := fun hf => by
      have h1 := HGC.out hf hq
      have e : l.segs.getD gone 0 = first := by rw [List.getD_eq_getElem?_getD, hfirst]; rfl
      rw [hgone, e] at h1
      omega
    have hlp := (Array.getElem?_eq_some_iff.1 HI.out.blk).1
    have hgs := (HI.out.segs.lt gs rfl).2
    clear hfirst
    go_enter Tryz.func102, Tryz.ntmps102
    go_wp2_with fail
    have hf0 : Fr [] w (w.alloc (.cells #[.pointer (some ⟨lp, 0, none⟩)] 71)) := (Fr.refl [] w).alloc _
    refine (segsBelow_any B lp p bD bN n nD nN low pv _ rv l d _ (HI.out.new hf0)).mono ?_
    rintro e w1 ⟨rfl, q, hw1⟩
    rw [hgone]
    have hf1 : Fr [] w w1 := by rw [hw1]; exact ⟨hf0.os, hf0.tape, hf0.output, hf0.size, hf0.block⟩
    have hbl : w1.heap[w.heap.size]? = some (.cells #[.pointer (some ⟨lp, 0, none⟩)] 71) := by rw [hw1]; exact heap_alloc_new w _
    have x1 := blk_cell hbl 0
    simp at x1
    have hl1 : w.heap.size < w1.heap.size := (Array.getElem?_eq_some_iff.1 hbl).1
    have HF1 : Hid (Fr [] w w1) := hf1
    have HBL1 : Hid (w1.heap[w.heap.size]? = some (.cells #[.pointer (some ⟨lp, 0, none⟩)] 71)) := hbl
    have d1 : w1.cell? ⟨lp, 1, none⟩ = some (.slice (some ⟨gs, 0, none⟩) l.segs.length cs) := (World.cell?_of_block (a := ⟨lp, 1, none⟩) (hf1.block lp hlp (by simp))).trans c1
    have t1 : w1.cell? ⟨gs, gone, none⟩ = some (.int .u64 (first : Int)) := (World.cell?_of_block (a := ⟨gs, gone, none⟩) (hf1.block gs hgs (by simp))).trans s0
    have k0 : ¬ (gone : Int) = 0 := by omega
    have k1 : ((gone : Int) == 0) = false := by simpa using k0
    have k2 : (gone : Int) < (l.segs.length : Int) := by omega
    have k3 : (0 : Int) ≤ (gone : Int) := by omega
    clear hw1 hf0 hf1 hbl c1 s0
    have hlp1 : lp < w1.heap.size := by omega
    have hgs1 : gs < w1.heap.size := by omega
    go_wp2_with fail
    go_region
    go_wp2_with fail
    obtain ⟨W3, hW3⟩ : ∃ W3 : World, W3 = (((w1.alloc (.cells #[.int .i64 (gone : Int)] 3)).alloc (.cells #[.int .u64 (first : Int)] 33)).alloc (.cells #[.func (.func 126) #[.pointer (some ⟨lp, 0, none⟩)] #[], .func (.func 147) #[] #[.pointer (some ⟨w.heap.size, 0, none⟩), .pointer (some ⟨w1.heap.size + 1, 0, none⟩)], .func (.func 149) #[] #[.pointer (some ⟨w.heap.size, 0, none⟩), .pointer (some ⟨w1.heap.size, 0, none⟩)]] 160)).drew := ⟨_, rfl⟩
    rw [← hW3]
    have hf3 : Fr [] w W3 := by rw [hW3]; exact (((HF1.out.alloc _).alloc _).alloc _).drew
    have hfa : Fr [] w1 W3 := by rw [hW3]; exact ((((Fr.refl [] w1).alloc _).alloc _).alloc _).drew
    have hst3 : W3.heap[w1.heap.size + 1 + 1]? = some (.cells #[.func (.func 126) #[.pointer (some ⟨lp, 0, none⟩)] #[], .func (.func 147) #[] #[.pointer (some ⟨w.heap.size, 0, none⟩), .pointer (some ⟨w1.heap.size + 1, 0, none⟩)], .func (.func 149) #[] #[.pointer (some ⟨w.heap.size, 0, none⟩), .pointer (some ⟨w1.heap.size, 0, none⟩)]] 160) := by
      rw [hW3]; exact (congrArg _ (by simp)).trans (heap_alloc_new _ _)
    have hbg3 : W3.heap[w1.heap.size]? = some (.cells #[.int .i64 (gone : Int)] 3) := by
      rw [hW3]; exact (Below.heap_alloc _ _ _ (by simp; omega)).trans ((Below.heap_alloc _ _ _ (by simp)).trans (heap_alloc_new _ _))
    have hbf3 : W3.heap[w1.heap.size + 1]? = some (.cells #[.int .u64 (first : Int)] 33) := by
      rw [hW3]; exact (Below.heap_alloc _ _ _ (by simp)).trans ((congrArg _ (by simp)).trans (heap_alloc_new _ _))
    have hbl3 : W3.heap[w.heap.size]? = some (.cells #[.pointer (some ⟨lp, 0, none⟩)] 71) := (hfa.block _ hl1 (by simp)).trans HBL1.out
    have hl3 := HI.out.new hf3
    have hbo : ¬ Own lp p W3 (w1.heap.size + 1) := fun ho => by
      have := HI.out.ltO ((HI.out.own _).2 ((hl3.own _).1 ho)); omega
    have hpow3 : Pows W3 := hpow.of_block (hf3.block 1 (by have := HI.out.disk.base.2.2.2; omega) (by simp))
    obtain ⟨bl, hbl⟩ : ∃ bl, w.heap.size = bl := ⟨_, rfl⟩
    obtain ⟨bg, hbg⟩ : ∃ bg, w1.heap.size = bg := ⟨_, rfl⟩
    have hlb : lp < bl ∧ bl < bg := by omega
    have h3s : bg + 1 < W3.heap.size := by rw [← hbg]; exact (Array.getElem?_eq_some_iff.1 hbf3).1
    have HO3 : Hid (OFr lp p w W3) := HI.out.newO hf3
    rw [hbl] at hst3 hbl3 ⊢
    rw [hbg] at hst3 hbg3 hbf3 hbo ⊢
    have H3 : Hid (LogIn W3 B lp p bD bN pv (.slice (some ⟨gs, 0, none⟩) l.segs.length cs) rv l d n nD nN) := hl3
    have hwr := writeR B lp p bD bN n nD nN (n + 2 + g) [] pv _ rv (some ⟨bg + 1 + 1, 0, none⟩) 3 3 l d (l.cutS d gone first) W3 hl3 (by omega) hn2 (fun hf0 => (inTurnC B lp p bD bN n nD nN (bg + 1 + 1) bl (bg + 1) bg first gone pv _ rv l d W3 hl3 (by omega) hB hpow3 hfx (by omega) (by omega) hst3 hbl3 hbf3 hbo hbg3).mono (fun e w' h => h.mores (HGX.out hf0) hn2))
    have HBL3 : Hid (W3.heap[bl]? = some (.cells #[.pointer (some ⟨lp, 0, none⟩)] 71)) := hbl3
    have HBF3 : Hid (W3.heap[bg + 1]? = some (.cells #[.int .u64 (first : Int)] 33) ∧ ¬ Own lp p W3 (bg + 1)) := ⟨hbf3, hbo⟩
    have HBG3 : Hid (W3.heap[bg]? = some (.cells #[.int .i64 (gone : Int)] 3)) := hbg3
    clear hW3 hf3 hfa hst3 hbg3 hbf3 hbl3 hbo hl3 hbl hbg x1 HF1 d1 t1 HBL1 hl1 hlp1 hgs1 hgs hlp
    refine hwr.mono ?_
    rintro e w4 ⟨rfl, ⟨pv4, sv4, rv4, nD4, nN4, hl4⟩, ho4⟩
    clear hwr
    have H4 : Hid (LogIn w4 B lp p bD bN pv4 sv4 rv4 (l.wr d (l.cutS d gone first)).1 (l.wr d (l.cutS d gone first)).2.1 (n + 2 + g) nD4 nN4) := hl4
    have HO4 : Hid (OFr lp p W3 w4) := ho4.ofr
    clear hl4 ho4
    by_cases hc : (l.wr d (l.cutS d gone first)).2.2 = 0
    · have hfl : l.failed = 0 := by
        by_cases hfl : l.failed = 0
        · exact hfl
        · exfalso; unfold ALog.wr at hc; rw [if_neg hfl] at hc; exact hfl hc
      obtain ⟨r0, rs, hrs, hr1, hr2⟩ := hinv hfl gone first HFI.out
      obtain ⟨L, hL⟩ : ∃ L, L = (l.wr d (l.cutS d gone first)).1 := ⟨_, rfl⟩
      obtain ⟨D, hD⟩ : ∃ D, D = (l.wr d (l.cutS d gone first)).2.1 := ⟨_, rfl⟩
      have hLs : L.segs = l.segs := by rw [hL]; unfold ALog.wr; rw [if_pos hfl]; exact cutS_segs l d gone first
      have hLr : L.recs = l.recs := by rw [hL]; unfold ALog.wr; rw [if_pos hfl]; exact cutS_recs l d gone first
      have hcut : Hid (l.cut d low = ({ L with recs := L.recs.drop (first - r0.lsn), segs := L.segs.drop gone }, D, 0)) := by
        show l.cut d low = _
        unfold ALog.cut; rw [if_neg hq, hgone]; simp only; rw [show l.segs.getD gone 0 = first by rw [List.getD_eq_getElem?_getD, HFI.out]; rfl, if_pos hc, ← hL, ← hD, hLr, hrs]; rfl
      rw [← hL, ← hD] at H4
      have hl4 := H4.out
      obtain ⟨gr, cr, hrv⟩ := own_pos hl4.recs (by rw [hLr, hrs]; simp)
      obtain ⟨g5, c5, hsv⟩ := own_pos hl4.segs (by rw [hLs]; omega)
      subst hrv hsv
      obtain ⟨k, hk⟩ : ∃ k, k = first - r0.lsn := ⟨_, rfl⟩
      obtain ⟨m, hm⟩ : ∃ m, m = L.recs.length := ⟨_, rfl⟩
      have hkm : k < m := by rw [hk, hm, hLr]; exact hr2
      have fre : ∀ {q : Nat} {c : Array Value} {t : TypeId}, W3.heap[q]? = some (.cells c t (0, 0)) → t ≠ 97 → t ≠ 130 → t ≠ 187 → t ≠ 33 → t ≠ 103 → w4.heap[q]? = some (.cells c t (0, 0)) := fun {q c t} hq h1 h2 h3 h4 h5 =>
        (HO4.out.block q (Array.getElem?_eq_some_iff.1 hq).1 (H3.out.free hq h1 h2 h3 h4 h5)).trans hq
      have e0 := fre HBL3.out (by decide) (by decide) (by decide) (by decide) (by decide)
      have e2 := fre HBG3.out (by decide) (by decide) (by decide) (by decide) (by decide)
      have e1 := (HO4.out.block (bg + 1) h3s HBF3.out.2).trans HBF3.out.1
      have a0 : w4.cell? ⟨bl, 0, none⟩ = some (.pointer (some ⟨lp, 0, none⟩)) := (blk_cell e0 0).trans (by simp)
      have a1 : w4.cell? ⟨bg + 1, 0, none⟩ = some (.int .u64 (first : Int)) := (blk_cell e1 0).trans (by simp)
      have a2 : w4.cell? ⟨bg, 0, none⟩ = some (.int .i64 (gone : Int)) := (blk_cell e2 0).trans (by simp)
      have a3 : w4.cell? ⟨lp, 3, none⟩ = some (.slice (some ⟨gr, 0, none⟩) m cr) := by rw [hm]; exact (blk_cell hl4.blk 3).trans (by simp)
      have a4 : w4.cell? ⟨gr, 0, none⟩ = some (.int .u64 (r0.lsn : Int)) := by
        have := hl4.recs.cells (g := gr) rfl 0 (.int .u64 (r0.lsn : Int)) (by rw [hLr, hrs]; rfl)
        simpa [Addr.add_lit] using this
      have a5 : w4.frozen? ⟨lp, 3, none⟩ = false := blk_free hl4.blk 3
      have j1 : IntKind.u64.wrap ((first : Int) - (r0.lsn : Int)) = (k : Int) := by rw [IntKind.wrap_u64]; omega
      have j2 : (k : Int) ≤ (m : Int) := by omega
      have j3 : m ≤ cr := by
        rcases hl4.recs.2 with ⟨e, _⟩ | ⟨g', cap', cur, e, _, _, h3, h4, _⟩
        · cases e
        · cases e; rw [hm]; exact h3
      have j4 : (k : Int) ≤ (cr : Int) := by omega
      have j5 : 0 < m := by omega
      have j6 : ¬ cr = k := by omega
      have hmn : m ≤ n + 2 + g := by rw [hm]; exact hl4.recsN
      have hsz : lp < w4.heap.size ∧ bl < w4.heap.size ∧ bg + 1 < w4.heap.size ∧ gr < w4.heap.size := ⟨(Array.getElem?_eq_some_iff.1 hl4.blk).1, (Array.getElem?_eq_some_iff.1 e0).1, (Array.getElem?_eq_some_iff.1 e1).1, (hl4.recs.lt gr rfl).2⟩
      have HE : Hid (w4.heap[bl]? = some (.cells #[.pointer (some ⟨lp, 0, none⟩)] 71) ∧ w4.heap[bg]? = some (.cells #[.int .i64 (gone : Int)] 3)) := ⟨e0, e2⟩
      have HLR : Hid (L.recs = l.recs ∧ L.segs = l.segs ∧ k = first - r0.lsn ∧ m = L.recs.length ∧ l.recs = r0 :: rs ∧ r0.lsn ≤ first) := ⟨hLr, hLs, hk, hm, hrs, hr1⟩
      clear hL hD hLr hLs hk hrs hr1 hr2 hl4 hinv e0 e1 e2 fre
      have HCL := cloneR B gr m cr k L.recs w4.drew (by rw [hm]; exact H4.out.recs) hm.symm (by omega)
      have HCLH : Hid (Calls Tryz.prog 151 #[.slice (some ⟨gr, k * 3, none⟩) (m - k) (cr - k)] w4.drew fun e w' => ∃ v, e = .returned v ∧ w'.ownsRow w4.drew.heap.size 103 3 v (L.recs.drop k).length (recsV (L.recs.drop k)) ∧ Below w4.drew.heap.size w4.drew w') := HCL
      have hne : bl ≠ lp ∧ bg + 1 ≠ lp ∧ gr ≠ lp := ⟨by omega, by omega, fun e => own_ne H4.out.recs H4.out.blk (by decide) (by rw [e]; rfl)⟩
      have hkl : 0 < (L.recs.drop k).length := by simp; omega
      clear hm HCL
      rw [hc, errN_ok]
      clear hc
      go_wp2_with fail
      refine wp_region_held_drew (S := (fun w' => w'.cell? ⟨bl, 0, none⟩ = some (.pointer (some ⟨lp, 0, none⟩)) ∧ w'.cell? ⟨bg + 1, 0, none⟩ = some (.int .u64 (first : Int)) ∧ w'.cell? ⟨gr, 0, none⟩ = some (.int .u64 (r0.lsn : Int)))) (by kernel_rfl) ?_ (fun hHeld => ?_)
      · simp [*]
      refine tkH 0 ?_
      refine tkH 1 ?_
      refine tkH 2 ?_
      refine tkH 3 ?_
      refine tkH 5 ?_
      refine tkH 6 ?_
      refine tkH 7 ?_
      refine tkH 8 ?_
      (try simp only [Act.put, List.setIfInBounds_toArray, List.set_cons_zero, List.set_cons_succ])
      refine wpAnyH_ready (rs := [4, 9]) (by kernel_rfl) (by simp) ?_
      refine ryC (fun K hK => ?_) (ryC (fun K hK => ?_) AllReadyH.nil)
      focus
        go_simp
        refine hK.out _ _ ?_ (fun hHeld => ?_)
        · simp [*]
        clear hK K
        (try simp only [Act.put, List.setIfInBounds_toArray, List.set_cons_zero, List.set_cons_succ])
        refine wpAnyH_ready (rs := [9]) (by kernel_rfl) (by simp) ?_
        refine ryC (fun K hK => ?_) AllReadyH.nil
        go_simp
        refine hK.out _ _ ?_ (fun hHeld => ?_)
        · simp [*]
        clear hK K
        (try simp only [Act.put, List.setIfInBounds_toArray, List.set_cons_zero, List.set_cons_succ])
        refine tkH 10 ?_
        refine tkH 11 ?_
        refine tkH 12 ?_
        (try simp only [Act.put, List.setIfInBounds_toArray, List.set_cons_zero, List.set_cons_succ])
        refine wpAnyH_take (i := 13) (oi := { dst := some 48, op := Op.binOp BinOp.sub 33 (Operand.tmp 40) (Operand.tmp 47) 33, type := 33, pos := "log.go:68", after := #[{ on := 5, ground := Ground.data }, { on := 12, ground := Ground.data }], guard := none }) (v := .int .u64 (k : Int)) rfl (by kernel_rfl) (by kernel_rfl) (by kernel_rfl) (fun _ _ _ h => h) (Or.inl ⟨by rfl, ?_⟩) (by assumption) ?_
        · intro w hSw; (try dsimp only at hSw); go_simp
      rotate_left
      focus
        go_simp
        refine hK.out _ _ ?_ (fun hHeld => ?_)
        · simp [*]
        clear hK K
        (try simp only [Act.put, List.setIfInBounds_toArray, List.set_cons_zero, List.set_cons_succ])
        refine tkH 10 ?_
        refine tkH 11 ?_
        refine tkH 12 ?_
        refine tkH 13 ?_
        (try simp only [Act.put, List.setIfInBounds_toArray, List.set_cons_zero, List.set_cons_succ])
        refine wpAnyH_ready (rs := [4]) (by kernel_rfl) (by simp) ?_
        refine ryC (fun K hK => ?_) AllReadyH.nil
        go_simp
        refine hK.out _ _ ?_ (fun hHeld => ?_)
        · simp [*]
        clear hK K
      all_goals
        (try simp only [Act.put, List.setIfInBounds_toArray, List.set_cons_zero, List.set_cons_succ])
        refine tkH 14 ?_
        (try simp only [Act.put, List.setIfInBounds_toArray, List.set_cons_zero, List.set_cons_succ])
        refine wpAnyH_ready (rs := [15]) (by kernel_rfl) (by simp) ?_
        refine AllReadyH.cons rfl (fun K hK => ?_) AllReadyH.nil
        go_simp
        refine HCLH.out.mono ?_; rintro e w5 ⟨v5, rfl, ho5, hb5⟩; obtain ⟨g6, c6, hv5⟩ := own_pos ho5 hkl; subst hv5; have hb : Below w4.heap.size w4 w5 := ⟨hb5.os, hb5.tape, hb5.output, hb5.size, hb5.block⟩; have x1 := (hb.cell (p := ⟨bl, 0, none⟩) hsz.2.1).trans a0; have x2 := (hb.cell (p := ⟨bg + 1, 0, none⟩) hsz.2.2.1).trans a1; have x3 := (hb.cell (p := ⟨lp, 3, none⟩) hsz.1).trans a3; have x4 := (hb.cell (p := ⟨gr, 0, none⟩) hsz.2.2.2).trans a4; have x5 : w5.frozen? ⟨lp, 3, none⟩ = false := (World.frozen?_of_block (a := ⟨lp, 3, none⟩) (hb.block lp hsz.1)).trans a5; have y1 := fun v => (setCell_far w5 lp 3 bl 0 v hne.1).trans x1; have y2 := fun v => (setCell_far w5 lp 3 (bg + 1) 0 v hne.2.1).trans x2; have y4 := fun v => (setCell_far w5 lp 3 gr 0 v hne.2.2).trans x4; have H5 : Hid (w5.ownsRow w4.heap.size 103 3 (.slice (some ⟨g6, 0, none⟩) (L.recs.drop k).length c6) (L.recs.drop k).length (recsV (L.recs.drop k)) ∧ Below w4.heap.size w4 w5) := ⟨ho5, hb⟩; clear ho5 hb5 hb
        go_wp2_with fail
        refine hK.out _ _ ?_ (fun hHeld => ?_)
        · simp [*]
        clear hK K
        (try simp only [Act.put, List.setIfInBounds_toArray, List.set_cons_zero, List.set_cons_succ])
        refine tkH 16 ?_
        refine tkH 17 ?_
        (try simp only [Act.put, List.setIfInBounds_toArray, List.set_cons_zero, List.set_cons_succ])
        refine wpAnyH_ready (rs := [18]) (by kernel_rfl) (by simp) ?_
        refine AllReadyH.cons rfl (fun K hK => ?_) AllReadyH.nil
        go_simp
        refine hK.out _ _ ?_ (fun hHeld => ?_)
        · simp [*]
        clear hK K
        (try simp only [Act.put, List.setIfInBounds_toArray, List.set_cons_zero, List.set_cons_succ])
        refine wpAnyH_done (by kernel_rfl) ?_ _
        go_wp2_with fail
        obtain ⟨W6, hW6⟩ : ∃ W6 : World, W6 = w5.setCell ⟨lp, 3, none⟩ (.slice (some ⟨g6, 0, none⟩) (L.recs.length - k) c6) := ⟨_, rfl⟩
        rw [← hW6]
        clear hHeld
        have q6 := H4.out.recsNew H5.out.2 H5.out.1 (by simp; have := H4.out.recsN; omega)
        rw [List.length_drop, ← hW6] at q6
        have b1 := (q6.2.2.block bl hsz.2.1 (by simpa using hne.1)).trans HE.out.1
        have b2 := (q6.2.2.block bg (by omega) (by simp; omega)).trans HE.out.2
        have z1 : W6.cell? ⟨bl, 0, none⟩ = some (.pointer (some ⟨lp, 0, none⟩)) := (blk_cell b1 0).trans (by simp)
        have z2 : W6.cell? ⟨bg, 0, none⟩ = some (.int .i64 (gone : Int)) := (blk_cell b2 0).trans (by simp)
        obtain ⟨ns, hns⟩ : ∃ ns, ns = L.segs.length := ⟨_, rfl⟩
        have z3 : W6.cell? ⟨lp, 1, none⟩ = some (.slice (some ⟨g5, 0, none⟩) ns c5) := by rw [hns]; exact (blk_cell q6.1.blk 1).trans (by simp)
        have z5 : W6.frozen? ⟨lp, 1, none⟩ = false := blk_free q6.1.blk 1
        have hgn : gone < ns := by rw [hns, HLR.out.2.1]; exact hgl
        have hc5 : ns ≤ c5 := by
          rcases q6.1.segs.2 with ⟨e, _⟩ | ⟨g', cap', cur, e, _, _, h3, h4, _⟩
          · cases e
          · cases e; rw [hns]; exact h3
        have l1 : (gone : Int) ≤ (ns : Int) := by omega
        have l2 : (gone : Int) ≤ (c5 : Int) := by omega
        have l3 : ¬ c5 = gone := by omega
        have HC2 : Hid (Calls Tryz.prog 152 #[.slice (some ⟨g5, gone, none⟩) (ns - gone) (c5 - gone)] W6.drew fun e w' => ∃ v, e = .returned v ∧ w'.ownsRow W6.drew.heap.size 33 1 v (L.segs.drop gone).length (u64s (L.segs.drop gone)) ∧ Below W6.drew.heap.size W6.drew w') := cloneU B g5 ns c5 gone L.segs W6.drew (by rw [hns]; exact q6.1.segs) hns.symm (by have h7 : L.segs.length ≤ n + 2 + g := H4.out.segsN.1; omega)
        have hs6 : lp < W6.heap.size ∧ bl < W6.heap.size ∧ bg < W6.heap.size := ⟨(Array.getElem?_eq_some_iff.1 q6.1.blk).1, (Array.getElem?_eq_some_iff.1 b1).1, (Array.getElem?_eq_some_iff.1 b2).1⟩
        have hsl6 : 0 < (L.segs.drop gone).length := by simp; omega
        have Q6 : Hid (LogIn W6 B lp p bD bN pv4 (.slice (some ⟨g5, 0, none⟩) L.segs.length c5) (.slice (some ⟨g6, 0, none⟩) (L.recs.length - k) c6) { L with recs := L.recs.drop k } D (n + 2 + g) nD4 nN4 ∧ OFr lp p w4 W6) := ⟨q6.1, q6.2.1⟩
        clear q6 b1 b2 hns hW6
        refine wp_region_held_drew (S := (fun w' => w'.cell? ⟨bl, 0, none⟩ = some (.pointer (some ⟨lp, 0, none⟩)) ∧ w'.cell? ⟨bg, 0, none⟩ = some (.int .i64 (gone : Int)))) (by kernel_rfl) ?_ (fun hHeld => ?_)
        · simp [*]
        refine tkH 0 ?_
        refine tkH 1 ?_
        refine tkH 2 ?_
        refine tkH 3 ?_
        refine tkH 5 ?_
        (try simp only [Act.put, List.setIfInBounds_toArray, List.set_cons_zero, List.set_cons_succ])
        refine wpAnyH_ready (rs := [4]) (by kernel_rfl) (by simp) ?_
        refine ryC (fun K hK => ?_) AllReadyH.nil
        go_simp
        refine hK.out _ _ ?_ (fun hHeld => ?_)
        · simp [*]
        clear hK K
        (try simp only [Act.put, List.setIfInBounds_toArray, List.set_cons_zero, List.set_cons_succ])
        refine tkH 6 ?_
        (try simp only [Act.put, List.setIfInBounds_toArray, List.set_cons_zero, List.set_cons_succ])
        refine wpAnyH_ready (rs := [7]) (by kernel_rfl) (by simp) ?_
        refine AllReadyH.cons rfl (fun K hK => ?_) AllReadyH.nil
        go_simp
        refine HC2.out.mono ?_
        rintro e w7 ⟨v7, rfl, ho7, hb7⟩
        obtain ⟨g8, c8, hv7⟩ := own_pos ho7 hsl6
        subst hv7
        have hb : Below W6.heap.size W6 w7 := ⟨hb7.os, hb7.tape, hb7.output, hb7.size, hb7.block⟩
        have x1 := (hb.cell (p := ⟨bl, 0, none⟩) hs6.2.1).trans z1
        have x2 := (hb.cell (p := ⟨bg, 0, none⟩) hs6.2.2).trans z2
        have x3 := (hb.cell (p := ⟨lp, 1, none⟩) hs6.1).trans z3
        have x5 : w7.frozen? ⟨lp, 1, none⟩ = false := (World.frozen?_of_block (a := ⟨lp, 1, none⟩) (hb.block lp hs6.1)).trans z5
        have y1 := fun v => (setCell_far w7 lp 1 bl 0 v hne.1).trans x1
        have y2 := fun v => (setCell_far w7 lp 1 bg 0 v (by omega)).trans x2
        have H7 : Hid (w7.ownsRow W6.heap.size 33 1 (.slice (some ⟨g8, 0, none⟩) (L.segs.drop gone).length c8) (L.segs.drop gone).length (u64s (L.segs.drop gone)) ∧ Below W6.heap.size W6 w7) := ⟨ho7, hb⟩
        clear ho7 hb7 hb
        go_wp2_with fail
        refine hK.out _ _ ?_ (fun hHeld => ?_)
        · simp [*]
        clear hK K
        (try simp only [Act.put, List.setIfInBounds_toArray, List.set_cons_zero, List.set_cons_succ])
        refine tkH 8 ?_
        refine tkH 9 ?_
        (try simp only [Act.put, List.setIfInBounds_toArray, List.set_cons_zero, List.set_cons_succ])
        refine wpAnyH_ready (rs := [10]) (by kernel_rfl) (by simp) ?_
        refine AllReadyH.cons rfl (fun K hK => ?_) AllReadyH.nil
        go_simp
        refine hK.out _ _ ?_ (fun hHeld => ?_)
        · simp [*]
        clear hK K
        (try simp only [Act.put, List.setIfInBounds_toArray, List.set_cons_zero, List.set_cons_succ])
        refine wpAnyH_done (by kernel_rfl) ?_ _
        have q8 := Q6.out.1.segsNew H7.out.2 H7.out.1 ⟨by have h7 : L.segs.length ≤ n + 2 + g := H4.out.segsN.1; simp; omega, fun s hs => H4.out.segsN.2 s (List.mem_of_mem_drop hs)⟩
        rw [List.length_drop] at q8
        have H8 : Hid (ErrPost B lp p bD bN (n + 2 + g) (l.cut d low) w (.returned .nilIface) (w7.setCell ⟨lp, 1, none⟩ (.slice (some ⟨g8, 0, none⟩) (L.segs.length - gone) c8))) := by
          show ErrPost _ _ _ _ _ _ _ _ _ _
          rw [hcut.out, ← HLR.out.2.2.1]
          exact ⟨rfl, ⟨pv4, _, _, nD4, nN4, q8.1⟩, HO3.out.trans (HO4.out.trans (Q6.out.2.trans q8.2.1))⟩
        clear q8
        go_wp2
        go_ret
        exact H8.out
    · have e : l.cut d low = l.wr d (l.cutS d gone first) := by unfold ALog.cut; rw [if_neg hq, hgone]; simp only; rw [show l.segs.getD gone 0 = first by rw [List.getD_eq_getElem?_getD, HFI.out]; rfl, if_neg hc]
      have H5 : Hid (ErrPost B lp p bD bN (n + 2 + g) (l.cut d low) w (.returned (errN (l.wr d (l.cutS d gone first)).2.2)) w4) := by
        show ErrPost _ _ _ _ _ _ _ _ _ _
        rw [e]
        exact ⟨rfl, ⟨pv4, sv4, rv4, nD4, nN4, H4.out⟩, HO3.out.trans HO4.out⟩
      rw [errN_no hc] at H5 ⊢
      go_wp2
      go_ret
      exact H5.out
theorem cut_any (B lp p bD bN n nD nN low : Nat) (pv sv rv : Value) (l : ALog) (d : ADisk) (w : World) (h : LogIn w B lp p bD bN pv sv rv l d n nD nN) (hn : n + 2 + l.segs.length ≤ 67108864) (hB : 2 ≤ B) (hpow : Pows w)
    (hinv : l.failed = 0 → ∀ k s : Nat, l.segs[k]? = some s → ∃ r rs, l.recs = r :: rs ∧ r.lsn ≤ s ∧ s - r.lsn < l.recs.length) :
    Calls Tryz.prog 102 #[.pointer (some ⟨lp, 0, none⟩), .int .u64 (low : Int)] w (ErrPost B lp p bD bN (n + 2 + l.segs.length) (l.cut d low) w) :=
  cut_fine l.segs.length B lp p bD bN n nD nN low pv sv rv l d w h hn hB hpow (Nat.le_refl _) (fun _ hq => Nat.le_trans (cutG_le _ _ _ _) (Nat.le_of_lt (segsBelow_lt hq))) hinv
end Go.Proofs.YtkhjhojmhllkaaaGreatDoor
