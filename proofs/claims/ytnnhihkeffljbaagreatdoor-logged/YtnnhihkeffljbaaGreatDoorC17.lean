import Derived.Test.YtnnhihkeffljbaaGreatDoorC16
import Derived.Test.YtnnhihkeffljbaaGreatDoorProg
import Derived.Deep.RegionHeld3
import Derived.Test.YtnnhihkeffljbaaGreatDoorC09
import Derived.Test.YtnnhihkeffljbaaGreatDoorC13
/- The steps of Cut, one behind the other. -/
namespace Go.Proofs.YtnnhihkeffljbaaGreatDoor
open Go.RowKit
open Sc

def ALog.cutS (l : ALog) (d : ADisk) (gone first : Nat) : ALog × ADisk × Nat :=
  if (l.sync d).2.2 = 0 then
    if ((l.sync d).2.1.setMark first).2 = 0 then
      ((l.sync d).1, ((l.sync d).2.1.setMark first).1.removeAll ((l.segs.take gone).map segName))
    else ((l.sync d).1, (l.sync d).2.1.setMark first)
  else l.sync d
/-- how many files it tells the disk to remove -/
def ALog.cutG (l : ALog) (d : ADisk) (gone first : Nat) : Nat := if (l.sync d).2.2 = 0 then (if ((l.sync d).2.1.setMark first).2 = 0 then gone else 0) else 0
theorem cutG_le (l : ALog) (d : ADisk) (gone first : Nat) : l.cutG d gone first ≤ gone := by
  unfold ALog.cutG
  split
  · split <;> omega
  · omega
theorem LogIn.mores {w : World} {B lp p bD bN n nD nN : Nat} {pv sv rv : Value} {l : ALog} {d : ADisk} (h : LogIn w B lp p bD bN pv sv rv l d n nD nN) {m : Nat} (hm : n ≤ m) (hm2 : m ≤ 67108864) : LogIn w B lp p bD bN pv sv rv l d m nD nN where
  disk := h.disk.mores hm hm2
  blk := h.blk
  base := h.base
  segs := h.segs
  recs := h.recs
  segsN := ⟨Nat.le_trans h.segsN.1 hm, h.segsN.2⟩
  recsN := Nat.le_trans h.recsN hm
  fillN := h.fillN
  nextN := by have := h.nextN; omega
  durN := h.durN
theorem sync_segs (l : ALog) (d : ADisk) : (l.sync d).1.segs = l.segs := by unfold ALog.sync; split <;> rfl
theorem sync_recs (l : ALog) (d : ADisk) : (l.sync d).1.recs = l.recs := by unfold ALog.sync; split <;> rfl
set_option maxRecDepth 100000 in
set_option maxHeartbeats 4000000 in
theorem inTurnC (B lp p bD bN n nD nN gst bl bf bg first gone : Nat) (pv sv rv : Value) (l : ALog) (d : ADisk) (w : World) (h : LogIn w B lp p bD bN pv sv rv l d n nD nN) (hn : n + 2 + gone ≤ 67108864) (hB : 2 ≤ B) (hpow : Pows w) (hx : first < 18446744073709551616) (hg : gone ≤ l.segs.length) (hg0 : 0 < gone)
    (hst : w.heap[gst]? = some (.cells #[.func (.func 94) #[.pointer (some ⟨lp, 0, none⟩)] #[], .func (.func 115) #[] #[.pointer (some ⟨bl, 0, none⟩), .pointer (some ⟨bf, 0, none⟩)], .func (.func 117) #[] #[.pointer (some ⟨bl, 0, none⟩), .pointer (some ⟨bg, 0, none⟩)]] 137))
    (hbl : w.heap[bl]? = some (.cells #[.pointer (some ⟨lp, 0, none⟩)] 60)) (hbf : w.heap[bf]? = some (.cells #[.int .u64 (first : Int)] 33)) (hbo : ¬ Own lp p w bf) (hbg : w.heap[bg]? = some (.cells #[.int .i64 (gone : Int)] 3)) :
    Calls Tryz.prog 93 #[.slice (some ⟨gst, 0, none⟩) 3 3] w (PutL B lp p bD bN (n + 2 + l.cutG d gone first) [] (l.cutS d gone first) w) := by
  have HGL : Hid (n + 2 + l.cutG d gone first ≤ 67108864) := by have := cutG_le l d gone first; show n + 2 + l.cutG d gone first ≤ 67108864; omega
  have z0 := blk_cell hst 0
  simp at z0
  have HI : Hid (LogIn w B lp p bD bN pv sv rv l d n nD nN) := h
  have hb6 : 1 < w.heap.size := by have := h.disk.base.2.2.2; omega
  go_enter Tryz.func93, Tryz.ntmps93
  go_wp2
  refine wp_loop_rounds 4 ?_
  rw [rounds_succ]
  go_wp2_with fail
  refine (lsync_any B lp p bD bN n nD nN pv sv rv l d w HI.out (by omega)).mono ?_
  rintro e w1 ⟨rfl, ⟨pv1, sv1, rv1, nD1, nN1, hl1⟩, ho1⟩
  have fre : ∀ {q : Nat} {c : Array Value} {t : TypeId}, w.heap[q]? = some (.cells c t (0, 0)) → t ≠ 86 → t ≠ 107 → t ≠ 158 → t ≠ 33 → t ≠ 92 → w1.heap[q]? = some (.cells c t (0, 0)) := fun {q c t} hq h1 h2 h3 h4 h5 =>
    (ho1.block q (Array.getElem?_eq_some_iff.1 hq).1 (HI.out.free hq h1 h2 h3 h4 h5)).trans hq
  have hst1 := fre hst (by decide) (by decide) (by decide) (by decide) (by decide)
  have hbl1 := fre hbl (by decide) (by decide) (by decide) (by decide) (by decide)
  have hbg1 := fre hbg (by decide) (by decide) (by decide) (by decide) (by decide)
  have hbf1 := (ho1.block bf (Array.getElem?_eq_some_iff.1 hbf).1 hbo).trans hbf
  have hpow1 : Pows w1 := hpow.of_block (ho1.block 1 hb6 (fun ho => by have := HI.out.ge ho; omega))
  have z1 := blk_cell hst1 1
  simp at z1
  have hb61 : 1 < w1.heap.size := by have := ho1.size; omega
  have H1 : Hid (LogIn w1 B lp p bD bN pv1 sv1 rv1 (l.sync d).1 (l.sync d).2.1 n nD1 nN1) := hl1
  have HO : Hid (OFr lp p w w1) := ho1
  have HST : Hid (w1.heap[gst]? = _) := hst1
  have HBL : Hid (w1.heap[bl]? = _) := hbl1
  have HBF : Hid (w1.heap[bf]? = _) := hbf1
  have HBG : Hid (w1.heap[bg]? = _) := hbg1
  clear h hl1 ho1 hst1 hbl1 hbf1 hbg1 hst hbl hbf hbg fre z0 hbo
  by_cases hc : (l.sync d).2.2 = 0
  · rw [hc, errN_ok]
    go_wp2
    rw [rounds_succ]
    go_wp2_with fail
    refine (cut1_any B lp p bD bN n nD1 nN1 bl bf first pv1 sv1 rv1 (l.sync d).1 (l.sync d).2.1 w1 H1.out (by omega) hx HBL.out HBF.out).mono ?_
    rintro e w2 ⟨rfl, ⟨pv2, nD2, nN2, hl2⟩, ho2⟩
    have fre : ∀ {q : Nat} {c : Array Value} {t : TypeId}, w1.heap[q]? = some (.cells c t (0, 0)) → t ≠ 86 → t ≠ 107 → t ≠ 158 → t ≠ 33 → t ≠ 92 → w2.heap[q]? = some (.cells c t (0, 0)) := fun {q c t} hq h1 h2 h3 h4 h5 =>
      (ho2.block q (Array.getElem?_eq_some_iff.1 hq).1 (H1.out.free hq h1 h2 h3 h4 h5)).trans hq
    have hst2 := fre HST.out (by decide) (by decide) (by decide) (by decide) (by decide)
    have hbl2 := fre HBL.out (by decide) (by decide) (by decide) (by decide) (by decide)
    have hbg2 := fre HBG.out (by decide) (by decide) (by decide) (by decide) (by decide)
    have hpow2 : Pows w2 := hpow1.of_block (ho2.block 1 hb61 (fun ho => by have := H1.out.ge ho; omega))
    have z2 := blk_cell hst2 2
    simp at z2
    have H2 : Hid (LogIn w2 B lp p bD bN pv2 sv1 rv1 (l.sync d).1 ((l.sync d).2.1.setMark first).1 (n + 2) nD2 nN2) := hl2
    have HO2 : Hid (OFr lp p w w2) := HO.out.trans ho2
    have HBL2 : Hid (w2.heap[bl]? = _) := hbl2
    have HBG2 : Hid (w2.heap[bg]? = _) := hbg2
    clear hl2 ho2 hst2 hbl2 hbg2 fre z1 hpow1
    by_cases hc2 : ((l.sync d).2.1.setMark first).2 = 0
    · obtain ⟨nm, hnm⟩ : ∃ nm, nm = (l.segs.take gone).map segName := ⟨_, rfl⟩
      have e : l.cutS d gone first = ((l.sync d).1, ((l.sync d).2.1.setMark first).1.removeAll nm) := by unfold ALog.cutS; rw [if_pos hc, if_pos hc2, hnm]
      have HE : Hid (l.cutS d gone first = ((l.sync d).1, ((l.sync d).2.1.setMark first).1.removeAll nm)) := e
      have HNM : Hid (nm = (l.segs.take gone).map segName) := hnm
      clear e hnm
      obtain ⟨gs, cs, hsv⟩ := own_pos H2.out.segs (by rw [sync_segs]; omega)
      subst hsv
      rw [hc2, errN_ok]
      go_wp2
      rw [rounds_succ]
      go_wp2_with fail
      refine (cut2_any B lp p bD bN (n + 2) nD2 nN2 bl bg gone gs cs pv2 rv1 (l.sync d).1 ((l.sync d).2.1.setMark first).1 w2 H2.out (by rw [sync_segs]; exact hg) hg0 hn hB hpow2 HBL2.out HBG2.out).mono ?_
      rintro e w3 ⟨rfl, ⟨pv3, nD3, nN3, hl3⟩, ho3⟩
      rw [sync_segs] at hl3 ⊢
      rw [← HNM.out] at hl3 ⊢
      have H3 : Hid (PutL B lp p bD bN (n + 2 + l.cutG d gone first) [] (l.cutS d gone first) w (.returned (errN (((l.sync d).2.1.setMark first).1.removeAll nm).2)) w3) := by
        show PutL _ _ _ _ _ _ _ _ _ _ _
        have eg : l.cutG d gone first = gone := by unfold ALog.cutG; rw [if_pos hc, if_pos hc2]
        rw [HE.out, eg]
        exact ⟨rfl, ⟨pv3, _, rv1, nD3, nN3, hl3⟩, (HO2.out.trans ho3).x⟩
      clear hl3 ho3
      by_cases hc3 : (((l.sync d).2.1.setMark first).1.removeAll nm).2 = 0
      · rw [hc3, errN_ok] at H3 ⊢
        go_wp2
        rw [rounds_succ]
        go_wp2
        go_ret
        exact H3.out
      · rw [errN_no hc3] at H3 ⊢
        go_wp2
        go_ret
        exact H3.out
    · have H3 : Hid (PutL B lp p bD bN (n + 2 + l.cutG d gone first) [] (l.cutS d gone first) w (.returned (errN ((l.sync d).2.1.setMark first).2)) w2) := by
        show PutL _ _ _ _ _ _ _ _ _ _ _
        have e : l.cutS d gone first = ((l.sync d).1, (l.sync d).2.1.setMark first) := by unfold ALog.cutS; rw [if_pos hc, if_neg hc2]
        rw [e]
        exact ⟨rfl, ⟨pv2, sv1, rv1, nD2, nN2, H2.out.mores (by omega) HGL.out⟩, HO2.out.x⟩
      rw [errN_no hc2] at H3 ⊢
      go_wp2
      go_ret
      exact H3.out
  · have H3 : Hid (PutL B lp p bD bN (n + 2 + l.cutG d gone first) [] (l.cutS d gone first) w (.returned (errN (l.sync d).2.2)) w1) := by
      show PutL _ _ _ _ _ _ _ _ _ _ _
      have e : l.cutS d gone first = l.sync d := by unfold ALog.cutS; rw [if_neg hc]
      rw [e]
      exact ⟨rfl, ⟨pv1, sv1, rv1, nD1, nN1, H1.out.mores (by omega) HGL.out⟩, HO.out.x⟩
    rw [errN_no hc] at H3 ⊢
    go_wp2
    go_ret
    exact H3.out
end Go.Proofs.YtnnhihkeffljbaaGreatDoor
/- (*Log).write over any steps. -/
namespace Go.Proofs.YtnnhihkeffljbaaGreatDoor
open Go.RowKit
open Sc

set_option maxRecDepth 100000 in
set_option maxHeartbeats 4000000 in
theorem writeR (B lp p bD bN n nD nN n' : Nat) (X : List Nat) (pv sv rv : Value) (a : Option Addr) (k c : Nat) (l : ALog) (d : ADisk) (r : ALog × ADisk × Nat) (w : World) (h : LogIn w B lp p bD bN pv sv rv l d n nD nN) (hn : n ≤ n') (hn' : n' ≤ 67108864)
    (hT : l.failed = 0 → Calls Tryz.prog 93 #[.slice a k c] w (PutL B lp p bD bN n' X r w)) :
    Calls Tryz.prog 110 #[.pointer (some ⟨lp, 0, none⟩), .slice a k c] w (PutL B lp p bD bN n' X (l.wr d r) w) := by
  have c0 := blk_cell h.blk 0
  have c6 := blk_cell h.blk 6
  simp at c0 c6
  have HI : Hid (LogIn w B lp p bD bN pv sv rv l d n nD nN) := h
  have hnil := Tryz.eqNil p
  by_cases hf : l.failed = 0
  · rw [hf, errN_ok] at c6
    have e : l.wr d r = ({ r.1 with failed := r.2.2 }, r.2.1, r.2.2) := by unfold ALog.wr; rw [if_pos hf]
    rw [e]
    clear e
    replace hT := hT hf
    go_enter Tryz.func110, Tryz.ntmps110
    go_wp2_with fail
    refine hT.mono ?_
    rintro e w1 ⟨rfl, ⟨pv1, sv1, rv1, nD1, nN1, hl1⟩, ho1⟩
    have H1 : Hid (LogIn w1 B lp p bD bN pv1 sv1 rv1 r.1 r.2.1 n' nD1 nN1) := hl1
    have HO : Hid (OFx X lp p w w1) := ho1
    have k6 := blk_cell hl1.blk 6
    have f6 := blk_free hl1.blk 6
    simp at k6
    clear hl1 ho1 h
    by_cases hc : r.2.2 = 0
    · rw [hc, errN_ok]
      go_wp2
      go_ret
      obtain ⟨hl2, hf2⟩ := H1.out.fail (c := 0) rfl
      unfold PutL
      simp only
      rw [hc]
      exact ⟨rfl, ⟨pv1, sv1, rv1, nD1, nN1, hl2⟩, HO.out.trans (H1.out.ofx hl2 hf2 (by intro k hk _; simp at hk; simp [hk]) (Near.refl _ _) (Near.refl _ _) (Near.refl _ _))⟩
    · have he := errN_no hc
      obtain ⟨hl2, hf2⟩ := H1.out.fail (c := r.2.2) rfl
      rw [he] at hl2 hf2 ⊢
      have H2 : Hid (LogIn (w1.setCell ⟨lp, 6, none⟩ (.iface 31 (.int .i64 (r.2.2 : Int)))) B lp p bD bN pv1 sv1 rv1 { r.1 with failed := r.2.2 } r.2.1 n' nD1 nN1) := hl2
      clear hl2
      go_wp2
      go_ret
      exact ⟨by simp only; rw [he]; rfl, ⟨pv1, sv1, rv1, nD1, nN1, H2.out⟩, HO.out.trans (H1.out.ofx H2.out hf2 (by intro k hk _; simp at hk; simp [hk]) (Near.refl _ _) (Near.refl _ _) (Near.refl _ _))⟩
  · rw [errN_no hf] at c6
    have e : l.wr d r = (l, d, l.failed) := by unfold ALog.wr; rw [if_neg hf]
    rw [e]
    go_enter Tryz.func110, Tryz.ntmps110
    go_wp2
    go_ret
    exact ⟨by simp only; rw [errN_no hf]; rfl, ⟨pv, sv, rv, nD, nN, HI.out.mores hn hn'⟩, (OFr.refl _ _ _).x⟩
end Go.Proofs.YtnnhihkeffljbaaGreatDoor
/- The next of a region: its place alone is said, what it yields is found. -/
namespace Go.Proofs.YtnnhihkeffljbaaGreatDoor
open Go

theorem tkH (i : Nat) {P : Program} {ops : Array Oper} {Q : Exit → Act → World → Prop} {md : Region.Mode} {S : World → Prop} {oi : Oper} {v : Value} {fuel : Nat} {listed : Array Bool} {a : Act} {w : World} (h : wpAnyH P md ops Q S fuel (listed.setIfInBounds i true) (a.put oi.dst v) w) (hi : ops[i]? = some oi := by (try simp only [List.getElem?_toArray, List.getElem?_cons_succ, List.getElem?_cons_zero]); rfl)
    (hy : ∀ w, S w → (execOp a.eval oi).run P w = .ok (.value v) w := by intro w hSw; (try dsimp only at hSw); (try simp only [Act.put, List.setIfInBounds_toArray, List.set_cons_zero, List.set_cons_succ]); go_simp; (try with_reducible rfl))
    (hs : Region.noSelect ops = true := by kernel_rfl) (hf : Region.free md ops listed i = true := by kernel_rfl) (hr : (Region.ready md ops listed).contains i = true := by kernel_rfl) (hg : Region.wanted oi (yielded ops a.tmps) = true := by (try simp only [Act.put, List.setIfInBounds_toArray, List.set_cons_zero, List.set_cons_succ]); rfl) (hQ : ∀ c a w, Q (.panic c) (a.put oi.dst v) w → Q (.panic c) a w := by exact fun _ _ _ h => h) (hS : S w := by assumption) : wpAnyH P md ops Q S (fuel + 1) listed a w :=
  wpAnyH_take hi hs hf hr hQ (Or.inl ⟨hg, hy⟩) hS h
/-- the same, and what it yields is said -/
theorem tkV (i : Nat) (v : Value) {P : Program} {ops : Array Oper} {Q : Exit → Act → World → Prop} {md : Region.Mode} {S : World → Prop} {oi : Oper} {fuel : Nat} {listed : Array Bool} {a : Act} {w : World} (h : wpAnyH P md ops Q S fuel (listed.setIfInBounds i true) (a.put oi.dst v) w) (hi : ops[i]? = some oi := by (try simp only [List.getElem?_toArray, List.getElem?_cons_succ, List.getElem?_cons_zero]); rfl)
    (hy : ∀ w, S w → (execOp a.eval oi).run P w = .ok (.value v) w := by intro w hSw; (try dsimp only at hSw); (try simp only [Act.put, List.setIfInBounds_toArray, List.set_cons_zero, List.set_cons_succ]); go_simp)
    (hs : Region.noSelect ops = true := by kernel_rfl) (hf : Region.free md ops listed i = true := by kernel_rfl) (hr : (Region.ready md ops listed).contains i = true := by kernel_rfl) (hg : Region.wanted oi (yielded ops a.tmps) = true := by (try simp only [Act.put, List.setIfInBounds_toArray, List.set_cons_zero, List.set_cons_succ]); rfl) (hQ : ∀ c a w, Q (.panic c) (a.put oi.dst v) w → Q (.panic c) a w := by exact fun _ _ _ h => h) (hS : S w := by assumption) : wpAnyH P md ops Q S (fuel + 1) listed a w :=
  wpAnyH_take hi hs hf hr hQ (Or.inl ⟨hg, hy⟩) hS h
/-- the next is not asked for -/
theorem tkU (i : Nat) {P : Program} {ops : Array Oper} {Q : Exit → Act → World → Prop} {md : Region.Mode} {S : World → Prop} {oi : Oper} {fuel : Nat} {listed : Array Bool} {a : Act} {w : World} (h : wpAnyH P md ops Q S fuel (listed.setIfInBounds i true) (a.put oi.dst undef) w) (hi : ops[i]? = some oi := by (try simp only [List.getElem?_toArray, List.getElem?_cons_succ, List.getElem?_cons_zero]); rfl)
    (hs : Region.noSelect ops = true := by kernel_rfl) (hf : Region.free md ops listed i = true := by kernel_rfl) (hr : (Region.ready md ops listed).contains i = true := by kernel_rfl) (hg : Region.wanted oi (yielded ops a.tmps) = false := by (try simp only [Act.put, List.setIfInBounds_toArray, List.set_cons_zero, List.set_cons_succ]); rfl) (hQ : ∀ c a w, Q (.panic c) (a.put oi.dst undef) w → Q (.panic c) a w := by exact fun _ _ _ h => h) (hS : S w := by assumption) : wpAnyH P md ops Q S (fuel + 1) listed a w :=
  wpAnyH_take hi hs hf hr hQ (Or.inr ⟨hg, rfl⟩) hS h
/-- one of those that may come up -/
theorem ryC {P : Program} {ops : Array Oper} {Q : Exit → Act → World → Prop} {md : Region.Mode} {S : World → Prop} {fuel : Nat} {listed : Array Bool} {a : Act} {w : World} {i : Nat} {o : Oper} {rs : List Nat} (h : ∀ K' : Act → World → Prop, Shut (∀ a w, S w → (S w → wpAnyH P md ops Q S fuel (listed.setIfInBounds i true) a w) → K' a w) → if Region.wanted o (yielded ops a.tmps) = true then Oper.wp P o a w K' Q else K' (a.put o.dst undef) w)
    (hs : AllReadyH P md ops Q S fuel listed a w rs) (ho : ops[i]? = some o := by (try simp only [List.getElem?_toArray, List.getElem?_cons_succ, List.getElem?_cons_zero]); rfl) : AllReadyH P md ops Q S fuel listed a w (i :: rs) := AllReadyH.cons ho h hs
end Go.Proofs.YtnnhihkeffljbaaGreatDoor
/- segmentsBelow over whatever segments. -/
namespace Go.Proofs.YtnnhihkeffljbaaGreatDoor
open Go.RowKit
open Sc

set_option maxRecDepth 100000 in
set_option maxHeartbeats 4000000 in
theorem segsBelow_any (B lp p bD bN n nD nN low : Nat) (pv sv rv : Value) (l : ALog) (d : ADisk) (w : World) (h : LogIn w B lp p bD bN pv sv rv l d n nD nN) :
    Calls Tryz.prog 114 #[.pointer (some ⟨lp, 0, none⟩), .int .u64 (low : Int)] w fun e w' => e = .returned (.int .i64 (segsBelow l.segs low : Nat)) ∧ ∃ q, w' = w.drewN q := by
  by_cases hs : 0 < l.segs.length
  · obtain ⟨gs, cs, hsv⟩ := own_pos h.segs hs
    subst hsv
    exact segsBelow_some B lp p bD bN n nD nN low gs cs pv rv l d w h
  · have hnil : l.segs = [] := List.length_eq_zero_iff.1 (by omega)
    obtain ⟨a, m, c, hsv⟩ := own_sl h.segs
    have hm : m = 0 := by
      subst hsv
      rcases h.segs.2 with ⟨e, h2⟩ | ⟨g', cap', cur, e, _⟩
      · cases e; rfl
      · cases e; rw [hnil]; rfl
    subst hm hsv
    have c1 := blk_cell h.blk 1
    simp at c1
    have e : segsBelow l.segs low = 0 := by rw [hnil]; rfl
    rw [e]
    clear h e
    go_enter Tryz.func114, Tryz.ntmps114
    go_wp2
    refine wp_loop_rounds 1 ?_
    rw [rounds_succ]
    go_wp2
    go_ret
    exact ⟨rfl, 0, rfl⟩
end Go.Proofs.YtnnhihkeffljbaaGreatDoor
/- strings.Clone. -/
namespace Go.Proofs.YtnnhihkeffljbaaGreatDoor
open Go.RowKit
open Sc

theorem cloneS (s : ByteArray) (w : World) (hs : s.size ≤ 281474976710656) :
    Calls Tryz.prog 103 #[.string s] w fun e w' => e = .returned (.string s) ∧ Below w.heap.size w w' := by
  go_enter Tryz.func103, Tryz.ntmps103
  go_wp2_with fail
  refine (Tryz.stringslite_Clone s w hs).mono ?_
  rintro e w1 ⟨rfl, hb⟩
  go_wp2
  go_ret
  exact ⟨rfl, hb⟩
end Go.Proofs.YtnnhihkeffljbaaGreatDoor
