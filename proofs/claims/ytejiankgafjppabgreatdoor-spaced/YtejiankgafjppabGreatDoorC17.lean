import Derived.Test.YtejiankgafjppabGreatDoorC16
import Derived.Test.YtejiankgafjppabGreatDoorC07
import Derived.Test.YtejiankgafjppabGreatDoorC14
/- (*Log).Force. -/
namespace Go.Proofs.YtejiankgafjppabGreatDoor
open Go.RowKit
open Sc

set_option maxRecDepth 100000 in
set_option maxHeartbeats 4000000 in
theorem inTurnF (B lp p bD bN n nD nN gst : Nat) (pv sv rv : Value) (l : ALog) (d : ADisk) (w : World) (h : LogIn w B lp p bD bN pv sv rv l d n nD nN) (hn : n ≤ 67108864)
    (hst : w.heap[gst]? = some (.cells #[.func (.func 143) #[.pointer (some ⟨lp, 0, none⟩)] #[]] 96)) :
    Calls Tryz.prog 142 #[.slice (some ⟨gst, 0, none⟩) 1 1] w (PutL B lp p bD bN n [] (l.sync d) w) := by
  have z0 := blk_cell hst 0
  simp at z0
  have HI : Hid (LogIn w B lp p bD bN pv sv rv l d n nD nN) := h
  clear h
  go_enter Tryz.func142, Tryz.ntmps142
  go_wp2
  refine wp_loop_rounds 2 ?_
  rw [rounds_succ]
  go_wp2_with fail
  refine (lsync_any B lp p bD bN n nD nN pv sv rv l d w HI.out hn).mono ?_
  rintro e w1 ⟨rfl, hl1, ho1⟩
  have H1 : Hid (PutL B lp p bD bN n [] (l.sync d) w (.returned (errN (l.sync d).2.2)) w1) := ⟨rfl, hl1, ho1.x⟩
  clear hl1 ho1
  by_cases hc : (l.sync d).2.2 = 0
  · rw [hc, errN_ok] at H1 ⊢
    go_wp2
    rw [rounds_succ]
    go_wp2
    go_ret
    exact H1.out
  · rw [errN_no hc] at H1 ⊢
    go_wp2
    go_ret
    exact H1.out
set_option maxRecDepth 100000 in
set_option maxHeartbeats 4000000 in
theorem writeF (B lp p bD bN n nD nN gst : Nat) (pv sv rv : Value) (l : ALog) (d : ADisk) (w : World) (h : LogIn w B lp p bD bN pv sv rv l d n nD nN) (hn : n ≤ 67108864)
    (hst : w.heap[gst]? = some (.cells #[.func (.func 143) #[.pointer (some ⟨lp, 0, none⟩)] #[]] 96)) :
    Calls Tryz.prog 178 #[.pointer (some ⟨lp, 0, none⟩), .slice (some ⟨gst, 0, none⟩) 1 1] w (PutL B lp p bD bN n [] (l.wr d (l.sync d)) w) := by
  have c0 := blk_cell h.blk 0
  have c6 := blk_cell h.blk 6
  simp at c0 c6
  have HI : Hid (LogIn w B lp p bD bN pv sv rv l d n nD nN) := h
  have hnil := Tryz.eqNil p
  by_cases hf : l.failed = 0
  · rw [hf, errN_ok] at c6
    have e : l.wr d (l.sync d) = ({ (l.sync d).1 with failed := (l.sync d).2.2 }, (l.sync d).2.1, (l.sync d).2.2) := by unfold ALog.wr; rw [if_pos hf]
    rw [e]
    clear e
    go_enter Tryz.func178, Tryz.ntmps178
    go_wp2_with fail
    refine (inTurnF B lp p bD bN n nD nN gst pv sv rv l d w HI.out hn hst).mono ?_
    rintro e w1 ⟨rfl, ⟨pv1, sv1, rv1, nD1, nN1, hl1⟩, ho1⟩
    have H1 : Hid (LogIn w1 B lp p bD bN pv1 sv1 rv1 (l.sync d).1 (l.sync d).2.1 n nD1 nN1) := hl1
    have HO : Hid (OFx [] lp p w w1) := ho1
    have k6 := blk_cell hl1.blk 6
    have f6 := blk_free hl1.blk 6
    simp at k6
    clear hl1 ho1 hst h
    by_cases hc : (l.sync d).2.2 = 0
    · rw [hc, errN_ok]
      go_wp2
      go_ret
      obtain ⟨hl2, hf2⟩ := H1.out.fail (c := 0) rfl
      unfold PutL
      simp only
      rw [hc]
      exact ⟨rfl, ⟨pv1, sv1, rv1, nD1, nN1, hl2⟩, HO.out.trans (H1.out.ofx hl2 hf2 (by intro k hk _; simp at hk; simp [hk]) (Near.refl _ _) (Near.refl _ _) (Near.refl _ _))⟩
    · have he := errN_no hc
      obtain ⟨hl2, hf2⟩ := H1.out.fail (c := (l.sync d).2.2) rfl
      rw [he] at hl2 hf2 ⊢
      have H2 : Hid (LogIn (w1.setCell ⟨lp, 6, none⟩ (.iface 30 (.int .i64 ((l.sync d).2.2 : Int)))) B lp p bD bN pv1 sv1 rv1 { (l.sync d).1 with failed := (l.sync d).2.2 } (l.sync d).2.1 n nD1 nN1) := hl2
      clear hl2
      go_wp2
      go_ret
      exact ⟨by simp only; rw [he]; rfl, ⟨pv1, sv1, rv1, nD1, nN1, H2.out⟩, HO.out.trans (H1.out.ofx H2.out hf2 (by intro k hk _; simp at hk; simp [hk]) (Near.refl _ _) (Near.refl _ _) (Near.refl _ _))⟩
  · rw [errN_no hf] at c6
    have e : l.wr d (l.sync d) = (l, d, l.failed) := by unfold ALog.wr; rw [if_neg hf]
    rw [e]
    go_enter Tryz.func178, Tryz.ntmps178
    go_wp2
    go_ret
    exact ⟨by simp only; rw [errN_no hf]; rfl, ⟨pv, sv, rv, nD, nN, HI.out⟩, (OFr.refl _ _ _).x⟩
theorem OFx.ofr {lp p : Nat} {w w' : World} (h : OFx [] lp p w w') : OFr lp p w w' := ⟨h.os, h.tape, h.output, h.size, fun k hk hn => h.block k hk hn (by simp), h.stay⟩
def ALog.force (l : ALog) (d : ADisk) : ALog × ADisk × Nat := if l.durable = l.next then (l, d, 0) else l.wr d (l.sync d)
/-- what stands behind a call that answers an error alone -/
def ErrPost (B lp p bD bN n : Nat) (r : ALog × ADisk × Nat) (w : World) (e : Ending) (w' : World) : Prop :=
  e = .returned (errN r.2.2) ∧ (∃ pv sv rv nD nN, LogIn w' B lp p bD bN pv sv rv r.1 r.2.1 n nD nN) ∧ OFr lp p w w'
set_option maxRecDepth 100000 in
set_option maxHeartbeats 4000000 in
theorem force_any (B lp p bD bN n nD nN : Nat) (pv sv rv : Value) (l : ALog) (d : ADisk) (w : World) (h : LogIn w B lp p bD bN pv sv rv l d n nD nN) (hn : n ≤ 67108864) :
    Calls Tryz.prog 130 #[.pointer (some ⟨lp, 0, none⟩)] w (ErrPost B lp p bD bN n (l.force d) w) := by
  have c4 := blk_cell h.blk 4
  have c5 := blk_cell h.blk 5
  simp at c4 c5
  have HI : Hid (LogIn w B lp p bD bN pv sv rv l d n nD nN) := h
  clear h
  by_cases hq : l.durable = l.next
  · have e : l.force d = (l, d, 0) := by unfold ALog.force; rw [if_pos hq]
    rw [e]
    rw [hq] at c5
    go_enter Tryz.func130, Tryz.ntmps130
    go_wp2
    go_region
    go_wp2
    go_ret
    have hf : Fr [] w w.drew := (Fr.refl [] w).drew
    exact ⟨rfl, ⟨pv, sv, rv, nD, nN, HI.out.new hf⟩, HI.out.newO hf⟩
  · have e : l.force d = l.wr d (l.sync d) := by unfold ALog.force; rw [if_neg hq]
    rw [e]
    have i1 : ¬ (l.durable : Int) = (l.next : Int) := by omega
    have i2 : ((l.durable : Int) == (l.next : Int)) = false := by simpa using i1
    go_enter Tryz.func130, Tryz.ntmps130
    go_wp2
    go_region
    go_wp2_with fail
    have hf : Fr [] w (w.drew.alloc (.cells #[.func (.func 143) #[.pointer (some ⟨lp, 0, none⟩)] #[]] 96)) := (Fr.refl [] w).drew.alloc _
    refine (writeF B lp p bD bN n nD nN _ pv sv rv l d _ (HI.out.new hf) hn (heap_alloc_new w.drew _)).mono ?_
    rintro e w1 ⟨rfl, hl1, ho1⟩
    have H1 : Hid (ErrPost B lp p bD bN n (l.wr d (l.sync d)) w (.returned (errN (l.wr d (l.sync d)).2.2)) w1) := ⟨rfl, hl1, (HI.out.newO hf).trans ho1.ofr⟩
    clear hl1 ho1
    go_wp2
    go_ret
    exact H1.out
end Go.Proofs.YtejiankgafjppabGreatDoor
/- The steps of Cut, one behind the other. -/
namespace Go.Proofs.YtejiankgafjppabGreatDoor
open Go.RowKit
open Sc

def ALog.cutS (l : ALog) (d : ADisk) (gone first : Nat) : ALog × ADisk × Nat :=
  if (l.sync d).2.2 = 0 then
    if ((l.sync d).2.1.setMark first).2 = 0 then
      ((l.sync d).1, ((l.sync d).2.1.setMark first).1.removeAll ((l.segs.take gone).map segName))
    else ((l.sync d).1, (l.sync d).2.1.setMark first)
  else l.sync d
theorem LogIn.mores {w : World} {B lp p bD bN n nD nN : Nat} {pv sv rv : Value} {l : ALog} {d : ADisk} (h : LogIn w B lp p bD bN pv sv rv l d n nD nN) {m : Nat} (hm : n ≤ m) (hm2 : m ≤ 67108864) : LogIn w B lp p bD bN pv sv rv l d m nD nN where
  disk := h.disk.mores hm hm2
  blk := h.blk
  base := h.base
  segs := h.segs
  recs := h.recs
  segsN := ⟨Nat.le_trans h.segsN.1 hm, h.segsN.2⟩
  recsN := Nat.le_trans h.recsN hm
  fillN := h.fillN
  nextN := by have := h.nextN; omega
  durN := h.durN
theorem sync_segs (l : ALog) (d : ADisk) : (l.sync d).1.segs = l.segs := by unfold ALog.sync; split <;> rfl
theorem sync_recs (l : ALog) (d : ADisk) : (l.sync d).1.recs = l.recs := by unfold ALog.sync; split <;> rfl
set_option maxRecDepth 100000 in
set_option maxHeartbeats 4000000 in
theorem inTurnC (B lp p bD bN n nD nN gst bl bf bg first gone : Nat) (pv sv rv : Value) (l : ALog) (d : ADisk) (w : World) (h : LogIn w B lp p bD bN pv sv rv l d n nD nN) (hn : n + 2 + gone ≤ 67108864) (hB : 2 ≤ B) (hpow : Pows w) (hx : first < 18446744073709551616) (hg : gone ≤ l.segs.length) (hg0 : 0 < gone)
    (hst : w.heap[gst]? = some (.cells #[.func (.func 143) #[.pointer (some ⟨lp, 0, none⟩)] #[], .func (.func 185) #[] #[.pointer (some ⟨bl, 0, none⟩), .pointer (some ⟨bf, 0, none⟩)], .func (.func 187) #[] #[.pointer (some ⟨bl, 0, none⟩), .pointer (some ⟨bg, 0, none⟩)]] 96))
    (hbl : w.heap[bl]? = some (.cells #[.pointer (some ⟨lp, 0, none⟩)] 82)) (hbf : w.heap[bf]? = some (.cells #[.int .u64 (first : Int)] 28)) (hbo : ¬ Own lp p w bf) (hbg : w.heap[bg]? = some (.cells #[.int .i64 (gone : Int)] 3)) :
    Calls Tryz.prog 142 #[.slice (some ⟨gst, 0, none⟩) 3 3] w (PutL B lp p bD bN (n + 2 + gone) [] (l.cutS d gone first) w) := by
  have z0 := blk_cell hst 0
  simp at z0
  have HI : Hid (LogIn w B lp p bD bN pv sv rv l d n nD nN) := h
  have hb6 : 1 < w.heap.size := by have := h.disk.base.2.2.2; omega
  go_enter Tryz.func142, Tryz.ntmps142
  go_wp2
  refine wp_loop_rounds 4 ?_
  rw [rounds_succ]
  go_wp2_with fail
  refine (lsync_any B lp p bD bN n nD nN pv sv rv l d w HI.out (by omega)).mono ?_
  rintro e w1 ⟨rfl, ⟨pv1, sv1, rv1, nD1, nN1, hl1⟩, ho1⟩
  have fre : ∀ {q : Nat} {c : Array Value} {t : TypeId}, w.heap[q]? = some (.cells c t (0, 0)) → t ≠ 100 → t ≠ 150 → t ≠ 229 → t ≠ 28 → t ≠ 288 → w1.heap[q]? = some (.cells c t (0, 0)) := fun {q c t} hq h1 h2 h3 h4 h5 =>
    (ho1.block q (Array.getElem?_eq_some_iff.1 hq).1 (HI.out.free hq h1 h2 h3 h4 h5)).trans hq
  have hst1 := fre hst (by decide) (by decide) (by decide) (by decide) (by decide)
  have hbl1 := fre hbl (by decide) (by decide) (by decide) (by decide) (by decide)
  have hbg1 := fre hbg (by decide) (by decide) (by decide) (by decide) (by decide)
  have hbf1 := (ho1.block bf (Array.getElem?_eq_some_iff.1 hbf).1 hbo).trans hbf
  have hpow1 : Pows w1 := hpow.of_block (ho1.block 1 hb6 (fun ho => by have := HI.out.ge ho; omega))
  have z1 := blk_cell hst1 1
  simp at z1
  have hb61 : 1 < w1.heap.size := by have := ho1.size; omega
  have H1 : Hid (LogIn w1 B lp p bD bN pv1 sv1 rv1 (l.sync d).1 (l.sync d).2.1 n nD1 nN1) := hl1
  have HO : Hid (OFr lp p w w1) := ho1
  have HST : Hid (w1.heap[gst]? = _) := hst1
  have HBL : Hid (w1.heap[bl]? = _) := hbl1
  have HBF : Hid (w1.heap[bf]? = _) := hbf1
  have HBG : Hid (w1.heap[bg]? = _) := hbg1
  clear h hl1 ho1 hst1 hbl1 hbf1 hbg1 hst hbl hbf hbg fre z0 hbo
  by_cases hc : (l.sync d).2.2 = 0
  · rw [hc, errN_ok]
    go_wp2
    rw [rounds_succ]
    go_wp2_with fail
    refine (cut1_any B lp p bD bN n nD1 nN1 bl bf first pv1 sv1 rv1 (l.sync d).1 (l.sync d).2.1 w1 H1.out (by omega) hx HBL.out HBF.out).mono ?_
    rintro e w2 ⟨rfl, ⟨pv2, nD2, nN2, hl2⟩, ho2⟩
    have fre : ∀ {q : Nat} {c : Array Value} {t : TypeId}, w1.heap[q]? = some (.cells c t (0, 0)) → t ≠ 100 → t ≠ 150 → t ≠ 229 → t ≠ 28 → t ≠ 288 → w2.heap[q]? = some (.cells c t (0, 0)) := fun {q c t} hq h1 h2 h3 h4 h5 =>
      (ho2.block q (Array.getElem?_eq_some_iff.1 hq).1 (H1.out.free hq h1 h2 h3 h4 h5)).trans hq
    have hst2 := fre HST.out (by decide) (by decide) (by decide) (by decide) (by decide)
    have hbl2 := fre HBL.out (by decide) (by decide) (by decide) (by decide) (by decide)
    have hbg2 := fre HBG.out (by decide) (by decide) (by decide) (by decide) (by decide)
    have hpow2 : Pows w2 := hpow1.of_block (ho2.block 1 hb61 (fun ho => by have := H1.out.ge ho; omega))
    have z2 := blk_cell hst2 2
    simp at z2
    have H2 : Hid (LogIn w2 B lp p bD bN pv2 sv1 rv1 (l.sync d).1 ((l.sync d).2.1.setMark first).1 (n + 2) nD2 nN2) := hl2
    have HO2 : Hid (OFr lp p w w2) := HO.out.trans ho2
    have HBL2 : Hid (w2.heap[bl]? = _) := hbl2
    have HBG2 : Hid (w2.heap[bg]? = _) := hbg2
    clear hl2 ho2 hst2 hbl2 hbg2 fre z1 hpow1
    by_cases hc2 : ((l.sync d).2.1.setMark first).2 = 0
    · obtain ⟨nm, hnm⟩ : ∃ nm, nm = (l.segs.take gone).map segName := ⟨_, rfl⟩
      have e : l.cutS d gone first = ((l.sync d).1, ((l.sync d).2.1.setMark first).1.removeAll nm) := by unfold ALog.cutS; rw [if_pos hc, if_pos hc2, hnm]
      have HE : Hid (l.cutS d gone first = ((l.sync d).1, ((l.sync d).2.1.setMark first).1.removeAll nm)) := e
      have HNM : Hid (nm = (l.segs.take gone).map segName) := hnm
      clear e hnm
      obtain ⟨gs, cs, hsv⟩ := own_pos H2.out.segs (by rw [sync_segs]; omega)
      subst hsv
      rw [hc2, errN_ok]
      go_wp2
      rw [rounds_succ]
      go_wp2_with fail
      refine (cut2_any B lp p bD bN (n + 2) nD2 nN2 bl bg gone gs cs pv2 rv1 (l.sync d).1 ((l.sync d).2.1.setMark first).1 w2 H2.out (by rw [sync_segs]; exact hg) hg0 hn hB hpow2 HBL2.out HBG2.out).mono ?_
      rintro e w3 ⟨rfl, ⟨pv3, nD3, nN3, hl3⟩, ho3⟩
      rw [sync_segs] at hl3 ⊢
      rw [← HNM.out] at hl3 ⊢
      have H3 : Hid (PutL B lp p bD bN (n + 2 + gone) [] (l.cutS d gone first) w (.returned (errN (((l.sync d).2.1.setMark first).1.removeAll nm).2)) w3) := by
        show PutL _ _ _ _ _ _ _ _ _ _ _
        rw [HE.out]
        exact ⟨rfl, ⟨pv3, _, rv1, nD3, nN3, hl3⟩, (HO2.out.trans ho3).x⟩
      clear hl3 ho3
      by_cases hc3 : (((l.sync d).2.1.setMark first).1.removeAll nm).2 = 0
      · rw [hc3, errN_ok] at H3 ⊢
        go_wp2
        rw [rounds_succ]
        go_wp2
        go_ret
        exact H3.out
      · rw [errN_no hc3] at H3 ⊢
        go_wp2
        go_ret
        exact H3.out
    · have H3 : Hid (PutL B lp p bD bN (n + 2 + gone) [] (l.cutS d gone first) w (.returned (errN ((l.sync d).2.1.setMark first).2)) w2) := by
        show PutL _ _ _ _ _ _ _ _ _ _ _
        have e : l.cutS d gone first = ((l.sync d).1, (l.sync d).2.1.setMark first) := by unfold ALog.cutS; rw [if_pos hc, if_neg hc2]
        rw [e]
        exact ⟨rfl, ⟨pv2, sv1, rv1, nD2, nN2, H2.out.mores (by omega) hn⟩, HO2.out.x⟩
      rw [errN_no hc2] at H3 ⊢
      go_wp2
      go_ret
      exact H3.out
  · have H3 : Hid (PutL B lp p bD bN (n + 2 + gone) [] (l.cutS d gone first) w (.returned (errN (l.sync d).2.2)) w1) := by
      show PutL _ _ _ _ _ _ _ _ _ _ _
      have e : l.cutS d gone first = l.sync d := by unfold ALog.cutS; rw [if_neg hc]
      rw [e]
      exact ⟨rfl, ⟨pv1, sv1, rv1, nD1, nN1, H1.out.mores (by omega) hn⟩, HO.out.x⟩
    rw [errN_no hc] at H3 ⊢
    go_wp2
    go_ret
    exact H3.out
end Go.Proofs.YtejiankgafjppabGreatDoor
/- (*Log).write over any steps. -/
namespace Go.Proofs.YtejiankgafjppabGreatDoor
open Go.RowKit
open Sc

set_option maxRecDepth 100000 in
set_option maxHeartbeats 4000000 in
theorem writeR (B lp p bD bN n nD nN n' : Nat) (X : List Nat) (pv sv rv : Value) (a : Option Addr) (k c : Nat) (l : ALog) (d : ADisk) (r : ALog × ADisk × Nat) (w : World) (h : LogIn w B lp p bD bN pv sv rv l d n nD nN) (hn : n ≤ n') (hn' : n' ≤ 67108864)
    (hT : l.failed = 0 → Calls Tryz.prog 142 #[.slice a k c] w (PutL B lp p bD bN n' X r w)) :
    Calls Tryz.prog 178 #[.pointer (some ⟨lp, 0, none⟩), .slice a k c] w (PutL B lp p bD bN n' X (l.wr d r) w) := by
  have c0 := blk_cell h.blk 0
  have c6 := blk_cell h.blk 6
  simp at c0 c6
  have HI : Hid (LogIn w B lp p bD bN pv sv rv l d n nD nN) := h
  have hnil := Tryz.eqNil p
  by_cases hf : l.failed = 0
  · rw [hf, errN_ok] at c6
    have e : l.wr d r = ({ r.1 with failed := r.2.2 }, r.2.1, r.2.2) := by unfold ALog.wr; rw [if_pos hf]
    rw [e]
    clear e
    replace hT := hT hf
    go_enter Tryz.func178, Tryz.ntmps178
    go_wp2_with fail
    refine hT.mono ?_
    rintro e w1 ⟨rfl, ⟨pv1, sv1, rv1, nD1, nN1, hl1⟩, ho1⟩
    have H1 : Hid (LogIn w1 B lp p bD bN pv1 sv1 rv1 r.1 r.2.1 n' nD1 nN1) := hl1
    have HO : Hid (OFx X lp p w w1) := ho1
    have k6 := blk_cell hl1.blk 6
    have f6 := blk_free hl1.blk 6
    simp at k6
    clear hl1 ho1 h
    by_cases hc : r.2.2 = 0
    · rw [hc, errN_ok]
      go_wp2
      go_ret
      obtain ⟨hl2, hf2⟩ := H1.out.fail (c := 0) rfl
      unfold PutL
      simp only
      rw [hc]
      exact ⟨rfl, ⟨pv1, sv1, rv1, nD1, nN1, hl2⟩, HO.out.trans (H1.out.ofx hl2 hf2 (by intro k hk _; simp at hk; simp [hk]) (Near.refl _ _) (Near.refl _ _) (Near.refl _ _))⟩
    · have he := errN_no hc
      obtain ⟨hl2, hf2⟩ := H1.out.fail (c := r.2.2) rfl
      rw [he] at hl2 hf2 ⊢
      have H2 : Hid (LogIn (w1.setCell ⟨lp, 6, none⟩ (.iface 30 (.int .i64 (r.2.2 : Int)))) B lp p bD bN pv1 sv1 rv1 { r.1 with failed := r.2.2 } r.2.1 n' nD1 nN1) := hl2
      clear hl2
      go_wp2
      go_ret
      exact ⟨by simp only; rw [he]; rfl, ⟨pv1, sv1, rv1, nD1, nN1, H2.out⟩, HO.out.trans (H1.out.ofx H2.out hf2 (by intro k hk _; simp at hk; simp [hk]) (Near.refl _ _) (Near.refl _ _) (Near.refl _ _))⟩
  · rw [errN_no hf] at c6
    have e : l.wr d r = (l, d, l.failed) := by unfold ALog.wr; rw [if_neg hf]
    rw [e]
    go_enter Tryz.func178, Tryz.ntmps178
    go_wp2
    go_ret
    exact ⟨by simp only; rw [errN_no hf]; rfl, ⟨pv, sv, rv, nD, nN, HI.out.mores hn hn'⟩, (OFr.refl _ _ _).x⟩
end Go.Proofs.YtejiankgafjppabGreatDoor
/- segmentsBelow over whatever segments. -/
namespace Go.Proofs.YtejiankgafjppabGreatDoor
open Go.RowKit
open Sc

set_option maxRecDepth 100000 in
set_option maxHeartbeats 4000000 in
theorem segsBelow_any (B lp p bD bN n nD nN low : Nat) (pv sv rv : Value) (l : ALog) (d : ADisk) (w : World) (h : LogIn w B lp p bD bN pv sv rv l d n nD nN) :
    Calls Tryz.prog 184 #[.pointer (some ⟨lp, 0, none⟩), .int .u64 (low : Int)] w fun e w' => e = .returned (.int .i64 (segsBelow l.segs low : Nat)) ∧ ∃ q, w' = w.drewN q := by
  by_cases hs : 0 < l.segs.length
  · obtain ⟨gs, cs, hsv⟩ := own_pos h.segs hs
    subst hsv
    exact segsBelow_some B lp p bD bN n nD nN low gs cs pv rv l d w h
  · have hnil : l.segs = [] := List.length_eq_zero_iff.1 (by omega)
    obtain ⟨a, m, c, hsv⟩ := own_sl h.segs
    have hm : m = 0 := by
      subst hsv
      rcases h.segs.2 with ⟨e, h2⟩ | ⟨g', cap', cur, e, _⟩
      · cases e; rfl
      · cases e; rw [hnil]; rfl
    subst hm hsv
    have c1 := blk_cell h.blk 1
    simp at c1
    have e : segsBelow l.segs low = 0 := by rw [hnil]; rfl
    rw [e]
    clear h e
    go_enter Tryz.func184, Tryz.ntmps184
    go_wp2
    refine wp_loop_rounds 1 ?_
    rw [rounds_succ]
    go_wp2
    go_ret
    exact ⟨rfl, 0, rfl⟩
end Go.Proofs.YtejiankgafjppabGreatDoor
/- strings.Clone. -/
namespace Go.Proofs.YtejiankgafjppabGreatDoor
open Go.RowKit
open Sc

theorem cloneS (s : ByteArray) (w : World) (hs : s.size ≤ 281474976710656) :
    Calls Tryz.prog 124 #[.string s] w fun e w' => e = .returned (.string s) ∧ Below w.heap.size w w' := by
  go_enter Tryz.func124, Tryz.ntmps124
  go_wp2_with fail
  refine (Tryz.stringslite_Clone s w hs).mono ?_
  rintro e w1 ⟨rfl, hb⟩
  go_wp2
  go_ret
  exact ⟨rfl, hb⟩
end Go.Proofs.YtejiankgafjppabGreatDoor
