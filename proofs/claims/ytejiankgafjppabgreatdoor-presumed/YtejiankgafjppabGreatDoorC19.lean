import Derived.Test.YtejiankgafjppabGreatDoorC18
import Derived.BigQuiet
import Derived.Test.YtejiankgafjppabGreatDoorC09
import Derived.Test.YtejiankgafjppabGreatDoorC16
/- (*Log).Append. -/
namespace Go.Proofs.YtejiankgafjppabGreatDoor
open Go.RowKit
open Sc

theorem foldl_push (l : List UInt8) (a : ByteArray) : (l.foldl (fun r n => r.push n) a).data.toList = a.data.toList ++ l := by
  induction l generalizing a with
  | nil => simp
  | cons x l ih => rw [List.foldl_cons, ih]; simp [ByteArray.push]
theorem strOf_bytes (s : ByteArray) : str (bytesOf s) = s := by
  have h : str (bytesOf s) = s.data.toList.foldl (fun r n => r.push n) ByteArray.empty := by
    unfold str bytesOf
    rw [List.map_map, List.foldl_map]
    congr 1
    funext r n
    simp
  have h2 := foldl_push s.data.toList ByteArray.empty
  rw [← h] at h2
  have h3 : (str (bytesOf s)).data = s.data := by
    apply Array.toList_inj.1
    rw [h2]; simp
  cases hs : str (bytesOf s)
  cases s
  rw [hs] at h3
  simp at h3
  rw [h3]
def ALog.append (l : ALog) (d : ADisk) (kind : Nat) (s : ByteArray) : ALog × ADisk × Nat × Nat :=
  if 255 < s.size then (l, d, 0, 1)
  else if (l.wr d (l.put d (recBytes l.next kind (bytesOf s)))).2.2 = 0 then
    ({ (l.wr d (l.put d (recBytes l.next kind (bytesOf s)))).1 with filled := (l.wr d (l.put d (recBytes l.next kind (bytesOf s)))).1.filled + (15 + s.size), recs := (l.wr d (l.put d (recBytes l.next kind (bytesOf s)))).1.recs ++ [⟨(l.wr d (l.put d (recBytes l.next kind (bytesOf s)))).1.next, kind, bytesOf s⟩], next := (l.wr d (l.put d (recBytes l.next kind (bytesOf s)))).1.next + 1 },
      (l.wr d (l.put d (recBytes l.next kind (bytesOf s)))).2.1, (l.wr d (l.put d (recBytes l.next kind (bytesOf s)))).1.next, 0)
  else ((l.wr d (l.put d (recBytes l.next kind (bytesOf s)))).1, (l.wr d (l.put d (recBytes l.next kind (bytesOf s)))).2.1, 0, (l.wr d (l.put d (recBytes l.next kind (bytesOf s)))).2.2)
theorem put_filled {l : ALog} {d : ADisk} {by_ : List Nat} (h : (l.put d by_).2.2 = 0) : (l.put d by_).1.filled < 600 := by
  unfold ALog.put at *
  by_cases hr : (l.room d).2.2 = 0
  · rw [if_pos hr]
    show (l.room d).1.filled < 600
    unfold ALog.room at *
    by_cases hf : l.filled < 600
    · rw [if_pos hf]; exact hf
    · rw [if_neg hf] at hr ⊢
      by_cases hs : (l.sync d).2.2 = 0
      · rw [if_pos hs]; show 0 < 600; omega
      · rw [if_neg hs] at hr; exact absurd hr hs
  · rw [if_neg hr] at h; exact absurd h hr
theorem wr_filled {l : ALog} {d : ADisk} {by_ : List Nat} (h : (l.wr d (l.put d by_)).2.2 = 0) : (l.wr d (l.put d by_)).1.filled < 600 := by
  unfold ALog.wr at *
  by_cases hf : l.failed = 0
  · rw [if_pos hf] at h ⊢; exact put_filled h
  · rw [if_neg hf] at h; exact absurd h hf
def AppPost (B lp p bD bN n : Nat) (r : ALog × ADisk × Nat × Nat) (w : World) (e : Ending) (w' : World) : Prop :=
  e = .returned (.tuple #[.int .u64 (r.2.2.1 : Int), errN r.2.2.2]) ∧ (∃ pv sv rv nD nN, LogIn w' B lp p bD bN pv sv rv r.1 r.2.1 n nD nN) ∧ OFr lp p w w'
theorem LogIn.new {w w' : World} {B lp p bD bN n nD nN : Nat} {pv sv rv : Value} {l : ALog} {d : ADisk} (h : LogIn w B lp p bD bN pv sv rv l d n nD nN) (hf : Fr [] w w') : LogIn w' B lp p bD bN pv sv rv l d n nD nN :=
  h.turned (h.disk.new hf) hf (by simp) (Nat.le_refl _)
theorem LogIn.newO {w w' : World} {B lp p bD bN n nD nN : Nat} {pv sv rv : Value} {l : ALog} {d : ADisk} (h : LogIn w B lp p bD bN pv sv rv l d n nD nN) (hf : Fr [] w w') : OFr lp p w w' :=
  h.ofr (h.new hf) hf (by simp) (.inl rfl) (Near.refl _ _) (Near.refl _ _) (Near.refl _ _)
set_option maxRecDepth 100000 in
set_option maxHeartbeats 4000000 in
theorem lappend_no (B lp p bD bN n nD nN kind : Nat) (pv sv rv : Value) (l : ALog) (d : ADisk) (s : ByteArray) (w : World) (h : LogIn w B lp p bD bN pv sv rv l d n nD nN) (hs : 255 < s.size) (hn : n + 1 < 67108864) :
    Calls Tryz.prog 132 #[.pointer (some ⟨lp, 0, none⟩), .int .u8 (kind : Int), .string s] w (AppPost B lp p bD bN (n + 2) (l.append d kind s) w) := by
  have e : l.append d kind s = (l, d, 0, 1) := by unfold ALog.append; rw [if_pos hs]
  rw [e]
  have hlp := (Array.getElem?_eq_some_iff.1 h.blk).1
  have c4 := blk_cell h.blk 4
  simp at c4
  have c4' : ∀ ob, (w.alloc ob).cell? ⟨lp, 4, none⟩ = some (.int .u64 (l.next : Int)) := fun ob => (World.cell?_of_block (a := ⟨lp, 4, none⟩) (Below.heap_alloc w ob lp hlp)).trans c4
  have HI : Hid (LogIn w B lp p bD bN pv sv rv l d n nD nN) := h
  clear h e
  go_enter Tryz.func132, Tryz.ntmps132
  go_wp2_with fail
  refine (encodeR_no (l.next : Int) (kind : Int) s _ hs).mono ?_
  rintro e w1 ⟨rfl, hb1⟩
  have hf1 : Fr [] w w1 := ((Fr.refl [] w).alloc _).trans (Fr.of_below hb1 [])
  clear hb1
  go_wp2
  go_ret2
  have hf2 : Fr [] w (w1.alloc (.cells #[.slice none 0 0] 29)) := hf1.alloc _
  exact ⟨rfl, ⟨pv, sv, rv, nD, nN, ((HI.out.new hf2).more (by omega)).more (by omega)⟩, HI.out.newO hf2⟩
end Go.Proofs.YtejiankgafjppabGreatDoor
/- (*Log).segmentsBelow. -/
namespace Go.Proofs.YtejiankgafjppabGreatDoor
open Go.RowKit
open Sc

/-- how many segments lie below low whole, from k on -/
def belowFrom (segs : List Nat) (low : Nat) : Nat → Nat → Nat
  | 0, k => k
  | f + 1, k => match segs[k + 1]? with
    | none => k
    | some s => if s ≤ low then belowFrom segs low f (k + 1) else k
def segsBelow (segs : List Nat) (low : Nat) : Nat := belowFrom segs low segs.length 0
theorem below_none {segs : List Nat} {low f k : Nat} (h : segs.length ≤ k + 1) : belowFrom segs low f k = k := by
  cases f with
  | zero => rfl
  | succ f => unfold belowFrom; rw [List.getElem?_eq_none h]
theorem below_step {segs : List Nat} {low f k s : Nat} (h : segs[k + 1]? = some s) (hs : s ≤ low) : belowFrom segs low (f + 1) k = belowFrom segs low f (k + 1) := by
  rw [belowFrom, h]; simp [hs]
theorem below_stop {segs : List Nat} {low f k s : Nat} (h : segs[k + 1]? = some s) (hs : ¬ s ≤ low) : belowFrom segs low f k = k := by
  cases f with
  | zero => rfl
  | succ f => rw [belowFrom, h]; simp [hs]
end Go.Proofs.YtejiankgafjppabGreatDoor
/- (*Log).Cut's steps. -/
namespace Go.Proofs.YtejiankgafjppabGreatDoor
open Go.RowKit
open Sc

theorem DFr.keep {w w' : World} {B p bD bN n nD nN q : Nat} {pv : Value} {d : ADisk} {c : Array Value} {t : TypeId} (hf : DFr p w w') (h : DiskIn w B p bD bN pv d n nD nN) (hq : w.heap[q]? = some (.cells c t (0, 0))) (h1 : t ≠ 100) (h2 : t ≠ 150) : w'.heap[q]? = some (.cells c t (0, 0)) :=
  (hf.block q (Array.getElem?_eq_some_iff.1 hq).1 (h.freeD hq h1 h2)).trans hq
theorem own_pos {w : World} {B n : Nat} {e : TypeId} {k : Nat} {v : Value} {xs : List Value} (h : w.ownsRow B e k v n xs) (hn : 0 < n) : ∃ g cap, v = .slice (some ⟨g, 0, none⟩) n cap := by
  rcases h.2 with ⟨_, h3⟩ | ⟨g, cap, cur, rfl, _⟩
  · omega
  · exact ⟨g, cap, rfl⟩
end Go.Proofs.YtejiankgafjppabGreatDoor
/- (*Log).Force. -/
namespace Go.Proofs.YtejiankgafjppabGreatDoor
open Go.RowKit
open Sc

set_option maxRecDepth 100000 in
set_option maxHeartbeats 4000000 in
theorem inTurnF (B lp p bD bN n nD nN gst : Nat) (pv sv rv : Value) (l : ALog) (d : ADisk) (w : World) (h : LogIn w B lp p bD bN pv sv rv l d n nD nN) (hn : n ≤ 67108864)
    (hst : w.heap[gst]? = some (.cells #[.func (.func 143) #[.pointer (some ⟨lp, 0, none⟩)] #[]] 96)) :
    Calls Tryz.prog 142 #[.slice (some ⟨gst, 0, none⟩) 1 1] w (PutL B lp p bD bN n [] (l.sync d) w) := by
  have z0 := blk_cell hst 0
  simp at z0
  have HI : Hid (LogIn w B lp p bD bN pv sv rv l d n nD nN) := h
  clear h
  go_enter Tryz.func142, Tryz.ntmps142
  go_wp2
  refine wp_loop_rounds 2 ?_
  rw [rounds_succ]
  go_wp2_with fail
  refine (lsync_any B lp p bD bN n nD nN pv sv rv l d w HI.out hn).mono ?_
  rintro e w1 ⟨rfl, hl1, ho1⟩
  have H1 : Hid (PutL B lp p bD bN n [] (l.sync d) w (.returned (errN (l.sync d).2.2)) w1) := ⟨rfl, hl1, ho1.x⟩
  clear hl1 ho1
  by_cases hc : (l.sync d).2.2 = 0
  · rw [hc, errN_ok] at H1 ⊢
    go_wp2
    rw [rounds_succ]
    go_wp2
    go_ret
    exact H1.out
  · rw [errN_no hc] at H1 ⊢
    go_wp2
    go_ret
    exact H1.out
set_option maxRecDepth 100000 in
set_option maxHeartbeats 4000000 in
theorem writeF (B lp p bD bN n nD nN gst : Nat) (pv sv rv : Value) (l : ALog) (d : ADisk) (w : World) (h : LogIn w B lp p bD bN pv sv rv l d n nD nN) (hn : n ≤ 67108864)
    (hst : w.heap[gst]? = some (.cells #[.func (.func 143) #[.pointer (some ⟨lp, 0, none⟩)] #[]] 96)) :
    Calls Tryz.prog 178 #[.pointer (some ⟨lp, 0, none⟩), .slice (some ⟨gst, 0, none⟩) 1 1] w (PutL B lp p bD bN n [] (l.wr d (l.sync d)) w) := by
  have c0 := blk_cell h.blk 0
  have c6 := blk_cell h.blk 6
  simp at c0 c6
  have HI : Hid (LogIn w B lp p bD bN pv sv rv l d n nD nN) := h
  have hnil := Tryz.eqNil p
  by_cases hf : l.failed = 0
  · rw [hf, errN_ok] at c6
    have e : l.wr d (l.sync d) = ({ (l.sync d).1 with failed := (l.sync d).2.2 }, (l.sync d).2.1, (l.sync d).2.2) := by unfold ALog.wr; rw [if_pos hf]
    rw [e]
    clear e
    go_enter Tryz.func178, Tryz.ntmps178
    go_wp2_with fail
    refine (inTurnF B lp p bD bN n nD nN gst pv sv rv l d w HI.out hn hst).mono ?_
    rintro e w1 ⟨rfl, ⟨pv1, sv1, rv1, nD1, nN1, hl1⟩, ho1⟩
    have H1 : Hid (LogIn w1 B lp p bD bN pv1 sv1 rv1 (l.sync d).1 (l.sync d).2.1 n nD1 nN1) := hl1
    have HO : Hid (OFx [] lp p w w1) := ho1
    have k6 := blk_cell hl1.blk 6
    have f6 := blk_free hl1.blk 6
    simp at k6
    clear hl1 ho1 hst h
    by_cases hc : (l.sync d).2.2 = 0
    · rw [hc, errN_ok]
      go_wp2
      go_ret
      obtain ⟨hl2, hf2⟩ := H1.out.fail (c := 0) rfl
      unfold PutL
      simp only
      rw [hc]
      exact ⟨rfl, ⟨pv1, sv1, rv1, nD1, nN1, hl2⟩, HO.out.trans (H1.out.ofx hl2 hf2 (by intro k hk _; simp at hk; simp [hk]) (Near.refl _ _) (Near.refl _ _) (Near.refl _ _))⟩
    · have he := errN_no hc
      obtain ⟨hl2, hf2⟩ := H1.out.fail (c := (l.sync d).2.2) rfl
      rw [he] at hl2 hf2 ⊢
      have H2 : Hid (LogIn (w1.setCell ⟨lp, 6, none⟩ (.iface 30 (.int .i64 ((l.sync d).2.2 : Int)))) B lp p bD bN pv1 sv1 rv1 { (l.sync d).1 with failed := (l.sync d).2.2 } (l.sync d).2.1 n nD1 nN1) := hl2
      clear hl2
      go_wp2
      go_ret
      exact ⟨by simp only; rw [he]; rfl, ⟨pv1, sv1, rv1, nD1, nN1, H2.out⟩, HO.out.trans (H1.out.ofx H2.out hf2 (by intro k hk _; simp at hk; simp [hk]) (Near.refl _ _) (Near.refl _ _) (Near.refl _ _))⟩
  · rw [errN_no hf] at c6
    have e : l.wr d (l.sync d) = (l, d, l.failed) := by unfold ALog.wr; rw [if_neg hf]
    rw [e]
    go_enter Tryz.func178, Tryz.ntmps178
    go_wp2
    go_ret
    exact ⟨by simp only; rw [errN_no hf]; rfl, ⟨pv, sv, rv, nD, nN, HI.out⟩, (OFr.refl _ _ _).x⟩
theorem OFx.ofr {lp p : Nat} {w w' : World} (h : OFx [] lp p w w') : OFr lp p w w' := ⟨h.os, h.tape, h.output, h.size, fun k hk hn => h.block k hk hn (by simp), h.stay⟩
def ALog.force (l : ALog) (d : ADisk) : ALog × ADisk × Nat := if l.durable = l.next then (l, d, 0) else l.wr d (l.sync d)
/-- what stands behind a call that answers an error alone -/
def ErrPost (B lp p bD bN n : Nat) (r : ALog × ADisk × Nat) (w : World) (e : Ending) (w' : World) : Prop :=
  e = .returned (errN r.2.2) ∧ (∃ pv sv rv nD nN, LogIn w' B lp p bD bN pv sv rv r.1 r.2.1 n nD nN) ∧ OFr lp p w w'
set_option maxRecDepth 100000 in
set_option maxHeartbeats 4000000 in
theorem force_any (B lp p bD bN n nD nN : Nat) (pv sv rv : Value) (l : ALog) (d : ADisk) (w : World) (h : LogIn w B lp p bD bN pv sv rv l d n nD nN) (hn : n ≤ 67108864) :
    Calls Tryz.prog 130 #[.pointer (some ⟨lp, 0, none⟩)] w (ErrPost B lp p bD bN n (l.force d) w) := by
  have c4 := blk_cell h.blk 4
  have c5 := blk_cell h.blk 5
  simp at c4 c5
  have HI : Hid (LogIn w B lp p bD bN pv sv rv l d n nD nN) := h
  clear h
  by_cases hq : l.durable = l.next
  · have e : l.force d = (l, d, 0) := by unfold ALog.force; rw [if_pos hq]
    rw [e]
    rw [hq] at c5
    go_enter Tryz.func130, Tryz.ntmps130
    go_wp2
    go_region
    go_wp2
    go_ret
    have hf : Fr [] w w.drew := (Fr.refl [] w).drew
    exact ⟨rfl, ⟨pv, sv, rv, nD, nN, HI.out.new hf⟩, HI.out.newO hf⟩
  · have e : l.force d = l.wr d (l.sync d) := by unfold ALog.force; rw [if_neg hq]
    rw [e]
    have i1 : ¬ (l.durable : Int) = (l.next : Int) := by omega
    have i2 : ((l.durable : Int) == (l.next : Int)) = false := by simpa using i1
    go_enter Tryz.func130, Tryz.ntmps130
    go_wp2
    go_region
    go_wp2_with fail
    have hf : Fr [] w (w.drew.alloc (.cells #[.func (.func 143) #[.pointer (some ⟨lp, 0, none⟩)] #[]] 96)) := (Fr.refl [] w).drew.alloc _
    refine (writeF B lp p bD bN n nD nN _ pv sv rv l d _ (HI.out.new hf) hn (heap_alloc_new w.drew _)).mono ?_
    rintro e w1 ⟨rfl, hl1, ho1⟩
    have H1 : Hid (ErrPost B lp p bD bN n (l.wr d (l.sync d)) w (.returned (errN (l.wr d (l.sync d)).2.2)) w1) := ⟨rfl, hl1, (HI.out.newO hf).trans ho1.ofr⟩
    clear hl1 ho1
    go_wp2
    go_ret
    exact H1.out
end Go.Proofs.YtejiankgafjppabGreatDoor
/- The steps of Cut, one behind the other. -/
namespace Go.Proofs.YtejiankgafjppabGreatDoor
open Go.RowKit
open Sc

def ALog.cutS (l : ALog) (d : ADisk) (gone first : Nat) : ALog × ADisk × Nat :=
  if (l.sync d).2.2 = 0 then
    if ((l.sync d).2.1.setMark first).2 = 0 then
      ((l.sync d).1, ((l.sync d).2.1.setMark first).1.removeAll ((l.segs.take gone).map segName))
    else ((l.sync d).1, (l.sync d).2.1.setMark first)
  else l.sync d
theorem LogIn.mores {w : World} {B lp p bD bN n nD nN : Nat} {pv sv rv : Value} {l : ALog} {d : ADisk} (h : LogIn w B lp p bD bN pv sv rv l d n nD nN) {m : Nat} (hm : n ≤ m) (hm2 : m ≤ 67108864) : LogIn w B lp p bD bN pv sv rv l d m nD nN where
  disk := h.disk.mores hm hm2
  blk := h.blk
  base := h.base
  segs := h.segs
  recs := h.recs
  segsN := ⟨Nat.le_trans h.segsN.1 hm, h.segsN.2⟩
  recsN := Nat.le_trans h.recsN hm
  fillN := h.fillN
  nextN := by have := h.nextN; omega
  durN := h.durN
end Go.Proofs.YtejiankgafjppabGreatDoor
/- strings.Clone. -/
namespace Go.Proofs.YtejiankgafjppabGreatDoor
open Go.RowKit
open Sc

theorem cloneS (s : ByteArray) (w : World) (hs : s.size ≤ 281474976710656) :
    Calls Tryz.prog 124 #[.string s] w fun e w' => e = .returned (.string s) ∧ Below w.heap.size w w' := by
  go_enter Tryz.func124, Tryz.ntmps124
  go_wp2_with fail
  refine (Tryz.stringslite_Clone s w hs).mono ?_
  rintro e w1 ⟨rfl, hb⟩
  go_wp2
  go_ret
  exact ⟨rfl, hb⟩
end Go.Proofs.YtejiankgafjppabGreatDoor
