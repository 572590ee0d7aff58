import Derived.Test.YtkhjhojmhllkaaaGreatDoorC11
import Derived.BigQuiet
import Derived.Test.YtkhjhojmhllkaaaGreatDoorC13
import Derived.Test.YtkhjhojmhllkaaaGreatDoorProg
import Derived.Deep.RegionHeld3
import Derived.Test.YtkhjhojmhllkaaaGreatDoorC07
import Derived.Test.YtkhjhojmhllkaaaGreatDoorC10
/- write over Append's steps. -/
namespace Go.Proofs.YtkhjhojmhllkaaaGreatDoor
open Go.RowKit
open Sc

/-- write, when the steps come to r -/
def ALog.wr (l : ALog) (d : ADisk) (r : ALog × ADisk × Nat) : ALog × ADisk × Nat :=
  if l.failed = 0 then ({ r.1 with failed := r.2.2 }, r.2.1, r.2.2) else (l, d, l.failed)
theorem Tryz.eqNil (p : Nat) (w : World) : (binOp .eql 133 (dskV p) .nilIface).run Tryz.prog w = .ok (.bool false) w := by kernel_rfl
theorem LogIn.fail {w w' : World} {B lp p bD bN n nD nN c : Nat} {pv sv rv : Value} {l : ALog} {d : ADisk} (h : LogIn w B lp p bD bN pv sv rv l d n nD nN) (hw : w' = w.setCell ⟨lp, 6, none⟩ (errN c)) : LogIn w' B lp p bD bN pv sv rv { l with failed := c } d n nD nN ∧ Fr [lp] w w' := by
  subst hw
  have hf : Fr [lp] w (w.setCell ⟨lp, 6, none⟩ (errN c)) := Fr.set1 (by simp) _ _
  refine ⟨h.own1 hf ?_ h.segsN h.recsN h.fillN h.nextN h.durN rfl rfl, hf⟩
  have := blk_set h.blk 6 (errN c); simpa using this
set_option maxRecDepth 100000 in
set_option maxHeartbeats 4000000 in
theorem writeA (B lp p bD bN n nD nN bl bb g cap base gst : Nat) (pv sv rv : Value) (l : ALog) (d : ADisk) (by_ : List Nat) (w : World) (h : LogIn w B lp p bD bN pv sv rv l d n nD nN) (hn : n + 1 < 67108864) (hB : 2 ≤ B) (hsg : l.filled < 600 → l.segs ≠ [])
    (hst : w.heap[gst]? = some (.cells #[.func (.func 143) #[.pointer (some ⟨lp, 0, none⟩)] #[], .func (.func 144) #[] #[.pointer (some ⟨bl, 0, none⟩), .pointer (some ⟨bb, 0, none⟩)]] 160))
    (hbl : w.heap[bl]? = some (.cells #[.pointer (some ⟨lp, 0, none⟩)] 71)) (hbb : w.heap[bb]? = some (.cells #[.slice (some ⟨g, 0, none⟩) by_.length cap] 206))
    (hr : w.ownsRow base 5 1 (.slice (some ⟨g, 0, none⟩) by_.length cap) by_.length (bs by_)) (hm2 : by_.length ≤ 4096) (hpow : Pows w) :
    Calls Tryz.prog 142 #[.pointer (some ⟨lp, 0, none⟩), .slice (some ⟨gst, 0, none⟩) 2 2] w (PutL B lp p bD bN (n + 2) [g] (l.wr d (l.put d by_)) w) := by
  have c0 := blk_cell h.blk 0
  have c6 := blk_cell h.blk 6
  simp at c0 c6
  have HI : Hid (LogIn w B lp p bD bN pv sv rv l d n nD nN) := h
  have hnil := Tryz.eqNil p
  by_cases hf : l.failed = 0
  · rw [hf, errN_ok] at c6
    have e : l.wr d (l.put d by_) = ({ (l.put d by_).1 with failed := (l.put d by_).2.2 }, (l.put d by_).2.1, (l.put d by_).2.2) := by unfold ALog.wr; rw [if_pos hf]
    rw [e]
    clear e
    go_enter Tryz.func142, Tryz.ntmps142
    go_wp2_with fail
    refine (inTurnA B lp p bD bN n nD nN bl bb g cap base gst pv sv rv l d by_ w HI.out hn hB hsg hst hbl hbb hr hm2 hpow).mono ?_
    rintro e w1 ⟨rfl, ⟨pv1, sv1, rv1, nD1, nN1, hl1⟩, ho1⟩
    have H1 : Hid (LogIn w1 B lp p bD bN pv1 sv1 rv1 (l.put d by_).1 (l.put d by_).2.1 (n + 2) nD1 nN1) := hl1
    have HO : Hid (OFx [g] lp p w w1) := ho1
    have k6 := blk_cell hl1.blk 6
    have f6 := blk_free hl1.blk 6
    simp at k6
    clear hl1 ho1 hst hbl hbb hr h
    by_cases hc : (l.put d by_).2.2 = 0
    · rw [hc, errN_ok]
      go_wp2
      go_ret
      obtain ⟨hl2, hf2⟩ := H1.out.fail (c := 0) rfl
      unfold PutL
      simp only
      rw [hc]
      exact ⟨rfl, ⟨pv1, sv1, rv1, nD1, nN1, hl2⟩, HO.out.trans (H1.out.ofx hl2 hf2 (by intro k hk _; simp at hk; simp [hk]) (Near.refl _ _) (Near.refl _ _) (Near.refl _ _))⟩
    · have he := errN_no hc
      obtain ⟨hl2, hf2⟩ := H1.out.fail (c := (l.put d by_).2.2) rfl
      rw [he] at hl2 hf2 ⊢
      have H2 : Hid (LogIn (w1.setCell ⟨lp, 6, none⟩ (.iface 31 (.int .i64 ((l.put d by_).2.2 : Int)))) B lp p bD bN pv1 sv1 rv1 { (l.put d by_).1 with failed := (l.put d by_).2.2 } (l.put d by_).2.1 (n + 2) nD1 nN1) := hl2
      clear hl2
      go_wp2
      go_ret
      exact ⟨by simp only; rw [he]; rfl, ⟨pv1, sv1, rv1, nD1, nN1, H2.out⟩, HO.out.trans (H1.out.ofx H2.out hf2 (by intro k hk _; simp at hk; simp [hk]) (Near.refl _ _) (Near.refl _ _) (Near.refl _ _))⟩
  · rw [errN_no hf] at c6
    have e : l.wr d (l.put d by_) = (l, d, l.failed) := by unfold ALog.wr; rw [if_neg hf]
    rw [e]
    go_enter Tryz.func142, Tryz.ntmps142
    go_wp2
    go_ret
    exact ⟨by simp only; rw [errN_no hf]; rfl, ⟨pv, sv, rv, nD, nN, (HI.out.more (by omega)).more (by omega)⟩, (OFr.refl _ _ _).x⟩
end Go.Proofs.YtkhjhojmhllkaaaGreatDoor
/- (*Log).Append. -/
namespace Go.Proofs.YtkhjhojmhllkaaaGreatDoor
open Go.RowKit
open Sc

theorem foldl_push (l : List UInt8) (a : ByteArray) : (l.foldl (fun r n => r.push n) a).data.toList = a.data.toList ++ l := by
  induction l generalizing a with
  | nil => simp
  | cons x l ih => rw [List.foldl_cons, ih]; simp [ByteArray.push]
theorem strOf_bytes (s : ByteArray) : str (bytesOf s) = s := by
  have h : str (bytesOf s) = s.data.toList.foldl (fun r n => r.push n) ByteArray.empty := by
    unfold str bytesOf
    rw [List.map_map, List.foldl_map]
    congr 1
    funext r n
    simp
  have h2 := foldl_push s.data.toList ByteArray.empty
  rw [← h] at h2
  have h3 : (str (bytesOf s)).data = s.data := by
    apply Array.toList_inj.1
    rw [h2]; simp
  cases hs : str (bytesOf s)
  cases s
  rw [hs] at h3
  simp at h3
  rw [h3]
def ALog.append (l : ALog) (d : ADisk) (kind : Nat) (s : ByteArray) : ALog × ADisk × Nat × Nat :=
  if 255 < s.size then (l, d, 0, 1)
  else if (l.wr d (l.put d (recBytes l.next kind (bytesOf s)))).2.2 = 0 then
    ({ (l.wr d (l.put d (recBytes l.next kind (bytesOf s)))).1 with filled := (l.wr d (l.put d (recBytes l.next kind (bytesOf s)))).1.filled + (15 + s.size), recs := (l.wr d (l.put d (recBytes l.next kind (bytesOf s)))).1.recs ++ [⟨(l.wr d (l.put d (recBytes l.next kind (bytesOf s)))).1.next, kind, bytesOf s⟩], next := (l.wr d (l.put d (recBytes l.next kind (bytesOf s)))).1.next + 1 },
      (l.wr d (l.put d (recBytes l.next kind (bytesOf s)))).2.1, (l.wr d (l.put d (recBytes l.next kind (bytesOf s)))).1.next, 0)
  else ((l.wr d (l.put d (recBytes l.next kind (bytesOf s)))).1, (l.wr d (l.put d (recBytes l.next kind (bytesOf s)))).2.1, 0, (l.wr d (l.put d (recBytes l.next kind (bytesOf s)))).2.2)
theorem put_filled {l : ALog} {d : ADisk} {by_ : List Nat} (h : (l.put d by_).2.2 = 0) : (l.put d by_).1.filled < 600 := by
  unfold ALog.put at *
  by_cases hr : (l.room d).2.2 = 0
  · rw [if_pos hr]
    show (l.room d).1.filled < 600
    unfold ALog.room at *
    by_cases hf : l.filled < 600
    · rw [if_pos hf]; exact hf
    · rw [if_neg hf] at hr ⊢
      by_cases hs : (l.sync d).2.2 = 0
      · rw [if_pos hs]; show 0 < 600; omega
      · rw [if_neg hs] at hr; exact absurd hr hs
  · rw [if_neg hr] at h; exact absurd h hr
theorem wr_filled {l : ALog} {d : ADisk} {by_ : List Nat} (h : (l.wr d (l.put d by_)).2.2 = 0) : (l.wr d (l.put d by_)).1.filled < 600 := by
  unfold ALog.wr at *
  by_cases hf : l.failed = 0
  · rw [if_pos hf] at h ⊢; exact put_filled h
  · rw [if_neg hf] at h; exact absurd h hf
def AppPost (B lp p bD bN n : Nat) (r : ALog × ADisk × Nat × Nat) (w : World) (e : Ending) (w' : World) : Prop :=
  e = .returned (.tuple #[.int .u64 (r.2.2.1 : Int), errN r.2.2.2]) ∧ (∃ pv sv rv nD nN, LogIn w' B lp p bD bN pv sv rv r.1 r.2.1 n nD nN) ∧ OFr lp p w w'
theorem LogIn.new {w w' : World} {B lp p bD bN n nD nN : Nat} {pv sv rv : Value} {l : ALog} {d : ADisk} (h : LogIn w B lp p bD bN pv sv rv l d n nD nN) (hf : Fr [] w w') : LogIn w' B lp p bD bN pv sv rv l d n nD nN :=
  h.turned (h.disk.new hf) hf (by simp) (Nat.le_refl _)
theorem LogIn.newO {w w' : World} {B lp p bD bN n nD nN : Nat} {pv sv rv : Value} {l : ALog} {d : ADisk} (h : LogIn w B lp p bD bN pv sv rv l d n nD nN) (hf : Fr [] w w') : OFr lp p w w' :=
  h.ofr (h.new hf) hf (by simp) (.inl rfl) (Near.refl _ _) (Near.refl _ _) (Near.refl _ _)
set_option maxRecDepth 100000 in
set_option maxHeartbeats 4000000 in
theorem lappend_no (B lp p bD bN n nD nN kind : Nat) (pv sv rv : Value) (l : ALog) (d : ADisk) (s : ByteArray) (w : World) (h : LogIn w B lp p bD bN pv sv rv l d n nD nN) (hs : 255 < s.size) (hn : n + 1 < 67108864) :
    Calls Tryz.prog 100 #[.pointer (some ⟨lp, 0, none⟩), .int .u8 (kind : Int), .string s] w (AppPost B lp p bD bN (n + 2) (l.append d kind s) w) := by
  have e : l.append d kind s = (l, d, 0, 1) := by unfold ALog.append; rw [if_pos hs]
  rw [e]
  have hlp := (Array.getElem?_eq_some_iff.1 h.blk).1
  have c4 := blk_cell h.blk 4
  simp at c4
  have c4' : ∀ ob, (w.alloc ob).cell? ⟨lp, 4, none⟩ = some (.int .u64 (l.next : Int)) := fun ob => (World.cell?_of_block (a := ⟨lp, 4, none⟩) (Below.heap_alloc w ob lp hlp)).trans c4
  have HI : Hid (LogIn w B lp p bD bN pv sv rv l d n nD nN) := h
  clear h e
  go_enter Tryz.func100, Tryz.ntmps100
  go_wp2_with fail
  refine (encodeR_no (l.next : Int) (kind : Int) s _ hs).mono ?_
  rintro e w1 ⟨rfl, hb1⟩
  have hf1 : Fr [] w w1 := ((Fr.refl [] w).alloc _).trans (Fr.of_below hb1 [])
  clear hb1
  go_wp2
  go_ret2
  have hf2 : Fr [] w (w1.alloc (.cells #[.slice none 0 0] 206)) := hf1.alloc _
  exact ⟨rfl, ⟨pv, sv, rv, nD, nN, ((HI.out.new hf2).more (by omega)).more (by omega)⟩, HI.out.newO hf2⟩
end Go.Proofs.YtkhjhojmhllkaaaGreatDoor
/- (*Log).segmentsBelow. -/
namespace Go.Proofs.YtkhjhojmhllkaaaGreatDoor
open Go.RowKit
open Sc

/-- how many segments lie below low whole, from k on -/
def belowFrom (segs : List Nat) (low : Nat) : Nat → Nat → Nat
  | 0, k => k
  | f + 1, k => match segs[k + 1]? with
    | none => k
    | some s => if s ≤ low then belowFrom segs low f (k + 1) else k
def segsBelow (segs : List Nat) (low : Nat) : Nat := belowFrom segs low segs.length 0
theorem below_none {segs : List Nat} {low f k : Nat} (h : segs.length ≤ k + 1) : belowFrom segs low f k = k := by
  cases f with
  | zero => rfl
  | succ f => unfold belowFrom; rw [List.getElem?_eq_none h]
theorem below_step {segs : List Nat} {low f k s : Nat} (h : segs[k + 1]? = some s) (hs : s ≤ low) : belowFrom segs low (f + 1) k = belowFrom segs low f (k + 1) := by
  rw [belowFrom, h]; simp [hs]
theorem below_stop {segs : List Nat} {low f k s : Nat} (h : segs[k + 1]? = some s) (hs : ¬ s ≤ low) : belowFrom segs low f k = k := by
  cases f with
  | zero => rfl
  | succ f => rw [belowFrom, h]; simp [hs]
set_option maxRecDepth 100000 in
set_option maxHeartbeats 4000000 in
theorem segsBelow_some (B lp p bD bN n nD nN low gs cs : Nat) (pv rv : Value) (l : ALog) (d : ADisk) (w : World) (h : LogIn w B lp p bD bN pv (.slice (some ⟨gs, 0, none⟩) l.segs.length cs) rv l d n nD nN) :
    Calls Tryz.prog 146 #[.pointer (some ⟨lp, 0, none⟩), .int .u64 (low : Int)] w fun e w' => e = .returned (.int .i64 (segsBelow l.segs low : Nat)) ∧ ∃ q, w' = w.drewN q := by
  have c1 := blk_cell h.blk 1
  simp at c1
  have hsN := h.segsN.1
  have hn := h.disk.hn
  have HI : Hid (LogIn w B lp p bD bN pv (.slice (some ⟨gs, 0, none⟩) l.segs.length cs) rv l d n nD nN) := h
  obtain ⟨S, hS⟩ : ∃ S, S = l.segs.length := ⟨_, rfl⟩
  rw [← hS] at c1 hsN
  have HS : Hid (l.segs.length = S) := hS.symm
  clear h hS
  go_enter Tryz.func146, Tryz.ntmps146
  go_wp2
  go_loopw [5] (fun i wr => ∃ k f : Nat, (k ≤ S) ∧ i = .int .i64 k ∧ k + f = S ∧ segsBelow l.segs low = belowFrom l.segs low f k ∧ ∃ q, wr = w.drewN q) (fun i _ => S - (intOf i).toNat)
  case atStart => exact ⟨0, S, Nat.zero_le _, rfl, by omega, by unfold segsBelow; rw [HS.out], 0, rfl⟩
  case round =>
    obtain ⟨k, f, hk, rfl, hkf, heq, q, hq⟩ := hrel
    have HQ : Hid (wr = w.drewN q) := hq
    have e1 : wr.cell? ⟨lp, 1, none⟩ = some (.slice (some ⟨gs, 0, none⟩) S cs) := by rw [hq, World.cell?_drewN]; exact c1
    have HEQ : Hid (segsBelow l.segs low = belowFrom l.segs low f k) := heq
    clear hq heq
    have j0 : wrap64 ((k : Int) + 1) = (k : Int) + 1 := by unfold wrap64; omega
    have j1 : IntKind.i64.wrap ((k : Int) + 1) = (k : Int) + 1 := by rw [IntKind.wrap_i64]; omega
    have j2 : (0 : Int) ≤ (k : Int) + 1 := by omega
    by_cases hlt : k + 1 < S
    · obtain ⟨s, hs⟩ : ∃ s, l.segs[k + 1]? = some s := ⟨_, List.getElem?_eq_getElem (by rw [HS.out]; exact hlt)⟩
      have s0 := segs_cell HI.out.segs (k + 1) s hs
      have s1 : wr.cell? ⟨gs, k + 1, none⟩ = some (.int .u64 (s : Int)) := by rw [HQ.out, World.cell?_drewN]; exact s0
      have j3 : (k : Int) + 1 < (S : Int) := by omega
      have j4 : ((k : Int) + 1).toNat = k + 1 := by omega
      have HSS : Hid (l.segs[k + 1]? = some s) := hs
      clear hs s0
      by_cases hle : s ≤ low
      · have j5 : (s : Int) ≤ (low : Int) := by omega
        obtain ⟨f', rfl⟩ : ∃ f', f = f' + 1 := ⟨f - 1, by omega⟩
        go_wp2
        refine ⟨⟨k + 1, f', by omega, rfl, by omega, ?_, q, HQ.out⟩, by simp [intOf]; omega⟩
        rw [HEQ.out, below_step HSS.out hle]
      · have j5 : ¬ (s : Int) ≤ (low : Int) := by omega
        go_wp2
        go_ret
        exact ⟨by rw [HEQ.out, below_stop HSS.out hle]; rfl, q, HQ.out⟩
    · have j3 : ¬ (k : Int) + 1 < (S : Int) := by omega
      go_wp2
      go_ret
      exact ⟨by rw [HEQ.out, below_none (by rw [HS.out]; omega)]; rfl, q, HQ.out⟩
end Go.Proofs.YtkhjhojmhllkaaaGreatDoor
/- (*Log).Cut's steps. -/
namespace Go.Proofs.YtkhjhojmhllkaaaGreatDoor
open Go.RowKit
open Sc

/-- the disk has turned -/
theorem LogIn.dturn {w w' : World} {B lp p bD bN n nD nN n' nD' nN' : Nat} {pv sv rv pv' : Value} {l : ALog} {d d' : ADisk} (h : LogIn w B lp p bD bN pv sv rv l d n nD nN) (hd : DiskIn w' B p bD bN pv' d' n' nD' nN') (hf : DFr p w w') (hn : n ≤ n') : LogIn w' B lp p bD bN pv' sv rv l d' n' nD' nN' ∧ OFr lp p w w' := by
  have hb : w'.heap[lp]? = w.heap[lp]? := hf.block lp (Array.getElem?_eq_some_iff.1 h.blk).1 (h.disk.freeD h.blk (by decide) (by decide))
  refine ⟨{ disk := hd, blk := hb.trans h.blk, base := h.base, segs := hf.row h.disk h.segs (by decide) (by decide), recs := hf.row h.disk h.recs (by decide) (by decide), segsN := ⟨by have := h.segsN.1; omega, h.segsN.2⟩, recsN := by have := h.recsN; omega, fillN := h.fillN, nextN := by have := h.nextN; omega, durN := h.durN }, ?_⟩
  refine ⟨hf.os, hf.tape, hf.output, hf.size, fun k hk hn => hf.block k hk (fun ho => hn ?_), fun k hk ho => ?_⟩
  · rcases ho with e | e
    · exact .inr (.inl e)
    · exact .inr (.inr (.inr e))
  · rcases ho with e | e | e | e
    · exact .inl e
    · exact .inr (.inl e)
    · rw [hb] at e; exact .inr (.inr (.inl e))
    · rcases hf.stay k hk (.inr e) with e | e
      · exact .inr (.inl e)
      · exact .inr (.inr (.inr e))
theorem DFr.keep {w w' : World} {B p bD bN n nD nN q : Nat} {pv : Value} {d : ADisk} {c : Array Value} {t : TypeId} (hf : DFr p w w') (h : DiskIn w B p bD bN pv d n nD nN) (hq : w.heap[q]? = some (.cells c t (0, 0))) (h1 : t ≠ 97) (h2 : t ≠ 130) : w'.heap[q]? = some (.cells c t (0, 0)) :=
  (hf.block q (Array.getElem?_eq_some_iff.1 hq).1 (h.freeD hq h1 h2)).trans hq
set_option maxRecDepth 100000 in
set_option maxHeartbeats 4000000 in
theorem cut1_any (B lp p bD bN n nD nN bl bf first : Nat) (pv sv rv : Value) (l : ALog) (d : ADisk) (w : World) (h : LogIn w B lp p bD bN pv sv rv l d n nD nN) (hn : n + 2 ≤ 67108864) (hx : first < 18446744073709551616)
    (hbl : w.heap[bl]? = some (.cells #[.pointer (some ⟨lp, 0, none⟩)] 71)) (hbf : w.heap[bf]? = some (.cells #[.int .u64 (first : Int)] 33)) :
    Calls Tryz.prog 147 #[.pointer (some ⟨bl, 0, none⟩), .pointer (some ⟨bf, 0, none⟩)] w fun e w' => e = .returned (errN (d.setMark first).2) ∧ (∃ pv' nD' nN', LogIn w' B lp p bD bN pv' sv rv l (d.setMark first).1 (n + 2) nD' nN') ∧ OFr lp p w w' := by
  have x0 := blk_cell hbl 0
  have y0 := blk_cell hbf 0
  have c0 := blk_cell h.blk 0
  simp at x0 y0 c0
  have HI : Hid (LogIn w B lp p bD bN pv sv rv l d n nD nN) := h
  have HBL : Hid (w.heap[bl]? = some (.cells #[.pointer (some ⟨lp, 0, none⟩)] 71)) := hbl
  have HBF : Hid (w.heap[bf]? = some (.cells #[.int .u64 (first : Int)] 33)) := hbf
  clear h hbl hbf
  go_enter Tryz.func147, Tryz.ntmps147
  go_wp2
  go_region_held3 (fun w' => w'.cell? ⟨bl, 0, none⟩ = some (.pointer (some ⟨lp, 0, none⟩)) ∧ w'.cell? ⟨lp, 0, none⟩ = some (dskV p) ∧ w'.cell? ⟨bf, 0, none⟩ = some (.int .u64 (first : Int)))
    (simp [*])
    (first | (go_at_call 148; refine (setMark_any B p bD bN n nD nN first pv d w.drew (HI.out.disk.new (Fr.refl [] w).drew) hn hx).mono ?_; rintro e w1 ⟨rfl, ⟨pv1, nD1, nN1, hd1⟩, hf1⟩; have q1 := (HI.out.new (Fr.refl [] w).drew).dturn hd1 hf1 (by omega); have x1 : w1.cell? ⟨bl, 0, none⟩ = some (.pointer (some ⟨lp, 0, none⟩)) := (blk_cell (hf1.keep (HI.out.disk.new (Fr.refl [] w).drew) (show w.drew.heap[bl]? = _ from HBL.out) (by decide) (by decide)) 0).trans (by simp); have c1 : w1.cell? ⟨lp, 0, none⟩ = some (dskV p) := (blk_cell q1.1.blk 0).trans (by simp); have y1 : w1.cell? ⟨bf, 0, none⟩ = some (.int .u64 (first : Int)) := (blk_cell (hf1.keep (HI.out.disk.new (Fr.refl [] w).drew) (show w.drew.heap[bf]? = _ from HBF.out) (by decide) (by decide)) 0).trans (by simp); have Q1 : Hid (LogIn w1 B lp p bD bN pv1 sv rv l (d.setMark first).1 (n + 2) nD1 nN1 ∧ OFr lp p w w1) := ⟨q1.1, (HI.out.newO (Fr.refl [] w).drew).trans q1.2⟩; clear q1 hd1 hf1))
  all_goals go_wp2
  all_goals go_ret
  all_goals exact ⟨rfl, ⟨pv1, nD1, nN1, Q1.out.1⟩, Q1.out.2⟩
theorem own_pos {w : World} {B n : Nat} {e : TypeId} {k : Nat} {v : Value} {xs : List Value} (h : w.ownsRow B e k v n xs) (hn : 0 < n) : ∃ g cap, v = .slice (some ⟨g, 0, none⟩) n cap := by
  rcases h.2 with ⟨_, h3⟩ | ⟨g, cap, cur, rfl, _⟩
  · omega
  · exact ⟨g, cap, rfl⟩
theorem take_cells {w : World} {B gs n cs m : Nat} {l : List Nat} (h : w.ownsRow B 33 1 (.slice (some ⟨gs, 0, none⟩) n cs) n (u64s l)) (hb : ∀ s ∈ l, s < 18446744073709551616) (k x : Nat) (hk : (l.take m)[k]? = some x) : w.cell? ⟨gs, 0 + k, none⟩ = some (.int .u64 (x : Int)) ∧ x < 18446744073709551616 := by
  have h1 : l[k]? = some x := by
    rw [List.getElem?_take] at hk
    split at hk
    · exact hk
    · cases hk
  rw [Nat.zero_add]
  exact ⟨segs_cell h k x h1, hb x (List.mem_of_getElem? h1)⟩
set_option maxRecDepth 100000 in
set_option maxHeartbeats 4000000 in
theorem cut2_any (B lp p bD bN n nD nN bl bg gone gs cs : Nat) (pv rv : Value) (l : ALog) (d : ADisk) (w : World) (h : LogIn w B lp p bD bN pv (.slice (some ⟨gs, 0, none⟩) l.segs.length cs) rv l d n nD nN) (hg : gone ≤ l.segs.length) (hg0 : 0 < gone) (hn : n + gone ≤ 67108864) (hB : 2 ≤ B) (hpow : Pows w)
    (hbl : w.heap[bl]? = some (.cells #[.pointer (some ⟨lp, 0, none⟩)] 71)) (hbg : w.heap[bg]? = some (.cells #[.int .i64 (gone : Int)] 3)) :
    Calls Tryz.prog 149 #[.pointer (some ⟨bl, 0, none⟩), .pointer (some ⟨bg, 0, none⟩)] w fun e w' => e = .returned (errN (d.removeAll ((l.segs.take gone).map segName)).2) ∧ (∃ pv' nD' nN', LogIn w' B lp p bD bN pv' (.slice (some ⟨gs, 0, none⟩) l.segs.length cs) rv l (d.removeAll ((l.segs.take gone).map segName)).1 (n + gone) nD' nN') ∧ OFr lp p w w' := by
  have x0 := blk_cell hbl 0
  have y0 := blk_cell hbg 0
  have c0 := blk_cell h.blk 0
  have c1 := blk_cell h.blk 1
  simp at x0 y0 c0 c1
  have hcap : l.segs.length ≤ cs ∧ cs ≤ maxLen := by
    rcases h.segs.2 with ⟨e, _⟩ | ⟨g', cap', cur, e, _, _, h3, h4, _⟩
    · cases e
    · cases e; exact ⟨h3, h4⟩
  have hlt : bl < w.heap.size ∧ bg < w.heap.size ∧ lp < w.heap.size ∧ gs < w.heap.size ∧ 1 < w.heap.size := ⟨(Array.getElem?_eq_some_iff.1 hbl).1, (Array.getElem?_eq_some_iff.1 hbg).1, (Array.getElem?_eq_some_iff.1 h.blk).1, (h.segs.lt gs rfl).2, by have := h.disk.base.2.2.2; omega⟩
  have hsl := h.segsN
  have hnn := h.disk.hn
  have i0 : (0 : Int) ≤ (gone : Int) := by omega
  have i1 : (gone : Int) ≤ (cs : Int) := by omega
  have HI : Hid (LogIn w B lp p bD bN pv (.slice (some ⟨gs, 0, none⟩) l.segs.length cs) rv l d n nD nN) := h
  have HBL : Hid (w.heap[bl]? = some (.cells #[.pointer (some ⟨lp, 0, none⟩)] 71)) := hbl
  have HBG : Hid (w.heap[bg]? = some (.cells #[.int .i64 (gone : Int)] 3)) := hbg
  have HSL : Hid (l.segs.length ≤ n ∧ ∀ s ∈ l.segs, s < 18446744073709551616) := hsl
  have htl : (l.segs.take gone).length = gone := by rw [List.length_take]; omega
  have HNS : Hid (∀ x ∈ (l.segs.take gone).map segName, x.size ≤ maxLen) := by
    intro x hx
    obtain ⟨y, hy, rfl⟩ := List.mem_map.1 hx
    have := segName_size y (hsl.2 y (List.mem_of_mem_take hy))
    unfold maxLen; omega
  clear h hbl hbg hsl
  go_enter Tryz.func149, Tryz.ntmps149
  go_wp2
  go_region_held3 (fun w' => w'.cell? ⟨bl, 0, none⟩ = some (.pointer (some ⟨lp, 0, none⟩)) ∧ w'.cell? ⟨lp, 0, none⟩ = some (dskV p) ∧ w'.cell? ⟨lp, 1, none⟩ = some (.slice (some ⟨gs, 0, none⟩) l.segs.length cs) ∧ w'.cell? ⟨bg, 0, none⟩ = some (.int .i64 (gone : Int)))
    (simp [*])
    (first | (go_at_call 150; refine (namesOf_some gs 0 gone cs (l.segs.take gone) w.drew htl (by omega) (take_cells HI.out.segs HSL.out.2) hlt.2.2.2.1 (show Pows w.drew from hpow) hlt.2.2.2.2).mono ?_; rintro e w1 ⟨v1, rfl, hv1, hb0⟩; obtain ⟨gn, cn, hv⟩ := own_pos hv1 hg0; subst hv; have hb1 : Below w.heap.size w w1 := ⟨hb0.os, hb0.tape, hb0.output, hb0.size, hb0.block⟩; have x1 := (hb1.cell (p := ⟨bl, 0, none⟩) hlt.1).trans x0; have y1 := (hb1.cell (p := ⟨bg, 0, none⟩) hlt.2.1).trans y0; have d0 := (hb1.cell (p := ⟨lp, 0, none⟩) hlt.2.2.1).trans c0; have d1 := (hb1.cell (p := ⟨lp, 1, none⟩) hlt.2.2.1).trans c1; have HB1 : Hid (Below w.heap.size w w1) := hb1; have HV1 : Hid (w1.ownsRow w.drew.heap.size 9 1 (.slice (some ⟨gn, 0, none⟩) gone cn) gone (namesV ((l.segs.take gone).map segName))) := hv1; clear hb1 hb0 hv1) | (go_at_call 128; refine (removeAll_some B p bD bN n nD nN gn gone cn _ pv d ((l.segs.take gone).map segName) w1 (HI.out.disk.new (Fr.of_below HB1.out [])) (by rw [List.length_map]; exact htl) hn HV1.out HNS.out).mono ?_; rintro e w2 ⟨rfl, ⟨pv2, nD2, nN2, hd2⟩, hf2⟩; have hl1 := HI.out.new (Fr.of_below HB1.out []); have q2 := hl1.dturn hd2 hf2 (by omega); have x2 : w2.cell? ⟨bl, 0, none⟩ = some (.pointer (some ⟨lp, 0, none⟩)) := (blk_cell (hf2.keep hl1.disk ((HB1.out.block bl hlt.1).trans HBL.out) (by decide) (by decide)) 0).trans (by simp); have y2 : w2.cell? ⟨bg, 0, none⟩ = some (.int .i64 (gone : Int)) := (blk_cell (hf2.keep hl1.disk ((HB1.out.block bg hlt.2.1).trans HBG.out) (by decide) (by decide)) 0).trans (by simp); have e0 : w2.cell? ⟨lp, 0, none⟩ = some (dskV p) := (blk_cell q2.1.blk 0).trans (by simp); have e1 : w2.cell? ⟨lp, 1, none⟩ = some (.slice (some ⟨gs, 0, none⟩) l.segs.length cs) := (blk_cell q2.1.blk 1).trans (by simp); have Q2 : Hid (LogIn w2 B lp p bD bN pv2 (.slice (some ⟨gs, 0, none⟩) l.segs.length cs) rv l (d.removeAll ((l.segs.take gone).map segName)).1 (n + gone) nD2 nN2 ∧ OFr lp p w w2) := ⟨q2.1, (HI.out.newO (Fr.of_below HB1.out [])).trans q2.2⟩; clear q2 hl1 hd2 hf2))
  all_goals go_wp2
  all_goals go_ret
  all_goals exact ⟨by rw [List.map_take]; rfl, ⟨pv2, nD2, nN2, Q2.out.1⟩, Q2.out.2⟩
end Go.Proofs.YtkhjhojmhllkaaaGreatDoor
/- (*Log).Force. -/
namespace Go.Proofs.YtkhjhojmhllkaaaGreatDoor
open Go.RowKit
open Sc

set_option maxRecDepth 100000 in
set_option maxHeartbeats 4000000 in
theorem inTurnF (B lp p bD bN n nD nN gst : Nat) (pv sv rv : Value) (l : ALog) (d : ADisk) (w : World) (h : LogIn w B lp p bD bN pv sv rv l d n nD nN) (hn : n ≤ 67108864)
    (hst : w.heap[gst]? = some (.cells #[.func (.func 126) #[.pointer (some ⟨lp, 0, none⟩)] #[]] 160)) :
    Calls Tryz.prog 125 #[.slice (some ⟨gst, 0, none⟩) 1 1] w (PutL B lp p bD bN n [] (l.sync d) w) := by
  have z0 := blk_cell hst 0
  simp at z0
  have HI : Hid (LogIn w B lp p bD bN pv sv rv l d n nD nN) := h
  clear h
  go_enter Tryz.func125, Tryz.ntmps125
  go_wp2
  refine wp_loop_rounds 2 ?_
  rw [rounds_succ]
  go_wp2_with fail
  refine (lsync_any B lp p bD bN n nD nN pv sv rv l d w HI.out hn).mono ?_
  rintro e w1 ⟨rfl, hl1, ho1⟩
  have H1 : Hid (PutL B lp p bD bN n [] (l.sync d) w (.returned (errN (l.sync d).2.2)) w1) := ⟨rfl, hl1, ho1.x⟩
  clear hl1 ho1
  by_cases hc : (l.sync d).2.2 = 0
  · rw [hc, errN_ok] at H1 ⊢
    go_wp2
    rw [rounds_succ]
    go_wp2
    go_ret
    exact H1.out
  · rw [errN_no hc] at H1 ⊢
    go_wp2
    go_ret
    exact H1.out
set_option maxRecDepth 100000 in
set_option maxHeartbeats 4000000 in
theorem writeF (B lp p bD bN n nD nN gst : Nat) (pv sv rv : Value) (l : ALog) (d : ADisk) (w : World) (h : LogIn w B lp p bD bN pv sv rv l d n nD nN) (hn : n ≤ 67108864)
    (hst : w.heap[gst]? = some (.cells #[.func (.func 126) #[.pointer (some ⟨lp, 0, none⟩)] #[]] 160)) :
    Calls Tryz.prog 142 #[.pointer (some ⟨lp, 0, none⟩), .slice (some ⟨gst, 0, none⟩) 1 1] w (PutL B lp p bD bN n [] (l.wr d (l.sync d)) w) := by
  have c0 := blk_cell h.blk 0
  have c6 := blk_cell h.blk 6
  simp at c0 c6
  have HI : Hid (LogIn w B lp p bD bN pv sv rv l d n nD nN) := h
  have hnil := Tryz.eqNil p
  by_cases hf : l.failed = 0
  · rw [hf, errN_ok] at c6
    have e : l.wr d (l.sync d) = ({ (l.sync d).1 with failed := (l.sync d).2.2 }, (l.sync d).2.1, (l.sync d).2.2) := by unfold ALog.wr; rw [if_pos hf]
    rw [e]
    clear e
    go_enter Tryz.func142, Tryz.ntmps142
    go_wp2_with fail
    refine (inTurnF B lp p bD bN n nD nN gst pv sv rv l d w HI.out hn hst).mono ?_
    rintro e w1 ⟨rfl, ⟨pv1, sv1, rv1, nD1, nN1, hl1⟩, ho1⟩
    have H1 : Hid (LogIn w1 B lp p bD bN pv1 sv1 rv1 (l.sync d).1 (l.sync d).2.1 n nD1 nN1) := hl1
    have HO : Hid (OFx [] lp p w w1) := ho1
    have k6 := blk_cell hl1.blk 6
    have f6 := blk_free hl1.blk 6
    simp at k6
    clear hl1 ho1 hst h
    by_cases hc : (l.sync d).2.2 = 0
    · rw [hc, errN_ok]
      go_wp2
      go_ret
      obtain ⟨hl2, hf2⟩ := H1.out.fail (c := 0) rfl
      unfold PutL
      simp only
      rw [hc]
      exact ⟨rfl, ⟨pv1, sv1, rv1, nD1, nN1, hl2⟩, HO.out.trans (H1.out.ofx hl2 hf2 (by intro k hk _; simp at hk; simp [hk]) (Near.refl _ _) (Near.refl _ _) (Near.refl _ _))⟩
    · have he := errN_no hc
      obtain ⟨hl2, hf2⟩ := H1.out.fail (c := (l.sync d).2.2) rfl
      rw [he] at hl2 hf2 ⊢
      have H2 : Hid (LogIn (w1.setCell ⟨lp, 6, none⟩ (.iface 31 (.int .i64 ((l.sync d).2.2 : Int)))) B lp p bD bN pv1 sv1 rv1 { (l.sync d).1 with failed := (l.sync d).2.2 } (l.sync d).2.1 n nD1 nN1) := hl2
      clear hl2
      go_wp2
      go_ret
      exact ⟨by simp only; rw [he]; rfl, ⟨pv1, sv1, rv1, nD1, nN1, H2.out⟩, HO.out.trans (H1.out.ofx H2.out hf2 (by intro k hk _; simp at hk; simp [hk]) (Near.refl _ _) (Near.refl _ _) (Near.refl _ _))⟩
  · rw [errN_no hf] at c6
    have e : l.wr d (l.sync d) = (l, d, l.failed) := by unfold ALog.wr; rw [if_neg hf]
    rw [e]
    go_enter Tryz.func142, Tryz.ntmps142
    go_wp2
    go_ret
    exact ⟨by simp only; rw [errN_no hf]; rfl, ⟨pv, sv, rv, nD, nN, HI.out⟩, (OFr.refl _ _ _).x⟩
theorem OFx.ofr {lp p : Nat} {w w' : World} (h : OFx [] lp p w w') : OFr lp p w w' := ⟨h.os, h.tape, h.output, h.size, fun k hk hn => h.block k hk hn (by simp), h.stay⟩
def ALog.force (l : ALog) (d : ADisk) : ALog × ADisk × Nat := if l.durable = l.next then (l, d, 0) else l.wr d (l.sync d)
/-- what stands behind a call that answers an error alone -/
def ErrPost (B lp p bD bN n : Nat) (r : ALog × ADisk × Nat) (w : World) (e : Ending) (w' : World) : Prop :=
  e = .returned (errN r.2.2) ∧ (∃ pv sv rv nD nN, LogIn w' B lp p bD bN pv sv rv r.1 r.2.1 n nD nN) ∧ OFr lp p w w'
set_option maxRecDepth 100000 in
set_option maxHeartbeats 4000000 in
theorem force_any (B lp p bD bN n nD nN : Nat) (pv sv rv : Value) (l : ALog) (d : ADisk) (w : World) (h : LogIn w B lp p bD bN pv sv rv l d n nD nN) (hn : n ≤ 67108864) :
    Calls Tryz.prog 101 #[.pointer (some ⟨lp, 0, none⟩)] w (ErrPost B lp p bD bN n (l.force d) w) := by
  have c4 := blk_cell h.blk 4
  have c5 := blk_cell h.blk 5
  simp at c4 c5
  have HI : Hid (LogIn w B lp p bD bN pv sv rv l d n nD nN) := h
  clear h
  by_cases hq : l.durable = l.next
  · have e : l.force d = (l, d, 0) := by unfold ALog.force; rw [if_pos hq]
    rw [e]
    rw [hq] at c5
    go_enter Tryz.func101, Tryz.ntmps101
    go_wp2
    go_region
    go_wp2
    go_ret
    have hf : Fr [] w w.drew := (Fr.refl [] w).drew
    exact ⟨rfl, ⟨pv, sv, rv, nD, nN, HI.out.new hf⟩, HI.out.newO hf⟩
  · have e : l.force d = l.wr d (l.sync d) := by unfold ALog.force; rw [if_neg hq]
    rw [e]
    have i1 : ¬ (l.durable : Int) = (l.next : Int) := by omega
    have i2 : ((l.durable : Int) == (l.next : Int)) = false := by simpa using i1
    go_enter Tryz.func101, Tryz.ntmps101
    go_wp2
    go_region
    go_wp2_with fail
    have hf : Fr [] w (w.drew.alloc (.cells #[.func (.func 126) #[.pointer (some ⟨lp, 0, none⟩)] #[]] 160)) := (Fr.refl [] w).drew.alloc _
    refine (writeF B lp p bD bN n nD nN _ pv sv rv l d _ (HI.out.new hf) hn (heap_alloc_new w.drew _)).mono ?_
    rintro e w1 ⟨rfl, hl1, ho1⟩
    have H1 : Hid (ErrPost B lp p bD bN n (l.wr d (l.sync d)) w (.returned (errN (l.wr d (l.sync d)).2.2)) w1) := ⟨rfl, hl1, (HI.out.newO hf).trans ho1.ofr⟩
    clear hl1 ho1
    go_wp2
    go_ret
    exact H1.out
end Go.Proofs.YtkhjhojmhllkaaaGreatDoor
/- The steps of Cut, one behind the other. -/
namespace Go.Proofs.YtkhjhojmhllkaaaGreatDoor
open Go.RowKit
open Sc

def ALog.cutS (l : ALog) (d : ADisk) (gone first : Nat) : ALog × ADisk × Nat :=
  if (l.sync d).2.2 = 0 then
    if ((l.sync d).2.1.setMark first).2 = 0 then
      ((l.sync d).1, ((l.sync d).2.1.setMark first).1.removeAll ((l.segs.take gone).map segName))
    else ((l.sync d).1, (l.sync d).2.1.setMark first)
  else l.sync d
/-- how many files it tells the disk to remove -/
def ALog.cutG (l : ALog) (d : ADisk) (gone first : Nat) : Nat := if (l.sync d).2.2 = 0 then (if ((l.sync d).2.1.setMark first).2 = 0 then gone else 0) else 0
theorem cutG_le (l : ALog) (d : ADisk) (gone first : Nat) : l.cutG d gone first ≤ gone := by
  unfold ALog.cutG
  split
  · split <;> omega
  · omega
theorem LogIn.mores {w : World} {B lp p bD bN n nD nN : Nat} {pv sv rv : Value} {l : ALog} {d : ADisk} (h : LogIn w B lp p bD bN pv sv rv l d n nD nN) {m : Nat} (hm : n ≤ m) (hm2 : m ≤ 67108864) : LogIn w B lp p bD bN pv sv rv l d m nD nN where
  disk := h.disk.mores hm hm2
  blk := h.blk
  base := h.base
  segs := h.segs
  recs := h.recs
  segsN := ⟨Nat.le_trans h.segsN.1 hm, h.segsN.2⟩
  recsN := Nat.le_trans h.recsN hm
  fillN := h.fillN
  nextN := by have := h.nextN; omega
  durN := h.durN
theorem sync_segs (l : ALog) (d : ADisk) : (l.sync d).1.segs = l.segs := by unfold ALog.sync; split <;> rfl
theorem sync_recs (l : ALog) (d : ADisk) : (l.sync d).1.recs = l.recs := by unfold ALog.sync; split <;> rfl
set_option maxRecDepth 100000 in
set_option maxHeartbeats 4000000 in
theorem inTurnC (B lp p bD bN n nD nN gst bl bf bg first gone : Nat) (pv sv rv : Value) (l : ALog) (d : ADisk) (w : World) (h : LogIn w B lp p bD bN pv sv rv l d n nD nN) (hn : n + 2 + gone ≤ 67108864) (hB : 2 ≤ B) (hpow : Pows w) (hx : first < 18446744073709551616) (hg : gone ≤ l.segs.length) (hg0 : 0 < gone)
    (hst : w.heap[gst]? = some (.cells #[.func (.func 126) #[.pointer (some ⟨lp, 0, none⟩)] #[], .func (.func 147) #[] #[.pointer (some ⟨bl, 0, none⟩), .pointer (some ⟨bf, 0, none⟩)], .func (.func 149) #[] #[.pointer (some ⟨bl, 0, none⟩), .pointer (some ⟨bg, 0, none⟩)]] 160))
    (hbl : w.heap[bl]? = some (.cells #[.pointer (some ⟨lp, 0, none⟩)] 71)) (hbf : w.heap[bf]? = some (.cells #[.int .u64 (first : Int)] 33)) (hbo : ¬ Own lp p w bf) (hbg : w.heap[bg]? = some (.cells #[.int .i64 (gone : Int)] 3)) :
    Calls Tryz.prog 125 #[.slice (some ⟨gst, 0, none⟩) 3 3] w (PutL B lp p bD bN (n + 2 + l.cutG d gone first) [] (l.cutS d gone first) w) := by
  have HGL : Hid (n + 2 + l.cutG d gone first ≤ 67108864) := by have := cutG_le l d gone first; show n + 2 + l.cutG d gone first ≤ 67108864; omega
  have z0 := blk_cell hst 0
  simp at z0
  have HI : Hid (LogIn w B lp p bD bN pv sv rv l d n nD nN) := h
  have hb6 : 1 < w.heap.size := by have := h.disk.base.2.2.2; omega
  go_enter Tryz.func125, Tryz.ntmps125
  go_wp2
  refine wp_loop_rounds 4 ?_
  rw [rounds_succ]
  go_wp2_with fail
  refine (lsync_any B lp p bD bN n nD nN pv sv rv l d w HI.out (by omega)).mono ?_
  rintro e w1 ⟨rfl, ⟨pv1, sv1, rv1, nD1, nN1, hl1⟩, ho1⟩
  have fre : ∀ {q : Nat} {c : Array Value} {t : TypeId}, w.heap[q]? = some (.cells c t (0, 0)) → t ≠ 97 → t ≠ 130 → t ≠ 187 → t ≠ 33 → t ≠ 103 → w1.heap[q]? = some (.cells c t (0, 0)) := fun {q c t} hq h1 h2 h3 h4 h5 =>
    (ho1.block q (Array.getElem?_eq_some_iff.1 hq).1 (HI.out.free hq h1 h2 h3 h4 h5)).trans hq
  have hst1 := fre hst (by decide) (by decide) (by decide) (by decide) (by decide)
  have hbl1 := fre hbl (by decide) (by decide) (by decide) (by decide) (by decide)
  have hbg1 := fre hbg (by decide) (by decide) (by decide) (by decide) (by decide)
  have hbf1 := (ho1.block bf (Array.getElem?_eq_some_iff.1 hbf).1 hbo).trans hbf
  have hpow1 : Pows w1 := hpow.of_block (ho1.block 1 hb6 (fun ho => by have := HI.out.ge ho; omega))
  have z1 := blk_cell hst1 1
  simp at z1
  have hb61 : 1 < w1.heap.size := by have := ho1.size; omega
  have H1 : Hid (LogIn w1 B lp p bD bN pv1 sv1 rv1 (l.sync d).1 (l.sync d).2.1 n nD1 nN1) := hl1
  have HO : Hid (OFr lp p w w1) := ho1
  have HST : Hid (w1.heap[gst]? = _) := hst1
  have HBL : Hid (w1.heap[bl]? = _) := hbl1
  have HBF : Hid (w1.heap[bf]? = _) := hbf1
  have HBG : Hid (w1.heap[bg]? = _) := hbg1
  clear h hl1 ho1 hst1 hbl1 hbf1 hbg1 hst hbl hbf hbg fre z0 hbo
  by_cases hc : (l.sync d).2.2 = 0
  · rw [hc, errN_ok]
    go_wp2
    rw [rounds_succ]
    go_wp2_with fail
    refine (cut1_any B lp p bD bN n nD1 nN1 bl bf first pv1 sv1 rv1 (l.sync d).1 (l.sync d).2.1 w1 H1.out (by omega) hx HBL.out HBF.out).mono ?_
    rintro e w2 ⟨rfl, ⟨pv2, nD2, nN2, hl2⟩, ho2⟩
    have fre : ∀ {q : Nat} {c : Array Value} {t : TypeId}, w1.heap[q]? = some (.cells c t (0, 0)) → t ≠ 97 → t ≠ 130 → t ≠ 187 → t ≠ 33 → t ≠ 103 → w2.heap[q]? = some (.cells c t (0, 0)) := fun {q c t} hq h1 h2 h3 h4 h5 =>
      (ho2.block q (Array.getElem?_eq_some_iff.1 hq).1 (H1.out.free hq h1 h2 h3 h4 h5)).trans hq
    have hst2 := fre HST.out (by decide) (by decide) (by decide) (by decide) (by decide)
    have hbl2 := fre HBL.out (by decide) (by decide) (by decide) (by decide) (by decide)
    have hbg2 := fre HBG.out (by decide) (by decide) (by decide) (by decide) (by decide)
    have hpow2 : Pows w2 := hpow1.of_block (ho2.block 1 hb61 (fun ho => by have := H1.out.ge ho; omega))
    have z2 := blk_cell hst2 2
    simp at z2
    have H2 : Hid (LogIn w2 B lp p bD bN pv2 sv1 rv1 (l.sync d).1 ((l.sync d).2.1.setMark first).1 (n + 2) nD2 nN2) := hl2
    have HO2 : Hid (OFr lp p w w2) := HO.out.trans ho2
    have HBL2 : Hid (w2.heap[bl]? = _) := hbl2
    have HBG2 : Hid (w2.heap[bg]? = _) := hbg2
    clear hl2 ho2 hst2 hbl2 hbg2 fre z1 hpow1
    by_cases hc2 : ((l.sync d).2.1.setMark first).2 = 0
    · obtain ⟨nm, hnm⟩ : ∃ nm, nm = (l.segs.take gone).map segName := ⟨_, rfl⟩
      have e : l.cutS d gone first = ((l.sync d).1, ((l.sync d).2.1.setMark first).1.removeAll nm) := by unfold ALog.cutS; rw [if_pos hc, if_pos hc2, hnm]
      have HE : Hid (l.cutS d gone first = ((l.sync d).1, ((l.sync d).2.1.setMark first).1.removeAll nm)) := e
      have HNM : Hid (nm = (l.segs.take gone).map segName) := hnm
      clear e hnm
      obtain ⟨gs, cs, hsv⟩ := own_pos H2.out.segs (by rw [sync_segs]; omega)
      subst hsv
      rw [hc2, errN_ok]
      go_wp2
      rw [rounds_succ]
      go_wp2_with fail
      refine (cut2_any B lp p bD bN (n + 2) nD2 nN2 bl bg gone gs cs pv2 rv1 (l.sync d).1 ((l.sync d).2.1.setMark first).1 w2 H2.out (by rw [sync_segs]; exact hg) hg0 hn hB hpow2 HBL2.out HBG2.out).mono ?_
      rintro e w3 ⟨rfl, ⟨pv3, nD3, nN3, hl3⟩, ho3⟩
      rw [sync_segs] at hl3 ⊢
      rw [← HNM.out] at hl3 ⊢
      have H3 : Hid (PutL B lp p bD bN (n + 2 + l.cutG d gone first) [] (l.cutS d gone first) w (.returned (errN (((l.sync d).2.1.setMark first).1.removeAll nm).2)) w3) := by
        show PutL _ _ _ _ _ _ _ _ _ _ _
        have eg : l.cutG d gone first = gone := by unfold ALog.cutG; rw [if_pos hc, if_pos hc2]
        rw [HE.out, eg]
        exact ⟨rfl, ⟨pv3, _, rv1, nD3, nN3, hl3⟩, (HO2.out.trans ho3).x⟩
      clear hl3 ho3
      by_cases hc3 : (((l.sync d).2.1.setMark first).1.removeAll nm).2 = 0
      · rw [hc3, errN_ok] at H3 ⊢
        go_wp2
        rw [rounds_succ]
        go_wp2
        go_ret
        exact H3.out
      · rw [errN_no hc3] at H3 ⊢
        go_wp2
        go_ret
        exact H3.out
    · have H3 : Hid (PutL B lp p bD bN (n + 2 + l.cutG d gone first) [] (l.cutS d gone first) w (.returned (errN ((l.sync d).2.1.setMark first).2)) w2) := by
        show PutL _ _ _ _ _ _ _ _ _ _ _
        have e : l.cutS d gone first = ((l.sync d).1, (l.sync d).2.1.setMark first) := by unfold ALog.cutS; rw [if_pos hc, if_neg hc2]
        rw [e]
        exact ⟨rfl, ⟨pv2, sv1, rv1, nD2, nN2, H2.out.mores (by omega) HGL.out⟩, HO2.out.x⟩
      rw [errN_no hc2] at H3 ⊢
      go_wp2
      go_ret
      exact H3.out
  · have H3 : Hid (PutL B lp p bD bN (n + 2 + l.cutG d gone first) [] (l.cutS d gone first) w (.returned (errN (l.sync d).2.2)) w1) := by
      show PutL _ _ _ _ _ _ _ _ _ _ _
      have e : l.cutS d gone first = l.sync d := by unfold ALog.cutS; rw [if_neg hc]
      rw [e]
      exact ⟨rfl, ⟨pv1, sv1, rv1, nD1, nN1, H1.out.mores (by omega) HGL.out⟩, HO.out.x⟩
    rw [errN_no hc] at H3 ⊢
    go_wp2
    go_ret
    exact H3.out
end Go.Proofs.YtkhjhojmhllkaaaGreatDoor
/- (*Log).write over any steps. -/
namespace Go.Proofs.YtkhjhojmhllkaaaGreatDoor
open Go.RowKit
open Sc

set_option maxRecDepth 100000 in
set_option maxHeartbeats 4000000 in
theorem writeR (B lp p bD bN n nD nN n' : Nat) (X : List Nat) (pv sv rv : Value) (a : Option Addr) (k c : Nat) (l : ALog) (d : ADisk) (r : ALog × ADisk × Nat) (w : World) (h : LogIn w B lp p bD bN pv sv rv l d n nD nN) (hn : n ≤ n') (hn' : n' ≤ 67108864)
    (hT : l.failed = 0 → Calls Tryz.prog 125 #[.slice a k c] w (PutL B lp p bD bN n' X r w)) :
    Calls Tryz.prog 142 #[.pointer (some ⟨lp, 0, none⟩), .slice a k c] w (PutL B lp p bD bN n' X (l.wr d r) w) := by
  have c0 := blk_cell h.blk 0
  have c6 := blk_cell h.blk 6
  simp at c0 c6
  have HI : Hid (LogIn w B lp p bD bN pv sv rv l d n nD nN) := h
  have hnil := Tryz.eqNil p
  by_cases hf : l.failed = 0
  · rw [hf, errN_ok] at c6
    have e : l.wr d r = ({ r.1 with failed := r.2.2 }, r.2.1, r.2.2) := by unfold ALog.wr; rw [if_pos hf]
    rw [e]
    clear e
    replace hT := hT hf
    go_enter Tryz.func142, Tryz.ntmps142
    go_wp2_with fail
    refine hT.mono ?_
    rintro e w1 ⟨rfl, ⟨pv1, sv1, rv1, nD1, nN1, hl1⟩, ho1⟩
    have H1 : Hid (LogIn w1 B lp p bD bN pv1 sv1 rv1 r.1 r.2.1 n' nD1 nN1) := hl1
    have HO : Hid (OFx X lp p w w1) := ho1
    have k6 := blk_cell hl1.blk 6
    have f6 := blk_free hl1.blk 6
    simp at k6
    clear hl1 ho1 h
    by_cases hc : r.2.2 = 0
    · rw [hc, errN_ok]
      go_wp2
      go_ret
      obtain ⟨hl2, hf2⟩ := H1.out.fail (c := 0) rfl
      unfold PutL
      simp only
      rw [hc]
      exact ⟨rfl, ⟨pv1, sv1, rv1, nD1, nN1, hl2⟩, HO.out.trans (H1.out.ofx hl2 hf2 (by intro k hk _; simp at hk; simp [hk]) (Near.refl _ _) (Near.refl _ _) (Near.refl _ _))⟩
    · have he := errN_no hc
      obtain ⟨hl2, hf2⟩ := H1.out.fail (c := r.2.2) rfl
      rw [he] at hl2 hf2 ⊢
      have H2 : Hid (LogIn (w1.setCell ⟨lp, 6, none⟩ (.iface 31 (.int .i64 (r.2.2 : Int)))) B lp p bD bN pv1 sv1 rv1 { r.1 with failed := r.2.2 } r.2.1 n' nD1 nN1) := hl2
      clear hl2
      go_wp2
      go_ret
      exact ⟨by simp only; rw [he]; rfl, ⟨pv1, sv1, rv1, nD1, nN1, H2.out⟩, HO.out.trans (H1.out.ofx H2.out hf2 (by intro k hk _; simp at hk; simp [hk]) (Near.refl _ _) (Near.refl _ _) (Near.refl _ _))⟩
  · rw [errN_no hf] at c6
    have e : l.wr d r = (l, d, l.failed) := by unfold ALog.wr; rw [if_neg hf]
    rw [e]
    go_enter Tryz.func142, Tryz.ntmps142
    go_wp2
    go_ret
    exact ⟨by simp only; rw [errN_no hf]; rfl, ⟨pv, sv, rv, nD, nN, HI.out.mores hn hn'⟩, (OFr.refl _ _ _).x⟩
end Go.Proofs.YtkhjhojmhllkaaaGreatDoor
/- The next of a region: its place alone is said, what it yields is found. -/
namespace Go.Proofs.YtkhjhojmhllkaaaGreatDoor
open Go

theorem tkH (i : Nat) {P : Program} {ops : Array Oper} {Q : Exit → Act → World → Prop} {md : Region.Mode} {S : World → Prop} {oi : Oper} {v : Value} {fuel : Nat} {listed : Array Bool} {a : Act} {w : World} (h : wpAnyH P md ops Q S fuel (listed.setIfInBounds i true) (a.put oi.dst v) w) (hi : ops[i]? = some oi := by (try simp only [List.getElem?_toArray, List.getElem?_cons_succ, List.getElem?_cons_zero]); rfl)
    (hy : ∀ w, S w → (execOp a.eval oi).run P w = .ok (.value v) w := by intro w hSw; (try dsimp only at hSw); (try simp only [Act.put, List.setIfInBounds_toArray, List.set_cons_zero, List.set_cons_succ]); go_simp; (try with_reducible rfl))
    (hs : Region.noSelect ops = true := by kernel_rfl) (hf : Region.free md ops listed i = true := by kernel_rfl) (hr : (Region.ready md ops listed).contains i = true := by kernel_rfl) (hg : Region.wanted oi (yielded ops a.tmps) = true := by (try simp only [Act.put, List.setIfInBounds_toArray, List.set_cons_zero, List.set_cons_succ]); rfl) (hQ : ∀ c a w, Q (.panic c) (a.put oi.dst v) w → Q (.panic c) a w := by exact fun _ _ _ h => h) (hS : S w := by assumption) : wpAnyH P md ops Q S (fuel + 1) listed a w :=
  wpAnyH_take hi hs hf hr hQ (Or.inl ⟨hg, hy⟩) hS h
/-- the same, and what it yields is said -/
theorem tkV (i : Nat) (v : Value) {P : Program} {ops : Array Oper} {Q : Exit → Act → World → Prop} {md : Region.Mode} {S : World → Prop} {oi : Oper} {fuel : Nat} {listed : Array Bool} {a : Act} {w : World} (h : wpAnyH P md ops Q S fuel (listed.setIfInBounds i true) (a.put oi.dst v) w) (hi : ops[i]? = some oi := by (try simp only [List.getElem?_toArray, List.getElem?_cons_succ, List.getElem?_cons_zero]); rfl)
    (hy : ∀ w, S w → (execOp a.eval oi).run P w = .ok (.value v) w := by intro w hSw; (try dsimp only at hSw); (try simp only [Act.put, List.setIfInBounds_toArray, List.set_cons_zero, List.set_cons_succ]); go_simp)
    (hs : Region.noSelect ops = true := by kernel_rfl) (hf : Region.free md ops listed i = true := by kernel_rfl) (hr : (Region.ready md ops listed).contains i = true := by kernel_rfl) (hg : Region.wanted oi (yielded ops a.tmps) = true := by (try simp only [Act.put, List.setIfInBounds_toArray, List.set_cons_zero, List.set_cons_succ]); rfl) (hQ : ∀ c a w, Q (.panic c) (a.put oi.dst v) w → Q (.panic c) a w := by exact fun _ _ _ h => h) (hS : S w := by assumption) : wpAnyH P md ops Q S (fuel + 1) listed a w :=
  wpAnyH_take hi hs hf hr hQ (Or.inl ⟨hg, hy⟩) hS h
/-- the next is not asked for -/
theorem tkU (i : Nat) {P : Program} {ops : Array Oper} {Q : Exit → Act → World → Prop} {md : Region.Mode} {S : World → Prop} {oi : Oper} {fuel : Nat} {listed : Array Bool} {a : Act} {w : World} (h : wpAnyH P md ops Q S fuel (listed.setIfInBounds i true) (a.put oi.dst undef) w) (hi : ops[i]? = some oi := by (try simp only [List.getElem?_toArray, List.getElem?_cons_succ, List.getElem?_cons_zero]); rfl)
    (hs : Region.noSelect ops = true := by kernel_rfl) (hf : Region.free md ops listed i = true := by kernel_rfl) (hr : (Region.ready md ops listed).contains i = true := by kernel_rfl) (hg : Region.wanted oi (yielded ops a.tmps) = false := by (try simp only [Act.put, List.setIfInBounds_toArray, List.set_cons_zero, List.set_cons_succ]); rfl) (hQ : ∀ c a w, Q (.panic c) (a.put oi.dst undef) w → Q (.panic c) a w := by exact fun _ _ _ h => h) (hS : S w := by assumption) : wpAnyH P md ops Q S (fuel + 1) listed a w :=
  wpAnyH_take hi hs hf hr hQ (Or.inr ⟨hg, rfl⟩) hS h
/-- one of those that may come up -/
theorem ryC {P : Program} {ops : Array Oper} {Q : Exit → Act → World → Prop} {md : Region.Mode} {S : World → Prop} {fuel : Nat} {listed : Array Bool} {a : Act} {w : World} {i : Nat} {o : Oper} {rs : List Nat} (h : ∀ K' : Act → World → Prop, Shut (∀ a w, S w → (S w → wpAnyH P md ops Q S fuel (listed.setIfInBounds i true) a w) → K' a w) → if Region.wanted o (yielded ops a.tmps) = true then Oper.wp P o a w K' Q else K' (a.put o.dst undef) w)
    (hs : AllReadyH P md ops Q S fuel listed a w rs) (ho : ops[i]? = some o := by (try simp only [List.getElem?_toArray, List.getElem?_cons_succ, List.getElem?_cons_zero]); rfl) : AllReadyH P md ops Q S fuel listed a w (i :: rs) := AllReadyH.cons ho h hs
end Go.Proofs.YtkhjhojmhllkaaaGreatDoor
/- segmentsBelow over whatever segments. -/
namespace Go.Proofs.YtkhjhojmhllkaaaGreatDoor
open Go.RowKit
open Sc

set_option maxRecDepth 100000 in
set_option maxHeartbeats 4000000 in
theorem segsBelow_any (B lp p bD bN n nD nN low : Nat) (pv sv rv : Value) (l : ALog) (d : ADisk) (w : World) (h : LogIn w B lp p bD bN pv sv rv l d n nD nN) :
    Calls Tryz.prog 146 #[.pointer (some ⟨lp, 0, none⟩), .int .u64 (low : Int)] w fun e w' => e = .returned (.int .i64 (segsBelow l.segs low : Nat)) ∧ ∃ q, w' = w.drewN q := by
  by_cases hs : 0 < l.segs.length
  · obtain ⟨gs, cs, hsv⟩ := own_pos h.segs hs
    subst hsv
    exact segsBelow_some B lp p bD bN n nD nN low gs cs pv rv l d w h
  · have hnil : l.segs = [] := List.length_eq_zero_iff.1 (by omega)
    obtain ⟨a, m, c, hsv⟩ := own_sl h.segs
    have hm : m = 0 := by
      subst hsv
      rcases h.segs.2 with ⟨e, h2⟩ | ⟨g', cap', cur, e, _⟩
      · cases e; rfl
      · cases e; rw [hnil]; rfl
    subst hm hsv
    have c1 := blk_cell h.blk 1
    simp at c1
    have e : segsBelow l.segs low = 0 := by rw [hnil]; rfl
    rw [e]
    clear h e
    go_enter Tryz.func146, Tryz.ntmps146
    go_wp2
    refine wp_loop_rounds 1 ?_
    rw [rounds_succ]
    go_wp2
    go_ret
    exact ⟨rfl, 0, rfl⟩
end Go.Proofs.YtkhjhojmhllkaaaGreatDoor
/- strings.Clone. -/
namespace Go.Proofs.YtkhjhojmhllkaaaGreatDoor
open Go.RowKit
open Sc

theorem cloneS (s : ByteArray) (w : World) (hs : s.size ≤ 281474976710656) :
    Calls Tryz.prog 135 #[.string s] w fun e w' => e = .returned (.string s) ∧ Below w.heap.size w w' := by
  go_enter Tryz.func135, Tryz.ntmps135
  go_wp2_with fail
  refine (Tryz.stringslite_Clone s w hs).mono ?_
  rintro e w1 ⟨rfl, hb⟩
  go_wp2
  go_ret
  exact ⟨rfl, hb⟩
end Go.Proofs.YtkhjhojmhllkaaaGreatDoor
