import Derived.Test.YtejiankgafjppaaGreatDoorC13
import Derived.Test.YtejiankgafjppaaGreatDoorC07
import Derived.Test.YtejiankgafjppaaGreatDoorC12
/- inTurn and write, over Append's two steps. -/
namespace Go.Proofs.YtejiankgafjppaaGreatDoor
open Go.RowKit
open Sc

/-- as OFr, and the blocks of X may have turned -/
structure OFx (X : List Nat) (lp p : Nat) (w w' : World) : Prop where
  os : w'.os = w.os
  tape : w'.tape = w.tape
  output : w'.output = w.output
  size : w.heap.size ≤ w'.heap.size
  block : ∀ k, k < w.heap.size → ¬ Own lp p w k → k ∉ X → w'.heap[k]? = w.heap[k]?
  stay : ∀ k, k < w.heap.size → Own lp p w' k → Own lp p w k
theorem OFr.x {X : List Nat} {lp p : Nat} {w w' : World} (h : OFr lp p w w') : OFx X lp p w w' := ⟨h.os, h.tape, h.output, h.size, fun k hk hn _ => h.block k hk hn, h.stay⟩
theorem OFx.trans {X : List Nat} {lp p : Nat} {a b c : World} (h : OFx X lp p a b) (k : OFx X lp p b c) : OFx X lp p a c :=
  ⟨k.os.trans h.os, k.tape.trans h.tape, k.output.trans h.output, Nat.le_trans h.size k.size,
    fun i hi hn hx => (k.block i (Nat.lt_of_lt_of_le hi h.size) (fun ho => hn (h.stay i hi ho)) hx).trans (h.block i hi hn hx),
    fun i hi ho => h.stay i hi (k.stay i (Nat.lt_of_lt_of_le hi h.size) ho)⟩
section
variable {w w' : World} {B lp p bD bN n nD nN n' nD' nN' : Nat} {pv sv rv pv' sv' rv' : Value} {l l' : ALog} {d d' : ADisk}
theorem LogIn.ofx {X S : List Nat} (h : LogIn w B lp p bD bN pv sv rv l d n nD nN) (h' : LogIn w' B lp p bD bN pv' sv' rv' l' d' n' nD' nN') (hf : Fr S w w')
    (hS : ∀ k ∈ S, k < w.heap.size → k ∈ X ∨ k = lp ∨ k = p ∨ k = bD ∨ k = bN ∨ pv.ownBlock = some k ∨ sv.ownBlock = some k ∨ rv.ownBlock = some k)
    (h1 : Near w.heap.size pv pv') (h2 : Near w.heap.size sv sv') (h3 : Near w.heap.size rv rv') : OFx X lp p w w' := by
  refine ⟨hf.os, hf.tape, hf.output, hf.size, fun k hk hn hx => hf.block k hk (fun hm => ?_), fun k hk ho => ?_⟩
  · rcases hS k hm hk with e | e
    · exact hx e
    · exact hn ((h.own k).2 e)
  rw [h.own]
  rcases (h'.own k).1 ho with e | e | e | e | e | e | e
  · exact .inl e
  · exact .inr (.inl e)
  · exact .inr (.inr (.inl e))
  · exact .inr (.inr (.inr (.inl e)))
  · rcases h1 k e with e | e
    · exact .inr (.inr (.inr (.inr (.inl e))))
    · omega
  · rcases h2 k e with e | e
    · exact .inr (.inr (.inr (.inr (.inr (.inl e)))))
    · omega
  · rcases h3 k e with e | e
    · exact .inr (.inr (.inr (.inr (.inr (.inr e)))))
    · omega
theorem LogIn.ge (h : LogIn w B lp p bD bN pv sv rv l d n nD nN) {k : Nat} (hk : Own lp p w k) : B ≤ k := by
  rcases (h.own k).1 hk with e | e | e | e | e | e | e
  · rw [e]; exact h.base
  · rw [e]; exact h.disk.base.1
  · rw [e]; exact h.disk.base.2.1
  · rw [e]; exact h.disk.base.2.2.1
  · exact (h.disk.pen.lt k e).1
  · exact (h.segs.lt k e).1
  · exact (h.recs.lt k e).1
/-- a block of another kind than the log's -/
theorem LogIn.free (h : LogIn w B lp p bD bN pv sv rv l d n nD nN) {q : Nat} {c : Array Value} {t : TypeId} {fr : Nat × Nat} (hq : w.heap[q]? = some (.cells c t fr)) (h1 : t ≠ 88) (h2 : t ≠ 175) (h3 : t ≠ 168) (h4 : t ≠ 34) (h5 : t ≠ 44) : ¬ Own lp p w q := by
  intro ho
  have hn := dS_typed h.disk hq h1 h2
  rcases (h.own q).1 ho with e | e | e | e | e | e | e
  · rw [e, h.blk] at hq; cases hq; exact h3 rfl
  · exact hn (by simp [e])
  · exact hn (by simp [e])
  · exact hn (by simp [e])
  · exact hn (by simp [e])
  · exact own_ne h.segs hq (fun e => h4 e.symm) e
  · exact own_ne h.recs hq (fun e => h5 e.symm) e
end
theorem Tryz.powG : Tryz.prog.globalNamed "internal/strconv.uint64pow10" = some 1 := by kernel_rfl
theorem Pows.of_block {w w' : World} (h : Pows w) (hb : w'.heap[1]? = w.heap[1]?) : Pows w' := by
  unfold Pows Lib.TabIs World.var? at *
  rw [Tryz.powG] at *
  simp only [Option.bind_some] at *
  rw [hb]; exact h
def ALog.put (l : ALog) (d : ADisk) (by_ : List Nat) : ALog × ADisk × Nat :=
  if (l.room d).2.2 = 0 then ((l.room d).1, ((l.room d).2.1.tell ⟨2, segName ((l.room d).1.segs.getLastD 0), ByteArray.empty, str by_⟩).1, ((l.room d).2.1.tell ⟨2, segName ((l.room d).1.segs.getLastD 0), ByteArray.empty, str by_⟩).2)
  else l.room d
/-- what stands behind it -/
def PutL (B lp p bD bN n : Nat) (X : List Nat) (r : ALog × ADisk × Nat) (w : World) (e : Ending) (w' : World) : Prop :=
  e = .returned (errN r.2.2) ∧ (∃ pv sv rv nD nN, LogIn w' B lp p bD bN pv sv rv r.1 r.2.1 n nD nN) ∧ OFx X lp p w w'
theorem room_segs {l : ALog} {d : ADisk} (h : l.filled < 600 → l.segs ≠ []) (hr : (l.room d).2.2 = 0) : (l.room d).1.segs ≠ [] := by
  unfold ALog.room at *
  split
  · rename_i hf; exact h hf
  · rename_i hf
    rw [if_neg hf] at hr
    split at hr
    · rename_i hs; rw [if_pos hs]; simp
    · rename_i hs; exact absurd hr hs
theorem getLast_at {l : List Nat} (h : l ≠ []) : l[l.length - 1]? = some (l.getLastD 0) := by
  rw [List.getLastD_eq_getLast?, ← List.getLast?_eq_getElem?]
  cases hh : l.getLast? with
  | none => exact absurd (List.getLast?_eq_none_iff.1 hh) h
  | some x => rfl
set_option maxRecDepth 100000 in
set_option maxHeartbeats 4000000 in
theorem inTurnA (B lp p bD bN n nD nN bl bb g cap base gst : Nat) (pv sv rv : Value) (l : ALog) (d : ADisk) (by_ : List Nat) (w : World) (h : LogIn w B lp p bD bN pv sv rv l d n nD nN) (hn : n + 1 < 67108864) (hB : 2 ≤ B) (hsg : l.filled < 600 → l.segs ≠ [])
    (hst : w.heap[gst]? = some (.cells #[.func (.func 119) #[.pointer (some ⟨lp, 0, none⟩)] #[], .func (.func 120) #[] #[.pointer (some ⟨bl, 0, none⟩), .pointer (some ⟨bb, 0, none⟩)]] 109))
    (hbl : w.heap[bl]? = some (.cells #[.pointer (some ⟨lp, 0, none⟩)] 89)) (hbb : w.heap[bb]? = some (.cells #[.slice (some ⟨g, 0, none⟩) by_.length cap] 164))
    (hr : w.ownsRow base 5 1 (.slice (some ⟨g, 0, none⟩) by_.length cap) by_.length (bs by_)) (hm2 : by_.length ≤ 4096) (hpow : Pows w) :
    Calls Tryz.prog 170 #[.slice (some ⟨gst, 0, none⟩) 2 2] w (PutL B lp p bD bN (n + 2) [g] (l.put d by_) w) := by
  have z0 := blk_cell hst 0
  have z1 := blk_cell hst 1
  simp at z0 z1
  have HI : Hid (LogIn w B lp p bD bN pv sv rv l d n nD nN) := h
  go_enter Tryz.func170, Tryz.ntmps170
  go_wp2
  refine wp_loop_rounds 3 ?_
  rw [rounds_succ]
  go_wp2_with fail
  refine (room_any B lp p bD bN n nD nN pv sv rv l d w HI.out (by omega)).mono ?_
  rintro e w1 ⟨rfl, ⟨pv1, sv1, rv1, nD1, nN1, hl1⟩, ho1⟩
  have fre : ∀ {q : Nat} {c : Array Value} {t : TypeId}, w.heap[q]? = some (.cells c t (0, 0)) → t ≠ 88 → t ≠ 175 → t ≠ 168 → t ≠ 34 → t ≠ 44 → w1.heap[q]? = some (.cells c t (0, 0)) := fun {q c t} hq h1 h2 h3 h4 h5 =>
    (ho1.block q (Array.getElem?_eq_some_iff.1 hq).1 (HI.out.free hq h1 h2 h3 h4 h5)).trans hq
  have hst1 := fre hst (by decide) (by decide) (by decide) (by decide) (by decide)
  have hbl1 := fre hbl (by decide) (by decide) (by decide) (by decide) (by decide)
  have hbb1 := fre hbb (by decide) (by decide) (by decide) (by decide) (by decide)
  have hr1 : w1.ownsRow base 5 1 (.slice (some ⟨g, 0, none⟩) by_.length cap) by_.length (bs by_) := by
    obtain ⟨h1, h2⟩ := hr
    refine ⟨h1, ?_⟩
    rcases h2 with h2 | ⟨g', cap', cur, e, b1, b2, b3⟩
    · exact .inl h2
    · exact .inr ⟨g', cap', cur, e, b1, fre b2 (by decide) (by decide) (by decide) (by decide) (by decide), b3⟩
  have hb6 : 1 < w.heap.size := by have := HI.out.disk.base.2.2.2; omega
  have hpow1 : Pows w1 := hpow.of_block (ho1.block 1 hb6 (fun ho => by have := HI.out.ge ho; omega))
  have z2 := blk_cell hst1 1
  simp at z2
  have H1 : Hid (LogIn w1 B lp p bD bN pv1 sv1 rv1 (l.room d).1 (l.room d).2.1 (n + 1) nD1 nN1) := hl1
  have HO : Hid (OFr lp p w w1) := ho1
  have HBL : Hid (w1.heap[bl]? = some (.cells #[.pointer (some ⟨lp, 0, none⟩)] 89)) := hbl1
  have HBB : Hid (w1.heap[bb]? = some (.cells #[.slice (some ⟨g, 0, none⟩) by_.length cap] 164)) := hbb1
  have HR1 : Hid (w1.ownsRow base 5 1 (.slice (some ⟨g, 0, none⟩) by_.length cap) by_.length (bs by_)) := hr1
  have HSG : Hid (l.filled < 600 → l.segs ≠ []) := hsg
  clear h hl1 ho1 hst1 hbl1 hbb1 hr1 hst hbl hbb hr hsg fre z0 z1
  by_cases hc : (l.room d).2.2 = 0
  · have hseg := room_segs HSG.out hc
    obtain ⟨last, hlast⟩ : ∃ last, last = (l.room d).1.segs.getLastD 0 := ⟨_, rfl⟩
    have hla := getLast_at hseg
    rw [← hlast] at hla
    have e : l.put d by_ = ((l.room d).1, ((l.room d).2.1.tell ⟨2, segName last, ByteArray.empty, str by_⟩).1, ((l.room d).2.1.tell ⟨2, segName last, ByteArray.empty, str by_⟩).2) := by unfold ALog.put; rw [if_pos hc, ← hlast]
    have HE : Hid (l.put d by_ = ((l.room d).1, ((l.room d).2.1.tell ⟨2, segName last, ByteArray.empty, str by_⟩).1, ((l.room d).2.1.tell ⟨2, segName last, ByteArray.empty, str by_⟩).2)) := e
    have hlt : last < 18446744073709551616 := H1.out.segsN.2 last (List.mem_of_getElem? hla)
    have HLA : Hid ((l.room d).1.segs[(l.room d).1.segs.length - 1]? = some last) := hla
    clear e hla hlast
    obtain ⟨gs, cs, hsv⟩ : ∃ gs cs, sv1 = .slice (some ⟨gs, 0, none⟩) (l.room d).1.segs.length cs := by
      rcases H1.out.segs.2 with ⟨_, h2⟩ | ⟨g', cap', cur, e, _⟩
      · exact absurd (List.length_eq_zero_iff.1 h2) hseg
      · exact ⟨g', cap', e⟩
    subst hsv
    clear hseg
    rw [hc, errN_ok]
    go_wp2
    rw [rounds_succ]
    go_wp2_with fail
    refine (app1_any B lp p bD bN (n + 1) nD1 nN1 bl bb g by_.length cap base gs cs last pv1 rv1 (l.room d).1 (l.room d).2.1 by_ w1 H1.out hn HLA.out HBL.out HBB.out rfl HR1.out hm2 hpow1 hlt).mono ?_
    rintro e w2 ⟨rfl, ⟨pv2, nN2, hl2, hne2⟩, hf2⟩
    have ho2 : OFx [g] lp p w1 w2 := H1.out.ofx hl2 hf2 (by intro k hk _; rcases List.mem_cons.1 hk with e | hk; exact .inl (by simp [e]); right; rcases List.mem_cons.1 hk with e | hk; simp [e]; rcases List.mem_cons.1 hk with e | hk; simp [e]; rcases List.mem_cons.1 hk with e | hk; simp [e]; simp at hk; simp [hk]) hne2 (Near.refl _ _) (Near.refl _ _)
    have H2 : Hid (PutL B lp p bD bN (n + 2) [g] (l.put d by_) w (.returned (errN ((l.room d).2.1.tell ⟨2, segName last, ByteArray.empty, str by_⟩).2)) w2) := by
      show PutL _ _ _ _ _ _ _ _ _ _ _
      rw [HE.out]
      exact ⟨rfl, ⟨pv2, _, rv1, nD1, nN2, hl2⟩, HO.out.x.trans ho2⟩
    clear hl2 hne2 hf2 ho2
    by_cases hc2 : ((l.room d).2.1.tell ⟨2, segName last, ByteArray.empty, str by_⟩).2 = 0
    · rw [hc2, errN_ok] at H2 ⊢
      go_wp2
      rw [rounds_succ]
      go_wp2
      go_ret
      exact H2.out
    · rw [errN_no hc2] at H2 ⊢
      go_wp2
      go_ret
      exact H2.out
  · have e : l.put d by_ = l.room d := by unfold ALog.put; rw [if_neg hc]
    have HE : Hid (l.put d by_ = l.room d) := e
    clear e
    have H2 : Hid (PutL B lp p bD bN (n + 2) [g] (l.put d by_) w (.returned (errN (l.room d).2.2)) w1) := by
      show PutL _ _ _ _ _ _ _ _ _ _ _
      rw [HE.out]
      exact ⟨rfl, ⟨pv1, sv1, rv1, nD1, nN1, H1.out.more hn⟩, HO.out.x⟩
    rw [errN_no hc] at H2 ⊢
    go_wp2
    go_ret
    exact H2.out
end Go.Proofs.YtejiankgafjppaaGreatDoor
/- journal.removeAll, over a disk. -/
namespace Go.Proofs.YtejiankgafjppaaGreatDoor
open Go.RowKit
open Sc

/-- what is the disk's -/
def OwnD (p : Nat) (w : World) (k : Nat) : Prop := k = p ∨ k ∈ refs w.heap[p]?
structure DFr (p : Nat) (w w' : World) : Prop where
  os : w'.os = w.os
  tape : w'.tape = w.tape
  output : w'.output = w.output
  size : w.heap.size ≤ w'.heap.size
  block : ∀ k, k < w.heap.size → ¬ OwnD p w k → w'.heap[k]? = w.heap[k]?
  stay : ∀ k, k < w.heap.size → OwnD p w' k → OwnD p w k
section
variable {w w' : World} {B p bD bN n nD nN n' nD' nN' : Nat} {pv pv' : Value} {d d' : ADisk}
theorem DiskIn.ownD (h : DiskIn w B p bD bN pv d n nD nN) (k : Nat) : OwnD p w k ↔ k ∈ dS p bD bN pv := by
  unfold OwnD
  rw [h.blk, mem_dsk (own_sl h.pen)]
  simp
theorem DiskIn.dfr {S : List Nat} (h : DiskIn w B p bD bN pv d n nD nN) (h' : DiskIn w' B p bD bN pv' d' n' nD' nN') (hf : Fr S w w') (hS : ∀ k ∈ S, k < w.heap.size → k ∈ dS p bD bN pv) (hne : Near w.heap.size pv pv') : DFr p w w' := by
  refine ⟨hf.os, hf.tape, hf.output, hf.size, fun k hk hn => hf.block k hk (fun hm => hn ((h.ownD k).2 (hS k hm hk))), fun k hk ho => ?_⟩
  rw [h.ownD]
  have := (h'.ownD k).1 ho
  rcases List.mem_cons.1 this with e | this
  · simp [e]
  rcases List.mem_cons.1 this with e | this
  · simp [e]
  rcases List.mem_cons.1 this with e | this
  · simp [e]
  · simp at this
    rcases hne k this with e | e
    · simp [e]
    · omega
/-- a block of another kind than the disk's -/
theorem DiskIn.freeD (h : DiskIn w B p bD bN pv d n nD nN) {q : Nat} {c : Array Value} {t : TypeId} {fr : Nat × Nat} (hq : w.heap[q]? = some (.cells c t fr)) (h1 : t ≠ 88) (h2 : t ≠ 175) : ¬ OwnD p w q := by
  rw [h.ownD]
  intro hm
  rcases List.mem_cons.1 hm with e | hm
  · rw [e, h.blk] at hq; cases hq; exact h1 rfl
  rcases List.mem_cons.1 hm with e | hm
  · exact h.dur.ne_cells hq e.symm
  rcases List.mem_cons.1 hm with e | hm
  · exact h.now.ne_cells hq e.symm
  · simp at hm; exact own_ne h.pen hq (fun e => h2 e.symm) hm
end
/-- names as cells -/
def namesV (l : List ByteArray) : List Value := l.map Value.string
def ADisk.removeAll (d : ADisk) : List ByteArray → ADisk × Nat
  | [] => d.sync
  | nm :: r => if (d.tell ⟨3, nm, ByteArray.empty, ByteArray.empty⟩).2 = 0 then (d.tell ⟨3, nm, ByteArray.empty, ByteArray.empty⟩).1.removeAll r else d.tell ⟨3, nm, ByteArray.empty, ByteArray.empty⟩
/-- what stands behind a call over the disk alone -/
def DskPost (B p bD bN n : Nat) (r : ADisk × Nat) (w : World) (e : Ending) (w' : World) : Prop :=
  e = .returned (errN r.2) ∧ (∃ pv nD nN, DiskIn w' B p bD bN pv r.1 n nD nN) ∧ DFr p w w'
theorem DiskIn.mores {w : World} {B p bD bN n nD nN : Nat} {pv : Value} {d : ADisk} (h : DiskIn w B p bD bN pv d n nD nN) {m : Nat} (hm : n ≤ m) (hm2 : m ≤ 67108864) : DiskIn w B p bD bN pv d m nD nN :=
  { h with hD := by have := h.hD; omega, hN := by have := h.hN; omega, hn := hm2 }
end Go.Proofs.YtejiankgafjppaaGreatDoor
/- journal.namesOf; removeAll of nothing. -/
namespace Go.Proofs.YtejiankgafjppaaGreatDoor
open Go.RowKit
open Sc

set_option maxHeartbeats 1000000 in
theorem namesOf_nil (w : World) : Calls Tryz.prog 202 #[.slice none 0 0] w fun e w' => e = .returned (.slice none 0 0) ∧ w' = w := by
  go_enter Tryz.func202, Tryz.ntmps202
  go_wp2
  refine wp_loop_rounds 1 ?_
  rw [rounds_succ]
  go_wp2
  go_ret
  exact ⟨rfl, rfl⟩
set_option maxRecDepth 100000 in
set_option maxHeartbeats 1000000 in
theorem removeAll_nil (B p bD bN n nD nN : Nat) (pv : Value) (d : ADisk) (w : World) (h : DiskIn w B p bD bN pv d n nD nN) :
    Calls Tryz.prog 172 #[dskV p, .slice none 0 0] w (DskPost B p bD bN n (d.removeAll []) w) := by
  have HI : Hid (DiskIn w B p bD bN pv d n nD nN) := h
  have m2 := Tryz.mSync
  clear h
  go_enter Tryz.func172, Tryz.ntmps172
  go_wp2
  refine wp_loop_rounds 1 ?_
  rw [rounds_succ]
  go_wp2_with fail
  refine (sync_any B p bD bN n nD nN pv d w HI.out).mono ?_
  rintro e w1 ⟨rfl, ⟨pv1, nD1, hd1, hne1⟩, hf1⟩
  have H1 : Hid (DskPost B p bD bN n (d.removeAll []) w (.returned (errN d.sync.2)) w1) := ⟨rfl, ⟨pv1, nD1, nN, hd1⟩, HI.out.dfr hd1 hf1 (fun q hq _ => by simp at hq; rcases hq with e | e <;> simp [e]) hne1⟩
  clear hd1 hne1 hf1
  go_wp2
  go_ret
  exact H1.out
end Go.Proofs.YtejiankgafjppaaGreatDoor
/- journal.setMark, over a disk. -/
namespace Go.Proofs.YtejiankgafjppaaGreatDoor
open Go.RowKit
open Sc

/-- as DFr, and the blocks of X may have turned -/
structure DFx (X : List Nat) (p : Nat) (w w' : World) : Prop where
  os : w'.os = w.os
  tape : w'.tape = w.tape
  output : w'.output = w.output
  size : w.heap.size ≤ w'.heap.size
  block : ∀ k, k < w.heap.size → ¬ OwnD p w k → k ∉ X → w'.heap[k]? = w.heap[k]?
  stay : ∀ k, k < w.heap.size → OwnD p w' k → OwnD p w k
def markNew : ByteArray := ⟨#[109, 97, 114, 107, 46, 110, 101, 119]⟩
def markNm : ByteArray := ⟨#[109, 97, 114, 107]⟩
def DskX (B p bD bN n : Nat) (X : List Nat) (r : ADisk × Nat) (w : World) (e : Ending) (w' : World) : Prop :=
  e = .returned (errN r.2) ∧ (∃ pv nD nN, DiskIn w' B p bD bN pv r.1 n nD nN) ∧ DFx X p w w'
/-- steps, as far as each goes well -/
def ADisk.setMark (d : ADisk) (first : Nat) : ADisk × Nat :=
  let t1 := d.tell ⟨1, markNew, ByteArray.empty, str (recBytes first 0 [])⟩
  if t1.2 = 0 then
    let t2 := t1.1.sync
    if t2.2 = 0 then
      let t3 := t2.1.tell ⟨4, markNew, markNm, ByteArray.empty⟩
      if t3.2 = 0 then t3.1.sync else t3
    else t2
  else t1
end Go.Proofs.YtejiankgafjppaaGreatDoor
/- OPENING OVER NOTHING: the small calls. -/
namespace Go.Proofs.YtejiankgafjppaaGreatDoor
open Go.RowKit Go.Maps
open Sc

set_option maxRecDepth 100000 in
set_option maxHeartbeats 2000000 in
theorem names_empty (B p bD bN n nD : Nat) (pv : Value) (d : ADisk) (w : World) (h : DiskIn w B p bD bN pv d n nD 0) (hdn : d.down = false) :
    Calls Tryz.prog 419 #[.pointer (some ⟨p, 0, none⟩)] w fun e w' => e = .returned (.tuple #[.slice none 0 0, .nilIface]) ∧ Below w.heap.size w w' := by
  have c1 := blk_cell h.blk 1
  have c5 := blk_cell h.blk 5
  simp at c1 c5
  rw [hdn] at c5
  obtain ⟨D, hown, _⟩ := h.now
  have hsz := hown.size_le
  have hso := Tryz.sort_Strings_none
  clear h
  go_enter Tryz.func419, Tryz.ntmps419
  go_wp2_with (first
    | (at_range; refine wpList_range_own _ rfl _ 85 rfl 9 156 Tryz.lawS Tryz.underlying85 ptrElem bN 0 D rfl hown ?_; intro w0 hrg0 hg0 hs0)
    | go_in)
  go_frame
  have hbl : Below w.heap.size w w0 := ⟨hg0.os, hg0.tape, hg0.output, hg0.size, fun k hk => hg0.block k hk (by simp)⟩
  refine wp_loop_rounds 1 ?_
  rw [rounds_succ]
  go_wp2_with (first
    | (at_next; refine wpList_next_ranges _ rfl _ rfl 9 Tryz.lawS ptrElem encStr Value.pointer (fun key kl hk => by obtain ⟨x, hx, _⟩ := Maps.keyOf_str Tryz.underlying9 hk; exact ⟨x, hx⟩) (fun v y hv => ptrElem_shape hv) bN w.heap.size 0 _ _ _ rfl hrg0 ?_ ?_)
    | go_in)
  · intro _ _
    go_wp2_with fail
    refine (hso none 0 w0).mono ?_
    rintro e w1 ⟨rfl, rfl⟩
    go_wp2
    go_ret2
    exact ⟨rfl, hbl⟩
  · intro x c kl yd yp w2 cnt2 _ _ _ _ _ hlt
    omega
set_option maxRecDepth 100000 in
set_option maxHeartbeats 2000000 in
theorem insert_nil (w : World) : Calls Tryz.prog 329 #[.slice none 0 0, .int .i64 0, .int .i64 0] w fun e w' => e = .returned (.tuple #[]) ∧ w' = w := by
  go_enter Tryz.func329, Tryz.ntmps329
  go_wp2
  refine wp_loop_rounds 1 ?_
  rw [rounds_succ]
  go_wp2
  go_end0
  exact ⟨rfl, rfl⟩
set_option maxRecDepth 100000 in
set_option maxHeartbeats 2000000 in
theorem pdq_nil (k : Int) (w : World) : Calls Tryz.prog 304 #[.slice none 0 0, .int .i64 0, .int .i64 0, .int .i64 k] w fun e w' => e = .returned (.tuple #[]) ∧ w' = w := by
  go_enter Tryz.func304, Tryz.ntmps304
  go_wp2
  refine wp_loop_rounds 1 ?_
  rw [rounds_succ]
  go_wp2_with fail
  refine (insert_nil w).mono ?_
  rintro e w1 ⟨rfl, rfl⟩
  go_wp2
  refine bodyPost_ret (results_none rfl _ _ _) rfl ?_
  exact ⟨rfl, rfl⟩
set_option maxRecDepth 100000 in
set_option maxHeartbeats 2000000 in
theorem sortU_nil (w : World) : Calls Tryz.prog 256 #[.slice none 0 0] w fun e w' => e = .returned (.tuple #[]) ∧ w' = w := by
  go_enter Tryz.func256, Tryz.ntmps256
  go_wp2_with fail
  refine (Tryz.bits_Len 0 w (by omega) (by omega)).mono ?_
  rintro e w1 ⟨rfl, rfl⟩
  go_wp2_with fail
  refine (pdq_nil _ w1).mono ?_
  rintro e w1 ⟨rfl, rfl⟩
  go_wp2
  go_end0
  exact ⟨rfl, rfl⟩
set_option maxRecDepth 100000 in
set_option maxHeartbeats 2000000 in
theorem among_nil (w : World) : Calls Tryz.prog 230 #[.slice none 0 0] w fun e w' => e = .returned (.slice none 0 0) ∧ w' = w := by
  go_enter Tryz.func230, Tryz.ntmps230
  go_wp2
  refine wp_loop_rounds 1 ?_
  rw [rounds_succ]
  go_wp2_with fail
  refine (sortU_nil w).mono ?_
  rintro e w1 ⟨rfl, rfl⟩
  go_wp2
  go_ret
  exact ⟨rfl, rfl⟩
set_option maxRecDepth 100000 in
set_option maxHeartbeats 2000000 in
theorem search_nil (x : Int) (w : World) : Calls Tryz.prog 231 #[.slice none 0 0, .int .u64 x] w fun e w' => e = .returned (.tuple #[.int .i64 0, .bool false]) ∧ w' = w := by
  go_enter Tryz.func231, Tryz.ntmps231
  go_wp2
  refine wp_loop_rounds 1 ?_
  rw [rounds_succ]
  go_wp2
  go_ret2
  exact ⟨rfl, rfl⟩
set_option maxRecDepth 100000 in
set_option maxHeartbeats 2000000 in
theorem readMark_none (B p bD bN n nD nN : Nat) (pv : Value) (d : ADisk) (w : World) (h : DiskIn w B p bD bN pv d n nD nN) (hdn : d.down = false) (hno : d.now markNm = none) :
    Calls Tryz.prog 229 #[dskV p] w fun e w' => e = .returned (.tuple #[.int .u64 1, .nilIface]) ∧ Below w.heap.size w w' := by
  have hm := Tryz.mRead
  have hr := read_any B p bD bN n nD nN pv d markNm w h (by decide)
  have e : d.read markNm = (none, 8) := by unfold ADisk.read; rw [if_neg (by rw [hdn]; decide), hno]
  clear h
  go_enter Tryz.func229, Tryz.ntmps229
  go_wp2_with fail
  refine hr.mono ?_
  clear hr
  rintro e1 w1 ⟨v, rfl, hgot, hb⟩
  rw [e] at hgot ⊢
  obtain rfl : v = .slice none 0 0 := hgot
  rw [errN_no (by decide)]
  go_wp2_with fail
  refine (is_same 8 w1).mono ?_
  rintro e2 w2 ⟨rfl, rfl⟩
  go_wp2
  go_ret2
  exact ⟨rfl, hb⟩
end Go.Proofs.YtejiankgafjppaaGreatDoor
/- write over Append's steps. -/
namespace Go.Proofs.YtejiankgafjppaaGreatDoor
open Go.RowKit
open Sc

/-- write, when the steps come to r -/
def ALog.wr (l : ALog) (d : ADisk) (r : ALog × ADisk × Nat) : ALog × ADisk × Nat :=
  if l.failed = 0 then ({ r.1 with failed := r.2.2 }, r.2.1, r.2.2) else (l, d, l.failed)
theorem Tryz.eqNil (p : Nat) (w : World) : (binOp .eql 158 (dskV p) .nilIface).run Tryz.prog w = .ok (.bool false) w := by kernel_rfl
theorem LogIn.fail {w w' : World} {B lp p bD bN n nD nN c : Nat} {pv sv rv : Value} {l : ALog} {d : ADisk} (h : LogIn w B lp p bD bN pv sv rv l d n nD nN) (hw : w' = w.setCell ⟨lp, 6, none⟩ (errN c)) : LogIn w' B lp p bD bN pv sv rv { l with failed := c } d n nD nN ∧ Fr [lp] w w' := by
  subst hw
  have hf : Fr [lp] w (w.setCell ⟨lp, 6, none⟩ (errN c)) := Fr.set1 (by simp) _ _
  refine ⟨h.own1 hf ?_ h.segsN h.recsN h.fillN h.nextN h.durN rfl rfl, hf⟩
  have := blk_set h.blk 6 (errN c); simpa using this
set_option maxRecDepth 100000 in
set_option maxHeartbeats 4000000 in
theorem writeA (B lp p bD bN n nD nN bl bb g cap base gst : Nat) (pv sv rv : Value) (l : ALog) (d : ADisk) (by_ : List Nat) (w : World) (h : LogIn w B lp p bD bN pv sv rv l d n nD nN) (hn : n + 1 < 67108864) (hB : 2 ≤ B) (hsg : l.filled < 600 → l.segs ≠ [])
    (hst : w.heap[gst]? = some (.cells #[.func (.func 119) #[.pointer (some ⟨lp, 0, none⟩)] #[], .func (.func 120) #[] #[.pointer (some ⟨bl, 0, none⟩), .pointer (some ⟨bb, 0, none⟩)]] 109))
    (hbl : w.heap[bl]? = some (.cells #[.pointer (some ⟨lp, 0, none⟩)] 89)) (hbb : w.heap[bb]? = some (.cells #[.slice (some ⟨g, 0, none⟩) by_.length cap] 164))
    (hr : w.ownsRow base 5 1 (.slice (some ⟨g, 0, none⟩) by_.length cap) by_.length (bs by_)) (hm2 : by_.length ≤ 4096) (hpow : Pows w) :
    Calls Tryz.prog 118 #[.pointer (some ⟨lp, 0, none⟩), .slice (some ⟨gst, 0, none⟩) 2 2] w (PutL B lp p bD bN (n + 2) [g] (l.wr d (l.put d by_)) w) := by
  have c0 := blk_cell h.blk 0
  have c6 := blk_cell h.blk 6
  simp at c0 c6
  have HI : Hid (LogIn w B lp p bD bN pv sv rv l d n nD nN) := h
  have hnil := Tryz.eqNil p
  by_cases hf : l.failed = 0
  · rw [hf, errN_ok] at c6
    have e : l.wr d (l.put d by_) = ({ (l.put d by_).1 with failed := (l.put d by_).2.2 }, (l.put d by_).2.1, (l.put d by_).2.2) := by unfold ALog.wr; rw [if_pos hf]
    rw [e]
    clear e
    go_enter Tryz.func118, Tryz.ntmps118
    go_wp2_with fail
    refine (inTurnA B lp p bD bN n nD nN bl bb g cap base gst pv sv rv l d by_ w HI.out hn hB hsg hst hbl hbb hr hm2 hpow).mono ?_
    rintro e w1 ⟨rfl, ⟨pv1, sv1, rv1, nD1, nN1, hl1⟩, ho1⟩
    have H1 : Hid (LogIn w1 B lp p bD bN pv1 sv1 rv1 (l.put d by_).1 (l.put d by_).2.1 (n + 2) nD1 nN1) := hl1
    have HO : Hid (OFx [g] lp p w w1) := ho1
    have k6 := blk_cell hl1.blk 6
    have f6 := blk_free hl1.blk 6
    simp at k6
    clear hl1 ho1 hst hbl hbb hr h
    by_cases hc : (l.put d by_).2.2 = 0
    · rw [hc, errN_ok]
      go_wp2
      go_ret
      obtain ⟨hl2, hf2⟩ := H1.out.fail (c := 0) rfl
      unfold PutL
      simp only
      rw [hc]
      exact ⟨rfl, ⟨pv1, sv1, rv1, nD1, nN1, hl2⟩, HO.out.trans (H1.out.ofx hl2 hf2 (by intro k hk _; simp at hk; simp [hk]) (Near.refl _ _) (Near.refl _ _) (Near.refl _ _))⟩
    · have he := errN_no hc
      obtain ⟨hl2, hf2⟩ := H1.out.fail (c := (l.put d by_).2.2) rfl
      rw [he] at hl2 hf2 ⊢
      have H2 : Hid (LogIn (w1.setCell ⟨lp, 6, none⟩ (.iface 32 (.int .i64 ((l.put d by_).2.2 : Int)))) B lp p bD bN pv1 sv1 rv1 { (l.put d by_).1 with failed := (l.put d by_).2.2 } (l.put d by_).2.1 (n + 2) nD1 nN1) := hl2
      clear hl2
      go_wp2
      go_ret
      exact ⟨by simp only; rw [he]; rfl, ⟨pv1, sv1, rv1, nD1, nN1, H2.out⟩, HO.out.trans (H1.out.ofx H2.out hf2 (by intro k hk _; simp at hk; simp [hk]) (Near.refl _ _) (Near.refl _ _) (Near.refl _ _))⟩
  · rw [errN_no hf] at c6
    have e : l.wr d (l.put d by_) = (l, d, l.failed) := by unfold ALog.wr; rw [if_neg hf]
    rw [e]
    go_enter Tryz.func118, Tryz.ntmps118
    go_wp2
    go_ret
    exact ⟨by simp only; rw [errN_no hf]; rfl, ⟨pv, sv, rv, nD, nN, (HI.out.more (by omega)).more (by omega)⟩, (OFr.refl _ _ _).x⟩
end Go.Proofs.YtejiankgafjppaaGreatDoor
/- (*Log).Append. -/
namespace Go.Proofs.YtejiankgafjppaaGreatDoor
open Go.RowKit
open Sc

theorem foldl_push (l : List UInt8) (a : ByteArray) : (l.foldl (fun r n => r.push n) a).data.toList = a.data.toList ++ l := by
  induction l generalizing a with
  | nil => simp
  | cons x l ih => rw [List.foldl_cons, ih]; simp [ByteArray.push]
theorem strOf_bytes (s : ByteArray) : str (bytesOf s) = s := by
  have h : str (bytesOf s) = s.data.toList.foldl (fun r n => r.push n) ByteArray.empty := by
    unfold str bytesOf
    rw [List.map_map, List.foldl_map]
    congr 1
    funext r n
    simp
  have h2 := foldl_push s.data.toList ByteArray.empty
  rw [← h] at h2
  have h3 : (str (bytesOf s)).data = s.data := by
    apply Array.toList_inj.1
    rw [h2]; simp
  cases hs : str (bytesOf s)
  cases s
  rw [hs] at h3
  simp at h3
  rw [h3]
def ALog.append (l : ALog) (d : ADisk) (kind : Nat) (s : ByteArray) : ALog × ADisk × Nat × Nat :=
  if 255 < s.size then (l, d, 0, 1)
  else if (l.wr d (l.put d (recBytes l.next kind (bytesOf s)))).2.2 = 0 then
    ({ (l.wr d (l.put d (recBytes l.next kind (bytesOf s)))).1 with filled := (l.wr d (l.put d (recBytes l.next kind (bytesOf s)))).1.filled + (15 + s.size), recs := (l.wr d (l.put d (recBytes l.next kind (bytesOf s)))).1.recs ++ [⟨(l.wr d (l.put d (recBytes l.next kind (bytesOf s)))).1.next, kind, bytesOf s⟩], next := (l.wr d (l.put d (recBytes l.next kind (bytesOf s)))).1.next + 1 },
      (l.wr d (l.put d (recBytes l.next kind (bytesOf s)))).2.1, (l.wr d (l.put d (recBytes l.next kind (bytesOf s)))).1.next, 0)
  else ((l.wr d (l.put d (recBytes l.next kind (bytesOf s)))).1, (l.wr d (l.put d (recBytes l.next kind (bytesOf s)))).2.1, 0, (l.wr d (l.put d (recBytes l.next kind (bytesOf s)))).2.2)
theorem put_filled {l : ALog} {d : ADisk} {by_ : List Nat} (h : (l.put d by_).2.2 = 0) : (l.put d by_).1.filled < 600 := by
  unfold ALog.put at *
  by_cases hr : (l.room d).2.2 = 0
  · rw [if_pos hr]
    show (l.room d).1.filled < 600
    unfold ALog.room at *
    by_cases hf : l.filled < 600
    · rw [if_pos hf]; exact hf
    · rw [if_neg hf] at hr ⊢
      by_cases hs : (l.sync d).2.2 = 0
      · rw [if_pos hs]; show 0 < 600; omega
      · rw [if_neg hs] at hr; exact absurd hr hs
  · rw [if_neg hr] at h; exact absurd h hr
theorem wr_filled {l : ALog} {d : ADisk} {by_ : List Nat} (h : (l.wr d (l.put d by_)).2.2 = 0) : (l.wr d (l.put d by_)).1.filled < 600 := by
  unfold ALog.wr at *
  by_cases hf : l.failed = 0
  · rw [if_pos hf] at h ⊢; exact put_filled h
  · rw [if_neg hf] at h; exact absurd h hf
def AppPost (B lp p bD bN n : Nat) (r : ALog × ADisk × Nat × Nat) (w : World) (e : Ending) (w' : World) : Prop :=
  e = .returned (.tuple #[.int .u64 (r.2.2.1 : Int), errN r.2.2.2]) ∧ (∃ pv sv rv nD nN, LogIn w' B lp p bD bN pv sv rv r.1 r.2.1 n nD nN) ∧ OFr lp p w w'
theorem LogIn.new {w w' : World} {B lp p bD bN n nD nN : Nat} {pv sv rv : Value} {l : ALog} {d : ADisk} (h : LogIn w B lp p bD bN pv sv rv l d n nD nN) (hf : Fr [] w w') : LogIn w' B lp p bD bN pv sv rv l d n nD nN :=
  h.turned (h.disk.new hf) hf (by simp) (Nat.le_refl _)
theorem LogIn.newO {w w' : World} {B lp p bD bN n nD nN : Nat} {pv sv rv : Value} {l : ALog} {d : ADisk} (h : LogIn w B lp p bD bN pv sv rv l d n nD nN) (hf : Fr [] w w') : OFr lp p w w' :=
  h.ofr (h.new hf) hf (by simp) (.inl rfl) (Near.refl _ _) (Near.refl _ _) (Near.refl _ _)
set_option maxRecDepth 100000 in
set_option maxHeartbeats 4000000 in
theorem lappend_no (B lp p bD bN n nD nN kind : Nat) (pv sv rv : Value) (l : ALog) (d : ADisk) (s : ByteArray) (w : World) (h : LogIn w B lp p bD bN pv sv rv l d n nD nN) (hs : 255 < s.size) (hn : n + 1 < 67108864) :
    Calls Tryz.prog 55 #[.pointer (some ⟨lp, 0, none⟩), .int .u8 (kind : Int), .string s] w (AppPost B lp p bD bN (n + 2) (l.append d kind s) w) := by
  have e : l.append d kind s = (l, d, 0, 1) := by unfold ALog.append; rw [if_pos hs]
  rw [e]
  have hlp := (Array.getElem?_eq_some_iff.1 h.blk).1
  have c4 := blk_cell h.blk 4
  simp at c4
  have c4' : ∀ ob, (w.alloc ob).cell? ⟨lp, 4, none⟩ = some (.int .u64 (l.next : Int)) := fun ob => (World.cell?_of_block (a := ⟨lp, 4, none⟩) (Below.heap_alloc w ob lp hlp)).trans c4
  have HI : Hid (LogIn w B lp p bD bN pv sv rv l d n nD nN) := h
  clear h e
  go_enter Tryz.func55, Tryz.ntmps55
  go_wp2_with fail
  refine (encodeR_no (l.next : Int) (kind : Int) s _ hs).mono ?_
  rintro e w1 ⟨rfl, hb1⟩
  have hf1 : Fr [] w w1 := ((Fr.refl [] w).alloc _).trans (Fr.of_below hb1 [])
  clear hb1
  go_wp2
  go_ret2
  have hf2 : Fr [] w (w1.alloc (.cells #[.slice none 0 0] 164)) := hf1.alloc _
  exact ⟨rfl, ⟨pv, sv, rv, nD, nN, ((HI.out.new hf2).more (by omega)).more (by omega)⟩, HI.out.newO hf2⟩
end Go.Proofs.YtejiankgafjppaaGreatDoor
/- (*Log).Force. -/
namespace Go.Proofs.YtejiankgafjppaaGreatDoor
open Go.RowKit
open Sc

set_option maxRecDepth 100000 in
set_option maxHeartbeats 4000000 in
theorem inTurnF (B lp p bD bN n nD nN gst : Nat) (pv sv rv : Value) (l : ALog) (d : ADisk) (w : World) (h : LogIn w B lp p bD bN pv sv rv l d n nD nN) (hn : n ≤ 67108864)
    (hst : w.heap[gst]? = some (.cells #[.func (.func 123) #[.pointer (some ⟨lp, 0, none⟩)] #[]] 109)) :
    Calls Tryz.prog 170 #[.slice (some ⟨gst, 0, none⟩) 1 1] w (PutL B lp p bD bN n [] (l.sync d) w) := by
  have z0 := blk_cell hst 0
  simp at z0
  have HI : Hid (LogIn w B lp p bD bN pv sv rv l d n nD nN) := h
  clear h
  go_enter Tryz.func170, Tryz.ntmps170
  go_wp2
  refine wp_loop_rounds 2 ?_
  rw [rounds_succ]
  go_wp2_with fail
  refine (lsync_any B lp p bD bN n nD nN pv sv rv l d w HI.out hn).mono ?_
  rintro e w1 ⟨rfl, hl1, ho1⟩
  have H1 : Hid (PutL B lp p bD bN n [] (l.sync d) w (.returned (errN (l.sync d).2.2)) w1) := ⟨rfl, hl1, ho1.x⟩
  clear hl1 ho1
  by_cases hc : (l.sync d).2.2 = 0
  · rw [hc, errN_ok] at H1 ⊢
    go_wp2
    rw [rounds_succ]
    go_wp2
    go_ret
    exact H1.out
  · rw [errN_no hc] at H1 ⊢
    go_wp2
    go_ret
    exact H1.out
set_option maxRecDepth 100000 in
set_option maxHeartbeats 4000000 in
theorem writeF (B lp p bD bN n nD nN gst : Nat) (pv sv rv : Value) (l : ALog) (d : ADisk) (w : World) (h : LogIn w B lp p bD bN pv sv rv l d n nD nN) (hn : n ≤ 67108864)
    (hst : w.heap[gst]? = some (.cells #[.func (.func 123) #[.pointer (some ⟨lp, 0, none⟩)] #[]] 109)) :
    Calls Tryz.prog 118 #[.pointer (some ⟨lp, 0, none⟩), .slice (some ⟨gst, 0, none⟩) 1 1] w (PutL B lp p bD bN n [] (l.wr d (l.sync d)) w) := by
  have c0 := blk_cell h.blk 0
  have c6 := blk_cell h.blk 6
  simp at c0 c6
  have HI : Hid (LogIn w B lp p bD bN pv sv rv l d n nD nN) := h
  have hnil := Tryz.eqNil p
  by_cases hf : l.failed = 0
  · rw [hf, errN_ok] at c6
    have e : l.wr d (l.sync d) = ({ (l.sync d).1 with failed := (l.sync d).2.2 }, (l.sync d).2.1, (l.sync d).2.2) := by unfold ALog.wr; rw [if_pos hf]
    rw [e]
    clear e
    go_enter Tryz.func118, Tryz.ntmps118
    go_wp2_with fail
    refine (inTurnF B lp p bD bN n nD nN gst pv sv rv l d w HI.out hn hst).mono ?_
    rintro e w1 ⟨rfl, ⟨pv1, sv1, rv1, nD1, nN1, hl1⟩, ho1⟩
    have H1 : Hid (LogIn w1 B lp p bD bN pv1 sv1 rv1 (l.sync d).1 (l.sync d).2.1 n nD1 nN1) := hl1
    have HO : Hid (OFx [] lp p w w1) := ho1
    have k6 := blk_cell hl1.blk 6
    have f6 := blk_free hl1.blk 6
    simp at k6
    clear hl1 ho1 hst h
    by_cases hc : (l.sync d).2.2 = 0
    · rw [hc, errN_ok]
      go_wp2
      go_ret
      obtain ⟨hl2, hf2⟩ := H1.out.fail (c := 0) rfl
      unfold PutL
      simp only
      rw [hc]
      exact ⟨rfl, ⟨pv1, sv1, rv1, nD1, nN1, hl2⟩, HO.out.trans (H1.out.ofx hl2 hf2 (by intro k hk _; simp at hk; simp [hk]) (Near.refl _ _) (Near.refl _ _) (Near.refl _ _))⟩
    · have he := errN_no hc
      obtain ⟨hl2, hf2⟩ := H1.out.fail (c := (l.sync d).2.2) rfl
      rw [he] at hl2 hf2 ⊢
      have H2 : Hid (LogIn (w1.setCell ⟨lp, 6, none⟩ (.iface 32 (.int .i64 ((l.sync d).2.2 : Int)))) B lp p bD bN pv1 sv1 rv1 { (l.sync d).1 with failed := (l.sync d).2.2 } (l.sync d).2.1 n nD1 nN1) := hl2
      clear hl2
      go_wp2
      go_ret
      exact ⟨by simp only; rw [he]; rfl, ⟨pv1, sv1, rv1, nD1, nN1, H2.out⟩, HO.out.trans (H1.out.ofx H2.out hf2 (by intro k hk _; simp at hk; simp [hk]) (Near.refl _ _) (Near.refl _ _) (Near.refl _ _))⟩
  · rw [errN_no hf] at c6
    have e : l.wr d (l.sync d) = (l, d, l.failed) := by unfold ALog.wr; rw [if_neg hf]
    rw [e]
    go_enter Tryz.func118, Tryz.ntmps118
    go_wp2
    go_ret
    exact ⟨by simp only; rw [errN_no hf]; rfl, ⟨pv, sv, rv, nD, nN, HI.out⟩, (OFr.refl _ _ _).x⟩
theorem OFx.ofr {lp p : Nat} {w w' : World} (h : OFx [] lp p w w') : OFr lp p w w' := ⟨h.os, h.tape, h.output, h.size, fun k hk hn => h.block k hk hn (by simp), h.stay⟩
def ALog.force (l : ALog) (d : ADisk) : ALog × ADisk × Nat := if l.durable = l.next then (l, d, 0) else l.wr d (l.sync d)
/-- what stands behind a call that answers an error alone -/
def ErrPost (B lp p bD bN n : Nat) (r : ALog × ADisk × Nat) (w : World) (e : Ending) (w' : World) : Prop :=
  e = .returned (errN r.2.2) ∧ (∃ pv sv rv nD nN, LogIn w' B lp p bD bN pv sv rv r.1 r.2.1 n nD nN) ∧ OFr lp p w w'
set_option maxRecDepth 100000 in
set_option maxHeartbeats 4000000 in
theorem force_any (B lp p bD bN n nD nN : Nat) (pv sv rv : Value) (l : ALog) (d : ADisk) (w : World) (h : LogIn w B lp p bD bN pv sv rv l d n nD nN) (hn : n ≤ 67108864) :
    Calls Tryz.prog 56 #[.pointer (some ⟨lp, 0, none⟩)] w (ErrPost B lp p bD bN n (l.force d) w) := by
  have c4 := blk_cell h.blk 4
  have c5 := blk_cell h.blk 5
  simp at c4 c5
  have HI : Hid (LogIn w B lp p bD bN pv sv rv l d n nD nN) := h
  clear h
  by_cases hq : l.durable = l.next
  · have e : l.force d = (l, d, 0) := by unfold ALog.force; rw [if_pos hq]
    rw [e]
    rw [hq] at c5
    go_enter Tryz.func56, Tryz.ntmps56
    go_wp2
    go_region
    go_wp2
    go_ret
    have hf : Fr [] w w.drew := (Fr.refl [] w).drew
    exact ⟨rfl, ⟨pv, sv, rv, nD, nN, HI.out.new hf⟩, HI.out.newO hf⟩
  · have e : l.force d = l.wr d (l.sync d) := by unfold ALog.force; rw [if_neg hq]
    rw [e]
    have i1 : ¬ (l.durable : Int) = (l.next : Int) := by omega
    have i2 : ((l.durable : Int) == (l.next : Int)) = false := by simpa using i1
    go_enter Tryz.func56, Tryz.ntmps56
    go_wp2
    go_region
    go_wp2_with fail
    have hf : Fr [] w (w.drew.alloc (.cells #[.func (.func 123) #[.pointer (some ⟨lp, 0, none⟩)] #[]] 109)) := (Fr.refl [] w).drew.alloc _
    refine (writeF B lp p bD bN n nD nN _ pv sv rv l d _ (HI.out.new hf) hn (heap_alloc_new w.drew _)).mono ?_
    rintro e w1 ⟨rfl, hl1, ho1⟩
    have H1 : Hid (ErrPost B lp p bD bN n (l.wr d (l.sync d)) w (.returned (errN (l.wr d (l.sync d)).2.2)) w1) := ⟨rfl, hl1, (HI.out.newO hf).trans ho1.ofr⟩
    clear hl1 ho1
    go_wp2
    go_ret
    exact H1.out
end Go.Proofs.YtejiankgafjppaaGreatDoor
