import Derived.Test.YtnnhihkeffljbaaGreatDoorC14
/- inTurn and write, over Append's two steps. -/
namespace Go.Proofs.YtnnhihkeffljbaaGreatDoor
open Go.RowKit
open Sc

/-- as OFr, and the blocks of X may have turned -/
structure OFx (X : List Nat) (lp p : Nat) (w w' : World) : Prop where
  os : w'.os = w.os
  tape : w'.tape = w.tape
  output : w'.output = w.output
  size : w.heap.size ≤ w'.heap.size
  block : ∀ k, k < w.heap.size → ¬ Own lp p w k → k ∉ X → w'.heap[k]? = w.heap[k]?
  stay : ∀ k, k < w.heap.size → Own lp p w' k → Own lp p w k
theorem OFr.x {X : List Nat} {lp p : Nat} {w w' : World} (h : OFr lp p w w') : OFx X lp p w w' := ⟨h.os, h.tape, h.output, h.size, fun k hk hn _ => h.block k hk hn, h.stay⟩
theorem OFx.trans {X : List Nat} {lp p : Nat} {a b c : World} (h : OFx X lp p a b) (k : OFx X lp p b c) : OFx X lp p a c :=
  ⟨k.os.trans h.os, k.tape.trans h.tape, k.output.trans h.output, Nat.le_trans h.size k.size,
    fun i hi hn hx => (k.block i (Nat.lt_of_lt_of_le hi h.size) (fun ho => hn (h.stay i hi ho)) hx).trans (h.block i hi hn hx),
    fun i hi ho => h.stay i hi (k.stay i (Nat.lt_of_lt_of_le hi h.size) ho)⟩
section
variable {w w' : World} {B lp p bD bN n nD nN n' nD' nN' : Nat} {pv sv rv pv' sv' rv' : Value} {l l' : ALog} {d d' : ADisk}
theorem LogIn.ofx {X S : List Nat} (h : LogIn w B lp p bD bN pv sv rv l d n nD nN) (h' : LogIn w' B lp p bD bN pv' sv' rv' l' d' n' nD' nN') (hf : Fr S w w')
    (hS : ∀ k ∈ S, k < w.heap.size → k ∈ X ∨ k = lp ∨ k = p ∨ k = bD ∨ k = bN ∨ pv.ownBlock = some k ∨ sv.ownBlock = some k ∨ rv.ownBlock = some k)
    (h1 : Near w.heap.size pv pv') (h2 : Near w.heap.size sv sv') (h3 : Near w.heap.size rv rv') : OFx X lp p w w' := by
  refine ⟨hf.os, hf.tape, hf.output, hf.size, fun k hk hn hx => hf.block k hk (fun hm => ?_), fun k hk ho => ?_⟩
  · rcases hS k hm hk with e | e
    · exact hx e
    · exact hn ((h.own k).2 e)
  rw [h.own]
  rcases (h'.own k).1 ho with e | e | e | e | e | e | e
  · exact .inl e
  · exact .inr (.inl e)
  · exact .inr (.inr (.inl e))
  · exact .inr (.inr (.inr (.inl e)))
  · rcases h1 k e with e | e
    · exact .inr (.inr (.inr (.inr (.inl e))))
    · omega
  · rcases h2 k e with e | e
    · exact .inr (.inr (.inr (.inr (.inr (.inl e)))))
    · omega
  · rcases h3 k e with e | e
    · exact .inr (.inr (.inr (.inr (.inr (.inr e)))))
    · omega
theorem LogIn.ge (h : LogIn w B lp p bD bN pv sv rv l d n nD nN) {k : Nat} (hk : Own lp p w k) : B ≤ k := by
  rcases (h.own k).1 hk with e | e | e | e | e | e | e
  · rw [e]; exact h.base
  · rw [e]; exact h.disk.base.1
  · rw [e]; exact h.disk.base.2.1
  · rw [e]; exact h.disk.base.2.2.1
  · exact (h.disk.pen.lt k e).1
  · exact (h.segs.lt k e).1
  · exact (h.recs.lt k e).1
/-- a block of another kind than the log's -/
theorem LogIn.free (h : LogIn w B lp p bD bN pv sv rv l d n nD nN) {q : Nat} {c : Array Value} {t : TypeId} {fr : Nat × Nat} (hq : w.heap[q]? = some (.cells c t fr)) (h1 : t ≠ 86) (h2 : t ≠ 107) (h3 : t ≠ 158) (h4 : t ≠ 33) (h5 : t ≠ 92) : ¬ Own lp p w q := by
  intro ho
  have hn := dS_typed h.disk hq h1 h2
  rcases (h.own q).1 ho with e | e | e | e | e | e | e
  · rw [e, h.blk] at hq; cases hq; exact h3 rfl
  · exact hn (by simp [e])
  · exact hn (by simp [e])
  · exact hn (by simp [e])
  · exact hn (by simp [e])
  · exact own_ne h.segs hq (fun e => h4 e.symm) e
  · exact own_ne h.recs hq (fun e => h5 e.symm) e
end
theorem Tryz.powG : Tryz.prog.globalNamed "internal/strconv.uint64pow10" = some 1 := by kernel_rfl
theorem Pows.of_block {w w' : World} (h : Pows w) (hb : w'.heap[1]? = w.heap[1]?) : Pows w' := by
  unfold Pows Lib.TabIs World.var? at *
  rw [Tryz.powG] at *
  simp only [Option.bind_some] at *
  rw [hb]; exact h
def ALog.put (l : ALog) (d : ADisk) (by_ : List Nat) : ALog × ADisk × Nat :=
  if (l.room d).2.2 = 0 then ((l.room d).1, ((l.room d).2.1.tell ⟨2, segName ((l.room d).1.segs.getLastD 0), ByteArray.empty, str by_⟩).1, ((l.room d).2.1.tell ⟨2, segName ((l.room d).1.segs.getLastD 0), ByteArray.empty, str by_⟩).2)
  else l.room d
/-- what stands behind it -/
def PutL (B lp p bD bN n : Nat) (X : List Nat) (r : ALog × ADisk × Nat) (w : World) (e : Ending) (w' : World) : Prop :=
  e = .returned (errN r.2.2) ∧ (∃ pv sv rv nD nN, LogIn w' B lp p bD bN pv sv rv r.1 r.2.1 n nD nN) ∧ OFx X lp p w w'
theorem room_segs {l : ALog} {d : ADisk} (h : l.filled < 600 → l.segs ≠ []) (hr : (l.room d).2.2 = 0) : (l.room d).1.segs ≠ [] := by
  unfold ALog.room at *
  split
  · rename_i hf; exact h hf
  · rename_i hf
    rw [if_neg hf] at hr
    split at hr
    · rename_i hs; rw [if_pos hs]; simp
    · rename_i hs; exact absurd hr hs
theorem getLast_at {l : List Nat} (h : l ≠ []) : l[l.length - 1]? = some (l.getLastD 0) := by
  rw [List.getLastD_eq_getLast?, ← List.getLast?_eq_getElem?]
  cases hh : l.getLast? with
  | none => exact absurd (List.getLast?_eq_none_iff.1 hh) h
  | some x => rfl
set_option maxRecDepth 100000 in
set_option maxHeartbeats 4000000 in
theorem inTurnA (B lp p bD bN n nD nN bl bb g cap base gst : Nat) (pv sv rv : Value) (l : ALog) (d : ADisk) (by_ : List Nat) (w : World) (h : LogIn w B lp p bD bN pv sv rv l d n nD nN) (hn : n + 1 < 67108864) (hB : 2 ≤ B) (hsg : l.filled < 600 → l.segs ≠ [])
    (hst : w.heap[gst]? = some (.cells #[.func (.func 111) #[.pointer (some ⟨lp, 0, none⟩)] #[], .func (.func 112) #[] #[.pointer (some ⟨bl, 0, none⟩), .pointer (some ⟨bb, 0, none⟩)]] 137))
    (hbl : w.heap[bl]? = some (.cells #[.pointer (some ⟨lp, 0, none⟩)] 60)) (hbb : w.heap[bb]? = some (.cells #[.slice (some ⟨g, 0, none⟩) by_.length cap] 177))
    (hr : w.ownsRow base 5 1 (.slice (some ⟨g, 0, none⟩) by_.length cap) by_.length (bs by_)) (hm2 : by_.length ≤ 4096) (hpow : Pows w) :
    Calls Tryz.prog 93 #[.slice (some ⟨gst, 0, none⟩) 2 2] w (PutL B lp p bD bN (n + 2) [g] (l.put d by_) w) := by
  have z0 := blk_cell hst 0
  have z1 := blk_cell hst 1
  simp at z0 z1
  have HI : Hid (LogIn w B lp p bD bN pv sv rv l d n nD nN) := h
  go_enter Tryz.func93, Tryz.ntmps93
  go_wp2
  refine wp_loop_rounds 3 ?_
  rw [rounds_succ]
  go_wp2_with fail
  refine (room_any B lp p bD bN n nD nN pv sv rv l d w HI.out (by omega)).mono ?_
  rintro e w1 ⟨rfl, ⟨pv1, sv1, rv1, nD1, nN1, hl1⟩, ho1⟩
  have fre : ∀ {q : Nat} {c : Array Value} {t : TypeId}, w.heap[q]? = some (.cells c t (0, 0)) → t ≠ 86 → t ≠ 107 → t ≠ 158 → t ≠ 33 → t ≠ 92 → w1.heap[q]? = some (.cells c t (0, 0)) := fun {q c t} hq h1 h2 h3 h4 h5 =>
    (ho1.block q (Array.getElem?_eq_some_iff.1 hq).1 (HI.out.free hq h1 h2 h3 h4 h5)).trans hq
  have hst1 := fre hst (by decide) (by decide) (by decide) (by decide) (by decide)
  have hbl1 := fre hbl (by decide) (by decide) (by decide) (by decide) (by decide)
  have hbb1 := fre hbb (by decide) (by decide) (by decide) (by decide) (by decide)
  have hr1 : w1.ownsRow base 5 1 (.slice (some ⟨g, 0, none⟩) by_.length cap) by_.length (bs by_) := by
    obtain ⟨h1, h2⟩ := hr
    refine ⟨h1, ?_⟩
    rcases h2 with h2 | ⟨g', cap', cur, e, b1, b2, b3⟩
    · exact .inl h2
    · exact .inr ⟨g', cap', cur, e, b1, fre b2 (by decide) (by decide) (by decide) (by decide) (by decide), b3⟩
  have hb6 : 1 < w.heap.size := by have := HI.out.disk.base.2.2.2; omega
  have hpow1 : Pows w1 := hpow.of_block (ho1.block 1 hb6 (fun ho => by have := HI.out.ge ho; omega))
  have z2 := blk_cell hst1 1
  simp at z2
  have H1 : Hid (LogIn w1 B lp p bD bN pv1 sv1 rv1 (l.room d).1 (l.room d).2.1 (n + 1) nD1 nN1) := hl1
  have HO : Hid (OFr lp p w w1) := ho1
  have HBL : Hid (w1.heap[bl]? = some (.cells #[.pointer (some ⟨lp, 0, none⟩)] 60)) := hbl1
  have HBB : Hid (w1.heap[bb]? = some (.cells #[.slice (some ⟨g, 0, none⟩) by_.length cap] 177)) := hbb1
  have HR1 : Hid (w1.ownsRow base 5 1 (.slice (some ⟨g, 0, none⟩) by_.length cap) by_.length (bs by_)) := hr1
  have HSG : Hid (l.filled < 600 → l.segs ≠ []) := hsg
  clear h hl1 ho1 hst1 hbl1 hbb1 hr1 hst hbl hbb hr hsg fre z0 z1
  by_cases hc : (l.room d).2.2 = 0
  · have hseg := room_segs HSG.out hc
    obtain ⟨last, hlast⟩ : ∃ last, last = (l.room d).1.segs.getLastD 0 := ⟨_, rfl⟩
    have hla := getLast_at hseg
    rw [← hlast] at hla
    have e : l.put d by_ = ((l.room d).1, ((l.room d).2.1.tell ⟨2, segName last, ByteArray.empty, str by_⟩).1, ((l.room d).2.1.tell ⟨2, segName last, ByteArray.empty, str by_⟩).2) := by unfold ALog.put; rw [if_pos hc, ← hlast]
    have HE : Hid (l.put d by_ = ((l.room d).1, ((l.room d).2.1.tell ⟨2, segName last, ByteArray.empty, str by_⟩).1, ((l.room d).2.1.tell ⟨2, segName last, ByteArray.empty, str by_⟩).2)) := e
    have hlt : last < 18446744073709551616 := H1.out.segsN.2 last (List.mem_of_getElem? hla)
    have HLA : Hid ((l.room d).1.segs[(l.room d).1.segs.length - 1]? = some last) := hla
    clear e hla hlast
    obtain ⟨gs, cs, hsv⟩ : ∃ gs cs, sv1 = .slice (some ⟨gs, 0, none⟩) (l.room d).1.segs.length cs := by
      rcases H1.out.segs.2 with ⟨_, h2⟩ | ⟨g', cap', cur, e, _⟩
      · exact absurd (List.length_eq_zero_iff.1 h2) hseg
      · exact ⟨g', cap', e⟩
    subst hsv
    clear hseg
    rw [hc, errN_ok]
    go_wp2
    rw [rounds_succ]
    go_wp2_with fail
    refine (app1_any B lp p bD bN (n + 1) nD1 nN1 bl bb g by_.length cap base gs cs last pv1 rv1 (l.room d).1 (l.room d).2.1 by_ w1 H1.out hn HLA.out HBL.out HBB.out rfl HR1.out hm2 hpow1 hlt).mono ?_
    rintro e w2 ⟨rfl, ⟨pv2, nN2, hl2, hne2⟩, hf2⟩
    have ho2 : OFx [g] lp p w1 w2 := H1.out.ofx hl2 hf2 (by intro k hk _; rcases List.mem_cons.1 hk with e | hk; exact .inl (by simp [e]); right; rcases List.mem_cons.1 hk with e | hk; simp [e]; rcases List.mem_cons.1 hk with e | hk; simp [e]; rcases List.mem_cons.1 hk with e | hk; simp [e]; simp at hk; simp [hk]) hne2 (Near.refl _ _) (Near.refl _ _)
    have H2 : Hid (PutL B lp p bD bN (n + 2) [g] (l.put d by_) w (.returned (errN ((l.room d).2.1.tell ⟨2, segName last, ByteArray.empty, str by_⟩).2)) w2) := by
      show PutL _ _ _ _ _ _ _ _ _ _ _
      rw [HE.out]
      exact ⟨rfl, ⟨pv2, _, rv1, nD1, nN2, hl2⟩, HO.out.x.trans ho2⟩
    clear hl2 hne2 hf2 ho2
    by_cases hc2 : ((l.room d).2.1.tell ⟨2, segName last, ByteArray.empty, str by_⟩).2 = 0
    · rw [hc2, errN_ok] at H2 ⊢
      go_wp2
      rw [rounds_succ]
      go_wp2
      go_ret
      exact H2.out
    · rw [errN_no hc2] at H2 ⊢
      go_wp2
      go_ret
      exact H2.out
  · have e : l.put d by_ = l.room d := by unfold ALog.put; rw [if_neg hc]
    have HE : Hid (l.put d by_ = l.room d) := e
    clear e
    have H2 : Hid (PutL B lp p bD bN (n + 2) [g] (l.put d by_) w (.returned (errN (l.room d).2.2)) w1) := by
      show PutL _ _ _ _ _ _ _ _ _ _ _
      rw [HE.out]
      exact ⟨rfl, ⟨pv1, sv1, rv1, nD1, nN1, H1.out.more hn⟩, HO.out.x⟩
    rw [errN_no hc] at H2 ⊢
    go_wp2
    go_ret
    exact H2.out
end Go.Proofs.YtnnhihkeffljbaaGreatDoor
/- journal.removeAll, over a disk. -/
namespace Go.Proofs.YtnnhihkeffljbaaGreatDoor
open Go.RowKit
open Sc

/-- what is the disk's -/
def OwnD (p : Nat) (w : World) (k : Nat) : Prop := k = p ∨ k ∈ refs w.heap[p]?
structure DFr (p : Nat) (w w' : World) : Prop where
  os : w'.os = w.os
  tape : w'.tape = w.tape
  output : w'.output = w.output
  size : w.heap.size ≤ w'.heap.size
  block : ∀ k, k < w.heap.size → ¬ OwnD p w k → w'.heap[k]? = w.heap[k]?
  stay : ∀ k, k < w.heap.size → OwnD p w' k → OwnD p w k
theorem DFr.refl (p : Nat) (w : World) : DFr p w w := ⟨rfl, rfl, rfl, Nat.le_refl _, fun _ _ _ => rfl, fun _ _ h => h⟩
theorem DFr.trans {p : Nat} {a b c : World} (h : DFr p a b) (k : DFr p b c) : DFr p a c :=
  ⟨k.os.trans h.os, k.tape.trans h.tape, k.output.trans h.output, Nat.le_trans h.size k.size,
    fun i hi hn => (k.block i (Nat.lt_of_lt_of_le hi h.size) (fun ho => hn (h.stay i hi ho))).trans (h.block i hi hn),
    fun i hi ho => h.stay i hi (k.stay i (Nat.lt_of_lt_of_le hi h.size) ho)⟩
section
variable {w w' : World} {B p bD bN n nD nN n' nD' nN' : Nat} {pv pv' : Value} {d d' : ADisk}
theorem DiskIn.ownD (h : DiskIn w B p bD bN pv d n nD nN) (k : Nat) : OwnD p w k ↔ k ∈ dS p bD bN pv := by
  unfold OwnD
  rw [h.blk, mem_dsk (own_sl h.pen)]
  simp
theorem DiskIn.dfr {S : List Nat} (h : DiskIn w B p bD bN pv d n nD nN) (h' : DiskIn w' B p bD bN pv' d' n' nD' nN') (hf : Fr S w w') (hS : ∀ k ∈ S, k < w.heap.size → k ∈ dS p bD bN pv) (hne : Near w.heap.size pv pv') : DFr p w w' := by
  refine ⟨hf.os, hf.tape, hf.output, hf.size, fun k hk hn => hf.block k hk (fun hm => hn ((h.ownD k).2 (hS k hm hk))), fun k hk ho => ?_⟩
  rw [h.ownD]
  have := (h'.ownD k).1 ho
  rcases List.mem_cons.1 this with e | this
  · simp [e]
  rcases List.mem_cons.1 this with e | this
  · simp [e]
  rcases List.mem_cons.1 this with e | this
  · simp [e]
  · simp at this
    rcases hne k this with e | e
    · simp [e]
    · omega
/-- a block of another kind than the disk's -/
theorem DiskIn.freeD (h : DiskIn w B p bD bN pv d n nD nN) {q : Nat} {c : Array Value} {t : TypeId} {fr : Nat × Nat} (hq : w.heap[q]? = some (.cells c t fr)) (h1 : t ≠ 86) (h2 : t ≠ 107) : ¬ OwnD p w q := by
  rw [h.ownD]
  intro hm
  rcases List.mem_cons.1 hm with e | hm
  · rw [e, h.blk] at hq; cases hq; exact h1 rfl
  rcases List.mem_cons.1 hm with e | hm
  · exact h.dur.ne_cells hq e.symm
  rcases List.mem_cons.1 hm with e | hm
  · exact h.now.ne_cells hq e.symm
  · simp at hm; exact own_ne h.pen hq (fun e => h2 e.symm) hm
/-- a row of another kind than the disk's stays -/
theorem DFr.row {e : TypeId} {k m base : Nat} {v : Value} {xs : List Value} (hf : DFr p w w') (h : DiskIn w B p bD bN pv d n nD nN) (hr : w.ownsRow base e k v m xs) (h1 : e ≠ 86) (h2 : e ≠ 107) : w'.ownsRow base e k v m xs := by
  refine ⟨hr.1, ?_⟩
  rcases hr.2 with h3 | ⟨g, cap, cur, rfl, b1, b2, b3⟩
  · exact .inl h3
  · exact .inr ⟨g, cap, cur, rfl, b1, (hf.block g (Array.getElem?_eq_some_iff.1 b2).1 (h.freeD b2 h1 h2)).trans b2, b3⟩
end
/-- names as cells -/
def namesV (l : List ByteArray) : List Value := l.map Value.string
theorem names_cell {w : World} {B g cap n : Nat} {l : List ByteArray} (h : w.ownsRow B 9 1 (.slice (some ⟨g, 0, none⟩) n cap) n (namesV l)) (k : Nat) (x : ByteArray) (hk : l[k]? = some x) : w.cell? ⟨g, k, none⟩ = some (.string x) := by
  have h1 : (namesV l)[k]? = some (.string x) := by simp [namesV, hk]
  have := h.cells (g := g) rfl k _ h1
  simpa [Addr.add_lit] using this
def ADisk.removeAll (d : ADisk) : List ByteArray → ADisk × Nat
  | [] => d.sync
  | nm :: r => if (d.tell ⟨3, nm, ByteArray.empty, ByteArray.empty⟩).2 = 0 then (d.tell ⟨3, nm, ByteArray.empty, ByteArray.empty⟩).1.removeAll r else d.tell ⟨3, nm, ByteArray.empty, ByteArray.empty⟩
/-- what stands behind a call over the disk alone -/
def DskPost (B p bD bN n : Nat) (r : ADisk × Nat) (w : World) (e : Ending) (w' : World) : Prop :=
  e = .returned (errN r.2) ∧ (∃ pv nD nN, DiskIn w' B p bD bN pv r.1 n nD nN) ∧ DFr p w w'
theorem DiskIn.mores {w : World} {B p bD bN n nD nN : Nat} {pv : Value} {d : ADisk} (h : DiskIn w B p bD bN pv d n nD nN) {m : Nat} (hm : n ≤ m) (hm2 : m ≤ 67108864) : DiskIn w B p bD bN pv d m nD nN :=
  { h with hD := by have := h.hD; omega, hN := by have := h.hN; omega, hn := hm2 }
set_option maxRecDepth 100000 in
set_option maxHeartbeats 4000000 in
theorem removeAll_some (B p bD bN n nD nN g m cap base : Nat) (pv : Value) (d : ADisk) (l : List ByteArray) (w : World) (h : DiskIn w B p bD bN pv d n nD nN) (hm : l.length = m) (hn : n + m ≤ 67108864) (hr : w.ownsRow base 9 1 (.slice (some ⟨g, 0, none⟩) m cap) m (namesV l)) (hs : ∀ x ∈ l, x.size ≤ maxLen) :
    Calls Tryz.prog 96 #[dskV p, .slice (some ⟨g, 0, none⟩) m cap] w (DskPost B p bD bN (n + m) (d.removeAll l) w) := by
  have HI : Hid (DiskIn w B p bD bN pv d n nD nN) := h
  have HM : Hid (l.length = m) := hm
  have m1 := Tryz.mRemove
  have m2 := Tryz.mSync
  have HR : Hid (w.ownsRow base 9 1 (.slice (some ⟨g, 0, none⟩) m cap) m (namesV l)) := hr
  clear h hm hr
  go_enter Tryz.func96, Tryz.ntmps96
  go_wp2
  go_loopw [10] (fun i wr => ∃ k : Nat, k ≤ m ∧ i = .int .i64 k ∧ (∃ pvr dr nDr nNr, DiskIn wr B p bD bN pvr dr (n + k) nDr nNr ∧ d.removeAll l = dr.removeAll (l.drop k)) ∧ DFr p w wr) (fun i _ => m - (intOf i).toNat)
  case atStart => exact ⟨0, Nat.zero_le _, rfl, ⟨pv, d, nD, nN, HI.out, by simp⟩, DFr.refl _ _⟩
  case round =>
    obtain ⟨k, hk, rfl, ⟨pvr, dr, nDr, nNr, hdr, heq⟩, hfr⟩ := hrel
    have HD : Hid (DiskIn wr B p bD bN pvr dr (n + k) nDr nNr) := hdr
    have HF : Hid (DFr p w wr) := hfr
    have hrow := hfr.row HI.out HR.out (by decide) (by decide)
    clear hdr hfr
    by_cases hlt : k < m
    · obtain ⟨x, hx⟩ : ∃ x, l[k]? = some x := ⟨_, List.getElem?_eq_getElem (by rw [HM.out]; exact hlt)⟩
      have c0 := names_cell hrow k x hx
      have hxs := hs x (List.mem_of_getElem? hx)
      have hdrop : l.drop k = x :: l.drop (k + 1) := by
        rw [List.drop_eq_getElem_cons (by rw [HM.out]; exact hlt)]
        have := List.getElem?_eq_some_iff.1 hx
        obtain ⟨h1, h2⟩ := this
        rw [h2]
      rw [hdrop] at heq
      have HEQ : Hid (d.removeAll l = dr.removeAll (x :: l.drop (k + 1))) := heq
      have i0 : (0 : Int) ≤ (k : Int) := by omega
      have i1 : (k : Int) < (m : Int) := by omega
      clear heq hdrop hx hrow
      go_wp2_with fail
      refine (remove_any B p bD bN (n + k) nDr nNr pvr dr x wr HD.out (by omega) hxs).mono ?_
      rintro e w1 ⟨rfl, ⟨pv1, nN1, hd1, hne1⟩, hf1⟩
      have HD1 : Hid (DiskIn w1 B p bD bN pv1 (dr.tell ⟨3, x, ByteArray.empty, ByteArray.empty⟩).1 (n + k + 1) nDr nN1) := hd1
      have HF1 : Hid (DFr p w w1) := HF.out.trans (HD.out.dfr hd1 hf1 (fun q hq _ => hq) hne1)
      clear hd1 hne1 hf1
      by_cases hc : (dr.tell ⟨3, x, ByteArray.empty, ByteArray.empty⟩).2 = 0
      · rw [hc, errN_ok]
        go_wp2
        go_roundw
        case rel =>
          refine ⟨k + 1, by omega, by go_num, ⟨pv1, _, nDr, nN1, HD1.out, ?_⟩, HF1.out⟩
          rw [HEQ.out]
          show (if _ then _ else _) = _
          rw [if_pos hc]
        case measure => simp [intOf]; omega
      · rw [errN_no hc]
        go_wp2
        go_ret
        have e : d.removeAll l = dr.tell ⟨3, x, ByteArray.empty, ByteArray.empty⟩ := by
          rw [HEQ.out]
          show (if _ then _ else _) = _
          rw [if_neg hc]
        rw [e]
        exact ⟨by rw [errN_no hc]; rfl, ⟨pv1, nDr, nN1, HD1.out.mores (by omega) hn⟩, HF1.out⟩
    · obtain rfl : k = m := by omega
      have e : d.removeAll l = dr.sync := by
        rw [heq, List.drop_of_length_le (by rw [HM.out]; exact Nat.le_refl _)]
        rfl
      have HEQ : Hid (d.removeAll l = dr.sync) := e
      clear heq e hrow
      go_wp2_with fail
      refine (sync_any B p bD bN (n + k) nDr nNr pvr dr wr HD.out).mono ?_
      rintro e w1 ⟨rfl, ⟨pv1, nD1, hd1, hne1⟩, hf1⟩
      have H1 : Hid (DskPost B p bD bN (n + k) (d.removeAll l) w (.returned (errN dr.sync.2)) w1) := by
        show DskPost _ _ _ _ _ _ _ _ _
        rw [HEQ.out]
        exact ⟨rfl, ⟨pv1, nD1, nNr, hd1⟩, HF.out.trans (HD.out.dfr hd1 hf1 (fun q hq _ => by simp at hq; rcases hq with e | e <;> simp [e]) hne1)⟩
      clear hd1 hne1 hf1
      go_wp2
      go_ret
      exact H1.out
end Go.Proofs.YtnnhihkeffljbaaGreatDoor
/- journal.namesOf; removeAll of nothing. -/
namespace Go.Proofs.YtnnhihkeffljbaaGreatDoor
open Go.RowKit
open Sc

theorem Tryz.infoStr : (Tryz.prog.info? 9).map (fun i => (i.zero, i.size, i.bytes)) = some (some (.string ByteArray.empty), 1, 16) := by kernel_rfl
theorem namesV_snoc (l : List ByteArray) (x : ByteArray) : namesV (l ++ [x]) = namesV l ++ [.string x] := by simp [namesV]
theorem wpList_name {w : World} {ops : Array Oper} {rest : List Oper} {o : Oper} {a : Act} {Q : Exit → Act → World → Prop} (hgd : o.guard = none) (s x : Operand)
    (ho : o.op = .call { callee := .builtin .append, args := #[s, x], argTypes := #[159, 159] })
    (base : Nat) (v : Value) (n : Nat) (l : List ByteArray) (r : ByteArray) (b : Nat) (hs : a.eval s = v) (hown : w.ownsRow base 9 1 v n (namesV l)) (hx : a.eval x = .slice (some ⟨b, 0, none⟩) 1 1)
    (hb : w.cell? ⟨b, 0, none⟩ = some (.string r)) (hn : n ≤ 1073741824) (hbase : base ≤ w.heap.size)
    (h : ∀ v' w', w'.ownsRow base 9 1 v' (n + 1) (namesV (l ++ [r])) → w.grownBy w' v.ownBlock → wpList Tryz.prog ops Q rest (a.put o.dst v') w') : wpList Tryz.prog ops Q (o :: rest) a w := by
  obtain ⟨i0, hi, hz0, hz1, hz2⟩ := info_parts Tryz.infoStr
  refine wpList_append_own _ hgd s x 159 ho base 9 i0 _ 1 16 Tryz.underlying159 hi hz0 hz1 hz2 rfl (by decide) v n (namesV l) hs hown ⟨b, 0, none⟩ 1 1 [.string r] hx rfl ?_ ?_ (by unfold maxLen; omega) (by omega) hbase ?_
  · intro jj u hjj
    match jj, hjj with
    | 0, hjj => simp at hjj; subst hjj; simpa [Addr.add] using hb
  · intro u hu; simp at hu; subst hu; rfl
  · intro v' w' ho' hg' _
    refine h v' w' ?_ hg'
    rw [namesV_snoc]; exact ho'
set_option maxRecDepth 100000 in
set_option maxHeartbeats 4000000 in
theorem namesOf_some (gs off m cs : Nat) (l : List Nat) (w : World) (hl : l.length = m) (hm : m ≤ 67108864) (hc : ∀ (k x : Nat), l[k]? = some x → w.cell? ⟨gs, off + k, none⟩ = some (.int .u64 (x : Int)) ∧ x < 18446744073709551616) (hgs : gs < w.heap.size) (hpow : Pows w) (hB : 1 < w.heap.size) :
    Calls Tryz.prog 118 #[.slice (some ⟨gs, off, none⟩) m cs] w fun e w' => ∃ v, e = .returned v ∧ w'.ownsRow w.heap.size 9 1 v m (namesV (l.map segName)) ∧ Below w.heap.size w w' := by
  have HL : Hid (l.length = m) := hl
  have HC : Hid (∀ (k x : Nat), l[k]? = some x → w.cell? ⟨gs, off + k, none⟩ = some (.int .u64 (x : Int)) ∧ x < 18446744073709551616) := hc
  have HP : Hid (Pows w) := hpow
  clear hl hc hpow
  go_enter Tryz.func118, Tryz.ntmps118
  go_wp2
  go_loopw [3, 8] (fun v i wr => ∃ k : Nat, k ≤ m ∧ i = .int .i64 k ∧ wr.ownsRow w.heap.size 9 1 v k (namesV ((l.take k).map segName)) ∧ Below w.heap.size w wr) (fun _ i _ => m - (intOf i).toNat)
  case atStart => exact ⟨0, Nat.zero_le _, rfl, World.ownsRow_nil _ _ _ _, Below.refl _ _⟩
  case round =>
    obtain ⟨k, hk, rfl, hown, hb⟩ := hrel
    by_cases hlt : k < m
    · obtain ⟨x, hx⟩ : ∃ x, l[k]? = some x := ⟨_, List.getElem?_eq_getElem (by rw [HL.out]; exact hlt)⟩
      obtain ⟨c1, c2⟩ := HC.out k x hx
      have c3 := (hb.cell (p := ⟨gs, off + k, none⟩) hgs).trans c1
      have HX : Hid (l[k]? = some x) := hx
      have HO : Hid (wr.ownsRow w.heap.size 9 1 u3 k (namesV ((l.take k).map segName))) := hown
      have HB : Hid (Below w.heap.size w wr) := hb
      have hpr : Pows wr := HP.out.of_block (hb.block 1 hB)
      have i0 : (0 : Int) ≤ (k : Int) := by omega
      have i1 : (k : Int) < (m : Int) := by omega
      have hzr := hb.size
      clear hx c1 hown hb
      go_wp2_with fail
      refine (segmentName_any x wr c2 hpr).mono ?_
      rintro e w1 ⟨rfl, hb1⟩
      have hz1 := hb1.size
      have ho1 : w1.ownsRow w.heap.size 9 1 u3 k (namesV ((l.take k).map segName)) := ownsRow_fr HO.out (Fr.of_below hb1 []) (by simp)
      have HB1 : Hid (Below w.heap.size w w1) := HB.out.trans (hb1.mono hzr)
      have HO1 : Hid (w1.ownsRow w.heap.size 9 1 u3 k (namesV ((l.take k).map segName))) := ho1
      clear hb1 ho1
      go_wp2_with (at_builtin; refine wpList_name rfl _ _ rfl w.heap.size u3 k ((l.take k).map segName) (segName x) w1.heap.size rfl (HO1.out.alloc _) rfl (by simp) (by omega) (by simp; omega) ?_; intro v4 w4 ho4 hg4)
      have hB4 : Below w.heap.size w w4 := (HB1.out.alloc (by omega) _).grown hg4 (by simp; omega) (fun q hq => (HO1.out.lt q hq).1)
      clear hg4
      go_roundw
      case rel =>
        refine ⟨k + 1, by omega, by go_num, ?_, hB4⟩
        rw [List.take_add_one, HX.out]
        simpa using ho4
      case measure => simp [intOf]; omega
    · obtain rfl : k = m := by omega
      have ht : l.take k = l := List.take_of_length_le (by rw [HL.out]; exact Nat.le_refl _)
      rw [ht] at hown
      go_wp2
      go_ret
      exact ⟨u3, rfl, hown, hb⟩
set_option maxHeartbeats 1000000 in
theorem namesOf_nil (w : World) : Calls Tryz.prog 118 #[.slice none 0 0] w fun e w' => e = .returned (.slice none 0 0) ∧ w' = w := by
  go_enter Tryz.func118, Tryz.ntmps118
  go_wp2
  refine wp_loop_rounds 1 ?_
  rw [rounds_succ]
  go_wp2
  go_ret
  exact ⟨rfl, rfl⟩
set_option maxRecDepth 100000 in
set_option maxHeartbeats 1000000 in
theorem removeAll_nil (B p bD bN n nD nN : Nat) (pv : Value) (d : ADisk) (w : World) (h : DiskIn w B p bD bN pv d n nD nN) :
    Calls Tryz.prog 96 #[dskV p, .slice none 0 0] w (DskPost B p bD bN n (d.removeAll []) w) := by
  have HI : Hid (DiskIn w B p bD bN pv d n nD nN) := h
  have m2 := Tryz.mSync
  clear h
  go_enter Tryz.func96, Tryz.ntmps96
  go_wp2
  refine wp_loop_rounds 1 ?_
  rw [rounds_succ]
  go_wp2_with fail
  refine (sync_any B p bD bN n nD nN pv d w HI.out).mono ?_
  rintro e w1 ⟨rfl, ⟨pv1, nD1, hd1, hne1⟩, hf1⟩
  have H1 : Hid (DskPost B p bD bN n (d.removeAll []) w (.returned (errN d.sync.2)) w1) := ⟨rfl, ⟨pv1, nD1, nN, hd1⟩, HI.out.dfr hd1 hf1 (fun q hq _ => by simp at hq; rcases hq with e | e <;> simp [e]) hne1⟩
  clear hd1 hne1 hf1
  go_wp2
  go_ret
  exact H1.out
end Go.Proofs.YtnnhihkeffljbaaGreatDoor
/- journal.setMark, over a disk. -/
namespace Go.Proofs.YtnnhihkeffljbaaGreatDoor
open Go.RowKit
open Sc

/-- as DFr, and the blocks of X may have turned -/
structure DFx (X : List Nat) (p : Nat) (w w' : World) : Prop where
  os : w'.os = w.os
  tape : w'.tape = w.tape
  output : w'.output = w.output
  size : w.heap.size ≤ w'.heap.size
  block : ∀ k, k < w.heap.size → ¬ OwnD p w k → k ∉ X → w'.heap[k]? = w.heap[k]?
  stay : ∀ k, k < w.heap.size → OwnD p w' k → OwnD p w k
theorem DFr.x {X : List Nat} {p : Nat} {w w' : World} (h : DFr p w w') : DFx X p w w' := ⟨h.os, h.tape, h.output, h.size, fun k hk hn _ => h.block k hk hn, h.stay⟩
theorem DFx.trans {X : List Nat} {p : Nat} {a b c : World} (h : DFx X p a b) (k : DFx X p b c) : DFx X p a c :=
  ⟨k.os.trans h.os, k.tape.trans h.tape, k.output.trans h.output, Nat.le_trans h.size k.size,
    fun i hi hn hx => (k.block i (Nat.lt_of_lt_of_le hi h.size) (fun ho => hn (h.stay i hi ho)) hx).trans (h.block i hi hn hx),
    fun i hi ho => h.stay i hi (k.stay i (Nat.lt_of_lt_of_le hi h.size) ho)⟩
theorem DiskIn.dfx {w w' : World} {B p bD bN n nD nN n' nD' nN' g : Nat} {pv pv' : Value} {d d' : ADisk} (h : DiskIn w B p bD bN pv d n nD nN) (h' : DiskIn w' B p bD bN pv' d' n' nD' nN') (hf : Fr (g :: dS p bD bN pv) w w') (hne : Near w.heap.size pv pv') : DFx [g] p w w' := by
  refine ⟨hf.os, hf.tape, hf.output, hf.size, fun k hk hn hx => hf.block k hk (fun hm => ?_), fun k hk ho => ?_⟩
  · rcases List.mem_cons.1 hm with e | hm
    · exact hx (by simp [e])
    · exact hn ((h.ownD k).2 hm)
  rw [h.ownD]
  have := (h'.ownD k).1 ho
  rcases List.mem_cons.1 this with e | this
  · simp [e]
  rcases List.mem_cons.1 this with e | this
  · simp [e]
  rcases List.mem_cons.1 this with e | this
  · simp [e]
  · simp at this
    rcases hne k this with e | e
    · simp [e]
    · omega
theorem DFx.dfr {X : List Nat} {p : Nat} {w w' : World} (h : DFx X p w w') (hx : ∀ k ∈ X, w.heap.size ≤ k) : DFr p w w' :=
  ⟨h.os, h.tape, h.output, h.size, fun k hk hn => h.block k hk hn (fun hm => by have := hx k hm; omega), h.stay⟩
theorem DiskIn.newD {w w' : World} {B p bD bN n nD nN : Nat} {pv : Value} {d : ADisk} (h : DiskIn w B p bD bN pv d n nD nN) (hf : Fr [] w w') : DFr p w w' :=
  h.dfr (h.new hf) hf (by simp) (Near.refl _ _)
def markNew : ByteArray := ⟨#[109, 97, 114, 107, 46, 110, 101, 119]⟩
def markNm : ByteArray := ⟨#[109, 97, 114, 107]⟩
theorem mark_ne : (markNew.toList == markNm.toList) = false ∧ markNew ≠ markNm := by
  refine ⟨by rw [ByteArray.toList_eq, ByteArray.toList_eq]; decide, fun e => ?_⟩
  have := congrArg (fun x : ByteArray => x.data.size) e
  exact absurd this (by decide)
def DskX (B p bD bN n : Nat) (X : List Nat) (r : ADisk × Nat) (w : World) (e : Ending) (w' : World) : Prop :=
  e = .returned (errN r.2) ∧ (∃ pv nD nN, DiskIn w' B p bD bN pv r.1 n nD nN) ∧ DFx X p w w'
set_option maxHeartbeats 1000000 in
theorem mark1_any (B p bD bN n nD nN bd bb g cap base : Nat) (pv : Value) (d : ADisk) (l : List Nat) (w : World) (h : DiskIn w B p bD bN pv d n nD nN) (hn : n < 67108864) (hbd : w.heap[bd]? = some (.cells #[dskV p] 110)) (hbb : w.heap[bb]? = some (.cells #[.slice (some ⟨g, 0, none⟩) l.length cap] 177))
    (hr : w.ownsRow base 5 1 (.slice (some ⟨g, 0, none⟩) l.length cap) l.length (bs l)) (hl : l.length ≤ 4096) :
    Calls Tryz.prog 150 #[.pointer (some ⟨bd, 0, none⟩), .pointer (some ⟨bb, 0, none⟩)] w (DskX B p bD bN (n + 1) [g] (d.tell ⟨1, markNew, ByteArray.empty, str l⟩) w) := by
  have x0 := blk_cell hbd 0
  have y0 := blk_cell hbb 0
  simp at x0 y0
  have HI : Hid (DiskIn w B p bD bN pv d n nD nN) := h
  have HR : Hid (w.ownsRow base 5 1 (.slice (some ⟨g, 0, none⟩) l.length cap) l.length (bs l)) := hr
  have mw := Tryz.mWrite
  clear h hr hbd hbb
  go_enter Tryz.func150, Tryz.ntmps150
  go_wp2_with fail
  refine (write_any B p bD bN n nD nN g cap base pv d markNew l w HI.out hn (by decide) HR.out hl).mono ?_
  rintro e w1 ⟨rfl, ⟨pv1, nN1, hd1, hne1⟩, hf1⟩
  have H1 : Hid (DskX B p bD bN (n + 1) [g] (d.tell ⟨1, markNew, ByteArray.empty, str l⟩) w (.returned (errN (d.tell ⟨1, markNew, ByteArray.empty, str l⟩).2)) w1) := ⟨rfl, ⟨pv1, nD, nN1, hd1⟩, HI.out.dfx hd1 hf1 hne1⟩
  clear hd1 hne1 hf1
  go_wp2
  go_ret
  exact H1.out
set_option maxHeartbeats 1000000 in
theorem mark2_any (B p bD bN n nD nN bd : Nat) (pv : Value) (d : ADisk) (w : World) (h : DiskIn w B p bD bN pv d n nD nN) (hn : n < 67108864) (hbd : w.heap[bd]? = some (.cells #[dskV p] 110)) :
    Calls Tryz.prog 151 #[.pointer (some ⟨bd, 0, none⟩)] w (DskPost B p bD bN (n + 1) (d.tell ⟨4, markNew, markNm, ByteArray.empty⟩) w) := by
  have x0 := blk_cell hbd 0
  simp at x0
  have HI : Hid (DiskIn w B p bD bN pv d n nD nN) := h
  have mw := Tryz.mRename
  clear h hbd
  go_enter Tryz.func151, Tryz.ntmps151
  go_wp2_with fail
  refine (rename_any B p bD bN n nD nN pv d markNew markNm w HI.out hn (by decide) (by decide) mark_ne).mono ?_
  rintro e w1 ⟨rfl, ⟨pv1, nN1, hd1, hne1⟩, hf1⟩
  have H1 : Hid (DskPost B p bD bN (n + 1) (d.tell ⟨4, markNew, markNm, ByteArray.empty⟩) w (.returned (errN (d.tell ⟨4, markNew, markNm, ByteArray.empty⟩).2)) w1) := ⟨rfl, ⟨pv1, nD, nN1, hd1⟩, HI.out.dfr hd1 hf1 (fun q hq _ => hq) hne1⟩
  clear hd1 hne1 hf1
  go_wp2
  go_ret
  exact H1.out
/-- steps, as far as each goes well -/
def ADisk.setMark (d : ADisk) (first : Nat) : ADisk × Nat :=
  let t1 := d.tell ⟨1, markNew, ByteArray.empty, str (recBytes first 0 [])⟩
  if t1.2 = 0 then
    let t2 := t1.1.sync
    if t2.2 = 0 then
      let t3 := t2.1.tell ⟨4, markNew, markNm, ByteArray.empty⟩
      if t3.2 = 0 then t3.1.sync else t3
    else t2
  else t1
set_option maxRecDepth 100000 in
set_option maxHeartbeats 4000000 in
theorem inTurnM (B p bD bN n nD nN bd bb g cap base gst first : Nat) (pv : Value) (d : ADisk) (w : World) (h : DiskIn w B p bD bN pv d n nD nN) (hn : n + 2 ≤ 67108864)
    (hst : w.heap[gst]? = some (.cells #[.func (.func 150) #[] #[.pointer (some ⟨bd, 0, none⟩), .pointer (some ⟨bb, 0, none⟩)], .func (.method "Sync") #[dskV p] #[], .func (.func 151) #[] #[.pointer (some ⟨bd, 0, none⟩)], .func (.method "Sync") #[dskV p] #[]] 137))
    (hbd : w.heap[bd]? = some (.cells #[dskV p] 110)) (hbb : w.heap[bb]? = some (.cells #[.slice (some ⟨g, 0, none⟩) (recBytes first 0 []).length cap] 177))
    (hr : w.ownsRow base 5 1 (.slice (some ⟨g, 0, none⟩) (recBytes first 0 []).length cap) (recBytes first 0 []).length (bs (recBytes first 0 []))) (hl : (recBytes first 0 []).length ≤ 4096) :
    Calls Tryz.prog 93 #[.slice (some ⟨gst, 0, none⟩) 4 4] w (DskX B p bD bN (n + 2) [g] (d.setMark first) w) := by
  have z0 := blk_cell hst 0
  simp at z0
  have HI : Hid (DiskIn w B p bD bN pv d n nD nN) := h
  have msy := Tryz.mSync
  obtain ⟨cg, hcg⟩ := own_cells hr (g := g) rfl
  have hgst : gst ≠ g := fun e => by rw [e, hcg] at hst; cases hst
  have hgbd : bd ≠ g := fun e => by rw [e, hcg] at hbd; cases hbd
  go_enter Tryz.func93, Tryz.ntmps93
  go_wp2
  refine wp_loop_rounds 5 ?_
  rw [rounds_succ]
  go_wp2_with fail
  refine (mark1_any B p bD bN n nD nN bd bb g cap base pv d _ w HI.out (by omega) hbd hbb hr hl).mono ?_
  obtain ⟨t1, ht1⟩ : ∃ t1, t1 = d.tell ⟨1, markNew, ByteArray.empty, str (recBytes first 0 [])⟩ := ⟨_, rfl⟩
  have HT1 : Hid (d.tell ⟨1, markNew, ByteArray.empty, str (recBytes first 0 [])⟩ = t1) := ht1.symm
  rw [← ht1]
  clear ht1
  rintro e w1 ⟨rfl, ⟨pv1, nD1, nN1, hd1⟩, ho1⟩
  have hst1 := (ho1.block gst (Array.getElem?_eq_some_iff.1 hst).1 (HI.out.freeD hst (by decide) (by decide)) (by simp; exact hgst)).trans hst
  have hbd1 := (ho1.block bd (Array.getElem?_eq_some_iff.1 hbd).1 (HI.out.freeD hbd (by decide) (by decide)) (by simp; exact hgbd)).trans hbd
  have y1 := blk_cell hst1 1
  simp at y1
  have HST1 : Hid (w1.heap[gst]? = some (.cells #[.func (.func 150) #[] #[.pointer (some ⟨bd, 0, none⟩), .pointer (some ⟨bb, 0, none⟩)], .func (.method "Sync") #[dskV p] #[], .func (.func 151) #[] #[.pointer (some ⟨bd, 0, none⟩)], .func (.method "Sync") #[dskV p] #[]] 137)) := hst1
  have HBD1 : Hid (w1.heap[bd]? = some (.cells #[dskV p] 110)) := hbd1
  have H1 : Hid (DiskIn w1 B p bD bN pv1 t1.1 (n + 1) nD1 nN1) := hd1
  have HO1 : Hid (DFx [g] p w w1) := ho1
  clear h hst hbd hbb hr z0 hst1 hbd1 hd1 ho1 hcg
  by_cases hc1 : t1.2 = 0
  · rw [hc1, errN_ok]
    go_wp2
    rw [rounds_succ]
    go_wp2_with fail
    refine (sync_any B p bD bN (n + 1) nD1 nN1 pv1 t1.1 w1 H1.out).mono ?_
    obtain ⟨t2, ht2⟩ : ∃ t2, t2 = t1.1.sync := ⟨_, rfl⟩
    have HT2 : Hid (t1.1.sync = t2) := ht2.symm
    rw [← ht2]
    clear ht2
    rintro e w2 ⟨rfl, ⟨pv2, nD2, hd2, hne2⟩, hf2⟩
    have ho2 : DFr p w1 w2 := H1.out.dfr hd2 hf2 (fun q hq _ => by simp at hq; rcases hq with e | e <;> simp [e]) hne2
    have hst2 := (ho2.block gst (Array.getElem?_eq_some_iff.1 HST1.out).1 (H1.out.freeD HST1.out (by decide) (by decide))).trans HST1.out
    have hbd2 := (ho2.block bd (Array.getElem?_eq_some_iff.1 HBD1.out).1 (H1.out.freeD HBD1.out (by decide) (by decide))).trans HBD1.out
    have y2 := blk_cell hst2 2
    simp at y2
    have HST2 : Hid (w2.heap[gst]? = some (.cells #[.func (.func 150) #[] #[.pointer (some ⟨bd, 0, none⟩), .pointer (some ⟨bb, 0, none⟩)], .func (.method "Sync") #[dskV p] #[], .func (.func 151) #[] #[.pointer (some ⟨bd, 0, none⟩)], .func (.method "Sync") #[dskV p] #[]] 137)) := hst2
    have HBD2 : Hid (w2.heap[bd]? = some (.cells #[dskV p] 110)) := hbd2
    have H2 : Hid (DiskIn w2 B p bD bN pv2 t2.1 (n + 1) nD2 nN1) := hd2
    have HO2 : Hid (DFx [g] p w w2) := HO1.out.trans ho2.x
    clear hst2 hbd2 hd2 ho2 hf2 hne2 y1
    by_cases hc2 : t2.2 = 0
    · rw [hc2, errN_ok]
      go_wp2
      rw [rounds_succ]
      go_wp2_with fail
      refine (mark2_any B p bD bN (n + 1) nD2 nN1 bd pv2 t2.1 w2 H2.out (by omega) HBD2.out).mono ?_
      obtain ⟨t3, ht3⟩ : ∃ t3, t3 = t2.1.tell ⟨4, markNew, markNm, ByteArray.empty⟩ := ⟨_, rfl⟩
      have HT3 : Hid (t2.1.tell ⟨4, markNew, markNm, ByteArray.empty⟩ = t3) := ht3.symm
      rw [← ht3]
      clear ht3
      rintro e w3 ⟨rfl, ⟨pv3, nD3, nN3, hd3⟩, ho3⟩
      have hst3 := (ho3.block gst (Array.getElem?_eq_some_iff.1 HST2.out).1 (H2.out.freeD HST2.out (by decide) (by decide))).trans HST2.out
      have y3 := blk_cell hst3 3
      simp at y3
      have H3 : Hid (DiskIn w3 B p bD bN pv3 t3.1 (n + 2) nD3 nN3) := hd3
      have HO3 : Hid (DFx [g] p w w3) := HO2.out.trans ho3.x
      clear hst3 hd3 ho3 y2
      by_cases hc3 : t3.2 = 0
      · rw [hc3, errN_ok]
        go_wp2
        rw [rounds_succ]
        go_wp2_with fail
        refine (sync_any B p bD bN (n + 2) nD3 nN3 pv3 t3.1 w3 H3.out).mono ?_
        have HE : Hid (d.setMark first = t3.1.sync) := by show _ = _; unfold ADisk.setMark; simp only; rw [HT1.out, if_pos hc1, HT2.out, if_pos hc2, HT3.out, if_pos hc3]
        rintro e w4 ⟨rfl, ⟨pv4, nD4, hd4, hne4⟩, hf4⟩
        have HF : Hid (DskX B p bD bN (n + 2) [g] (d.setMark first) w (.returned (errN t3.1.sync.2)) w4) := by
          show DskX _ _ _ _ _ _ _ _ _ _
          rw [HE.out]
          exact ⟨rfl, ⟨pv4, nD4, nN3, hd4⟩, HO3.out.trans (H3.out.dfr hd4 hf4 (fun q hq _ => by simp at hq; rcases hq with e | e <;> simp [e]) hne4).x⟩
        clear hd4 hne4 hf4 y3
        by_cases hc4 : t3.1.sync.2 = 0
        · rw [hc4, errN_ok] at HF ⊢
          go_wp2
          rw [rounds_succ]
          go_wp2
          go_ret
          exact HF.out
        · rw [errN_no hc4] at HF ⊢
          go_wp2
          go_ret
          exact HF.out
      · have HE : Hid (d.setMark first = t3) := by show _ = _; unfold ADisk.setMark; simp only; rw [HT1.out, if_pos hc1, HT2.out, if_pos hc2, HT3.out, if_neg hc3]
        rw [errN_no hc3]
        go_wp2
        go_ret
        unfold DskX
        rw [HE.out]
        exact ⟨by rw [errN_no hc3]; rfl, ⟨pv3, nD3, nN3, H3.out⟩, HO3.out⟩
    · have HE : Hid (d.setMark first = t2) := by show _ = _; unfold ADisk.setMark; simp only; rw [HT1.out, if_pos hc1, HT2.out, if_neg hc2]
      rw [errN_no hc2]
      go_wp2
      go_ret
      unfold DskX
      rw [HE.out]
      exact ⟨by rw [errN_no hc2]; rfl, ⟨pv2, nD2, nN1, H2.out.mores (by omega) hn⟩, HO2.out⟩
  · have e : d.setMark first = t1 := by unfold ADisk.setMark; simp only; rw [HT1.out, if_neg hc1]
    have HE : Hid (d.setMark first = t1) := e
    clear e
    rw [errN_no hc1]
    go_wp2
    go_ret
    unfold DskX
    rw [HE.out]
    exact ⟨by rw [errN_no hc1]; rfl, ⟨pv1, nD1, nN1, H1.out.mores (by omega) hn⟩, HO1.out⟩
end Go.Proofs.YtnnhihkeffljbaaGreatDoor
