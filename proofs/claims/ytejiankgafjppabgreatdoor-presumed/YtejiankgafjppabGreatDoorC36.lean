import Derived.Test.YtejiankgafjppabGreatDoorC32
import Derived.Test.YtejiankgafjppabGreatDoorC31
/- THE COORDINATOR BESIDE ITS LOG: what turns of the one leaves the other. -/
namespace Go.Proofs.YtejiankgafjppabGreatDoor
open Go.RowKit Go.Maps
open Sc

/-- what a caller's own memory needs -/
structure IFr (B : Nat) (w w' : World) : Prop where
  below : Below B w w'
  fall : ∀ (k : Nat) (a b c d : Int), w.heap[k]? = some (fallO a b c d) → w'.heap[k]? = some (fallO a b c d)
  ints : ∀ (k : Nat) (c : Array Value), w.heap[k]? = some (.cells c 3 (0, 0)) → w'.heap[k]? = some (.cells c 3 (0, 0))
theorem IFr.trans {B : Nat} {a b c : World} (h : IFr B a b) (k : IFr B b c) : IFr B a c := ⟨h.below.trans k.below, fun i x y z u hi => k.fall i x y z u (h.fall i x y z u hi), fun i x hi => k.ints i x (h.ints i x hi)⟩
theorem IFr.new {B : Nat} {w w' : World} (h : Fr [] w w') (hB : B ≤ w.heap.size) : IFr B w w' := ⟨h.below hB (by simp), fun k a b c d hk => (h.block k (Array.getElem?_eq_some_iff.1 hk).1 (by simp)).trans hk, fun k c hk => (h.block k (Array.getElem?_eq_some_iff.1 hk).1 (by simp)).trans hk⟩
theorem IFr.met {B : Nat} {w w' : World} (h : IFr B w w') (hB : 2 ≤ B) (hm : Met w) : Met w' := hm.below h.below (by omega)
theorem IFr.pows {B : Nat} {w w' : World} (h : IFr B w w') (hB : 2 ≤ B) (hm : Pows w) : Pows w' := hm.of_block (h.below.block 1 (by omega))
/-- nothing has turned but what is the coordinator's, its log's, its disk's -/
structure CFr (B cp bT lp p : Nat) (w w' : World) : Prop where
  os : w'.os = w.os
  tape : w'.tape = w.tape
  output : w'.output = w.output
  size : w.heap.size ≤ w'.heap.size
  block : ∀ k, k < w.heap.size → ¬ Own lp p w k → k ∉ [cp, bT] → k ∉ rd B w → w'.heap[k]? = w.heap[k]?
  stay : ∀ k, k < w.heap.size → Own lp p w' k → Own lp p w k
theorem CFr.trans {B cp bT lp p : Nat} {a b c : World} (h : CFr B cp bT lp p a b) (k : CFr B cp bT lp p b c) : CFr B cp bT lp p a c :=
  ⟨k.os.trans h.os, k.tape.trans h.tape, k.output.trans h.output, Nat.le_trans h.size k.size,
    fun i hi hn hm hr => (k.block i (Nat.lt_of_lt_of_le hi h.size) (fun ho => hn (h.stay i hi ho)) hm (by rw [mem_rd, h.block i hi hn hm hr, ← mem_rd]; exact hr)).trans (h.block i hi hn hm hr),
    fun i hi ho => h.stay i hi (k.stay i (Nat.lt_of_lt_of_le hi h.size) ho)⟩
theorem OFr.c {B cp bT lp p : Nat} {a b : World} (h : OFr lp p a b) : CFr B cp bT lp p a b := ⟨h.os, h.tape, h.output, h.size, fun i hi hn _ _ => h.block i hi hn, h.stay⟩
/-- a coordinator, its ledger's log, and its disk -/
structure CL (w : World) (B cp gp bT m lp p bD bN n : Nat) (c : ACo) (l : ALog) (d : ADisk) : Prop where
  co : CoIn w B cp gp bT m c
  lg : ∃ pv sv rv nD nN, LogIn w B lp p bD bN pv sv rv l d n nD nN
  led : w.heap[gp]? = some (ledO lp)
  ne : bT ≠ bD ∧ bT ≠ bN
  gp1 : 1 ≤ gp
section
variable {w w' : World} {B cp gp bT m m' lp p bD bN n n' : Nat} {c c' : ACo} {l l' : ALog} {d d' : ADisk}
/-- what is the coordinator's is not the log's -/
theorem CL.free (h : CL w B cp gp bT m lp p bD bN n c l d) : ∀ k, k ∈ [cp, bT, gp] ++ rd B w → ¬ Own lp p w k ∧ ∀ t, w.heap[k]? ≠ some (textO t) := by
  obtain ⟨pv, sv, rv, nD, nN, hl⟩ := h.lg
  obtain ⟨cs, hcp⟩ := h.co.isCo
  intro k hk
  rcases List.mem_append.1 hk with hk | hk
  · simp at hk
    rcases hk with rfl | rfl | rfl
    · exact ⟨hl.free hcp (by decide) (by decide) (by decide) (by decide) (by decide), fun t e => by rw [hcp] at e; cases e⟩
    · exact ⟨hl.freeMap h.co.txns.isMap h.ne.1 h.ne.2, fun t e => by obtain ⟨es, c, e2⟩ := h.co.txns.isMap; rw [e2] at e; cases e⟩
    · exact ⟨hl.free h.led (by decide) (by decide) (by decide) (by decide) (by decide), fun t e => by rw [h.led] at e; cases e⟩
  · obtain ⟨cc, t, fr, e, ht⟩ := rd_type hk
    rcases ht with rfl | rfl
    · exact ⟨hl.free e (by decide) (by decide) (by decide) (by decide) (by decide), fun t e2 => by rw [e] at e2; cases e2⟩
    · exact ⟨hl.free e (by decide) (by decide) (by decide) (by decide) (by decide), fun t e2 => by rw [e] at e2; cases e2⟩
theorem CL.turn (h : CL w B cp gp bT m lp p bD bN n c l d) (hc : CoIn w' B cp gp bT m' c') (hf : RFr B [cp, bT] w w') : CL w' B cp gp bT m' lp p bD bN n c' l d ∧ CFr B cp bT lp p w w' := by
  obtain ⟨pv, sv, rv, nD, nN, hl⟩ := h.lg
  have h1 := hl.apart hf (fun k hk _ => h.free k (by
    rcases List.mem_append.1 hk with e | e
    · simp at e; rcases e with e | e <;> simp [e]
    · exact List.mem_append_right _ e))
  have hg : gp ∉ [cp, bT] ++ rd B w := by
    intro hm
    rcases List.mem_append.1 hm with e | e
    · simp at e
      have hled := h.led
      rcases e with e | e
      · obtain ⟨cs, hcp⟩ := h.co.isCo; rw [e, hcp] at hled; cases hled
      · obtain ⟨es, c, e2⟩ := h.co.txns.isMap; rw [e, e2] at hled; cases hled
    · exact rd_not h.led (by decide) (by decide) e
  refine ⟨⟨hc, ⟨pv, sv, rv, nD, nN, h1⟩, (hf.block gp (Array.getElem?_eq_some_iff.1 h.led).1 hg).trans h.led, h.ne, h.gp1⟩, hf.os, hf.tape, hf.output, hf.size, fun k hk _ hm hr => hf.block k hk (by rw [List.mem_append]; exact fun e => e.elim hm hr), fun k _ ho => ?_⟩
  rw [hl.own]
  exact (h1.own k).1 ho
theorem CL.new (h : CL w B cp gp bT m lp p bD bN n c l d) (hf : Fr [] w w') : CL w' B cp gp bT m lp p bD bN n c l d ∧ CFr B cp bT lp p w w' :=
  h.turn (h.co.new hf) (hf.mono (by simp))
theorem CL.log (h : CL w B cp gp bT m lp p bD bN n c l d) (hf : OFr lp p w w') (hl : ∃ pv sv rv nD nN, LogIn w' B lp p bD bN pv sv rv l' d' n' nD nN) : CL w' B cp gp bT m lp p bD bN n' c l' d' ∧ CFr B cp bT lp p w w' := by
  have hfree := h.free
  obtain ⟨rv, ov, kr, ko, xr, xo, h1, h2, h3, h4, h5⟩ := h.co.ex
  have row : ∀ {e : TypeId} {k m : Nat} {v : Value} {xs : List Value}, w.ownsRow B e k v m xs → (e = 178 ∨ e = 249) → w'.ownsRow B e k v m xs := by
    intro e k m v xs hr he
    refine ⟨hr.1, ?_⟩
    rcases hr.2 with h1 | ⟨g, cap, cur, rfl, h2, h3, h4⟩
    · exact .inl h1
    · refine .inr ⟨g, cap, cur, rfl, h2, (hf.block g (Array.getElem?_eq_some_iff.1 h3).1 (hfree g (List.mem_append_right _ (mem_rd.2 ⟨h2, ?_⟩))).1).trans h3, h4⟩
      rw [h3]
      rcases he with rfl | rfl <;> simp [isRD]
  have hT : MapAs KU EX w' bT m c.txns := by
    have hlt := h.co.txns.lt
    obtain ⟨es, ⟨es', c2, h1, h2⟩, r⟩ := h.co.txns
    exact ⟨es, ⟨es', c2, (hf.block bT hlt (hfree bT (by simp)).1).trans h1, h2⟩, r⟩
  refine ⟨⟨⟨⟨rv, ov, kr, ko, xr, xo, (hf.block cp h.co.lts.1 (hfree cp (by simp)).1).trans h1, row h2 (.inl rfl), row h3 (.inr rfl), h4, h5⟩, hT, ⟨h.co.low.1, h.co.low.2.1, Nat.le_trans h.co.low.2.2 hf.size⟩, h.co.nums⟩, hl, (hf.block gp (Array.getElem?_eq_some_iff.1 h.led).1 (hfree gp (by simp)).1).trans h.led, h.ne, h.gp1⟩, hf.c⟩
/-- cells of another kind stay -/
theorem CFr.cells (hf : CFr B cp bT lp p w w') (h : CL w B cp gp bT m lp p bD bN n c l d) {k : Nat} {cc : Array Value} {t : TypeId} (hk : w.heap[k]? = some (.cells cc t (0, 0))) (h1 : t ≠ 100) (h2 : t ≠ 150) (h3 : t ≠ 229) (h4 : t ≠ 28) (h5 : t ≠ 288) (h6 : t ≠ 147) (h7 : t ≠ 178) (h8 : t ≠ 249) : w'.heap[k]? = some (.cells cc t (0, 0)) := by
  obtain ⟨pv, sv, rv, nD, nN, hl⟩ := h.lg
  refine (hf.block k (Array.getElem?_eq_some_iff.1 hk).1 (hl.free hk h1 h2 h3 h4 h5) ?_ (rd_not hk h7 h8)).trans hk
  intro hm
  simp at hm
  rcases hm with e | e
  · obtain ⟨cs, hcp⟩ := h.co.isCo; rw [e, hcp] at hk; cases hk; exact h6 rfl
  · obtain ⟨es, c2, e2⟩ := h.co.txns.isMap; rw [e, e2] at hk; cases hk
end
section
variable {w w' : World} {B cp gp bT m m' lp p bD bN n n' : Nat} {c c' : ACo} {l l' : ALog} {d d' : ADisk}
theorem CFr.hfr (hf : CFr B cp bT lp p w w') (h : CL w B cp gp bT m lp p bD bN n c l d) : IFr B w w' := by
  obtain ⟨pv, sv, rv, nD, nN, hl⟩ := h.lg
  exact ⟨⟨hf.os, hf.tape, hf.output, hf.size, fun k hk => hf.block k (Nat.lt_of_lt_of_le hk hl.disk.base.2.2.2) (fun ho => by have := hl.ge ho; omega) (by have := h.co.low; simp; omega) (rd_low hk)⟩, fun k a b x y hk => hf.cells h hk (by decide) (by decide) (by decide) (by decide) (by decide) (by decide) (by decide) (by decide), fun k x hk => hf.cells h hk (by decide) (by decide) (by decide) (by decide) (by decide) (by decide) (by decide) (by decide)⟩
theorem CL.knob (h : CL w B cp gp bT m lp p bD bN n c l d) (a b : Int) (hf : Fr [p] w w') {pv : Value} (hb : w'.heap[p]? = some (dskO bD bN pv a b d.down)) (hb0 : w.heap[p]? = some (dskO bD bN pv d.left d.full d.down)) :
    CL w' B cp gp bT m lp p bD bN n c l (d.knob a b) ∧ CFr B cp bT lp p w w' := by
  obtain ⟨pv', sv, rv, nD, nN, hl⟩ := h.lg
  have e : pv' = pv := by have := hl.disk.blk; rw [hb0] at this; cases this; rfl
  subst e
  obtain ⟨h1, h2⟩ := hl.knob a b hf hb
  exact h.log h2 ⟨_, _, _, _, _, h1⟩
/-- cells of another kind turn -/
theorem CL.other {q : Nat} {cc : Array Value} {t : TypeId} (h : CL w B cp gp bT m lp p bD bN n c l d) (hf : Fr [q] w w') (hq : w.heap[q]? = some (.cells cc t (0, 0))) (h1 : t ≠ 100) (h2 : t ≠ 150) (h3 : t ≠ 229) (h4 : t ≠ 28) (h5 : t ≠ 288) (h6 : t ≠ 9) (h7 : t ≠ 147) (h8 : t ≠ 215) (h9 : t ≠ 178) (h10 : t ≠ 249) : CL w' B cp gp bT m lp p bD bN n c l d := by
  obtain ⟨pv, sv, rv, nD, nN, hl⟩ := h.lg
  obtain ⟨cs, hcp⟩ := h.co.isCo
  have n1 : q ≠ cp := by intro e; rw [e, hcp] at hq; cases hq; exact h7 rfl
  have n3 : q ≠ bT := by intro e; obtain ⟨es, c2, e2⟩ := h.co.txns.isMap; rw [e, e2] at hq; cases hq
  have n5 : gp ≠ q := by intro e; have := h.led; rw [e, hq] at this; cases this; exact h8 rfl
  exact ⟨h.co.fr hf (fun k hk => by simp at hk; subst hk; exact ⟨n1, n3, rd_not hq h9 h10⟩), ⟨_, _, _, _, _, hl.other hf hq h1 h2 h3 h4 h5 h6⟩, (hf.block gp (Array.getElem?_eq_some_iff.1 h.led).1 (by simpa using n5)).trans h.led, h.ne, h.gp1⟩
theorem CL.otherF {q : Nat} {cc : Array Value} {t : TypeId} (h : CL w B cp gp bT m lp p bD bN n c l d) (hf : Fr [q] w w') (hq : w.heap[q]? = some (.cells cc t (0, 0))) (h1 : t ≠ 100) (h2 : t ≠ 150) (h3 : t ≠ 229) (h4 : t ≠ 28) (h5 : t ≠ 288) (h6 : t ≠ 9) (h7 : t ≠ 147) (h8 : t ≠ 215) (h9 : t ≠ 178) (h10 : t ≠ 249) : CL w' B cp gp bT m lp p bD bN n c l d ∧ ∀ k, Own lp p w' k → Own lp p w k := by
  refine ⟨h.other hf hq h1 h2 h3 h4 h5 h6 h7 h8 h9 h10, fun k ho => ?_⟩
  obtain ⟨pv, sv, rv, nD, nN, hl⟩ := h.lg
  rw [hl.own]
  exact ((hl.other hf hq h1 h2 h3 h4 h5 h6).own k).1 ho
/-- younger cells have turned -/
theorem CFr.young {w0 : World} {q : Nat} (h : CFr B cp bT lp p w0 w) (hf : Fr [q] w w') (hq : w0.heap.size ≤ q) (ho : ∀ k, Own lp p w' k → Own lp p w k) : CFr B cp bT lp p w0 w' :=
  ⟨hf.os.trans h.os, hf.tape.trans h.tape, hf.output.trans h.output, Nat.le_trans h.size hf.size, fun k hk h1 h2 h3 => (hf.block k (Nat.lt_of_lt_of_le hk h.size) (by simp; omega)).trans (h.block k hk h1 h2 h3), fun k hk hw => h.stay k hk (ho k hw)⟩
end
end Go.Proofs.YtejiankgafjppabGreatDoor
