import Derived.Test.YtejiankgafjppabGreatDoorC35
import Derived.Test.YtejiankgafjppabGreatDoorC27
import Derived.Test.YtejiankgafjppabGreatDoorC21
import Derived.RangeFuncNested
import Derived.RangeFuncBox
import Derived.RangeFuncBound
import Derived.RangeFuncCalls
import Derived.RangeFuncLeaves
import Derived.Shelf.Abstract
import Derived.Shelf.AbstractIn
import Derived.Shelf.RegionOpen
import Derived.WalkKit
import Derived.OwnWalkIn
import Derived.TacticsInMore
import Derived.LoopNIn
import Derived.LoopIn
import Derived.Maps.AppendAt
import Derived.Test.YtejiankgafjppabGreatDoorC29
import Derived.Test.YtejiankgafjppabGreatDoorC31
/- RANGING OVER A FUNCTION WHOSE WALK IS KNOWN: the body may turn what a log and its disk have, and nothing else. (From LawS.) -/
namespace Go.Proofs.YtejiankgafjppabGreatDoor
open Go.RowKit Go.Shelf
open Sc

/-- what ranging over a function keeps for itself -/
def isBook : Obj → Bool
  | .loop .. => true
  | .deferred .. => true
  | _ => false
/-- nothing has turned but books from n on, and new blocks -/
structure Bk (n : Nat) (A B : World) : Prop where
  os : B.os = A.os
  tape : B.tape = A.tape
  output : B.output = A.output
  size : A.heap.size ≤ B.heap.size
  block : ∀ (k : Nat) (o : Obj), A.heap[k]? = some o → (isBook o = false ∨ k < n) → B.heap[k]? = some o
theorem Bk.refl (n : Nat) (A : World) : Bk n A A := ⟨rfl, rfl, rfl, Nat.le_refl _, fun _ _ h _ => h⟩
theorem Bk.trans {n : Nat} {A B C : World} (h : Bk n A B) (k : Bk n B C) : Bk n A C :=
  ⟨k.os.trans h.os, k.tape.trans h.tape, k.output.trans h.output, Nat.le_trans h.size k.size, fun i o hi ho => k.block i o (h.block i o hi ho) ho⟩
theorem Bk.mono {n m : Nat} {A B : World} (h : Bk n A B) (hm : m ≤ n) : Bk m A B :=
  ⟨h.os, h.tape, h.output, h.size, fun i o hi ho => h.block i o hi (by rcases ho with e | e; exact .inl e; exact .inr (by omega))⟩
theorem Bk.fr {n : Nat} {A B : World} (h : Fr [] A B) : Bk n A B :=
  ⟨h.os, h.tape, h.output, h.size, fun k o hk _ => (h.block k (Array.getElem?_eq_some_iff.1 hk).1 (by simp)).trans hk⟩
theorem Bk.alloc {n : Nat} {A B : World} (h : Bk n A B) (o : Obj) : Bk n A (B.alloc o) := h.trans (Bk.fr ((Fr.refl [] B).alloc o))
theorem Bk.put {n k : Nat} {A : World} {o : Obj} (h : A.heap[k]? = some o) (hb : isBook o = true) (hn : n ≤ k) (o' : Obj) : Bk n A (A.putObj k o') :=
  ⟨rfl, rfl, rfl, by simp, fun i x hi hx => by
    by_cases e : i = k
    · subst e
      rw [h] at hi
      cases hi
      rcases hx with e | e
      · rw [hb] at e; cases e
      · omega
    · exact (World.putObj_heap_other e).trans hi⟩
/-- the books of a world -/
def books (A : World) : List Nat := (List.range A.heap.size).filter fun k => (A.heap[k]?.map isBook).getD false
theorem mem_books {A : World} {k : Nat} (h : k ∈ books A) : ∃ o, A.heap[k]? = some o ∧ isBook o = true := by
  unfold books at h
  rw [List.mem_filter] at h
  obtain ⟨h1, h2⟩ := h
  rw [List.mem_range] at h1
  rw [Array.getElem?_eq_getElem h1] at h2 ⊢
  exact ⟨_, rfl, by simpa using h2⟩
theorem Bk.toFr {n : Nat} {A B : World} (h : Bk n A B) : Fr (books A) A B :=
  ⟨h.os, h.tape, h.output, h.size, fun k hk hn => by
    rw [Array.getElem?_eq_getElem hk]
    refine h.block k _ (Array.getElem?_eq_getElem hk) (.inl ?_)
    cases hb : isBook A.heap[k] with
    | false => rfl
    | true => exact absurd (by unfold books; rw [List.mem_filter, List.mem_range, Array.getElem?_eq_getElem hk]; exact ⟨hk, by simpa using hb⟩) hn⟩
/-- what is neither a log's nor a disk's -/
def freeO : Obj → Bool
  | .cells _ t _ => decide (t ≠ 100 ∧ t ≠ 150 ∧ t ≠ 229 ∧ t ≠ 28 ∧ t ≠ 288)
  | .map .. => false
  | _ => true
structure KpO (A B : World) : Prop where
  size : A.heap.size ≤ B.heap.size
  same : ∀ (k : Nat) (o : Obj), A.heap[k]? = some o → freeO o = true → B.heap[k]? = some o
theorem KpO.refl (A : World) : KpO A A := ⟨Nat.le_refl _, fun _ _ h _ => h⟩
theorem KpO.trans {A B C : World} (h : KpO A B) (k : KpO B C) : KpO A C := ⟨Nat.le_trans h.size k.size, fun i o hi ho => k.same i o (h.same i o hi ho) ho⟩
theorem KpO.fr {A B : World} (h : Fr [] A B) : KpO A B := ⟨h.size, fun k o hk _ => (h.block k (Array.getElem?_eq_some_iff.1 hk).1 (by simp)).trans hk⟩
theorem KpO.alloc (A : World) (o : Obj) : KpO A (A.alloc o) := KpO.fr ((Fr.refl [] A).alloc o)
theorem book_free {o : Obj} (h : isBook o = true) : freeO o = true := by cases o <;> first | rfl | cases h
/-- what is free is not the log's -/
theorem LogIn.freeO {w : World} {B lp p bD bN n nD nN : Nat} {pv sv rv : Value} {l : ALog} {d : ADisk} (h : LogIn w B lp p bD bN pv sv rv l d n nD nN) {q : Nat} {o : Obj} (hq : w.heap[q]? = some o) (ho : freeO o = true) : ¬ Own lp p w q := by
  intro hw
  have key : ∀ {c : Array Value} {t : TypeId} {fr : Nat × Nat}, w.heap[q]? = some (.cells c t fr) → False := by
    intro c t fr hc
    rw [hc] at hq
    cases hq
    simp [Go.Proofs.YtejiankgafjppabGreatDoor.freeO] at ho
    exact h.free hc ho.1 ho.2.1 ho.2.2.1 ho.2.2.2.1 ho.2.2.2.2 hw
  rcases (h.own q).1 hw with e | e | e | e | e | e | e
  · subst e; exact key h.blk
  · subst e; exact key h.disk.blk
  · subst e
    obtain ⟨es, c, e2⟩ := h.disk.dur.isMap
    rw [e2] at hq; cases hq; cases ho
  · subst e
    obtain ⟨es, c, e2⟩ := h.disk.now.isMap
    rw [e2] at hq; cases hq; cases ho
  · obtain ⟨c, hc⟩ := own_cells h.disk.pen e; exact key hc
  · obtain ⟨c, hc⟩ := own_cells h.segs e; exact key hc
  · obtain ⟨c, hc⟩ := own_cells h.recs e; exact key hc
theorem OFr.kpo {w w' : World} {B lp p bD bN n nD nN : Nat} {pv sv rv : Value} {l : ALog} {d : ADisk} (hf : OFr lp p w w') (h : LogIn w B lp p bD bN pv sv rv l d n nD nN) : KpO w w' :=
  ⟨hf.size, fun k _ hk ho => (hf.block k (Array.getElem?_eq_some_iff.1 hk).1 (h.freeO hk ho)).trans hk⟩
/-- books have turned: the log is as it was -/
theorem LogIn.bk {n0 : Nat} {w w' : World} {B lp p bD bN n nD nN : Nat} {pv sv rv : Value} {l : ALog} {d : ADisk} (h : LogIn w B lp p bD bN pv sv rv l d n nD nN) (hb : Bk n0 w w') : LogIn w' B lp p bD bN pv sv rv l d n nD nN :=
  h.apart hb.toFr (fun k hk _ => by
    obtain ⟨o, h1, h2⟩ := mem_books hk
    exact ⟨h.freeO h1 (book_free h2), fun t e => by rw [h1] at e; cases e; cases h2⟩)
section
variable {w0 w w' : World} {B sp gp bV bT bH m lp p bD bN n n0 : Nat} {s : AShard} {l : ALog} {d : ADisk}
theorem SL.bk (h : SL w B sp gp bV bT bH m lp p bD bN n s l d) (hb : Bk n0 w w') : SL w' B sp gp bV bT bH m lp p bD bN n s l d := by
  obtain ⟨pv, sv, rv, nD, nN, hl⟩ := h.lg
  have nb : ∀ {k : Nat} {o : Obj}, w.heap[k]? = some o → isBook o = false → k ∉ books w := fun {k o} hk ho hm => by
    obtain ⟨o', h1, h2⟩ := mem_books hm
    rw [hk] at h1; cases h1; rw [ho] at h2; cases h2
  have hsh : ShIn w' sp gp bV bT bH m s := h.sh.fr hb.toFr (nb h.sh.blk rfl)
    (by obtain ⟨es, c, e⟩ := h.sh.vals.isMap; exact nb e rfl) (by obtain ⟨es, c, e⟩ := h.sh.txns.isMap; exact nb e rfl) (by obtain ⟨es, c, e⟩ := h.sh.holds.isMap; exact nb e rfl)
  exact ⟨hsh, ⟨pv, sv, rv, nD, nN, hl.bk hb⟩, { led := hb.block gp _ h.ap.led (.inl rfl), ne := h.ap.ne }, h.gp1⟩
theorem SFr.bk (hf : SFr sp bV bT bH lp p w0 w) (h : SL w B sp gp bV bT bH m lp p bD bN n s l d) (hb : Bk n0 w w') (hn : w0.heap.size ≤ n0) : SFr sp bV bT bH lp p w0 w' := by
  obtain ⟨pv, sv, rv, nD, nN, hl⟩ := h.lg
  have hl' := hl.bk hb
  refine ⟨hb.os.trans hf.os, hb.tape.trans hf.tape, hb.output.trans hf.output, Nat.le_trans hf.size hb.size, fun k hk ho hS => ?_, fun k hk ho => hf.stay k hk ((hl.own k).2 ((hl'.own k).1 ho))⟩
  rw [← hf.block k hk ho hS]
  have hkl : k < w.heap.size := Nat.lt_of_lt_of_le hk hf.size
  rw [Array.getElem?_eq_getElem hkl]
  exact hb.block k _ (Array.getElem?_eq_getElem hkl) (.inr (by omega))
/-- what a shard's call leaves is free -/
theorem SL.kpo (h : SL w B sp gp bV bT bH m lp p bD bN n s l d) (hf : OFr lp p w w') : KpO w w' := by
  obtain ⟨pv, sv, rv, nD, nN, hl⟩ := h.lg
  exact hf.kpo hl
end
/-- the walk of a function: it goes through rs -/
def SeqF {α : Type} (F : Fence) (n : Nat) (P : Program) (gf : Nat) (lb : Array Value) (encs : α → Array Value) (rs : List α) (Inv : World → Prop) (l : Nat) (W : World) : Prop :=
  ∀ J : List α → World → Prop, (∀ s A, J s A → Inv A) → (∀ s A B, J s A → W.heap.size ≤ A.heap.size → Bk W.heap.size A B → J s B) →
    (∀ pre x W1, J pre W1 → W.heap.size ≤ W1.heap.size → pre ++ [x] <+: rs → YieldAt F (n - 1) P l (encs x) W1 fun e W' => e = .returned (.bool true) ∧ J (pre ++ [x]) W' ∧ KpO W1 W') →
    J [] W → CallsIn F n P gf (#[.func (.yield l) #[] #[]] ++ lb) W fun e W' => (∃ v, e = .returned v) ∧ J rs W'
section
variable {F : Fence} {n : Nat} {P : Program}
theorem wpIn_range_f {α : Type} {g : Operand} {ps : Array Tmp} {assign body : Code} {Q : Exit → Act → World → Prop} {a : Act} {w : World}
    (hro : F.round = none) (h1 : 1 ≤ n) {gf : Nat} {lb : Array Value} (hg : a.eval g = .func (.func gf) #[] lb) (hFg : F.fn gf) (eg : ∀ args w, (callFunc gf args).run P w = .ok (.enter gf args) w)
    {encs : α → Array Value} {rs : List α} {Inv : World → Prop} (hps : ∀ x, (encs x).size = ps.size)
    (hseq : ∀ W1, Fr [] w W1 → W1.heap.size = w.heap.size + 2 → SeqF F (n - 1) P gf lb encs rs Inv (w.heap.size + 1) W1)
    (I : List α → World → Prop) (hI0 : I [] w) (hInv : ∀ s A, I s A → Inv A) (hIb : ∀ s A B, I s A → w.heap.size ≤ A.heap.size → Bk w.heap.size A B → I s B)
    (Ax : α → Act → World → Prop) (hAx : ∀ x a' A r, Ax x a' A → Ax x a' (A.putObj (w.heap.size + 1) (.loop r)))
    (hassign : ∀ (pre : List α) (x : α) (W : World) (K : Act → World → Prop), I pre W → w.heap.size + 2 ≤ W.heap.size → pre ++ [x] <+: rs → (∀ a' W', Bk w.heap.size W W' → KpO W W' → Ax x a' W' → K a' W') →
      assign.wpIn (F.inRound (w.heap.size + 1)) (n - 1 - 1) P (Exit.then K (fun _ _ _ => False)) { tmps := (ps.zip (encs x)).foldl (fun t (p, v) => t.setIfInBounds p v) a.tmps, defers := [] } W)
    (hbody : ∀ (pre : List α) (x : α) (a' : Act) (W : World), I pre W → w.heap.size + 2 ≤ W.heap.size → Ax x a' W → pre ++ [x] <+: rs → body.wpIn (F.inRound (w.heap.size + 1)) (n - 1 - 1) P (fun e _ W' => e = .normal ∧ I (pre ++ [x]) W' ∧ KpO W W') a' W)
    (hdone : ∀ (W : World), I rs W → w.heap.size + 2 ≤ W.heap.size → W.heap[w.heap.size]? = some (.deferred (some [])) → Q .normal { a with defers := { target := .collected w.heap.size, args := #[] } :: a.defers } W) :
    (Code.rangeFunc g ps assign body).wpIn F n P Q a w := by
  refine wpIn_rangeFunc fun fn hfn => ?_
  rw [hro]
  obtain ⟨L, hL⟩ : ∃ L : LoopState → Loop, L = fun st => { state := st, pending := none, fn, tmps := a.tmps, params := ps, assign, body, defers := w.heap.size } := ⟨_, rfl⟩
  obtain ⟨W1, hW1⟩ : ∃ W1, W1 = (w.alloc (.deferred (some []))).alloc (.loop (L .ready)) := ⟨_, rfl⟩
  have hb1 : Fr [] w W1 := by rw [hW1]; exact ((Fr.refl [] w).alloc _).alloc _
  have hs1 : W1.heap.size = w.heap.size + 2 := by rw [hW1]; simp
  have hl1 : W1.heap[w.heap.size + 1]? = some (.loop (L .ready)) := by
    rw [hW1]; have := World.alloc_heap_new (w.alloc (.deferred (some []))) (.loop (L .ready)); rwa [World.size_alloc] at this
  have hd1 : W1.heap[w.heap.size]? = some (.deferred (some [])) := by
    rw [hW1]; exact (Below.heap_alloc _ _ _ (by simp)).trans (World.alloc_heap_new w _)
  refine ⟨w.heap.size + 1, [{ target := .collected w.heap.size, args := #[] }], W1, { target := .fn (.func gf) lb, args := #[.func (.yield (w.heap.size + 1)) #[] #[]] }, W1, gf, #[.func (.yield (w.heap.size + 1)) #[] #[]] ++ lb, W1, ?_, ?_, ?_, ?_, fun _ => h1, ?_⟩
  · rw [hW1, hL]; exact run_enterLoop_outer _ _ _ _ _
  · simp only [resolve, hg]; simp [go_sem]
  · intro f' hf'; simp [Target.leads] at hf'; subst hf'; exact hFg
  · simp [invoke, go_sem, eg]
  refine (hseq W1 hb1 hs1 (fun s A => I s A ∧ A.heap[w.heap.size + 1]? = some (.loop (L .ready)) ∧ A.heap[w.heap.size]? = some (.deferred (some [])) ∧ w.heap.size + 2 ≤ A.heap.size) (fun s A hs => hInv s A hs.1) ?_ ?_ ⟨hIb _ _ _ hI0 (Nat.le_refl _) (Bk.fr hb1), hl1, hd1, by omega⟩).mono ?_
  · rintro s A B ⟨i1, i2, i3, i4⟩ _ hb
    rw [hs1] at hb
    exact ⟨hIb s A B i1 (by omega) (hb.mono (by omega)), hb.block _ _ i2 (.inr (by omega)), hb.block _ _ i3 (.inr (by omega)), Nat.le_trans i4 hb.size⟩
  · rintro pre x W ⟨i1, i2, i3, i4⟩ _ hpre
    have hy := run_yield (P := P) (args := encs x) i2 (by rw [hL]; exact hps x)
    rw [hL] at hy
    refine ⟨fn, _, assign, body, hy, roundIn_of_wpIn hfn (hassign pre x W _ i1 i4 hpre fun a' Wa ba ka xa => ?_)⟩
    have la : Wa.heap[w.heap.size + 1]? = some (.loop (L .ready)) := ka.same _ _ i2 rfl
    have da : Wa.heap[w.heap.size]? = some (.deferred (some [])) := ka.same _ _ i3 rfl
    have lta : w.heap.size + 1 < Wa.heap.size := (Array.getElem?_eq_some_iff.1 la).1
    obtain ⟨Wb, hWb⟩ : ∃ Wb, Wb = Wa.putObj (w.heap.size + 1) (.loop (L .busy)) := ⟨_, rfl⟩
    have bb : Bk w.heap.size Wa Wb := by rw [hWb]; exact Bk.put la rfl (by omega) _
    have lb' : Wb.heap[w.heap.size + 1]? = some (.loop (L .busy)) := by rw [hWb]; exact World.putObj_heap_same lta
    have sb : Wb.heap.size = Wa.heap.size := by rw [hWb]; simp
    refine ⟨Wb, by rw [hWb]; have := run_beginRound (P := P) la (by rw [hL]); rw [hL] at this ⊢; exact this, ?_⟩
    refine wpIn_mono (hbody pre x a' Wb (hIb _ _ _ i1 (by omega) (ba.trans bb)) (by rw [sb]; omega) (by rw [hWb]; exact hAx _ _ _ _ xa) hpre) ?_
    rintro e a3 W3 ⟨rfl, i3', k3⟩
    have l3 : W3.heap[w.heap.size + 1]? = some (.loop (L .busy)) := k3.same _ _ lb' rfl
    have lt3 : w.heap.size + 1 < W3.heap.size := (Array.getElem?_eq_some_iff.1 l3).1
    have d3 : W3.heap[w.heap.size]? = some (.deferred (some [])) := k3.same _ _ (by rw [hWb]; exact (World.putObj_heap_other (by omega)).trans da) rfl
    have hend := run_endRound (P := P) none l3
    refine ⟨_, _, hend, rfl, ⟨hIb _ _ _ i3' (by omega) (Bk.put l3 rfl (by omega) _), ?_, (World.putObj_heap_other (by omega)).trans d3, by rw [size_put0]; omega⟩, ?_, ?_⟩
    · rw [World.putObj_heap_same lt3, hL]; rfl
    · rw [size_put0]; have := ka.size; have := k3.size; omega
    · intro k o hk ho
      by_cases e : k = w.heap.size + 1
      · subst e
        rw [i2] at hk
        cases hk
        rw [World.putObj_heap_same lt3, hL]; rfl
      · rw [World.putObj_heap_other e]
        refine k3.same k o ?_ ho
        rw [hWb, World.putObj_heap_other e]
        exact ka.same k o hk ho
  · rintro e W2 ⟨⟨v, rfl⟩, i1, i2, i3, i4⟩
    have hend := run_endLoop (P := P) i2 (by rw [hL]; simp)
    have hp : (L .ready).pending = none := by rw [hL]
    rw [hp] at hend
    refine ⟨none, _, hend, ?_⟩
    exact hdone _ (hIb _ _ _ i1 (by omega) (Bk.put i2 rfl (by omega) _)) (by rw [size_put0]; exact i4) ((World.putObj_heap_other (by omega)).trans i3)
end
end Go.Proofs.YtejiankgafjppabGreatDoor
/- order.ByKeys at map[string]string. (Written by mkbyk.py.) -/
namespace Go.Proofs.YtejiankgafjppabGreatDoor
open Go.RowKit Go.Maps Go.Shelf
open Sc

abbrev elV (g : ByteArray) : List Value := [.string g]
def elsV (l : List ByteArray) : List Value := l.flatMap elV
theorem elsV_snoc (l : List ByteArray) (g : ByteArray) : elsV (l ++ [g]) = elsV l ++ elV g := by simp [elsV]
theorem elsV_at : ∀ (l : List ByteArray) (k : Nat) (g : ByteArray), l[k]? = some g → (elsV l)[k]? = some (.string g)
  | [], k, g, h => by simp at h
  | x :: l, 0, g, h => by simp at h; subst h; simp [elsV]
  | x :: l, k + 1, g, h => by
    have := elsV_at l k g (by simpa using h)
    simp only [elsV, List.flatMap_cons] at this ⊢
    simpa using this
theorem Tryz.infoBV : (Tryz.prog.info? 9).map (fun i => (i.zero, i.size, i.bytes)) = some (some (.string ByteArray.empty), 1, 16) := by kernel_rfl
/-- what a map holds, by its keys -/
def sortV (L : List (ByteArray × ByteArray)) : List (ByteArray × ByteArray) := (sortK L).map fun k => (k, (alLook L k).getD ByteArray.empty)
theorem Tryz.lenSV (p : Option Addr) (n c : Nat) (w : World) : (Builtin.len_ #[65] 3 #[.slice p n c]).run Tryz.prog w = .ok (.int .i64 n) w := by simp [Builtin.len_, run_underlying Tryz.underlying65, goInt]
set_option maxRecDepth 100000 in
set_option maxHeartbeats 4000000 in
theorem byKeysV_in (n : Nat) (hn : 6 ≤ n) (l Bn b m : Nat) (L : List (ByteArray × ByteArray)) (hm : m ≤ 67108864) (W : World) (Kp : World → World → Prop) (Pk : Nat → World → Prop)
    (hP0 : ∀ k A, W.heap.size ≤ k → Below W.heap.size W A → Pk k A)
    (hP2 : ∀ k A B c t, (t = 9 ∨ t = 9) → Kp A B → A.heap[k]? = some (.cells c t (0, 0)) → Pk k A → B.heap[k]? = A.heap[k]? ∧ Pk k B)
    (J Jx : List (ByteArray × ByteArray) → World → Prop)
    (hJ : ∀ s A B, J s A → A.grownBy B none → J s B)
    (hY : ∀ pre x W1, J pre W1 → pre.length < L.length → pre ++ [x] <+: sortV L → YieldAt Fence.wide (n - 1) Tryz.prog l #[.string x.1, .string x.2] W1 fun e W' =>
      (e = .returned (.bool true) ∧ J (pre ++ [x]) W' ∧ Kp W1 W') ∨ (e = .returned (.bool false) ∧ Jx (pre ++ [x]) W'))
    (hBn : W.cell? ⟨Bn, 0, none⟩ = some (.map (some b))) (hL : MapAs KS ES W b m L) (h0 : J [] W) :
    CallsIn Fence.wide n Tryz.prog 149 #[.func (.yield l) #[] #[], .pointer (some ⟨Bn, 0, none⟩)] W fun e W' => (∃ v, e = .returned v) ∧
      ((∃ ys, ys = sortV L ∧ J ys W') ∨ (∃ pre, pre <+: sortV L ∧ Jx pre W')) := by
  have hBl : Bn < W.heap.size := World.block_lt_of_cell? W ⟨Bn, 0, none⟩ hBn
  obtain ⟨cK, cS⟩ := sortedKeysV (n - 1) (by omega) b m L W hL hm
  obtain ⟨i0, hi, hz0, hz1, hz2⟩ := info_parts Tryz.infoBV
  have hfK : Fence.wide.fn 151 := trivial
  have hfS : Fence.wide.fn 150 := trivial
  have hfM : Fence.wide.fn 149 := trivial
  have hro : Fence.wide.round = none := rfl
  have h1 : 1 ≤ n := by omega
  have hlenS := Tryz.lenSV
  have hLm := hL.len
  have HL : Hid (MapAs KS ES W b m L) := hL
  have HB : Hid (Bn < W.heap.size ∧ W.cell? ⟨Bn, 0, none⟩ = some (.map (some b))) := ⟨hBl, hBn⟩
  obtain ⟨m0, hm0⟩ : ∃ m0, m0 = L.length := ⟨_, rfl⟩
  have HM : Hid (m0 = L.length) := hm0
  rw [← hm0] at cS hLm
  have hm00 : m0 ≤ 67108864 := by omega
  clear hL hm0
  refine callsIn_of_wp Tryz.func149 rfl hfM ?_ hro
  simp only [Tryz.ntmps149, List.size_toArray, List.length_cons, List.length_nil, Nat.reduceAdd, Nat.reduceSub, Array.replicate_succ, Array.replicate_zero, List.push_toArray, List.append_toArray, List.nil_append, List.cons_append]
  gi_wp2_with (first
    | (gi_at_call 151; refine cK.mono ?_; rintro e w0 ⟨rfl, rfl⟩)
    | (gi_at_call 150; refine cS.mono ?_; rintro e w1 ⟨v, rfl, hrow, hnil, hb1⟩; obtain ⟨pp, cap, rfl⟩ := own_form0 hrow; have HR : Hid (w1.ownsRow W.heap.size 9 1 (.slice pp m0 cap) m0 ((sortK L).map Value.string) ∧ (Value.slice pp m0 cap = .slice none 0 0 ↔ m0 = 0)) := ⟨hrow, hnil⟩; clear hrow hnil))
  clear cK cS
  have HB1 : Hid (Below W.heap.size W w1) := hb1
  have HJ1 : Hid (∀ A, Below W.heap.size W A → J [] A) := fun A hA => hJ [] W A h0 ⟨hA.os, hA.tape, hA.output, hA.size, fun k hk _ => hA.block k hk⟩
  clear hb1 hBn
  by_cases hm1 : m0 = 0
  · subst hm1
    obtain ⟨rfl, rfl⟩ : pp = none ∧ cap = 0 := by have := HR.out.2.2 rfl; simpa using this
    clear HR
    have HE : Hid (sortV L = []) := by show _ = _; have := HM.out; rw [List.length_eq_zero_iff.1 this.symm]; simp [sortV, sortK]
    gi_loopw [14] (fun i wr => i = .int .i64 0 ∧ wr = w1) (fun _ _ => 0)
    case atStart => exact ⟨rfl, rfl⟩
    case round =>
      obtain ⟨rfl, rfl⟩ := hrel
      gi_wp2
      gi_loopw [27] (fun i wr2 => i = .int .i64 0 ∧ wr2 = wr) (fun _ _ => 0)
      case atStart => exact ⟨rfl, rfl⟩
      case round =>
        obtain ⟨rfl, rfl⟩ := hrel
        gi_wp2
        go_end0
        exact ⟨⟨_, rfl⟩, .inl ⟨_, rfl, by rw [HE.out]; exact HJ1.out _ HB1.out⟩⟩
  obtain ⟨g, rfl⟩ : ∃ g, pp = some ⟨g, 0, none⟩ := by obtain ⟨g, cap', e⟩ := own_pos0 HR.out.1 (by omega); exact ⟨g, by simp at e; exact e.1⟩
  have hrow := HR.out.1
  have HK : Hid (∃ cur, w1.heap[g]? = some (.cells cur 9 (0, 0)) ∧ W.heap.size ≤ g ∧ ∀ (k : Nat) (x : ByteArray), (sortK L)[k]? = some x → cur[k]? = some (Value.string x)) := by
    rcases hrow.2 with ⟨_, h3⟩ | ⟨g', cap', cur, e, hb, hg, _, _, hsz, htk⟩
    · omega
    · obtain ⟨e1, e2⟩ : g = g' ∧ cap = cap' := by simpa using e
      subst e1
      refine ⟨cur, hg, hb, fun k x hk => ?_⟩
      have hkl : k < m0 := by have := (List.getElem?_eq_some_iff.1 hk).1; rw [sortK_len] at this; have := HM.out; omega
      have : (cur.toList.take (m0 * 1))[k]? = some (.string x) := by rw [htk, List.getElem?_map, hk]; rfl
      rw [List.getElem?_take_of_lt (by omega)] at this
      simpa using this
  clear hrow HR
  obtain ⟨vs, hvs⟩ : ∃ vs : List ByteArray, vs = (sortK L).map fun k => (alLook L k).getD ByteArray.empty := ⟨_, rfl⟩
  have HV : Hid (vs = (sortK L).map fun k => (alLook L k).getD ByteArray.empty) := hvs
  clear hvs
  have HG : Hid (g < w1.heap.size) := by obtain ⟨cur, hg, _⟩ := HK.out; exact (Array.getElem?_eq_some_iff.1 hg).1
  gi_loopw [14, 4] (fun i v wr => ∃ k : Nat, k ≤ m0 ∧ i = .int .i64 k ∧ Hid (wr.ownsRow w1.heap.size 9 1 v k (elsV (vs.take k)) ∧ Below w1.heap.size w1 wr))
    (fun i _ _ => m0 - (intOf i).toNat)
  case atStart => exact ⟨0, Nat.zero_le _, rfl, World.ownsRow_nil _ _ _ _, Below.refl _ _⟩
  case round =>
    obtain ⟨k, hk, rfl, hR⟩ := hrel
    by_cases hlt : k < m0
    · obtain ⟨x, hx⟩ : ∃ x, (sortK L)[k]? = some x := ⟨_, List.getElem?_eq_getElem (by rw [sortK_len]; have := HM.out; omega)⟩
      obtain ⟨y, hy⟩ : ∃ y, y = (alLook L x).getD ByteArray.empty := ⟨_, rfl⟩
      have hbW : Below W.heap.size W wr := HB1.out.trans (hR.out.2.mono HB1.out.size)
      have ck : wr.cell? ⟨g, k, none⟩ = some (.string x) := by
        obtain ⟨cur, hg, _, hc⟩ := HK.out
        have := (hR.out.2.block g HG.out).trans hg
        rw [cell_blk0 this]
        exact hc k x hx
      have cB : wr.cell? ⟨Bn, 0, none⟩ = some (.map (some b)) := (hbW.cell (p := ⟨Bn, 0, none⟩) HB.out.1).trans HB.out.2
      have hxs : x.size ≤ maxLen := by
        obtain ⟨v', hv'⟩ := sortK_mem.1 (List.mem_of_getElem? hx)
        obtain ⟨_, _, _, _, hok⟩ := HL.out
        exact (hok _ hv').1
      have hlk := (HL.out.fr (S := []) ⟨hbW.os, hbW.tape, hbW.output, hbW.size, fun k hk _ => hbW.block k hk⟩ (by simp)).look Tryz.underlying132 (zeroStr wr) (by show (0 : Nat) ≤ maxLen; omega) (k := x) hxs
      rw [← hy] at hlk
      have HY : Hid (y = (alLook L x).getD ByteArray.empty ∧ (sortK L)[k]? = some x) := ⟨hy, hx⟩
      clear hy hx
      change (Instr.lookup _ _ (.string x) false).run _ _ = .ok (.string y) _ at hlk
      have hsz := hR.out.2.size
      have hrk : k < ((sortK L).map fun k => (alLook L k).getD ByteArray.empty).length := by rw [List.length_map, sortK_len]; have := HM.out; omega
      have HT : Hid (vs.take (k + 1) = vs.take k ++ [y]) := by
        show _ = _
        rw [HV.out, List.take_add_one, List.getElem?_map, HY.out.2, HY.out.1]; rfl
      clear hrk
      gi_wp2_with (gi_at_builtin; refine wpListIn_append_own _ rfl _ _ 65 rfl w1.heap.size 9 i0 _ 1 16 Tryz.underlying65 hi hz0 hz1 hz2 rfl (by decide) _ k _ rfl (hR.out.1.alloc _) ⟨wr.heap.size, 0, none⟩ 1 1 (elV y) rfl rfl (cells_new _ #[.string y] _) (by intro u hu; simp [elV] at hu; subst hu; rfl) (by unfold maxLen; omega) (by omega) (by simp; omega) ?_; intro v' w2 hown' hgrow _)
      go_roundw
      case rel =>
        refine ⟨k + 1, by omega, by simp, by rw [HT.out, elsV_snoc]; exact hown', ?_⟩
        exact ((hR.out.2.alloc hsz _).grown hgrow (by simp; omega) (fun j hj => (hR.out.1.lt j hj).1))
      case measure => simp [intOf]; omega
    · obtain rfl : k = m0 := by omega
      obtain ⟨g2, cap2, rfl⟩ := own_pos0 hR.out.1 (by omega)
      have HK2 : Hid (∃ cur2, wr.heap[g2]? = some (.cells cur2 9 (0, 0)) ∧ W.heap.size ≤ g2 ∧ ∀ (j : Nat) (y : ByteArray), vs[j]? = some y → cur2[j]? = some (Value.string y)) := by
        rcases hR.out.1.2 with ⟨_, h3⟩ | ⟨g', cap', cur, e, hb, hg, _, _, hsz, htk⟩
        · omega
        · obtain ⟨e1, e2⟩ : g2 = g' ∧ cap2 = cap' := by simpa using e
          subst e1
          have hvl : vs.length = k := by rw [HV.out, List.length_map, sortK_len, HM.out]
          refine ⟨cur, hg, Nat.le_trans HB1.out.size hb, fun j y hj => ?_⟩
          have hjk : j < k := by have := (List.getElem?_eq_some_iff.1 hj).1; omega
          have e3 : vs.take k = vs := List.take_of_length_le (by omega)
          rw [e3] at htk
          have hat := elsV_at vs j y hj
          rw [← htk] at hat
          rw [List.getElem?_take_of_lt (by omega)] at hat
          simpa using hat
      obtain ⟨cur, hgc, hgW, hcs⟩ := HK.out
      obtain ⟨cur2, hgc2, hgW2, hcs2⟩ := HK2.out
      have hgr := (hR.out.2.block g HG.out).trans hgc
      have hbW : Below W.heap.size W wr := HB1.out.trans (hR.out.2.mono HB1.out.size)
      have HC : Hid ((∀ (k : Nat) (x : ByteArray), (sortK L)[k]? = some x → cur[k]? = some (Value.string x)) ∧ ∀ (j : Nat) (y : ByteArray), vs[j]? = some y → cur2[j]? = some (Value.string y)) := ⟨hcs, hcs2⟩
      have HS : Hid (J [] wr ∧ wr.heap[g]? = some (.cells cur 9 (0, 0)) ∧ Pk g wr ∧ wr.heap[g2]? = some (.cells cur2 9 (0, 0)) ∧ Pk g2 wr) := ⟨HJ1.out _ hbW, hgr, hP0 _ _ hgW hbW, hgc2, hP0 _ _ hgW2 hbW⟩
      clear HK HK2 hgc hcs hgc2 hcs2 hgr hbW hP0
      gi_wp2
      gi_loopw [27] (fun i wr => ∃ j : Nat, j ≤ k ∧ i = .int .i64 j ∧ Hid (J ((sortV L).take j) wr ∧ wr.heap[g]? = some (.cells cur 9 (0, 0)) ∧ Pk g wr ∧ wr.heap[g2]? = some (.cells cur2 9 (0, 0)) ∧ Pk g2 wr))
        (fun i _ => k - (intOf i).toNat)
      case atStart => exact ⟨0, Nat.zero_le _, rfl, by rw [List.take_zero]; exact HS.out⟩
      case round =>
        obtain ⟨j, hj, rfl, hQ⟩ := hrel
        by_cases hlt2 : j < k
        · obtain ⟨x, hx⟩ : ∃ x, (sortK L)[j]? = some x := ⟨_, List.getElem?_eq_getElem (by rw [sortK_len]; have := HM.out; omega)⟩
          obtain ⟨y, hy⟩ : ∃ y, y = (alLook L x).getD ByteArray.empty := ⟨_, rfl⟩
          have hvy : vs[j]? = some y := by rw [HV.out, List.getElem?_map, hx, hy]; rfl
          have HXY : Hid ((sortV L).take (j + 1) = (sortV L).take j ++ [(x, y)]) := by
            show _ = _
            rw [List.take_add_one]
            unfold sortV
            rw [List.getElem?_map, hx, hy]; rfl
          have cx : wr.cell? ⟨g, j, none⟩ = some (.string x) := by rw [cell_blk0 hQ.out.2.1]; exact HC.out.1 j x hx
          have cy0 : wr.cell? ⟨g2, j, none⟩ = some (.string y) := by rw [cell_blk0 hQ.out.2.2.2.1]; exact HC.out.2 j y hvy
          obtain ⟨fn, tmps, assign, body, hy2, hRR⟩ := hY _ (x, y) wr hQ.out.1 (by rw [List.length_take, ← HM.out]; omega) (by rw [← HXY.out]; exact List.take_prefix _ _)
          clear hx hy hvy
          gi_wp2
          refine hRR.mono ?_
          rintro e W3 (⟨rfl, hJ3, hk3⟩ | ⟨rfl, hJx3⟩)
          · have p1 := hP2 _ _ _ _ _ (.inl rfl) hk3 hQ.out.2.1 hQ.out.2.2.1
            have p2 := hP2 _ _ _ _ _ (.inr rfl) hk3 hQ.out.2.2.2.1 hQ.out.2.2.2.2
            have HN : Hid (J ((sortV L).take (j + 1)) W3 ∧ W3.heap[g]? = some (.cells cur 9 (0, 0)) ∧ Pk g W3 ∧ W3.heap[g2]? = some (.cells cur2 9 (0, 0)) ∧ Pk g2 W3) := ⟨by rw [HXY.out]; exact hJ3, p1.1.trans hQ.out.2.1, p1.2, p2.1.trans hQ.out.2.2.2.1, p2.2⟩
            clear p1 p2 hJ3 hk3
            gi_wp2
            go_roundw
            case rel => exact ⟨j + 1, by omega, by simp, HN.out⟩
            case measure => simp [intOf]; omega
          · gi_wp2
            refine bodyPost_ret (results_none rfl _ _ _) rfl ?_
            exact ⟨⟨_, rfl⟩, .inr ⟨_, by rw [← HXY.out]; exact List.take_prefix _ _, hJx3⟩⟩
        · obtain rfl : j = k := by omega
          gi_wp2
          go_end0
          refine ⟨⟨_, rfl⟩, .inl ⟨_, ?_, hQ.out.1⟩⟩
          rw [List.take_of_length_le]
          unfold sortV
          rw [List.length_map, sortK_len, HM.out]
          exact Nat.le_refl _
/-- the walk, as whoever ranges over it has it; Q holds for all that the map holds -/
theorem byKeysV_stops (n : Nat) (hn : 6 ≤ n) (Bn b m : Nat) (L : List (ByteArray × ByteArray)) (Q : ByteArray × ByteArray → Prop) (hQ : ∀ x ∈ sortV L, Q x) (hm : m ≤ 67108864) (w : World) (hBl : Bn < w.heap.size) (hBn : w.cell? ⟨Bn, 0, none⟩ = some (.map (some b))) (hL : MapAs KS ES w b m L)
    (Kp : World → World → Prop) (Pk : Nat → World → Prop)
    (hP0 : ∀ W k A, Below w.heap.size w W → W.heap.size ≤ k → Below W.heap.size W A → Pk k A)
    (hP2 : ∀ k A B c t, (t = 9 ∨ t = 9) → Kp A B → A.heap[k]? = some (.cells c t (0, 0)) → Pk k A → B.heap[k]? = A.heap[k]? ∧ Pk k B) :
    SeqStopsK Fence.wide n Tryz.prog 149 #[.pointer (some ⟨Bn, 0, none⟩)] (fun y : { x : ByteArray × ByteArray // Q x } => #[.string y.1.1, .string y.1.2]) Kp (fun ys => ys.map (·.1) = sortV L) (fun _ => True) L.length w := fun l J Jx W hW hJ _ hY h0 => by
  have h := byKeysV_in n hn l Bn b m L hm W Kp Pk (fun k A => hP0 W k A hW) hP2 (fun pre W => ∃ pre' : List { x : ByteArray × ByteArray // Q x }, pre'.map (·.1) = pre ∧ J pre' W) (fun pre W => ∃ pre' : List { x : ByteArray × ByteArray // Q x }, pre'.map (·.1) = pre ∧ Jx pre' W)
    (fun s A B hs hgr => by obtain ⟨p', e, hj⟩ := hs; exact ⟨p', e, hJ p' A B none hj hgr (fun r e => by cases e)⟩)
    (fun pre x W1 hj hlt hpre => by
      obtain ⟨p', e, hj⟩ := hj
      have hx : Q x := hQ x (hpre.subset (by simp))
      obtain ⟨fn, tmps, assign, body, hy, hR⟩ := hY p' ⟨x, hx⟩ W1 hj (by rw [← e, List.length_map] at hlt; exact hlt)
      refine ⟨fn, tmps, assign, body, hy, hR.mono ?_⟩
      rintro e2 W' (⟨r1, r2, r3⟩ | ⟨r1, r2⟩)
      · exact .inl ⟨r1, ⟨p' ++ [⟨x, hx⟩], by simp [e], r2⟩, r3⟩
      · exact .inr ⟨r1, ⟨p' ++ [⟨x, hx⟩], by simp [e], r2⟩⟩)
    ((hW.cell (p := ⟨Bn, 0, none⟩) hBl).trans hBn) (hL.fr (S := []) ⟨hW.os, hW.tape, hW.output, hW.size, fun k hk _ => hW.block k hk⟩ (by simp)) ⟨[], rfl, h0⟩
  refine h.mono ?_
  rintro e W' ⟨he, ⟨ys, rfl, p', e2, hj⟩ | ⟨pre, _, p', _, hj⟩⟩
  · exact ⟨he, .inl ⟨p', e2, hj⟩⟩
  · exact ⟨he, .inr ⟨p', trivial, hj⟩⟩
set_option maxHeartbeats 1000000 in
theorem byKeysV_fn (n : Nat) (b : Nat) (w : World) :
    CallsIn Fence.wide n Tryz.prog 88 #[.map (some b)] w fun e w' => e = .returned (.func (.func 149) #[] #[.pointer (some ⟨w.heap.size, 0, none⟩)]) ∧ w' = w.alloc (.cells #[.map (some b)] 132) := by
  refine callsIn_of_wp Tryz.func88 rfl trivial ?_ rfl
  simp only [Tryz.ntmps88, List.size_toArray, List.length_cons, List.length_nil, Nat.reduceAdd, Nat.reduceSub, Array.replicate_succ, Array.replicate_zero, List.push_toArray, List.append_toArray, List.nil_append, List.cons_append]
  gi_wp2
  go_ret
  exact ⟨rfl, rfl⟩
end Go.Proofs.YtejiankgafjppabGreatDoor
/- A SHARD'S ENTRIES: valuedEntry; the walk through what a checkpoint notes. -/
namespace Go.Proofs.YtejiankgafjppabGreatDoor
open Go.RowKit Go.Maps Go.Shelf
open Sc

set_option maxRecDepth 100000 in
set_option maxHeartbeats 2000000 in
theorem valued_any (k v : ByteArray) (w : World) (hk : k.size < 256) (hv : v.size < 256) :
    Calls Tryz.prog 135 #[.string k, .string v] w fun e w' => e = .returned (.string (str (valB k v))) ∧ Below w.heap.size w w' := by
  have hg := text_any w.heap.size (.slice none 0 0) [] 0 k w (World.ownsRow_nil _ _ _ _) hk (by omega) (Nat.le_refl _)
  go_enter Tryz.func135, Tryz.ntmps135
  go_wp2_with fail
  refine hg.mono ?_
  clear hg
  rintro e w1 ⟨v1, rfl, ho1, hb1, _⟩
  obtain ⟨g1, c1, rfl⟩ := own_pos ho1 (by omega)
  have hg2 := text_any w.heap.size (.slice (some ⟨g1, 0, none⟩) (0 + 1 + k.size) c1) _ (0 + 1 + k.size) v w1 ho1 hv (by omega) hb1.size
  clear ho1
  go_wp2_with fail
  refine hg2.mono ?_
  clear hg2
  rintro e w2 ⟨v2, rfl, ho2, hb2, _⟩
  obtain ⟨g2, c2, rfl⟩ := own_pos ho2 (by omega)
  have hcv := run_str w2 g2 0 (0 + 1 + k.size + 1 + v.size) c2 (valB k v) (by simp [valB, bytesOf_len]; omega) (own_row (by simpa [valB] using ho2))
  clear ho2
  go_wp2
  go_ret
  exact ⟨rfl, hb1.trans hb2⟩
/-- the walk by keys, as a round may turn what is a log's -/
theorem byKeysV_f (n : Nat) (hn : 6 ≤ n) (l Bn b m : Nat) (L : List (ByteArray × ByteArray)) (hm : m ≤ 67108864) (W : World) (hBn : W.cell? ⟨Bn, 0, none⟩ = some (.map (some b))) (hL : MapAs KS ES W b m L) :
    SeqF Fence.wide n Tryz.prog 149 #[.pointer (some ⟨Bn, 0, none⟩)] (fun x : ByteArray × ByteArray => #[.string x.1, .string x.2]) (sortV L) (fun _ => True) l W := fun J _ hJ hY h0 => by
  have h := byKeysV_in n hn l Bn b m L hm W KpO (fun _ _ => True) (fun _ _ _ _ => trivial) (fun k A B c t ht hk hA _ => ⟨(hk.same k _ hA (by rcases ht with rfl | rfl <;> rfl)).trans hA.symm, trivial⟩)
    (fun s A => J s A ∧ W.heap.size ≤ A.heap.size) (fun _ _ => False)
    (fun s A B hs hg => ⟨hJ s A B hs.1 hs.2 (Bk.fr ⟨hg.os, hg.tape, hg.output, hg.size, fun k hk _ => hg.block k hk (by simp)⟩), Nat.le_trans hs.2 hg.size⟩)
    (fun pre x W1 hj _ hp => by
      obtain ⟨fn, tmps, assign, body, hy, hR⟩ := hY pre x W1 hj.1 hj.2 hp
      refine ⟨fn, tmps, assign, body, hy, hR.mono ?_⟩
      rintro e W' ⟨r1, r2, r3⟩
      exact .inl ⟨r1, ⟨r2, Nat.le_trans hj.2 r3.size⟩, r3⟩)
    hBn hL ⟨h0, Nat.le_refl _⟩
  refine h.mono ?_
  rintro e W' ⟨he, ⟨ys, rfl, hj⟩ | ⟨pre, _, hf⟩⟩
  · exact ⟨he, hj.1⟩
  · exact hf.elim
set_option maxHeartbeats 1000000 in
theorem entries_fn (n sp : Nat) (w : World) :
    CallsIn Fence.wide n Tryz.prog 78 #[.pointer (some ⟨sp, 0, none⟩)] w fun e w' => e = .returned (.func (.func 134) #[] #[.pointer (some ⟨w.heap.size, 0, none⟩)]) ∧ w' = w.alloc (.cells #[.pointer (some ⟨sp, 0, none⟩)] 83) := by
  refine callsIn_of_wp Tryz.func78 rfl trivial ?_ rfl
  simp only [Tryz.ntmps78, List.size_toArray, List.length_cons, List.length_nil, Nat.reduceAdd, Nat.reduceSub, Array.replicate_succ, Array.replicate_zero, List.push_toArray, List.append_toArray, List.nil_append, List.cons_append]
  gi_wp2
  go_ret
  exact ⟨rfl, rfl⟩
/-- the entries of what is committed -/
abbrev vB (x : ByteArray × ByteArray) : List Nat := valB x.1 x.2
def valEs (L : List (ByteArray × ByteArray)) : List (List Nat) := (sortV L).map vB
set_option maxRecDepth 100000 in
set_option maxHeartbeats 4000000 in
theorem entries1_in (n : Nat) (hn : 11 ≤ n) (l Bs sp lg bV bT bH m : Nat) (s : AShard) (W : World) (hBs : W.heap[Bs]? = some (.cells #[.pointer (some ⟨sp, 0, none⟩)] 83 (0, 0))) (h : ShIn W sp lg bV bT bH m s) (ht : s.txns = []) (hm : m ≤ 67108864) (hsm : ∀ x ∈ sortV s.vals, x.1.size < 256 ∧ x.2.size < 256)
    (J : List (List Nat) → World → Prop) (hJi : ∀ q A, J q A → ShIn A sp lg bV bT bH m s ∧ A.heap[Bs]? = some (.cells #[.pointer (some ⟨sp, 0, none⟩)] 83 (0, 0))) (hJ : ∀ q A B, J q A → W.heap.size ≤ A.heap.size → Bk W.heap.size A B → J q B)
    (hY : ∀ pre x W1, J pre W1 → W.heap.size ≤ W1.heap.size → pre ++ [x] <+: valEs s.vals → YieldAt Fence.wide (n - 1) Tryz.prog l #[.int .u8 4, .string (str x)] W1 fun e W' => e = .returned (.bool true) ∧ J (pre ++ [x]) W' ∧ KpO W1 W') (h0 : J [] W) :
    CallsIn Fence.wide n Tryz.prog 134 #[.func (.yield l) #[] #[], .pointer (some ⟨Bs, 0, none⟩)] W fun e W' => (∃ v, e = .returned v) ∧ J (valEs s.vals) W' := by
  have hro : Fence.wide.round = none := rfl
  have h1 : 1 ≤ n := by omega
  have hf2 : Fence.wide.fn 88 := trivial
  have hf3 : Fence.wide.fn 149 := trivial
  have hf4 : Fence.wide.fn 136 := trivial
  have hf5 : Fence.wide.fn 135 := trivial
  obtain ⟨W1, hW1⟩ : ∃ W1, W1 = W.alloc (.cells #[.func (.yield l) #[] #[]] 218) := ⟨_, rfl⟩
  have hf1 : Fr [] W W1 := by rw [hW1]; exact (Fr.refl [] W).alloc _
  have bY : Boxed W1 W.heap.size 218 (.func (.yield l) #[] #[]) := by rw [hW1]; exact Boxed.new W _ _
  have hs1 : W1.heap.size = W.heap.size + 1 := by rw [hW1]; simp
  have hBl : Bs < W.heap.size := (Array.getElem?_eq_some_iff.1 hBs).1
  have b1 : W1.heap[Bs]? = some (.cells #[.pointer (some ⟨sp, 0, none⟩)] 83 (0, 0)) := (hf1.block Bs hBl (by simp)).trans hBs
  have hin1 := h.fr hf1 (by simp) (by simp) (by simp) (by simp)
  have c0 := cell_blk0 b1 0
  have c1 := cell_blk0 hin1.blk 1
  simp at c0 c1
  rw [hW1] at c0 c1
  refine callsIn_of_wp_marks Tryz.func134 rfl trivial ?_ hro
  simp only [Tryz.ntmps134, List.size_toArray, List.length_cons, List.length_nil, Nat.reduceAdd, Nat.reduceSub, Array.replicate_succ, Array.replicate_zero, List.push_toArray, List.append_toArray, List.nil_append, List.cons_append]
  gi_wp2_with (gi_at_call 88; refine (byKeysV_fn _ bV _).mono ?_; rintro e w2 ⟨rfl, rfl⟩)
  rw [← hW1]
  have bY2 := bY.alloc (.cells #[.map (some bV)] 132)
  have hf2' : Fr [] W (W1.alloc (.cells #[.map (some bV)] 132)) := hf1.alloc _
  have bA := Boxed.new W1 132 (.map (some bV))
  rw [hs1] at bA
  have hs2 : (W1.alloc (.cells #[.map (some bV)] 132)).heap.size = W.heap.size + 2 := by rw [World.size_alloc, hs1]
  obtain ⟨W2, hW2⟩ : ∃ W2, W2 = W1.alloc (.cells #[.map (some bV)] 132) := ⟨_, rfl⟩
  rw [← hW2] at bY2 hf2' bA hs2 ⊢
  have HJ : Hid ((∀ q A B, J q A → W.heap.size ≤ A.heap.size → Bk W.heap.size A B → J q B) ∧ (∀ q A, J q A → ShIn A sp lg bV bT bH m s ∧ A.heap[Bs]? = some (.cells #[.pointer (some ⟨sp, 0, none⟩)] 83 (0, 0)))) := ⟨hJ, hJi⟩
  have HV : Hid (MapAs KS ES W2 bV m s.vals) := (h.fr hf2' (by simp) (by simp) (by simp) (by simp)).vals
  have J0 : Hid (J [] W2) := hJ _ _ _ h0 (Nat.le_refl _) (Bk.fr hf2')
  clear hW1 hW2 hin1 b1 c0 c1 hf1 hf2' h h0 hJ hJi bY
  refine wpIn_range_f hro h1 (gf := 149) (lb := #[.pointer (some ⟨W.heap.size + 1, 0, none⟩)]) rfl hf3 (enters_of Tryz.func149 (by kernel_rfl) rfl)
    (encs := fun x : ByteArray × ByteArray => #[.string x.1, .string x.2]) (rs := sortV s.vals) (Inv := fun _ => True) (fun _ => rfl)
    (fun Wx hbx _ => byKeysV_f (n - 1) (by omega) _ (W.heap.size + 1) bV m s.vals hm Wx ((World.cell?_of_block (a := ⟨W.heap.size + 1, 0, none⟩) (hbx.block (W.heap.size + 1) (by omega) (by simp))).trans bA.cell) (HV.out.fr hbx (by simp)))
    (fun pre A => Boxed A W.heap.size 218 (.func (.yield l) #[] #[]) ∧ J (pre.map vB) A)
    ⟨bY2, J0.out⟩ (fun _ _ _ => trivial)
    (fun q A B hs hz hb => ⟨hb.block _ _ hs.1 (.inl rfl), HJ.out.1 _ _ _ hs.2 (by omega) (hb.mono (by omega))⟩)
    (fun x a' A => a' = { tmps := #[.func (.yield l) #[] #[], .pointer (some ⟨Bs, 0, none⟩), .pointer (some ⟨W.heap.size, 0, none⟩), .string x.1, .string x.2, undef, undef, .pointer (some ⟨sp, 0, none⟩), .pointer (some ⟨sp, 0, none⟩), .pointer (some ⟨sp, 1, none⟩), .map (some bV), .func (.func 149) #[] #[.pointer (some ⟨W.heap.size + 1, 0, none⟩)], .string x.1, .string x.2, undef, undef, undef, undef, undef, undef, undef, undef, undef, undef, undef, undef, undef, undef, undef, undef, undef, undef, undef, undef, undef, undef], defers := [] })
    (fun x a' A r hs => hs)
    ?assign ?body ?done
  case assign =>
    have hsem := @Oper.semAt_some
    rintro pre x A K ⟨y1, hj⟩ hsA hpre hK
    gi_wp2
    exact hK _ _ (Bk.refl _ _) (KpO.refl _) rfl
  case body =>
    have hsem := @Oper.semAt_some
    rintro pre x a' A ⟨y1, hj⟩ hsA rfl hpre
    have v1 := y1.cell
    obtain ⟨z1, z2⟩ := hsm x (hpre.subset (by simp))
    have h3 : 1 ≤ n - 1 - 1 := by omega
    have HP : Hid (pre.map vB ++ [vB x] <+: valEs s.vals) := by
      show _ <+: _
      have := hpre.map vB
      simpa [valEs] using this
    have HB : Hid (∀ w7, Below A.drew.heap.size A.drew w7 → w7.cell? ⟨W.heap.size, 0, none⟩ = some (.func (.yield l) #[] #[]) ∧ Fr [] A w7 ∧ YieldAt Fence.wide (n - 1 - 1 - 1) Tryz.prog l #[.int .u8 4, .string (str (valB x.1 x.2))] w7 fun e W' => e = .returned (.bool true) ∧ J (pre.map vB ++ [vB x]) W' ∧ KpO w7 W') := fun w7 hb7 => by
      have hf7 : Fr [] A w7 := ⟨hb7.os, hb7.tape, hb7.output, hb7.size, fun k hk _ => hb7.block k hk⟩
      have hz7 := hf7.size
      exact ⟨(World.cell?_of_block (a := ⟨W.heap.size, 0, none⟩) (hf7.block W.heap.size (by omega) (by simp))).trans v1, hf7, yield_wide (hY _ (vB x) w7 (HJ.out.1 _ _ _ hj (by omega) (Bk.fr hf7)) (by omega) HP.out)⟩
    have HA : Hid (Boxed A W.heap.size 218 (.func (.yield l) #[] #[])) := y1
    have HE : Hid (∀ w7 W3, Fr [] A w7 → J (pre.map vB ++ [vB x]) W3 → KpO w7 W3 → (Boxed W3 W.heap.size 218 (.func (.yield l) #[] #[]) ∧ J (pre.map vB ++ [vB x]) W3) ∧ KpO A W3) := fun w7 W3 hf7 hJ3 hk3 => by
      have hk : KpO A W3 := (KpO.fr hf7).trans hk3
      exact ⟨⟨hk.same _ _ HA.out rfl, hJ3⟩, hk⟩
    clear hY y1 hj
    gi_wp2
    gi_region_with (first
      | (gi_at_call 135; refine ((callsIn_wide (n := n - 1 - 1 - 1)).2 (valued_any x.1 x.2 _ z1 z2)).mono ?_; rintro e w7 ⟨rfl, hb7⟩; obtain ⟨v7, hf7, yfn, ytm, yas, ybo, hy, hRR⟩ := HB.out w7 hb7)
      | (refine hRR.mono ?_; rintro e W3 ⟨rfl, hJ3, hk3⟩))
    all_goals
      (have HN := toHid (HE.out w7 W3 hf7 hJ3 hk3)
       clear HE HB HP HA hRR hy hJ3 hk3 hf7 hb7
       gi_wp2
       exact ⟨HN.out.1, HN.out.2⟩)
  case done =>
    rintro A ⟨y1, hj⟩ hsA hK
    obtain ⟨hin, hbs⟩ := HJ.out.2 _ _ hj
    have hwt := waiting_in (n - 1) (by omega) sp lg bV bT bH m s A hin (by rw [ht]; simp)
    have v1 := cell_blk0 hbs 0
    simp at v1
    have HD : Hid (J (valEs s.vals) A ∧ A.heap[W.heap.size + 2]? = some (.deferred (some []))) := ⟨hj, by rw [← hs2]; exact hK⟩
    clear hj hK y1 hin hbs
    have HW : Hid (∀ (v : Value) (ss : List Nat), ss.Perm (s.txns.map (·.1)) → (v = .slice none 0 0 ↔ waits (atT s.txns ss) = []) → v = .slice none 0 0) := fun v ss p1 hnil => hnil.2 (by
      rw [ht] at p1
      have : ss = [] := List.Perm.eq_nil p1
      rw [this]; rfl)
    gi_wp2_with (gi_at_call 136; refine hwt.mono ?_; rintro e w5 ⟨v, ss, rfl, p1, _, _, hnil, hb5⟩; have hv := HW.out v ss p1 hnil; subst hv; clear p1 hnil)
    gi_loopw [23] (fun i wr => i = .int .i64 0 ∧ wr = w5) (fun _ _ => 0)
    case atStart => exact ⟨rfl, rfl⟩
    case round =>
      obtain ⟨rfl, rfl⟩ := hrel
      gi_wp2
      have hz5 := hb5.size
      have hK5 : wr.heap[W.heap.size + 2]? = some (.deferred (some [])) := (hb5.block _ (by omega)).trans HD.out.2
      refine ⟨by simp, .inl ⟨_, _, rfl, run_takeDeferred hK5, ?_⟩⟩
      refine ⟨_, results_none rfl _ _ _, ⟨_, rfl⟩, HJ.out.1 _ _ _ (HJ.out.1 _ _ _ HD.out.1 (by omega) (Bk.fr (Fr.of_below hb5 []))) (by omega) (Bk.put hK5 rfl (by omega) _)⟩
end Go.Proofs.YtejiankgafjppabGreatDoor
