import Derived.Test.YtejiankgafjppaaGreatDoorC37
import Derived.Test.YtejiankgafjppaaGreatDoorC38
import Derived.Test.YtejiankgafjppaaGreatDoorC39
import Derived.Test.YtejiankgafjppaaGreatDoorRows
import Derived.ProofKit
import Derived.ChangeSame
import Derived.ChangeVars
import Derived.JoinedOf
import Derived.RowKit
import Derived.RowKitTokens
import Derived.LaidLaws
import Derived.LaidHandle
import Derived.Stop.Joined
import Derived.SizedLaws
import Derived.Lib.SmallJoins
import Derived.OpenShut
import Derived.Deep.Strs
/- A KEEPER IN MEMORY: what stays where the host, the document's shard or the keeper itself turns. -/
namespace Go.Proofs.YtejiankgafjppaaGreatDoor
open Go.RowKit Go.Maps
open Sc

abbrev keepO (hp mp : Nat) (cv uv : Value) : Obj := .cells #[.pointer (some ⟨hp, 0, none⟩), .pointer (some ⟨mp, 0, none⟩), cv, .bool false, .bool false, uv] 74
theorem list_of (n : Nat) (Q : Nat → Prop) : ∃ S : List Nat, (∀ k ∈ S, Q k) ∧ ∀ k, k < n → Q k → k ∈ S := by
  classical
  refine ⟨(List.range n).filter (fun k => decide (Q k)), fun k hk => ?_, fun k hk hq => ?_⟩
  · simpa using (List.mem_filter.1 hk).2
  · exact List.mem_filter.2 ⟨List.mem_range.2 hk, by simpa using hq⟩
section
variable {w w' : World} {B hp p sp gp bV bT bH lp bD bN m n m' n' : Nat} {s s' : AShard} {l l' : ALog} {d d' : ADisk}
theorem SFr.list (h : SFr sp bV bT bH lp p w w') : ∃ S, Fr S w w' ∧ ∀ k ∈ S, Own lp p w k ∨ k ∈ [sp, bV, bT, bH] := by
  obtain ⟨S, h1, h2⟩ := list_of w.heap.size fun k => Own lp p w k ∨ k ∈ [sp, bV, bT, bH]
  exact ⟨S, ⟨h.os, h.tape, h.output, h.size, fun k hk hn => h.block k hk (fun ho => hn (h2 k hk (.inl ho))) (fun hm => hn (h2 k hk (.inr hm)))⟩, h1⟩
theorem RBr.list [Inhabited Bs] (h : RBr w w') : ∃ S, Fr S w w' ∧ ∀ k ∈ S, RefBlk w k := by
  obtain ⟨S, h1, h2⟩ := list_of w.heap.size fun k => RefBlk w k
  exact ⟨S, ⟨h.os, h.tape, h.output, h.size, fun k hk hn => h.block k hk fun ho => hn (h2 k hk ho)⟩, h1⟩
/-- what is no part of the host's -/
structure Lwk (w : World) (hp p sp gp bV bT bH lp k : Nat) : Prop where
  own : ¬ Own lp p w k
  text : ∀ t, w.heap[k]? ≠ some (textO t)
  ne : k ∉ [hp, sp, gp, bV, bT, bH]
theorem cells_ne {c c' : Array Value} {t t' : TypeId} {fr fr' : Nat × Nat} (hne : t ≠ t') : some (Obj.cells c t fr) ≠ some (Obj.cells c' t' fr') := by
  intro e
  injection e with e
  injection e with _ e2 _
  exact hne e2
theorem HSx.law {S : List Nat} (h : HSx w B hp p sp gp bV bT bH lp bD bN m n s l d) (hf : Fr S w w') (hS : ∀ k ∈ S, k < w.heap.size → Lwk w hp p sp gp bV bT bH lp k) : HSx w' B hp p sp gp bV bT bH lp bD bN m n s l d ∧ ∀ k, Own lp p w' k → Own lp p w k := by
  obtain ⟨hh, hs, hb⟩ := h
  obtain ⟨pv, sv, rv, nD, nN, hl⟩ := hs.lg
  have hno : ∀ k, k < w.heap.size → k ∈ [hp, sp, gp, bV, bT, bH] → k ∉ S := fun k hk hm hx => (hS k hx hk).ne hm
  have hl2 := hl.apart hf fun k hk hlt => ⟨(hS k hk hlt).own, (hS k hk hlt).text⟩
  have e1 := (Array.getElem?_eq_some_iff.1 hh).1
  have e2 := (Array.getElem?_eq_some_iff.1 hs.sh.blk).1
  have e3 := (Array.getElem?_eq_some_iff.1 hs.ap.led).1
  refine ⟨⟨(hf.block hp e1 (hno hp e1 (by simp))).trans hh, ⟨hs.sh.fr hf (hno sp e2 (by simp)) (hno bV hs.sh.vals.lt (by simp)) (hno bT hs.sh.txns.lt (by simp)) (hno bH hs.sh.holds.lt (by simp)), ⟨pv, sv, rv, nD, nN, hl2⟩, { led := (hf.block gp e3 (hno gp e3 (by simp))).trans hs.ap.led, ne := hs.ap.ne }, hs.gp1⟩, hb⟩, fun k ho => (hl.own k).2 ((hl2.own k).1 ho)⟩
theorem HSx.apart (h : HSx w B hp p sp gp bV bT bH lp bD bN m n s l d) {k : Nat} {c : Array Value} {t : TypeId} (hk : w.heap[k]? = some (.cells c t (0, 0))) (h6 : t ≠ 185) (h7 : t ≠ 272) (h9 : t ≠ 94) : k ∉ [hp, sp, gp, bV, bT, bH] := by
  obtain ⟨hh, hs, hb⟩ := h
  intro hm
  simp at hm
  rcases hm with e | e | e | e | e | e
  · rw [e, hh] at hk; exact cells_ne h9.symm hk
  · rw [e, hs.sh.blk] at hk; exact cells_ne h6.symm hk
  · rw [e, hs.ap.led] at hk; exact cells_ne h7.symm hk
  · obtain ⟨es, c2, e2⟩ := hs.sh.vals.isMap; rw [e, e2] at hk; cases hk
  · obtain ⟨es, c2, e2⟩ := hs.sh.txns.isMap; rw [e, e2] at hk; cases hk
  · obtain ⟨es, c2, e2⟩ := hs.sh.holds.isMap; rw [e, e2] at hk; cases hk
theorem HSx.lw (h : HSx w B hp p sp gp bV bT bH lp bD bN m n s l d) {k : Nat} {c : Array Value} {t : TypeId} (hk : w.heap[k]? = some (.cells c t (0, 0))) (h1 : t ≠ 88) (h2 : t ≠ 175) (h3 : t ≠ 168) (h4 : t ≠ 34) (h5 : t ≠ 44) (h6 : t ≠ 185) (h7 : t ≠ 272) (h8 : t ≠ 9) (h9 : t ≠ 94) : Lwk w hp p sp gp bV bT bH lp k := by
  obtain ⟨pv, sv, rv, nD, nN, hl⟩ := h.2.1.lg
  exact ⟨hl.free hk h1 h2 h3 h4 h5, fun t e => cells_ne h8 (hk.symm.trans e), h.apart hk h6 h7 h9⟩
theorem HSx.lwu (h : HSx w B hp p sp gp bV bT bH lp bD bN m n s l d) {k : Nat} {c : Array Value} (hk : w.heap[k]? = some (.cells c 34 (0, 0))) (ho : ¬ Own lp p w k) : Lwk w hp p sp gp bV bT bH lp k :=
  ⟨ho, fun t e => cells_ne (by decide) (hk.symm.trans e), h.apart hk (by decide) (by decide) (by decide)⟩
theorem HSx.ref [Inhabited Bs] (h : HSx w B hp p sp gp bV bT bH lp bD bN m n s l d) {k : Nat} (hk : RefBlk w k) : Lwk w hp p sp gp bV bT bH lp k := by
  obtain ⟨_, c, t, hk, ht⟩ := hk
  rcases ht with rfl | rfl | rfl <;> exact h.lw hk (by decide) (by decide) (by decide) (by decide) (by decide) (by decide) (by decide) (by decide) (by decide)
theorem RsIn.frS [Inhabited Bs] {S : List Nat} {rp : Nat} {tv xv : Value} {ps : List (RTx × Value)} {R : RSh} (h : RsIn w rp tv xv ps R) (hf : Fr S w w') (hS : ∀ k ∈ S, ∀ c t, w.heap[k]? = some (.cells c t (0, 0)) → t ≠ 71 ∧ t ≠ 133 ∧ t ≠ 126 ∧ t ≠ 201) : RsIn w' rp tv xv ps R where
  base := h.base
  blk := (hf.block rp (Array.getElem?_eq_some_iff.1 h.blk).1 (fun hm => (hS rp hm _ _ h.blk).1 rfl)).trans h.blk
  tab := ownsRow_fr h.tab hf fun q hq hm => by obtain ⟨c, e⟩ := own_cells h.tab hq; exact (hS q hm _ _ e).2.1 rfl
  txs := ownsRow_fr h.txs hf fun q hq hm => by obtain ⟨c, e⟩ := own_cells h.txs hq; exact (hS q hm _ _ e).2.2.1 rfl
  lks := fun p hp => ownsRow_fr (h.lks p hp) hf fun q hq hm => by obtain ⟨c, e⟩ := own_cells (h.lks p hp) hq; exact (hS q hm _ _ e).2.2.2 rfl
  apart := h.apart
  rs := h.rs
theorem RS.frS [Inhabited Bs] {S : List Nat} {rp : Nat} {R : RSh} (h : RS w rp R) (hf : Fr S w w') (hS : ∀ k ∈ S, ∀ c t, w.heap[k]? = some (.cells c t (0, 0)) → t ≠ 71 ∧ t ≠ 133 ∧ t ≠ 126 ∧ t ≠ 201) : RS w' rp R := by
  obtain ⟨tv, xv, ps, h⟩ := h
  exact ⟨tv, xv, ps, h.frS hf hS⟩
/-- what a host turns is of a few kinds -/
theorem HSx.kinds (h : HSx w B hp p sp gp bV bT bH lp bD bN m n s l d) {k : Nat} (hk : Own lp p w k ∨ k ∈ [sp, bV, bT, bH]) {c : Array Value} {t : TypeId} (hc : w.heap[k]? = some (.cells c t (0, 0))) : t = 88 ∨ t = 175 ∨ t = 168 ∨ t = 34 ∨ t = 44 ∨ t = 185 := by
  obtain ⟨hh, hs, hb⟩ := h
  obtain ⟨pv, sv, rv, nD, nN, hl⟩ := hs.lg
  by_cases h1 : t = 88
  · exact .inl h1
  by_cases h2 : t = 175
  · exact .inr (.inl h2)
  by_cases h3 : t = 168
  · exact .inr (.inr (.inl h3))
  by_cases h4 : t = 34
  · exact .inr (.inr (.inr (.inl h4)))
  by_cases h5 : t = 44
  · exact .inr (.inr (.inr (.inr (.inl h5))))
  refine .inr (.inr (.inr (.inr (.inr ?_))))
  rcases hk with ho | hm
  · exact absurd ho (hl.free hc h1 h2 h3 h4 h5)
  · simp at hm
    rcases hm with e | e | e | e
    · rw [e, hs.sh.blk] at hc; injection hc with e1; injection e1 with _ e2 _; exact e2.symm
    · obtain ⟨es, c2, e2⟩ := hs.sh.vals.isMap; rw [e, e2] at hc; cases hc
    · obtain ⟨es, c2, e2⟩ := hs.sh.txns.isMap; rw [e, e2] at hc; cases hc
    · obtain ⟨es, c2, e2⟩ := hs.sh.holds.isMap; rw [e, e2] at hc; cases hc
theorem RS.sfr [Inhabited Bs] {rp : Nat} {R : RSh} (h : RS w rp R) (hx : HSx w B hp p sp gp bV bT bH lp bD bN m n s l d) (hf : SFr sp bV bT bH lp p w w') : RS w' rp R := by
  obtain ⟨S, h1, h2⟩ := hf.list
  refine h.frS h1 fun k hk c t hc => ?_
  rcases hx.kinds (h2 k hk) hc with rfl | rfl | rfl | rfl | rfl | rfl <;> decide
end
/-- what a caller of the law's calls needs: what stood ahead of them, and steps -/
structure LFr [Inhabited Bs] (w w' : World) : Prop where
  below : Below B0 w w'
  step : ∀ (k : Nat) (c : Array Value), w.heap[k]? = some (.cells c 64 (0, 0)) → w'.heap[k]? = some (.cells c 64 (0, 0))
section
variable [Inhabited Bs] {w w' w2 : World} {hp p sp gp bV bT bH lp bD bN m n m' n' : Nat} {s s' : AShard} {l l' : ALog} {d d' : ADisk}
theorem LFr.trans (h : LFr w w') (k : LFr w' w2) : LFr w w2 := ⟨h.below.trans k.below, fun i c hi => k.step i c (h.step i c hi)⟩
theorem LFr.of_fr {S : List Nat} (hf : Fr S w w') (hB : B0 ≤ w.heap.size) (hS : ∀ k ∈ S, B0 ≤ k ∧ ∀ c, w.heap[k]? ≠ some (.cells c 64 (0, 0))) : LFr w w' :=
  ⟨hf.below hB (fun k hk => (hS k hk).1), fun k c hk => (hf.block k (Array.getElem?_eq_some_iff.1 hk).1 (fun hm => (hS k hm).2 c hk)).trans hk⟩
theorem LFr.new (hf : Fr [] w w') (hB : B0 ≤ w.heap.size) : LFr w w' := LFr.of_fr hf hB (by simp)
theorem LFr.host (h : HSx w B0 hp p sp gp bV bT bH lp bD bN m n s l d) (hf : SFr sp bV bT bH lp p w w') : LFr w w' :=
  ⟨(h.hfr hf).below, fun _ _ hk => hf.cells h.2.1 hk (by decide) (by decide) (by decide) (by decide) (by decide) (by decide)⟩
theorem RBr.lfr (hf : RBr w w') (hB : B0 ≤ w.heap.size) : LFr w w' := by
  obtain ⟨S, h1, h2⟩ := hf.list
  refine LFr.of_fr h1 hB fun k hk => ⟨(h2 k hk).1, fun c e => ?_⟩
  obtain ⟨_, c2, t, e2, ht⟩ := h2 k hk
  rw [e] at e2
  rcases ht with rfl | rfl | rfl <;> exact cells_ne (by decide) e2
theorem LFr.met (h : LFr w w') (hB : 2 ≤ (B0 : Nat)) (hm : Met w) : Met w' := hm.below h.below (by omega)
theorem LFr.pows (h : LFr w w') (hB : 2 ≤ (B0 : Nat)) (hm : Pows w) : Pows w' := hm.of_block (h.below.block 1 (by omega))
end
/-- the keeper, its host, and the document's shard -/
structure KIy [Inhabited Bs] (w : World) (hp p sp gp bV bT bH lp bD bN m n : Nat) (s : AShard) (l : ALog) (d : ADisk) (kp mp mr : Nat) (cv uv : Value) (cs : List Value) (us : List Nat) (R : RSh) : Prop where
  host : HSx w B0 hp p sp gp bV bT bH lp bD bN m n s l d
  low : B0 ≤ kp
  kb : w.heap[kp]? = some (keepO hp mp cv uv)
  ref : RS w mr R
  cands : w.ownsRow B0 67 1 cv cs.length cs
  used : w.ownsRow B0 34 1 uv us.length (u64s us)
  free : ∀ g, uv.ownBlock = some g → ¬ Own lp p w g
abbrev KIn [Inhabited Bs] (w : World) (hp p sp gp bV bT bH lp bD bN m n : Nat) (s : AShard) (l : ALog) (d : ADisk) (kp mp : Nat) (cv uv : Value) (cs : List Value) (us : List Nat) (R : RSh) : Prop := KIy w hp p sp gp bV bT bH lp bD bN m n s l d kp mp mp cv uv cs us R
section
variable [Inhabited Bs] {w w' w2 : World} {hp p sp gp bV bT bH lp bD bN m n m' n' kp mp mp' mr mr' : Nat} {s s' : AShard} {l l' : ALog} {d d' : ADisk} {cv uv cv' uv' : Value} {cs cs' : List Value} {us us' : List Nat} {R R' : RSh}
theorem KIy.size (h : KIy w hp p sp gp bV bT bH lp bD bN m n s l d kp mp mr cv uv cs us R) : B0 ≤ w.heap.size := Nat.le_trans h.low (Nat.le_of_lt (Array.getElem?_eq_some_iff.1 h.kb).1)
theorem KIy.sfr (h : KIy w hp p sp gp bV bT bH lp bD bN m n s l d kp mp mr cv uv cs us R) (hh : HSx w' B0 hp p sp gp bV bT bH lp bD bN m' n' s' l' d') (hf : SFr sp bV bT bH lp p w w') : KIy w' hp p sp gp bV bT bH lp bD bN m' n' s' l' d' kp mp mr cv uv cs us R := by
  obtain ⟨S, h1, h2⟩ := hf.list
  refine ⟨hh, h.low, hf.cells h.host.2.1 h.kb (by decide) (by decide) (by decide) (by decide) (by decide) (by decide), h.ref.sfr h.host hf, ?_, ?_, fun g hg ho => ?_⟩
  · refine ownsRow_fr h.cands h1 fun q hq hm => ?_
    obtain ⟨c, e⟩ := own_cells h.cands hq
    have := h.host.kinds (h2 q hm) e
    revert this
    decide
  · refine ownsRow_fr h.used h1 fun q hq hm => ?_
    obtain ⟨c, e⟩ := own_cells h.used hq
    rcases h2 q hm with ho | hm2
    · exact h.free q hq ho
    · exact h.host.apart e (by decide) (by decide) (by decide) (by simp at hm2 ⊢; rcases hm2 with e | e | e | e <;> simp [e])
  · exact h.free g hg (hf.stay g (h.used.lt g hg).2 ho)
/-- whatever of the law's turns: the keeper's parts, one by one -/
theorem KIy.law {S : List Nat} (h : KIy w hp p sp gp bV bT bH lp bD bN m n s l d kp mp mr cv uv cs us R) (hf : Fr S w w') (hS : ∀ k ∈ S, k < w.heap.size → Lwk w hp p sp gp bV bT bH lp k)
    (hkb : w'.heap[kp]? = some (keepO hp mp' cv' uv')) (hr : RS w' mr' R') (hc : w'.ownsRow B0 67 1 cv' cs'.length cs') (hu : w'.ownsRow B0 34 1 uv' us'.length (u64s us')) (hn : ∀ g, uv'.ownBlock = some g → uv.ownBlock = some g ∨ w.heap.size ≤ g) :
    KIy w' hp p sp gp bV bT bH lp bD bN m n s l d kp mp' mr' cv' uv' cs' us' R' := by
  obtain ⟨h1, h2⟩ := h.host.law hf hS
  refine ⟨h1, h.low, hkb, hr, hc, hu, fun g hg ho => ?_⟩
  rcases hn g hg with e | e
  · exact h.free g e (h2 g ho)
  · obtain ⟨pv, sv, rv, nD, nN, hl⟩ := h.host.2.1.lg
    have := hl.ltO (h2 g ho)
    omega
theorem KIy.new (h : KIy w hp p sp gp bV bT bH lp bD bN m n s l d kp mp mr cv uv cs us R) (hf : Fr [] w w') : KIy w' hp p sp gp bV bT bH lp bD bN m n s l d kp mp mr cv uv cs us R :=
  h.law hf (by simp) ((hf.block kp (Array.getElem?_eq_some_iff.1 h.kb).1 (by simp)).trans h.kb) (h.ref.fr hf) (ownsRow_fr h.cands hf (by simp)) (ownsRow_fr h.used hf (by simp)) (fun g hg => .inl hg)
theorem ref_row {e : TypeId} {size k : Nat} {v : Value} {xs : List Value} (h : w.ownsRow B0 e size v k xs) (h1 : e ≠ 71) (h2 : e ≠ 126) (h3 : e ≠ 201) {q : Nat} (hq : v.ownBlock = some q) : ¬ RefBlk w q := by
  rintro ⟨_, c, t, e1, ht⟩
  obtain ⟨c2, e2⟩ := own_cells h hq
  rw [e2] at e1
  rcases ht with rfl | rfl | rfl
  · exact cells_ne h1 e1
  · exact cells_ne h2 e1
  · exact cells_ne h3 e1
/-- the document's shard has turned -/
theorem KIy.rbr (h : KIy w hp p sp gp bV bT bH lp bD bN m n s l d kp mp mr cv uv cs us R) (hf : RBr w w') (hr : RS w' mr' R') : KIy w' hp p sp gp bV bT bH lp bD bN m n s l d kp mp mr' cv uv cs us R' := by
  obtain ⟨S, h1, h2⟩ := hf.list
  refine h.law h1 (fun k hk _ => h.host.ref (h2 k hk)) ((hf.block kp (Array.getElem?_eq_some_iff.1 h.kb).1 ?_).trans h.kb) hr (ownsRow_fr h.cands h1 fun q hq hm => ?_) (ownsRow_fr h.used h1 fun q hq hm => ?_) (fun g hg => .inl hg)
  · rintro ⟨_, c, t, e1, ht⟩
    rw [h.kb] at e1
    rcases ht with rfl | rfl | rfl <;> exact cells_ne (by decide) e1
  · exact ref_row h.cands (by decide) (by decide) (by decide) hq (h2 q hm)
  · exact ref_row h.used (by decide) (by decide) (by decide) hq (h2 q hm)
end
end Go.Proofs.YtejiankgafjppaaGreatDoor
/- A SCRIPT: its steps as they lie; Well, small. (Out of Step1 and Step6.) -/
namespace Go.Proofs.YtejiankgafjppaaGreatDoor
open Go.RowKit
open Sc

abbrev stepV (kd : Int) (txn : Nat) (sq nn : Int) (key s : ByteArray) (ao : Option Addr) (x y : Nat) (f1 f2 f3 f4 : Int) : Value := .agg #[.int .i64 kd, .int .u64 (txn : Int), .int .i64 sq, .int .i64 nn, .string key, .string s, .slice ao x y, .int .i64 f1, .int .i64 f2, .int .i64 f3, .int .i64 f4]
abbrev stepO (kd : Int) (txn : Nat) (sq nn : Int) (key s : ByteArray) (ao : Option Addr) (x y : Nat) (f1 f2 f3 f4 : Int) : Obj := .cells #[.int .i64 kd, .int .u64 (txn : Int), .int .i64 sq, .int .i64 nn, .string key, .string s, .slice ao x y, .int .i64 f1, .int .i64 f2, .int .i64 f3, .int .i64 f4] 64
/-- a step of a script -/
structure AStep where
  kd : Int
  txn : Nat
  sq : Int
  nn : Int
  key : ByteArray
  s : ByteArray
  sa : Option Addr
  sx : Nat
  sy : Nat
  f1 : Int
  f2 : Int
  f3 : Int
  f4 : Int
def StepCells (w : World) (b o : Nat) (a : AStep) : Prop :=
  w.cell? ⟨b, o, none⟩ = some (.int .i64 a.kd) ∧ w.cell? ⟨b, o + 1, none⟩ = some (.int .u64 (a.txn : Int)) ∧ w.cell? ⟨b, o + 2, none⟩ = some (.int .i64 a.sq) ∧ w.cell? ⟨b, o + 3, none⟩ = some (.int .i64 a.nn) ∧ w.cell? ⟨b, o + 4, none⟩ = some (.string a.key) ∧ w.cell? ⟨b, o + 5, none⟩ = some (.string a.s) ∧ w.cell? ⟨b, o + 6, none⟩ = some (.slice a.sa a.sx a.sy) ∧
  w.cell? ⟨b, o + 7, none⟩ = some (.int .i64 a.f1) ∧ w.cell? ⟨b, o + 8, none⟩ = some (.int .i64 a.f2) ∧ w.cell? ⟨b, o + 9, none⟩ = some (.int .i64 a.f3) ∧ w.cell? ⟨b, o + 10, none⟩ = some (.int .i64 a.f4)
def StepsAt (w : World) (v : Value) (L : List AStep) : Prop :=
  L.length ≤ 281474976710656 ∧ ∃ ao cap, v = .slice ao L.length cap ∧ ∀ i a, L[i]? = some a → (∃ b off, ao = some ⟨b, off, none⟩ ∧ b < w.heap.size ∧ StepCells w b (off + i * 11) a) ∧ a.key.size ≤ 281474976710656 ∧ a.s.size ≤ 281474976710656 ∧ a.sx ≤ 281474976710656
theorem StepCells.below {w w' : World} {b o B : Nat} {a : AStep} (h : StepCells w b o a) (hb : Below B w w') (hlt : b < B) : StepCells w' b o a := by
  obtain ⟨h0, h1, h2, h3, h4, h5, h6, h7, h8, h9, h10⟩ := h
  exact ⟨(hb.cell (p := ⟨b, o, none⟩) hlt).trans h0, (hb.cell (p := ⟨b, o + 1, none⟩) hlt).trans h1, (hb.cell (p := ⟨b, o + 2, none⟩) hlt).trans h2, (hb.cell (p := ⟨b, o + 3, none⟩) hlt).trans h3, (hb.cell (p := ⟨b, o + 4, none⟩) hlt).trans h4, (hb.cell (p := ⟨b, o + 5, none⟩) hlt).trans h5, (hb.cell (p := ⟨b, o + 6, none⟩) hlt).trans h6, (hb.cell (p := ⟨b, o + 7, none⟩) hlt).trans h7, (hb.cell (p := ⟨b, o + 8, none⟩) hlt).trans h8, (hb.cell (p := ⟨b, o + 9, none⟩) hlt).trans h9, (hb.cell (p := ⟨b, o + 10, none⟩) hlt).trans h10⟩
/-- what a script weighs -/
def AStep.wt (a : AStep) : Nat := a.key.size + a.s.size + a.sx
def sumW : List AStep → Nat
  | [] => 0
  | a :: L => a.wt + sumW L
theorem sumW_app (K L : List AStep) : sumW (K ++ L) = sumW K + sumW L := by
  induction K with
  | nil => simp [sumW]
  | cons a K ih => simp [sumW, ih]; omega
theorem sumW_take (L : List AStep) (k : Nat) : sumW (L.take k) ≤ sumW L := by
  have := sumW_app (L.take k) (L.drop k)
  rw [List.take_append_drop] at this
  omega
theorem sumW_snoc {L : List AStep} {k : Nat} {a : AStep} (h : L[k]? = some a) : sumW (L.take (k + 1)) = sumW (L.take k) + a.wt := by
  rw [List.take_add_one, h, sumW_app]; simp [sumW]
set_option maxRecDepth 100000 in
set_option maxHeartbeats 4000000 in
theorem small_any (v : Value) (L : List AStep) (w : World) (h : StepsAt w v L) :
    Calls Tryz.prog 31 #[v] w fun e w' => e = .returned (.bool (decide (L.length + sumW L ≤ 16384))) ∧ ∃ q, w' = w.drewN q := by
  obtain ⟨hlen, ao, cap, rfl, hc⟩ := h
  obtain ⟨m, hm⟩ : ∃ m, m = L.length := ⟨_, rfl⟩
  rw [← hm] at hlen ⊢
  have HM : Hid (m = L.length) := hm
  have HC : Hid (∀ i a, L[i]? = some a → (∃ b off, ao = some ⟨b, off, none⟩ ∧ b < w.heap.size ∧ StepCells w b (off + i * 11) a) ∧ a.key.size ≤ 281474976710656 ∧ a.s.size ≤ 281474976710656 ∧ a.sx ≤ 281474976710656) := hc
  clear hm hc
  go_enter Tryz.func31, Tryz.ntmps31
  go_wp2
  go_loopw [3, 4] (fun n i wr => ∃ k : Nat, k ≤ m ∧ i = .int .i64 (k : Int) ∧ n = .int .i64 ((m + sumW (L.take k) : Nat) : Int) ∧ (k = 0 ∨ m + sumW (L.take (k - 1)) ≤ 16384) ∧ ∃ q, wr = w.drewN q) (fun _ i _ => m - (intOf i).toNat)
  case atStart => exact ⟨0, Nat.zero_le _, rfl, by simp [sumW], .inl rfl, 0, rfl⟩
  case round =>
    obtain ⟨k, hk, rfl, rfl, hpr, q, rfl⟩ := hrel
    have hsz : ∀ j, m + sumW (L.take j) ≤ m + sumW L := fun j => by have := sumW_take L j; omega
    by_cases hkm : k < m
    · obtain ⟨a, ha⟩ : ∃ a, L[k]? = some a := ⟨_, List.getElem?_eq_getElem (by have := HM.out; omega)⟩
      obtain ⟨⟨b, off, rfl, hb, h0, h1, h2, h3, h4, h5, h6, h7, h8, h9, h10⟩, w1, w2, w3⟩ := HC.out k a ha
      have hsn := sumW_snoc ha
      have HT : Hid (sumW (L.take (k + 1)) = sumW (L.take k) + a.wt ∧ m + sumW (L.take k) ≤ m + sumW L ∧ m + sumW (L.take (k + 1)) ≤ m + sumW L) := ⟨hsn, hsz k, hsz (k + 1)⟩
      by_cases hle : m + sumW (L.take k) ≤ 16384
      · have HW : Hid (a.wt = a.key.size + a.s.size + a.sx) := rfl
        generalize hz : sumW (L.take k) = z at hle HT ⊢
        have HZ : Hid (sumW (L.take k) = z) := hz
        clear hz hsn hsz hpr h0 h1 h2 h3 h7 h8 h9 h10
        have i0 : (0 : Int) ≤ (k : Int) := by omega
        have i1 : (k : Int) < (m : Int) := by omega
        go_wp2
        go_quiet (fail)
        go_wp2
        go_roundw
        case rel => exact ⟨k + 1, by omega, by go_num, by rw [HT.out.1, HW.out]; congr 1; omega, .inr (by simpa [HZ.out] using hle), _, rfl⟩
        case measure => simp [intOf]; omega
      · have hbig : ¬ m + sumW L ≤ 16384 := by have := HT.out; omega
        have hdd : decide (m + sumW L ≤ 16384) = false := decide_eq_false hbig
        generalize hz : sumW (L.take k) = z at hle HT ⊢
        clear hz hsn hsz hpr h0 h1 h2 h3 h4 h5 h6 h7 h8 h9 h10
        go_wp2
        go_ret
        have hd2 : decide ((m : Int) + (z : Int) ≤ 16384) = false := decide_eq_false (by omega)
        refine ⟨?_, q, rfl⟩
        rw [hdd]
        show Ending.returned (Value.bool (decide ((m : Int) + (z : Int) ≤ 16384))) = _
        rw [hd2]
    · obtain rfl : k = m := by omega
      have hall : L.take k = L := by rw [HM.out, List.take_length]
      rw [hall]
      clear hsz hpr
      generalize hz : sumW L = z
      have HZ : Hid (sumW L = z) := hz
      clear hz hall
      go_wp2
      go_ret
      refine ⟨?_, q, rfl⟩
      show Ending.returned (Value.bool (decide ((k : Int) + (z : Int) ≤ 16384))) = _
      rw [HZ.out]
      congr 2
      exact decide_eq_decide.2 (by omega)
end Go.Proofs.YtejiankgafjppaaGreatDoor
/- A SCRIPT: what was handed in. (Out of LogProof.) -/
namespace Go.Proofs.YtejiankgafjppaaGreatDoor
open Go.ChangeShapes Go.WideShapes Go.RowKit Go.Joins
open Go.ChangeMaps (setBlock shut_map_nil open_string shut_string keptBut_setBlock frozen?_setBlock heap_setBlock_same)
open Sc

theorem Tryz.cellsStep : Tryz.prog.cellsOf 64 = 11 := by kernel_rfl
theorem Tryz.cellsFall : Tryz.prog.cellsOf 30 = 4 := by kernel_rfl
theorem Tryz.cellsI : Tryz.prog.cellsOf 3 = 1 := by kernel_rfl
theorem Tryz.cellsU64' : Tryz.prog.cellsOf 34 = 1 := by kernel_rfl
theorem Tryz.cellsStr' : Tryz.prog.cellsOf 9 = 1 := by kernel_rfl
theorem Tryz.cellsInts : Tryz.prog.cellsOf 26 = 1 := by kernel_rfl
theorem Tryz.bytesStep : Tryz.prog.bytesOf 64 = 120 := by kernel_rfl
theorem Tryz.bytesI : Tryz.prog.bytesOf 3 = 8 := by kernel_rfl
theorem eleven_of {cs : List Value} (h : cs.length = 11) : ∃ a b c d e f g i j k l, cs = [a, b, c, d, e, f, g, i, j, k, l] := by
  match cs, h with
  | [a, b, c, d, e, f, g, i, j, k, l], _ => exact ⟨a, b, c, d, e, f, g, i, j, k, l, rfl⟩
section
variable {H : Type} {enc : TypeId × Value → H} {P : Program} {w : World} {base : Nat} {spare : Nat → Bool} {held : Bool}
theorem trod_struct8 {t : TypeId} {f0 f1 f2 f3 f4 f5 f6 f7 : Field} {fuel : Nat} {cs : List Value} {x : DataW H × List MemPlace} (ht : P.underlying t = some (.struct #[f0, f1, f2, f3, f4, f5, f6, f7])) (h : DataW.trod enc P w base spare held fuel t cs = some x) :
    ∃ y0 y1 y2 y3 y4 y5 y6 y7 n, x.1 = .agg [y0.1, y1.1, y2.1, y3.1, y4.1, y5.1, y6.1, y7.1] ∧ DataW.trod enc P w base spare held n f0.type ((cs.drop f0.offset).take (P.cellsOf f0.type)) = some y0 ∧
      DataW.trod enc P w base spare held n f1.type ((cs.drop f1.offset).take (P.cellsOf f1.type)) = some y1 ∧ DataW.trod enc P w base spare held n f2.type ((cs.drop f2.offset).take (P.cellsOf f2.type)) = some y2 ∧
      DataW.trod enc P w base spare held n f3.type ((cs.drop f3.offset).take (P.cellsOf f3.type)) = some y3 ∧ DataW.trod enc P w base spare held n f4.type ((cs.drop f4.offset).take (P.cellsOf f4.type)) = some y4 ∧
      DataW.trod enc P w base spare held n f5.type ((cs.drop f5.offset).take (P.cellsOf f5.type)) = some y5 ∧ DataW.trod enc P w base spare held n f6.type ((cs.drop f6.offset).take (P.cellsOf f6.type)) = some y6 ∧
      DataW.trod enc P w base spare held n f7.type ((cs.drop f7.offset).take (P.cellsOf f7.type)) = some y7 := by
  obtain ⟨xs, n, _, rfl, hl, hlen, hf⟩ := DataW.trod_struct ht h
  match xs, hlen with
  | [y0, y1, y2, y3, y4, y5, y6, y7], _ => exact ⟨y0, y1, y2, y3, y4, y5, y6, y7, n, by simp, by simpa using hf 0 f0 rfl, by simpa using hf 1 f1 rfl, by simpa using hf 2 f2 rfl, by simpa using hf 3 f3 rfl, by simpa using hf 4 f4 rfl, by simpa using hf 5 f5 rfl, by simpa using hf 6 f6 rfl, by simpa using hf 7 f7 rfl⟩
theorem weightsAll_mem {e : TypeId} {d : DataW H} {k : Nat} : ∀ {l : List (DataW H)}, d ∈ l → k ∈ d.weights P e → k ∈ DataW.weightsAll P e l
  | x :: l, h, hk => by
    rcases List.mem_cons.1 h with rfl | h
    · simp [DataW.weightsAll, hk]
    · simp [DataW.weightsAll, weightsAll_mem h hk]
end
set_option maxRecDepth 100000 in
/-- the steps that were handed in -/
theorem steps_ofB {H : Type} {enc : TypeId × Value → H} {W : World} {v : Value} {d : DataW H} {p : List MemPlace} (h : DataW.Trod enc Tryz.prog W 0 (fun _ => true) true 22 v d p) (hv : ∃ a len cap, v = .slice a len cap) (hz : (DataW.weightsEach Tryz.prog [22] [d]).all (· ≤ reachBytes) = true) : ∃ L, StepsAt W v L ∧ ∀ (i : Nat) (a : AStep), L[i]? = some a → a.txn < 18446744073709551616 ∧ -9223372036854775808 ≤ a.nn ∧ a.nn ≤ 9223372036854775807 := by
  obtain ⟨a0, len0, cap0, rfl⟩ := hv
  obtain ⟨fuel, hf⟩ := h
  rcases Deep.open_slice Tryz.underlying22 hf with ⟨hcs, _⟩ | ⟨a', len', cap', m, n, D, Pl, hcs, _, hl, _, hm, hd, hx⟩
  · simp [Value.cells] at hcs
    obtain ⟨rfl, rfl, rfl⟩ := hcs
    exact ⟨[], ⟨by simp, none, 0, rfl, by simp⟩, by simp⟩
  · simp [Value.cells] at hcs
    obtain ⟨rfl, rfl, rfl⟩ := hcs
    simp only [if_true] at hm
    have hd1 : d = .slice ((List.range len0).map D) ((List.range (m - len0)).map fun j => D (len0 + j)) := congrArg Prod.fst hd
    have hall := List.all_eq_true.1 hz
    have hrb : reachBytes ≤ 140737488355328 := by have := reachBytes_lt; omega
    have hwt : ∀ i, i < len0 → ∀ k ∈ (D i).weights Tryz.prog 64, k ≤ 140737488355328 := fun i hi k hk => by
      have := hall k (by
        rw [hd1]
        simp only [DataW.weightsEach, DataW.weights, Tryz.underlying22, List.append_nil]
        exact List.mem_cons_of_mem _ (List.mem_append_left _ (weightsAll_mem (List.mem_map.2 ⟨i, List.mem_range.2 hi, rfl⟩) hk)))
      simp at this; omega
    have hlen : len0 ≤ 281474976710656 := by
      have := sized_slice (j := 0) hz rfl (by rw [hd1]; rfl) Tryz.underlying22
      rw [Tryz.bytesStep] at this
      simp at this; omega
    have key : ∀ i, ∃ s : AStep, i < len0 → (∃ b off, (some a' : Option Addr) = some ⟨b, off, none⟩ ∧ b < W.heap.size ∧ StepCells W b (off + i * 11) s) ∧ s.key.size ≤ 281474976710656 ∧ s.s.size ≤ 281474976710656 ∧ s.sx ≤ 281474976710656 ∧ (s.txn < 18446744073709551616 ∧ -9223372036854775808 ≤ s.nn ∧ s.nn ≤ 9223372036854775807) := fun i => by
      by_cases hi : i < len0
      · obtain ⟨cs', h1, h2⟩ := hx i (by omega)
        rw [Tryz.cellsStep] at h1
        obtain ⟨_, hcl, hcell⟩ := World.cells?_some h1
        obtain ⟨y0, y1, y2, y3, y4, y5, y6, y7, n', hy, g0, g1, g2, g3, g4, g5, g6, g7⟩ := trod_struct8 Tryz.underlying64 h2
        obtain ⟨v0, v1, v2, v3, v4, v5, v6, v7, v8, v9, v10, rfl⟩ := eleven_of hcl
        have g0' : DataW.trod enc Tryz.prog W 0 (fun _ => true) true n' 3 [v0] = some y0 := by simpa [Tryz.cellsI] using g0
        have g1' : DataW.trod enc Tryz.prog W 0 (fun _ => true) true n' 34 [v1] = some y1 := by simpa [Tryz.cellsU64'] using g1
        have g2' : DataW.trod enc Tryz.prog W 0 (fun _ => true) true n' 3 [v2] = some y2 := by simpa [Tryz.cellsI] using g2
        have g3' : DataW.trod enc Tryz.prog W 0 (fun _ => true) true n' 3 [v3] = some y3 := by simpa [Tryz.cellsI] using g3
        have g4' : DataW.trod enc Tryz.prog W 0 (fun _ => true) true n' 9 [v4] = some y4 := by simpa [Tryz.cellsStr'] using g4
        have g5' : DataW.trod enc Tryz.prog W 0 (fun _ => true) true n' 9 [v5] = some y5 := by simpa [Tryz.cellsStr'] using g5
        have g6' : DataW.trod enc Tryz.prog W 0 (fun _ => true) true n' 26 [v6] = some y6 := by simpa [Tryz.cellsInts] using g6
        have g7' : DataW.trod enc Tryz.prog W 0 (fun _ => true) true n' 30 [v7, v8, v9, v10] = some y7 := by simpa [Tryz.cellsFall] using g7
        obtain ⟨q0, q1, q2, q3, n'', _, _, r0, r1, r2, r3⟩ := trod_struct4 Tryz.underlying30 g7'
        have r0' : DataW.trod enc Tryz.prog W 0 (fun _ => true) true n'' 3 [v7] = some q0 := by simpa [Tryz.cellsI] using r0
        have r1' : DataW.trod enc Tryz.prog W 0 (fun _ => true) true n'' 3 [v8] = some q1 := by simpa [Tryz.cellsI] using r1
        have r2' : DataW.trod enc Tryz.prog W 0 (fun _ => true) true n'' 3 [v9] = some q2 := by simpa [Tryz.cellsI] using r2
        have r3' : DataW.trod enc Tryz.prog W 0 (fun _ => true) true n'' 3 [v10] = some q3 := by simpa [Tryz.cellsI] using r3
        obtain ⟨x0, e0, _, _⟩ := DataW.trod_int Tryz.underlying3 g0'
        obtain ⟨x1, e1, _, wx1⟩ := DataW.trod_int Tryz.underlying34 g1'
        obtain ⟨x2, e2, _, _⟩ := DataW.trod_int Tryz.underlying3 g2'
        obtain ⟨x3, e3, _, wx3⟩ := DataW.trod_int Tryz.underlying3 g3'
        obtain ⟨x4, e4, ey4, _⟩ := DataW.trod_string Tryz.underlying9 g4'
        obtain ⟨x5, e5, ey5, _⟩ := DataW.trod_string Tryz.underlying9 g5'
        obtain ⟨x7, e7, _, _⟩ := DataW.trod_int Tryz.underlying3 r0'
        obtain ⟨x8, e8, _, _⟩ := DataW.trod_int Tryz.underlying3 r1'
        obtain ⟨x9, e9, _, _⟩ := DataW.trod_int Tryz.underlying3 r2'
        obtain ⟨x10, e10, _, _⟩ := DataW.trod_int Tryz.underlying3 r3'
        simp at e0 e1 e2 e3 e4 e5 e7 e8 e9 e10
        subst e0 e1 e2 e3 e4 e5 e7 e8 e9 e10
        have bx := bounds_u64 wx1
        have b3 := bounds_i64 wx3
        obtain ⟨X1, rfl⟩ := Int.eq_ofNat_of_zero_le bx.1
        have hyw : ∀ k ∈ DataW.weightsEach Tryz.prog [3, 34, 3, 3, 9, 9, 26, 30] [y0.1, y1.1, y2.1, y3.1, y4.1, y5.1, y6.1, y7.1], k ≤ 140737488355328 := fun k hk => hwt i hi k (by
          have hy' : D i = .agg [y0.1, y1.1, y2.1, y3.1, y4.1, y5.1, y6.1, y7.1] := hy
          rw [hy']
          simpa [DataW.weights, Tryz.underlying64] using hk)
        have s4 : x4.size ≤ 281474976710656 := by
          have := hyw x4.data.toList.length (DataW.weights_mem_each (j := 4) rfl rfl _ (by rw [ey4]; simp [DataW.weights]))
          simp at this; omega
        have s5 : x5.size ≤ 281474976710656 := by
          have := hyw x5.data.toList.length (DataW.weights_mem_each (j := 5) rfl rfl _ (by rw [ey5]; simp [DataW.weights]))
          simp at this; omega
        obtain ⟨sa, sx, sy, ev6, s6⟩ : ∃ sa sx sy, v6 = .slice sa sx sy ∧ sx ≤ 281474976710656 := by
          rcases Deep.open_slice Tryz.underlying26 g6' with ⟨h6, _⟩ | ⟨a6, len6, cap6, m6, n6, D6, P6, h6, _, _, _, _, h6d, _⟩
          · simp at h6; exact ⟨none, 0, 0, h6, by omega⟩
          · simp at h6
            refine ⟨_, _, _, h6, ?_⟩
            have := hyw (((List.range len6).map D6).length + ((List.range (m6 - len6)).map fun j => D6 (len6 + j)).length |>.mul 8) (DataW.weights_mem_each (j := 6) rfl rfl _ (by
              rw [h6d]
              simp [DataW.weights, Tryz.underlying26, Tryz.bytesI]))
            simp at this; omega
        subst ev6
        obtain ⟨b, off, spot⟩ := a'
        have c0 := hcell 0 (by omega)
        have c1 := hcell 1 (by omega)
        have c2 := hcell 2 (by omega)
        have c3 := hcell 3 (by omega)
        have c4 := hcell 4 (by omega)
        have c5 := hcell 5 (by omega)
        have c6 := hcell 6 (by omega)
        have c7 := hcell 7 (by omega)
        have c8 := hcell 8 (by omega)
        have c9 := hcell 9 (by omega)
        have c10 := hcell 10 (by omega)
        rw [Deep.add_add] at c0 c1 c2 c3 c4 c5 c6 c7 c8 c9 c10
        have hspot : spot = none := by
          obtain ⟨cs0, z1, _⟩ := hx 0 (by omega)
          rw [Tryz.cellsStep] at z1
          obtain ⟨_, zl, zc⟩ := World.cells?_some z1
          obtain ⟨u0, u1, u2, u3, u4, u5, u6, u7, u8, u9, u10, rfl⟩ := eleven_of zl
          have z0 := zc 0 (by omega)
          rw [Deep.add_add] at z0
          simpa [Addr.add] using World.cell?_spot z0
        subst hspot
        have ea : ∀ j, ((⟨b, off, none⟩ : Addr).add j) = ⟨b, off + j, none⟩ := fun j => by
          unfold Addr.add; split
          · rename_i h0; subst h0; rfl
          · rfl
        rw [ea] at c0 c1 c2 c3 c4 c5 c6 c7 c8 c9 c10
        simp only [Nat.add_zero] at c0
        simp only [← Nat.add_assoc] at c1 c2 c3 c4 c5 c6 c7 c8 c9 c10
        exact ⟨⟨x0, X1, x2, x3, x4, x5, sa, sx, sy, x7, x8, x9, x10⟩, fun _ => ⟨⟨b, off, rfl, World.block_lt_of_cell? W _ c0, c0, c1, c2, c3, c4, c5, c6, c7, c8, c9, c10⟩, s4, s5, s6, by show X1 < _; omega, by show _ ≤ x3; omega, by show x3 ≤ _; omega⟩⟩
      · exact ⟨⟨0, 0, 0, 0, ByteArray.empty, ByteArray.empty, none, 0, 0, 0, 0, 0, 0⟩, fun h => absurd h hi⟩
    obtain ⟨f, hf'⟩ := Classical.skolem.1 key
    have hat : ∀ (i : Nat) (s : AStep), ((List.range len0).map f)[i]? = some s → i < len0 ∧ s = f i := fun i s hs => by
      rw [List.getElem?_map] at hs
      have hi : i < len0 := by
        obtain ⟨j, hj, _⟩ := Option.map_eq_some_iff.1 hs
        have := (List.getElem?_eq_some_iff.1 hj).1
        simpa using this
      rw [List.getElem?_range hi] at hs
      simp at hs
      exact ⟨hi, hs.symm⟩
    refine ⟨(List.range len0).map f, ⟨by simpa using hlen, some a', cap0, by simp, fun i s hs => ?_⟩, fun i s hs => ?_⟩
    · obtain ⟨hi, rfl⟩ := hat i s hs
      obtain ⟨k1, k2, k3, k4, _⟩ := hf' i hi
      exact ⟨k1, k2, k3, k4⟩
    · obtain ⟨hi, rfl⟩ := hat i s hs
      exact (hf' i hi).2.2.2.2
end Go.Proofs.YtejiankgafjppaaGreatDoor
/- A KEEPER: sameIds, samePairs, pick; looks. -/
namespace Go.Proofs.YtejiankgafjppaaGreatDoor
open Go.RowKit Go.Maps
open Sc

theorem u64_slice {w : World} {base : Nat} {v : Value} {xs : List Nat} (h : w.ownsRow base 34 1 v xs.length (u64s xs)) : ∃ ao c, v = .slice ao xs.length c ∧ (∀ (i x : Nat), xs[i]? = some x → ∃ g, ao = some ⟨g, 0, none⟩ ∧ w.cell? ⟨g, i, none⟩ = some (.int .u64 (x : Int))) := by
  rcases h.2 with ⟨e, h0⟩ | ⟨g, cap, cur, e, rest⟩
  · refine ⟨none, 0, by rw [e, h0], fun i p hp => ?_⟩
    have := (List.getElem?_eq_some_iff.1 hp).1
    omega
  · refine ⟨some ⟨g, 0, none⟩, cap, e, fun i x hx => ⟨g, rfl, ?_⟩⟩
    exact row_cell h e (by unfold u64s; rw [List.getElem?_map, hx]; rfl)
theorem pair_slice {w : World} {base : Nat} {v : Value} {T : Prs} (h : w.ownsRow base 133 2 v T.length (pairsV T)) : ∃ ao c, v = .slice ao T.length c ∧ (∀ i p, T[i]? = some p → ∃ g, ao = some ⟨g, 0, none⟩ ∧ w.cell? ⟨g, i * 2, none⟩ = some (.string p.1) ∧ w.cell? ⟨g, i * 2 + 1, none⟩ = some (.string p.2)) := by
  rcases h.2 with ⟨e, h0⟩ | ⟨g, cap, cur, e, rest⟩
  · refine ⟨none, 0, by rw [e, h0], fun i p hp => ?_⟩
    have := (List.getElem?_eq_some_iff.1 hp).1
    omega
  · refine ⟨some ⟨g, 0, none⟩, cap, e, fun i p hp => ⟨g, rfl, ?_⟩⟩
    have key := fun j hj => flat_at (f := pairC) (k := 2) (fun _ => rfl) T i p hp j hj
    exact ⟨row_cell h e (key 0 (by decide)), row_cell h e (key 1 (by decide))⟩
set_option maxHeartbeats 1000000 in
theorem sameIds_same (b1 b2 : Nat) (v1 v2 : Value) (xs : List Nat) (w : World) (h1 : w.ownsRow b1 34 1 v1 xs.length (u64s xs)) (h2 : w.ownsRow b2 34 1 v2 xs.length (u64s xs)) (hn : xs.length ≤ 1099511627776) :
    Calls Tryz.prog 75 #[v1, v2] w fun e w' => e = .returned (.bool true) ∧ ∃ q, w' = w.drewN q := by
  obtain ⟨a1, c1, rfl, H1⟩ := u64_slice h1
  obtain ⟨a2, c2, rfl, H2⟩ := u64_slice h2
  have G1 := toHid H1
  have G2 := toHid H2
  clear H1 H2 h1 h2
  obtain ⟨n, hnn⟩ : ∃ n, n = xs.length := ⟨_, rfl⟩
  rw [← hnn] at hn ⊢
  have HN : Hid (xs.length = n) := hnn.symm
  clear hnn
  go_enter Tryz.func75, Tryz.ntmps75
  go_wp2
  go_loopw [5] (fun i wr => ∃ k : Nat, k ≤ n ∧ i = .int .i64 k ∧ ∃ q, wr = w.drewN q) (fun i _ => n - (intOf i).toNat)
  case atStart => exact ⟨0, Nat.zero_le _, rfl, 0, rfl⟩
  case round =>
    obtain ⟨k, hk, rfl, q, rfl⟩ := hrel
    by_cases hlt : k < n
    · obtain ⟨x, hx⟩ : ∃ x, xs[k]? = some x := ⟨_, List.getElem?_eq_getElem (by rw [HN.out]; exact hlt)⟩
      obtain ⟨g1, rfl, x0⟩ := G1.out k x hx
      obtain ⟨g2, rfl, y0⟩ := G2.out k x hx
      have i0 : (0 : Int) ≤ (k : Int) := by omega
      have i1 : (k : Int) < (n : Int) := by omega
      clear hx
      go_wp2
      go_quiet (fail)
      go_wp2
      go_roundw
      case rel => exact ⟨k + 1, by omega, by go_num, _, rfl⟩
      case measure => simp [intOf]; omega
    · go_wp2
      go_ret
      exact ⟨rfl, q, rfl⟩
set_option maxHeartbeats 1000000 in
theorem samePairs_same (b1 b2 : Nat) (v1 v2 : Value) (T : Prs) (w : World) (h1 : w.ownsRow b1 133 2 v1 T.length (pairsV T)) (h2 : w.ownsRow b2 133 2 v2 T.length (pairsV T)) (hn : T.length ≤ 1099511627776) :
    Calls Tryz.prog 74 #[v1, v2] w fun e w' => e = .returned (.bool true) ∧ ∃ q, w' = w.drewN q := by
  obtain ⟨a1, c1, rfl, H1⟩ := pair_slice h1
  obtain ⟨a2, c2, rfl, H2⟩ := pair_slice h2
  have G1 := toHid H1
  have G2 := toHid H2
  clear H1 H2 h1 h2
  obtain ⟨n, hnn⟩ : ∃ n, n = T.length := ⟨_, rfl⟩
  rw [← hnn] at hn ⊢
  have HN : Hid (T.length = n) := hnn.symm
  clear hnn
  go_enter Tryz.func74, Tryz.ntmps74
  go_wp2
  go_loopw [5] (fun i wr => ∃ k : Nat, k ≤ n ∧ i = .int .i64 k ∧ ∃ q, wr = w.drewN q) (fun i _ => n - (intOf i).toNat)
  case atStart => exact ⟨0, Nat.zero_le _, rfl, 0, rfl⟩
  case round =>
    obtain ⟨k, hk, rfl, q, rfl⟩ := hrel
    by_cases hlt : k < n
    · obtain ⟨x, hx⟩ : ∃ x, T[k]? = some x := ⟨_, List.getElem?_eq_getElem (by rw [HN.out]; exact hlt)⟩
      obtain ⟨g1, rfl, x0, x1⟩ := G1.out k x hx
      obtain ⟨g2, rfl, y0, y1⟩ := G2.out k x hx
      have i0 : (0 : Int) ≤ (k : Int) := by omega
      have i1 : (k : Int) < (n : Int) := by omega
      obtain ⟨s1, s2⟩ := x
      simp only [] at x0 x1 y0 y1
      clear hx
      go_wp2
      go_quiet (fail)
      go_wp2
      go_roundw
      case rel => exact ⟨k + 1, by omega, by go_num, _, rfl⟩
      case measure => simp [intOf]; omega
    · go_wp2
      go_ret
      exact ⟨rfl, q, rfl⟩
set_option maxHeartbeats 400000 in
theorem pickL_fn (c : Int) (n : Nat) (w : World) (hc1 : -9223372036854775808 ≤ c) (hc2 : c ≤ 9223372036854775807) (hn : 0 < n) (hn2 : n ≤ 1099511627776) :
    Calls Tryz.prog 80 #[.int .i64 c, .int .i64 (n : Int)] w fun e w' => e = .returned (.int .i64 (pk c n : Int)) ∧ w' = w := by
  have hn0 : ¬ (n : Int) = 0 := by omega
  by_cases h : c < 0
  · go_enter Tryz.func80, Tryz.ntmps80
    go_wp2
    go_ret
    have e : -(c + 1).tmod (n : Int) = (-(c + 1)) % (n : Int) := by
      rw [← Int.neg_tmod, Int.tmod_eq_emod_of_nonneg (by omega)]
    have h1 := Int.emod_nonneg (-(c + 1)) hn0
    refine ⟨ret_int' ?_, rfl⟩
    unfold pk
    rw [e, if_pos h]; omega
  · go_enter Tryz.func80, Tryz.ntmps80
    go_wp2
    go_ret
    have h1 := Int.emod_nonneg c hn0
    refine ⟨ret_int' ?_, rfl⟩
    unfold pk
    rw [if_neg (by omega)]; omega
end Go.Proofs.YtejiankgafjppaaGreatDoor
