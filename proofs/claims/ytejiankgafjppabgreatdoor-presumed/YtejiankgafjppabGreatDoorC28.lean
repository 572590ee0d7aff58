import Derived.Test.YtejiankgafjppabGreatDoorC22
import Derived.Test.YtejiankgafjppabGreatDoorC10
import Derived.Test.YtejiankgafjppabGreatDoorC24
/- THE COORDINATOR: how a transaction is written. -/
namespace Go.Proofs.YtejiankgafjppabGreatDoor
open Go.RowKit Go.Maps
open Sc

/-- a transaction at the coordinator, of which there is no doubt -/
structure ATx where
  state : Nat
  parts : List Nat
  since : Nat
def ATx.Ok (t : ATx) : Prop := t.parts.length = 9 ∧ ∀ p ∈ t.parts, p < 256
def psV (ps : List Nat) : Value := .agg (ps.map fun p : Nat => Value.int .u8 (p : Int)).toArray
def txC (t : ATx) : List Value := .int .i64 (t.state : Int) :: ((t.parts.map fun p : Nat => Value.int .u8 (p : Int)) ++ [.int .u64 (t.since : Int), .nilIface])
def txV (t : ATx) : Value := .agg (txC t).toArray
theorem nine {l : List Nat} (h : l.length = 9) : ∃ a b c d e f g i j, l = [a, b, c, d, e, f, g, i, j] := by
  match l, h with
  | [a, b, c, d, e, f, g, i, j], _ => exact ⟨a, b, c, d, e, f, g, i, j, rfl⟩
abbrev tx0 : ATx := ⟨0, [0, 0, 0, 0, 0, 0, 0, 0, 0], 0⟩
theorem tx0_ok : tx0.Ok := ⟨rfl, by decide⟩
def txR : Value → Option (DataW Unit × List MemPlace)
  | .agg cs => match cs.toList with
    | [.int .i64 s, .int .u8 a, .int .u8 b, .int .u8 c, .int .u8 d, .int .u8 e, .int .u8 f, .int .u8 g, .int .u8 i, .int .u8 j, .int .u64 z, .nilIface] => some (.agg [.lit (.int .i64 s), .lit (.int .u8 a), .lit (.int .u8 b), .lit (.int .u8 c), .lit (.int .u8 d), .lit (.int .u8 e), .lit (.int .u8 f), .lit (.int .u8 g), .lit (.int .u8 i), .lit (.int .u8 j), .lit (.int .u64 z)], [])
    | _ => none
  | _ => none
noncomputable def EX : ElRep ATx where
  R := txR
  ev := txV
  el := fun t => .agg (.lit (.int .i64 (t.state : Int)) :: ((t.parts.map fun p : Nat => .lit (.int .u8 (p : Int))) ++ [.lit (.int .u64 (t.since : Int))]))
  ok := ATx.Ok
  made := fun t h => by
    obtain ⟨a, b, c, d, e, f, g, i, j, hl⟩ := nine h.1
    obtain ⟨s, ps, z⟩ := t
    simp at hl
    subst hl
    rfl
  inv := fun x t ps ht h => by
    obtain ⟨a', b', c', d', e', f', g', i', j', hl⟩ := nine ht.1
    obtain ⟨s', ps', z'⟩ := t
    simp at hl
    subst hl
    unfold txR at h
    split at h
    · rename_i cs
      split at h
      · rename_i hc
        simp at h
        obtain ⟨⟨rfl, rfl, rfl, rfl, rfl, rfl, rfl, rfl, rfl, rfl, rfl⟩, _⟩ := h
        show Value.agg cs = Value.agg _
        congr 1
        exact Array.toList_inj.1 (by rw [hc]; rfl)
      · cases h
    · cases h
theorem zeroTx (w : World) : (zeroValue 162).run Tryz.prog w = .ok (EX.ev tx0) w := by kernel_rfl
theorem fieldX0 (t : ATx) (h : t.Ok) (w : World) : (Instr.field 162 (txV t) 0).run Tryz.prog w = .ok (.int .i64 (t.state : Int)) w := by
  obtain ⟨s, ps, z⟩ := t
  obtain ⟨a, b, c, d, e, f, g, i, j, rfl⟩ := nine h.1
  kernel_rfl
theorem below9 {k : Nat} (h : k < 9) : k = 0 ∨ k = 1 ∨ k = 2 ∨ k = 3 ∨ k = 4 ∨ k = 5 ∨ k = 6 ∨ k = 7 ∨ k = 8 := by omega
theorem indexP {ps : List Nat} (h : ps.length = 9) {k : Nat} (hk : k < 9) (w : World) : (Instr.index 160 (psV ps) (.int .i64 (k : Int))).run Tryz.prog w = .ok (.int .u8 ((ps.getD k 0 : Nat) : Int)) w := by
  obtain ⟨a, b, c, d, e, f, g, i, j, rfl⟩ := nine h
  rcases below9 hk with rfl | rfl | rfl | rfl | rfl | rfl | rfl | rfl | rfl <;> kernel_rfl
end Go.Proofs.YtejiankgafjppabGreatDoor
/- THE COORDINATOR: how it lies in memory; Status, Answer. -/
namespace Go.Proofs.YtejiankgafjppabGreatDoor
open Go.RowKit Go.Maps
open Sc

/-- blocks of results, and of what is to be sent -/
def isRD : Option Obj → Bool
  | some (.cells _ t _) => t == 178 || t == 249
  | _ => false
def rd (B : Nat) (w : World) : List Nat := (List.range w.heap.size).filter fun k => decide (B ≤ k) && isRD w.heap[k]?
theorem mem_rd {B : Nat} {w : World} {k : Nat} : k ∈ rd B w ↔ B ≤ k ∧ isRD w.heap[k]? = true := by
  unfold rd
  rw [List.mem_filter, List.mem_range, Bool.and_eq_true, decide_eq_true_eq]
  refine ⟨fun h => h.2, fun h => ⟨?_, h⟩⟩
  by_cases hl : k < w.heap.size
  · exact hl
  · have h2 := h.2; rw [Array.getElem?_eq_none (by omega)] at h2; cases h2
theorem isRD_not {c : Array Value} {t : TypeId} {fr : Nat × Nat} (h1 : t ≠ 178) (h2 : t ≠ 249) : isRD (some (.cells c t fr)) = false := by
  unfold isRD
  simp [h1, h2]
section
variable {B : Nat}
theorem rd_not {w : World} {k : Nat} {c : Array Value} {t : TypeId} {fr : Nat × Nat} (hk : w.heap[k]? = some (.cells c t fr)) (h1 : t ≠ 178) (h2 : t ≠ 249) : k ∉ rd B w := by
  rw [mem_rd, hk, isRD_not h1 h2]; simp
theorem rd_low {w : World} {k : Nat} (h : k < B) : k ∉ rd B w := by
  rw [mem_rd]; omega
theorem rd_type {w : World} {k : Nat} (h : k ∈ rd B w) : ∃ c t fr, w.heap[k]? = some (.cells c t fr) ∧ (t = 178 ∨ t = 249) := by
  have h := (mem_rd.1 h).2
  unfold isRD at h
  split at h
  · rename_i c t fr e
    refine ⟨c, t, fr, e, ?_⟩
    simpa using h
  · cases h
/-- these alone were turned, and results and what is to be sent -/
abbrev RFr (B : Nat) (S : List Nat) (w w' : World) : Prop := Fr (S ++ rd B w) w w'
theorem Fr.r {S : List Nat} {w w' : World} (h : Fr S w w') : RFr B S w w' := h.mono (fun _ _ hk => List.mem_append_left _ hk)
theorem RFr.trans {S : List Nat} {a b c : World} (h : RFr B S a b) (k : RFr B S b c) : RFr B S a c :=
  h.andThen k (fun j hj hl => by
    by_cases hm : j ∈ S ++ rd B a
    · exact hm
    · rcases List.mem_append.1 hj with h1 | h1
      · exact List.mem_append_left _ h1
      · rw [mem_rd, h.block j hl hm, ← mem_rd] at h1
        exact List.mem_append_right _ h1)
theorem RFr.mono {S T : List Nat} {a b : World} (h : RFr B S a b) (hs : ∀ k ∈ S, k ∈ T) : RFr B T a b := Fr.mono h (fun k _ hk => by
  rcases List.mem_append.1 hk with h1 | h1
  · exact List.mem_append_left _ (hs k h1)
  · exact List.mem_append_right _ h1)
theorem RFr.cells {S : List Nat} {w w' : World} (h : RFr B S w w') {k : Nat} {c : Array Value} {t : TypeId} {fr : Nat × Nat} (hk : w.heap[k]? = some (.cells c t fr)) (hS : k ∉ S) (h1 : t ≠ 178) (h2 : t ≠ 249) : w'.heap[k]? = some (.cells c t fr) :=
  (h.block k (Array.getElem?_eq_some_iff.1 hk).1 (by rw [List.mem_append]; exact fun e => e.elim hS (rd_not hk h1 h2))).trans hk
end

structure ACo where
  txns : List (Nat × ATx)
  next : Nat
  limit : Nat
  ticks : Nat
/-- what is known of a transaction -/
def ACo.tx (c : ACo) (t : Nat) : ATx := (alLook c.txns t).getD tx0
abbrev coO (lg bT : Nat) (c : ACo) (rv ov : Value) : Obj := .cells #[.pointer (lgP lg), .map (some bT), .int .u64 (c.next : Int), .int .u64 (c.limit : Int), .int .u64 (c.ticks : Int), rv, ov] 147
structure CoIn (w : World) (B cp lg bT n : Nat) (c : ACo) : Prop where
  ex : ∃ rv ov kr ko xr xo, w.heap[cp]? = some (coO lg bT c rv ov) ∧ w.ownsRow B 178 2 rv kr xr ∧ w.ownsRow B 249 3 ov ko xo ∧ kr ≤ n ∧ ko ≤ n
  txns : MapAs KU EX w bT n c.txns
  low : B ≤ cp ∧ B ≤ bT ∧ B ≤ w.heap.size
  nums : c.next < 18446744073709551616 ∧ c.limit < 18446744073709551616 ∧ c.ticks < 18446744073709551616
section
variable {w w' : World} {B cp lg bT n : Nat} {c : ACo}
theorem CoIn.isCo (h : CoIn w B cp lg bT n c) : ∃ cs, w.heap[cp]? = some (.cells cs 147 (0, 0)) := by obtain ⟨rv, ov, kr, ko, xr, xo, h1, _⟩ := h.ex; exact ⟨_, h1⟩
theorem CoIn.lts (h : CoIn w B cp lg bT n c) : cp < w.heap.size ∧ bT < w.heap.size ∧ cp ≠ bT := by
  obtain ⟨cs, h1⟩ := h.isCo
  refine ⟨(Array.getElem?_eq_some_iff.1 h1).1, h.txns.lt, fun e => ?_⟩
  obtain ⟨es, c2, e2⟩ := h.txns.isMap
  rw [e, e2] at h1; cases h1
theorem CoIn.mono (h : CoIn w B cp lg bT n c) {m : Nat} (hm : n ≤ m) : CoIn w B cp lg bT m c := by
  obtain ⟨rv, ov, kr, ko, xr, xo, h1, h2, h3, h4, h5⟩ := h.ex
  exact ⟨⟨rv, ov, kr, ko, xr, xo, h1, h2, h3, by omega, by omega⟩, h.txns.mono hm, h.low, h.nums⟩
/-- behind a frame that leaves its blocks alone -/
theorem CoIn.fr {S : List Nat} (h : CoIn w B cp lg bT n c) (hf : Fr S w w') (hS : ∀ k ∈ S, k ≠ cp ∧ k ≠ bT ∧ k ∉ rd B w) : CoIn w' B cp lg bT n c := by
  obtain ⟨rv, ov, kr, ko, xr, xo, h1, h2, h3, h4, h5⟩ := h.ex
  refine ⟨⟨rv, ov, kr, ko, xr, xo, (hf.block cp h.lts.1 (fun e => (hS _ e).1 rfl)).trans h1, ownsRow_fr h2 hf ?_, ownsRow_fr h3 hf ?_, h4, h5⟩, h.txns.fr hf (fun e => (hS _ e).2.1 rfl), ⟨h.low.1, h.low.2.1, Nat.le_trans h.low.2.2 hf.size⟩, h.nums⟩
  · intro g hg e
    obtain ⟨cc, hc⟩ := own_cells h2 hg
    exact (hS g e).2.2 (mem_rd.2 ⟨(h2.lt g hg).1, by rw [hc]; simp [isRD]⟩)
  · intro g hg e
    obtain ⟨cc, hc⟩ := own_cells h3 hg
    exact (hS g e).2.2 (mem_rd.2 ⟨(h3.lt g hg).1, by rw [hc]; simp [isRD]⟩)
theorem CoIn.new (h : CoIn w B cp lg bT n c) (hf : Fr [] w w') : CoIn w' B cp lg bT n c := h.fr hf (by simp)
theorem CoIn.lookT (h : CoIn w B cp lg bT n c) {t : Nat} (ht : t < 18446744073709551616) :
    (Instr.lookup 143 (.map (some bT)) (.int .u64 (t : Int)) false).run Tryz.prog w = .ok (txV (c.tx t)) w :=
  h.txns.look Tryz.underlying143 (zeroTx w) tx0_ok (k := t) ht
theorem CoIn.okT (h : CoIn w B cp lg bT n c) (t : Nat) : (c.tx t).Ok := by
  unfold ACo.tx
  cases hl : alLook c.txns t with
  | none => exact tx0_ok
  | some u => obtain ⟨_, _, _, _, hk⟩ := h.txns; exact (hk _ (alLook_mem hl)).2
/-- the map of the transactions was turned -/
theorem CoIn.setTxns {ts : List (Nat × ATx)} {m : Nat} (h : CoIn w B cp lg bT n c) (hf : Fr [bT] w w') (hm : MapAs KU EX w' bT m ts) (hn : n ≤ m) : CoIn w' B cp lg bT m { c with txns := ts } := by
  obtain ⟨rv, ov, kr, ko, xr, xo, h1, h2, h3, h4, h5⟩ := h.ex
  obtain ⟨es, c2, e2⟩ := h.txns.isMap
  have no : ∀ {g : Nat} {e : TypeId} {k m : Nat} {v : Value} {xs : List Value}, w.ownsRow B e k v m xs → v.ownBlock = some g → g ∉ [bT] := fun hr hg hm => by
    simp at hm; subst hm
    obtain ⟨cc, hc⟩ := own_cells hr hg
    rw [hc] at e2; cases e2
  exact ⟨⟨rv, ov, kr, ko, xr, xo, (hf.block cp h.lts.1 (by simpa using h.lts.2.2)).trans h1, ownsRow_fr h2 hf (fun g hg => no h2 hg), ownsRow_fr h3 hf (fun g hg => no h3 hg), by omega, by omega⟩, hm, ⟨h.low.1, h.low.2.1, Nat.le_trans h.low.2.2 hf.size⟩, h.nums⟩
end
set_option maxRecDepth 100000 in
set_option maxHeartbeats 2000000 in
theorem status_any (B cp lg bT n t : Nat) (c : ACo) (w : World) (h : CoIn w B cp lg bT n c) (ht : t < 18446744073709551616) :
    Calls Tryz.prog 90 #[.pointer (some ⟨cp, 0, none⟩), .int .u64 (t : Int)] w fun e w' => e = .returned (.int .i64 ((c.tx t).state : Int)) ∧ w' = w := by
  obtain ⟨rv, ov, kr, ko, xr, xo, h1, _⟩ := h.ex
  have c1 := blk_cell h1 1
  simp at c1
  have hl := h.lookT ht
  have hf0 := fieldX0 (c.tx t) (h.okT t)
  obtain ⟨T, hT⟩ : ∃ T, T = c.tx t := ⟨_, rfl⟩
  rw [← hT] at hl hf0 ⊢
  clear h hT h1
  go_enter Tryz.func90, Tryz.ntmps90
  go_wp2
  go_ret
  exact ⟨rfl, rfl⟩
/-- what a shard is told that asks -/
def answerOf (state : Nat) : Nat := if state = 0 then 6 else if state = 6 then 5 else 0
set_option maxRecDepth 100000 in
set_option maxHeartbeats 2000000 in
theorem answer_any (B cp lg bT n t : Nat) (c : ACo) (w : World) (h : CoIn w B cp lg bT n c) (ht : t < 18446744073709551616) :
    Calls Tryz.prog 53 #[.pointer (some ⟨cp, 0, none⟩), .int .u64 (t : Int)] w fun e w' => e = .returned (.int .i64 (answerOf (c.tx t).state : Int)) ∧ w' = w := by
  have hs := status_any B cp lg bT n t c w h ht
  obtain ⟨s, hS⟩ : ∃ s, s = (c.tx t).state := ⟨_, rfl⟩
  rw [← hS] at hs ⊢
  clear h hS
  go_enter Tryz.func53, Tryz.ntmps53
  go_wp2_with fail
  refine hs.mono ?_
  rintro e w1 ⟨rfl, rfl⟩
  by_cases h0 : s = 0
  · subst h0
    go_wp2
    go_ret
    exact ⟨rfl, rfl⟩
  · by_cases h6 : s = 6
    · subst h6
      go_wp2
      go_ret
      exact ⟨rfl, rfl⟩
    · have i0 : ¬ (s : Int) = 0 := by omega
      have i6 : ¬ (s : Int) = 6 := by omega
      have b0 : ((s : Int) == 0) = false := beq_eq_false_iff_ne.2 i0
      have b6 : ((s : Int) == 6) = false := beq_eq_false_iff_ne.2 i6
      go_wp2
      go_ret
      exact ⟨by unfold answerOf; rw [if_neg h0, if_neg h6]; rfl, rfl⟩
end Go.Proofs.YtejiankgafjppabGreatDoor
