import Derived.Test.YtkhjhojmhllkaaaGreatDoorC01
import Derived.Maps.OwnSet
import Derived.Maps.Ext
import Derived.Maps.RangeWalk
import Derived.Sort.KeysCollected
import Derived.RegionTactic
import Derived.ChangeAlike
import Derived.Deep.RegionHeld3
import Derived.Lib.BufferMore
import Derived.Maps.AppendAt
import Derived.Deep.RegionLaw
/- DISKS, plainly: what files hold; what is told; what becomes of it. And how a map of files lies in memory. -/
namespace Go.Proofs.YtkhjhojmhllkaaaGreatDoor
open Go.RowKit
open Go.Maps (Keyed)

/-- files by their names -/
abbrev Files := ByteArray → Option ByteArray
def Files.set (m : Files) (k : ByteArray) (v : Option ByteArray) : Files := fun x => if x = k then v else m x
theorem Files.set_same (m : Files) (k : ByteArray) (v : Option ByteArray) : m.set k v k = v := by simp [Files.set]
theorem Files.set_other (m : Files) {k x : ByteArray} (v : Option ByteArray) (h : x ≠ k) : m.set k v x = m x := by simp [Files.set, h]
/-- something that a disk was told -/
structure AOp where
  kind : Nat
  name : ByteArray
  to : ByteArray
  data : ByteArray
def doOp (m : Files) (o : AOp) : Files :=
  if o.kind = 1 then m.set o.name (some o.data)
  else if o.kind = 2 then m.set o.name (some ((m o.name).getD ByteArray.empty ++ o.data))
  else if o.kind = 3 then m.set o.name none
  else if o.kind = 4 then (match m o.name with | none => m | some s => (m.set o.to (some s)).set o.name none)
  else m
structure ADisk where
  durable : Files
  now : Files
  pending : List AOp
  left : Int
  full : Int
  down : Bool
/-- writes: the error's number -/
def ADisk.writes (d : ADisk) : ADisk × Nat :=
  if d.down = true ∨ d.left = 0 then ({ d with down := true }, 10)
  else if d.full = 0 then ({ d with left := wrap64 (d.left - 1), full := -1 }, 9)
  else ({ d with left := wrap64 (d.left - 1), full := wrap64 (d.full - 1) }, 0)
def ADisk.tell (d : ADisk) (o : AOp) : ADisk × Nat :=
  let r := d.writes
  if r.2 = 10 then ({ r.1 with pending := r.1.pending ++ [o] }, 10)
  else if r.2 = 9 then (r.1, 9)
  else if r.1.now o.name = none ∧ 2 < o.kind then (r.1, 8)
  else if o.kind = 4 ∧ o.name = o.to then (r.1, 0)
  else ({ r.1 with now := doOp r.1.now o, pending := r.1.pending ++ [o] }, 0)
def ADisk.sync (d : ADisk) : ADisk × Nat :=
  let r := d.writes
  if r.2 = 0 then ({ r.1 with durable := r.1.pending.foldl doOp r.1.durable, pending := [] }, 0) else r

/-! ### blocks that may be written -/
/-- nothing has turned but the blocks of S, and new ones -/
structure Fr (S : List Nat) (w w' : World) : Prop where
  os : w'.os = w.os
  tape : w'.tape = w.tape
  output : w'.output = w.output
  size : w.heap.size ≤ w'.heap.size
  block : ∀ k, k < w.heap.size → k ∉ S → w'.heap[k]? = w.heap[k]?
theorem Fr.refl (S : List Nat) (w : World) : Fr S w w := ⟨rfl, rfl, rfl, Nat.le_refl _, fun _ _ _ => rfl⟩
theorem Fr.trans {S : List Nat} {a b c : World} (h : Fr S a b) (k : Fr S b c) : Fr S a c :=
  ⟨k.os.trans h.os, k.tape.trans h.tape, k.output.trans h.output, Nat.le_trans h.size k.size, fun i hi hn => (k.block i (Nat.lt_of_lt_of_le hi h.size) hn).trans (h.block i hi hn)⟩
theorem Fr.mono {S T : List Nat} {a b : World} (h : Fr S a b) (hs : ∀ k, k < a.heap.size → k ∈ S → k ∈ T) : Fr T a b :=
  ⟨h.os, h.tape, h.output, h.size, fun k hk hn => h.block k hk (fun hm => hn (hs k hk hm))⟩
/-- .. and a block that is new to the first may be written by the second -/
theorem Fr.andThen {S T : List Nat} {a b c : World} (h : Fr S a b) (k : Fr T b c) (ht : ∀ j, j ∈ T → j < a.heap.size → j ∈ S) : Fr S a c :=
  ⟨k.os.trans h.os, k.tape.trans h.tape, k.output.trans h.output, Nat.le_trans h.size k.size, fun i hi hn => (k.block i (Nat.lt_of_lt_of_le hi h.size) (fun hm => hn (ht i hm hi))).trans (h.block i hi hn)⟩
theorem Fr.of_grown {w w' : World} {r : Option Nat} (h : w.grownBy w' r) : Fr r.toList w w' :=
  ⟨h.os, h.tape, h.output, h.size, fun k hk hn => h.block k hk (fun e => hn (by rw [← e]; simp))⟩
theorem Fr.of_grown1 {w w' : World} {b : Nat} (h : w.grownBy w' (some b)) : Fr [b] w w' := Fr.of_grown h
theorem Fr.of_below {w w' : World} (h : Below w.heap.size w w') (S : List Nat) : Fr S w w' :=
  ⟨h.os, h.tape, h.output, h.size, fun k hk _ => h.block k hk⟩
theorem Fr.below {w w' : World} {S : List Nat} {B : Nat} (h : Fr S w w') (hB : B ≤ w.heap.size) (hs : ∀ k, k ∈ S → B ≤ k) : Below B w w' :=
  ⟨h.os, h.tape, h.output, h.size, fun k hk => h.block k (Nat.lt_of_lt_of_le hk hB) (fun hm => by have := hs k hm; omega)⟩
theorem Fr.grown1 {w w' : World} {b : Nat} (h : Fr [b] w w') : w.grownBy w' (some b) :=
  ⟨h.os, h.tape, h.output, h.size, fun k hk hn => h.block k hk (fun hm => hn (by simp at hm; rw [hm]))⟩
theorem Fr.alloc {S : List Nat} {a w : World} (h : Fr S a w) (o : Obj) : Fr S a (w.alloc o) :=
  h.trans ⟨rfl, rfl, rfl, by simp, fun k hk _ => Below.heap_alloc _ _ _ hk⟩
theorem Fr.drew {S : List Nat} {a w : World} (h : Fr S a w) : Fr S a w.drew := ⟨h.os, h.tape, h.output, h.size, h.block⟩
theorem Fr.setCell {S : List Nat} {a w : World} (h : Fr S a w) {p : Addr} (hp : p.block ∈ S ∨ a.heap.size ≤ p.block) (u : Value) : Fr S a (w.setCell p u) :=
  ⟨h.os, h.tape, h.output, Nat.le_trans h.size (by simp [World.setCell]), fun k hk hn => (Below.heap_setCell _ _ _ _ (fun e => by rcases hp with hp | hp; exact hn (e ▸ hp); omega)).trans (h.block k hk hn)⟩

theorem frDrewN {S : List Nat} {a w : World} (h : Fr S a w) : ∀ k, Fr S a (w.drewN k)
  | 0 => h
  | k + 1 => (frDrewN h k).drew

/-! ### a map of files -/
/-- a pointer to a block reads as the block's number -/
def ptrElem (v : Value) : Option (DataW Unit × List MemPlace) :=
  match v with
  | .pointer (some a) => if a.off = 0 ∧ a.spot = none then some (.lit (.int .i64 (a.block : Int)), []) else none
  | .pointer none => some (.lit (.int .i64 (-1)), [])
  | _ => none
theorem ptrElem_mk (q : Nat) : ptrElem (.pointer (some ⟨q, 0, none⟩)) = some (.lit (.int .i64 (q : Int)), []) := by simp [ptrElem]
theorem ptrElem_nil : ptrElem (.pointer none) = some (.lit (.int .i64 (-1)), []) := rfl
theorem ptrElem_inv {v : Value} {q : Nat} {ps : List MemPlace} (h : ptrElem v = some (.lit (.int .i64 (q : Int)), ps)) : v = .pointer (some ⟨q, 0, none⟩) := by
  unfold ptrElem at h
  split at h
  · rename_i a
    split at h
    · rename_i hc
      obtain ⟨b, o, s⟩ := a
      simp at h hc
      obtain ⟨rfl, rfl⟩ := hc
      simp
    · cases h
  · simp at h
  · cases h
theorem ptrElem_inv_nil {v : Value} {ps : List MemPlace} (h : ptrElem v = some (.lit (.int .i64 (-1)), ps)) : v = .pointer none := by
  unfold ptrElem at h
  split at h
  · rename_i a
    split at h
    · simp at h
    · cases h
  · rfl
  · cases h
theorem ptrElem_shape {v : Value} {y : DataW Unit × List MemPlace} (h : ptrElem v = some y) : ∃ c, v = Value.pointer c := by
  unfold ptrElem at h
  split at h
  · exact ⟨_, rfl⟩
  · exact ⟨_, rfl⟩
  · cases h
abbrev keyL (k : ByteArray) : Lit := .string k.data.toList
theorem keyL_inj {a b : ByteArray} (h : keyL a = keyL b) : a = b := by
  simp only [keyL, Lit.string.injEq] at h
  obtain ⟨a⟩ := a
  obtain ⟨b⟩ := b
  simp at h
  rw [h]
theorem Tryz.lawS : Keyed Tryz.prog 9 := Go.Maps.string_keyed Tryz.underlying9
theorem Tryz.zeroPtr (w : World) : (zeroValue 154).run Tryz.prog w = .ok (.pointer none) w := by kernel_rfl
/-- the cell of a file's text -/
abbrev textO (t : ByteArray) : Obj := .cells #[.string t] 9
/-- block b holds the files m, in at most n entries -/
def FileMap (w : World) (b n : Nat) (m : Files) : Prop :=
  ∃ D : DataW Unit, w.ownsMap Tryz.prog 9 ptrElem b n D ∧ ∀ k : ByteArray,
    (m k = none → Maps.has D (keyL k) = false) ∧
    (∀ t, m k = some t → Maps.has D (keyL k) = true ∧ k.size ≤ maxLen ∧ ∃ q : Nat, (∀ z, D.atKey (keyL k) z = .lit (.int .i64 (q : Int))) ∧ w.heap[q]? = some (textO t))
theorem FileMap.lt {w : World} {b n : Nat} {m : Files} (h : FileMap w b n m) : b < w.heap.size := by
  obtain ⟨D, h, _⟩ := h; exact h.lt
theorem FileMap.mono {w : World} {b n n' : Nat} {m : Files} (h : FileMap w b n m) (hn : n ≤ n') : FileMap w b n' m := by
  obtain ⟨D, h, h2⟩ := h; exact ⟨D, h.mono hn, h2⟩
theorem FileMap.isMap {w : World} {b n : Nat} {m : Files} (h : FileMap w b n m) : ∃ es c, w.heap[b]? = some (.map es c) := by
  obtain ⟨D, ⟨es, c, h, _⟩, _⟩ := h; exact ⟨es, c, h⟩
/-- blocks that are rows of cells may be written, but those of texts -/
theorem FileMap.fr {w w' : World} {b n : Nat} {m : Files} {S : List Nat} (h : FileMap w b n m) (hf : Fr S w w') (hb : b ∉ S) (hs : ∀ q ∈ S, ∀ t, w.heap[q]? ≠ some (textO t)) : FileMap w' b n m := by
  have hlt := h.lt
  obtain ⟨D, ⟨es, c, h1, h2, h3, h4⟩, h5⟩ := h
  refine ⟨D, ⟨es, c, (hf.block b hlt hb).trans h1, h2, h3, h4⟩, fun k => ⟨(h5 k).1, fun t ht => ?_⟩⟩
  obtain ⟨a1, a2, q, a3, a4⟩ := (h5 k).2 t ht
  refine ⟨a1, a2, q, a3, ?_⟩
  rw [hf.block q (Array.getElem?_eq_some_iff.1 a4).1 (fun hm => hs q hm t a4)]; exact a4
theorem FileMap.alloc {w : World} {b n : Nat} {m : Files} (h : FileMap w b n m) (o : Obj) : FileMap (w.alloc o) b n m :=
  h.fr ((Fr.refl [] w).alloc o) (by simp) (by simp)
theorem FileMap.drew {w : World} {b n : Nat} {m : Files} (h : FileMap w b n m) : FileMap w.drew b n m := h
theorem FileMap.made (w : World) : FileMap (w.alloc (.map #[] 0)) w.heap.size 0 (fun _ => none) :=
  ⟨.map [], World.ownsMap_made _ _ _ _, fun k => ⟨fun _ => rfl, fun t ht => by cases ht⟩⟩
/-- v, ok := m[k] -/
theorem FileMap.look {w : World} {b n : Nat} {m : Files} (h : FileMap w b n m) (k : ByteArray) (hk : k.size ≤ maxLen) :
    (m k = none ∧ (Instr.lookup 94 (.map (some b)) (.string k) true).run Tryz.prog w = .ok (.tuple #[.pointer none, .bool false]) w) ∨
    (∃ t q, m k = some t ∧ w.heap[q]? = some (textO t) ∧ (Instr.lookup 94 (.map (some b)) (.string k) true).run Tryz.prog w = .ok (.tuple #[.pointer (some ⟨q, 0, none⟩), .bool true]) w) := by
  obtain ⟨D, h1, h5⟩ := h
  obtain ⟨v, ps, hr, hv⟩ := h1.look_ok Tryz.lawS Tryz.underlying94 (Tryz.zeroPtr w) ptrElem_nil (Go.WideMaps.keyOf_string_mk Tryz.underlying9 hk)
  cases hm : m k with
  | none =>
    left
    have h0 := (h5 k).1 hm
    have h0' : Maps.has D (.string k.data.toList) = false := h0
    rw [Maps.atKey_of_not_has h0'] at hv
    obtain rfl := ptrElem_inv_nil hv
    rw [h0'] at hr
    exact ⟨rfl, hr⟩
  | some t =>
    right
    obtain ⟨h0, _, q, h3, h4⟩ := (h5 k).2 t hm
    rw [h3] at hv
    obtain rfl := ptrElem_inv hv
    have h0' : Maps.has D (.string k.data.toList) = true := h0
    rw [h0'] at hr
    exact ⟨t, q, rfl, h4, hr⟩
/-- v := m[k] -/
theorem FileMap.look1 {w : World} {b n : Nat} {m : Files} (h : FileMap w b n m) (k t : ByteArray) (hk : m k = some t) :
    ∃ q, w.heap[q]? = some (textO t) ∧ (Instr.lookup 94 (.map (some b)) (.string k) false).run Tryz.prog w = .ok (.pointer (some ⟨q, 0, none⟩)) w := by
  obtain ⟨D, h1, h5⟩ := h
  obtain ⟨h0, hsz, q, h3, h4⟩ := (h5 k).2 t hk
  obtain ⟨v, ps, hr, hv⟩ := h1.lookup Tryz.lawS Tryz.underlying94 (Tryz.zeroPtr w) ptrElem_nil (Go.WideMaps.keyOf_string_mk Tryz.underlying9 hsz)
  rw [h3] at hv
  obtain rfl := ptrElem_inv hv
  exact ⟨q, h4, hr⟩
/-- m[k] = &t -/
theorem FileMap.put {w w' : World} {b n : Nat} {m : Files} {D : DataW Unit} (h5 : ∀ k : ByteArray, (m k = none → Maps.has D (keyL k) = false) ∧ (∀ t, m k = some t → Maps.has D (keyL k) = true ∧ k.size ≤ maxLen ∧ ∃ q : Nat, (∀ z, D.atKey (keyL k) z = .lit (.int .i64 (q : Int))) ∧ w.heap[q]? = some (textO t)))
    (hm : w.ownsMap Tryz.prog 9 ptrElem b n D) (k : ByteArray) (hk : k.size ≤ maxLen) (q : Nat) (t : ByteArray) (hq : w.heap[q]? = some (textO t))
    (ho : w'.ownsMap Tryz.prog 9 ptrElem b (n + 1) (D.put (keyL k) (.lit (.int .i64 (q : Int))))) (hg : w.grownBy w' (some b)) : FileMap w' b (n + 1) (m.set k (some t)) := by
  have hi := hm.isMap
  have hkl : WideAt.IsKeyLit (keyL k) := trivial
  have keep : ∀ (q : Nat) (t : ByteArray), w.heap[q]? = some (textO t) → w'.heap[q]? = some (textO t) := fun q t h => by
    rw [hg.block q (Array.getElem?_eq_some_iff.1 h).1 (fun e => by cases e; obtain ⟨es, c, h1, _⟩ := hm; rw [h1] at h; cases h)]; exact h
  refine ⟨_, ho, fun x => ?_⟩
  by_cases hx : x = k
  · subst hx
    rw [Files.set_same]
    refine ⟨fun h => (by simp at h), fun t' h => ?_⟩
    obtain rfl : t = t' := Option.some.inj h
    exact ⟨Maps.has_put_same hi hkl _, hk, q, fun z => Maps.atKey_put_same hi hkl _ z, keep _ _ hq⟩
  · rw [Files.set_other _ _ hx]
    have hne : keyL x ≠ keyL k := fun e => hx (keyL_inj e)
    refine ⟨fun h => by rw [Maps.has_put_other hne]; exact (h5 x).1 h, fun t' h => ?_⟩
    obtain ⟨a1, a2, q', a3, a4⟩ := (h5 x).2 t' h
    exact ⟨by rw [Maps.has_put_other hne]; exact a1, a2, q', fun z => by rw [Maps.atKey_put_other hne]; exact a3 z, keep _ _ a4⟩
theorem FileMap.del {w w' : World} {b n : Nat} {m : Files} {D : DataW Unit} (h5 : ∀ k : ByteArray, (m k = none → Maps.has D (keyL k) = false) ∧ (∀ t, m k = some t → Maps.has D (keyL k) = true ∧ k.size ≤ maxLen ∧ ∃ q : Nat, (∀ z, D.atKey (keyL k) z = .lit (.int .i64 (q : Int))) ∧ w.heap[q]? = some (textO t)))
    (hm : w.ownsMap Tryz.prog 9 ptrElem b n D) (k : ByteArray)
    (ho : w'.ownsMap Tryz.prog 9 ptrElem b n (D.del (keyL k))) (hg : w.grownBy w' (some b)) : FileMap w' b n (m.set k none) := by
  have keep : ∀ (q : Nat) (t : ByteArray), w.heap[q]? = some (textO t) → w'.heap[q]? = some (textO t) := fun q t h => by
    rw [hg.block q (Array.getElem?_eq_some_iff.1 h).1 (fun e => by cases e; obtain ⟨es, c, h1, _⟩ := hm; rw [h1] at h; cases h)]; exact h
  refine ⟨_, ho, fun x => ?_⟩
  by_cases hx : x = k
  · subst hx
    rw [Files.set_same]
    exact ⟨fun _ => Maps.has_del_same, fun t' h => by cases h⟩
  · rw [Files.set_other _ _ hx]
    have hne : keyL x ≠ keyL k := fun e => hx (keyL_inj e)
    refine ⟨fun h => by rw [Maps.has_del_other hne]; exact (h5 x).1 h, fun t' h => ?_⟩
    obtain ⟨a1, a2, q', a3, a4⟩ := (h5 x).2 t' h
    exact ⟨by rw [Maps.has_del_other hne]; exact a1, a2, q', fun z => by rw [Maps.atKey_del_other hne]; exact a3 z, keep _ _ a4⟩

/-- at the operations -/
theorem wpList_file_put {w : World} {ops : Array Oper} {rest : List Oper} {o : Oper} {a : Act} {Q : Exit → Act → World → Prop} (hg : o.guard = none) (m x v : Operand) (hop : o.op = Op.mapUpdate 94 m x v)
    (b n : Nat) (F : Files) (hm : a.eval m = .map (some b)) (hF : FileMap w b n F) (hn : n < maxLen) (k : ByteArray) (hk : k.size ≤ maxLen) (hx : a.eval x = .string k) (q : Nat) (t : ByteArray) (hv : a.eval v = .pointer (some ⟨q, 0, none⟩)) (hq : w.heap[q]? = some (textO t))
    (hK : ∀ w', FileMap w' b (n + 1) (F.set k (some t)) → w.grownBy w' (some b) → wpList Tryz.prog ops Q rest (a.put o.dst undef) w') : wpList Tryz.prog ops Q (o :: rest) a w := by
  obtain ⟨D, h1, h5⟩ := hF
  refine wpList_mapUpdate_own w hg m x v _ hop 9 154 Tryz.lawS Tryz.underlying94 ptrElem b n D hm h1 hn _ _ (keyL k) hx hv (Go.WideMaps.keyOf_string_mk Tryz.underlying9 hk) _ [] (ptrElem_mk q) ?_
  intro w' ho hgr
  exact hK w' (FileMap.put h5 h1 k hk q t hq ho hgr) hgr
theorem wpList_file_del {w : World} {ops : Array Oper} {rest : List Oper} {o : Oper} {a : Act} {Q : Exit → Act → World → Prop} (hg : o.guard = none) (m x : Operand) (hop : o.op = Op.call { callee := Callee.builtin Builtin.delete, args := #[m, x], argTypes := #[94, 9] })
    (b n : Nat) (F : Files) (hm : a.eval m = .map (some b)) (hF : FileMap w b n F) (k : ByteArray) (hk : k.size ≤ maxLen) (hx : a.eval x = .string k)
    (hK : ∀ w', FileMap w' b n (F.set k none) → w.grownBy w' (some b) → wpList Tryz.prog ops Q rest (a.put o.dst (.tuple #[])) w') : wpList Tryz.prog ops Q (o :: rest) a w := by
  obtain ⟨D, h1, h5⟩ := hF
  refine wpList_delete_own w hg m x _ _ hop 154 Tryz.lawS Tryz.underlying94 ptrElem b n D hm h1 _ (keyL k) hx (Go.WideMaps.keyOf_string_mk Tryz.underlying9 hk) ?_
  intro w' ho ht
  exact hK w' (FileMap.del h5 h1 k ho ht.grown) ht.grown
end Go.Proofs.YtkhjhojmhllkaaaGreatDoor
/- plain.do: one change of a map of files. -/
namespace Go.Proofs.YtkhjhojmhllkaaaGreatDoor
open Go.RowKit

abbrev opV (o : AOp) : Value := .agg #[.int .i64 (o.kind : Int), .string o.name, .string o.to, .string o.data]
abbrev opO (o : AOp) : Obj := .cells #[.int .i64 (o.kind : Int), .string o.name, .string o.to, .string o.data] 130

theorem wpList_file_look {w : World} {ops : Array Oper} {rest : List Oper} {o : Oper} {a : Act} {Q : Exit → Act → World → Prop} (hg : o.guard = none) (m x : Operand) (hop : o.op = Op.lookup 94 m x true)
    (b n : Nat) (F : Files) (hm : a.eval m = .map (some b)) (hF : FileMap w b n F) (k : ByteArray) (hk : k.size ≤ maxLen) (hx : a.eval x = .string k)
    (hN : F k = none → wpList Tryz.prog ops Q rest (a.put o.dst (.tuple #[.pointer none, .bool false])) w)
    (hS : ∀ t q, F k = some t → w.heap[q]? = some (textO t) → wpList Tryz.prog ops Q rest (a.put o.dst (.tuple #[.pointer (some ⟨q, 0, none⟩), .bool true])) w) : wpList Tryz.prog ops Q (o :: rest) a w := by
  refine wpList_plain hg fun K' hK' => ?_
  unfold Oper.wp
  rcases hF.look k hk with ⟨h1, h2⟩ | ⟨t, q, h1, h2, h3⟩
  · simp [execOp, hop, hm, hx, h2, Result.andThen]
    exact hK' _ _ (hN h1)
  · simp [execOp, hop, hm, hx, h3, Result.andThen]
    exact hK' _ _ (hS t q h1 h2)
theorem wpList_file_look1 {w : World} {ops : Array Oper} {rest : List Oper} {o : Oper} {a : Act} {Q : Exit → Act → World → Prop} (hg : o.guard = none) (m x : Operand) (hop : o.op = Op.lookup 94 m x false)
    (b n : Nat) (F : Files) (hm : a.eval m = .map (some b)) (hF : FileMap w b n F) (k t : ByteArray) (hk : F k = some t) (hx : a.eval x = .string k)
    (hS : ∀ q, w.heap[q]? = some (textO t) → wpList Tryz.prog ops Q rest (a.put o.dst (.pointer (some ⟨q, 0, none⟩))) w) : wpList Tryz.prog ops Q (o :: rest) a w := by
  refine wpList_plain hg fun K' hK' => ?_
  unfold Oper.wp
  obtain ⟨q, h2, h3⟩ := hF.look1 k t hk
  simp [execOp, hop, hm, hx, h3, Result.andThen]
  exact hK' _ _ (hS q h2)
/-- the world behind the box and the text's cell -/
abbrev doW (w : World) (o : AOp) : World := (w.alloc (opO o)).alloc (textO o.data)
theorem doW_fr (w : World) (o : AOp) : Fr [] w (doW w o) := ((Fr.refl [] w).alloc _).alloc _
theorem doW_text (w : World) (o : AOp) : (doW w o).heap[w.heap.size + 1]? = some (textO o.data) := by
  have := heap_alloc_new (w.alloc (opO o)) (textO o.data)
  rw [World.size_alloc] at this; exact this
theorem FileMap.new {w w' : World} {b n : Nat} {m : Files} (h : FileMap w b n m) (hf : Fr [] w w') : FileMap w' b n m := h.fr hf (by simp) (by simp)
theorem grown_of_fr {w w1 w2 : World} {b : Nat} (h : Fr [] w w1) (k : w1.grownBy w2 (some b)) : w.grownBy w2 (some b) :=
  Fr.grown1 ((h.mono (T := [b]) (by simp)).trans (Fr.of_grown1 k))
theorem text_cell {w : World} {q : Nat} {t : ByteArray} (h : w.heap[q]? = some (textO t)) : w.cell? ⟨q, 0, none⟩ = some (.string t) := by simp [World.cell?, h]

set_option maxRecDepth 100000 in
set_option maxHeartbeats 1000000 in
theorem do_write (b n : Nat) (m : Files) (o : AOp) (w : World) (hm : FileMap w b n m) (hn : n < maxLen) (hk : o.kind = 1) (h1 : o.name.size ≤ maxLen) :
    Calls Tryz.prog 83 #[.map (some b), opV o] w fun e w' => e = .returned (.tuple #[]) ∧ FileMap w' b (n + 1) (doOp m o) ∧ w.grownBy w' (some b) := by
  have HM : Hid (FileMap w b n m) := hm
  clear hm
  obtain ⟨kd, nm, to, da⟩ := o
  simp only at hk h1
  subst hk
  go_enter Tryz.func83, Tryz.ntmps83
  go_wp2_with (first | (at_lookup; refine wpList_file_look rfl _ _ rfl b n m rfl (HM.out.new (doW_fr w ⟨1, nm, to, da⟩)) nm h1 rfl ?_ ?_) | fail)
  · intro hN
    go_wp2_with (first | (at_mapUpdate; refine wpList_file_put rfl _ _ _ rfl b n m rfl (HM.out.new (doW_fr w ⟨1, nm, to, da⟩)) hn nm h1 rfl _ da rfl (doW_text w ⟨1, nm, to, da⟩) ?_; intro w1 hF1 hg1) | fail)
    go_end0
    exact ⟨rfl, hF1, grown_of_fr (doW_fr w ⟨1, nm, to, da⟩) hg1⟩
  · intro t q hN hq
    go_wp2_with (first | (at_mapUpdate; refine wpList_file_put rfl _ _ _ rfl b n m rfl (HM.out.new (doW_fr w ⟨1, nm, to, da⟩)) hn nm h1 rfl _ da rfl (doW_text w ⟨1, nm, to, da⟩) ?_; intro w1 hF1 hg1) | fail)
    go_end0
    exact ⟨rfl, hF1, grown_of_fr (doW_fr w ⟨1, nm, to, da⟩) hg1⟩

set_option maxRecDepth 100000 in
set_option maxHeartbeats 1000000 in
theorem do_remove (b n : Nat) (m : Files) (o : AOp) (w : World) (hm : FileMap w b n m) (hk : o.kind = 3) (h1 : o.name.size ≤ maxLen) :
    Calls Tryz.prog 83 #[.map (some b), opV o] w fun e w' => e = .returned (.tuple #[]) ∧ FileMap w' b (n + 1) (doOp m o) ∧ w.grownBy w' (some b) := by
  have HM : Hid (FileMap w b n m) := hm
  clear hm
  obtain ⟨kd, nm, to, da⟩ := o
  simp only at hk h1
  subst hk
  go_enter Tryz.func83, Tryz.ntmps83
  go_wp2_with (first | (at_lookup; refine wpList_file_look rfl _ _ rfl b n m rfl (HM.out.new (doW_fr w ⟨3, nm, to, da⟩)) nm h1 rfl ?_ ?_) | fail)
  · intro hN
    go_wp2
    refine bodyPost_ret (results_none rfl _ _ _) rfl ?_
    refine ⟨rfl, ?_, grown_of_fr (doW_fr w ⟨3, nm, to, da⟩) (grown_refl _ _)⟩
    have e : doOp m ⟨3, nm, to, da⟩ = m := by
      funext x
      show (if x = nm then none else m x) = m x
      by_cases hx : x = nm
      · subst hx; simp [hN]
      · simp [hx]
    rw [e]; exact (HM.out.new (doW_fr w ⟨3, nm, to, da⟩)).mono (by omega)
  · intro t q hN hq
    go_wp2_with (first | (at_delete; refine wpList_file_del rfl _ _ rfl b n m rfl (HM.out.new (doW_fr w ⟨3, nm, to, da⟩)) nm h1 rfl ?_; intro w1 hF1 hg1) | fail)
    go_end0
    exact ⟨rfl, hF1.mono (by omega), grown_of_fr (doW_fr w ⟨3, nm, to, da⟩) hg1⟩

set_option maxRecDepth 100000 in
set_option maxHeartbeats 1000000 in
theorem do_rename (b n : Nat) (m : Files) (o : AOp) (w : World) (hm : FileMap w b n m) (hn : n < maxLen) (hk : o.kind = 4) (h1 : o.name.size ≤ maxLen) (h2 : o.to.size ≤ maxLen) :
    Calls Tryz.prog 83 #[.map (some b), opV o] w fun e w' => e = .returned (.tuple #[]) ∧ FileMap w' b (n + 1) (doOp m o) ∧ w.grownBy w' (some b) := by
  have HM : Hid (FileMap w b n m) := hm
  clear hm
  obtain ⟨kd, nm, to, da⟩ := o
  simp only at hk h1 h2
  subst hk
  go_enter Tryz.func83, Tryz.ntmps83
  go_wp2_with (first | (at_lookup; refine wpList_file_look rfl _ _ rfl b n m rfl (HM.out.new (doW_fr w ⟨4, nm, to, da⟩)) nm h1 rfl ?_ ?_) | fail)
  · intro hN
    go_wp2
    refine bodyPost_ret (results_none rfl _ _ _) rfl ?_
    refine ⟨rfl, ?_, grown_of_fr (doW_fr w ⟨4, nm, to, da⟩) (grown_refl _ _)⟩
    have e : doOp m ⟨4, nm, to, da⟩ = m := by simp [doOp, hN]
    rw [e]; exact (HM.out.new (doW_fr w ⟨4, nm, to, da⟩)).mono (by omega)
  · intro t q hN hq
    go_wp2_with (first | (at_lookup; refine wpList_file_look1 rfl _ _ rfl b n m rfl (HM.out.new (doW_fr w ⟨4, nm, to, da⟩)) nm t hN rfl ?_; intro q2 hq2) | (at_mapUpdate; refine wpList_file_put rfl _ _ _ rfl b n m rfl (HM.out.new (doW_fr w ⟨4, nm, to, da⟩)) hn to h2 rfl _ t rfl hq2 ?_; intro w1 hF1 hg1; have hc1 : w1.cell? ⟨w.heap.size, 1, none⟩ = some (.string nm) := (grown_cell hg1 (a := ⟨w.heap.size, 1, none⟩) (by have := HM.out.lt; simp; omega) (by simp; omega)).trans (by simp)) | (at_delete; refine wpList_file_del rfl _ _ rfl b (n + 1) _ rfl hF1 nm h1 rfl ?_; intro w2 hF2 hg2) | fail)
    go_end0
    refine ⟨rfl, ?_, grown_trans (grown_of_fr (doW_fr w ⟨4, nm, to, da⟩) hg1) hg2⟩
    have e : doOp m ⟨4, nm, to, da⟩ = (m.set to (some t)).set nm none := by simp [doOp, hN]
    rw [e]; exact hF2

set_option maxRecDepth 100000 in
set_option maxHeartbeats 1000000 in
theorem do_append (b n : Nat) (m : Files) (o : AOp) (w : World) (hm : FileMap w b n m) (hn : n < maxLen) (hk : o.kind = 2) (h1 : o.name.size ≤ maxLen) (h3 : ((m o.name).getD ByteArray.empty).size + o.data.size ≤ 1099511627776) :
    Calls Tryz.prog 83 #[.map (some b), opV o] w fun e w' => e = .returned (.tuple #[]) ∧ FileMap w' b (n + 1) (doOp m o) ∧ w.grownBy w' (some b) := by
  have HM : Hid (FileMap w b n m) := hm
  clear hm
  obtain ⟨kd, nm, to, da⟩ := o
  simp only at hk h1 h3
  subst hk
  go_enter Tryz.func83, Tryz.ntmps83
  go_wp2_with (first | (at_lookup; refine wpList_file_look rfl _ _ rfl b n m rfl (HM.out.new (doW_fr w ⟨2, nm, to, da⟩)) nm h1 rfl ?_ ?_) | fail)
  · intro hN
    have HN : Hid (m nm = none) := hN
    clear hN
    go_wp2_with (first | (at_lookup; refine wpList_file_look rfl _ _ rfl b n m rfl (HM.out.new (doW_fr w ⟨2, nm, to, da⟩)) nm h1 rfl ?_ ?_) | fail)
    · intro hN2
      go_wp2_with (first | (at_mapUpdate; refine wpList_file_put rfl _ _ _ rfl b n m rfl (HM.out.new (doW_fr w ⟨2, nm, to, da⟩)) hn nm h1 rfl _ da rfl (doW_text w ⟨2, nm, to, da⟩) ?_; intro w1 hF1 hg1) | fail)
      go_end0
      refine ⟨rfl, ?_, grown_of_fr (doW_fr w ⟨2, nm, to, da⟩) hg1⟩
      have e : doOp m ⟨2, nm, to, da⟩ = m.set nm (some da) := by simp [doOp, HN.out]
      rw [e]; exact hF1
    · intro t2 q2 hN2
      exact absurd (HN.out.symm.trans hN2) (by simp)
  · intro t q hN hq
    have HN : Hid (m nm = some t) := hN
    clear hN hq
    go_wp2_with (first | (at_lookup; refine wpList_file_look rfl _ _ rfl b n m rfl (HM.out.new (doW_fr w ⟨2, nm, to, da⟩)) nm h1 rfl ?_ ?_) | fail)
    · intro hN2
      exact absurd (HN.out.symm.trans hN2) (by simp)
    · intro t2 q2 hN2 hq2
      obtain rfl : t = t2 := Option.some.inj (HN.out.symm.trans hN2)
      have hc2 := text_cell hq2
      have hlt : ¬ 9223372036854775807 < t.size + da.size := by rw [HN.out] at h3; simp at h3; omega
      clear hN2 hq2
      go_wp2
      go_region
      have hfr : Fr [] w ((w.alloc (opO ⟨2, nm, to, da⟩)).alloc (textO (t ++ da))).drew := (((Fr.refl [] w).alloc _).alloc _).drew
      go_wp2_with (first | (at_mapUpdate; refine wpList_file_put rfl _ _ _ rfl b n m rfl (HM.out.new hfr) hn nm h1 rfl _ (t ++ da) rfl (by have := heap_alloc_new (w.alloc (opO ⟨2, nm, to, da⟩)) (textO (t ++ da)); rw [World.size_alloc] at this; exact this) ?_; intro w1 hF1 hg1) | fail)
      go_end0
      refine ⟨rfl, ?_, grown_of_fr hfr hg1⟩
      have e : doOp m ⟨2, nm, to, da⟩ = m.set nm (some (t ++ da)) := by simp [doOp, HN.out]
      rw [e]; exact hF1

/-- an op that do takes: of one of the four kinds, of texts that are not too long -/
structure AOp.Ok (o : AOp) (c : Nat) : Prop where
  kind : o.kind = 1 ∨ o.kind = 2 ∨ o.kind = 3 ∨ o.kind = 4
  name : o.name.size ≤ maxLen
  to : o.to.size ≤ maxLen
  data : o.data.size ≤ c
/-- all texts are of at most c bytes -/
def Files.Le (m : Files) (c : Nat) : Prop := ∀ k t, m k = some t → t.size ≤ c
theorem do_any (b n c : Nat) (m : Files) (o : AOp) (w : World) (hm : FileMap w b n m) (hn : n < maxLen) (ho : o.Ok c) (hc : c ≤ 4096) (hl : m.Le 549755813888) :
    Calls Tryz.prog 83 #[.map (some b), opV o] w fun e w' => e = .returned (.tuple #[]) ∧ FileMap w' b (n + 1) (doOp m o) ∧ w.grownBy w' (some b) := by
  rcases ho.kind with h | h | h | h
  · exact do_write b n m o w hm hn h ho.name
  · refine do_append b n m o w hm hn h ho.name ?_
    have := ho.data
    cases hx : m o.name with
    | none => simp; omega
    | some t => have := hl _ _ hx; simp; omega
  · exact do_remove b n m o w hm h ho.name
  · exact do_rename b n m o w hm hn h ho.name ho.to
theorem doOp_le {m : Files} {c d : Nat} {o : AOp} (h : m.Le d) (ho : o.Ok c) : (doOp m o).Le (d + c) := by
  intro k t hk
  have hd := ho.data
  rcases ho.kind with h1 | h1 | h1 | h1 <;> simp only [doOp, h1] at hk
  · by_cases hx : k = o.name
    · subst hx; simp [Files.set] at hk; subst hk; omega
    · simp [Files.set, hx] at hk; have := h _ _ hk; omega
  · by_cases hx : k = o.name
    · subst hx
      simp [Files.set] at hk
      subst hk
      cases hy : m o.name with
      | none => simp; omega
      | some s => have := h _ _ hy; simp; omega
    · simp [Files.set, hx] at hk; have := h _ _ hk; omega
  · by_cases hx : k = o.name
    · subst hx; simp [Files.set] at hk
    · simp [Files.set, hx] at hk; have := h _ _ hk; omega
  · cases hs : m o.name with
    | none => rw [hs] at hk; simp at hk; have := h _ _ hk; omega
    | some s =>
      rw [hs] at hk; simp at hk
      by_cases hx : k = o.name
      · subst hx; simp [Files.set] at hk
      · by_cases hy : k = o.to
        · subst hy; simp [Files.set, hx] at hk; subst hk; have := h _ _ hs; omega
        · simp [Files.set, hx, hy] at hk; have := h _ _ hk; omega
end Go.Proofs.YtkhjhojmhllkaaaGreatDoor
/- THE DISK IN MEMORY: its block, its maps, what is pending; writes. -/
namespace Go.Proofs.YtkhjhojmhllkaaaGreatDoor
open Go.RowKit

/-- an error by its number; 0: none -/
def errN (n : Nat) : Value := if n = 0 then .nilIface else .iface 31 (.int .i64 (n : Int))
theorem errN_ok : errN 0 = .nilIface := rfl
theorem errN_no {n : Nat} (h : n ≠ 0) : errN n = .iface 31 (.int .i64 (n : Int)) := by unfold errN; rw [if_neg h]
abbrev dskO (bD bN : Nat) (pv : Value) (l f : Int) (dn : Bool) : Obj := .cells #[.map (some bD), .map (some bN), pv, .int .i64 l, .int .i64 f, .bool dn] 97
theorem blk_cell {w : World} {p : Nat} {c : Array Value} {t : TypeId} (h : w.heap[p]? = some (.cells c t (0, 0))) (i : Nat) : w.cell? ⟨p, i, none⟩ = c[i]? := by simp [World.cell?, h]
theorem blk_free {w : World} {p : Nat} {c : Array Value} {t : TypeId} (h : w.heap[p]? = some (.cells c t (0, 0))) (i : Nat) : w.frozen? ⟨p, i, none⟩ = false := by simp [World.frozen?, h]
theorem blk_set {w : World} {p : Nat} {c : Array Value} {t : TypeId} (h : w.heap[p]? = some (.cells c t (0, 0))) (i : Nat) (v : Value) : (w.setCell ⟨p, i, none⟩ v).heap[p]? = some (.cells (c.setIfInBounds i v) t (0, 0)) := by
  simp [World.setCell, Array.getElem?_modify, h]
theorem Fr.set1 {w : World} {p : Nat} {S : List Nat} (hp : p ∈ S) (i : Nat) (v : Value) : Fr S w (w.setCell ⟨p, i, none⟩ v) := (Fr.refl S w).setCell (Or.inl hp) v
/-- what is told by w.left, w.full -/
theorem wr_down {d : ADisk} (h : d.down = true ∨ d.left = 0) : d.writes = ({ d with down := true }, 10) := by unfold ADisk.writes; rw [if_pos h]
theorem wr_full {d : ADisk} (h : ¬ (d.down = true ∨ d.left = 0)) (hf : d.full = 0) : d.writes = ({ d with left := wrap64 (d.left - 1), full := -1 }, 9) := by unfold ADisk.writes; rw [if_neg h, if_pos hf]
theorem wr_ok {d : ADisk} (h : ¬ (d.down = true ∨ d.left = 0)) (hf : ¬ d.full = 0) : d.writes = ({ d with left := wrap64 (d.left - 1), full := wrap64 (d.full - 1) }, 0) := by unfold ADisk.writes; rw [if_neg h, if_neg hf]

set_option maxRecDepth 100000 in
set_option maxHeartbeats 1000000 in
theorem writes_any (p bD bN : Nat) (pv : Value) (d : ADisk) (w : World) (h : w.heap[p]? = some (dskO bD bN pv d.left d.full d.down)) :
    Calls Tryz.prog 369 #[.pointer (some ⟨p, 0, none⟩)] w fun e w' => e = .returned (errN d.writes.2) ∧ w'.heap[p]? = some (dskO bD bN pv d.writes.1.left d.writes.1.full d.writes.1.down) ∧ Fr [p] w w' := by
  have H : Hid (w.heap[p]? = some (dskO bD bN pv d.left d.full d.down)) := h
  have c3 := blk_cell h 3
  have c4 := blk_cell h 4
  have c5 := blk_cell h 5
  have f3 := blk_free h 3
  have f4 := blk_free h 4
  have f5 := blk_free h 5
  simp at c3 c4 c5
  clear h
  obtain ⟨du, no, pe, l, f, dn⟩ := d
  simp only at c3 c4 c5 H
  by_cases hd : dn = true ∨ l = 0
  · rw [wr_down hd]
    go_enter Tryz.func369, Tryz.ntmps369
    rcases hd with rfl | rfl
    · go_wp2
      go_ret
      exact ⟨rfl, by have := blk_set H.out 5 (.bool true); simpa using this, Fr.set1 (by simp) _ _⟩
    · cases dn
      · go_wp2
        go_ret
        exact ⟨rfl, by have := blk_set H.out 5 (.bool true); simpa using this, Fr.set1 (by simp) _ _⟩
      · go_wp2
        go_ret
        exact ⟨rfl, by have := blk_set H.out 5 (.bool true); simpa using this, Fr.set1 (by simp) _ _⟩
  · have hl : ¬ l = 0 := fun e => hd (Or.inr e)
    have hdn : dn = false := by cases dn with | false => rfl | true => exact absurd (Or.inl rfl) hd
    by_cases hf : f = 0
    · rw [wr_full hd hf]
      subst hf hdn
      go_enter Tryz.func369, Tryz.ntmps369
      go_wp2
      go_ret
      exact ⟨rfl, by have := blk_set (blk_set H.out 3 (.int .i64 (wrap64 (l - 1)))) 4 (.int .i64 (-1)); simpa using this, (Fr.set1 (by simp) _ _).trans (Fr.set1 (by simp) _ _)⟩
    · rw [wr_ok hd hf]
      subst hdn
      go_enter Tryz.func369, Tryz.ntmps369
      go_wp2
      go_ret
      exact ⟨rfl, by have := blk_set (blk_set H.out 3 (.int .i64 (wrap64 (l - 1)))) 4 (.int .i64 (wrap64 (f - 1))); simpa using this, (Fr.set1 (by simp) _ _).trans (Fr.set1 (by simp) _ _)⟩
end Go.Proofs.YtkhjhojmhllkaaaGreatDoor
/- (*disk).tell: a change is told. -/
namespace Go.Proofs.YtkhjhojmhllkaaaGreatDoor
open Go.RowKit

def opCells (o : AOp) : List Value := [.int .i64 (o.kind : Int), .string o.name, .string o.to, .string o.data]
def opsV (l : List AOp) : List Value := l.flatMap opCells
theorem opsV_snoc (l : List AOp) (o : AOp) : opsV (l ++ [o]) = opsV l ++ opCells o := by simp [opsV]
theorem opsV_len (l : List AOp) : (opsV l).length = l.length * 4 := by
  induction l with
  | nil => rfl
  | cons r l ih => simp only [opsV, List.flatMap_cons, List.length_append, List.length_cons] at *; rw [ih]; simp [opCells]; omega
theorem Tryz.infoOp : (Tryz.prog.info? 130).map (fun i => (i.zero, i.size, i.bytes)) = some (some (.agg #[.int .i64 0, .string ByteArray.empty, .string ByteArray.empty, .string ByteArray.empty]), 4, 56) := by kernel_rfl

/-- append's law with the place of what comes out -/
theorem wp_append_at {P : Program} {w : World} {o : Oper} {a : Act} {K : Act → World → Prop} {Q : Exit → Act → World → Prop} (s x : Operand) (t : TypeId)
    (ho : o.op = .call { callee := .builtin .append, args := #[s, x], argTypes := #[t, t] })
    (base : Nat) (e : TypeId) (i : TypeInfo) (z : Value) (size bytes : Nat) (ht : P.underlying t = some (.slice e)) (hi : P.info? e = some i) (hz : i.zero = some z)
    (hsize : i.size = size) (hby : i.bytes = bytes) (hzs : z.cells.size = size) (hsz : 0 < size)
    (v : Value) (n : Nat) (xs : List Value) (hs : a.eval s = v) (hown : w.ownsRow base e size v n xs)
    (ad : Addr) (m c : Nat) (news : List Value) (hx : a.eval x = .slice (some ad) m c) (hl : news.length = m * size) (hnews : ∀ j u, news[j]? = some u → w.cell? (ad.add j) = some u) (h1 : ∀ u ∈ news, u.oneCell' = true)
    (h63 : n + m ≤ maxLen) (hbytes : (n + m) * bytes ≤ 140737488355328) (hbase : base ≤ w.heap.size)
    (h : ∀ v' w', w'.ownsRow base e size v' (n + m) (xs ++ news) → w.grownBy w' v.ownBlock → (v'.ownBlock = v.ownBlock ∨ v'.ownBlock = some w.heap.size) → K (a.put o.dst v') w') : o.wp P a w K Q := by
  obtain ⟨v', w', hr, h2, h3, _, h5⟩ := run_append_own_at (P := P) w base t o.type e i z size bytes ht hi hz hsize hby hzs hsz v n xs hown ad m c news hl hnews h1 h63 hbytes hbase
  unfold Oper.wp execOp
  simp only [ho, resolve, invoke, builtin, Sem.run_bind, Sem.run_pure, Result.andThen_ok, List.map_toArray, List.map_cons, List.map_nil, hs, hx, hr]
  exact h v' w' h2 h3 h5
/-- a slice that lies where another did, or in a block from s on -/
def Near (s : Nat) (v v' : Value) : Prop := ∀ k, v'.ownBlock = some k → v.ownBlock = some k ∨ s ≤ k
theorem Near.refl (s : Nat) (v : Value) : Near s v v := fun _ h => .inl h
theorem Near.nil (s : Nat) (v : Value) : Near s v (.slice none 0 0) := fun k h => by cases h
theorem Near.of_at {s : Nat} {v v' : Value} {q : Nat} (h : v'.ownBlock = v.ownBlock ∨ v'.ownBlock = some q) (hq : s ≤ q) : Near s v v' := fun k hk => by
  rcases h with h | h
  · left; rw [← h]; exact hk
  · right; rw [h] at hk; cases hk; exact hq
theorem Near.trans {s s' : Nat} {a b c : Value} (h : Near s a b) (k : Near s' b c) (hs : s ≤ s') : Near s a c := fun x hx => by
  rcases k x hx with h1 | h1
  · exact h x h1
  · right; omega
theorem wp_opapp {w : World} {o : Oper} {a : Act} {K : Act → World → Prop} {Q : Exit → Act → World → Prop} (s x : Operand)
    (ho : o.op = .call { callee := .builtin .append, args := #[s, x], argTypes := #[95, 95] })
    (base : Nat) (v : Value) (n : Nat) (l : List AOp) (r : AOp) (b : Nat) (hs : a.eval s = v) (hown : w.ownsRow base 130 4 v n (opsV l)) (hx : a.eval x = .slice (some ⟨b, 0, none⟩) 1 1)
    (hb : w.heap[b]? = some (opO r)) (hn : n ≤ 1073741824) (hbase : base ≤ w.heap.size)
    (h : ∀ v' w', w'.ownsRow base 130 4 v' (n + 1) (opsV (l ++ [r])) → w.grownBy w' v.ownBlock → (v'.ownBlock = v.ownBlock ∨ v'.ownBlock = some w.heap.size) → K (a.put o.dst v') w') : o.wp Tryz.prog a w K Q := by
  obtain ⟨i0, hi, hz0, hz1, hz2⟩ := info_parts Tryz.infoOp
  have hc0 := blk_cell hb 0
  have hc1 := blk_cell hb 1
  have hc2 := blk_cell hb 2
  have hc3 := blk_cell hb 3
  simp at hc0 hc1 hc2 hc3
  refine wp_append_at s x 95 ho base 130 i0 _ 4 56 Tryz.underlying95 hi hz0 hz1 hz2 rfl (by decide) v n (opsV l) hs hown ⟨b, 0, none⟩ 1 1 (opCells r) hx rfl ?_ ?_ (by unfold maxLen; omega) (by omega) hbase ?_
  · intro jj u hjj
    match jj, hjj with
    | 0, hjj => simp [opCells] at hjj; subst hjj; simpa [Addr.add] using hc0
    | 1, hjj => simp [opCells] at hjj; subst hjj; simpa [Addr.add] using hc1
    | 2, hjj => simp [opCells] at hjj; subst hjj; simpa [Addr.add] using hc2
    | 3, hjj => simp [opCells] at hjj; subst hjj; simpa [Addr.add] using hc3
  · intro u hu; simp [opCells] at hu; rcases hu with rfl | rfl | rfl | rfl <;> rfl
  · intro v' w' ho' hg' hl'
    refine h v' w' ?_ hg' hl'
    rw [opsV_snoc]; exact ho'
/-- the disk in memory -/
structure DiskIn (w : World) (B p bD bN : Nat) (pv : Value) (d : ADisk) (n nD nN : Nat) : Prop where
  blk : w.heap[p]? = some (dskO bD bN pv d.left d.full d.down)
  base : B ≤ p ∧ B ≤ bD ∧ B ≤ bN ∧ B ≤ w.heap.size
  ne : bD ≠ bN
  dur : FileMap w bD nD d.durable
  now : FileMap w bN nN d.now
  pen : w.ownsRow B 130 4 pv d.pending.length (opsV d.pending)
  hD : nD + d.pending.length ≤ n
  hN : nN ≤ n
  hn : n ≤ 67108864
  leD : d.durable.Le (nD * 4096)
  leN : d.now.Le (nN * 4096)
  ops : ∀ o ∈ d.pending, o.Ok 4096
theorem FileMap.ne_cells {w : World} {b n q : Nat} {m : Files} {c : Array Value} {t : TypeId} {fr : Nat × Nat} (h : FileMap w b n m) (hq : w.heap[q]? = some (.cells c t fr)) : b ≠ q := by
  obtain ⟨es, c', h1⟩ := h.isMap
  intro e; subst e; rw [h1] at hq; cases hq
theorem own_cells {w : World} {B n g : Nat} {e : TypeId} {k : Nat} {v : Value} {xs : List Value} (h : w.ownsRow B e k v n xs) (hg : v.ownBlock = some g) : ∃ c, w.heap[g]? = some (.cells c e (0, 0)) := by
  rcases h.2 with ⟨rfl, _⟩ | ⟨g', cap, cur, rfl, _, h3, _⟩
  · cases hg
  · cases hg; exact ⟨cur, h3⟩
/-- a block of another element type is not the row's -/
theorem own_ne {w : World} {B n q : Nat} {e e' : TypeId} {k : Nat} {v : Value} {xs : List Value} {c : Array Value} {fr : Nat × Nat} (h : w.ownsRow B e k v n xs) (hq : w.heap[q]? = some (.cells c e' fr)) (hne : e ≠ e') : v.ownBlock ≠ some q := by
  intro hv
  obtain ⟨c', h1⟩ := own_cells h hv
  rw [h1] at hq
  cases hq
  exact hne rfl
/-- what a disk may write -/
abbrev dS (p bD bN : Nat) (pv : Value) : List Nat := p :: bD :: bN :: pv.ownBlock.toList
theorem ownsRow_fr {w w' : World} {S : List Nat} {B n : Nat} {e : TypeId} {k : Nat} {v : Value} {xs : List Value} (h : w.ownsRow B e k v n xs) (hf : Fr S w w') (hs : ∀ g, v.ownBlock = some g → g ∉ S) : w'.ownsRow B e k v n xs := by
  refine ⟨h.1, ?_⟩
  rcases h.2 with h1 | ⟨g, cap, cur, rfl, h2, h3, h4⟩
  · exact .inl h1
  · exact .inr ⟨g, cap, cur, rfl, h2, (hf.block g (Array.getElem?_eq_some_iff.1 h3).1 (hs g rfl)).trans h3, h4⟩
/-- behind a frame that leaves the disk alone -/
theorem DiskIn.fr {w w' : World} {B p bD bN n nD nN : Nat} {pv : Value} {d : ADisk} {S : List Nat} (h : DiskIn w B p bD bN pv d n nD nN) (hf : Fr S w w') (hp : p ∉ S) (h1 : bD ∉ S) (h2 : bN ∉ S) (h3 : ∀ g, pv.ownBlock = some g → g ∉ S) (h4 : ∀ q ∈ S, ∀ t, w.heap[q]? ≠ some (textO t)) : DiskIn w' B p bD bN pv d n nD nN where
  blk := (hf.block p (Array.getElem?_eq_some_iff.1 h.blk).1 hp).trans h.blk
  base := ⟨h.base.1, h.base.2.1, h.base.2.2.1, Nat.le_trans h.base.2.2.2 hf.size⟩
  ne := h.ne
  dur := h.dur.fr hf h1 h4
  now := h.now.fr hf h2 h4
  pen := ownsRow_fr h.pen hf h3
  hD := h.hD
  hN := h.hN
  hn := h.hn
  leD := h.leD
  leN := h.leN
  ops := h.ops
theorem DiskIn.new {w w' : World} {B p bD bN n nD nN : Nat} {pv : Value} {d : ADisk} (h : DiskIn w B p bD bN pv d n nD nN) (hf : Fr [] w w') : DiskIn w' B p bD bN pv d n nD nN :=
  h.fr hf (by simp) (by simp) (by simp) (by simp) (by simp)
theorem DiskIn.more {w : World} {B p bD bN n nD nN : Nat} {pv : Value} {d : ADisk} (h : DiskIn w B p bD bN pv d n nD nN) (hn : n < 67108864) : DiskIn w B p bD bN pv d (n + 1) nD nN :=
  { h with hD := by have := h.hD; omega, hN := by have := h.hN; omega, hn := by omega }
/-- the block alone was written -/
theorem DiskIn.turn {w w' : World} {B p bD bN n nD nN : Nat} {pv : Value} {d : ADisk} (h : DiskIn w B p bD bN pv d n nD nN) (hf : Fr [p] w w') (l f : Int) (dn : Bool) (hb : w'.heap[p]? = some (dskO bD bN pv l f dn)) :
    DiskIn w' B p bD bN pv { d with left := l, full := f, down := dn } n nD nN where
  blk := hb
  base := ⟨h.base.1, h.base.2.1, h.base.2.2.1, Nat.le_trans h.base.2.2.2 hf.size⟩
  ne := h.ne
  dur := h.dur.fr hf (by simp; exact h.dur.ne_cells h.blk) (by intro q hq t; simp at hq; subst hq; rw [h.blk]; intro e; cases e)
  now := h.now.fr hf (by simp; exact h.now.ne_cells h.blk) (by intro q hq t; simp at hq; subst hq; rw [h.blk]; intro e; cases e)
  pen := ownsRow_fr h.pen hf (fun g hg => by simp; intro e; subst e; exact own_ne h.pen h.blk (by decide) hg)
  hD := h.hD
  hN := h.hN
  hn := h.hn
  leD := h.leD
  leN := h.leN
  ops := h.ops
theorem writes_same (d : ADisk) : d.writes.1 = { d with left := d.writes.1.left, full := d.writes.1.full, down := d.writes.1.down } := by
  unfold ADisk.writes; split
  · rfl
  · split <;> rfl
theorem writes_in (B p bD bN n nD nN : Nat) (pv : Value) (d : ADisk) (w : World) (h : DiskIn w B p bD bN pv d n nD nN) :
    Calls Tryz.prog 369 #[.pointer (some ⟨p, 0, none⟩)] w fun e w' => e = .returned (errN d.writes.2) ∧ DiskIn w' B p bD bN pv d.writes.1 n nD nN ∧ Fr [p] w w' := by
  refine (writes_any p bD bN pv d w h.blk).mono ?_
  rintro e w' ⟨rfl, h1, h2⟩
  refine ⟨rfl, ?_, h2⟩
  rw [writes_same]
  exact h.turn h2 _ _ _ h1
end Go.Proofs.YtkhjhojmhllkaaaGreatDoor
/- (*disk).tell, walked. -/
namespace Go.Proofs.YtkhjhojmhllkaaaGreatDoor
open Go.RowKit

def TellPost (d : ADisk) (o : AOp) (B p bD bN n nD : Nat) (pv : Value) (w : World) (e : Ending) (w' : World) : Prop :=
  e = .returned (errN (d.tell o).2) ∧ (∃ pv' nN', DiskIn w' B p bD bN pv' (d.tell o).1 (n + 1) nD nN' ∧ Near w.heap.size pv pv') ∧ Fr (dS p bD bN pv) w w'
theorem tell_down {d : ADisk} {o : AOp} (h : d.writes.2 = 10) : d.tell o = ({ d.writes.1 with pending := d.writes.1.pending ++ [o] }, 10) := by unfold ADisk.tell; simp [h]
theorem tell_full {d : ADisk} {o : AOp} (h : d.writes.2 = 9) : d.tell o = (d.writes.1, 9) := by unfold ADisk.tell; simp [h]
theorem tell_none {d : ADisk} {o : AOp} (h : d.writes.2 = 0) (h1 : d.writes.1.now o.name = none ∧ 2 < o.kind) : d.tell o = (d.writes.1, 8) := by unfold ADisk.tell; simp [h, h1]
theorem tell_self {d : ADisk} {o : AOp} (h : d.writes.2 = 0) (h1 : ¬ (d.writes.1.now o.name = none ∧ 2 < o.kind)) (h2 : o.kind = 4 ∧ o.name = o.to) : d.tell o = (d.writes.1, 0) := by unfold ADisk.tell; rw [if_neg (by rw [h]; decide), if_neg (by rw [h]; decide), if_neg h1, if_pos h2]
theorem tell_ok {d : ADisk} {o : AOp} (h : d.writes.2 = 0) (h1 : ¬ (d.writes.1.now o.name = none ∧ 2 < o.kind)) (h2 : ¬ (o.kind = 4 ∧ o.name = o.to)) : d.tell o = ({ d.writes.1 with now := doOp d.writes.1.now o, pending := d.writes.1.pending ++ [o] }, 0) := by unfold ADisk.tell; rw [if_neg (by rw [h]; decide), if_neg (by rw [h]; decide), if_neg h1, if_neg h2]
theorem writes_cases (d : ADisk) : d.writes.2 = 10 ∨ d.writes.2 = 9 ∨ d.writes.2 = 0 := by
  unfold ADisk.writes; split
  · simp
  · split <;> simp
/-- behind an op more that is pending -/
theorem DiskIn.pend0 {w w1 w2 : World} {B p bD bN n nD nN : Nat} {pv pv' : Value} {d : ADisk} {o : AOp} (h : DiskIn w B p bD bN pv d n nD nN) (ho : o.Ok 4096)
    (hg : w.grownBy w1 pv.ownBlock) (hr : w1.ownsRow B 130 4 pv' (d.pending.length + 1) (opsV (d.pending ++ [o]))) (hw2 : w2 = w1.setCell ⟨p, 2, none⟩ pv') :
    (∀ n', nD + (d.pending ++ [o]).length ≤ n' → nN ≤ n' → n' ≤ 67108864 → DiskIn w2 B p bD bN pv' { d with pending := d.pending ++ [o] } n' nD nN) ∧ Fr (p :: pv.ownBlock.toList) w w2 := by
  have hp1 : w1.heap[p]? = some (dskO bD bN pv d.left d.full d.down) := (hg.block p (Array.getElem?_eq_some_iff.1 h.blk).1 (fun e => own_ne h.pen h.blk (by decide) e.symm)).trans h.blk
  have hf1 : Fr pv.ownBlock.toList w w1 := Fr.of_grown hg
  have hf2 : Fr (p :: pv.ownBlock.toList) w w2 := by
    rw [hw2]
    exact (hf1.mono (fun k _ hk => List.mem_cons_of_mem _ hk)).setCell (Or.inl (by simp)) _
  have hns : ∀ q ∈ p :: pv.ownBlock.toList, ∀ t, w.heap[q]? ≠ some (textO t) := by
    intro q hq t e
    rcases List.mem_cons.1 hq with rfl | hq
    · rw [h.blk] at e; cases e
    · simp at hq
      exact own_ne h.pen e (by decide) hq
  have hnm : ∀ (b k : Nat) (m : Files), FileMap w b k m → b ∉ p :: pv.ownBlock.toList := by
    intro b k m hm hb
    rcases List.mem_cons.1 hb with rfl | hb
    · exact hm.ne_cells h.blk rfl
    · simp at hb
      obtain ⟨c, hc⟩ := own_cells h.pen hb
      exact hm.ne_cells hc rfl
  refine ⟨fun n' hn1 hn2 hn3 => ?_, hf2⟩
  subst hw2
  have hpp : ∀ g, pv'.ownBlock = some g → g ≠ p := by
    intro g hgv e
    subst e
    exact own_ne hr hp1 (by decide) hgv
  refine { blk := ?_, base := ⟨h.base.1, h.base.2.1, h.base.2.2.1, Nat.le_trans h.base.2.2.2 hf2.size⟩, ne := h.ne, dur := h.dur.fr hf2 (hnm _ _ _ h.dur) hns, now := h.now.fr hf2 (hnm _ _ _ h.now) hns, pen := ?_, hD := hn1, hN := hn2, hn := hn3, leD := h.leD, leN := h.leN, ops := ?_ }
  · have := blk_set hp1 2 pv'; simpa using this
  · have := ownsRow_fr hr (S := [p]) (Fr.set1 (w := w1) (p := p) (by simp) 2 pv') (fun g hgv => by simp; exact hpp g hgv)
    simpa using this
  · intro x hx
    rcases List.mem_append.1 hx with hx | hx
    · exact h.ops x hx
    · simp at hx; subst hx; exact ho

theorem DiskIn.pend {w w1 w2 : World} {B p bD bN n nD nN : Nat} {pv pv' : Value} {d : ADisk} {o : AOp} (h : DiskIn w B p bD bN pv d n nD nN) (hn : n < 67108864) (ho : o.Ok 4096)
    (hg : w.grownBy w1 pv.ownBlock) (hr : w1.ownsRow B 130 4 pv' (d.pending.length + 1) (opsV (d.pending ++ [o]))) (hw2 : w2 = w1.setCell ⟨p, 2, none⟩ pv') :
    DiskIn w2 B p bD bN pv' { d with pending := d.pending ++ [o] } (n + 1) nD nN ∧ Fr (p :: pv.ownBlock.toList) w w2 := by
  obtain ⟨q1, q2⟩ := DiskIn.pend0 h ho hg hr hw2
  exact ⟨q1 (n + 1) (by have := h.hD; simp; omega) (by have := h.hN; omega) (by omega), q2⟩
theorem DiskIn.pend' {w w1 w2 : World} {B p bD bN n nD nN : Nat} {pv pv' : Value} {d : ADisk} {o : AOp} {N : Files} (h : DiskIn w B p bD bN pv { d with now := N } (n + 1) nD (nN + 1)) (ho : o.Ok 4096)
    (hg : w.grownBy w1 pv.ownBlock) (hr : w1.ownsRow B 130 4 pv' (d.pending.length + 1) (opsV (d.pending ++ [o]))) (hw2 : w2 = w1.setCell ⟨p, 2, none⟩ pv') (hD : nD + d.pending.length ≤ n) :
    DiskIn w2 B p bD bN pv' { d with now := N, pending := d.pending ++ [o] } (n + 1) nD (nN + 1) ∧ Fr (p :: pv.ownBlock.toList) w w2 := by
  obtain ⟨q1, q2⟩ := DiskIn.pend0 h ho hg hr hw2
  exact ⟨q1 (n + 1) (by simp; omega) h.hN h.hn, q2⟩
theorem own_some {w : World} {B n : Nat} {e : TypeId} {k : Nat} {v : Value} {xs : List Value} (h : w.ownsRow B e k v (n + 1) xs) : ∃ g cap, v = .slice (some ⟨g, 0, none⟩) (n + 1) cap := by
  rcases h.2 with ⟨_, h3⟩ | ⟨g, cap, cur, rfl, _⟩
  · omega
  · exact ⟨g, cap, rfl⟩
theorem keep4 {w1 w4 : World} {B p bD bN n nD nN q : Nat} {pv : Value} {d : ADisk} {o : AOp} (h : DiskIn w1 B p bD bN pv d n nD nN) (hq : w1.heap[q]? = some (opO o)) (hg : (w1.alloc (opO o)).drew.grownBy w4 pv.ownBlock) (hne : pv.ownBlock ≠ some q) :
    w4.cell? ⟨p, 2, none⟩ = some pv ∧ w4.frozen? ⟨p, 2, none⟩ = false ∧ w4.cell? ⟨q, 0, none⟩ = some (.int .i64 o.kind) ∧ w4.cell? ⟨q, 1, none⟩ = some (.string o.name) ∧ w4.cell? ⟨q, 2, none⟩ = some (.string o.to) ∧ w4.cell? ⟨q, 3, none⟩ = some (.string o.data) := by
  have hpl := (Array.getElem?_eq_some_iff.1 h.blk).1
  have hql := (Array.getElem?_eq_some_iff.1 hq).1
  have k1 : w4.heap[p]? = some (dskO bD bN pv d.left d.full d.down) := by
    rw [hg.block p (by simp; omega) (fun e => own_ne h.pen h.blk (by decide) e.symm)]
    exact (Below.heap_alloc w1 _ p hpl).trans h.blk
  have k2 : w4.heap[q]? = some (opO o) := by
    rw [hg.block q (by simp; omega) (fun e => hne e.symm)]
    exact (Below.heap_alloc w1 _ q hql).trans hq
  refine ⟨(blk_cell k1 2).trans (by simp), blk_free k1 2, (blk_cell k2 0).trans (by simp), (blk_cell k2 1).trans (by simp), (blk_cell k2 2).trans (by simp), (blk_cell k2 3).trans (by simp)⟩
/-- behind the change of what is now -/
theorem DiskIn.done {w1 w2 : World} {B p bD bN n nD nN q : Nat} {pv : Value} {d : ADisk} {o : AOp} (h : DiskIn w1 B p bD bN pv d n nD nN) (hq : w1.heap[q]? = some (opO o)) (hF : FileMap w2 bN (nN + 1) (doOp d.now o)) (hg : w1.grownBy w2 (some bN)) (hn : n < 67108864) (ho : o.Ok 4096) :
    DiskIn w2 B p bD bN pv { d with now := doOp d.now o } (n + 1) nD (nN + 1) ∧ w2.heap[q]? = some (opO o) ∧ Fr [bN] w1 w2 := by
  have hf := Fr.of_grown1 hg
  have hnt : ∀ r ∈ [bN], ∀ t, w1.heap[r]? ≠ some (textO t) := by
    intro r hr t e; simp at hr; subst hr; exact h.now.ne_cells e rfl
  refine ⟨?_, (hf.block q (Array.getElem?_eq_some_iff.1 hq).1 (by simp; exact fun e => h.now.ne_cells hq e.symm)).trans hq, hf⟩
  refine { blk := (hf.block p (Array.getElem?_eq_some_iff.1 h.blk).1 (by simp; exact fun e => h.now.ne_cells h.blk e.symm)).trans h.blk, base := ⟨h.base.1, h.base.2.1, h.base.2.2.1, Nat.le_trans h.base.2.2.2 hf.size⟩, ne := h.ne, dur := h.dur.fr hf (by simp; exact h.ne) hnt, now := hF, pen := ownsRow_fr h.pen hf (fun g hgv => by simp; intro e; subst e; obtain ⟨c, hc⟩ := own_cells h.pen hgv; exact h.now.ne_cells hc rfl), hD := by have := h.hD; simp; omega, hN := by have := h.hN; omega, hn := by omega, leD := h.leD, leN := ?_, ops := h.ops }
  · have := doOp_le h.leN ho
    intro k t ht
    have := this k t ht
    omega
theorem Tryz.eqDD (w : World) : (binOp .eql 79 (.iface 31 (.int .i64 10)) (.iface 31 (.int .i64 10))).run Tryz.prog w = .ok (.bool true) w := by kernel_rfl
theorem Tryz.eqFD (w : World) : (binOp .eql 79 (.iface 31 (.int .i64 9)) (.iface 31 (.int .i64 10))).run Tryz.prog w = .ok (.bool false) w := by kernel_rfl
end Go.Proofs.YtkhjhojmhllkaaaGreatDoor
