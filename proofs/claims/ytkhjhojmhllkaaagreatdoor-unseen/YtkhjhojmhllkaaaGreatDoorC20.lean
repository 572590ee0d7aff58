import Derived.Test.YtkhjhojmhllkaaaGreatDoorC19
import Derived.DeepKeys5
/- THE MAPS OF A SHARD: how their keys and elements are written. -/
namespace Go.Proofs.YtkhjhojmhllkaaaGreatDoor
open Go.RowKit Go.Maps
open Sc

/-- texts as keys -/
noncomputable def KS : KeyRep Tryz.prog ByteArray 9 where
  kv := .string
  kl := keyL
  ok := fun k => k.size ≤ maxLen
  law := Tryz.lawS
  key := fun _ hk => Go.WideMaps.keyOf_string_mk Tryz.underlying9 hk
  inj := fun _ _ h => by simpa using h
theorem wfU {x : Nat} (h : x < 18446744073709551616) : (Lit.int .u64 (x : Int)).wf = true := by
  have h1 : IntKind.u64.min = 0 := rfl
  have h2 : IntKind.u64.max = 18446744073709551615 := rfl
  simp [Lit.wf, h1, h2]
  omega
/-- ids as keys -/
noncomputable def KU : KeyRep Tryz.prog Nat 33 where
  kv := fun x => .int .u64 (x : Int)
  kl := fun x => .int .u64 (x : Int)
  ok := fun x => x < 18446744073709551616
  law := Go.Maps.int_keyed Tryz.underlying33
  key := fun _ hk => Go.Maps.keyOf_int_mk Tryz.underlying33 (wfU hk)
  inj := fun a b h => by simp at h; omega
theorem laidH : laidOutB Tryz.prog = true := by kernel_rfl
theorem rowH : (148 : TypeId) < Tryz.prog.types.size := of_decide_eq_true (by kernel_rfl)
theorem wideH : (match Tryz.prog.underlying 148 with | some (.array _ _) | some (.struct _) => true | _ => false) = true := by kernel_rfl
set_option maxRecDepth 100000 in
theorem lawH : Keyed Tryz.prog 148 := Keyed.of_law (deep_law_laid laidH (m := 3) (by omega) rowH (by kernel_rfl) wideH)
theorem keyTypeH : Tryz.prog.keyType 148 = true := by kernel_rfl
theorem cellsH : Tryz.prog.cellsOf 148 = 2 := by kernel_rfl
theorem cellsU : Tryz.prog.cellsOf 33 = 1 := by kernel_rfl
theorem cellsS : Tryz.prog.cellsOf 9 = 1 := by kernel_rfl
/-- what is held, as a value -/
abbrev holdV (k : Nat × ByteArray) : Value := .agg #[.int .u64 (k.1 : Int), .string k.2]
theorem keyH {k : Nat × ByteArray} (h1 : k.1 < 18446744073709551616) (h2 : k.2.size ≤ maxLen) : ∃ l, keyOf Tryz.prog 148 (holdV k) = some l := by
  have hall : ∀ d, ∃ l, (if Tryz.prog.keyType 148 && (holdV k).formed Tryz.prog 148 then (Tryz.prog.keyLits (d + 1 + 1) 148 (holdV k).cells.toList).map fun ls => Lit.string (keyBytes ls) else none) = some l := fun d => by
    have e1 := wfU h1
    have e3 : (holdV k).formed Tryz.prog 148 = true := by simp [Value.formed, Tryz.underlying148, cellsH]
    rw [keyTypeH, e3]
    simp only [Program.keyLits, Tryz.underlying148]
    simp [Value.cells, cellsH, cellsU, cellsS, e1, h2]
  obtain ⟨d, hd⟩ : ∃ d, Tryz.prog.types.size + 1 = d + 1 + 1 := by
    have h : 0 < Tryz.prog.types.size := Nat.lt_of_le_of_lt (Nat.zero_le _) rowH
    exact ⟨Tryz.prog.types.size - 1, by rw [Nat.sub_add_cancel h]⟩
  have e := Tryz.underlying148
  unfold keyOf
  rw [hd]
  split
  · exact hall d
  · exact hall d
  · rename_i h3 h4
    exact absurd e (h4 _)
/-- a transaction and a text as keys -/
noncomputable def KH : KeyRep Tryz.prog (Nat × ByteArray) 148 where
  kv := holdV
  kl := fun k => (keyOf Tryz.prog 148 (holdV k)).getD (.bool false)
  ok := fun k => k.1 < 18446744073709551616 ∧ k.2.size ≤ maxLen
  law := lawH
  key := fun k hk => by obtain ⟨l, hl⟩ := keyH hk.1 hk.2; rw [hl]; rfl
  inj := fun a b h => by
    obtain ⟨a1, a2⟩ := a
    obtain ⟨b1, b2⟩ := b
    simp at h
    obtain ⟨h3, h4⟩ := h
    have h5 : a1 = b1 := by omega
    rw [h5, h4]
/-- texts as elements -/
noncomputable def ES : ElRep ByteArray where
  R := plainElem Tryz.prog 9
  ev := .string
  el := fun s => .lit (.string s.data.toList)
  ok := fun s => s.size ≤ maxLen
  made := fun _ h => plainElem_string Tryz.underlying9 h
  inv := fun x v ps _ h => by
    obtain ⟨s, rfl, h2, _⟩ := plainElem_string_inv Tryz.underlying9 h
    simp only [Prod.mk.injEq, DataW.lit.injEq] at h2
    rw [keyL_inj h2.1]
/-- what a transaction is: its state, how many operations were done, the Ticks up to the last -/
structure ATxn where
  state : Nat
  done : Nat
  last : Nat
abbrev txnV (t : ATxn) : Value := .agg #[.int .i64 (t.state : Int), .int .i64 (t.done : Int), .int .u64 (t.last : Int)]
def txnR : Value → Option (DataW Unit × List MemPlace)
  | .agg cs => match cs.toList with
    | [.int .i64 a, .int .i64 b, .int .u64 c] => some (.agg [.lit (.int .i64 a), .lit (.int .i64 b), .lit (.int .u64 c)], [])
    | _ => none
  | _ => none
noncomputable def ET : ElRep ATxn where
  R := txnR
  ev := txnV
  el := fun t => .agg [.lit (.int .i64 (t.state : Int)), .lit (.int .i64 (t.done : Int)), .lit (.int .u64 (t.last : Int))]
  ok := fun _ => True
  made := fun _ _ => by simp [txnR]
  inv := fun x v ps _ h => by
    unfold txnR at h
    split at h
    · rename_i cs
      split at h
      · rename_i a b c hc
        simp at h
        obtain ⟨⟨rfl, rfl, rfl⟩, _⟩ := h
        show Value.agg cs = Value.agg _
        congr 1
        exact Array.toList_inj.1 (by rw [hc])
      · cases h
    · cases h
/-- how a key is held: 0 to read, 1 put, 2 deleted; what was put -/
structure AGrip where
  way : Nat
  val : ByteArray
abbrev gripV (g : AGrip) : Value := .agg #[.int .u8 (g.way : Int), .string g.val]
def gripR : Value → Option (DataW Unit × List MemPlace)
  | .agg cs => match cs.toList with
    | [.int .u8 a, .string s] => some (.agg [.lit (.int .u8 a), .lit (.string s.data.toList)], [])
    | _ => none
  | _ => none
noncomputable def EG : ElRep AGrip where
  R := gripR
  ev := gripV
  el := fun g => .agg [.lit (.int .u8 (g.way : Int)), .lit (.string g.val.data.toList)]
  ok := fun _ => True
  made := fun _ _ => by simp [gripR]
  inv := fun x v ps _ h => by
    unfold gripR at h
    split at h
    · rename_i cs
      split at h
      · rename_i a s hc
        simp only [Option.some.injEq, Prod.mk.injEq, DataW.agg.injEq, List.cons.injEq, DataW.lit.injEq, Lit.int.injEq, true_and, and_true] at h
        obtain ⟨⟨rfl, h2⟩, _⟩ := h
        rw [keyL_inj h2] at hc
        show Value.agg cs = Value.agg _
        congr 1
        exact Array.toList_inj.1 (by rw [hc])
      · cases h
    · cases h
theorem zeroTxn (w : World) : (zeroValue 153).run Tryz.prog w = .ok (ET.ev ⟨0, 0, 0⟩) w := by kernel_rfl
theorem zeroGrip (w : World) : (zeroValue 146).run Tryz.prog w = .ok (EG.ev ⟨0, ByteArray.empty⟩) w := by kernel_rfl
theorem zeroStr (w : World) : (zeroValue 9).run Tryz.prog w = .ok (ES.ev ByteArray.empty) w := by kernel_rfl
end Go.Proofs.YtkhjhojmhllkaaaGreatDoor
