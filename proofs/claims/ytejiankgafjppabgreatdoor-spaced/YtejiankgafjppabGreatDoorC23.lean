import Derived.Test.YtejiankgafjppabGreatDoorC22
import Derived.DeepKeys5
import Derived.Test.YtejiankgafjppabGreatDoorC07
import Derived.BigQuiet
import Derived.Test.YtejiankgafjppabGreatDoorC08
import Derived.Test.YtejiankgafjppabGreatDoorC05
import Derived.Test.YtejiankgafjppabGreatDoorC15
import Derived.Test.YtejiankgafjppabGreatDoorC16
import Derived.Test.YtejiankgafjppabGreatDoorC14
import Derived.Test.YtejiankgafjppabGreatDoorC17
/- THE MAPS OF A SHARD: how their keys and elements are written. -/
namespace Go.Proofs.YtejiankgafjppabGreatDoor
open Go.RowKit Go.Maps
open Sc

/-- texts as keys -/
noncomputable def KS : KeyRep Tryz.prog ByteArray 9 where
  kv := .string
  kl := keyL
  ok := fun k => k.size ≤ maxLen
  law := Tryz.lawS
  key := fun _ hk => Go.WideMaps.keyOf_string_mk Tryz.underlying9 hk
  inj := fun _ _ h => by simpa using h
theorem wfU {x : Nat} (h : x < 18446744073709551616) : (Lit.int .u64 (x : Int)).wf = true := by
  have h1 : IntKind.u64.min = 0 := rfl
  have h2 : IntKind.u64.max = 18446744073709551615 := rfl
  simp [Lit.wf, h1, h2]
  omega
/-- ids as keys -/
noncomputable def KU : KeyRep Tryz.prog Nat 28 where
  kv := fun x => .int .u64 (x : Int)
  kl := fun x => .int .u64 (x : Int)
  ok := fun x => x < 18446744073709551616
  law := Go.Maps.int_keyed Tryz.underlying28
  key := fun _ hk => Go.Maps.keyOf_int_mk Tryz.underlying28 (wfU hk)
  inj := fun a b h => by simp at h; omega
theorem laidH : laidOutB Tryz.prog = true := by kernel_rfl
theorem rowH : (182 : TypeId) < Tryz.prog.types.size := of_decide_eq_true (by kernel_rfl)
theorem wideH : (match Tryz.prog.underlying 182 with | some (.array _ _) | some (.struct _) => true | _ => false) = true := by kernel_rfl
set_option maxRecDepth 100000 in
theorem lawH : Keyed Tryz.prog 182 := Keyed.of_law (deep_law_laid laidH (m := 3) (by omega) rowH (by kernel_rfl) wideH)
theorem keyTypeH : Tryz.prog.keyType 182 = true := by kernel_rfl
theorem cellsH : Tryz.prog.cellsOf 182 = 2 := by kernel_rfl
theorem cellsU : Tryz.prog.cellsOf 28 = 1 := by kernel_rfl
theorem cellsS : Tryz.prog.cellsOf 9 = 1 := by kernel_rfl
/-- what is held, as a value -/
abbrev holdV (k : Nat × ByteArray) : Value := .agg #[.int .u64 (k.1 : Int), .string k.2]
theorem keyH {k : Nat × ByteArray} (h1 : k.1 < 18446744073709551616) (h2 : k.2.size ≤ maxLen) : ∃ l, keyOf Tryz.prog 182 (holdV k) = some l := by
  have hall : ∀ d, ∃ l, (if Tryz.prog.keyType 182 && (holdV k).formed Tryz.prog 182 then (Tryz.prog.keyLits (d + 1 + 1) 182 (holdV k).cells.toList).map fun ls => Lit.string (keyBytes ls) else none) = some l := fun d => by
    have e1 := wfU h1
    have e3 : (holdV k).formed Tryz.prog 182 = true := by simp [Value.formed, Tryz.underlying182, cellsH]
    rw [keyTypeH, e3]
    simp only [Program.keyLits, Tryz.underlying182]
    simp [Value.cells, cellsH, cellsU, cellsS, e1, h2]
  obtain ⟨d, hd⟩ : ∃ d, Tryz.prog.types.size + 1 = d + 1 + 1 := by
    have h : 0 < Tryz.prog.types.size := Nat.lt_of_le_of_lt (Nat.zero_le _) rowH
    exact ⟨Tryz.prog.types.size - 1, by rw [Nat.sub_add_cancel h]⟩
  have e := Tryz.underlying182
  unfold keyOf
  rw [hd]
  split
  · exact hall d
  · exact hall d
  · rename_i h3 h4
    exact absurd e (h4 _)
/-- a transaction and a text as keys -/
noncomputable def KH : KeyRep Tryz.prog (Nat × ByteArray) 182 where
  kv := holdV
  kl := fun k => (keyOf Tryz.prog 182 (holdV k)).getD (.bool false)
  ok := fun k => k.1 < 18446744073709551616 ∧ k.2.size ≤ maxLen
  law := lawH
  key := fun k hk => by obtain ⟨l, hl⟩ := keyH hk.1 hk.2; rw [hl]; rfl
  inj := fun a b h => by
    obtain ⟨a1, a2⟩ := a
    obtain ⟨b1, b2⟩ := b
    simp at h
    obtain ⟨h3, h4⟩ := h
    have h5 : a1 = b1 := by omega
    rw [h5, h4]
/-- texts as elements -/
noncomputable def ES : ElRep ByteArray where
  R := plainElem Tryz.prog 9
  ev := .string
  el := fun s => .lit (.string s.data.toList)
  ok := fun s => s.size ≤ maxLen
  made := fun _ h => plainElem_string Tryz.underlying9 h
  inv := fun x v ps _ h => by
    obtain ⟨s, rfl, h2, _⟩ := plainElem_string_inv Tryz.underlying9 h
    simp only [Prod.mk.injEq, DataW.lit.injEq] at h2
    rw [keyL_inj h2.1]
/-- what a transaction is: its state, how many operations were done, the Ticks up to the last -/
structure ATxn where
  state : Nat
  done : Nat
  last : Nat
abbrev txnV (t : ATxn) : Value := .agg #[.int .i64 (t.state : Int), .int .i64 (t.done : Int), .int .u64 (t.last : Int)]
def txnR : Value → Option (DataW Unit × List MemPlace)
  | .agg cs => match cs.toList with
    | [.int .i64 a, .int .i64 b, .int .u64 c] => some (.agg [.lit (.int .i64 a), .lit (.int .i64 b), .lit (.int .u64 c)], [])
    | _ => none
  | _ => none
noncomputable def ET : ElRep ATxn where
  R := txnR
  ev := txnV
  el := fun t => .agg [.lit (.int .i64 (t.state : Int)), .lit (.int .i64 (t.done : Int)), .lit (.int .u64 (t.last : Int))]
  ok := fun _ => True
  made := fun _ _ => by simp [txnR]
  inv := fun x v ps _ h => by
    unfold txnR at h
    split at h
    · rename_i cs
      split at h
      · rename_i a b c hc
        simp at h
        obtain ⟨⟨rfl, rfl, rfl⟩, _⟩ := h
        show Value.agg cs = Value.agg _
        congr 1
        exact Array.toList_inj.1 (by rw [hc])
      · cases h
    · cases h
/-- how a key is held: 0 to read, 1 put, 2 deleted; what was put -/
structure AGrip where
  way : Nat
  val : ByteArray
abbrev gripV (g : AGrip) : Value := .agg #[.int .u8 (g.way : Int), .string g.val]
def gripR : Value → Option (DataW Unit × List MemPlace)
  | .agg cs => match cs.toList with
    | [.int .u8 a, .string s] => some (.agg [.lit (.int .u8 a), .lit (.string s.data.toList)], [])
    | _ => none
  | _ => none
noncomputable def EG : ElRep AGrip where
  R := gripR
  ev := gripV
  el := fun g => .agg [.lit (.int .u8 (g.way : Int)), .lit (.string g.val.data.toList)]
  ok := fun _ => True
  made := fun _ _ => by simp [gripR]
  inv := fun x v ps _ h => by
    unfold gripR at h
    split at h
    · rename_i cs
      split at h
      · rename_i a s hc
        simp only [Option.some.injEq, Prod.mk.injEq, DataW.agg.injEq, List.cons.injEq, DataW.lit.injEq, Lit.int.injEq, true_and, and_true] at h
        obtain ⟨⟨rfl, h2⟩, _⟩ := h
        rw [keyL_inj h2] at hc
        show Value.agg cs = Value.agg _
        congr 1
        exact Array.toList_inj.1 (by rw [hc])
      · cases h
    · cases h
theorem zeroTxn (w : World) : (zeroValue 206).run Tryz.prog w = .ok (ET.ev ⟨0, 0, 0⟩) w := by kernel_rfl
theorem zeroGrip (w : World) : (zeroValue 129).run Tryz.prog w = .ok (EG.ev ⟨0, ByteArray.empty⟩) w := by kernel_rfl
theorem zeroStr (w : World) : (zeroValue 9).run Tryz.prog w = .ok (ES.ev ByteArray.empty) w := by kernel_rfl
end Go.Proofs.YtejiankgafjppabGreatDoor
/- SHARDS: how one lies in memory; State, Value, writes. -/
namespace Go.Proofs.YtejiankgafjppabGreatDoor
open Go.RowKit Go.Maps
open Sc

structure AShard where
  vals : List (ByteArray × ByteArray)
  txns : List (Nat × ATxn)
  holds : List ((Nat × ByteArray) × AGrip)
  ticks : Nat
/-- what is known of a transaction -/
def AShard.txn (s : AShard) (t : Nat) : ATxn := (alLook s.txns t).getD ⟨0, 0, 0⟩
/-- how a key is held -/
def AShard.grip (s : AShard) (t : Nat) (k : ByteArray) : AGrip := (alLook s.holds (t, k)).getD ⟨0, ByteArray.empty⟩
/-- where its ledger lies; 0: it has none yet -/
def lgP (lg : Nat) : Option Addr := if lg = 0 then none else some ⟨lg, 0, none⟩
theorem lgP_pos {lg : Nat} (h : 1 ≤ lg) : lgP lg = some ⟨lg, 0, none⟩ := if_neg (by omega)
abbrev shO (lg bV bT bH : Nat) (ticks : Nat) : Obj := .cells #[.pointer (lgP lg), .map (some bV), .map (some bT), .map (some bH), .int .u64 (ticks : Int)] 136
structure ShIn (w : World) (sp lg bV bT bH n : Nat) (s : AShard) : Prop where
  blk : w.heap[sp]? = some (shO lg bV bT bH s.ticks)
  vals : MapAs KS ES w bV n s.vals
  txns : MapAs KU ET w bT n s.txns
  holds : MapAs KH EG w bH n s.holds
  ne : bV ≠ bT ∧ bV ≠ bH ∧ bT ≠ bH
  ticks : s.ticks < 18446744073709551616
theorem ShIn.fr {w w' : World} {sp lg bV bT bH n : Nat} {s : AShard} {S : List Nat} (h : ShIn w sp lg bV bT bH n s) (hf : Fr S w w') (h1 : sp ∉ S) (h2 : bV ∉ S) (h3 : bT ∉ S) (h4 : bH ∉ S) : ShIn w' sp lg bV bT bH n s where
  blk := (hf.block sp (Array.getElem?_eq_some_iff.1 h.blk).1 h1).trans h.blk
  vals := h.vals.fr hf h2
  txns := h.txns.fr hf h3
  holds := h.holds.fr hf h4
  ne := h.ne
  ticks := h.ticks
section
variable {w : World} {sp lg bV bT bH n : Nat} {s : AShard}
theorem ShIn.lookT (h : ShIn w sp lg bV bT bH n s) {t : Nat} (ht : t < 18446744073709551616) :
    (Instr.lookup 133 (.map (some bT)) (.int .u64 (t : Int)) false).run Tryz.prog w = .ok (.agg #[.int .i64 ((s.txn t).state : Int), .int .i64 ((s.txn t).done : Int), .int .u64 ((s.txn t).last : Int)]) w :=
  h.txns.look Tryz.underlying133 (zeroTxn w) trivial (k := t) ht
theorem ShIn.lookV (h : ShIn w sp lg bV bT bH n s) {k : ByteArray} (hk : k.size ≤ maxLen) :
    (Instr.lookup 132 (.map (some bV)) (.string k) true).run Tryz.prog w = .ok (.tuple #[.string ((alLook s.vals k).getD ByteArray.empty), .bool (alLook s.vals k).isSome]) w :=
  h.vals.lookOk Tryz.underlying132 (zeroStr w) (by show (0 : Nat) ≤ maxLen; omega) (k := k) hk
theorem ShIn.lookH (h : ShIn w sp lg bV bT bH n s) {t : Nat} {k : ByteArray} (ht : t < 18446744073709551616) (hk : k.size ≤ maxLen) :
    (Instr.lookup 134 (.map (some bH)) (.agg #[.int .u64 (t : Int), .string k]) false).run Tryz.prog w = .ok (.agg #[.int .u8 ((s.grip t k).way : Int), .string (s.grip t k).val]) w :=
  h.holds.look Tryz.underlying134 (zeroGrip w) trivial (k := (t, k)) ⟨ht, hk⟩
theorem ShIn.lookHok (h : ShIn w sp lg bV bT bH n s) {t : Nat} {k : ByteArray} (ht : t < 18446744073709551616) (hk : k.size ≤ maxLen) :
    (Instr.lookup 134 (.map (some bH)) (.agg #[.int .u64 (t : Int), .string k]) true).run Tryz.prog w = .ok (.tuple #[.agg #[.int .u8 ((s.grip t k).way : Int), .string (s.grip t k).val], .bool (alLook s.holds (t, k)).isSome]) w :=
  h.holds.lookOk Tryz.underlying134 (zeroGrip w) trivial (k := (t, k)) ⟨ht, hk⟩
end
theorem fieldT0 (a b c : Int) (w : World) : (Instr.field 206 (.agg #[.int .i64 a, .int .i64 b, .int .u64 c]) 0).run Tryz.prog w = .ok (.int .i64 a) w := by kernel_rfl
set_option maxRecDepth 100000 in
set_option maxHeartbeats 2000000 in
theorem state_any (sp lg bV bT bH n t : Nat) (s : AShard) (w : World) (h : ShIn w sp lg bV bT bH n s) (ht : t < 18446744073709551616) :
    Calls Tryz.prog 71 #[.pointer (some ⟨sp, 0, none⟩), .int .u64 (t : Int)] w fun e w' => e = .returned (.int .i64 ((s.txn t).state : Int)) ∧ ∃ q, w' = w.drewN q := by
  have c2 := blk_cell h.blk 2
  simp at c2
  have hl := h.lookT ht
  have hf0 := fieldT0
  obtain ⟨T, hT⟩ : ∃ T, T = s.txn t := ⟨_, rfl⟩
  rw [← hT] at hl ⊢
  clear h hT
  go_enter Tryz.func71, Tryz.ntmps71
  go_wp2
  go_ret
  exact ⟨rfl, 0, rfl⟩
set_option maxRecDepth 100000 in
set_option maxHeartbeats 2000000 in
theorem value_any (sp lg bV bT bH n : Nat) (k : ByteArray) (s : AShard) (w : World) (h : ShIn w sp lg bV bT bH n s) (hk : k.size ≤ maxLen) :
    Calls Tryz.prog 67 #[.pointer (some ⟨sp, 0, none⟩), .string k] w fun e w' => e = .returned (.tuple #[.string ((alLook s.vals k).getD ByteArray.empty), .bool (alLook s.vals k).isSome]) ∧ ∃ q, w' = w.drewN q := by
  have c1 := blk_cell h.blk 1
  simp at c1
  have hl := h.lookV hk
  obtain ⟨V, hV⟩ : ∃ V, V = (alLook s.vals k).getD ByteArray.empty := ⟨_, rfl⟩
  obtain ⟨O, hO⟩ : ∃ O, O = (alLook s.vals k).isSome := ⟨_, rfl⟩
  rw [← hV, ← hO] at hl ⊢
  clear h hV hO
  go_enter Tryz.func67, Tryz.ntmps67
  go_wp2
  go_ret2
  exact ⟨rfl, 0, rfl⟩
end Go.Proofs.YtejiankgafjppabGreatDoor
/- SHARDS: writes, clashes. -/
namespace Go.Proofs.YtejiankgafjppabGreatDoor
open Go.RowKit Go.Maps
open Sc

def AGrip.writes (g : AGrip) : Bool := !decide (g.way = 0)
set_option maxRecDepth 100000 in
set_option maxHeartbeats 2000000 in
theorem gwrites (g : AGrip) (w : World) : Calls Tryz.prog 111 #[.agg #[.int .u8 (g.way : Int), .string g.val]] w fun e w' => e = .returned (.bool g.writes) ∧ w' = w.alloc (.cells #[.int .u8 (g.way : Int), .string g.val] 129) := by
  go_enter Tryz.func111, Tryz.ntmps111
  go_wp2
  go_ret
  refine ⟨?_, rfl⟩
  congr 2
  unfold AGrip.writes
  by_cases h : g.way = 0
  · simp [h]
  · simp [h]
/-- does another hold the key in such a way? -/
def clashAt (s : AShard) (t : Nat) (k : ByteArray) (wr : Bool) (o : Nat) : Bool :=
  (alLook s.holds (o, k)).isSome && (!decide (o = t) && ((s.grip o k).writes || wr))
def AShard.clash (s : AShard) (t : Nat) (k : ByteArray) (wr : Bool) : Bool := s.txns.any fun p => clashAt s t k wr p.1
set_option maxRecDepth 100000 in
set_option maxHeartbeats 4000000 in
theorem clashes_any (sp lg bV bT bH n t : Nat) (k : ByteArray) (g : AGrip) (s : AShard) (w : World) (h : ShIn w sp lg bV bT bH n s) (hk : k.size ≤ maxLen) :
    Calls Tryz.prog 123 #[.pointer (some ⟨sp, 0, none⟩), .int .u64 (t : Int), .string k, .agg #[.int .u8 (g.way : Int), .string g.val]] w fun e w' => e = .returned (.bool (s.clash t k g.writes)) ∧ Fr [] w w' := by
  have HI : Hid (ShIn w sp lg bV bT bH n s) := h
  have c2 := blk_cell h.blk 2
  simp at c2
  have hsp : sp < w.heap.size := (Array.getElem?_eq_some_iff.1 h.blk).1
  clear h
  go_enter Tryz.func123, Tryz.ntmps123
  go_wp2_with (first
    | (at_range; refine wpList_map_range (KR := KU) (ER := ET) rfl _ 133 206 rfl Tryz.underlying133 bT n s.txns rfl (HI.out.txns.fr ((Fr.refl [] w).alloc _) (by simp)) ?_; intro w0 hrg0 hg0 hs0)
    | go_in)
  have hsz1 : (w.alloc (.cells #[.int .u8 (g.way : Int), .string g.val] 129)).heap.size = w.heap.size + 1 := by simp
  rw [hsz1] at hrg0 hs0 ⊢
  clear hsz1
  go_frame
  have hf0 : Fr [] w w0 := ((Fr.refl [] w).alloc _).trans (Fr.of_grown hg0)
  have hgb0 : w0.heap[w.heap.size]? = some (.cells #[.int .u8 (g.way : Int), .string g.val] 129) := by
    rw [hg0.block w.heap.size (by simp) (by simp)]; exact heap_alloc_new _ _
  have HR0 : Hid (RangesAs KU ET w0 bT (w.heap.size + 1) n s.txns s.txns) := hrg0
  have hsz0 : w0.heap.size = w.heap.size + 2 := by omega
  have HF0 : Hid (Fr [] w w0) := hf0
  have HGB0 : Hid (w0.heap[w.heap.size]? = some (.cells #[.int .u8 (g.way : Int), .string g.val] 129)) := hgb0
  clear hrg0 hg0 hs0 hf0 hgb0
  go_loopw [9] (fun _ wr => ∃ rem, Hid (RangesAs KU ET wr bT (w.heap.size + 1) n s.txns rem ∧ (∀ p ∈ s.txns, p ∉ rem → clashAt s t k g.writes p.1 = false) ∧ Fr [] w wr ∧ wr.heap[w.heap.size]? = some (.cells #[.int .u8 (g.way : Int), .string g.val] 129) ∧ w.heap.size + 2 ≤ wr.heap.size)) (fun _ wr => wr.rangeLeft bT (w.heap.size + 1))
  case atStart => exact ⟨s.txns, HR0.out, fun p h1 h2 => absurd h1 h2, HF0.out, HGB0.out, by omega⟩
  case round =>
    obtain ⟨rem, HX⟩ := hrel
    have hrg := HX.out.1
    go_wp2_with (first
      | (at_next; refine wpList_map_next (KR := KU) (ER := ET) rfl _ rfl bT (w.heap.size + 1) n s.txns rem rfl hrg ?_ ?_)
      | go_in)
    · intro hnil
      go_wp2
      go_ret
      refine ⟨?_, HX.out.2.2.1⟩
      have hno : s.clash t k g.writes = false := by
        unfold AShard.clash
        rw [List.any_eq_false]
        intro p hp
        rw [HX.out.2.1 p hp (by rw [hnil]; simp)]
        simp
      rw [hno]; rfl
    · intro o x w2 hm hrg2 hlt hg2 hs2 hen
      have hms : (o, x) ∈ s.txns := by
        obtain ⟨_, _, _, _, _, _, _, _, h6, _⟩ := hrg
        exact h6 _ hm
      have ho : o < 18446744073709551616 := by
        obtain ⟨_, _, _, _, hok⟩ := hrg.owns
        exact (hok _ hms).1
      have hf2 : Fr [] w w2 := HX.out.2.2.1.andThen (Fr.of_grown1 hg2) (fun j hj hl => by simp at hj; omega)
      have hin2 := HI.out.fr hf2 (by simp) (by simp) (by simp) (by simp)
      have hgb2 : w2.heap[w.heap.size]? = some (.cells #[.int .u8 (g.way : Int), .string g.val] 129) := by
        rw [hg2.block w.heap.size (by have := HX.out.2.2.2.2; omega) (by simp)]; exact HX.out.2.2.2.1
      have c3 := blk_cell hin2.blk 3
      simp at c3
      have hl := hin2.lookHok ho hk
      have HH : Hid (clashAt s t k g.writes o = ((alLook s.holds (o, k)).isSome && (!decide (o = t) && ((s.grip o k).writes || g.writes)))) := rfl
      obtain ⟨G, hG⟩ : ∃ G, G = s.grip o k := ⟨_, rfl⟩
      obtain ⟨O, hO⟩ : ∃ O, O = (alLook s.holds (o, k)).isSome := ⟨_, rfl⟩
      rw [← hG, ← hO] at hl HH
      clear hG hO
      have HRG2 : Hid (RangesAs KU ET w2 bT (w.heap.size + 1) n s.txns (alDel rem o)) := hrg2
      have HF2 : Hid (Fr [] w w2) := hf2
      have HGB2 : Hid (w2.heap[w.heap.size]? = some (.cells #[.int .u8 (g.way : Int), .string g.val] 129)) := hgb2
      have hsz2 : w.heap.size + 2 ≤ w2.heap.size := by have := HX.out.2.2.2.2; omega
      have hen' : (Instr.entry (.pointer (some ⟨w.heap.size + 1, 0, none⟩))).run Tryz.prog w2 = .ok (.tuple #[.int .u64 (o : Int), .agg #[.int .i64 (x.state : Int), .int .i64 (x.done : Int), .int .u64 (x.last : Int)]]) w2 := hen
      have HM : Hid ((o, x) ∈ rem ∧ (o, x) ∈ s.txns) := ⟨hm, hms⟩
      have HLT : Hid (w2.rangeLeft bT (w.heap.size + 1) < wr.rangeLeft bT (w.heap.size + 1)) := hlt
      clear hrg hrg2 hf2 hin2 hgb2 hm hms hen hg2 hs2 hlt
      have GO : Hid (clashAt s t k g.writes o = false → ∀ W, Fr [] w2 W → (∃ rem, Hid (RangesAs KU ET W bT (w.heap.size + 1) n s.txns rem ∧ (∀ p ∈ s.txns, p ∉ rem → clashAt s t k g.writes p.1 = false) ∧ Fr [] w W ∧ W.heap[w.heap.size]? = some (.cells #[.int .u8 (g.way : Int), .string g.val] 129) ∧ w.heap.size + 2 ≤ W.heap.size)) ∧ W.rangeLeft bT (w.heap.size + 1) < wr.rangeLeft bT (w.heap.size + 1)) := fun hc W hW => by
        obtain ⟨r1, r2⟩ := HRG2.out.fr hW (by simp) (by simp)
        refine ⟨⟨alDel rem o, r1, fun p hp hn => ?_, HF2.out.trans hW, (hW.block _ (by omega) (by simp)).trans HGB2.out, Nat.le_trans hsz2 hW.size⟩, by rw [r2]; exact HLT.out⟩
        by_cases hpr : p ∈ rem
        · have hpo : p.1 = o := Decidable.byContradiction fun hne => hn (List.mem_filter.2 ⟨hpr, by simp [hne]⟩)
          rw [hpo]; exact hc
        · exact HX.out.2.1 p hp hpr
      have YES : Hid (clashAt s t k g.writes o = true → s.clash t k g.writes = true) := fun hc => by
        unfold AShard.clash
        rw [List.any_eq_true]
        exact ⟨_, HM.out.2, hc⟩
      cases O with
      | false =>
        have GO2 : Hid _ := GO.out (by rw [HH.out]; rfl)
        clear GO YES
        go_wp2
        exact GO2.out _ ((Fr.refl [] w2).alloc _)
      | true =>
        have q0 := blk_cell HGB2.out 0
        have q1 := blk_cell HGB2.out 1
        simp at q0 q1
        have z1 : w.heap.size < w2.heap.size := by omega
        have z2 : ¬ w.heap.size = w2.heap.size := by omega
        have z3 : ¬ w.heap.size = w2.heap.size + 1 := by omega
        by_cases hot : o = t
        · have GO2 : Hid _ := GO.out (by rw [HH.out]; simp [hot])
          have hb : ((o : Int) != (t : Int)) = false := by simp [hot]
          clear GO YES hot
          go_wp2
          exact GO2.out _ ((Fr.refl [] w2).alloc _)
        · have hb : ((o : Int) != (t : Int)) = true := by simp; omega
          by_cases hG0 : G.way = 0
          · have hb1 : ((G.way : Int) != 0) = false := by simp [hG0]
            have hGw : G.writes = false := by simp [AGrip.writes, hG0]
            by_cases hg0 : g.way = 0
            · have hb2 : ((g.way : Int) != 0) = false := by simp [hg0]
              have hgw : g.writes = false := by simp [AGrip.writes, hg0]
              have GO2 : Hid _ := GO.out (by rw [HH.out, hGw, hgw]; simp)
              clear GO YES hot hG0 hg0 hGw hgw
              go_wp2
              exact GO2.out _ ((((Fr.refl [] w2).alloc _).alloc _).alloc _)
            · have hb2 : ((g.way : Int) != 0) = true := by simp [hg0]
              have hgw : g.writes = true := by simp [AGrip.writes, hg0]
              have YES2 : Hid _ := YES.out (by rw [HH.out, hGw, hgw]; simp [hot])
              clear GO YES hot hG0 hg0 hGw hgw
              go_wp2
              go_ret
              exact ⟨by rw [YES2.out]; rfl, HF2.out.trans ((((Fr.refl [] w2).alloc _).alloc _).alloc _)⟩
          · have hb1 : ((G.way : Int) != 0) = true := by simp [hG0]
            have hGw : G.writes = true := by simp [AGrip.writes, hG0]
            have YES2 : Hid _ := YES.out (by rw [HH.out, hGw]; simp [hot])
            clear GO YES hot hG0 hGw
            go_wp2
            go_ret
            exact ⟨by rw [YES2.out]; rfl, HF2.out.trans (((Fr.refl [] w2).alloc _).alloc _)⟩
end Go.Proofs.YtejiankgafjppabGreatDoor
/- SHARDS: what turns of one; take, as mathematics. -/
namespace Go.Proofs.YtejiankgafjppabGreatDoor
open Go.RowKit Go.Maps
open Sc

theorem frDrewN {S : List Nat} {a w : World} (h : Fr S a w) : ∀ k, Fr S a (w.drewN k)
  | 0 => h
  | k + 1 => (frDrewN h k).drew
theorem ShIn.mono {w : World} {sp lg bV bT bH n m : Nat} {s : AShard} (h : ShIn w sp lg bV bT bH n s) (hn : n ≤ m) : ShIn w sp lg bV bT bH m s :=
  { h with vals := h.vals.mono hn, txns := h.txns.mono hn, holds := h.holds.mono hn }
theorem ShIn.lts {w : World} {sp lg bV bT bH n : Nat} {s : AShard} (h : ShIn w sp lg bV bT bH n s) : sp < w.heap.size ∧ bV < w.heap.size ∧ bT < w.heap.size ∧ bH < w.heap.size ∧ sp ≠ bV ∧ sp ≠ bT ∧ sp ≠ bH := by
  refine ⟨(Array.getElem?_eq_some_iff.1 h.blk).1, h.vals.lt, h.txns.lt, h.holds.lt, ?_, ?_, ?_⟩
  · rintro rfl; obtain ⟨es, c, e⟩ := h.vals.isMap; rw [h.blk] at e; cases e
  · rintro rfl; obtain ⟨es, c, e⟩ := h.txns.isMap; rw [h.blk] at e; cases e
  · rintro rfl; obtain ⟨es, c, e⟩ := h.holds.isMap; rw [h.blk] at e; cases e
/-- what is held has turned -/
theorem ShIn.setHolds {w w' : World} {sp lg bV bT bH n m : Nat} {s : AShard} {hs : List ((Nat × ByteArray) × AGrip)} (h : ShIn w sp lg bV bT bH n s) (hf : Fr [bH] w w') (hm : MapAs KH EG w' bH m hs) (hn : n ≤ m) : ShIn w' sp lg bV bT bH m { s with holds := hs } :=
  { blk := (hf.block sp h.lts.1 (by simp; exact h.lts.2.2.2.2.2.2)).trans h.blk
    vals := (h.vals.fr hf (by simp; exact h.ne.2.1)).mono hn
    txns := (h.txns.fr hf (by simp; exact h.ne.2.2)).mono hn
    holds := hm
    ne := h.ne
    ticks := h.ticks }
def AShard.take (s : AShard) (t : Nat) (k : ByteArray) (g : AGrip) : AShard := if (g.writes || !(s.grip t k).writes) = true then { s with holds := alPut s.holds (t, k) g } else s
end Go.Proofs.YtejiankgafjppabGreatDoor
/- (*disk).Read. -/
namespace Go.Proofs.YtejiankgafjppabGreatDoor
open Go.RowKit
open Sc

/-- Read: the text, the error's number -/
def ADisk.read (d : ADisk) (nm : ByteArray) : Option ByteArray × Nat :=
  if d.down = true then (none, 10) else match d.now nm with | none => (none, 8) | some t => (some t, 0)
/-- what came of Read -/
def Got (t : Option ByteArray) (v : Value) (w' : World) : Prop :=
  match t with
  | none => v = .slice none 0 0
  | some t => Src w' v (bytesOf t)
def ReadPost (d : ADisk) (nm : ByteArray) (w : World) (e : Ending) (w' : World) : Prop :=
  ∃ v, e = .returned (.tuple #[v, errN (d.read nm).2]) ∧ Got (d.read nm).1 v w' ∧ Below w.heap.size w w'
set_option maxRecDepth 100000 in
set_option maxHeartbeats 1000000 in
theorem read_any (B p bD bN n nD nN : Nat) (pv : Value) (d : ADisk) (nm : ByteArray) (w : World) (h : DiskIn w B p bD bN pv d n nD nN) (hnm : nm.size ≤ maxLen) :
    Calls Tryz.prog 410 #[.pointer (some ⟨p, 0, none⟩), .string nm] w (ReadPost d nm w) := by
  have p1 := blk_cell h.blk 1
  have p5 := blk_cell h.blk 5
  simp at p1 p5
  have HI : Hid (DiskIn w B p bD bN pv d n nD nN) := h
  clear h
  cases hd : d.down with
  | true =>
    rw [hd] at p5
    have HD : Hid (d.down = true) := hd
    clear hd
    go_enter Tryz.func410, Tryz.ntmps410
    go_wp2
    go_ret2
    have e : d.read nm = (none, 10) := by unfold ADisk.read; rw [if_pos HD.out]
    refine ⟨.slice none 0 0, by rw [e]; rfl, by rw [e]; rfl, Below.refl _ _⟩
  | false =>
    rw [hd] at p5
    have HD : Hid (d.down = false) := hd
    clear hd
    rcases HI.out.now.look nm hnm with ⟨hN, hl⟩ | ⟨t, q, hN, hq, hl⟩
    · have HN : Hid (d.now nm = none) := hN
      clear hN
      go_enter Tryz.func410, Tryz.ntmps410
      go_wp2
      go_ret2
      have e : d.read nm = (none, 8) := by unfold ADisk.read; rw [if_neg (by rw [HD.out]; decide), HN.out]
      refine ⟨.slice none 0 0, by rw [e]; rfl, by rw [e]; rfl, Below.refl _ _⟩
    · have HN : Hid (d.now nm = some t) := hN
      have hc := text_cell hq
      have hsz : t.size ≤ maxLen := by
        have h1 := HI.out.leN nm t hN
        have h2 := HI.out.hN
        have h3 := HI.out.hn
        unfold maxLen
        omega
      have hrb := run_bytes w t
      clear hN hq
      go_enter Tryz.func410, Tryz.ntmps410
      go_wp2
      go_ret2
      have e : d.read nm = (some t, 0) := by unfold ADisk.read; rw [if_neg (by rw [HD.out]; decide), HN.out]
      refine ⟨_, by rw [e]; rfl, by rw [e]; exact src_str w t hsz, ?_⟩
      exact (Below.refl _ _).drew.alloc (Nat.le_refl _) _
end Go.Proofs.YtejiankgafjppabGreatDoor
/- OPENING OVER NOTHING: the small calls. -/
namespace Go.Proofs.YtejiankgafjppabGreatDoor
open Go.RowKit Go.Maps
open Sc

set_option maxRecDepth 100000 in
set_option maxHeartbeats 2000000 in
theorem names_empty (B p bD bN n nD : Nat) (pv : Value) (d : ADisk) (w : World) (h : DiskIn w B p bD bN pv d n nD 0) (hdn : d.down = false) :
    Calls Tryz.prog 409 #[.pointer (some ⟨p, 0, none⟩)] w fun e w' => e = .returned (.tuple #[.slice none 0 0, .nilIface]) ∧ Below w.heap.size w w' := by
  have c1 := blk_cell h.blk 1
  have c5 := blk_cell h.blk 5
  simp at c1 c5
  rw [hdn] at c5
  obtain ⟨D, hown, _⟩ := h.now
  have hsz := hown.size_le
  have hso := Tryz.sort_Strings_none
  clear h
  go_enter Tryz.func409, Tryz.ntmps409
  go_wp2_with (first
    | (at_range; refine wpList_range_own _ rfl _ 97 rfl 9 101 Tryz.lawS Tryz.underlying97 ptrElem bN 0 D rfl hown ?_; intro w0 hrg0 hg0 hs0)
    | go_in)
  go_frame
  have hbl : Below w.heap.size w w0 := ⟨hg0.os, hg0.tape, hg0.output, hg0.size, fun k hk => hg0.block k hk (by simp)⟩
  refine wp_loop_rounds 1 ?_
  rw [rounds_succ]
  go_wp2_with (first
    | (at_next; refine wpList_next_ranges _ rfl _ rfl 9 Tryz.lawS ptrElem encStr Value.pointer (fun key kl hk => by obtain ⟨x, hx, _⟩ := Maps.keyOf_str Tryz.underlying9 hk; exact ⟨x, hx⟩) (fun v y hv => ptrElem_shape hv) bN w.heap.size 0 _ _ _ rfl hrg0 ?_ ?_)
    | go_in)
  · intro _ _
    go_wp2_with fail
    refine (hso none 0 w0).mono ?_
    rintro e w1 ⟨rfl, rfl⟩
    go_wp2
    go_ret2
    exact ⟨rfl, hbl⟩
  · intro x c kl yd yp w2 cnt2 _ _ _ _ _ hlt
    omega
set_option maxRecDepth 100000 in
set_option maxHeartbeats 2000000 in
theorem insert_nil (w : World) : Calls Tryz.prog 328 #[.slice none 0 0, .int .i64 0, .int .i64 0] w fun e w' => e = .returned (.tuple #[]) ∧ w' = w := by
  go_enter Tryz.func328, Tryz.ntmps328
  go_wp2
  refine wp_loop_rounds 1 ?_
  rw [rounds_succ]
  go_wp2
  go_end0
  exact ⟨rfl, rfl⟩
set_option maxRecDepth 100000 in
set_option maxHeartbeats 2000000 in
theorem pdq_nil (k : Int) (w : World) : Calls Tryz.prog 286 #[.slice none 0 0, .int .i64 0, .int .i64 0, .int .i64 k] w fun e w' => e = .returned (.tuple #[]) ∧ w' = w := by
  go_enter Tryz.func286, Tryz.ntmps286
  go_wp2
  refine wp_loop_rounds 1 ?_
  rw [rounds_succ]
  go_wp2_with fail
  refine (insert_nil w).mono ?_
  rintro e w1 ⟨rfl, rfl⟩
  go_wp2
  refine bodyPost_ret (results_none rfl _ _ _) rfl ?_
  exact ⟨rfl, rfl⟩
set_option maxRecDepth 100000 in
set_option maxHeartbeats 2000000 in
theorem sortU_nil (w : World) : Calls Tryz.prog 236 #[.slice none 0 0] w fun e w' => e = .returned (.tuple #[]) ∧ w' = w := by
  go_enter Tryz.func236, Tryz.ntmps236
  go_wp2_with fail
  refine (Tryz.bits_Len 0 w (by omega) (by omega)).mono ?_
  rintro e w1 ⟨rfl, rfl⟩
  go_wp2_with fail
  refine (pdq_nil _ w1).mono ?_
  rintro e w1 ⟨rfl, rfl⟩
  go_wp2
  go_end0
  exact ⟨rfl, rfl⟩
set_option maxRecDepth 100000 in
set_option maxHeartbeats 2000000 in
theorem among_nil (w : World) : Calls Tryz.prog 196 #[.slice none 0 0] w fun e w' => e = .returned (.slice none 0 0) ∧ w' = w := by
  go_enter Tryz.func196, Tryz.ntmps196
  go_wp2
  refine wp_loop_rounds 1 ?_
  rw [rounds_succ]
  go_wp2_with fail
  refine (sortU_nil w).mono ?_
  rintro e w1 ⟨rfl, rfl⟩
  go_wp2
  go_ret
  exact ⟨rfl, rfl⟩
set_option maxRecDepth 100000 in
set_option maxHeartbeats 2000000 in
theorem search_nil (x : Int) (w : World) : Calls Tryz.prog 197 #[.slice none 0 0, .int .u64 x] w fun e w' => e = .returned (.tuple #[.int .i64 0, .bool false]) ∧ w' = w := by
  go_enter Tryz.func197, Tryz.ntmps197
  go_wp2
  refine wp_loop_rounds 1 ?_
  rw [rounds_succ]
  go_wp2
  go_ret2
  exact ⟨rfl, rfl⟩
set_option maxRecDepth 100000 in
set_option maxHeartbeats 2000000 in
theorem readMark_none (B p bD bN n nD nN : Nat) (pv : Value) (d : ADisk) (w : World) (h : DiskIn w B p bD bN pv d n nD nN) (hdn : d.down = false) (hno : d.now markNm = none) :
    Calls Tryz.prog 195 #[dskV p] w fun e w' => e = .returned (.tuple #[.int .u64 1, .nilIface]) ∧ Below w.heap.size w w' := by
  have hm := Tryz.mRead
  have hr := read_any B p bD bN n nD nN pv d markNm w h (by decide)
  have e : d.read markNm = (none, 8) := by unfold ADisk.read; rw [if_neg (by rw [hdn]; decide), hno]
  clear h
  go_enter Tryz.func195, Tryz.ntmps195
  go_wp2_with fail
  refine hr.mono ?_
  clear hr
  rintro e1 w1 ⟨v, rfl, hgot, hb⟩
  rw [e] at hgot ⊢
  obtain rfl : v = .slice none 0 0 := hgot
  rw [errN_no (by decide)]
  go_wp2_with fail
  refine (is_same 8 w1).mono ?_
  rintro e2 w2 ⟨rfl, rfl⟩
  go_wp2
  go_ret2
  exact ⟨rfl, hb⟩
end Go.Proofs.YtejiankgafjppabGreatDoor
/- OPENING OVER NOTHING: (*Log).read, journal.Open. -/
namespace Go.Proofs.YtejiankgafjppabGreatDoor
open Go.RowKit
open Sc

def log0 (nx : Nat) : ALog := ⟨[], 600, [], nx, 0, 0⟩
set_option maxRecDepth 100000 in
set_option maxHeartbeats 2000000 in
theorem read_empty (B lp p bD bN n nD : Nat) (pv : Value) (d : ADisk) (w : World) (h : LogIn w B lp p bD bN pv (.slice none 0 0) (.slice none 0 0) (log0 0) d n nD 0) (hdn : d.down = false) (hno : d.now markNm = none) :
    Calls Tryz.prog 141 #[.pointer (some ⟨lp, 0, none⟩)] w fun e w' => e = .returned (.tuple #[.slice none 0 0, .nilIface]) ∧ LogIn w' B lp p bD bN pv (.slice none 0 0) (.slice none 0 0) (log0 1) d n nD 0 ∧ OFr lp p w w' := by
  have c0 := blk_cell h.blk 0
  simp at c0
  have HI : Hid (LogIn w B lp p bD bN pv (.slice none 0 0) (.slice none 0 0) (log0 0) d n nD 0) := h
  clear h
  have hm := Tryz.mNames
  go_enter Tryz.func141, Tryz.ntmps141
  go_wp2_with fail
  refine (names_empty B p bD bN n nD pv d w HI.out.disk hdn).mono ?_
  rintro e w1 ⟨rfl, hb1⟩
  have hf1 : Fr [] w w1 := Fr.of_below hb1 _
  have hl1 := HI.out.new hf1
  have ho1 := HI.out.newO hf1
  have k0 := blk_cell hl1.blk 0
  simp at k0
  have H1 : Hid (LogIn w1 B lp p bD bN pv (.slice none 0 0) (.slice none 0 0) (log0 0) d n nD 0 ∧ OFr lp p w w1) := ⟨hl1, ho1⟩
  clear hl1 ho1 hf1 hb1 c0
  go_wp2_with fail
  refine (readMark_none B p bD bN n nD 0 pv d w1 H1.out.1.disk hdn hno).mono ?_
  rintro e w2 ⟨rfl, hb2⟩
  have hf2 : Fr [] w1 w2 := Fr.of_below hb2 _
  have hl2 := H1.out.1.new hf2
  have ho2 := H1.out.2.trans (H1.out.1.newO hf2)
  have m4 := blk_cell hl2.blk 4
  have f4 := blk_free hl2.blk 4
  simp at m4
  have H2 : Hid (LogIn w2 B lp p bD bN pv (.slice none 0 0) (.slice none 0 0) (log0 0) d n nD 0 ∧ OFr lp p w w2) := ⟨hl2, ho2⟩
  clear hl2 ho2 hf2 hb2 k0
  obtain ⟨W, hW⟩ : ∃ W, W = w2.setCell ⟨lp, 4, none⟩ (.int .u64 1) := ⟨_, rfl⟩
  have hf3 : Fr [lp] w2 W := by rw [hW]; exact Fr.set1 (by simp) _ _
  have hb3 : W.heap[lp]? = some (logO p (.slice none 0 0) (.slice none 0 0) (log0 1)) := by rw [hW]; have := blk_set H2.out.1.blk 4 (.int .u64 1); simp [log0] at this ⊢; exact this
  have hn := H2.out.1.disk.hn
  have hl3 : LogIn W B lp p bD bN pv (.slice none 0 0) (.slice none 0 0) (log0 1) d n nD 0 := H2.out.1.own1 hf3 hb3 H2.out.1.segsN H2.out.1.recsN H2.out.1.fillN (by show 1 ≤ n + 1; omega) H2.out.1.durN rfl rfl
  have ho3 : OFr lp p w W := H2.out.2.trans (H2.out.1.ofr hl3 hf3 (fun k hk _ => by simp at hk; simp [hk]) (.inl rfl) (Near.refl _ _) (Near.refl _ _) (Near.refl _ _))
  have m4' := blk_cell hl3.blk 4
  simp [log0] at m4'
  have H3 : Hid (LogIn W B lp p bD bN pv (.slice none 0 0) (.slice none 0 0) (log0 1) d n nD 0 ∧ OFr lp p w W) := ⟨hl3, ho3⟩
  clear hl3 ho3 hf3 hb3
  subst hW
  go_wp2_with fail
  refine (among_nil _).mono ?_
  rintro e w4 ⟨rfl, rfl⟩
  go_wp2_with fail
  refine (search_nil 1 _).mono ?_
  rintro e w4 ⟨rfl, rfl⟩
  go_wp2_with fail
  refine (namesOf_nil _).mono ?_
  rintro e w4 ⟨rfl, rfl⟩
  go_wp2
  refine wp_loop_rounds 1 ?_
  rw [rounds_succ]
  go_wp2
  go_ret2
  exact ⟨rfl, H3.out.1, H3.out.2⟩
/-- the disk turned by itself, under a log -/
theorem LogIn.dturned {w w' : World} {B lp p bD bN n nD nN nD' nN' : Nat} {pv sv rv pv' : Value} {l : ALog} {d d' : ADisk} (h : LogIn w B lp p bD bN pv sv rv l d n nD nN) (hd : DiskIn w' B p bD bN pv' d' n nD' nN') (hf : DFr p w w') : LogIn w' B lp p bD bN pv' sv rv l d' n nD' nN' ∧ OFr lp p w w' := by
  have hlp := (Array.getElem?_eq_some_iff.1 h.blk).1
  have hne : ∀ k, k < w.heap.size → (k = lp ∨ sv.ownBlock = some k ∨ rv.ownBlock = some k) → ¬ OwnD p w k := fun k _ hk ho => by
    have := h.sep k ((h.disk.ownD k).1 ho)
    rcases hk with e | e | e
    · exact this.1 e
    · exact this.2.1 e
    · exact this.2.2 e
  have hblk : w'.heap[lp]? = some (logO p sv rv l) := (hf.block lp hlp (hne lp hlp (.inl rfl))).trans h.blk
  have hrow : ∀ (e : TypeId) (k m : Nat) (v : Value) (xs : List Value), (∀ g, v.ownBlock = some g → g = lp ∨ sv.ownBlock = some g ∨ rv.ownBlock = some g) → w.ownsRow B e k v m xs → w'.ownsRow B e k v m xs := fun e k m v xs hv hr => by
    refine ⟨hr.1, ?_⟩
    rcases hr.2 with h1 | ⟨g, cap, cur, rfl, h2, h3, h4⟩
    · exact .inl h1
    · exact .inr ⟨g, cap, cur, rfl, h2, (hf.block g (Array.getElem?_eq_some_iff.1 h3).1 (hne g (Array.getElem?_eq_some_iff.1 h3).1 (hv g rfl))).trans h3, h4⟩
  have hl : LogIn w' B lp p bD bN pv' sv rv l d' n nD' nN' := { disk := hd, blk := hblk, base := h.base, segs := hrow _ _ _ _ _ (fun g hg => .inr (.inl hg)) h.segs, recs := hrow _ _ _ _ _ (fun g hg => .inr (.inr hg)) h.recs, segsN := h.segsN, recsN := h.recsN, fillN := h.fillN, nextN := h.nextN, durN := h.durN }
  refine ⟨hl, hf.os, hf.tape, hf.output, hf.size, fun k hk hn => hf.block k hk (fun ho => hn ?_), fun k hk ho => ?_⟩
  · rw [h.own]
    have := (h.disk.ownD k).1 ho
    simp at this
    rcases this with e | e | e | e <;> simp [e]
  · rw [h.own]
    rcases (hl.own k).1 ho with e | e | e | e | e | e | e
    · exact .inl e
    · exact .inr (.inl e)
    · exact .inr (.inr (.inl e))
    · exact .inr (.inr (.inr (.inl e)))
    · have := (h.disk.ownD k).1 (hf.stay k hk ((hd.ownD k).2 (by simp [e])))
      simp at this
      rcases this with e | e | e | e <;> simp [e]
    · exact .inr (.inr (.inr (.inr (.inr (.inl e)))))
    · exact .inr (.inr (.inr (.inr (.inr (.inr e)))))
set_option maxRecDepth 100000 in
set_option maxHeartbeats 2000000 in
theorem open1_any (B lp p bD bN n nD nN bd bu : Nat) (pv sv rv : Value) (l : ALog) (d : ADisk) (w : World) (h : LogIn w B lp p bD bN pv sv rv l d n nD nN) (hd : w.heap[bd]? = some (.cells #[dskV p] 153)) (hu : w.heap[bu]? = some (.cells #[.slice none 0 0] 65)) :
    Calls Tryz.prog 144 #[.pointer (some ⟨bd, 0, none⟩), .pointer (some ⟨bu, 0, none⟩)] w (PutL B lp p bD bN n [] (l, d.removeAll []) w) := by
  have c0 := blk_cell hd 0
  have c1 := blk_cell hu 0
  simp at c0 c1
  have HI : Hid (LogIn w B lp p bD bN pv sv rv l d n nD nN) := h
  clear h hd hu
  go_enter Tryz.func144, Tryz.ntmps144
  go_wp2_with fail
  refine (removeAll_nil B p bD bN n nD nN pv d w HI.out.disk).mono ?_
  rintro e w1 ⟨rfl, ⟨pv1, nD1, nN1, hd1⟩, hf1⟩
  obtain ⟨hl1, ho1⟩ := HI.out.dturned hd1 hf1
  have H1 : Hid (LogIn w1 B lp p bD bN pv1 sv rv l (d.removeAll []).1 n nD1 nN1 ∧ OFr lp p w w1) := ⟨hl1, ho1⟩
  clear hl1 ho1 hd1 hf1
  go_wp2
  go_ret
  exact ⟨rfl, ⟨pv1, sv, rv, nD1, nN1, H1.out.1⟩, H1.out.2.x⟩
/-- the two steps of Open -/
def ALog.opens (l : ALog) (d : ADisk) : ALog × ADisk × Nat :=
  if (l.sync d).2.2 = 0 then ((l.sync d).1, (l.sync d).2.1.removeAll []) else l.sync d
set_option maxRecDepth 100000 in
set_option maxHeartbeats 2000000 in
theorem inTurnO (B lp p bD bN n nD nN gst bd bu : Nat) (pv sv rv : Value) (l : ALog) (d : ADisk) (w : World) (h : LogIn w B lp p bD bN pv sv rv l d n nD nN) (hn : n ≤ 67108864)
    (hst : w.heap[gst]? = some (.cells #[.func (.func 143) #[.pointer (some ⟨lp, 0, none⟩)] #[], .func (.func 144) #[] #[.pointer (some ⟨bd, 0, none⟩), .pointer (some ⟨bu, 0, none⟩)]] 96)) (hd : w.heap[bd]? = some (.cells #[dskV p] 153)) (hu : w.heap[bu]? = some (.cells #[.slice none 0 0] 65)) :
    Calls Tryz.prog 142 #[.slice (some ⟨gst, 0, none⟩) 2 2] w (PutL B lp p bD bN n [] (l.opens d) w) := by
  have z0 := blk_cell hst 0
  simp at z0
  have HI : Hid (LogIn w B lp p bD bN pv sv rv l d n nD nN) := h
  have n1 := h.free hst (by decide) (by decide) (by decide) (by decide) (by decide)
  have n2 := h.free hd (by decide) (by decide) (by decide) (by decide) (by decide)
  have n3 := h.free hu (by decide) (by decide) (by decide) (by decide) (by decide)
  clear h
  go_enter Tryz.func142, Tryz.ntmps142
  go_wp2
  refine wp_loop_rounds 3 ?_
  rw [rounds_succ]
  go_wp2_with fail
  refine (lsync_any B lp p bD bN n nD nN pv sv rv l d w HI.out hn).mono ?_
  rintro e w1 ⟨rfl, ⟨pv1, sv1, rv1, nD1, nN1, hl1⟩, ho1⟩
  have hst1 := (ho1.block gst (Array.getElem?_eq_some_iff.1 hst).1 n1).trans hst
  have hd1 := (ho1.block bd (Array.getElem?_eq_some_iff.1 hd).1 n2).trans hd
  have hu1 := (ho1.block bu (Array.getElem?_eq_some_iff.1 hu).1 n3).trans hu
  have z1 := blk_cell hst1 1
  simp at z1
  have H1 : Hid (LogIn w1 B lp p bD bN pv1 sv1 rv1 (l.sync d).1 (l.sync d).2.1 n nD1 nN1 ∧ OFr lp p w w1) := ⟨hl1, ho1⟩
  have HB : Hid (w1.heap[bd]? = some (.cells #[dskV p] 153) ∧ w1.heap[bu]? = some (.cells #[.slice none 0 0] 65)) := ⟨hd1, hu1⟩
  clear hl1 ho1 hst1 hd1 hu1 hd hu hst z0
  by_cases hc : (l.sync d).2.2 = 0
  · have eo : l.opens d = ((l.sync d).1, (l.sync d).2.1.removeAll []) := by unfold ALog.opens; rw [if_pos hc]
    rw [hc, errN_ok]
    go_wp2
    rw [rounds_succ]
    go_wp2_with fail
    refine (open1_any B lp p bD bN n nD1 nN1 bd bu pv1 sv1 rv1 (l.sync d).1 (l.sync d).2.1 w1 H1.out.1 HB.out.1 HB.out.2).mono ?_
    rintro e w2 ⟨rfl, hl2, ho2⟩
    have H2 : Hid (PutL B lp p bD bN n [] ((l.sync d).1, (l.sync d).2.1.removeAll []) w (.returned (errN ((l.sync d).2.1.removeAll []).2)) w2) := ⟨rfl, hl2, H1.out.2.x.trans ho2⟩
    clear hl2 ho2
    by_cases hc2 : ((l.sync d).2.1.removeAll []).2 = 0
    · rw [hc2, errN_ok] at H2 ⊢
      go_wp2
      rw [rounds_succ]
      go_wp2
      go_ret
      rw [eo]; exact H2.out
    · rw [errN_no hc2] at H2 ⊢
      go_wp2
      go_ret
      rw [eo]; exact H2.out
  · have eo : l.opens d = l.sync d := by unfold ALog.opens; rw [if_neg hc]
    have H2 : Hid (PutL B lp p bD bN n [] (l.sync d) w (.returned (errN (l.sync d).2.2)) w1) := ⟨rfl, ⟨pv1, sv1, rv1, nD1, nN1, H1.out.1⟩, H1.out.2.x⟩
    rw [errN_no hc] at H2 ⊢
    go_wp2
    go_ret
    rw [eo]; exact H2.out
end Go.Proofs.YtejiankgafjppabGreatDoor
