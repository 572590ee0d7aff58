import Derived.Test.YtejiankgafjppabGreatDoorC22
import Derived.DeepKeys5
import Derived.Test.YtejiankgafjppabGreatDoorC10
import Derived.BigQuiet
import Derived.Test.YtejiankgafjppabGreatDoorC06
import Derived.Test.YtejiankgafjppabGreatDoorC18
import Derived.Test.YtejiankgafjppabGreatDoorC16
import Derived.Test.YtejiankgafjppabGreatDoorC19
import Derived.Test.YtejiankgafjppabGreatDoorC20
/- THE MAPS OF A SHARD: how their keys and elements are written. -/
namespace Go.Proofs.YtejiankgafjppabGreatDoor
open Go.RowKit Go.Maps
open Sc

/-- texts as keys -/
noncomputable def KS : KeyRep Tryz.prog ByteArray 9 where
  kv := .string
  kl := keyL
  ok := fun k => k.size ≤ maxLen
  law := Tryz.lawS
  key := fun _ hk => Go.WideMaps.keyOf_string_mk Tryz.underlying9 hk
  inj := fun _ _ h => by simpa using h
theorem wfU {x : Nat} (h : x < 18446744073709551616) : (Lit.int .u64 (x : Int)).wf = true := by
  have h1 : IntKind.u64.min = 0 := rfl
  have h2 : IntKind.u64.max = 18446744073709551615 := rfl
  simp [Lit.wf, h1, h2]
  omega
/-- ids as keys -/
noncomputable def KU : KeyRep Tryz.prog Nat 28 where
  kv := fun x => .int .u64 (x : Int)
  kl := fun x => .int .u64 (x : Int)
  ok := fun x => x < 18446744073709551616
  law := Go.Maps.int_keyed Tryz.underlying28
  key := fun _ hk => Go.Maps.keyOf_int_mk Tryz.underlying28 (wfU hk)
  inj := fun a b h => by simp at h; omega
theorem laidH : laidOutB Tryz.prog = true := by kernel_rfl
theorem rowH : (182 : TypeId) < Tryz.prog.types.size := of_decide_eq_true (by kernel_rfl)
theorem wideH : (match Tryz.prog.underlying 182 with | some (.array _ _) | some (.struct _) => true | _ => false) = true := by kernel_rfl
set_option maxRecDepth 100000 in
theorem lawH : Keyed Tryz.prog 182 := Keyed.of_law (deep_law_laid laidH (m := 3) (by omega) rowH (by kernel_rfl) wideH)
theorem keyTypeH : Tryz.prog.keyType 182 = true := by kernel_rfl
theorem cellsH : Tryz.prog.cellsOf 182 = 2 := by kernel_rfl
theorem cellsU : Tryz.prog.cellsOf 28 = 1 := by kernel_rfl
theorem cellsS : Tryz.prog.cellsOf 9 = 1 := by kernel_rfl
/-- what is held, as a value -/
abbrev holdV (k : Nat × ByteArray) : Value := .agg #[.int .u64 (k.1 : Int), .string k.2]
theorem keyH {k : Nat × ByteArray} (h1 : k.1 < 18446744073709551616) (h2 : k.2.size ≤ maxLen) : ∃ l, keyOf Tryz.prog 182 (holdV k) = some l := by
  have hall : ∀ d, ∃ l, (if Tryz.prog.keyType 182 && (holdV k).formed Tryz.prog 182 then (Tryz.prog.keyLits (d + 1 + 1) 182 (holdV k).cells.toList).map fun ls => Lit.string (keyBytes ls) else none) = some l := fun d => by
    have e1 := wfU h1
    have e3 : (holdV k).formed Tryz.prog 182 = true := by simp [Value.formed, Tryz.underlying182, cellsH]
    rw [keyTypeH, e3]
    simp only [Program.keyLits, Tryz.underlying182]
    simp [Value.cells, cellsH, cellsU, cellsS, e1, h2]
  obtain ⟨d, hd⟩ : ∃ d, Tryz.prog.types.size + 1 = d + 1 + 1 := by
    have h : 0 < Tryz.prog.types.size := Nat.lt_of_le_of_lt (Nat.zero_le _) rowH
    exact ⟨Tryz.prog.types.size - 1, by rw [Nat.sub_add_cancel h]⟩
  have e := Tryz.underlying182
  unfold keyOf
  rw [hd]
  split
  · exact hall d
  · exact hall d
  · rename_i h3 h4
    exact absurd e (h4 _)
/-- a transaction and a text as keys -/
noncomputable def KH : KeyRep Tryz.prog (Nat × ByteArray) 182 where
  kv := holdV
  kl := fun k => (keyOf Tryz.prog 182 (holdV k)).getD (.bool false)
  ok := fun k => k.1 < 18446744073709551616 ∧ k.2.size ≤ maxLen
  law := lawH
  key := fun k hk => by obtain ⟨l, hl⟩ := keyH hk.1 hk.2; rw [hl]; rfl
  inj := fun a b h => by
    obtain ⟨a1, a2⟩ := a
    obtain ⟨b1, b2⟩ := b
    simp at h
    obtain ⟨h3, h4⟩ := h
    have h5 : a1 = b1 := by omega
    rw [h5, h4]
/-- texts as elements -/
noncomputable def ES : ElRep ByteArray where
  R := plainElem Tryz.prog 9
  ev := .string
  el := fun s => .lit (.string s.data.toList)
  ok := fun s => s.size ≤ maxLen
  made := fun _ h => plainElem_string Tryz.underlying9 h
  inv := fun x v ps _ h => by
    obtain ⟨s, rfl, h2, _⟩ := plainElem_string_inv Tryz.underlying9 h
    simp only [Prod.mk.injEq, DataW.lit.injEq] at h2
    rw [keyL_inj h2.1]
/-- what a transaction is: its state, how many operations were done, the Ticks up to the last -/
structure ATxn where
  state : Nat
  done : Nat
  last : Nat
abbrev txnV (t : ATxn) : Value := .agg #[.int .i64 (t.state : Int), .int .i64 (t.done : Int), .int .u64 (t.last : Int)]
def txnR : Value → Option (DataW Unit × List MemPlace)
  | .agg cs => match cs.toList with
    | [.int .i64 a, .int .i64 b, .int .u64 c] => some (.agg [.lit (.int .i64 a), .lit (.int .i64 b), .lit (.int .u64 c)], [])
    | _ => none
  | _ => none
noncomputable def ET : ElRep ATxn where
  R := txnR
  ev := txnV
  el := fun t => .agg [.lit (.int .i64 (t.state : Int)), .lit (.int .i64 (t.done : Int)), .lit (.int .u64 (t.last : Int))]
  ok := fun _ => True
  made := fun _ _ => by simp [txnR]
  inv := fun x v ps _ h => by
    unfold txnR at h
    split at h
    · rename_i cs
      split at h
      · rename_i a b c hc
        simp at h
        obtain ⟨⟨rfl, rfl, rfl⟩, _⟩ := h
        show Value.agg cs = Value.agg _
        congr 1
        exact Array.toList_inj.1 (by rw [hc])
      · cases h
    · cases h
/-- how a key is held: 0 to read, 1 put, 2 deleted; what was put -/
structure AGrip where
  way : Nat
  val : ByteArray
abbrev gripV (g : AGrip) : Value := .agg #[.int .u8 (g.way : Int), .string g.val]
def gripR : Value → Option (DataW Unit × List MemPlace)
  | .agg cs => match cs.toList with
    | [.int .u8 a, .string s] => some (.agg [.lit (.int .u8 a), .lit (.string s.data.toList)], [])
    | _ => none
  | _ => none
noncomputable def EG : ElRep AGrip where
  R := gripR
  ev := gripV
  el := fun g => .agg [.lit (.int .u8 (g.way : Int)), .lit (.string g.val.data.toList)]
  ok := fun _ => True
  made := fun _ _ => by simp [gripR]
  inv := fun x v ps _ h => by
    unfold gripR at h
    split at h
    · rename_i cs
      split at h
      · rename_i a s hc
        simp only [Option.some.injEq, Prod.mk.injEq, DataW.agg.injEq, List.cons.injEq, DataW.lit.injEq, Lit.int.injEq, true_and, and_true] at h
        obtain ⟨⟨rfl, h2⟩, _⟩ := h
        rw [keyL_inj h2] at hc
        show Value.agg cs = Value.agg _
        congr 1
        exact Array.toList_inj.1 (by rw [hc])
      · cases h
    · cases h
theorem zeroTxn (w : World) : (zeroValue 206).run Tryz.prog w = .ok (ET.ev ⟨0, 0, 0⟩) w := by kernel_rfl
end Go.Proofs.YtejiankgafjppabGreatDoor
/- SHARDS: how one lies in memory; State, Value, writes. -/
namespace Go.Proofs.YtejiankgafjppabGreatDoor
open Go.RowKit Go.Maps
open Sc

structure AShard where
  vals : List (ByteArray × ByteArray)
  txns : List (Nat × ATxn)
  holds : List ((Nat × ByteArray) × AGrip)
  ticks : Nat
/-- what is known of a transaction -/
def AShard.txn (s : AShard) (t : Nat) : ATxn := (alLook s.txns t).getD ⟨0, 0, 0⟩
/-- how a key is held -/
def AShard.grip (s : AShard) (t : Nat) (k : ByteArray) : AGrip := (alLook s.holds (t, k)).getD ⟨0, ByteArray.empty⟩
/-- where its ledger lies; 0: it has none yet -/
def lgP (lg : Nat) : Option Addr := if lg = 0 then none else some ⟨lg, 0, none⟩
theorem lgP_pos {lg : Nat} (h : 1 ≤ lg) : lgP lg = some ⟨lg, 0, none⟩ := if_neg (by omega)
abbrev shO (lg bV bT bH : Nat) (ticks : Nat) : Obj := .cells #[.pointer (lgP lg), .map (some bV), .map (some bT), .map (some bH), .int .u64 (ticks : Int)] 136
structure ShIn (w : World) (sp lg bV bT bH n : Nat) (s : AShard) : Prop where
  blk : w.heap[sp]? = some (shO lg bV bT bH s.ticks)
  vals : MapAs KS ES w bV n s.vals
  txns : MapAs KU ET w bT n s.txns
  holds : MapAs KH EG w bH n s.holds
  ne : bV ≠ bT ∧ bV ≠ bH ∧ bT ≠ bH
  ticks : s.ticks < 18446744073709551616
theorem ShIn.fr {w w' : World} {sp lg bV bT bH n : Nat} {s : AShard} {S : List Nat} (h : ShIn w sp lg bV bT bH n s) (hf : Fr S w w') (h1 : sp ∉ S) (h2 : bV ∉ S) (h3 : bT ∉ S) (h4 : bH ∉ S) : ShIn w' sp lg bV bT bH n s where
  blk := (hf.block sp (Array.getElem?_eq_some_iff.1 h.blk).1 h1).trans h.blk
  vals := h.vals.fr hf h2
  txns := h.txns.fr hf h3
  holds := h.holds.fr hf h4
  ne := h.ne
  ticks := h.ticks
section
variable {w : World} {sp lg bV bT bH n : Nat} {s : AShard}
theorem ShIn.lookT (h : ShIn w sp lg bV bT bH n s) {t : Nat} (ht : t < 18446744073709551616) :
    (Instr.lookup 133 (.map (some bT)) (.int .u64 (t : Int)) false).run Tryz.prog w = .ok (.agg #[.int .i64 ((s.txn t).state : Int), .int .i64 ((s.txn t).done : Int), .int .u64 ((s.txn t).last : Int)]) w :=
  h.txns.look Tryz.underlying133 (zeroTxn w) trivial (k := t) ht
end
end Go.Proofs.YtejiankgafjppabGreatDoor
/- SHARDS: writes, clashes. -/
namespace Go.Proofs.YtejiankgafjppabGreatDoor
open Go.RowKit Go.Maps
open Sc

def AGrip.writes (g : AGrip) : Bool := !decide (g.way = 0)
/-- does another hold the key in such a way? -/
def clashAt (s : AShard) (t : Nat) (k : ByteArray) (wr : Bool) (o : Nat) : Bool :=
  (alLook s.holds (o, k)).isSome && (!decide (o = t) && ((s.grip o k).writes || wr))
def AShard.clash (s : AShard) (t : Nat) (k : ByteArray) (wr : Bool) : Bool := s.txns.any fun p => clashAt s t k wr p.1
end Go.Proofs.YtejiankgafjppabGreatDoor
/- SHARDS: what turns of one; take, as mathematics. -/
namespace Go.Proofs.YtejiankgafjppabGreatDoor
open Go.RowKit Go.Maps
open Sc

theorem frDrewN {S : List Nat} {a w : World} (h : Fr S a w) : ∀ k, Fr S a (w.drewN k)
  | 0 => h
  | k + 1 => (frDrewN h k).drew
theorem ShIn.mono {w : World} {sp lg bV bT bH n m : Nat} {s : AShard} (h : ShIn w sp lg bV bT bH n s) (hn : n ≤ m) : ShIn w sp lg bV bT bH m s :=
  { h with vals := h.vals.mono hn, txns := h.txns.mono hn, holds := h.holds.mono hn }
theorem ShIn.lts {w : World} {sp lg bV bT bH n : Nat} {s : AShard} (h : ShIn w sp lg bV bT bH n s) : sp < w.heap.size ∧ bV < w.heap.size ∧ bT < w.heap.size ∧ bH < w.heap.size ∧ sp ≠ bV ∧ sp ≠ bT ∧ sp ≠ bH := by
  refine ⟨(Array.getElem?_eq_some_iff.1 h.blk).1, h.vals.lt, h.txns.lt, h.holds.lt, ?_, ?_, ?_⟩
  · rintro rfl; obtain ⟨es, c, e⟩ := h.vals.isMap; rw [h.blk] at e; cases e
  · rintro rfl; obtain ⟨es, c, e⟩ := h.txns.isMap; rw [h.blk] at e; cases e
  · rintro rfl; obtain ⟨es, c, e⟩ := h.holds.isMap; rw [h.blk] at e; cases e
def AShard.take (s : AShard) (t : Nat) (k : ByteArray) (g : AGrip) : AShard := if (g.writes || !(s.grip t k).writes) = true then { s with holds := alPut s.holds (t, k) g } else s
end Go.Proofs.YtejiankgafjppabGreatDoor
/- (*disk).Read. -/
namespace Go.Proofs.YtejiankgafjppabGreatDoor
open Go.RowKit
open Sc

/-- Read: the text, the error's number -/
def ADisk.read (d : ADisk) (nm : ByteArray) : Option ByteArray × Nat :=
  if d.down = true then (none, 10) else match d.now nm with | none => (none, 8) | some t => (some t, 0)
/-- what came of Read -/
def Got (t : Option ByteArray) (v : Value) (w' : World) : Prop :=
  match t with
  | none => v = .slice none 0 0
  | some t => Src w' v (bytesOf t)
def ReadPost (d : ADisk) (nm : ByteArray) (w : World) (e : Ending) (w' : World) : Prop :=
  ∃ v, e = .returned (.tuple #[v, errN (d.read nm).2]) ∧ Got (d.read nm).1 v w' ∧ Below w.heap.size w w'
set_option maxRecDepth 100000 in
set_option maxHeartbeats 1000000 in
theorem read_any (B p bD bN n nD nN : Nat) (pv : Value) (d : ADisk) (nm : ByteArray) (w : World) (h : DiskIn w B p bD bN pv d n nD nN) (hnm : nm.size ≤ maxLen) :
    Calls Tryz.prog 410 #[.pointer (some ⟨p, 0, none⟩), .string nm] w (ReadPost d nm w) := by
  have p1 := blk_cell h.blk 1
  have p5 := blk_cell h.blk 5
  simp at p1 p5
  have HI : Hid (DiskIn w B p bD bN pv d n nD nN) := h
  clear h
  cases hd : d.down with
  | true =>
    rw [hd] at p5
    have HD : Hid (d.down = true) := hd
    clear hd
    go_enter Tryz.func410, Tryz.ntmps410
    go_wp2
    go_ret2
    have e : d.read nm = (none, 10) := by unfold ADisk.read; rw [if_pos HD.out]
    refine ⟨.slice none 0 0, by rw [e]; rfl, by rw [e]; rfl, Below.refl _ _⟩
  | false =>
    rw [hd] at p5
    have HD : Hid (d.down = false) := hd
    clear hd
    rcases HI.out.now.look nm hnm with ⟨hN, hl⟩ | ⟨t, q, hN, hq, hl⟩
    · have HN : Hid (d.now nm = none) := hN
      clear hN
      go_enter Tryz.func410, Tryz.ntmps410
      go_wp2
      go_ret2
      have e : d.read nm = (none, 8) := by unfold ADisk.read; rw [if_neg (by rw [HD.out]; decide), HN.out]
      refine ⟨.slice none 0 0, by rw [e]; rfl, by rw [e]; rfl, Below.refl _ _⟩
    · have HN : Hid (d.now nm = some t) := hN
      have hc := text_cell hq
      have hsz : t.size ≤ maxLen := by
        have h1 := HI.out.leN nm t hN
        have h2 := HI.out.hN
        have h3 := HI.out.hn
        unfold maxLen
        omega
      have hrb := run_bytes w t
      clear hN hq
      go_enter Tryz.func410, Tryz.ntmps410
      go_wp2
      go_ret2
      have e : d.read nm = (some t, 0) := by unfold ADisk.read; rw [if_neg (by rw [HD.out]; decide), HN.out]
      refine ⟨_, by rw [e]; rfl, by rw [e]; exact src_str w t hsz, ?_⟩
      exact (Below.refl _ _).drew.alloc (Nat.le_refl _) _
end Go.Proofs.YtejiankgafjppabGreatDoor
/- OPENING OVER NOTHING: the small calls. -/
namespace Go.Proofs.YtejiankgafjppabGreatDoor
open Go.RowKit Go.Maps
open Sc

set_option maxRecDepth 100000 in
set_option maxHeartbeats 2000000 in
theorem names_empty (B p bD bN n nD : Nat) (pv : Value) (d : ADisk) (w : World) (h : DiskIn w B p bD bN pv d n nD 0) (hdn : d.down = false) :
    Calls Tryz.prog 409 #[.pointer (some ⟨p, 0, none⟩)] w fun e w' => e = .returned (.tuple #[.slice none 0 0, .nilIface]) ∧ Below w.heap.size w w' := by
  have c1 := blk_cell h.blk 1
  have c5 := blk_cell h.blk 5
  simp at c1 c5
  rw [hdn] at c5
  obtain ⟨D, hown, _⟩ := h.now
  have hsz := hown.size_le
  have hso := Tryz.sort_Strings_none
  clear h
  go_enter Tryz.func409, Tryz.ntmps409
  go_wp2_with (first
    | (at_range; refine wpList_range_own _ rfl _ 97 rfl 9 101 Tryz.lawS Tryz.underlying97 ptrElem bN 0 D rfl hown ?_; intro w0 hrg0 hg0 hs0)
    | go_in)
  go_frame
  have hbl : Below w.heap.size w w0 := ⟨hg0.os, hg0.tape, hg0.output, hg0.size, fun k hk => hg0.block k hk (by simp)⟩
  refine wp_loop_rounds 1 ?_
  rw [rounds_succ]
  go_wp2_with (first
    | (at_next; refine wpList_next_ranges _ rfl _ rfl 9 Tryz.lawS ptrElem encStr Value.pointer (fun key kl hk => by obtain ⟨x, hx, _⟩ := Maps.keyOf_str Tryz.underlying9 hk; exact ⟨x, hx⟩) (fun v y hv => ptrElem_shape hv) bN w.heap.size 0 _ _ _ rfl hrg0 ?_ ?_)
    | go_in)
  · intro _ _
    go_wp2_with fail
    refine (hso none 0 w0).mono ?_
    rintro e w1 ⟨rfl, rfl⟩
    go_wp2
    go_ret2
    exact ⟨rfl, hbl⟩
  · intro x c kl yd yp w2 cnt2 _ _ _ _ _ hlt
    omega
set_option maxRecDepth 100000 in
set_option maxHeartbeats 2000000 in
theorem insert_nil (w : World) : Calls Tryz.prog 328 #[.slice none 0 0, .int .i64 0, .int .i64 0] w fun e w' => e = .returned (.tuple #[]) ∧ w' = w := by
  go_enter Tryz.func328, Tryz.ntmps328
  go_wp2
  refine wp_loop_rounds 1 ?_
  rw [rounds_succ]
  go_wp2
  go_end0
  exact ⟨rfl, rfl⟩
set_option maxRecDepth 100000 in
set_option maxHeartbeats 2000000 in
theorem pdq_nil (k : Int) (w : World) : Calls Tryz.prog 286 #[.slice none 0 0, .int .i64 0, .int .i64 0, .int .i64 k] w fun e w' => e = .returned (.tuple #[]) ∧ w' = w := by
  go_enter Tryz.func286, Tryz.ntmps286
  go_wp2
  refine wp_loop_rounds 1 ?_
  rw [rounds_succ]
  go_wp2_with fail
  refine (insert_nil w).mono ?_
  rintro e w1 ⟨rfl, rfl⟩
  go_wp2
  refine bodyPost_ret (results_none rfl _ _ _) rfl ?_
  exact ⟨rfl, rfl⟩
set_option maxRecDepth 100000 in
set_option maxHeartbeats 2000000 in
theorem sortU_nil (w : World) : Calls Tryz.prog 236 #[.slice none 0 0] w fun e w' => e = .returned (.tuple #[]) ∧ w' = w := by
  go_enter Tryz.func236, Tryz.ntmps236
  go_wp2_with fail
  refine (Tryz.bits_Len 0 w (by omega) (by omega)).mono ?_
  rintro e w1 ⟨rfl, rfl⟩
  go_wp2_with fail
  refine (pdq_nil _ w1).mono ?_
  rintro e w1 ⟨rfl, rfl⟩
  go_wp2
  go_end0
  exact ⟨rfl, rfl⟩
set_option maxRecDepth 100000 in
set_option maxHeartbeats 2000000 in
theorem among_nil (w : World) : Calls Tryz.prog 196 #[.slice none 0 0] w fun e w' => e = .returned (.slice none 0 0) ∧ w' = w := by
  go_enter Tryz.func196, Tryz.ntmps196
  go_wp2
  refine wp_loop_rounds 1 ?_
  rw [rounds_succ]
  go_wp2_with fail
  refine (sortU_nil w).mono ?_
  rintro e w1 ⟨rfl, rfl⟩
  go_wp2
  go_ret
  exact ⟨rfl, rfl⟩
set_option maxRecDepth 100000 in
set_option maxHeartbeats 2000000 in
theorem search_nil (x : Int) (w : World) : Calls Tryz.prog 197 #[.slice none 0 0, .int .u64 x] w fun e w' => e = .returned (.tuple #[.int .i64 0, .bool false]) ∧ w' = w := by
  go_enter Tryz.func197, Tryz.ntmps197
  go_wp2
  refine wp_loop_rounds 1 ?_
  rw [rounds_succ]
  go_wp2
  go_ret2
  exact ⟨rfl, rfl⟩
set_option maxRecDepth 100000 in
set_option maxHeartbeats 2000000 in
theorem readMark_none (B p bD bN n nD nN : Nat) (pv : Value) (d : ADisk) (w : World) (h : DiskIn w B p bD bN pv d n nD nN) (hdn : d.down = false) (hno : d.now markNm = none) :
    Calls Tryz.prog 195 #[dskV p] w fun e w' => e = .returned (.tuple #[.int .u64 1, .nilIface]) ∧ Below w.heap.size w w' := by
  have hm := Tryz.mRead
  have hr := read_any B p bD bN n nD nN pv d markNm w h (by decide)
  have e : d.read markNm = (none, 8) := by unfold ADisk.read; rw [if_neg (by rw [hdn]; decide), hno]
  clear h
  go_enter Tryz.func195, Tryz.ntmps195
  go_wp2_with fail
  refine hr.mono ?_
  clear hr
  rintro e1 w1 ⟨v, rfl, hgot, hb⟩
  rw [e] at hgot ⊢
  obtain rfl : v = .slice none 0 0 := hgot
  rw [errN_no (by decide)]
  go_wp2_with fail
  refine (is_same 8 w1).mono ?_
  rintro e2 w2 ⟨rfl, rfl⟩
  go_wp2
  go_ret2
  exact ⟨rfl, hb⟩
end Go.Proofs.YtejiankgafjppabGreatDoor
/- OPENING OVER NOTHING: (*Log).read, journal.Open. -/
namespace Go.Proofs.YtejiankgafjppabGreatDoor
open Go.RowKit
open Sc

def log0 (nx : Nat) : ALog := ⟨[], 600, [], nx, 0, 0⟩
set_option maxRecDepth 100000 in
set_option maxHeartbeats 2000000 in
theorem read_empty (B lp p bD bN n nD : Nat) (pv : Value) (d : ADisk) (w : World) (h : LogIn w B lp p bD bN pv (.slice none 0 0) (.slice none 0 0) (log0 0) d n nD 0) (hdn : d.down = false) (hno : d.now markNm = none) :
    Calls Tryz.prog 141 #[.pointer (some ⟨lp, 0, none⟩)] w fun e w' => e = .returned (.tuple #[.slice none 0 0, .nilIface]) ∧ LogIn w' B lp p bD bN pv (.slice none 0 0) (.slice none 0 0) (log0 1) d n nD 0 ∧ OFr lp p w w' := by
  have c0 := blk_cell h.blk 0
  simp at c0
  have HI : Hid (LogIn w B lp p bD bN pv (.slice none 0 0) (.slice none 0 0) (log0 0) d n nD 0) := h
  clear h
  have hm := Tryz.mNames
  go_enter Tryz.func141, Tryz.ntmps141
  go_wp2_with fail
  refine (names_empty B p bD bN n nD pv d w HI.out.disk hdn).mono ?_
  rintro e w1 ⟨rfl, hb1⟩
  have hf1 : Fr [] w w1 := Fr.of_below hb1 _
  have hl1 := HI.out.new hf1
  have ho1 := HI.out.newO hf1
  have k0 := blk_cell hl1.blk 0
  simp at k0
  have H1 : Hid (LogIn w1 B lp p bD bN pv (.slice none 0 0) (.slice none 0 0) (log0 0) d n nD 0 ∧ OFr lp p w w1) := ⟨hl1, ho1⟩
  clear hl1 ho1 hf1 hb1 c0
  go_wp2_with fail
  refine (readMark_none B p bD bN n nD 0 pv d w1 H1.out.1.disk hdn hno).mono ?_
  rintro e w2 ⟨rfl, hb2⟩
  have hf2 : Fr [] w1 w2 := Fr.of_below hb2 _
  have hl2 := H1.out.1.new hf2
  have ho2 := H1.out.2.trans (H1.out.1.newO hf2)
  have m4 := blk_cell hl2.blk 4
  have f4 := blk_free hl2.blk 4
  simp at m4
  have H2 : Hid (LogIn w2 B lp p bD bN pv (.slice none 0 0) (.slice none 0 0) (log0 0) d n nD 0 ∧ OFr lp p w w2) := ⟨hl2, ho2⟩
  clear hl2 ho2 hf2 hb2 k0
  obtain ⟨W, hW⟩ : ∃ W, W = w2.setCell ⟨lp, 4, none⟩ (.int .u64 1) := ⟨_, rfl⟩
  have hf3 : Fr [lp] w2 W := by rw [hW]; exact Fr.set1 (by simp) _ _
  have hb3 : W.heap[lp]? = some (logO p (.slice none 0 0) (.slice none 0 0) (log0 1)) := by rw [hW]; have := blk_set H2.out.1.blk 4 (.int .u64 1); simp [log0] at this ⊢; exact this
  have hn := H2.out.1.disk.hn
  have hl3 : LogIn W B lp p bD bN pv (.slice none 0 0) (.slice none 0 0) (log0 1) d n nD 0 := H2.out.1.own1 hf3 hb3 H2.out.1.segsN H2.out.1.recsN H2.out.1.fillN (by show 1 ≤ n + 1; omega) H2.out.1.durN rfl rfl
  have ho3 : OFr lp p w W := H2.out.2.trans (H2.out.1.ofr hl3 hf3 (fun k hk _ => by simp at hk; simp [hk]) (.inl rfl) (Near.refl _ _) (Near.refl _ _) (Near.refl _ _))
  have m4' := blk_cell hl3.blk 4
  simp [log0] at m4'
  have H3 : Hid (LogIn W B lp p bD bN pv (.slice none 0 0) (.slice none 0 0) (log0 1) d n nD 0 ∧ OFr lp p w W) := ⟨hl3, ho3⟩
  clear hl3 ho3 hf3 hb3
  subst hW
  go_wp2_with fail
  refine (among_nil _).mono ?_
  rintro e w4 ⟨rfl, rfl⟩
  go_wp2_with fail
  refine (search_nil 1 _).mono ?_
  rintro e w4 ⟨rfl, rfl⟩
  go_wp2_with fail
  refine (namesOf_nil _).mono ?_
  rintro e w4 ⟨rfl, rfl⟩
  go_wp2
  refine wp_loop_rounds 1 ?_
  rw [rounds_succ]
  go_wp2
  go_ret2
  exact ⟨rfl, H3.out.1, H3.out.2⟩
/-- the disk turned by itself, under a log -/
theorem LogIn.dturned {w w' : World} {B lp p bD bN n nD nN nD' nN' : Nat} {pv sv rv pv' : Value} {l : ALog} {d d' : ADisk} (h : LogIn w B lp p bD bN pv sv rv l d n nD nN) (hd : DiskIn w' B p bD bN pv' d' n nD' nN') (hf : DFr p w w') : LogIn w' B lp p bD bN pv' sv rv l d' n nD' nN' ∧ OFr lp p w w' := by
  have hlp := (Array.getElem?_eq_some_iff.1 h.blk).1
  have hne : ∀ k, k < w.heap.size → (k = lp ∨ sv.ownBlock = some k ∨ rv.ownBlock = some k) → ¬ OwnD p w k := fun k _ hk ho => by
    have := h.sep k ((h.disk.ownD k).1 ho)
    rcases hk with e | e | e
    · exact this.1 e
    · exact this.2.1 e
    · exact this.2.2 e
  have hblk : w'.heap[lp]? = some (logO p sv rv l) := (hf.block lp hlp (hne lp hlp (.inl rfl))).trans h.blk
  have hrow : ∀ (e : TypeId) (k m : Nat) (v : Value) (xs : List Value), (∀ g, v.ownBlock = some g → g = lp ∨ sv.ownBlock = some g ∨ rv.ownBlock = some g) → w.ownsRow B e k v m xs → w'.ownsRow B e k v m xs := fun e k m v xs hv hr => by
    refine ⟨hr.1, ?_⟩
    rcases hr.2 with h1 | ⟨g, cap, cur, rfl, h2, h3, h4⟩
    · exact .inl h1
    · exact .inr ⟨g, cap, cur, rfl, h2, (hf.block g (Array.getElem?_eq_some_iff.1 h3).1 (hne g (Array.getElem?_eq_some_iff.1 h3).1 (hv g rfl))).trans h3, h4⟩
  have hl : LogIn w' B lp p bD bN pv' sv rv l d' n nD' nN' := { disk := hd, blk := hblk, base := h.base, segs := hrow _ _ _ _ _ (fun g hg => .inr (.inl hg)) h.segs, recs := hrow _ _ _ _ _ (fun g hg => .inr (.inr hg)) h.recs, segsN := h.segsN, recsN := h.recsN, fillN := h.fillN, nextN := h.nextN, durN := h.durN }
  refine ⟨hl, hf.os, hf.tape, hf.output, hf.size, fun k hk hn => hf.block k hk (fun ho => hn ?_), fun k hk ho => ?_⟩
  · rw [h.own]
    have := (h.disk.ownD k).1 ho
    simp at this
    rcases this with e | e | e | e <;> simp [e]
  · rw [h.own]
    rcases (hl.own k).1 ho with e | e | e | e | e | e | e
    · exact .inl e
    · exact .inr (.inl e)
    · exact .inr (.inr (.inl e))
    · exact .inr (.inr (.inr (.inl e)))
    · have := (h.disk.ownD k).1 (hf.stay k hk ((hd.ownD k).2 (by simp [e])))
      simp at this
      rcases this with e | e | e | e <;> simp [e]
    · exact .inr (.inr (.inr (.inr (.inr (.inl e)))))
    · exact .inr (.inr (.inr (.inr (.inr (.inr e)))))
set_option maxRecDepth 100000 in
set_option maxHeartbeats 2000000 in
theorem open1_any (B lp p bD bN n nD nN bd bu : Nat) (pv sv rv : Value) (l : ALog) (d : ADisk) (w : World) (h : LogIn w B lp p bD bN pv sv rv l d n nD nN) (hd : w.heap[bd]? = some (.cells #[dskV p] 153)) (hu : w.heap[bu]? = some (.cells #[.slice none 0 0] 65)) :
    Calls Tryz.prog 144 #[.pointer (some ⟨bd, 0, none⟩), .pointer (some ⟨bu, 0, none⟩)] w (PutL B lp p bD bN n [] (l, d.removeAll []) w) := by
  have c0 := blk_cell hd 0
  have c1 := blk_cell hu 0
  simp at c0 c1
  have HI : Hid (LogIn w B lp p bD bN pv sv rv l d n nD nN) := h
  clear h hd hu
  go_enter Tryz.func144, Tryz.ntmps144
  go_wp2_with fail
  refine (removeAll_nil B p bD bN n nD nN pv d w HI.out.disk).mono ?_
  rintro e w1 ⟨rfl, ⟨pv1, nD1, nN1, hd1⟩, hf1⟩
  obtain ⟨hl1, ho1⟩ := HI.out.dturned hd1 hf1
  have H1 : Hid (LogIn w1 B lp p bD bN pv1 sv rv l (d.removeAll []).1 n nD1 nN1 ∧ OFr lp p w w1) := ⟨hl1, ho1⟩
  clear hl1 ho1 hd1 hf1
  go_wp2
  go_ret
  exact ⟨rfl, ⟨pv1, sv, rv, nD1, nN1, H1.out.1⟩, H1.out.2.x⟩
/-- the two steps of Open -/
def ALog.opens (l : ALog) (d : ADisk) : ALog × ADisk × Nat :=
  if (l.sync d).2.2 = 0 then ((l.sync d).1, (l.sync d).2.1.removeAll []) else l.sync d
set_option maxRecDepth 100000 in
set_option maxHeartbeats 2000000 in
theorem inTurnO (B lp p bD bN n nD nN gst bd bu : Nat) (pv sv rv : Value) (l : ALog) (d : ADisk) (w : World) (h : LogIn w B lp p bD bN pv sv rv l d n nD nN) (hn : n ≤ 67108864)
    (hst : w.heap[gst]? = some (.cells #[.func (.func 143) #[.pointer (some ⟨lp, 0, none⟩)] #[], .func (.func 144) #[] #[.pointer (some ⟨bd, 0, none⟩), .pointer (some ⟨bu, 0, none⟩)]] 96)) (hd : w.heap[bd]? = some (.cells #[dskV p] 153)) (hu : w.heap[bu]? = some (.cells #[.slice none 0 0] 65)) :
    Calls Tryz.prog 142 #[.slice (some ⟨gst, 0, none⟩) 2 2] w (PutL B lp p bD bN n [] (l.opens d) w) := by
  have z0 := blk_cell hst 0
  simp at z0
  have HI : Hid (LogIn w B lp p bD bN pv sv rv l d n nD nN) := h
  have n1 := h.free hst (by decide) (by decide) (by decide) (by decide) (by decide)
  have n2 := h.free hd (by decide) (by decide) (by decide) (by decide) (by decide)
  have n3 := h.free hu (by decide) (by decide) (by decide) (by decide) (by decide)
  clear h
  go_enter Tryz.func142, Tryz.ntmps142
  go_wp2
  refine wp_loop_rounds 3 ?_
  rw [rounds_succ]
  go_wp2_with fail
  refine (lsync_any B lp p bD bN n nD nN pv sv rv l d w HI.out hn).mono ?_
  rintro e w1 ⟨rfl, ⟨pv1, sv1, rv1, nD1, nN1, hl1⟩, ho1⟩
  have hst1 := (ho1.block gst (Array.getElem?_eq_some_iff.1 hst).1 n1).trans hst
  have hd1 := (ho1.block bd (Array.getElem?_eq_some_iff.1 hd).1 n2).trans hd
  have hu1 := (ho1.block bu (Array.getElem?_eq_some_iff.1 hu).1 n3).trans hu
  have z1 := blk_cell hst1 1
  simp at z1
  have H1 : Hid (LogIn w1 B lp p bD bN pv1 sv1 rv1 (l.sync d).1 (l.sync d).2.1 n nD1 nN1 ∧ OFr lp p w w1) := ⟨hl1, ho1⟩
  have HB : Hid (w1.heap[bd]? = some (.cells #[dskV p] 153) ∧ w1.heap[bu]? = some (.cells #[.slice none 0 0] 65)) := ⟨hd1, hu1⟩
  clear hl1 ho1 hst1 hd1 hu1 hd hu hst z0
  by_cases hc : (l.sync d).2.2 = 0
  · have eo : l.opens d = ((l.sync d).1, (l.sync d).2.1.removeAll []) := by unfold ALog.opens; rw [if_pos hc]
    rw [hc, errN_ok]
    go_wp2
    rw [rounds_succ]
    go_wp2_with fail
    refine (open1_any B lp p bD bN n nD1 nN1 bd bu pv1 sv1 rv1 (l.sync d).1 (l.sync d).2.1 w1 H1.out.1 HB.out.1 HB.out.2).mono ?_
    rintro e w2 ⟨rfl, hl2, ho2⟩
    have H2 : Hid (PutL B lp p bD bN n [] ((l.sync d).1, (l.sync d).2.1.removeAll []) w (.returned (errN ((l.sync d).2.1.removeAll []).2)) w2) := ⟨rfl, hl2, H1.out.2.x.trans ho2⟩
    clear hl2 ho2
    by_cases hc2 : ((l.sync d).2.1.removeAll []).2 = 0
    · rw [hc2, errN_ok] at H2 ⊢
      go_wp2
      rw [rounds_succ]
      go_wp2
      go_ret
      rw [eo]; exact H2.out
    · rw [errN_no hc2] at H2 ⊢
      go_wp2
      go_ret
      rw [eo]; exact H2.out
  · have eo : l.opens d = l.sync d := by unfold ALog.opens; rw [if_neg hc]
    have H2 : Hid (PutL B lp p bD bN n [] (l.sync d) w (.returned (errN (l.sync d).2.2)) w1) := ⟨rfl, ⟨pv1, sv1, rv1, nD1, nN1, H1.out.1⟩, H1.out.2.x⟩
    rw [errN_no hc] at H2 ⊢
    go_wp2
    go_ret
    rw [eo]; exact H2.out
end Go.Proofs.YtejiankgafjppabGreatDoor
/- OPENING OVER NOTHING: journal.Open, shardcommit.OpenLog. -/
namespace Go.Proofs.YtejiankgafjppabGreatDoor
open Go.RowKit
open Sc

theorem DFr.ofO {w Wl w' : World} {B lp p bD bN n nD nN n' nD' nN' n2 nD2 nN2 : Nat} {pv pv' sv' rv' : Value} {l l' : ALog} {d d' d2 : ADisk} (h : DiskIn w B p bD bN pv d2 n2 nD2 nN2) (hl : LogIn Wl B lp p bD bN pv (.slice none 0 0) (.slice none 0 0) l d n nD nN) (hf : Fr [] w Wl) (hlp : w.heap.size ≤ lp) (ho : OFr lp p Wl w') (hl' : LogIn w' B lp p bD bN pv' sv' rv' l' d' n' nD' nN') : DFr p w w' := by
  have key : ∀ k, k < w.heap.size → Own lp p Wl k → OwnD p w k := fun k hk hO => by
    rw [h.ownD]
    rcases (hl.own k).1 hO with e | e | e | e | e | e | e
    · omega
    · simp [e]
    · simp [e]
    · simp [e]
    · simp [e]
    · cases e
    · cases e
  refine ⟨ho.os.trans hf.os, ho.tape.trans hf.tape, ho.output.trans hf.output, Nat.le_trans hf.size ho.size, fun k hk hn => ?_, fun k hk hD => ?_⟩
  · exact (ho.block k (Nat.lt_of_lt_of_le hk hf.size) (fun hO => hn (key k hk hO))).trans (hf.block k hk (by simp))
  · refine key k hk (ho.stay k (Nat.lt_of_lt_of_le hk hf.size) ?_)
    have := (hl'.disk.ownD k).1 hD
    rw [hl'.own]
    simp at this
    rcases this with e | e | e | e <;> simp [e]
/-- what stands behind an opening that went well -/
def OpenPost (B p bD bN n : Nat) (r : ALog × ADisk × Nat) (w : World) (e : Ending) (w' : World) : Prop :=
  ∃ lp, e = .returned (.tuple #[.pointer (some ⟨lp, 0, none⟩), .nilIface]) ∧ w.heap.size ≤ lp ∧ (∃ pv sv rv nD nN, LogIn w' B lp p bD bN pv sv rv r.1 r.2.1 n nD nN) ∧ DFr p w w'
set_option maxRecDepth 100000 in
set_option maxHeartbeats 4000000 in
theorem jopen_empty (B p bD bN n nD : Nat) (pv : Value) (d : ADisk) (w : World) (h : DiskIn w B p bD bN pv d n nD 0) (hdn : d.down = false) (hno : d.now markNm = none) (hr : ((log0 1).opens d).2.2 = 0) :
    Calls Tryz.prog 82 #[dskV p] w (OpenPost B p bD bN n ((log0 1).opens d) w) := by
  have hn := h.hn
  have hb0 := h.base
  obtain ⟨W, hW⟩ : ∃ W, W = (w.alloc (.cells #[dskV p] 153)).alloc (logO p (.slice none 0 0) (.slice none 0 0) (log0 0)) := ⟨_, rfl⟩
  have hf0 : Fr [] w W := by rw [hW]; exact ((Fr.refl [] w).alloc _).alloc _
  have hdb : W.heap[w.heap.size]? = some (.cells #[dskV p] 153) := by rw [hW, Below.heap_alloc _ _ w.heap.size (by simp)]; exact heap_alloc_new w _
  have hlb : W.heap[w.heap.size + 1]? = some (logO p (.slice none 0 0) (.slice none 0 0) (log0 0)) := by rw [hW]; have := heap_alloc_new (w.alloc (.cells #[dskV p] 153)) (logO p (.slice none 0 0) (.slice none 0 0) (log0 0)); rw [World.size_alloc] at this; exact this
  have hl0 : LogIn W B (w.heap.size + 1) p bD bN pv (.slice none 0 0) (.slice none 0 0) (log0 0) d n nD 0 := { disk := h.new hf0, blk := hlb, base := by omega, segs := World.ownsRow_nil _ _ _ _, recs := World.ownsRow_nil _ _ _ _, segsN := ⟨by simp [log0], by simp [log0]⟩, recsN := by simp [log0], fillN := by simp [log0], nextN := by simp [log0], durN := by simp [log0] }
  have HW : Hid (DiskIn w B p bD bN pv d n nD 0 ∧ Fr [] w W) := ⟨h, hf0⟩
  have H0 : Hid (LogIn W B (w.heap.size + 1) p bD bN pv (.slice none 0 0) (.slice none 0 0) (log0 0) d n nD 0) := hl0
  have HDB : Hid (W.heap[w.heap.size]? = some (.cells #[dskV p] 153)) := hdb
  have hnil := Tryz.eqNil p
  clear h hf0 hdb hlb hl0
  go_enter Tryz.func82, Tryz.ntmps82
  go_wp2_with fail
  have hW2 : W = (w.alloc (.cells #[dskV p] 153)).alloc (.cells #[dskV p, .slice none 0 0, .int .i64 600, .slice none 0 0, .int .u64 0, .int .u64 0, .nilIface] 229) := hW
  rw [← hW2]
  clear hW hW2
  refine (read_empty B (w.heap.size + 1) p bD bN n nD pv d W H0.out hdn hno).mono ?_
  rintro e w1 ⟨rfl, hl1, ho1⟩
  have hdb1 := (ho1.block w.heap.size (Array.getElem?_eq_some_iff.1 HDB.out).1 (H0.out.free HDB.out (by decide) (by decide) (by decide) (by decide) (by decide))).trans HDB.out
  obtain ⟨W2, hW2⟩ : ∃ W2, W2 = (w1.alloc (.cells #[.slice none 0 0] 65)).alloc (.cells #[.func (.func 143) #[.pointer (some ⟨w.heap.size + 1, 0, none⟩)] #[], .func (.func 144) #[] #[.pointer (some ⟨w.heap.size, 0, none⟩), .pointer (some ⟨w1.heap.size, 0, none⟩)]] 96) := ⟨_, rfl⟩
  have hf2 : Fr [] w1 W2 := by rw [hW2]; exact ((Fr.refl [] w1).alloc _).alloc _
  have hu2 : W2.heap[w1.heap.size]? = some (.cells #[.slice none 0 0] 65) := by rw [hW2, Below.heap_alloc _ _ w1.heap.size (by simp)]; exact heap_alloc_new w1 _
  have hst2 : W2.heap[w1.heap.size + 1]? = some (.cells #[.func (.func 143) #[.pointer (some ⟨w.heap.size + 1, 0, none⟩)] #[], .func (.func 144) #[] #[.pointer (some ⟨w.heap.size, 0, none⟩), .pointer (some ⟨w1.heap.size, 0, none⟩)]] 96) := by
    rw [hW2]; have := heap_alloc_new (w1.alloc (.cells #[.slice none 0 0] 65)) (.cells #[.func (.func 143) #[.pointer (some ⟨w.heap.size + 1, 0, none⟩)] #[], .func (.func 144) #[] #[.pointer (some ⟨w.heap.size, 0, none⟩), .pointer (some ⟨w1.heap.size, 0, none⟩)]] 96); rw [World.size_alloc] at this; exact this
  have hdb2 : W2.heap[w.heap.size]? = some (.cells #[dskV p] 153) := (hf2.block w.heap.size (Array.getElem?_eq_some_iff.1 hdb1).1 (by simp)).trans hdb1
  have HC : Hid (Calls Tryz.prog 142 #[.slice (some ⟨w1.heap.size + 1, 0, none⟩) 2 2] W2 (PutL B (w.heap.size + 1) p bD bN n [] ((log0 1).opens d) W2)) := inTurnO B (w.heap.size + 1) p bD bN n nD 0 (w1.heap.size + 1) w.heap.size w1.heap.size pv (.slice none 0 0) (.slice none 0 0) (log0 1) d W2 (hl1.new hf2) hn hst2 hdb2 hu2
  have HO : Hid (OFr (w.heap.size + 1) p W W2) := ho1.trans (hl1.newO hf2)
  clear hl1 ho1 hdb1 hf2 hu2 hst2 hdb2
  go_wp2_with fail
  rw [← hW2]
  clear hW2
  refine HC.out.mono ?_
  rintro e w3 ⟨rfl, ⟨pv3, sv3, rv3, nD3, nN3, hl3⟩, ho3⟩
  have H3 : Hid (LogIn w3 B (w.heap.size + 1) p bD bN pv3 sv3 rv3 ((log0 1).opens d).1 ((log0 1).opens d).2.1 n nD3 nN3) := hl3
  have HD : Hid (DFr p w w3) := DFr.ofO HW.out.1 H0.out HW.out.2 (by omega) (HO.out.trans ho3.ofr) hl3
  clear hl3 ho3
  rw [hr, errN_ok]
  go_wp2
  go_ret2
  exact ⟨w.heap.size + 1, rfl, by omega, ⟨pv3, sv3, rv3, nD3, nN3, H3.out⟩, HD.out⟩
end Go.Proofs.YtejiankgafjppabGreatDoor
/- HOSTS: a log's Append, Force, Cut; Next, Is. (Written by mkhost.py.) -/
namespace Go.Proofs.YtejiankgafjppabGreatDoor
open Go.RowKit
open Sc

abbrev fallO (a b c d : Int) : Obj := .cells #[.int .i64 a, .int .i64 b, .int .i64 c, .int .i64 d] 25
/-- what stands behind a host's call -/
def HostPost (B hp lp p bD bN n : Nat) (v : Value) (l : ALog) (d : ADisk) (w : World) (e : Ending) (w' : World) : Prop :=
  e = .returned v ∧ HostIn w' B hp lp p bD bN l (d.knob (-1) (-1)) n ∧ OFr lp p w w'
theorem OFr.fall {w w' : World} {B lp p bD bN n nD nN q : Nat} {pv sv rv : Value} {l : ALog} {d : ADisk} {a b c k : Int} (hf : OFr lp p w w') (h : LogIn w B lp p bD bN pv sv rv l d n nD nN) (hh : w.heap[q]? = some (fallO a b c k)) : w'.heap[q]? = some (fallO a b c k) :=
  (hf.block q (Array.getElem?_eq_some_iff.1 hh).1 (h.free hh (by decide) (by decide) (by decide) (by decide) (by decide))).trans hh
end Go.Proofs.YtejiankgafjppabGreatDoor
