import Derived.Test.YtejiankgafjppaaGreatDoorC01
import Derived.DeepKeys5
import Derived.RegionTactic
import Derived.ChangeAlike
import Derived.Deep.RegionHeld3
import Derived.Lib.BufferMore
import Derived.Maps.AppendAt
/- THE MAPS OF A SHARD: how their keys and elements are written. -/
namespace Go.Proofs.YtejiankgafjppaaGreatDoor
open Go.RowKit Go.Maps
open Sc

/-- texts as keys -/
noncomputable def KS : KeyRep Tryz.prog ByteArray 9 where
  kv := .string
  kl := keyL
  ok := fun k => k.size ≤ maxLen
  law := Tryz.lawS
  key := fun _ hk => Go.WideMaps.keyOf_string_mk Tryz.underlying9 hk
  inj := fun _ _ h => by simpa using h
theorem wfU {x : Nat} (h : x < 18446744073709551616) : (Lit.int .u64 (x : Int)).wf = true := by
  have h1 : IntKind.u64.min = 0 := rfl
  have h2 : IntKind.u64.max = 18446744073709551615 := rfl
  simp [Lit.wf, h1, h2]
  omega
/-- ids as keys -/
noncomputable def KU : KeyRep Tryz.prog Nat 34 where
  kv := fun x => .int .u64 (x : Int)
  kl := fun x => .int .u64 (x : Int)
  ok := fun x => x < 18446744073709551616
  law := Go.Maps.int_keyed Tryz.underlying34
  key := fun _ hk => Go.Maps.keyOf_int_mk Tryz.underlying34 (wfU hk)
  inj := fun a b h => by simp at h; omega
theorem laidH : laidOutB Tryz.prog = true := by kernel_rfl
theorem rowH : (191 : TypeId) < Tryz.prog.types.size := of_decide_eq_true (by kernel_rfl)
theorem wideH : (match Tryz.prog.underlying 191 with | some (.array _ _) | some (.struct _) => true | _ => false) = true := by kernel_rfl
set_option maxRecDepth 100000 in
theorem lawH : Keyed Tryz.prog 191 := Keyed.of_law (deep_law_laid laidH (m := 3) (by omega) rowH (by kernel_rfl) wideH)
theorem keyTypeH : Tryz.prog.keyType 191 = true := by kernel_rfl
theorem cellsH : Tryz.prog.cellsOf 191 = 2 := by kernel_rfl
theorem cellsU : Tryz.prog.cellsOf 34 = 1 := by kernel_rfl
theorem cellsS : Tryz.prog.cellsOf 9 = 1 := by kernel_rfl
/-- what is held, as a value -/
abbrev holdV (k : Nat × ByteArray) : Value := .agg #[.int .u64 (k.1 : Int), .string k.2]
theorem keyH {k : Nat × ByteArray} (h1 : k.1 < 18446744073709551616) (h2 : k.2.size ≤ maxLen) : ∃ l, keyOf Tryz.prog 191 (holdV k) = some l := by
  have hall : ∀ d, ∃ l, (if Tryz.prog.keyType 191 && (holdV k).formed Tryz.prog 191 then (Tryz.prog.keyLits (d + 1 + 1) 191 (holdV k).cells.toList).map fun ls => Lit.string (keyBytes ls) else none) = some l := fun d => by
    have e1 := wfU h1
    have e3 : (holdV k).formed Tryz.prog 191 = true := by simp [Value.formed, Tryz.underlying191, cellsH]
    rw [keyTypeH, e3]
    simp only [Program.keyLits, Tryz.underlying191]
    simp [Value.cells, cellsH, cellsU, cellsS, e1, h2]
  obtain ⟨d, hd⟩ : ∃ d, Tryz.prog.types.size + 1 = d + 1 + 1 := by
    have h : 0 < Tryz.prog.types.size := Nat.lt_of_le_of_lt (Nat.zero_le _) rowH
    exact ⟨Tryz.prog.types.size - 1, by rw [Nat.sub_add_cancel h]⟩
  have e := Tryz.underlying191
  unfold keyOf
  rw [hd]
  split
  · exact hall d
  · exact hall d
  · rename_i h3 h4
    exact absurd e (h4 _)
/-- a transaction and a text as keys -/
noncomputable def KH : KeyRep Tryz.prog (Nat × ByteArray) 191 where
  kv := holdV
  kl := fun k => (keyOf Tryz.prog 191 (holdV k)).getD (.bool false)
  ok := fun k => k.1 < 18446744073709551616 ∧ k.2.size ≤ maxLen
  law := lawH
  key := fun k hk => by obtain ⟨l, hl⟩ := keyH hk.1 hk.2; rw [hl]; rfl
  inj := fun a b h => by
    obtain ⟨a1, a2⟩ := a
    obtain ⟨b1, b2⟩ := b
    simp at h
    obtain ⟨h3, h4⟩ := h
    have h5 : a1 = b1 := by omega
    rw [h5, h4]
/-- texts as elements -/
noncomputable def ES : ElRep ByteArray where
  R := plainElem Tryz.prog 9
  ev := .string
  el := fun s => .lit (.string s.data.toList)
  ok := fun s => s.size ≤ maxLen
  made := fun _ h => plainElem_string Tryz.underlying9 h
  inv := fun x v ps _ h => by
    obtain ⟨s, rfl, h2, _⟩ := plainElem_string_inv Tryz.underlying9 h
    simp only [Prod.mk.injEq, DataW.lit.injEq] at h2
    rw [keyL_inj h2.1]
/-- what a transaction is: its state, how many operations were done, the Ticks up to the last -/
structure ATxn where
  state : Nat
  done : Nat
  last : Nat
abbrev txnV (t : ATxn) : Value := .agg #[.int .i64 (t.state : Int), .int .i64 (t.done : Int), .int .u64 (t.last : Int)]
def txnR : Value → Option (DataW Unit × List MemPlace)
  | .agg cs => match cs.toList with
    | [.int .i64 a, .int .i64 b, .int .u64 c] => some (.agg [.lit (.int .i64 a), .lit (.int .i64 b), .lit (.int .u64 c)], [])
    | _ => none
  | _ => none
noncomputable def ET : ElRep ATxn where
  R := txnR
  ev := txnV
  el := fun t => .agg [.lit (.int .i64 (t.state : Int)), .lit (.int .i64 (t.done : Int)), .lit (.int .u64 (t.last : Int))]
  ok := fun _ => True
  made := fun _ _ => by simp [txnR]
  inv := fun x v ps _ h => by
    unfold txnR at h
    split at h
    · rename_i cs
      split at h
      · rename_i a b c hc
        simp at h
        obtain ⟨⟨rfl, rfl, rfl⟩, _⟩ := h
        show Value.agg cs = Value.agg _
        congr 1
        exact Array.toList_inj.1 (by rw [hc])
      · cases h
    · cases h
/-- how a key is held: 0 to read, 1 put, 2 deleted; what was put -/
structure AGrip where
  way : Nat
  val : ByteArray
abbrev gripV (g : AGrip) : Value := .agg #[.int .u8 (g.way : Int), .string g.val]
def gripR : Value → Option (DataW Unit × List MemPlace)
  | .agg cs => match cs.toList with
    | [.int .u8 a, .string s] => some (.agg [.lit (.int .u8 a), .lit (.string s.data.toList)], [])
    | _ => none
  | _ => none
noncomputable def EG : ElRep AGrip where
  R := gripR
  ev := gripV
  el := fun g => .agg [.lit (.int .u8 (g.way : Int)), .lit (.string g.val.data.toList)]
  ok := fun _ => True
  made := fun _ _ => by simp [gripR]
  inv := fun x v ps _ h => by
    unfold gripR at h
    split at h
    · rename_i cs
      split at h
      · rename_i a s hc
        simp only [Option.some.injEq, Prod.mk.injEq, DataW.agg.injEq, List.cons.injEq, DataW.lit.injEq, Lit.int.injEq, true_and, and_true] at h
        obtain ⟨⟨rfl, h2⟩, _⟩ := h
        rw [keyL_inj h2] at hc
        show Value.agg cs = Value.agg _
        congr 1
        exact Array.toList_inj.1 (by rw [hc])
      · cases h
    · cases h
theorem zeroTxn (w : World) : (zeroValue 196).run Tryz.prog w = .ok (ET.ev ⟨0, 0, 0⟩) w := by kernel_rfl
theorem zeroGrip (w : World) : (zeroValue 189).run Tryz.prog w = .ok (EG.ev ⟨0, ByteArray.empty⟩) w := by kernel_rfl
theorem zeroStr (w : World) : (zeroValue 9).run Tryz.prog w = .ok (ES.ev ByteArray.empty) w := by kernel_rfl
end Go.Proofs.YtejiankgafjppaaGreatDoor
/- plain.do: one change of a map of files. -/
namespace Go.Proofs.YtejiankgafjppaaGreatDoor
open Go.RowKit

abbrev opV (o : AOp) : Value := .agg #[.int .i64 (o.kind : Int), .string o.name, .string o.to, .string o.data]
abbrev opO (o : AOp) : Obj := .cells #[.int .i64 (o.kind : Int), .string o.name, .string o.to, .string o.data] 175

theorem wpList_file_look {w : World} {ops : Array Oper} {rest : List Oper} {o : Oper} {a : Act} {Q : Exit → Act → World → Prop} (hg : o.guard = none) (m x : Operand) (hop : o.op = Op.lookup 85 m x true)
    (b n : Nat) (F : Files) (hm : a.eval m = .map (some b)) (hF : FileMap w b n F) (k : ByteArray) (hk : k.size ≤ maxLen) (hx : a.eval x = .string k)
    (hN : F k = none → wpList Tryz.prog ops Q rest (a.put o.dst (.tuple #[.pointer none, .bool false])) w)
    (hS : ∀ t q, F k = some t → w.heap[q]? = some (textO t) → wpList Tryz.prog ops Q rest (a.put o.dst (.tuple #[.pointer (some ⟨q, 0, none⟩), .bool true])) w) : wpList Tryz.prog ops Q (o :: rest) a w := by
  refine wpList_plain hg fun K' hK' => ?_
  unfold Oper.wp
  rcases hF.look k hk with ⟨h1, h2⟩ | ⟨t, q, h1, h2, h3⟩
  · simp [execOp, hop, hm, hx, h2, Result.andThen]
    exact hK' _ _ (hN h1)
  · simp [execOp, hop, hm, hx, h3, Result.andThen]
    exact hK' _ _ (hS t q h1 h2)
theorem wpList_file_look1 {w : World} {ops : Array Oper} {rest : List Oper} {o : Oper} {a : Act} {Q : Exit → Act → World → Prop} (hg : o.guard = none) (m x : Operand) (hop : o.op = Op.lookup 85 m x false)
    (b n : Nat) (F : Files) (hm : a.eval m = .map (some b)) (hF : FileMap w b n F) (k t : ByteArray) (hk : F k = some t) (hx : a.eval x = .string k)
    (hS : ∀ q, w.heap[q]? = some (textO t) → wpList Tryz.prog ops Q rest (a.put o.dst (.pointer (some ⟨q, 0, none⟩))) w) : wpList Tryz.prog ops Q (o :: rest) a w := by
  refine wpList_plain hg fun K' hK' => ?_
  unfold Oper.wp
  obtain ⟨q, h2, h3⟩ := hF.look1 k t hk
  simp [execOp, hop, hm, hx, h3, Result.andThen]
  exact hK' _ _ (hS q h2)
/-- the world behind the box and the text's cell -/
abbrev doW (w : World) (o : AOp) : World := (w.alloc (opO o)).alloc (textO o.data)
theorem doW_fr (w : World) (o : AOp) : Fr [] w (doW w o) := ((Fr.refl [] w).alloc _).alloc _
theorem doW_text (w : World) (o : AOp) : (doW w o).heap[w.heap.size + 1]? = some (textO o.data) := by
  have := heap_alloc_new (w.alloc (opO o)) (textO o.data)
  rw [World.size_alloc] at this; exact this
theorem FileMap.new {w w' : World} {b n : Nat} {m : Files} (h : FileMap w b n m) (hf : Fr [] w w') : FileMap w' b n m := h.fr hf (by simp) (by simp)
theorem grown_of_fr {w w1 w2 : World} {b : Nat} (h : Fr [] w w1) (k : w1.grownBy w2 (some b)) : w.grownBy w2 (some b) :=
  Fr.grown1 ((h.mono (T := [b]) (by simp)).trans (Fr.of_grown1 k))
theorem text_cell {w : World} {q : Nat} {t : ByteArray} (h : w.heap[q]? = some (textO t)) : w.cell? ⟨q, 0, none⟩ = some (.string t) := by simp [World.cell?, h]

set_option maxRecDepth 100000 in
set_option maxHeartbeats 1000000 in
theorem do_write (b n : Nat) (m : Files) (o : AOp) (w : World) (hm : FileMap w b n m) (hn : n < maxLen) (hk : o.kind = 1) (h1 : o.name.size ≤ maxLen) :
    Calls Tryz.prog 125 #[.map (some b), opV o] w fun e w' => e = .returned (.tuple #[]) ∧ FileMap w' b (n + 1) (doOp m o) ∧ w.grownBy w' (some b) := by
  have HM : Hid (FileMap w b n m) := hm
  clear hm
  obtain ⟨kd, nm, to, da⟩ := o
  simp only at hk h1
  subst hk
  go_enter Tryz.func125, Tryz.ntmps125
  go_wp2_with (first | (at_lookup; refine wpList_file_look rfl _ _ rfl b n m rfl (HM.out.new (doW_fr w ⟨1, nm, to, da⟩)) nm h1 rfl ?_ ?_) | fail)
  · intro hN
    go_wp2_with (first | (at_mapUpdate; refine wpList_file_put rfl _ _ _ rfl b n m rfl (HM.out.new (doW_fr w ⟨1, nm, to, da⟩)) hn nm h1 rfl _ da rfl (doW_text w ⟨1, nm, to, da⟩) ?_; intro w1 hF1 hg1) | fail)
    go_end0
    exact ⟨rfl, hF1, grown_of_fr (doW_fr w ⟨1, nm, to, da⟩) hg1⟩
  · intro t q hN hq
    go_wp2_with (first | (at_mapUpdate; refine wpList_file_put rfl _ _ _ rfl b n m rfl (HM.out.new (doW_fr w ⟨1, nm, to, da⟩)) hn nm h1 rfl _ da rfl (doW_text w ⟨1, nm, to, da⟩) ?_; intro w1 hF1 hg1) | fail)
    go_end0
    exact ⟨rfl, hF1, grown_of_fr (doW_fr w ⟨1, nm, to, da⟩) hg1⟩

set_option maxRecDepth 100000 in
set_option maxHeartbeats 1000000 in
theorem do_remove (b n : Nat) (m : Files) (o : AOp) (w : World) (hm : FileMap w b n m) (hk : o.kind = 3) (h1 : o.name.size ≤ maxLen) :
    Calls Tryz.prog 125 #[.map (some b), opV o] w fun e w' => e = .returned (.tuple #[]) ∧ FileMap w' b (n + 1) (doOp m o) ∧ w.grownBy w' (some b) := by
  have HM : Hid (FileMap w b n m) := hm
  clear hm
  obtain ⟨kd, nm, to, da⟩ := o
  simp only at hk h1
  subst hk
  go_enter Tryz.func125, Tryz.ntmps125
  go_wp2_with (first | (at_lookup; refine wpList_file_look rfl _ _ rfl b n m rfl (HM.out.new (doW_fr w ⟨3, nm, to, da⟩)) nm h1 rfl ?_ ?_) | fail)
  · intro hN
    go_wp2
    refine bodyPost_ret (results_none rfl _ _ _) rfl ?_
    refine ⟨rfl, ?_, grown_of_fr (doW_fr w ⟨3, nm, to, da⟩) (grown_refl _ _)⟩
    have e : doOp m ⟨3, nm, to, da⟩ = m := by
      funext x
      show (if x = nm then none else m x) = m x
      by_cases hx : x = nm
      · subst hx; simp [hN]
      · simp [hx]
    rw [e]; exact (HM.out.new (doW_fr w ⟨3, nm, to, da⟩)).mono (by omega)
  · intro t q hN hq
    go_wp2_with (first | (at_delete; refine wpList_file_del rfl _ _ rfl b n m rfl (HM.out.new (doW_fr w ⟨3, nm, to, da⟩)) nm h1 rfl ?_; intro w1 hF1 hg1) | fail)
    go_end0
    exact ⟨rfl, hF1.mono (by omega), grown_of_fr (doW_fr w ⟨3, nm, to, da⟩) hg1⟩

set_option maxRecDepth 100000 in
set_option maxHeartbeats 1000000 in
theorem do_rename (b n : Nat) (m : Files) (o : AOp) (w : World) (hm : FileMap w b n m) (hn : n < maxLen) (hk : o.kind = 4) (h1 : o.name.size ≤ maxLen) (h2 : o.to.size ≤ maxLen) :
    Calls Tryz.prog 125 #[.map (some b), opV o] w fun e w' => e = .returned (.tuple #[]) ∧ FileMap w' b (n + 1) (doOp m o) ∧ w.grownBy w' (some b) := by
  have HM : Hid (FileMap w b n m) := hm
  clear hm
  obtain ⟨kd, nm, to, da⟩ := o
  simp only at hk h1 h2
  subst hk
  go_enter Tryz.func125, Tryz.ntmps125
  go_wp2_with (first | (at_lookup; refine wpList_file_look rfl _ _ rfl b n m rfl (HM.out.new (doW_fr w ⟨4, nm, to, da⟩)) nm h1 rfl ?_ ?_) | fail)
  · intro hN
    go_wp2
    refine bodyPost_ret (results_none rfl _ _ _) rfl ?_
    refine ⟨rfl, ?_, grown_of_fr (doW_fr w ⟨4, nm, to, da⟩) (grown_refl _ _)⟩
    have e : doOp m ⟨4, nm, to, da⟩ = m := by simp [doOp, hN]
    rw [e]; exact (HM.out.new (doW_fr w ⟨4, nm, to, da⟩)).mono (by omega)
  · intro t q hN hq
    go_wp2_with (first | (at_lookup; refine wpList_file_look1 rfl _ _ rfl b n m rfl (HM.out.new (doW_fr w ⟨4, nm, to, da⟩)) nm t hN rfl ?_; intro q2 hq2) | (at_mapUpdate; refine wpList_file_put rfl _ _ _ rfl b n m rfl (HM.out.new (doW_fr w ⟨4, nm, to, da⟩)) hn to h2 rfl _ t rfl hq2 ?_; intro w1 hF1 hg1; have hc1 : w1.cell? ⟨w.heap.size, 1, none⟩ = some (.string nm) := (grown_cell hg1 (a := ⟨w.heap.size, 1, none⟩) (by have := HM.out.lt; simp; omega) (by simp; omega)).trans (by simp)) | (at_delete; refine wpList_file_del rfl _ _ rfl b (n + 1) _ rfl hF1 nm h1 rfl ?_; intro w2 hF2 hg2) | fail)
    go_end0
    refine ⟨rfl, ?_, grown_trans (grown_of_fr (doW_fr w ⟨4, nm, to, da⟩) hg1) hg2⟩
    have e : doOp m ⟨4, nm, to, da⟩ = (m.set to (some t)).set nm none := by simp [doOp, hN]
    rw [e]; exact hF2

set_option maxRecDepth 100000 in
set_option maxHeartbeats 1000000 in
theorem do_append (b n : Nat) (m : Files) (o : AOp) (w : World) (hm : FileMap w b n m) (hn : n < maxLen) (hk : o.kind = 2) (h1 : o.name.size ≤ maxLen) (h3 : ((m o.name).getD ByteArray.empty).size + o.data.size ≤ 1099511627776) :
    Calls Tryz.prog 125 #[.map (some b), opV o] w fun e w' => e = .returned (.tuple #[]) ∧ FileMap w' b (n + 1) (doOp m o) ∧ w.grownBy w' (some b) := by
  have HM : Hid (FileMap w b n m) := hm
  clear hm
  obtain ⟨kd, nm, to, da⟩ := o
  simp only at hk h1 h3
  subst hk
  go_enter Tryz.func125, Tryz.ntmps125
  go_wp2_with (first | (at_lookup; refine wpList_file_look rfl _ _ rfl b n m rfl (HM.out.new (doW_fr w ⟨2, nm, to, da⟩)) nm h1 rfl ?_ ?_) | fail)
  · intro hN
    have HN : Hid (m nm = none) := hN
    clear hN
    go_wp2_with (first | (at_lookup; refine wpList_file_look rfl _ _ rfl b n m rfl (HM.out.new (doW_fr w ⟨2, nm, to, da⟩)) nm h1 rfl ?_ ?_) | fail)
    · intro hN2
      go_wp2_with (first | (at_mapUpdate; refine wpList_file_put rfl _ _ _ rfl b n m rfl (HM.out.new (doW_fr w ⟨2, nm, to, da⟩)) hn nm h1 rfl _ da rfl (doW_text w ⟨2, nm, to, da⟩) ?_; intro w1 hF1 hg1) | fail)
      go_end0
      refine ⟨rfl, ?_, grown_of_fr (doW_fr w ⟨2, nm, to, da⟩) hg1⟩
      have e : doOp m ⟨2, nm, to, da⟩ = m.set nm (some da) := by simp [doOp, HN.out]
      rw [e]; exact hF1
    · intro t2 q2 hN2
      exact absurd (HN.out.symm.trans hN2) (by simp)
  · intro t q hN hq
    have HN : Hid (m nm = some t) := hN
    clear hN hq
    go_wp2_with (first | (at_lookup; refine wpList_file_look rfl _ _ rfl b n m rfl (HM.out.new (doW_fr w ⟨2, nm, to, da⟩)) nm h1 rfl ?_ ?_) | fail)
    · intro hN2
      exact absurd (HN.out.symm.trans hN2) (by simp)
    · intro t2 q2 hN2 hq2
      obtain rfl : t = t2 := Option.some.inj (HN.out.symm.trans hN2)
      have hc2 := text_cell hq2
      have hlt : ¬ 9223372036854775807 < t.size + da.size := by rw [HN.out] at h3; simp at h3; omega
      clear hN2 hq2
      go_wp2
      go_region
      have hfr : Fr [] w ((w.alloc (opO ⟨2, nm, to, da⟩)).alloc (textO (t ++ da))).drew := (((Fr.refl [] w).alloc _).alloc _).drew
      go_wp2_with (first | (at_mapUpdate; refine wpList_file_put rfl _ _ _ rfl b n m rfl (HM.out.new hfr) hn nm h1 rfl _ (t ++ da) rfl (by have := heap_alloc_new (w.alloc (opO ⟨2, nm, to, da⟩)) (textO (t ++ da)); rw [World.size_alloc] at this; exact this) ?_; intro w1 hF1 hg1) | fail)
      go_end0
      refine ⟨rfl, ?_, grown_of_fr hfr hg1⟩
      have e : doOp m ⟨2, nm, to, da⟩ = m.set nm (some (t ++ da)) := by simp [doOp, HN.out]
      rw [e]; exact hF1

/-- an op that do takes: of one of the four kinds, of texts that are not too long -/
structure AOp.Ok (o : AOp) (c : Nat) : Prop where
  kind : o.kind = 1 ∨ o.kind = 2 ∨ o.kind = 3 ∨ o.kind = 4
  name : o.name.size ≤ maxLen
  to : o.to.size ≤ maxLen
  data : o.data.size ≤ c
/-- all texts are of at most c bytes -/
def Files.Le (m : Files) (c : Nat) : Prop := ∀ k t, m k = some t → t.size ≤ c
theorem do_any (b n c : Nat) (m : Files) (o : AOp) (w : World) (hm : FileMap w b n m) (hn : n < maxLen) (ho : o.Ok c) (hc : c ≤ 549755813888) (hl : m.Le 549755813888) :
    Calls Tryz.prog 125 #[.map (some b), opV o] w fun e w' => e = .returned (.tuple #[]) ∧ FileMap w' b (n + 1) (doOp m o) ∧ w.grownBy w' (some b) := by
  rcases ho.kind with h | h | h | h
  · exact do_write b n m o w hm hn h ho.name
  · refine do_append b n m o w hm hn h ho.name ?_
    have := ho.data
    cases hx : m o.name with
    | none => simp; omega
    | some t => have := hl _ _ hx; simp; omega
  · exact do_remove b n m o w hm h ho.name
  · exact do_rename b n m o w hm hn h ho.name ho.to
theorem doOp_le {m : Files} {c d : Nat} {o : AOp} (h : m.Le d) (ho : o.Ok c) : (doOp m o).Le (d + c) := by
  intro k t hk
  have hd := ho.data
  rcases ho.kind with h1 | h1 | h1 | h1 <;> simp only [doOp, h1] at hk
  · by_cases hx : k = o.name
    · subst hx; simp [Files.set] at hk; subst hk; omega
    · simp [Files.set, hx] at hk; have := h _ _ hk; omega
  · by_cases hx : k = o.name
    · subst hx
      simp [Files.set] at hk
      subst hk
      cases hy : m o.name with
      | none => simp; omega
      | some s => have := h _ _ hy; simp; omega
    · simp [Files.set, hx] at hk; have := h _ _ hk; omega
  · by_cases hx : k = o.name
    · subst hx; simp [Files.set] at hk
    · simp [Files.set, hx] at hk; have := h _ _ hk; omega
  · cases hs : m o.name with
    | none => rw [hs] at hk; simp at hk; have := h _ _ hk; omega
    | some s =>
      rw [hs] at hk; simp at hk
      by_cases hx : k = o.name
      · subst hx; simp [Files.set] at hk
      · by_cases hy : k = o.to
        · subst hy; simp [Files.set, hx] at hk; subst hk; have := h _ _ hs; omega
        · simp [Files.set, hx, hy] at hk; have := h _ _ hk; omega
end Go.Proofs.YtejiankgafjppaaGreatDoor
/- THE DISK IN MEMORY: its block, its maps, what is pending; writes. -/
namespace Go.Proofs.YtejiankgafjppaaGreatDoor
open Go.RowKit

/-- an error by its number; 0: none -/
def errN (n : Nat) : Value := if n = 0 then .nilIface else .iface 32 (.int .i64 (n : Int))
theorem errN_ok : errN 0 = .nilIface := rfl
theorem errN_no {n : Nat} (h : n ≠ 0) : errN n = .iface 32 (.int .i64 (n : Int)) := by unfold errN; rw [if_neg h]
abbrev dskO (bD bN : Nat) (pv : Value) (l f : Int) (dn : Bool) : Obj := .cells #[.map (some bD), .map (some bN), pv, .int .i64 l, .int .i64 f, .bool dn] 88
theorem blk_cell {w : World} {p : Nat} {c : Array Value} {t : TypeId} (h : w.heap[p]? = some (.cells c t (0, 0))) (i : Nat) : w.cell? ⟨p, i, none⟩ = c[i]? := by simp [World.cell?, h]
theorem blk_free {w : World} {p : Nat} {c : Array Value} {t : TypeId} (h : w.heap[p]? = some (.cells c t (0, 0))) (i : Nat) : w.frozen? ⟨p, i, none⟩ = false := by simp [World.frozen?, h]
theorem blk_set {w : World} {p : Nat} {c : Array Value} {t : TypeId} (h : w.heap[p]? = some (.cells c t (0, 0))) (i : Nat) (v : Value) : (w.setCell ⟨p, i, none⟩ v).heap[p]? = some (.cells (c.setIfInBounds i v) t (0, 0)) := by
  simp [World.setCell, Array.getElem?_modify, h]
theorem Fr.set1 {w : World} {p : Nat} {S : List Nat} (hp : p ∈ S) (i : Nat) (v : Value) : Fr S w (w.setCell ⟨p, i, none⟩ v) := (Fr.refl S w).setCell (Or.inl hp) v
/-- what is told by w.left, w.full -/
theorem wr_down {d : ADisk} (h : d.down = true ∨ d.left = 0) : d.writes = ({ d with down := true }, 10) := by unfold ADisk.writes; rw [if_pos h]
theorem wr_full {d : ADisk} (h : ¬ (d.down = true ∨ d.left = 0)) (hf : d.full = 0) : d.writes = ({ d with left := wrap64 (d.left - 1), full := -1 }, 9) := by unfold ADisk.writes; rw [if_neg h, if_pos hf]
theorem wr_ok {d : ADisk} (h : ¬ (d.down = true ∨ d.left = 0)) (hf : ¬ d.full = 0) : d.writes = ({ d with left := wrap64 (d.left - 1), full := wrap64 (d.full - 1) }, 0) := by unfold ADisk.writes; rw [if_neg h, if_neg hf]

set_option maxRecDepth 100000 in
set_option maxHeartbeats 1000000 in
theorem writes_any (p bD bN : Nat) (pv : Value) (d : ADisk) (w : World) (h : w.heap[p]? = some (dskO bD bN pv d.left d.full d.down)) :
    Calls Tryz.prog 428 #[.pointer (some ⟨p, 0, none⟩)] w fun e w' => e = .returned (errN d.writes.2) ∧ w'.heap[p]? = some (dskO bD bN pv d.writes.1.left d.writes.1.full d.writes.1.down) ∧ Fr [p] w w' := by
  have H : Hid (w.heap[p]? = some (dskO bD bN pv d.left d.full d.down)) := h
  have c3 := blk_cell h 3
  have c4 := blk_cell h 4
  have c5 := blk_cell h 5
  have f3 := blk_free h 3
  have f4 := blk_free h 4
  have f5 := blk_free h 5
  simp at c3 c4 c5
  clear h
  obtain ⟨du, no, pe, l, f, dn⟩ := d
  simp only at c3 c4 c5 H
  by_cases hd : dn = true ∨ l = 0
  · rw [wr_down hd]
    go_enter Tryz.func428, Tryz.ntmps428
    rcases hd with rfl | rfl
    · go_wp2
      go_ret
      exact ⟨rfl, by have := blk_set H.out 5 (.bool true); simpa using this, Fr.set1 (by simp) _ _⟩
    · cases dn
      · go_wp2
        go_ret
        exact ⟨rfl, by have := blk_set H.out 5 (.bool true); simpa using this, Fr.set1 (by simp) _ _⟩
      · go_wp2
        go_ret
        exact ⟨rfl, by have := blk_set H.out 5 (.bool true); simpa using this, Fr.set1 (by simp) _ _⟩
  · have hl : ¬ l = 0 := fun e => hd (Or.inr e)
    have hdn : dn = false := by cases dn with | false => rfl | true => exact absurd (Or.inl rfl) hd
    by_cases hf : f = 0
    · rw [wr_full hd hf]
      subst hf hdn
      go_enter Tryz.func428, Tryz.ntmps428
      go_wp2
      go_ret
      exact ⟨rfl, by have := blk_set (blk_set H.out 3 (.int .i64 (wrap64 (l - 1)))) 4 (.int .i64 (-1)); simpa using this, (Fr.set1 (by simp) _ _).trans (Fr.set1 (by simp) _ _)⟩
    · rw [wr_ok hd hf]
      subst hdn
      go_enter Tryz.func428, Tryz.ntmps428
      go_wp2
      go_ret
      exact ⟨rfl, by have := blk_set (blk_set H.out 3 (.int .i64 (wrap64 (l - 1)))) 4 (.int .i64 (wrap64 (f - 1))); simpa using this, (Fr.set1 (by simp) _ _).trans (Fr.set1 (by simp) _ _)⟩
end Go.Proofs.YtejiankgafjppaaGreatDoor
/- (*disk).tell: a change is told. -/
namespace Go.Proofs.YtejiankgafjppaaGreatDoor
open Go.RowKit

def opCells (o : AOp) : List Value := [.int .i64 (o.kind : Int), .string o.name, .string o.to, .string o.data]
def opsV (l : List AOp) : List Value := l.flatMap opCells
theorem opsV_snoc (l : List AOp) (o : AOp) : opsV (l ++ [o]) = opsV l ++ opCells o := by simp [opsV]
theorem Tryz.infoOp : (Tryz.prog.info? 175).map (fun i => (i.zero, i.size, i.bytes)) = some (some (.agg #[.int .i64 0, .string ByteArray.empty, .string ByteArray.empty, .string ByteArray.empty]), 4, 56) := by kernel_rfl

/-- append's law with the place of what comes out -/
theorem wp_append_at {P : Program} {w : World} {o : Oper} {a : Act} {K : Act → World → Prop} {Q : Exit → Act → World → Prop} (s x : Operand) (t : TypeId)
    (ho : o.op = .call { callee := .builtin .append, args := #[s, x], argTypes := #[t, t] })
    (base : Nat) (e : TypeId) (i : TypeInfo) (z : Value) (size bytes : Nat) (ht : P.underlying t = some (.slice e)) (hi : P.info? e = some i) (hz : i.zero = some z)
    (hsize : i.size = size) (hby : i.bytes = bytes) (hzs : z.cells.size = size) (hsz : 0 < size)
    (v : Value) (n : Nat) (xs : List Value) (hs : a.eval s = v) (hown : w.ownsRow base e size v n xs)
    (ad : Addr) (m c : Nat) (news : List Value) (hx : a.eval x = .slice (some ad) m c) (hl : news.length = m * size) (hnews : ∀ j u, news[j]? = some u → w.cell? (ad.add j) = some u) (h1 : ∀ u ∈ news, u.oneCell' = true)
    (h63 : n + m ≤ maxLen) (hbytes : (n + m) * bytes ≤ 140737488355328) (hbase : base ≤ w.heap.size)
    (h : ∀ v' w', w'.ownsRow base e size v' (n + m) (xs ++ news) → w.grownBy w' v.ownBlock → (v'.ownBlock = v.ownBlock ∨ v'.ownBlock = some w.heap.size) → K (a.put o.dst v') w') : o.wp P a w K Q := by
  obtain ⟨v', w', hr, h2, h3, _, h5⟩ := run_append_own_at (P := P) w base t o.type e i z size bytes ht hi hz hsize hby hzs hsz v n xs hown ad m c news hl hnews h1 h63 hbytes hbase
  unfold Oper.wp execOp
  simp only [ho, resolve, invoke, builtin, Sem.run_bind, Sem.run_pure, Result.andThen_ok, List.map_toArray, List.map_cons, List.map_nil, hs, hx, hr]
  exact h v' w' h2 h3 h5
/-- a slice that lies where another did, or in a block from s on -/
def Near (s : Nat) (v v' : Value) : Prop := ∀ k, v'.ownBlock = some k → v.ownBlock = some k ∨ s ≤ k
theorem Near.refl (s : Nat) (v : Value) : Near s v v := fun _ h => .inl h
theorem Near.nil (s : Nat) (v : Value) : Near s v (.slice none 0 0) := fun k h => by cases h
theorem Near.of_at {s : Nat} {v v' : Value} {q : Nat} (h : v'.ownBlock = v.ownBlock ∨ v'.ownBlock = some q) (hq : s ≤ q) : Near s v v' := fun k hk => by
  rcases h with h | h
  · left; rw [← h]; exact hk
  · right; rw [h] at hk; cases hk; exact hq
theorem wp_opapp {w : World} {o : Oper} {a : Act} {K : Act → World → Prop} {Q : Exit → Act → World → Prop} (s x : Operand)
    (ho : o.op = .call { callee := .builtin .append, args := #[s, x], argTypes := #[86, 86] })
    (base : Nat) (v : Value) (n : Nat) (l : List AOp) (r : AOp) (b : Nat) (hs : a.eval s = v) (hown : w.ownsRow base 175 4 v n (opsV l)) (hx : a.eval x = .slice (some ⟨b, 0, none⟩) 1 1)
    (hb : w.heap[b]? = some (opO r)) (hn : n ≤ 1073741824) (hbase : base ≤ w.heap.size)
    (h : ∀ v' w', w'.ownsRow base 175 4 v' (n + 1) (opsV (l ++ [r])) → w.grownBy w' v.ownBlock → (v'.ownBlock = v.ownBlock ∨ v'.ownBlock = some w.heap.size) → K (a.put o.dst v') w') : o.wp Tryz.prog a w K Q := by
  obtain ⟨i0, hi, hz0, hz1, hz2⟩ := info_parts Tryz.infoOp
  have hc0 := blk_cell hb 0
  have hc1 := blk_cell hb 1
  have hc2 := blk_cell hb 2
  have hc3 := blk_cell hb 3
  simp at hc0 hc1 hc2 hc3
  refine wp_append_at s x 86 ho base 175 i0 _ 4 56 Tryz.underlying86 hi hz0 hz1 hz2 rfl (by decide) v n (opsV l) hs hown ⟨b, 0, none⟩ 1 1 (opCells r) hx rfl ?_ ?_ (by unfold maxLen; omega) (by omega) hbase ?_
  · intro jj u hjj
    match jj, hjj with
    | 0, hjj => simp [opCells] at hjj; subst hjj; simpa [Addr.add] using hc0
    | 1, hjj => simp [opCells] at hjj; subst hjj; simpa [Addr.add] using hc1
    | 2, hjj => simp [opCells] at hjj; subst hjj; simpa [Addr.add] using hc2
    | 3, hjj => simp [opCells] at hjj; subst hjj; simpa [Addr.add] using hc3
  · intro u hu; simp [opCells] at hu; rcases hu with rfl | rfl | rfl | rfl <;> rfl
  · intro v' w' ho' hg' hl'
    refine h v' w' ?_ hg' hl'
    rw [opsV_snoc]; exact ho'
/-- the disk in memory -/
structure DiskIn (w : World) (B p bD bN : Nat) (pv : Value) (d : ADisk) (n nD nN : Nat) : Prop where
  blk : w.heap[p]? = some (dskO bD bN pv d.left d.full d.down)
  base : B ≤ p ∧ B ≤ bD ∧ B ≤ bN ∧ B ≤ w.heap.size
  ne : bD ≠ bN
  dur : FileMap w bD nD d.durable
  now : FileMap w bN nN d.now
  pen : w.ownsRow B 175 4 pv d.pending.length (opsV d.pending)
  hD : nD + d.pending.length ≤ n
  hN : nN ≤ n
  hn : n ≤ 67108864
  leD : d.durable.Le (nD * 4096)
  leN : d.now.Le (nN * 4096)
  ops : ∀ o ∈ d.pending, o.Ok 4096
theorem FileMap.ne_cells {w : World} {b n q : Nat} {m : Files} {c : Array Value} {t : TypeId} {fr : Nat × Nat} (h : FileMap w b n m) (hq : w.heap[q]? = some (.cells c t fr)) : b ≠ q := by
  obtain ⟨es, c', h1⟩ := h.isMap
  intro e; subst e; rw [h1] at hq; cases hq
theorem own_cells {w : World} {B n g : Nat} {e : TypeId} {k : Nat} {v : Value} {xs : List Value} (h : w.ownsRow B e k v n xs) (hg : v.ownBlock = some g) : ∃ c, w.heap[g]? = some (.cells c e (0, 0)) := by
  rcases h.2 with ⟨rfl, _⟩ | ⟨g', cap, cur, rfl, _, h3, _⟩
  · cases hg
  · cases hg; exact ⟨cur, h3⟩
/-- a block of another element type is not the row's -/
theorem own_ne {w : World} {B n q : Nat} {e e' : TypeId} {k : Nat} {v : Value} {xs : List Value} {c : Array Value} {fr : Nat × Nat} (h : w.ownsRow B e k v n xs) (hq : w.heap[q]? = some (.cells c e' fr)) (hne : e ≠ e') : v.ownBlock ≠ some q := by
  intro hv
  obtain ⟨c', h1⟩ := own_cells h hv
  rw [h1] at hq
  cases hq
  exact hne rfl
/-- what a disk may write -/
abbrev dS (p bD bN : Nat) (pv : Value) : List Nat := p :: bD :: bN :: pv.ownBlock.toList
theorem ownsRow_fr {w w' : World} {S : List Nat} {B n : Nat} {e : TypeId} {k : Nat} {v : Value} {xs : List Value} (h : w.ownsRow B e k v n xs) (hf : Fr S w w') (hs : ∀ g, v.ownBlock = some g → g ∉ S) : w'.ownsRow B e k v n xs := by
  refine ⟨h.1, ?_⟩
  rcases h.2 with h1 | ⟨g, cap, cur, rfl, h2, h3, h4⟩
  · exact .inl h1
  · exact .inr ⟨g, cap, cur, rfl, h2, (hf.block g (Array.getElem?_eq_some_iff.1 h3).1 (hs g rfl)).trans h3, h4⟩
/-- behind a frame that leaves the disk alone -/
theorem DiskIn.fr {w w' : World} {B p bD bN n nD nN : Nat} {pv : Value} {d : ADisk} {S : List Nat} (h : DiskIn w B p bD bN pv d n nD nN) (hf : Fr S w w') (hp : p ∉ S) (h1 : bD ∉ S) (h2 : bN ∉ S) (h3 : ∀ g, pv.ownBlock = some g → g ∉ S) (h4 : ∀ q ∈ S, ∀ t, w.heap[q]? ≠ some (textO t)) : DiskIn w' B p bD bN pv d n nD nN where
  blk := (hf.block p (Array.getElem?_eq_some_iff.1 h.blk).1 hp).trans h.blk
  base := ⟨h.base.1, h.base.2.1, h.base.2.2.1, Nat.le_trans h.base.2.2.2 hf.size⟩
  ne := h.ne
  dur := h.dur.fr hf h1 h4
  now := h.now.fr hf h2 h4
  pen := ownsRow_fr h.pen hf h3
  hD := h.hD
  hN := h.hN
  hn := h.hn
  leD := h.leD
  leN := h.leN
  ops := h.ops
theorem DiskIn.new {w w' : World} {B p bD bN n nD nN : Nat} {pv : Value} {d : ADisk} (h : DiskIn w B p bD bN pv d n nD nN) (hf : Fr [] w w') : DiskIn w' B p bD bN pv d n nD nN :=
  h.fr hf (by simp) (by simp) (by simp) (by simp) (by simp)
theorem DiskIn.more {w : World} {B p bD bN n nD nN : Nat} {pv : Value} {d : ADisk} (h : DiskIn w B p bD bN pv d n nD nN) (hn : n < 67108864) : DiskIn w B p bD bN pv d (n + 1) nD nN :=
  { h with hD := by have := h.hD; omega, hN := by have := h.hN; omega, hn := by omega }
/-- the block alone was written -/
theorem DiskIn.turn {w w' : World} {B p bD bN n nD nN : Nat} {pv : Value} {d : ADisk} (h : DiskIn w B p bD bN pv d n nD nN) (hf : Fr [p] w w') (l f : Int) (dn : Bool) (hb : w'.heap[p]? = some (dskO bD bN pv l f dn)) :
    DiskIn w' B p bD bN pv { d with left := l, full := f, down := dn } n nD nN where
  blk := hb
  base := ⟨h.base.1, h.base.2.1, h.base.2.2.1, Nat.le_trans h.base.2.2.2 hf.size⟩
  ne := h.ne
  dur := h.dur.fr hf (by simp; exact h.dur.ne_cells h.blk) (by intro q hq t; simp at hq; subst hq; rw [h.blk]; intro e; cases e)
  now := h.now.fr hf (by simp; exact h.now.ne_cells h.blk) (by intro q hq t; simp at hq; subst hq; rw [h.blk]; intro e; cases e)
  pen := ownsRow_fr h.pen hf (fun g hg => by simp; intro e; subst e; exact own_ne h.pen h.blk (by decide) hg)
  hD := h.hD
  hN := h.hN
  hn := h.hn
  leD := h.leD
  leN := h.leN
  ops := h.ops
theorem writes_same (d : ADisk) : d.writes.1 = { d with left := d.writes.1.left, full := d.writes.1.full, down := d.writes.1.down } := by
  unfold ADisk.writes; split
  · rfl
  · split <;> rfl
theorem writes_in (B p bD bN n nD nN : Nat) (pv : Value) (d : ADisk) (w : World) (h : DiskIn w B p bD bN pv d n nD nN) :
    Calls Tryz.prog 428 #[.pointer (some ⟨p, 0, none⟩)] w fun e w' => e = .returned (errN d.writes.2) ∧ DiskIn w' B p bD bN pv d.writes.1 n nD nN ∧ Fr [p] w w' := by
  refine (writes_any p bD bN pv d w h.blk).mono ?_
  rintro e w' ⟨rfl, h1, h2⟩
  refine ⟨rfl, ?_, h2⟩
  rw [writes_same]
  exact h.turn h2 _ _ _ h1
end Go.Proofs.YtejiankgafjppaaGreatDoor
/- SHARDS: how one lies in memory; State, Value, writes. -/
namespace Go.Proofs.YtejiankgafjppaaGreatDoor
open Go.RowKit Go.Maps
open Sc

structure AShard where
  vals : List (ByteArray × ByteArray)
  txns : List (Nat × ATxn)
  holds : List ((Nat × ByteArray) × AGrip)
  ticks : Nat
/-- what is known of a transaction -/
def AShard.txn (s : AShard) (t : Nat) : ATxn := (alLook s.txns t).getD ⟨0, 0, 0⟩
/-- how a key is held -/
def AShard.grip (s : AShard) (t : Nat) (k : ByteArray) : AGrip := (alLook s.holds (t, k)).getD ⟨0, ByteArray.empty⟩
/-- where its ledger lies; 0: it has none yet -/
def lgP (lg : Nat) : Option Addr := if lg = 0 then none else some ⟨lg, 0, none⟩
theorem lgP_pos {lg : Nat} (h : 1 ≤ lg) : lgP lg = some ⟨lg, 0, none⟩ := if_neg (by omega)
abbrev shO (lg bV bT bH : Nat) (ticks : Nat) : Obj := .cells #[.pointer (lgP lg), .map (some bV), .map (some bT), .map (some bH), .int .u64 (ticks : Int)] 185
structure ShIn (w : World) (sp lg bV bT bH n : Nat) (s : AShard) : Prop where
  blk : w.heap[sp]? = some (shO lg bV bT bH s.ticks)
  vals : MapAs KS ES w bV n s.vals
  txns : MapAs KU ET w bT n s.txns
  holds : MapAs KH EG w bH n s.holds
  ne : bV ≠ bT ∧ bV ≠ bH ∧ bT ≠ bH
  ticks : s.ticks < 18446744073709551616
theorem ShIn.fr {w w' : World} {sp lg bV bT bH n : Nat} {s : AShard} {S : List Nat} (h : ShIn w sp lg bV bT bH n s) (hf : Fr S w w') (h1 : sp ∉ S) (h2 : bV ∉ S) (h3 : bT ∉ S) (h4 : bH ∉ S) : ShIn w' sp lg bV bT bH n s where
  blk := (hf.block sp (Array.getElem?_eq_some_iff.1 h.blk).1 h1).trans h.blk
  vals := h.vals.fr hf h2
  txns := h.txns.fr hf h3
  holds := h.holds.fr hf h4
  ne := h.ne
  ticks := h.ticks
section
variable {w : World} {sp lg bV bT bH n : Nat} {s : AShard}
theorem ShIn.lookT (h : ShIn w sp lg bV bT bH n s) {t : Nat} (ht : t < 18446744073709551616) :
    (Instr.lookup 182 (.map (some bT)) (.int .u64 (t : Int)) false).run Tryz.prog w = .ok (.agg #[.int .i64 ((s.txn t).state : Int), .int .i64 ((s.txn t).done : Int), .int .u64 ((s.txn t).last : Int)]) w :=
  h.txns.look Tryz.underlying182 (zeroTxn w) trivial (k := t) ht
theorem ShIn.lookV (h : ShIn w sp lg bV bT bH n s) {k : ByteArray} (hk : k.size ≤ maxLen) :
    (Instr.lookup 181 (.map (some bV)) (.string k) true).run Tryz.prog w = .ok (.tuple #[.string ((alLook s.vals k).getD ByteArray.empty), .bool (alLook s.vals k).isSome]) w :=
  h.vals.lookOk Tryz.underlying181 (zeroStr w) (by show (0 : Nat) ≤ maxLen; omega) (k := k) hk
theorem ShIn.lookH (h : ShIn w sp lg bV bT bH n s) {t : Nat} {k : ByteArray} (ht : t < 18446744073709551616) (hk : k.size ≤ maxLen) :
    (Instr.lookup 183 (.map (some bH)) (.agg #[.int .u64 (t : Int), .string k]) false).run Tryz.prog w = .ok (.agg #[.int .u8 ((s.grip t k).way : Int), .string (s.grip t k).val]) w :=
  h.holds.look Tryz.underlying183 (zeroGrip w) trivial (k := (t, k)) ⟨ht, hk⟩
theorem ShIn.lookHok (h : ShIn w sp lg bV bT bH n s) {t : Nat} {k : ByteArray} (ht : t < 18446744073709551616) (hk : k.size ≤ maxLen) :
    (Instr.lookup 183 (.map (some bH)) (.agg #[.int .u64 (t : Int), .string k]) true).run Tryz.prog w = .ok (.tuple #[.agg #[.int .u8 ((s.grip t k).way : Int), .string (s.grip t k).val], .bool (alLook s.holds (t, k)).isSome]) w :=
  h.holds.lookOk Tryz.underlying183 (zeroGrip w) trivial (k := (t, k)) ⟨ht, hk⟩
end
theorem fieldT0 (a b c : Int) (w : World) : (Instr.field 196 (.agg #[.int .i64 a, .int .i64 b, .int .u64 c]) 0).run Tryz.prog w = .ok (.int .i64 a) w := by kernel_rfl
set_option maxRecDepth 100000 in
set_option maxHeartbeats 2000000 in
theorem state_any (sp lg bV bT bH n t : Nat) (s : AShard) (w : World) (h : ShIn w sp lg bV bT bH n s) (ht : t < 18446744073709551616) :
    Calls Tryz.prog 129 #[.pointer (some ⟨sp, 0, none⟩), .int .u64 (t : Int)] w fun e w' => e = .returned (.int .i64 ((s.txn t).state : Int)) ∧ ∃ q, w' = w.drewN q := by
  have c2 := blk_cell h.blk 2
  simp at c2
  have hl := h.lookT ht
  have hf0 := fieldT0
  obtain ⟨T, hT⟩ : ∃ T, T = s.txn t := ⟨_, rfl⟩
  rw [← hT] at hl ⊢
  clear h hT
  go_enter Tryz.func129, Tryz.ntmps129
  go_wp2
  go_ret
  exact ⟨rfl, 0, rfl⟩
set_option maxRecDepth 100000 in
set_option maxHeartbeats 2000000 in
theorem value_any (sp lg bV bT bH n : Nat) (k : ByteArray) (s : AShard) (w : World) (h : ShIn w sp lg bV bT bH n s) (hk : k.size ≤ maxLen) :
    Calls Tryz.prog 65 #[.pointer (some ⟨sp, 0, none⟩), .string k] w fun e w' => e = .returned (.tuple #[.string ((alLook s.vals k).getD ByteArray.empty), .bool (alLook s.vals k).isSome]) ∧ ∃ q, w' = w.drewN q := by
  have c1 := blk_cell h.blk 1
  simp at c1
  have hl := h.lookV hk
  obtain ⟨V, hV⟩ : ∃ V, V = (alLook s.vals k).getD ByteArray.empty := ⟨_, rfl⟩
  obtain ⟨O, hO⟩ : ∃ O, O = (alLook s.vals k).isSome := ⟨_, rfl⟩
  rw [← hV, ← hO] at hl ⊢
  clear h hV hO
  go_enter Tryz.func65, Tryz.ntmps65
  go_wp2
  go_ret2
  exact ⟨rfl, 0, rfl⟩
end Go.Proofs.YtejiankgafjppaaGreatDoor
