import Derived.Test.YtkhjhojmhllkaaaGreatDoorC04
import Derived.Test.YtkhjhojmhllkaaaGreatDoorC02
import Derived.Laws.AppendOwnNone
import Derived.Laws.BytesString
import Derived.Laws.IdiomStrings
import Derived.Room.AppendFits
import Derived.Test.YtkhjhojmhllkaaaGreatDoorC01
/- plain.Told. -/
namespace Go.Proofs.YtkhjhojmhllkaaaGreatDoor
open Go.RowKit Go.Extern.Stop Go.Stop Go.Extern

theorem told_nil (w : World) :
    Calls Tryz.prog 37 #[.nilIface] w fun e w' => e = .returned (.int .i64 0) ∧ Below w.heap.size w w' := by
  go_enter Tryz.func37, Tryz.ntmps37
  go_wp2
  go_ret
  exact ⟨rfl, (Below.refl _ _).alloc (Nat.le_refl _) _⟩

set_option maxRecDepth 100000 in
set_option maxHeartbeats 1000000 in
theorem told_err (n : Int) (w : World) (hg : Met w) :
    Calls Tryz.prog 37 #[.iface 31 (.int .i64 n)] w fun e w' => e = .returned (.int .i64 n) ∧ Below w.heap.size w w' := by
  have hlt := hg.lt
  have HG : Hid (Met (w.alloc (.cells #[.int .i64 0] 31))) := by
    show Met _
    unfold Met
    rw [World.cell?_alloc_lt _ _ ⟨0, 0, none⟩ hlt]; exact hg
  clear hg
  go_enter Tryz.func37, Tryz.ntmps37
  go_wp2_with fail
  refine (as_hit n ⟨w.heap.size, 0, none⟩ (.int .i64 0) _ HG.out (by simp) (by simp)).mono ?_
  rintro e w1 ⟨rfl, hw1⟩
  have hB1 : Below w.heap.size w w1 := by
    rw [hw1]
    exact ((((((Below.refl _ _).alloc (Nat.le_refl _) _).alloc (by simp) _).alloc (by simp; omega) _).alloc (by simp; omega) _).alloc (by simp; omega) _).setCell (Nat.le_refl _) _
  have hc1 : w1.cell? ⟨w.heap.size, 0, none⟩ = some (.int .i64 n) := by
    rw [hw1]
    refine World.cell?_setCell_same (u := .int .i64 0) _ _ _ ?_
    rw [World.cell?_alloc_lt _ _ ⟨w.heap.size, 0, none⟩ (by simp; omega), World.cell?_alloc_lt _ _ ⟨w.heap.size, 0, none⟩ (by simp; omega), World.cell?_alloc_lt _ _ ⟨w.heap.size, 0, none⟩ (by simp; omega), World.cell?_alloc_lt _ _ ⟨w.heap.size, 0, none⟩ (by simp)]
    simp
  clear hw1
  go_wp2_with (go_at_call 81; refine (is_same n _).mono ?_; rintro e w' ⟨rfl, rfl⟩)
  go_ret
  exact ⟨rfl, hB1⟩
end Go.Proofs.YtkhjhojmhllkaaaGreatDoor
/- package plain: what it does to bytes that are handed in; DecodeMessage, EncodeMessage through it. -/
namespace Go.Proofs.YtkhjhojmhllkaaaGreatDoor
open Go.RowKit
open Sc

/-- are these bytes just one message? what is read -/
def decOk (l : List Nat) : Bool := (l.length == 15) && msgOk l
def decV (l : List Nat) : Value := if decOk l = true then msgV (at_ l 0) (at_ l 1) (at_ l 2) (msgTxn l) else msgV 0 0 0 0
def decE (l : List Nat) : Int := if decOk l = true then 0 else 2
theorem decOk_len {l : List Nat} (h : l.length ≠ 15) : decOk l = false := by unfold decOk; simp [h]
theorem decOk_15 {l : List Nat} (h : l.length = 15) : decOk l = msgOk l := by unfold decOk; simp [h]
theorem decV_15 {l : List Nat} (h : l.length = 15) : decV l = readV l := by unfold decV readV; rw [decOk_15 h]
theorem decE_15 {l : List Nat} (h : l.length = 15) : decE l = readE l := by unfold decE readE; rw [decOk_15 h]
theorem decV_len {l : List Nat} (h : l.length ≠ 15) : decV l = .agg #[.int .i64 0, .int .i64 0, .int .i64 0, .int .u64 0] := by unfold decV; rw [decOk_len h]; rfl
theorem decE_len {l : List Nat} (h : l.length ≠ 15) : decE l = 2 := by unfold decE; rw [decOk_len h]; rfl

end Go.Proofs.YtkhjhojmhllkaaaGreatDoor
/- package plain: DecodeMessage, EncodeMessage. -/
namespace Go.Proofs.YtkhjhojmhllkaaaGreatDoor
open Go.RowKit
open Sc

theorem decV_form (l : List Nat) : ∃ k f t x : Int, decV l = .agg #[.int .i64 k, .int .i64 f, .int .i64 t, .int .u64 x] := by
  unfold decV; split
  · exact ⟨_, _, _, _, rfl⟩
  · exact ⟨_, _, _, _, rfl⟩

def toldN (b : Bool) : Int := if b = true then 0 else 2
theorem decE_told (l : List Nat) : decE l = toldN (decOk l) := rfl
theorem toldE (b : Bool) (w : World) (hg : Met w) : Calls Tryz.prog 37 #[errV b] w fun e w' => e = .returned (.int .i64 (toldN b)) ∧ Below w.heap.size w w' := by
  cases b with
  | true => rw [errV_yes]; exact told_nil w
  | false => rw [errV_no]; exact told_err 2 w hg

/-- a slice that holds the bytes l: nil, or somewhere -/
def Src (w : World) (v : Value) (l : List Nat) : Prop :=
  (v = .slice none 0 0 ∧ l = []) ∨ ∃ b off cap, v = .slice (some ⟨b, off, none⟩) l.length cap ∧ RowAt w b off l ∧ b < w.heap.size ∧ l.length ≤ cap ∧ cap ≤ maxLen

theorem Src.alloc {w : World} {v : Value} {l : List Nat} (h : Src w v l) (o : Obj) : Src (w.alloc o) v l := by
  rcases h with h | ⟨b, off, cap, h1, h2, h3, h4⟩
  · exact Or.inl h
  · exact Or.inr ⟨b, off, cap, h1, (RowAt_alloc h3).2 h2, by simp; omega, h4⟩
theorem Src.below {w w' : World} {v : Value} {l : List Nat} (h : Src w v l) (hb : Below w.heap.size w w') : Src w' v l := by
  rcases h with h | ⟨b, off, cap, h1, h2, h3, h4⟩
  · exact Or.inl h
  · exact Or.inr ⟨b, off, cap, h1, h2.below hb h3, Nat.lt_of_lt_of_le h3 hb.size, h4⟩

/-- own := append([]byte(nil), b...) -/
theorem wpList_own {w : World} {ops : Array Oper} {rest : List Oper} {o : Oper} {a : Act} {Q : Exit → Act → World → Prop} (hgd : o.guard = none) (x : Operand)
    (ho : o.op = .call { callee := .builtin .append, args := #[.const (.slice none 0 0), x], argTypes := #[206, 206] })
    (v : Value) (l : List Nat) (hx : a.eval x = v) (hs : Src w v l) (hl : l.length ≤ 1099511627776)
    (h : ∀ v' w', w'.ownsRow w.heap.size 5 1 v' l.length (bs l) → Below w.heap.size w w' → wpList Tryz.prog ops Q rest (a.put o.dst v') w') : wpList Tryz.prog ops Q (o :: rest) a w := by
  obtain ⟨i0, hi, hz0, hz1, hz2⟩ := info_parts Tryz.info5
  rcases hs with ⟨rfl, rfl⟩ | ⟨b, off, cap, rfl, hrow, hlt, _, _⟩
  · exact wpList_append_own_none hgd _ x 206 ho w.heap.size 5 i0 1 Tryz.underlying206 hi (.slice none 0 0) 0 [] rfl (World.ownsRow_nil _ _ _ _) hx
      (h _ _ (World.ownsRow_nil _ _ _ _) (Below.refl _ _))
  · refine wpList_append_own w hgd _ x 206 ho w.heap.size 5 i0 (.int .u8 0) 1 1 Tryz.underlying206 hi hz0 hz1 hz2 rfl (by decide) (.slice none 0 0) 0 [] rfl (World.ownsRow_nil _ _ _ _) ⟨b, off, none⟩ l.length cap (bs l) hx (by rw [bs_len]; omega) ?_ ?_ (by unfold maxLen; omega) (by omega) (Nat.le_refl _) ?_
    · intro j u hj
      have hjl : j < l.length := by
        have := (List.getElem?_eq_some_iff.1 hj).1; rwa [bs_len] at this
      rw [bs_at l j hjl] at hj
      cases hj
      have := hrow j hjl
      simpa [Addr.add_lit] using this
    · intro u hu
      unfold bs at hu
      obtain ⟨y, _, rfl⟩ := List.mem_map.1 hu
      rfl
    · intro v' w' hown hgr _
      refine h v' w' (by simpa using hown) ((Below.refl _ _).grown hgr (Nat.le_refl _) (fun q hq => by simp [Value.ownBlock] at hq))
end Go.Proofs.YtkhjhojmhllkaaaGreatDoor
/- package plain: DecodeMessage, EncodeMessage. -/
namespace Go.Proofs.YtkhjhojmhllkaaaGreatDoor
open Go.RowKit
open Sc

theorem grown_of_below {w w' : World} (h : Below w.heap.size w w') (r : Option Nat) : w.grownBy w' r := ⟨h.os, h.tape, h.output, h.size, fun k hk _ => h.block k hk⟩
theorem own_below {w w' : World} {base n : Nat} {v : Value} {xs : List Value} (h : w.ownsRow base 5 1 v n xs) (hb : Below w.heap.size w w') : w'.ownsRow base 5 1 v n xs :=
  h.kept (grown_of_below hb none) (by cases v.ownBlock <;> simp)
/-- four cells of a message in block B -/
def Four (w : World) (B : Nat) (k f t x : Int) : Prop := w.cell? ⟨B, 0, none⟩ = some (.int .i64 k) ∧ w.cell? ⟨B, 1, none⟩ = some (.int .i64 f) ∧ w.cell? ⟨B, 2, none⟩ = some (.int .i64 t) ∧ w.cell? ⟨B, 3, none⟩ = some (.int .u64 x)
def Free (w : World) (B : Nat) : Prop := ∀ i, w.frozen? ⟨B, i, none⟩ = false
theorem Four.of_block {w w' : World} {B : Nat} {k f t x : Int} (h : Four w B k f t x) (hb : w'.heap[B]? = w.heap[B]?) : Four w' B k f t x := by
  have e : ∀ i, w'.cell? ⟨B, i, none⟩ = w.cell? ⟨B, i, none⟩ := fun i => World.cell?_of_block (a := ⟨B, i, none⟩) hb
  exact ⟨(e 0).trans h.1, (e 1).trans h.2.1, (e 2).trans h.2.2.1, (e 3).trans h.2.2.2⟩
theorem Free.of_block {w w' : World} {B : Nat} (h : Free w B) (hb : w'.heap[B]? = w.heap[B]?) : Free w' B := fun i => (World.frozen?_of_block (a := ⟨B, i, none⟩) hb).trans (h i)

end Go.Proofs.YtkhjhojmhllkaaaGreatDoor
/- CONTRACTS of the document's own answer: a message that can be written. -/
namespace Go.Proofs.YtkhjhojmhllkaaaGreatDoor
open Go.RowKit
open Sc

theorem own_three (w : World) (a b c : Nat) : (w.alloc (.cells #[.int .u8 (a : Int), .int .u8 (b : Int), .int .u8 (c : Int)] 5)).ownsRow w.heap.size 5 1 (.slice (some ⟨w.heap.size, 0, none⟩) 3 3) 3 (bs [a, b, c]) :=
  ⟨rfl, .inr ⟨w.heap.size, 3, _, rfl, Nat.le_refl _, heap_alloc_new w _, Nat.le_refl _, by decide, rfl, rfl⟩⟩

end Go.Proofs.YtkhjhojmhllkaaaGreatDoor
/- STRINGS AND BYTES: []byte(s), string(b); what the law calls at any bytes. -/
namespace Go.Proofs.YtkhjhojmhllkaaaGreatDoor
open Go.RowKit
open Sc

/-- the bytes of a string -/
def bytesOf (s : ByteArray) : List Nat := s.data.toList.map UInt8.toNat
theorem bytesOf_len (s : ByteArray) : (bytesOf s).length = s.size := by unfold bytesOf; rw [List.length_map, Array.length_toList]; rfl
theorem bytesOf_byt (s : ByteArray) : Byt (bytesOf s) := by
  intro x hx
  unfold bytesOf at hx
  obtain ⟨y, _, rfl⟩ := List.mem_map.1 hx
  exact y.toNat_lt
def strO (s : ByteArray) (c : Nat) : Obj := .cells (bytesRow s c) 5 ((bytesRow s c).size, (bytesRow s c).size + 1)
theorem run_bytes (w : World) (s : ByteArray) : (convert 9 206 (.string s)).run Tryz.prog w = .ok (.slice (some ⟨w.heap.size, 0, none⟩) s.size (grownCap w s.size 0 5)) (w.drew.alloc (strO s (grownCap w s.size 0 5))) :=
  run_bytes_of_string w _ _ _ s Tryz.underlying9 Tryz.underlying206 Tryz.underlying5
theorem row_str (w : World) (s : ByteArray) (c : Nat) : RowAt (w.drew.alloc (strO s c)) w.heap.size 0 (bytesOf s) := fun i hi => by
  have h1 : (w.drew.alloc (strO s c)).cell? ⟨w.heap.size, 0 + i, none⟩ = (bytesRow s c)[0 + i]? := by
    have := cell_of_row (w.drew.alloc (strO s c)) w.heap.size (0 + i) (bytesRow s c) 5 ((bytesRow s c).size, (bytesRow s c).size + 1) (heap_alloc_new w.drew _)
    exact this
  rw [bytesOf_len] at hi
  have hi' : i < s.data.size := hi
  rw [h1, Nat.zero_add, bytesRow_at s c i hi']
  simp [at_, bytesOf, Array.getElem?_eq_getElem hi']
theorem src_str (w : World) (s : ByteArray) (hs : s.size ≤ maxLen) : Src (w.drew.alloc (strO s (grownCap w s.size 0 5))) (.slice (some ⟨w.heap.size, 0, none⟩) s.size (grownCap w s.size 0 5)) (bytesOf s) :=
  Or.inr ⟨w.heap.size, 0, _, by rw [bytesOf_len], row_str w s _, by simp, by rw [bytesOf_len]; exact grownCap_ge _ _ _ _, grownCap_le_maxLen _ _ _ _ hs⟩

/-- bytes as a string -/
def str (l : List Nat) : ByteArray := (l.map fun x : Nat => (x : Int)).foldl (fun r n => r.push (UInt8.ofNat n.toNat)) ByteArray.empty
theorem run_str (w : World) (g off n cap : Nat) (l : List Nat) (hl : l.length = n) (hrow : RowAt w g off l) : (convert 206 9 (.slice (some ⟨g, off, none⟩) n cap)).run Tryz.prog w = .ok (.string (str l)) w := by
  rw [run_convert_bytes_string w _ _ _ _ _ _ Tryz.underlying206 Tryz.underlying5 Tryz.underlying9]
  refine run_bytesToString w _ _ _ _ ?_
  have h := run_loadCells_list (P := Tryz.prog) w ⟨g, off, none⟩ (bs l) (fun j v hv => ?_)
  · rw [bs_len, hl] at h
    rw [h]
    simp [bs]
  · have hjl : j < l.length := by
      have := (List.getElem?_eq_some_iff.1 hv).1; rwa [bs_len] at this
    rw [bs_at l j hjl] at hv
    cases hv
    simpa [Addr.add_lit] using hrow j hjl
theorem run_str_nil (w : World) : (convert 206 9 (.slice none 0 0)).run Tryz.prog w = .ok (.string ByteArray.empty) w := by
  rw [run_convert_bytes_string w _ _ _ _ _ _ Tryz.underlying206 Tryz.underlying5 Tryz.underlying9]
  rfl

end Go.Proofs.YtkhjhojmhllkaaaGreatDoor
/- RECORDS: what they are, their bytes; the document's Record. -/
namespace Go.Proofs.YtkhjhojmhllkaaaGreatDoor
open Go.RowKit
open Sc

/-- a record's bytes, without its sum -/
def recHead (x k : Nat) (l : List Nat) : List Nat := be 2 l.length ++ be 8 x ++ [k] ++ l
def recBytes (x k : Nat) (l : List Nat) : List Nat := recHead x k l ++ be 4 (crc (recHead x k l))
theorem recHead_len (x k : Nat) (l : List Nat) : (recHead x k l).length = 11 + l.length := by simp [recHead, be_len]; omega
theorem recBytes_len (x k : Nat) (l : List Nat) : (recBytes x k l).length = 15 + l.length := by simp [recBytes, recHead_len, be_len]; omega
theorem recHead_byt (x k : Nat) (l : List Nat) (hk : k < 256) (hl : Byt l) : Byt (recHead x k l) := by
  intro b hb
  simp only [recHead, List.mem_append, List.mem_singleton] at hb
  rcases hb with ((hb | hb) | rfl) | hb
  · exact be_lt _ _ _ hb
  · exact be_lt _ _ _ hb
  · exact hk
  · exact hl _ hb
theorem recBytes_byt (x k : Nat) (l : List Nat) (hk : k < 256) (hl : Byt l) : Byt (recBytes x k l) := by
  intro b hb
  simp only [recBytes, List.mem_append] at hb
  rcases hb with hb | hb
  · exact recHead_byt _ _ _ hk hl _ hb
  · exact be_lt _ _ _ hb
theorem strCells_bs (s : ByteArray) : Lib.strCells s = bs (bytesOf s) := by simp [Lib.strCells, bs, bytesOf]
/-- a record as a value; its box -/
abbrev recV (x k : Int) (s : ByteArray) : Value := .agg #[.int .u64 x, .int .u8 k, .string s]
abbrev recO (x k : Int) (s : ByteArray) : Obj := .cells #[.int .u64 x, .int .u8 k, .string s] 103

theorem keep_row {w1 w2 : World} {r : Option Nat} (h : w1.grownBy w2 r) {B : Nat} (hB : B < w1.heap.size) (hr : ∀ q, r = some q → B + 1 ≤ q) (i : Nat) : w2.cell? ⟨B, i, none⟩ = w1.cell? ⟨B, i, none⟩ :=
  grown_row h hB (fun e => by have := hr B e; omega) i
theorem keep_new {w1 w2 : World} {o : Obj} {r : Option Nat} (h : (w1.alloc o).grownBy w2 r) {B : Nat} (hB : B < w1.heap.size) (hr : ∀ q, r = some q → B + 1 ≤ q) (i : Nat) : w2.cell? ⟨B, i, none⟩ = w1.cell? ⟨B, i, none⟩ := by
  rw [keep_row h (by simp; omega) hr i, World.cell?_alloc_lt _ _ ⟨B, i, none⟩ hB]
/-- append(own, one byte) -/
theorem wpList_byte {w : World} {ops : Array Oper} {rest : List Oper} {o : Oper} {a : Act} {Q : Exit → Act → World → Prop} (hgd : o.guard = none) (s x : Operand)
    (ho : o.op = .call { callee := .builtin .append, args := #[s, x], argTypes := #[206, 206] })
    (base : Nat) (v : Value) (n : Nat) (xs : List Nat) (k : Nat) (b : Nat) (hs : a.eval s = v) (hown : w.ownsRow base 5 1 v n (bs xs)) (hx : a.eval x = .slice (some ⟨b, 0, none⟩) 1 1) (hc : w.cell? ⟨b, 0, none⟩ = some (.int .u8 k)) (hn : n ≤ 1099511627776) (hbase : base ≤ w.heap.size)
    (h : ∀ v' w', w'.ownsRow base 5 1 v' (n + 1) (bs (xs ++ [k])) → w.grownBy w' v.ownBlock → wpList Tryz.prog ops Q rest (a.put o.dst v') w') : wpList Tryz.prog ops Q (o :: rest) a w := by
  obtain ⟨i0, hi, hz0, hz1, hz2⟩ := info_parts Tryz.info5
  refine wpList_append_own _ hgd s x 206 ho base 5 i0 (.int .u8 0) 1 1 Tryz.underlying206 hi hz0 hz1 hz2 rfl (by decide) v n (bs xs) hs hown ⟨b, 0, none⟩ 1 1 [.int .u8 (k : Int)] hx rfl ?_ ?_ (by unfold maxLen; omega) (by omega) hbase ?_
  · intro jj u hjj
    match jj, hjj with
    | 0, hjj => simp at hjj; subst hjj; simpa [Addr.add] using hc
  · intro u hu; simp at hu; subst hu; rfl
  · intro v' w' ho' hg' _
    refine h v' w' ?_ hg'
    rw [bs_app]; exact ho'
/-- append(own, s...), s a string -/
theorem wpList_text {w : World} {ops : Array Oper} {rest : List Oper} {o : Oper} {a : Act} {Q : Exit → Act → World → Prop} (hgd : o.guard = none) (s x : Operand)
    (ho : o.op = .call { callee := .builtin .append, args := #[s, x], argTypes := #[206, 9] })
    (base : Nat) (v : Value) (n : Nat) (xs : List Nat) (t : ByteArray) (hs : a.eval s = v) (hown : w.ownsRow base 5 1 v n (bs xs)) (hx : a.eval x = .string t) (hn : n + t.size ≤ 1099511627776) (hbase : base ≤ w.heap.size)
    (h : ∀ v' w', w'.ownsRow base 5 1 v' (n + t.size) (bs (xs ++ bytesOf t)) → w.grownBy w' v.ownBlock → wpList Tryz.prog ops Q rest (a.put o.dst v') w') : wpList Tryz.prog ops Q (o :: rest) a w := by
  obtain ⟨i0, hi, hz0, hz1, hz2⟩ := info_parts Tryz.info5
  refine Lib.wpList_append_own_string _ hgd s x 206 9 ho base 5 i0 Tryz.underlying206 Tryz.underlying9 hi hz0 hz1 hz2 v n (bs xs) hs hown t hx (by unfold maxLen; omega) (by omega) hbase ?_
  intro v' w' ho' hg' _
  refine h v' w' ?_ hg'
  rw [bs_app, ← strCells_bs]; exact ho'

end Go.Proofs.YtkhjhojmhllkaaaGreatDoor
/- EncodeRecord in package wire, and through shardcommit and plain. -/
namespace Go.Proofs.YtkhjhojmhllkaaaGreatDoor
open Go.RowKit
open Sc

/-- append(own, s...), s a string, where there is room -/
theorem wpList_fits {w : World} {ops : Array Oper} {rest : List Oper} {o : Oper} {a : Act} {Q : Exit → Act → World → Prop} (hgd : o.guard = none) (s x : Operand)
    (ho : o.op = .call { callee := .builtin .append, args := #[s, x], argTypes := #[206, 9] })
    (base g n cap : Nat) (xs : List Nat) (t : ByteArray) (hs : a.eval s = .slice (some ⟨g, 0, none⟩) n cap) (hown : w.ownsRow base 5 1 (.slice (some ⟨g, 0, none⟩) n cap) n (bs xs)) (hx : a.eval x = .string t) (hc : 0 < cap) (hn : n + t.size ≤ cap)
    (h : ∀ w', w'.ownsRow base 5 1 (.slice (some ⟨g, 0, none⟩) (n + t.size) cap) (n + t.size) (bs (xs ++ bytesOf t)) → w.grownBy w' (some g) → wpList Tryz.prog ops Q rest (a.put o.dst (.slice (some ⟨g, 0, none⟩) (n + t.size) cap)) w') : wpList Tryz.prog ops Q (o :: rest) a w := by
  obtain ⟨i0, hi, hz0, hz1, hz2⟩ := info_parts Tryz.info5
  refine Lib.wpList_append_fits_string _ hgd s x 206 9 ho base 5 i0 Tryz.underlying206 Tryz.underlying9 hi hz1 (some ⟨g, 0, none⟩) n cap (bs xs) hs hown t hx hc hn ?_
  intro w' ho' hg'
  refine h w' ?_ hg'
  rw [bs_app, ← strCells_bs]; exact ho'

set_option maxHeartbeats 400000 in
theorem encodeR_no (x k : Int) (s : ByteArray) (w : World) (hs : 255 < s.size) :
    Calls Tryz.prog 141 #[.agg #[.int .u64 x, .int .u8 k, .string s]] w fun e w' => e = .returned (.tuple #[.slice none 0 0, .iface 31 (.int .i64 1)]) ∧ Below w.heap.size w w' := by
  have h1 : (255 : Int) < (s.size : Int) := by omega
  go_enter Tryz.func141, Tryz.ntmps141
  go_wp2
  go_ret2
  exact ⟨rfl, (Below.refl _ _).alloc (Nat.le_refl _) _⟩

theorem box_grown1 {w w1 : World} {o : Obj} {r : Option Nat} (h : (w.alloc o).grownBy w1 r) (hr : r ≠ some w.heap.size) (i : Nat) : w1.cell? ⟨w.heap.size, i, none⟩ = (w.alloc o).cell? ⟨w.heap.size, i, none⟩ :=
  grown_row h (B := w.heap.size) (by simp) hr i
theorem own_at1 {w w1 : World} {o : Obj} {base n cap : Nat} {xs : List Value} (h : w1.ownsRow base 5 1 (.slice (some ⟨(w.alloc o).heap.size, 0, none⟩) n cap) n xs) : w1.ownsRow base 5 1 (.slice (some ⟨w.heap.size + 1, 0, none⟩) n cap) n xs := by
  rw [World.size_alloc] at h; exact h

set_option maxRecDepth 100000 in
set_option maxHeartbeats 1000000 in
theorem encodeR_own (x k : Nat) (s : ByteArray) (w : World) (hs : s.size ≤ 255) (hk : k < 256) (hx : x < 18446744073709551616) :
    Calls Tryz.prog 141 #[.agg #[.int .u64 x, .int .u8 k, .string s]] w fun e w' => ∃ g, e = .returned (.tuple #[.slice (some ⟨g, 0, none⟩) (11 + s.size + 4) (15 + s.size), .nilIface]) ∧ w.heap.size ≤ g ∧ w'.ownsRow (w.heap.size + 1) 5 1 (.slice (some ⟨g, 0, none⟩) (11 + s.size + 4) (15 + s.size)) (11 + s.size + 4) (bs (recBytes x k (bytesOf s))) ∧ Below w.heap.size w w' := by
  have h1 : ¬ (255 : Int) < (s.size : Int) := by omega
  have HX : Hid (x < 18446744073709551616) := hx
  clear hx
  obtain ⟨i0, hi, hz0, hz1, hz2⟩ := info_parts Tryz.info5
  go_enter Tryz.func141, Tryz.ntmps141
  go_wp2_with (at_make; refine wpList_make_own _ rfl _ _ 206 rfl (w.heap.size + 1) 5 i0 (.int .u8 0) 1 Tryz.underlying206 hi hz0 hz1 .i64 .i64 _ (15 + s.size) rfl rfl (by omega) (by rw [hz2]; omega) (by unfold maxLen; omega) (by simp) ?_; intro w1 ho1 hg1; have hc1 := box_grown1 hg1 (by simp); have ho1' := own_at1 ho1; clear ho1)
  have hg1' : (w.alloc (recO x k s)).grownBy w1 none := by assumption
  have hz1' : w.heap.size + 1 < w1.heap.size := (own_lt (xs := []) ho1').2
  have HB1 : Hid (Below w.heap.size w w1) := ((Below.refl _ _).alloc (Nat.le_refl _) _).grown hg1' (by simp) (fun q hq => by cases hq)
  clear hg1 hg1'
  refine (app_u16 (w.heap.size + 1) _ 0 (15 + s.size) [] s.size _ ho1' (by omega) (by omega)).mono ?_
  rintro e w2 ⟨rfl, ho2, hg2⟩
  have hc2 : ∀ i, w2.cell? ⟨w.heap.size, i, none⟩ = (w.alloc (recO x k s)).cell? ⟨w.heap.size, i, none⟩ := fun i => (grown_row hg2 (by omega) (by simp) i).trans (hc1 i)
  have HB2 : Hid (Below w.heap.size w w2) := HB1.out.grown hg2 (by omega) (fun q hq => by cases hq; omega)
  have hz2' : w.heap.size + 1 < w2.heap.size := (own_lt ho2).2
  clear hc1 ho1' hg2
  go_wp2_with fail
  refine (app_u64 (w.heap.size + 1) _ (0 + 2) (15 + s.size) _ x _ ho2 (by omega) HX.out).mono ?_
  rintro e w3 ⟨rfl, ho3, hg3⟩
  have hc3 : ∀ i, w3.cell? ⟨w.heap.size, i, none⟩ = (w.alloc (recO x k s)).cell? ⟨w.heap.size, i, none⟩ := fun i => (grown_row hg3 (by omega) (by simp) i).trans (hc2 i)
  have HB3 : Hid (Below w.heap.size w w3) := HB2.out.grown hg3 (by omega) (fun q hq => by cases hq; omega)
  have hz3' : w.heap.size + 1 < w3.heap.size := (own_lt ho3).2
  clear hc2 ho2 hg3
  go_wp2_with fail
  refine (app_u8 (w.heap.size + 1) _ (0 + 2 + 8) (15 + s.size) _ k _ ho3 (by omega) (by omega)).mono ?_
  rintro e w4 ⟨rfl, ho4, hg4⟩
  have hc4 : ∀ i, w4.cell? ⟨w.heap.size, i, none⟩ = (w.alloc (recO x k s)).cell? ⟨w.heap.size, i, none⟩ := fun i => (grown_row hg4 (by omega) (by simp) i).trans (hc3 i)
  have HB4 : Hid (Below w.heap.size w w4) := HB3.out.grown hg4 (by omega) (fun q hq => by cases hq; omega)
  have hz4' : w.heap.size + 1 < w4.heap.size := (own_lt ho4).2
  clear hc3 ho3 hg4
  go_wp2_with (at_builtin; refine wpList_fits rfl _ _ rfl (w.heap.size + 1) _ (0 + 2 + 8 + 1) (15 + s.size) _ s rfl ho4 rfl (by omega) (by omega) ?_; intro w5 ho5 hg5)
  have HB5 : Hid (Below w.heap.size w w5) := HB4.out.grown hg5 (by omega) (fun q hq => by cases hq; omega)
  have hz5' : w.heap.size + 1 < w5.heap.size := (own_lt ho5).2
  have ho5' : w5.ownsRow (w.heap.size + 1) 5 1 (.slice (some ⟨w.heap.size + 1, 0, none⟩) (11 + s.size) (15 + s.size)) (11 + s.size) (bs (recHead x k (bytesOf s))) := by
    have e : ((([] ++ be 2 s.size) ++ be 8 x) ++ be 1 k) ++ bytesOf s = recHead x k (bytesOf s) := by
      have e1 : be 1 k = [k] := by simp [be, digit, List.range_succ]; omega
      unfold recHead; rw [bytesOf_len, List.nil_append, e1]
    rw [e] at ho5; exact ho5
  clear hc4 ho4 hg5 ho5
  refine (seal_any (w.heap.size + 1) w5.heap.size (w.heap.size + 1) (11 + s.size) (15 + s.size) false (recHead x k (bytesOf s)) _ (maker_new w5) (by omega) (ho5'.alloc _) (recHead_byt x k (bytesOf s) hk (bytesOf_byt s)) (by omega) (by omega)).mono ?_
  rintro e w6 ⟨rfl, ho6, hb6⟩
  have HB6 : Hid (Below w.heap.size w w6) := (HB5.out.alloc (by omega) _).trans (hb6 w.heap.size (by omega) (by omega))
  have HR6 : Hid (w6.ownsRow (w.heap.size + 1) 5 1 (.slice (some ⟨w.heap.size + 1, 0, none⟩) (11 + s.size + 4) (15 + s.size)) (11 + s.size + 4) (bs (recBytes x k (bytesOf s)))) := ho6
  clear ho6 hb6 ho5'
  go_wp2
  go_ret2
  exact ⟨w.heap.size + 1, rfl, by omega, HR6.out, HB6.out⟩

theorem encodeR_yes (x k : Nat) (s : ByteArray) (w : World) (hs : s.size ≤ 255) (hk : k < 256) (hx : x < 18446744073709551616) :
    Calls Tryz.prog 141 #[.agg #[.int .u64 x, .int .u8 k, .string s]] w fun e w' => ∃ g, e = .returned (.tuple #[.slice (some ⟨g, 0, none⟩) (11 + s.size + 4) (15 + s.size), .nilIface]) ∧ w.heap.size ≤ g ∧ RowAt w' g 0 (recBytes x k (bytesOf s)) ∧ Below w.heap.size w w' := by
  refine (encodeR_own x k s w hs hk hx).mono ?_
  rintro e w' ⟨g, h1, h2, h3, h4⟩
  exact ⟨g, h1, h2, own_row h3, h4⟩

end Go.Proofs.YtkhjhojmhllkaaaGreatDoor
/- SCANNING, the plain mathematics: the records at the beginning of bytes. -/
namespace Go.Proofs.YtkhjhojmhllkaaaGreatDoor
open Go.RowKit
open Sc

/-- how many bytes the payload of a record at the beginning would have -/
def fLen (l : List Nat) : Nat := val (l.take 2)
/-- are its bytes all there, and is it within the bound? -/
def ffOk (l : List Nat) : Bool := decide (15 ≤ l.length) && (decide (fLen l ≤ 255) && decide (15 + fLen l ≤ l.length))
/-- has it its right sum? -/
def fSum (l : List Nat) : Bool := crc (l.take (11 + fLen l)) == val ((l.drop (11 + fLen l)).take 4)
def frameOk (l : List Nat) : Bool := ffOk l && fSum l
structure Rec where
  lsn : Nat
  kind : Nat
  pay : List Nat
def recOf (l : List Nat) : Rec := ⟨val ((l.drop 2).take 8), at_ l 10, (l.drop 11).take (fLen l)⟩
/-- k records read, whatever they are; how many bytes they have -/
def st : Nat → List Nat → List Rec × Nat
  | 0, _ => ([], 0)
  | k + 1, l => ((st k l).1 ++ [recOf (l.drop (st k l).2)], (st k l).2 + 15 + fLen (l.drop (st k l).2))
/-- those k are records -/
def Good (l : List Nat) (k : Nat) : Prop := ∀ j, j < k → frameOk (l.drop (st j l).2) = true
/-- and there is no other behind them -/
def Ended (l : List Nat) (k : Nat) : Prop := Good l k ∧ frameOk (l.drop (st k l).2) = false
theorem ended_unique {l : List Nat} {k m : Nat} (h : Ended l k) (g : Ended l m) : k = m := by
  rcases Nat.lt_trichotomy k m with hlt | heq | hgt
  · have := g.1 k hlt; rw [h.2] at this; cases this
  · exact heq
  · have := h.1 m hgt; rw [g.2] at this; cases this
theorem good_zero (l : List Nat) : Good l 0 := fun j hj => absurd hj (Nat.not_lt_zero j)
theorem good_succ {l : List Nat} {k : Nat} (h : Good l k) (g : frameOk (l.drop (st k l).2) = true) : Good l (k + 1) := fun j hj => by
  rcases Nat.lt_or_ge j k with hlt | hge
  · exact h j hlt
  · obtain rfl : j = k := by omega
    exact g
theorem frameOk_ff {l : List Nat} (h : frameOk l = true) : 15 ≤ l.length ∧ fLen l ≤ 255 ∧ 15 + fLen l ≤ l.length := by
  unfold frameOk ffOk at h
  simp only [Bool.and_eq_true, decide_eq_true_eq] at h
  exact ⟨h.1.1, h.1.2.1, h.1.2.2⟩
theorem st_le {l : List Nat} : ∀ {k : Nat}, Good l k → (st k l).2 ≤ l.length
  | 0, _ => Nat.zero_le _
  | k + 1, h => by
    have h1 := st_le (k := k) (fun j hj => h j (by omega))
    have h2 := (frameOk_ff (h k (by omega))).2.2
    rw [List.length_drop] at h2
    show (st k l).2 + 15 + fLen (l.drop (st k l).2) ≤ _
    omega
theorem st_ge (l : List Nat) : ∀ k : Nat, 15 * k ≤ (st k l).2
  | 0 => Nat.zero_le _
  | k + 1 => by
    have h1 := st_ge l k
    show _ ≤ (st k l).2 + 15 + fLen (l.drop (st k l).2)
    omega
theorem st_len (l : List Nat) : ∀ k : Nat, (st k l).1.length = k
  | 0 => rfl
  | k + 1 => by
    show ((st k l).1 ++ [recOf (l.drop (st k l).2)]).length = _
    rw [List.length_append, st_len l k]; rfl
theorem ffOk_yes {l : List Nat} (h1 : 15 ≤ l.length) (h2 : fLen l ≤ 255) (h3 : 15 + fLen l ≤ l.length) : ffOk l = true := by unfold ffOk; simp [h1, h2, h3]
theorem ffOk_short {l : List Nat} (h1 : ¬ 15 ≤ l.length) : ffOk l = false := by unfold ffOk; simp [h1]
theorem ffOk_big {l : List Nat} (h1 : ¬ fLen l ≤ 255) : ffOk l = false := by unfold ffOk; simp [h1]
theorem ffOk_cut {l : List Nat} (h1 : ¬ 15 + fLen l ≤ l.length) : ffOk l = false := by unfold ffOk; simp [h1]
theorem frameOk_ffno {l : List Nat} (h : ffOk l = false) : frameOk l = false := by unfold frameOk; rw [h]; rfl
theorem frameOk_sumno {l : List Nat} (h : fSum l = false) : frameOk l = false := by unfold frameOk; rw [h]; simp
theorem frameOk_yes {l : List Nat} (h : ffOk l = true) (g : fSum l = true) : frameOk l = true := by unfold frameOk; rw [h, g]; rfl
theorem fLen_lt {l : List Nat} (h : Byt l) : fLen l < 65536 := by
  have h1 := val_lt (l.take 2) (fun x hx => h x (List.mem_of_mem_take hx))
  have h2 : (l.take 2).length ≤ 2 := by rw [List.length_take]; omega
  have h3 : 256 ^ (l.take 2).length ≤ 256 ^ 2 := Nat.pow_le_pow_right (by omega) h2
  unfold fLen
  omega
end Go.Proofs.YtkhjhojmhllkaaaGreatDoor
/- RECORDS in package wire: firstFrame, readRecord. -/
namespace Go.Proofs.YtkhjhojmhllkaaaGreatDoor
open Go.RowKit
open Sc

def ffV (g off : Nat) (l : List Nat) : Value := if ffOk l = true then .slice (some ⟨g, off, none⟩) (15 + fLen l) (15 + fLen l) else .slice none 0 0
theorem ffV_yes {g off : Nat} {l : List Nat} (h : ffOk l = true) : ffV g off l = .slice (some ⟨g, off, none⟩) (15 + fLen l) (15 + fLen l) := by unfold ffV; rw [if_pos h]
theorem ffV_no {g off : Nat} {l : List Nat} (h : ffOk l = false) : ffV g off l = .slice none 0 0 := by unfold ffV; rw [if_neg (by rw [h]; decide)]

set_option maxHeartbeats 400000 in
theorem firstFrame_short (ao : Option Addr) (n cap : Nat) (w : World) (hn : n < 15) :
    Calls Tryz.prog 246 #[.slice ao n cap] w fun e w' => e = .returned (.tuple #[.slice none 0 0, .bool false]) ∧ w' = w := by
  have h1 : (n : Int) < 15 := by omega
  go_enter Tryz.func246, Tryz.ntmps246
  go_wp2
  go_ret2
  exact ⟨rfl, rfl⟩

set_option maxHeartbeats 1000000 in
theorem firstFrame_some (g off n cap : Nat) (l : List Nat) (w : World) (hl : l.length = n) (hb : Byt l) (hn : 15 ≤ n) (hn2 : n ≤ 1099511627776) (hcap : n ≤ cap) (hcap2 : cap ≤ maxLen) (hrow : RowAt w g off l) :
    Calls Tryz.prog 246 #[.slice (some ⟨g, off, none⟩) n cap] w fun e w' => e = .returned (.tuple #[ffV g off l, .bool (ffOk l)]) ∧ ∃ q, w' = w.drewN q := by
  have HL : Hid (l.length = n) := hl
  have HR : Hid (RowAt w g off l) := hrow
  have h1 : ¬ (n : Int) < 15 := by omega
  clear hl hrow
  have hf := fLen_lt hb
  go_enter Tryz.func246, Tryz.ntmps246
  go_wp2_with fail
  refine (take_u16 g off n cap l _ hb HL.out (by omega) hcap hcap2 HR.out).mono ?_
  rintro e w1 ⟨rfl, q1, hw1'⟩
  have HW1 : Hid (w1 = w.drewN q1) := hw1'
  clear hw1'
  rw [show val (l.take 2) = fLen l from rfl]
  by_cases h255 : fLen l ≤ 255
  · by_cases hcut : 15 + fLen l ≤ n
    · have hok : ffOk l = true := ffOk_yes (by rw [HL.out]; omega) h255 (by rw [HL.out]; exact hcut)
      have HO : Hid (ffOk l = true) := hok
      clear hok
      have k1 : ¬ (255 : Int) < (fLen l : Int) := by omega
      have k2 : ¬ (n : Int) < 15 + (fLen l : Int) := by omega
      go_wp2_with fail
      rw [show ((15 : Int) + (fLen l : Int)) = ((15 + fLen l : Nat) : Int) by omega]
      refine (split_any g off n cap (15 + fLen l) _ (by omega) hcap hcap2).mono ?_
      rintro e w2 ⟨rfl, q2, hw2'⟩
      have HW2 : Hid (w2 = w1.drewN q2) := hw2'
      clear hw2'
      go_wp2
      go_ret2
      exact ⟨by rw [ffV_yes HO.out, HO.out]; rfl, q1 + q2, by rw [HW2.out, HW1.out, World.drewN_drewN]⟩
    · have HO : Hid (ffOk l = false) := ffOk_cut (by rw [HL.out]; exact hcut)
      have k1 : ¬ (255 : Int) < (fLen l : Int) := by omega
      have k2 : (n : Int) < 15 + (fLen l : Int) := by omega
      go_wp2
      go_ret2
      exact ⟨by rw [ffV_no HO.out, HO.out]; rfl, q1, HW1.out⟩
  · have HO : Hid (ffOk l = false) := ffOk_big h255
    have k1 : (255 : Int) < (fLen l : Int) := by omega
    go_wp2
    go_ret2
    exact ⟨by rw [ffV_no HO.out, HO.out]; rfl, q1, HW1.out⟩

theorem at_one (l : List Nat) (i : Nat) (h : i < l.length) : val ((l.drop i).take 1) = at_ l i := by
  rw [val_one _ (by rw [List.length_drop]; omega), at_drop]; rfl
theorem below_store3 {w w2 : World} (h : Below w.heap.size w w2) (a b c : Value) :
    Below w.heap.size w (((w2.setCell ⟨w.heap.size, 0, none⟩ a).setCell ⟨w.heap.size, 1, none⟩ b).setCell ⟨w.heap.size, 2, none⟩ c) :=
  ((h.setCell (Nat.le_refl _) _).setCell (Nat.le_refl _) _).setCell (Nat.le_refl _) _

set_option maxHeartbeats 1000000 in
theorem readRecord_any (g off p : Nat) (l : List Nat) (w : World) (hl : l.length = 11 + p) (hp : p ≤ 255) (hb : Byt l) (hrow : RowAt w g off l) :
    Calls Tryz.prog 248 #[.slice (some ⟨g, off, none⟩) (11 + p) (11 + p)] w fun e w' => e = .returned (.agg #[.int .u64 (val ((l.drop 2).take 8) : Nat), .int .u8 (at_ l 10 : Nat), .string (str (l.drop 11))]) ∧ Below w.heap.size w w' := by
  have HL : Hid (l.length = 11 + p) := hl
  have hlt := hrow.lt (by omega)
  have HR : Hid (RowAt (w.alloc (recO 0 0 ByteArray.empty)) g off l) := (RowAt_alloc hlt).2 hrow
  clear hl hrow
  have k1 : cutA g off 2 (11 + p) = some ⟨g, off + 2, none⟩ := cutA_far (by omega)
  have k2 : cutA g (off + 2) 8 (11 + p - 2) = some ⟨g, off + 2 + 8, none⟩ := cutA_far (by omega)
  go_enter Tryz.func248, Tryz.ntmps248
  go_wp2_with fail
  refine (take_u16 g off (11 + p) (11 + p) l _ hb HL.out (by omega) (by omega) (by unfold maxLen; omega) HR.out).mono ?_
  rintro e w1 ⟨rfl, q1, hw1'⟩
  have HW1 : Hid (w1 = (w.alloc (recO 0 0 ByteArray.empty)).drewN q1) := hw1'
  have HR1 : Hid (RowAt w1 g off l) := by rw [hw1']; exact HR.out.drewN q1
  clear hw1' HR
  rw [k1]
  go_wp2_with fail
  refine (take_u64 g (off + 2) (11 + p - 2) (11 + p - 2) (l.drop 2) _ (hb.drop 2) (by rw [List.length_drop, HL.out]) (by omega) (by omega) (by unfold maxLen; omega) (HR1.out.drop 2 (by rw [HL.out]; omega))).mono ?_
  rintro e w2 ⟨rfl, q2, hw2'⟩
  have HW2 : Hid (w2 = (w.alloc (recO 0 0 ByteArray.empty)).drewN (q1 + q2)) := by show w2 = _; rw [hw2', HW1.out, World.drewN_drewN]
  have HR2 : Hid (RowAt w2 g off l) := by rw [hw2']; exact HR1.out.drewN q2
  clear hw2' HR1 HW1
  rw [k2]
  go_wp2_with fail
  refine (take_u8 g (off + 2 + 8) (11 + p - 2 - 8) (11 + p - 2 - 8) (l.drop 10) _ (hb.drop 10) (by rw [List.length_drop, HL.out]; omega) (by omega) (by omega) (by unfold maxLen; omega) (HR2.out.drop 10 (by rw [HL.out]; omega))).mono ?_
  rintro e w3 ⟨rfl, q3, hw3'⟩
  have HW3 : Hid (w3 = (w.alloc (recO 0 0 ByteArray.empty)).drewN (q1 + q2 + q3)) := by show w3 = _; rw [hw3', HW2.out, World.drewN_drewN]
  have HR3 : Hid (RowAt w3 g off l) := by rw [hw3']; exact HR2.out.drewN q3
  clear hw3' HR2 HW2
  rw [at_one l 10 (by rw [HL.out]; omega)]
  have hB3 : Below w.heap.size w w3 := by rw [HW3.out]; exact below_drewN ((Below.refl _ _).alloc (Nat.le_refl _) _) _
  have HB3 : Hid (Below w.heap.size w w3) := hB3
  clear hB3
  have hc3 : ∀ i, w3.cell? ⟨w.heap.size, i, none⟩ = (w.alloc (recO 0 0 ByteArray.empty)).cell? ⟨w.heap.size, i, none⟩ := fun i => by rw [HW3.out]; simp
  have hf3 : ∀ i, w3.frozen? ⟨w.heap.size, i, none⟩ = false := fun i => by rw [HW3.out]; simp
  obtain ⟨ao, hao, hrun⟩ : ∃ ao, cutA g (off + 2 + 8) 1 (11 + p - 2 - 8) = ao ∧ (convert 206 9 (.slice ao (11 + p - 2 - 8 - 1) (11 + p - 2 - 8 - 1))).run Tryz.prog w3 = .ok (.string (str (l.drop 11))) w3 := by
    by_cases hp0 : p = 0
    · subst hp0
      refine ⟨_, cutA_end _ _ _, ?_⟩
      exact run_str w3 g (off + 2 + 8) 0 0 (l.drop 11) (by rw [List.length_drop, HL.out]) (fun i hi => by rw [List.length_drop, HL.out] at hi; omega)
    · refine ⟨_, cutA_far (by omega), ?_⟩
      exact run_str w3 g (off + 2 + 8 + 1) _ _ (l.drop 11) (by rw [List.length_drop, HL.out]; omega) (HR3.out.drop 11 (by rw [HL.out]; omega))
  rw [hao]
  clear hao
  go_wp2
  exact bodyPost_ret (v := .agg #[.int .u64 (val ((l.drop 2).take 8) : Nat), .int .u8 (at_ l 10 : Nat), .string (str (l.drop 11))]) (by simp [results, Tryz.results248, go_sem, hc3]) rfl ⟨rfl, below_store3 HB3.out _ _ _⟩
end Go.Proofs.YtkhjhojmhllkaaaGreatDoor
/- Scan in package wire. -/
namespace Go.Proofs.YtkhjhojmhllkaaaGreatDoor
open Go.RowKit
open Sc

/-- records as cells -/
def recCells (r : Rec) : List Value := [.int .u64 (r.lsn : Int), .int .u8 (r.kind : Int), .string (str r.pay)]
def recsV (rs : List Rec) : List Value := rs.flatMap recCells
theorem recsV_snoc (rs : List Rec) (r : Rec) : recsV (rs ++ [r]) = recsV rs ++ recCells r := by simp [recsV]
theorem recsV_len (rs : List Rec) : (recsV rs).length = rs.length * 3 := by
  induction rs with
  | nil => rfl
  | cons r rs ih => simp only [recsV, List.flatMap_cons, List.length_append, List.length_cons] at *; rw [ih]; simp [recCells]; omega
theorem Tryz.infoRec : (Tryz.prog.info? 103).map (fun i => (i.zero, i.size, i.bytes)) = some (some (.agg #[.int .u64 0, .int .u8 0, .string ByteArray.empty]), 3, 32) := by kernel_rfl

/-- append(own, one record) -/
theorem wpList_rec {w : World} {ops : Array Oper} {rest : List Oper} {o : Oper} {a : Act} {Q : Exit → Act → World → Prop} (hgd : o.guard = none) (s x : Operand)
    (ho : o.op = .call { callee := .builtin .append, args := #[s, x], argTypes := #[50, 50] })
    (base : Nat) (v : Value) (n : Nat) (rs : List Rec) (r : Rec) (b : Nat) (hs : a.eval s = v) (hown : w.ownsRow base 103 3 v n (recsV rs)) (hx : a.eval x = .slice (some ⟨b, 0, none⟩) 1 1)
    (hc0 : w.cell? ⟨b, 0, none⟩ = some (.int .u64 (r.lsn : Int))) (hc1 : w.cell? ⟨b, 1, none⟩ = some (.int .u8 (r.kind : Int))) (hc2 : w.cell? ⟨b, 2, none⟩ = some (.string (str r.pay))) (hn : n ≤ 1099511627776) (hbase : base ≤ w.heap.size)
    (h : ∀ v' w', w'.ownsRow base 103 3 v' (n + 1) (recsV (rs ++ [r])) → w.grownBy w' v.ownBlock → wpList Tryz.prog ops Q rest (a.put o.dst v') w') : wpList Tryz.prog ops Q (o :: rest) a w := by
  obtain ⟨i0, hi, hz0, hz1, hz2⟩ := info_parts Tryz.infoRec
  refine wpList_append_own _ hgd s x 50 ho base 103 i0 _ 3 32 Tryz.underlying50 hi hz0 hz1 hz2 rfl (by decide) v n (recsV rs) hs hown ⟨b, 0, none⟩ 1 1 (recCells r) hx rfl ?_ ?_ (by unfold maxLen; omega) (by omega) hbase ?_
  · intro jj u hjj
    match jj, hjj with
    | 0, hjj => simp [recCells] at hjj; subst hjj; simpa [Addr.add] using hc0
    | 1, hjj => simp [recCells] at hjj; subst hjj; simpa [Addr.add] using hc1
    | 2, hjj => simp [recCells] at hjj; subst hjj; simpa [Addr.add] using hc2
  · intro u hu; simp [recCells] at hu; rcases hu with rfl | rfl | rfl <;> rfl
  · intro v' w' ho' hg' _
    refine h v' w' ?_ hg'
    rw [recsV_snoc]; exact ho'

theorem ownR_below {w w' : World} {base n : Nat} {v : Value} {xs : List Value} (h : w.ownsRow base 103 3 v n xs) (hb : Below w.heap.size w w') : w'.ownsRow base 103 3 v n xs :=
  h.kept (grown_of_below hb none) (by cases v.ownBlock <;> simp)
theorem sealed_frame (l : List Nat) (f : Nat) (hf : fLen l = f) (h : 15 + f ≤ l.length) : sealed (l.take (15 + f)) = fSum l := by
  unfold sealed fSum
  rw [hf, List.length_take, Nat.min_eq_left h, List.take_take, show min (15 + f - 4) (15 + f) = 11 + f by omega, show 15 + f - 4 = 11 + f by omega, List.drop_take, show 15 + f - (11 + f) = 4 by omega]
theorem rec_frame (l : List Nat) (f : Nat) (hf : fLen l = f) : recOf l = ⟨val (((l.take (11 + f)).drop 2).take 8), at_ (l.take (11 + f)) 10, (l.take (11 + f)).drop 11⟩ := by
  unfold recOf
  rw [hf, at_take _ _ _ (by omega), List.drop_take, List.drop_take, List.take_take, show min 8 (11 + f - 2) = 8 by omega, show 11 + f - 11 = f by omega]
theorem ownR_base {w : World} {B n : Nat} {v : Value} {xs : List Value} (h : w.ownsRow (B + 1) 103 3 v n xs) : w.ownsRow B 103 3 v n xs := by
  refine ⟨h.1, ?_⟩
  rcases h.2 with h | ⟨g, cap, cur, h1, h2, h3⟩
  · exact .inl h
  · exact .inr ⟨g, cap, cur, h1, by omega, h3⟩
theorem RowAt.take {w : World} {b off : Nat} {l : List Nat} (h : RowAt w b off l) (m : Nat) : RowAt w b off (l.take m) := fun i hi => by
  rw [List.length_take] at hi
  rw [at_take l m i (by omega)]; exact h i (by omega)
theorem ffOk_parts {l : List Nat} (h : ffOk l = true) : 15 ≤ l.length ∧ fLen l ≤ 255 ∧ 15 + fLen l ≤ l.length := by
  unfold ffOk at h
  simp only [Bool.and_eq_true, decide_eq_true_eq] at h
  exact ⟨h.1, h.2.1, h.2.2⟩
theorem ended_nil : Ended [] 0 := ⟨good_zero _, rfl⟩

set_option maxRecDepth 100000 in
set_option maxHeartbeats 2000000 in
theorem scanW_some (b off cap : Nat) (l : List Nat) (w : World) (hb : Byt l) (hl : l.length ≤ 1099511627776) (hrow : RowAt w b off l) (hlt : b < w.heap.size) (hcap : l.length ≤ cap) (hcap2 : cap ≤ maxLen) :
    Calls Tryz.prog 216 #[.slice (some ⟨b, off, none⟩) l.length cap] w fun e w' => ∃ k v', e = .returned (.tuple #[v', .int .i64 ((st k l).2 : Nat)]) ∧ Ended l k ∧ w'.ownsRow w.heap.size 103 3 v' k (recsV (st k l).1) ∧ (k = 0 → v' = .slice none 0 0) ∧ Below w.heap.size w w' := by
  obtain ⟨n, hn⟩ : ∃ n, n = l.length := ⟨_, rfl⟩
  rw [← hn] at hl hcap ⊢
  have HL : Hid (l.length = n) := hn.symm
  have HR : Hid (RowAt w b off l) := hrow
  clear hn hrow
  have hcap3 := hcap2
  unfold maxLen at hcap3
  have hnot : ∀ (x : Bool) (w : World), (Op.unary .not (.bool x)).run Tryz.prog w = .ok (.bool (!x)) w := fun _ _ => rfl
  go_enter Tryz.func216, Tryz.ntmps216
  go_wp2
  go_loopw [5, 6] (fun r e wr => ∃ k, Good l k ∧ e = .int .i64 ((st k l).2 : Nat) ∧ wr.ownsRow (w.heap.size + 1) 103 3 r k (recsV (st k l).1) ∧ (k = 0 → r = .slice none 0 0) ∧ (∃ d, Maker wr w.heap.size d) ∧ Below w.heap.size w wr) (fun _ e _ => n - (intOf e).toNat)
  case atStart => exact ⟨0, good_zero l, rfl, World.ownsRow_nil _ _ _ _, fun _ => rfl, ⟨false, maker_new w⟩, (Below.refl _ _).alloc (Nat.le_refl _) _⟩
  case round =>
    obtain ⟨k, hg, rfl, hown, hnil, ⟨d, hm⟩, hB⟩ := hrel
    have hle := st_le hg
    rw [HL.out] at hle
    have HG : Hid (Good l k) := hg
    obtain ⟨E, hE⟩ : ∃ E, E = (st k l).2 := ⟨_, rfl⟩
    rw [← hE] at hle ⊢
    have HE : Hid ((st k l).2 = E) := hE.symm
    clear hE hg
    have i0 : (0 : Int) ≤ (E : Int) := by omega
    have i1 : (E : Int) ≤ (n : Int) := by omega
    have i2 : (E : Int) ≤ (cap : Int) := by omega
    by_cases h15 : n - E < 15
    · have HO : Hid (frameOk (l.drop E) = false) := frameOk_ffno (ffOk_short (by rw [List.length_drop, HL.out]; omega))
      by_cases hcE : cap = E
      · subst hcE
        obtain rfl : n = cap := by omega
        go_wp2_with fail
        refine (firstFrame_short _ _ _ _ (by omega)).mono ?_
        rintro e w1 ⟨rfl, hw1⟩
        have := hw1.symm
        subst this
        clear hw1
        go_wp2
        go_ret2
        exact ⟨k, _, by rw [HE.out]; rfl, ⟨HG.out, by rw [HE.out]; exact HO.out⟩, ownR_base hown, hnil, hB⟩
      · go_wp2_with fail
        refine (firstFrame_short _ _ _ _ (by omega)).mono ?_
        rintro e w1 ⟨rfl, hw1⟩
        have := hw1.symm
        subst this
        clear hw1
        go_wp2
        go_ret2
        exact ⟨k, _, by rw [HE.out]; rfl, ⟨HG.out, by rw [HE.out]; exact HO.out⟩, ownR_base hown, hnil, hB⟩
    · have hcE : ¬ cap = E := by omega
      have HRr : Hid (RowAt wr b (off + E) (l.drop E)) := (HR.out.below hB hlt).drop E (by rw [HL.out]; exact hle)
      have hb' : Byt (l.drop E) := hb.drop E
      have HL' : Hid ((l.drop E).length = n - E) := by show _ = _; rw [List.length_drop, HL.out]
      have HEND : Hid (frameOk (l.drop E) = false → Ended l k) := fun h => ⟨HG.out, by rw [HE.out]; exact h⟩
      have HST : Hid (frameOk (l.drop E) = true → Good l (k + 1) ∧ (st (k + 1) l).2 = E + (15 + fLen (l.drop E)) ∧ (st (k + 1) l).1 = (st k l).1 ++ [recOf (l.drop E)]) := fun h =>
        ⟨good_succ HG.out (by rw [HE.out]; exact h), by show (st k l).2 + 15 + fLen (l.drop (st k l).2) = _; rw [HE.out]; omega, by show (st k l).1 ++ [recOf (l.drop (st k l).2)] = _; rw [HE.out]⟩
      generalize l.drop E = m at HRr hb' HL' HEND HST
      have hB' : Hid (Below w.heap.size w wr) := hB
      clear hB
      go_wp2_with fail
      refine (firstFrame_some b (off + E) (n - E) (cap - E) m _ HL'.out hb' (by omega) (by omega) (by omega) (by unfold maxLen; omega) HRr.out).mono ?_
      rintro e w1 ⟨rfl, q1, hw1⟩
      have HB1 : Hid (Below w.heap.size w w1) := by show Below _ _ _; rw [hw1]; exact below_drewN hB'.out _
      have ho1 : w1.ownsRow (w.heap.size + 1) 103 3 u5 k (recsV (st k l).1) := by rw [hw1]; exact hown.kept (grown_drewN wr q1 none) (by cases u5.ownBlock <;> simp)
      have HM1 : Hid (Maker w1 w.heap.size d) := hm.of_block (by rw [hw1, heap_drewN])
      have HR1 : Hid (RowAt w1 b (off + E) m) := by show RowAt _ _ _ _; rw [hw1]; exact HRr.out.drewN q1
      have hz1 : w.heap.size < w1.heap.size := HM1.out.lt
      clear hw1 hown hm HRr hB'
      rcases (Bool.eq_false_or_eq_true (ffOk m)).symm with hff | hff
      · have HF : Hid (frameOk m = false) := frameOk_ffno hff
        rw [ffV_no hff, hff]
        clear hff
        go_wp2
        go_ret2
        exact ⟨k, u5, by rw [HE.out]; rfl, HEND.out HF.out, ownR_base ho1, hnil, HB1.out⟩
      · have HF : Hid (ffOk m = true) := hff
        obtain ⟨hf1, hf2, hf3⟩ := ffOk_parts hff
        rw [ffV_yes hff, hff]
        clear hff
        rw [HL'.out] at hf1 hf3
        obtain ⟨f, hf⟩ : ∃ f, f = fLen m := ⟨_, rfl⟩
        rw [← hf] at hf2 hf3 ⊢
        have HFL : Hid (fLen m = f) := hf.symm
        clear hf
        have HO1 : Hid (w1.ownsRow (w.heap.size + 1) 103 3 u5 k (recsV (st k l).1)) := ho1
        clear ho1
        go_wp2_with fail
        refine (unseal_any w.heap.size b (off + E) (15 + f) (15 + f) d (m.take (15 + f)) _ HM1.out (by omega) (by rw [List.length_take, HL'.out]; omega) (hb'.take _) (by omega) (by omega) (by omega) (by unfold maxLen; omega) (HR1.out.take _)).mono ?_
        rintro e w2 ⟨rfl, hm2, hg2⟩
        have HO2 : Hid (w2.ownsRow (w.heap.size + 1) 103 3 u5 k (recsV (st k l).1)) := HO1.out.kept hg2 (Or.inr (by intro e; have := (HO1.out.lt _ e).1; omega))
        have HB2 : Hid (Below w.heap.size w w2) := HB1.out.grown hg2 (by omega) (fun q hq => by cases hq; exact Nat.le_refl _)
        have HR2 : Hid (RowAt w2 b (off + E) m) := row_grown HR1.out hg2 (by omega)
        have HM2 : Hid (Maker w2 w.heap.size true) := hm2
        have hz2 : w1.heap.size ≤ w2.heap.size := hg2.size
        have hse := sealed_frame m f HFL.out (by rw [HL'.out]; omega)
        clear hm2 hg2 HR1 HM1 HO1 HB1
        rcases (Bool.eq_false_or_eq_true (fSum m)).symm with hsu | hsu
        · have HF2 : Hid (frameOk m = false) := frameOk_sumno hsu
          rw [hsu] at hse
          rw [unsV_no hse, hse]
          clear hse hsu
          go_wp2
          go_ret2
          exact ⟨k, u5, by rw [HE.out]; rfl, HEND.out HF2.out, ownR_base HO2.out, hnil, HB2.out⟩
        · have HF2 : Hid (frameOk m = true) := frameOk_yes HF.out hsu
          rw [hsu] at hse
          rw [unsV_yes hse, hse, show 15 + f - 4 = 11 + f by omega]
          clear hse hsu
          go_wp2_with fail
          refine (readRecord_any b (off + E) f (m.take (11 + f)) _ (by rw [List.length_take, HL'.out]; omega) (by omega) (hb'.take _) (HR2.out.take _)).mono ?_
          rintro e w3 ⟨rfl, hb3⟩
          have HO3 : Hid (w3.ownsRow (w.heap.size + 1) 103 3 u5 k (recsV (st k l).1)) := ownR_below HO2.out hb3
          have HB3 : Hid (Below w.heap.size w w3) := HB2.out.trans (hb3.mono (by omega))
          have HM3 : Hid (Maker w3 w.heap.size true) := HM2.out.of_block (hb3.block _ (by omega))
          have hz3 : w2.heap.size ≤ w3.heap.size := hb3.size
          have hrc := rec_frame m f HFL.out
          have hc0 : (recOf m).lsn = val (((m.take (11 + f)).drop 2).take 8) := by rw [hrc]
          have hc1 : (recOf m).kind = at_ (m.take (11 + f)) 10 := by rw [hrc]
          have hc2 : (recOf m).pay = (m.take (11 + f)).drop 11 := by rw [hrc]
          rw [← hc0, ← hc1, ← hc2]
          clear hb3 HR2 HO2 HB2 HM2 hrc hc0 hc1 hc2
          have hkn : k ≤ 1099511627776 := by
            have := st_ge l k
            rw [HE.out] at this
            omega
          go_wp2_with (at_builtin; refine wpList_rec rfl _ _ rfl (w.heap.size + 1) u5 k (st k l).1 (recOf m) w3.heap.size rfl (HO3.out.alloc _) rfl (by simp) (by simp) (by simp) hkn (by simp; omega) ?_; intro v4 w4 ho4 hg4)
          obtain ⟨hgood, hst2, hst1⟩ := HST.out HF2.out
          rw [HFL.out] at hst2
          have hB4 : Below w.heap.size w w4 := (HB3.out.alloc (by omega) _).grown hg4 (by simp; omega) (fun q hq => by have := (HO3.out.lt q hq).1; omega)
          have hm4 : Maker w4 w.heap.size true := (HM3.out.alloc _).of_block (hg4.block _ (by simp; omega) (fun e => by have := (HO3.out.lt _ e.symm).1; omega))
          clear hg4
          go_roundw
          case rel => exact ⟨k + 1, hgood, by rw [hst2]; go_num, by rw [hst1]; exact ho4, fun h => absurd h (by omega), ⟨true, hm4⟩, hB4⟩
          case measure => simp [intOf]; omega
end Go.Proofs.YtkhjhojmhllkaaaGreatDoor
