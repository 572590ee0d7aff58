import Derived.Test.YtfkoflldjnlhaaaDoorStr
import Derived.Room.AppendFits
/- RECORDS: what they are, their bytes; the document's Record. -/
namespace Go.Proofs.YtfkoflldjnlhaaaDoor
open Go.RowKit
open Sc

/-- a record's bytes, without its sum -/
def recHead (x k : Nat) (l : List Nat) : List Nat := be 2 l.length ++ be 8 x ++ [k] ++ l
def recBytes (x k : Nat) (l : List Nat) : List Nat := recHead x k l ++ be 4 (crc (recHead x k l))
theorem recHead_len (x k : Nat) (l : List Nat) : (recHead x k l).length = 11 + l.length := by simp [recHead, be_len]; omega
theorem recBytes_len (x k : Nat) (l : List Nat) : (recBytes x k l).length = 15 + l.length := by simp [recBytes, recHead_len, be_len]; omega
theorem recHead_byt (x k : Nat) (l : List Nat) (hk : k < 256) (hl : Byt l) : Byt (recHead x k l) := by
  intro b hb
  simp only [recHead, List.mem_append, List.mem_singleton] at hb
  rcases hb with ((hb | hb) | rfl) | hb
  · exact be_lt _ _ _ hb
  · exact be_lt _ _ _ hb
  · exact hk
  · exact hl _ hb
theorem recBytes_byt (x k : Nat) (l : List Nat) (hk : k < 256) (hl : Byt l) : Byt (recBytes x k l) := by
  intro b hb
  simp only [recBytes, List.mem_append] at hb
  rcases hb with hb | hb
  · exact recHead_byt _ _ _ hk hl _ hb
  · exact be_lt _ _ _ hb
theorem strCells_bs (s : ByteArray) : Lib.strCells s = bs (bytesOf s) := by simp [Lib.strCells, bs, bytesOf]
/-- a record as a value; its box -/
abbrev recV (x k : Int) (s : ByteArray) : Value := .agg #[.int .u64 x, .int .u8 k, .string s]
abbrev recO (x k : Int) (s : ByteArray) : Obj := .cells #[.int .u64 x, .int .u8 k, .string s] 29

set_option maxHeartbeats 400000 in
theorem record_no (x k : Int) (s : ByteArray) (w : World) (hs : 255 < s.size) :
    Calls Tryd.prog 7 #[.agg #[.int .u64 x, .int .u8 k, .string s]] w fun e w' => e = .returned (.tuple #[.slice none 0 0, .int .i64 1]) ∧ Below w.heap.size w w' := by
  have h1 : (255 : Int) < (s.size : Int) := by omega
  go_enter Tryd.func7, Tryd.ntmps7
  go_wp2
  go_ret2
  exact ⟨rfl, (Below.refl _ _).alloc (Nat.le_refl _) _⟩

theorem keep_row {w1 w2 : World} {r : Option Nat} (h : w1.grownBy w2 r) {B : Nat} (hB : B < w1.heap.size) (hr : ∀ q, r = some q → B + 1 ≤ q) (i : Nat) : w2.cell? ⟨B, i, none⟩ = w1.cell? ⟨B, i, none⟩ :=
  grown_row h hB (fun e => by have := hr B e; omega) i
theorem keep_new {w1 w2 : World} {o : Obj} {r : Option Nat} (h : (w1.alloc o).grownBy w2 r) {B : Nat} (hB : B < w1.heap.size) (hr : ∀ q, r = some q → B + 1 ≤ q) (i : Nat) : w2.cell? ⟨B, i, none⟩ = w1.cell? ⟨B, i, none⟩ := by
  rw [keep_row h (by simp; omega) hr i, World.cell?_alloc_lt _ _ ⟨B, i, none⟩ hB]
/-- append(own, one byte) -/
theorem wpList_byte {w : World} {ops : Array Oper} {rest : List Oper} {o : Oper} {a : Act} {Q : Exit → Act → World → Prop} (hgd : o.guard = none) (s x : Operand)
    (ho : o.op = .call { callee := .builtin .append, args := #[s, x], argTypes := #[23, 23] })
    (base : Nat) (v : Value) (n : Nat) (xs : List Nat) (k : Nat) (b : Nat) (hs : a.eval s = v) (hown : w.ownsRow base 5 1 v n (bs xs)) (hx : a.eval x = .slice (some ⟨b, 0, none⟩) 1 1) (hc : w.cell? ⟨b, 0, none⟩ = some (.int .u8 k)) (hn : n ≤ 1099511627776) (hbase : base ≤ w.heap.size)
    (h : ∀ v' w', w'.ownsRow base 5 1 v' (n + 1) (bs (xs ++ [k])) → w.grownBy w' v.ownBlock → wpList Tryd.prog ops Q rest (a.put o.dst v') w') : wpList Tryd.prog ops Q (o :: rest) a w := by
  obtain ⟨i0, hi, hz0, hz1, hz2⟩ := info_parts Tryd.info5
  refine wpList_append_own _ hgd s x 23 ho base 5 i0 (.int .u8 0) 1 1 Tryd.underlying23 hi hz0 hz1 hz2 rfl (by decide) v n (bs xs) hs hown ⟨b, 0, none⟩ 1 1 [.int .u8 (k : Int)] hx rfl ?_ ?_ (by unfold maxLen; omega) (by omega) hbase ?_
  · intro jj u hjj
    match jj, hjj with
    | 0, hjj => simp at hjj; subst hjj; simpa [Addr.add] using hc
  · intro u hu; simp at hu; subst hu; rfl
  · intro v' w' ho' hg' _
    refine h v' w' ?_ hg'
    rw [bs_app]; exact ho'
/-- append(own, s...), s a string -/
theorem wpList_text {w : World} {ops : Array Oper} {rest : List Oper} {o : Oper} {a : Act} {Q : Exit → Act → World → Prop} (hgd : o.guard = none) (s x : Operand)
    (ho : o.op = .call { callee := .builtin .append, args := #[s, x], argTypes := #[23, 9] })
    (base : Nat) (v : Value) (n : Nat) (xs : List Nat) (t : ByteArray) (hs : a.eval s = v) (hown : w.ownsRow base 5 1 v n (bs xs)) (hx : a.eval x = .string t) (hn : n + t.size ≤ 1099511627776) (hbase : base ≤ w.heap.size)
    (h : ∀ v' w', w'.ownsRow base 5 1 v' (n + t.size) (bs (xs ++ bytesOf t)) → w.grownBy w' v.ownBlock → wpList Tryd.prog ops Q rest (a.put o.dst v') w') : wpList Tryd.prog ops Q (o :: rest) a w := by
  obtain ⟨i0, hi, hz0, hz1, hz2⟩ := info_parts Tryd.info5
  refine Lib.wpList_append_own_string _ hgd s x 23 9 ho base 5 i0 Tryd.underlying23 Tryd.underlying9 hi hz0 hz1 hz2 v n (bs xs) hs hown t hx (by unfold maxLen; omega) (by omega) hbase ?_
  intro v' w' ho' hg' _
  refine h v' w' ?_ hg'
  rw [bs_app, ← strCells_bs]; exact ho'

set_option maxRecDepth 100000 in
set_option maxHeartbeats 1000000 in
theorem record_yes (x k : Nat) (s : ByteArray) (w : World) (hs : s.size ≤ 255) (hk : k < 256) (hx : x < 18446744073709551616) :
    Calls Tryd.prog 7 #[.agg #[.int .u64 x, .int .u8 k, .string s]] w fun e w' => ∃ g cap, e = .returned (.tuple #[.slice (some ⟨g, 0, none⟩) (11 + s.size + 4) cap, .int .i64 0]) ∧ w.heap.size ≤ g ∧ (11 + s.size + 4 ≤ cap ∧ cap ≤ maxLen) ∧ RowAt w' g 0 (recBytes x k (bytesOf s)) ∧ Below w.heap.size w w' := by
  have h1 : ¬ (255 : Int) < (s.size : Int) := by omega
  have HX : Hid (x < 18446744073709551616) := hx
  clear hx
  go_enter Tryd.func7, Tryd.ntmps7
  go_wp2_with fail
  refine (number2 (w.heap.size + 1) _ [] s.size 0 _ rfl (World.ownsRow_nil _ _ _ _) (by omega) (by omega) (by simp)).mono ?_
  rintro e w1 ⟨v1, rfl, ho1, hb1⟩
  have hc1 : ∀ i, w1.cell? ⟨w.heap.size, i, none⟩ = (w.alloc (recO x k s)).cell? ⟨w.heap.size, i, none⟩ := fun i => hb1.cell (p := ⟨w.heap.size, i, none⟩) (by simp)
  have HB1 : Hid (Below w.heap.size w w1) := ((Below.refl _ _).alloc (Nat.le_refl _) _).trans (hb1.mono (by omega))
  have hz1' : w.heap.size + 1 ≤ w1.heap.size := by have := hb1.size; simp at this; omega
  clear hb1
  go_wp2_with fail
  refine (number8 (w.heap.size + 1) _ _ x (0 + 2) _ (by simp [be_len]) ho1 HX.out (by omega) (by omega)).mono ?_
  rintro e w2 ⟨v2, rfl, ho2, hb2⟩
  have hc2 : ∀ i, w2.cell? ⟨w.heap.size, i, none⟩ = (w.alloc (recO x k s)).cell? ⟨w.heap.size, i, none⟩ := fun i => (hb2.cell (p := ⟨w.heap.size, i, none⟩) (by simp)).trans (hc1 i)
  have HB2 : Hid (Below w.heap.size w w2) := HB1.out.trans (hb2.mono (by omega))
  have hz2' : w.heap.size + 1 ≤ w2.heap.size := by have := hb2.size; omega
  clear hb2 hc1 ho1
  go_wp2_with (first | (at_builtin; refine wpList_byte rfl _ _ rfl (w.heap.size + 1) v2 _ _ k w2.heap.size rfl (ho2.alloc _) rfl (by simp) (by omega) (by simp; omega) ?_; intro v3 w3 ho3 hg3; have hc3 : ∀ i, w3.cell? ⟨w.heap.size, i, none⟩ = (w.alloc (recO x k s)).cell? ⟨w.heap.size, i, none⟩ := fun i => (keep_new hg3 (by omega) (fun q hq => (ho2.lt q hq).1) i).trans (hc2 i)) | (at_builtin; refine wpList_text rfl _ _ rfl (w.heap.size + 1) v3 _ _ s rfl ho3 rfl (by omega) (by have := hg3.size; simp at this; omega) ?_; intro v4 w4 ho4 hg4))
  have hz3 : w2.heap.size + 1 ≤ w3.heap.size := by have := hg3.size; simp at this; omega
  have hz4 : w3.heap.size ≤ w4.heap.size := hg4.size
  have HB3 : Hid (Below w.heap.size w w3) := (HB2.out.alloc (by omega) _).grown hg3 (by simp; omega) (fun q hq => by have := (ho2.lt q hq).1; omega)
  have HB4 : Hid (Below w.heap.size w w4) := HB3.out.grown hg4 (by omega) (fun q hq => by have := (ho3.lt q hq).1; omega)
  have ho4' : w4.ownsRow (w.heap.size + 1) 5 1 v4 (11 + s.size) (bs (recHead x k (bytesOf s))) := by
    have e : (([] ++ be 2 s.size) ++ be 8 x ++ [k]) ++ bytesOf s = recHead x k (bytesOf s) := by unfold recHead; rw [bytesOf_len, List.nil_append]
    rw [e] at ho4; exact ho4
  clear ho4 hg4 hg3 ho3 hc3 hc2 ho2
  obtain ⟨g, cap, rfl, hg1, hg2, hcp1, hcp2, hrow⟩ := own_shape ho4' (by omega)
  have hB := recHead_byt x k (bytesOf s) hk (bytesOf_byt s)
  have hlt := crc_lt _ hB
  have hL := recHead_len x k (bytesOf s)
  rw [bytesOf_len] at hL
  have HL : Hid ((recHead x k (bytesOf s)).length = 11 + s.size) := hL
  clear hL
  refine (sum_some g 0 (11 + s.size) cap (recHead x k (bytesOf s)) _ HL.out hB (by omega) (fun i hi => hrow i (by rw [HL.out]; exact hi))).mono ?_
  rintro e w5 ⟨rfl, hw5⟩
  have := hw5.symm
  subst this
  clear hw5
  go_wp2_with fail
  refine (number4 (w.heap.size + 1) _ (recHead x k (bytesOf s)) (crc (recHead x k (bytesOf s))) (11 + s.size) _ HL.out ho4' (by omega) (by omega) (by omega)).mono ?_
  rintro e w6 ⟨v6, rfl, ho6, hb6⟩
  have HB6 : Hid (Below w.heap.size w w6) := HB4.out.trans (hb6.mono (by omega))
  obtain ⟨g2, cap2, rfl, hg3, hg4, hc3, hc4, hrow2⟩ := own_shape ho6 (by omega)
  clear hrow ho4' hb6
  go_wp2
  go_ret2
  exact ⟨g2, cap2, rfl, by omega, ⟨by omega, hc4⟩, hrow2, HB6.out⟩
end Go.Proofs.YtfkoflldjnlhaaaDoor
