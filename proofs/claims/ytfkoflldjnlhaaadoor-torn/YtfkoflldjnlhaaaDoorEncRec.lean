import Derived.Test.YtfkoflldjnlhaaaDoorRec
/- EncodeRecord in package wire, and through shardcommit and plain. -/
namespace Go.Proofs.YtfkoflldjnlhaaaDoor
open Go.RowKit
open Sc

/-- append(own, s...), s a string, where there is room -/
theorem wpList_fits {w : World} {ops : Array Oper} {rest : List Oper} {o : Oper} {a : Act} {Q : Exit → Act → World → Prop} (hgd : o.guard = none) (s x : Operand)
    (ho : o.op = .call { callee := .builtin .append, args := #[s, x], argTypes := #[23, 9] })
    (base g n cap : Nat) (xs : List Nat) (t : ByteArray) (hs : a.eval s = .slice (some ⟨g, 0, none⟩) n cap) (hown : w.ownsRow base 5 1 (.slice (some ⟨g, 0, none⟩) n cap) n (bs xs)) (hx : a.eval x = .string t) (hc : 0 < cap) (hn : n + t.size ≤ cap)
    (h : ∀ w', w'.ownsRow base 5 1 (.slice (some ⟨g, 0, none⟩) (n + t.size) cap) (n + t.size) (bs (xs ++ bytesOf t)) → w.grownBy w' (some g) → wpList Tryd.prog ops Q rest (a.put o.dst (.slice (some ⟨g, 0, none⟩) (n + t.size) cap)) w') : wpList Tryd.prog ops Q (o :: rest) a w := by
  obtain ⟨i0, hi, hz0, hz1, hz2⟩ := info_parts Tryd.info5
  refine Lib.wpList_append_fits_string _ hgd s x 23 9 ho base 5 i0 Tryd.underlying23 Tryd.underlying9 hi hz1 (some ⟨g, 0, none⟩) n cap (bs xs) hs hown t hx hc hn ?_
  intro w' ho' hg'
  refine h w' ?_ hg'
  rw [bs_app, ← strCells_bs]; exact ho'

set_option maxHeartbeats 400000 in
theorem encodeR_no (x k : Int) (s : ByteArray) (w : World) (hs : 255 < s.size) :
    Calls Tryd.prog 27 #[.agg #[.int .u64 x, .int .u8 k, .string s]] w fun e w' => e = .returned (.tuple #[.slice none 0 0, .iface 24 (.int .i64 1)]) ∧ Below w.heap.size w w' := by
  have h1 : (255 : Int) < (s.size : Int) := by omega
  go_enter Tryd.func27, Tryd.ntmps27
  go_wp2
  go_ret2
  exact ⟨rfl, (Below.refl _ _).alloc (Nat.le_refl _) _⟩

theorem box_grown1 {w w1 : World} {o : Obj} {r : Option Nat} (h : (w.alloc o).grownBy w1 r) (hr : r ≠ some w.heap.size) (i : Nat) : w1.cell? ⟨w.heap.size, i, none⟩ = (w.alloc o).cell? ⟨w.heap.size, i, none⟩ :=
  grown_row h (B := w.heap.size) (by simp) hr i
theorem own_at1 {w w1 : World} {o : Obj} {base n cap : Nat} {xs : List Value} (h : w1.ownsRow base 5 1 (.slice (some ⟨(w.alloc o).heap.size, 0, none⟩) n cap) n xs) : w1.ownsRow base 5 1 (.slice (some ⟨w.heap.size + 1, 0, none⟩) n cap) n xs := by
  rw [World.size_alloc] at h; exact h

set_option maxRecDepth 100000 in
set_option maxHeartbeats 1000000 in
theorem encodeR_own (x k : Nat) (s : ByteArray) (w : World) (hs : s.size ≤ 255) (hk : k < 256) (hx : x < 18446744073709551616) :
    Calls Tryd.prog 27 #[.agg #[.int .u64 x, .int .u8 k, .string s]] w fun e w' => ∃ g, e = .returned (.tuple #[.slice (some ⟨g, 0, none⟩) (11 + s.size + 4) (15 + s.size), .nilIface]) ∧ w.heap.size ≤ g ∧ w'.ownsRow (w.heap.size + 1) 5 1 (.slice (some ⟨g, 0, none⟩) (11 + s.size + 4) (15 + s.size)) (11 + s.size + 4) (bs (recBytes x k (bytesOf s))) ∧ Below w.heap.size w w' := by
  have h1 : ¬ (255 : Int) < (s.size : Int) := by omega
  have HX : Hid (x < 18446744073709551616) := hx
  clear hx
  obtain ⟨i0, hi, hz0, hz1, hz2⟩ := info_parts Tryd.info5
  go_enter Tryd.func27, Tryd.ntmps27
  go_wp2_with (at_make; refine wpList_make_own _ rfl _ _ 23 rfl (w.heap.size + 1) 5 i0 (.int .u8 0) 1 Tryd.underlying23 hi hz0 hz1 .i64 .i64 _ (15 + s.size) rfl rfl (by omega) (by rw [hz2]; omega) (by unfold maxLen; omega) (by simp) ?_; intro w1 ho1 hg1; have hc1 := box_grown1 hg1 (by simp); have ho1' := own_at1 ho1; clear ho1)
  have hg1' : (w.alloc (recO x k s)).grownBy w1 none := by assumption
  have hz1' : w.heap.size + 1 < w1.heap.size := (own_lt (xs := []) ho1').2
  have HB1 : Hid (Below w.heap.size w w1) := ((Below.refl _ _).alloc (Nat.le_refl _) _).grown hg1' (by simp) (fun q hq => by cases hq)
  clear hg1 hg1'
  refine (app_u16 (w.heap.size + 1) _ 0 (15 + s.size) [] s.size _ ho1' (by omega) (by omega)).mono ?_
  rintro e w2 ⟨rfl, ho2, hg2⟩
  have hc2 : ∀ i, w2.cell? ⟨w.heap.size, i, none⟩ = (w.alloc (recO x k s)).cell? ⟨w.heap.size, i, none⟩ := fun i => (grown_row hg2 (by omega) (by simp) i).trans (hc1 i)
  have HB2 : Hid (Below w.heap.size w w2) := HB1.out.grown hg2 (by omega) (fun q hq => by cases hq; omega)
  have hz2' : w.heap.size + 1 < w2.heap.size := (own_lt ho2).2
  clear hc1 ho1' hg2
  go_wp2_with fail
  refine (app_u64 (w.heap.size + 1) _ (0 + 2) (15 + s.size) _ x _ ho2 (by omega) HX.out).mono ?_
  rintro e w3 ⟨rfl, ho3, hg3⟩
  have hc3 : ∀ i, w3.cell? ⟨w.heap.size, i, none⟩ = (w.alloc (recO x k s)).cell? ⟨w.heap.size, i, none⟩ := fun i => (grown_row hg3 (by omega) (by simp) i).trans (hc2 i)
  have HB3 : Hid (Below w.heap.size w w3) := HB2.out.grown hg3 (by omega) (fun q hq => by cases hq; omega)
  have hz3' : w.heap.size + 1 < w3.heap.size := (own_lt ho3).2
  clear hc2 ho2 hg3
  go_wp2_with fail
  refine (app_u8 (w.heap.size + 1) _ (0 + 2 + 8) (15 + s.size) _ k _ ho3 (by omega) (by omega)).mono ?_
  rintro e w4 ⟨rfl, ho4, hg4⟩
  have hc4 : ∀ i, w4.cell? ⟨w.heap.size, i, none⟩ = (w.alloc (recO x k s)).cell? ⟨w.heap.size, i, none⟩ := fun i => (grown_row hg4 (by omega) (by simp) i).trans (hc3 i)
  have HB4 : Hid (Below w.heap.size w w4) := HB3.out.grown hg4 (by omega) (fun q hq => by cases hq; omega)
  have hz4' : w.heap.size + 1 < w4.heap.size := (own_lt ho4).2
  clear hc3 ho3 hg4
  go_wp2_with (at_builtin; refine wpList_fits rfl _ _ rfl (w.heap.size + 1) _ (0 + 2 + 8 + 1) (15 + s.size) _ s rfl ho4 rfl (by omega) (by omega) ?_; intro w5 ho5 hg5)
  have HB5 : Hid (Below w.heap.size w w5) := HB4.out.grown hg5 (by omega) (fun q hq => by cases hq; omega)
  have hz5' : w.heap.size + 1 < w5.heap.size := (own_lt ho5).2
  have ho5' : w5.ownsRow (w.heap.size + 1) 5 1 (.slice (some ⟨w.heap.size + 1, 0, none⟩) (11 + s.size) (15 + s.size)) (11 + s.size) (bs (recHead x k (bytesOf s))) := by
    have e : ((([] ++ be 2 s.size) ++ be 8 x) ++ be 1 k) ++ bytesOf s = recHead x k (bytesOf s) := by
      have e1 : be 1 k = [k] := by simp [be, digit, List.range_succ]; omega
      unfold recHead; rw [bytesOf_len, List.nil_append, e1]
    rw [e] at ho5; exact ho5
  clear hc4 ho4 hg5 ho5
  refine (seal_any (w.heap.size + 1) w5.heap.size (w.heap.size + 1) (11 + s.size) (15 + s.size) false (recHead x k (bytesOf s)) _ (maker_new w5) (by omega) (ho5'.alloc _) (recHead_byt x k (bytesOf s) hk (bytesOf_byt s)) (by omega) (by omega)).mono ?_
  rintro e w6 ⟨rfl, ho6, hb6⟩
  have HB6 : Hid (Below w.heap.size w w6) := (HB5.out.alloc (by omega) _).trans (hb6 w.heap.size (by omega) (by omega))
  have HR6 : Hid (w6.ownsRow (w.heap.size + 1) 5 1 (.slice (some ⟨w.heap.size + 1, 0, none⟩) (11 + s.size + 4) (15 + s.size)) (11 + s.size + 4) (bs (recBytes x k (bytesOf s)))) := ho6
  clear ho6 hb6 ho5'
  go_wp2
  go_ret2
  exact ⟨w.heap.size + 1, rfl, by omega, HR6.out, HB6.out⟩

theorem encodeR_yes (x k : Nat) (s : ByteArray) (w : World) (hs : s.size ≤ 255) (hk : k < 256) (hx : x < 18446744073709551616) :
    Calls Tryd.prog 27 #[.agg #[.int .u64 x, .int .u8 k, .string s]] w fun e w' => ∃ g, e = .returned (.tuple #[.slice (some ⟨g, 0, none⟩) (11 + s.size + 4) (15 + s.size), .nilIface]) ∧ w.heap.size ≤ g ∧ RowAt w' g 0 (recBytes x k (bytesOf s)) ∧ Below w.heap.size w w' := by
  refine (encodeR_own x k s w hs hk hx).mono ?_
  rintro e w' ⟨g, h1, h2, h3, h4⟩
  exact ⟨g, h1, h2, own_row h3, h4⟩

set_option maxHeartbeats 400000 in
theorem encSR_no (x k : Int) (s : ByteArray) (w : World) (hs : 255 < s.size) :
    Calls Tryd.prog 15 #[.agg #[.int .u64 x, .int .u8 k, .string s]] w fun e w' => e = .returned (.tuple #[.slice none 0 0, .iface 24 (.int .i64 1)]) ∧ Below w.heap.size w w' := by
  go_enter Tryd.func15, Tryd.ntmps15
  go_wp2_with fail
  refine (encodeR_no x k s _ hs).mono ?_
  rintro e w1 ⟨rfl, hb1⟩
  rw [World.size_alloc] at hb1
  go_wp2
  go_ret2
  exact ⟨rfl, ((Below.refl _ _).alloc (Nat.le_refl _) _).trans (hb1.mono (by omega))⟩
set_option maxHeartbeats 400000 in
theorem encPR_no (x k : Int) (s : ByteArray) (w : World) (hs : 255 < s.size) (hg : Met w) :
    Calls Tryd.prog 6 #[.agg #[.int .u64 x, .int .u8 k, .string s]] w fun e w' => e = .returned (.tuple #[.slice none 0 0, .int .i64 1]) ∧ Below w.heap.size w w' := by
  have HG : Hid (Met w) := hg
  have h0 := hg.lt
  clear hg
  go_enter Tryd.func6, Tryd.ntmps6
  go_wp2_with fail
  refine (encSR_no x k s _ hs).mono ?_
  rintro e w1 ⟨rfl, hb1⟩
  rw [World.size_alloc] at hb1
  have HB1 : Hid (Below w.heap.size w w1) := ((Below.refl _ _).alloc (Nat.le_refl _) _).trans (hb1.mono (by omega))
  clear hb1
  have hz1 := HB1.out.size
  go_wp2_with fail
  refine (told_err 1 _ (HG.out.below HB1.out h0)).mono ?_
  rintro e w2 ⟨rfl, hb2⟩
  have HB2 : Hid (Below w.heap.size w w2) := HB1.out.trans (hb2.mono hz1)
  clear hb2
  go_wp2
  go_ret2
  exact ⟨rfl, HB2.out⟩
set_option maxHeartbeats 400000 in
theorem encSR_yes (x k : Nat) (s : ByteArray) (w : World) (hs : s.size ≤ 255) (hk : k < 256) (hx : x < 18446744073709551616) :
    Calls Tryd.prog 15 #[.agg #[.int .u64 x, .int .u8 k, .string s]] w fun e w' => ∃ g, e = .returned (.tuple #[.slice (some ⟨g, 0, none⟩) (11 + s.size + 4) (15 + s.size), .nilIface]) ∧ w.heap.size ≤ g ∧ RowAt w' g 0 (recBytes x k (bytesOf s)) ∧ Below w.heap.size w w' := by
  have HX : Hid (x < 18446744073709551616) := hx
  clear hx
  go_enter Tryd.func15, Tryd.ntmps15
  go_wp2_with fail
  refine (encodeR_yes x k s _ hs hk HX.out).mono ?_
  rintro e w1 ⟨g, rfl, hgg, hrow, hb1⟩
  rw [World.size_alloc] at hb1 hgg
  go_wp2
  go_ret2
  exact ⟨g, rfl, by omega, hrow, ((Below.refl _ _).alloc (Nat.le_refl _) _).trans (hb1.mono (by omega))⟩
set_option maxHeartbeats 400000 in
theorem encPR_yes (x k : Nat) (s : ByteArray) (w : World) (hs : s.size ≤ 255) (hk : k < 256) (hx : x < 18446744073709551616) :
    Calls Tryd.prog 6 #[.agg #[.int .u64 x, .int .u8 k, .string s]] w fun e w' => ∃ g, e = .returned (.tuple #[.slice (some ⟨g, 0, none⟩) (11 + s.size + 4) (15 + s.size), .int .i64 0]) ∧ w.heap.size ≤ g ∧ RowAt w' g 0 (recBytes x k (bytesOf s)) ∧ Below w.heap.size w w' := by
  have HX : Hid (x < 18446744073709551616) := hx
  clear hx
  go_enter Tryd.func6, Tryd.ntmps6
  go_wp2_with fail
  refine (encSR_yes x k s _ hs hk HX.out).mono ?_
  rintro e w1 ⟨g, rfl, hgg, hrow, hb1⟩
  rw [World.size_alloc] at hb1 hgg
  have HB1 : Hid (Below w.heap.size w w1) := ((Below.refl _ _).alloc (Nat.le_refl _) _).trans (hb1.mono (by omega))
  have HR1 : Hid (RowAt w1 g 0 (recBytes x k (bytesOf s))) := hrow
  have hgl : g < w1.heap.size := hrow.lt (by rw [recBytes_len]; omega)
  clear hb1 hrow
  have hz1 := HB1.out.size
  go_wp2_with fail
  refine (told_nil _).mono ?_
  rintro e w2 ⟨rfl, hb2⟩
  have HB2 : Hid (Below w.heap.size w w2) := HB1.out.trans (hb2.mono hz1)
  have HR2 : Hid (RowAt w2 g 0 (recBytes x k (bytesOf s))) := HR1.out.below hb2 hgl
  clear hb2
  go_wp2
  go_ret2
  exact ⟨g, rfl, by omega, HR2.out, HB2.out⟩
end Go.Proofs.YtfkoflldjnlhaaaDoor
