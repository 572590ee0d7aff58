import Derived.Test.YtfkoflldjnlhaaaDoorView
import Derived.Laws.BitsAll
/- CONTRACTS of the document's own answer: the sum, numbers as bytes. -/
namespace Go.Proofs.YtfkoflldjnlhaaaDoor
open Go.RowKit
open Sc

theorem and1 (X : Nat) (h : X < 4294967296) : bits .and .u32 (X : Int) 1 = ((X % 2 : Nat) : Int) := by
  have := u32_and_nat X 1 h (by omega)
  rw [Nat.and_one_is_mod] at this
  exact this
theorem xorP (X : Nat) (h : X < 4294967296) : bits .xor .u32 (X : Int) 3988292384 = ((X ^^^ 3988292384 : Nat) : Int) := u32_xor_nat X 3988292384 h (by omega)
theorem notU (X : Nat) (h : X < 4294967296) : bits .xor .u32 4294967295 (X : Int) = ((4294967295 ^^^ X : Nat) : Int) := u32_xor_nat 4294967295 X (by omega) h
theorem half_odd (X : Nat) (h : X % 2 = 1) : half X = X / 2 ^^^ 3988292384 := by unfold half; rw [if_pos h]
theorem half_even (X : Nat) (h : ¬ X % 2 = 1) : half X = X / 2 := by unfold half; rw [if_neg h]
theorem ret_int {k : IntKind} {a b : Int} (h : a = b) : Ending.returned (.int k a) = .returned (.int k b) := by rw [h]
theorem int_eq {k : IntKind} {a b : Int} (h : a = b) : Value.int k a = .int k b := by rw [h]

set_option maxHeartbeats 400000 in
theorem sum_some (b off n cap : Nat) (l : List Nat) (w : World) (hn : l.length = n) (hl : Byt l) (hm : n ≤ 1099511627776)
    (hc : ∀ i, i < n → w.cell? ⟨b, off + i, none⟩ = some (.int .u8 (at_ l i : Nat))) :
    Calls Tryd.prog 18 #[.slice (some ⟨b, off, none⟩) n cap] w fun e w' => e = .returned (.int .u32 (crc l : Nat)) ∧ w' = w := by
  have HN : Hid (l.length = n) := hn
  clear hn
  go_enter Tryd.func18, Tryd.ntmps18
  go_wp2
  go_loop [3, 4] (fun c i => ∃ k : Nat, k ≤ n ∧ i = .int .i64 k ∧ c = .int .u32 (crcS 4294967295 (l.take k) : Nat)) (fun _ i => n - (intOf i).toNat)
  case atStart => exact ⟨0, Nat.zero_le _, rfl, rfl⟩
  case round =>
    obtain ⟨k, hk, rfl, rfl⟩ := hrel
    have hB : crcS 4294967295 (l.take k) < 4294967296 := crcS_lt _ _ (by decide) (fun x hx => hl x (List.mem_of_mem_take hx))
    by_cases hlt : k < n
    · have hcx := hc k hlt
      clear hc
      have ha := at_lt hl k
      obtain ⟨C, hC⟩ : ∃ C, C = crcS 4294967295 (l.take k) := ⟨_, rfl⟩
      rw [← hC] at hB ⊢
      have HC : Hid (crcS 4294967295 (l.take (k + 1)) = halves 8 (C ^^^ at_ l k)) := by
        show _ = _
        rw [take_at l k (by rw [HN.out]; exact hlt), crcS_snoc, hC]
      clear hC
      have hx : bits .xor .u32 (C : Int) (at_ l k : Int) = ((C ^^^ at_ l k : Nat) : Int) := u32_xor_nat _ _ hB (by omega)
      have hxl : C ^^^ at_ l k < 4294967296 := xor_lt32 _ _ hB (by omega)
      obtain ⟨D, hD⟩ : ∃ D, D = C ^^^ at_ l k := ⟨_, rfl⟩
      rw [← hD] at hx hxl HC
      clear hD
      go_wp2
      go_loop [3, 5] (fun c j => ∃ q : Nat, q ≤ 8 ∧ j = .int .i64 q ∧ c = .int .u32 (halves q D : Nat)) (fun _ j => 8 - (intOf j).toNat)
      case atStart => exact ⟨0, Nat.zero_le _, rfl, rfl⟩
      case round =>
        obtain ⟨q, hq, rfl, rfl⟩ := hrel
        have hX := halves_lt q D hxl
        have HX : Hid (halves (q + 1) D = half (halves q D)) := rfl
        by_cases hq8 : q < 8
        · generalize halves q D = X at hX HX
          have a1 := and1 X hX
          have hx2 : X / 2 < 4294967296 := by omega
          have a2 : bits .xor .u32 ((X : Int) / 2) 3988292384 = ((X / 2 ^^^ 3988292384 : Nat) : Int) := by rw [show ((X : Int) / 2) = ((X / 2 : Nat) : Int) by omega]; exact xorP (X / 2) hx2
          by_cases ho : X % 2 = 1
          · have HO : Hid (half X = X / 2 ^^^ 3988292384) := half_odd X ho
            go_wp2
            go_round
            case rel => exact ⟨q + 1, by omega, by go_num, by rw [HX.out, HO.out]⟩
            case measure => simp [intOf]; omega
          · have HO : Hid (half X = X / 2) := half_even X ho
            go_wp2
            go_round
            case rel => exact ⟨q + 1, by omega, by go_num, by rw [HX.out, HO.out]; exact int_eq (by omega)⟩
            case measure => simp [intOf]; omega
        · have e8 : q = 8 := by omega
          subst e8
          go_wp2
          go_round
          case rel => exact ⟨k + 1, by omega, by go_num, by rw [HC.out]⟩
          case measure => simp [intOf]; omega
    · have ek : k = n := by omega
      subst ek
      have a3 : bits .xor .u32 IntKind.u32.max (crcS 4294967295 (l.take k) : Int) = ((4294967295 ^^^ crcS 4294967295 (l.take k) : Nat) : Int) := notU _ hB
      have hsg : IntKind.u32.signed = false := rfl
      go_wp2
      go_ret
      refine ⟨ret_int ?_, rfl⟩
      rw [List.take_of_length_le (by rw [HN.out]; omega)]
      rfl

theorem val_step (C A : Nat) (hC : C < 72057594037927936) (ha : A < 256) : IntKind.u64.wrap (IntKind.u64.wrap ((C : Int) * 256) + (A : Int)) = ((C * 256 + A : Nat) : Int) := by
  rw [IntKind.wrap_u64, IntKind.wrap_u64]; omega

set_option maxHeartbeats 400000 in
theorem value_some (b off n cap : Nat) (l : List Nat) (w : World) (hn : l.length = n) (hl : Byt l) (hm : n ≤ 8)
    (hc : ∀ i, i < n → w.cell? ⟨b, off + i, none⟩ = some (.int .u8 (at_ l i : Nat))) :
    Calls Tryd.prog 25 #[.slice (some ⟨b, off, none⟩) n cap] w fun e w' => e = .returned (.int .u64 (val l : Nat)) ∧ w' = w := by
  have HN : Hid (l.length = n) := hn
  clear hn
  go_enter Tryd.func25, Tryd.ntmps25
  go_wp2
  go_loop [3, 4] (fun c i => ∃ k : Nat, k ≤ n ∧ i = .int .i64 k ∧ c = .int .u64 (val (l.take k) : Nat)) (fun _ i => n - (intOf i).toNat)
  case atStart => exact ⟨0, Nat.zero_le _, rfl, rfl⟩
  case round =>
    obtain ⟨k, hk, rfl, rfl⟩ := hrel
    by_cases hlt : k < n
    · have hcx := hc k hlt
      clear hc
      have ha := at_lt hl k
      have hB : val (l.take k) < 72057594037927936 := by
        have h1 := val_lt (l.take k) (fun x hx => hl x (List.mem_of_mem_take hx))
        have h2 : (l.take k).length ≤ 7 := by rw [List.length_take, HN.out]; omega
        have h3 : 256 ^ (l.take k).length ≤ 256 ^ 7 := Nat.pow_le_pow_right (by omega) h2
        omega
      obtain ⟨C, hC⟩ : ∃ C, C = val (l.take k) := ⟨_, rfl⟩
      rw [← hC] at hB ⊢
      have HC : Hid (val (l.take (k + 1)) = C * 256 + at_ l k) := by
        show _ = _
        rw [take_at l k (by rw [HN.out]; exact hlt), val_snoc, hC]
      clear hC
      go_wp2
      go_round
      case rel => exact ⟨k + 1, by omega, by go_num, by rw [HC.out]; exact int_eq (by omega)⟩
      case measure => simp [intOf]; omega
    · have ek : k = n := by omega
      subst ek
      go_wp2
      go_ret
      refine ⟨ret_int ?_, rfl⟩
      rw [List.take_of_length_le (by rw [HN.out]; omega)]

theorem digit_int (n k j : Nat) : ((n : Int) / 2 ^ (8 * (k - 1 - j)) % 256) = ((digit k n j : Nat) : Int) := by
  unfold digit
  rw [show (256 : Nat) ^ (k - 1 - j) = 2 ^ (8 * (k - 1 - j)) by rw [Nat.pow_mul]]
  simp
set_option maxRecDepth 100000 in
set_option maxHeartbeats 400000 in
theorem number_any (base : Nat) (v : Value) (xs : List Nat) (n k m : Nat) (w : World) (hx : xs.length = m) (hown : w.ownsRow base 5 1 v m (bs xs)) (hk : k ≤ 8) (hn : n < 18446744073709551616) (hm : m ≤ 1099511627776) (hbase : base ≤ w.heap.size) :
    Calls Tryd.prog 17 #[v, .int .u64 n, .int .i64 k] w fun e w' => ∃ v', e = .returned v' ∧ w'.ownsRow base 5 1 v' (m + k) (bs (xs ++ be k n)) ∧ Below base w w' := by
  obtain ⟨i0, hi, hz0, hz1, hz2⟩ := info_parts Tryd.info5
  have HNN : Hid (n < 18446744073709551616) := hn
  clear hn
  go_enter Tryd.func17, Tryd.ntmps17
  go_wp2
  go_loopw [0, 7] (fun v i wr => ∃ j : Nat, j ≤ k ∧ i = .int .i64 ((k : Int) - 1 - j) ∧ wr.ownsRow base 5 1 v (m + j) (bs (xs ++ (List.range j).map (digit k n))) ∧ Below base w wr) (fun _ i _ => (intOf i + 1).toNat)
  case atStart => exact ⟨0, Nat.zero_le _, by go_num, by simpa using hown, Below.refl _ _⟩
  case round =>
    obtain ⟨j, hj, rfl, hownr, hbel⟩ := hrel
    by_cases hlt : j < k
    · have HD : Hid (((n : Int) / 2 ^ (8 * (k - 1 - j)) % 256) = ((digit k n j : Nat) : Int)) := digit_int n k j
      go_wp2_with (at_builtin; refine wpList_append_own _ rfl _ _ 23 rfl base 5 i0 (.int .u8 0) 1 1 Tryd.underlying23 hi hz0 hz1 hz2 rfl (by decide) _ _ _ rfl (hownr.alloc _) ⟨wr.heap.size, 0, none⟩ 1 1 [.int .u8 ((n : Int) / 2 ^ (8 * (k - 1 - j)) % 256)] rfl rfl ?c1 ?c2 ?c3 ?c4 ?c5 ?_)
      case c1 =>
        intro jj u hjj
        match jj, hjj with
        | 0, hjj => simp at hjj; subst hjj; simp [Addr.add]
      case c2 => intro u hu; simp at hu; subst hu; rfl
      case c3 => unfold maxLen; omega
      case c4 => omega
      case c5 => have := hbel.size; simp; omega
      · intro v' w1 hown' hgrow _
        have hs1 := hbel.size
        have hB1 : Below base w w1 := Below.grown (hbel.alloc (by omega) _) hgrow (by simp; omega) (fun q hq => (hownr.lt q hq).1)
        have hO1 : w1.ownsRow base 5 1 v' (m + (j + 1)) (bs (xs ++ (List.range (j + 1)).map (digit k n))) := by
          rw [HD.out] at hown'
          have e : bs (xs ++ (List.range (j + 1)).map (digit k n)) = bs (xs ++ (List.range j).map (digit k n)) ++ [.int .u8 ((digit k n j : Nat) : Int)] := by
            rw [List.range_succ, List.map_append, ← List.append_assoc, bs_app]; rfl
          rw [e, ← Nat.add_assoc]
          exact hown'
        clear hown' hgrow hownr hbel
        go_wp2
        go_roundw
        case rel => exact ⟨j + 1, by omega, int_eq (by omega), hO1, hB1⟩
        case measure => simp [intOf]; omega
    · have ek : j = k := by omega
      subst ek
      go_wp2
      go_ret
      exact ⟨_, rfl, hownr, hbel⟩
theorem number8 (base : Nat) (v : Value) (xs : List Nat) (n m : Nat) (w : World) (hx : xs.length = m) (hown : w.ownsRow base 5 1 v m (bs xs)) (hn : n < 18446744073709551616) (hm : m ≤ 1099511627776) (hbase : base ≤ w.heap.size) :
    Calls Tryd.prog 17 #[v, .int .u64 n, .int .i64 8] w fun e w' => ∃ v', e = .returned v' ∧ w'.ownsRow base 5 1 v' (m + 8) (bs (xs ++ be 8 n)) ∧ Below base w w' := by
  have h := number_any base v xs n 8 m w hx hown (Nat.le_refl _) hn hm hbase
  rw [show (((8 : Nat) : Int)) = 8 from rfl] at h
  exact h
theorem number4 (base : Nat) (v : Value) (xs : List Nat) (n m : Nat) (w : World) (hx : xs.length = m) (hown : w.ownsRow base 5 1 v m (bs xs)) (hn : n < 18446744073709551616) (hm : m ≤ 1099511627776) (hbase : base ≤ w.heap.size) :
    Calls Tryd.prog 17 #[v, .int .u64 n, .int .i64 4] w fun e w' => ∃ v', e = .returned v' ∧ w'.ownsRow base 5 1 v' (m + 4) (bs (xs ++ be 4 n)) ∧ Below base w w' := by
  have h := number_any base v xs n 4 m w hx hown (by omega) hn hm hbase
  rw [show (((4 : Nat) : Int)) = 4 from rfl] at h
  exact h
theorem number2 (base : Nat) (v : Value) (xs : List Nat) (n m : Nat) (w : World) (hx : xs.length = m) (hown : w.ownsRow base 5 1 v m (bs xs)) (hn : n < 18446744073709551616) (hm : m ≤ 1099511627776) (hbase : base ≤ w.heap.size) :
    Calls Tryd.prog 17 #[v, .int .u64 n, .int .i64 2] w fun e w' => ∃ v', e = .returned v' ∧ w'.ownsRow base 5 1 v' (m + 2) (bs (xs ++ be 2 n)) ∧ Below base w w' := by
  have h := number_any base v xs n 2 m w hx hown (by omega) hn hm hbase
  rw [show (((2 : Nat) : Int)) = 2 from rfl] at h
  exact h
end Go.Proofs.YtfkoflldjnlhaaaDoor
