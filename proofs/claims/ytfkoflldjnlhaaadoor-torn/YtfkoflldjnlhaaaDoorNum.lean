import Derived.Test.YtfkoflldjnlhaaaDoorRef
import Derived.BigQuiet
/- NUMBERS AS BYTES in package wire: width, AppendNumber, takeNumber (made by mknum.py: one text an instance). -/
namespace Go.Proofs.YtfkoflldjnlhaaaDoor
open Go.RowKit
open Sc

/-- where what lies behind the first k bytes begins -/
def cutA (b off k cap : Nat) : Option Addr := if cap = k then some ⟨b, off, none⟩ else some ⟨b, off + k, none⟩
theorem cutA_far {b off k cap : Nat} (h : k < cap) : cutA b off k cap = some ⟨b, off + k, none⟩ := by unfold cutA; rw [if_neg (by omega)]
theorem cutA_end (b off k : Nat) : cutA b off k k = some ⟨b, off, none⟩ := by unfold cutA; rw [if_pos rfl]
theorem bs_snoc (xs : List Nat) (k n j : Nat) : bs (xs ++ (List.range (j + 1)).map (digit k n)) = bs (xs ++ (List.range j).map (digit k n)) ++ [.int .u8 ((digit k n j : Nat) : Int)] := by
  rw [List.range_succ, List.map_append, ← List.append_assoc, bs_app]; rfl

set_option maxRecDepth 100000 in
set_option maxHeartbeats 400000 in
theorem width_u16 (w : World) : Calls Tryd.prog 48 #[] w fun e w' => e = .returned (.int .i64 2) ∧ w' = w := by
  have hsg : IntKind.u16.signed = false := rfl
  have hb : bits .xor .u16 IntKind.u16.max 0 = 65535 := by decide +kernel
  go_enter Tryd.func48, Tryd.ntmps48
  go_wp2
  go_ret
  refine ⟨?_, rfl⟩
  kernel_rfl

set_option maxRecDepth 100000 in
set_option maxHeartbeats 400000 in
theorem app_u16 (base g k cap : Nat) (xs : List Nat) (n : Nat) (w : World) (hown : w.ownsRow base 5 1 (.slice (some ⟨g, 0, none⟩) k cap) k (bs xs)) (hr : k + 2 ≤ cap) (hn : n < 65536) :
    Calls Tryd.prog 33 #[.slice (some ⟨g, 0, none⟩) k cap, .int .u16 n] w fun e w' => e = .returned (.slice (some ⟨g, 0, none⟩) (k + 2) cap) ∧ w'.ownsRow base 5 1 (.slice (some ⟨g, 0, none⟩) (k + 2) cap) (k + 2) (bs (xs ++ be 2 n)) ∧ w.grownBy w' (some g) := by
  obtain ⟨i0, hi, hz0, hz1, hz2⟩ := info_parts Tryd.info5
  have HNN : Hid (n < 65536) := hn
  skip
  go_enter Tryd.func33, Tryd.ntmps33
  go_wp2_with (go_at_call 48; refine (width_u16 _).mono ?_; rintro e w' ⟨rfl, hw⟩; have hw2 := hw.symm; subst hw2; clear hw)
  go_loopw [0, 5] (fun v i wr => ∃ j : Nat, j ≤ 2 ∧ i = .int .i64 ((2 : Int) - 1 - j) ∧ v = .slice (some ⟨g, 0, none⟩) (k + j) cap ∧ wr.ownsRow base 5 1 (.slice (some ⟨g, 0, none⟩) (k + j) cap) (k + j) (bs (xs ++ (List.range j).map (digit 2 n))) ∧ w.grownBy wr (some g)) (fun _ i _ => (intOf i + 1).toNat)
  case atStart => exact ⟨0, Nat.zero_le _, by go_num, rfl, by simpa using hown, grown_refl _ _⟩
  case round =>
    obtain ⟨j, hj, rfl, rfl, hownr, hgr⟩ := hrel
    by_cases hlt : j < 2
    · have HD : Hid (((n : Int) / 2 ^ (8 * (1 - j)) % 256) = ((digit 2 n j : Nat) : Int)) := digit_int n 2 j
      skip
      skip
      go_wp2_with (at_builtin; refine wpList_append_fits _ rfl _ _ 23 rfl base 5 i0 1 Tryd.underlying23 hi hz1 g (k + j) cap _ rfl (hownr.alloc _) ⟨wr.heap.size, 0, none⟩ 1 1 [.int .u8 ((n : Int) / 2 ^ (8 * (1 - j)) % 256)] rfl rfl ?c1 ?c2 ?c3 ?_)
      case c1 =>
        intro jj u hjj
        match jj, hjj with
        | 0, hjj => simp at hjj; subst hjj; simp [Addr.add]
      case c2 => intro u hu; simp at hu; subst hu; rfl
      case c3 => omega
      · intro w1 hown' hgrow
        have hG1 : w.grownBy w1 (some g) := grown_trans hgr (grown_trans (grown_alloc _ _ _) hgrow)
        have hO1 : w1.ownsRow base 5 1 (.slice (some ⟨g, 0, none⟩) (k + (j + 1)) cap) (k + (j + 1)) (bs (xs ++ (List.range (j + 1)).map (digit 2 n))) := by
          rw [HD.out] at hown'
          rw [bs_snoc, ← Nat.add_assoc]
          exact hown'
        clear hown' hgrow hownr hgr
        go_wp2
        go_roundw
        case rel => exact ⟨j + 1, by omega, int_eq (by omega), rfl, hO1, hG1⟩
        case measure => simp [intOf] <;> omega
    · have ek : j = 2 := by omega
      subst ek
      go_wp2
      go_ret
      exact ⟨rfl, hownr, hgr⟩

theorem shl_u16 (C A : Nat) (hC : C < 72057594037927936) (ha : A < 256) : bits .or .u64 ((C : Int) * 256) (A : Int) = ((C * 256 + A : Nat) : Int) := by
  have h := u64_or_nat (C * 256) A (by omega) (by omega)
  rw [show ((C : Int) * 256) = ((C * 256 : Nat) : Int) by omega, h]
  congr 1
  rw [show C * 256 = C <<< 8 from (Nat.shiftLeft_eq C 8).symm, ← Nat.shiftLeft_add_eq_or_of_lt (show A < 2 ^ 8 from ha)]

set_option maxRecDepth 100000 in
set_option maxHeartbeats 400000 in
theorem take_u16 (b off n cap : Nat) (l : List Nat) (w : World) (hl : Byt l) (hn : l.length = n) (hw : 2 ≤ n) (hcap : n ≤ cap) (hcap2 : cap ≤ maxLen) (hc : RowAt w b off l) :
    Calls Tryd.prog 61 #[.slice (some ⟨b, off, none⟩) n cap] w fun e w' => e = .returned (.tuple #[.int .u16 (val (l.take 2) : Nat), .slice (cutA b off 2 cap) (n - 2) (cap - 2)]) ∧ ∃ q, w' = w.drewN q := by
  have HN : Hid (l.length = n) := hn
  clear hn
  unfold maxLen at hcap2
  have i1 : (2 : Int) ≤ (cap : Int) := by omega
  have i2 : (2 : Int) ≤ (n : Int) := by omega
  go_enter Tryd.func61, Tryd.ntmps61
  go_wp2_with (go_at_call 48; refine (width_u16 _).mono ?_; rintro e w' ⟨rfl, hw⟩; have hw2 := hw.symm; subst hw2; clear hw)
  go_loop [5, 13] (fun c i => ∃ k : Nat, k ≤ 2 ∧ i = .int .i64 k ∧ c = .int .u64 (val (l.take k) : Nat)) (fun _ i => 2 - (intOf i).toNat)
  case atStart => exact ⟨0, Nat.zero_le _, rfl, rfl⟩
  case round =>
    obtain ⟨k, hk, rfl, rfl⟩ := hrel
    by_cases hlt : k < 2
    · have hcx := hc k (by rw [HN.out]; omega)
      have HRow : Hid (RowAt w b off l) := hc
      clear hc
      have ha := at_lt hl k
      have hB : val (l.take k) < 72057594037927936 := by
        have h1 := val_lt (l.take k) (hl.take_ k)
        have h2 : (l.take k).length ≤ 7 := by rw [List.length_take, HN.out]; omega
        have h3 : 256 ^ (l.take k).length ≤ 256 ^ 7 := Nat.pow_le_pow_right (by omega) h2
        omega
      obtain ⟨C, hC⟩ : ∃ C, C = val (l.take k) := ⟨_, rfl⟩
      rw [← hC] at hB ⊢
      have HC : Hid (val (l.take (k + 1)) = C * 256 + at_ l k) := by
        show _ = _
        rw [take_at l k (by rw [HN.out]; omega), val_snoc, hC]
      clear hC
      have ho := shl_u16 C (at_ l k) hB ha
      go_wp2
      go_round
      case rel => exact ⟨k + 1, by omega, by go_num, by rw [HC.out]; exact int_eq (by omega)⟩
      case measure => simp [intOf]; omega
    · have ek : k = 2 := by omega
      subst ek
      have hB : val (l.take 2) < 65536 := by
        have h1 := val_lt (l.take 2) (hl.take_ 2)
        have h2 : (l.take 2).length = 2 := by rw [List.length_take, HN.out]; omega
        rw [h2] at h1
        exact h1
      by_cases hcw : cap = 2
      · subst hcw
        obtain rfl : n = 2 := by omega
        skip
        go_wp2
        go_quiet (fail)
        go_wp2
        go_ret2
        refine ⟨?_, _, rfl⟩
        rw [cutA_end]
        rfl
      · skip
        go_wp2
        go_quiet (fail)
        go_wp2
        go_ret2
        refine ⟨?_, _, rfl⟩
        rw [cutA_far (by omega)]
        rfl

set_option maxRecDepth 100000 in
set_option maxHeartbeats 400000 in
theorem width_u64 (w : World) : Calls Tryd.prog 49 #[] w fun e w' => e = .returned (.int .i64 8) ∧ w' = w := by
  have hsg : IntKind.u64.signed = false := rfl
  have hb : bits .xor .u64 IntKind.u64.max 0 = 18446744073709551615 := by decide +kernel
  go_enter Tryd.func49, Tryd.ntmps49
  go_wp2
  go_ret
  refine ⟨?_, rfl⟩
  kernel_rfl

set_option maxRecDepth 100000 in
set_option maxHeartbeats 400000 in
theorem app_u64 (base g k cap : Nat) (xs : List Nat) (n : Nat) (w : World) (hown : w.ownsRow base 5 1 (.slice (some ⟨g, 0, none⟩) k cap) k (bs xs)) (hr : k + 8 ≤ cap) (hn : n < 18446744073709551616) :
    Calls Tryd.prog 34 #[.slice (some ⟨g, 0, none⟩) k cap, .int .u64 n] w fun e w' => e = .returned (.slice (some ⟨g, 0, none⟩) (k + 8) cap) ∧ w'.ownsRow base 5 1 (.slice (some ⟨g, 0, none⟩) (k + 8) cap) (k + 8) (bs (xs ++ be 8 n)) ∧ w.grownBy w' (some g) := by
  obtain ⟨i0, hi, hz0, hz1, hz2⟩ := info_parts Tryd.info5
  have HNN : Hid (n < 18446744073709551616) := hn
  clear hn
  go_enter Tryd.func34, Tryd.ntmps34
  go_wp2_with (go_at_call 49; refine (width_u64 _).mono ?_; rintro e w' ⟨rfl, hw⟩; have hw2 := hw.symm; subst hw2; clear hw)
  go_loopw [0, 5] (fun v i wr => ∃ j : Nat, j ≤ 8 ∧ i = .int .i64 ((8 : Int) - 1 - j) ∧ v = .slice (some ⟨g, 0, none⟩) (k + j) cap ∧ wr.ownsRow base 5 1 (.slice (some ⟨g, 0, none⟩) (k + j) cap) (k + j) (bs (xs ++ (List.range j).map (digit 8 n))) ∧ w.grownBy wr (some g)) (fun _ i _ => (intOf i + 1).toNat)
  case atStart => exact ⟨0, Nat.zero_le _, by go_num, rfl, by simpa using hown, grown_refl _ _⟩
  case round =>
    obtain ⟨j, hj, rfl, rfl, hownr, hgr⟩ := hrel
    by_cases hlt : j < 8
    · have HD : Hid (((n : Int) / 2 ^ (8 * (7 - j)) % 256) = ((digit 8 n j : Nat) : Int)) := digit_int n 8 j
      skip
      skip
      go_wp2_with (at_builtin; refine wpList_append_fits _ rfl _ _ 23 rfl base 5 i0 1 Tryd.underlying23 hi hz1 g (k + j) cap _ rfl (hownr.alloc _) ⟨wr.heap.size, 0, none⟩ 1 1 [.int .u8 ((n : Int) / 2 ^ (8 * (7 - j)) % 256)] rfl rfl ?c1 ?c2 ?c3 ?_)
      case c1 =>
        intro jj u hjj
        match jj, hjj with
        | 0, hjj => simp at hjj; subst hjj; simp [Addr.add]
      case c2 => intro u hu; simp at hu; subst hu; rfl
      case c3 => omega
      · intro w1 hown' hgrow
        have hG1 : w.grownBy w1 (some g) := grown_trans hgr (grown_trans (grown_alloc _ _ _) hgrow)
        have hO1 : w1.ownsRow base 5 1 (.slice (some ⟨g, 0, none⟩) (k + (j + 1)) cap) (k + (j + 1)) (bs (xs ++ (List.range (j + 1)).map (digit 8 n))) := by
          rw [HD.out] at hown'
          rw [bs_snoc, ← Nat.add_assoc]
          exact hown'
        clear hown' hgrow hownr hgr
        go_wp2
        go_roundw
        case rel => exact ⟨j + 1, by omega, int_eq (by omega), rfl, hO1, hG1⟩
        case measure => simp [intOf] <;> omega
    · have ek : j = 8 := by omega
      subst ek
      go_wp2
      go_ret
      exact ⟨rfl, hownr, hgr⟩

theorem shl_u64 (C A : Nat) (hC : C < 72057594037927936) (ha : A < 256) : bits .or .u64 ((C : Int) * 256) (A : Int) = ((C * 256 + A : Nat) : Int) := by
  have h := u64_or_nat (C * 256) A (by omega) (by omega)
  rw [show ((C : Int) * 256) = ((C * 256 : Nat) : Int) by omega, h]
  congr 1
  rw [show C * 256 = C <<< 8 from (Nat.shiftLeft_eq C 8).symm, ← Nat.shiftLeft_add_eq_or_of_lt (show A < 2 ^ 8 from ha)]

set_option maxRecDepth 100000 in
set_option maxHeartbeats 400000 in
theorem take_u64 (b off n cap : Nat) (l : List Nat) (w : World) (hl : Byt l) (hn : l.length = n) (hw : 8 ≤ n) (hcap : n ≤ cap) (hcap2 : cap ≤ maxLen) (hc : RowAt w b off l) :
    Calls Tryd.prog 60 #[.slice (some ⟨b, off, none⟩) n cap] w fun e w' => e = .returned (.tuple #[.int .u64 (val (l.take 8) : Nat), .slice (cutA b off 8 cap) (n - 8) (cap - 8)]) ∧ ∃ q, w' = w.drewN q := by
  have HN : Hid (l.length = n) := hn
  clear hn
  unfold maxLen at hcap2
  have i1 : (8 : Int) ≤ (cap : Int) := by omega
  have i2 : (8 : Int) ≤ (n : Int) := by omega
  go_enter Tryd.func60, Tryd.ntmps60
  go_wp2_with (go_at_call 49; refine (width_u64 _).mono ?_; rintro e w' ⟨rfl, hw⟩; have hw2 := hw.symm; subst hw2; clear hw)
  go_loop [5, 13] (fun c i => ∃ k : Nat, k ≤ 8 ∧ i = .int .i64 k ∧ c = .int .u64 (val (l.take k) : Nat)) (fun _ i => 8 - (intOf i).toNat)
  case atStart => exact ⟨0, Nat.zero_le _, rfl, rfl⟩
  case round =>
    obtain ⟨k, hk, rfl, rfl⟩ := hrel
    by_cases hlt : k < 8
    · have hcx := hc k (by rw [HN.out]; omega)
      have HRow : Hid (RowAt w b off l) := hc
      clear hc
      have ha := at_lt hl k
      have hB : val (l.take k) < 72057594037927936 := by
        have h1 := val_lt (l.take k) (hl.take_ k)
        have h2 : (l.take k).length ≤ 7 := by rw [List.length_take, HN.out]; omega
        have h3 : 256 ^ (l.take k).length ≤ 256 ^ 7 := Nat.pow_le_pow_right (by omega) h2
        omega
      obtain ⟨C, hC⟩ : ∃ C, C = val (l.take k) := ⟨_, rfl⟩
      rw [← hC] at hB ⊢
      have HC : Hid (val (l.take (k + 1)) = C * 256 + at_ l k) := by
        show _ = _
        rw [take_at l k (by rw [HN.out]; omega), val_snoc, hC]
      clear hC
      have ho := shl_u64 C (at_ l k) hB ha
      go_wp2
      go_round
      case rel => exact ⟨k + 1, by omega, by go_num, by rw [HC.out]; exact int_eq (by omega)⟩
      case measure => simp [intOf]; omega
    · have ek : k = 8 := by omega
      subst ek
      have hB : val (l.take 8) < 18446744073709551616 := by
        have h1 := val_lt (l.take 8) (hl.take_ 8)
        have h2 : (l.take 8).length = 8 := by rw [List.length_take, HN.out]; omega
        rw [h2] at h1
        exact h1
      by_cases hcw : cap = 8
      · subst hcw
        obtain rfl : n = 8 := by omega
        clear hB
        go_wp2
        go_quiet (fail)
        go_wp2
        go_ret2
        refine ⟨?_, _, rfl⟩
        rw [cutA_end]
        rfl
      · clear hB
        go_wp2
        go_quiet (fail)
        go_wp2
        go_ret2
        refine ⟨?_, _, rfl⟩
        rw [cutA_far (by omega)]
        rfl

set_option maxRecDepth 100000 in
set_option maxHeartbeats 400000 in
theorem width_u8 (w : World) : Calls Tryd.prog 50 #[] w fun e w' => e = .returned (.int .i64 1) ∧ w' = w := by
  have hsg : IntKind.u8.signed = false := rfl
  have hb : bits .xor .u8 IntKind.u8.max 0 = 255 := by decide +kernel
  go_enter Tryd.func50, Tryd.ntmps50
  go_wp2
  go_ret
  refine ⟨?_, rfl⟩
  kernel_rfl

set_option maxRecDepth 100000 in
set_option maxHeartbeats 400000 in
theorem app_u8 (base g k cap : Nat) (xs : List Nat) (n : Nat) (w : World) (hown : w.ownsRow base 5 1 (.slice (some ⟨g, 0, none⟩) k cap) k (bs xs)) (hr : k + 1 ≤ cap) (hn : n < 256) :
    Calls Tryd.prog 35 #[.slice (some ⟨g, 0, none⟩) k cap, .int .u8 n] w fun e w' => e = .returned (.slice (some ⟨g, 0, none⟩) (k + 1) cap) ∧ w'.ownsRow base 5 1 (.slice (some ⟨g, 0, none⟩) (k + 1) cap) (k + 1) (bs (xs ++ be 1 n)) ∧ w.grownBy w' (some g) := by
  obtain ⟨i0, hi, hz0, hz1, hz2⟩ := info_parts Tryd.info5
  have HNN : Hid (n < 256) := hn
  skip
  go_enter Tryd.func35, Tryd.ntmps35
  go_wp2_with (go_at_call 50; refine (width_u8 _).mono ?_; rintro e w' ⟨rfl, hw⟩; have hw2 := hw.symm; subst hw2; clear hw)
  go_loopw [0, 5] (fun v i wr => ∃ j : Nat, j ≤ 1 ∧ i = .int .i64 ((1 : Int) - 1 - j) ∧ v = .slice (some ⟨g, 0, none⟩) (k + j) cap ∧ wr.ownsRow base 5 1 (.slice (some ⟨g, 0, none⟩) (k + j) cap) (k + j) (bs (xs ++ (List.range j).map (digit 1 n))) ∧ w.grownBy wr (some g)) (fun _ i _ => (intOf i + 1).toNat)
  case atStart => exact ⟨0, Nat.zero_le _, by go_num, rfl, by simpa using hown, grown_refl _ _⟩
  case round =>
    obtain ⟨j, hj, rfl, rfl, hownr, hgr⟩ := hrel
    by_cases hlt : j < 1
    · have HD : Hid ((n : Int) = ((digit 1 n 0 : Nat) : Int)) := by show _ = _; unfold digit; simp; omega
      obtain rfl : j = 0 := by omega
      rw [Nat.add_zero] at hownr
      go_wp2_with (at_builtin; refine wpList_append_fits _ rfl _ _ 23 rfl base 5 i0 1 Tryd.underlying23 hi hz1 g k cap _ rfl (hownr.alloc _) ⟨wr.heap.size, 0, none⟩ 1 1 [.int .u8 (n : Int)] rfl rfl ?c1 ?c2 ?c3 ?_)
      case c1 =>
        intro jj u hjj
        match jj, hjj with
        | 0, hjj => simp at hjj; subst hjj; simp [Addr.add]
      case c2 => intro u hu; simp at hu; subst hu; rfl
      case c3 => omega
      · intro w1 hown' hgrow
        have hG1 : w.grownBy w1 (some g) := grown_trans hgr (grown_trans (grown_alloc _ _ _) hgrow)
        have hO1 : w1.ownsRow base 5 1 (.slice (some ⟨g, 0, none⟩) (k + (0 + 1)) cap) (k + (0 + 1)) (bs (xs ++ (List.range (0 + 1)).map (digit 1 n))) := by
          have e := HD.out
          rw [bs_snoc, ← e]
          simpa using hown'
        clear hown' hgrow hownr hgr
        go_wp2
        go_roundw
        case rel => exact ⟨0 + 1, by omega, int_eq (by omega), rfl, hO1, hG1⟩
        case measure => simp [intOf] <;> omega
    · have ek : j = 1 := by omega
      subst ek
      go_wp2
      go_ret
      exact ⟨rfl, hownr, hgr⟩

theorem shl_u8 (C A : Nat) (hC : C < 72057594037927936) (ha : A < 256) : bits .or .u64 ((C : Int) * 256) (A : Int) = ((C * 256 + A : Nat) : Int) := by
  have h := u64_or_nat (C * 256) A (by omega) (by omega)
  rw [show ((C : Int) * 256) = ((C * 256 : Nat) : Int) by omega, h]
  congr 1
  rw [show C * 256 = C <<< 8 from (Nat.shiftLeft_eq C 8).symm, ← Nat.shiftLeft_add_eq_or_of_lt (show A < 2 ^ 8 from ha)]

set_option maxRecDepth 100000 in
set_option maxHeartbeats 400000 in
theorem take_u8 (b off n cap : Nat) (l : List Nat) (w : World) (hl : Byt l) (hn : l.length = n) (hw : 1 ≤ n) (hcap : n ≤ cap) (hcap2 : cap ≤ maxLen) (hc : RowAt w b off l) :
    Calls Tryd.prog 59 #[.slice (some ⟨b, off, none⟩) n cap] w fun e w' => e = .returned (.tuple #[.int .u8 (val (l.take 1) : Nat), .slice (cutA b off 1 cap) (n - 1) (cap - 1)]) ∧ ∃ q, w' = w.drewN q := by
  have HN : Hid (l.length = n) := hn
  clear hn
  unfold maxLen at hcap2
  have i1 : (1 : Int) ≤ (cap : Int) := by omega
  have i2 : (1 : Int) ≤ (n : Int) := by omega
  go_enter Tryd.func59, Tryd.ntmps59
  go_wp2_with (go_at_call 50; refine (width_u8 _).mono ?_; rintro e w' ⟨rfl, hw⟩; have hw2 := hw.symm; subst hw2; clear hw)
  go_loop [5, 13] (fun c i => ∃ k : Nat, k ≤ 1 ∧ i = .int .i64 k ∧ c = .int .u64 (val (l.take k) : Nat)) (fun _ i => 1 - (intOf i).toNat)
  case atStart => exact ⟨0, Nat.zero_le _, rfl, rfl⟩
  case round =>
    obtain ⟨k, hk, rfl, rfl⟩ := hrel
    by_cases hlt : k < 1
    · have hcx := hc k (by rw [HN.out]; omega)
      have HRow : Hid (RowAt w b off l) := hc
      clear hc
      have ha := at_lt hl k
      have hB : val (l.take k) < 72057594037927936 := by
        have h1 := val_lt (l.take k) (hl.take_ k)
        have h2 : (l.take k).length ≤ 7 := by rw [List.length_take, HN.out]; omega
        have h3 : 256 ^ (l.take k).length ≤ 256 ^ 7 := Nat.pow_le_pow_right (by omega) h2
        omega
      obtain ⟨C, hC⟩ : ∃ C, C = val (l.take k) := ⟨_, rfl⟩
      rw [← hC] at hB ⊢
      have HC : Hid (val (l.take (k + 1)) = C * 256 + at_ l k) := by
        show _ = _
        rw [take_at l k (by rw [HN.out]; omega), val_snoc, hC]
      clear hC
      have ho := shl_u8 C (at_ l k) hB ha
      go_wp2
      go_round
      case rel => exact ⟨k + 1, by omega, by go_num, by rw [HC.out]; exact int_eq (by omega)⟩
      case measure => simp [intOf]; omega
    · have ek : k = 1 := by omega
      subst ek
      have hB : val (l.take 1) < 256 := by
        have h1 := val_lt (l.take 1) (hl.take_ 1)
        have h2 : (l.take 1).length = 1 := by rw [List.length_take, HN.out]; omega
        rw [h2] at h1
        exact h1
      by_cases hcw : cap = 1
      · subst hcw
        obtain rfl : n = 1 := by omega
        skip
        go_wp2
        go_quiet (fail)
        go_wp2
        go_ret2
        refine ⟨?_, _, rfl⟩
        rw [cutA_end]
        rfl
      · skip
        go_wp2
        go_quiet (fail)
        go_wp2
        go_ret2
        refine ⟨?_, _, rfl⟩
        rw [cutA_far (by omega)]
        rfl

set_option maxRecDepth 100000 in
set_option maxHeartbeats 400000 in
theorem width_u32 (w : World) : Calls Tryd.prog 63 #[] w fun e w' => e = .returned (.int .i64 4) ∧ w' = w := by
  have hsg : IntKind.u32.signed = false := rfl
  have hb : bits .xor .u32 IntKind.u32.max 0 = 4294967295 := by decide +kernel
  go_enter Tryd.func63, Tryd.ntmps63
  go_wp2
  go_ret
  refine ⟨?_, rfl⟩
  kernel_rfl

set_option maxRecDepth 100000 in
set_option maxHeartbeats 400000 in
theorem app_u32 (base g k cap : Nat) (xs : List Nat) (n : Nat) (w : World) (hown : w.ownsRow base 5 1 (.slice (some ⟨g, 0, none⟩) k cap) k (bs xs)) (hr : k + 4 ≤ cap) (hn : n < 4294967296) :
    Calls Tryd.prog 51 #[.slice (some ⟨g, 0, none⟩) k cap, .int .u32 n] w fun e w' => e = .returned (.slice (some ⟨g, 0, none⟩) (k + 4) cap) ∧ w'.ownsRow base 5 1 (.slice (some ⟨g, 0, none⟩) (k + 4) cap) (k + 4) (bs (xs ++ be 4 n)) ∧ w.grownBy w' (some g) := by
  obtain ⟨i0, hi, hz0, hz1, hz2⟩ := info_parts Tryd.info5
  have HNN : Hid (n < 4294967296) := hn
  skip
  go_enter Tryd.func51, Tryd.ntmps51
  go_wp2_with (go_at_call 63; refine (width_u32 _).mono ?_; rintro e w' ⟨rfl, hw⟩; have hw2 := hw.symm; subst hw2; clear hw)
  go_loopw [0, 5] (fun v i wr => ∃ j : Nat, j ≤ 4 ∧ i = .int .i64 ((4 : Int) - 1 - j) ∧ v = .slice (some ⟨g, 0, none⟩) (k + j) cap ∧ wr.ownsRow base 5 1 (.slice (some ⟨g, 0, none⟩) (k + j) cap) (k + j) (bs (xs ++ (List.range j).map (digit 4 n))) ∧ w.grownBy wr (some g)) (fun _ i _ => (intOf i + 1).toNat)
  case atStart => exact ⟨0, Nat.zero_le _, by go_num, rfl, by simpa using hown, grown_refl _ _⟩
  case round =>
    obtain ⟨j, hj, rfl, rfl, hownr, hgr⟩ := hrel
    by_cases hlt : j < 4
    · have HD : Hid (((n : Int) / 2 ^ (8 * (3 - j)) % 256) = ((digit 4 n j : Nat) : Int)) := digit_int n 4 j
      skip
      skip
      go_wp2_with (at_builtin; refine wpList_append_fits _ rfl _ _ 23 rfl base 5 i0 1 Tryd.underlying23 hi hz1 g (k + j) cap _ rfl (hownr.alloc _) ⟨wr.heap.size, 0, none⟩ 1 1 [.int .u8 ((n : Int) / 2 ^ (8 * (3 - j)) % 256)] rfl rfl ?c1 ?c2 ?c3 ?_)
      case c1 =>
        intro jj u hjj
        match jj, hjj with
        | 0, hjj => simp at hjj; subst hjj; simp [Addr.add]
      case c2 => intro u hu; simp at hu; subst hu; rfl
      case c3 => omega
      · intro w1 hown' hgrow
        have hG1 : w.grownBy w1 (some g) := grown_trans hgr (grown_trans (grown_alloc _ _ _) hgrow)
        have hO1 : w1.ownsRow base 5 1 (.slice (some ⟨g, 0, none⟩) (k + (j + 1)) cap) (k + (j + 1)) (bs (xs ++ (List.range (j + 1)).map (digit 4 n))) := by
          rw [HD.out] at hown'
          rw [bs_snoc, ← Nat.add_assoc]
          exact hown'
        clear hown' hgrow hownr hgr
        go_wp2
        go_roundw
        case rel => exact ⟨j + 1, by omega, int_eq (by omega), rfl, hO1, hG1⟩
        case measure => simp [intOf] <;> omega
    · have ek : j = 4 := by omega
      subst ek
      go_wp2
      go_ret
      exact ⟨rfl, hownr, hgr⟩

theorem shl_u32 (C A : Nat) (hC : C < 72057594037927936) (ha : A < 256) : bits .or .u64 ((C : Int) * 256) (A : Int) = ((C * 256 + A : Nat) : Int) := by
  have h := u64_or_nat (C * 256) A (by omega) (by omega)
  rw [show ((C : Int) * 256) = ((C * 256 : Nat) : Int) by omega, h]
  congr 1
  rw [show C * 256 = C <<< 8 from (Nat.shiftLeft_eq C 8).symm, ← Nat.shiftLeft_add_eq_or_of_lt (show A < 2 ^ 8 from ha)]

set_option maxRecDepth 100000 in
set_option maxHeartbeats 400000 in
theorem take_u32 (b off n cap : Nat) (l : List Nat) (w : World) (hl : Byt l) (hn : l.length = n) (hw : 4 ≤ n) (hcap : n ≤ cap) (hcap2 : cap ≤ maxLen) (hc : RowAt w b off l) :
    Calls Tryd.prog 58 #[.slice (some ⟨b, off, none⟩) n cap] w fun e w' => e = .returned (.tuple #[.int .u32 (val (l.take 4) : Nat), .slice (cutA b off 4 cap) (n - 4) (cap - 4)]) ∧ ∃ q, w' = w.drewN q := by
  have HN : Hid (l.length = n) := hn
  clear hn
  unfold maxLen at hcap2
  have i1 : (4 : Int) ≤ (cap : Int) := by omega
  have i2 : (4 : Int) ≤ (n : Int) := by omega
  go_enter Tryd.func58, Tryd.ntmps58
  go_wp2_with (go_at_call 63; refine (width_u32 _).mono ?_; rintro e w' ⟨rfl, hw⟩; have hw2 := hw.symm; subst hw2; clear hw)
  go_loop [5, 13] (fun c i => ∃ k : Nat, k ≤ 4 ∧ i = .int .i64 k ∧ c = .int .u64 (val (l.take k) : Nat)) (fun _ i => 4 - (intOf i).toNat)
  case atStart => exact ⟨0, Nat.zero_le _, rfl, rfl⟩
  case round =>
    obtain ⟨k, hk, rfl, rfl⟩ := hrel
    by_cases hlt : k < 4
    · have hcx := hc k (by rw [HN.out]; omega)
      have HRow : Hid (RowAt w b off l) := hc
      clear hc
      have ha := at_lt hl k
      have hB : val (l.take k) < 72057594037927936 := by
        have h1 := val_lt (l.take k) (hl.take_ k)
        have h2 : (l.take k).length ≤ 7 := by rw [List.length_take, HN.out]; omega
        have h3 : 256 ^ (l.take k).length ≤ 256 ^ 7 := Nat.pow_le_pow_right (by omega) h2
        omega
      obtain ⟨C, hC⟩ : ∃ C, C = val (l.take k) := ⟨_, rfl⟩
      rw [← hC] at hB ⊢
      have HC : Hid (val (l.take (k + 1)) = C * 256 + at_ l k) := by
        show _ = _
        rw [take_at l k (by rw [HN.out]; omega), val_snoc, hC]
      clear hC
      have ho := shl_u32 C (at_ l k) hB ha
      go_wp2
      go_round
      case rel => exact ⟨k + 1, by omega, by go_num, by rw [HC.out]; exact int_eq (by omega)⟩
      case measure => simp [intOf]; omega
    · have ek : k = 4 := by omega
      subst ek
      have hB : val (l.take 4) < 4294967296 := by
        have h1 := val_lt (l.take 4) (hl.take_ 4)
        have h2 : (l.take 4).length = 4 := by rw [List.length_take, HN.out]; omega
        rw [h2] at h1
        exact h1
      by_cases hcw : cap = 4
      · subst hcw
        obtain rfl : n = 4 := by omega
        skip
        go_wp2
        go_quiet (fail)
        go_wp2
        go_ret2
        refine ⟨?_, _, rfl⟩
        rw [cutA_end]
        rfl
      · skip
        go_wp2
        go_quiet (fail)
        go_wp2
        go_ret2
        refine ⟨?_, _, rfl⟩
        rw [cutA_far (by omega)]
        rfl
end Go.Proofs.YtfkoflldjnlhaaaDoor
