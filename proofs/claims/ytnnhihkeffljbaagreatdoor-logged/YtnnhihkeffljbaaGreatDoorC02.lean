import Derived.Test.YtnnhihkeffljbaaGreatDoorC01
import Derived.BigQuiet
import Derived.Defers
import Derived.Laws.Pointers
import Derived.Laws.LoneSync
import Derived.Laws.NewBlocks
import Derived.RegionTactic
import Derived.RegionCalls
import Derived.ChangeAlike
import Derived.Deep.RegionHeld3
/- NUMBERS AS BYTES in package wire: width, AppendNumber, takeNumber (made by mknum.py: one text an instance). -/
namespace Go.Proofs.YtnnhihkeffljbaaGreatDoor
open Go.RowKit
open Sc

/-- where what lies behind the first k bytes begins -/
def cutA (b off k cap : Nat) : Option Addr := if cap = k then some ⟨b, off, none⟩ else some ⟨b, off + k, none⟩
theorem cutA_far {b off k cap : Nat} (h : k < cap) : cutA b off k cap = some ⟨b, off + k, none⟩ := by unfold cutA; rw [if_neg (by omega)]
theorem cutA_end (b off k : Nat) : cutA b off k k = some ⟨b, off, none⟩ := by unfold cutA; rw [if_pos rfl]
theorem bs_snoc (xs : List Nat) (k n j : Nat) : bs (xs ++ (List.range (j + 1)).map (digit k n)) = bs (xs ++ (List.range j).map (digit k n)) ++ [.int .u8 ((digit k n j : Nat) : Int)] := by
  rw [List.range_succ, List.map_append, ← List.append_assoc, bs_app]; rfl

set_option maxRecDepth 100000 in
set_option maxHeartbeats 400000 in
theorem width_u16 (w : World) : Calls Tryz.prog 175 #[] w fun e w' => e = .returned (.int .i64 2) ∧ w' = w := by
  have hsg : IntKind.u16.signed = false := rfl
  have hb : bits .xor .u16 IntKind.u16.max 0 = 65535 := by decide +kernel
  go_enter Tryz.func175, Tryz.ntmps175
  go_wp2
  go_ret
  refine ⟨?_, rfl⟩
  kernel_rfl

set_option maxRecDepth 100000 in
set_option maxHeartbeats 400000 in
theorem app_u16 (base g k cap : Nat) (xs : List Nat) (n : Nat) (w : World) (hown : w.ownsRow base 5 1 (.slice (some ⟨g, 0, none⟩) k cap) k (bs xs)) (hr : k + 2 ≤ cap) (hn : n < 65536) :
    Calls Tryz.prog 147 #[.slice (some ⟨g, 0, none⟩) k cap, .int .u16 n] w fun e w' => e = .returned (.slice (some ⟨g, 0, none⟩) (k + 2) cap) ∧ w'.ownsRow base 5 1 (.slice (some ⟨g, 0, none⟩) (k + 2) cap) (k + 2) (bs (xs ++ be 2 n)) ∧ w.grownBy w' (some g) := by
  obtain ⟨i0, hi, hz0, hz1, hz2⟩ := info_parts Tryz.info5
  have HNN : Hid (n < 65536) := hn
  skip
  go_enter Tryz.func147, Tryz.ntmps147
  go_wp2_with (go_at_call 175; refine (width_u16 _).mono ?_; rintro e w' ⟨rfl, hw⟩; have hw2 := hw.symm; subst hw2; clear hw)
  go_loopw [0, 5] (fun v i wr => ∃ j : Nat, j ≤ 2 ∧ i = .int .i64 ((2 : Int) - 1 - j) ∧ v = .slice (some ⟨g, 0, none⟩) (k + j) cap ∧ wr.ownsRow base 5 1 (.slice (some ⟨g, 0, none⟩) (k + j) cap) (k + j) (bs (xs ++ (List.range j).map (digit 2 n))) ∧ w.grownBy wr (some g)) (fun _ i _ => (intOf i + 1).toNat)
  case atStart => exact ⟨0, Nat.zero_le _, by go_num, rfl, by simpa using hown, grown_refl _ _⟩
  case round =>
    obtain ⟨j, hj, rfl, rfl, hownr, hgr⟩ := hrel
    by_cases hlt : j < 2
    · have HD : Hid (((n : Int) / 2 ^ (8 * (1 - j)) % 256) = ((digit 2 n j : Nat) : Int)) := digit_int n 2 j
      skip
      skip
      go_wp2_with (at_builtin; refine wpList_append_fits _ rfl _ _ 177 rfl base 5 i0 1 Tryz.underlying177 hi hz1 g (k + j) cap _ rfl (hownr.alloc _) ⟨wr.heap.size, 0, none⟩ 1 1 [.int .u8 ((n : Int) / 2 ^ (8 * (1 - j)) % 256)] rfl rfl ?c1 ?c2 ?c3 ?_)
      case c1 =>
        intro jj u hjj
        match jj, hjj with
        | 0, hjj => simp at hjj; subst hjj; simp [Addr.add]
      case c2 => intro u hu; simp at hu; subst hu; rfl
      case c3 => omega
      · intro w1 hown' hgrow
        have hG1 : w.grownBy w1 (some g) := grown_trans hgr (grown_trans (grown_alloc _ _ _) hgrow)
        have hO1 : w1.ownsRow base 5 1 (.slice (some ⟨g, 0, none⟩) (k + (j + 1)) cap) (k + (j + 1)) (bs (xs ++ (List.range (j + 1)).map (digit 2 n))) := by
          rw [HD.out] at hown'
          rw [bs_snoc, ← Nat.add_assoc]
          exact hown'
        clear hown' hgrow hownr hgr
        go_wp2
        go_roundw
        case rel => exact ⟨j + 1, by omega, int_eq (by omega), rfl, hO1, hG1⟩
        case measure => simp [intOf] <;> omega
    · have ek : j = 2 := by omega
      subst ek
      go_wp2
      go_ret
      exact ⟨rfl, hownr, hgr⟩

theorem shl_u16 (C A : Nat) (hC : C < 72057594037927936) (ha : A < 256) : bits .or .u64 ((C : Int) * 256) (A : Int) = ((C * 256 + A : Nat) : Int) := by
  have h := u64_or_nat (C * 256) A (by omega) (by omega)
  rw [show ((C : Int) * 256) = ((C * 256 : Nat) : Int) by omega, h]
  congr 1
  rw [show C * 256 = C <<< 8 from (Nat.shiftLeft_eq C 8).symm, ← Nat.shiftLeft_add_eq_or_of_lt (show A < 2 ^ 8 from ha)]

set_option maxRecDepth 100000 in
set_option maxHeartbeats 400000 in
theorem take_u16 (b off n cap : Nat) (l : List Nat) (w : World) (hl : Byt l) (hn : l.length = n) (hw : 2 ≤ n) (hcap : n ≤ cap) (hcap2 : cap ≤ maxLen) (hc : RowAt w b off l) :
    Calls Tryz.prog 211 #[.slice (some ⟨b, off, none⟩) n cap] w fun e w' => e = .returned (.tuple #[.int .u16 (val (l.take 2) : Nat), .slice (cutA b off 2 cap) (n - 2) (cap - 2)]) ∧ ∃ q, w' = w.drewN q := by
  have HN : Hid (l.length = n) := hn
  clear hn
  unfold maxLen at hcap2
  have i1 : (2 : Int) ≤ (cap : Int) := by omega
  have i2 : (2 : Int) ≤ (n : Int) := by omega
  go_enter Tryz.func211, Tryz.ntmps211
  go_wp2_with (go_at_call 175; refine (width_u16 _).mono ?_; rintro e w' ⟨rfl, hw⟩; have hw2 := hw.symm; subst hw2; clear hw)
  go_loop [5, 13] (fun c i => ∃ k : Nat, k ≤ 2 ∧ i = .int .i64 k ∧ c = .int .u64 (val (l.take k) : Nat)) (fun _ i => 2 - (intOf i).toNat)
  case atStart => exact ⟨0, Nat.zero_le _, rfl, rfl⟩
  case round =>
    obtain ⟨k, hk, rfl, rfl⟩ := hrel
    by_cases hlt : k < 2
    · have hcx := hc k (by rw [HN.out]; omega)
      have HRow : Hid (RowAt w b off l) := hc
      clear hc
      have ha := at_lt hl k
      have hB : val (l.take k) < 72057594037927936 := by
        have h1 := val_lt (l.take k) (hl.take_ k)
        have h2 : (l.take k).length ≤ 7 := by rw [List.length_take, HN.out]; omega
        have h3 : 256 ^ (l.take k).length ≤ 256 ^ 7 := Nat.pow_le_pow_right (by omega) h2
        omega
      obtain ⟨C, hC⟩ : ∃ C, C = val (l.take k) := ⟨_, rfl⟩
      rw [← hC] at hB ⊢
      have HC : Hid (val (l.take (k + 1)) = C * 256 + at_ l k) := by
        show _ = _
        rw [take_at l k (by rw [HN.out]; omega), val_snoc, hC]
      clear hC
      have ho := shl_u16 C (at_ l k) hB ha
      go_wp2
      go_round
      case rel => exact ⟨k + 1, by omega, by go_num, by rw [HC.out]; exact int_eq (by omega)⟩
      case measure => simp [intOf]; omega
    · have ek : k = 2 := by omega
      subst ek
      have hB : val (l.take 2) < 65536 := by
        have h1 := val_lt (l.take 2) (hl.take_ 2)
        have h2 : (l.take 2).length = 2 := by rw [List.length_take, HN.out]; omega
        rw [h2] at h1
        exact h1
      by_cases hcw : cap = 2
      · subst hcw
        obtain rfl : n = 2 := by omega
        skip
        go_wp2
        go_quiet (fail)
        go_wp2
        go_ret2
        refine ⟨?_, _, rfl⟩
        rw [cutA_end]
        rfl
      · skip
        go_wp2
        go_quiet (fail)
        go_wp2
        go_ret2
        refine ⟨?_, _, rfl⟩
        rw [cutA_far (by omega)]
        rfl

set_option maxRecDepth 100000 in
set_option maxHeartbeats 400000 in
theorem width_u64 (w : World) : Calls Tryz.prog 142 #[] w fun e w' => e = .returned (.int .i64 8) ∧ w' = w := by
  have hsg : IntKind.u64.signed = false := rfl
  have hb : bits .xor .u64 IntKind.u64.max 0 = 18446744073709551615 := by decide +kernel
  go_enter Tryz.func142, Tryz.ntmps142
  go_wp2
  go_ret
  refine ⟨?_, rfl⟩
  kernel_rfl

set_option maxRecDepth 100000 in
set_option maxHeartbeats 400000 in
theorem app_u64 (base g k cap : Nat) (xs : List Nat) (n : Nat) (w : World) (hown : w.ownsRow base 5 1 (.slice (some ⟨g, 0, none⟩) k cap) k (bs xs)) (hr : k + 8 ≤ cap) (hn : n < 18446744073709551616) :
    Calls Tryz.prog 100 #[.slice (some ⟨g, 0, none⟩) k cap, .int .u64 n] w fun e w' => e = .returned (.slice (some ⟨g, 0, none⟩) (k + 8) cap) ∧ w'.ownsRow base 5 1 (.slice (some ⟨g, 0, none⟩) (k + 8) cap) (k + 8) (bs (xs ++ be 8 n)) ∧ w.grownBy w' (some g) := by
  obtain ⟨i0, hi, hz0, hz1, hz2⟩ := info_parts Tryz.info5
  have HNN : Hid (n < 18446744073709551616) := hn
  clear hn
  go_enter Tryz.func100, Tryz.ntmps100
  go_wp2_with (go_at_call 142; refine (width_u64 _).mono ?_; rintro e w' ⟨rfl, hw⟩; have hw2 := hw.symm; subst hw2; clear hw)
  go_loopw [0, 5] (fun v i wr => ∃ j : Nat, j ≤ 8 ∧ i = .int .i64 ((8 : Int) - 1 - j) ∧ v = .slice (some ⟨g, 0, none⟩) (k + j) cap ∧ wr.ownsRow base 5 1 (.slice (some ⟨g, 0, none⟩) (k + j) cap) (k + j) (bs (xs ++ (List.range j).map (digit 8 n))) ∧ w.grownBy wr (some g)) (fun _ i _ => (intOf i + 1).toNat)
  case atStart => exact ⟨0, Nat.zero_le _, by go_num, rfl, by simpa using hown, grown_refl _ _⟩
  case round =>
    obtain ⟨j, hj, rfl, rfl, hownr, hgr⟩ := hrel
    by_cases hlt : j < 8
    · have HD : Hid (((n : Int) / 2 ^ (8 * (7 - j)) % 256) = ((digit 8 n j : Nat) : Int)) := digit_int n 8 j
      skip
      skip
      go_wp2_with (at_builtin; refine wpList_append_fits _ rfl _ _ 177 rfl base 5 i0 1 Tryz.underlying177 hi hz1 g (k + j) cap _ rfl (hownr.alloc _) ⟨wr.heap.size, 0, none⟩ 1 1 [.int .u8 ((n : Int) / 2 ^ (8 * (7 - j)) % 256)] rfl rfl ?c1 ?c2 ?c3 ?_)
      case c1 =>
        intro jj u hjj
        match jj, hjj with
        | 0, hjj => simp at hjj; subst hjj; simp [Addr.add]
      case c2 => intro u hu; simp at hu; subst hu; rfl
      case c3 => omega
      · intro w1 hown' hgrow
        have hG1 : w.grownBy w1 (some g) := grown_trans hgr (grown_trans (grown_alloc _ _ _) hgrow)
        have hO1 : w1.ownsRow base 5 1 (.slice (some ⟨g, 0, none⟩) (k + (j + 1)) cap) (k + (j + 1)) (bs (xs ++ (List.range (j + 1)).map (digit 8 n))) := by
          rw [HD.out] at hown'
          rw [bs_snoc, ← Nat.add_assoc]
          exact hown'
        clear hown' hgrow hownr hgr
        go_wp2
        go_roundw
        case rel => exact ⟨j + 1, by omega, int_eq (by omega), rfl, hO1, hG1⟩
        case measure => simp [intOf] <;> omega
    · have ek : j = 8 := by omega
      subst ek
      go_wp2
      go_ret
      exact ⟨rfl, hownr, hgr⟩

theorem shl_u64 (C A : Nat) (hC : C < 72057594037927936) (ha : A < 256) : bits .or .u64 ((C : Int) * 256) (A : Int) = ((C * 256 + A : Nat) : Int) := by
  have h := u64_or_nat (C * 256) A (by omega) (by omega)
  rw [show ((C : Int) * 256) = ((C * 256 : Nat) : Int) by omega, h]
  congr 1
  rw [show C * 256 = C <<< 8 from (Nat.shiftLeft_eq C 8).symm, ← Nat.shiftLeft_add_eq_or_of_lt (show A < 2 ^ 8 from ha)]

set_option maxRecDepth 100000 in
set_option maxHeartbeats 400000 in
theorem take_u64 (b off n cap : Nat) (l : List Nat) (w : World) (hl : Byt l) (hn : l.length = n) (hw : 8 ≤ n) (hcap : n ≤ cap) (hcap2 : cap ≤ maxLen) (hc : RowAt w b off l) :
    Calls Tryz.prog 189 #[.slice (some ⟨b, off, none⟩) n cap] w fun e w' => e = .returned (.tuple #[.int .u64 (val (l.take 8) : Nat), .slice (cutA b off 8 cap) (n - 8) (cap - 8)]) ∧ ∃ q, w' = w.drewN q := by
  have HN : Hid (l.length = n) := hn
  clear hn
  unfold maxLen at hcap2
  have i1 : (8 : Int) ≤ (cap : Int) := by omega
  have i2 : (8 : Int) ≤ (n : Int) := by omega
  go_enter Tryz.func189, Tryz.ntmps189
  go_wp2_with (go_at_call 142; refine (width_u64 _).mono ?_; rintro e w' ⟨rfl, hw⟩; have hw2 := hw.symm; subst hw2; clear hw)
  go_loop [5, 13] (fun c i => ∃ k : Nat, k ≤ 8 ∧ i = .int .i64 k ∧ c = .int .u64 (val (l.take k) : Nat)) (fun _ i => 8 - (intOf i).toNat)
  case atStart => exact ⟨0, Nat.zero_le _, rfl, rfl⟩
  case round =>
    obtain ⟨k, hk, rfl, rfl⟩ := hrel
    by_cases hlt : k < 8
    · have hcx := hc k (by rw [HN.out]; omega)
      have HRow : Hid (RowAt w b off l) := hc
      clear hc
      have ha := at_lt hl k
      have hB : val (l.take k) < 72057594037927936 := by
        have h1 := val_lt (l.take k) (hl.take_ k)
        have h2 : (l.take k).length ≤ 7 := by rw [List.length_take, HN.out]; omega
        have h3 : 256 ^ (l.take k).length ≤ 256 ^ 7 := Nat.pow_le_pow_right (by omega) h2
        omega
      obtain ⟨C, hC⟩ : ∃ C, C = val (l.take k) := ⟨_, rfl⟩
      rw [← hC] at hB ⊢
      have HC : Hid (val (l.take (k + 1)) = C * 256 + at_ l k) := by
        show _ = _
        rw [take_at l k (by rw [HN.out]; omega), val_snoc, hC]
      clear hC
      have ho := shl_u64 C (at_ l k) hB ha
      go_wp2
      go_round
      case rel => exact ⟨k + 1, by omega, by go_num, by rw [HC.out]; exact int_eq (by omega)⟩
      case measure => simp [intOf]; omega
    · have ek : k = 8 := by omega
      subst ek
      have hB : val (l.take 8) < 18446744073709551616 := by
        have h1 := val_lt (l.take 8) (hl.take_ 8)
        have h2 : (l.take 8).length = 8 := by rw [List.length_take, HN.out]; omega
        rw [h2] at h1
        exact h1
      by_cases hcw : cap = 8
      · subst hcw
        obtain rfl : n = 8 := by omega
        clear hB
        go_wp2
        go_quiet (fail)
        go_wp2
        go_ret2
        refine ⟨?_, _, rfl⟩
        rw [cutA_end]
        rfl
      · clear hB
        go_wp2
        go_quiet (fail)
        go_wp2
        go_ret2
        refine ⟨?_, _, rfl⟩
        rw [cutA_far (by omega)]
        rfl

set_option maxRecDepth 100000 in
set_option maxHeartbeats 400000 in
theorem width_u8 (w : World) : Calls Tryz.prog 155 #[] w fun e w' => e = .returned (.int .i64 1) ∧ w' = w := by
  have hsg : IntKind.u8.signed = false := rfl
  have hb : bits .xor .u8 IntKind.u8.max 0 = 255 := by decide +kernel
  go_enter Tryz.func155, Tryz.ntmps155
  go_wp2
  go_ret
  refine ⟨?_, rfl⟩
  kernel_rfl

set_option maxRecDepth 100000 in
set_option maxHeartbeats 400000 in
theorem app_u8 (base g k cap : Nat) (xs : List Nat) (n : Nat) (w : World) (hown : w.ownsRow base 5 1 (.slice (some ⟨g, 0, none⟩) k cap) k (bs xs)) (hr : k + 1 ≤ cap) (hn : n < 256) :
    Calls Tryz.prog 122 #[.slice (some ⟨g, 0, none⟩) k cap, .int .u8 n] w fun e w' => e = .returned (.slice (some ⟨g, 0, none⟩) (k + 1) cap) ∧ w'.ownsRow base 5 1 (.slice (some ⟨g, 0, none⟩) (k + 1) cap) (k + 1) (bs (xs ++ be 1 n)) ∧ w.grownBy w' (some g) := by
  obtain ⟨i0, hi, hz0, hz1, hz2⟩ := info_parts Tryz.info5
  have HNN : Hid (n < 256) := hn
  skip
  go_enter Tryz.func122, Tryz.ntmps122
  go_wp2_with (go_at_call 155; refine (width_u8 _).mono ?_; rintro e w' ⟨rfl, hw⟩; have hw2 := hw.symm; subst hw2; clear hw)
  go_loopw [0, 5] (fun v i wr => ∃ j : Nat, j ≤ 1 ∧ i = .int .i64 ((1 : Int) - 1 - j) ∧ v = .slice (some ⟨g, 0, none⟩) (k + j) cap ∧ wr.ownsRow base 5 1 (.slice (some ⟨g, 0, none⟩) (k + j) cap) (k + j) (bs (xs ++ (List.range j).map (digit 1 n))) ∧ w.grownBy wr (some g)) (fun _ i _ => (intOf i + 1).toNat)
  case atStart => exact ⟨0, Nat.zero_le _, by go_num, rfl, by simpa using hown, grown_refl _ _⟩
  case round =>
    obtain ⟨j, hj, rfl, rfl, hownr, hgr⟩ := hrel
    by_cases hlt : j < 1
    · have HD : Hid ((n : Int) = ((digit 1 n 0 : Nat) : Int)) := by show _ = _; unfold digit; simp; omega
      obtain rfl : j = 0 := by omega
      rw [Nat.add_zero] at hownr
      go_wp2_with (at_builtin; refine wpList_append_fits _ rfl _ _ 177 rfl base 5 i0 1 Tryz.underlying177 hi hz1 g k cap _ rfl (hownr.alloc _) ⟨wr.heap.size, 0, none⟩ 1 1 [.int .u8 (n : Int)] rfl rfl ?c1 ?c2 ?c3 ?_)
      case c1 =>
        intro jj u hjj
        match jj, hjj with
        | 0, hjj => simp at hjj; subst hjj; simp [Addr.add]
      case c2 => intro u hu; simp at hu; subst hu; rfl
      case c3 => omega
      · intro w1 hown' hgrow
        have hG1 : w.grownBy w1 (some g) := grown_trans hgr (grown_trans (grown_alloc _ _ _) hgrow)
        have hO1 : w1.ownsRow base 5 1 (.slice (some ⟨g, 0, none⟩) (k + (0 + 1)) cap) (k + (0 + 1)) (bs (xs ++ (List.range (0 + 1)).map (digit 1 n))) := by
          have e := HD.out
          rw [bs_snoc, ← e]
          simpa using hown'
        clear hown' hgrow hownr hgr
        go_wp2
        go_roundw
        case rel => exact ⟨0 + 1, by omega, int_eq (by omega), rfl, hO1, hG1⟩
        case measure => simp [intOf] <;> omega
    · have ek : j = 1 := by omega
      subst ek
      go_wp2
      go_ret
      exact ⟨rfl, hownr, hgr⟩

theorem shl_u8 (C A : Nat) (hC : C < 72057594037927936) (ha : A < 256) : bits .or .u64 ((C : Int) * 256) (A : Int) = ((C * 256 + A : Nat) : Int) := by
  have h := u64_or_nat (C * 256) A (by omega) (by omega)
  rw [show ((C : Int) * 256) = ((C * 256 : Nat) : Int) by omega, h]
  congr 1
  rw [show C * 256 = C <<< 8 from (Nat.shiftLeft_eq C 8).symm, ← Nat.shiftLeft_add_eq_or_of_lt (show A < 2 ^ 8 from ha)]

set_option maxRecDepth 100000 in
set_option maxHeartbeats 400000 in
theorem take_u8 (b off n cap : Nat) (l : List Nat) (w : World) (hl : Byt l) (hn : l.length = n) (hw : 1 ≤ n) (hcap : n ≤ cap) (hcap2 : cap ≤ maxLen) (hc : RowAt w b off l) :
    Calls Tryz.prog 191 #[.slice (some ⟨b, off, none⟩) n cap] w fun e w' => e = .returned (.tuple #[.int .u8 (val (l.take 1) : Nat), .slice (cutA b off 1 cap) (n - 1) (cap - 1)]) ∧ ∃ q, w' = w.drewN q := by
  have HN : Hid (l.length = n) := hn
  clear hn
  unfold maxLen at hcap2
  have i1 : (1 : Int) ≤ (cap : Int) := by omega
  have i2 : (1 : Int) ≤ (n : Int) := by omega
  go_enter Tryz.func191, Tryz.ntmps191
  go_wp2_with (go_at_call 155; refine (width_u8 _).mono ?_; rintro e w' ⟨rfl, hw⟩; have hw2 := hw.symm; subst hw2; clear hw)
  go_loop [5, 13] (fun c i => ∃ k : Nat, k ≤ 1 ∧ i = .int .i64 k ∧ c = .int .u64 (val (l.take k) : Nat)) (fun _ i => 1 - (intOf i).toNat)
  case atStart => exact ⟨0, Nat.zero_le _, rfl, rfl⟩
  case round =>
    obtain ⟨k, hk, rfl, rfl⟩ := hrel
    by_cases hlt : k < 1
    · have hcx := hc k (by rw [HN.out]; omega)
      have HRow : Hid (RowAt w b off l) := hc
      clear hc
      have ha := at_lt hl k
      have hB : val (l.take k) < 72057594037927936 := by
        have h1 := val_lt (l.take k) (hl.take_ k)
        have h2 : (l.take k).length ≤ 7 := by rw [List.length_take, HN.out]; omega
        have h3 : 256 ^ (l.take k).length ≤ 256 ^ 7 := Nat.pow_le_pow_right (by omega) h2
        omega
      obtain ⟨C, hC⟩ : ∃ C, C = val (l.take k) := ⟨_, rfl⟩
      rw [← hC] at hB ⊢
      have HC : Hid (val (l.take (k + 1)) = C * 256 + at_ l k) := by
        show _ = _
        rw [take_at l k (by rw [HN.out]; omega), val_snoc, hC]
      clear hC
      have ho := shl_u8 C (at_ l k) hB ha
      go_wp2
      go_round
      case rel => exact ⟨k + 1, by omega, by go_num, by rw [HC.out]; exact int_eq (by omega)⟩
      case measure => simp [intOf]; omega
    · have ek : k = 1 := by omega
      subst ek
      have hB : val (l.take 1) < 256 := by
        have h1 := val_lt (l.take 1) (hl.take_ 1)
        have h2 : (l.take 1).length = 1 := by rw [List.length_take, HN.out]; omega
        rw [h2] at h1
        exact h1
      by_cases hcw : cap = 1
      · subst hcw
        obtain rfl : n = 1 := by omega
        skip
        go_wp2
        go_quiet (fail)
        go_wp2
        go_ret2
        refine ⟨?_, _, rfl⟩
        rw [cutA_end]
        rfl
      · skip
        go_wp2
        go_quiet (fail)
        go_wp2
        go_ret2
        refine ⟨?_, _, rfl⟩
        rw [cutA_far (by omega)]
        rfl

set_option maxRecDepth 100000 in
set_option maxHeartbeats 400000 in
theorem width_u32 (w : World) : Calls Tryz.prog 201 #[] w fun e w' => e = .returned (.int .i64 4) ∧ w' = w := by
  have hsg : IntKind.u32.signed = false := rfl
  have hb : bits .xor .u32 IntKind.u32.max 0 = 4294967295 := by decide +kernel
  go_enter Tryz.func201, Tryz.ntmps201
  go_wp2
  go_ret
  refine ⟨?_, rfl⟩
  kernel_rfl

set_option maxRecDepth 100000 in
set_option maxHeartbeats 400000 in
theorem app_u32 (base g k cap : Nat) (xs : List Nat) (n : Nat) (w : World) (hown : w.ownsRow base 5 1 (.slice (some ⟨g, 0, none⟩) k cap) k (bs xs)) (hr : k + 4 ≤ cap) (hn : n < 4294967296) :
    Calls Tryz.prog 176 #[.slice (some ⟨g, 0, none⟩) k cap, .int .u32 n] w fun e w' => e = .returned (.slice (some ⟨g, 0, none⟩) (k + 4) cap) ∧ w'.ownsRow base 5 1 (.slice (some ⟨g, 0, none⟩) (k + 4) cap) (k + 4) (bs (xs ++ be 4 n)) ∧ w.grownBy w' (some g) := by
  obtain ⟨i0, hi, hz0, hz1, hz2⟩ := info_parts Tryz.info5
  have HNN : Hid (n < 4294967296) := hn
  skip
  go_enter Tryz.func176, Tryz.ntmps176
  go_wp2_with (go_at_call 201; refine (width_u32 _).mono ?_; rintro e w' ⟨rfl, hw⟩; have hw2 := hw.symm; subst hw2; clear hw)
  go_loopw [0, 5] (fun v i wr => ∃ j : Nat, j ≤ 4 ∧ i = .int .i64 ((4 : Int) - 1 - j) ∧ v = .slice (some ⟨g, 0, none⟩) (k + j) cap ∧ wr.ownsRow base 5 1 (.slice (some ⟨g, 0, none⟩) (k + j) cap) (k + j) (bs (xs ++ (List.range j).map (digit 4 n))) ∧ w.grownBy wr (some g)) (fun _ i _ => (intOf i + 1).toNat)
  case atStart => exact ⟨0, Nat.zero_le _, by go_num, rfl, by simpa using hown, grown_refl _ _⟩
  case round =>
    obtain ⟨j, hj, rfl, rfl, hownr, hgr⟩ := hrel
    by_cases hlt : j < 4
    · have HD : Hid (((n : Int) / 2 ^ (8 * (3 - j)) % 256) = ((digit 4 n j : Nat) : Int)) := digit_int n 4 j
      skip
      skip
      go_wp2_with (at_builtin; refine wpList_append_fits _ rfl _ _ 177 rfl base 5 i0 1 Tryz.underlying177 hi hz1 g (k + j) cap _ rfl (hownr.alloc _) ⟨wr.heap.size, 0, none⟩ 1 1 [.int .u8 ((n : Int) / 2 ^ (8 * (3 - j)) % 256)] rfl rfl ?c1 ?c2 ?c3 ?_)
      case c1 =>
        intro jj u hjj
        match jj, hjj with
        | 0, hjj => simp at hjj; subst hjj; simp [Addr.add]
      case c2 => intro u hu; simp at hu; subst hu; rfl
      case c3 => omega
      · intro w1 hown' hgrow
        have hG1 : w.grownBy w1 (some g) := grown_trans hgr (grown_trans (grown_alloc _ _ _) hgrow)
        have hO1 : w1.ownsRow base 5 1 (.slice (some ⟨g, 0, none⟩) (k + (j + 1)) cap) (k + (j + 1)) (bs (xs ++ (List.range (j + 1)).map (digit 4 n))) := by
          rw [HD.out] at hown'
          rw [bs_snoc, ← Nat.add_assoc]
          exact hown'
        clear hown' hgrow hownr hgr
        go_wp2
        go_roundw
        case rel => exact ⟨j + 1, by omega, int_eq (by omega), rfl, hO1, hG1⟩
        case measure => simp [intOf] <;> omega
    · have ek : j = 4 := by omega
      subst ek
      go_wp2
      go_ret
      exact ⟨rfl, hownr, hgr⟩

theorem shl_u32 (C A : Nat) (hC : C < 72057594037927936) (ha : A < 256) : bits .or .u64 ((C : Int) * 256) (A : Int) = ((C * 256 + A : Nat) : Int) := by
  have h := u64_or_nat (C * 256) A (by omega) (by omega)
  rw [show ((C : Int) * 256) = ((C * 256 : Nat) : Int) by omega, h]
  congr 1
  rw [show C * 256 = C <<< 8 from (Nat.shiftLeft_eq C 8).symm, ← Nat.shiftLeft_add_eq_or_of_lt (show A < 2 ^ 8 from ha)]

set_option maxRecDepth 100000 in
set_option maxHeartbeats 400000 in
theorem take_u32 (b off n cap : Nat) (l : List Nat) (w : World) (hl : Byt l) (hn : l.length = n) (hw : 4 ≤ n) (hcap : n ≤ cap) (hcap2 : cap ≤ maxLen) (hc : RowAt w b off l) :
    Calls Tryz.prog 213 #[.slice (some ⟨b, off, none⟩) n cap] w fun e w' => e = .returned (.tuple #[.int .u32 (val (l.take 4) : Nat), .slice (cutA b off 4 cap) (n - 4) (cap - 4)]) ∧ ∃ q, w' = w.drewN q := by
  have HN : Hid (l.length = n) := hn
  clear hn
  unfold maxLen at hcap2
  have i1 : (4 : Int) ≤ (cap : Int) := by omega
  have i2 : (4 : Int) ≤ (n : Int) := by omega
  go_enter Tryz.func213, Tryz.ntmps213
  go_wp2_with (go_at_call 201; refine (width_u32 _).mono ?_; rintro e w' ⟨rfl, hw⟩; have hw2 := hw.symm; subst hw2; clear hw)
  go_loop [5, 13] (fun c i => ∃ k : Nat, k ≤ 4 ∧ i = .int .i64 k ∧ c = .int .u64 (val (l.take k) : Nat)) (fun _ i => 4 - (intOf i).toNat)
  case atStart => exact ⟨0, Nat.zero_le _, rfl, rfl⟩
  case round =>
    obtain ⟨k, hk, rfl, rfl⟩ := hrel
    by_cases hlt : k < 4
    · have hcx := hc k (by rw [HN.out]; omega)
      have HRow : Hid (RowAt w b off l) := hc
      clear hc
      have ha := at_lt hl k
      have hB : val (l.take k) < 72057594037927936 := by
        have h1 := val_lt (l.take k) (hl.take_ k)
        have h2 : (l.take k).length ≤ 7 := by rw [List.length_take, HN.out]; omega
        have h3 : 256 ^ (l.take k).length ≤ 256 ^ 7 := Nat.pow_le_pow_right (by omega) h2
        omega
      obtain ⟨C, hC⟩ : ∃ C, C = val (l.take k) := ⟨_, rfl⟩
      rw [← hC] at hB ⊢
      have HC : Hid (val (l.take (k + 1)) = C * 256 + at_ l k) := by
        show _ = _
        rw [take_at l k (by rw [HN.out]; omega), val_snoc, hC]
      clear hC
      have ho := shl_u32 C (at_ l k) hB ha
      go_wp2
      go_round
      case rel => exact ⟨k + 1, by omega, by go_num, by rw [HC.out]; exact int_eq (by omega)⟩
      case measure => simp [intOf]; omega
    · have ek : k = 4 := by omega
      subst ek
      have hB : val (l.take 4) < 4294967296 := by
        have h1 := val_lt (l.take 4) (hl.take_ 4)
        have h2 : (l.take 4).length = 4 := by rw [List.length_take, HN.out]; omega
        rw [h2] at h1
        exact h1
      by_cases hcw : cap = 4
      · subst hcw
        obtain rfl : n = 4 := by omega
        skip
        go_wp2
        go_quiet (fail)
        go_wp2
        go_ret2
        refine ⟨?_, _, rfl⟩
        rw [cutA_end]
        rfl
      · skip
        go_wp2
        go_quiet (fail)
        go_wp2
        go_ret2
        refine ⟨?_, _, rfl⟩
        rw [cutA_far (by omega)]
        rfl
end Go.Proofs.YtnnhihkeffljbaaGreatDoor
/- THE TABLE OF THE SUM: sync.Once's parts (after the guide's worked example), the closure that fills the table. -/
namespace Go.Proofs.YtnnhihkeffljbaaGreatDoor
open Go.RowKit
open Sc

theorem disable (w : World) : (callFunc 261 #[]).run Tryz.prog w = .ok (.value (.tuple #[])) w := run_call_mark0 Tryz.func261 (by kernel_rfl) (by kernel_rfl) (by kernel_rfl) .disable (by kernel_rfl) w
theorem enable (w : World) : (callFunc 263 #[]).run Tryz.prog w = .ok (.value (.tuple #[])) w := run_call_mark0 Tryz.func263 (by kernel_rfl) (by kernel_rfl) (by kernel_rfl) .enable (by kernel_rfl) w
theorem acquire (a : Addr) (w : World) : (callFunc 264 #[.pointer (some a)]).run Tryz.prog w = .ok (.value (.tuple #[])) w := run_call_marked Tryz.func264 (by kernel_rfl) (by kernel_rfl) (by kernel_rfl) .acquire (by kernel_rfl) a w
theorem releaseMerge (a : Addr) (w : World) : (callFunc 266 #[.pointer (some a)]).run Tryz.prog w = .ok (.value (.tuple #[])) w := run_call_marked Tryz.func266 (by kernel_rfl) (by kernel_rfl) (by kernel_rfl) .releaseMerge (by kernel_rfl) a w

theorem store_deferred (a : Addr) (x : Value) (u : FrameMode) (w : World) (hc : w.cell? a = some x) (hz : w.frozen? a = false) :
    CallsD Tryz.prog 247 #[.pointer (some a), .bool true] u w fun e u' w' => u' = u ∧ (e = .returned (.tuple #[]) ∧ w' = w.drew.setCell a (.int .u32 1)) := by
  have hc' : w.drew.cell? a = some x := by go_simp
  have hz' : w.drew.frozen? a = false := by go_simp
  have hst := run_call_store (P := Tryz.prog) Tryz.func257 (by kernel_rfl) (by kernel_rfl) (by kernel_rfl) (by kernel_rfl) (k := .u32) (y := 1) hc' hz'
  go_enter_d Tryz.func247, Tryz.ntmps247
  go_wp2
  go_region_calls
  all_goals (go_end0; exact ⟨rfl, rfl⟩)

set_option maxRecDepth 100000 in
set_option maxHeartbeats 1600000 in
theorem unlock_deferred (a : Addr) (u : FrameMode) (w : World) (hc : w.cell? a = some (.int .i32 1)) (hz : w.frozen? a = false) :
    CallsD Tryz.prog 246 #[.pointer (some a)] u w fun e u' w' => u' = u ∧ (e = .returned (.tuple #[]) ∧ w' = w.setCell a (.int .i32 0)) := by
  have hd := disable
  have he := enable
  have hr := releaseMerge
  have hadd := run_call_add (P := Tryz.prog) Tryz.func267 (by kernel_rfl) (by kernel_rfl) (by kernel_rfl) .i32 (by kernel_rfl) (y := -1) (s := 0) hc hz (by simp [go_sem]; rfl)
  have hcv := run_convert_to_unsafe (P := Tryz.prog) (src := 372) (dst := 142) Tryz.underlying372 Tryz.underlying142 (by kernel_rfl) hc
  go_enter_d Tryz.func246, Tryz.ntmps246
  go_wp2
  go_end0
  go_wp2
  go_end0
  exact ⟨rfl, rfl⟩

set_option maxRecDepth 100000 in
set_option maxHeartbeats 1600000 in
theorem lock_free (a : Addr) (w : World) (hc : w.cell? a = some (.int .i32 0)) (hz : w.frozen? a = false) :
    Calls Tryz.prog 245 #[.pointer (some a)] w fun e w' => e = .returned (.tuple #[]) ∧ w' = w.setCell a (.int .i32 1) := by
  have hd := disable
  have he := enable
  have ha := acquire
  have hcas := run_call_cas_hit (P := Tryz.prog) Tryz.func262 (by kernel_rfl) (by kernel_rfl) (by kernel_rfl) .i32 (by kernel_rfl) (y := 1) hc hz
  have hc' : (w.setCell a (.int .i32 1)).cell? a = some (.int .i32 1) := World.cell?_setCell_same w a _ hc
  have hcv := run_convert_to_unsafe (P := Tryz.prog) (src := 372) (dst := 142) Tryz.underlying372 Tryz.underlying142 (by kernel_rfl) hc'
  go_enter Tryz.func245, Tryz.ntmps245
  go_wp2
  first | go_end0 | (simp only [Exit.inBlock, Exit.then]; refine bodyPost_ret (results_none rfl _ _ _) rfl ?_) | refine bodyPost_ret (results_none rfl _ _ _) rfl ?_
  go_wp2
  go_end0
  exact ⟨rfl, rfl⟩

set_option maxHeartbeats 400000 in
theorem turned_any (C : Nat) (w : World) (hC : C < 4294967296) :
    Calls Tryz.prog 204 #[.int .u32 C] w fun e w' => e = .returned (.int .u32 (halves 8 C : Nat)) ∧ w' = w := by
  go_enter Tryz.func204, Tryz.ntmps204
  go_wp2
  go_loop [0, 4] (fun c j => ∃ q : Nat, q ≤ 8 ∧ j = .int .i64 q ∧ c = .int .u32 (halves q C : Nat)) (fun _ j => 8 - (intOf j).toNat)
  case atStart => exact ⟨0, Nat.zero_le _, rfl, rfl⟩
  case round =>
    obtain ⟨q, hq, rfl, rfl⟩ := hrel
    have hX := halves_lt q C hC
    have HX : Hid (halves (q + 1) C = half (halves q C)) := rfl
    by_cases hq8 : q < 8
    · generalize halves q C = X at hX HX
      have a1 := and1 X hX
      have hx2 : X / 2 < 4294967296 := by omega
      have a2 : bits .xor .u32 ((X : Int) / 2) 3988292384 = ((X / 2 ^^^ 3988292384 : Nat) : Int) := by rw [show ((X : Int) / 2) = ((X / 2 : Nat) : Int) by omega]; exact xorP (X / 2) hx2
      by_cases ho : X % 2 = 1
      · have HO : Hid (half X = X / 2 ^^^ 3988292384) := half_odd X ho
        go_wp2
        go_round
        case rel => exact ⟨q + 1, by omega, by go_num, by rw [HX.out, HO.out]⟩
        case measure => simp [intOf]; omega
      · have HO : Hid (half X = X / 2) := half_even X ho
        go_wp2
        go_round
        case rel => exact ⟨q + 1, by omega, by go_num, by rw [HX.out, HO.out]; exact int_eq (by omega)⟩
        case measure => simp [intOf]; omega
    · have e8 : q = 8 := by omega
      subst e8
      go_wp2
      go_ret
      exact ⟨rfl, rfl⟩
end Go.Proofs.YtnnhihkeffljbaaGreatDoor
