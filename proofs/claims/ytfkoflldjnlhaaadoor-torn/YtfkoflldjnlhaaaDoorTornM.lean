import Derived.Test.YtfkoflldjnlhaaaDoorRec
import Derived.Test.YtfkoflldjnlhaaaDoorScanM
/- TORN RECORDS, the plain mathematics: what a bit that is turned does to a sum; what is read of records of which the end is cut off, or that are turned in a byte. -/
namespace Go.Proofs.YtfkoflldjnlhaaaDoor
open Go.RowKit
open Sc

theorem xorR (c a b : Nat) (h : c ^^^ a = c ^^^ b) : a = b := by
  have h1 : c ^^^ (c ^^^ a) = c ^^^ (c ^^^ b) := by rw [h]
  rw [← Nat.xor_assoc, ← Nat.xor_assoc, Nat.xor_self, Nat.zero_xor, Nat.zero_xor] at h1; exact h1
theorem xorL (c a b : Nat) (h : a ^^^ c = b ^^^ c) : a = b := xorR c a b (by rw [Nat.xor_comm c a, h, Nat.xor_comm])
/-! One bit of the reckoning can be taken back. -/
theorem half_inj (a b : Nat) (ha : a < 4294967296) (hb : b < 4294967296) (h : half a = half b) : a = b := by
  have top : ∀ x : Nat, x < 2147483648 → (x ^^^ 3988292384).testBit 31 = true := fun x hx => by
    rw [Nat.testBit_xor, Nat.testBit_lt_two_pow (show x < 2 ^ 31 from hx)]; decide
  have low : ∀ x : Nat, x < 2147483648 → x.testBit 31 = false := fun x hx => Nat.testBit_lt_two_pow (show x < 2 ^ 31 from hx)
  unfold half at h
  rcases Nat.mod_two_eq_zero_or_one a with h1 | h1 <;> rcases Nat.mod_two_eq_zero_or_one b with h2 | h2
  · rw [if_neg (by omega), if_neg (by omega)] at h; omega
  · rw [if_neg (by omega), if_pos (by omega)] at h
    have := low (a / 2) (by omega)
    rw [h, top (b / 2) (by omega)] at this; cases this
  · rw [if_pos (by omega), if_neg (by omega)] at h
    have := low (b / 2) (by omega)
    rw [← h, top (a / 2) (by omega)] at this; cases this
  · rw [if_pos (by omega), if_pos (by omega)] at h
    have := xorL _ _ _ h
    omega
theorem halves_inj (k a b : Nat) (ha : a < 4294967296) (hb : b < 4294967296) (h : halves k a = halves k b) : a = b := by
  induction k with
  | zero => exact h
  | succ k ih => exact ih (half_inj _ _ (halves_lt k a ha) (halves_lt k b hb) h)
theorem crcS_inj (l : List Nat) (hl : Byt l) : ∀ (c d : Nat), c < 4294967296 → d < 4294967296 → crcS c l = crcS d l → c = d := by
  induction l with
  | nil => intro c d _ _ h; exact h
  | cons y l ih =>
    intro c d hc hd h
    have hy : y < 256 := hl y (by simp)
    have h1 := ih (fun x hx => hl x (by simp [hx])) _ _ (halves_lt 8 _ (xor_lt32 c y hc (by omega))) (halves_lt 8 _ (xor_lt32 d y hd (by omega))) h
    have h2 := halves_inj 8 _ _ (xor_lt32 c y hc (by omega)) (xor_lt32 d y hd (by omega)) h1
    exact xorL _ _ _ h2
theorem crcS_app (c : Nat) (a b : List Nat) : crcS c (a ++ b) = crcS (crcS c a) b := by simp [crcS]
/-- a byte that is turned turns the sum -/
theorem crc_turn (a z : List Nat) (y y' : Nat) (ha : Byt a) (hz : Byt z) (hy : y < 256) (hy' : y' < 256) (h : crc (a ++ y :: z) = crc (a ++ y' :: z)) : y = y' := by
  unfold crc at h
  have h1 := xorR _ _ _ h
  rw [crcS_app, crcS_app] at h1
  have hc : crcS 4294967295 a < 4294967296 := crcS_lt _ _ (by decide) ha
  have h2 : halves 8 (crcS 4294967295 a ^^^ y) = halves 8 (crcS 4294967295 a ^^^ y') := crcS_inj z hz _ _ (halves_lt 8 _ (xor_lt32 _ _ hc (by omega))) (halves_lt 8 _ (xor_lt32 _ _ hc (by omega))) h1
  exact xorR _ _ _ (halves_inj 8 _ _ (xor_lt32 _ _ hc (by omega)) (xor_lt32 _ _ hc (by omega)) h2)
theorem val_app (a b : List Nat) : val (a ++ b) = val a * 256 ^ b.length + val b := by
  have aux : ∀ (l : List Nat) (n : Nat), l.foldl (fun n b => n * 256 + b) n = n * 256 ^ l.length + l.foldl (fun n b => n * 256 + b) 0 := by
    intro l
    induction l with
    | nil => intro n; simp
    | cons y l ih =>
      intro n
      rw [List.foldl_cons, ih, List.foldl_cons, ih (0 * 256 + y), List.length_cons, Nat.pow_succ, Nat.add_mul, Nat.zero_mul, Nat.zero_add, Nat.mul_comm (256 ^ l.length) 256, ← Nat.mul_assoc]
      omega
  unfold val
  rw [List.foldl_append, aux]
/-- a byte that is turned turns the number -/
theorem val_turn (a z : List Nat) (y y' : Nat) (h : val (a ++ y :: z) = val (a ++ y' :: z)) : y = y' := by
  have e : ∀ y, val (a ++ y :: z) = (val a * 256 + y) * 256 ^ z.length + val z := fun y => by
    rw [show a ++ y :: z = (a ++ [y]) ++ z by simp, val_app, val_snoc]
  rw [e, e] at h
  have h1 : (val a * 256 + y) * 256 ^ z.length = (val a * 256 + y') * 256 ^ z.length := by omega
  have h2 := Nat.eq_of_mul_eq_mul_right (Nat.pow_pos (by omega)) h1
  omega
theorem set_parts (l : List Nat) (i y : Nat) (h : i < l.length) : l.set i y = l.take i ++ y :: l.drop (i + 1) := by
  rw [List.set_eq_take_append_cons_drop, if_pos h]
theorem self_parts (l : List Nat) (i : Nat) (h : i < l.length) : l = l.take i ++ at_ l i :: l.drop (i + 1) := by
  conv => lhs; rw [← List.take_append_drop i l]
  rw [List.drop_eq_getElem_cons h]
  simp [at_, h]
theorem crc_set (l : List Nat) (i y : Nat) (hi : i < l.length) (hl : Byt l) (hy : y < 256) (h : crc (l.set i y) = crc l) : y = at_ l i := by
  rw [set_parts l i y hi] at h
  conv at h => rhs; rw [self_parts l i hi]
  exact crc_turn _ _ _ _ (hl.take i) (hl.drop (i + 1)) hy (at_lt hl i) h
theorem val_set (l : List Nat) (i y : Nat) (hi : i < l.length) (h : val (l.set i y) = val l) : y = at_ l i := by
  rw [set_parts l i y hi] at h
  conv at h => rhs; rw [self_parts l i hi]
  exact val_turn _ _ _ _ h

theorem pow_lt8 (r : Nat) (h : r < 8) : 2 ^ r < 256 := by
  have : 2 ^ r ≤ 2 ^ 7 := Nat.pow_le_pow_right (by omega) (by omega)
  omega
theorem xor_bit (Y r : Nat) (hY : Y < 256) (hr : r < 8) : bits .xor .u8 (Y : Int) (IntKind.u8.wrap (2 ^ min (IntKind.u64.wrap (r : Int)).toNat 8)) = ((Y ^^^ 2 ^ r : Nat) : Int) := by
  have e1 : IntKind.u64.wrap (r : Int) = (r : Int) := by rw [IntKind.wrap_u64]; omega
  have e2 : min ((r : Int)).toNat 8 = r := by omega
  have e3 : IntKind.u8.wrap (2 ^ r) = ((2 ^ r : Nat) : Int) := by
    have h8 := pow_lt8 r hr
    have e : (2 : Int) ^ r = ((2 ^ r : Nat) : Int) := by simp
    rw [e, IntKind.wrap_u8]
    generalize (2 : Nat) ^ r = p at h8
    omega
  rw [e1, e2, e3]
  exact u8_xor_nat Y (2 ^ r) hY (pow_lt8 r hr)
/-! A record that is whole, behind it whatever. -/
theorem take_app (a b : List Nat) (n : Nat) (h : a.length = n) : (a ++ b).take n = a := by subst h; simp
theorem drop_app (a b : List Nat) (n : Nat) (h : a.length = n) : (a ++ b).drop n = b := by subst h; simp
theorem head_2 (x k : Nat) (l r : List Nat) : (recHead x k l ++ r).take 2 = be 2 l.length := by
  unfold recHead; rw [List.append_assoc, List.append_assoc, List.append_assoc]; exact take_app _ _ _ (be_len _ _)
theorem fLen_head (x k : Nat) (l r : List Nat) (hl : l.length ≤ 255) : fLen (recHead x k l ++ r) = l.length := by
  unfold fLen; rw [head_2]; exact val_be 2 _ (by omega)
theorem frame_yes (x k : Nat) (l r : List Nat) (hl : l.length ≤ 255) (hk : k < 256) (hb : Byt l) : frameOk (recBytes x k l ++ r) = true := by
  have e : recBytes x k l ++ r = recHead x k l ++ (be 4 (crc (recHead x k l)) ++ r) := by unfold recBytes; rw [List.append_assoc]
  have hlen : (recHead x k l ++ (be 4 (crc (recHead x k l)) ++ r)).length = 15 + l.length + r.length := by simp [recHead_len, be_len]; omega
  rw [e]
  have hf := fLen_head x k l (be 4 (crc (recHead x k l)) ++ r) hl
  refine frameOk_yes (ffOk_yes (by omega) (by omega) (by omega)) ?_
  unfold fSum
  rw [hf, take_app _ _ _ (recHead_len x k l), drop_app _ _ _ (recHead_len x k l), take_app _ _ _ (be_len _ _), val_be 4 _ (crc_lt _ (recHead_byt x k l hk hb))]
  simp
theorem frame_rec (x k : Nat) (l r : List Nat) (hl : l.length ≤ 255) (hx : x < 18446744073709551616) : recOf (recBytes x k l ++ r) = ⟨x, k, l⟩ := by
  have e : recBytes x k l ++ r = recHead x k l ++ (be 4 (crc (recHead x k l)) ++ r) := by unfold recBytes; rw [List.append_assoc]
  have hf := fLen_head x k l (be 4 (crc (recHead x k l)) ++ r) hl
  rw [e]
  unfold recOf
  rw [hf]
  unfold recHead
  generalize be 4 _ ++ r = q
  have h2 : (be 2 l.length ++ be 8 x ++ [k] ++ l ++ q).drop 2 = be 8 x ++ ([k] ++ (l ++ q)) := by
    simp only [List.append_assoc]; exact drop_app _ _ _ (be_len _ _)
  have h11 : (be 2 l.length ++ be 8 x ++ [k] ++ l ++ q).drop 11 = l ++ q := by
    rw [List.append_assoc (be 2 l.length ++ be 8 x ++ [k])]; exact drop_app _ _ _ (by simp [be_len])
  have h10 : (be 2 l.length ++ be 8 x ++ [k] ++ l ++ q).drop 10 = k :: (l ++ q) := by
    rw [show be 2 l.length ++ be 8 x ++ [k] ++ l ++ q = (be 2 l.length ++ be 8 x) ++ (k :: (l ++ q)) by simp]; exact drop_app _ _ _ (by simp [be_len])
  have a10 : at_ (be 2 l.length ++ be 8 x ++ [k] ++ l ++ q) 10 = k := by
    have := at_drop (be 2 l.length ++ be 8 x ++ [k] ++ l ++ q) 10 0
    rw [h10] at this
    rw [show (10 : Nat) = 10 + 0 from rfl, ← this]; simp [at_]
  rw [h2, h11, a10, take_app _ _ _ (be_len _ _), take_app _ _ _ rfl, val_be 8 _ hx]
theorem frame_len (x k : Nat) (l r : List Nat) (hl : l.length ≤ 255) : fLen (recBytes x k l ++ r) = l.length := by
  have e : recBytes x k l ++ r = recHead x k l ++ (be 4 (crc (recHead x k l)) ++ r) := by unfold recBytes; rw [List.append_assoc]
  rw [e]; exact fLen_head x k l _ hl
/-- its end is cut off -/
theorem frame_cut (x k : Nat) (l : List Nat) (hl : l.length ≤ 255) (p : Nat) (hp : p < 15 + l.length) : frameOk ((recBytes x k l).take p) = false := by
  have hlen := recBytes_len x k l
  by_cases h15 : p < 15
  · exact frameOk_ffno (ffOk_short (by rw [List.length_take]; omega))
  · refine frameOk_ffno (ffOk_cut ?_)
    have hf : fLen ((recBytes x k l).take p) = l.length := by
      unfold fLen
      rw [List.take_take, show min 2 p = 2 by omega]
      have := frame_len x k l [] hl
      rw [List.append_nil] at this; exact this
    rw [hf, List.length_take]; omega
/-- a byte behind its length is turned -/
theorem frame_turn (x k : Nat) (l r : List Nat) (hl : l.length ≤ 255) (hk : k < 256) (hb : Byt l) (p y : Nat) (hp : 2 ≤ p) (hp2 : p < 15 + l.length) (hy : y < 256) (hne : y ≠ at_ (recBytes x k l) p) :
    frameOk ((recBytes x k l).set p y ++ r) = false := by
  have hH := recHead_len x k l
  have hB := recHead_byt x k l hk hb
  have hf : fLen ((recBytes x k l).set p y ++ r) = l.length := by
    have h0 := frame_len x k l r hl
    unfold fLen at h0 ⊢
    rw [List.take_append_of_le_length (by rw [List.length_set, recBytes_len]; omega)]
    rw [List.take_append_of_le_length (by rw [recBytes_len]; omega)] at h0
    rw [List.take_set_of_le hp]; exact h0
  refine frameOk_sumno ?_
  unfold fSum
  rw [hf]
  have hcv := val_be 4 _ (crc_lt _ hB)
  by_cases hin : p < 11 + l.length
  · have e : (recBytes x k l).set p y ++ r = (recHead x k l).set p y ++ (be 4 (crc (recHead x k l)) ++ r) := by
      unfold recBytes; rw [List.set_append_left _ _ (by omega), List.append_assoc]
    rw [e, take_app _ _ _ (by rw [List.length_set]; exact hH), drop_app _ _ _ (by rw [List.length_set]; exact hH), take_app _ _ _ (be_len _ _), hcv]
    have ha : at_ (recBytes x k l) p = at_ (recHead x k l) p := by unfold recBytes at_; simp [List.getElem?_append_left (show p < (recHead x k l).length by omega)]
    have : crc ((recHead x k l).set p y) ≠ crc (recHead x k l) := fun h => hne (by rw [ha]; exact crc_set _ _ _ (by omega) hB hy h)
    simp [this]
  · have e : (recBytes x k l).set p y ++ r = recHead x k l ++ ((be 4 (crc (recHead x k l))).set (p - (11 + l.length)) y ++ r) := by
      unfold recBytes; rw [List.set_append_right _ _ (by omega), hH, List.append_assoc]
    rw [e, take_app _ _ _ hH, drop_app _ _ _ hH, take_app _ _ _ (by rw [List.length_set]; exact be_len _ _)]
    have ha : at_ (recBytes x k l) p = at_ (be 4 (crc (recHead x k l))) (p - (11 + l.length)) := by unfold recBytes at_; simp [List.getElem?_append_right (show (recHead x k l).length ≤ p by omega), hH]
    have : crc (recHead x k l) ≠ val ((be 4 (crc (recHead x k l))).set (p - (11 + l.length)) y) := fun h => hne (by
      rw [ha]; exact val_set _ _ _ (by rw [be_len]; omega) (by rw [← h, hcv]))
    simp [this]
end Go.Proofs.YtfkoflldjnlhaaaDoor
