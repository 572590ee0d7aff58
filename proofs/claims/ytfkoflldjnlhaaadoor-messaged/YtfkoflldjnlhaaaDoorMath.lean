
/- THE PLAIN MATHEMATICS of records and messages as bytes: the sum (CRC-32) bit by bit and by a table; numbers as bytes. It imports nothing of the dump. -/
namespace Go.Proofs.YtfkoflldjnlhaaaDoor.Sc

/-- one bit of the sum's reckoning -/
def half (c : Nat) : Nat := if c % 2 = 1 then (c / 2) ^^^ 3988292384 else c / 2
def halves : Nat → Nat → Nat
  | 0, c => c
  | k + 1, c => half (halves k c)
def crcS (c : Nat) (l : List Nat) : Nat := l.foldl (fun c b => halves 8 (c ^^^ b)) c
def crc (l : List Nat) : Nat := 4294967295 ^^^ crcS 4294967295 l

theorem xor_div2 (a b : Nat) : (a ^^^ b) / 2 = a / 2 ^^^ b / 2 := by
  have := Nat.shiftRight_xor_distrib (a := a) (b := b) (i := 1)
  simpa [Nat.shiftRight_eq_div_pow] using this
theorem xor_mod2 (a b : Nat) : (a ^^^ b) % 2 = (a + b) % 2 := by
  have h := Nat.xor_mod_two_pow (a := a) (b := b) (n := 1)
  rw [show (2 : Nat) ^ 1 = 2 from rfl] at h
  rw [h]
  rcases Nat.mod_two_eq_zero_or_one a with ha | ha <;> rcases Nat.mod_two_eq_zero_or_one b with hb | hb <;> rw [ha, hb] <;> simp <;> omega
theorem half_xor (a b : Nat) : half (a ^^^ b) = half a ^^^ half b := by
  unfold half
  have h1 := xor_div2 a b
  have h2 := xor_mod2 a b
  rw [h1, h2]
  rcases Nat.mod_two_eq_zero_or_one a with ha | ha <;> rcases Nat.mod_two_eq_zero_or_one b with hb | hb
  · rw [if_neg (by omega), if_neg (by omega), if_neg (by omega)]
  · rw [if_pos (by omega), if_neg (by omega), if_pos (by omega), Nat.xor_assoc]
  · rw [if_pos (by omega), if_pos (by omega), if_neg (by omega), Nat.xor_assoc, Nat.xor_assoc, Nat.xor_comm (b / 2)]
  · rw [if_neg (by omega), if_pos (by omega), if_pos (by omega), Nat.xor_assoc, Nat.xor_comm 3988292384, Nat.xor_assoc, Nat.xor_self, Nat.xor_zero]
theorem halves_xor (k a b : Nat) : halves k (a ^^^ b) = halves k a ^^^ halves k b := by
  induction k with
  | zero => rfl
  | succ k ih => simp only [halves, ih, half_xor]
theorem halves_half (k c : Nat) : halves k (half c) = half (halves k c) := by
  induction k with
  | zero => rfl
  | succ k ih => simp only [halves, ih]
theorem halves_shift (k d : Nat) : halves k (2 ^ k * d) = d := by
  induction k generalizing d with
  | zero => simp [halves]
  | succ k ih =>
    have e : 2 ^ (k + 1) * d = 2 ^ k * (2 * d) := by rw [Nat.pow_succ, Nat.mul_assoc]
    rw [e]
    simp only [halves, ih]
    unfold half
    rw [if_neg (by omega)]
    omega
theorem half_lt (c : Nat) (h : c < 4294967296) : half c < 4294967296 := by
  unfold half
  have h1 : c / 2 < 2 ^ 32 := by omega
  split
  · exact Nat.xor_lt_two_pow h1 (by decide)
  · exact h1
theorem halves_lt (k c : Nat) (h : c < 4294967296) : halves k c < 4294967296 := by
  induction k with
  | zero => exact h
  | succ k ih => exact half_lt _ ih
theorem xor_lt32 (a b : Nat) (ha : a < 4294967296) (hb : b < 4294967296) : a ^^^ b < 4294967296 := Nat.xor_lt_two_pow (n := 32) ha hb
theorem xor_lt8 (a b : Nat) (ha : a < 256) (hb : b < 256) : a ^^^ b < 256 := Nat.xor_lt_two_pow (n := 8) ha hb
theorem split8 (s : Nat) : s = (s % 256) ^^^ (256 * (s / 256)) := by
  refine Nat.eq_of_testBit_eq fun i => ?_
  rw [Nat.testBit_xor, show (256 : Nat) = 2 ^ 8 from rfl, Nat.testBit_mod_two_pow, Nat.testBit_two_pow_mul, Nat.testBit_div_two_pow]
  by_cases h : i < 8
  · have : ¬ 8 ≤ i := by omega
    simp [h, this]
  · have h2 : 8 ≤ i := by omega
    simp [h, h2]
/-- one byte by the table -/
def tstep (s b : Nat) : Nat := halves 8 ((s % 256) ^^^ b) ^^^ (s / 256)
theorem tstep_eq (s b : Nat) : tstep s b = halves 8 (s ^^^ b) := by
  have e : s ^^^ b = ((s % 256) ^^^ b) ^^^ (256 * (s / 256)) := by
    conv => lhs; rw [split8 s]
    rw [Nat.xor_assoc, Nat.xor_comm (256 * (s / 256)) b, ← Nat.xor_assoc]
  rw [e, halves_xor, show (256 : Nat) = 2 ^ 8 from rfl, halves_shift]
  rfl
theorem crcS_snoc (c : Nat) (l : List Nat) (b : Nat) : crcS c (l ++ [b]) = halves 8 (crcS c l ^^^ b) := by simp [crcS]
theorem crcS_lt (c : Nat) (l : List Nat) (hc : c < 4294967296) (hl : ∀ b ∈ l, b < 256) : crcS c l < 4294967296 := by
  induction l generalizing c with
  | nil => exact hc
  | cons b l ih =>
    have hb : b < 256 := hl b (by simp)
    show crcS (halves 8 (c ^^^ b)) l < _
    exact ih _ (halves_lt _ _ (xor_lt32 _ _ hc (by omega))) (fun x hx => hl x (by simp [hx]))
theorem crc_lt (l : List Nat) (hl : ∀ b ∈ l, b < 256) : crc l < 4294967296 := xor_lt32 _ _ (by decide) (crcS_lt _ _ (by decide) hl)

/-! Numbers as bytes, the highest first -/
def digit (k n j : Nat) : Nat := n / 256 ^ (k - 1 - j) % 256
def be (k n : Nat) : List Nat := (List.range k).map (digit k n)
def val (l : List Nat) : Nat := l.foldl (fun n b => n * 256 + b) 0
theorem be_len (k n : Nat) : (be k n).length = k := by simp [be]
theorem be_lt (k n : Nat) : ∀ b ∈ be k n, b < 256 := by
  intro b hb
  simp only [be, List.mem_map, digit] at hb
  obtain ⟨j, _, rfl⟩ := hb
  omega
theorem val_snoc (l : List Nat) (b : Nat) : val (l ++ [b]) = val l * 256 + b := by simp [val]
theorem val_aux (l : List Nat) (n : Nat) (hl : ∀ b ∈ l, b < 256) : l.foldl (fun n b => n * 256 + b) n < (n + 1) * 256 ^ l.length := by
  induction l generalizing n with
  | nil => simp
  | cons b l ih =>
    have h2 := hl b (by simp)
    have h1 := ih (n * 256 + b) (fun x hx => hl x (by simp [hx]))
    refine Nat.lt_of_lt_of_le h1 ?_
    rw [List.length_cons, Nat.pow_succ, Nat.mul_comm (256 ^ l.length) 256, ← Nat.mul_assoc]
    exact Nat.mul_le_mul_right _ (by omega)
theorem val_lt (l : List Nat) (hl : ∀ b ∈ l, b < 256) : val l < 256 ^ l.length := by
  have := val_aux l 0 hl
  simpa [val] using this
theorem val_be_aux (k n j : Nat) (h : j ≤ k) : val ((List.range j).map (digit k n)) = n / 256 ^ (k - j) % 256 ^ j := by
  induction j with
  | zero => simp [val, Nat.mod_one]
  | succ j ih =>
    rw [List.range_succ, List.map_append, List.map_singleton, val_snoc, ih (by omega)]
    unfold digit
    have e : k - j = (k - (j + 1)) + 1 := by omega
    have e2 : k - 1 - j = k - (j + 1) := by omega
    rw [e, e2, Nat.pow_succ, ← Nat.div_div_eq_div_mul]
    generalize n / 256 ^ (k - (j + 1)) = m
    rw [Nat.pow_succ, Nat.mul_comm (256 ^ j) 256, Nat.mod_mul]
    omega
theorem val_be (k n : Nat) (h : n < 256 ^ k) : val (be k n) = n := by
  have := val_be_aux k n k (Nat.le_refl _)
  rw [Nat.sub_self, Nat.pow_zero, Nat.div_one, Nat.mod_eq_of_lt h] at this
  exact this
end Go.Proofs.YtfkoflldjnlhaaaDoor.Sc
