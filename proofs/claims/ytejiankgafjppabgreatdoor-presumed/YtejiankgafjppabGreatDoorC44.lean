import Derived.Test.YtejiankgafjppabGreatDoorC43
/- Presumed's MATHEMATICS: votes, parts, who is done. -/
namespace Go.Proofs.YtejiankgafjppabGreatDoor
open Go.RowKit Go.Shelf Go.Maps
open Sc

theorem partsL_at {xs : List Nat} (e : Nat) (hx : ∀ x ∈ xs, x < 9) : ∀ k, (partsL xs e).getD k 0 = if k ∈ xs then e else 0 := by
  have key : ∀ (l ps : List Nat), ps.length = 9 → (∀ x ∈ l, x < 9) → ∀ k, (l.foldl (fun ps x => ps.set x e) ps).getD k 0 = if k ∈ l then e else ps.getD k 0 := by
    intro l
    induction l with
    | nil => intro ps _ _ k; simp
    | cons a r ih =>
      intro ps hl hb k
      rw [List.foldl_cons, ih (ps.set a e) (by simp [hl]) (fun x hx => hb x (by simp [hx])), getD_set (by rw [hl]; exact hb a (by simp))]
      by_cases h1 : k ∈ r
      · simp [h1]
      · by_cases h2 : k = a
        · simp [h2]
        · simp [h1, h2]
  intro k
  unfold partsL
  rw [key xs _ rfl hx]
  by_cases h : k ∈ xs
  · simp [h]
  · simp only [h, if_false]
    by_cases hk : k < 9
    · rcases below9 hk with rfl | rfl | rfl | rfl | rfl | rfl | rfl | rfl | rfl <;> rfl
    · simp [List.getD_eq_getElem?_getD, List.getElem?_eq_none (show ([0, 0, 0, 0, 0, 0, 0, 0, 0] : List Nat).length ≤ k by simp; omega)]
/-- the parts behind i votes -/
def pvs (l : List Nat) (vt : Nat → Nat) (i : Nat) : List Nat := (List.range i).foldl (fun ps j => ps.set (l.getD j 0) (vt j)) (partsL l 1)
theorem pvs_zero (l : List Nat) (vt : Nat → Nat) : pvs l vt 0 = partsL l 1 := rfl
theorem pvs_succ (l : List Nat) (vt : Nat → Nat) (i : Nat) : pvs l vt (i + 1) = (pvs l vt i).set (l.getD i 0) (vt i) := by unfold pvs; rw [List.range_succ, List.foldl_append]; rfl
theorem pvs_len (l : List Nat) (vt : Nat → Nat) : ∀ i, (pvs l vt i).length = 9 := by
  intro i
  induction i with
  | zero => exact partsL_len l 1
  | succ i ih => rw [pvs_succ, List.length_set, ih]
section
variable {l : List Nat} {vt : Nat → Nat} (hr : Rising l)
include hr
theorem Rising.at {j : Nat} (hj : j < l.length) : l.getD j 0 ∈ l ∧ 1 ≤ l.getD j 0 ∧ l.getD j 0 < 9 := by
  have e : l.getD j 0 = l[j] := by simp [hj]
  have hm : l[j] ∈ l := List.getElem_mem hj
  have := hr.b _ hm
  rw [e]
  exact ⟨hm, this.1, by omega⟩
theorem Rising.inj {i j : Nat} (hi : i < l.length) (hj : j < l.length) (h : l.getD i 0 = l.getD j 0) : i = j := by
  have ei : l.getD i 0 = l[i] := by simp [hi]
  have ej : l.getD j 0 = l[j] := by simp [hj]
  rw [ei, ej] at h
  rcases Nat.lt_trichotomy i j with h1 | h1 | h1
  · have := List.pairwise_iff_getElem.1 hr.up i j hi hj h1; omega
  · exact h1
  · have := List.pairwise_iff_getElem.1 hr.up j i hj hi h1; omega
omit hr in
theorem list_ix {k : Nat} (hk : k ∈ l) : ∃ j, j < l.length ∧ l.getD j 0 = k := by
  obtain ⟨j, hj, e⟩ := List.mem_iff_getElem.1 hk
  exact ⟨j, hj, by simp [hj, e]⟩
theorem Rising.lt9 : ∀ x ∈ l, x < 9 := fun x hx => by have := hr.b x hx; omega
theorem pvs_at (i : Nat) (hi : i ≤ l.length) : (∀ j, j < i → (pvs l vt i).getD (l.getD j 0) 0 = vt j) ∧ (∀ j, i ≤ j → j < l.length → (pvs l vt i).getD (l.getD j 0) 0 = 1) ∧ ∀ k, k ∉ l → (pvs l vt i).getD k 0 = 0 := by
  induction i with
  | zero =>
    refine ⟨fun j hj => by omega, fun j _ hj => ?_, fun k hk => ?_⟩
    · rw [pvs_zero, partsL_at 1 hr.lt9, if_pos (hr.at hj).1]
    · rw [pvs_zero, partsL_at 1 hr.lt9, if_neg hk]
  | succ i ih =>
    obtain ⟨h1, h2, h3⟩ := ih (by omega)
    have hlt : l.getD i 0 < (pvs l vt i).length := by rw [pvs_len]; exact (hr.at (by omega)).2.2
    refine ⟨fun j hj => ?_, fun j hj hjl => ?_, fun k hk => ?_⟩
    · rw [pvs_succ, getD_set hlt]
      by_cases e : j = i
      · subst e; simp
      · rw [if_neg (fun e2 => e (hr.inj (by omega) (by omega) e2))]
        exact h1 j (by omega)
    · rw [pvs_succ, getD_set hlt, if_neg (fun e2 => by have := hr.inj hjl (by omega) e2; omega)]
      exact h2 j (by omega) hjl
    · rw [pvs_succ, getD_set hlt, if_neg (fun e2 => hk (by rw [e2]; exact (hr.at (by omega)).1))]
      exact h3 k hk
/-- what a place behind i votes may have -/
theorem pvs_cases (i : Nat) (hi : i ≤ l.length) (k : Nat) : (pvs l vt i).getD k 0 = 0 ∨ (∃ j, j < i ∧ l.getD j 0 = k ∧ (pvs l vt i).getD k 0 = vt j) ∨ ∃ j, i ≤ j ∧ j < l.length ∧ l.getD j 0 = k ∧ (pvs l vt i).getD k 0 = 1 := by
  obtain ⟨h1, h2, h3⟩ := pvs_at (vt := vt) hr i hi
  by_cases hk : k ∈ l
  · obtain ⟨j, hj, rfl⟩ := list_ix hk
    by_cases e : j < i
    · exact .inr (.inl ⟨j, e, rfl, h1 j e⟩)
    · exact .inr (.inr ⟨j, by omega, hj, rfl, h2 j (by omega) hj⟩)
  · exact .inl (h3 k hk)
theorem aw_more (i : Nat) (hi : i < l.length) : (pvs l vt i).any isAw = true := by
  cases h : (pvs l vt i).any isAw with
  | true => rfl
  | false =>
    have := (any_getD (pvs_len l vt i)).1 h (l.getD i 0) (hr.at hi).2.2
    rw [(pvs_at hr i (by omega)).2.1 i (Nat.le_refl _) hi] at this
    cases this
theorem aw_none (hv : ∀ j, vt j ≠ 1) : (pvs l vt l.length).any isAw = false := by
  rw [any_getD (pvs_len l vt _)]
  intro k _
  rcases pvs_cases hr l.length (Nat.le_refl _) k (vt := vt) with h | ⟨j, _, _, h⟩ | ⟨j, h1, h2, _⟩
  · rw [h]; rfl
  · rw [h]
    unfold isAw
    simpa using hv j
  · omega
/-- one said Yes -/
theorem hasY_some (hv : ∀ j, vt j = 2 ∨ vt j = 3 ∨ vt j = 4) : (pvs l vt l.length).any hasY = true ↔ ∃ j, j < l.length ∧ vt j = 2 := by
  constructor
  · intro h
    have hn : ¬ (pvs l vt l.length).any hasY = false := by rw [h]; simp
    rw [any_getD (pvs_len l vt _)] at hn
    have : ∃ k, k < 9 ∧ hasY ((pvs l vt l.length).getD k 0) = true := by
      refine Classical.byContradiction fun hc => hn fun k hk => ?_
      cases hq : hasY ((pvs l vt l.length).getD k 0) with
      | false => rfl
      | true => exact absurd ⟨k, hk, hq⟩ hc
    obtain ⟨k, _, hq⟩ := this
    rcases pvs_cases hr l.length (Nat.le_refl _) k (vt := vt) with h | ⟨j, h1, _, h⟩ | ⟨j, h1, h2, _⟩
    · rw [h] at hq; cases hq
    · rw [h] at hq
      refine ⟨j, h1, ?_⟩
      rcases hv j with e | e | e
      · exact e
      · rw [e] at hq; cases hq
      · rw [e] at hq; cases hq
    · omega
  · rintro ⟨j, hj, hvj⟩
    cases h : (pvs l vt l.length).any hasY with
    | true => rfl
    | false =>
      have := (any_getD (pvs_len l vt _)).1 h (l.getD j 0) (hr.at hj).2.2
      rw [(pvs_at hr l.length (Nat.le_refl _)).1 j hj, hvj] at this
      cases this
/-- those that said Yes -/
theorem yes_mem (hv : ∀ j, vt j = 2 ∨ vt j = 3 ∨ vt j = 4) (k : Nat) : k ∈ meant hasY (pvs l vt l.length) ↔ ∃ j, j < l.length ∧ l.getD j 0 = k ∧ vt j = 2 := by
  unfold meant meantTo
  rw [List.mem_filter, List.mem_range]
  constructor
  · rintro ⟨_, hq⟩
    rcases pvs_cases hr l.length (Nat.le_refl _) k (vt := vt) with h | ⟨j, h1, h2, h⟩ | ⟨j, h1, h2, _⟩
    · rw [h] at hq; cases hq
    · rw [h] at hq
      refine ⟨j, h1, h2, ?_⟩
      rcases hv j with e | e | e
      · exact e
      · rw [e] at hq; cases hq
      · rw [e] at hq; cases hq
    · omega
  · rintro ⟨j, hj, rfl, hvj⟩
    refine ⟨(hr.at hj).2.2, ?_⟩
    rw [(pvs_at hr l.length (Nat.le_refl _)).1 j hj, hvj]
    rfl
theorem yes_rising (hv : ∀ j, vt j = 2 ∨ vt j = 3 ∨ vt j = 4) (he : ∃ j, j < l.length ∧ vt j = 2) : Rising (meant hasY (pvs l vt l.length)) := by
  refine ⟨fun h => ?_, List.pairwise_lt_range.filter _, fun x hx => ?_⟩
  · obtain ⟨j, hj, hvj⟩ := he
    have := (yes_mem hr hv (l.getD j 0)).2 ⟨j, hj, rfl, hvj⟩
    rw [h] at this
    cases this
  · obtain ⟨j, hj, rfl, _⟩ := (yes_mem hr hv x).1 hx
    have := hr.at hj
    omega
end
/-- who is still to be done, from the i-th on -/
structure ToDo (l : List Nat) (vt : Nat → Nat) (ps : List Nat) (i : Nat) : Prop where
  len : ps.length = 9
  on : ∀ j, i ≤ j → j < l.length → vt j = 2 → ps.getD (l.getD j 0) 0 = 2
  only : ∀ k, ps.getD k 0 = 2 → ∃ j, i ≤ j ∧ j < l.length ∧ l.getD j 0 = k ∧ vt j = 2
section
variable {l : List Nat} {vt : Nat → Nat} (hr : Rising l)
include hr
theorem ToDo.votes : ToDo l vt (pvs l vt l.length) 0 := by
  refine ⟨pvs_len l vt _, fun j _ hj hvj => by rw [(pvs_at hr l.length (Nat.le_refl _)).1 j hj, hvj], fun k hk => ?_⟩
  rcases pvs_cases hr l.length (Nat.le_refl _) k (vt := vt) with h | ⟨j, h1, h2, h⟩ | ⟨j, h1, h2, _⟩
  · omega
  · exact ⟨j, Nat.zero_le _, h1, h2, by omega⟩
  · omega
theorem ToDo.read (hv : ∀ j, vt j = 2 ∨ vt j = 3 ∨ vt j = 4) : ToDo l vt (partsL (meant hasY (pvs l vt l.length)) 2) 0 := by
  have h9 : ∀ x ∈ meant hasY (pvs l vt l.length), x < 9 := fun x hx => meant_lt hx
  refine ⟨partsL_len _ _, fun j _ hj hvj => ?_, fun k hk => ?_⟩
  · rw [partsL_at 2 h9, if_pos ((yes_mem hr hv _).2 ⟨j, hj, rfl, hvj⟩)]
  · rw [partsL_at 2 h9] at hk
    by_cases hm : k ∈ meant hasY (pvs l vt l.length)
    · obtain ⟨j, h1, h2, h3⟩ := (yes_mem hr hv k).1 hm
      exact ⟨j, Nat.zero_le _, h1, h2, h3⟩
    · rw [if_neg hm] at hk; omega
omit hr in
theorem ToDo.skip {ps : List Nat} {i : Nat} (h : ToDo l vt ps i) (hi : vt i ≠ 2) : ToDo l vt ps (i + 1) :=
  ⟨h.len, fun j hj hl hvj => h.on j (by omega) hl hvj, fun k hk => by
    obtain ⟨j, h1, h2, h3, h4⟩ := h.only k hk
    have : j ≠ i := fun e => hi (by rw [← e]; exact h4)
    exact ⟨j, by omega, h2, h3, h4⟩⟩
theorem ToDo.step {ps : List Nat} {i : Nat} (h : ToDo l vt ps i) (hil : i < l.length) : ToDo l vt (ps.set (l.getD i 0) 5) (i + 1) := by
  have hlt : l.getD i 0 < ps.length := by rw [h.len]; exact (hr.at hil).2.2
  refine ⟨by rw [List.length_set, h.len], fun j hj hl hvj => ?_, fun k hk => ?_⟩
  · rw [getD_set hlt, if_neg (fun e => by have := hr.inj hl hil e; omega)]
    exact h.on j (by omega) hl hvj
  · rw [getD_set hlt] at hk
    by_cases e : k = l.getD i 0
    · rw [if_pos e] at hk; omega
    · rw [if_neg e] at hk
      obtain ⟨j, h1, h2, h3, h4⟩ := h.only k hk
      have : j ≠ i := fun e2 => e (by rw [← h3, e2])
      exact ⟨j, by omega, h2, h3, h4⟩
theorem ToDo.any {ps : List Nat} {i : Nat} (h : ToDo l vt ps i) : ps.any isToC = true ↔ ∃ j, i ≤ j ∧ j < l.length ∧ vt j = 2 := by
  constructor
  · intro ha
    obtain ⟨x, hx, hq⟩ := List.any_eq_true.1 ha
    obtain ⟨k, hk, rfl⟩ := List.mem_iff_getElem.1 hx
    have e : ps.getD k 0 = 2 := by
      have : ps.getD k 0 = ps[k] := by simp [hk]
      rw [this]
      simpa [isToC] using hq
    obtain ⟨j, h1, h2, _, h4⟩ := h.only k e
    exact ⟨j, h1, h2, h4⟩
  · rintro ⟨j, h1, h2, h3⟩
    cases hc : ps.any isToC with
    | true => rfl
    | false =>
      have := (any_getD h.len).1 hc (l.getD j 0) (hr.at h2).2.2
      rw [h.on j h1 h2 h3] at this
      cases this
end
/-- how many of the first i said Yes -/
def cnt (vt : Nat → Nat) (i : Nat) : Nat := ((List.range i).filter fun j => vt j == 2).length
theorem cnt_succ (vt : Nat → Nat) (i : Nat) : cnt vt (i + 1) = cnt vt i + if vt i = 2 then 1 else 0 := by
  unfold cnt
  rw [List.range_succ, List.filter_append, List.length_append]
  by_cases h : vt i = 2 <;> simp [h]
theorem cnt_le (vt : Nat → Nat) (i : Nat) : cnt vt i ≤ i := by
  unfold cnt
  refine Nat.le_trans (List.length_filter_le _ _) ?_
  simp
theorem cnt_mono (vt : Nat → Nat) {i j : Nat} (h : i ≤ j) : cnt vt i ≤ cnt vt j := by
  induction j with
  | zero => have : i = 0 := by omega
            subst this; exact Nat.le_refl _
  | succ j ih =>
    by_cases e : i = j + 1
    · subst e; exact Nat.le_refl _
    · have := ih (by omega)
      rw [cnt_succ]
      omega
theorem cnt_lt {vt : Nat → Nat} {i n : Nat} (hi : i ≤ n) : cnt vt i < cnt vt n ↔ ∃ j, i ≤ j ∧ j < n ∧ vt j = 2 := by
  induction n with
  | zero =>
    have : i = 0 := by omega
    subst this
    exact ⟨fun h => absurd h (Nat.lt_irrefl _), fun ⟨j, _, h, _⟩ => by omega⟩
  | succ n ih =>
    by_cases e : i = n + 1
    · subst e
      exact ⟨fun h => absurd h (Nat.lt_irrefl _), fun ⟨j, h1, h2, _⟩ => by omega⟩
    · have hi2 : i ≤ n := by omega
      rw [cnt_succ]
      constructor
      · intro h
        by_cases hv : vt n = 2
        · exact ⟨n, hi2, by omega, hv⟩
        · rw [if_neg hv] at h
          obtain ⟨j, h1, h2, h3⟩ := (ih hi2).1 (by omega)
          exact ⟨j, h1, by omega, h3⟩
      · rintro ⟨j, h1, h2, h3⟩
        have hm := cnt_mono vt hi2
        by_cases hv : vt n = 2
        · rw [if_pos hv]; omega
        · rw [if_neg hv]
          have : j ≠ n := fun e => hv (by rw [← e]; exact h3)
          have := (ih hi2).2 ⟨j, h1, by omega, h3⟩
          omega
/-- did one of the first i say No? -/
def bdd (vt : Nat → Nat) (i : Nat) : Bool := (List.range i).any fun j => vt j == 3
theorem bdd_succ (vt : Nat → Nat) (i : Nat) : bdd vt (i + 1) = (bdd vt i || vt i == 3) := by
  unfold bdd
  rw [List.range_succ, List.any_append]
  simp
end Go.Proofs.YtejiankgafjppabGreatDoor
/- THE LAW Presumed: its helpers. -/
namespace Go.Proofs.YtejiankgafjppabGreatDoor
open Go.RowKit Go.Shelf Go.Maps
open Sc

/-- what pick answers -/
def pkC (c : Int) (n : Nat) : Nat := ((if c < 0 then -(c + 1) else c) % (n : Int)).toNat
theorem ret_intC {a b : Int} (h : a = b) : Ending.returned (.int .i64 a) = .returned (.int .i64 b) := by rw [h]
theorem pk_ltC (c : Int) (n : Nat) (hn : 0 < n) : pkC c n < n := by
  unfold pkC
  have h1 := Int.emod_nonneg (if c < 0 then -(c + 1) else c) (show (n : Int) ≠ 0 by omega)
  have h2 := Int.emod_lt_of_pos (if c < 0 then -(c + 1) else c) (show (0 : Int) < (n : Int) by omega)
  omega
set_option maxHeartbeats 400000 in
theorem pick_fnC (c : Int) (n : Nat) (w : World) (hc1 : -9223372036854775808 ≤ c) (hc2 : c ≤ 9223372036854775807) (hn : 0 < n) (hn2 : n ≤ 1099511627776) :
    Calls Tryz.prog 11 #[.int .i64 c, .int .i64 (n : Int)] w fun e w' => e = .returned (.int .i64 (pkC c n : Int)) ∧ w' = w := by
  have hn0 : ¬ (n : Int) = 0 := by omega
  by_cases h : c < 0
  · go_enter Tryz.func11, Tryz.ntmps11
    go_wp2
    go_ret
    have e : -(c + 1).tmod (n : Int) = (-(c + 1)) % (n : Int) := by
      rw [← Int.neg_tmod, Int.tmod_eq_emod_of_nonneg (by omega)]
    have h1 := Int.emod_nonneg (-(c + 1)) hn0
    refine ⟨ret_intC ?_, rfl⟩
    unfold pkC
    rw [e, if_pos h]; omega
  · go_enter Tryz.func11, Tryz.ntmps11
    go_wp2
    go_ret
    have h1 := Int.emod_nonneg c hn0
    refine ⟨ret_intC ?_, rfl⟩
    unfold pkC
    rw [if_neg (by omega)]; omega
set_option maxHeartbeats 1000000 in
theorem well_fnC (w : World) : Calls Tryz.prog 10 #[] w fun e w' => e = .returned wellC ∧ Fr [] w w' := by
  go_enter Tryz.func10, Tryz.ntmps10
  go_wp2
  exact bodyPost_ret (v := wellC) (by simp [results, Tryz.results10, go_sem]) rfl ⟨rfl, (Fr.refl [] w).alloc _⟩
theorem fall_cellsC {w : World} {q : Nat} (h : w.heap[q]? = some (fallO (-1) (-1) 0 0)) : w.cell? ⟨q, 0, none⟩ = some (.int .i64 (-1)) ∧ w.cell? ⟨q, 1, none⟩ = some (.int .i64 (-1)) ∧ w.cell? ⟨q, 2, none⟩ = some (.int .i64 0) ∧ w.cell? ⟨q, 3, none⟩ = some (.int .i64 0) := by
  have x0 := blk_cell h 0
  have x1 := blk_cell h 1
  have x2 := blk_cell h 2
  have x3 := blk_cell h 3
  simp at x0 x1 x2 x3
  exact ⟨x0, x1, x2, x3⟩
/-- numbers that were handed in -/
def IntsIn (w : World) (v : Value) (n : Nat) (S : Nat → Int) : Prop :=
  ∃ ao cap, v = .slice ao n cap ∧ ∀ i, i < n → ∃ b off, ao = some ⟨b, off, none⟩ ∧ b < w.heap.size ∧ w.cell? ⟨b, off + i, none⟩ = some (.int .i64 (S i)) ∧ -9223372036854775808 ≤ S i ∧ S i ≤ 9223372036854775807
theorem IntsIn.below {w w' : World} {v : Value} {n : Nat} {S : Nat → Int} (h : IntsIn w v n S) (hb : Below w.heap.size w w') : IntsIn w' v n S := by
  obtain ⟨ao, cap, h1, h2⟩ := h
  refine ⟨ao, cap, h1, fun i hi => ?_⟩
  obtain ⟨b, off, e1, e2, e3, e4⟩ := h2 i hi
  exact ⟨b, off, e1, by have := hb.size; omega, (hb.cell (p := ⟨b, off + i, none⟩) e2).trans e3, e4⟩
/-- the votes -/
def voteOf (n : Nat) (S : Nat → Int) (i : Nat) : Nat := if i < n then 2 + pkC (S i) 3 else 2
theorem voteOf_is (n : Nat) (S : Nat → Int) (i : Nat) : voteOf n S i = 2 ∨ voteOf n S i = 3 ∨ voteOf n S i = 4 := by
  unfold voteOf
  split
  · have := pk_ltC (S i) 3 (by decide); omega
  · exact .inl rfl
end Go.Proofs.YtejiankgafjppabGreatDoor
/- Presumed: THE STATES OF ITS LOOPS, AND WHAT EACH CALL MAKES OF THEM. -/
namespace Go.Proofs.YtejiankgafjppabGreatDoor
open Go.RowKit Go.Shelf Go.Maps
open Sc

/-- what every world of the walk keeps -/
structure Com (w0 : World) (B Q g : Nat) (l : List Nat) (w : World) : Prop where
  met : Met w
  pows : Pows w
  below : Below B w0 w
  fall : w.heap[Q]? = some (fallO (-1) (-1) 0 0)
  ints : IntsAt w g l
  row : ∃ c, w.heap[g]? = some (.cells c 3 (0, 0))
theorem Com.step {w0 w w' : World} {B Q g : Nat} {l : List Nat} (h : Com w0 B Q g l w) (hB : 2 ≤ B) (hf : IFr B w w') : Com w0 B Q g l w' := by
  obtain ⟨c, hc⟩ := h.row
  have hc' := hf.ints g c hc
  exact ⟨hf.met hB h.met, hf.pows hB h.pows, h.below.trans hf.below, hf.fall _ _ _ _ _ h.fall, fun k x hk => (World.cell?_of_block (a := ⟨g, k, none⟩) (hc'.trans hc.symm)).trans (h.ints k x hk), c, hc'⟩
inductive VC (l : List Nat) (vt : Nat → Nat) (i : Nat) : ACo → List Rec → Prop
  | bad (h : bdd vt i = true) : VC l vt i (cz 2) [eR]
  | wait (h : bdd vt i = false) (hi : i < l.length) : VC l vt i (co1 2 5 (pvs l vt i)) [eR]
  | none (h : bdd vt i = false) (hi : i = l.length) (hno : ¬ ∃ j, j < l.length ∧ vt j = 2) : VC l vt i (cz 2) [eR]
  | yes (h : bdd vt i = false) (hi : i = l.length) (he : ∃ j, j < l.length ∧ vt j = 2) : VC l vt i (co1 2 6 (pvs l vt i)) [eR, eC (meant hasY (pvs l vt i))]
/-- behind i votes -/
def VS (w0 : World) (B hp Q g : Nat) (l : List Nat) (vt : Nat → Nat) (i : Nat) (w : World) : Prop := Com w0 B Q g l w ∧ ∃ c rs, Pv w B hp (13 + 11 * i) c rs ∧ VC l vt i c rs
/-- behind i of those that are done -/
def DS (w0 : World) (B hp Q g : Nat) (l : List Nat) (vt : Nat → Nat) (i : Nat) (w : World) : Prop := Com w0 B Q g l w ∧
  ((bdd vt l.length = false ∧ (∃ j, i ≤ j ∧ j < l.length ∧ vt j = 2) ∧ ∃ nx ps rs, Pv w B hp (200 + 11 * i) (co1 nx 6 ps) rs ∧ ToDo l vt ps i) ∨
   ((bdd vt l.length = true ∨ ¬ ∃ j, i ≤ j ∧ j < l.length ∧ vt j = 2) ∧ ∃ M nx, Pw w B hp M (cz nx)))
/-- the power has failed -/
def LS (w0 : World) (B hp Q g : Nat) (l : List Nat) (vt : Nat → Nat) (w : World) : Prop := Com w0 B Q g l w ∧ ∃ rs, Pc w B hp 150 rs ∧
  ((rs = [eR] ∧ (bdd vt l.length = true ∨ ¬ ∃ j, j < l.length ∧ vt j = 2)) ∨ (rs = [eR, eC (meant hasY (pvs l vt l.length))] ∧ bdd vt l.length = false ∧ ∃ j, j < l.length ∧ vt j = 2))
section
variable {w0 w w' : World} {B hp Q g : Nat} {l : List Nat} {vt : Nat → Nat} {i : Nat}
theorem VS.new (h : VS w0 B hp Q g l vt i w) (hB : 2 ≤ B) (hf : Fr [] w w') : VS w0 B hp Q g l vt i w' := by
  obtain ⟨hc, c, rs, hp, hv⟩ := h
  obtain ⟨hp', hi⟩ := hp.new hf
  exact ⟨hc.step hB hi, c, rs, hp', hv⟩
theorem VS.drew (h : VS w0 B hp Q g l vt i w) (hB : 2 ≤ B) : VS w0 B hp Q g l vt i w.drew := h.new hB (Fr.refl [] w).drew
theorem DS.new (h : DS w0 B hp Q g l vt i w) (hB : 2 ≤ B) (hf : Fr [] w w') (hs : B ≤ w.heap.size) : DS w0 B hp Q g l vt i w' := by
  obtain ⟨hc, h⟩ := h
  have hi := IFr.new hf hs
  refine ⟨hc.step hB hi, ?_⟩
  rcases h with ⟨h1, h2, nx, ps, rs, hp, ht⟩ | ⟨h1, M, nx, m, n, l, d, a1, a2, a3⟩
  · exact .inl ⟨h1, h2, nx, ps, rs, (hp.new hf).1, ht⟩
  · exact .inr ⟨h1, M, nx, m, n, l, d, a1, a2, (a3.new hf).1⟩
theorem DS.drew (h : DS w0 B hp Q g l vt i w) (hB : 2 ≤ B) (hs : B ≤ w.heap.size) : DS w0 B hp Q g l vt i w.drew := h.new hB (Fr.refl [] w).drew hs
theorem vs_answer (h : VS w0 B hp Q g l vt i w) (hi : i < l.length) (hb : bdd vt i = false) :
    Calls Tryz.prog 22 #[.pointer (some ⟨hp, 0, none⟩), .int .u64 1] w fun e w' => e = .returned (.int .i64 0) ∧ w' = w := by
  obtain ⟨hc, c, rs, hp', hv⟩ := h
  cases hv with
  | bad h => rw [hb] at h; cases h
  | wait h hi => exact pwAnswer B hp _ 1 _ w hp'.w (by decide)
  | none h hi' => omega
  | yes h hi' => omega
theorem ds_answer (h : DS w0 B hp Q g l vt i w) (hb : bdd vt l.length = false) (he : ∃ j, i ≤ j ∧ j < l.length ∧ vt j = 2) :
    Calls Tryz.prog 22 #[.pointer (some ⟨hp, 0, none⟩), .int .u64 1] w fun e w' => e = .returned (.int .i64 5) ∧ w' = w := by
  obtain ⟨hc, ⟨_, _, nx, ps, rs, hp', _⟩ | ⟨h1 | h1, _⟩⟩ := h
  · exact pwAnswer B hp _ 1 _ w hp'.w (by decide)
  · rw [hb] at h1; cases h1
  · exact absurd he h1
theorem ds_answer_no (h : DS w0 B hp Q g l vt i w) (hb : bdd vt l.length = true ∨ ¬ ∃ j, i ≤ j ∧ j < l.length ∧ vt j = 2) :
    Calls Tryz.prog 22 #[.pointer (some ⟨hp, 0, none⟩), .int .u64 1] w fun e w' => e = .returned (.int .i64 6) ∧ w' = w := by
  obtain ⟨hc, ⟨h1, h2, _⟩ | ⟨_, M, nx, hp'⟩⟩ := h
  · rcases hb with hb | hb
    · rw [hb] at h1; cases h1
    · exact absurd h2 hb
  · exact pwAnswer B hp _ 1 _ w hp' (by decide)
variable (hr : Rising l) (hv : ∀ j, vt j = 2 ∨ vt j = 3 ∨ vt j = 4)
include hr hv
theorem vs_vote (h : VS w0 B hp Q g l vt i w) (hB : 2 ≤ B) (hi : i < l.length) :
    Calls Tryz.prog 24 #[.pointer (some ⟨hp, 0, none⟩), .int .u64 1, .int .i64 (l.getD i 0 : Nat), .int .i64 (vt i : Nat), wellC] w fun e w' => e = .returned (.int .i64 0) ∧ VS w0 B hp Q g l vt (i + 1) w' := by
  obtain ⟨hc, c, rs, hp', hvc⟩ := h
  have hl8 := hr.len
  have hx := hr.at hi
  have hsucc := bdd_succ vt i
  have hM : 13 + 11 * i ≤ 1000 := by omega
  have e11 : 13 + 11 * i + 11 = 13 + 11 * (i + 1) := by omega
  cases hvc with
  | bad hb =>
    refine (pvVote_not B hp (13 + 11 * i) 2 (l.getD i 0) (vt i) [eR] w hp' hB hc.met hx.2.2 (hv i)).mono ?_
    rintro e w' ⟨rfl, h1, h2⟩
    exact ⟨rfl, hc.step hB h2, _, _, h1.mono (by omega), .bad (by rw [hsucc, hb]; rfl)⟩
  | none hb hi' => omega
  | yes hb hi' => omega
  | wait hb _ =>
    have haw : (pvs l vt i).getD (l.getD i 0) 0 = 1 := (pvs_at hr i (by omega)).2.1 i (Nat.le_refl _) hi
    by_cases h3 : vt i = 3
    · have hno := pvVote_no B hp (13 + 11 * i) 2 (l.getD i 0) (pvs l vt i) [eR] w hp' hB hc.met hM hx.2.2 haw
      rw [h3]
      refine hno.mono ?_
      rintro e w' ⟨rfl, h1, h2⟩
      exact ⟨rfl, hc.step hB h2, _, _, by rw [← e11]; exact h1, .bad (by rw [hsucc, h3]; simp)⟩
    · have hv24 : vt i = 2 ∨ vt i = 4 := by rcases hv i with e | e | e <;> omega
      have hbs : bdd vt (i + 1) = false := by rw [hsucc, hb]; simpa using h3
      by_cases hmore : i + 1 < l.length
      · refine (pvVote_wait B hp (13 + 11 * i) 2 (l.getD i 0) (vt i) (pvs l vt i) [eR] w hp' hB hc.met hM hx.2.2 hv24 haw (by rw [← pvs_succ]; exact aw_more hr (i + 1) hmore)).mono ?_
        rintro e w' ⟨rfl, h1, h2⟩
        exact ⟨rfl, hc.step hB h2, _, _, by rw [← e11]; exact h1, by rw [← pvs_succ]; exact .wait hbs hmore⟩
      · have hlast : i + 1 = l.length := by omega
        have hnone : (pvs l vt (i + 1)).any isAw = false := by rw [hlast]; exact aw_none hr (fun j => by rcases hv j with e | e | e <;> omega)
        by_cases hy : ∃ j, j < l.length ∧ vt j = 2
        · have hY : (pvs l vt (i + 1)).any hasY = true := by rw [hlast]; exact (hasY_some hr hv).2 hy
          refine (pvVote_yes B hp (13 + 11 * i) 2 (l.getD i 0) (vt i) (pvs l vt i) w hp' hB hc.met hc.pows hM hx.2.2 hv24 haw (by rw [← pvs_succ]; exact hnone) (by rw [← pvs_succ]; exact hY)).mono ?_
          rintro e w' ⟨rfl, h1, h2⟩
          exact ⟨rfl, hc.step hB h2, _, _, by rw [← e11]; exact h1, by rw [← pvs_succ]; exact .yes hbs hlast hy⟩
        · have hY : (pvs l vt (i + 1)).any hasY = false := by
            cases e : (pvs l vt (i + 1)).any hasY with
            | false => rfl
            | true => rw [hlast] at e; exact absurd ((hasY_some hr hv).1 e) hy
          refine (pvVote_none B hp (13 + 11 * i) 2 (l.getD i 0) (vt i) (pvs l vt i) [eR] w hp' hB hc.met hM hx.2.2 hv24 haw (by rw [← pvs_succ]; exact hnone) (by rw [← pvs_succ]; exact hY)).mono ?_
          rintro e w' ⟨rfl, h1, h2⟩
          exact ⟨rfl, hc.step hB h2, _, _, by rw [← e11]; exact h1, .none hbs hlast hy⟩
omit hv in
theorem vs_first (hc : Com w0 B Q g l w) (h : Pv w B hp 13 (co1 2 5 (partsL l 1)) [eR]) : VS w0 B hp Q g l vt 0 w :=
  ⟨hc, _, _, h, .wait rfl (List.length_pos_iff.2 hr.ne)⟩
omit hv in
/-- the power does not fail -/
theorem vs_ds (h : VS w0 B hp Q g l vt l.length w) : DS w0 B hp Q g l vt 0 w := by
  obtain ⟨hc, c, rs, hp', hvc⟩ := h
  have hl8 := hr.len
  refine ⟨hc, ?_⟩
  cases hvc with
  | bad hb => exact .inr ⟨.inl hb, _, _, hp'.w⟩
  | wait hb hi => omega
  | none hb hi hno => exact .inr ⟨.inr (fun ⟨j, _, h2, h3⟩ => hno ⟨j, h2, h3⟩), _, _, hp'.w⟩
  | yes hb hi he =>
    obtain ⟨j, h2, h3⟩ := he
    exact .inl ⟨hb, ⟨j, Nat.zero_le _, h2, h3⟩, _, _, _, hp'.mono (by omega), ToDo.votes hr⟩
omit hv in
theorem vs_lose (kept : Int) (h : VS w0 B hp Q g l vt l.length w) (hB : 2 ≤ B) (hhp : B ≤ hp) :
    Calls Tryz.prog 17 #[.pointer (some ⟨hp, 0, none⟩), .int .i64 kept, .int .i64 0] w fun e w' => e = .returned (.tuple #[]) ∧ LS w0 B hp Q g l vt w' := by
  obtain ⟨hc, c, rs, hp', hvc⟩ := h
  have hl8 := hr.len
  have hne : rs ≠ [] := by cases hvc <;> simp
  refine (pvLose B hp 150 _ _ w kept (hp'.mono (by omega)) hhp hne).mono ?_
  rintro e w' ⟨rfl, h1, h2⟩
  refine ⟨rfl, hc.step hB h2, rs, h1, ?_⟩
  cases hvc with
  | bad hb => exact .inl ⟨rfl, .inl hb⟩
  | wait hb hi => omega
  | none hb hi hno => exact .inl ⟨rfl, .inr hno⟩
  | yes hb hi he => exact .inr ⟨rfl, hb, he⟩
theorem vs_open (h : LS w0 B hp Q g l vt w) (hB : 2 ≤ B) (hhp : B ≤ hp) :
    Calls Tryz.prog 18 #[.pointer (some ⟨hp, 0, none⟩), wellC] w fun e w' => e = .returned (.int .i64 0) ∧ DS w0 B hp Q g l vt 0 w' := by
  obtain ⟨hc, rs, hpc, ⟨rfl, hno⟩ | ⟨rfl, hb, he⟩⟩ := h
  · refine (pvOpen1 B hp 150 [eR] w [] (by decide) hpc hB hhp hc.met hc.pows .res (by simp)).mono ?_
    rintro e w' ⟨rfl, h1, h2⟩
    refine ⟨rfl, hc.step hB h2, .inr ⟨?_, _, _, h1.w⟩⟩
    rcases hno with e | e
    · exact .inl e
    · exact .inr (fun ⟨j, _, h2, h3⟩ => e ⟨j, h2, h3⟩)
  · refine (pvOpen1 B hp 150 _ w (meant hasY (pvs l vt l.length)) (by decide) hpc hB hhp hc.met hc.pows (.com (yes_rising hr hv he)) (by simp)).mono ?_
    rintro e w' ⟨rfl, h1, h2⟩
    obtain ⟨j, h3, h4⟩ := he
    exact ⟨rfl, hc.step hB h2, .inl ⟨hb, ⟨j, Nat.zero_le _, h3, h4⟩, _, _, _, h1.mono (by omega), ToDo.read hr hv⟩⟩
omit hv in
theorem ds_done (h : DS w0 B hp Q g l vt i w) (hB : 2 ≤ B) (hi : i < l.length) (hb : bdd vt l.length = false) (h2 : vt i = 2) :
    Calls Tryz.prog 25 #[.pointer (some ⟨hp, 0, none⟩), .int .u64 1, .int .i64 (l.getD i 0 : Nat), wellC] w fun e w' => e = .returned (.int .i64 0) ∧ DS w0 B hp Q g l vt (i + 1) w' := by
  have hl8 := hr.len
  have hx := hr.at hi
  have e11 : 200 + 11 * i + 11 = 200 + 11 * (i + 1) := by omega
  obtain ⟨hc, ⟨_, _, nx, ps, rs, hp', ht⟩ | ⟨h1 | h1, _⟩⟩ := h
  · have hpt := ht.on i (Nat.le_refl _) hi h2
    have hst := ht.step hr hi
    by_cases he : ∃ j, i + 1 ≤ j ∧ j < l.length ∧ vt j = 2
    · refine (pvDone_more B hp (200 + 11 * i) nx (l.getD i 0) ps rs w hp' hB hc.met (by omega) hx.2.2 hpt ((hst.any hr).2 he)).mono ?_
      rintro e w' ⟨rfl, h3, h4⟩
      exact ⟨rfl, hc.step hB h4, .inl ⟨hb, he, _, _, _, by rw [← e11]; exact h3, hst⟩⟩
    · have hany : (ps.set (l.getD i 0) 5).any isToC = false := by
        cases e : (ps.set (l.getD i 0) 5).any isToC with
        | false => rfl
        | true => exact absurd ((hst.any hr).1 e) he
      refine (pvDone_last B hp (200 + 11 * i) nx (l.getD i 0) ps rs w hp' hB hc.met hc.pows (by omega) hx.2.2 hpt hany).mono ?_
      rintro e w' ⟨rfl, h3, h4⟩
      exact ⟨rfl, hc.step hB h4, .inr ⟨.inr he, _, _, h3⟩⟩
  · rw [hb] at h1; cases h1
  · exact absurd ⟨i, Nat.le_refl _, hi, h2⟩ h1
omit hr hv in
theorem ds_skip (h : DS w0 B hp Q g l vt i w) (h2 : vt i ≠ 2) : DS w0 B hp Q g l vt (i + 1) w := by
  have hiff : (∃ j, i ≤ j ∧ j < l.length ∧ vt j = 2) ↔ ∃ j, i + 1 ≤ j ∧ j < l.length ∧ vt j = 2 := by
    constructor
    · rintro ⟨j, a, b, c⟩
      exact ⟨j, by rcases Nat.lt_or_eq_of_le a with e | e
                   · exact e
                   · subst e; exact absurd c h2, b, c⟩
    · rintro ⟨j, a, b, c⟩; exact ⟨j, by omega, b, c⟩
  obtain ⟨hc, h⟩ := h
  rw [hiff] at h
  rcases h with ⟨a, b, nx, ps, rs, c, d⟩ | h
  · exact ⟨hc, .inl ⟨a, b, nx, ps, rs, c.mono (by omega), d.skip h2⟩⟩
  · exact ⟨hc, .inr h⟩
end
end Go.Proofs.YtejiankgafjppabGreatDoor
