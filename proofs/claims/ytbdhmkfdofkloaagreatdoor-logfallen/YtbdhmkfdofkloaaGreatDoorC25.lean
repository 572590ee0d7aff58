import Derived.Test.YtbdhmkfdofkloaaGreatDoorC23
import Derived.Test.YtbdhmkfdofkloaaGreatDoorC24
/- SORTING NUMBERS (uint64), many of them: pdqsort, the mathematics. -/
namespace Go.Proofs.YtbdhmkfdofkloaaGreatDoor
open Go.RowKit Go.Maps
open Go.Sort (PermIn SortedIn)

/-- no two are the same -/
def NdN (d : Array Nat) : Prop := ∀ i j, i < d.size → j < d.size → d[i]! = d[j]! → i = j
theorem ndN_iff (d : Array Nat) : NdN d ↔ d.toList.Nodup := by
  unfold NdN List.Nodup
  rw [List.pairwise_iff_getElem]
  constructor
  · intro h i j hi hj hij he
    have := h i j (by simpa using hi) (by simpa using hj) (by simpa [at_bang (show i < d.size by simpa using hi), at_bang (show j < d.size by simpa using hj)] using he)
    omega
  · intro h i j hi hj he
    rw [at_bang hi, at_bang hj] at he
    have hi' : i < d.toList.length := by simpa using hi
    have hj' : j < d.toList.length := by simpa using hj
    have he' : d.toList[i] = d.toList[j] := by rw [Array.getElem_toList, Array.getElem_toList]; exact he
    rcases Nat.lt_trichotomy i j with hl | hl | hl
    · exact absurd he' (h i j hi' hj' hl)
    · exact hl
    · exact absurd he'.symm (h j i hj' hi' hl)
theorem permIn_list {d e : Array Nat} {a b : Nat} (hb : b ≤ d.size) (h : PermIn a b d e) : e.toList.Perm d.toList := by
  have h1 := Go.Sort.permIn_mono d e a b 0 d.size (Nat.zero_le _) hb (Nat.le_refl _) h
  have h2 := h1.2.2
  have e1 : e.extract 0 d.size = e := by rw [← h1.1]; simp
  have e2 : d.extract 0 d.size = d := by simp
  rwa [e1, e2] at h2
theorem NdN.perm {d e : Array Nat} {a b : Nat} (h : NdN d) (hb : b ≤ d.size) (hp : PermIn a b d e) : NdN e :=
  (ndN_iff e).2 ((permIn_list hb hp).nodup_iff.2 ((ndN_iff d).1 h))
/-- nothing within is less than what lies ahead of it -/
def BelowN (a b : Nat) (d : Array Nat) : Prop := a = 0 ∨ ∀ i, a ≤ i → i < b → ¬ d[i]! < d[a - 1]!
theorem permAll {d e : Array Nat} {a b : Nat} {p : Nat → Prop} (hb : b ≤ d.size) (hp : PermIn a b d e) (h : ∀ i, a ≤ i → i < b → p d[i]!) : ∀ i, a ≤ i → i < b → p e[i]! :=
  Go.Sort.permIn_all d e a b p hb hp h
theorem BelowN.perm {d e : Array Nat} {a b : Nat} (h : BelowN a b d) (hb : b ≤ d.size) (hp : PermIn a b d e) : BelowN a b e := by
  rcases h with h | h
  · exact .inl h
  · by_cases h0 : a = 0
    · exact .inl h0
    · right
      rw [hp.2.1 (a - 1) (.inl (by omega))]
      exact permAll (p := fun x => ¬ x < d[a - 1]!) hb hp h
theorem BelowN.lib {d : Array Nat} {a b : Nat} (h : BelowN a b d) : Go.Sort.Below ltN a b d := by
  rcases h with h | h
  · exact .inl h
  · right; intro i h1 h2; simp only [ltN, decide_eq_false_iff_not]; exact h i h1 h2
def SortN (a b : Nat) (d : Array Nat) : Prop := ∀ i j, a ≤ i → i < j → j < b → ¬ d[j]! < d[i]!
theorem sortN_of {a b : Nat} {d : Array Nat} (h : SortedIn ltN a b d) : SortN a b d := fun i j h1 h2 h3 => by
  have := h i j h1 h2 h3
  simpa [ltN] using this
/-- all pairs of [a, b) are in order, but those of which both are in [A, B) -/
def Outs (a b A B : Nat) (d : Array Nat) : Prop := ∀ i j, a ≤ i → i < j → j < b → ¬ (A ≤ i ∧ j < B) → ¬ d[j]! < d[i]!
section
variable {a b A B m : Nat} {d e f : Array Nat}
theorem Outs.first : Outs a b a b d := fun _ _ h1 _ h3 h4 => absurd ⟨h1, h3⟩ h4
theorem Outs.done (h : Outs a b A B d) (hs : SortN A B d) : SortN a b d := fun i j h1 h2 h3 => by
  by_cases hc : A ≤ i ∧ j < B
  · exact hs i j hc.1 h2 hc.2
  · exact h i j h1 h2 h3 hc
theorem Outs.perm (h : Outs a b A B d) (hA : a ≤ A) (hB : B ≤ b) (hb : b ≤ d.size) (hp : PermIn A B d e) : Outs a b A B e := by
  intro i j h1 h2 h3 h4
  by_cases ji : A ≤ j ∧ j < B
  · have hi : i < A := by omega
    rw [hp.2.1 i (.inl hi)]
    exact permAll (p := fun x => ¬ x < d[i]!) (by omega) hp (fun t t1 t2 => h i t h1 (by omega) (by omega) (by omega)) j ji.1 ji.2
  · rw [hp.2.1 j (by omega)]
    by_cases ii : A ≤ i ∧ i < B
    · exact permAll (p := fun x => ¬ d[j]! < x) (by omega) hp (fun t t1 t2 => h t j (by omega) (by omega) h3 (by omega)) i ii.1 ii.2
    · rw [hp.2.1 i (by omega)]
      exact h i j h1 h2 h3 h4
/-- behind a partition, the left part sorted -/
theorem Outs.left (h : Outs a b A B d) (hA : a ≤ A) (hB : B ≤ b) (hb : b ≤ d.size) (hp : PS d A B m e) (hq : PermIn A m e f) (hs : SortN A m f) : Outs a b (m + 1) B f ∧ PermIn A B d f ∧ BelowN (m + 1) B f := by
  have hes : e.size = d.size := hp.perm.1
  have hm := hp.mb
  have ham := hp.am
  have hpf : PermIn A B d f := Go.Sort.permIn_trans _ _ _ _ _ hp.perm (Go.Sort.permIn_mono _ _ _ _ _ _ (Nat.le_refl _) (by omega) (by omega) hq)
  have hO := h.perm hA hB hb hpf
  have fm : f[m]! = e[m]! := hq.2.1 m (.inr (Nat.le_refl _))
  have flo : ∀ t, A ≤ t → t < m → f[t]! < f[m]! := by
    rw [fm]
    exact permAll (p := fun x => x < e[m]!) (by omega) hq hp.lo
  have fhi : ∀ t, m < t → t < B → ¬ f[t]! < f[m]! := fun t t1 t2 => by
    rw [fm, hq.2.1 t (.inr (by omega))]; exact hp.hi t t1 t2
  refine ⟨fun i j h1 h2 h3 h4 => ?_, hpf, .inr fun i h1 h2 => fhi i (by omega) h2⟩
  by_cases hc : A ≤ i ∧ j < B
  · rcases Nat.lt_trichotomy j m with hj | hj | hj
    · exact hs i j hc.1 h2 hj
    · subst hj; have := flo i hc.1 h2; omega
    · have h5 := fhi j hj hc.2
      rcases Nat.lt_trichotomy i m with hi | hi | hi
      · have := flo i hc.1 hi; omega
      · subst hi; exact h5
      · omega
  · exact hO i j h1 h2 h3 hc
/-- .. the right part sorted -/
theorem Outs.right (h : Outs a b A B d) (hA : a ≤ A) (hB : B ≤ b) (hb : b ≤ d.size) (hl : BelowN A B d) (hp : PS d A B m e) (hq : PermIn (m + 1) B e f) (hs : SortN (m + 1) B f) : Outs a b A m f ∧ PermIn A B d f ∧ BelowN A m f := by
  have hes : e.size = d.size := hp.perm.1
  have hm := hp.mb
  have ham := hp.am
  have hpf : PermIn A B d f := Go.Sort.permIn_trans _ _ _ _ _ hp.perm (Go.Sort.permIn_mono _ _ _ _ _ _ (by omega) (Nat.le_refl _) (by omega) hq)
  have hO := h.perm hA hB hb hpf
  have fm : f[m]! = e[m]! := hq.2.1 m (.inl (by omega))
  have flo : ∀ t, A ≤ t → t < m → f[t]! < f[m]! := fun t t1 t2 => by
    rw [fm, hq.2.1 t (.inl (by omega))]; exact hp.lo t t1 t2
  have fhi : ∀ t, m + 1 ≤ t → t < B → ¬ f[t]! < f[m]! := by
    rw [fm]
    exact permAll (p := fun x => ¬ x < e[m]!) (by omega) hq (fun t t1 t2 => hp.hi t (by omega) t2)
  refine ⟨fun i j h1 h2 h3 h4 => ?_, hpf, ?_⟩
  · by_cases hc : A ≤ i ∧ j < B
    · rcases Nat.lt_trichotomy i m with hi | hi | hi
      · have h5 := flo i hc.1 hi
        have h6 : m ≤ j := by omega
        rcases Nat.lt_or_ge m j with hj | hj
        · have := fhi j hj hc.2; omega
        · obtain rfl : j = m := by omega
          omega
      · subst hi; exact fhi j (by omega) hc.2
      · exact hs i j (by omega) h2 hc.2
    · exact hO i j h1 h2 h3 hc
  · rcases hl.perm (by omega) hpf with h0 | h0
    · exact .inl h0
    · exact .inr fun i h1 h2 => h0 i h1 (by omega)
theorem BelowN.sub (h : BelowN A B d) (hm : m ≤ B) : BelowN A m d := by
  rcases h with h | h
  · exact .inl h
  · exact .inr fun i h1 h2 => h i h1 (by omega)
end
end Go.Proofs.YtbdhmkfdofkloaaGreatDoor
