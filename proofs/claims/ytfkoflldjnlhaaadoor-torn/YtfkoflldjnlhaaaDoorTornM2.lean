import Derived.Test.YtfkoflldjnlhaaaDoorTornM
/- TORN RECORDS, the plain mathematics: records one behind the other, the end cut off, or turned in a byte. -/
namespace Go.Proofs.YtfkoflldjnlhaaaDoor
open Go.RowKit
open Sc

/-- the j-th record's bytes; the first j of them, one behind the other; what they are -/
def rb (S : Nat → ByteArray) (j : Nat) : List Nat := recBytes j j (bytesOf (S j))
def cat (S : Nat → ByteArray) : Nat → List Nat
  | 0 => []
  | j + 1 => cat S j ++ rb S j
def recs (S : Nat → ByteArray) (j : Nat) : List Rec := (List.range j).map fun q => ⟨q, q, bytesOf (S q)⟩
theorem rb_len (S : Nat → ByteArray) (j : Nat) : (rb S j).length = 15 + (S j).size := by unfold rb; rw [recBytes_len, bytesOf_len]
theorem cat_succ (S : Nat → ByteArray) (j : Nat) : (cat S (j + 1)).length = (cat S j).length + (15 + (S j).size) := by
  show (cat S j ++ rb S j).length = _; rw [List.length_append, rb_len]
theorem cat_byt (S : Nat → ByteArray) : ∀ j, j ≤ 256 → Byt (cat S j)
  | 0, _ => fun x hx => by cases hx
  | j + 1, h => fun x hx => by
    rcases List.mem_append.1 (show x ∈ cat S j ++ rb S j from hx) with h1 | h1
    · exact cat_byt S j (by omega) x h1
    · exact recBytes_byt j j (bytesOf (S j)) (by omega) (bytesOf_byt _) x h1
theorem cat_le (S : Nat → ByteArray) : ∀ j, (∀ q, q < j → (S q).size ≤ 255) → (cat S j).length ≤ 270 * j
  | 0, _ => Nat.le_refl _
  | j + 1, h => by
    rw [cat_succ]
    have h1 := cat_le S j (fun q hq => h q (by omega))
    have h2 := h j (by omega)
    omega
theorem cat_mono (S : Nat → ByteArray) (i j : Nat) (h : i ≤ j) : ∃ r, cat S j = cat S i ++ r := by
  induction j with
  | zero => obtain rfl : i = 0 := by omega
            exact ⟨[], rfl⟩
  | succ j ih =>
    by_cases he : i = j + 1
    · subst he; exact ⟨[], by simp⟩
    · obtain ⟨r, hr⟩ := ih (by omega)
      exact ⟨r ++ rb S j, by show cat S j ++ rb S j = _; rw [hr, List.append_assoc]⟩
theorem recs_succ (S : Nat → ByteArray) (j : Nat) : recs S (j + 1) = recs S j ++ [⟨j, j, bytesOf (S j)⟩] := by unfold recs; rw [List.range_succ, List.map_append]; rfl
theorem recs_at (S : Nat → ByteArray) (j i : Nat) (h : i < j) : (recs S j)[i]? = some ⟨i, i, bytesOf (S i)⟩ := by unfold recs; simp [h]

/-- whatever lies behind them, they are read -/
theorem cat_good (S : Nat → ByteArray) : ∀ j, j ≤ 256 → (∀ q, q < j → (S q).size ≤ 255) → ∀ r, Good (cat S j ++ r) j ∧ (st j (cat S j ++ r)).1 = recs S j ∧ (st j (cat S j ++ r)).2 = (cat S j).length
  | 0, _, _ => fun r => ⟨good_zero _, rfl, rfl⟩
  | j + 1, hj, hS => fun r => by
    have e : cat S (j + 1) ++ r = cat S j ++ (rb S j ++ r) := by show (cat S j ++ rb S j) ++ r = _; rw [List.append_assoc]
    rw [e]
    obtain ⟨h1, h2, h3⟩ := cat_good S j (by omega) (fun q hq => hS q (by omega)) (rb S j ++ r)
    have hd : (cat S j ++ (rb S j ++ r)).drop (st j (cat S j ++ (rb S j ++ r))).2 = rb S j ++ r := by rw [h3]; exact drop_app _ _ _ rfl
    have hl : (bytesOf (S j)).length ≤ 255 := by rw [bytesOf_len]; exact hS j (by omega)
    refine ⟨good_succ h1 (by rw [hd]; exact frame_yes j j _ r hl (by omega) (bytesOf_byt _)), ?_, ?_⟩
    · show (st j (cat S j ++ (rb S j ++ r))).1 ++ [recOf ((cat S j ++ (rb S j ++ r)).drop (st j (cat S j ++ (rb S j ++ r))).2)] = _
      rw [hd, h2, recs_succ]
      unfold rb
      rw [frame_rec j j _ r hl (by omega)]
    · show (st j (cat S j ++ (rb S j ++ r))).2 + 15 + fLen ((cat S j ++ (rb S j ++ r)).drop (st j (cat S j ++ (rb S j ++ r))).2) = _
      rw [hd, h3, cat_succ]
      unfold rb
      rw [frame_len j j _ r hl, bytesOf_len]
      omega
theorem st_grow (m : List Nat) (i : Nat) : ∀ k, i ≤ k → (st i m).2 ≤ (st k m).2 ∧ ∀ q, q < i → (st k m).1[q]? = (st i m).1[q]? := by
  intro k hk
  induction k with
  | zero => obtain rfl : i = 0 := by omega
            exact ⟨Nat.le_refl _, fun _ _ => rfl⟩
  | succ k ih =>
    by_cases he : i = k + 1
    · subst he; exact ⟨Nat.le_refl _, fun _ _ => rfl⟩
    · obtain ⟨h1, h2⟩ := ih (by omega)
      refine ⟨?_, fun q hq => ?_⟩
      · show _ ≤ (st k m).2 + 15 + fLen (m.drop (st k m).2); omega
      · show ((st k m).1 ++ [recOf (m.drop (st k m).2)])[q]? = _
        rw [List.getElem?_append_left (by rw [st_len]; omega)]; exact h2 q hq

/-- THE LAW's HEART: of the bytes m, made of the records' by a cut at a (t false), or by turning the byte there (t true), those K are read: all that lie ahead of a, and no other, or the length was turned. -/
theorem torn_read (S : Nat → ByteArray) (n W a K : Nat) (t : Bool) (m : List Nat) (hn : n ≤ 20) (hS : ∀ q, q < n → (S q).size ≤ 255) (hW : W < n) (h1 : (cat S W).length ≤ a) (h2 : a < (cat S (W + 1)).length)
    (hm : (t = false ∧ m = (cat S n).take a) ∨ (t = true ∧ ∃ y, y < 256 ∧ y ≠ at_ (cat S n) a ∧ m = (cat S n).set a y)) (hE : Ended m K) :
    W ≤ K ∧ (cat S W).length ≤ (st K m).2 ∧ (st K m).2 ≤ m.length ∧ (∀ i, i < W → (st K m).1[i]? = some ⟨i, i, bytesOf (S i)⟩) ∧ (K = W ∨ (t = true ∧ a < (cat S W).length + 2)) := by
  obtain ⟨r, hr⟩ := cat_mono S (W + 1) n (by omega)
  have hcn : cat S n = cat S W ++ (rb S W ++ r) := by rw [hr]; show (cat S W ++ rb S W) ++ r = _; rw [List.append_assoc]
  rw [cat_succ] at h2
  have hl : (bytesOf (S W)).length ≤ 255 := by rw [bytesOf_len]; exact hS W hW
  have hrl := rb_len S W
  have key : ∃ rest, m = cat S W ++ rest ∧ (frameOk rest = false ∨ (t = true ∧ a < (cat S W).length + 2)) := by
    rcases hm with ⟨_, rfl⟩ | ⟨ht, y, hy, hne, rfl⟩
    · refine ⟨(rb S W ++ r).take (a - (cat S W).length), ?_, .inl ?_⟩
      · rw [hcn, List.take_append, List.take_of_length_le h1]
      · rw [List.take_append_of_le_length (by omega)]
        exact frame_cut W W _ hl _ (by rw [bytesOf_len]; omega)
    · refine ⟨(rb S W).set (a - (cat S W).length) y ++ r, ?_, ?_⟩
      · rw [hcn, List.set_append_right _ _ h1, List.set_append_left _ _ (by omega)]
      · by_cases hh : a < (cat S W).length + 2
        · exact .inr ⟨ht, hh⟩
        · refine .inl (frame_turn W W _ r hl (by omega) (bytesOf_byt _) _ y (by omega) (by rw [bytesOf_len]; omega) hy ?_)
          intro e
          refine hne (e.trans ?_)
          rw [hcn]
          show at_ (rb S W) _ = _
          unfold at_
          rw [List.getD_eq_getElem?_getD, List.getD_eq_getElem?_getD, List.getElem?_append_right h1, List.getElem?_append_left (by omega)]
  obtain ⟨rest, rfl, hrest⟩ := key
  obtain ⟨hg, hs1, hs2⟩ := cat_good S W (by omega) (fun q hq => hS q (by omega)) rest
  have hd : (cat S W ++ rest).drop (st W (cat S W ++ rest)).2 = rest := by rw [hs2]; exact drop_app _ _ _ rfl
  have hKW : W ≤ K := by
    rcases Nat.lt_or_ge K W with h | h
    · have := hg K h; rw [hE.2] at this; cases this
    · exact h
  obtain ⟨g1, g2⟩ := st_grow (cat S W ++ rest) W K hKW
  refine ⟨hKW, by rw [← hs2]; exact g1, st_le hE.1, fun i hi => ?_, ?_⟩
  · rw [g2 i hi, hs1]; exact recs_at S W i hi
  · rcases hrest with h | h
    · refine .inl ?_
      rcases Nat.lt_or_ge W K with hlt | hge
      · have := hE.1 W hlt; rw [hd, h] at this; cases this
      · omega
    · exact .inr h
theorem str_bytesOf (s : ByteArray) : str (bytesOf s) = s := by
  have aux : ∀ (l : List UInt8) (r : ByteArray), ((l.map UInt8.toNat).map fun x : Nat => (x : Int)).foldl (fun r n => r.push (UInt8.ofNat n.toNat)) r = ⟨r.data ++ l.toArray⟩ := by
    intro l
    induction l with
    | nil => intro r; simp
    | cons x l ih =>
      intro r
      rw [List.map_cons, List.map_cons, List.foldl_cons, ih]
      simp [ByteArray.push]
  unfold str bytesOf
  rw [aux]
  simp
end Go.Proofs.YtfkoflldjnlhaaaDoor
