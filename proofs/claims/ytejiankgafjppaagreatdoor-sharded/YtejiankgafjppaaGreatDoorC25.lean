import Derived.Test.YtejiankgafjppaaGreatDoorC24
import Derived.Test.YtejiankgafjppaaGreatDoorC19
import Derived.Test.YtejiankgafjppaaGreatDoorC01
import Derived.Sort.MapsRangeIn
import Derived.RangeFuncSeq
/- THE DOCUMENT'S SHARD (package shardcommitref), as mathematics: lists by ids, and how a shard of the program answers to one. -/
namespace Go.Proofs.YtejiankgafjppaaGreatDoor
open Go.RowKit Go.Maps
open Sc

structure RLock where
  key : ByteArray
  wr : Bool
  gone : Bool
  val : ByteArray
structure RTx where
  id : Nat
  st : Nat
  ops : Nat
  age : Nat
  locks : List RLock
structure RSh where
  table : List (ByteArray × ByteArray)
  txns : List RTx
def RLock.grip (l : RLock) : AGrip := ⟨if l.wr = true then (if l.gone = true then 2 else 1) else 0, l.val⟩
theorem RLock.writes (l : RLock) : l.grip.writes = l.wr := by
  unfold RLock.grip AGrip.writes
  cases l.wr <;> cases l.gone <;> rfl
def lockAt (ls : List RLock) (k : ByteArray) : Option RLock := ls.find? fun l => decide (l.key = k)
def txAt (xs : List RTx) (t : Nat) : Option RTx := xs.find? fun x => decide (x.id = t)
def lockIx (ls : List RLock) (k : ByteArray) : Option Nat := ls.findIdx? fun l => decide (l.key = k)
def txIx (xs : List RTx) (t : Nat) : Option Nat := xs.findIdx? fun x => decide (x.id = t)
theorem find_ix {α : Type} (p : α → Bool) : ∀ (xs : List α), (∀ i, xs.findIdx? p = some i → ∃ x, xs[i]? = some x ∧ p x = true ∧ xs.find? p = some x) ∧ (xs.findIdx? p = none → xs.find? p = none)
  | [] => ⟨fun i h => by simp at h, fun _ => rfl⟩
  | x :: xs => by
    obtain ⟨h1, h2⟩ := find_ix p xs
    by_cases hx : p x = true
    · refine ⟨fun i h => ?_, fun h => ?_⟩
      · simp [List.findIdx?_cons, hx] at h
        subst h
        exact ⟨x, rfl, hx, by simp [hx]⟩
      · simp [List.findIdx?_cons, hx] at h
    · refine ⟨fun i h => ?_, fun h => ?_⟩
      · simp [List.findIdx?_cons, hx] at h
        obtain ⟨j, hj, rfl⟩ := h
        obtain ⟨y, e1, e2, e3⟩ := h1 j hj
        exact ⟨y, by simpa using e1, e2, by simp [hx, e3]⟩
      · simp only [List.findIdx?_cons, hx, Bool.false_eq_true, if_false, Option.map_eq_none_iff] at h
        rw [List.find?_cons_of_neg (by simpa using hx)]
        exact h2 h
theorem txIx_some {xs : List RTx} {t i : Nat} (h : txIx xs t = some i) : ∃ x, xs[i]? = some x ∧ x.id = t ∧ txAt xs t = some x := by
  obtain ⟨x, h1, h2, h3⟩ := (find_ix _ xs).1 i h
  exact ⟨x, h1, by simpa using h2, h3⟩
theorem txIx_none {xs : List RTx} {t : Nat} (h : txIx xs t = none) : txAt xs t = none := (find_ix _ xs).2 h
theorem lockIx_some {ls : List RLock} {k : ByteArray} {i : Nat} (h : lockIx ls k = some i) : ∃ l, ls[i]? = some l ∧ l.key = k ∧ lockAt ls k = some l := by
  obtain ⟨x, h1, h2, h3⟩ := (find_ix _ ls).1 i h
  exact ⟨x, h1, by simpa using h2, h3⟩
theorem lockIx_none {ls : List RLock} {k : ByteArray} (h : lockIx ls k = none) : lockAt ls k = none := (find_ix _ ls).2 h
theorem txAt_mem {xs : List RTx} {t : Nat} {x : RTx} (h : txAt xs t = some x) : x ∈ xs ∧ x.id = t := ⟨List.mem_of_find?_eq_some h, by have := List.find?_some h; simpa using this⟩
theorem txAt_none {xs : List RTx} {t : Nat} : txAt xs t = none ↔ ∀ x ∈ xs, x.id ≠ t := by unfold txAt; simp
theorem lockAt_mem {ls : List RLock} {k : ByteArray} {l : RLock} (h : lockAt ls k = some l) : l ∈ ls ∧ l.key = k := ⟨List.mem_of_find?_eq_some h, by have := List.find?_some h; simpa using this⟩
theorem lockAt_none {ls : List RLock} {k : ByteArray} : lockAt ls k = none ↔ ∀ l ∈ ls, l.key ≠ k := by unfold lockAt; simp
/-- in the order of ids -/
def Asc (xs : List RTx) : Prop := xs.Pairwise fun a b => a.id < b.id
theorem Asc.at {xs : List RTx} (h : Asc xs) {x : RTx} (hx : x ∈ xs) : txAt xs x.id = some x := by
  induction xs with
  | nil => cases hx
  | cons y ys ih =>
    obtain ⟨h1, h2⟩ := List.pairwise_cons.1 h
    unfold txAt
    rcases List.mem_cons.1 hx with rfl | hm
    · simp
    · have : ¬ y.id = x.id := fun e => by have := h1 x hm; omega
      rw [List.find?_cons_of_neg (by simpa using this)]
      exact ih h2 hm
theorem Asc.ix {xs : List RTx} (h : Asc xs) {i : Nat} {x : RTx} (hx : xs[i]? = some x) : txIx xs x.id = some i := by
  unfold txIx
  rw [List.findIdx?_eq_some_iff_getElem]
  obtain ⟨hi, e⟩ := List.getElem?_eq_some_iff.1 hx
  refine ⟨hi, by simp [e], fun j hj => ?_⟩
  have := List.pairwise_iff_getElem.1 h j i (by omega) hi hj
  rw [e] at this
  simp; omega
/-- one is put in the place of that of its id -/
def upd (xs : List RTx) (x : RTx) : List RTx := xs.map fun y => if y.id = x.id then x else y
theorem upd_len (xs : List RTx) (x : RTx) : (upd xs x).length = xs.length := by simp [upd]
theorem upd_ids (xs : List RTx) (x : RTx) : (upd xs x).map (·.id) = xs.map (·.id) := by
  unfold upd
  rw [List.map_map]
  apply List.map_congr_left
  intro y _
  simp only [Function.comp]
  split
  · rename_i h; exact h.symm
  · rfl
theorem asc_ids {xs : List RTx} : Asc xs ↔ (xs.map (·.id)).Pairwise (· < ·) := by rw [List.pairwise_map]; rfl
theorem Asc.upd {xs : List RTx} (h : Asc xs) (x : RTx) : Asc (upd xs x) := by rw [asc_ids, upd_ids, ← asc_ids]; exact h
theorem txAt_upd {xs : List RTx} (x : RTx) (t : Nat) : txAt (upd xs x) t = if t = x.id then (txAt xs t).map fun _ => x else txAt xs t := by
  induction xs with
  | nil => simp [upd, txAt]
  | cons y ys ih =>
    unfold txAt upd at *
    rw [List.map_cons, List.find?_cons, List.find?_cons]
    by_cases hy : y.id = x.id
    · rw [if_pos hy]
      by_cases ht : x.id = t
      · simp [ht, hy]
      · have : ¬ t = x.id := fun e => ht e.symm
        have h2 : ¬ y.id = t := by rw [hy]; exact ht
        simp only [ht, h2, decide_false]
        exact ih
    · rw [if_neg hy]
      by_cases ht : y.id = t
      · have : ¬ t = x.id := fun e => hy (ht.trans e)
        simp [ht, this]
      · simp only [ht, decide_false]
        exact ih
theorem Asc.set {xs : List RTx} (h : Asc xs) {i : Nat} {x x' : RTx} (hi : xs[i]? = some x) (hx : x'.id = x.id) : xs.set i x' = Go.Proofs.YtejiankgafjppaaGreatDoor.upd xs x' := by
  apply List.ext_getElem?
  intro j
  unfold Go.Proofs.YtejiankgafjppaaGreatDoor.upd
  rw [List.getElem?_set, List.getElem?_map]
  obtain ⟨hl, e⟩ := List.getElem?_eq_some_iff.1 hi
  by_cases hj : i = j
  · subst hj
    rw [if_pos rfl, if_pos hl, hi]
    simp [hx]
  · rw [if_neg hj]
    cases hq : xs[j]? with
    | none => rfl
    | some y =>
      simp only [Option.map_some]
      have : ¬ y.id = x'.id := by
        intro e2
        have a1 := h.ix hi
        have a2 := h.ix hq
        rw [e2, hx, a1] at a2
        exact hj (Option.some.inj a2)
      rw [if_neg this]
/-- one is taken away -/
def del (xs : List RTx) (t : Nat) : List RTx := xs.filter fun y => !decide (y.id = t)
theorem Asc.del {xs : List RTx} (h : Asc xs) (t : Nat) : Asc (del xs t) := List.Pairwise.filter _ h
theorem txAt_del {xs : List RTx} (u t : Nat) : txAt (del xs u) t = if t = u then none else txAt xs t := by
  unfold txAt del
  by_cases e : t = u
  · subst e
    rw [if_pos rfl]
    simp
  · rw [if_neg e, List.find?_filter]
    congr 1
    funext y
    by_cases hy : y.id = t
    · simp [hy, e]
    · simp [hy]
theorem Asc.erase {xs : List RTx} (h : Asc xs) {i : Nat} {x : RTx} (hi : xs[i]? = some x) : xs.take i ++ xs.drop (i + 1) = Go.Proofs.YtejiankgafjppaaGreatDoor.del xs x.id := by
  induction xs generalizing i with
  | nil => simp at hi
  | cons y ys ih =>
    obtain ⟨h1, h2⟩ := List.pairwise_cons.1 h
    unfold Go.Proofs.YtejiankgafjppaaGreatDoor.del at *
    cases i with
    | zero =>
      simp at hi
      subst hi
      rw [List.filter_cons_of_neg (by simp)]
      simp only [List.take_zero, List.nil_append, Nat.zero_add, List.drop_succ_cons, List.drop_zero]
      symm
      rw [List.filter_eq_self]
      intro z hz
      have := h1 z hz
      simp; omega
    | succ i =>
      simp at hi
      have hm := List.mem_of_getElem? hi
      have := h1 x hm
      rw [List.filter_cons_of_pos (by simp; omega)]
      simp only [List.take_succ_cons, List.drop_succ_cons, List.cons_append]
      rw [ih h2 hi]
/-- one is put among them -/
def ins (xs : List RTx) (x : RTx) : List RTx := (xs.takeWhile fun y => decide (y.id < x.id)) ++ x :: (xs.dropWhile fun y => decide (y.id < x.id))
theorem txAt_ins {xs : List RTx} (x : RTx) (t : Nat) (h : txAt xs x.id = none) : txAt (ins xs x) t = if t = x.id then some x else txAt xs t := by
  induction xs with
  | nil =>
    unfold ins txAt
    by_cases e : x.id = t
    · simp [e]
    · have : ¬ t = x.id := fun h => e h.symm
      simp [e, this]
  | cons y ys ih =>
    have hn := txAt_none.1 h
    have hy : y.id ≠ x.id := hn y (by simp)
    have hr : txAt ys x.id = none := txAt_none.2 fun z hz => hn z (by simp [hz])
    have ih := ih hr
    unfold ins txAt at *
    by_cases hl : y.id < x.id
    · rw [List.takeWhile_cons_of_pos (by simpa using hl), List.dropWhile_cons_of_pos (by simpa using hl), List.cons_append, List.find?_cons, List.find?_cons]
      by_cases ht : y.id = t
      · have : ¬ t = x.id := fun e => hy (ht.trans e)
        simp [ht, this]
      · simp only [ht, decide_false]
        exact ih
    · rw [List.takeWhile_cons_of_neg (by simpa using hl), List.dropWhile_cons_of_neg (by simpa using hl), List.nil_append, List.find?_cons]
      by_cases ht : x.id = t
      · simp [ht]
      · have : ¬ t = x.id := fun e => ht e.symm
        simp [ht, this]
theorem Asc.ins {xs : List RTx} (h : Asc xs) (x : RTx) (hn : txAt xs x.id = none) : Asc (ins xs x) := by
  induction xs with
  | nil => unfold Go.Proofs.YtejiankgafjppaaGreatDoor.ins Asc; simp
  | cons y ys ih =>
    obtain ⟨h1, h2⟩ := List.pairwise_cons.1 h
    have hn' := txAt_none.1 hn
    have hy : y.id ≠ x.id := hn' y (by simp)
    have hr : txAt ys x.id = none := txAt_none.2 fun z hz => hn' z (by simp [hz])
    have ih := ih h2 hr
    unfold Go.Proofs.YtejiankgafjppaaGreatDoor.ins Asc at *
    by_cases hl : y.id < x.id
    · rw [List.takeWhile_cons_of_pos (by simpa using hl), List.dropWhile_cons_of_pos (by simpa using hl), List.cons_append, List.pairwise_cons]
      refine ⟨fun z hz => ?_, ih⟩
      rcases List.mem_append.1 hz with hz | hz
      · exact h1 z ((List.takeWhile_sublist _).subset hz)
      · rcases List.mem_cons.1 hz with rfl | hz
        · exact hl
        · exact h1 z (List.dropWhile_subset _ hz)
    · rw [List.takeWhile_cons_of_neg (by simpa using hl), List.dropWhile_cons_of_neg (by simpa using hl), List.nil_append, List.pairwise_cons]
      refine ⟨fun z hz => ?_, h⟩
      rcases List.mem_cons.1 hz with rfl | hz
      · omega
      · have := h1 z hz; omega
theorem ins_len (xs : List RTx) (x : RTx) : (ins xs x).length = xs.length + 1 := by
  unfold ins
  have := congrArg List.length (List.takeWhile_append_dropWhile (p := fun y : RTx => decide (y.id < x.id)) (l := xs))
  rw [List.length_append] at this
  rw [List.length_append, List.length_cons]
  omega
/-- locks: one is put in the place of that of its key, or behind them -/
def putLock (ls : List RLock) (l : RLock) : List RLock := if (lockAt ls l.key).isSome = true then ls.map (fun y => if y.key = l.key then l else y) else ls ++ [l]
def OnceK (ls : List RLock) : Prop := ls.Pairwise fun a b => a.key ≠ b.key
theorem lockAt_put (ls : List RLock) (l : RLock) (k : ByteArray) : lockAt (putLock ls l) k = if k = l.key then some l else lockAt ls k := by
  unfold putLock
  by_cases h : (lockAt ls l.key).isSome = true
  · rw [if_pos h]
    have key : ∀ ls : List RLock, lockAt (ls.map fun y => if y.key = l.key then l else y) k = if k = l.key then (lockAt ls k).map fun _ => l else lockAt ls k := by
      intro ls
      induction ls with
      | nil => simp [lockAt]
      | cons y ys ih =>
        unfold lockAt at *
        rw [List.map_cons, List.find?_cons, List.find?_cons]
        by_cases hy : y.key = l.key
        · rw [if_pos hy]
          by_cases ht : l.key = k
          · simp [ht, hy]
          · have h2 : ¬ y.key = k := by rw [hy]; exact ht
            simp only [ht, h2, decide_false]
            exact ih
        · rw [if_neg hy]
          by_cases ht : y.key = k
          · have : ¬ k = l.key := fun e => hy (ht.trans e)
            simp [ht, this]
          · simp only [ht, decide_false]
            exact ih
    rw [key]
    by_cases e : k = l.key
    · subst e
      rw [if_pos rfl, if_pos rfl]
      obtain ⟨z, hz⟩ := Option.isSome_iff_exists.1 h
      rw [hz]; rfl
    · rw [if_neg e, if_neg e]
  · rw [if_neg h]
    have hn : lockAt ls l.key = none := by simpa using h
    unfold lockAt at *
    rw [List.find?_append]
    by_cases e : k = l.key
    · subst e
      rw [if_pos rfl, hn]
      simp
    · rw [if_neg e]
      have e2 : ¬ l.key = k := fun x => e x.symm
      cases ls.find? (fun l => decide (l.key = k)) with
      | none => simp [e2]
      | some z => rfl
theorem OnceK.put {ls : List RLock} (h : OnceK ls) (l : RLock) : OnceK (putLock ls l) := by
  unfold putLock
  split
  · have : (ls.map fun y => if y.key = l.key then l else y).map (·.key) = ls.map (·.key) := by
      rw [List.map_map]
      apply List.map_congr_left
      intro y _
      simp only [Function.comp]
      split
      · rename_i e; exact e.symm
      · rfl
    have h2 : (ls.map (·.key)).Pairwise (· ≠ ·) := by rw [List.pairwise_map]; exact h
    rw [← this, List.pairwise_map] at h2
    exact h2
  · rename_i hn
    have hn : lockAt ls l.key = none := by simpa using hn
    have hn := lockAt_none.1 hn
    exact List.pairwise_append.2 ⟨h, by simp, fun a ha b hb => by simp at hb; subst hb; exact hn a ha⟩
theorem putLock_len (ls : List RLock) (l : RLock) : (putLock ls l).length = if (lockAt ls l.key).isSome = true then ls.length else ls.length + 1 := by
  unfold putLock
  split <;> simp
theorem putLock_mem {ls : List RLock} {l x : RLock} (h : x ∈ putLock ls l) : x = l ∨ x ∈ ls := by
  unfold putLock at h
  split at h
  · obtain ⟨y, hy, rfl⟩ := List.mem_map.1 h
    split
    · exact .inl rfl
    · exact .inr hy
  · rcases List.mem_append.1 h with h | h
    · exact .inr h
    · exact .inl (by simpa using h)
theorem OnceK.set {ls : List RLock} (h : OnceK ls) {i : Nat} {l l' : RLock} (hi : ls[i]? = some l) (hk : l'.key = l.key) : ls.set i l' = putLock ls l' := by
  obtain ⟨hl, e⟩ := List.getElem?_eq_some_iff.1 hi
  have hs : (lockAt ls l'.key).isSome = true := by
    rw [hk]
    cases hq : lockAt ls l.key with
    | some z => rfl
    | none => exact absurd rfl (lockAt_none.1 hq l (List.mem_of_getElem? hi))
  unfold putLock
  rw [if_pos hs]
  apply List.ext_getElem?
  intro j
  rw [List.getElem?_set, List.getElem?_map]
  by_cases hj : i = j
  · subst hj
    rw [if_pos rfl, if_pos hl, hi]
    simp [hk]
  · rw [if_neg hj]
    cases hq : ls[j]? with
    | none => rfl
    | some y =>
      simp only [Option.map_some]
      obtain ⟨hjl, ej⟩ := List.getElem?_eq_some_iff.1 hq
      have : ¬ y.key = l'.key := by
        intro e2
        rw [hk] at e2
        rcases Nat.lt_or_gt_of_ne hj with hlt | hgt
        · exact List.pairwise_iff_getElem.1 h i j hl hjl hlt (by rw [e, ej]; exact e2.symm)
        · exact List.pairwise_iff_getElem.1 h j i hjl hl hgt (by rw [e, ej]; exact e2)
      rw [if_neg this]
end Go.Proofs.YtejiankgafjppaaGreatDoor
/- THE DOCUMENT'S SHARD: how a shard of the program answers to one; operations. -/
namespace Go.Proofs.YtejiankgafjppaaGreatDoor
open Go.RowKit Go.Maps
open Sc

def RTx.atx (ticks : Nat) (x : RTx) : ATxn := if x.st = 3 then ⟨3, 0, 0⟩ else ⟨x.st, x.ops, ticks - x.age⟩
structure RTx.Ok (ticks : Nat) (x : RTx) : Prop where
  id0 : x.id ≠ 0
  idb : x.id < 18446744073709551616
  st : x.st = 1 ∨ x.st = 2 ∨ x.st = 3
  age : x.st ≠ 3 → x.age ≤ ticks ∧ x.age < 16
  once : OnceK x.locks
  four : x.locks.length ≤ 4
  small : ∀ l ∈ x.locks, 1 ≤ l.key.size ∧ l.key.size ≤ 16 ∧ l.val.size ≤ 32
  read : ∀ l ∈ x.locks, l.wr = false → l.val = ByteArray.empty
structure Rel (s : AShard) (R : RSh) : Prop where
  asc : Asc R.txns
  table : R.table = sortV s.vals
  txns : ∀ t, alLook s.txns t = (txAt R.txns t).map (RTx.atx s.ticks)
  holds : ∀ t k, alLook s.holds (t, k) = (txAt R.txns t).bind fun x => (lockAt x.locks k).map RLock.grip
  ok : ∀ x ∈ R.txns, x.Ok s.ticks
  len : R.txns.length ≤ 12
  o1 : Once1 s.txns
  o2 : Once1 s.holds
section
variable {s : AShard} {R : RSh}
theorem asc_nodup {xs : List RTx} (h : Asc xs) : (xs.map (·.id)).Nodup := by
  unfold List.Nodup
  rw [List.pairwise_map]
  exact h.imp fun hab => by omega
theorem Rel.len_eq (h : Rel s R) : s.txns.length = R.txns.length := by
  have hp : (s.txns.map (·.1)).Perm (R.txns.map (·.id)) := by
    rw [List.perm_ext_iff_of_nodup (once_keys h.o1) (asc_nodup h.asc)]
    intro t
    constructor
    · intro ht
      obtain ⟨p, hp, rfl⟩ := List.mem_map.1 ht
      have := alLook_of h.o1 (k := p.1) (v := p.2) hp
      rw [h.txns] at this
      cases hx : txAt R.txns p.1 with
      | none => rw [hx] at this; cases this
      | some x => exact List.mem_map.2 ⟨x, (txAt_mem hx).1, (txAt_mem hx).2⟩
    · intro ht
      obtain ⟨x, hx, rfl⟩ := List.mem_map.1 ht
      have := h.txns x.id
      rw [h.asc.at hx] at this
      exact List.mem_map.2 ⟨_, alLook_mem this, rfl⟩
  simpa using hp.length_eq
theorem look_locks (ls : List RLock) (k : ByteArray) : alLook (ls.map fun l => (l.key, l.grip)) k = (lockAt ls k).map RLock.grip := by
  unfold alLook lockAt
  rw [List.find?_map]
  simp only [Function.comp_def, Option.map_map]
theorem once_locks {ls : List RLock} (h : OnceK ls) : Once1 (ls.map fun l => (l.key, l.grip)) := by
  unfold Once1
  rw [List.pairwise_map]
  exact h
theorem Rel.count (h : Rel s R) {t : Nat} {x : RTx} (hx : txAt R.txns t = some x) : s.count t = x.locks.length := by
  have := AShard.count_of (s := s) (t := t) (L := x.locks.map fun l => (l.key, l.grip)) h.o2 (once_locks (h.ok x (txAt_mem hx).1).once) fun k => by rw [look_locks, h.holds, hx]; rfl
  rw [← this, List.length_map]
theorem Rel.count0 (h : Rel s R) {t : Nat} (hx : txAt R.txns t = none) : s.count t = 0 := by
  have := AShard.count_of (s := s) (t := t) (L := []) h.o2 (by unfold Once1; simp) fun k => by rw [h.holds, hx]; rfl
  rw [← this]; rfl
theorem Rel.here (h : Rel s R) {t : Nat} {x : RTx} (hx : txAt R.txns t = some x) : s.txn t = x.atx s.ticks := by
  unfold AShard.txn
  rw [h.txns, hx]; rfl
theorem Rel.gone (h : Rel s R) {t : Nat} (hx : txAt R.txns t = none) : s.txn t = ⟨0, 0, 0⟩ := by
  unfold AShard.txn
  rw [h.txns, hx]; rfl
theorem atx_state (ticks : Nat) (x : RTx) : (x.atx ticks).state = x.st := by
  unfold RTx.atx
  split
  · rename_i h; exact h.symm
  · rfl
/-- the state of a transaction -/
def RSh.state (R : RSh) (t : Nat) : Nat := ((txAt R.txns t).map (·.st)).getD 0
theorem Rel.state (h : Rel s R) (t : Nat) : (s.txn t).state = R.state t := by
  unfold RSh.state
  cases hx : txAt R.txns t with
  | none => rw [h.gone hx]; rfl
  | some x => rw [h.here hx, atx_state]; rfl
/-- why an operation is refused -/
def RSh.refuse (R : RSh) (t : Nat) (seq : Int) (k : ByteArray) : Nat :=
  if t = 0 then 7 else if k.size < 1 ∨ 16 < k.size then 1 else
  match txAt R.txns t with
  | some x => if x.st = 3 then 4 else if seq ≠ (x.ops : Int) then 4 else if x.st = 2 then 3 else if (lockAt x.locks k).isSome = false ∧ x.locks.length = 4 then 5 else 0
  | none => if seq ≠ 0 then 4 else if R.txns.length = 12 then 5 else 0
theorem Rel.refuse (h : Rel s R) (t : Nat) (seq : Int) (k v : ByteArray) (hv : v.size ≤ 32) : s.refuse t seq k v = R.refuse t seq k := by
  have hl := h.len_eq
  have hl2 := h.len
  unfold AShard.refuse AShard.refuse1 AShard.refuse2 RSh.refuse
  by_cases h0 : t = 0
  · rw [if_pos h0, if_pos h0]; rfl
  rw [if_neg h0, if_neg h0]
  by_cases hk : k.size < 1 ∨ 16 < k.size
  · have : k.size < 1 ∨ 16 < k.size ∨ 32 < v.size := by omega
    rw [if_pos this, if_pos hk]; rfl
  have hk2 : ¬ (k.size < 1 ∨ 16 < k.size ∨ 32 < v.size) := by omega
  rw [if_neg hk2, if_neg hk]
  cases hx : txAt R.txns t with
  | none =>
    rw [h.gone hx, h.count0 hx]
    simp only []
    by_cases hq : seq = 0
    · subst hq
      by_cases h12 : R.txns.length = 12
      · have : 12 ≤ s.txns.length := by omega
        simp [this, h12]
      · have : ¬ 12 ≤ s.txns.length := by omega
        simp [this, h12]
    · simp [hq]
  | some x =>
    have hok := h.ok x (txAt_mem hx).1
    have h4 := hok.four
    rw [h.here hx, h.count hx, h.holds, hx]
    simp only [Option.bind_some, Option.isSome_map]
    unfold RTx.atx
    by_cases h3 : x.st = 3
    · simp [h3]
    · rw [if_neg h3, if_neg h3]
      simp only []
      by_cases hq : seq = (x.ops : Int)
      · subst hq
        rcases hok.st with e | e | e
        · simp only [e]
          by_cases hc : (lockAt x.locks k).isSome = false ∧ x.locks.length = 4
          · have h9 : (lockAt x.locks k).isSome = false ∧ 4 ≤ x.locks.length := ⟨hc.1, by omega⟩
            rw [if_pos hc, if_pos h9]
            simp
          · have h9 : ¬ ((lockAt x.locks k).isSome = false ∧ 4 ≤ x.locks.length) := fun ⟨a, b⟩ => hc ⟨a, by omega⟩
            rw [if_neg hc, if_neg h9]
            simp
        · simp [e]
        · exact absurd e h3
      · simp [hq, h3]
/-- does another hold the key in such a way? -/
def meetsAt (t : Nat) (k : ByteArray) (wr : Bool) (x : RTx) : Bool := !decide (x.id = t) && ((lockAt x.locks k).map fun l => wr || l.wr).getD false
def meets (xs : List RTx) (t : Nat) (k : ByteArray) (wr : Bool) : Bool := xs.any (meetsAt t k wr)
theorem Rel.clash_at (h : Rel s R) (t : Nat) (k : ByteArray) (wr : Bool) {x : RTx} (hx : txAt R.txns x.id = some x) : clashAt s t k wr x.id = meetsAt t k wr x := by
  unfold clashAt meetsAt AShard.grip
  rw [h.holds, hx]
  simp only [Option.bind_some]
  cases lockAt x.locks k with
  | none => simp
  | some l =>
    simp [RLock.writes]
    cases wr <;> cases l.wr <;> simp
theorem Rel.clash (h : Rel s R) (t : Nat) (k : ByteArray) (wr : Bool) : s.clash t k wr = meets R.txns t k wr := by
  rw [Bool.eq_iff_iff]
  unfold AShard.clash meets
  rw [List.any_eq_true, List.any_eq_true]
  constructor
  · rintro ⟨p, hp, hc⟩
    have := alLook_of h.o1 (k := p.1) (v := p.2) hp
    rw [h.txns] at this
    cases hx : txAt R.txns p.1 with
    | none => rw [hx] at this; cases this
    | some x =>
      obtain ⟨hm, he⟩ := txAt_mem hx
      refine ⟨x, hm, ?_⟩
      rw [← h.clash_at t k wr (by rw [he]; exact hx), he]
      exact hc
  · rintro ⟨x, hm, hc⟩
    have hx := h.asc.at hm
    have := h.txns x.id
    rw [hx] at this
    refine ⟨_, alLook_mem this, ?_⟩
    rw [h.clash_at t k wr hx]
    exact hc
/-- a transaction as it stands, or a new one -/
def RSh.tx (R : RSh) (t : Nat) : RTx := (txAt R.txns t).getD ⟨t, 1, 0, 0, []⟩
def began (xs : List RTx) (t : Nat) : List RTx := if (txAt xs t).isSome = true then xs else ins xs ⟨t, 1, 0, 0, []⟩
theorem txAt_began (xs : List RTx) (t u : Nat) : txAt (began xs t) u = if u = t then some ((txAt xs t).getD ⟨t, 1, 0, 0, []⟩) else txAt xs u := by
  unfold began
  cases hx : txAt xs t with
  | some x =>
    simp only [Option.isSome_some, if_true]
    by_cases e : u = t
    · subst e; rw [if_pos rfl, hx]; rfl
    · rw [if_neg e]
  | none =>
    rw [if_neg (by simp), txAt_ins _ _ hx]
    rfl
theorem Asc.began {xs : List RTx} (h : Asc xs) (t : Nat) : Asc (began xs t) := by
  unfold Go.Proofs.YtejiankgafjppaaGreatDoor.began
  cases hx : txAt xs t with
  | some x => simp only [Option.isSome_some, if_true]; exact h
  | none => rw [if_neg (by simp)]; exact h.ins _ hx
theorem meets_began (xs : List RTx) (t : Nat) (k : ByteArray) (wr : Bool) : meets (began xs t) t k wr = meets xs t k wr := by
  unfold began
  split
  · rfl
  · unfold meets ins
    rw [List.any_append, List.any_cons]
    have : meetsAt t k wr ⟨t, 1, 0, 0, []⟩ = false := by simp [meetsAt]
    rw [this, Bool.false_or, ← List.any_append, List.takeWhile_append_dropWhile]
def RTx.doomed (x : RTx) : RTx := ⟨x.id, 2, x.ops, 0, x.locks⟩
def RTx.worked (x : RTx) (f : List RLock → List RLock) : RTx := ⟨x.id, x.st, x.ops + 1, 0, f x.locks⟩
/-- an operation: what is left, and the error -/
def RSh.op (R : RSh) (t : Nat) (seq : Int) (k : ByteArray) (wr : Bool) (f : List RLock → List RLock) : RSh × Nat :=
  if R.refuse t seq k = 0 then
    if meets (began R.txns t) t k wr = true then (⟨R.table, upd (began R.txns t) (R.tx t).doomed⟩, 3)
    else (⟨R.table, upd (began R.txns t) ((R.tx t).worked f)⟩, 0)
  else (R, R.refuse t seq k)
/-- what an operation does to a transaction's locks -/
structure Locks (k : ByteArray) (g : AGrip) (f : List RLock → List RLock) : Prop where
  once : ∀ ls, OnceK ls → OnceK (f ls)
  len : ∀ ls, (f ls).length = if (lockAt ls k).isSome = true then ls.length else ls.length + 1
  mem : ∀ ls l, l ∈ f ls → l ∈ ls ∨ (l.key = k ∧ l.val.size ≤ 32 ∧ (l.wr = false → l.val = ByteArray.empty))
  look : ∀ ls, (∀ l ∈ ls, l.wr = false → l.val = ByteArray.empty) → ∀ q, (lockAt (f ls) q).map RLock.grip = if q = k then some (if (g.writes || !(((lockAt ls k).map RLock.grip).getD ⟨0, ByteArray.empty⟩).writes) = true then g else ((lockAt ls k).map RLock.grip).getD ⟨0, ByteArray.empty⟩) else (lockAt ls q).map RLock.grip
theorem refuse_zero {R : RSh} {t : Nat} {seq : Int} {k : ByteArray} (h : R.refuse t seq k = 0) : t ≠ 0 ∧ 1 ≤ k.size ∧ k.size ≤ 16 ∧ (∀ x, txAt R.txns t = some x → x.st ≠ 3 ∧ x.st ≠ 2 ∧ seq = (x.ops : Int) ∧ ((lockAt x.locks k).isSome = false → x.locks.length ≠ 4)) ∧ (txAt R.txns t = none → seq = 0 ∧ R.txns.length ≠ 12) := by
  unfold RSh.refuse at h
  by_cases h0 : t = 0
  · rw [if_pos h0] at h; cases h
  rw [if_neg h0] at h
  by_cases hk : k.size < 1 ∨ 16 < k.size
  · rw [if_pos hk] at h; cases h
  rw [if_neg hk] at h
  refine ⟨h0, by omega, by omega, fun x hx => ?_, fun hx => ?_⟩
  · rw [hx] at h
    simp only [] at h
    by_cases h3 : x.st = 3
    · rw [if_pos h3] at h; cases h
    rw [if_neg h3] at h
    by_cases hq : seq = (x.ops : Int)
    · rw [if_neg (by simp [hq])] at h
      by_cases h2 : x.st = 2
      · rw [if_pos h2] at h; cases h
      rw [if_neg h2] at h
      refine ⟨h3, h2, hq, fun hl h4 => ?_⟩
      rw [if_pos ⟨hl, h4⟩] at h; cases h
    · rw [if_pos hq] at h; cases h
  · rw [hx] at h
    simp only [] at h
    by_cases hq : seq = 0
    · rw [if_neg (by simp [hq])] at h
      refine ⟨hq, fun h12 => ?_⟩
      rw [if_pos h12] at h; cases h
    · rw [if_pos hq] at h; cases h
theorem began_len (xs : List RTx) (t : Nat) : (began xs t).length = if (txAt xs t).isSome = true then xs.length else xs.length + 1 := by
  unfold began
  split
  · rfl
  · rw [ins_len]
theorem began_mem {xs : List RTx} {t : Nat} {x y : RTx} (h : x ∈ upd (began xs t) y) (hy : y.id = t) : x = y ∨ (x ∈ xs ∧ x.id ≠ t) := by
  unfold upd at h
  obtain ⟨z, hz, rfl⟩ := List.mem_map.1 h
  by_cases e : z.id = y.id
  · rw [if_pos e]; exact .inl rfl
  · rw [if_neg e]
    refine .inr ⟨?_, by rw [← hy]; exact e⟩
    unfold began at hz
    split at hz
    · exact hz
    · unfold ins at hz
      rcases List.mem_append.1 hz with hz | hz
      · exact (List.takeWhile_sublist _).subset hz
      · rcases List.mem_cons.1 hz with rfl | hz
        · exact absurd hy.symm e
        · exact List.dropWhile_subset _ hz
theorem tx_id (R : RSh) (t : Nat) : (R.tx t).id = t := by
  unfold RSh.tx
  cases hx : txAt R.txns t with
  | none => rfl
  | some x => exact (txAt_mem hx).2
theorem tx_ok (h : Rel s R) {t : Nat} (h0 : t ≠ 0) (ht : t < 18446744073709551616) : (R.tx t).Ok s.ticks := by
  unfold RSh.tx
  cases hx : txAt R.txns t with
  | none => exact ⟨h0, ht, .inl rfl, fun _ => ⟨Nat.zero_le _, by show 0 < 16; decide⟩, by unfold OnceK; simp, by simp, by simp, by simp⟩
  | some x => exact h.ok x (txAt_mem hx).1
theorem tx_done (h : Rel s R) {t : Nat} (hn : ∀ x, txAt R.txns t = some x → x.st ≠ 3) : (s.txn t).done = (R.tx t).ops := by
  unfold RSh.tx
  cases hx : txAt R.txns t with
  | none => rw [h.gone hx]; rfl
  | some x =>
    rw [h.here hx]
    unfold RTx.atx
    rw [if_neg (hn x hx)]; rfl
theorem tx_hold (h : Rel s R) (t : Nat) (k : ByteArray) : alLook s.holds (t, k) = (lockAt (R.tx t).locks k).map RLock.grip := by
  unfold RSh.tx
  rw [h.holds]
  cases hx : txAt R.txns t with
  | none => rfl
  | some x => rfl
theorem Rel.op (h : Rel s R) (t : Nat) (seq : Int) (k : ByteArray) (g : AGrip) (f : List RLock → List RLock) (ht : t < 18446744073709551616) (hg : g.val.size ≤ 32) (hf : Locks k g f) :
    (s.operate t seq k g).2 = (R.op t seq k g.writes f).2 ∧ Rel (s.operate t seq k g).1 (R.op t seq k g.writes f).1 := by
  unfold AShard.operate RSh.op
  rw [h.refuse t seq k g.val hg, meets_began, ← h.clash]
  by_cases hr : ¬ R.refuse t seq k = 0
  · rw [if_neg hr, if_neg hr]; exact ⟨rfl, h⟩
  have hr : R.refuse t seq k = 0 := by omega
  rw [if_pos hr, if_pos hr]
  obtain ⟨h0, hk1, hk2, hxs, hxn⟩ := refuse_zero hr
  have hid := tx_id R t
  have hok := tx_ok h h0 ht
  have hdone := tx_done h (t := t) fun x hx => (hxs x hx).1
  have hlen : (began R.txns t).length ≤ 12 := by
    rw [began_len]
    have := h.len
    cases hx : txAt R.txns t with
    | none => have := (hxn hx).2; simp; omega
    | some x => simpa using this
  have hbs : ∀ y : RTx, y.id = t → ∀ u, txAt (upd (began R.txns t) y) u = if u = t then some y else txAt R.txns u := by
    intro y hy u
    rw [txAt_upd, hy, txAt_began]
    by_cases e : u = t
    · rw [if_pos e, if_pos e, if_pos e]; rfl
    · rw [if_neg e, if_neg e, if_neg e]
  by_cases hc : s.clash t k g.writes = true
  · rw [if_pos hc, if_pos hc]
    refine ⟨rfl, { asc := (h.asc.began t).upd _, table := h.table, txns := fun u => ?_, holds := fun u q => ?_, ok := fun x hx => ?_, len := by rw [upd_len]; exact hlen, o1 := h.o1.put _ _, o2 := h.o2 }⟩
    · show alLook (alPut s.txns t _) u = (txAt (upd (began R.txns t) (R.tx t).doomed) u).map (RTx.atx s.ticks)
      rw [alLook_put, hbs (R.tx t).doomed hid]
      by_cases e : u = t
      · rw [if_pos e, if_pos e]
        simp [RTx.atx, hdone, RTx.doomed]
      · rw [if_neg e, if_neg e, h.txns]
    · show alLook s.holds (u, q) = (txAt (upd (began R.txns t) (R.tx t).doomed) u).bind _
      rw [hbs (R.tx t).doomed hid]
      by_cases e : u = t
      · subst e
        rw [if_pos rfl, tx_hold h]; rfl
      · rw [if_neg e, h.holds]
    · rcases began_mem hx hid with rfl | ⟨hm, _⟩
      · exact { hok with st := .inr (.inl rfl), age := fun _ => ⟨Nat.zero_le _, by show 0 < 16; decide⟩ }
      · exact h.ok x hm
  · rw [if_neg hc, if_neg hc]
    have hst1 : (R.tx t).st = 1 := by
      unfold RSh.tx
      cases hx : txAt R.txns t with
      | none => rfl
      | some x =>
        have h1 := hxs x hx
        rcases (h.ok x (txAt_mem hx).1).st with e | e | e
        · exact e
        · exact absurd e h1.2.1
        · exact absurd e h1.1
    have hg2 : ({ s with txns := alPut s.txns t ⟨1, (s.txn t).done + 1, s.ticks⟩ } : AShard).grip t k = ((lockAt (R.tx t).locks k).map RLock.grip).getD ⟨0, ByteArray.empty⟩ := by
      unfold AShard.grip
      rw [show ({ s with txns := alPut s.txns t ⟨1, (s.txn t).done + 1, s.ticks⟩ } : AShard).holds = s.holds from rfl, tx_hold h]
    have htk : ∀ s' : AShard, s' = ({ s with txns := alPut s.txns t ⟨1, (s.txn t).done + 1, s.ticks⟩ } : AShard).take t k g → s'.ticks = s.ticks ∧ s'.vals = s.vals ∧ s'.txns = alPut s.txns t ⟨1, (s.txn t).done + 1, s.ticks⟩ ∧ Once1 s'.holds ∧ ∀ u q, alLook s'.holds (u, q) = if u = t ∧ q = k then some (if (g.writes || !(((lockAt (R.tx t).locks k).map RLock.grip).getD ⟨0, ByteArray.empty⟩).writes) = true then g else ((lockAt (R.tx t).locks k).map RLock.grip).getD ⟨0, ByteArray.empty⟩) else alLook s.holds (u, q) := by
      rintro s' rfl
      unfold AShard.take
      rw [hg2]
      by_cases hw : (g.writes || !(((lockAt (R.tx t).locks k).map RLock.grip).getD ⟨0, ByteArray.empty⟩).writes) = true
      · rw [if_pos hw]
        refine ⟨rfl, rfl, rfl, h.o2.put _ _, fun u q => ?_⟩
        show alLook (alPut s.holds (t, k) g) (u, q) = _
        rw [alLook_put, if_pos hw]
        by_cases e : u = t ∧ q = k
        · rw [if_pos e, if_pos (by rw [e.1, e.2])]
        · rw [if_neg e, if_neg (by intro e2; cases e2; exact e ⟨rfl, rfl⟩)]
      · rw [if_neg hw]
        refine ⟨rfl, rfl, rfl, h.o2, fun u q => ?_⟩
        show alLook s.holds (u, q) = _
        by_cases e : u = t ∧ q = k
        · obtain ⟨rfl, rfl⟩ := e
          rw [if_pos ⟨rfl, rfl⟩, if_neg hw, tx_hold h]
          cases hl : lockAt (R.tx u).locks q with
          | none => rw [hl] at hw; simp [AGrip.writes] at hw
          | some l => rfl
        · rw [if_neg e]
    obtain ⟨e1, e2, e3, e4, e5⟩ := htk _ rfl
    refine ⟨rfl, { asc := (h.asc.began t).upd _, table := by rw [e2]; exact h.table, txns := fun u => ?_, holds := fun u q => ?_, ok := fun x hx => ?_, len := by rw [upd_len]; exact hlen, o1 := by rw [e3]; exact h.o1.put _ _, o2 := e4 }⟩
    · show alLook _ u = (txAt (upd (began R.txns t) ((R.tx t).worked f)) u).map (RTx.atx _)
      rw [e1, e3, alLook_put, hbs ((R.tx t).worked f) hid]
      by_cases e : u = t
      · rw [if_pos e, if_pos e]
        simp [RTx.atx, hdone, hst1, RTx.worked]
      · rw [if_neg e, if_neg e, h.txns]
    · show alLook _ (u, q) = (txAt (upd (began R.txns t) ((R.tx t).worked f)) u).bind _
      rw [e5, hbs ((R.tx t).worked f) hid]
      by_cases e : u = t
      · subst e
        rw [if_pos rfl]
        show _ = (lockAt (f (R.tx u).locks) q).map RLock.grip
        rw [hf.look _ hok.read]
        by_cases eq : q = k
        · rw [if_pos ⟨rfl, eq⟩, if_pos eq]
        · rw [if_neg (fun x => eq x.2), if_neg eq, tx_hold h]
      · rw [if_neg (fun x => e x.1), if_neg e, h.holds]
    · rw [e1]
      rcases began_mem hx hid with rfl | ⟨hm, _⟩
      · refine { id0 := hok.id0, idb := hok.idb, st := .inl hst1, age := fun _ => ⟨Nat.zero_le _, by show 0 < 16; decide⟩, once := hf.once _ hok.once, four := ?_, small := fun l hl => ?_, read := fun l hl => ?_ }
        · show (f (R.tx t).locks).length ≤ 4
          rw [hf.len]
          have h4 := hok.four
          cases hl : lockAt (R.tx t).locks k with
          | some l => simpa using h4
          | none =>
            simp
            have : (R.tx t).locks.length ≠ 4 := by
              cases hx : txAt R.txns t with
              | none => unfold RSh.tx; rw [hx]; simp
              | some x =>
                have e9 : R.tx t = x := by unfold RSh.tx; rw [hx]; rfl
                rw [e9] at hl ⊢
                exact (hxs x hx).2.2.2 (by rw [hl]; rfl)
            omega
        · rcases hf.mem _ l hl with hl | ⟨a, b, _⟩
          · exact hok.small l hl
          · rw [a]; exact ⟨hk1, hk2, b⟩
        · rcases hf.mem _ l hl with hl | ⟨_, _, c⟩
          · exact hok.read l hl
          · exact c
      · exact h.ok x hm
end
/-- a lock that writes -/
theorem locks_put (l : RLock) (hw : l.wr = true) (hv : l.val.size ≤ 32) : Locks l.key l.grip (fun ls => putLock ls l) where
  once := fun ls h => h.put l
  len := fun ls => putLock_len ls l
  mem := fun ls x hx => by
    rcases putLock_mem hx with rfl | h
    · exact .inr ⟨rfl, hv, fun e => by rw [hw] at e; cases e⟩
    · exact .inl h
  look := fun ls _ q => by
    rw [lockAt_put]
    have : l.grip.writes = true := by rw [RLock.writes, hw]
    by_cases e : q = l.key
    · rw [if_pos e, if_pos e, this]; simp
    · rw [if_neg e, if_neg e]
/-- a lock that reads -/
theorem locks_get (k : ByteArray) : Locks k ⟨0, ByteArray.empty⟩ (fun ls => if (lockAt ls k).isSome = true then ls else ls ++ [⟨k, false, false, ByteArray.empty⟩]) where
  once := fun ls h => by
    split
    · exact h
    · rename_i hn
      have hn := lockAt_none.1 (by simpa using hn : lockAt ls k = none)
      exact List.pairwise_append.2 ⟨h, by simp, fun a ha b hb => by simp at hb; subst hb; exact hn a ha⟩
  len := fun ls => by split <;> simp
  mem := fun ls x hx => by
    split at hx
    · exact .inl hx
    · rcases List.mem_append.1 hx with h | h
      · exact .inl h
      · simp at h; subst h; exact .inr ⟨rfl, by show (0 : Nat) ≤ 32; omega, fun _ => rfl⟩
  look := fun ls hr q => by
    have hz : (AGrip.mk 0 ByteArray.empty).writes = false := rfl
    split
    · rename_i hs
      obtain ⟨l, hl⟩ := Option.isSome_iff_exists.1 hs
      by_cases e : q = k
      · subst e
        rw [if_pos rfl, hl, hz]
        simp only [Option.map_some, Option.getD_some, Bool.false_or]
        cases hw : l.wr with
        | true =>
          have : l.grip.writes = true := by rw [RLock.writes, hw]
          rw [this]; simp
        | false =>
          have h1 : l.grip.writes = false := by rw [RLock.writes, hw]
          rw [h1]
          have h2 : l.grip = ⟨0, ByteArray.empty⟩ := by unfold RLock.grip; rw [hw, hr l (lockAt_mem hl).1 hw]; rfl
          simp [h2]
      · rw [if_neg e]
    · rename_i hs
      have hn : lockAt ls k = none := by simpa using hs
      by_cases e : q = k
      · subst e
        rw [if_pos rfl, hn]
        unfold lockAt at *
        rw [List.find?_append, hn]
        simp [RLock.grip, AGrip.writes]
      · rw [if_neg e]
        unfold lockAt at *
        rw [List.find?_append]
        have e2 : ¬ k = q := fun x => e x.symm
        cases ls.find? (fun l => decide (l.key = q)) with
        | none => simp [e2]
        | some z => rfl
end Go.Proofs.YtejiankgafjppaaGreatDoor
/- MAPS, BY LISTS OF WHAT THEY HOLD: to range over them within a walk of one's own (CallsIn). -/
namespace Go.Proofs.YtejiankgafjppaaGreatDoor
open Go.RowKit Go.Maps
open Sc

section
variable {P : Program} {K V : Type} [DecidableEq K] {kt : TypeId} {KR : KeyRep P K kt} {ER : ElRep V} {w w' : World} {b r n : Nat} {l rem : List (K × V)}
theorem del_perm : ∀ {l : List (K × V)} {k : K} {v : V}, Once1 l → (k, v) ∈ l → l.Perm ((k, v) :: alDel l k)
  | [], _, _, _, h => by cases h
  | p :: r, k, v, h1, h2 => by
    obtain ⟨h3, h4⟩ := List.pairwise_cons.1 h1
    rcases List.mem_cons.1 h2 with e | hm
    · subst e
      have : alDel ((k, v) :: r) k = r := by
        unfold alDel
        rw [List.filter_cons_of_neg (by simp), List.filter_eq_self]
        intro q hq
        have := h3 q hq
        simp; exact fun e => this e.symm
      rw [this]
    · have hne : p.1 ≠ k := fun e => h3 _ hm e
      have : alDel (p :: r) k = p :: alDel r k := by unfold alDel; rw [List.filter_cons_of_pos (by simp [hne])]
      rw [this]
      exact ((del_perm h4 hm).cons p).trans (List.Perm.swap _ _ _)
theorem RangesAs.walks (h : RangesAs KR ER w b r n l rem) (hk : KeepsWalks w w') : RangesAs KR ER w' b r n l rem ∧ w'.rangeLeft b r = w.rangeLeft b r := by
  obtain ⟨es, left, cnt, h1, h2⟩ := h
  have h1' := h1.of_walks hk
  exact ⟨⟨es, left, cnt, h1', h2⟩, by rw [h1'.left_eq, h1.left_eq]⟩
theorem RangesAs.iter (h : RangesAs KR ER w b r n l rem) : ∃ o : Obj, w.heap[r]? = some o ∧ o.isWalk = true := by
  obtain ⟨es, left, cnt, h1, h2⟩ := h
  exact h1.iter_walk
theorem RangesAs.once (h : RangesAs KR ER w b r n l rem) : Once1 rem := by
  obtain ⟨_, _, _, _, _, _, _, h5, _⟩ := h
  exact h5
end
section
variable {F : Fence} {nF : Nat} {P : Program} {K V : Type} [DecidableEq K] {kt : TypeId} {KR : KeyRep P K kt} {ER : ElRep V} {w : World} {ops : Array Oper} {rest : List Oper} {o : Oper} {a : Act} {Q : Exit → Act → World → Prop}
theorem wpListIn_map_range (hg : o.guard = none) (m : Operand) (t e : TypeId) (hop : o.op = Op.range t m) (ht : P.underlying t = some (.map kt e)) (b n : Nat) (l : List (K × V)) (hm : a.eval m = .map (some b)) (hM : MapAs KR ER w b n l)
    (hK : ∀ w', RangesAs KR ER w' b w.heap.size n l l → w.grownBy w' none → w'.heap.size = w.heap.size + 1 → wpListIn F nF P ops Q rest (a.put o.dst (.pointer (some ⟨w.heap.size, 0, none⟩))) w') : wpListIn F nF P ops Q (o :: rest) a w := by
  obtain ⟨es, ho, hp, h1, hok⟩ := hM
  refine wpListIn_range_own w hg m t hop kt e KR.law ht ER.R b n _ hm ho ?_
  intro w' hrg hgr hsz
  exact hK w' ⟨es, _, _, hrg, hp, h1, hok, h1, fun p hp => hp, fun k hk => has_of hp hok hk⟩ hgr hsz
theorem wpListIn_map_next (hg : o.guard = none) (it : Operand) (hop : o.op = Op.next it false) (b r n : Nat) (l rem : List (K × V)) (hit : a.eval it = .pointer (some ⟨r, 0, none⟩)) (hM : RangesAs KR ER w b r n l rem)
    (hDone : rem = [] → wpListIn F nF P ops Q rest (a.put o.dst (.tuple #[.bool false])) w)
    (hMore : ∀ (k : K) (v : V) (w' : World), (k, v) ∈ rem → RangesAs KR ER w' b r n l (alDel rem k) → w'.rangeLeft b r < w.rangeLeft b r → w.grownBy w' (some r) → w'.heap.size = w.heap.size →
      (Instr.entry (.pointer (some ⟨r, 0, none⟩))).run P w' = .ok (.tuple #[KR.kv k, ER.ev v]) w' → wpListIn F nF P ops Q rest (a.put o.dst (.tuple #[.bool true, KR.kv k, ER.ev v])) w') : wpListIn F nF P ops Q (o :: rest) a w := by
  obtain ⟨es, left, cnt, hrg, hp, h1, hok, h5, h6, h7⟩ := hM
  refine wpListIn_next_ranges (α := Value) (β := Value) w hg it hop kt KR.law ER.R id id (fun key _ _ => ⟨key, rfl⟩) (fun v _ _ => ⟨v, rfl⟩) b r n _ left cnt hit hrg ?_ ?_
  · intro _ hl
    refine hDone ?_
    cases hr : rem with
    | nil => rfl
    | cons p q =>
      have hm : (p.1, p.2) ∈ rem := by rw [hr]; exact List.mem_cons_self
      have := h7 p.1 (hok _ (h6 _ hm)).1
      rw [hl, alLook_of h5 hm] at this
      cases this
  · intro key val kl y w' cnt' hkey hlk hv hat hrg' hlt hgr hsz hen
    have hhas : Maps.has (.map es) kl = true := Maps.has_true_of_atKey hat
    rw [Maps.has_eq, List.any_eq_true] at hhas
    obtain ⟨p, hpm, hps⟩ := hhas
    obtain ⟨q, hq, rfl⟩ := List.mem_map.1 (hp.mem_iff.1 hpm)
    obtain ⟨k, v⟩ := q
    have hkk := (hok _ hq).1
    have hvk := (hok _ hq).2
    have ekl : KR.kl k = kl := WideAt.sameKey_eq hps
    subst ekl
    have ek : key = KR.kv k := KR.law.inj hkey (KR.key k hkk)
    have ey := hat (ER.el v)
    rw [atKey_of hp h1 hok hkk (alLook_of h1 hq)] at ey
    have ev : val = ER.ev v := ER.inv val v y.2 hvk (by rw [ey]; exact hv)
    have hmem : (k, v) ∈ rem := by
      have := h7 k hkk
      rw [hlk] at this
      cases hr : alLook rem k with
      | none => rw [hr] at this; cases this
      | some u =>
        have e2 := h1.same (h6 _ (alLook_mem hr)) hq rfl
        rw [← e2]; exact alLook_mem hr
    subst ek ev
    refine hMore k v w' hmem ⟨es, _, cnt', hrg', hp, h1, hok, h5.del k, fun p hp => h6 p (List.mem_filter.1 hp).1, fun j hj => ?_⟩ (by rw [hrg'.left_eq, hrg.left_eq]; exact hlt) hgr hsz hen
    rw [h7 j hj, KR.same hj hkk, alLook_del]
    by_cases e : j = k
    · simp [e]
    · simp [e]
end
end Go.Proofs.YtejiankgafjppaaGreatDoor
