import Derived.Test.YtejiankgafjppaaGreatDoorC25
import Derived.Test.YtejiankgafjppaaGreatDoorC27
import Derived.Test.YtejiankgafjppaaGreatDoorC22
/- THE DOCUMENT'S SHARD: its table; Get's answer, Prepare, Commit, Abort, Tick, Waiting. -/
namespace Go.Proofs.YtejiankgafjppaaGreatDoor
open Go.RowKit Go.Maps Go.Sort
open Sc

abbrev Prs := List (ByteArray × ByteArray)
/-- in the order of keys -/
def TAsc (tb : Prs) : Prop := tb.Pairwise fun a b => a.1.data.toList < b.1.data.toList
theorem key_ext {a b : ByteArray} (h : a.data.toList = b.data.toList) : a = b := by
  cases a; cases b
  simp at h
  rw [h]
theorem lt_irr (a : List UInt8) : ¬ a < a := List.lt_irrefl a
theorem lt_as {a b : List UInt8} (h : a < b) : ¬ b < a := List.lt_asymm h
theorem le_ne {a b : List UInt8} (h : a ≤ b) (hn : a ≠ b) : a < b := by
  rcases List.le_iff_lt_or_eq.1 h with h | h
  · exact h
  · exact absurd h hn
theorem lt_or (a b : List UInt8) : a < b ∨ a = b ∨ b < a := by
  rcases List.le_total a b with h | h
  · rcases List.le_iff_lt_or_eq.1 h with h | h
    · exact .inl h
    · exact .inr (.inl h)
  · rcases List.le_iff_lt_or_eq.1 h with h | h
    · exact .inr (.inr h)
    · exact .inr (.inl h.symm)
theorem TAsc.once {tb : Prs} (h : TAsc tb) : Once1 tb := h.imp fun hab e => by rw [e] at hab; exact lt_irr _ hab
theorem nodup_of_once {tb : Prs} (h : Once1 tb) : tb.Nodup := h.imp fun hab e => hab (by rw [e])
theorem TAsc.ext {a b : Prs} (ha : TAsc a) (hb : TAsc b) (h : ∀ k, alLook a k = alLook b k) : a = b := by
  have hp : a.Perm b := by
    rw [List.perm_ext_iff_of_nodup (nodup_of_once ha.once) (nodup_of_once hb.once)]
    intro p
    constructor
    · intro hp
      have := alLook_of ha.once (k := p.1) (v := p.2) hp
      rw [h] at this
      exact alLook_mem this
    · intro hp
      have := alLook_of hb.once (k := p.1) (v := p.2) hp
      rw [← h] at this
      exact alLook_mem this
  exact List.Perm.eq_of_pairwise (le := fun (x y : ByteArray × ByteArray) => x.1.data.toList < y.1.data.toList) (fun x y _ _ h1 h2 => absurd h2 (lt_as h1)) ha hb hp
theorem sortV_look {L : Prs} (h : Once1 L) (k : ByteArray) : alLook (sortV L) k = alLook L k := by
  have key : ∀ ks : List ByteArray, alLook (ks.map fun q => (q, (alLook L q).getD ByteArray.empty)) k = if (ks.any fun q => decide (q = k)) = true then some ((alLook L k).getD ByteArray.empty) else none := by
    intro ks
    induction ks with
    | nil => rfl
    | cons q r ih =>
      unfold alLook at *
      rw [List.map_cons, List.find?_cons]
      by_cases e : q = k
      · subst e; simp
      · simp only [e, decide_false]
        rw [ih, List.any_cons, decide_eq_false e, Bool.false_or]
  unfold sortV
  rw [key]
  cases hl : alLook L k with
  | none =>
    rw [if_neg]
    intro hm
    obtain ⟨q, hq, e⟩ := List.any_eq_true.1 hm
    have e : q = k := by simpa using e
    subst e
    obtain ⟨v, hv⟩ := sortK_mem.1 hq
    rw [alLook_of h hv] at hl
    cases hl
  | some v => rw [if_pos (List.any_eq_true.2 ⟨k, sortK_mem.2 ⟨v, alLook_mem hl⟩, by simp⟩)]; rfl
theorem sortV_asc {L : Prs} (h : Once1 L) : TAsc (sortV L) := by
  unfold TAsc sortV sortK
  rw [List.pairwise_map, List.pairwise_map]
  simp only []
  have tr : ∀ a b c : List UInt8, leB a b = true → leB b c = true → leB a c = true := fun a b c h1 h2 => by simp only [leB, decide_eq_true_eq] at *; exact List.le_trans h1 h2
  have tot : ∀ a b : List UInt8, (leB a b || leB b a) = true := fun a b => by simp only [leB, Bool.or_eq_true, decide_eq_true_eq]; exact List.le_total a b
  have h1 := List.pairwise_mergeSort tr tot (L.map fun p => p.1.data.toList)
  have h2 : ((L.map fun p => p.1.data.toList).mergeSort leB).Nodup := by
    rw [(List.mergeSort_perm _ leB).nodup_iff]
    unfold List.Nodup
    rw [List.pairwise_map]
    exact h.imp fun hab e => hab (key_ext e)
  refine (h1.and h2).imp ?_
  rintro a b ⟨x, y⟩
  simp only [leB, decide_eq_true_eq] at x
  exact le_ne x y
/-- a key has that value from now on, or none: as the document's text goes over the table -/
def tsetGo (l : RLock) : Prs → Bool → Prs
  | [], done => if done = true then [] else [(l.key, l.val)]
  | p :: r, done =>
    if done = false ∧ l.key.data.toList < p.1.data.toList then (l.key, l.val) :: p :: tsetGo l r true
    else if p.1 ≠ l.key then p :: tsetGo l r done else if done = true then tsetGo l r true else (l.key, l.val) :: tsetGo l r true
def tset (tb : Prs) (l : RLock) : Prs := tsetGo l tb l.gone
theorem tset_true (l : RLock) : ∀ tb : Prs, tsetGo l tb true = tb.filter fun p => !decide (p.1 = l.key)
  | [] => rfl
  | p :: r => by
    unfold tsetGo
    rw [if_neg (by simp)]
    by_cases e : p.1 = l.key
    · rw [if_neg (by simp [e]), if_pos rfl, tset_true l r, List.filter_cons_of_neg (by simp [e])]
    · rw [if_pos e, tset_true l r, List.filter_cons_of_pos (by simp [e])]
theorem tset_false (l : RLock) : ∀ tb : Prs, TAsc tb → tsetGo l tb false = (tb.filter fun p => decide (p.1.data.toList < l.key.data.toList)) ++ (l.key, l.val) :: (tb.filter fun p => decide (l.key.data.toList < p.1.data.toList))
  | [], _ => by simp [tsetGo]
  | p :: r, h => by
    obtain ⟨h1, h2⟩ := List.pairwise_cons.1 h
    unfold tsetGo
    by_cases hg : l.key.data.toList < p.1.data.toList
    · rw [if_pos ⟨rfl, hg⟩, tset_true]
      have e1 : ∀ q ∈ r, l.key.data.toList < q.1.data.toList := fun q hq => List.lt_trans hg (h1 q hq)
      have e2 : (r.filter fun p => !decide (p.1 = l.key)) = r := List.filter_eq_self.2 fun q hq => by
        have := e1 q hq
        simp
        intro e
        rw [e] at this
        exact lt_irr _ this
      have e3 : ((p :: r).filter fun p => decide (p.1.data.toList < l.key.data.toList)) = [] := by
        rw [List.filter_eq_nil_iff]
        intro q hq
        simp
        rcases List.mem_cons.1 hq with rfl | hq
        · exact lt_as hg
        · exact lt_as (e1 q hq)
      have e4 : ((p :: r).filter fun p => decide (l.key.data.toList < p.1.data.toList)) = p :: r := List.filter_eq_self.2 fun q hq => by
        rcases List.mem_cons.1 hq with rfl | hq
        · simpa using hg
        · simpa using e1 q hq
      rw [e2, e3, e4]; rfl
    · rw [if_neg (by simp [hg])]
      by_cases e : p.1 = l.key
      · rw [if_neg (by simp [e]), if_neg (by simp), tset_true]
        have e1 : ∀ q ∈ r, l.key.data.toList < q.1.data.toList := fun q hq => by have := h1 q hq; rw [e] at this; exact this
        have e2 : (r.filter fun p => !decide (p.1 = l.key)) = r := List.filter_eq_self.2 fun q hq => by
          have := e1 q hq
          simp
          intro e
          rw [e] at this
          exact lt_irr _ this
        have e3 : ((p :: r).filter fun p => decide (p.1.data.toList < l.key.data.toList)) = [] := by
          rw [List.filter_eq_nil_iff]
          intro q hq
          simp
          rcases List.mem_cons.1 hq with rfl | hq
          · rw [e]; exact lt_irr _
          · exact lt_as (e1 q hq)
        have e4 : ((p :: r).filter fun p => decide (l.key.data.toList < p.1.data.toList)) = r := by
          rw [List.filter_cons_of_neg (by rw [e]; simp)]
          exact List.filter_eq_self.2 fun q hq => by simpa using e1 q hq
        rw [e2, e3, e4]; rfl
      · have hl : p.1.data.toList < l.key.data.toList := by
          rcases lt_or p.1.data.toList l.key.data.toList with h | h | h
          · exact h
          · exact absurd (key_ext h) e
          · exact absurd h hg
        rw [if_pos e, tset_false l r h2, List.filter_cons_of_pos (by simpa using hl), List.filter_cons_of_neg (by simpa using hg)]
        rfl
theorem alLook_append {K V : Type} [DecidableEq K] (a b : List (K × V)) (k : K) : alLook (a ++ b) k = (alLook a k).or (alLook b k) := by
  unfold alLook
  rw [List.find?_append]
  cases a.find? (fun p => decide (p.1 = k)) <;> rfl
theorem alLook_keys {K V : Type} [DecidableEq K] (c : K → Bool) (l : List (K × V)) (k : K) : alLook (l.filter fun p => c p.1) k = if c k = true then alLook l k else none := by
  unfold alLook
  rw [List.find?_filter]
  by_cases hc : c k = true
  · rw [if_pos hc]
    congr 2
    funext p
    by_cases e : p.1 = k
    · simp [e, hc]
    · simp [e]
  · rw [if_neg hc]
    rw [Option.map_eq_none_iff, List.find?_eq_none]
    intro p _
    by_cases e : p.1 = k
    · simp [e, hc]
    · simp [e]
theorem tset_look (tb : Prs) (h : TAsc tb) (l : RLock) (q : ByteArray) : alLook (tset tb l) q = if q = l.key then (if l.gone = true then none else some l.val) else alLook tb q := by
  unfold tset
  cases l.gone with
  | true =>
    rw [tset_true, alLook_keys (fun k : ByteArray => !decide (k = l.key))]
    by_cases e : q = l.key <;> simp [e]
  | false =>
    rw [tset_false l tb h, alLook_append]
    rw [alLook_keys (fun k : ByteArray => decide (k.data.toList < l.key.data.toList))]
    have hc : alLook ((l.key, l.val) :: tb.filter fun p => decide (l.key.data.toList < p.1.data.toList)) q = if q = l.key then some l.val else if l.key.data.toList < q.data.toList then alLook tb q else none := by
      have h2 := alLook_keys (fun k : ByteArray => decide (l.key.data.toList < k.data.toList)) tb q
      by_cases e : q = l.key
      · subst e; rw [if_pos rfl]; simp [alLook]
      · rw [if_neg e]
        have e2 : ¬ l.key = q := fun x => e x.symm
        unfold alLook at *
        rw [List.find?_cons_of_neg (by simpa using e2)]
        rw [h2]
        by_cases hq : l.key.data.toList < q.data.toList <;> simp [hq]
    rw [hc]
    by_cases e : q = l.key
    · rw [if_pos e, if_pos e, e, if_neg (by simp only [decide_eq_true_eq]; exact lt_irr _)]
      rfl
    · rw [if_neg e, if_neg e]
      rcases lt_or q.data.toList l.key.data.toList with h1 | h1 | h1
      · have h2 := lt_as h1
        simp only [h1, h2, decide_true, if_true, if_false]
        cases alLook tb q <;> rfl
      · exact absurd (key_ext h1) e
      · have h2 := lt_as h1
        simp [h1, h2]
theorem TAsc.tset {tb : Prs} (h : TAsc tb) (l : RLock) : TAsc (tset tb l) := by
  unfold Go.Proofs.YtejiankgafjppaaGreatDoor.tset
  cases l.gone with
  | true => rw [tset_true]; exact List.Pairwise.filter _ h
  | false =>
    rw [tset_false l tb h]
    refine List.pairwise_append.2 ⟨List.Pairwise.filter _ h, List.pairwise_cons.2 ⟨fun q hq => ?_, List.Pairwise.filter _ h⟩, fun a ha b hb => ?_⟩
    · simpa using (List.mem_filter.1 hq).2
    · have ha2 : a.1.data.toList < l.key.data.toList := by simpa using (List.mem_filter.1 ha).2
      rcases List.mem_cons.1 hb with rfl | hb
      · exact ha2
      · exact List.lt_trans ha2 (by simpa using (List.mem_filter.1 hb).2)
/-- all that a transaction writes -/
def tsets (tb : Prs) (ls : List RLock) : Prs := ls.foldl (fun tb l => if l.wr = true then tset tb l else tb) tb
theorem tsets_spec : ∀ (ls : List RLock) (tb : Prs), OnceK ls → TAsc tb → TAsc (tsets tb ls) ∧ ∀ q, alLook (tsets tb ls) q = gripped ((lockAt ls q).map RLock.grip) (alLook tb q)
  | [], tb, _, h => ⟨h, fun q => rfl⟩
  | l :: ls, tb, ho, h => by
    obtain ⟨h1, h2⟩ := List.pairwise_cons.1 ho
    unfold tsets
    rw [List.foldl_cons]
    have hstep : TAsc (if l.wr = true then tset tb l else tb) := by
      split
      · exact h.tset l
      · exact h
    obtain ⟨k1, k2⟩ := tsets_spec ls _ h2 hstep
    refine ⟨k1, fun q => ?_⟩
    rw [show ls.foldl (fun tb l => if l.wr = true then tset tb l else tb) (if l.wr = true then tset tb l else tb) = tsets (if l.wr = true then tset tb l else tb) ls from rfl, k2]
    by_cases e : l.key = q
    · have hn : lockAt ls q = none := lockAt_none.2 fun x hx => by rw [← e]; exact fun e2 => h1 x hx e2.symm
      have hs : lockAt (l :: ls) q = some l := by unfold lockAt; simp [e]
      rw [hn, hs]
      simp only [Option.map_none, Option.map_some, gripped, RLock.grip]
      cases hw : l.wr with
      | false => simp
      | true =>
        simp only [if_true]
        rw [tset_look tb h, if_pos e.symm]
        cases l.gone <;> simp
    · have hs : lockAt (l :: ls) q = lockAt ls q := by unfold lockAt; rw [List.find?_cons_of_neg (by simpa using e)]
      rw [hs]
      congr 1
      split
      · rw [tset_look tb h, if_neg (fun x => e x.symm)]
      · rfl
section
variable {s : AShard} {R : RSh}
theorem alDel_look {K V : Type} [DecidableEq K] (l : List (K × V)) (k j : K) : alLook (alDel l k) j = if j = k then none else alLook l j := by
  have := alLook_keys (fun q => !decide (q = k)) l j
  unfold alDel
  rw [this]
  by_cases e : j = k <;> simp [e]
/-- a transaction is forgotten -/
theorem Rel.forget (h : Rel s R) (t : Nat) : Rel (s.forget t) ⟨R.table, del R.txns t⟩ := by
  unfold AShard.forget AShard.release
  have hal : ∀ u, (({ s with txns := alDel s.txns t } : AShard).txn u).state = if u = t then 0 else R.state u := by
    intro u
    unfold AShard.txn
    rw [show ({ s with txns := alDel s.txns t } : AShard).txns = alDel s.txns t from rfl, alDel_look]
    by_cases e : u = t
    · rw [if_pos e, if_pos e]; rfl
    · rw [if_neg e, if_neg e]
      exact h.state u
  refine { asc := h.asc.del t, table := h.table, txns := fun u => ?_, holds := fun u q => ?_, ok := fun x hx => ?_, len := Nat.le_trans (List.length_filter_le _ _) h.len, o1 := h.o1.del t, o2 := List.Pairwise.filter _ h.o2 }
  · show alLook (alDel s.txns t) u = (txAt (del R.txns t) u).map (RTx.atx s.ticks)
    rw [alDel_look, txAt_del]
    by_cases e : u = t
    · rw [if_pos e, if_pos e]; rfl
    · rw [if_neg e, if_neg e, h.txns]
  · show alLook (s.holds.filter (aliveH { s with txns := alDel s.txns t })) (u, q) = (txAt (del R.txns t) u).bind _
    have := alLook_keys (fun k : Nat × ByteArray => !decide ((({ s with txns := alDel s.txns t } : AShard).txn k.1).state = 0)) s.holds (u, q)
    rw [show (s.holds.filter (aliveH { s with txns := alDel s.txns t })) = (s.holds.filter fun p => !decide ((({ s with txns := alDel s.txns t } : AShard).txn p.1.1).state = 0)) from rfl, this, hal, txAt_del]
    by_cases e : u = t
    · simp [e]
    · rw [if_neg e, if_neg e, h.holds]
      cases hx : txAt R.txns u with
      | none => simp
      | some x =>
        have hst : R.state u = x.st := by unfold RSh.state; rw [hx]; rfl
        have h0 : ¬ x.st = 0 := by have := (h.ok x (txAt_mem hx).1).st; omega
        rw [hst, if_pos (by simp [h0])]
  · exact h.ok x (List.mem_filter.1 hx).1
theorem del_none {xs : List RTx} {t : Nat} (h : txAt xs t = none) : del xs t = xs := List.filter_eq_self.2 fun x hx => by simpa using txAt_none.1 h x hx
/-- what Get answers behind its operation -/
def RSh.got (R : RSh) (t : Nat) (k : ByteArray) : ByteArray × Bool :=
  match lockAt (R.tx t).locks k with
  | some l => if l.wr = true then (l.val, !l.gone) else ((alLook R.table k).getD ByteArray.empty, (alLook R.table k).isSome)
  | none => ((alLook R.table k).getD ByteArray.empty, (alLook R.table k).isSome)
theorem Rel.got (h : Rel s R) (hv : Once1 s.vals) (t : Nat) (k : ByteArray) :
    (if (s.grip t k).writes = true then ((s.grip t k).val, decide ((s.grip t k).way = 1)) else ((alLook s.vals k).getD ByteArray.empty, (alLook s.vals k).isSome)) = R.got t k := by
  unfold AShard.grip RSh.got
  rw [tx_hold h, h.table, sortV_look hv]
  cases hl : lockAt (R.tx t).locks k with
  | none => simp [AGrip.writes]
  | some l =>
    simp only [Option.map_some, Option.getD_some, RLock.writes]
    cases hw : l.wr with
    | false => simp
    | true => simp only [if_true, RLock.grip, hw]; cases l.gone <;> rfl
/-- the vote -/
def RTx.ready (x : RTx) : RTx := ⟨x.id, 3, x.ops, x.age, x.locks⟩
def RSh.prepare (R : RSh) (t : Nat) : RSh × Nat × Nat :=
  if t = 0 then (R, 0, 7) else
  match txAt R.txns t with
  | none => (R, 3, 0)
  | some x => if x.st = 3 then (R, 2, 0) else if x.st = 2 then (⟨R.table, del R.txns t⟩, 3, 0) else if x.locks.any (·.wr) = true then (⟨R.table, upd R.txns x.ready⟩, 2, 0) else (⟨R.table, del R.txns t⟩, 4, 0)
theorem any_locks {L : List (ByteArray × AGrip)} {x : RTx} (h1 : Once1 L) (ho : OnceK x.locks) (h2 : ∀ k, alLook L k = (lockAt x.locks k).map RLock.grip) : anyW L = x.locks.any (·.wr) := by
  rw [Bool.eq_iff_iff]
  unfold anyW
  rw [List.any_eq_true, List.any_eq_true]
  constructor
  · rintro ⟨p, hp, hw⟩
    have := alLook_of h1 (k := p.1) (v := p.2) hp
    rw [h2] at this
    cases hl : lockAt x.locks p.1 with
    | none => rw [hl] at this; cases this
    | some l =>
      rw [hl] at this
      have e : l.grip = p.2 := Option.some.inj this
      exact ⟨l, (lockAt_mem hl).1, by rw [← RLock.writes, e]; exact hw⟩
  · rintro ⟨l, hl, hw⟩
    have e : alLook (x.locks.map fun l => (l.key, l.grip)) l.key = some l.grip := alLook_of (once_locks ho) (List.mem_map.2 ⟨l, hl, rfl⟩)
    rw [look_locks, ← h2] at e
    exact ⟨_, alLook_mem e, by rw [RLock.writes]; exact hw⟩
theorem txAt_put {xs : List RTx} {x y : RTx} {t : Nat} (hx : txAt xs t = some x) (hy : y.id = t) (u : Nat) : txAt (upd xs y) u = if u = t then some y else txAt xs u := by
  rw [txAt_upd, hy]
  by_cases e : u = t
  · subst e; rw [if_pos rfl, if_pos rfl, hx]; rfl
  · rw [if_neg e, if_neg e]
theorem upd_mem {xs : List RTx} {x y : RTx} (h : x ∈ upd xs y) : x = y ∨ x ∈ xs := by
  unfold upd at h
  obtain ⟨z, hz, rfl⟩ := List.mem_map.1 h
  split
  · exact .inl rfl
  · exact .inr hz
theorem Rel.ready (h : Rel s R) {t : Nat} {x : RTx} (hx : txAt R.txns t = some x) : Rel { s with txns := alPut s.txns t ⟨3, 0, 0⟩ } ⟨R.table, upd R.txns x.ready⟩ := by
  have hid : x.ready.id = t := (txAt_mem hx).2
  have hok := h.ok x (txAt_mem hx).1
  refine { asc := h.asc.upd _, table := h.table, txns := fun u => ?_, holds := fun u q => ?_, ok := fun y hy => ?_, len := by rw [show (RSh.mk R.table (upd R.txns x.ready)).txns = upd R.txns x.ready from rfl, upd_len]; exact h.len, o1 := h.o1.put _ _, o2 := h.o2 }
  · show alLook (alPut s.txns t ⟨3, 0, 0⟩) u = (txAt (upd R.txns x.ready) u).map (RTx.atx s.ticks)
    rw [alLook_put, txAt_put hx hid]
    by_cases e : u = t
    · rw [if_pos e, if_pos e]; rfl
    · rw [if_neg e, if_neg e, h.txns]
  · show alLook s.holds (u, q) = (txAt (upd R.txns x.ready) u).bind _
    rw [txAt_put hx hid, h.holds]
    by_cases e : u = t
    · subst e; rw [if_pos rfl, hx]; rfl
    · rw [if_neg e]
  · rcases upd_mem hy with rfl | hy
    · exact { id0 := hok.id0, idb := hok.idb, st := .inr (.inr rfl), age := fun hn => absurd rfl hn, once := hok.once, four := hok.four, small := hok.small, read := hok.read }
    · exact h.ok y hy
/-- a commit -/
theorem Rel.commit {s' : AShard} (h : Rel s R) {t : Nat} {x : RTx} (hx : txAt R.txns t = some x) (hv : Once1 s.vals) (hv' : Once1 s'.vals) (hc : Committed s s' t) : Rel s' ⟨tsets R.table x.locks, del R.txns t⟩ := by
  obtain ⟨vs, rfl, hl⟩ := hc
  have hok := h.ok x (txAt_mem hx).1
  have hta : TAsc R.table := by rw [h.table]; exact sortV_asc hv
  obtain ⟨k1, k2⟩ := tsets_spec x.locks R.table hok.once hta
  have h1 : Rel { s with vals := vs } ⟨tsets R.table x.locks, R.txns⟩ := { asc := h.asc, table := ?_, txns := h.txns, holds := h.holds, ok := h.ok, len := h.len, o1 := h.o1, o2 := h.o2 }
  · exact h1.forget t
  · refine k1.ext (sortV_asc hv') fun q => ?_
    show _ = alLook (sortV vs) q
    rw [k2, sortV_look (show Once1 vs from hv'), h.table, sortV_look hv]
    rw [hl, h.holds, hx]
    rfl
/-- time -/
def RTx.older (x : RTx) : Option RTx := if x.st = 3 then some x else if x.age + 1 = 16 then none else some ⟨x.id, x.st, x.ops, x.age + 1, x.locks⟩
def RSh.tick (R : RSh) : RSh := ⟨R.table, R.txns.filterMap RTx.older⟩
theorem older_id {x y : RTx} (h : x.older = some y) : y.id = x.id := by
  unfold RTx.older at h
  split at h
  · cases h; rfl
  · split at h
    · cases h
    · cases h; rfl
theorem txAt_older {xs : List RTx} (h : Asc xs) (t : Nat) : txAt (xs.filterMap RTx.older) t = (txAt xs t).bind RTx.older := by
  induction xs with
  | nil => rfl
  | cons y ys ih =>
    obtain ⟨h1, h2⟩ := List.pairwise_cons.1 h
    have ih := ih h2
    unfold txAt at *
    rw [List.filterMap_cons]
    by_cases e : y.id = t
    · have hn : (ys.filterMap RTx.older).find? (fun x => decide (x.id = t)) = none := by
        rw [List.find?_eq_none]
        intro z hz
        obtain ⟨v, hv, ho⟩ := List.mem_filterMap.1 hz
        have := older_id ho
        have := h1 v hv
        simp; omega
      rw [List.find?_cons_of_pos (by simpa using e)]
      simp only [Option.bind_some]
      cases ho : y.older with
      | none => exact hn
      | some z =>
        simp only []
        rw [List.find?_cons_of_pos (by have := older_id ho; simp; omega)]
    · rw [List.find?_cons_of_neg (by simpa using e)]
      cases ho : y.older with
      | none => exact ih
      | some z =>
        simp only []
        rw [List.find?_cons_of_neg (by have := older_id ho; simp; omega)]
        exact ih
theorem alLook_busy {K V : Type} [DecidableEq K] (c : K × V → Bool) {l : List (K × V)} (h : Once1 l) (k : K) : alLook (l.filter c) k = (alLook l k).bind fun v => if c (k, v) = true then some v else none := by
  cases hl : alLook l k with
  | none =>
    rw [alLook_none] at hl
    simp only [Option.bind_none]
    rw [alLook_none]
    exact fun p hp => hl p (List.mem_filter.1 hp).1
  | some v =>
    have hm := alLook_mem hl
    simp only [Option.bind_some]
    by_cases hc : c (k, v) = true
    · rw [if_pos hc]
      exact alLook_of (List.Pairwise.filter _ h) (List.mem_filter.2 ⟨hm, hc⟩)
    · rw [if_neg hc, alLook_none]
      intro p hp e
      obtain ⟨a, b⟩ := List.mem_filter.1 hp
      have := h.same a hm e
      rw [this] at b
      exact hc b
theorem Rel.tick (h : Rel s R) : Rel s.tick R.tick := by
  have hidle : ∀ x ∈ R.txns, idleT { s with ticks := s.ticks + 1 } (x.atx s.ticks) = x.older.isNone := by
    intro x hx
    have hok := h.ok x hx
    unfold idleT RTx.older RTx.atx
    by_cases h3 : x.st = 3
    · simp [h3]
    · obtain ⟨a1, a2⟩ := hok.age h3
      rw [if_neg h3, if_neg h3]
      have e : ((s.ticks + 1 : Nat) : Int) - ((s.ticks - x.age : Nat) : Int) = ((x.age + 1 : Nat) : Int) := by omega
      simp only [e]
      have e2 : IntKind.u64.wrap ((x.age + 1 : Nat) : Int) = ((x.age + 1 : Nat) : Int) := by
        unfold IntKind.wrap
        simp [IntKind.signed, IntKind.bits]
        omega
      rw [e2]
      by_cases h15 : x.age + 1 = 16
      · simp [h3, h15]
      · have : ¬ (16 : Int) ≤ ((x.age + 1 : Nat) : Int) := by omega
        simp [h3, h15]; omega
  have hlk : ∀ u, alLook (s.txns.filter (busyT { s with ticks := s.ticks + 1 })) u = (txAt (R.txns.filterMap RTx.older) u).map (RTx.atx (s.ticks + 1)) := by
    intro u
    rw [alLook_busy _ h.o1, h.txns, txAt_older h.asc]
    cases hx : txAt R.txns u with
    | none => rfl
    | some x =>
      have hm := (txAt_mem hx).1
      have hi := hidle x hm
      simp only [Option.map_some, Option.bind_some]
      unfold busyT
      simp only []
      rw [hi]
      unfold RTx.older RTx.atx
      by_cases h3 : x.st = 3
      · simp [h3]
      · obtain ⟨a1, a2⟩ := (h.ok x hm).age h3
        by_cases h15 : x.age + 1 = 16
        · simp [h3, h15]
        · simp [h3, h15]
  have hst : ∀ u, (({ s with ticks := s.ticks + 1, txns := s.txns.filter (busyT { s with ticks := s.ticks + 1 }) } : AShard).txn u).state = ((txAt (R.txns.filterMap RTx.older) u).map (·.st)).getD 0 := by
    intro u
    unfold AShard.txn
    rw [show ({ s with ticks := s.ticks + 1, txns := s.txns.filter (busyT { s with ticks := s.ticks + 1 }) } : AShard).txns = s.txns.filter (busyT { s with ticks := s.ticks + 1 }) from rfl, hlk]
    cases txAt (R.txns.filterMap RTx.older) u with
    | none => rfl
    | some x => exact atx_state _ x
  have hok : ∀ x ∈ R.txns.filterMap RTx.older, x.Ok (s.ticks + 1) := by
    intro y hy
    obtain ⟨x, hx, ho⟩ := List.mem_filterMap.1 hy
    have k := h.ok x hx
    unfold RTx.older at ho
    by_cases h3 : x.st = 3
    · rw [if_pos h3] at ho
      cases ho
      exact { id0 := k.id0, idb := k.idb, st := k.st, age := fun hn => absurd h3 hn, once := k.once, four := k.four, small := k.small, read := k.read }
    · rw [if_neg h3] at ho
      obtain ⟨a1, a2⟩ := k.age h3
      by_cases h15 : x.age + 1 = 16
      · rw [if_pos h15] at ho; cases ho
      · rw [if_neg h15] at ho
        cases ho
        exact { id0 := k.id0, idb := k.idb, st := k.st, age := fun _ => ⟨by show x.age + 1 ≤ s.ticks + 1; omega, by show x.age + 1 < 16; omega⟩, once := k.once, four := k.four, small := k.small, read := k.read }
  refine { asc := ?_, table := h.table, txns := hlk, holds := fun u q => ?_, ok := hok, len := Nat.le_trans (List.length_filterMap_le _ _) h.len, o1 := List.Pairwise.filter _ h.o1, o2 := List.Pairwise.filter _ h.o2 }
  · unfold Asc RSh.tick
    rw [List.pairwise_filterMap]
    refine h.asc.imp ?_
    intro a b hab a' ha b' hb'
    rw [older_id ha, older_id hb']
    exact hab
  · show alLook (s.holds.filter (aliveH _)) (u, q) = (txAt (R.txns.filterMap RTx.older) u).bind _
    have := alLook_keys (fun k : Nat × ByteArray => !decide ((({ s with ticks := s.ticks + 1, txns := s.txns.filter (busyT { s with ticks := s.ticks + 1 }) } : AShard).txn k.1).state = 0)) s.holds (u, q)
    rw [show (s.holds.filter (aliveH { s with ticks := s.ticks + 1, txns := s.txns.filter (busyT { s with ticks := s.ticks + 1 }) })) = (s.holds.filter fun p => !decide ((({ s with ticks := s.ticks + 1, txns := s.txns.filter (busyT { s with ticks := s.ticks + 1 }) } : AShard).txn p.1.1).state = 0)) from rfl, this, hst]
    cases hx : txAt (R.txns.filterMap RTx.older) u with
    | none => simp
    | some y =>
      have h0 : ¬ y.st = 0 := by have := (hok y (txAt_mem hx).1).st; omega
      simp only [Option.map_some, Option.getD_some, Option.bind_some]
      rw [if_pos (by simp [h0]), h.holds]
      rw [txAt_older h.asc] at hx
      cases hz : txAt R.txns u with
      | none => rw [hz] at hx; cases hx
      | some z =>
        rw [hz] at hx
        have ho : z.older = some y := hx
        have : y.locks = z.locks := by
          unfold RTx.older at ho
          split at ho
          · cases ho; rfl
          · split at ho
            · cases ho
            · cases ho; rfl
        rw [this]; rfl
/-- who waits -/
def RSh.waiting (R : RSh) : List Nat := (R.txns.filter fun x => decide (x.st = 3)).map (·.id)
theorem Rel.waiting (h : Rel s R) {ss : List Nat} (hp : ss.Perm (s.txns.map (·.1))) (hs : ss.Pairwise (· ≤ ·)) : waits (atT s.txns ss) = R.waiting := by
  have hp2 : ss.Perm (R.txns.map (·.id)) := by
    refine hp.trans ?_
    rw [List.perm_ext_iff_of_nodup (once_keys h.o1) (asc_nodup h.asc)]
    intro t
    constructor
    · intro ht
      obtain ⟨p, hp, rfl⟩ := List.mem_map.1 ht
      have := alLook_of h.o1 (k := p.1) (v := p.2) hp
      rw [h.txns] at this
      cases hx : txAt R.txns p.1 with
      | none => rw [hx] at this; cases this
      | some x => exact List.mem_map.2 ⟨x, (txAt_mem hx).1, (txAt_mem hx).2⟩
    · intro ht
      obtain ⟨x, hx, rfl⟩ := List.mem_map.1 ht
      have := h.txns x.id
      rw [h.asc.at hx] at this
      exact List.mem_map.2 ⟨_, alLook_mem this, rfl⟩
  have e : ss = R.txns.map (·.id) := List.Perm.eq_of_pairwise (le := fun a b : Nat => a ≤ b) (fun a b _ _ h1 h2 => Nat.le_antisymm h1 h2) hs ((asc_ids.1 h.asc).imp fun hab => Nat.le_of_lt hab) hp2
  rw [e]
  unfold waits atT RSh.waiting
  rw [List.map_map, List.filter_map, List.map_map]
  have : (R.txns.filter ((fun y : Nat × ATxn => decide (y.2.state = 3)) ∘ ((fun k => (k, (alLook s.txns k).getD ⟨0, 0, 0⟩)) ∘ fun x => x.id))) = R.txns.filter fun x => decide (x.st = 3) := by
    apply List.filter_congr
    intro x hx
    have := h.txns x.id
    rw [h.asc.at hx] at this
    simp only [Function.comp, this, Option.map_some, Option.getD_some, atx_state]
  rw [this]
  rfl
end
end Go.Proofs.YtejiankgafjppaaGreatDoor
