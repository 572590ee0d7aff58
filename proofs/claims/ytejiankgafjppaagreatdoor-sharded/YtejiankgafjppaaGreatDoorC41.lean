import Derived.Test.YtejiankgafjppaaGreatDoorC37
import Derived.Test.YtejiankgafjppaaGreatDoorC39
import Derived.Test.YtejiankgafjppaaGreatDoorC40
/- A KEEPER, as mathematics: each call of the program's shard and of the document's keeps how they answer to one another. -/
namespace Go.Proofs.YtejiankgafjppaaGreatDoor
open Go.RowKit Go.Maps
open Sc

/-- they answer to one another; how many operations, ticks, pairs there are at most -/
structure Gd (c T : Nat) (s : AShard) (R : RSh) : Prop where
  rel : Rel s R
  ticks : s.ticks ≤ T
  table : R.table.length ≤ 4 * c
  ops : ∀ x ∈ R.txns, x.ops ≤ c
  keys : ∀ p ∈ R.table, p.1.size ≤ 16
  ages : ∀ x ∈ R.txns, x.age < 16
section
variable {c T : Nat} {s s' : AShard} {R : RSh}
theorem Gd.mono (h : Gd c T s R) {c' T' : Nat} (hc : c ≤ c') (hT : T ≤ T') : Gd c' T' s R := ⟨h.rel, Nat.le_trans h.ticks hT, by have := h.table; omega, fun x hx => by have := h.ops x hx; omega, h.keys, h.ages⟩
theorem Gd.st (h : Gd c T s R) (t : Nat) : R.state t ≤ 3 := by
  unfold RSh.state
  cases hx : txAt R.txns t with
  | none => simp
  | some x => have := (h.rel.ok x (txAt_mem hx).1).st; simp; omega
theorem Gd.state (h : Gd c T s R) (t : Nat) : (s.txn t).state ≤ 3 := by rw [h.rel.state]; exact h.st t
theorem Gd.done (h : Gd c T s R) (t : Nat) : (s.txn t).done ≤ c := by
  cases hx : txAt R.txns t with
  | none => rw [h.rel.gone hx]; exact Nat.zero_le _
  | some x =>
    rw [h.rel.here hx]
    unfold RTx.atx
    split
    · exact Nat.zero_le _
    · exact h.ops x (txAt_mem hx).1
theorem Gd.count (h : Gd c T s R) (t : Nat) : s.count t ≤ 4 := by
  cases hx : txAt R.txns t with
  | none => rw [h.rel.count0 hx]; omega
  | some x => rw [h.rel.count hx]; exact (h.rel.ok x (txAt_mem hx).1).four
theorem grip_small {l : RLock} (h1 : l.key.size ≤ 16) (h2 : l.val.size ≤ 32) : SmallH (l.key, l.grip) := by
  refine ⟨h1, h2, ?_⟩
  show l.grip.way < 256
  unfold RLock.grip
  simp only []
  split
  · split <;> decide
  · decide
theorem Gd.holds (h : Gd c T s R) {p : (Nat × ByteArray) × AGrip} (hp : p ∈ s.holds) : SmallH (p.1.2, p.2) := by
  have := alLook_of h.rel.o2 (k := p.1) (v := p.2) hp
  rw [show p.1 = (p.1.1, p.1.2) from rfl, h.rel.holds] at this
  cases hx : txAt R.txns p.1.1 with
  | none => rw [hx] at this; cases this
  | some x =>
    rw [hx] at this
    simp only [Option.bind_some] at this
    cases hl : lockAt x.locks p.1.2 with
    | none => rw [hl] at this; cases this
    | some l =>
      rw [hl] at this
      have e : l.grip = p.2 := Option.some.inj this
      obtain ⟨hm, hk⟩ := lockAt_mem hl
      have hs := (h.rel.ok x (txAt_mem hx).1).small l hm
      rw [← e, ← hk]
      exact grip_small hs.2.1 hs.2.2
theorem Gd.small (h : Gd c T s R) : s.Small := fun _ hp => h.holds hp
theorem Gd.len (h : Gd c T s R) : s.txns.length ≤ 12 := by rw [h.rel.len_eq]; exact h.rel.len
theorem Gd.once (h : Gd c T s R) (t : Nat) : OnceK (R.tx t).locks := by
  unfold RSh.tx
  cases hx : txAt R.txns t with
  | none => unfold OnceK; simp
  | some x => exact (h.rel.ok x (txAt_mem hx).1).once
theorem Gd.txops (h : Gd c T s R) (t : Nat) : (R.tx t).ops ≤ c := by
  unfold RSh.tx
  cases hx : txAt R.txns t with
  | none => exact Nat.zero_le _
  | some x => exact h.ops x (txAt_mem hx).1
theorem Gd.four (h : Gd c T s R) : ∀ x ∈ R.txns, x.locks.length ≤ 4 := fun x hx => (h.rel.ok x hx).four
theorem operate_keeps (s : AShard) (t : Nat) (seq : Int) (k : ByteArray) (g : AGrip) : (s.operate t seq k g).1.ticks = s.ticks ∧ (s.operate t seq k g).1.vals = s.vals := by
  unfold AShard.operate
  split
  · split
    · exact ⟨rfl, rfl⟩
    · unfold AShard.take
      split <;> exact ⟨rfl, rfl⟩
  · exact ⟨rfl, rfl⟩
theorem op_ops {t : Nat} {seq : Int} {k : ByteArray} {wr : Bool} {f : List RLock → List RLock} {x : RTx} (h : ∀ x ∈ R.txns, x.ops ≤ c) (ht : (R.tx t).ops ≤ c) (hx : x ∈ (R.op t seq k wr f).1.txns) : x.ops ≤ c + 1 := by
  unfold RSh.op at hx
  split at hx
  · split at hx
    · rcases began_mem hx (show (R.tx t).doomed.id = t from tx_id R t) with rfl | ⟨hm, _⟩
      · show (R.tx t).ops ≤ _; omega
      · have := h x hm; omega
    · rcases began_mem hx (show ((R.tx t).worked f).id = t from tx_id R t) with rfl | ⟨hm, _⟩
      · show (R.tx t).ops + 1 ≤ _; omega
      · have := h x hm; omega
  · have := h x hx; omega
theorem op_tbl {t : Nat} {seq : Int} {k : ByteArray} {wr : Bool} (f : List RLock → List RLock) : (R.op t seq k wr f).1.table = R.table := by
  unfold RSh.op
  split
  · split <;> rfl
  · rfl
theorem op_ages {t : Nat} {seq : Int} {k : ByteArray} {wr : Bool} {f : List RLock → List RLock} {x : RTx} (h : ∀ x ∈ R.txns, x.age < 16) (hx : x ∈ (R.op t seq k wr f).1.txns) : x.age < 16 := by
  unfold RSh.op at hx
  split at hx
  · split at hx
    · rcases began_mem hx (show (R.tx t).doomed.id = t from tx_id R t) with rfl | ⟨hm, _⟩
      · show 0 < 16; omega
      · exact h x hm
    · rcases began_mem hx (show ((R.tx t).worked f).id = t from tx_id R t) with rfl | ⟨hm, _⟩
      · show 0 < 16; omega
      · exact h x hm
  · exact h x hx
theorem Gd.op (h : Gd c T s R) (t : Nat) (seq : Int) (k : ByteArray) (g : AGrip) (f : List RLock → List RLock) (ht : t < 18446744073709551616) (hg : g.val.size ≤ 32) (hf : Locks k g f) :
    (s.operate t seq k g).2 = (R.op t seq k g.writes f).2 ∧ Gd (c + 1) T (s.operate t seq k g).1 (R.op t seq k g.writes f).1 := by
  obtain ⟨h1, h2⟩ := h.rel.op t seq k g f ht hg hf
  refine ⟨h1, h2, by rw [(operate_keeps s t seq k g).1]; exact h.ticks, by rw [op_tbl]; have := h.table; omega, fun x hx => op_ops h.ops (h.txops t) hx, by rw [op_tbl]; exact h.keys, fun x hx => op_ages h.ages hx⟩
theorem Gd.forget (h : Gd c T s R) (t : Nat) : Gd c T (s.forget t) ⟨R.table, del R.txns t⟩ :=
  ⟨h.rel.forget t, h.ticks, h.table, fun x hx => h.ops x (List.mem_filter.1 hx).1, h.keys, fun x hx => h.ages x (List.mem_filter.1 hx).1⟩
theorem Gd.gone (h : Gd c T s R) {t : Nat} (ht : txAt R.txns t = none) : Gd c T (s.forget t) R := by
  have := h.forget t
  rw [del_none ht] at this
  exact this
theorem Gd.tick (h : Gd c T s R) : Gd c (T + 1) s.tick R.tick := by
  refine ⟨h.rel.tick, ?_, h.table, fun x hx => ?_, h.keys, fun x hx => ?_⟩
  · have := h.ticks
    show s.ticks + 1 ≤ _
    omega
  · obtain ⟨y, hy, e⟩ := List.mem_filterMap.1 hx
    have := h.ops y hy
    unfold RTx.older at e
    split at e
    · cases e; exact this
    · split at e
      · cases e
      · cases e; exact this
  · obtain ⟨y, hy, e⟩ := List.mem_filterMap.1 hx
    have := h.ages y hy
    unfold RTx.older at e
    split at e
    · cases e; exact this
    · split at e
      · cases e
      · cases e; show y.age + 1 < 16; omega
theorem st_of (h : Gd c T s R) {t : Nat} {x : RTx} (hx : txAt R.txns t = some x) : (s.txn t).state = x.st := by
  rw [h.rel.state]
  unfold RSh.state
  rw [hx]; rfl
theorem st_none (h : Gd c T s R) {t : Nat} (hx : txAt R.txns t = none) : (s.txn t).state = 0 := by
  rw [h.rel.state]
  unfold RSh.state
  rw [hx]; rfl
theorem Gd.prepare (h : Gd c T s R) (t : Nat) (l : ALog) (d : ADisk) {L : List (ByteArray × AGrip)} (h1 : Once1 L) (h2 : ∀ k, alLook L k = alLook s.holds (t, k)) (hk : (l.keep d 1 (str (be 8 t ++ holdsB (sortG L)))).2.2 = 0) :
    Gd c T (s.prepare l d t L).1 (R.prepare t).1 ∧ (s.prepare l d t L).2.2.2 = (R.prepare t).2 ∧ (((s.prepare l d t L).2.1 = l ∧ (s.prepare l d t L).2.2.1 = d) ∨ ((s.prepare l d t L).2.1 = (l.keep d 1 (str (be 8 t ++ holdsB (sortG L)))).1 ∧ (s.prepare l d t L).2.2.1 = (l.keep d 1 (str (be 8 t ++ holdsB (sortG L)))).2.1)) := by
  unfold AShard.prepare RSh.prepare
  by_cases h0 : t = 0
  · rw [if_pos h0, if_pos h0]; exact ⟨h, rfl, .inl ⟨rfl, rfl⟩⟩
  rw [if_neg h0, if_neg h0]
  cases hx : txAt R.txns t with
  | none =>
    rw [st_none h hx]
    exact ⟨h.gone hx, rfl, .inl ⟨rfl, rfl⟩⟩
  | some x =>
    rw [st_of h hx]
    simp only []
    by_cases h3 : x.st = 3
    · rw [if_pos h3, if_pos h3]; exact ⟨h, rfl, .inl ⟨rfl, rfl⟩⟩
    rw [if_neg h3, if_neg h3]
    have hok := h.rel.ok x (txAt_mem hx).1
    by_cases h2' : x.st = 2
    · have : ¬ x.st = 1 := by omega
      rw [if_neg this, if_pos h2']
      exact ⟨h.forget t, rfl, .inl ⟨rfl, rfl⟩⟩
    · have e1 : x.st = 1 := by have := hok.st; omega
      rw [if_pos e1, if_neg h2']
      have ha : anyW L = x.locks.any (·.wr) := any_locks h1 hok.once fun k => by rw [h2, h.rel.holds, hx]; rfl
      unfold AShard.prep
      rw [ha]
      by_cases hw : x.locks.any (·.wr) = true
      · rw [if_pos hw, if_pos hw, if_pos hk]
        refine ⟨⟨h.rel.ready hx, h.ticks, h.table, fun y hy => ?_, h.keys, fun y hy => ?_⟩, rfl, .inr ⟨rfl, rfl⟩⟩
        · rcases upd_mem hy with rfl | hy
          · exact h.ops x (txAt_mem hx).1
          · exact h.ops y hy
        · rcases upd_mem hy with rfl | hy
          · exact h.ages x (txAt_mem hx).1
          · exact h.ages y hy
      · rw [if_neg hw, if_neg hw]
        exact ⟨h.forget t, rfl, .inl ⟨rfl, rfl⟩⟩
theorem tsets_len : ∀ (ls : List RLock) (tb : Prs), (tsets tb ls).length ≤ tb.length + ls.length
  | [], tb => by simp [tsets]
  | l :: ls, tb => by
    have ih := tsets_len ls (if l.wr = true then tset tb l else tb)
    have e : tsets tb (l :: ls) = tsets (if l.wr = true then tset tb l else tb) ls := rfl
    rw [e]
    have : (if l.wr = true then tset tb l else tb).length ≤ tb.length + 1 := by
      split
      · exact tsetGo_len l tb l.gone
      · omega
    rw [List.length_cons]
    omega
theorem tset_mem (l : RLock) : ∀ (tb : Prs) (b : Bool) {q : ByteArray × ByteArray}, q ∈ tsetGo l tb b → q ∈ tb ∨ q.1 = l.key
  | [], b, q, h => by
    unfold tsetGo at h
    split at h
    · cases h
    · simp at h; exact .inr (by rw [h])
  | y :: ys, b, q, h => by
    have key : ∀ b', q ∈ tsetGo l ys b' → q ∈ y :: ys ∨ q.1 = l.key := fun b' h => by
      rcases tset_mem l ys b' h with h | h
      · exact .inl (by simp [h])
      · exact .inr h
    unfold tsetGo at h
    split at h
    · rcases List.mem_cons.1 h with e | h
      · exact .inr (by rw [e])
      · rcases List.mem_cons.1 h with e | h
        · exact .inl (by simp [e])
        · exact key _ h
    · split at h
      · rcases List.mem_cons.1 h with e | h
        · exact .inl (by simp [e])
        · exact key _ h
      · split at h
        · exact key _ h
        · rcases List.mem_cons.1 h with e | h
          · exact .inr (by rw [e])
          · exact key _ h
theorem tsets_mem : ∀ (ls : List RLock) (tb : Prs) {q : ByteArray × ByteArray}, q ∈ tsets tb ls → q ∈ tb ∨ ∃ l ∈ ls, q.1 = l.key
  | [], tb, q, h => .inl h
  | l :: ls, tb, q, h => by
    rcases tsets_mem ls (if l.wr = true then tset tb l else tb) h with h | ⟨x, hx, e⟩
    · split at h
      · rcases tset_mem l tb l.gone h with h | h
        · exact .inl h
        · exact .inr ⟨l, by simp, h⟩
      · exact .inl h
    · exact .inr ⟨x, by simp [hx], e⟩
theorem Gd.commit (h : Gd c T s R) {t : Nat} {x : RTx} (hx : txAt R.txns t = some x) (h0 : t ≠ 0) (h3 : x.st = 3) (hv : Once1 s.vals) (hv' : Once1 s'.vals) (hc : Committed s s' t) : Gd (c + 1) T s' (R.commit t).1 ∧ (R.commit t).2 = 0 := by
  have e : R.commit t = (⟨tsets R.table x.locks, del R.txns t⟩, 0) := by
    unfold RSh.commit
    rw [if_neg h0, hx]
    simp only []
    rw [if_pos h3]
  rw [e]
  refine ⟨⟨h.rel.commit hx hv hv' hc, ?_, ?_, fun y hy => ?_, fun q hq => ?_, fun y hy => h.ages y (List.mem_filter.1 hy).1⟩, rfl⟩
  · obtain ⟨vs, rfl, _⟩ := hc
    exact h.ticks
  · have h1 := tsets_len x.locks R.table
    have h2 := h.table
    have h4 := h.four x (txAt_mem hx).1
    show (tsets R.table x.locks).length ≤ _
    omega
  · have := h.ops y (List.mem_filter.1 hy).1; omega
  · rcases tsets_mem x.locks R.table hq with hq | ⟨l, hl, e⟩
    · exact h.keys q hq
    · rw [e]; exact ((h.rel.ok x (txAt_mem hx).1).small l hl).2.1
theorem commit_no (h : Gd c T s R) {t : Nat} (h3 : R.state t ≠ 3) : R.commit t = (R, if t = 0 then 7 else if (s.txn t).state = 0 then 0 else 4) := by
  unfold RSh.commit
  by_cases h0 : t = 0
  · rw [if_pos h0, if_pos h0]
  rw [if_neg h0, if_neg h0]
  cases hx : txAt R.txns t with
  | none => rw [st_none h hx]; rfl
  | some x =>
    have hs := st_of h hx
    have hn : ¬ x.st = 3 := by rw [← hs, h.rel.state]; exact h3
    have h1 : ¬ x.st = 0 := by have := (h.rel.ok x (txAt_mem hx).1).st; omega
    simp only []
    rw [if_neg hn, hs, if_neg h1]
theorem Gd.abort (h : Gd c T s R) (t : Nat) : Gd c T (if t = 0 then s else s.forget t) (R.abort t).1 ∧ (R.abort t).2 = if t = 0 then 7 else 0 := by
  unfold RSh.abort
  by_cases h0 : t = 0
  · rw [if_pos h0, if_pos h0, if_pos h0]; exact ⟨h, rfl⟩
  · rw [if_neg h0, if_neg h0, if_neg h0]; exact ⟨h.forget t, rfl⟩
theorem holdsB_le : ∀ (xs : List (ByteArray × AGrip)), (∀ x ∈ xs, SmallH x) → (holdsB xs).length ≤ xs.length * 51
  | [], _ => by simp [holdsB]
  | x :: xs, h => by
    have h1 := holdB_len (h x (by simp))
    have h2 := holdsB_le xs fun y hy => h y (by simp [hy])
    unfold holdsB at *
    rw [List.flatMap_cons, List.length_append, List.length_cons]
    omega
/-- what is written of a transaction that is prepared is not too long -/
theorem Gd.entry (h : Gd c T s R) (t : Nat) {L : List (ByteArray × AGrip)} (h1 : Once1 L) (h2 : ∀ k, alLook L k = alLook s.holds (t, k)) : (str (be 8 t ++ holdsB (sortG L))).size ≤ 255 := by
  rw [str_size, List.length_append, be_len]
  have hc := AShard.count_of (s := s) (t := t) (L := L) h.rel.o2 h1 h2
  have h4 := h.count t
  have hl : (sortG L).length = L.length := by unfold sortG; rw [List.length_map, sortK_len]
  have := holdsB_le (sortG L) fun x hx => by
    have hm := alLook_of h1 (k := x.1) (v := x.2) (sortG_mem h1 hx)
    rw [h2] at hm
    have := h.holds (alLook_mem hm)
    exact this
  omega
end
end Go.Proofs.YtejiankgafjppaaGreatDoor
/- A KEEPER: its host's calls that write. -/
namespace Go.Proofs.YtejiankgafjppaaGreatDoor
open Go.RowKit Go.Maps
open Sc

theorem SFr.refl (sp bV bT bH lp p : Nat) (w : World) : SFr sp bV bT bH lp p w w := (OFr.refl lp p w).s
theorem rstate_some {c T : Nat} {s : AShard} {R : RSh} (h : Gd c T s R) {t : Nat} (h3 : R.state t = 3) : ∃ x, txAt R.txns t = some x ∧ x.st = 3 ∧ t ≠ 0 := by
  unfold RSh.state at h3
  cases hx : txAt R.txns t with
  | none => rw [hx] at h3; cases h3
  | some x =>
    rw [hx] at h3
    obtain ⟨h1, h2⟩ := txAt_mem hx
    exact ⟨x, rfl, h3, by rw [← h2]; exact (h.rel.ok x h1).id0⟩
section
variable [Inhabited Bs] (hp p sp gp bV bT bH lp bD bN m n kp mp c T t fst : Nat) (s : AShard) (l : ALog) (d : ADisk) (cv uv : Value) (cs : List Value) (us : List Nat) (R : RSh) (g : List (List Rec)) (w : World)
/-- what a call that writes leaves -/
structure Wrote (w w' : World) (hp p sp gp bV bT bH lp bD bN m n kp mp c T fst : Nat) (cv uv : Value) (cs : List Value) (us : List Nat) (R R' : RSh) : Prop where
  kin : ∃ m' n' s' l' d' g', m' ≤ m + 16 ∧ n' ≤ n + 3 ∧ KIn w' hp p sp gp bV bT bH lp bD bN m' n' s' l' d' kp mp cv uv cs us R ∧ Mu l' d' fst g' ∧ d'.down = false ∧ Gd c T s' R'
  fr : LFr w w'
  ref : ∀ rp R0, RS w rp R0 → RS w' rp R0
theorem kPrep (h : KIn w hp p sp gp bV bT bH lp bD bN m n s l d kp mp cv uv cs us R) (hmu : Mu l d fst g) (hdn : d.down = false) (hg : Gd c T s R) (hm : m ≤ 1000000) (hn : n ≤ 1000000) (hB : 2 ≤ (B0 : Nat)) (hmet : Met w) (hpow : Pows w) (ht : t < 18446744073709551616) :
    Calls Tryz.prog 25 #[.pointer (some ⟨hp, 0, none⟩), .int .u64 (t : Int), wellV] w fun e w' => e = .returned (.tuple #[.int .i64 ((R.prepare t).2.1 : Int), .int .i64 ((R.prepare t).2.2 : Int)]) ∧ Wrote w w' hp p sp gp bV bT bH lp bD bN m n kp mp c T fst cv uv cs us R (R.prepare t).1 := by
  obtain ⟨hh, hs, hb⟩ := h.host
  refine (hPrep_x B0 hp sp gp bV bT bH m lp p bD bN n t s l d (-1) (-1) 0 0 w (fun v x s' l' d' m' n' => v = (R.prepare t).2.1 ∧ x = (R.prepare t).2.2 ∧ Gd c T s' (R.prepare t).1 ∧ (∃ g', Mu l' d' fst g') ∧ d'.down = false ∧ m' ≤ m + 16 ∧ n' ≤ n + 3) hh hs hb hB hmet (fun w1 hs1 hf1 => ?_)).mono ?_
  · refine (prepare_any B0 sp gp bV bT bH m lp p bD bN n t s l (d.knob (-1) (-1)) w1 hs1 ht (by omega) hB hmu.ok.segsNe ((hf1.hfr hs hb).pows hB hpow) (by omega) (by have := hg.count t; omega) hg.small).mono ?_
    rintro e w2 ⟨L, hL1, hL2, rfl, hs2, hx2⟩
    obtain ⟨k1, k2, k3, k4, g', k5, k6, k7⟩ := (hmu.knob (-1) (-1)).keep (well_knob hdn) (by omega) 1 (str (be 8 t ++ holdsB (sortG L))) (hg.entry t hL1 hL2) (by omega)
    obtain ⟨g1, g2, g3⟩ := hg.prepare t l (d.knob (-1) (-1)) hL1 hL2 k1
    have e1 : (s.prepare l (d.knob (-1) (-1)) t L).2.2.2.1 = (R.prepare t).2.1 := congrArg Prod.fst g2
    have e2 : (s.prepare l (d.knob (-1) (-1)) t L).2.2.2.2 = (R.prepare t).2.2 := congrArg Prod.snd g2
    have hlog : (∃ g', Mu (s.prepare l (d.knob (-1) (-1)) t L).2.1 (s.prepare l (d.knob (-1) (-1)) t L).2.2.1 fst g') ∧ (s.prepare l (d.knob (-1) (-1)) t L).2.2.1.down = false := by
      rcases g3 with ⟨a, b⟩ | ⟨a, b⟩
      · rw [a, b]; exact ⟨⟨g, hmu.knob _ _⟩, hdn⟩
      · rw [a, b]; exact ⟨⟨g', k5⟩, k2.up⟩
    exact ⟨_, _, _, _, _, _, _, ⟨e1, e2, g1, hlog.1, hlog.2, by omega, Nat.le_refl _⟩, rfl, hs2, hlog.2, hx2⟩
  · rintro e w' ⟨v', x, s', l', d', m', n', ⟨rfl, rfl, hG, ⟨g', hM⟩, hdn', hm', hn'⟩, rfl, hH, hF⟩
    exact ⟨rfl, ⟨m', n', s', l', _, g', hm', hn', h.sfr hH hF, hM.knob _ _, hdn', hG⟩, LFr.host h.host hF, fun rp R0 hr => hr.sfr h.host hF⟩
theorem kComm (h : KIn w hp p sp gp bV bT bH lp bD bN m n s l d kp mp cv uv cs us R) (hmu : Mu l d fst g) (hdn : d.down = false) (hg : Gd c T s R) (hm : m ≤ 1000000) (hn : n ≤ 1000000) (hB : 2 ≤ (B0 : Nat)) (hmet : Met w) (hpow : Pows w) (ht : t < 18446744073709551616) :
    Calls Tryz.prog 27 #[.pointer (some ⟨hp, 0, none⟩), .int .u64 (t : Int), wellV] w fun e w' => e = .returned (.int .i64 ((R.commit t).2 : Int)) ∧ Wrote w w' hp p sp gp bV bT bH lp bD bN m n kp mp (c + 1) T fst cv uv cs us R (R.commit t).1 := by
  obtain ⟨hh, hs, hb⟩ := h.host
  refine (hComm_x B0 hp sp gp bV bT bH m lp p bD bN n t s l d (-1) (-1) 0 0 w (fun _ x s' l' d' m' n' => x = (R.commit t).2 ∧ Gd (c + 1) T s' (R.commit t).1 ∧ (∃ g', Mu l' d' fst g') ∧ d'.down = false ∧ m' ≤ m + 16 ∧ n' ≤ n + 3) hh hs hb hB hmet (fun w1 hs1 hf1 => ?_)).mono ?_
  · by_cases h3 : R.state t = 3
    · obtain ⟨x, hx, hx3, h0⟩ := rstate_some hg h3
      obtain ⟨k1, k2, k3, k4, g', k5, k6, k7⟩ := (hmu.knob (-1) (-1)).keep (well_knob hdn) (by omega) 2 (str (be 8 t)) (by rw [str_size, be_len]; decide) (by omega)
      have hv : Once1 s.vals := by obtain ⟨_, _, _, h3, _⟩ := hs1.sh.vals; exact h3
      refine (commit_yes B0 sp gp bV bT bH m lp p bD bN n t 16 s l (d.knob (-1) (-1)) w1 hs1 ht h0 (by rw [hg.rel.state]; exact h3) (by omega) hB hmu.ok.segsNe ((hf1.hfr hs hb).pows hB hpow) (by unfold maxLen; omega) (by have := hg.count t; omega) (fun q hq => by have := (hg.holds hq).2.1; unfold maxLen; simp only [] at this; omega)).mono ?_
      rintro e w2 ⟨rfl, ⟨s', hs2, hcm⟩, hx2⟩
      rw [k1] at hcm ⊢
      rw [if_pos rfl] at hcm
      have hv' : Once1 s'.vals := by obtain ⟨_, _, _, h3, _⟩ := hs2.sh.vals; exact h3
      obtain ⟨g1, g2⟩ := hg.commit hx h0 hx3 hv hv' hcm
      exact ⟨0, 0, _, _, _, _, _, ⟨g2.symm, g1, ⟨g', k5⟩, k2.up, Nat.le_refl _, Nat.le_refl _⟩, rfl, hs2, k2.up, hx2⟩
    · have hst : (s.txn t).state ≠ 3 := by rw [hg.rel.state]; exact h3
      refine (commit_none sp gp bV bT bH m t s w1 hs1.sh ht (.inr hst)).mono ?_
      rintro e w2 ⟨rfl, rfl⟩
      have e1 := commit_no hg h3
      refine ⟨0, (R.commit t).2, s, l, _, m, n, ⟨rfl, ?_, ⟨g, hmu.knob (-1) (-1)⟩, hdn, by omega, by omega⟩, ?_, hs1, hdn, SFr.refl _ _ _ _ _ _ _⟩
      · rw [e1]; exact hg.mono (by omega) (Nat.le_refl _)
      · rw [e1]
  · rintro e w' ⟨v', x, s', l', d', m', n', ⟨rfl, hG, ⟨g', hM⟩, hdn', hm', hn'⟩, rfl, hH, hF⟩
    exact ⟨rfl, ⟨m', n', s', l', _, g', hm', hn', h.sfr hH hF, hM.knob _ _, hdn', hG⟩, LFr.host h.host hF, fun rp R0 hr => hr.sfr h.host hF⟩
theorem kAbrt (h : KIn w hp p sp gp bV bT bH lp bD bN m n s l d kp mp cv uv cs us R) (hmu : Mu l d fst g) (hdn : d.down = false) (hg : Gd c T s R) (_hm : m ≤ 1000000) (hn : n ≤ 1000000) (hB : 2 ≤ (B0 : Nat)) (hmet : Met w) (hpow : Pows w) (ht : t < 18446744073709551616) :
    Calls Tryz.prog 26 #[.pointer (some ⟨hp, 0, none⟩), .int .u64 (t : Int), wellV] w fun e w' => e = .returned (.int .i64 ((R.abort t).2 : Int)) ∧ Wrote w w' hp p sp gp bV bT bH lp bD bN m n kp mp c T fst cv uv cs us R (R.abort t).1 := by
  obtain ⟨hh, hs, hb⟩ := h.host
  obtain ⟨ga, gb⟩ := hg.abort t
  refine (hAbrt_x B0 hp sp gp bV bT bH m lp p bD bN n t s l d (-1) (-1) 0 0 w (fun _ x s' l' d' m' n' => x = (R.abort t).2 ∧ Gd c T s' (R.abort t).1 ∧ (∃ g', Mu l' d' fst g') ∧ d'.down = false ∧ m' ≤ m + 16 ∧ n' ≤ n + 3) hh hs hb hB hmet (fun w1 hs1 hf1 => ?_)).mono ?_
  · by_cases h3 : R.state t = 3
    · obtain ⟨x, hx, hx3, h0⟩ := rstate_some hg h3
      obtain ⟨k1, k2, k3, k4, g', k5, k6, k7⟩ := (hmu.knob (-1) (-1)).note (well_knob hdn) (by omega) 3 (str (be 8 t)) (by rw [str_size, be_len]; decide) (by omega)
      refine (abort_yes B0 sp gp bV bT bH m lp p bD bN n t s l (d.knob (-1) (-1)) w1 hs1 ht h0 (by rw [hg.rel.state]; exact h3) (by omega) hB hmu.ok.segsNe ((hf1.hfr hs hb).pows hB hpow)).mono ?_
      rintro e w2 ⟨rfl, hs2, hx2⟩
      rw [k1, if_pos rfl] at hs2
      rw [k1]
      rw [if_neg h0] at ga gb
      exact ⟨0, 0, _, _, _, m, _, ⟨gb.symm, ga, ⟨g', k5⟩, k2.up, by omega, Nat.le_refl _⟩, rfl, hs2, k2.up, hx2⟩
    · have hst : (s.txn t).state ≠ 3 := by rw [hg.rel.state]; exact h3
      refine (abort_none sp gp bV bT bH m t s w1 hs1.sh ht (.inr hst)).mono ?_
      rintro e w2 ⟨rfl, hin, hf2⟩
      obtain ⟨hs2, hx2⟩ := hs1.ops hin hf2
      exact ⟨0, _, _, l, _, m, n, ⟨gb.symm, ga, ⟨g, hmu.knob (-1) (-1)⟩, hdn, by omega, by omega⟩, rfl, hs2, hdn, hx2⟩
  · rintro e w' ⟨v', x, s', l', d', m', n', ⟨rfl, hG, ⟨g', hM⟩, hdn', hm', hn'⟩, rfl, hH, hF⟩
    exact ⟨rfl, ⟨m', n', s', l', _, g', hm', hn', h.sfr hH hF, hM.knob _ _, hdn', hG⟩, LFr.host h.host hF, fun rp R0 hr => hr.sfr h.host hF⟩
end
end Go.Proofs.YtejiankgafjppaaGreatDoor
/- A KEEPER: looks. -/
namespace Go.Proofs.YtejiankgafjppaaGreatDoor
open Go.RowKit Go.Maps
open Sc

theorem RS.table [Inhabited Bs] {w : World} {rp : Nat} {R : RSh} (h : RS w rp R) : ∃ ao c, w.cell? ⟨rp, 0, none⟩ = some (.slice ao R.table.length c) ∧ w.ownsRow B0 133 2 (.slice ao R.table.length c) R.table.length (pairsV R.table) ∧ (∀ i p, R.table[i]? = some p → ∃ g, ao = some ⟨g, 0, none⟩ ∧ w.cell? ⟨g, i * 2, none⟩ = some (.string p.1) ∧ w.cell? ⟨g, i * 2 + 1, none⟩ = some (.string p.2)) := by
  obtain ⟨tv, xv, ps, h⟩ := h
  have c0 := blk_cell h.blk 0
  simp at c0
  obtain ⟨ao, c, e0, H⟩ := h.table
  have ht := h.tab
  rw [e0] at c0 ht
  exact ⟨ao, c, c0, ht, H⟩
theorem RS.state [Inhabited Bs] {w : World} {rp t : Nat} {R : RSh} (h : RS w rp R) (hn : R.txns.length ≤ 1048576) : Calls Tryz.prog 77 #[.pointer (some ⟨rp, 0, none⟩), .int .u64 (t : Int)] w fun e w' => e = .returned (.int .i64 (R.state t : Int)) ∧ ∃ q, w' = w.drewN q := by
  obtain ⟨tv, xv, ps, h⟩ := h
  exact rstate_any rp t tv xv ps R w h (by rw [h.len]; omega)
abbrev farK : ByteArray := ⟨#[97, 32, 107, 101, 121, 32, 97, 98, 111, 118, 101, 32, 105, 116, 115, 32, 98, 111, 117, 110, 100]⟩
theorem Gd.look {c T : Nat} {s : AShard} {R : RSh} (h : Gd c T s R) (hv : Once1 s.vals) (k : ByteArray) : alLook s.vals k = alLook R.table k := by rw [h.rel.table, sortV_look hv]
theorem Gd.lookAt {c T : Nat} {s : AShard} {R : RSh} (h : Gd c T s R) (hv : Once1 s.vals) {i : Nat} {q : ByteArray × ByteArray} (hq : R.table[i]? = some q) : alLook s.vals q.1 = some q.2 := by
  rw [h.look hv]
  exact alLook_of (by rw [h.rel.table]; exact (sortV_asc hv).once) (List.mem_of_getElem? hq)
theorem Gd.far {c T : Nat} {s : AShard} {R : RSh} (h : Gd c T s R) (hv : Once1 s.vals) : alLook s.vals farK = none := by
  rw [h.look hv, alLook_none]
  intro q hq e
  have := h.keys q hq
  rw [e] at this
  exact absurd this (by decide)
section
variable [Inhabited Bs] (hp p sp gp bV bT bH lp bD bN m n kp mp c T : Nat) (s : AShard) (l : ALog) (d : ADisk) (cv uv : Value) (cs : List Value) (us : List Nat) (R : RSh) (w : World)
set_option maxRecDepth 100000 in
set_option maxHeartbeats 8000000 in
theorem looks_any (h : KIn w hp p sp gp bV bT bH lp bD bN m n s l d kp mp cv uv cs us R) (hg : Gd c T s R) (hc : c ≤ 100000) (hm : m ≤ 67108864) :
    Calls Tryz.prog 37 #[.pointer (some ⟨kp, 0, none⟩), .pointer (some ⟨mp, 0, none⟩)] w fun e w' => e = .returned (.bool true) ∧ Fr [] w w' := by
  have hv : Once1 s.vals := by obtain ⟨_, _, _, h3, _⟩ := h.host.2.1.sh.vals; exact h3
  have hsz := h.size
  have k0 := blk_cell h.kb 0
  simp at k0
  have hpa := hPairs_x B0 hp p sp gp bV bT bH lp bD bN m n s l d w h.host hm
  rw [← hg.rel.table] at hpa
  have HK := toHid (And.intro h (And.intro hg hv))
  have hT : R.table.length ≤ 400000 := by have := hg.table; omega
  obtain ⟨nt, hnt⟩ : ∃ nt, nt = R.table.length := ⟨_, rfl⟩
  have HNT : Hid (R.table.length = nt) := hnt.symm
  rw [← hnt] at hpa hT
  clear h hg hv hnt
  go_enter Tryz.func37, Tryz.ntmps37
  go_wp2_with fail
  refine hpa.mono ?_
  rintro e w1 ⟨v, rfl, hr1, hf1⟩
  obtain ⟨po, pc, rfl⟩ := own_slice hr1
  have K1 := HK.out.1.new hf1
  have k1 := blk_cell K1.kb 0
  simp at k1
  have hwa := hWaiting_x B0 hp p sp gp bV bT bH lp bD bN m n s l d w1 K1.host HK.out.2.1.len
  have H1 := toHid (And.intro K1 (And.intro hr1 hf1))
  clear hpa hr1 hf1 K1 k0
  go_wp2_with fail
  refine hwa.mono ?_
  rintro e w2 ⟨v2, ss, rfl, h1, h2, h3, h4, hf2⟩
  rw [HK.out.2.1.rel.waiting h1 h2] at h3 h4
  obtain ⟨wo, wc, rfl⟩ := own_slice h3
  have K2 := H1.out.1.new hf2
  have hrw := rwaiting_any mp R w2 K2.ref (by have := HK.out.2.1.rel.len; omega)
  have H2 := toHid (And.intro K2 (And.intro (ownsRow_fr H1.out.2.1 hf2 (by simp)) (And.intro h3 (H1.out.2.2.trans hf2))))
  have H4 := toHid h4
  clear hwa h1 h2 h3 h4 hf2 K2 k1 H1
  go_wp2_with fail
  refine hrw.mono ?_
  rintro e w3 ⟨v3, rfl, h5, hf3⟩
  have K3 := H2.out.1.new hf3
  obtain ⟨ao, tc, t0, htr, HT⟩ := K3.ref.table
  rw [HNT.out] at t0 htr
  have hsp := samePairs_same w.heap.size B0 (.slice po nt pc) (.slice ao nt tc) R.table w3 (by rw [HNT.out]; exact ownsRow_fr H2.out.2.1 hf3 (by simp)) (by rw [HNT.out]; exact htr) (by rw [HNT.out]; omega)
  have H3 := toHid (And.intro K3 (And.intro (ownsRow_fr H2.out.2.2.1 hf3 (by simp)) (And.intro h5 (H2.out.2.2.2.trans hf3))))
  clear hrw h5 hf3 K3 htr HT H2
  go_wp2_with fail
  refine hsp.mono ?_
  rintro e w4 ⟨rfl, q4, rfl⟩
  have hnw : R.waiting.length ≤ 12 := by
    have h1 := HK.out.2.1.rel.len
    have h2 : R.waiting.length ≤ R.txns.length := by unfold RSh.waiting; rw [List.length_map]; exact List.length_filter_le _ _
    omega
  have hsi := sameIds_same w1.heap.size w2.heap.size (.slice wo R.waiting.length wc) v3 R.waiting (w3.drewN q4) (ownsRow_fr H3.out.2.1 ((Fr.refl [] w3).drewM q4) (by simp)) (ownsRow_fr H3.out.2.2.1 ((Fr.refl [] w3).drewM q4) (by simp)) (by omega)
  obtain ⟨nw, hnw2⟩ : ∃ nw, nw = R.waiting.length := ⟨_, rfl⟩
  have HW : Hid (nw = 0 → wo = none) := fun h0 => by
    have h9 := H4.out.2 (List.eq_nil_of_length_eq_zero (by rw [← hnw2]; exact h0))
    simp only [Value.slice.injEq] at h9
    exact h9.1
  rw [← hnw2] at hsi hnw ⊢
  clear hsp t0 hnw2 H4
  go_wp2_with fail
  refine hsi.mono ?_
  rintro e w5 ⟨rfl, q5, rfl⟩
  have HF5 : Hid (Fr [] w ((w3.drewN q4).drewN q5)) := (H3.out.2.2.2.drewM q4).drewM q5
  generalize (w3.drewN q4).drewN q5 = W at HF5 ⊢
  clear hsi H3
  have hT12 : R.txns.length ≤ 1048576 := by have := HK.out.2.1.rel.len; omega
  have hcase : (nw = 0 ∧ wo = none) ∨ ¬ ((nw : Int) = 0) := by
    by_cases h0 : nw = 0
    · exact .inl ⟨h0, HW.out h0⟩
    · exact .inr (by omega)
  clear HW
  rcases hcase with ⟨rfl, rfl⟩ | zn
  all_goals go_wp2
  all_goals
    go_loopw [11] (fun t wr => ∃ k : Nat, k ≤ 16 ∧ t = .int .u64 k ∧ Hid (Fr [] w wr)) (fun t _ => 16 - (intOf t).toNat)
    case atStart => exact ⟨0, by omega, rfl, HF5⟩
    case round =>
      obtain ⟨k, hk, rfl, hf⟩ := hrel
      have K := HK.out.1.new hf.out
      have k0 := blk_cell K.kb 0
      simp at k0
      by_cases hlt : k < 16
      · have i0 : (k : Int) < 16 := by omega
        have hst := hState_x B0 hp p sp gp bV bT bH lp bD bN m n k s l d wr K.host (by omega)
        rw [HK.out.2.1.rel.state] at hst
        have hrs := K.ref.state (t := k) hT12
        clear K
        go_wp2_with fail
        refine hst.mono ?_
        rintro e w6 ⟨rfl, rfl⟩
        clear hst
        go_wp2_with fail
        refine hrs.mono ?_
        rintro e w7 ⟨rfl, q, rfl⟩
        clear hrs
        have HF := toHid (hf.out.drewM q)
        go_wp2
        go_roundw
        case rel => exact ⟨k + 1, by omega, by go_num, HF⟩
        case measure => simp [intOf]; omega
      · have hk16 : k = 16 := by omega
        subst hk16
        clear K
        go_wp2
        go_loopw [14] (fun i w8 => ∃ j : Nat, j ≤ nt ∧ i = .int .i64 j ∧ Hid (Fr [] w w8)) (fun i _ => nt - (intOf i).toNat)
        case atStart => exact ⟨0, Nat.zero_le _, rfl, hf⟩
        case round =>
          obtain ⟨j, hj, rfl, hf8⟩ := hrel
          have K := HK.out.1.new hf8.out
          have k8 := blk_cell K.kb 0
          simp at k8
          obtain ⟨ta8, tc8, t8, htr, HT⟩ := K.ref.table
          rw [HNT.out] at t8
          by_cases hlt2 : j < nt
          · obtain ⟨q, hq⟩ : ∃ q, R.table[j]? = some q := ⟨_, List.getElem?_eq_getElem (by rw [HNT.out]; exact hlt2)⟩
            obtain ⟨g, rfl, x0, x1⟩ := HT j q hq
            have hks := HK.out.2.1.keys q (List.mem_of_getElem? hq)
            have hva := fun q9 => hValue_x B0 hp p sp gp bV bT bH lp bD bN m n q.1 s l d _ (HK.out.1.new (hf8.out.drewM q9)).host (by unfold maxLen; omega)
            rw [HK.out.2.1.lookAt HK.out.2.2 hq] at hva
            simp only [Option.getD_some, Option.isSome_some] at hva
            have j0 : (0 : Int) ≤ (j : Int) := by omega
            have j1 : (j : Int) < (nt : Int) := by omega
            obtain ⟨q1, q2⟩ := q
            simp only [] at x0 x1 hva
            clear K htr HT hq hks
            go_wp2
            go_quiet (first | (go_at_call 29; refine Calls.quiet_of (hva _)))
            have HF := toHid (hf8.out.drewM nq)
            clear hva
            go_wp2
            go_roundw
            case rel => exact ⟨j + 1, by omega, by go_num, HF⟩
            case measure => simp [intOf]; omega
          · have hva := hValue_x B0 hp p sp gp bV bT bH lp bD bN m n farK s l d _ K.host (by unfold maxLen; decide)
            rw [HK.out.2.1.far HK.out.2.2] at hva
            simp only [Option.getD_none, Option.isSome_none] at hva
            clear K htr HT
            go_wp2_with fail
            refine hva.mono ?_
            rintro e w9 ⟨rfl, q9, rfl⟩
            clear hva
            have HF := toHid (hf8.out.drewM q9)
            go_wp2
            go_ret
            exact ⟨rfl, HF.out⟩
end
end Go.Proofs.YtejiankgafjppaaGreatDoor
/- A KEEPER: its fields are set; wrote. -/
namespace Go.Proofs.YtejiankgafjppaaGreatDoor
open Go.RowKit Go.Maps
open Sc

theorem Tryz.infoPtrS : (Tryz.prog.info? 67).map (fun i => (i.zero, i.size, i.bytes)) = some (some (.pointer none), 1, 8) := by kernel_rfl
section
variable [Inhabited Bs] {w w' w2 : World} {hp p sp gp bV bT bH lp bD bN m n kp mp mr np : Nat} {s : AShard} {l : ALog} {d : ADisk} {cv uv cv' uv' : Value} {cs cs' : List Value} {us us' : List Nat} {R R' : RSh}
theorem KIy.kpw (h : KIy w hp p sp gp bV bT bH lp bD bN m n s l d kp mp mr cv uv cs us R) : Lwk w hp p sp gp bV bT bH lp kp := h.host.lw h.kb (by decide) (by decide) (by decide) (by decide) (by decide) (by decide) (by decide) (by decide) (by decide)
theorem KIy.setM (h : KIy w hp p sp gp bV bT bH lp bD bN m n s l d kp mp mr cv uv cs us R) (hr : RS w np R') : KIn (w.setCell ⟨kp, 1, none⟩ (.pointer (some ⟨np, 0, none⟩))) hp p sp gp bV bT bH lp bD bN m n s l d kp np cv uv cs us R' ∧ LFr w (w.setCell ⟨kp, 1, none⟩ (.pointer (some ⟨np, 0, none⟩))) := by
  have hf : Fr [kp] w (w.setCell ⟨kp, 1, none⟩ (.pointer (some ⟨np, 0, none⟩))) := Fr.set1 (by simp) _ _
  refine ⟨h.law hf (fun k hk _ => by simp at hk; subst hk; exact h.kpw) ?_ (hr.frS hf fun k hk c t hc => ?_) (ownsRow_set h.cands h.kb (by decide)) (ownsRow_set h.used h.kb (by decide)) (fun g hg => .inl hg), LFr.of_fr hf h.size fun k hk => ?_⟩
  · have := blk_set h.kb 1 (.pointer (some ⟨np, 0, none⟩))
    simpa using this
  · simp at hk
    subst hk
    rw [h.kb] at hc
    cases hc
    decide
  · simp at hk
    subst hk
    exact ⟨h.low, fun c e => cells_ne (by decide) (h.kb.symm.trans e)⟩
theorem KIy.setC (h : KIy w hp p sp gp bV bT bH lp bD bN m n s l d kp mp mr cv uv cs us R) (hf : Fr cv.ownBlock.toList w w2) (ho : w2.ownsRow B0 67 1 cv' cs'.length cs') : KIy (w2.setCell ⟨kp, 2, none⟩ cv') hp p sp gp bV bT bH lp bD bN m n s l d kp mp mr cv' uv cs' us R ∧ LFr w (w2.setCell ⟨kp, 2, none⟩ cv') := by
  have hkn : kp ∉ cv.ownBlock.toList := fun hm => own_ne h.cands h.kb (by decide) (by simpa using hm)
  have hk2 : w2.heap[kp]? = some (keepO hp mp cv uv) := (hf.block kp (Array.getElem?_eq_some_iff.1 h.kb).1 hkn).trans h.kb
  have hf2 : Fr (kp :: cv.ownBlock.toList) w (w2.setCell ⟨kp, 2, none⟩ cv') := (hf.mono (by simp +contextual)).trans (Fr.set1 (by simp) _ _)
  have hcv : ∀ k ∈ cv.ownBlock.toList, B0 ≤ k ∧ ∃ c, w.heap[k]? = some (.cells c 67 (0, 0)) := fun k hk => by
    have hk2 : cv.ownBlock = some k := by simpa using hk
    exact ⟨(h.cands.lt k hk2).1, own_cells h.cands hk2⟩
  refine ⟨h.law hf2 (fun k hk _ => ?_) ?_ (h.ref.frS hf2 fun k hk c t hc => ?_) (ownsRow_set ho hk2 (by decide)) (ownsRow_fr h.used hf2 fun q hq hm => ?_) (fun g hg => .inl hg), LFr.of_fr hf2 h.size fun k hk => ?_⟩
  · rcases List.mem_cons.1 hk with rfl | hk
    · exact h.kpw
    · obtain ⟨_, c, e⟩ := hcv k hk
      exact h.host.lw e (by decide) (by decide) (by decide) (by decide) (by decide) (by decide) (by decide) (by decide) (by decide)
  · have := blk_set hk2 2 cv'
    simpa using this
  · rcases List.mem_cons.1 hk with rfl | hk
    · rw [h.kb] at hc; cases hc; decide
    · obtain ⟨_, c2, e⟩ := hcv k hk
      rw [e] at hc; cases hc; decide
  · obtain ⟨c3, e3⟩ := own_cells h.used hq
    rcases List.mem_cons.1 hm with rfl | hk
    · exact cells_ne (by decide) (e3.symm.trans h.kb)
    · obtain ⟨_, c2, e⟩ := hcv q hk
      exact cells_ne (by decide) (e3.symm.trans e)
  · rcases List.mem_cons.1 hk with rfl | hk
    · exact ⟨h.low, fun c e => cells_ne (by decide) (h.kb.symm.trans e)⟩
    · obtain ⟨hb, c2, e⟩ := hcv k hk
      exact ⟨hb, fun c e2 => cells_ne (by decide) (e.symm.trans e2)⟩
theorem KIy.setU (h : KIy w hp p sp gp bV bT bH lp bD bN m n s l d kp mp mr cv uv cs us R) (hf : Fr uv.ownBlock.toList w w2) (ho : w2.ownsRow B0 34 1 uv' us'.length (u64s us')) (hat : ∀ g, uv'.ownBlock = some g → uv.ownBlock = some g ∨ w.heap.size ≤ g) : KIy (w2.setCell ⟨kp, 5, none⟩ uv') hp p sp gp bV bT bH lp bD bN m n s l d kp mp mr cv uv' cs us' R ∧ LFr w (w2.setCell ⟨kp, 5, none⟩ uv') ∧ ∀ rp R0, RS w rp R0 → RS (w2.setCell ⟨kp, 5, none⟩ uv') rp R0 := by
  have hkn : kp ∉ uv.ownBlock.toList := fun hm => own_ne h.used h.kb (by decide) (by simpa using hm)
  have hk2 : w2.heap[kp]? = some (keepO hp mp cv uv) := (hf.block kp (Array.getElem?_eq_some_iff.1 h.kb).1 hkn).trans h.kb
  have hf2 : Fr (kp :: uv.ownBlock.toList) w (w2.setCell ⟨kp, 5, none⟩ uv') := (hf.mono (by simp +contextual)).trans (Fr.set1 (by simp) _ _)
  have hcv : ∀ k ∈ uv.ownBlock.toList, B0 ≤ k ∧ ¬ Own lp p w k ∧ ∃ c, w.heap[k]? = some (.cells c 34 (0, 0)) := fun k hk => by
    have hk2 : uv.ownBlock = some k := by simpa using hk
    exact ⟨(h.used.lt k hk2).1, h.free k hk2, own_cells h.used hk2⟩
  have hkinds : ∀ k ∈ kp :: uv.ownBlock.toList, ∀ c t, w.heap[k]? = some (.cells c t (0, 0)) → t ≠ 71 ∧ t ≠ 133 ∧ t ≠ 126 ∧ t ≠ 201 := fun k hk c t hc => by
    rcases List.mem_cons.1 hk with rfl | hk
    · rw [h.kb] at hc; cases hc; decide
    · obtain ⟨_, _, c2, e⟩ := hcv k hk
      rw [e] at hc; cases hc; decide
  refine ⟨h.law hf2 (fun k hk _ => ?_) ?_ (h.ref.frS hf2 hkinds) (ownsRow_fr h.cands hf2 fun q hq hm => ?_) (ownsRow_set ho hk2 (by decide)) hat, LFr.of_fr hf2 h.size fun k hk => ?_, fun rp R0 hr => hr.frS hf2 hkinds⟩
  · rcases List.mem_cons.1 hk with rfl | hk
    · exact h.kpw
    · obtain ⟨_, ho, c, e⟩ := hcv k hk
      exact h.host.lwu e ho
  · have := blk_set hk2 5 uv'
    simpa using this
  · obtain ⟨c3, e3⟩ := own_cells h.cands hq
    rcases List.mem_cons.1 hm with rfl | hk
    · exact cells_ne (by decide) (e3.symm.trans h.kb)
    · obtain ⟨_, _, c2, e⟩ := hcv q hk
      exact cells_ne (by decide) (e3.symm.trans e)
  · rcases List.mem_cons.1 hk with rfl | hk
    · exact ⟨h.low, fun c e => cells_ne (by decide) (h.kb.symm.trans e)⟩
    · obtain ⟨hb, _, c2, e⟩ := hcv k hk
      exact ⟨hb, fun c e2 => cells_ne (by decide) (e.symm.trans e2)⟩
end
section
variable [Inhabited Bs] (hp p sp gp bV bT bH lp bD bN m n kp mp mr np e : Nat) (s : AShard) (l : ALog) (d : ADisk) (cv uv : Value) (cs : List Value) (us : List Nat) (R R' : RSh) (w : World)
set_option maxRecDepth 100000 in
set_option maxHeartbeats 8000000 in
theorem wrote_any (forced : Bool) (h : KIy w hp p sp gp bV bT bH lp bD bN m n s l d kp mp mr cv uv cs us R) (hr : RS w np R') (hn : R'.txns.length ≤ 1048576) (hl : ∀ x ∈ R'.txns, x.locks.length ≤ 1000) (ht : R'.table.length ≤ 1048576) (hc : cs.length ≤ 1048576) :
    Calls Tryz.prog 84 #[.pointer (some ⟨kp, 0, none⟩), .pointer (some ⟨np, 0, none⟩), .int .i64 (e : Int), .int .i64 (e : Int), .bool forced] w fun ev w' => ev = .returned (.bool true) ∧ ∃ cv' cs', cs'.length ≤ cs.length + 1 ∧ KIn w' hp p sp gp bV bT bH lp bD bN m n s l d kp np cv' uv cs' us R' ∧ LFr w w' := by
  obtain ⟨i0, hin, hz0, hz1, hz2⟩ := info_parts Tryz.infoPtrS
  have k4 := blk_cell h.kb 4
  have k2 := blk_cell h.kb 2
  have f1 := blk_free h.kb 1
  have f2 := blk_free h.kb 2
  have k1 := blk_cell h.kb 1
  simp at k4 k2 k1
  obtain ⟨K1, L1⟩ := h.setM hr
  have HC : Hid (cs.length ≤ 1048576) := hc
  clear hc
  obtain ⟨co, cc, ec⟩ := own_slice h.cands
  subst ec
  have hcpT : Hid (∀ W, W = (w.setCell ⟨kp, 1, none⟩ (.pointer (some ⟨np, 0, none⟩))).setCell ⟨kp, 2, none⟩ (.slice none 0 0) → KIn W hp p sp gp bV bT bH lp bD bN m n s l d kp np (.slice none 0 0) uv [] us R' ∧ LFr w W) := fun W e => by
    obtain ⟨K2, L2⟩ := K1.setC (Fr.refl _ _) (cv' := .slice none 0 0) (cs' := []) (World.ownsRow_nil _ _ _ _)
    rw [e]
    exact ⟨K2, L1.trans L2⟩
  have H1 := toHid (And.intro K1 L1)
  have hcp : ∀ W cvX csX, KIn W hp p sp gp bV bT bH lp bD bN m n s l d kp np cvX uv csX us R' → Calls Tryz.prog 36 #[.pointer (some ⟨np, 0, none⟩)] W fun e w' => ∃ cp, e = .returned (.pointer (some ⟨cp, 0, none⟩)) ∧ W.heap.size ≤ cp ∧ RS w' cp R' ∧ Fr [] W w' := fun W _ _ hK => rcopy_any np R' W hK.ref hn hl ht
  clear K1 L1 h hr hn hl ht
  cases forced
  · go_enter Tryz.func84, Tryz.ntmps84
    go_wp2_with fail
    refine (hcp _ _ _ H1.out.1).mono ?_
    rintro ev W ⟨cp, rfl, hge, hrc, hfr⟩
    have HK3 : Hid (∃ (co cc : _) (csX : List Value), csX.length ≤ cs.length ∧ KIn W hp p sp gp bV bT bH lp bD bN m n s l d kp np (.slice co csX.length cc) uv csX us R' ∧ LFr w W) := ⟨co, cc, cs, Nat.le_refl _, H1.out.1.new hfr, H1.out.2.trans (LFr.new hfr H1.out.1.size)⟩
    clear H1 hcp hcpT hge hrc hfr k1 k2 k4 f1 f2
    obtain ⟨co3, cc3, csX, hcx, K3, L3⟩ := HK3.out
    have k2 := blk_cell K3.kb 2
    have hkl : kp < W.heap.size := (Array.getElem?_eq_some_iff.1 K3.kb).1
    simp at k2
    have hrow := K3.cands
    have hBW := K3.size
    obtain ⟨cn, hcn⟩ : ∃ cn, cn = csX.length := ⟨_, rfl⟩
    have hcn2 : cn ≤ 1048576 := by have := HC.out; omega
    have hne : some kp ≠ (Value.slice co3 cn cc3).ownBlock := by rw [hcn]; exact fun e => own_ne hrow K3.kb (by decide) e.symm
    have HX : Hid (csX.length = cn ∧ csX.length ≤ cs.length ∧ KIn W hp p sp gp bV bT bH lp bD bN m n s l d kp np (.slice co3 cn cc3) uv csX us R' ∧ LFr w W) := ⟨hcn.symm, hcx, by rw [hcn]; exact K3, L3⟩
    rw [← hcn] at hrow k2
    clear K3 L3 hcx hcn HK3
    go_wp2_with (at_builtin; refine wpList_app rfl _ _ 72 rfl B0 67 i0 _ 1 8 Tryz.underlying72 hin hz0 hz1 hz2 rfl (by decide) _ cn csX rfl (hrow.alloc _) 1 [.pointer (some ⟨cp, 0, none⟩)] (.inl ⟨⟨W.heap.size, 0, none⟩, 1, rfl, cells_new _ #[.pointer (some ⟨cp, 0, none⟩)] _⟩) rfl (by intro u hu; simp at hu; subst hu; rfl) (by unfold maxLen; omega) (by omega) (Nat.le_trans hBW (by simp)) ?_; intro v5 w5 ho5 hg5 ha5; obtain ⟨o5, c5, rfl⟩ := own_slice ho5; have hb5 : w5.heap[kp]? = some (keepO hp np (.slice co3 cn cc3) uv) := (hg5.block kp (by simp; omega) hne).trans ((Below.heap_alloc W _ kp hkl).trans HX.out.2.2.1.kb); have t2 := blk_cell hb5 2; have tf := blk_free hb5 2; have HR := toHid (HX.out.2.2.1.setC (cs' := csX ++ [.pointer (some ⟨cp, 0, none⟩)]) (((Fr.refl _ W).alloc _).trans (Fr.of_grown (r := (Value.slice co3 cn cc3).ownBlock) hg5)) (by rw [List.length_append, HX.out.1]; exact ho5)); simp at t2; clear ho5 hg5 ha5 hb5)
    go_ret
    exact ⟨rfl, _, _, by rw [List.length_append]; have := HX.out.2.1; simp; omega, HR.out.1, HX.out.2.2.2.trans HR.out.2⟩
  · go_enter Tryz.func84, Tryz.ntmps84
    go_wp2_with fail
    refine (hcp _ _ _ (hcpT.out _ rfl).1).mono ?_
    rintro ev W ⟨cp, rfl, hge, hrc, hfr⟩
    have HK3 : Hid (∃ (co cc : _) (csX : List Value), csX.length ≤ cs.length ∧ KIn W hp p sp gp bV bT bH lp bD bN m n s l d kp np (.slice co csX.length cc) uv csX us R' ∧ LFr w W) := ⟨none, 0, [], Nat.zero_le _, (hcpT.out _ rfl).1.new hfr, (hcpT.out _ rfl).2.trans (LFr.new hfr (hcpT.out _ rfl).1.size)⟩
    clear H1 hcp hcpT hge hrc hfr k1 k2 k4 f1 f2
    obtain ⟨co3, cc3, csX, hcx, K3, L3⟩ := HK3.out
    have k2 := blk_cell K3.kb 2
    have hkl : kp < W.heap.size := (Array.getElem?_eq_some_iff.1 K3.kb).1
    simp at k2
    have hrow := K3.cands
    have hBW := K3.size
    obtain ⟨cn, hcn⟩ : ∃ cn, cn = csX.length := ⟨_, rfl⟩
    have hcn2 : cn ≤ 1048576 := by have := HC.out; omega
    have hne : some kp ≠ (Value.slice co3 cn cc3).ownBlock := by rw [hcn]; exact fun e => own_ne hrow K3.kb (by decide) e.symm
    have HX : Hid (csX.length = cn ∧ csX.length ≤ cs.length ∧ KIn W hp p sp gp bV bT bH lp bD bN m n s l d kp np (.slice co3 cn cc3) uv csX us R' ∧ LFr w W) := ⟨hcn.symm, hcx, by rw [hcn]; exact K3, L3⟩
    rw [← hcn] at hrow k2
    clear K3 L3 hcx hcn HK3
    go_wp2_with (at_builtin; refine wpList_app rfl _ _ 72 rfl B0 67 i0 _ 1 8 Tryz.underlying72 hin hz0 hz1 hz2 rfl (by decide) _ cn csX rfl (hrow.alloc _) 1 [.pointer (some ⟨cp, 0, none⟩)] (.inl ⟨⟨W.heap.size, 0, none⟩, 1, rfl, cells_new _ #[.pointer (some ⟨cp, 0, none⟩)] _⟩) rfl (by intro u hu; simp at hu; subst hu; rfl) (by unfold maxLen; omega) (by omega) (Nat.le_trans hBW (by simp)) ?_; intro v5 w5 ho5 hg5 ha5; obtain ⟨o5, c5, rfl⟩ := own_slice ho5; have hb5 : w5.heap[kp]? = some (keepO hp np (.slice co3 cn cc3) uv) := (hg5.block kp (by simp; omega) hne).trans ((Below.heap_alloc W _ kp hkl).trans HX.out.2.2.1.kb); have t2 := blk_cell hb5 2; have tf := blk_free hb5 2; have HR := toHid (HX.out.2.2.1.setC (cs' := csX ++ [.pointer (some ⟨cp, 0, none⟩)]) (((Fr.refl _ W).alloc _).trans (Fr.of_grown (r := (Value.slice co3 cn cc3).ownBlock) hg5)) (by rw [List.length_append, HX.out.1]; exact ho5)); simp at t2; clear ho5 hg5 ha5 hb5)
    go_ret
    exact ⟨rfl, _, _, by rw [List.length_append]; have := HX.out.2.1; simp; omega, HR.out.1, HX.out.2.2.2.trans HR.out.2⟩
end
end Go.Proofs.YtejiankgafjppaaGreatDoor
