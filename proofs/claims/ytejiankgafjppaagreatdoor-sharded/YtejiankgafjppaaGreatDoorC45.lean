import Derived.Test.YtejiankgafjppaaGreatDoorC44
import Derived.Test.YtejiankgafjppaaGreatDoorC41
/- THE DOCUMENT'S SHARD: take, whatever it is; a lock is set; Get, Put, Delete. -/
namespace Go.Proofs.YtejiankgafjppaaGreatDoor
open Go.RowKit Go.Maps
open Sc

theorem flat_same {α : Type} (f : α → List Value) : ∀ {xs : List α} {i : Nat} {x x' : α}, xs[i]? = some x → f x' = f x → (xs.set i x').flatMap f = xs.flatMap f
  | [], i, x, x', h, _ => by simp at h
  | y :: ys, 0, x, x', h, hf => by
    simp at h
    subst h
    rw [List.set_cons_zero, List.flatMap_cons, List.flatMap_cons, hf]
  | y :: ys, i + 1, x, x', h, hf => by
    simp at h
    rw [List.set_cons_succ, List.flatMap_cons, List.flatMap_cons, flat_same f h hf]
section
variable {w : World} {rp : Nat} {tv xv : Value} {ps : List (RTx × Value)} {R : RSh}
abbrev RTx.lk (x : RTx) (ls : List RLock) : RTx := ⟨x.id, x.st, x.ops, x.age, ls⟩
/-- a field of a lock is set -/
theorem RsIn.setK [Inhabited Bs] (h : RsIn w rp tv xv ps R) {i kx j g c : Nat} {x : RTx} {l l' : RLock} {u : Value} (hp : ps[i]? = some (x, .slice (some ⟨g, 0, none⟩) x.locks.length c)) (hk : x.locks[kx]? = some l) (hj : j < 4) (hf : lockC l' = (lockC l).set j u) :
    RsIn (w.setCell ⟨g, kx * 4 + j, none⟩ u) rp tv xv (ps.set i (x.lk (x.locks.set kx l'), .slice (some ⟨g, 0, none⟩) x.locks.length c)) ⟨R.table, R.txns.set i (x.lk (x.locks.set kx l'))⟩ ∧ RefBlk w g := by
  have hi : i < ps.length := (List.getElem?_eq_some_iff.1 hp).1
  have hlv := h.lks _ (List.mem_of_getElem? hp)
  simp only [] at hlv
  obtain ⟨cur, hg⟩ := own_cells hlv (g := g) rfl
  refine ⟨{ base := h.base, blk := ?_, tab := ownsRow_set h.tab hg (by decide), txs := ?_, lks := fun p hm => ?_, apart := ?_, rs := ?_ }, (hlv.lt g rfl).1, _, _, hg, .inr (.inr rfl)⟩
  · refine (Below.heap_setCell _ _ _ rp ?_).trans h.blk
    intro e
    simp only [] at e
    have := h.blk
    rw [e, hg] at this
    cases this
  · rw [List.length_set]
    unfold rtxsV
    rw [flat_same rtxC (x' := (x.lk (x.locks.set kx l'), .slice (some ⟨g, 0, none⟩) x.locks.length c)) hp rfl]
    exact ownsRow_set h.txs hg (by decide)
  · obtain ⟨q, hq⟩ := List.mem_iff_getElem?.1 hm
    rw [List.getElem?_set] at hq
    split at hq
    · rename_i em
      subst em
      cases hq
      have := ownsRow_put (j := kx * 4 + j) (u := u) hlv
      have e := flat_set (f := lockC) (k := 4) (fun _ => rfl) x.locks kx j l l' u hk hj hf
      show (w.setCell _ _).ownsRow B0 _ 4 _ (x.locks.set kx l').length (locksV (x.locks.set kx l'))
      rw [List.length_set]
      unfold locksV at this ⊢
      rw [e]
      exact this
    · rename_i em
      have hl := h.lks p (List.mem_of_getElem? hq)
      refine ownsRow_fr hl (Fr.set1 (S := [g]) (by simp) _ _) fun z hz hm2 => ?_
      simp at hm2
      subst hm2
      exact apart_ix h.apart hp hq em rfl hz
  · have h2 : (ps.map (·.2)).Pairwise fun a b => a.ownBlock = none ∨ a.ownBlock ≠ b.ownBlock := by rw [List.pairwise_map]; exact h.apart
    rw [← map_set_same (·.2) hp (x' := (x.lk (x.locks.set kx l'), .slice (some ⟨g, 0, none⟩) x.locks.length c)) rfl, List.pairwise_map] at h2
    exact h2
  · rw [List.map_set, h.rs]
/-- a lock is another -/
theorem RsIn.setLk [Inhabited Bs] (h : RsIn w rp tv xv ps R) {i kx g c : Nat} {x : RTx} {l : RLock} (hp : ps[i]? = some (x, .slice (some ⟨g, 0, none⟩) x.locks.length c)) (hk : x.locks[kx]? = some l) (k v : ByteArray) (b1 b2 : Bool) :
    RS ((((w.setCell ⟨g, kx * 4, none⟩ (.string k)).setCell ⟨g, kx * 4 + 1, none⟩ (.bool b1)).setCell ⟨g, kx * 4 + 2, none⟩ (.bool b2)).setCell ⟨g, kx * 4 + 3, none⟩ (.string v)) rp ⟨R.table, R.txns.set i (x.lk (x.locks.set kx ⟨k, b1, b2, v⟩))⟩ ∧ RefBlk w g := by
  have hi : i < ps.length := (List.getElem?_eq_some_iff.1 hp).1
  have hkl : kx < x.locks.length := (List.getElem?_eq_some_iff.1 hk).1
  obtain ⟨h1, hr⟩ := h.setK (j := 0) (l' := ⟨k, l.wr, l.gone, l.val⟩) (u := .string k) hp hk (by decide) rfl
  have p1 := set_at (y := (x.lk (x.locks.set kx ⟨k, l.wr, l.gone, l.val⟩), Value.slice (some ⟨g, 0, none⟩) x.locks.length c)) hp
  have hlen : ∀ l', (x.locks.set kx l').length = x.locks.length := fun l' => List.length_set
  have k1 := set_at (y := (⟨k, l.wr, l.gone, l.val⟩ : RLock)) hk
  obtain ⟨h2, _⟩ := h1.setK (j := 1) (x := x.lk (x.locks.set kx ⟨k, l.wr, l.gone, l.val⟩)) (c := c) (g := g) (l' := ⟨k, b1, l.gone, l.val⟩) (u := .bool b1) (by rw [hlen]; exact p1) k1 (by decide) rfl
  simp only [List.set_set, hlen] at h2
  have p2 := set_at (y := (x.lk (x.locks.set kx ⟨k, b1, l.gone, l.val⟩), Value.slice (some ⟨g, 0, none⟩) x.locks.length c)) hp
  have k2 := set_at (y := (⟨k, b1, l.gone, l.val⟩ : RLock)) hk
  obtain ⟨h3, _⟩ := h2.setK (j := 2) (x := x.lk (x.locks.set kx ⟨k, b1, l.gone, l.val⟩)) (c := c) (g := g) (l' := ⟨k, b1, b2, l.val⟩) (u := .bool b2) (by rw [hlen]; exact p2) k2 (by decide) rfl
  simp only [List.set_set, hlen] at h3
  have p3 := set_at (y := (x.lk (x.locks.set kx ⟨k, b1, b2, l.val⟩), Value.slice (some ⟨g, 0, none⟩) x.locks.length c)) hp
  have k3 := set_at (y := (⟨k, b1, b2, l.val⟩ : RLock)) hk
  obtain ⟨h4, _⟩ := h3.setK (j := 3) (x := x.lk (x.locks.set kx ⟨k, b1, b2, l.val⟩)) (c := c) (g := g) (l' := ⟨k, b1, b2, v⟩) (u := .string v) (by rw [hlen]; exact p3) k3 (by decide) rfl
  simp only [List.set_set, hlen] at h4
  exact ⟨⟨_, _, _, h4⟩, hr⟩
end
section
variable (rp t : Nat) (seq : Int) (k : ByteArray) (wr : Bool) (R : RSh) (w : World)
theorem rtake_any [Inhabited Bs] (h : RS w rp R) (ha : Asc R.txns) (hn : R.txns.length ≤ 12) (hl : ∀ x ∈ R.txns, x.locks.length ≤ 4) (hops : ∀ x ∈ R.txns, x.ops < 4611686018427387904) :
    Calls Tryz.prog 206 #[.pointer (some ⟨rp, 0, none⟩), .int .u64 (t : Int), .int .i64 seq, .string k, .bool wr] w fun e w' => ∃ i kx : Nat, e = .returned (.tuple #[.int .i64 (i : Int), .int .i64 (kx : Int), .int .i64 ((R.op t seq k wr (fget k)).2 : Int)]) ∧ Took w w' rp t seq k wr R i kx := by
  by_cases hr : R.refuse t seq k = 0
  · obtain ⟨_, _, _, h1, h2⟩ := refuse_zero hr
    cases hx : txAt R.txns t with
    | some x =>
      obtain ⟨_, _, rfl, _⟩ := h1 x hx
      exact rtake_old rp t k wr R w x h ha hn hl hx hr (hops x (txAt_mem hx).1)
    | none =>
      obtain ⟨rfl, _⟩ := h2 hx
      exact rtake_new rp t k wr R w h ha hn hl hx hr
  · refine (rtake_no rp t seq k wr R w h hn hl hr).mono ?_
    rintro e w' ⟨rfl, hf⟩
    have e1 : R.op t seq k wr (fget k) = (R, R.refuse t seq k) := by unfold RSh.op; rw [if_neg hr]
    exact ⟨0, 0, by rw [e1]; rfl, by rw [e1]; exact h.fr hf, RBr.of_fr hf (by simp), fun h0 => by rw [e1] at h0; exact absurd h0 hr⟩
end
/-- what an operation leaves where it was done: whatever is done to the locks -/
theorem op_same {R : RSh} {t : Nat} {seq : Int} {k : ByteArray} {wr : Bool} (f g : List RLock → List RLock) : (R.op t seq k wr f).2 = (R.op t seq k wr g).2 ∧ ((R.op t seq k wr f).2 ≠ 0 → R.op t seq k wr f = R.op t seq k wr g) := by
  unfold RSh.op
  by_cases hr : R.refuse t seq k = 0
  · rw [if_pos hr, if_pos hr]
    by_cases hm : meets (began R.txns t) t k wr = true
    · rw [if_pos hm, if_pos hm]; exact ⟨rfl, fun _ => rfl⟩
    · rw [if_neg hm, if_neg hm]; exact ⟨rfl, fun h => absurd rfl h⟩
  · rw [if_neg hr, if_neg hr]; exact ⟨rfl, fun _ => rfl⟩
theorem op_zero {R : RSh} {t : Nat} {seq : Int} {k : ByteArray} {wr : Bool} {f : List RLock → List RLock} (h : (R.op t seq k wr f).2 = 0) : R.refuse t seq k = 0 ∧ meets (began R.txns t) t k wr = false := by
  unfold RSh.op at h
  by_cases hr : R.refuse t seq k = 0
  · rw [if_pos hr] at h
    by_cases hm : meets (began R.txns t) t k wr = true
    · rw [if_pos hm] at h; cases h
    · exact ⟨hr, by simpa using hm⟩
  · rw [if_neg hr] at h; exact absurd h hr
theorem began_at (xs : List RTx) (t : Nat) : ∃ x, txAt (began xs t) t = some x := by rw [txAt_began, if_pos rfl]; exact ⟨_, rfl⟩
/-- the lock that was taken is another -/
theorem op_put {R : RSh} {t : Nat} {seq : Int} {k : ByteArray} {wr : Bool} {i kx : Nat} {l l' : RLock} (ha : Asc R.txns) (hok : OnceK (R.tx t).locks) (h0 : (R.op t seq k wr (fget k)).2 = 0) (hi : (R.op t seq k wr (fget k)).1.txns[i]? = some ((R.tx t).worked (fget k))) (hk : (fget k (R.tx t).locks)[kx]? = some l) (hl : l.key = k) (hl' : l'.key = k) :
    RSh.mk R.table ((R.op t seq k wr (fget k)).1.txns.set i (((R.tx t).worked (fget k)).lk ((fget k (R.tx t).locks).set kx l'))) = (R.op t seq k wr (fun ls => putLock ls l')).1 := by
  obtain ⟨hr, hm⟩ := op_zero h0
  rw [op_work hr hm] at hi ⊢
  rw [op_work hr hm]
  simp only [] at hi ⊢
  have hset := ((ha.began t).upd ((R.tx t).worked (fget k))).set hi (x' := ((R.tx t).worked (fget k)).lk ((fget k (R.tx t).locks).set kx l')) rfl
  rw [hset]
  have hput : (fget k (R.tx t).locks).set kx l' = putLock (R.tx t).locks l' := by
    have hof := (locks_get k).once _ hok
    rw [hof.set hk (by rw [hl, hl'])]
    have hat : (lockAt (fget k (R.tx t).locks) l'.key).isSome = true := by
      cases hz : lockAt (fget k (R.tx t).locks) l'.key with
      | some z => rfl
      | none => exact absurd (hl.trans hl'.symm) (lockAt_none.1 hz l (List.mem_of_getElem? hk))
    by_cases hs : (lockAt (R.tx t).locks k).isSome = true
    · have e2 : fget k (R.tx t).locks = (R.tx t).locks := if_pos hs
      show putLock (fget k (R.tx t).locks) l' = _
      rw [e2]
    · have e2 : fget k (R.tx t).locks = (R.tx t).locks ++ [⟨k, false, false, ByteArray.empty⟩] := if_neg hs
      rw [e2] at hat
      show putLock (fget k (R.tx t).locks) l' = _
      rw [e2]
      have hn : lockAt (R.tx t).locks k = none := by simpa using hs
      unfold putLock
      rw [if_pos hat, hl', if_neg hs, List.map_append]
      congr 1
      · conv => rhs; rw [← List.map_id (R.tx t).locks]
        apply List.map_congr_left
        intro y hy
        rw [if_neg (lockAt_none.1 hn y hy)]; rfl
      · simp
  rw [hput]
  congr 1
  unfold upd
  rw [List.map_map]
  apply List.map_congr_left
  intro y _
  simp only [Function.comp]
  have e1 : ((R.tx t).worked (fget k)).id = (R.tx t).id := rfl
  have e2 : ((R.tx t).worked (fun ls => putLock ls l')).id = (R.tx t).id := rfl
  have e4 : ((R.tx t).worked (fget k)).lk (putLock (R.tx t).locks l') = (R.tx t).worked (fun ls => putLock ls l') := rfl
  rw [e4, e1, e2]
  by_cases e : y.id = (R.tx t).id
  · rw [if_pos e, e1, if_pos rfl, if_pos e]
  · rw [if_neg e, if_neg e]
end Go.Proofs.YtejiankgafjppaaGreatDoor
/- THE DOCUMENT'S SHARD: Get, Put, Delete. -/
namespace Go.Proofs.YtejiankgafjppaaGreatDoor
open Go.RowKit Go.Maps
open Sc

/-- where the lock lies that was taken -/
structure TkL [Inhabited Bs] (w : World) (rp : Nat) (R : RSh) (i kx : Nat) (X : RTx) (l : RLock) (tv : Value) (g n c gl lc : Nat) (ps : List (RTx × Value)) : Prop where
  rs : RsIn w rp tv (.slice (some ⟨g, 0, none⟩) n c) ps R
  at_ : ps[i]? = some (X, .slice (some ⟨gl, 0, none⟩) X.locks.length lc)
  il : i < n
  kl : kx < X.locks.length
  lk : X.locks[kx]? = some l
  c1 : w.cell? ⟨rp, 1, none⟩ = some (.slice (some ⟨g, 0, none⟩) n c)
  x4 : w.cell? ⟨g, i * 5 + 4, none⟩ = some (.slice (some ⟨gl, 0, none⟩) X.locks.length lc)
  l0 : w.cell? ⟨gl, kx * 4, none⟩ = some (.string l.key)
  l1 : w.cell? ⟨gl, kx * 4 + 1, none⟩ = some (.bool l.wr)
  l2 : w.cell? ⟨gl, kx * 4 + 2, none⟩ = some (.bool l.gone)
  l3 : w.cell? ⟨gl, kx * 4 + 3, none⟩ = some (.string l.val)
  fz : ∀ j, w.frozen? ⟨gl, j, none⟩ = false
theorem RS.lockAt [Inhabited Bs] {w : World} {rp : Nat} {R : RSh} (h : RS w rp R) {i kx : Nat} {X : RTx} {l : RLock} (hi : R.txns[i]? = some X) (hk : X.locks[kx]? = some l) : ∃ tv g n c gl lc ps, TkL w rp R i kx X l tv g n c gl lc ps := by
  obtain ⟨tv, xv, ps, h⟩ := h
  obtain ⟨v, hp⟩ := h.at hi
  obtain ⟨ao, c, e0, H⟩ := h.slice
  obtain ⟨g, e3, _⟩ := H i _ hp
  rw [e3] at e0
  subst e0
  obtain ⟨c1, x1, x2, x3, x4, hrow, hfz⟩ := h.cellsAt rfl hp
  obtain ⟨la, lc, ev, HL⟩ := lock_slice hrow
  obtain ⟨gl, e5, l0, l1, l2, l3⟩ := HL kx l hk
  subst e5
  subst ev
  obtain ⟨cur, hg⟩ := own_cells hrow (g := gl) rfl
  exact ⟨tv, g, _, c, gl, lc, ps, h, hp, (List.getElem?_eq_some_iff.1 hp).1, (List.getElem?_eq_some_iff.1 hk).1, hk, c1, x4, l0, l1, l2, l3, fun j => blk_free hg j⟩
/-- what Get, Put, Delete answer, and what they leave -/
def RSh.get (R : RSh) (t : Nat) (seq : Int) (k : ByteArray) : RSh × ByteArray × Bool × Nat :=
  if (R.op t seq k false (fget k)).2 = 0 then ((R.op t seq k false (fget k)).1, ((R.op t seq k false (fget k)).1.got t k).1, ((R.op t seq k false (fget k)).1.got t k).2, 0) else ((R.op t seq k false (fget k)).1, ByteArray.empty, false, (R.op t seq k false (fget k)).2)
def RSh.put (R : RSh) (t : Nat) (seq : Int) (k v : ByteArray) : RSh × Nat :=
  if 32 < v.size then (R, if t = 0 then 7 else 1) else R.op t seq k true (fun ls => putLock ls ⟨k, true, false, v⟩)
def RSh.delete (R : RSh) (t : Nat) (seq : Int) (k : ByteArray) : RSh × Nat := R.op t seq k true (fun ls => putLock ls ⟨k, true, true, ByteArray.empty⟩)
theorem op_table {R : RSh} {t : Nat} {seq : Int} {k : ByteArray} {wr : Bool} (f : List RLock → List RLock) : (R.op t seq k wr f).1.table = R.table := by
  unfold RSh.op
  split
  · split <;> rfl
  · rfl
theorem OnceK.at {ls : List RLock} (h : OnceK ls) {i : Nat} {l : RLock} (hi : ls[i]? = some l) : Go.Proofs.YtejiankgafjppaaGreatDoor.lockAt ls l.key = some l := by
  induction ls generalizing i with
  | nil => simp at hi
  | cons y ys ih =>
    obtain ⟨h1, h2⟩ := List.pairwise_cons.1 h
    unfold Go.Proofs.YtejiankgafjppaaGreatDoor.lockAt
    cases i with
    | zero => simp at hi; subst hi; simp
    | succ i =>
      simp at hi
      rw [List.find?_cons_of_neg (by simpa using h1 l (List.mem_of_getElem? hi))]
      exact ih h2 hi
theorem op_got {R : RSh} {t : Nat} {seq : Int} {k : ByteArray} {kx : Nat} {l : RLock} (hok : OnceK (R.tx t).locks) (h0 : (R.op t seq k false (fget k)).2 = 0) (hk : (fget k (R.tx t).locks)[kx]? = some l) (hl : l.key = k) :
    (R.op t seq k false (fget k)).1.got t k = if l.wr = true then (l.val, !l.gone) else ((alLook R.table k).getD ByteArray.empty, (alLook R.table k).isSome) := by
  obtain ⟨hr, hm⟩ := op_zero h0
  rw [op_work hr hm]
  have hx : (RSh.mk R.table (upd (began R.txns t) ((R.tx t).worked (fget k)))).tx t = (R.tx t).worked (fget k) := by
    unfold RSh.tx
    simp only []
    obtain ⟨x, hx⟩ := began_at R.txns t
    have hid := tx_id R t
    unfold RSh.tx at hid
    rw [txAt_upd, show (((txAt R.txns t).getD ⟨t, 1, 0, 0, []⟩).worked (fget k)).id = t from hid, if_pos rfl, hx]
    rfl
  have hat : lockAt (fget k (R.tx t).locks) k = some l := by
    have := ((locks_get k).once _ hok).at hk
    rw [hl] at this
    exact this
  unfold RSh.got
  rw [hx, show ((R.tx t).worked (fget k)).locks = fget k (R.tx t).locks from rfl, hat]
section
variable (rp t : Nat) (seq : Int) (k : ByteArray) (R : RSh) (w : World)
set_option maxRecDepth 100000 in
set_option maxHeartbeats 8000000 in
theorem rput_any [Inhabited Bs] (v : ByteArray) (h : RS w rp R) (ha : Asc R.txns) (hn : R.txns.length ≤ 12) (hl : ∀ x ∈ R.txns, x.locks.length ≤ 4) (hops : ∀ x ∈ R.txns, x.ops < 4611686018427387904) (hok : OnceK (R.tx t).locks) :
    Calls Tryz.prog 144 #[.pointer (some ⟨rp, 0, none⟩), .int .u64 (t : Int), .int .i64 seq, .string k, .string v] w fun e w' => e = .returned (.int .i64 ((R.put t seq k v).2 : Int)) ∧ RS w' rp (R.put t seq k v).1 ∧ RBr w w' := by
  have htk := rtake_any rp t seq k true R w h ha hn hl hops
  by_cases hv : 32 < v.size
  · have e1 : R.put t seq k v = (R, if t = 0 then 7 else 1) := if_pos hv
    have y1 : (32 : Int) < (v.size : Int) := by omega
    have HR : Hid (RS w rp R ∧ RBr w w) := ⟨h, RBr.refl w⟩
    clear htk h
    by_cases h0 : t = 0
    · rw [if_pos h0] at e1
      subst h0
      go_enter Tryz.func144, Tryz.ntmps144
      go_wp2
      go_ret
      rw [e1]
      exact ⟨rfl, HR.out⟩
    · rw [if_neg h0] at e1
      have z1 : ¬ ((t : Int) = 0) := by omega
      go_enter Tryz.func144, Tryz.ntmps144
      go_wp2
      go_ret
      rw [e1]
      exact ⟨rfl, HR.out⟩
  · have y1 : ¬ (32 : Int) < (v.size : Int) := by omega
    have HP : Hid (R.put t seq k v = R.op t seq k true (fun ls => putLock ls ⟨k, true, false, v⟩)) := if_neg hv
    have HA : Hid (Asc R.txns ∧ OnceK (R.tx t).locks) := ⟨ha, hok⟩
    obtain ⟨r, hr⟩ : ∃ r, r = (R.op t seq k true (fget k)).2 := ⟨_, rfl⟩
    have HRr : Hid (r = (R.op t seq k true (fget k)).2) := hr
    rw [← hr] at htk
    clear h ha hn hl hops hok hr
    go_enter Tryz.func144, Tryz.ntmps144
    go_wp2_with fail
    refine htk.mono ?_
    rintro e W ⟨i, kx, rfl, hT⟩
    clear htk
    have HT := toHid hT
    clear hT
    by_cases h0 : r = 0
    · subst h0
      obtain ⟨l, hi, hk, hlk⟩ := HT.out.at_ HRr.out.symm
      obtain ⟨tv, g, n, c, gl, lc, ps, T⟩ := HT.out.rs.lockAt hi hk
      have HX : Hid (RS ((((W.setCell ⟨gl, kx * 4, none⟩ (.string k)).setCell ⟨gl, kx * 4 + 1, none⟩ (.bool true)).setCell ⟨gl, kx * 4 + 2, none⟩ (.bool false)).setCell ⟨gl, kx * 4 + 3, none⟩ (.string v)) rp (R.put t seq k v).1 ∧ RefBlk W gl ∧ (R.put t seq k v).2 = 0) := by
        obtain ⟨k1, k2⟩ := T.rs.setLk T.at_ hk k v true false
        refine ⟨?_, k2, ?_⟩
        · rw [HP.out, ← op_put HA.out.1 HA.out.2 HRr.out.symm hi hk hlk (l' := ⟨k, true, false, v⟩) rfl]
          rw [op_table] at k1
          exact k1
        · rw [HP.out, (op_same _ (fget k)).1, ← HRr.out]
      have c1 := T.c1
      have x4 := T.x4
      have l0 := T.l0
      have l1 := T.l1
      have l2 := T.l2
      have l3 := T.l3
      have f0 := T.fz (kx * 4)
      have f1 := T.fz (kx * 4 + 1)
      have f2 := T.fz (kx * 4 + 2)
      have f3 := T.fz (kx * 4 + 3)
      have i0 : (0 : Int) ≤ (i : Int) := by omega
      have i1 : (i : Int) < (n : Int) := by have := T.il; omega
      have j0 : (0 : Int) ≤ (kx : Int) := by omega
      obtain ⟨nl, hnl⟩ : ∃ nl, nl = ((R.tx t).worked (fget k)).locks.length := ⟨_, rfl⟩
      have j1 : (kx : Int) < (nl : Int) := by have := T.kl; omega
      rw [← hnl] at x4
      clear T hi hk hlk hnl
      go_wp2
      go_ret
      rw [HX.out.2.2]
      exact ⟨rfl, HX.out.1, HT.out.fr.trans (RBr.of_fr (S := [gl]) ((((Fr.set1 (by simp) _ _).trans (Fr.set1 (by simp) _ _)).trans (Fr.set1 (by simp) _ _)).trans (Fr.set1 (by simp) _ _)) fun z hz => by simp at hz; subst hz; exact HX.out.2.1)⟩
    · have z1 : ¬ ((r : Int) = 0) := by omega
      have b1 : ((r : Int) == 0) = false := by simp; omega
      have HX : Hid (R.put t seq k v = R.op t seq k true (fget k)) := by
        show _ = _
        rw [HP.out]
        exact (op_same _ (fget k)).2 (by rw [(op_same _ (fget k)).1, ← HRr.out]; exact h0)
      go_wp2
      go_ret
      rw [HX.out, ← HRr.out]
      exact ⟨rfl, HT.out.rs, HT.out.fr⟩
set_option maxRecDepth 100000 in
set_option maxHeartbeats 8000000 in
theorem rdelete_any [Inhabited Bs] (h : RS w rp R) (ha : Asc R.txns) (hn : R.txns.length ≤ 12) (hl : ∀ x ∈ R.txns, x.locks.length ≤ 4) (hops : ∀ x ∈ R.txns, x.ops < 4611686018427387904) (hok : OnceK (R.tx t).locks) :
    Calls Tryz.prog 145 #[.pointer (some ⟨rp, 0, none⟩), .int .u64 (t : Int), .int .i64 seq, .string k] w fun e w' => e = .returned (.int .i64 ((R.delete t seq k).2 : Int)) ∧ RS w' rp (R.delete t seq k).1 ∧ RBr w w' := by
  have htk := rtake_any rp t seq k true R w h ha hn hl hops
  have HP : Hid (R.delete t seq k = R.op t seq k true (fun ls => putLock ls ⟨k, true, true, ByteArray.empty⟩)) := rfl
  have HA : Hid (Asc R.txns ∧ OnceK (R.tx t).locks) := ⟨ha, hok⟩
  obtain ⟨r, hr⟩ : ∃ r, r = (R.op t seq k true (fget k)).2 := ⟨_, rfl⟩
  have HRr : Hid (r = (R.op t seq k true (fget k)).2) := hr
  rw [← hr] at htk
  clear h ha hn hl hops hok hr
  go_enter Tryz.func145, Tryz.ntmps145
  go_wp2_with fail
  refine htk.mono ?_
  rintro e W ⟨i, kx, rfl, hT⟩
  clear htk
  have HT := toHid hT
  clear hT
  by_cases h0 : r = 0
  · subst h0
    obtain ⟨l, hi, hk, hlk⟩ := HT.out.at_ HRr.out.symm
    obtain ⟨tv, g, n, c, gl, lc, ps, T⟩ := HT.out.rs.lockAt hi hk
    have HX : Hid (RS ((((W.setCell ⟨gl, kx * 4, none⟩ (.string k)).setCell ⟨gl, kx * 4 + 1, none⟩ (.bool true)).setCell ⟨gl, kx * 4 + 2, none⟩ (.bool true)).setCell ⟨gl, kx * 4 + 3, none⟩ (.string ByteArray.empty)) rp (R.delete t seq k).1 ∧ RefBlk W gl ∧ (R.delete t seq k).2 = 0) := by
      obtain ⟨k1, k2⟩ := T.rs.setLk T.at_ hk k ByteArray.empty true true
      refine ⟨?_, k2, ?_⟩
      · rw [HP.out, ← op_put HA.out.1 HA.out.2 HRr.out.symm hi hk hlk (l' := ⟨k, true, true, ByteArray.empty⟩) rfl]
        rw [op_table] at k1
        exact k1
      · rw [HP.out, (op_same _ (fget k)).1, ← HRr.out]
    have c1 := T.c1
    have x4 := T.x4
    have l0 := T.l0
    have l1 := T.l1
    have l2 := T.l2
    have l3 := T.l3
    have f0 := T.fz (kx * 4)
    have f1 := T.fz (kx * 4 + 1)
    have f2 := T.fz (kx * 4 + 2)
    have f3 := T.fz (kx * 4 + 3)
    have i0 : (0 : Int) ≤ (i : Int) := by omega
    have i1 : (i : Int) < (n : Int) := by have := T.il; omega
    have j0 : (0 : Int) ≤ (kx : Int) := by omega
    obtain ⟨nl, hnl⟩ : ∃ nl, nl = ((R.tx t).worked (fget k)).locks.length := ⟨_, rfl⟩
    have j1 : (kx : Int) < (nl : Int) := by have := T.kl; omega
    rw [← hnl] at x4
    clear T hi hk hlk hnl
    go_wp2
    go_ret
    rw [HX.out.2.2]
    exact ⟨rfl, HX.out.1, HT.out.fr.trans (RBr.of_fr (S := [gl]) ((((Fr.set1 (by simp) _ _).trans (Fr.set1 (by simp) _ _)).trans (Fr.set1 (by simp) _ _)).trans (Fr.set1 (by simp) _ _)) fun z hz => by simp at hz; subst hz; exact HX.out.2.1)⟩
  · have z1 : ¬ ((r : Int) = 0) := by omega
    have b1 : ((r : Int) == 0) = false := by simp; omega
    have HX : Hid (R.delete t seq k = R.op t seq k true (fget k)) := by
      show _ = _
      rw [HP.out]
      exact (op_same _ (fget k)).2 (by rw [(op_same _ (fget k)).1, ← HRr.out]; exact h0)
    go_wp2
    go_ret
    rw [HX.out, ← HRr.out]
    exact ⟨rfl, HT.out.rs, HT.out.fr⟩
set_option maxRecDepth 100000 in
set_option maxHeartbeats 8000000 in
theorem rget_any [Inhabited Bs] (h : RS w rp R) (ha : Asc R.txns) (hn : R.txns.length ≤ 12) (hl : ∀ x ∈ R.txns, x.locks.length ≤ 4) (hops : ∀ x ∈ R.txns, x.ops < 4611686018427387904) (hok : OnceK (R.tx t).locks) (htb : R.table.length ≤ 1048576) :
    Calls Tryz.prog 143 #[.pointer (some ⟨rp, 0, none⟩), .int .u64 (t : Int), .int .i64 seq, .string k] w fun e w' => e = .returned (.tuple #[.string (R.get t seq k).2.1, .bool (R.get t seq k).2.2.1, .int .i64 ((R.get t seq k).2.2.2 : Int)]) ∧ RS w' rp (R.get t seq k).1 ∧ RBr w w' := by
  have htk := rtake_any rp t seq k false R w h ha hn hl hops
  have HA : Hid (OnceK (R.tx t).locks ∧ R.table.length ≤ 1048576) := ⟨hok, htb⟩
  obtain ⟨r, hr⟩ : ∃ r, r = (R.op t seq k false (fget k)).2 := ⟨_, rfl⟩
  have HRr : Hid (r = (R.op t seq k false (fget k)).2) := hr
  rw [← hr] at htk
  clear h ha hn hl hops hok hr htb
  go_enter Tryz.func143, Tryz.ntmps143
  go_wp2_with fail
  refine htk.mono ?_
  rintro e W ⟨i, kx, rfl, hT⟩
  clear htk
  have HT := toHid hT
  clear hT
  by_cases h0 : r = 0
  · subst h0
    obtain ⟨l, hi, hk, hlk⟩ := HT.out.at_ HRr.out.symm
    obtain ⟨tv, g, n, c, gl, lc, ps, T⟩ := HT.out.rs.lockAt hi hk
    have HG : Hid (R.get t seq k = ((R.op t seq k false (fget k)).1, (if l.wr = true then (l.val, !l.gone) else ((alLook R.table k).getD ByteArray.empty, (alLook R.table k).isSome)).1, (if l.wr = true then (l.val, !l.gone) else ((alLook R.table k).getD ByteArray.empty, (alLook R.table k).isSome)).2, 0)) := by
      show _ = _
      unfold RSh.get
      rw [if_pos HRr.out.symm, op_got HA.out.1 HRr.out.symm hk hlk]
    have hva := fun W' (hW : Fr [] W W') => rvalue_any rp k _ _ _ _ W' (T.rs.fr hW) (by rw [op_table]; have := HA.out.2; omega)
    rw [op_table] at hva
    have c1 := T.c1
    have x4 := T.x4
    have l0 := T.l0
    have l1 := T.l1
    have l2 := T.l2
    have l3 := T.l3
    have i0 : (0 : Int) ≤ (i : Int) := by omega
    have i1 : (i : Int) < (n : Int) := by have := T.il; omega
    have j0 : (0 : Int) ≤ (kx : Int) := by omega
    obtain ⟨nl, hnl⟩ : ∃ nl, nl = ((R.tx t).worked (fget k)).locks.length := ⟨_, rfl⟩
    have j1 : (kx : Int) < (nl : Int) := by have := T.kl; omega
    rw [← hnl] at x4
    obtain ⟨lk, lw, lg, lv⟩ := l
    simp only [] at l0 l1 l2 l3 HG
    clear T hi hk hlk hnl
    cases lw with
    | true =>
      simp only [if_true] at HG
      clear hva
      go_wp2
      go_quiet (fail)
      go_wp2
      go_ret3
      rw [HG.out]
      exact ⟨rfl, HT.out.rs.fr (((Fr.refl [] W).alloc _).drewM nq), HT.out.fr.trans (RBr.of_fr (((Fr.refl [] W).alloc _).drewM nq) (by simp))⟩
    | false =>
      simp only [Bool.false_eq_true, if_false] at HG
      go_wp2_with fail
      refine (hva _ ((Fr.refl [] W).alloc _)).mono ?_
      rintro e w2 ⟨rfl, q, rfl⟩
      clear hva
      go_wp2
      go_ret3
      rw [HG.out]
      exact ⟨rfl, HT.out.rs.fr (((Fr.refl [] W).alloc _).drewM q), HT.out.fr.trans (RBr.of_fr (((Fr.refl [] W).alloc _).drewM q) (by simp))⟩
  · have z1 : ¬ ((r : Int) = 0) := by omega
    have b1 : ((r : Int) == 0) = false := by simp; omega
    have HX : Hid (R.get t seq k = ((R.op t seq k false (fget k)).1, ByteArray.empty, false, (R.op t seq k false (fget k)).2)) := by
      show _ = _
      unfold RSh.get
      rw [if_neg (by rw [← HRr.out]; exact h0)]
    go_wp2
    go_ret3
    rw [HX.out, ← HRr.out]
    exact ⟨rfl, HT.out.rs, HT.out.fr⟩
end
end Go.Proofs.YtejiankgafjppaaGreatDoor
/- A KEEPER, as mathematics: Get, Put, Delete of both. -/
namespace Go.Proofs.YtejiankgafjppaaGreatDoor
open Go.RowKit Go.Maps
open Sc

section
variable {c T : Nat} {s : AShard} {R : RSh}
theorem Gd.put (h : Gd c T s R) (t : Nat) (seq : Int) (k v : ByteArray) (ht : t < 18446744073709551616) :
    (s.operate t seq k ⟨1, v⟩).2 = (R.put t seq k v).2 ∧ Gd (c + 1) T (s.operate t seq k ⟨1, v⟩).1 (R.put t seq k v).1 := by
  unfold RSh.put
  by_cases hv : 32 < v.size
  · rw [if_pos hv]
    have : s.operate t seq k ⟨1, v⟩ = (s, if t = 0 then 7 else 1) := by
      have e : s.refuse t seq k v = if t = 0 then 7 else 1 := by
        unfold AShard.refuse AShard.refuse1
        by_cases h0 : t = 0
        · rw [if_pos h0, if_pos h0]; rfl
        · have hq : k.size < 1 ∨ 16 < k.size ∨ 32 < v.size := .inr (.inr hv)
          rw [if_neg h0, if_neg h0, if_pos hq]; rfl
      unfold AShard.operate
      rw [show (AGrip.mk 1 v).val = v from rfl, e]
      by_cases h0 : t = 0
      · rw [if_pos h0]; rfl
      · rw [if_neg h0]; rfl
    rw [this]
    exact ⟨rfl, h.mono (by omega) (Nat.le_refl _)⟩
  · rw [if_neg hv]
    exact h.op t seq k ⟨1, v⟩ _ ht (by show v.size ≤ 32; omega) (locks_put ⟨k, true, false, v⟩ rfl (by show v.size ≤ 32; omega))
theorem Gd.delete (h : Gd c T s R) (t : Nat) (seq : Int) (k : ByteArray) (ht : t < 18446744073709551616) :
    (s.operate t seq k ⟨2, ByteArray.empty⟩).2 = (R.delete t seq k).2 ∧ Gd (c + 1) T (s.operate t seq k ⟨2, ByteArray.empty⟩).1 (R.delete t seq k).1 :=
  h.op t seq k ⟨2, ByteArray.empty⟩ _ ht (by show 0 ≤ 32; omega) (locks_put ⟨k, true, true, ByteArray.empty⟩ rfl (by show 0 ≤ 32; omega))
theorem Gd.get (h : Gd c T s R) (hv : Once1 s.vals) (t : Nat) (seq : Int) (k : ByteArray) (ht : t < 18446744073709551616) :
    (s.get t seq k).2 = (R.get t seq k).2 ∧ Gd (c + 1) T (s.get t seq k).1 (R.get t seq k).1 := by
  obtain ⟨h1, h2⟩ := h.op t seq k ⟨0, ByteArray.empty⟩ (fget k) ht (by show 0 ≤ 32; omega) (locks_get k)
  have hw : (AGrip.mk 0 ByteArray.empty).writes = false := rfl
  rw [hw] at h1 h2
  have hg := h2.rel.got (by rw [(operate_keeps s t seq k ⟨0, ByteArray.empty⟩).2]; exact hv) t k
  unfold AShard.get RSh.get
  rw [h1]
  by_cases h0 : (R.op t seq k false (fget k)).2 = 0
  · rw [if_pos h0, if_pos h0]
    by_cases hq : ((s.operate t seq k ⟨0, ByteArray.empty⟩).1.grip t k).writes = true
    · rw [if_pos hq] at hg ⊢
      rw [← hg]
      exact ⟨rfl, h2⟩
    · rw [if_neg hq] at hg ⊢
      rw [← hg]
      exact ⟨rfl, h2⟩
  · rw [if_neg h0, if_neg h0]
    exact ⟨rfl, h2⟩
end
end Go.Proofs.YtejiankgafjppaaGreatDoor
