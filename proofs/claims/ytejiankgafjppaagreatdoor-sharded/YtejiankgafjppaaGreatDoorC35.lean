import Derived.Test.YtejiankgafjppaaGreatDoorC34
import Derived.Laws.AppendOwnNone
/- THE DOCUMENT'S SHARD: State, lock, Value, Waiting. -/
namespace Go.Proofs.YtejiankgafjppaaGreatDoor
open Go.RowKit Go.Maps
open Sc

set_option maxRecDepth 100000 in
set_option maxHeartbeats 2000000 in
theorem rstate_any [Inhabited Bs] (rp t : Nat) (tv xv : Value) (ps : List (RTx × Value)) (R : RSh) (w : World) (h : RsIn w rp tv xv ps R) (hn : ps.length ≤ 1099511627776) :
    Calls Tryz.prog 77 #[.pointer (some ⟨rp, 0, none⟩), .int .u64 (t : Int)] w fun e w' => e = .returned (.int .i64 (R.state t : Int)) ∧ ∃ q, w' = w.drewN q := by
  have hfi := rfind_any rp t tv xv ps R w h hn
  have c1 := blk_cell h.blk 1
  simp at c1
  have HI : Hid (RsIn w rp tv xv ps R) := h
  clear h
  go_enter Tryz.func77, Tryz.ntmps77
  go_wp2_with fail
  refine hfi.mono ?_
  rintro e w1 ⟨rfl, q, rfl⟩
  clear hfi
  cases hx : txIx R.txns t with
  | none =>
    have hs : R.state t = 0 := by unfold RSh.state; rw [txIx_none hx]; rfl
    have e1 : ixI none = -1 := rfl
    rw [e1]
    go_wp2
    go_ret
    exact ⟨by rw [hs]; rfl, _, rfl⟩
  | some i =>
    obtain ⟨x, hi, hid, hat⟩ := txIx_some hx
    have hs : R.state t = x.st := by unfold RSh.state; rw [hat]; rfl
    obtain ⟨v, hp⟩ := HI.out.at hi
    obtain ⟨ao, c, rfl, H⟩ := HI.out.slice
    obtain ⟨g, rfl, x0, x1, _⟩ := H i _ hp
    have hil : i < ps.length := (List.getElem?_eq_some_iff.1 hp).1
    have e1 : ixI (some i) = (i : Int) := rfl
    rw [e1]
    obtain ⟨n, hnn⟩ : ∃ n, n = ps.length := ⟨_, rfl⟩
    rw [← hnn] at hn c1 hil
    clear hnn H hp hi hx HI
    have i0 : (0 : Int) ≤ (i : Int) := by omega
    have i1 : (i : Int) < (n : Int) := by omega
    have i2 : ¬ ((i : Int) < 0) := by omega
    go_wp2
    go_ret
    exact ⟨by rw [hs]; rfl, _, rfl⟩
set_option maxRecDepth 100000 in
set_option maxHeartbeats 2000000 in
theorem rlock_any [Inhabited Bs] (g i : Nat) (v : Value) (k : ByteArray) (ls : List RLock) (w : World) (hc : w.cell? ⟨g, i + 4, none⟩ = some v) (h : w.ownsRow B0 201 4 v ls.length (locksV ls)) (hn : ls.length ≤ 1099511627776) :
    Calls Tryz.prog 263 #[.pointer (some ⟨g, i, none⟩), .string k] w fun e w' => e = .returned (.int .i64 (ixI (lockIx ls k))) ∧ ∃ q, w' = w.drewN q := by
  obtain ⟨ao, c, rfl, H⟩ := lock_slice h
  have G : Hid (∀ i l, ls[i]? = some l → ∃ g, ao = some ⟨g, 0, none⟩ ∧ w.cell? ⟨g, i * 4, none⟩ = some (.string l.key)) := fun i p hp => by obtain ⟨g, e, a, _⟩ := H i p hp; exact ⟨g, e, a⟩
  obtain ⟨n, hnn⟩ : ∃ n, n = ls.length := ⟨_, rfl⟩
  rw [← hnn] at hn hc
  have HN : Hid (ls.length = n) := hnn.symm
  clear hnn h H
  go_enter Tryz.func263, Tryz.ntmps263
  go_wp2
  go_loopw [5] (fun i wr => ∃ m : Nat, m ≤ n ∧ i = .int .i64 m ∧ Hid (∀ j l, j < m → ls[j]? = some l → l.key ≠ k) ∧ ∃ q, wr = w.drewN q) (fun i _ => n - (intOf i).toNat)
  case atStart => exact ⟨0, Nat.zero_le _, rfl, fun j p hj => by omega, 0, rfl⟩
  case round =>
    obtain ⟨m, hk, rfl, hpre, q, rfl⟩ := hrel
    by_cases hlt : m < n
    · obtain ⟨l, hp⟩ : ∃ l, ls[m]? = some l := ⟨_, List.getElem?_eq_getElem (by rw [HN.out]; exact hlt)⟩
      obtain ⟨g2, rfl, x0⟩ := G.out m l hp
      have i0 : (0 : Int) ≤ (m : Int) := by omega
      have i1 : (m : Int) < (n : Int) := by omega
      have HP : Hid (ls[m]? = some l) := hp
      clear hp
      by_cases he : l.key = k
      · have be : (l.key.toList == k.toList) = true := by simp [he]
        go_wp2
        go_ret
        refine ⟨?_, _, rfl⟩
        have : lockIx ls k = some m := ix_some HP.out (by simp [he]) fun i y hi hy => by simpa using hpre.out i y hi hy
        rw [this]; rfl
      · have be : (l.key.toList == k.toList) = false := by
          rw [beq_eq_false_iff_ne]
          intro e
          exact he (key_ext (by simpa [Lib.toList_data] using e))
        go_wp2
        go_roundw
        case rel => exact ⟨m + 1, by omega, by go_num, fun j p' hj hp' => by
          by_cases e : j = m
          · subst e; rw [HP.out] at hp'; cases hp'; exact he
          · exact hpre.out j p' (by omega) hp', _, rfl⟩
        case measure => simp [intOf]; omega
    · go_wp2
      go_ret
      refine ⟨?_, q, rfl⟩
      have : lockIx ls k = none := ix_none fun i y hy => by simpa using hpre.out i y (by have := (List.getElem?_eq_some_iff.1 hy).1; rw [HN.out] at this; omega) hy
      rw [this]; rfl
set_option maxRecDepth 100000 in
set_option maxHeartbeats 2000000 in
theorem rvalue_any [Inhabited Bs] (rp : Nat) (k : ByteArray) (tv xv : Value) (ps : List (RTx × Value)) (R : RSh) (w : World) (h : RsIn w rp tv xv ps R) (hn : R.table.length ≤ 1099511627776) :
    Calls Tryz.prog 207 #[.pointer (some ⟨rp, 0, none⟩), .string k] w fun e w' => e = .returned (.tuple #[.string ((alLook R.table k).getD ByteArray.empty), .bool (alLook R.table k).isSome]) ∧ ∃ q, w' = w.drewN q := by
  have c1 := blk_cell h.blk 0
  simp at c1
  obtain ⟨ao, c, rfl, H⟩ := h.table
  have G : Hid (∀ i p, R.table[i]? = some p → ∃ g, ao = some ⟨g, 0, none⟩ ∧ w.cell? ⟨g, i * 2, none⟩ = some (.string p.1) ∧ w.cell? ⟨g, i * 2 + 1, none⟩ = some (.string p.2)) := H
  obtain ⟨T, hT⟩ : ∃ T, T = R.table := ⟨_, rfl⟩
  rw [← hT] at G hn c1 ⊢
  obtain ⟨n, hnn⟩ : ∃ n, n = T.length := ⟨_, rfl⟩
  rw [← hnn] at hn c1
  have HN : Hid (T.length = n) := hnn.symm
  clear hnn h H hT
  go_enter Tryz.func207, Tryz.ntmps207
  go_wp2
  go_loopw [6] (fun i wr => ∃ m : Nat, m ≤ n ∧ i = .int .i64 m ∧ Hid (∀ j l, j < m → T[j]? = some l → l.1 ≠ k) ∧ ∃ q, wr = w.drewN q) (fun i _ => n - (intOf i).toNat)
  case atStart => exact ⟨0, Nat.zero_le _, rfl, fun j p hj => by omega, 0, rfl⟩
  case round =>
    obtain ⟨m, hk, rfl, hpre, q, rfl⟩ := hrel
    by_cases hlt : m < n
    · obtain ⟨l, hp⟩ : ∃ l, T[m]? = some l := ⟨_, List.getElem?_eq_getElem (by rw [HN.out]; exact hlt)⟩
      obtain ⟨g2, rfl, x0, x1⟩ := G.out m l hp
      have i0 : (0 : Int) ≤ (m : Int) := by omega
      have i1 : (m : Int) < (n : Int) := by omega
      have HP : Hid (T[m]? = some l) := hp
      clear hp
      obtain ⟨l1, l2⟩ := l
      simp only [] at x0 x1
      by_cases he : l1 = k
      · have be : (l1.toList == k.toList) = true := by simp [he]
        have hl : alLook T k = some l2 := by
          have e := ix_some (p := fun p : ByteArray × ByteArray => decide (p.1 = k)) HP.out (by simp [he]) fun i y hi hy => by simpa using hpre.out i y hi hy
          obtain ⟨z, z1, z2, z3⟩ := (find_ix _ T).1 m e
          rw [HP.out] at z1
          cases z1
          unfold alLook
          rw [z3]; rfl
        go_wp2
        go_ret2
        exact ⟨by rw [hl]; rfl, _, rfl⟩
      · have be : (l1.toList == k.toList) = false := by
          rw [beq_eq_false_iff_ne]
          intro e
          exact he (key_ext (by simpa [Lib.toList_data] using e))
        go_wp2
        go_roundw
        case rel => exact ⟨m + 1, by omega, by go_num, fun j p' hj hp' => by
          by_cases e : j = m
          · subst e; rw [HP.out] at hp'; cases hp'; exact he
          · exact hpre.out j p' (by omega) hp', _, rfl⟩
        case measure => simp [intOf]; omega
    · have hl : alLook T k = none := by
        rw [alLook_none]
        intro p hp
        obtain ⟨i, hi⟩ := List.mem_iff_getElem?.1 hp
        exact hpre.out i p (by have := (List.getElem?_eq_some_iff.1 hi).1; rw [HN.out] at this; omega) hi
      go_wp2
      go_ret2
      exact ⟨by rw [hl]; rfl, _, rfl⟩
end Go.Proofs.YtejiankgafjppaaGreatDoor
/- THE DOCUMENT'S SHARD: meets, Waiting. -/
namespace Go.Proofs.YtejiankgafjppaaGreatDoor
open Go.RowKit Go.Maps
open Sc

theorem any_false {α : Type} {p : α → Bool} {xs : List α} (h : ∀ (i : Nat) (x : α), xs[i]? = some x → p x = false) : xs.any p = false := by
  rw [List.any_eq_false]
  intro x hx
  obtain ⟨i, hi⟩ := List.mem_iff_getElem?.1 hx
  simp [h i x hi]
theorem any_true {α : Type} {p : α → Bool} {xs : List α} {k : Nat} {x : α} (hk : xs[k]? = some x) (hx : p x = true) : xs.any p = true := List.any_eq_true.2 ⟨x, List.mem_of_getElem? hk, hx⟩
theorem Fr.drewM {S : List Nat} {a w : World} (h : Fr S a w) : ∀ k, Fr S a (w.drewN k)
  | 0 => h
  | k + 1 => by
    have h2 := Fr.drewM h k
    exact ⟨h2.os, h2.tape, h2.output, h2.size, h2.block⟩
set_option maxRecDepth 100000 in
set_option maxHeartbeats 4000000 in
theorem rmeets_any [Inhabited Bs] (rp t : Nat) (k : ByteArray) (wr : Bool) (tv xv : Value) (ps : List (RTx × Value)) (R : RSh) (w : World) (h : RsIn w rp tv xv ps R) (hn : ps.length ≤ 1099511627776) (hl : ∀ p ∈ ps, p.1.locks.length ≤ 1099511627776) :
    Calls Tryz.prog 265 #[.pointer (some ⟨rp, 0, none⟩), .int .u64 (t : Int), .string k, .bool wr] w fun e w' => e = .returned (.bool (meets R.txns t k wr)) ∧ ∃ q, w' = w.drewN q := by
  have c1 := blk_cell h.blk 1
  simp at c1
  obtain ⟨ao, c, e0, H⟩ := h.slice
  rw [e0] at c1
  have G : Hid (∀ i p, ps[i]? = some p → ∃ g, ao = some ⟨g, 0, none⟩ ∧ w.cell? ⟨g, i * 5, none⟩ = some (.int .u64 (p.1.id : Int)) ∧ w.cell? ⟨g, i * 5 + 4, none⟩ = some p.2) := fun i p hp => by obtain ⟨g, e, a, _, _, _, b⟩ := H i p hp; exact ⟨g, e, a, b⟩
  have LK : Hid (∀ p ∈ ps, w.ownsRow B0 201 4 p.2 p.1.locks.length (locksV p.1.locks) ∧ p.1.locks.length ≤ 1099511627776) := fun p hp => ⟨h.lks p hp, hl p hp⟩
  have hrs : Hid (ps.map (·.1) = R.txns) := h.rs
  obtain ⟨n, hnn⟩ : ∃ n, n = ps.length := ⟨_, rfl⟩
  rw [← hnn] at hn c1
  have HN : Hid (ps.length = n) := hnn.symm
  clear hnn h H hl e0
  go_enter Tryz.func265, Tryz.ntmps265
  go_wp2
  go_loopw [9] (fun i wr' => ∃ m : Nat, m ≤ n ∧ i = .int .i64 m ∧ Hid (∀ j p, j < m → ps[j]? = some p → meetsAt t k wr p.1 = false) ∧ ∃ q, wr' = w.drewN q) (fun i _ => n - (intOf i).toNat)
  case atStart => exact ⟨0, Nat.zero_le _, rfl, fun j p hj => by omega, 0, rfl⟩
  case round =>
    obtain ⟨m, hm, rfl, hpre, q, rfl⟩ := hrel
    by_cases hlt : m < n
    · obtain ⟨p, hp⟩ : ∃ p, ps[m]? = some p := ⟨_, List.getElem?_eq_getElem (by rw [HN.out]; exact hlt)⟩
      obtain ⟨g, rfl, x0, x4⟩ := G.out m p hp
      obtain ⟨L1, L2⟩ := LK.out p (List.mem_of_getElem? hp)
      have hlo := rlock_any g (m * 5) p.2 k p.1.locks (w.drewN q) (by simpa using x4) (ownsRow_fr L1 ((Fr.refl [] w).drewM q) (by simp)) L2
      obtain ⟨la, lc, el, HL⟩ := lock_slice L1
      rw [el] at x4
      have i0 : (0 : Int) ≤ (m : Int) := by omega
      have i1 : (m : Int) < (n : Int) := by omega
      have HP : Hid (ps[m]? = some p) := hp
      have GL : Hid (∀ i l, p.1.locks[i]? = some l → ∃ g, la = some ⟨g, 0, none⟩ ∧ w.cell? ⟨g, i * 4 + 1, none⟩ = some (.bool l.wr)) := fun i l hi => by obtain ⟨g, e, _, a, _⟩ := HL i l hi; exact ⟨g, e, a⟩
      obtain ⟨d, hd⟩ : ∃ d, d = p.1.id := ⟨_, rfl⟩
      have HD : Hid (d = p.1.id) := hd
      rw [← hd] at x0
      have hstep : Hid (meetsAt t k wr p.1 = false → ∀ j p', j < m + 1 → ps[j]? = some p' → meetsAt t k wr p'.1 = false) := fun hz j p' hj hp' => by
        by_cases e : j = m
        · subst e; rw [hp] at hp'; cases hp'; exact hz
        · exact hpre.out j p' (by omega) hp'
      clear hp hd L1 el HL
      obtain ⟨nl, hnl⟩ : ∃ nl, nl = p.1.locks.length := ⟨_, rfl⟩
      have HNL : Hid (p.1.locks.length = nl) := hnl.symm
      rw [← hnl] at x4 L2
      clear hnl
      go_wp2_with fail
      refine hlo.mono ?_
      rintro e w1 ⟨rfl, q1, rfl⟩
      clear hlo
      by_cases he : d = t
      · have be : ((d : Int) != (t : Int)) = false := by simp [he]
        have hz : meetsAt t k wr p.1 = false := by unfold meetsAt; rw [← HD.out, he]; simp
        go_wp2
        go_roundw
        case rel => exact ⟨m + 1, by omega, by go_num, hstep.out hz, _, rfl⟩
        case measure => simp [intOf]; omega
      · have be : ((d : Int) != (t : Int)) = true := by simp; omega
        cases hx : lockIx p.1.locks k with
        | none =>
          have hz : meetsAt t k wr p.1 = false := by unfold meetsAt; rw [lockIx_none hx]; simp
          have e1 : ixI none = -1 := rfl
          rw [e1]
          go_wp2
          go_roundw
          case rel => exact ⟨m + 1, by omega, by go_num, hstep.out hz, _, rfl⟩
          case measure => simp [intOf]; omega
        | some j =>
          obtain ⟨l, hj, hk, hat⟩ := lockIx_some hx
          obtain ⟨g2, rfl, y1⟩ := GL.out j l hj
          have hjl : j < nl := by rw [← HNL.out]; exact (List.getElem?_eq_some_iff.1 hj).1
          have j0 : (0 : Int) ≤ (j : Int) := by omega
          have j1 : (j : Int) < (nl : Int) := by omega
          have e1 : ixI (some j) = (j : Int) := rfl
          rw [e1]
          have hval : Hid (meetsAt t k wr p.1 = (wr || l.wr)) := by
            show _ = _
            unfold meetsAt
            rw [hat, ← HD.out]
            simp [he]
          clear hx hj hat
          obtain ⟨lw, hlw⟩ : ∃ lw, lw = l.wr := ⟨_, rfl⟩
          rw [← hlw] at hval y1
          clear hlw
          cases wr with
          | true =>
            go_wp2
            go_ret
            refine ⟨?_, _, rfl⟩
            have : meets R.txns t k true = true := any_true (k := m) (x := p.1) (by rw [← hrs.out, List.getElem?_map, HP.out]; rfl) (by rw [hval.out]; rfl)
            rw [this]; rfl
          | false =>
            cases lw with
            | true =>
              go_wp2
              go_ret
              refine ⟨?_, _, rfl⟩
              have : meets R.txns t k false = true := any_true (k := m) (x := p.1) (by rw [← hrs.out, List.getElem?_map, HP.out]; rfl) (by rw [hval.out]; rfl)
              rw [this]; rfl
            | false =>
              go_wp2
              go_roundw
              case rel => exact ⟨m + 1, by omega, by go_num, hstep.out (by rw [hval.out]; rfl), _, rfl⟩
              case measure => simp [intOf]; omega
    · go_wp2
      go_ret
      refine ⟨?_, q, rfl⟩
      have : meets R.txns t k wr = false := any_false fun i y hy => by
        rw [← hrs.out, List.getElem?_map] at hy
        cases hq : ps[i]? with
        | none => rw [hq] at hy; cases hy
        | some z => rw [hq] at hy; cases hy; exact hpre.out i z (by have := (List.getElem?_eq_some_iff.1 hq).1; rw [HN.out] at this; omega) hq
      rw [this]; rfl
end Go.Proofs.YtejiankgafjppaaGreatDoor
/- THE DOCUMENT'S SHARD: append from any slice; drop. -/
namespace Go.Proofs.YtejiankgafjppaaGreatDoor
open Go.RowKit Go.Maps
open Sc

/-- what append takes from: m elements that lie one behind another, or nil -/
def AppSrc (w : World) (x : Value) (m : Nat) (news : List Value) : Prop :=
  (∃ ad c, x = .slice (some ad) m c ∧ ∀ j u, news[j]? = some u → w.cell? (ad.add j) = some u) ∨ (x = .slice none 0 0 ∧ m = 0 ∧ news = [])
theorem wpList_app {P : Program} {w : World} {ops : Array Oper} {rest : List Oper} {o : Oper} {a : Act} {Q : Exit → Act → World → Prop} (hgd : o.guard = none) (s x : Operand) (t : TypeId)
    (ho : o.op = .call { callee := .builtin .append, args := #[s, x], argTypes := #[t, t] })
    (base : Nat) (e : TypeId) (i : TypeInfo) (z : Value) (size bytes : Nat) (ht : P.underlying t = some (.slice e)) (hi : P.info? e = some i) (hz : i.zero = some z)
    (hsize : i.size = size) (hby : i.bytes = bytes) (hzs : z.cells.size = size) (hsz : 0 < size)
    (v : Value) (n : Nat) (xs : List Value) (hs : a.eval s = v) (hown : w.ownsRow base e size v n xs)
    (m : Nat) (news : List Value) (hx : AppSrc w (a.eval x) m news) (hl : news.length = m * size) (h1 : ∀ u ∈ news, u.oneCell' = true)
    (h63 : n + m ≤ maxLen) (hbytes : (n + m) * bytes ≤ 140737488355328) (hbase : base ≤ w.heap.size)
    (h : ∀ v' w', w'.ownsRow base e size v' (n + m) (xs ++ news) → w.grownBy w' v.ownBlock → (v'.ownBlock = v.ownBlock ∨ v'.ownBlock = some w.heap.size) → wpList P ops Q rest (a.put o.dst v') w') :
    wpList P ops Q (o :: rest) a w := by
  rcases hx with ⟨ad, c, hx, hnews⟩ | ⟨hx, rfl, rfl⟩
  · exact wpList_append_own_at (P := P) (w := w) hgd s x t ho base e i z size bytes ht hi hz hsize hby hzs hsz v n xs hs hown ad m c news hx hl hnews h1 h63 hbytes hbase (fun v' w' a b _ c => h v' w' a b c)
  · exact wpList_append_own_none hgd s x t ho base e i size ht hi v n xs hs hown hx (h v w (by simpa using hown) ⟨rfl, rfl, rfl, Nat.le_refl _, fun _ _ _ => rfl⟩ (.inl rfl))
theorem Tryz.infoRTx : (Tryz.prog.info? 126).map (fun i => (i.zero, i.size, i.bytes)) = some (some (.agg #[.int .u64 0, .int .i64 0, .int .i64 0, .int .i64 0, .slice none 0 0]), 5, 56) := by kernel_rfl
theorem Tryz.infoRLock : (Tryz.prog.info? 201).map (fun i => (i.zero, i.size, i.bytes)) = some (some (.agg #[.string ByteArray.empty, .bool false, .bool false, .string ByteArray.empty]), 4, 40) := by kernel_rfl
theorem rtxsV_len (ps : List (RTx × Value)) : (rtxsV ps).length = ps.length * 5 := flat_len (f := rtxC) (k := 5) (fun _ => rfl) ps
theorem locksV_len (ls : List RLock) : (locksV ls).length = ls.length * 4 := flat_len (f := lockC) (k := 4) (fun _ => rfl) ls
theorem pairsV_len (l : Prs) : (pairsV l).length = l.length * 2 := flat_len (f := pairC) (k := 2) (fun _ => rfl) l
theorem rtxsV_app (a b : List (RTx × Value)) : rtxsV (a ++ b) = rtxsV a ++ rtxsV b := by simp [rtxsV]
theorem locksV_app (a b : List RLock) : locksV (a ++ b) = locksV a ++ locksV b := by simp [locksV]
/-- a slice lies in one cell -/
def OneV (ps : List (RTx × Value)) : Prop := ∀ p ∈ ps, p.2.oneCell' = true
theorem rtxs_one {ps : List (RTx × Value)} (h : OneV ps) : ∀ u ∈ rtxsV ps, u.oneCell' = true := by
  intro u hu
  obtain ⟨p, hp, hq⟩ := List.mem_flatMap.1 hu
  simp at hq
  rcases hq with rfl | rfl | rfl | rfl | rfl
  · rfl
  · rfl
  · rfl
  · rfl
  · exact h p hp
theorem row_one {w : World} {base : Nat} {e : TypeId} {size n : Nat} {v : Value} {xs : List Value} (h : w.ownsRow base e size v n xs) : v.oneCell' = true := by
  rcases h.2 with ⟨rfl, _⟩ | ⟨g, cap, cur, rfl, _⟩ <;> rfl
theorem RsIn.one [Inhabited Bs] {w : World} {rp : Nat} {tv xv : Value} {ps : List (RTx × Value)} {R : RSh} (h : RsIn w rp tv xv ps R) : OneV ps := fun p hp => row_one (h.lks p hp)
/-- a piece of a row -/
theorem src_piece {w : World} {base : Nat} {e : TypeId} {size n : Nat} {xs : List Value} {g N c : Nat} (h : w.ownsRow base e size (.slice (some ⟨g, 0, none⟩) N c) n xs) (o m c' : Nat) (news : List Value) (hn : ∀ j u, news[j]? = some u → xs[o + j]? = some u) : AppSrc w (.slice (some ⟨g, o, none⟩) m c') m news := by
  refine .inl ⟨_, _, rfl, fun j u hu => ?_⟩
  have := row_cell h rfl (hn j u hu)
  have e : (⟨g, o, none⟩ : Addr).add j = ⟨g, o + j, none⟩ := by unfold Addr.add; split <;> simp_all
  rw [e]
  exact this
theorem src_zero (w : World) (ad : Addr) (c : Nat) {m : Nat} {news : List Value} (_hm : m = 0) (hn : news = []) : AppSrc w (.slice (some ad) m c) m news := .inl ⟨_, _, rfl, fun j u hu => by rw [hn] at hu; simp at hu⟩
/-- blocks of the document's shard, by their kinds -/
def RefBlk [Inhabited Bs] (w : World) (k : Nat) : Prop := B0 ≤ k ∧ ∃ c t, w.heap[k]? = some (.cells c t (0, 0)) ∧ (t = 71 ∨ t = 126 ∨ t = 201)
/-- nothing has turned but such blocks, and new ones -/
structure RBr [Inhabited Bs] (w w' : World) : Prop where
  os : w'.os = w.os
  tape : w'.tape = w.tape
  output : w'.output = w.output
  size : w.heap.size ≤ w'.heap.size
  block : ∀ k, k < w.heap.size → ¬ RefBlk w k → w'.heap[k]? = w.heap[k]?
  kind : ∀ k, k < w.heap.size → RefBlk w' k → RefBlk w k
theorem RBr.refl [Inhabited Bs] (w : World) : RBr w w := ⟨rfl, rfl, rfl, Nat.le_refl _, fun _ _ _ => rfl, fun _ _ h => h⟩
theorem RBr.trans [Inhabited Bs] {a b c : World} (h : RBr a b) (k : RBr b c) : RBr a c :=
  ⟨k.os.trans h.os, k.tape.trans h.tape, k.output.trans h.output, Nat.le_trans h.size k.size,
    fun i hi hn => (k.block i (Nat.lt_of_lt_of_le hi h.size) (fun ho => hn (h.kind i hi ho))).trans (h.block i hi hn),
    fun i hi ho => h.kind i hi (k.kind i (Nat.lt_of_lt_of_le hi h.size) ho)⟩
theorem RBr.of_fr [Inhabited Bs] {S : List Nat} {w w' : World} (hf : Fr S w w') (hS : ∀ k ∈ S, RefBlk w k) : RBr w w' :=
  ⟨hf.os, hf.tape, hf.output, hf.size, fun k hk hn => hf.block k hk fun hm => hn (hS k hm), fun k hk ho => by
    by_cases hm : k ∈ S
    · exact hS k hm
    · obtain ⟨hb, c, t, h1, h2⟩ := ho
      exact ⟨hb, c, t, by rw [← hf.block k hk hm]; exact h1, h2⟩⟩
theorem RsIn.ref [Inhabited Bs] {w : World} {rp : Nat} {tv xv : Value} {ps : List (RTx × Value)} {R : RSh} (h : RsIn w rp tv xv ps R) : RefBlk w rp := ⟨h.base, _, _, h.blk, .inl rfl⟩
theorem Fr.of_own {w w' : World} {v : Value} {S : List Nat} (h : w.grownBy w' v.ownBlock) (hS : ∀ k, v.ownBlock = some k → k ∈ S) : Fr S w w' :=
  ⟨h.os, h.tape, h.output, h.size, fun k hk hn => h.block k hk fun e => hn (hS k e.symm)⟩
theorem own_slice {w : World} {base : Nat} {e : TypeId} {size n : Nat} {v : Value} {xs : List Value} (h : w.ownsRow base e size v n xs) : ∃ o c, v = .slice o n c := by
  rcases h.2 with ⟨rfl, rfl⟩ | ⟨g, cap, cur, rfl, _⟩
  · exact ⟨_, _, rfl⟩
  · exact ⟨_, _, rfl⟩
/-- a slice whose row is new -/
def NewV (w : World) (v : Value) : Prop := ∀ k, v.ownBlock = some k → w.heap.size ≤ k
theorem NewV.nil (w : World) : NewV w (.slice none 0 0) := fun k h => by cases h
theorem NewV.next {w : World} {v v' : Value} {z : Nat} (h : NewV w v) (hz : w.heap.size ≤ z) (ha : v'.ownBlock = v.ownBlock ∨ v'.ownBlock = some z) : NewV w v' := fun k hk => by
  rcases ha with e | e
  · exact h k (e ▸ hk)
  · rw [e] at hk; cases hk; exact hz
theorem Fr.new_grown {w w1 w2 : World} {v : Value} {S : List Nat} (hf : Fr S w w1) (hv : NewV w v) (hg : w1.grownBy w2 v.ownBlock) : Fr S w w2 :=
  ⟨hg.os.trans hf.os, hg.tape.trans hf.tape, hg.output.trans hf.output, Nat.le_trans hf.size hg.size, fun k hk hn => (hg.block k (Nat.lt_of_lt_of_le hk hf.size) (fun e => by have := hv k e.symm; omega)).trans (hf.block k hk hn)⟩
theorem ownsRow_set {w : World} {rp i n size base : Nat} {e e' : TypeId} {c : Array Value} {v u : Value} {xs : List Value} {fr : Nat × Nat} (h : w.ownsRow base e size v n xs) (hq : w.heap[rp]? = some (.cells c e' fr)) (hne : e ≠ e') : (w.setCell ⟨rp, i, none⟩ u).ownsRow base e size v n xs := by
  refine ownsRow_fr h (Fr.set1 (S := [rp]) (by simp) i u) fun g hg => ?_
  simp
  intro e2
  obtain ⟨c2, h2⟩ := own_cells h hg
  rw [e2, hq] at h2
  cases h2
  exact hne rfl
theorem RsIn.setTxns [Inhabited Bs] {w w2 : World} {rp : Nat} {tv xv v2 : Value} {ps ps' : List (RTx × Value)} {R : RSh} {xs : List RTx} (h : RsIn w rp tv xv ps R) (hf : Fr [] w w2) (ho : w2.ownsRow B0 126 5 v2 ps'.length (rtxsV ps'))
    (hl : ∀ p ∈ ps', w2.ownsRow B0 201 4 p.2 p.1.locks.length (locksV p.1.locks)) (ha : ps'.Pairwise fun p q => p.2.ownBlock = none ∨ p.2.ownBlock ≠ q.2.ownBlock) (hr : ps'.map (·.1) = xs) : RsIn (w2.setCell ⟨rp, 1, none⟩ v2) rp tv v2 ps' ⟨R.table, xs⟩ := by
  have h2 := h.fr hf
  refine { base := h.base, blk := ?_, tab := ownsRow_set h2.tab h2.blk (by decide), txs := ownsRow_set ho h2.blk (by decide), lks := fun p hp => ownsRow_set (hl p hp) h2.blk (by decide), apart := ha, rs := hr }
  have := blk_set h2.blk 1 v2
  simpa using this
theorem take_drop_sub {α : Type} (l : List α) (i : Nat) : (l.take i ++ l.drop (i + 1)).Sublist l := by
  have h : (l.drop (i + 1)).Sublist (l.drop i) := List.drop_sublist_drop_left l (by omega)
  have := List.Sublist.append (List.Sublist.refl (l.take i)) h
  rwa [List.take_append_drop] at this
theorem take_look {ps : List (RTx × Value)} {i j : Nat} {u : Value} (hu : (rtxsV (ps.take i))[j]? = some u) : (rtxsV ps)[j]? = some u := by
  have e : rtxsV ps = rtxsV (ps.take i) ++ rtxsV (ps.drop i) := by rw [← rtxsV_app, List.take_append_drop]
  rw [e, List.getElem?_append_left (List.getElem?_eq_some_iff.1 hu).1]
  exact hu
theorem drop_look {ps : List (RTx × Value)} {i j : Nat} {u : Value} (hi : i ≤ ps.length) (hu : (rtxsV (ps.drop i))[j]? = some u) : (rtxsV ps)[i * 5 + j]? = some u := by
  have e : rtxsV ps = rtxsV (ps.take i) ++ rtxsV (ps.drop i) := by rw [← rtxsV_app, List.take_append_drop]
  have hl : (rtxsV (ps.take i)).length = i * 5 := by rw [rtxsV_len, List.length_take, Nat.min_eq_left hi]
  rw [e, List.getElem?_append_right (by omega), hl, Nat.add_sub_cancel_left]
  exact hu
set_option maxRecDepth 100000 in
set_option maxHeartbeats 4000000 in
theorem rdrop_any [Inhabited Bs] (rp i : Nat) (tv xv : Value) (ps : List (RTx × Value)) (R : RSh) (w : World) (h : RsIn w rp tv xv ps R) (hi : i < ps.length) (hn : ps.length ≤ 1048576) :
    Calls Tryz.prog 148 #[.pointer (some ⟨rp, 0, none⟩), .int .i64 (i : Int)] w fun e w' => e = .returned (.tuple #[]) ∧ (∃ xv', RsIn w' rp tv xv' (ps.take i ++ ps.drop (i + 1)) ⟨R.table, R.txns.take i ++ R.txns.drop (i + 1)⟩) ∧ Fr [rp] w w' := by
  obtain ⟨i0, hin, hz0, hz1, hz2⟩ := info_parts Tryz.infoRTx
  have c1 := blk_cell h.blk 1
  have f1 := blk_free h.blk 1
  simp at c1 f1
  rcases h.txs.2 with ⟨e0, h0⟩ | ⟨g, cap, cur, e0, _, hg, hcap, hmax, _⟩
  · omega
  rw [e0] at c1
  have HI : Hid (RsIn w rp tv xv ps R) := h
  have hB0 := h.low
  have hrow := h.txs
  rw [e0] at hrow
  have hone := h.one
  obtain ⟨n, hnn⟩ : ∃ n, n = ps.length := ⟨_, rfl⟩
  rw [← hnn] at hn c1 hcap hi hrow
  have HN : Hid (ps.length = n) := hnn.symm
  have hrpl : rp < w.heap.size := (Array.getElem?_eq_some_iff.1 h.blk).1
  clear hnn h e0
  have j0 : (0 : Int) ≤ (i : Int) := by omega
  have j1 : (i : Int) ≤ (cap : Int) := by omega
  have j2 : (0 : Int) ≤ (i : Int) + 1 := by omega
  have j3 : (i : Int) + 1 ≤ (n : Int) := by omega
  go_enter Tryz.func148, Tryz.ntmps148
  go_wp2_with (at_builtin; first
    | (refine wpList_app rfl _ _ 69 rfl B0 126 i0 _ 5 56 Tryz.underlying69 hin hz0 hz1 hz2 rfl (by decide) (.slice none 0 0) 0 [] rfl (World.ownsRow_nil _ _ _ _) i (rtxsV (ps.take i)) (src_piece hrow 0 i cap _ (fun j u hu => by rw [Nat.zero_add]; exact take_look hu)) (by rw [rtxsV_len, List.length_take, HN.out]; congr 1; omega) (rtxs_one fun p hp => hone p (List.mem_of_mem_take hp)) (by unfold maxLen; omega) (by omega) hB0 ?_; intro l w1 ho1 hg1 ha1; have hB1 : B0 ≤ w1.heap.size := Nat.le_trans hB0 hg1.size; have d1 := hg1.cell c1 (by simp [Value.ownBlock]))
    | (refine wpList_app rfl _ _ 69 rfl B0 126 i0 _ 5 56 Tryz.underlying69 hin hz0 hz1 hz2 rfl (by decide) l _ _ rfl ho1 (n - (i + 1)) (rtxsV (ps.drop (i + 1))) ?_ ?_ ?_ ?_ ?_ ?_ ?_))
  all_goals first
    | exact src_piece (ownsRow_fr hrow (Fr.of_own (S := []) hg1 (by simp [Value.ownBlock])) (by simp)) ((i + 1) * 5) _ _ _ (fun j u hu => drop_look (by rw [HN.out]; omega) hu)
    | exact src_zero _ _ _ (by omega) (by rw [List.drop_eq_nil_of_le (by rw [HN.out]; omega)]; rfl)
    | exact rtxs_one fun p hp => hone p (List.mem_of_mem_drop hp)
    | (rw [rtxsV_len, List.length_drop, HN.out]; done)
    | (unfold maxLen; omega; done)
    | (omega; done)
    | skip
  all_goals
    intro v2 w2 ho2 hg2 ha2
    obtain ⟨o2, c2, rfl⟩ := own_slice ho2
    have hne : some rp ≠ l.ownBlock := by rcases ha1 with e | e <;> rw [e] <;> simp [Value.ownBlock]; omega
    have d2 := hg2.cell d1 hne
    have hb2 : w2.heap[rp]? = some (rshO tv xv) := (hg2.block rp (Nat.lt_of_lt_of_le hrpl hg1.size) hne).trans ((hg1.block rp hrpl (by simp [Value.ownBlock])).trans HI.out.blk)
    have f2 := blk_free hb2 1
    have hf2 : Fr [] w w2 := Fr.new_grown (Fr.of_own (S := []) hg1 (by simp [Value.ownBlock])) (NewV.next (NewV.nil w) (Nat.le_refl _) ha1) hg2
    have H2 := toHid (show Fr [] w w2 ∧ w2.heap[rp]? = some (rshO tv xv) ∧ w2.ownsRow B0 126 5 (.slice o2 (i + (n - (i + 1))) c2) (i + (n - (i + 1))) (rtxsV (ps.take i) ++ rtxsV (ps.drop (i + 1))) from ⟨hf2, hb2, ho2⟩)
    clear hf2 hb2 ho2 hg2 ha2 hg1 ha1 ho1 d1 c1 f1 hrow hg
    go_wp2
    go_end0
    have hl2 : i + (n - (i + 1)) = (ps.take i ++ ps.drop (i + 1)).length := by rw [List.length_append, List.length_take, List.length_drop, HN.out]; omega
    refine ⟨rfl, ⟨_, HI.out.setTxns H2.out.1 (by rw [rtxsV_app, ← hl2]; exact H2.out.2.2) (fun p hp => ownsRow_fr (HI.out.lks p ?_) H2.out.1 (by simp)) ?_ ?_⟩, (H2.out.1.mono (by simp)).trans (Fr.set1 (by simp) _ _)⟩
    · rcases List.mem_append.1 hp with hp | hp
      · exact List.mem_of_mem_take hp
      · exact List.mem_of_mem_drop hp
    · exact HI.out.apart.sublist (take_drop_sub ps i)
    · rw [List.map_append, List.map_take, List.map_drop, HI.out.rs]
end Go.Proofs.YtejiankgafjppaaGreatDoor
/- THE DOCUMENT'S SHARD: begin. -/
namespace Go.Proofs.YtejiankgafjppaaGreatDoor
open Go.RowKit Go.Maps
open Sc

theorem while_take {α : Type} {p : α → Bool} : ∀ {xs : List α} {k : Nat}, (∀ (j : Nat) (x : α), j < k → xs[j]? = some x → p x = true) → k ≤ xs.length → (∀ x, xs[k]? = some x → p x = false) → xs.takeWhile p = xs.take k ∧ xs.dropWhile p = xs.drop k
  | [], k, _, _, _ => by simp
  | y :: ys, 0, _, _, h3 => by
    have := h3 y rfl
    simp [this]
  | y :: ys, k + 1, h1, h2, h3 => by
    have hy := h1 0 y (by omega) rfl
    obtain ⟨a, b⟩ := while_take (xs := ys) (k := k) (fun j x hj hx => h1 (j + 1) x (by omega) (by simpa using hx)) (by simp at h2; omega) (fun x hx => h3 x (by simpa using hx))
    simp [hy, a, b]
abbrev newTx (t : Nat) : RTx := ⟨t, 1, 0, 0, []⟩
abbrev newP (t : Nat) : RTx × Value := (newTx t, .slice none 0 0)
/-- what begin leaves -/
structure Began [Inhabited Bs] (w w' : World) (rp t k : Nat) (tv : Value) (ps : List (RTx × Value)) (R : RSh) : Prop where
  rs : ∃ xv', RsIn w' rp tv xv' (ps.take k ++ newP t :: ps.drop k) ⟨R.table, ins R.txns (newTx t)⟩
  fr : Fr [rp] w w'
  at_ : (ins R.txns (newTx t))[k]? = some (newTx t)
theorem began_rs [Inhabited Bs] {w w2 : World} {rp t k : Nat} {tv xv v2 : Value} {ps : List (RTx × Value)} {R : RSh} (h : RsIn w rp tv xv ps R) (hf : Fr [] w w2) (hk : k ≤ ps.length) (hpre : ∀ (j : Nat) (p : RTx × Value), j < k → ps[j]? = some p → p.1.id < t) (hpost : ∀ p, ps[k]? = some p → ¬ p.1.id < t) (ho : w2.ownsRow B0 126 5 v2 (k + 1 + (ps.length - k)) (rtxsV (ps.take k) ++ rtxC (newP t) ++ rtxsV (ps.drop k))) :
    Began w (w2.setCell ⟨rp, 1, none⟩ v2) rp t k tv ps R := by
  have hw := while_take (p := fun y : RTx => decide (y.id < (newTx t).id)) (xs := R.txns) (k := k) (fun j x hj hx => by
    obtain ⟨v, hp⟩ := h.at hx
    simpa using hpre j _ hj hp) (by rw [← h.len]; exact hk) (fun x hx => by
    obtain ⟨v, hp⟩ := h.at hx
    simpa using hpost _ hp)
  have e : (ps.take k ++ newP t :: ps.drop k).map (·.1) = ins R.txns (newTx t) := by
    unfold ins
    rw [hw.1, hw.2, List.map_append, List.map_cons, List.map_take, List.map_drop, h.rs]
  have hl2 : (ps.take k ++ newP t :: ps.drop k).length = k + 1 + (ps.length - k) := by rw [List.length_append, List.length_take, List.length_cons, List.length_drop]; omega
  have hmem : ∀ p ∈ ps.take k ++ newP t :: ps.drop k, p = newP t ∨ p ∈ ps := fun p hp => by
    rcases List.mem_append.1 hp with hp | hp
    · exact .inr (List.mem_of_mem_take hp)
    · rcases List.mem_cons.1 hp with rfl | hp
      · exact .inl rfl
      · exact .inr (List.mem_of_mem_drop hp)
  refine ⟨⟨v2, h.setTxns hf ?_ (fun p hp => ?_) ?_ e⟩, (hf.mono (by simp)).trans (Fr.set1 (by simp) _ _), ?_⟩
  · rw [hl2, rtxsV_app]
    show w2.ownsRow _ _ _ _ _ (rtxsV (ps.take k) ++ (rtxC (newP t) ++ rtxsV (ps.drop k)))
    rw [← List.append_assoc]
    exact ho
  · rcases hmem p hp with rfl | hp
    · exact World.ownsRow_nil _ _ _ _
    · exact ownsRow_fr (h.lks p hp) hf (by simp)
  · have ha := h.apart
    rw [← List.take_append_drop k ps] at ha
    obtain ⟨a1, a2, a3⟩ := List.pairwise_append.1 ha
    refine List.pairwise_append.2 ⟨a1, List.pairwise_cons.2 ⟨fun q _ => .inl rfl, a2⟩, fun p hp q hq => ?_⟩
    rcases List.mem_cons.1 hq with rfl | hq
    · cases hb : p.2.ownBlock with
      | none => exact .inl rfl
      | some g => exact .inr (by simp [Value.ownBlock])
    · exact a3 p hp q hq
  · rw [← e, List.getElem?_map, List.getElem?_append_right (by rw [List.length_take]; omega), List.length_take, Nat.min_eq_left hk, Nat.sub_self]
    rfl
set_option maxRecDepth 100000 in
set_option maxHeartbeats 8000000 in
theorem rbegin_any [Inhabited Bs] (rp t : Nat) (tv xv : Value) (ps : List (RTx × Value)) (R : RSh) (w : World) (h : RsIn w rp tv xv ps R) (hn : ps.length ≤ 1048576) :
    Calls Tryz.prog 264 #[.pointer (some ⟨rp, 0, none⟩), .int .u64 (t : Int)] w fun e w' => ∃ k : Nat, k ≤ ps.length ∧ e = .returned (.int .i64 (k : Int)) ∧ Began w w' rp t k tv ps R := by
  obtain ⟨i0, hin, hz0, hz1, hz2⟩ := info_parts Tryz.infoRTx
  have c1 := blk_cell h.blk 1
  have f1 := blk_free h.blk 1
  simp at c1
  have HI : Hid (RsIn w rp tv xv ps R) := h
  have hrow := h.txs
  have hone := h.one
  have hrpl : rp < w.heap.size := (Array.getElem?_eq_some_iff.1 h.blk).1
  obtain ⟨ao, c, e0, H⟩ := h.slice
  have G : Hid (∀ i p, ps[i]? = some p → ∃ g, ao = some ⟨g, 0, none⟩ ∧ w.cell? ⟨g, i * 5, none⟩ = some (.int .u64 (p.1.id : Int))) := fun i p hp => by obtain ⟨g, e, a, _⟩ := H i p hp; exact ⟨g, e, a⟩
  have hca : Hid ((ao = none ∧ ps.length = 0 ∧ c = 0) ∨ ∃ g, ao = some ⟨g, 0, none⟩ ∧ ps.length ≤ c) := by
    rcases h.txs.2 with ⟨e1, h0⟩ | ⟨g, cap, cur, e1, _, hg, hcap, hmax, _⟩
    · rw [e1] at e0; simp only [Value.slice.injEq] at e0; exact .inl ⟨e0.1.symm, h0, e0.2.2.symm⟩
    · rw [e1] at e0; simp only [Value.slice.injEq] at e0; exact .inr ⟨g, e0.1.symm, by rw [← e0.2.2]; exact hcap⟩
  rw [e0] at c1 hrow
  obtain ⟨n, hnn⟩ : ∃ n, n = ps.length := ⟨_, rfl⟩
  rw [← hnn] at hn c1 hrow hca ⊢
  have HN : Hid (ps.length = n) := hnn.symm
  clear hnn h H e0
  go_enter Tryz.func264, Tryz.ntmps264
  go_wp2
  go_loopw [5] (fun i wr => ∃ k : Nat, k ≤ n ∧ i = .int .i64 k ∧ Hid (∀ (j : Nat) (p : RTx × Value), j < k → ps[j]? = some p → p.1.id < t) ∧ ∃ q, wr = w.drewN q) (fun i _ => n - (intOf i).toNat)
  case atStart => exact ⟨0, Nat.zero_le _, rfl, fun j p hj => by omega, 0, rfl⟩
  case round =>
    obtain ⟨k, hk, rfl, hpre, q, rfl⟩ := hrel
    by_cases hgo : ∃ p, ps[k]? = some p ∧ p.1.id < t
    · obtain ⟨p, hp, hid⟩ := hgo
      have hlt : k < n := by rw [← HN.out]; exact (List.getElem?_eq_some_iff.1 hp).1
      obtain ⟨g, rfl, x0⟩ := G.out k p hp
      have i0 : (0 : Int) ≤ (k : Int) := by omega
      have i1 : (k : Int) < (n : Int) := by omega
      have i2 : (p.1.id : Int) < (t : Int) := by omega
      have HP : Hid (ps[k]? = some p) := hp
      clear hp
      go_wp2
      go_roundw
      case rel => exact ⟨k + 1, by omega, by go_num, fun j p' hj hp' => by
        by_cases e : j = k
        · subst e; rw [HP.out] at hp'; cases hp'; exact hid
        · exact hpre.out j p' (by omega) hp', _, rfl⟩
      case measure => simp [intOf]; omega
    · have hpost : Hid (∀ p, ps[k]? = some p → ¬ p.1.id < t) := fun p hp hid => hgo ⟨p, hp, hid⟩
      clear hgo
      obtain ⟨W, hW⟩ : ∃ W, W = w.drewN q := ⟨_, rfl⟩
      have hfW : Fr [] w W := by rw [hW]; exact (Fr.refl [] w).drewM q
      have c1W : W.cell? ⟨rp, 1, none⟩ = some (.slice ao n c) := by rw [hW]; simpa using c1
      have hsz : rp < W.heap.size := Nat.lt_of_lt_of_le hrpl hfW.size
      have HW : Hid (RsIn W rp tv xv ps R ∧ Fr [] w W ∧ ∀ w', Began W w' rp t k tv ps R → Began w w' rp t k tv ps R) := ⟨HI.out.fr hfW, hfW, fun w' hB => ⟨hB.rs, (hfW.mono (by simp)).trans hB.fr, hB.at_⟩⟩
      have hBW : B0 ≤ W.heap.size := HW.out.1.low
      have GW : ∀ p, ps[k]? = some p → ∃ g, ao = some ⟨g, 0, none⟩ ∧ W.cell? ⟨g, k * 5, none⟩ = some (.int .u64 (p.1.id : Int)) := fun p hp => by obtain ⟨g, e, a⟩ := G.out k p hp; exact ⟨g, e, by rw [hW]; simpa using a⟩
      have hrW := ownsRow_fr hrow hfW (by simp)
      rw [← hW]
      clear hW hfW c1 f1 hrpl hrow G HI
      rcases hca.out with ⟨rfl, h0, rfl⟩ | ⟨g, rfl, hcap⟩
      · have hk0 : k = 0 := by omega
        subst hk0
        subst h0
        have hps : Hid (ps = []) := List.eq_nil_of_length_eq_zero HN.out
        clear GW hca
        go_wp2_with (at_builtin; first
          | (refine wpList_app rfl _ _ 69 rfl B0 126 i0 _ 5 56 Tryz.underlying69 hin hz0 hz1 hz2 rfl (by decide) (.slice none 0 0) 0 [] rfl (World.ownsRow_nil _ _ _ _) 1 (rtxC (newP t)) (.inl ⟨⟨W.heap.size, 0, none⟩, 1, rfl, cells_new _ (rtxC (newP t)).toArray _⟩) rfl (by intro u hu; simp at hu; rcases hu with rfl | rfl | rfl | rfl | rfl <;> rfl) (by unfold maxLen; omega) (by omega) (Nat.le_trans hBW (by simp)) ?_; intro l w1 ho1 hg1 ha1; have d1 := hg1.cell ((World.cell?_of_block (a := ⟨rp, 1, none⟩) (Below.heap_alloc W _ rp hsz)).trans c1W) (by simp [Value.ownBlock]); have hf1 : Fr [] W w1 := Fr.new_grown ((Fr.refl [] W).alloc _) (NewV.nil W) hg1; clear c1W hg1)
          | (refine wpList_app rfl _ _ 69 rfl B0 126 i0 _ 5 56 Tryz.underlying69 hin hz0 hz1 hz2 rfl (by decide) l _ _ rfl ho1 0 [] (.inr ⟨rfl, rfl, rfl⟩) rfl (by simp) (by unfold maxLen; omega) (by omega) (Nat.le_trans hBW hf1.size) ?_; intro v2 w2 ho2 hg2 ha2; obtain ⟨o2, c2, rfl⟩ := own_slice ho2; have hf2 : Fr [] W w2 := Fr.new_grown hf1 (NewV.next (NewV.nil W) (by simp) ha1) hg2; have hb2 : w2.heap[rp]? = some (rshO tv xv) := (hf2.block rp hsz (by simp)).trans HW.out.1.blk; have d2 := blk_cell hb2 1; have f2 := blk_free hb2 1; have H2 := toHid (show Fr [] W w2 ∧ w2.ownsRow B0 126 5 (.slice o2 (0 + 1 + 0) c2) (0 + 1 + 0) ([] ++ rtxC (newP t) ++ []) from ⟨hf2, ho2⟩); clear hf2 hb2 ho2 hg2 ha2 ha1 ho1 d1 hrW))
        go_ret
        refine ⟨0, Nat.le_refl _, rfl, HW.out.2.2 _ (began_rs HW.out.1 H2.out.1 (Nat.zero_le _) hpre.out hpost.out ?_)⟩
        rw [hps.out]
        exact H2.out.2
      · clear hca
        have j0 : (0 : Int) ≤ (k : Int) := by omega
        have j1 : (k : Int) ≤ (c : Int) := by omega
        have j2 : (k : Int) ≤ (n : Int) := by omega
        have hgoes : k = n ∨ ∃ d : Nat, k < n ∧ W.cell? ⟨g, k * 5, none⟩ = some (.int .u64 (d : Int)) ∧ ¬ (d : Int) < (t : Int) := by
          by_cases e : k = n
          · exact .inl e
          · obtain ⟨p, hp⟩ : ∃ p, ps[k]? = some p := ⟨_, List.getElem?_eq_getElem (by rw [HN.out]; omega)⟩
            obtain ⟨g2, e2, a⟩ := GW p hp
            cases e2
            exact .inr ⟨p.1.id, by omega, a, by have := hpost.out p hp; omega⟩
        clear GW
        have hlk : (ps.take k).length = k := by rw [List.length_take, HN.out]; omega
        have hn5 : (rtxsV (ps.take k)).length = k * 5 := by rw [rtxsV_len, hlk]
        have ht1 : Hid (∀ j u, (rtxsV (ps.take k))[j]? = some u → (rtxsV ps)[0 + j]? = some u) := fun j u hu => by rw [Nat.zero_add]; exact take_look hu
        have ho5 : Hid (∀ u ∈ rtxsV (ps.take k), u.oneCell' = true) := rtxs_one fun p hp => hone p (List.mem_of_mem_take hp)
        clear hlk
        rcases hgoes with rfl | ⟨d, hlt, x0, x1⟩
        · have j3 : ¬ (k : Int) < (k : Int) := by omega
          go_wp2_with (at_builtin; first
            | (refine wpList_app rfl _ _ 69 rfl B0 126 i0 _ 5 56 Tryz.underlying69 hin hz0 hz1 hz2 rfl (by decide) (.slice none 0 0) 0 [] rfl (World.ownsRow_nil _ _ _ _) k (rtxsV (ps.take k)) (src_piece hrW 0 k c _ ht1.out) hn5 ho5.out (by unfold maxLen; omega) (by omega) hBW ?_; intro l w1 ho1 hg1 ha1; have hf1 : Fr [] W w1 := Fr.new_grown (Fr.refl [] W) (NewV.nil W) hg1; have d1 := hg1.cell c1W (by simp [Value.ownBlock]); have hv1 : NewV W l := NewV.next (NewV.nil W) (Nat.le_refl _) ha1; have hs1 : rp < w1.heap.size := Nat.lt_of_lt_of_le hsz hf1.size; clear hg1 ha1 c1W)
            | (refine wpList_app rfl _ _ 69 rfl B0 126 i0 _ 5 56 Tryz.underlying69 hin hz0 hz1 hz2 rfl (by decide) l _ _ rfl (ho1.alloc _) 1 (rtxC (newP t)) (.inl ⟨⟨w1.heap.size, 0, none⟩, 1, rfl, cells_new _ (rtxC (newP t)).toArray _⟩) rfl (by intro u hu; simp at hu; rcases hu with rfl | rfl | rfl | rfl | rfl <;> rfl) (by unfold maxLen; omega) (by omega) (Nat.le_trans (Nat.le_trans hBW hf1.size) (by simp)) ?_; intro l2 w2 ho2 hg2 ha2; have hf2 : Fr [] W w2 := Fr.new_grown (hf1.alloc _) hv1 hg2; have hB2 : B0 ≤ w2.heap.size := Nat.le_trans hBW hf2.size; have hv2 : NewV W l2 := NewV.next hv1 (by have := hf1.size; simp; omega) ha2; have d2 := hg2.cell ((World.cell?_of_block (a := ⟨rp, 1, none⟩) (Below.heap_alloc w1 _ rp hs1)).trans d1) (fun e => by have := hv1 rp e.symm; omega); have hr2 := ownsRow_fr hrW hf2 (by simp); clear hg2 ha2 d1 ho1 hf1 hv1 hs1 hrW)
            | (refine wpList_app rfl _ _ 69 rfl B0 126 i0 _ 5 56 Tryz.underlying69 hin hz0 hz1 hz2 rfl (by decide) l2 _ _ rfl ho2 (k - k) (rtxsV (ps.drop k)) ?_ ?_ ?_ ?_ ?_ ?_ ?_))
          all_goals first
            | exact src_piece hr2 (k * 5) _ _ _ (fun j u hu => drop_look (by rw [HN.out]; omega) hu)
            | exact src_zero _ _ _ (by omega) (by rw [List.drop_eq_nil_of_le (by rw [HN.out]; omega)]; rfl)
            | exact rtxs_one fun p hp => hone p (List.mem_of_mem_drop hp)
            | (rw [rtxsV_len, List.length_drop, HN.out]; done)
            | (rw [List.drop_eq_nil_of_le (by rw [HN.out]; omega)]; rfl)
            | (unfold maxLen; omega; done)
            | (omega; done)
            | skip
          all_goals
            intro v3 w3 ho3 hg3 ha3
            obtain ⟨o3, c3, rfl⟩ := own_slice ho3
            have hf3 : Fr [] W w3 := Fr.new_grown hf2 hv2 hg3
            have hb3 : w3.heap[rp]? = some (rshO tv xv) := (hf3.block rp hsz (by simp)).trans HW.out.1.blk
            have d3 := blk_cell hb3 1
            have f3 := blk_free hb3 1
            have e3 : ∀ m, m = k + 1 + (k - k) → (w3.ownsRow B0 126 5 (.slice o3 m c3) m (rtxsV (ps.take k) ++ rtxC (newP t) ++ rtxsV (ps.drop k))) → Began W (w3.setCell ⟨rp, 1, none⟩ (.slice o3 m c3)) rp t k tv ps R := fun m hm ho => began_rs HW.out.1 hf3 (by rw [HN.out]; exact hk) hpre.out hpost.out (by rw [HN.out, ← hm]; exact ho)
            have H3 := toHid (e3 (k + 1) (by omega) (by simpa using ho3))
            clear e3 hf3 hb3 ho3 hg3 ha3 hr2 ho2 hf2 hv2 d2
            go_wp2
            go_ret
            exact ⟨k, hk, rfl, HW.out.2.2 _ H3.out⟩
        · have j3 : (k : Int) < (n : Int) := by omega
          go_wp2_with (at_builtin; first
            | (refine wpList_app rfl _ _ 69 rfl B0 126 i0 _ 5 56 Tryz.underlying69 hin hz0 hz1 hz2 rfl (by decide) (.slice none 0 0) 0 [] rfl (World.ownsRow_nil _ _ _ _) k (rtxsV (ps.take k)) (src_piece hrW 0 k c _ ht1.out) hn5 ho5.out (by unfold maxLen; omega) (by omega) hBW ?_; intro l w1 ho1 hg1 ha1; have hf1 : Fr [] W w1 := Fr.new_grown (Fr.refl [] W) (NewV.nil W) hg1; have d1 := hg1.cell c1W (by simp [Value.ownBlock]); have hv1 : NewV W l := NewV.next (NewV.nil W) (Nat.le_refl _) ha1; have hs1 : rp < w1.heap.size := Nat.lt_of_lt_of_le hsz hf1.size; clear hg1 ha1 c1W)
            | (refine wpList_app rfl _ _ 69 rfl B0 126 i0 _ 5 56 Tryz.underlying69 hin hz0 hz1 hz2 rfl (by decide) l _ _ rfl (ho1.alloc _) 1 (rtxC (newP t)) (.inl ⟨⟨w1.heap.size, 0, none⟩, 1, rfl, cells_new _ (rtxC (newP t)).toArray _⟩) rfl (by intro u hu; simp at hu; rcases hu with rfl | rfl | rfl | rfl | rfl <;> rfl) (by unfold maxLen; omega) (by omega) (Nat.le_trans (Nat.le_trans hBW hf1.size) (by simp)) ?_; intro l2 w2 ho2 hg2 ha2; have hf2 : Fr [] W w2 := Fr.new_grown (hf1.alloc _) hv1 hg2; have hB2 : B0 ≤ w2.heap.size := Nat.le_trans hBW hf2.size; have hv2 : NewV W l2 := NewV.next hv1 (by have := hf1.size; simp; omega) ha2; have d2 := hg2.cell ((World.cell?_of_block (a := ⟨rp, 1, none⟩) (Below.heap_alloc w1 _ rp hs1)).trans d1) (fun e => by have := hv1 rp e.symm; omega); have hr2 := ownsRow_fr hrW hf2 (by simp); clear hg2 ha2 d1 ho1 hf1 hv1 hs1 hrW)
            | (refine wpList_app rfl _ _ 69 rfl B0 126 i0 _ 5 56 Tryz.underlying69 hin hz0 hz1 hz2 rfl (by decide) l2 _ _ rfl ho2 (n - k) (rtxsV (ps.drop k)) ?_ ?_ ?_ ?_ ?_ ?_ ?_))
          all_goals first
            | exact src_piece hr2 (k * 5) _ _ _ (fun j u hu => drop_look (by rw [HN.out]; omega) hu)
            | exact src_zero _ _ _ (by omega) (by rw [List.drop_eq_nil_of_le (by rw [HN.out]; omega)]; rfl)
            | exact rtxs_one fun p hp => hone p (List.mem_of_mem_drop hp)
            | (rw [rtxsV_len, List.length_drop, HN.out]; done)
            | (rw [List.drop_eq_nil_of_le (by rw [HN.out]; omega)]; rfl)
            | (unfold maxLen; omega; done)
            | (omega; done)
            | skip
          all_goals
            intro v3 w3 ho3 hg3 ha3
            obtain ⟨o3, c3, rfl⟩ := own_slice ho3
            have hf3 : Fr [] W w3 := Fr.new_grown hf2 hv2 hg3
            have hb3 : w3.heap[rp]? = some (rshO tv xv) := (hf3.block rp hsz (by simp)).trans HW.out.1.blk
            have d3 := blk_cell hb3 1
            have f3 := blk_free hb3 1
            have e3 : ∀ m, m = k + 1 + (n - k) → (w3.ownsRow B0 126 5 (.slice o3 m c3) m (rtxsV (ps.take k) ++ rtxC (newP t) ++ rtxsV (ps.drop k))) → Began W (w3.setCell ⟨rp, 1, none⟩ (.slice o3 m c3)) rp t k tv ps R := fun m hm ho => began_rs HW.out.1 hf3 (by rw [HN.out]; exact hk) hpre.out hpost.out (by rw [HN.out, ← hm]; exact ho)
            have H3 := toHid (e3 (k + 1 + (n - k)) rfl (by simpa using ho3))
            clear e3 hf3 hb3 ho3 hg3 ha3 hr2 ho2 hf2 hv2 d2
            go_wp2
            go_ret
            exact ⟨k, hk, rfl, HW.out.2.2 _ H3.out⟩
end Go.Proofs.YtejiankgafjppaaGreatDoor
