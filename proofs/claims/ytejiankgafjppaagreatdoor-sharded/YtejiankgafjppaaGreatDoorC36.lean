import Derived.Test.YtejiankgafjppaaGreatDoorC35
/- THE DOCUMENT'S SHARD: a field of a transaction is set; Abort, Prepare. -/
namespace Go.Proofs.YtejiankgafjppaaGreatDoor
open Go.RowKit Go.Maps
open Sc

theorem ownsRow_put {w : World} {base : Nat} {e : TypeId} {size n g c j : Nat} {xs : List Value} {u : Value} (h : w.ownsRow base e size (.slice (some ⟨g, 0, none⟩) n c) n xs) : (w.setCell ⟨g, j, none⟩ u).ownsRow base e size (.slice (some ⟨g, 0, none⟩) n c) n (xs.set j u) := by
  rcases h.2 with ⟨h', _⟩ | ⟨g', cap', cur, h', hb, hg, h1, h2, h3, htake⟩
  · simp at h'
  · simp only [Value.slice.injEq, Option.some.injEq, Addr.mk.injEq, and_true, true_and] at h'
    obtain ⟨rfl, rfl⟩ := h'
    refine ⟨by rw [List.length_set]; exact h.1, .inr ⟨g, c, cur.setIfInBounds j u, rfl, hb, ?_, h1, h2, by simpa using h3, ?_⟩⟩
    · have := blk_set hg j u
      exact this
    · rw [← htake]
      simp only [Array.toList_setIfInBounds]
      rw [List.take_set]
theorem flat_set {α : Type} {f : α → List Value} {k : Nat} (hk : ∀ x, (f x).length = k) : ∀ (l : List α) (i j : Nat) (x y : α) (u : Value), l[i]? = some x → j < k → f y = (f x).set j u → (l.set i y).flatMap f = (l.flatMap f).set (i * k + j) u
  | [], i, j, x, y, u, h, _, _ => by simp at h
  | z :: l, 0, j, x, y, u, h, hj, hf => by
    simp at h
    subst h
    rw [List.set_cons_zero, List.flatMap_cons, List.flatMap_cons, Nat.zero_mul, Nat.zero_add, List.set_append_left _ _ (by rw [hk]; exact hj), hf]
  | z :: l, i + 1, j, x, y, u, h, hj, hf => by
    simp at h
    have e : (i + 1) * k + j = (f z).length + (i * k + j) := by rw [hk, Nat.add_mul, Nat.one_mul]; omega
    rw [List.set_cons_succ, List.flatMap_cons, List.flatMap_cons, e, List.set_append_right _ _ (by omega), Nat.add_sub_cancel_left, flat_set hk l i j x y u h hj hf]
section
variable {w : World} {rp : Nat} {tv xv : Value} {ps : List (RTx × Value)} {R : RSh}
/-- a field of a transaction is set -/
theorem RsIn.setF [Inhabited Bs] (h : RsIn w rp tv xv ps R) {i j g c : Nat} {x x' : RTx} {v u : Value} (hx : xv = .slice (some ⟨g, 0, none⟩) ps.length c) (hp : ps[i]? = some (x, v)) (hj : j < 5) (hf : rtxC (x', v) = (rtxC (x, v)).set j u) (hl : x'.locks = x.locks) :
    RsIn (w.setCell ⟨g, i * 5 + j, none⟩ u) rp tv xv (ps.set i (x', v)) ⟨R.table, R.txns.set i x'⟩ ∧ RefBlk w g := by
  have hi : i < ps.length := (List.getElem?_eq_some_iff.1 hp).1
  have htx := h.txs
  rw [hx] at htx
  obtain ⟨cur, hg⟩ := own_cells htx (g := g) rfl
  refine ⟨{ base := h.base, blk := ?_, tab := ownsRow_set h.tab hg (by decide), txs := ?_, lks := fun p hm => ?_, apart := ?_, rs := ?_ }, (htx.lt g rfl).1, _, _, hg, .inr (.inl rfl)⟩
  · refine (Below.heap_setCell _ _ _ rp ?_).trans h.blk
    intro e
    simp only [] at e
    have := h.blk
    rw [e, hg] at this
    cases this
  · rw [List.length_set, hx]
    have := ownsRow_put (j := i * 5 + j) (u := u) htx
    have e := flat_set (f := rtxC) (k := 5) (fun _ => rfl) ps i j (x, v) (x', v) u hp hj hf
    unfold rtxsV at this ⊢
    rw [e]
    exact this
  · rcases List.mem_or_eq_of_mem_set hm with hm | rfl
    · exact ownsRow_set (h.lks p hm) hg (by decide)
    · have := ownsRow_set (u := u) (i := i * 5 + j) (h.lks (x, v) (List.mem_of_getElem? hp)) hg (by decide)
      simp only [hl]
      exact this
  · have h2 : (ps.map (·.2)).Pairwise fun a b => a.ownBlock = none ∨ a.ownBlock ≠ b.ownBlock := by rw [List.pairwise_map]; exact h.apart
    have e : (ps.set i (x', v)).map (·.2) = ps.map (·.2) := by
      rw [List.map_set]
      apply List.ext_getElem?
      intro m
      rw [List.getElem?_set]
      split
      · rename_i em
        subst em
        rw [if_pos (by simpa using hi), List.getElem?_map, hp]
        rfl
      · rfl
    rw [← e, List.pairwise_map] at h2
    exact h2
  · rw [List.map_set, h.rs]
end
/-- how it lies, whatever its blocks -/
def RS [Inhabited Bs] (w : World) (rp : Nat) (R : RSh) : Prop := ∃ tv xv ps, RsIn w rp tv xv ps R
theorem RS.fr [Inhabited Bs] {w w' : World} {rp : Nat} {R : RSh} (h : RS w rp R) (hf : Fr [] w w') : RS w' rp R := by
  obtain ⟨tv, xv, ps, h⟩ := h
  exact ⟨tv, xv, ps, h.fr hf⟩
def RSh.abort (R : RSh) (t : Nat) : RSh × Nat := if t = 0 then (R, 7) else (⟨R.table, del R.txns t⟩, 0)
set_option maxRecDepth 100000 in
set_option maxHeartbeats 4000000 in
theorem rabort_any [Inhabited Bs] (rp t : Nat) (R : RSh) (w : World) (h : RS w rp R) (hn : R.txns.length ≤ 1048576) (ha : Asc R.txns) :
    Calls Tryz.prog 86 #[.pointer (some ⟨rp, 0, none⟩), .int .u64 (t : Int)] w fun e w' => e = .returned (.int .i64 ((R.abort t).2 : Int)) ∧ RS w' rp (R.abort t).1 ∧ RBr w w' := by
  obtain ⟨tv, xv, ps, h⟩ := h
  have hfi := rfind_any rp t tv xv ps R w h (by rw [h.len]; omega)
  have hdr := fun i (hi : i < ps.length) (W : World) (hW : RsIn W rp tv xv ps R) => rdrop_any rp i tv xv ps R W hW hi (by rw [h.len]; exact hn)
  have HI : Hid (RsIn w rp tv xv ps R ∧ Asc R.txns) := ⟨h, ha⟩
  clear h ha
  go_enter Tryz.func86, Tryz.ntmps86
  go_wp2_with fail
  refine hfi.mono ?_
  rintro e w1 ⟨rfl, q, rfl⟩
  clear hfi
  have hfw : Hid (Fr [] w (w.drewN q)) := (Fr.refl [] w).drewM q
  by_cases h0 : t = 0
  · have e1 : R.abort t = (R, 7) := if_pos h0
    subst h0
    go_wp2
    go_ret
    rw [e1]
    exact ⟨rfl, ⟨_, _, _, HI.out.1.fr hfw.out⟩, RBr.of_fr hfw.out (by simp)⟩
  · have e1 : R.abort t = (⟨R.table, del R.txns t⟩, 0) := if_neg h0
    have z1 : ¬ ((t : Int) = 0) := by omega
    cases hx : txIx R.txns t with
    | none =>
      have e2 : ixI none = -1 := rfl
      rw [e2]
      go_wp2
      go_ret
      rw [e1, del_none (txIx_none hx)]
      exact ⟨rfl, ⟨_, _, _, HI.out.1.fr hfw.out⟩, RBr.of_fr hfw.out (by simp)⟩
    | some i =>
      obtain ⟨x, hi, hid, hat⟩ := txIx_some hx
      have e2 : ixI (some i) = (i : Int) := rfl
      have hil : i < ps.length := by rw [HI.out.1.len]; exact (List.getElem?_eq_some_iff.1 hi).1
      have z2 : (0 : Int) ≤ (i : Int) := by omega
      have hd := hdr i hil (w.drewN q) (HI.out.1.fr hfw.out)
      have HX : Hid (R.txns.take i ++ R.txns.drop (i + 1) = del R.txns t) := by have := HI.out.2.erase hi; rw [hid] at this; exact this
      rw [e2]
      clear hdr hx hi hat
      go_wp2_with fail
      refine hd.mono ?_
      rintro e w2 ⟨rfl, ⟨xv', hr⟩, hf⟩
      have HR : Hid (RS w2 rp ⟨R.table, del R.txns t⟩ ∧ RBr w w2) := ⟨by rw [← HX.out]; exact ⟨_, _, _, hr⟩, (RBr.of_fr hfw.out (by simp)).trans (RBr.of_fr hf fun k hk => by simp at hk; subst hk; exact (HI.out.1.fr hfw.out).ref)⟩
      clear hd hr hf
      go_wp2
      go_ret
      rw [e1]
      exact ⟨rfl, HR.out⟩
end Go.Proofs.YtejiankgafjppaaGreatDoor
/- THE DOCUMENT'S SHARD: Prepare. -/
namespace Go.Proofs.YtejiankgafjppaaGreatDoor
open Go.RowKit Go.Maps
open Sc

set_option maxRecDepth 100000 in
set_option maxHeartbeats 8000000 in
theorem rprepare_any [Inhabited Bs] (rp t : Nat) (R : RSh) (w : World) (h : RS w rp R) (hn : R.txns.length ≤ 1048576) (ha : Asc R.txns) (hl : ∀ x ∈ R.txns, x.locks.length ≤ 1048576) :
    Calls Tryz.prog 83 #[.pointer (some ⟨rp, 0, none⟩), .int .u64 (t : Int)] w fun e w' => e = .returned (.tuple #[.int .i64 ((R.prepare t).2.1 : Int), .int .i64 ((R.prepare t).2.2 : Int)]) ∧ RS w' rp (R.prepare t).1 ∧ RBr w w' := by
  obtain ⟨tv, xv, ps, h⟩ := h
  have hfi := rfind_any rp t tv xv ps R w h (by rw [h.len]; omega)
  have HI : Hid (RsIn w rp tv xv ps R ∧ Asc R.txns) := ⟨h, ha⟩
  have hdr : Hid (∀ i, i < ps.length → ∀ W, RsIn W rp tv xv ps R → _) := fun i (hi : i < ps.length) (W : World) (hW : RsIn W rp tv xv ps R) => rdrop_any rp i tv xv ps R W hW hi (by rw [h.len]; exact hn)
  have c1 := blk_cell h.blk 1
  simp at c1
  by_cases h0 : t = 0
  · have e1 : R.prepare t = (R, 0, 7) := if_pos h0
    subst h0
    clear hfi hdr h
    go_enter Tryz.func83, Tryz.ntmps83
    go_wp2
    go_ret2
    rw [e1]
    exact ⟨rfl, ⟨_, _, _, HI.out.1⟩, RBr.refl w⟩
  have z1 : ¬ ((t : Int) = 0) := by omega
  cases hx : txIx R.txns t with
  | none =>
    have e1 : R.prepare t = (R, 3, 0) := by unfold RSh.prepare; rw [if_neg h0, txIx_none hx]
    rw [hx] at hfi
    have e2 : ixI none = -1 := rfl
    rw [e2] at hfi
    clear hdr h hx
    go_enter Tryz.func83, Tryz.ntmps83
    go_wp2_with fail
    refine hfi.mono ?_
    rintro e w1 ⟨rfl, q, rfl⟩
    have hfw : Hid (Fr [] w (w.drewN q)) := (Fr.refl [] w).drewM q
    clear hfi
    go_wp2
    go_ret2
    rw [e1]
    exact ⟨rfl, ⟨_, _, _, HI.out.1.fr hfw.out⟩, RBr.of_fr hfw.out (by simp)⟩
  | some i =>
    obtain ⟨x, hi, hid, hat⟩ := txIx_some hx
    rw [hx] at hfi
    have e2 : ixI (some i) = (i : Int) := rfl
    rw [e2] at hfi
    obtain ⟨v, hp⟩ := h.at hi
    have hil : i < ps.length := (List.getElem?_eq_some_iff.1 hp).1
    obtain ⟨ao, c, e0, H⟩ := h.slice
    obtain ⟨g, e3, x0, x1, x2, x3, x4⟩ := H i _ hp
    simp only [] at x0 x1 x2 x3 x4
    have hlk := h.lks _ (List.mem_of_getElem? hp)
    simp only [] at hlk
    have hln := hl x (List.mem_of_getElem? hi)
    obtain ⟨la, lc, e4, HL⟩ := lock_slice hlk
    rw [e0, e3] at c1
    rw [e4] at x4
    have GL : Hid (∀ i l, x.locks[i]? = some l → ∃ g, la = some ⟨g, 0, none⟩ ∧ w.cell? ⟨g, i * 4 + 1, none⟩ = some (.bool l.wr)) := fun i l hi => by obtain ⟨g, e, _, a, _⟩ := HL i l hi; exact ⟨g, e, a⟩
    have HX : Hid (R.txns.take i ++ R.txns.drop (i + 1) = del R.txns t) := by have := ha.erase hi; rw [hid] at this; exact this
    have HU : Hid (R.txns.set i x.ready = upd R.txns x.ready) := ha.set hi rfl
    have HP : Hid (ps[i]? = some (x, v) ∧ xv = .slice (some ⟨g, 0, none⟩) ps.length c ∧ txAt R.txns t = some x) := ⟨hp, by rw [e0, e3], hat⟩
    obtain ⟨cur, hg⟩ := own_cells h.txs (g := g) (by rw [e0, e3]; rfl)
    have f1 := blk_free hg (i * 5 + 1)
    obtain ⟨n, hnn⟩ : ∃ n, n = ps.length := ⟨_, rfl⟩
    rw [← hnn] at c1 hil
    obtain ⟨nl, hnl⟩ : ∃ nl, nl = x.locks.length := ⟨_, rfl⟩
    have HNL : Hid (x.locks.length = nl) := hnl.symm
    rw [← hnl] at x4 hln
    have HN : Hid (ps.length = n) := hnn.symm
    have hx1 : x.st = 3 ∨ x.st = 2 ∨ (x.st ≠ 3 ∧ x.st ≠ 2) := by omega
    have i0 : (0 : Int) ≤ (i : Int) := by omega
    have i1 : (i : Int) < (n : Int) := by omega
    have i2 : ¬ (i : Int) < 0 := by omega
    clear h hx hi hp H HL e0 e3 e4 hnn hnl hlk hg hl ha hat
    rcases hx1 with h3 | h2 | ⟨h3, h2⟩
    · have e1 : R.prepare t = (R, 2, 0) := by unfold RSh.prepare; rw [if_neg h0, HP.out.2.2]; simp [h3]
      rw [h3] at x1
      go_enter Tryz.func83, Tryz.ntmps83
      go_wp2_with fail
      refine hfi.mono ?_
      rintro e w1 ⟨rfl, q, rfl⟩
      have hfw : Hid (Fr [] w (w.drewN q)) := (Fr.refl [] w).drewM q
      clear hfi
      go_wp2
      go_ret2
      rw [e1]
      exact ⟨rfl, ⟨_, _, _, HI.out.1.fr hfw.out⟩, RBr.of_fr hfw.out (by simp)⟩
    · have e1 : R.prepare t = (⟨R.table, del R.txns t⟩, 3, 0) := by unfold RSh.prepare; rw [if_neg h0, HP.out.2.2]; simp [h2]
      rw [h2] at x1
      go_enter Tryz.func83, Tryz.ntmps83
      go_wp2_with fail
      refine hfi.mono ?_
      rintro e w1 ⟨rfl, q, rfl⟩
      have hfw : Hid (Fr [] w (w.drewN q)) := (Fr.refl [] w).drewM q
      clear hfi
      have hd := hdr.out i (by rw [HN.out]; exact hil) (w.drewN q) (HI.out.1.fr hfw.out)
      go_wp2_with fail
      refine hd.mono ?_
      rintro e w2 ⟨rfl, ⟨xv', hr⟩, hf⟩
      have HR : Hid (RS w2 rp ⟨R.table, del R.txns t⟩ ∧ RBr w w2) := ⟨by rw [← HX.out]; exact ⟨_, _, _, hr⟩, (RBr.of_fr hfw.out (by simp)).trans (RBr.of_fr hf fun k hk => by simp at hk; subst hk; exact (HI.out.1.fr hfw.out).ref)⟩
      clear hd hr hf
      go_wp2
      go_ret2
      rw [e1]
      exact ⟨rfl, HR.out⟩
    · have b3 : ((x.st : Int) == 3) = false := by simp; omega
      have b2 : ((x.st : Int) == 2) = false := by simp; omega
      have z3 : ¬ ((x.st : Int) = 3) := by omega
      have z2 : ¬ ((x.st : Int) = 2) := by omega
      have HE : Hid (R.prepare t = if x.locks.any (·.wr) = true then (⟨R.table, upd R.txns x.ready⟩, 2, 0) else (⟨R.table, del R.txns t⟩, 4, 0)) := by
        show _ = _
        unfold RSh.prepare
        rw [if_neg h0, HP.out.2.2]
        simp only []
        rw [if_neg h3, if_neg h2]
      go_enter Tryz.func83, Tryz.ntmps83
      go_wp2_with fail
      refine hfi.mono ?_
      rintro e w1 ⟨rfl, q, rfl⟩
      clear hfi
      go_wp2
      go_loopw [7] (fun i wr => ∃ m : Nat, m ≤ nl ∧ i = .int .i64 m ∧ Hid (∀ j l, j < m → x.locks[j]? = some l → l.wr = false) ∧ ∃ q, wr = w.drewN q) (fun i _ => nl - (intOf i).toNat)
      case atStart => exact ⟨0, Nat.zero_le _, rfl, fun j p hj => by omega, q, rfl⟩
      case round =>
        obtain ⟨m, hm, rfl, hpre, q2, rfl⟩ := hrel
        have hfw : Hid (Fr [] w (w.drewN q2)) := (Fr.refl [] w).drewM q2
        by_cases hlt : m < nl
        · obtain ⟨l, hlm⟩ : ∃ l, x.locks[m]? = some l := ⟨_, List.getElem?_eq_getElem (by rw [HNL.out]; exact hlt)⟩
          obtain ⟨g2, rfl, y1⟩ := GL.out m l hlm
          have j0 : (0 : Int) ≤ (m : Int) := by omega
          have j1 : (m : Int) < (nl : Int) := by omega
          have HLM : Hid (x.locks[m]? = some l) := hlm
          clear hlm
          cases hw : l.wr with
          | true =>
            rw [hw] at y1
            have e1 : R.prepare t = (⟨R.table, upd R.txns x.ready⟩, 2, 0) := by rw [HE.out, if_pos (any_true HLM.out hw)]
            obtain ⟨k1, k2⟩ := (HI.out.1.fr hfw.out).setF (j := 1) (u := .int .i64 3) (x' := x.ready) HP.out.2.1 HP.out.1 (by decide) rfl rfl
            rw [HU.out] at k1
            have HR : Hid (RS ((w.drewN q2).setCell ⟨g, i * 5 + 1, none⟩ (.int .i64 3)) rp ⟨R.table, upd R.txns x.ready⟩ ∧ RBr w ((w.drewN q2).setCell ⟨g, i * 5 + 1, none⟩ (.int .i64 3))) := ⟨⟨_, _, _, k1⟩, (RBr.of_fr hfw.out (by simp)).trans (RBr.of_fr (Fr.set1 (S := [g]) (by simp) _ _) fun k hk => by simp at hk; subst hk; exact k2)⟩
            clear k1 k2
            go_wp2
            go_ret2
            rw [e1]
            exact ⟨rfl, HR.out⟩
          | false =>
            rw [hw] at y1
            go_wp2
            go_roundw
            case rel => exact ⟨m + 1, by omega, by go_num, fun j p' hj hp' => by
              by_cases e : j = m
              · subst e; rw [HLM.out] at hp'; cases hp'; exact hw
              · exact hpre.out j p' (by omega) hp', _, rfl⟩
            case measure => simp [intOf]; omega
        · have e1 : R.prepare t = (⟨R.table, del R.txns t⟩, 4, 0) := by
            rw [HE.out, if_neg]
            rw [any_false fun j l hj => hpre.out j l (by have := (List.getElem?_eq_some_iff.1 hj).1; rw [HNL.out] at this; omega) hj]
            simp
          have hd := hdr.out i (by rw [HN.out]; exact hil) (w.drewN q2) (HI.out.1.fr hfw.out)
          go_wp2_with fail
          refine hd.mono ?_
          rintro e w2 ⟨rfl, ⟨xv', hr⟩, hf⟩
          have HR : Hid (RS w2 rp ⟨R.table, del R.txns t⟩ ∧ RBr w w2) := ⟨by rw [← HX.out]; exact ⟨_, _, _, hr⟩, (RBr.of_fr hfw.out (by simp)).trans (RBr.of_fr hf fun k hk => by simp at hk; subst hk; exact (HI.out.1.fr hfw.out).ref)⟩
          clear hd hr hf
          go_wp2
          go_ret2
          rw [e1]
          exact ⟨rfl, HR.out⟩
end Go.Proofs.YtejiankgafjppaaGreatDoor
/- THE DOCUMENT'S SHARD: Waiting. -/
namespace Go.Proofs.YtejiankgafjppaaGreatDoor
open Go.RowKit Go.Maps
open Sc

def waitsOf (xs : List RTx) : List Nat := (xs.filter fun x => decide (x.st = 3)).map (·.id)
theorem waitsOf_snoc {xs : List RTx} {k : Nat} {x : RTx} (h : xs[k]? = some x) : waitsOf (xs.take (k + 1)) = waitsOf (xs.take k) ++ (if x.st = 3 then [x.id] else []) := by
  unfold waitsOf
  rw [List.take_add_one, h, List.filter_append, List.map_append]
  congr 1
  by_cases e : x.st = 3 <;> simp [e]
theorem waitsOf_len (xs : List RTx) (k : Nat) : (waitsOf (xs.take k)).length ≤ k := by
  unfold waitsOf
  rw [List.length_map]
  exact Nat.le_trans (List.length_filter_le _ _) (by rw [List.length_take]; omega)
set_option maxRecDepth 100000 in
set_option maxHeartbeats 8000000 in
theorem rwaiting_any [Inhabited Bs] (rp : Nat) (R : RSh) (w : World) (h : RS w rp R) (hn : R.txns.length ≤ 1048576) :
    Calls Tryz.prog 73 #[.pointer (some ⟨rp, 0, none⟩)] w fun e w' => ∃ v, e = .returned v ∧ w'.ownsRow w.heap.size 34 1 v R.waiting.length (u64s R.waiting) ∧ Fr [] w w' := by
  obtain ⟨tv, xv, ps, h⟩ := h
  obtain ⟨i0, hin, hz0, hz1, hz2⟩ := info_parts Tryz.infoU64
  have HI : Hid (RsIn w rp tv xv ps R) := h
  obtain ⟨n, hnn⟩ : ∃ n, n = ps.length := ⟨_, rfl⟩
  have HN : Hid (ps.length = n) := hnn.symm
  rw [← h.len, ← hnn] at hn
  clear h hnn
  go_enter Tryz.func73, Tryz.ntmps73
  go_wp2
  go_loopw [3, 4] (fun o i wr => ∃ k : Nat, k ≤ n ∧ i = .int .i64 k ∧ Hid (wr.ownsRow w.heap.size 34 1 o (waitsOf (R.txns.take k)).length (u64s (waitsOf (R.txns.take k))) ∧ Fr [] w wr)) (fun _ i _ => n - (intOf i).toNat)
  case atStart => exact ⟨0, Nat.zero_le _, rfl, World.ownsRow_nil _ _ _ _, Fr.refl [] w⟩
  case round =>
    obtain ⟨k, hk, rfl, hr⟩ := hrel
    obtain ⟨m, hm⟩ : ∃ m, m = (waitsOf (R.txns.take k)).length := ⟨_, rfl⟩
    have hmk : m ≤ k := by rw [hm]; exact waitsOf_len _ _
    have hrI := HI.out.fr hr.out.2
    have c1 := blk_cell hrI.blk 1
    simp at c1
    obtain ⟨ao, c, e0, H⟩ := hrI.slice
    rw [e0, HN.out] at c1
    by_cases hlt : k < n
    · obtain ⟨p, hp⟩ : ∃ p, ps[k]? = some p := ⟨_, List.getElem?_eq_getElem (by rw [HN.out]; exact hlt)⟩
      obtain ⟨g, rfl, x0, x1, _⟩ := H k p hp
      have HS : Hid (waitsOf (R.txns.take (k + 1)) = waitsOf (R.txns.take k) ++ (if p.1.st = 3 then [p.1.id] else [])) := waitsOf_snoc (HI.out.back hp)
      have i1 : (0 : Int) ≤ (k : Int) := by omega
      have i2 : (k : Int) < (n : Int) := by omega
      have hrow := hr.out.1
      have hsz := hr.out.2.size
      rw [← hm] at hrow
      have HM : Hid (m = (waitsOf (R.txns.take k)).length ∧ Fr [] w wr) := ⟨hm, hr.out.2⟩
      clear H hp hrI hm hr
      by_cases h3 : p.1.st = 3
      · rw [h3] at x1
        have hnv : Hid (∀ k, _ → _) := fun k hk => (hrow.lt k hk).1
        go_wp2_with (at_builtin; refine wpList_app rfl _ _ 56 rfl w.heap.size 34 i0 _ 1 8 Tryz.underlying56 hin hz0 hz1 hz2 rfl (by decide) _ m _ rfl (hrow.alloc _) 1 [.int .u64 (p.1.id : Int)] (.inl ⟨⟨wr.heap.size, 0, none⟩, 1, rfl, cells_new _ #[.int .u64 (p.1.id : Int)] _⟩) rfl (by intro u hu; simp at hu; subst hu; rfl) (by unfold maxLen; omega) (by omega) (by simp; omega) ?_; intro v1 w1 ho1 hg1 ha1; have HR : Hid (w1.ownsRow w.heap.size 34 1 v1 (waitsOf (R.txns.take (k + 1))).length (u64s (waitsOf (R.txns.take (k + 1)))) ∧ Fr [] w w1) := (by refine ⟨?_, Fr.new_grown (HM.out.2.alloc _) hnv.out hg1⟩; rw [HS.out, if_pos h3, u64s_snoc, List.length_append, ← HM.out.1]; exact ho1); clear ho1 hg1 ha1)
        go_roundw
        case rel => exact ⟨k + 1, by omega, by go_num, HR.out⟩
        case measure => simp [intOf]; omega
      · have b3 : ((p.1.st : Int) == 3) = false := by simp; omega
        have z3 : ¬ ((p.1.st : Int) = 3) := by omega
        have HR : Hid (wr.ownsRow w.heap.size 34 1 u3 (waitsOf (R.txns.take (k + 1))).length (u64s (waitsOf (R.txns.take (k + 1)))) ∧ Fr [] w wr) := by
          refine ⟨?_, HM.out.2⟩
          rw [HS.out, if_neg h3, List.append_nil, ← HM.out.1]
          exact hrow
        go_wp2
        go_roundw
        case rel => exact ⟨k + 1, by omega, by go_num, HR.out⟩
        case measure => simp [intOf]; omega
    · have hkn : k = n := by omega
      have HE : Hid (R.txns.take k = R.txns) := List.take_of_length_le (by rw [hkn, ← HN.out, HI.out.len]; omega)
      clear H hrI
      go_wp2
      go_ret
      refine ⟨_, rfl, ?_, hr.out.2⟩
      have := hr.out.1
      rw [HE.out] at this
      exact this
end Go.Proofs.YtejiankgafjppaaGreatDoor
/- THE DOCUMENT'S SHARD: Tick. -/
namespace Go.Proofs.YtejiankgafjppaaGreatDoor
open Go.RowKit Go.Maps
open Sc

def olderP (p : RTx × Value) : Option (RTx × Value) := p.1.older.map fun x => (x, p.2)
theorem olderP_map (ps : List (RTx × Value)) : (ps.filterMap olderP).map (·.1) = (ps.map (·.1)).filterMap RTx.older := by
  rw [List.map_filterMap, List.filterMap_map]
  congr 1
  funext p
  unfold olderP
  cases h : p.1.older <;> simp [h]
theorem olderP_snoc {ps : List (RTx × Value)} {k : Nat} {p : RTx × Value} (h : ps[k]? = some p) : (ps.take (k + 1)).filterMap olderP = (ps.take k).filterMap olderP ++ (olderP p).toList := by
  rw [List.take_add_one, h, List.filterMap_append]
  congr 1
theorem olderP_mem {ps : List (RTx × Value)} {q : RTx × Value} (h : q ∈ ps.filterMap olderP) : ∃ p ∈ ps, q.2 = p.2 ∧ q.1.locks = p.1.locks := by
  obtain ⟨p, hp, ho⟩ := List.mem_filterMap.1 h
  unfold olderP at ho
  cases hx : p.1.older with
  | none => rw [hx] at ho; cases ho
  | some x =>
    rw [hx] at ho
    cases ho
    refine ⟨p, hp, rfl, ?_⟩
    unfold RTx.older at hx
    split at hx
    · cases hx; rfl
    · split at hx
      · cases hx
      · cases hx; rfl
theorem olderP_len (ps : List (RTx × Value)) (k : Nat) : ((ps.take k).filterMap olderP).length ≤ k := Nat.le_trans (List.length_filterMap_le _ _) (by rw [List.length_take]; omega)
theorem RsIn.ticked [Inhabited Bs] {w w2 : World} {rp : Nat} {tv xv v2 : Value} {ps : List (RTx × Value)} {R : RSh} (h : RsIn w rp tv xv ps R) (hf : Fr [] w w2) (ho : w2.ownsRow B0 126 5 v2 (ps.filterMap olderP).length (rtxsV (ps.filterMap olderP))) : RsIn (w2.setCell ⟨rp, 1, none⟩ v2) rp tv v2 (ps.filterMap olderP) R.tick := by
  refine h.setTxns hf ho (fun q hq => ?_) ?_ (by rw [olderP_map, h.rs])
  · obtain ⟨p, hp, e1, e2⟩ := olderP_mem hq
    rw [e1, e2]
    exact ownsRow_fr (h.lks p hp) hf (by simp)
  · rw [List.pairwise_filterMap]
    refine h.apart.imp ?_
    intro a b hab a' ha b' hb
    have e1 : a'.2 = a.2 := by
      unfold olderP at ha
      cases hx : a.1.older with
      | none => rw [hx] at ha; cases ha
      | some x => rw [hx] at ha; cases ha; rfl
    have e2 : b'.2 = b.2 := by
      unfold olderP at hb
      cases hx : b.1.older with
      | none => rw [hx] at hb; cases hb
      | some x => rw [hx] at hb; cases hb; rfl
    rw [e1, e2]
    exact hab
theorem cells_new2 (w : World) (o : Obj) (cs : Array Value) (t : TypeId) : ∀ j u, cs.toList[j]? = some u → ((w.alloc o).alloc (.cells cs t)).cell? ((⟨w.heap.size + 1, 0, none⟩ : Addr).add j) = some u := by
  have := cells_new (w.alloc o) cs t
  rwa [World.size_alloc] at this
set_option maxRecDepth 100000 in
set_option maxHeartbeats 8000000 in
theorem rtick_any [Inhabited Bs] (rp : Nat) (R : RSh) (w : World) (h : RS w rp R) (hn : R.txns.length ≤ 1048576) (hb : ∀ x ∈ R.txns, x.age < 1048576) :
    Calls Tryz.prog 82 #[.pointer (some ⟨rp, 0, none⟩)] w fun e w' => e = .returned (.tuple #[]) ∧ RS w' rp R.tick ∧ RBr w w' := by
  obtain ⟨tv, xv, ps, h⟩ := h
  obtain ⟨i0, hin, hz0, hz1, hz2⟩ := info_parts Tryz.infoRTx
  have HI : Hid (RsIn w rp tv xv ps R ∧ ∀ x ∈ R.txns, x.age < 1048576) := ⟨h, hb⟩
  obtain ⟨n, hnn⟩ : ∃ n, n = ps.length := ⟨_, rfl⟩
  have HN : Hid (ps.length = n) := hnn.symm
  rw [← h.len, ← hnn] at hn
  clear h hnn hb
  go_enter Tryz.func82, Tryz.ntmps82
  go_wp2
  go_loopw [2, 3] (fun o i wr => ∃ k : Nat, k ≤ n ∧ i = .int .i64 k ∧ Hid (wr.ownsRow w.heap.size 126 5 o ((ps.take k).filterMap olderP).length (rtxsV ((ps.take k).filterMap olderP)) ∧ Fr [] w wr)) (fun _ i _ => n - (intOf i).toNat)
  case atStart => exact ⟨0, Nat.zero_le _, rfl, World.ownsRow_nil _ _ _ _, Fr.refl [] w⟩
  case round =>
    obtain ⟨k, hk, rfl, hr⟩ := hrel
    obtain ⟨m, hm⟩ : ∃ m, m = ((ps.take k).filterMap olderP).length := ⟨_, rfl⟩
    have hmk : m ≤ k := by rw [hm]; exact olderP_len _ _
    have hrI := HI.out.1.fr hr.out.2
    have c1 := blk_cell hrI.blk 1
    have f1 := blk_free hrI.blk 1
    simp at c1
    obtain ⟨ao, c, e0, H⟩ := hrI.slice
    rw [e0, HN.out] at c1
    by_cases hlt : k < n
    · obtain ⟨p, hp⟩ : ∃ p, ps[k]? = some p := ⟨_, List.getElem?_eq_getElem (by rw [HN.out]; exact hlt)⟩
      obtain ⟨g, rfl, x0, x1, x2, x3, x4⟩ := H k p hp
      have HS : Hid ((ps.take (k + 1)).filterMap olderP = (ps.take k).filterMap olderP ++ (olderP p).toList) := olderP_snoc hp
      have hage := HI.out.2 p.1 (List.mem_of_getElem? (HI.out.1.back hp))
      have hone := row_one (HI.out.1.lks p (List.mem_of_getElem? hp))
      have i1 : (0 : Int) ≤ (k : Int) := by omega
      have i2 : (k : Int) < (n : Int) := by omega
      have hrow := hr.out.1
      have hsz := hr.out.2.size
      rw [← hm] at hrow
      have HM : Hid (m = ((ps.take k).filterMap olderP).length ∧ Fr [] w wr) := ⟨hm, hr.out.2⟩
      obtain ⟨vo, vn, ec⟩ : ∃ vo vn vc, p.2 = .slice vo vn vc := by
        rcases (HI.out.1.lks p (List.mem_of_getElem? hp)).2 with ⟨e, _⟩ | ⟨gg, cap, cur, e, _⟩
        · exact ⟨_, _, _, e⟩
        · exact ⟨_, _, _, e⟩
      obtain ⟨vc, ec⟩ := ec
      rw [ec] at x4
      clear H hp hrI hm hr f1
      have hnv : Hid (NewV w u2) := fun k hk => (hrow.lt k hk).1
      by_cases h3 : p.1.st = 3
      · rw [h3] at x1
        have HO : Hid (olderP p = some (p.1, p.2) ∧ rtxC (p.1, p.2) = [.int .u64 (p.1.id : Int), .int .i64 3, .int .i64 (p.1.ops : Int), .int .i64 (p.1.age : Int), .slice vo vn vc]) := by
          refine ⟨?_, ?_⟩
          · unfold olderP RTx.older; rw [if_pos h3]; rfl
          · simp [h3, ec]
        go_wp2_with (at_builtin; refine wpList_app rfl _ _ 69 rfl w.heap.size 126 i0 _ 5 56 Tryz.underlying69 hin hz0 hz1 hz2 rfl (by decide) _ m _ rfl ((hrow.alloc _).alloc _) 1 [.int .u64 (p.1.id : Int), .int .i64 3, .int .i64 (p.1.ops : Int), .int .i64 (p.1.age : Int), .slice vo vn vc] (.inl ⟨⟨wr.heap.size + 1, 0, none⟩, 1, rfl, cells_new2 _ _ #[.int .u64 (p.1.id : Int), .int .i64 3, .int .i64 (p.1.ops : Int), .int .i64 (p.1.age : Int), .slice vo vn vc] _⟩) rfl (by intro u hu; simp at hu; rcases hu with rfl | rfl | rfl | rfl | rfl <;> rfl) (by unfold maxLen; omega) (by omega) (by simp; omega) ?_; intro v1 w1 ho1 hg1 ha1; have HR : Hid (w1.ownsRow w.heap.size 126 5 v1 ((ps.take (k + 1)).filterMap olderP).length (rtxsV ((ps.take (k + 1)).filterMap olderP)) ∧ Fr [] w w1) := (by refine ⟨?_, Fr.new_grown ((HM.out.2.alloc _).alloc _) hnv.out hg1⟩; rw [HS.out, HO.out.1, rtxsV_app, List.length_append, ← HM.out.1]; have e9 : rtxsV (some (p.1, p.2)).toList = rtxC (p.1, p.2) := rfl; rw [e9, HO.out.2]; exact ho1); clear ho1 hg1 ha1)
        go_roundw
        case rel => exact ⟨k + 1, by omega, by go_num, HR.out⟩
        case measure => simp [intOf]; omega
      · have b3 : ((p.1.st : Int) != 3) = true := by simp; omega
        have z3 : ¬ ((p.1.st : Int) = 3) := by omega
        by_cases h15 : p.1.age + 1 = 16
        · have e15 : p.1.age = 15 := by omega
          rw [e15] at x3
          have HO : Hid (olderP p = none) := by show _ = _; unfold olderP RTx.older; rw [if_neg h3, if_pos h15]; rfl
          have HR : ∀ o : Obj, Hid ((wr.alloc o).ownsRow w.heap.size 126 5 u2 ((ps.take (k + 1)).filterMap olderP).length (rtxsV ((ps.take (k + 1)).filterMap olderP)) ∧ Fr [] w (wr.alloc o)) := fun o => by
            refine ⟨?_, HM.out.2.alloc _⟩
            rw [HS.out, HO.out, Option.toList_none, List.append_nil, ← HM.out.1]
            exact hrow.alloc _
          go_wp2
          go_roundw
          case rel => exact ⟨k + 1, by omega, by go_num, HR _⟩
          case measure => simp [intOf]; omega
        · have z16 : ¬ ((p.1.age : Int) + 1 = 16) := by omega
          have HO : Hid (olderP p = some (⟨p.1.id, p.1.st, p.1.ops, p.1.age + 1, p.1.locks⟩, p.2)) := by show _ = _; unfold olderP RTx.older; rw [if_neg h3, if_neg h15]; rfl
          have e9 : Hid (rtxsV (some ((⟨p.1.id, p.1.st, p.1.ops, p.1.age + 1, p.1.locks⟩ : RTx), p.2)).toList = [.int .u64 (p.1.id : Int), .int .i64 (p.1.st : Int), .int .i64 (p.1.ops : Int), .int .i64 ((p.1.age : Int) + 1), .slice vo vn vc]) := by show _ = _; rw [ec]; rfl
          go_wp2_with (at_builtin; refine wpList_app rfl _ _ 69 rfl w.heap.size 126 i0 _ 5 56 Tryz.underlying69 hin hz0 hz1 hz2 rfl (by decide) _ m _ rfl ((hrow.alloc _).alloc _) 1 [.int .u64 (p.1.id : Int), .int .i64 (p.1.st : Int), .int .i64 (p.1.ops : Int), .int .i64 ((p.1.age : Int) + 1), .slice vo vn vc] (.inl ⟨⟨wr.heap.size + 1, 0, none⟩, 1, rfl, cells_new2 _ _ #[.int .u64 (p.1.id : Int), .int .i64 (p.1.st : Int), .int .i64 (p.1.ops : Int), .int .i64 ((p.1.age : Int) + 1), .slice vo vn vc] _⟩) rfl (by intro u hu; simp at hu; rcases hu with rfl | rfl | rfl | rfl | rfl <;> rfl) (by unfold maxLen; omega) (by omega) (by simp; omega) ?_; intro v1 w1 ho1 hg1 ha1; have HR : Hid (w1.ownsRow w.heap.size 126 5 v1 ((ps.take (k + 1)).filterMap olderP).length (rtxsV ((ps.take (k + 1)).filterMap olderP)) ∧ Fr [] w w1) := (by refine ⟨?_, Fr.new_grown ((HM.out.2.alloc _).alloc _) hnv.out hg1⟩; rw [HS.out, HO.out, rtxsV_app, List.length_append, ← HM.out.1, e9.out]; exact ho1); clear ho1 hg1 ha1)
          go_roundw
          case rel => exact ⟨k + 1, by omega, by go_num, HR.out⟩
          case measure => simp [intOf]; omega
    · have hkn : k = n := by omega
      have HE : Hid (ps.take k = ps) := List.take_of_length_le (by rw [hkn, ← HN.out]; omega)
      clear H
      have hrow := hr.out.1
      rw [HE.out] at hrow
      obtain ⟨o2, c2, e2⟩ := own_slice hrow
      have HT : Hid (RS (wr.setCell ⟨rp, 1, none⟩ u2) rp R.tick ∧ RBr w (wr.setCell ⟨rp, 1, none⟩ u2)) := ⟨⟨_, _, _, HI.out.1.ticked hr.out.2 (ownsRow_base_a hrow HI.out.1.low)⟩, (RBr.of_fr hr.out.2 (by simp)).trans (RBr.of_fr (Fr.set1 (S := [rp]) (by simp) _ _) fun k hk => by simp at hk; subst hk; exact hrI.ref)⟩
      subst e2
      clear hrow hrI hr
      go_wp2
      go_end0
      exact ⟨rfl, HT.out⟩
end Go.Proofs.YtejiankgafjppaaGreatDoor
