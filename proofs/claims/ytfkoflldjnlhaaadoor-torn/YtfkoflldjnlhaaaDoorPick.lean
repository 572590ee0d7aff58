import Derived.Test.YtfkoflldjnlhaaaDoorScans
import Derived.Test.YtfkoflldjnlhaaaDoorFramed
import Derived.Test.YtfkoflldjnlhaaaDoorTornM2
/- pick; what is handed in; rows of numbers. -/
namespace Go.Proofs.YtfkoflldjnlhaaaDoor
open Go.RowKit
open Sc

set_option maxHeartbeats 400000 in
theorem pick_any (c : Int) (n : Nat) (w : World) (hc1 : -9223372036854775808 ≤ c) (hc2 : c ≤ 9223372036854775807) (hn : 0 < n) (hn2 : n ≤ 1099511627776) :
    Calls Tryd.prog 13 #[.int .i64 c, .int .i64 n] w fun e w' => ∃ r : Nat, r < n ∧ e = .returned (.int .i64 r) ∧ w' = w := by
  have hn0 : ¬ (n : Int) = 0 := by omega
  by_cases h : c < 0
  · go_enter Tryd.func13, Tryd.ntmps13
    go_wp2
    go_ret
    have e : -(c + 1).tmod (n : Int) = (-(c + 1)) % (n : Int) := by
      rw [← Int.neg_tmod, Int.tmod_eq_emod_of_nonneg (by omega)]
    have h1 := Int.emod_nonneg (-(c + 1)) hn0
    have h2 := Int.emod_lt_of_pos (-(c + 1)) (show (0 : Int) < (n : Int) by omega)
    refine ⟨((-(c + 1)) % (n : Int)).toNat, by omega, ret_int ?_, rfl⟩
    rw [e]; omega
  · go_enter Tryd.func13, Tryd.ntmps13
    go_wp2
    go_ret
    have h1 := Int.emod_nonneg c hn0
    have h2 := Int.emod_lt_of_pos c (show (0 : Int) < (n : Int) by omega)
    exact ⟨(c % (n : Int)).toNat, by omega, ret_int (by omega), rfl⟩

/-- n texts, handed in -/
def StrsIn (w : World) (v : Value) (n : Nat) (S : Nat → ByteArray) : Prop :=
  ∃ ao cap, v = .slice ao n cap ∧ ∀ i, i < n → ∃ b off, ao = some ⟨b, off, none⟩ ∧ b < w.heap.size ∧ w.cell? ⟨b, off + i, none⟩ = some (.string (S i))
/-- where the records end -/
def endsV (S : Nat → ByteArray) (j : Nat) : List Value := (List.range j).map fun q => .int .i64 ((cat S (q + 1)).length : Nat)
theorem endsV_succ (S : Nat → ByteArray) (j : Nat) : endsV S (j + 1) = endsV S j ++ [.int .i64 ((cat S (j + 1)).length : Nat)] := by unfold endsV; rw [List.range_succ, List.map_append]; rfl
theorem endsV_at (S : Nat → ByteArray) (j i : Nat) (h : i < j) : (endsV S j)[i]? = some (.int .i64 ((cat S (i + 1)).length : Nat)) := by unfold endsV; simp [h]
theorem Tryd.infoInt : (Tryd.prog.info? 3).map (fun i => (i.zero, i.size, i.bytes)) = some (some (.int .i64 0), 1, 8) := by kernel_rfl
/-- append(own, one number) -/
theorem wpList_int {w : World} {ops : Array Oper} {rest : List Oper} {o : Oper} {a : Act} {Q : Exit → Act → World → Prop} (hgd : o.guard = none) (s x : Operand)
    (ho : o.op = .call { callee := .builtin .append, args := #[s, x], argTypes := #[39, 39] })
    (base : Nat) (v : Value) (n : Nat) (xs : List Value) (k : Int) (b : Nat) (hs : a.eval s = v) (hown : w.ownsRow base 3 1 v n xs) (hx : a.eval x = .slice (some ⟨b, 0, none⟩) 1 1) (hc : w.cell? ⟨b, 0, none⟩ = some (.int .i64 k)) (hn : n ≤ 1099511627776) (hbase : base ≤ w.heap.size)
    (h : ∀ v' w', w'.ownsRow base 3 1 v' (n + 1) (xs ++ [.int .i64 k]) → w.grownBy w' v.ownBlock → wpList Tryd.prog ops Q rest (a.put o.dst v') w') : wpList Tryd.prog ops Q (o :: rest) a w := by
  obtain ⟨i0, hi, hz0, hz1, hz2⟩ := info_parts Tryd.infoInt
  refine wpList_append_own _ hgd s x 39 ho base 3 i0 (.int .i64 0) 1 8 Tryd.underlying39 hi hz0 hz1 hz2 rfl (by decide) v n xs hs hown ⟨b, 0, none⟩ 1 1 [.int .i64 k] hx rfl ?_ ?_ (by unfold maxLen; omega) (by omega) hbase ?_
  · intro jj u hjj
    match jj, hjj with
    | 0, hjj => simp at hjj; subst hjj; simpa [Addr.add] using hc
  · intro u hu; simp at hu; subst hu; rfl
  · intro v' w' ho' hg' _
    exact h v' w' ho' hg'
/-- rows of different kinds of elements lie apart -/
theorem own_apart {w : World} {B1 B2 n1 n2 : Nat} {v1 v2 : Value} {x1 x2 : List Value} (h1 : w.ownsRow B1 5 1 v1 n1 x1) (h2 : w.ownsRow B2 3 1 v2 n2 x2) : v1.ownBlock = none ∨ v1.ownBlock ≠ v2.ownBlock := by
  rcases h1.2 with ⟨rfl, _⟩ | ⟨g1, c1, u1, rfl, _, hg1, _⟩
  · exact .inl rfl
  · rcases h2.2 with ⟨rfl, _⟩ | ⟨g2, c2, u2, rfl, _, hg2, _⟩
    · exact .inr (by simp [Value.ownBlock])
    · refine .inr (fun e => ?_)
      have e' : g1 = g2 := by simpa [Value.ownBlock] using e
      subst e'
      rw [hg1] at hg2
      simp at hg2
theorem own_apart' {w : World} {B1 B2 n1 n2 : Nat} {v1 v2 : Value} {x1 x2 : List Value} (h1 : w.ownsRow B1 5 1 v1 n1 x1) (h2 : w.ownsRow B2 3 1 v2 n2 x2) : v2.ownBlock = none ∨ v2.ownBlock ≠ v1.ownBlock := by
  rcases h2.2 with ⟨rfl, _⟩ | ⟨g2, c2, u2, rfl, _, hg2, _⟩
  · exact .inl rfl
  · rcases h1.2 with ⟨rfl, _⟩ | ⟨g1, c1, u1, rfl, _, hg1, _⟩
    · exact .inr (by simp [Value.ownBlock])
    · refine .inr (fun e => ?_)
      have e' : g2 = g1 := by simpa [Value.ownBlock] using e
      subst e'
      rw [hg1] at hg2
      simp at hg2
theorem ownI_below {w w' : World} {base n : Nat} {v : Value} {xs : List Value} (h : w.ownsRow base 3 1 v n xs) (hb : Below w.heap.size w w') : w'.ownsRow base 3 1 v n xs :=
  h.kept (grown_of_below hb none) (by cases v.ownBlock <;> simp)
end Go.Proofs.YtfkoflldjnlhaaaDoor
