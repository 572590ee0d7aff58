import Derived.Test.YtfkoflldjnlhaaaDoorSeal
import Derived.Test.YtfkoflldjnlhaaaDoorRefRead
/- MESSAGES in package wire. -/
namespace Go.Proofs.YtfkoflldjnlhaaaDoor
open Go.RowKit
open Sc

set_option maxHeartbeats 400000 in
theorem isCoordinator_any (x : Int) (w : World) : Calls Tryd.prog 55 #[.int .i64 x] w fun e w' => e = .returned (.bool (x == 0)) ∧ w' = w := by
  go_enter Tryd.func55, Tryd.ntmps55
  go_wp2
  go_ret
  exact ⟨rfl, rfl⟩
def shardB (x : Int) : Bool := decide (1 ≤ x ∧ x ≤ 8)
set_option maxHeartbeats 400000 in
theorem isShard_any (x : Int) (w : World) : Calls Tryd.prog 56 #[.int .i64 x] w fun e w' => e = .returned (.bool (shardB x)) ∧ w' = w := by
  go_enter Tryd.func56, Tryd.ntmps56
  go_wp2
  all_goals go_ret
  all_goals refine ⟨ret_bool ?_, rfl⟩
  all_goals rw [Bool.eq_iff_iff]
  all_goals simp only [shardB, decide_eq_true_eq, Bool.false_eq_true]
  all_goals first | omega | (rw [false_iff]; intro hh; omega)

set_option maxHeartbeats 1600000 in
theorem isMessage_any (k f t x : Int) (w : World) :
    Calls Tryd.prog 43 #[.agg #[.int .i64 k, .int .i64 f, .int .i64 t, .int .u64 x]] w fun e w' => e = .returned (.bool (soundB k f t x)) ∧ w' = w.alloc (msgO k f t x) := by
  go_enter Tryd.func43, Tryd.ntmps43
  go_wp2_with (first | (go_at_call 55; refine (isCoordinator_any _ _).mono ?_; rintro e w' ⟨rfl, rfl⟩) | (go_at_call 56; refine (isShard_any _ _).mono ?_; rintro e w' ⟨rfl, rfl⟩))
  all_goals go_ret
  all_goals refine ⟨ret_bool ?_, by subst_vars; rfl⟩
  all_goals rw [Bool.eq_iff_iff]
  all_goals simp only [soundB, shardB, decide_eq_true_eq, Bool.false_eq_true, beq_iff_eq, beq_eq_false_iff_ne] at *
  all_goals first | omega | (rw [false_iff]; intro hh; omega)
end Go.Proofs.YtfkoflldjnlhaaaDoor
