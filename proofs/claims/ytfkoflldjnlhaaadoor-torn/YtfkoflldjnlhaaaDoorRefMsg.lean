import Derived.Test.YtfkoflldjnlhaaaDoorRef
/- CONTRACTS of the document's own answer: messages. -/
namespace Go.Proofs.YtfkoflldjnlhaaaDoor
open Go.RowKit
open Sc

/-- Can the message be written? -/
def soundB (k f t x : Int) : Bool := decide (x ≠ 0 ∧ ((k = 1 ∨ k = 5 ∨ k = 6) ∧ f = 0 ∧ 1 ≤ t ∧ t ≤ 8 ∨ (k = 2 ∨ k = 3 ∨ k = 4 ∨ k = 7 ∨ k = 8) ∧ t = 0 ∧ 1 ≤ f ∧ f ≤ 8))
theorem ret_bool {a b : Bool} (h : a = b) : Ending.returned (.bool a) = .returned (.bool b) := by rw [h]
/-- a message as a value; its box -/
abbrev msgV (k f t x : Int) : Value := .agg #[.int .i64 k, .int .i64 f, .int .i64 t, .int .u64 x]
abbrev msgO (k f t x : Int) : Obj := .cells #[.int .i64 k, .int .i64 f, .int .i64 t, .int .u64 x] 33

set_option maxHeartbeats 1000000 in
theorem sound_any (k f t x : Int) (w : World) :
    Calls Tryd.prog 22 #[.agg #[.int .i64 k, .int .i64 f, .int .i64 t, .int .u64 x]] w fun e w' => e = .returned (.bool (soundB k f t x)) ∧ w' = w.alloc (msgO k f t x) := by
  go_enter Tryd.func22, Tryd.ntmps22
  go_wp2
  all_goals go_ret
  all_goals refine ⟨ret_bool ?_, by subst_vars; rfl⟩
  all_goals rw [Bool.eq_iff_iff]
  all_goals simp only [soundB, decide_eq_true_eq, Bool.false_eq_true, beq_iff_eq, beq_eq_false_iff_ne] at *
  all_goals first | omega | (rw [false_iff]; intro hh; omega)

/-- a message's bytes, without its sum -/
def msgHead (k f t x : Nat) : List Nat := [k, f, t] ++ be 8 x
def msgBytes (k f t x : Nat) : List Nat := msgHead k f t x ++ be 4 (crc (msgHead k f t x))
theorem msgHead_len (k f t x : Nat) : (msgHead k f t x).length = 11 := by simp [msgHead, be_len]
theorem msgBytes_len (k f t x : Nat) : (msgBytes k f t x).length = 15 := by simp [msgBytes, msgHead_len, be_len]
theorem msgHead_byt (k f t x : Nat) (hk : k < 256) (hf : f < 256) (ht : t < 256) : Byt (msgHead k f t x) := by
  intro b hb
  simp only [msgHead, List.mem_append, List.mem_cons, List.not_mem_nil, or_false] at hb
  rcases hb with (rfl | rfl | rfl) | hb
  · exact hk
  · exact hf
  · exact ht
  · exact be_lt _ _ _ hb
theorem msgBytes_byt (k f t x : Nat) (hk : k < 256) (hf : f < 256) (ht : t < 256) : Byt (msgBytes k f t x) := by
  intro b hb
  simp only [msgBytes, List.mem_append] at hb
  rcases hb with hb | hb
  · exact msgHead_byt _ _ _ _ hk hf ht _ hb
  · exact be_lt _ _ _ hb

set_option maxHeartbeats 1000000 in
theorem message_no (k f t x : Int) (w : World) (hs : soundB k f t x = false) :
    Calls Tryd.prog 10 #[.agg #[.int .i64 k, .int .i64 f, .int .i64 t, .int .u64 x]] w fun e w' => e = .returned (.tuple #[.slice none 0 0, .int .i64 2]) ∧ Below w.heap.size w w' := by
  have hnot : ∀ (x : Bool) (w : World), (Op.unary .not (.bool x)).run Tryd.prog w = .ok (.bool (!x)) w := fun _ _ => rfl
  go_enter Tryd.func10, Tryd.ntmps10
  go_wp2_with (go_at_call 22; refine (sound_any _ _ _ _ _).mono ?_; rintro e w' ⟨rfl, rfl⟩)
  go_ret2
  exact ⟨rfl, ((Below.refl _ _).alloc (Nat.le_refl _) _).alloc (by simp) _⟩

end Go.Proofs.YtfkoflldjnlhaaaDoor
