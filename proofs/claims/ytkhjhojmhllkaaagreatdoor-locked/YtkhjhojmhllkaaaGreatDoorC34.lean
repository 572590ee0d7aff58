import Derived.Test.YtkhjhojmhllkaaaGreatDoorC33
/- THE LAW Locked, WALKED: one way after another. (Written by mklock.py.) -/
namespace Go.Proofs.YtkhjhojmhllkaaaGreatDoor
open Go.RowKit Go.Maps
open Sc

theorem Lv.mono {w : World} {B hp M M' : Nat} {s : AShard} {rs : List Rec} (h : Lv w B hp M s rs) (hM : M ≤ M') : Lv w B hp M' s rs := by
  obtain ⟨m, n, l, d, h1, h2, h3, h4, h5⟩ := h
  exact ⟨m, n, l, d, by omega, h2, by omega, h4, h5⟩
theorem gW_small (a : Nat) : (gW a).val.size ≤ 32 ∧ (gW a).way < 256 := by
  unfold gW
  split
  · exact ⟨by decide, by decide⟩
  · split <;> exact ⟨by decide, by decide⟩
theorem gW_writes {a : Nat} (h : 0 < a) : (gW a).writes = true := by
  unfold gW
  rw [if_neg (by omega)]
  split <;> rfl
/-- what the law was handed, and where it is when the shard is there -/
structure Begun (w W : World) (hp q : Nat) (vs : List (ByteArray × ByteArray)) : Prop where
  lv : Lv W w.heap.size hp 100 ⟨vs, [], [], 0⟩ [eP1, eC1]
  old : alLook vs kk = some vOld
  fr : HFs w.heap.size w W
  hp : w.heap.size ≤ hp
  fall : W.heap[q]? = some (fallO (-1) (-1) 0 0)
end Go.Proofs.YtkhjhojmhllkaaaGreatDoor
