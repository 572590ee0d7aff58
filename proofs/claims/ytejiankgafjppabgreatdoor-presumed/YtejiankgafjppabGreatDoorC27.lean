import Derived.Test.YtejiankgafjppabGreatDoorC22
import Derived.Test.YtejiankgafjppabGreatDoorC25
import Derived.Test.YtejiankgafjppabGreatDoorC26
import Derived.Stop.RegionWithIn
/- LEDGERS: Open, as a shard does it. -/
namespace Go.Proofs.YtejiankgafjppabGreatDoor
open Go.RowKit Go.Shelf Go.Maps
open Sc

/-- nothing has turned but what is a disk's, and these, and new blocks -/
structure SDFr (p : Nat) (S : List Nat) (w w' : World) : Prop where
  os : w'.os = w.os
  tape : w'.tape = w.tape
  output : w'.output = w.output
  size : w.heap.size ≤ w'.heap.size
  block : ∀ k, k < w.heap.size → ¬ OwnD p w k → k ∉ S → w'.heap[k]? = w.heap[k]?
theorem DiskIn.freeDMap {w : World} {B p bD bN n nD nN k : Nat} {pv : Value} {d : ADisk} (h : DiskIn w B p bD bN pv d n nD nN) (hm : ∃ es c, w.heap[k]? = some (.map es c)) (h1 : k ≠ bD) (h2 : k ≠ bN) : ¬ OwnD p w k := by
  obtain ⟨es, c, hk⟩ := hm
  intro ho
  have := (h.ownD k).1 ho
  simp at this
  rcases this with e | e | e | e
  · rw [e, h.blk] at hk; cases hk
  · exact h1 e
  · exact h2 e
  · obtain ⟨c2, hc⟩ := own_cells h.pen e; rw [hc] at hk; cases hk
theorem toHid {p : Prop} (h : p) : Hid p := h
abbrev rdV (sp : Nat) : Value := .func (.func 147) #[.pointer (some ⟨sp, 0, none⟩)] #[]
end Go.Proofs.YtejiankgafjppabGreatDoor
