import Derived.Test.YtejiankgafjppaaGreatDoorC14
import Derived.Test.YtejiankgafjppaaGreatDoorC12
import Derived.Test.YtejiankgafjppaaGreatDoorC15
import Derived.BigQuiet
import Derived.Lib.SmallJoins
namespace Go.Proofs.YtejiankgafjppaaGreatDoor
open Go.RowKit
open Sc
theorem setCell_far (w:World) (a i b j:Nat) (v:Value) (h:b≠a):(w.setCell ⟨a,i,none⟩ v).cell? ⟨b,j,none⟩=w.cell? ⟨b,j,none⟩ :=
 World.cell?_of_block (a:=⟨b,j,none⟩) (by
  by_cases hb:b<w.heap.size
  ·exact (Fr.set1 (w:=w) (p:=a) (S:=[a]) (by simp) i v).block b hb (by simpa using h)
  ·rw [Array.getElem?_eq_none (by simpa using hb),Array.getElem?_eq_none (by simpa using hb)])
end Go.Proofs.YtejiankgafjppaaGreatDoor
