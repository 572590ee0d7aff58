import Derived.Test.YtejiankgafjppaaGreatDoorC03
namespace Go.Proofs.YtejiankgafjppaaGreatDoor
open Go.RowKit
open Sc
theorem maker_new (w:World):Maker (w.alloc (.cells Tryz.zeroCells262 262)) w.heap.size false:=by
 have e:∀ i,(w.alloc (.cells Tryz.zeroCells262 262)).cell? ⟨w.heap.size,i,none⟩=Tryz.zeroCells262[i]?:=fun i=>World.cell?_alloc_new w _ _ i
 have hs:Tryz.zeroCells262.size=259:=by kernel_rfl
 refine ⟨?_,?_,fun h=>absurd h (by decide),fun i hi=>?_,fun i=>?_⟩
 ·rw [e];kernel_rfl
 ·rw [e];kernel_rfl
 ·rw [e];exact ⟨_,Array.getElem?_eq_getElem (by rw [hs];omega)⟩
 ·exact World.frozen?_alloc_new w _ _ i
theorem grown_row {w w1:World} {r:Option Nat} (h:w.grownBy w1 r) {B:Nat} (hB:B<w.heap.size) (hr:r≠some B) (i:Nat):w1.cell? ⟨B,i,none⟩=w.cell? ⟨B,i,none⟩ :=
 World.cell?_of_block (a:=⟨B,i,none⟩) (h.block B hB (fun e=>hr e.symm))
end Go.Proofs.YtejiankgafjppaaGreatDoor
