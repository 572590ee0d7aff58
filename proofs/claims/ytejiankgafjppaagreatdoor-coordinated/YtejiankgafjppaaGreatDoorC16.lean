import Derived.Test.YtejiankgafjppaaGreatDoorC14
import Derived.Test.YtejiankgafjppaaGreatDoorC12
import Derived.Test.YtejiankgafjppaaGreatDoorC15
import Derived.Lib.SmallJoins
namespace Go.Proofs.YtejiankgafjppaaGreatDoor
open Go.RowKit
open Sc
theorem setCell_far(w:World)(a i b j:Nat)(v:Value)(h:b≠a):(w.setCell⟨a,i,none⟩ v).cell?⟨b,j,none⟩=w.cell?⟨b,j,none⟩ :=
 World.cell?_of_block(a:=⟨b,j,none⟩)(by
  by_cases hb:b<w.heap.size
  ·exact(Fr.set1(w:=w)(p:=a)(S:=[a])(by simp) i v).block b hb(by simpa using h)
  ·rw [Array.getElem?_eq_none(by simpa using hb),Array.getElem?_eq_none(by simpa using hb)])
def ALog.cut(l:ALog)(d:ADisk)(low:Nat):ALog × ADisk × Nat :=
 if segsBelow l.segs low=0 then l.wr d(l.sync d) else
  let gone:=segsBelow l.segs low
  let first:=l.segs.getD gone 0
  let r:=l.wr d(l.cutS d gone first)
  if r.2.2=0 then({ r.1 with recs:=r.1.recs.drop(first - (r.1.recs.headD⟨0,0,[]⟩).lsn),segs:=r.1.segs.drop gone },r.2.1,0) else r
end Go.Proofs.YtejiankgafjppaaGreatDoor
