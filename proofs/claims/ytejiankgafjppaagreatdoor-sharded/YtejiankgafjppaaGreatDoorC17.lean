import Derived.Test.YtejiankgafjppaaGreatDoorC15
import Derived.Test.YtejiankgafjppaaGreatDoorC12
import Derived.Test.YtejiankgafjppaaGreatDoorC16
import Derived.Lib.SmallJoins
/- (*Log).Cut. -/
namespace Go.Proofs.YtejiankgafjppaaGreatDoor
open Go.RowKit
open Sc

theorem LogIn.ltO {w : World} {B lp p bD bN n nD nN k : Nat} {pv sv rv : Value} {l : ALog} {d : ADisk} (h : LogIn w B lp p bD bN pv sv rv l d n nD nN) (hk : Own lp p w k) : k < w.heap.size := by
  rcases (h.own k).1 hk with e | e | e | e | e | e | e
  · rw [e]; exact (Array.getElem?_eq_some_iff.1 h.blk).1
  · rw [e]; exact (Array.getElem?_eq_some_iff.1 h.disk.blk).1
  · rw [e]; exact h.disk.dur.lt
  · rw [e]; exact h.disk.now.lt
  · exact (h.disk.pen.lt k e).2
  · exact (h.segs.lt k e).2
  · exact (h.recs.lt k e).2
theorem setCell_far (w : World) (a i b j : Nat) (v : Value) (h : b ≠ a) : (w.setCell ⟨a, i, none⟩ v).cell? ⟨b, j, none⟩ = w.cell? ⟨b, j, none⟩ :=
  World.cell?_of_block (a := ⟨b, j, none⟩) (by
    by_cases hb : b < w.heap.size
    · exact (Fr.set1 (w := w) (p := a) (S := [a]) (by simp) i v).block b hb (by simpa using h)
    · rw [Array.getElem?_eq_none (by simpa using hb), Array.getElem?_eq_none (by simpa using hb)])
/-- what Cut leaves of the log, and says -/
def ALog.cut (l : ALog) (d : ADisk) (low : Nat) : ALog × ADisk × Nat :=
  if segsBelow l.segs low = 0 then l.wr d (l.sync d) else
    let gone := segsBelow l.segs low
    let first := l.segs.getD gone 0
    let r := l.wr d (l.cutS d gone first)
    if r.2.2 = 0 then ({ r.1 with recs := r.1.recs.drop (first - (r.1.recs.headD ⟨0, 0, []⟩).lsn), segs := r.1.segs.drop gone }, r.2.1, 0) else r
end Go.Proofs.YtejiankgafjppaaGreatDoor
