import Derived.Test.YtejiankgafjppaaGreatDoorC12
import Derived.RangeFuncNested
import Derived.RangeFuncBox
import Derived.RangeFuncBound
import Derived.RangeFuncCalls
import Derived.RangeFuncLeaves
import Derived.Shelf.Abstract
import Derived.Shelf.RegionOpen
import Derived.WalkKit
import Derived.OwnWalkIn
import Derived.TacticsInMore
import Derived.LoopNIn
import Derived.LoopIn
import Derived.Maps.AppendAt
namespace Go.Proofs.YtejiankgafjppaaGreatDoor
open Go.RowKit Go.Shelf
open Sc
abbrev recA (r:Rec):Value:=.agg #[.int .u64 (r.lsn:Int),.int .u8 (r.kind:Int),.string (str r.pay)]
def RecsIn (W:World) (g:Nat) (rs:List Rec):Prop :=
 ∀ k r,rs[k]?=some r→W.cell? ⟨g,k*3,none⟩=some (.int .u64 (r.lsn:Int))∧W.cell? ⟨g,k*3+1,none⟩=some (.int .u8 (r.kind:Int))∧W.cell? ⟨g,k*3+2,none⟩=some (.string (str r.pay))
theorem RecsIn.below {n₀ g:Nat} {A B:World} {rs:List Rec} (h:Below n₀ A B) (hg:g<n₀) (hr:RecsIn A g rs):RecsIn B g rs:=fun k r hk =>
 ⟨(h.cell (p:=⟨g,k*3,none⟩) hg).trans (hr k r hk).1,(h.cell (p:=⟨g,k*3+1,none⟩) hg).trans (hr k r hk).2.1,(h.cell (p:=⟨g,k*3+2,none⟩) hg).trans (hr k r hk).2.2⟩
theorem take_succ_at {rs:List Rec} {k:Nat} {r:Rec} (h:rs[k]?=some r):rs.take (k+1)=rs.take k++[r]:=by
 rw [List.take_add_one,h];rfl
set_option maxRecDepth 100000 in
set_option maxHeartbeats 1000000 in
theorem all1_nil (F:Fence) (n:Nat) (hF:F.fn 126) (hro:F.round=none) (l Bn lp:Nat) (J:List Rec→World→Prop)
  (W:World) (hBn:W.cell? ⟨Bn,0,none⟩=some (.pointer (some ⟨lp,0,none⟩))) (h3:W.cell? ⟨lp,3,none⟩=some (.slice none 0 0)) (h0:J [] W) :
  CallsIn F n Tryz.prog 126 #[.func (.yield l) #[] #[],.pointer (some ⟨Bn,0,none⟩)] W fun e W'=>(∃ v,e=.returned v)∧J [] W':=by
 refine callsIn_of_wp Tryz.func126 rfl hF ?_ hro
 simp only [Tryz.ntmps126,List.size_toArray,List.length_cons,List.length_nil,Nat.reduceAdd,Nat.reduceSub,Array.replicate_succ,Array.replicate_zero,List.push_toArray,List.append_toArray,List.nil_append,List.cons_append]
 gi_wp2
 gi_loopw [10] (fun i wr=>i=.int .i64 0∧J [] wr) (fun _ _=>0)
 case atStart=>exact ⟨rfl,h0⟩
 case round =>
  obtain ⟨rfl,hJs⟩:=hrel
  gi_wp2
  go_end0
  exact ⟨⟨_,rfl⟩,hJs⟩
set_option maxHeartbeats 1000000 in
theorem all_in (F:Fence) (n:Nat) (hF:F.fn 58) (hro:F.round=none) (p0:Option Addr) (w:World) :
  CallsIn F n Tryz.prog 58 #[.pointer p0] w fun e w'=>e=.returned (.func (.func 126) #[] #[.pointer (some ⟨w.heap.size,0,none⟩)])∧w'=w.alloc (.cells #[.pointer p0] 89):=by
 refine callsIn_of_wp Tryz.func58 rfl hF ?_ hro
 simp only [Tryz.ntmps58,List.size_toArray,List.length_cons,List.length_nil,Nat.reduceAdd,Nat.reduceSub,Array.replicate_succ,Array.replicate_zero,List.push_toArray,List.append_toArray,List.nil_append,List.cons_append]
 gi_wp2
 go_ret
 exact ⟨rfl,rfl⟩
def RecsSl (n₀:Nat) (W:World) (v:Value) (rs:List Rec):Prop :=
 (v=.slice none 0 0∧rs=[])∨∃ g cap,v=.slice (some ⟨g,0,none⟩) rs.length cap∧g<n₀∧RecsIn W g rs
theorem RecsSl.below {n₀:Nat} {A B:World} {v:Value} {rs:List Rec} (h:Below n₀ A B) (hr:RecsSl n₀ A v rs):RecsSl n₀ B v rs:=by
 rcases hr with e | ⟨g,cap,e,hg,hr⟩
 ·exact .inl e
 ·exact .inr ⟨g,cap,e,hg,hr.below h hg⟩
end Go.Proofs.YtejiankgafjppaaGreatDoor
