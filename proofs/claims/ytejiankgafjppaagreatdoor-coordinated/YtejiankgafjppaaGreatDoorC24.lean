import Derived.Test.YtejiankgafjppaaGreatDoorC22
import Derived.Test.YtejiankgafjppaaGreatDoorC17
import Derived.Test.YtejiankgafjppaaGreatDoorC07
import Derived.Test.YtejiankgafjppaaGreatDoorC14
import Derived.Test.YtejiankgafjppaaGreatDoorC21
import Derived.Lib.AppendStr
import Derived.Test.YtejiankgafjppaaGreatDoorC23
namespace Go.Proofs.YtejiankgafjppaaGreatDoor
open Go.RowKit Go.Shelf Go.Maps
open Sc
set_option maxRecDepth 100000 in
set_option maxHeartbeats 2000000 in
theorem reservedE_any (t:Nat) (w:World) (ht:t<18446744073709551616) :
  Calls Tryz.prog 274 #[.int .u64 (t:Int)] w fun e w'=>e=.returned (.string (str (be 8 t)))∧Below w.heap.size w w':=by
 have hg:=grow_u64 w.heap.size (.slice none 0 0) [] t 0 w (World.ownsRow_nil _ _ _ _) ht (by omega) (Nat.le_refl _)
 go_enter Tryz.func274,Tryz.ntmps274
 go_wp2_with fail
 refine hg.mono ?_
 clear hg
 rintro e w1 ⟨v',rfl,ho,hb,_⟩
 obtain ⟨g,cap,rfl⟩:=own_pos ho (by omega)
 have hcv:=run_str w1 g 0 (0+8) cap (be 8 t) (by rw [be_len]) (own_row (by simpa using ho))
 clear ho
 go_wp2
 go_ret
 exact ⟨rfl,hb⟩
set_option maxRecDepth 100000 in
set_option maxHeartbeats 2000000 in
theorem endedE_any (t:Nat) (w:World) (ht:t<18446744073709551616) :
  Calls Tryz.prog 228 #[.int .u64 (t:Int)] w fun e w'=>e=.returned (.string (str (be 8 t)))∧Below w.heap.size w w':=by
 have hg:=grow_u64 w.heap.size (.slice none 0 0) [] t 0 w (World.ownsRow_nil _ _ _ _) ht (by omega) (Nat.le_refl _)
 go_enter Tryz.func228,Tryz.ntmps228
 go_wp2_with fail
 refine hg.mono ?_
 clear hg
 rintro e w1 ⟨v',rfl,ho,hb,_⟩
 obtain ⟨g,cap,rfl⟩:=own_pos ho (by omega)
 have hcv:=run_str w1 g 0 (0+8) cap (be 8 t) (by rw [be_len]) (own_row (by simpa using ho))
 clear ho
 go_wp2
 go_ret
 exact ⟨rfl,hb⟩
theorem hasY_en:Enters 278:=enters_of Tryz.func278 (by kernel_rfl) rfl
theorem isAw_en:Enters 213:=enters_of Tryz.func213 (by kernel_rfl) rfl
theorem isToC_en:Enters 214:=enters_of Tryz.func214 (by kernel_rfl) rfl
theorem mayP_en:Enters 269:=enters_of Tryz.func269 (by kernel_rfl) rfl
theorem meant_lt {q:Nat→Bool} {ps:List Nat} {y:Nat} (h:y∈meant q ps):y<9:=by
 have:=(List.mem_filter.1 h).1
 simpa using this
theorem meant_len {q:Nat→Bool} {ps:List Nat}:(meant q ps).length≤9:=by
 refine Nat.le_trans (List.length_filter_le _ _) ?_
 simp
set_option maxRecDepth 100000 in
set_option maxHeartbeats 4000000 in
theorem committedE_any (t:Nat) (T:ATx) (hok:T.Ok) (w:World) (ht:t<18446744073709551616) :
  Calls Tryz.prog 275 #[.int .u64 (t:Int),txV T] w fun e w'=>e=.returned (.string (str (be 8 t++meant hasY T.parts)))∧Below w.heap.size w w':=by
 obtain ⟨PS,hPS⟩:∃ PS,PS=T.parts:=⟨_,rfl⟩
 have HP1:=toHid (fun (n l b1 b2:Nat) (hn:2≤n) (W:World)=>shards1P n hn l b1 b2 278 hasY hasY_m hasY_en T hok W)
 have hsf0:=fun (n:Nat) (W:World)=>shards_fn n 278 T hok W
 rw [← hPS] at HP1 ⊢
 clear hPS
 obtain ⟨s,ps,z⟩:=T
 obtain ⟨p0,p1,p2,p3,p4,p5,p6,p7,p8,hps⟩:=nine hok.1
 change ps=_ at hps
 subst hps
 have HSF:=toHid hsf0
 rw [txV_lit]
 obtain ⟨TC,hTC⟩:∃ TC:Array Value,TC=(txC ⟨s,[p0,p1,p2,p3,p4,p5,p6,p7,p8],z⟩).toArray:=⟨_,rfl⟩
 have hTC2:TC=#[.int .i64 (s:Int),.int .u8 (p0:Int),.int .u8 (p1:Int),.int .u8 (p2:Int),.int .u8 (p3:Int),.int .u8 (p4:Int),.int .u8 (p5:Int),.int .u8 (p6:Int),.int .u8 (p7:Int),.int .u8 (p8:Int),.int .u64 (z:Int),.nilIface]:=hTC
 obtain ⟨W0,hW0⟩:∃ W0,W0=w.alloc (.cells #[.int .i64 (s:Int),.int .u8 (p0:Int),.int .u8 (p1:Int),.int .u8 (p2:Int),.int .u8 (p3:Int),.int .u8 (p4:Int),.int .u8 (p5:Int),.int .u8 (p6:Int),.int .u8 (p7:Int),.int .u8 (p8:Int),.int .u64 (z:Int),.nilIface] 297):=⟨_,rfl⟩
 have hfr0:Below w.heap.size w W0:=by rw [hW0];exact (Below.refl _ w).alloc (Nat.le_refl _) _
 have hs0:W0.heap.size=w.heap.size+1:=by rw [hW0];simp
 have r0:W0.heap[w.heap.size]?=some (.cells #[.int .i64 (s:Int),.int .u8 (p0:Int),.int .u8 (p1:Int),.int .u8 (p2:Int),.int .u8 (p3:Int),.int .u8 (p4:Int),.int .u8 (p5:Int),.int .u8 (p6:Int),.int .u8 (p7:Int),.int .u8 (p8:Int),.int .u64 (z:Int),.nilIface] 297 (0,0)):=by rw [hW0];exact heap_alloc_new w _
 have hg:=(callsIn_wide (n:=5)).2 (grow_u64 W0.heap.size (.slice none 0 0) [] t 0 W0 (World.ownsRow_nil _ _ _ _) ht (by omega) (Nat.le_refl _))
 have hro:Fence.wide.round=none:=rfl
 have hf1:Fence.wide.fn 183:=trivial
 have hf2:Fence.wide.fn 270:=trivial
 have hf3:Fence.wide.fn 184:=trivial
 have H0:=toHid (show Below w.heap.size w W0∧W0.heap[w.heap.size]?=some (.cells #[.int .i64 (s:Int),.int .u8 (p0:Int),.int .u8 (p1:Int),.int .u8 (p2:Int),.int .u8 (p3:Int),.int .u8 (p4:Int),.int .u8 (p5:Int),.int .u8 (p6:Int),.int .u8 (p7:Int),.int .u8 (p8:Int),.int .u64 (z:Int),.nilIface] 297 (0,0)) from ⟨hfr0,r0⟩)
 have HTC:=toHid hTC2
 have HTD:=toHid hTC
 clear hsf0 hfr0 r0 hTC hTC2
 refine (callsIn_wide (n:=6)).1 ?_
 refine callsIn_of_wp_marks Tryz.func275 rfl trivial ?_ hro
 simp only [Tryz.ntmps275,List.size_toArray,List.length_cons,List.length_nil,Nat.reduceAdd,Nat.reduceSub,Array.replicate_succ,Array.replicate_zero,List.push_toArray,List.append_toArray,List.nil_append,List.cons_append]
 gi_wp2_with fail
 rw [← hW0]
 clear hW0
 refine hg.mono ?_
 clear hg
 rintro e w1 ⟨v1,rfl,ho1,hb1,ht1⟩
 obtain ⟨g1,c1,rfl⟩:=own_pos ho1 (by omega)
 simp only [Nat.zero_add,List.nil_append] at ho1
 have hz1:=hb1.size
 obtain ⟨W2,hW2⟩:∃ W2,W2=w1.alloc (.cells #[.slice (some ⟨g1,0,none⟩) 8 c1] 164):=⟨_,rfl⟩
 have r2:=(hb1.block w.heap.size (by omega)).trans H0.out.2
 have q0:W2.heap[w.heap.size]?=some (.cells #[.int .i64 (s:Int),.int .u8 (p0:Int),.int .u8 (p1:Int),.int .u8 (p2:Int),.int .u8 (p3:Int),.int .u8 (p4:Int),.int .u8 (p5:Int),.int .u8 (p6:Int),.int .u8 (p7:Int),.int .u8 (p8:Int),.int .u64 (z:Int),.nilIface] 297 (0,0)):=by rw [hW2,Below.heap_alloc _ _ _ (by omega)];exact r2
 have e0:=blk_cell q0 0
 have e1:=blk_cell q0 1
 have e2:=blk_cell q0 2
 have e3:=blk_cell q0 3
 have e4:=blk_cell q0 4
 have e5:=blk_cell q0 5
 have e6:=blk_cell q0 6
 have e7:=blk_cell q0 7
 have e8:=blk_cell q0 8
 have e9:=blk_cell q0 9
 have ea:=blk_cell q0 10
 have eb:=blk_cell q0 11
 simp at e0 e1 e2 e3 e4 e5 e6 e7 e8 e9 ea eb
 have hsf:=HSF.out 5 W2
 rw [txV_lit,← HTD.out] at hsf
 have hs2:W2.heap.size=w1.heap.size+1:=by rw [hW2];simp
 have qb:W2.heap[w1.heap.size]?=some (.cells #[.slice (some ⟨g1,0,none⟩) 8 c1] 164 (0,0)):=by rw [hW2];exact heap_alloc_new w1 _
 have ho2:W2.ownsRow W0.heap.size 5 1 (.slice (some ⟨g1,0,none⟩) 8 c1) 8 (bs (be 8 t)):=by rw [hW2];exact ho1.alloc _
 have hB2:Below W0.heap.size W0 W2:=by rw [hW2];exact hb1.alloc (by omega) _
 have H2:=toHid (show W2.heap[w1.heap.size]?=some (.cells #[.slice (some ⟨g1,0,none⟩) 8 c1] 164 (0,0))∧W2.ownsRow W0.heap.size 5 1 (.slice (some ⟨g1,0,none⟩) 8 c1) 8 (bs (be 8 t))∧Below W0.heap.size W0 W2 from ⟨qb,ho2,hB2⟩)
 rw [hW2] at e0 e1 e2 e3 e4 e5 e6 e7 e8 e9 ea eb
 clear qb ho2 hB2 ho1 hb1 ht1 r2 q0
 gi_wp2_with fail
 rw [← hW2]
 clear hW2 e0 e1 e2 e3 e4 e5 e6 e7 e8 e9 ea eb
 refine hsf.mono ?_
 clear hsf
 rintro e w5 ⟨rfl,hw5⟩
 have hs5:w5.heap.size=w1.heap.size+3:=by rw [hw5];simp;omega
 have hB5:Below W2.heap.size W2 w5:=by rw [hw5];exact ((Below.refl _ W2).alloc (Nat.le_refl _) _).alloc (by simp) _
 have q1:w5.heap[w1.heap.size+1]?=some (.cells TC 297 (0,0)):=by
  rw [hw5,Below.heap_alloc _ _ _ (by simp;omega),← hs2]
  exact heap_alloc_new W2 _
 have q2:w5.heap[w1.heap.size+1+1]?=some (.cells #[fnV 278] 299 (0,0)):=by
  rw [hw5]
  have:=heap_alloc_new (W2.alloc (.cells TC 297)) (.cells #[fnV 278] 299)
  rw [World.size_alloc,hs2] at this
  exact this
 have q3:=(hB5.block w1.heap.size (by omega)).trans H2.out.1
 have q4:w5.ownsRow W0.heap.size 5 1 (.slice (some ⟨g1,0,none⟩) 8 c1) 8 (bs (be 8 t)):=ownsRow_fr H2.out.2.1 (Fr.of_below hB5 []) (by simp)
 have q5:Below W0.heap.size W0 w5:=H2.out.2.2.trans (hB5.mono (by omega))
 clear hw5 hB5 H2
 rw [hs2]
 have hz2:W0.heap.size≤w1.heap.size:=hz1
 gi_wp2
 refine wpIn_range_s (F:=Fence.wide) (n:=6) rfl (by omega) (gf:=310) (lb:=#[.pointer (some ⟨w1.heap.size+1,0,none⟩),.pointer (some ⟨w1.heap.size+1+1,0,none⟩)]) rfl trivial (enters_of Tryz.func310 (by kernel_rfl) rfl)
  (encs:=fun y:Nat=>#[.int .i64 (y:Int)]) (rs:=meant hasY PS) (S:=[w1.heap.size+1,w1.heap.size+1+1]) (fun _=>rfl) (by intro k hk;simp at hk;omega)
  (fun Wx hbx _=>HP1.out 5 _ (w1.heap.size+1) (w1.heap.size+1+1) (by omega) Wx (by rw [← HTD.out];exact (hbx.block _ (by omega)).trans q1) ((hbx.block _ (by omega)).trans q2))
  (fun pre A=>(∃ v,A.heap[w1.heap.size]?=some (.cells #[v] 164 (0,0))∧A.ownsRow W0.heap.size 5 1 v (8+pre.length) (bs (be 8 t++pre)))∧Below W0.heap.size W0 A∧A.heap[w1.heap.size+1]?=some (.cells TC 297 (0,0))∧A.heap[w1.heap.size+1+1]?=some (.cells #[fnV 278] 299 (0,0)))
  (fun Wx hbx=>⟨⟨_,(hbx.block _ (by omega)).trans q3,by simpa using ownsRow_fr q4 (Fr.of_below hbx []) (by simp)⟩,q5.trans (hbx.mono (by omega)),(hbx.block _ (by omega)).trans q1,(hbx.block _ (by omega)).trans q2⟩)
  (fun l A r hs hsA hlo=>by
   obtain ⟨r0,hlo⟩:=hlo
   have hput:Fr [w5.heap.size+1] A (A.putObj (w5.heap.size+1) (.loop r)):=⟨rfl,rfl,rfl,by rw [size_put0];exact Nat.le_refl _,fun j _ hj=>World.putObj_heap_other (by simpa using hj)⟩
   obtain ⟨⟨v,y1,y2⟩,y3,y4,y5⟩:=hs
   refine ⟨⟨v,(World.putObj_heap_other (by omega)).trans y1,ownsRow_fr y2 hput (fun g hg hm=>?_)⟩,y3.trans (hput.below (by omega) (by intro k hk;simp at hk;omega)),(World.putObj_heap_other (by omega)).trans y4,(World.putObj_heap_other (by omega)).trans y5⟩
   simp at hm
   obtain ⟨cc,hc⟩:=own_cells y2 hg
   rw [hm,hlo] at hc;cases hc)
  (fun y a' A=>a'={ tmps:=#[.int .u64 (t:Int),.agg #[.int .i64 (s:Int),.int .u8 (p0:Int),.int .u8 (p1:Int),.int .u8 (p2:Int),.int .u8 (p3:Int),.int .u8 (p4:Int),.int .u8 (p5:Int),.int .u8 (p6:Int),.int .u8 (p7:Int),.int .u8 (p8:Int),.int .u64 (z:Int),.nilIface],undef,.pointer (some ⟨w.heap.size,0,none⟩),.string { data:=#[] },.pointer (some ⟨w1.heap.size,0,none⟩),.int .i64 (y:Int),.int .u64 (t:Int),.slice (some ⟨g1,0,none⟩) 8 c1,.agg #[.int .i64 (s:Int),.int .u8 (p0:Int),.int .u8 (p1:Int),.int .u8 (p2:Int),.int .u8 (p3:Int),.int .u8 (p4:Int),.int .u8 (p5:Int),.int .u8 (p6:Int),.int .u8 (p7:Int),.int .u8 (p8:Int),.int .u64 (z:Int),.nilIface],.func (.func 310) #[] #[.pointer (some ⟨w1.heap.size+1,0,none⟩),.pointer (some ⟨w1.heap.size+1+1,0,none⟩)],.int .i64 (y:Int),undef,undef,undef,undef,undef,undef],defers:=[] })
  (fun y a' A r hs=>hs)
  ?assign ?body ?done
 case assign =>
  have hsem:=@Oper.semAt_some
  rintro pre y A K hI hsA hpre hK
  gi_wp2
  exact hK _ _ hI (KpS.refl _) rfl
 case body =>
  have hsem:=@Oper.semAt_some
  rintro pre y a' A ⟨⟨v,y1,y2⟩,y3,y4,y5⟩ hsA rfl hpre hdf hlo
  have hpl:pre.length+1≤9:=by
   have:=hpre.length_le
   have h9:=meant_len (q:=hasY) (ps:=PS)
   simp at this
   omega
  have hy9:y<9:=meant_lt (hpre.subset (by simp))
  have j1:IntKind.u8.wrap (y:Int)=(y:Int):=by rw [IntKind.wrap_u8];omega
  have hga:=(callsIn_wide (n:=3)).2 (grow_u8 W0.heap.size v (be 8 t++pre) y (8+pre.length) A y2 (by omega) (by omega) (by omega))
  have d0:=blk_cell y1 0
  simp at d0
  have HA:=toHid (show A.heap[w1.heap.size]?=some (.cells #[v] 164 (0,0))∧Below W0.heap.size W0 A∧A.heap[w1.heap.size+1]?=some (.cells TC 297 (0,0))∧A.heap[w1.heap.size+1+1]?=some (.cells #[fnV 278] 299 (0,0))∧A.heap[w5.heap.size]?=some (.deferred (some []))∧(∃ r,A.heap[w5.heap.size+1]?=some (.loop r)) from ⟨y1,y3,y4,y5,hdf,hlo⟩)
  clear y1 y2 y3 y4 y5 hdf hlo
  gi_wp2_with fail
  refine hga.mono ?_
  clear hga
  rintro e A2 ⟨v2,rfl,o2,b2,t2⟩
  rw [be1 (by omega),List.append_assoc] at o2
  obtain ⟨g3,c3,rfl⟩:=own_pos o2 (by omega)
  have z1:=(t2.block w1.heap.size (by omega) (fun c e=>by rw [HA.out.1] at e;cases e)).trans HA.out.1
  have z4:=(t2.block (w1.heap.size+1) (by omega) (fun c e=>by rw [HA.out.2.2.1] at e;cases e)).trans HA.out.2.2.1
  have z5:=(t2.block (w1.heap.size+1+1) (by omega) (fun c e=>by rw [HA.out.2.2.2.1] at e;cases e)).trans HA.out.2.2.2.1
  have z6:=(t2.block w5.heap.size (by omega) (fun c e=>by rw [HA.out.2.2.2.2.1] at e;cases e)).trans HA.out.2.2.2.2.1
  obtain ⟨r,hlo⟩:=HA.out.2.2.2.2.2
  have z7:=(t2.block (w5.heap.size+1) (by omega) (fun c e=>by rw [hlo] at e;cases e)).trans hlo
  have hsz3:=t2.size
  have k0:=blk_cell z1 0
  have f0:=blk_free z1 0
  simp at k0
  obtain ⟨A3,hA3⟩:∃ A3,A3=A2.setCell ⟨w1.heap.size,0,none⟩ (.slice (some ⟨g3,0,none⟩) (8+pre.length+1) c3):=⟨_,rfl⟩
  have hfs:Fr [w1.heap.size] A2 A3:=by rw [hA3];exact Fr.set1 (by simp) _ _
  have m1:A3.heap[w1.heap.size]?=some (.cells #[.slice (some ⟨g3,0,none⟩) (8+pre.length+1) c3] 164 (0,0)):=by
   rw [hA3]
   have:=blk_set z1 0 (.slice (some ⟨g3,0,none⟩) (8+pre.length+1) c3)
   simpa using this
  have m2:A3.ownsRow W0.heap.size 5 1 (.slice (some ⟨g3,0,none⟩) (8+pre.length+1) c3) (8+pre.length+1) (bs (be 8 t++(pre++[y]))):=ownsRow_fr o2 hfs (fun g hg=>by simp;intro e;subst e;exact own_ne o2 z1 (by decide) hg)
  have HN:=toHid (show ((∃ v,A3.heap[w1.heap.size]?=some (.cells #[v] 164 (0,0))∧A3.ownsRow W0.heap.size 5 1 v (8+(pre++[y]).length) (bs (be 8 t++(pre++[y]))))∧Below W0.heap.size W0 A3∧A3.heap[w1.heap.size+1]?=some (.cells TC 297 (0,0))∧A3.heap[w1.heap.size+1+1]?=some (.cells #[fnV 278] 299 (0,0)))∧KpS (w5.heap.size :: (w5.heap.size+1) :: [w1.heap.size+1,w1.heap.size+1+1]) A A3 from
   ⟨⟨⟨_,m1,by rw [List.length_append];exact m2⟩,HA.out.2.1.trans (b2.trans (hfs.below (by omega) (by intro k hk;simp at hk;omega))),(hfs.block _ (by omega) (by simp)).trans z4,(hfs.block _ (by omega) (by simp;omega)).trans z5⟩,Nat.le_trans hsz3 hfs.size,fun k hk hlt=>by
    simp at hk
    rcases hk with rfl | rfl | rfl | rfl
    ·rw [hfs.block _ (by omega) (by simp;omega),z6,HA.out.2.2.2.2.1]
    ·rw [hfs.block _ (by omega) (by simp;omega),z7,hlo]
    ·rw [hfs.block _ (by omega) (by simp),z4,HA.out.2.2.1]
    ·rw [hfs.block _ (by omega) (by simp;omega),z5,HA.out.2.2.2.1]⟩)
  clear o2 b2 t2 z1 z4 z5 z6 z7 hlo m1 m2 hfs HA
  gi_wp2
  rw [← hA3]
  have hn:=HN.out
  simp only [List.length_append,List.length_cons,List.length_nil,Nat.zero_add,hs0,hs5] at hn
  exact hn
 case done =>
  rintro A ⟨⟨v,y1,y2⟩,y3,y4,y5⟩ hsA hK
  obtain ⟨g3,c3,rfl⟩:=own_pos y2 (by omega)
  have d0:=blk_cell y1 0
  simp at d0
  have hcv:=run_str A g3 0 (8+(meant hasY PS).length) c3 (be 8 t++meant hasY PS) (by rw [List.length_append,be_len]) (own_row y2)
  gi_wp2
  refine ⟨by simp,.inl ⟨_,_,rfl,run_takeDeferred hK,?_⟩⟩
  refine ⟨.string (str (be 8 t++meant hasY PS)),by simp [results,Tryz.results275,go_sem],rfl,?_⟩
  have hput:Below w.heap.size A (A.putObj w5.heap.size (.deferred none)):=⟨rfl,rfl,rfl,by rw [size_put0];exact Nat.le_refl _,fun j hj=>World.putObj_heap_other (by omega)⟩
  exact H0.out.1.trans ((y3.mono (by omega)).trans hput)
end Go.Proofs.YtejiankgafjppaaGreatDoor
namespace Go.Proofs.YtejiankgafjppaaGreatDoor
open Go.RowKit Go.Maps
open Sc
def IntsAt (w:World) (g:Nat) (xs:List Nat):Prop:=∀ (k x:Nat),xs[k]?=some x→w.cell? ⟨g,k,none⟩=some (.int .i64 (x:Int))
structure Rising (xs:List Nat):Prop where
 ne:xs≠[]
 up:xs.Pairwise (· < ·)
 b:∀ x∈xs,1≤x∧x≤8
theorem Rising.len {xs:List Nat} (h:Rising xs):xs.length≤8:=by
 have key:∀ (l:List Nat) (lo:Nat),l.Pairwise (· < ·)→(∀ x∈l,lo<x∧x≤8)→l.length+lo≤8∨l=[]:=by
  intro l
  induction l with
  | nil=>intro lo _ _;exact .inr rfl
  | cons a r ih =>
   intro lo hp hb
   obtain ⟨h1,h2⟩:=List.pairwise_cons.1 hp
   have ha:=hb a (by simp)
   left
   rcases ih a h2 (fun x hx=>⟨h1 x hx,(hb x (by simp [hx])).2⟩) with h | h
   ·simp;omega
   ·subst h;simp;omega
 rcases key xs 0 h.up (fun x hx=>⟨(h.b x hx).1,(h.b x hx).2⟩) with e | e
 ·omega
 ·subst e;simp
set_option maxRecDepth 100000 in
set_option maxHeartbeats 2000000 in
theorem rise_any (g cap:Nat) (xs:List Nat) (hr:Rising xs) (w:World) (hx:IntsAt w g xs) :
  Calls Tryz.prog 221 #[.slice (some ⟨g,0,none⟩) xs.length cap] w fun e w'=>e=.returned (.bool true)∧w'=w:=by
 have HR:Hid (Rising xs):=hr
 have HX:Hid (IntsAt w g xs):=hx
 obtain ⟨m,hm⟩:∃ m,m=xs.length:=⟨_,rfl⟩
 have HM:Hid (m=xs.length):=hm
 have hm8:m≤8:=by rw [hm];exact hr.len
 have hm0:0<m:=by rw [hm];exact List.length_pos_iff.2 hr.ne
 rw [← hm]
 clear hr hx hm
 go_enter Tryz.func221,Tryz.ntmps221
 go_wp2
 go_loopw [3,8] (fun L i wr=>∃ k y:Nat,k≤m∧i=.int .i64 k∧L=.int .i64 y∧wr=w∧Hid ((k=0→y=0)∧(∀ j,k=j+1→xs[j]?=some y))) (fun _ i _=>m - (intOf i).toNat)
 case atStart=>exact ⟨0,0,Nat.zero_le _,rfl,rfl,rfl,fun _=>rfl,fun j hj=>by omega⟩
 case round =>
  obtain ⟨k,y,hk,rfl,rfl,rfl,H⟩:=hrel
  by_cases hlt:k<m
  ·obtain ⟨x,hxk⟩:∃ x,xs[k]?=some x:=⟨_,List.getElem?_eq_getElem (by have:=HM.out;omega)⟩
   have ck:=HX.out k x hxk
   have hb:=HR.out.b x (List.mem_of_getElem? hxk)
   have hyx:y<x:=by
    rcases Nat.eq_zero_or_pos k with e | e
    ·rw [H.out.1 e];omega
    ·obtain ⟨j,rfl⟩:∃ j,k=j+1:=⟨k - 1,by omega⟩
     have h1:=H.out.2 j rfl
     obtain ⟨a1,a2⟩:=List.getElem?_eq_some_iff.1 h1
     obtain ⟨b1,b2⟩:=List.getElem?_eq_some_iff.1 hxk
     have:=List.pairwise_iff_getElem.1 HR.out.up j (j+1) a1 b1 (by omega)
     rw [a2,b2] at this
     exact this
   have i1:¬ (x:Int)≤(y:Int):=by omega
   have i2:¬ (8:Int)<(x:Int):=by omega
   have i3:(k:Int)<(m:Int):=by omega
   have HK:Hid (xs[k]?=some x):=hxk
   clear hxk
   go_wp2
   go_roundw
   case rel =>
    have HJ:∀ j,k+1=j+1→xs[j]?=some x:=fun j hj=>by
     have e:j=k:=by omega
     rw [e];exact HK.out
    exact ⟨k+1,x,by omega,by simp,rfl,by simp,fun e=>by omega,HJ⟩
   case measure=>simp [intOf];omega
  ·obtain rfl:k=m:=by omega
   have hy:0<y:=by
    obtain ⟨j,hj⟩:∃ j,k=j+1:=⟨k - 1,by omega⟩
    have:=HR.out.b y (List.mem_of_getElem? (H.out.2 j hj))
    omega
   have i1:(0:Int)<(y:Int):=by omega
   have i3:¬ (k:Int)<(k:Int):=by omega
   go_wp2
   go_ret
   exact ⟨by simp,rfl⟩
def partsL (xs:List Nat) (e:Nat):List Nat:=xs.foldl (fun ps x=>ps.set x e) [0,0,0,0,0,0,0,0,0]
theorem partsL_snoc (xs:List Nat) (x e:Nat):partsL (xs++[x]) e=(partsL xs e).set x e:=by simp [partsL]
theorem partsL_len (xs:List Nat) (e:Nat):(partsL xs e).length=9:=by
 unfold partsL
 have:∀ (l:List Nat) (ps:List Nat),(l.foldl (fun ps x=>ps.set x e) ps).length=ps.length:=by
  intro l
  induction l with
  | nil=>intro ps;rfl
  | cons a r ih=>intro ps;rw [List.foldl_cons,ih];simp
 rw [this];rfl
abbrev u8s (ps:List Nat):Array Value:=(ps.map fun p:Nat=>Value.int .u8 (p:Int)).toArray
set_option maxRecDepth 100000 in
set_option maxHeartbeats 4000000 in
theorem partsOf_any (g cap e0:Nat) (xs:List Nat) (hr:Rising xs) (w:World) (hx:IntsAt w g xs) :
  Calls Tryz.prog 222 #[.slice (some ⟨g,0,none⟩) xs.length cap,.int .u8 (e0:Int)] w fun e w'=>e=.returned (psV (partsL xs e0))∧Fr [] w w':=by
 have HR:Hid (Rising xs):=hr
 have hgl:∀ x,xs[0]?=some x→g<w.heap.size:=fun x h0=>World.block_lt_of_cell? w _ (hx 0 x h0)
 have HX:Hid (IntsAt w g xs):=hx
 obtain ⟨m,hm⟩:∃ m,m=xs.length:=⟨_,rfl⟩
 have HM:Hid (m=xs.length):=hm
 have hm8:m≤8:=by rw [hm];exact hr.len
 have hg:g<w.heap.size:=by
  obtain ⟨x,h0⟩:∃ x,xs[0]?=some x:=⟨_,List.getElem?_eq_getElem (List.length_pos_iff.2 hr.ne)⟩
  exact hgl x h0
 rw [← hm]
 clear hr hx hm hgl
 go_enter Tryz.func222,Tryz.ntmps222
 go_wp2
 obtain ⟨W0,hW0⟩:∃ W0,W0=(w.alloc (.cells #[.int .u8 0,.int .u8 0,.int .u8 0,.int .u8 0,.int .u8 0,.int .u8 0,.int .u8 0,.int .u8 0,.int .u8 0] 295)).alloc (.cells #[.int .u8 0,.int .u8 0,.int .u8 0,.int .u8 0,.int .u8 0,.int .u8 0,.int .u8 0,.int .u8 0,.int .u8 0] 295):=⟨_,rfl⟩
 rw [← hW0]
 have hf0:Fr [] w W0:=by rw [hW0];exact ((Fr.refl [] w).alloc _).alloc _
 have ha0:W0.heap[w.heap.size]?=some (.cells (u8s [0,0,0,0,0,0,0,0,0]) 295 (0,0)):=by rw [hW0,Below.heap_alloc _ _ w.heap.size (by simp)];exact heap_alloc_new w _
 have hb0:W0.heap[w.heap.size+1]?=some (.cells (u8s [0,0,0,0,0,0,0,0,0]) 295 (0,0)):=by
  rw [hW0]
  have:=heap_alloc_new (w.alloc (.cells #[.int .u8 0,.int .u8 0,.int .u8 0,.int .u8 0,.int .u8 0,.int .u8 0,.int .u8 0,.int .u8 0,.int .u8 0] 295)) (.cells #[.int .u8 0,.int .u8 0,.int .u8 0,.int .u8 0,.int .u8 0,.int .u8 0,.int .u8 0,.int .u8 0,.int .u8 0] 295)
  rwa [World.size_alloc] at this
 have HS:Hid (Fr [] w W0∧W0.heap[w.heap.size]?=some (.cells (u8s [0,0,0,0,0,0,0,0,0]) 295 (0,0))∧W0.heap[w.heap.size+1]?=some (.cells (u8s [0,0,0,0,0,0,0,0,0]) 295 (0,0))):=⟨hf0,ha0,hb0⟩
 clear hW0 hf0 ha0 hb0
 go_loopw [10] (fun i wr=>∃ k:Nat,k≤m∧i=.int .i64 k∧Hid (Fr [] w wr∧wr.heap[w.heap.size]?=some (.cells (u8s [0,0,0,0,0,0,0,0,0]) 295 (0,0))∧wr.heap[w.heap.size+1]?=some (.cells (u8s (partsL (xs.take k) e0)) 295 (0,0)))) (fun i _=>m - (intOf i).toNat)
 case atStart=>exact ⟨0,Nat.zero_le _,rfl,HS.out⟩
 case round =>
  obtain ⟨k,hk,rfl,H⟩:=hrel
  by_cases hlt:k<m
  ·obtain ⟨x,hxk⟩:∃ x,xs[k]?=some x:=⟨_,List.getElem?_eq_getElem (by have:=HM.out;omega)⟩
   have ck:=(World.cell?_of_block (a:=⟨g,k,none⟩) (H.out.1.block g hg (by simp))).trans (HX.out k x hxk)
   have hb:=HR.out.b x (List.mem_of_getElem? hxk)
   have hps:=partsL_len (xs.take k) e0
   have dx:=blk_cell H.out.2.2 x
   have fx:=blk_free H.out.2.2 x
   have gx:(u8s (partsL (xs.take k) e0))[x]?=some (.int .u8 (((partsL (xs.take k) e0).getD x 0:Nat):Int)):=by
    have e:(partsL (xs.take k) e0)[x]?=some ((partsL (xs.take k) e0).getD x 0):=by
     rw [List.getD_eq_getElem?_getD,List.getElem?_eq_getElem (by omega)];rfl
    rw [List.getElem?_toArray,List.getElem?_map,e];rfl
   rw [gx] at dx
   have i3:(k:Int)<(m:Int):=by omega
   have i8:(x:Int)<9:=by omega
   have i0:(0:Int)≤(x:Int):=by omega
   obtain ⟨V,hV⟩:∃ V,V=(partsL (xs.take k) e0).getD x 0:=⟨_,rfl⟩
   rw [← hV] at dx
   have HN:Hid (Fr [] w (wr.setCell ⟨w.heap.size+1,x,none⟩ (.int .u8 (e0:Int)))∧(wr.setCell ⟨w.heap.size+1,x,none⟩ (.int .u8 (e0:Int))).heap[w.heap.size]?=some (.cells (u8s [0,0,0,0,0,0,0,0,0]) 295 (0,0))∧(wr.setCell ⟨w.heap.size+1,x,none⟩ (.int .u8 (e0:Int))).heap[w.heap.size+1]?=some (.cells (u8s (partsL (xs.take (k+1)) e0)) 295 (0,0))):=by
    refine ⟨H.out.1.setCell (.inr (by simp)) _,(Below.heap_setCell _ _ _ _ (by show w.heap.size≠w.heap.size+1;omega)).trans H.out.2.1,?_⟩
    have:=blk_set H.out.2.2 x (.int .u8 (e0:Int))
    rw [this]
    have e:xs.take (k+1)=xs.take k++[x]:=by rw [List.take_add_one,hxk];rfl
    rw [e,partsL_snoc]
    simp [u8s,List.map_set]
   clear hxk hps gx hV
   go_wp2
   go_roundw
   case rel=>exact ⟨k+1,by omega,by simp,HN.out⟩
   case measure=>simp [intOf];omega
  ·obtain rfl:k=m:=by omega
   have i3:¬ (k:Int)<(k:Int):=by omega
   have hfin:=H.out.2.2
   rw [HM.out,List.take_length] at hfin
   obtain ⟨q0,q1,q2,q3,q4,q5,q6,q7,q8,hq⟩:=nine (partsL_len xs e0)
   have HQ:Hid (partsL xs e0=[q0,q1,q2,q3,q4,q5,q6,q7,q8]):=hq
   rw [hq] at hfin
   have c0:=blk_cell hfin 0
   have c1:=blk_cell hfin 1
   have c2:=blk_cell hfin 2
   have c3:=blk_cell hfin 3
   have c4:=blk_cell hfin 4
   have c5:=blk_cell hfin 5
   have c6:=blk_cell hfin 6
   have c7:=blk_cell hfin 7
   have c8:=blk_cell hfin 8
   have ha:=H.out.2.1
   have a0:=blk_cell ha 0
   have a1:=blk_cell ha 1
   have a2:=blk_cell ha 2
   have a3:=blk_cell ha 3
   have a4:=blk_cell ha 4
   have a5:=blk_cell ha 5
   have a6:=blk_cell ha 6
   have a7:=blk_cell ha 7
   have a8:=blk_cell ha 8
   simp [u8s] at c0 c1 c2 c3 c4 c5 c6 c7 c8 a0 a1 a2 a3 a4 a5 a6 a7 a8
   have f0:=blk_free ha 0
   have f1:=blk_free ha 1
   have f2:=blk_free ha 2
   have f3:=blk_free ha 3
   have f4:=blk_free ha 4
   have f5:=blk_free ha 5
   have f6:=blk_free ha 6
   have f7:=blk_free ha 7
   have f8:=blk_free ha 8
   have HFB:Hid (wr.heap[w.heap.size]?=some (.cells (u8s [0,0,0,0,0,0,0,0,0]) 295 (0,0))):=ha
   clear hfin hq ha
   go_wp2
   obtain ⟨W9,hW9⟩:∃ W9,W9=(((((((((wr.setCell ⟨w.heap.size,0,none⟩ (.int .u8 (q0:Int))).setCell ⟨w.heap.size,1,none⟩ (.int .u8 (q1:Int))).setCell ⟨w.heap.size,2,none⟩ (.int .u8 (q2:Int))).setCell ⟨w.heap.size,3,none⟩ (.int .u8 (q3:Int))).setCell ⟨w.heap.size,4,none⟩ (.int .u8 (q4:Int))).setCell ⟨w.heap.size,5,none⟩ (.int .u8 (q5:Int))).setCell ⟨w.heap.size,6,none⟩ (.int .u8 (q6:Int))).setCell ⟨w.heap.size,7,none⟩ (.int .u8 (q7:Int))).setCell ⟨w.heap.size,8,none⟩ (.int .u8 (q8:Int))):=⟨_,rfl⟩
   rw [← hW9]
   have hb9:W9.heap[w.heap.size]?=some (.cells #[.int .u8 (q0:Int),.int .u8 (q1:Int),.int .u8 (q2:Int),.int .u8 (q3:Int),.int .u8 (q4:Int),.int .u8 (q5:Int),.int .u8 (q6:Int),.int .u8 (q7:Int),.int .u8 (q8:Int)] 295 (0,0)):=by
    have:=(blk_set (blk_set (blk_set (blk_set (blk_set (blk_set (blk_set (blk_set (blk_set H.out.2.1 0 (.int .u8 (q0:Int))) 1 (.int .u8 (q1:Int))) 2 (.int .u8 (q2:Int))) 3 (.int .u8 (q3:Int))) 4 (.int .u8 (q4:Int))) 5 (.int .u8 (q5:Int))) 6 (.int .u8 (q6:Int))) 7 (.int .u8 (q7:Int))) 8 (.int .u8 (q8:Int)))
    simp [u8s] at this
    rw [hW9];exact this
   have e0:=blk_cell hb9 0
   have e1:=blk_cell hb9 1
   have e2:=blk_cell hb9 2
   have e3:=blk_cell hb9 3
   have e4:=blk_cell hb9 4
   have e5:=blk_cell hb9 5
   have e6:=blk_cell hb9 6
   have e7:=blk_cell hb9 7
   have e8:=blk_cell hb9 8
   simp at e0 e1 e2 e3 e4 e5 e6 e7 e8
   have hf9:Fr [] w W9:=by rw [hW9];exact (((((((((H.out.1.setCell (.inr (Nat.le_refl _)) _).setCell (.inr (Nat.le_refl _)) _).setCell (.inr (Nat.le_refl _)) _).setCell (.inr (Nat.le_refl _)) _).setCell (.inr (Nat.le_refl _)) _).setCell (.inr (Nat.le_refl _)) _).setCell (.inr (Nat.le_refl _)) _).setCell (.inr (Nat.le_refl _)) _).setCell (.inr (Nat.le_refl _)) _)
   exact bodyPost_ret (v:=.agg #[.int .u8 (q0:Int),.int .u8 (q1:Int),.int .u8 (q2:Int),.int .u8 (q3:Int),.int .u8 (q4:Int),.int .u8 (q5:Int),.int .u8 (q6:Int),.int .u8 (q7:Int),.int .u8 (q8:Int)]) (by simp [results,Tryz.results222,go_sem,e0,e1,e2,e3,e4,e5,e6,e7,e8]) rfl ⟨by rw [HQ.out];rfl,hf9⟩
end Go.Proofs.YtejiankgafjppaaGreatDoor
namespace Go.Proofs.YtejiankgafjppaaGreatDoor
open Go.RowKit Go.Shelf Go.Maps
open Sc
theorem getD_set {ps:List Nat} {k p:Nat} (hk:k<ps.length) (j:Nat):(ps.set k p).getD j 0=if j=k then p else ps.getD j 0:=by
 rw [List.getD_eq_getElem?_getD,List.getD_eq_getElem?_getD,List.getElem?_set]
 by_cases h:k=j
 ·subst h;simp [hk]
 ·rw [if_neg h,if_neg (fun e=>h e.symm)]
theorem set_ok {t:ATx} {k p:Nat} (h:t.Ok) (hp:p<256):ATx.Ok { t with parts:=t.parts.set k p } :=
 ⟨by simp [h.1],fun x hx=>by
  rcases List.mem_or_eq_of_mem_set hx with e | e
  ·exact h.2 x e
  ·rw [e];exact hp⟩
theorem partsL_lt {xs:List Nat} {e:Nat} (he:e<256):∀ p∈partsL xs e,p<256:=by
 have:∀ (l ps:List Nat),(∀ p∈ps,p<256)→∀ p∈l.foldl (fun ps x=>ps.set x e) ps,p<256:=by
  intro l
  induction l with
  | nil=>intro ps h;exact h
  | cons a r ih =>
   intro ps h
   rw [List.foldl_cons]
   refine ih _ (fun p hp=>?_)
   rcases List.mem_or_eq_of_mem_set hp with e1 | e1
   ·exact h p e1
   ·rw [e1];exact he
 exact this xs _ (by decide)
theorem partsL_ok (xs:List Nat) (s e z:Nat) (he:e<256):ATx.Ok ⟨s,partsL xs e,z⟩:=⟨partsL_len xs e,partsL_lt he⟩
theorem tx_put (c:ACo) (t:Nat) (T:ATx):({ c with txns:=alPut c.txns t T }:ACo).tx t=T:=by
 unfold ACo.tx
 rw [alLook_put,if_pos rfl];rfl
def ACo.asked (c:ACo) (t:Nat) (xs:List Nat):ACo:={ c with txns:=alPut c.txns t ⟨5,partsL xs 1,c.ticks⟩,out:=c.out++(meant isAw (partsL xs 1)).map fun k=>(t,k,1) }
def ACo.aborted (c:ACo) (t:Nat):ACo:={ c with txns:=alDel c.txns t,res:=c.res++[(t,6)],out:=c.out++(meant mayP (c.tx t).parts).map fun k=>(t,k,6) }
set_option maxRecDepth 100000 in
set_option maxHeartbeats 4000000 in
theorem cCommit_any (B cp lg bT n t g cap:Nat) (xs:List Nat) (c:ACo) (w:World) (h:CoIn w B cp lg bT n c) (ht:t<18446744073709551616) (hst:(c.tx t).state=4) (hr:Rising xs) (hx:IntsAt w g xs) (hn:n+10<67108864) :
  Calls Tryz.prog 164 #[.pointer (some ⟨cp,0,none⟩),.int .u64 (t:Int),.slice (some ⟨g,0,none⟩) xs.length cap] w fun e w'=>e=.returned .nilIface∧CoIn w' B cp lg bT (n+10) (c.asked t xs)∧RFr cp [cp,bT] w w':=by
 have hs:=status_any B cp lg bT n t c w h ht
 rw [hst] at hs
 have hri:=rise_any g cap xs hr w hx
 have hpo:=partsOf_any g cap 1 xs hr w.drew hx
 obtain ⟨q0,q1,q2,q3,q4,q5,q6,q7,q8,hq⟩:=nine (partsL_len xs 1)
 have hlit:psV (partsL xs 1)=.agg #[.int .u8 (q0:Int),.int .u8 (q1:Int),.int .u8 (q2:Int),.int .u8 (q3:Int),.int .u8 (q4:Int),.int .u8 (q5:Int),.int .u8 (q6:Int),.int .u8 (q7:Int),.int .u8 (q8:Int)]:=by rw [hq];rfl
 rw [hlit] at hpo
 have hput:∀ W,Fr [] w W→∃ w5,(Instr.mapUpdate 224 (.map (some bT)) (.int .u64 (t:Int)) (.agg #[.int .i64 5,.int .u8 (q0:Int),.int .u8 (q1:Int),.int .u8 (q2:Int),.int .u8 (q3:Int),.int .u8 (q4:Int),.int .u8 (q5:Int),.int .u8 (q6:Int),.int .u8 (q7:Int),.int .u8 (q8:Int),.int .u64 (c.ticks:Int),.nilIface])).run Tryz.prog W=.ok () w5∧CoIn w5 B cp lg bT (n+1) { c with txns:=alPut c.txns t ⟨5,partsL xs 1,c.ticks⟩ }∧Fr [bT] W w5:=by
  intro W hW
  have h2:=h.new hW
  obtain ⟨w5,hr5,hm5,hg5⟩:=h2.txns.putRun Tryz.underlying224 (by unfold maxLen;omega) (k:=t) ht (v:=(⟨5,partsL xs 1,c.ticks⟩:ATx)) (partsL_ok xs 5 1 c.ticks (by decide))
  refine ⟨w5,?_,h2.setTxns (Fr.of_grown1 hg5) hm5 (by omega),Fr.of_grown1 hg5⟩
  have e:(EX.ev ⟨5,partsL xs 1,c.ticks⟩:Value)=txV ⟨5,partsL xs 1,c.ticks⟩:=rfl
  rw [e,hq,txV_lit] at hr5
  exact hr5
 obtain ⟨rv,ov,h1,_⟩:=h.ex
 have c1:=blk_cell h1 1
 have c4:=blk_cell h1 4
 simp at c1 c4
 have hcl:=h.lts
 have HP:=toHid hput
 have HS:=toHid (fun (W:World) (hW:CoIn W B cp lg bT (n+1) { c with txns:=alPut c.txns t ⟨5,partsL xs 1,c.ticks⟩ })=>send_any B cp lg bT (n+1) t 213 isAw isAw_m isAw_en 1 { c with txns:=alPut c.txns t ⟨5,partsL xs 1,c.ticks⟩ } W hW ht (by omega))
 clear hput hlit hq h1 hx h
 go_enter Tryz.func164,Tryz.ntmps164
 go_wp2_with fail
 refine hs.mono ?_
 clear hs
 rintro e w1 ⟨rfl,hw1⟩
 subst hw1
 go_wp2_with fail
 refine hri.mono ?_
 clear hri
 rintro e w2 ⟨rfl,hw2⟩
 subst hw2
 go_wp2
 go_region_held3 (fun w'=>w'.cell? ⟨cp,1,none⟩=some (.map (some bT))∧w'.cell? ⟨cp,4,none⟩=some (.int .u64 (c.ticks:Int)))
  (simp [*])
  (first | (go_at_call 222;refine hpo.mono ?_;rintro e w4 ⟨rfl,hf4⟩;have z1:=(World.cell?_of_block (a:=⟨cp,1,none⟩) (hf4.block cp hcl.1 (by simp))).trans c1;have z4:=(World.cell?_of_block (a:=⟨cp,4,none⟩) (hf4.block cp hcl.1 (by simp))).trans c4;obtain ⟨w5,hr5,hc5,hf5⟩:=HP.out w4 ⟨hf4.os,hf4.tape,hf4.output,hf4.size,hf4.block⟩;have y1:=(World.cell?_of_block (a:=⟨cp,1,none⟩) (hf5.block cp (Nat.lt_of_lt_of_le hcl.1 hf4.size) (by simpa using hcl.2.2))).trans z1;have y4:=(World.cell?_of_block (a:=⟨cp,4,none⟩) (hf5.block cp (Nat.lt_of_lt_of_le hcl.1 hf4.size) (by simpa using hcl.2.2))).trans z4;have H5:=toHid (And.intro hc5 (And.intro hf4 hf5));clear hc5 hf4 hf5))
 have hse:=HS.out w5 H5.out.1
 go_wp2_with fail
 refine hse.mono ?_
 clear hse
 rintro e w6 ⟨rfl,hc6,hf6⟩
 have HN:=toHid (show CoIn w6 B cp lg bT (n+10) (c.asked t xs)∧RFr cp [cp,bT] w2 w6 from ⟨by rw [tx_put] at hc6;exact hc6.mono (by omega),by
  have k1:Fr [] w2 w4:=⟨H5.out.2.1.os,H5.out.2.1.tape,H5.out.2.1.output,H5.out.2.1.size,H5.out.2.1.block⟩
  have k2:RFr cp [cp,bT] w2 w4:=k1.r hcl.1 (by simp) (by simp)
  have k3:RFr cp [cp,bT] w4 w5:=H5.out.2.2.r (Nat.lt_of_lt_of_le hcl.1 k1.size) (by simpa using hcl.2.2) (by simp)
  exact RFr.trans (RFr.trans k2 k3) (RFr.mono hf6 (by simp))⟩)
 clear hc6 hf6
 go_wp2
 go_ret
 exact ⟨rfl,HN.out⟩
theorem alDel_put {K V:Type} [DecidableEq K] (l:List (K × V)) (k:K) (v:V):alDel (alPut l k v) k=alDel l k:=by
 unfold alPut alDel
 simp
set_option maxRecDepth 100000 in
set_option maxHeartbeats 4000000 in
theorem cabort_any (B cp lg bT n t:Nat) (c:ACo) (w:World) (h:CoIn w B cp lg bT n c) (ht:t<18446744073709551616) (hn:n+10<67108864) :
  Calls Tryz.prog 211 #[.pointer (some ⟨cp,0,none⟩),.int .u64 (t:Int)] w fun e w'=>e=.returned (.tuple #[])∧CoIn w' B cp lg bT (n+10) (c.aborted t)∧RFr cp [cp,bT] w w':=by
 have hb:=became_any B cp lg bT n t 6 c w h (by omega)
 clear h
 go_enter Tryz.func211,Tryz.ntmps211
 go_wp2_with fail
 refine hb.mono ?_
 clear hb
 rintro e w1 ⟨rfl,hc1,hf1⟩
 have hs:=send_any B cp lg bT (n+1) t 269 mayP mayP_m mayP_en 6 { c with res:=c.res++[(t,6)] } w1 hc1 ht (by omega)
 have H1:=toHid hf1
 clear hc1 hf1
 go_wp2_with fail
 refine hs.mono ?_
 clear hs
 rintro e w2 ⟨rfl,hc2,hf2⟩
 obtain ⟨rv,ov,h1,_⟩:=hc2.ex
 have c1:=blk_cell h1 1
 simp at c1
 obtain ⟨c2,hcc2⟩:∃ c2:ACo,c2={ c with res:=c.res++[(t,6)],out:=c.out++(meant mayP (c.tx t).parts).map fun k=>(t,k,6) }:=⟨_,rfl⟩
 have hc2':CoIn w2 B cp lg bT (n+1+9) c2:=by rw [hcc2];exact hc2
 have H2:=toHid (show CoIn w2 B cp lg bT (n+1+9) c2∧RFr cp [cp] w w2 from ⟨hc2',RFr.trans H1.out hf2⟩)
 have HC2:=toHid hcc2
 clear hc2 hc2' hcc2 hf2 h1
 go_wp2_with (first
  | (at_delete;refine wpList_map_del (KR:=KU) (ER:=EX) rfl _ _ 224 297 rfl Tryz.underlying224 bT (n+1+9) c2.txns rfl H2.out.1.txns t ht rfl ?_;intro w3 hm3 hg3)
  | fail)
 have hin3:=H2.out.1.setTxns (Fr.of_grown1 hg3) hm3 (Nat.le_refl _)
 go_end0
 refine ⟨rfl,?_,RFr.trans (RFr.mono H2.out.2 (by simp)) ((Fr.of_grown1 hg3).r H2.out.1.lts.1 (by simpa using H2.out.1.lts.2.2) (by simp))⟩
 have:=hin3.mono (m:=n+10) (by omega)
 rw [HC2.out] at this
 exact this
set_option maxRecDepth 100000 in
set_option maxHeartbeats 4000000 in
theorem ccommit_none (B cp lg bT n t:Nat) (c:ACo) (T:ATx) (hok:T.Ok) (hno:T.parts.any hasY=false) (w:World) (h:CoIn w B cp lg bT n c) (ht:t<18446744073709551616) (hn:n+10<67108864) :
  Calls Tryz.prog 227 #[.pointer (some ⟨cp,0,none⟩),.int .u64 (t:Int),txV T] w fun e w'=>e=.returned .nilIface∧CoIn w' B cp lg bT (n+10) { c with txns:=alDel c.txns t,res:=c.res++[(t,5)] }∧RFr cp [cp,bT] w w':=by
 have hha:=fun W=>has_any 278 hasY hasY_m hasY_en T hok W
 rw [hno] at hha
 have HH:=toHid hha
 obtain ⟨s,ps,z⟩:=T
 obtain ⟨p0,p1,p2,p3,p4,p5,p6,p7,p8,hps⟩:=nine hok.1
 change ps=_ at hps
 subst hps
 rw [txV_lit]
 obtain ⟨W0,hW0⟩:∃ W0,W0=w.alloc (.cells #[.int .i64 (s:Int),.int .u8 (p0:Int),.int .u8 (p1:Int),.int .u8 (p2:Int),.int .u8 (p3:Int),.int .u8 (p4:Int),.int .u8 (p5:Int),.int .u8 (p6:Int),.int .u8 (p7:Int),.int .u8 (p8:Int),.int .u64 (z:Int),.nilIface] 297):=⟨_,rfl⟩
 have hf0:Fr [] w W0:=by rw [hW0];exact (Fr.refl [] w).alloc _
 have hh0:=HH.out W0
 rw [txV_lit] at hh0
 have HL:Hid (cp<w.heap.size):=h.lts.1
 have H0:=toHid (show CoIn W0 B cp lg bT n c∧Fr [] w W0 from ⟨h.new hf0,hf0⟩)
 clear hha h hf0 hno hok
 go_enter Tryz.func227,Tryz.ntmps227
 go_wp2_with fail
 rw [← hW0]
 clear hW0
 refine hh0.mono ?_
 clear hh0
 rintro e w1 ⟨rfl,hf1⟩
 have hb:=became_any B cp lg bT n t 5 c w1 (H0.out.1.new hf1) (by omega)
 have H1:=toHid (H0.out.2.trans hf1)
 clear hf1
 go_wp2_with fail
 refine hb.mono ?_
 clear hb
 rintro e w2 ⟨rfl,hc2,hf2⟩
 obtain ⟨rv,ov,h1,_⟩:=hc2.ex
 have c1:=blk_cell h1 1
 simp at c1
 have H2:=toHid (show CoIn w2 B cp lg bT (n+1) { c with res:=c.res++[(t,5)] }∧RFr cp [cp] w w2 from ⟨hc2,RFr.trans (H1.out.r HL.out (by simp) (by simp)) hf2⟩)
 clear hc2 hf2 h1
 go_wp2_with (first
  | (at_delete;refine wpList_map_del (KR:=KU) (ER:=EX) rfl _ _ 224 297 rfl Tryz.underlying224 bT (n+1) c.txns rfl H2.out.1.txns t ht rfl ?_;intro w3 hm3 hg3)
  | fail)
 have hin3:=H2.out.1.setTxns (Fr.of_grown1 hg3) hm3 (Nat.le_refl _)
 have H3:=toHid (show CoIn w3 B cp lg bT (n+10) { c with txns:=alDel c.txns t,res:=c.res++[(t,5)] }∧RFr cp [cp,bT] w w3 from ⟨hin3.mono (by omega),RFr.trans (RFr.mono H2.out.2 (by simp)) ((Fr.of_grown1 hg3).r H2.out.1.lts.1 (by simpa using H2.out.1.lts.2.2) (by simp))⟩)
 clear hin3 hm3 hg3
 go_wp2
 go_ret
 exact ⟨rfl,H3.out⟩
end Go.Proofs.YtejiankgafjppaaGreatDoor
