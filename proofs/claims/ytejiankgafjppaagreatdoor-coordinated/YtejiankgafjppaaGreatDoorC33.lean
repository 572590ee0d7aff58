import Derived.Test.YtejiankgafjppaaGreatDoorC18
import Derived.Test.YtejiankgafjppaaGreatDoorC21
import Derived.Test.YtejiankgafjppaaGreatDoorC17
import Derived.Test.YtejiankgafjppaaGreatDoorC01
import Derived.RangeFuncKeeps
import Derived.Shelf.Abstract
import Derived.Shelf.AbstractIn
import Derived.WalkKit
import Derived.OwnWalkIn
import Derived.TacticsInMore
import Derived.LoopNIn
import Derived.LoopIn
import Derived.RangeFuncNested
import Derived.RangeFuncBox
import Derived.RangeFuncBound
import Derived.RangeFuncCalls
import Derived.RangeFuncLeaves
import Derived.Shelf.RegionOpen
import Derived.Maps.AppendAt
namespace Go.Proofs.YtejiankgafjppaaGreatDoor
open Go.RowKit Go.Maps Go.Shelf
open Sc
set_option maxHeartbeats 1000000 in
theorem keysX_fn (n:Nat) (b:Nat) (w:World) :
  CallsIn Fence.wide n Tryz.prog 267 #[.map (some b)] w fun e w'=>e=.returned (.func (.func 309) #[] #[.pointer (some ⟨w.heap.size,0,none⟩)])∧w'=w.alloc (.cells #[.map (some b)] 224):=by
 refine callsIn_of_wp Tryz.func267 rfl trivial ?_ rfl
 simp only [Tryz.ntmps267,List.size_toArray,List.length_cons,List.length_nil,Nat.reduceAdd,Nat.reduceSub,Array.replicate_succ,Array.replicate_zero,List.push_toArray,List.append_toArray,List.nil_append,List.cons_append]
 gi_wp2
 go_ret
 exact ⟨rfl,rfl⟩
set_option maxRecDepth 100000 in
set_option maxHeartbeats 2000000 in
theorem keysX_in (n:Nat) (hn:1≤n) (l Bn b m:Nat) (L:List (Nat × ATx)) (W:World) (J Jx:List Nat→World→Prop) (hJ:AbidesFrom W.heap.size J)
  (hY:∀ pre (x:Nat) W1,J pre W1→pre.length<L.length→YieldAt Fence.wide (n - 1) Tryz.prog l #[.int .u64 (x:Int)] W1 fun e W' =>
   (e=.returned (.bool true)∧J (pre++[x]) W'∧KeepsWalks W1 W')∨(e=.returned (.bool false)∧Jx (pre++[x]) W'))
  (hBn:W.cell? ⟨Bn,0,none⟩=some (.map (some b))) (hL:MapAs KU EX W b m L) (h0:J [] W) :
  CallsIn Fence.wide n Tryz.prog 309 #[.func (.yield l) #[] #[],.pointer (some ⟨Bn,0,none⟩)] W fun e W'=>(∃ v,e=.returned v) ∧
   ((∃ ys,ys.Perm (L.map (·.1))∧J ys W')∨(∃ pre,True∧Jx pre W')):=by
 have hro:Fence.wide.round=none:=rfl
 have hfM:Fence.wide.fn 309:=trivial
 have HL:Hid (MapAs KU EX W b m L):=hL
 have HJ:Hid (AbidesFrom W.heap.size J):=hJ
 clear hL hJ
 refine callsIn_of_wp Tryz.func309 rfl hfM ?_ hro
 simp only [Tryz.ntmps309,List.size_toArray,List.length_cons,List.length_nil,Nat.reduceAdd,Nat.reduceSub,Array.replicate_succ,Array.replicate_zero,List.push_toArray,List.append_toArray,List.nil_append,List.cons_append]
 gi_wp2_with (first
  | (gi_at_range;refine wpListIn_map_range (KR:=KU) (ER:=EX) rfl _ 224 297 rfl Tryz.underlying224 b m L rfl HL.out ?_;intro w0 hrg0 hg0 hs0)
  | gi_in)
 go_frame
 have HS:Hid (RangesAs KU EX w0 b W.heap.size m L L∧J [] w0):=⟨hrg0,HJ.out [] W w0 none h0 hg0 (fun r e=>by cases e)⟩
 clear hrg0 hg0
 gi_loopw [3] (fun _ wr=>∃ rem ss,Hid (RangesAs KU EX wr b W.heap.size m L rem∧(ss++rem.map (·.1)).Perm (L.map (·.1))∧J ss wr))
  (fun _ wr=>wr.rangeLeft b W.heap.size)
 case atStart=>exact ⟨L,[],HS.out.1,by simp,HS.out.2⟩
 case round =>
  obtain ⟨rem,ss,HX⟩:=hrel
  have hrg:=HX.out.1
  gi_wp2_with (first
   | (gi_at_next;refine wpListIn_map_next (KR:=KU) (ER:=EX) rfl _ rfl b W.heap.size m L rem rfl hrg ?_ ?_)
   | gi_in)
  ·intro hnil
   gi_wp2
   go_end0
   exact ⟨⟨_,rfl⟩,.inl ⟨ss,by have:=HX.out.2.1;rw [hnil] at this;simpa using this,HX.out.2.2⟩⟩
  ·intro k v w2 hm hrg2 hlt hg2 hs2 hen
   have hJ2:J ss w2:=HJ.out ss wr w2 (some W.heap.size) HX.out.2.2 hg2 (fun r e=>by cases e;exact ⟨Nat.le_refl _,hrg.iter⟩)
   have hpm:(ss++[k]++(alDel rem k).map (·.1)).Perm (L.map (·.1)):=by
    refine List.Perm.trans ?_ HX.out.2.1
    rw [List.append_assoc]
    exact (((del_perm hrg.once hm).map (·.1)).symm).append_left ss
   have hlen:ss.length<L.length:=by
    have:=hpm.length_eq
    simp at this
    omega
   obtain ⟨fn,tmps,assign,body,hy,hR⟩:=hY ss k w2 hJ2 hlen
   have HN:Hid (RangesAs KU EX w2 b W.heap.size m L (alDel rem k)∧(ss++[k]++(alDel rem k).map (·.1)).Perm (L.map (·.1))∧w2.rangeLeft b W.heap.size<wr.rangeLeft b W.heap.size):=⟨hrg2,hpm,hlt⟩
   change (Instr.entry _).run _ _=.ok (.tuple #[.int .u64 (k:Int),txV v]) _ at hen
   clear hs2 hrg hrg2 hpm hlt hm hg2 hJ2
   gi_wp2
   refine hR.mono ?_
   rintro e W3 (⟨rfl,hJ3,hk3⟩ | ⟨rfl,hJx3⟩)
   ·obtain ⟨hr3,hl3⟩:=HN.out.1.walks hk3
    have HN3:Hid (RangesAs KU EX W3 b W.heap.size m L (alDel rem k)∧(ss++[k]++(alDel rem k).map (·.1)).Perm (L.map (·.1))∧J (ss++[k]) W3∧W3.rangeLeft b W.heap.size<wr.rangeLeft b W.heap.size):=⟨hr3,HN.out.2.1,hJ3,by rw [hl3];exact HN.out.2.2⟩
    clear hr3 hl3 hk3 hJ3
    gi_wp2
    go_roundw
    case rel=>exact ⟨_,_,HN3.out.1,HN3.out.2.1,HN3.out.2.2.1⟩
    case measure=>exact HN3.out.2.2.2
   ·gi_wp2
    refine bodyPost_ret (results_none rfl _ _ _) rfl ?_
    exact ⟨⟨_,rfl⟩,.inr ⟨_,trivial,hJx3⟩⟩
theorem keysX_stops (n:Nat) (hn:1≤n) (Bn b m:Nat) (L:List (Nat × ATx)) (w:World) (hBl:Bn<w.heap.size) (hBn:w.cell? ⟨Bn,0,none⟩=some (.map (some b))) (hL:MapAs KU EX w b m L) :
  SeqStopsK Fence.wide n Tryz.prog 309 #[.pointer (some ⟨Bn,0,none⟩)] (fun x:Nat=>#[.int .u64 (x:Int)]) KeepsWalks (fun ys=>ys.Perm (L.map (·.1))) (fun _=>True) L.length w:=fun l J Jx W hW hJ _ hY h0 =>
 keysX_in n hn l Bn b m L W J Jx hJ hY ((hW.cell (p:=⟨Bn,0,none⟩) hBl).trans hBn) (hL.fr (S:=[]) ⟨hW.os,hW.tape,hW.output,hW.size,fun k hk _=>hW.block k hk⟩ (by simp)) h0
def ptOf (t:ATx) (i:Nat):Nat:=t.parts.getD i 0
theorem sortedKeysX (n:Nat) (hn:5≤n) (b m:Nat) (L:List (Nat × ATx)) (hl:L.length≤12) (w:World) (hL:MapAs KU EX w b m L) :
  CallsIn Fence.wide n Tryz.prog 196 #[.func (.func 309) #[] #[.pointer (some ⟨w.heap.size,0,none⟩)]] (w.alloc (.cells #[.map (some b)] 224)) fun e w'=>∃ v ss,e=.returned v∧ss.Perm (L.map (·.1))∧ss.Pairwise (·≤·)∧w'.ownsRow w.heap.size 34 1 v L.length (u64s ss)∧(v=.slice none 0 0↔L.length=0)∧Below w.heap.size w w':=by
 have hb0:Below w.heap.size w (w.alloc (.cells #[.map (some b)] 224)):=(Below.refl _ w).alloc (Nat.le_refl _) _
 have hL1:MapAs KU EX (w.alloc (.cells #[.map (some b)] 224)) b m L:=hL.fr ((Fr.refl [] w).alloc _) (by simp)
 have hs:=keysX_stops (n - 1 - 1 - 1) (by omega) w.heap.size b m L _ (by simp) (by rw [cell_blk0 (World.alloc_heap_new w (.cells #[.map (some b)] 224))];rfl) hL1
 refine (sortedU_in n hn _ _ trivial (enters_of Tryz.func309 (by kernel_rfl) rfl) (L.map (·.1)) L.length hl (by simp) _ hs).mono ?_
 rintro e w' ⟨v,ss,rfl,h1,h2,h3,h4,h5⟩
 have hlen:ss.length=L.length:=by rw [h1.length_eq,List.length_map]
 rw [hlen] at h3
 refine ⟨v,ss,rfl,h1,h2,own_base0 h3 (by simp),?_,hb0.trans (h5.mono (by simp))⟩
 rw [h4,← hlen];exact List.length_eq_zero_iff.symm
abbrev elX (g:ATx):List Value:=[.int .i64 (g.state:Int),.int .u8 ((ptOf g 0:Nat):Int),.int .u8 ((ptOf g 1:Nat):Int),.int .u8 ((ptOf g 2:Nat):Int),.int .u8 ((ptOf g 3:Nat):Int),.int .u8 ((ptOf g 4:Nat):Int),.int .u8 ((ptOf g 5:Nat):Int),.int .u8 ((ptOf g 6:Nat):Int),.int .u8 ((ptOf g 7:Nat):Int),.int .u8 ((ptOf g 8:Nat):Int),.int .u64 (g.since:Int),.nilIface]
def elsX (l:List ATx):List Value:=l.flatMap elX
theorem elsX_snoc (l:List ATx) (g:ATx):elsX (l++[g])=elsX l++elX g:=by simp [elsX]
theorem elsX_at:∀ (l:List ATx) (k:Nat) (g:ATx),l[k]?=some g→∀ i,i<12→(elsX l)[k*12+i]?=(elX g)[i]?
 | [],k,g,h=>by simp at h
 | x :: l,0,g,h=>by
  simp at h
  subst h
  intro i hi
  unfold elsX
  rw [List.flatMap_cons,Nat.zero_mul,Nat.zero_add,List.getElem?_append_left (by simpa using hi)]
 | x :: l,k+1,g,h=>by
  intro i hi
  have:=elsX_at l k g (by simpa using h) i hi
  unfold elsX at this ⊢
  rw [List.flatMap_cons,List.getElem?_append_right (by simp;omega),← this]
  congr 1
  simp
  omega
theorem txV_get (t:ATx) (h:t.Ok):txV t=.agg #[.int .i64 (t.state:Int),.int .u8 ((ptOf t 0:Nat):Int),.int .u8 ((ptOf t 1:Nat):Int),.int .u8 ((ptOf t 2:Nat):Int),.int .u8 ((ptOf t 3:Nat):Int),.int .u8 ((ptOf t 4:Nat):Int),.int .u8 ((ptOf t 5:Nat):Int),.int .u8 ((ptOf t 6:Nat):Int),.int .u8 ((ptOf t 7:Nat):Int),.int .u8 ((ptOf t 8:Nat):Int),.int .u64 (t.since:Int),.nilIface]:=by
 obtain ⟨s,ps,z⟩:=t
 obtain ⟨p0,p1,p2,p3,p4,p5,p6,p7,p8,hp⟩:=nine h.1
 change ps=_ at hp
 subst hp
 rfl
theorem Tryz.infoBX:(Tryz.prog.info? 297).map (fun i=>(i.zero,i.size,i.bytes))=some (some (.agg #[.int .i64 0,.int .u8 0,.int .u8 0,.int .u8 0,.int .u8 0,.int .u8 0,.int .u8 0,.int .u8 0,.int .u8 0,.int .u8 0,.int .u64 0,.nilIface]),12,48):=by kernel_rfl
theorem Tryz.lenUX (p:Option Addr) (n c:Nat) (w:World):(Builtin.len_ #[56] 3 #[.slice p n c]).run Tryz.prog w=.ok (.int .i64 n) w:=by simp [Builtin.len_,run_underlying Tryz.underlying56,goInt]
def atX (L:List (Nat × ATx)) (ss:List Nat):List (Nat × ATx):=ss.map fun k=>(k,(alLook L k).getD tx0)
set_option maxRecDepth 100000 in
set_option maxHeartbeats 4000000 in
theorem byKeysX_in (n:Nat) (hn:6≤n) (l Bn b m:Nat) (L:List (Nat × ATx)) (hl12:L.length≤12) (W:World) (Kp:World→World→Prop) (Pk:Nat→World→Prop)
  (hP0:∀ k A,W.heap.size≤k→Below W.heap.size W A→Pk k A)
  (hP2:∀ k A B c t,(t=34∨t=297)→Kp A B→A.heap[k]?=some (.cells c t (0,0))→Pk k A→B.heap[k]?=A.heap[k]?∧Pk k B)
  (J Jx:List (Nat × ATx)→World→Prop)
  (hJ:∀ s A B,J s A→A.grownBy B none→J s B)
  (hY:∀ pre x W1,J pre W1→pre.length<L.length→x∈L→(∃ ss:List Nat,ss.Perm (L.map (·.1))∧ss.Pairwise (·≤·)∧pre++[x] <+: atX L ss)→YieldAt Fence.wide (n - 1) Tryz.prog l #[.int .u64 (x.1:Int),txV x.2] W1 fun e W' =>
   (e=.returned (.bool true)∧J (pre++[x]) W'∧Kp W1 W')∨(e=.returned (.bool false)∧Jx (pre++[x]) W'))
  (hBn:W.cell? ⟨Bn,0,none⟩=some (.map (some b))) (hL:MapAs KU EX W b m L) (h0:J [] W) :
  CallsIn Fence.wide n Tryz.prog 266 #[.func (.yield l) #[] #[],.pointer (some ⟨Bn,0,none⟩)] W fun e W'=>(∃ v,e=.returned v) ∧
   ((∃ ss,ss.Perm (L.map (·.1))∧ss.Pairwise (·≤·)∧J (atX L ss) W')∨(∃ pre,True∧Jx pre W')):=by
 have hBl:Bn<W.heap.size:=World.block_lt_of_cell? W ⟨Bn,0,none⟩ hBn
 have cK:=keysX_fn (n - 1) b W
 have cS:=sortedKeysX (n - 1) (by omega) b m L hl12 W hL
 obtain ⟨i0,hi,hz0,hz1,hz2⟩:=info_parts Tryz.infoBX
 have hfK:Fence.wide.fn 267:=trivial
 have hfS:Fence.wide.fn 196:=trivial
 have hfM:Fence.wide.fn 266:=trivial
 have hro:Fence.wide.round=none:=rfl
 have h1:1≤n:=by omega
 have hlenS:=Tryz.lenUX
 have HL:Hid (MapAs KU EX W b m L):=hL
 have HB:Hid (Bn<W.heap.size∧W.cell? ⟨Bn,0,none⟩=some (.map (some b))):=⟨hBl,hBn⟩
 obtain ⟨m0,hm0⟩:∃ m0,m0=L.length:=⟨_,rfl⟩
 have HM:Hid (m0=L.length):=hm0
 rw [← hm0] at cS hl12
 have hm00:m0≤67108864:=by omega
 clear hL hm0
 refine callsIn_of_wp Tryz.func266 rfl hfM ?_ hro
 simp only [Tryz.ntmps266,List.size_toArray,List.length_cons,List.length_nil,Nat.reduceAdd,Nat.reduceSub,Array.replicate_succ,Array.replicate_zero,List.push_toArray,List.append_toArray,List.nil_append,List.cons_append]
 gi_wp2_with (first
  | (gi_at_call 267;refine cK.mono ?_;rintro e w0 ⟨rfl,rfl⟩)
  | (gi_at_call 196;refine cS.mono ?_;rintro e w1 ⟨v,ss,rfl,hpm,hpw,hrow,hnil,hb1⟩;obtain ⟨pp,cap,rfl⟩:=own_form0 hrow;have HR:Hid (w1.ownsRow W.heap.size 34 1 (.slice pp m0 cap) m0 (u64s ss)∧(Value.slice pp m0 cap=.slice none 0 0↔m0=0)):=⟨hrow,hnil⟩;have HPM:Hid (ss.Perm (L.map (·.1))∧ss.Pairwise (·≤·)):=⟨hpm,hpw⟩;clear hrow hnil hpm hpw))
 clear cK cS
 have HB1:Hid (Below W.heap.size W w1):=hb1
 have HJ1:Hid (∀ A,Below W.heap.size W A→J [] A):=fun A hA=>hJ [] W A h0 ⟨hA.os,hA.tape,hA.output,hA.size,fun k hk _=>hA.block k hk⟩
 have HSL:Hid (ss.length=m0):=by show _=_;rw [HPM.out.1.length_eq,List.length_map,HM.out]
 clear hb1 hBn
 by_cases hm1:m0=0
 ·subst hm1
  obtain ⟨rfl,rfl⟩:pp=none∧cap=0:=by have:=HR.out.2.2 rfl;simpa using this
  clear HR
  have HE:Hid (ss=[]):=List.length_eq_zero_iff.1 HSL.out
  gi_loopw [14] (fun i wr=>i=.int .i64 0∧wr=w1) (fun _ _=>0)
  case atStart=>exact ⟨rfl,rfl⟩
  case round =>
   obtain ⟨rfl,rfl⟩:=hrel
   gi_wp2
   gi_loopw [27] (fun i wr2=>i=.int .i64 0∧wr2=wr) (fun _ _=>0)
   case atStart=>exact ⟨rfl,rfl⟩
   case round =>
    obtain ⟨rfl,rfl⟩:=hrel
    gi_wp2
    go_end0
    exact ⟨⟨_,rfl⟩,.inl ⟨ss,HPM.out.1,HPM.out.2,by rw [HE.out];exact HJ1.out _ HB1.out⟩⟩
 obtain ⟨g,rfl⟩:∃ g,pp=some ⟨g,0,none⟩:=by obtain ⟨g,cap',e⟩:=own_pos0 HR.out.1 (by omega);exact ⟨g,by simp at e;exact e.1⟩
 have hrow:=HR.out.1
 have HK:Hid (∃ cur,w1.heap[g]?=some (.cells cur 34 (0,0))∧W.heap.size≤g∧∀ (k x:Nat),ss[k]?=some x→cur[k]?=some (Value.int .u64 (x:Int))):=by
  rcases hrow.2 with ⟨_,h3⟩ | ⟨g',cap',cur,e,hb,hg,_,_,hsz,htk⟩
  ·omega
  ·obtain ⟨e1,e2⟩:g=g'∧cap=cap':=by simpa using e
   subst e1
   refine ⟨cur,hg,hb,fun k x hk=>?_⟩
   have hkl:k<m0:=by have:=(List.getElem?_eq_some_iff.1 hk).1;have:=HSL.out;omega
   have:(cur.toList.take (m0*1))[k]?=some (.int .u64 (x:Int)):=by rw [htk];unfold u64s;rw [List.getElem?_map,hk];rfl
   rw [List.getElem?_take_of_lt (by omega)] at this
   simpa using this
 clear hrow HR
 obtain ⟨vs,hvs⟩:∃ vs:List ATx,vs=ss.map fun k=>(alLook L k).getD tx0:=⟨_,rfl⟩
 have HV:Hid (vs=ss.map fun k=>(alLook L k).getD tx0):=hvs
 clear hvs
 have HG:Hid (g<w1.heap.size):=by obtain ⟨cur,hg,_⟩:=HK.out;exact (Array.getElem?_eq_some_iff.1 hg).1
 have HIN:Hid (∀ k∈ss,∃ v,(k,v)∈L∧k<18446744073709551616∧(alLook L k).getD tx0=v):=fun k hk=>by
  obtain ⟨p,hp,e⟩:=List.mem_map.1 (HPM.out.1.mem_iff.1 hk)
  obtain ⟨_,_,_,ho1,hok⟩:=HL.out
  obtain ⟨p1,p2⟩:=p
  simp at e
  subst e
  exact ⟨p2,hp,(hok _ hp).1,by rw [alLook_of ho1 hp];rfl⟩
 gi_loopw [14,4] (fun i v wr=>∃ k:Nat,k≤m0∧i=.int .i64 k∧Hid (wr.ownsRow w1.heap.size 297 12 v k (elsX (vs.take k))∧Below w1.heap.size w1 wr))
  (fun i _ _=>m0 - (intOf i).toNat)
 case atStart=>exact ⟨0,Nat.zero_le _,rfl,World.ownsRow_nil _ _ _ _,Below.refl _ _⟩
 case round =>
  obtain ⟨k,hk,rfl,hR⟩:=hrel
  by_cases hlt:k<m0
  ·obtain ⟨x,hx⟩:∃ x,ss[k]?=some x:=⟨_,List.getElem?_eq_getElem (by have:=HSL.out;omega)⟩
   obtain ⟨y,hy⟩:∃ y,y=(alLook L x).getD tx0:=⟨_,rfl⟩
   have hbW:Below W.heap.size W wr:=HB1.out.trans (hR.out.2.mono HB1.out.size)
   have ck:wr.cell? ⟨g,k,none⟩=some (.int .u64 (x:Int)):=by
    obtain ⟨cur,hg,_,hc⟩:=HK.out
    have:=(hR.out.2.block g HG.out).trans hg
    rw [cell_blk0 this]
    exact hc k x hx
   have cB:wr.cell? ⟨Bn,0,none⟩=some (.map (some b)):=(hbW.cell (p:=⟨Bn,0,none⟩) HB.out.1).trans HB.out.2
   have hxs:x<18446744073709551616:=by
    obtain ⟨_,_,h,_⟩:=HIN.out x (List.mem_of_getElem? hx)
    exact h
   have hlk:=(HL.out.fr (S:=[]) ⟨hbW.os,hbW.tape,hbW.output,hbW.size,fun k hk _=>hbW.block k hk⟩ (by simp)).look Tryz.underlying224 (zeroTx wr) tx0_ok (k:=x) hxs
   rw [← hy] at hlk
   have HY:Hid (y=(alLook L x).getD tx0∧ss[k]?=some x):=⟨hy,hx⟩
   clear hy hx
   have hyo:y.Ok:=by
    rw [HY.out.1]
    obtain ⟨v,hv,_,e⟩:=HIN.out x (List.mem_of_getElem? HY.out.2)
    obtain ⟨_,_,_,_,hok⟩:=HL.out
    rw [e];exact (hok _ hv).2
   change (Instr.lookup _ _ (.int .u64 (x:Int)) false).run _ _=.ok (txV y) _ at hlk
   rw [txV_get y hyo] at hlk
   clear hyo
   have hsz:=hR.out.2.size
   have HT:Hid (vs.take (k+1)=vs.take k++[y]):=by
    show _=_
    rw [HV.out,List.take_add_one,List.getElem?_map,HY.out.2,HY.out.1];rfl
   gi_wp2_with (gi_at_builtin;refine wpListIn_append_own _ rfl _ _ 363 rfl w1.heap.size 297 i0 _ 12 48 Tryz.underlying363 hi hz0 hz1 hz2 rfl (by decide) _ k _ rfl (hR.out.1.alloc _) ⟨wr.heap.size,0,none⟩ 1 1 (elX y) rfl rfl (cells_new _ #[.int .i64 (y.state:Int),.int .u8 ((ptOf y 0:Nat):Int),.int .u8 ((ptOf y 1:Nat):Int),.int .u8 ((ptOf y 2:Nat):Int),.int .u8 ((ptOf y 3:Nat):Int),.int .u8 ((ptOf y 4:Nat):Int),.int .u8 ((ptOf y 5:Nat):Int),.int .u8 ((ptOf y 6:Nat):Int),.int .u8 ((ptOf y 7:Nat):Int),.int .u8 ((ptOf y 8:Nat):Int),.int .u64 (y.since:Int),.nilIface] _) (by intro u hu;simp [elX] at hu;rcases hu with rfl | rfl | rfl | rfl | rfl | rfl | rfl | rfl | rfl | rfl | rfl | rfl <;> rfl) (by unfold maxLen;omega) (by omega) (by simp;omega) ?_;intro v' w2 hown' hgrow _)
   go_roundw
   case rel =>
    refine ⟨k+1,by omega,by simp,by rw [HT.out,elsX_snoc];exact hown',?_⟩
    exact ((hR.out.2.alloc hsz _).grown hgrow (by simp;omega) (fun j hj=>(hR.out.1.lt j hj).1))
   case measure=>simp [intOf];omega
  ·obtain rfl:k=m0:=by omega
   obtain ⟨g2,cap2,rfl⟩:=own_pos0 hR.out.1 (by omega)
   have HK2:Hid (∃ cur2,wr.heap[g2]?=some (.cells cur2 297 (0,0))∧W.heap.size≤g2∧∀ (j:Nat) (y:ATx),vs[j]?=some y→∀ i,i<12→cur2[j*12+i]?=(elX y)[i]?):=by
    rcases hR.out.1.2 with ⟨_,h3⟩ | ⟨g',cap',cur,e,hb,hg,_,_,hsz,htk⟩
    ·omega
    ·obtain ⟨e1,e2⟩:g2=g'∧cap2=cap':=by simpa using e
     subst e1
     have hvl:vs.length=k:=by rw [HV.out,List.length_map,HSL.out]
     refine ⟨cur,hg,Nat.le_trans HB1.out.size hb,fun j y hj=>?_⟩
     have hjk:j<k:=by have:=(List.getElem?_eq_some_iff.1 hj).1;omega
     have e3:vs.take k=vs:=List.take_of_length_le (by omega)
     rw [e3] at htk
     have hat:=elsX_at vs j y hj
     rw [← htk] at hat
     intro i hi
     have h9:=hat i hi
     rw [List.getElem?_take_of_lt (by omega)] at h9
     simpa using h9
   obtain ⟨cur,hgc,hgW,hcs⟩:=HK.out
   obtain ⟨cur2,hgc2,hgW2,hcs2⟩:=HK2.out
   have hgr:=(hR.out.2.block g HG.out).trans hgc
   have hbW:Below W.heap.size W wr:=HB1.out.trans (hR.out.2.mono HB1.out.size)
   have HC:Hid ((∀ (k x:Nat),ss[k]?=some x→cur[k]?=some (Value.int .u64 (x:Int)))∧∀ (j:Nat) (y:ATx),vs[j]?=some y→∀ i,i<12→cur2[j*12+i]?=(elX y)[i]?):=⟨hcs,hcs2⟩
   have HS:Hid (J [] wr∧wr.heap[g]?=some (.cells cur 34 (0,0))∧Pk g wr∧wr.heap[g2]?=some (.cells cur2 297 (0,0))∧Pk g2 wr):=⟨HJ1.out _ hbW,hgr,hP0 _ _ hgW hbW,hgc2,hP0 _ _ hgW2 hbW⟩
   clear HK HK2 hgc hcs hgc2 hcs2 hgr hbW hP0
   gi_wp2
   gi_loopw [27] (fun i wr=>∃ j:Nat,j≤k∧i=.int .i64 j∧Hid (J ((atX L ss).take j) wr∧wr.heap[g]?=some (.cells cur 34 (0,0))∧Pk g wr∧wr.heap[g2]?=some (.cells cur2 297 (0,0))∧Pk g2 wr))
    (fun i _=>k - (intOf i).toNat)
   case atStart=>exact ⟨0,Nat.zero_le _,rfl,by rw [List.take_zero];exact HS.out⟩
   case round =>
    obtain ⟨j,hj,rfl,hQ⟩:=hrel
    by_cases hlt2:j<k
    ·obtain ⟨x,hx⟩:∃ x,ss[j]?=some x:=⟨_,List.getElem?_eq_getElem (by have:=HSL.out;omega)⟩
     obtain ⟨y,hy⟩:∃ y,y=(alLook L x).getD tx0:=⟨_,rfl⟩
     have hvy:vs[j]?=some y:=by rw [HV.out,List.getElem?_map,hx,hy];rfl
     have hxy:(x,y)∈L:=by
      obtain ⟨v,hv,_,e⟩:=HIN.out x (List.mem_of_getElem? hx)
      rw [hy,e];exact hv
     have HXY:Hid ((atX L ss).take (j+1)=(atX L ss).take j++[(x,y)]):=by
      show _=_
      rw [List.take_add_one]
      unfold atX
      rw [List.getElem?_map,hx,hy];rfl
     have cx:wr.cell? ⟨g,j,none⟩=some (.int .u64 (x:Int)):=by rw [cell_blk0 hQ.out.2.1];exact HC.out.1 j x hx
     have cy0:wr.cell? ⟨g2,j*12,none⟩=some (.int .i64 (y.state:Int)):=by rw [cell_blk0 hQ.out.2.2.2.1];exact HC.out.2 j y hvy 0 (by omega)
     have cy1:wr.cell? ⟨g2,j*12+1,none⟩=some (.int .u8 ((ptOf y 0:Nat):Int)):=by rw [cell_blk0 hQ.out.2.2.2.1];exact HC.out.2 j y hvy 1 (by omega)
     have cy2:wr.cell? ⟨g2,j*12+2,none⟩=some (.int .u8 ((ptOf y 1:Nat):Int)):=by rw [cell_blk0 hQ.out.2.2.2.1];exact HC.out.2 j y hvy 2 (by omega)
     have cy3:wr.cell? ⟨g2,j*12+3,none⟩=some (.int .u8 ((ptOf y 2:Nat):Int)):=by rw [cell_blk0 hQ.out.2.2.2.1];exact HC.out.2 j y hvy 3 (by omega)
     have cy4:wr.cell? ⟨g2,j*12+4,none⟩=some (.int .u8 ((ptOf y 3:Nat):Int)):=by rw [cell_blk0 hQ.out.2.2.2.1];exact HC.out.2 j y hvy 4 (by omega)
     have cy5:wr.cell? ⟨g2,j*12+5,none⟩=some (.int .u8 ((ptOf y 4:Nat):Int)):=by rw [cell_blk0 hQ.out.2.2.2.1];exact HC.out.2 j y hvy 5 (by omega)
     have cy6:wr.cell? ⟨g2,j*12+6,none⟩=some (.int .u8 ((ptOf y 5:Nat):Int)):=by rw [cell_blk0 hQ.out.2.2.2.1];exact HC.out.2 j y hvy 6 (by omega)
     have cy7:wr.cell? ⟨g2,j*12+7,none⟩=some (.int .u8 ((ptOf y 6:Nat):Int)):=by rw [cell_blk0 hQ.out.2.2.2.1];exact HC.out.2 j y hvy 7 (by omega)
     have cy8:wr.cell? ⟨g2,j*12+8,none⟩=some (.int .u8 ((ptOf y 7:Nat):Int)):=by rw [cell_blk0 hQ.out.2.2.2.1];exact HC.out.2 j y hvy 8 (by omega)
     have cy9:wr.cell? ⟨g2,j*12+9,none⟩=some (.int .u8 ((ptOf y 8:Nat):Int)):=by rw [cell_blk0 hQ.out.2.2.2.1];exact HC.out.2 j y hvy 9 (by omega)
     have cy10:wr.cell? ⟨g2,j*12+10,none⟩=some (.int .u64 (y.since:Int)):=by rw [cell_blk0 hQ.out.2.2.2.1];exact HC.out.2 j y hvy 10 (by omega)
     have cy11:wr.cell? ⟨g2,j*12+11,none⟩=some (.nilIface):=by rw [cell_blk0 hQ.out.2.2.2.1];exact HC.out.2 j y hvy 11 (by omega)
     obtain ⟨fn,tmps,assign,body,hy2,hRR⟩:=hY _ (x,y) wr hQ.out.1 (by rw [List.length_take,← HM.out];omega) hxy ⟨ss,HPM.out.1,HPM.out.2,by rw [← HXY.out];exact List.take_prefix _ _⟩
     have hyo:y.Ok:=by
      obtain ⟨_,_,_,_,hok⟩:=HL.out
      exact (hok _ hxy).2
     change (Instr.yield l #[.int .u64 (x:Int),txV y]).run _ _=_ at hy2
     rw [txV_get y hyo] at hy2
     clear hyo
     clear hx hy hvy hxy
     gi_wp2
     refine hRR.mono ?_
     rintro e W3 (⟨rfl,hJ3,hk3⟩ | ⟨rfl,hJx3⟩)
     ·have p1:=hP2 _ _ _ _ _ (.inl rfl) hk3 hQ.out.2.1 hQ.out.2.2.1
      have p2:=hP2 _ _ _ _ _ (.inr rfl) hk3 hQ.out.2.2.2.1 hQ.out.2.2.2.2
      have HN:Hid (J ((atX L ss).take (j+1)) W3∧W3.heap[g]?=some (.cells cur 34 (0,0))∧Pk g W3∧W3.heap[g2]?=some (.cells cur2 297 (0,0))∧Pk g2 W3):=⟨by rw [HXY.out];exact hJ3,p1.1.trans hQ.out.2.1,p1.2,p2.1.trans hQ.out.2.2.2.1,p2.2⟩
      clear p1 p2 hJ3 hk3
      gi_wp2
      go_roundw
      case rel=>exact ⟨j+1,by omega,by simp,HN.out⟩
      case measure=>simp [intOf];omega
     ·gi_wp2
      refine bodyPost_ret (results_none rfl _ _ _) rfl ?_
      exact ⟨⟨_,rfl⟩,.inr ⟨_,trivial,hJx3⟩⟩
    ·obtain rfl:j=k:=by omega
     gi_wp2
     go_end0
     refine ⟨⟨_,rfl⟩,.inl ⟨ss,HPM.out.1,HPM.out.2,?_⟩⟩
     have e:(atX L ss).take j=atX L ss:=by
      rw [List.take_of_length_le]
      unfold atX
      rw [List.length_map,HSL.out]
      exact Nat.le_refl _
     rw [← e]
     exact hQ.out.1
set_option maxHeartbeats 1000000 in
theorem byKeysX_fn (n:Nat) (b:Nat) (w:World) :
  CallsIn Fence.wide n Tryz.prog 210 #[.map (some b)] w fun e w'=>e=.returned (.func (.func 266) #[] #[.pointer (some ⟨w.heap.size,0,none⟩)])∧w'=w.alloc (.cells #[.map (some b)] 224):=by
 refine callsIn_of_wp Tryz.func210 rfl trivial ?_ rfl
 simp only [Tryz.ntmps210,List.size_toArray,List.length_cons,List.length_nil,Nat.reduceAdd,Nat.reduceSub,Array.replicate_succ,Array.replicate_zero,List.push_toArray,List.append_toArray,List.nil_append,List.cons_append]
 gi_wp2
 go_ret
 exact ⟨rfl,rfl⟩
end Go.Proofs.YtejiankgafjppaaGreatDoor
