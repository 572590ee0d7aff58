import Derived.Test.YtejiankgafjppaaGreatDoorC32
import Derived.Test.YtejiankgafjppaaGreatDoorC33
namespace Go.Proofs.YtejiankgafjppaaGreatDoor
open Go.RowKit Go.Shelf Go.Maps
open Sc
def keysU {V:Type} (L:List (Nat × V)):List Nat:=(L.map (·.1)).mergeSort (fun a b=>decide (a≤b))
theorem keysU_is {V:Type} {L:List (Nat × V)} {ss:List Nat} (hp:ss.Perm (L.map (·.1))) (hs:ss.Pairwise (·≤·)):ss=keysU L:=by
 have h1:=List.pairwise_mergeSort (le:=fun a b:Nat=>decide (a≤b)) (by intro a b c;simp;omega) (by intro a b;simp;omega) (L.map (·.1))
 refine List.Perm.eq_of_pairwise (le:=fun a b:Nat=>a≤b) (fun a b _ _ h1 h2=>Nat.le_antisymm h1 h2) hs (h1.imp fun h=>by simpa using h) ?_
 exact hp.trans (List.mergeSort_perm _ _).symm
theorem byKeysX_c (n:Nat) (hn:6≤n) (l Bn b m:Nat) (L:List (Nat × ATx)) (hl12:L.length≤12) (W:World) (hBn:W.cell? ⟨Bn,0,none⟩=some (.map (some b))) (hL:MapAs KU EX W b m L) :
  SeqC Fence.wide n Tryz.prog 266 #[.pointer (some ⟨Bn,0,none⟩)] (fun x:Nat × ATx=>#[.int .u64 (x.1:Int),txV x.2]) (atX L (keysU L)) (fun _=>True) l W:=fun J _ hJ hY h0=>by
 have h:=byKeysX_in n hn l Bn b m L hl12 W KpC (fun _ _=>True) (fun _ _ _ _=>trivial) (fun k A B c t ht hk hA _=>⟨(hk.same k _ hA (by rcases ht with rfl | rfl <;> rfl)).trans hA.symm,trivial⟩)
  (fun s A=>J s A∧W.heap.size≤A.heap.size) (fun _ _=>False)
  (fun s A B hs hg=>⟨hJ s A B hs.1 hs.2 (Bk.fr ⟨hg.os,hg.tape,hg.output,hg.size,fun k hk _=>hg.block k hk (by simp)⟩),Nat.le_trans hs.2 hg.size⟩)
  (fun pre x W1 hj _ _ hp=>by
   obtain ⟨ss,p1,p2,p3⟩:=hp
   rw [keysU_is p1 p2] at p3
   obtain ⟨fn,tmps,assign,body,hy,hR⟩:=hY pre x W1 hj.1 hj.2 p3
   refine ⟨fn,tmps,assign,body,hy,hR.mono ?_⟩
   rintro e W' ⟨r1,r2,r3⟩
   exact .inl ⟨r1,⟨r2,Nat.le_trans hj.2 r3.size⟩,r3⟩)
  hBn hL ⟨h0,Nat.le_refl _⟩
 refine h.mono ?_
 rintro e W' ⟨he,⟨ss,p1,p2,hj⟩ | ⟨pre,_,hf⟩⟩
 ·rw [keysU_is p1 p2] at hj
  exact ⟨he,hj.1⟩
 ·exact hf.elim
def ACo.tickOne (c:ACo) (x:Nat × ATx):ACo :=
 if x.2.state=5 then (if 8≤c.ticks - x.2.since then c.aborted x.1 else { c with out:=c.out++(meant isAw (c.tx x.1).parts).map fun k=>(x.1,k,1) })
 else if x.2.state=6 then { c with out:=c.out++(meant isToC (c.tx x.1).parts).map fun k=>(x.1,k,5) } else c
def ACo.tick (c:ACo):ACo:=(atX c.txns (keysU c.txns)).foldl ACo.tickOne { c with ticks:=c.ticks+1 }
theorem tickOne_ticks (c:ACo) (x:Nat × ATx):(c.tickOne x).ticks=c.ticks:=by
 unfold ACo.tickOne ACo.aborted
 split
 ·split <;> rfl
 ·split <;> rfl
theorem tick_ticks (l:List (Nat × ATx)):∀ c:ACo,(l.foldl ACo.tickOne c).ticks=c.ticks:=by
 induction l with
 | nil=>intro c;rfl
 | cons x r ih=>intro c;rw [List.foldl_cons,ih,tickOne_ticks]
theorem atX_mem {L:List (Nat × ATx)} (h1:Once1 L) {y:Nat × ATx} (h:y∈atX L (keysU L)):y∈L:=by
 unfold atX at h
 obtain ⟨k,hk,rfl⟩:=List.mem_map.1 h
 have hk2:k∈L.map (·.1):=by unfold keysU at hk;exact List.mem_mergeSort.1 hk
 obtain ⟨p,hp,rfl⟩:=List.mem_map.1 hk2
 rw [alLook_of h1 (show (p.1,p.2)∈L from hp)]
 exact hp
set_option maxRecDepth 100000 in
set_option maxHeartbeats 4000000 in
theorem ctick_in (N:Nat) (hN:12≤N) (B cp lg bT n:Nat) (c:ACo) (w:World) (h:CoIn w B cp lg bT n c) (hl:c.txns.length≤12) (hsi:∀ x∈c.txns,x.2.since≤c.ticks∧x.1<18446744073709551616) (htk:c.ticks+1<18446744073709551616) (hn:n+200<67108864) :
  CallsIn Fence.wide N Tryz.prog 147 #[.pointer (some ⟨cp,0,none⟩)] w fun e w'=>e=.returned (.tuple #[])∧CoIn w' B cp lg bT (n+120) c.tick∧RFr cp [cp,bT] w w':=by
 obtain ⟨W0,hW0⟩:∃ W0,W0=w.alloc (.cells #[.pointer (some ⟨cp,0,none⟩)] 91):=⟨_,rfl⟩
 have hfr0:Fr [] w W0:=by rw [hW0];exact (Fr.refl [] w).alloc _
 have hs0:W0.heap.size=w.heap.size+1:=by rw [hW0];simp
 have r0:W0.heap[w.heap.size]?=some (.cells #[.pointer (some ⟨cp,0,none⟩)] 91 (0,0)):=by rw [hW0];exact heap_alloc_new w _
 have hc0:=h.new hfr0
 have hcl:=h.lts
 obtain ⟨rv,ov,h1,_⟩:=hc0.ex
 have c1:=blk_cell h1 1
 have c4:=blk_cell h1 4
 have f4:=blk_free h1 4
 have v0:=blk_cell r0 0
 simp at c1 c4 v0
 have i1:IntKind.u64.wrap ((c.ticks:Int)+1)=(c.ticks:Int)+1:=by rw [IntKind.wrap_u64];omega
 have i2:(c.ticks:Int)+1<18446744073709551616:=by omega
 have hne:¬ cp=w.heap.size:=by omega
 have hne2:¬ w.heap.size=cp:=by omega
 have hro:Fence.wide.round=none:=rfl
 rw [hW0] at c1 c4 v0 f4
 have H0:=toHid (show CoIn W0 B cp lg bT n c∧Fr [] w W0∧W0.heap[w.heap.size]?=some (.cells #[.pointer (some ⟨cp,0,none⟩)] 91 (0,0))∧W0.heap.size=w.heap.size+1 from ⟨hc0,hfr0,r0,hs0⟩)
 have HSI:=toHid hsi
 have HW0:=toHid hW0
 have HCL:=toHid hcl
 clear h hc0 hfr0 r0 hs0 h1 hsi hW0 hcl
 have hf2:Fence.wide.fn 210:=trivial
 have hf3:Fence.wide.fn 266:=trivial
 have hN1:1≤N:=by omega
 refine callsIn_of_wp_marks Tryz.func147 rfl trivial ?_ hro
 simp only [Tryz.ntmps147,List.size_toArray,List.length_cons,List.length_nil,Nat.reduceAdd,Nat.reduceSub,Array.replicate_succ,Array.replicate_zero,List.push_toArray,List.append_toArray,List.nil_append,List.cons_append]
 gi_wp2_with (gi_at_call 210;refine (byKeysX_fn _ bT _).mono ?_;rintro e w2 ⟨rfl,rfl⟩)
 obtain ⟨w1,hw1⟩:∃ w1,w1=(w.alloc (.cells #[.pointer (some ⟨cp,0,none⟩)] 91)).setCell ⟨cp,4,none⟩ (.int .u64 ((c.ticks:Int)+1)):=⟨_,rfl⟩
 rw [← hw1]
 have hf1:Fr [cp] W0 w1:=by rw [hw1,HW0.out];exact Fr.set1 (by simp) _ _
 have hb1:∀ rv ov,W0.heap[cp]?=some (coO lg bT c rv ov)→w1.heap[cp]?=some (coO lg bT { c with ticks:=c.ticks+1 } rv ov):=fun rv ov e=>by
  rw [hw1,← HW0.out]
  have:=blk_set e 4 (.int .u64 ((c.ticks:Int)+1))
  simpa [coO] using this
 have hin1:CoIn w1 B cp lg bT n { c with ticks:=c.ticks+1 }:=H0.out.1.cell rfl (hnum:=⟨H0.out.1.nums.1,H0.out.1.nums.2.1,htk⟩) (hf:=hf1) (hb:=hb1)
 have hx1:RFr cp [cp,bT] w w1:=(H0.out.2.1.r HCL.out.1 (by simp) (by simp)).trans (H0.out.1.cellR hf1 (by simp) hb1)
 have rc1:w1.heap[w.heap.size]?=some (.cells #[.pointer (some ⟨cp,0,none⟩)] 91 (0,0)):=(hf1.block _ (by have:=H0.out.2.2.2;omega) (by simp;exact hne2)).trans H0.out.2.2.1
 have hz1:w1.heap.size=w.heap.size+1:=by rw [hw1];simp
 obtain ⟨w2,hw2⟩:∃ w2,w2=w1.alloc (.cells #[.map (some bT)] 224):=⟨_,rfl⟩
 rw [← hw2]
 have hf2':Fr [] w1 w2:=by rw [hw2];exact (Fr.refl [] w1).alloc _
 have hz2:w2.heap.size=w.heap.size+2:=by rw [hw2];simp;omega
 have hin2:=hin1.new hf2'
 have hx2:RFr cp [cp,bT] w w2:=hx1.trans (hf2'.r hin1.lts.1 (by simp) (by simp))
 have rc2:=(hf2'.block _ (by omega) (by simp)).trans rc1
 have rm2:w2.heap[w.heap.size+1]?=some (.cells #[.map (some bT)] 224 (0,0)):=by
  rw [hw2,← hz1];exact heap_alloc_new w1 _
 have HG:=toHid (show CoIn w2 B cp lg bT n { c with ticks:=c.ticks+1 }∧RFr cp [cp,bT] w w2∧w2.heap[w.heap.size]?=some (.cells #[.pointer (some ⟨cp,0,none⟩)] 91 (0,0))∧w2.heap[w.heap.size+1]?=some (.cells #[.map (some bT)] 224 (0,0)) from ⟨hin2,hx2,rc2,rm2⟩)
 have HZ:=toHid hz2
 clear hw2 hw1 hf1 hb1 hin1 hx1 rc1 hz1 hf2' hz2 hin2 hx2 rc2 rm2 c1 c4 v0 f4 i1 i2 hne hne2 H0 HW0
 refine wpIn_range_c hro hN1 (gf:=266) (lb:=#[.pointer (some ⟨w.heap.size+1,0,none⟩)]) rfl hf3 (enters_of Tryz.func266 (by kernel_rfl) rfl)
  (encs:=fun x:Nat × ATx=>#[.int .u64 (x.1:Int),txV x.2]) (rs:=atX c.txns (keysU c.txns)) (Inv:=fun _=>True) (fun _=>rfl)
  (fun Wx hbx hzx J hJi hJ hY h0=>byKeysX_c (N - 1) (by omega) _ (w.heap.size+1) bT n c.txns hl Wx (by
   have h1:=(hbx.block (w.heap.size+1) (by have:=HZ.out;omega) (by simp)).trans HG.out.2.2.2
   have h2:=blk_cell h1 0
   simpa using h2) (HG.out.1.txns.fr hbx (by simp)) J hJi hJ hY h0)
  (fun pre A=>CoIn A B cp lg bT (n+10*pre.length) (pre.foldl ACo.tickOne { c with ticks:=c.ticks+1 })∧RFr cp [cp,bT] w2 A∧A.heap[w.heap.size]?=some (.cells #[.pointer (some ⟨cp,0,none⟩)] 91 (0,0)))
  ⟨by simpa using HG.out.1,(Fr.refl [] w2).r HG.out.1.lts.1 (by simp) (by simp),HG.out.2.2.1⟩
  (fun _ _ _=>trivial)
  (fun q A B hs hz hbk=>⟨hs.1.bk hbk,hs.2.1.bk hs.1 hbk (by omega),hbk.block _ _ hs.2.2 (.inl rfl)⟩)
  (fun x a' A=>∃ tp,w2.heap.size+2≤tp∧A.heap[tp]?=some (.cells (txC x.2).toArray 297 (0,0))∧a'={ tmps:=#[.pointer (some ⟨cp,0,none⟩),.pointer (some ⟨w.heap.size,0,none⟩),.int .u64 (x.1:Int),.pointer (some ⟨tp,0,none⟩),.pointer (some ⟨cp,0,none⟩),.pointer (some ⟨cp,0,none⟩),.pointer (some ⟨cp,4,none⟩),.int .u64 (c.ticks:Int),.int .u64 ((c.ticks:Int)+1),.pointer (some ⟨cp,0,none⟩),.pointer (some ⟨cp,4,none⟩),.pointer (some ⟨cp,0,none⟩),.pointer (some ⟨cp,0,none⟩),.pointer (some ⟨cp,1,none⟩),.map (some bT),.func (.func 266) #[] #[.pointer (some ⟨w.heap.size+1,0,none⟩)],.int .u64 (x.1:Int),txV x.2,undef,undef,undef,undef,undef,undef,undef,undef,undef,undef,undef,undef,undef,undef,undef,undef,undef,undef,undef,undef,undef,undef,undef,undef,undef,undef,undef,undef,undef,undef,undef,undef,undef,undef,undef],defers:=[] })
  (fun x a' A r hs=>by
   obtain ⟨tp,h1,h2,h3⟩:=hs
   exact ⟨tp,h1,(World.putObj_heap_other (by omega)).trans h2,h3⟩)
  ?assign ?body ?done
 case assign =>
  have hsem:=@Oper.semAt_some
  rintro pre x A K hI hsA hpre hK
  have hxm:x∈c.txns:=by
   obtain ⟨_,_,_,ho1,_⟩:=HG.out.1.txns
   exact atX_mem ho1 (hpre.subset (by simp))
  have hok:x.2.Ok:=by
   obtain ⟨_,_,_,_,hok⟩:=HG.out.1.txns
   exact (hok _ hxm).2
  obtain ⟨t,s,ps,z⟩:=x
  obtain ⟨p0,p1,p2,p3,p4,p5,p6,p7,p8,hps⟩:=nine hok.1
  change ps=_ at hps
  subst hps
  rw [txV_lit]
  rw [txV_lit] at hK
  have HA:=toHid (show A.heap.size<(A.alloc (.cells #[.int .i64 (s:Int),.int .u8 (p0:Int),.int .u8 (p1:Int),.int .u8 (p2:Int),.int .u8 (p3:Int),.int .u8 (p4:Int),.int .u8 (p5:Int),.int .u8 (p6:Int),.int .u8 (p7:Int),.int .u8 (p8:Int),.int .u64 (z:Int),.nilIface] 297)).heap.size from by simp)
  have HK:=toHid hK
  clear hK hI
  gi_wp2
  exact HK.out _ _ (Bk.fr ((Fr.refl [] A).alloc _)) (KpC.alloc A _) ⟨A.heap.size,hsA,heap_alloc_new A _,rfl⟩
 case body =>
  have hsem:=@Oper.semAt_some
  rintro pre x a' A ⟨hIA,hfA,rcA⟩ hsA ⟨tp,htp,htx,rfl⟩ hpre
  have hxm:x∈c.txns:=by
   obtain ⟨_,_,_,ho1,_⟩:=HG.out.1.txns
   exact atX_mem ho1 (hpre.subset (by simp))
  have hok:x.2.Ok:=by
   obtain ⟨_,_,_,_,hok⟩:=HG.out.1.txns
   exact (hok _ hxm).2
  have hsx:=HSI.out x hxm
  have hpl:pre.length+1≤12:=by
   have:=hpre.length_le
   unfold atX keysU at this
   simp at this
   omega
  obtain ⟨cc,hcc⟩:∃ cc,cc=pre.foldl ACo.tickOne { c with ticks:=c.ticks+1 }:=⟨_,rfl⟩
  have htc:cc.ticks=c.ticks+1:=by rw [hcc,tick_ticks]
  have HN:=toHid (show ∀ W',CoIn W' B cp lg bT (n+10*pre.length+10) (cc.tickOne x)→RFr cp [cp,bT] A W'→(CoIn W' B cp lg bT (n+10*(pre.length+1)) ((pre.foldl ACo.tickOne { c with ticks:=c.ticks+1 }).tickOne x)∧RFr cp [cp,bT] w2 W'∧W'.heap[w.heap.size]?=some (.cells #[.pointer (some ⟨cp,0,none⟩)] 91 (0,0)))∧KpC A W' from fun W' h1 h2=>by
   refine ⟨⟨?_,hfA.trans h2,h2.cells hIA rcA (by simp;have:=HCL.out;omega) (by decide) (by decide)⟩,h2.kpc hIA (by simp)⟩
   rw [← hcc,Nat.mul_add,← Nat.add_assoc]
   exact h1)
  rw [← hcc] at hIA
  clear hcc
  obtain ⟨t,s,ps,z⟩:=x
  obtain ⟨p0,p1,p2,p3,p4,p5,p6,p7,p8,hps⟩:=nine hok.1
  change ps=_ at hps
  subst hps
  have htx2:A.heap[tp]?=some (.cells #[.int .i64 (s:Int),.int .u8 (p0:Int),.int .u8 (p1:Int),.int .u8 (p2:Int),.int .u8 (p3:Int),.int .u8 (p4:Int),.int .u8 (p5:Int),.int .u8 (p6:Int),.int .u8 (p7:Int),.int .u8 (p8:Int),.int .u64 (z:Int),.nilIface] 297 (0,0)):=htx
  obtain ⟨t0,_,_,_,_,_,_,_,_,_,ta,tb⟩:=tx12 htx2
  have hla:=hIA.lts.1
  obtain ⟨rvA,ovA,gA,_⟩:=hIA.ex
  have a4:=blk_cell gA 4
  have a0:=blk_cell rcA 0
  simp at a4 a0
  obtain ⟨Tk,hTk⟩:∃ Tk,Tk=cc.ticks:=⟨_,rfl⟩
  rw [← hTk] at a4 htc
  have hzt:z≤Tk:=by have:=hsx.1;change z≤c.ticks at this;omega
  have ht:t<18446744073709551616:=hsx.2
  have hTn:Tk<18446744073709551616:=by omega
  have iw2:(Tk:Int) - (z:Int)=((Tk - z:Nat):Int):=by omega
  obtain ⟨D,hD⟩:∃ D,D=Tk - z:=⟨_,rfl⟩
  rw [← hD] at iw2
  have iwD:IntKind.u64.wrap (D:Int)=(D:Int):=by rw [IntKind.wrap_u64];omega
  have HIA:=toHid hIA
  have HTK:=toHid (And.intro hTk hD)
  clear hIA hfA rcA gA htx htx2 hsx hxm hok hpre hsA htp htc hTk hzt hD
  rw [txV_lit]
  by_cases h5:s=5
  ·subst h5
   by_cases h8:8≤D
   ·have i8:(8:Int)≤(D:Int):=by omega
    have HE:=toHid (show cc.tickOne (t,⟨5,[p0,p1,p2,p3,p4,p5,p6,p7,p8],z⟩)=cc.aborted t from by
     unfold ACo.tickOne
     rw [if_pos rfl,← HTK.out.1,if_pos (show 8≤Tk - z from by rw [← HTK.out.2];exact h8)])
    have hab:=(callsIn_wide (n:=N - 1 - 1 - 1)).2 (cabort_any B cp lg bT (n+10*pre.length) t cc A.drew (HIA.out.new (Fr.refl [] A).drew) ht (by omega))
    gi_wp2
    refine wpIn_region_round (S:=(fun w'=>w'.cell? ⟨tp,0,none⟩=some (.int .i64 (5:Int))∧w'.cell? ⟨tp,10,none⟩=some (.int .u64 (z:Int))∧w'.cell? ⟨w.heap.size,0,none⟩=some (.pointer (some ⟨cp,0,none⟩))∧w'.cell? ⟨cp,4,none⟩=some (.int .u64 (Tk:Int)))) (by kernel_rfl) (by kernel_rfl) (by rintro ⟨a,w,hq⟩;cases hq.1) ⟨t0,ta,a0,a4⟩ (fun hHeld=>?_)
    refine wpAnyH_take (i:=0) (oi:=⟨some 23,.fieldAddr 297 (.tmp 3) 0,0,"coordinator.go:104",#[],none⟩) (v:=.pointer (some ⟨tp,0,none⟩)) rfl (by kernel_rfl) (by kernel_rfl) (by kernel_rfl) (fun _ _ _ h=>h) (Or.inl ⟨by rfl,?_⟩) (by assumption) ?_
    ·intro w hSw;(try dsimp only at hSw);go_simp
    (try simp only [Act.put,List.setIfInBounds_toArray,List.set_cons_zero,List.set_cons_succ])
    refine wpAnyH_take (i:=1) (oi:=⟨some 24,.load 3 (.tmp 23),3,"coordinator.go:104",#[⟨0,.data⟩],none⟩) (v:=.int .i64 (5:Int)) rfl (by kernel_rfl) (by kernel_rfl) (by kernel_rfl) (fun _ _ _ h=>h) (Or.inl ⟨by rfl,?_⟩) (by assumption) ?_
    ·intro w hSw;(try dsimp only at hSw);go_simp
    (try simp only [Act.put,List.setIfInBounds_toArray,List.set_cons_zero,List.set_cons_succ])
    refine wpAnyH_take (i:=2) (oi:=⟨some 25,.binOp BinOp.eql 3 (.tmp 24) (.const (Value.int IntKind.i64 5)) 3,4,"coordinator.go:104",#[⟨1,.data⟩],none⟩) (v:=.bool true) rfl (by kernel_rfl) (by kernel_rfl) (by kernel_rfl) (fun _ _ _ h=>h) (Or.inl ⟨by rfl,?_⟩) (by assumption) ?_
    ·intro w hSw;(try dsimp only at hSw);go_simp
    (try simp only [Act.put,List.setIfInBounds_toArray,List.set_cons_zero,List.set_cons_succ])
    refine wpAnyH_take (i:=3) (oi:=⟨some 26,.move (.tmp 25),4,"coordinator.go:104",#[⟨2,.data⟩],none⟩) (v:=.bool true) rfl (by kernel_rfl) (by kernel_rfl) (by kernel_rfl) (fun _ _ _ h=>h) (Or.inl ⟨by rfl,?_⟩) (by assumption) ?_
    ·intro w hSw;(try dsimp only at hSw);go_simp
    (try simp only [Act.put,List.setIfInBounds_toArray,List.set_cons_zero,List.set_cons_succ])
    refine wpAnyH_take (i:=4) (oi:=⟨some 27,.load 91 (.tmp 1),91,"coordinator.go:104",#[⟨3,.guard⟩],some (3,true)⟩) (v:=.pointer (some ⟨cp,0,none⟩)) rfl (by kernel_rfl) (by kernel_rfl) (by kernel_rfl) (fun _ _ _ h=>h) (Or.inl ⟨by rfl,?_⟩) (by assumption) ?_
    ·intro w hSw;(try dsimp only at hSw);go_simp
    (try simp only [Act.put,List.setIfInBounds_toArray,List.set_cons_zero,List.set_cons_succ])
    refine wpAnyH_take (i:=5) (oi:=⟨some 28,.nilCheck (.tmp 27),0,"coordinator.go:104",#[⟨4,.data⟩,⟨3,.guard⟩],some (3,true)⟩) (v:=.pointer (some ⟨cp,0,none⟩)) rfl (by kernel_rfl) (by kernel_rfl) (by kernel_rfl) (fun _ _ _ h=>h) (Or.inl ⟨by rfl,?_⟩) (by assumption) ?_
    ·intro w hSw;(try dsimp only at hSw);go_simp
    (try simp only [Act.put,List.setIfInBounds_toArray,List.set_cons_zero,List.set_cons_succ])
    refine wpAnyH_take (i:=6) (oi:=⟨some 29,.fieldAddr 226 (.tmp 28) 4,0,"coordinator.go:104",#[⟨5,.data⟩,⟨3,.guard⟩],some (3,true)⟩) (v:=.pointer (some ⟨cp,4,none⟩)) rfl (by kernel_rfl) (by kernel_rfl) (by kernel_rfl) (fun _ _ _ h=>h) (Or.inl ⟨by rfl,?_⟩) (by assumption) ?_
    ·intro w hSw;(try dsimp only at hSw);go_simp
    (try simp only [Act.put,List.setIfInBounds_toArray,List.set_cons_zero,List.set_cons_succ])
    refine wpAnyH_take (i:=7) (oi:=⟨some 30,.load 34 (.tmp 29),34,"coordinator.go:104",#[⟨6,.data⟩,⟨3,.guard⟩],some (3,true)⟩) (v:=.int .u64 (Tk:Int)) rfl (by kernel_rfl) (by kernel_rfl) (by kernel_rfl) (fun _ _ _ h=>h) (Or.inl ⟨by rfl,?_⟩) (by assumption) ?_
    ·intro w hSw;(try dsimp only at hSw);go_simp
    (try simp only [Act.put,List.setIfInBounds_toArray,List.set_cons_zero,List.set_cons_succ])
    refine wpAnyH_take (i:=8) (oi:=⟨some 31,.fieldAddr 297 (.tmp 3) 2,0,"coordinator.go:104",#[⟨3,.guard⟩],some (3,true)⟩) (v:=.pointer (some ⟨tp,10,none⟩)) rfl (by kernel_rfl) (by kernel_rfl) (by kernel_rfl) (fun _ _ _ h=>h) (Or.inl ⟨by rfl,?_⟩) (by assumption) ?_
    ·intro w hSw;(try dsimp only at hSw);go_simp
    (try simp only [Act.put,List.setIfInBounds_toArray,List.set_cons_zero,List.set_cons_succ])
    refine wpAnyH_take (i:=9) (oi:=⟨some 32,.load 34 (.tmp 31),34,"coordinator.go:104",#[⟨8,.data⟩,⟨3,.guard⟩],some (3,true)⟩) (v:=.int .u64 (z:Int)) rfl (by kernel_rfl) (by kernel_rfl) (by kernel_rfl) (fun _ _ _ h=>h) (Or.inl ⟨by rfl,?_⟩) (by assumption) ?_
    ·intro w hSw;(try dsimp only at hSw);go_simp
    (try simp only [Act.put,List.setIfInBounds_toArray,List.set_cons_zero,List.set_cons_succ])
    refine wpAnyH_take (i:=10) (oi:=⟨some 33,.binOp BinOp.sub 34 (.tmp 30) (.tmp 32) 34,34,"coordinator.go:104",#[⟨7,.data⟩,⟨9,.data⟩,⟨3,.guard⟩],some (3,true)⟩) (v:=.int .u64 (D:Int)) rfl (by kernel_rfl) (by kernel_rfl) (by kernel_rfl) (fun _ _ _ h=>h) (Or.inl ⟨by rfl,?_⟩) (by assumption) ?_
    ·intro w hSw;(try dsimp only at hSw);go_simp
    (try simp only [Act.put,List.setIfInBounds_toArray,List.set_cons_zero,List.set_cons_succ])
    refine wpAnyH_take (i:=11) (oi:=⟨some 34,.binOp BinOp.geq 34 (.tmp 33) (.const (Value.int IntKind.u64 8)) 34,4,"coordinator.go:104",#[⟨10,.data⟩,⟨3,.guard⟩],some (3,true)⟩) (v:=.bool true) rfl (by kernel_rfl) (by kernel_rfl) (by kernel_rfl) (fun _ _ _ h=>h) (Or.inl ⟨by rfl,?_⟩) (by assumption) ?_
    ·intro w hSw;(try dsimp only at hSw);go_simp
    (try simp only [Act.put,List.setIfInBounds_toArray,List.set_cons_zero,List.set_cons_succ])
    refine wpAnyH_take (i:=12) (oi:=⟨some 35,.pick (.tmp 26) (.tmp 34) (.const (Value.bool false)),4,"coordinator.go:104",#[⟨3,.data⟩,⟨11,.data⟩],none⟩) (v:=.bool true) rfl (by kernel_rfl) (by kernel_rfl) (by kernel_rfl) (fun _ _ _ h=>h) (Or.inl ⟨by rfl,?_⟩) (by assumption) ?_
    ·intro w hSw;(try dsimp only at hSw);go_simp
    (try simp only [Act.put,List.setIfInBounds_toArray,List.set_cons_zero,List.set_cons_succ])
    refine wpAnyH_take (i:=13) (oi:=⟨some 22,.assign (.tmp 35),4,"coordinator.go:104",#[⟨12,.data⟩,⟨3,.chain⟩],none⟩) (v:=.bool true) rfl (by kernel_rfl) (by kernel_rfl) (by kernel_rfl) (fun _ _ _ h=>h) (Or.inl ⟨by rfl,?_⟩) (by assumption) ?_
    ·intro w hSw;(try dsimp only at hSw);go_simp
    (try simp only [Act.put,List.setIfInBounds_toArray,List.set_cons_zero,List.set_cons_succ])
    refine wpAnyH_done (by kernel_rfl) ?_ _
    gi_wp2_with fail
    refine ⟨trivial,fun _=>by omega,CallsIn.inRound _ (hab.mono ?_)⟩
    clear hab
    rintro e W3 ⟨rfl,hc3,hf3⟩
    have HX:=toHid (HN.out W3 (by rw [HE.out];exact hc3) (((Fr.refl [] A).drew.r hla (by simp) (by simp)).trans hf3))
    clear hc3 hf3
    gi_wp2
    exact HX.out
   ·have i8:¬ (8:Int)≤(D:Int):=by omega
    have HE:=toHid (show cc.tickOne (t,⟨5,[p0,p1,p2,p3,p4,p5,p6,p7,p8],z⟩)={ cc with out:=cc.out++(meant isAw (cc.tx t).parts).map fun k=>(t,k,1) } from by
     unfold ACo.tickOne
     rw [if_pos rfl,← HTK.out.1,if_neg (show ¬ 8≤Tk - z from by rw [← HTK.out.2];exact h8)])
    have hab:=(callsIn_wide (n:=N - 1 - 1 - 1)).2 (send_any B cp lg bT (n+10*pre.length) t 213 isAw isAw_m isAw_en 1 cc A.drew (HIA.out.new (Fr.refl [] A).drew) ht (by omega))
    gi_wp2
    refine wpIn_region_round (S:=(fun w'=>w'.cell? ⟨tp,0,none⟩=some (.int .i64 (5:Int))∧w'.cell? ⟨tp,10,none⟩=some (.int .u64 (z:Int))∧w'.cell? ⟨w.heap.size,0,none⟩=some (.pointer (some ⟨cp,0,none⟩))∧w'.cell? ⟨cp,4,none⟩=some (.int .u64 (Tk:Int)))) (by kernel_rfl) (by kernel_rfl) (by rintro ⟨a,w,hq⟩;cases hq.1) ⟨t0,ta,a0,a4⟩ (fun hHeld=>?_)
    refine wpAnyH_take (i:=0) (oi:=⟨some 23,.fieldAddr 297 (.tmp 3) 0,0,"coordinator.go:104",#[],none⟩) (v:=.pointer (some ⟨tp,0,none⟩)) rfl (by kernel_rfl) (by kernel_rfl) (by kernel_rfl) (fun _ _ _ h=>h) (Or.inl ⟨by rfl,?_⟩) (by assumption) ?_
    ·intro w hSw;(try dsimp only at hSw);go_simp
    (try simp only [Act.put,List.setIfInBounds_toArray,List.set_cons_zero,List.set_cons_succ])
    refine wpAnyH_take (i:=1) (oi:=⟨some 24,.load 3 (.tmp 23),3,"coordinator.go:104",#[⟨0,.data⟩],none⟩) (v:=.int .i64 (5:Int)) rfl (by kernel_rfl) (by kernel_rfl) (by kernel_rfl) (fun _ _ _ h=>h) (Or.inl ⟨by rfl,?_⟩) (by assumption) ?_
    ·intro w hSw;(try dsimp only at hSw);go_simp
    (try simp only [Act.put,List.setIfInBounds_toArray,List.set_cons_zero,List.set_cons_succ])
    refine wpAnyH_take (i:=2) (oi:=⟨some 25,.binOp BinOp.eql 3 (.tmp 24) (.const (Value.int IntKind.i64 5)) 3,4,"coordinator.go:104",#[⟨1,.data⟩],none⟩) (v:=.bool true) rfl (by kernel_rfl) (by kernel_rfl) (by kernel_rfl) (fun _ _ _ h=>h) (Or.inl ⟨by rfl,?_⟩) (by assumption) ?_
    ·intro w hSw;(try dsimp only at hSw);go_simp
    (try simp only [Act.put,List.setIfInBounds_toArray,List.set_cons_zero,List.set_cons_succ])
    refine wpAnyH_take (i:=3) (oi:=⟨some 26,.move (.tmp 25),4,"coordinator.go:104",#[⟨2,.data⟩],none⟩) (v:=.bool true) rfl (by kernel_rfl) (by kernel_rfl) (by kernel_rfl) (fun _ _ _ h=>h) (Or.inl ⟨by rfl,?_⟩) (by assumption) ?_
    ·intro w hSw;(try dsimp only at hSw);go_simp
    (try simp only [Act.put,List.setIfInBounds_toArray,List.set_cons_zero,List.set_cons_succ])
    refine wpAnyH_take (i:=4) (oi:=⟨some 27,.load 91 (.tmp 1),91,"coordinator.go:104",#[⟨3,.guard⟩],some (3,true)⟩) (v:=.pointer (some ⟨cp,0,none⟩)) rfl (by kernel_rfl) (by kernel_rfl) (by kernel_rfl) (fun _ _ _ h=>h) (Or.inl ⟨by rfl,?_⟩) (by assumption) ?_
    ·intro w hSw;(try dsimp only at hSw);go_simp
    (try simp only [Act.put,List.setIfInBounds_toArray,List.set_cons_zero,List.set_cons_succ])
    refine wpAnyH_take (i:=5) (oi:=⟨some 28,.nilCheck (.tmp 27),0,"coordinator.go:104",#[⟨4,.data⟩,⟨3,.guard⟩],some (3,true)⟩) (v:=.pointer (some ⟨cp,0,none⟩)) rfl (by kernel_rfl) (by kernel_rfl) (by kernel_rfl) (fun _ _ _ h=>h) (Or.inl ⟨by rfl,?_⟩) (by assumption) ?_
    ·intro w hSw;(try dsimp only at hSw);go_simp
    (try simp only [Act.put,List.setIfInBounds_toArray,List.set_cons_zero,List.set_cons_succ])
    refine wpAnyH_take (i:=6) (oi:=⟨some 29,.fieldAddr 226 (.tmp 28) 4,0,"coordinator.go:104",#[⟨5,.data⟩,⟨3,.guard⟩],some (3,true)⟩) (v:=.pointer (some ⟨cp,4,none⟩)) rfl (by kernel_rfl) (by kernel_rfl) (by kernel_rfl) (fun _ _ _ h=>h) (Or.inl ⟨by rfl,?_⟩) (by assumption) ?_
    ·intro w hSw;(try dsimp only at hSw);go_simp
    (try simp only [Act.put,List.setIfInBounds_toArray,List.set_cons_zero,List.set_cons_succ])
    refine wpAnyH_take (i:=7) (oi:=⟨some 30,.load 34 (.tmp 29),34,"coordinator.go:104",#[⟨6,.data⟩,⟨3,.guard⟩],some (3,true)⟩) (v:=.int .u64 (Tk:Int)) rfl (by kernel_rfl) (by kernel_rfl) (by kernel_rfl) (fun _ _ _ h=>h) (Or.inl ⟨by rfl,?_⟩) (by assumption) ?_
    ·intro w hSw;(try dsimp only at hSw);go_simp
    (try simp only [Act.put,List.setIfInBounds_toArray,List.set_cons_zero,List.set_cons_succ])
    refine wpAnyH_take (i:=8) (oi:=⟨some 31,.fieldAddr 297 (.tmp 3) 2,0,"coordinator.go:104",#[⟨3,.guard⟩],some (3,true)⟩) (v:=.pointer (some ⟨tp,10,none⟩)) rfl (by kernel_rfl) (by kernel_rfl) (by kernel_rfl) (fun _ _ _ h=>h) (Or.inl ⟨by rfl,?_⟩) (by assumption) ?_
    ·intro w hSw;(try dsimp only at hSw);go_simp
    (try simp only [Act.put,List.setIfInBounds_toArray,List.set_cons_zero,List.set_cons_succ])
    refine wpAnyH_take (i:=9) (oi:=⟨some 32,.load 34 (.tmp 31),34,"coordinator.go:104",#[⟨8,.data⟩,⟨3,.guard⟩],some (3,true)⟩) (v:=.int .u64 (z:Int)) rfl (by kernel_rfl) (by kernel_rfl) (by kernel_rfl) (fun _ _ _ h=>h) (Or.inl ⟨by rfl,?_⟩) (by assumption) ?_
    ·intro w hSw;(try dsimp only at hSw);go_simp
    (try simp only [Act.put,List.setIfInBounds_toArray,List.set_cons_zero,List.set_cons_succ])
    refine wpAnyH_take (i:=10) (oi:=⟨some 33,.binOp BinOp.sub 34 (.tmp 30) (.tmp 32) 34,34,"coordinator.go:104",#[⟨7,.data⟩,⟨9,.data⟩,⟨3,.guard⟩],some (3,true)⟩) (v:=.int .u64 (D:Int)) rfl (by kernel_rfl) (by kernel_rfl) (by kernel_rfl) (fun _ _ _ h=>h) (Or.inl ⟨by rfl,?_⟩) (by assumption) ?_
    ·intro w hSw;(try dsimp only at hSw);go_simp
    (try simp only [Act.put,List.setIfInBounds_toArray,List.set_cons_zero,List.set_cons_succ])
    refine wpAnyH_take (i:=11) (oi:=⟨some 34,.binOp BinOp.geq 34 (.tmp 33) (.const (Value.int IntKind.u64 8)) 34,4,"coordinator.go:104",#[⟨10,.data⟩,⟨3,.guard⟩],some (3,true)⟩) (v:=.bool false) rfl (by kernel_rfl) (by kernel_rfl) (by kernel_rfl) (fun _ _ _ h=>h) (Or.inl ⟨by rfl,?_⟩) (by assumption) ?_
    ·intro w hSw;(try dsimp only at hSw);go_simp
    (try simp only [Act.put,List.setIfInBounds_toArray,List.set_cons_zero,List.set_cons_succ])
    refine wpAnyH_take (i:=12) (oi:=⟨some 35,.pick (.tmp 26) (.tmp 34) (.const (Value.bool false)),4,"coordinator.go:104",#[⟨3,.data⟩,⟨11,.data⟩],none⟩) (v:=.bool false) rfl (by kernel_rfl) (by kernel_rfl) (by kernel_rfl) (fun _ _ _ h=>h) (Or.inl ⟨by rfl,?_⟩) (by assumption) ?_
    ·intro w hSw;(try dsimp only at hSw);go_simp
    (try simp only [Act.put,List.setIfInBounds_toArray,List.set_cons_zero,List.set_cons_succ])
    refine wpAnyH_take (i:=13) (oi:=⟨some 22,.assign (.tmp 35),4,"coordinator.go:104",#[⟨12,.data⟩,⟨3,.chain⟩],none⟩) (v:=.bool false) rfl (by kernel_rfl) (by kernel_rfl) (by kernel_rfl) (fun _ _ _ h=>h) (Or.inl ⟨by rfl,?_⟩) (by assumption) ?_
    ·intro w hSw;(try dsimp only at hSw);go_simp
    (try simp only [Act.put,List.setIfInBounds_toArray,List.set_cons_zero,List.set_cons_succ])
    refine wpAnyH_done (by kernel_rfl) ?_ _
    gi_wp2_with fail
    refine ⟨trivial,fun _=>by omega,CallsIn.inRound _ (hab.mono ?_)⟩
    clear hab
    rintro e W3 ⟨rfl,hc3,hf3⟩
    have HX:=toHid (HN.out W3 (by rw [HE.out];exact hc3.mono (by omega)) (((Fr.refl [] A).drew.r hla (by simp) (by simp)).trans (RFr.mono hf3 (by simp))))
    clear hc3 hf3
    gi_wp2
    exact HX.out
  ·have i5:¬ (s:Int)=5:=by omega
   have j5:((s:Int) == 5)=false:=beq_eq_false_iff_ne.2 i5
   by_cases h6:s=6
   ·subst h6
    have HE:=toHid (show cc.tickOne (t,⟨6,[p0,p1,p2,p3,p4,p5,p6,p7,p8],z⟩)={ cc with out:=cc.out++(meant isToC (cc.tx t).parts).map fun k=>(t,k,5) } from by
     unfold ACo.tickOne
     rw [if_neg (show ¬ 6=5 from by decide),if_pos rfl])
    have hab:=(callsIn_wide (n:=N - 1 - 1 - 1)).2 (send_any B cp lg bT (n+10*pre.length) t 214 isToC isToC_m isToC_en 5 cc A.drew (HIA.out.new (Fr.refl [] A).drew) ht (by omega))
    gi_wp2
    refine wpIn_region_round (S:=(fun w'=>w'.cell? ⟨tp,0,none⟩=some (.int .i64 (6:Int))∧w'.cell? ⟨tp,10,none⟩=some (.int .u64 (z:Int))∧w'.cell? ⟨w.heap.size,0,none⟩=some (.pointer (some ⟨cp,0,none⟩))∧w'.cell? ⟨cp,4,none⟩=some (.int .u64 (Tk:Int)))) (by kernel_rfl) (by kernel_rfl) (by rintro ⟨a,w,hq⟩;cases hq.1) ⟨t0,ta,a0,a4⟩ (fun hHeld=>?_)
    refine wpAnyH_take (i:=0) (oi:=⟨some 23,.fieldAddr 297 (.tmp 3) 0,0,"coordinator.go:104",#[],none⟩) (v:=.pointer (some ⟨tp,0,none⟩)) rfl (by kernel_rfl) (by kernel_rfl) (by kernel_rfl) (fun _ _ _ h=>h) (Or.inl ⟨by rfl,?_⟩) (by assumption) ?_
    ·intro w hSw;(try dsimp only at hSw);go_simp
    (try simp only [Act.put,List.setIfInBounds_toArray,List.set_cons_zero,List.set_cons_succ])
    refine wpAnyH_take (i:=1) (oi:=⟨some 24,.load 3 (.tmp 23),3,"coordinator.go:104",#[⟨0,.data⟩],none⟩) (v:=.int .i64 (6:Int)) rfl (by kernel_rfl) (by kernel_rfl) (by kernel_rfl) (fun _ _ _ h=>h) (Or.inl ⟨by rfl,?_⟩) (by assumption) ?_
    ·intro w hSw;(try dsimp only at hSw);go_simp
    (try simp only [Act.put,List.setIfInBounds_toArray,List.set_cons_zero,List.set_cons_succ])
    refine wpAnyH_take (i:=2) (oi:=⟨some 25,.binOp BinOp.eql 3 (.tmp 24) (.const (Value.int IntKind.i64 5)) 3,4,"coordinator.go:104",#[⟨1,.data⟩],none⟩) (v:=.bool false) rfl (by kernel_rfl) (by kernel_rfl) (by kernel_rfl) (fun _ _ _ h=>h) (Or.inl ⟨by rfl,?_⟩) (by assumption) ?_
    ·intro w hSw;(try dsimp only at hSw);go_simp
    (try simp only [Act.put,List.setIfInBounds_toArray,List.set_cons_zero,List.set_cons_succ])
    refine wpAnyH_take (i:=3) (oi:=⟨some 26,.move (.tmp 25),4,"coordinator.go:104",#[⟨2,.data⟩],none⟩) (v:=.bool false) rfl (by kernel_rfl) (by kernel_rfl) (by kernel_rfl) (fun _ _ _ h=>h) (Or.inl ⟨by rfl,?_⟩) (by assumption) ?_
    ·intro w hSw;(try dsimp only at hSw);go_simp
    (try simp only [Act.put,List.setIfInBounds_toArray,List.set_cons_zero,List.set_cons_succ])
    refine wpAnyH_take (i:=4) (oi:=⟨some 27,.load 91 (.tmp 1),91,"coordinator.go:104",#[⟨3,.guard⟩],some (3,true)⟩) (v:=undef) rfl (by kernel_rfl) (by kernel_rfl) (by kernel_rfl) (fun _ _ _ h=>h) (Or.inr ⟨by rfl,rfl⟩) (by assumption) ?_
    (try simp only [Act.put,List.setIfInBounds_toArray,List.set_cons_zero,List.set_cons_succ])
    refine wpAnyH_take (i:=5) (oi:=⟨some 28,.nilCheck (.tmp 27),0,"coordinator.go:104",#[⟨4,.data⟩,⟨3,.guard⟩],some (3,true)⟩) (v:=undef) rfl (by kernel_rfl) (by kernel_rfl) (by kernel_rfl) (fun _ _ _ h=>h) (Or.inr ⟨by rfl,rfl⟩) (by assumption) ?_
    (try simp only [Act.put,List.setIfInBounds_toArray,List.set_cons_zero,List.set_cons_succ])
    refine wpAnyH_take (i:=6) (oi:=⟨some 29,.fieldAddr 226 (.tmp 28) 4,0,"coordinator.go:104",#[⟨5,.data⟩,⟨3,.guard⟩],some (3,true)⟩) (v:=undef) rfl (by kernel_rfl) (by kernel_rfl) (by kernel_rfl) (fun _ _ _ h=>h) (Or.inr ⟨by rfl,rfl⟩) (by assumption) ?_
    (try simp only [Act.put,List.setIfInBounds_toArray,List.set_cons_zero,List.set_cons_succ])
    refine wpAnyH_take (i:=7) (oi:=⟨some 30,.load 34 (.tmp 29),34,"coordinator.go:104",#[⟨6,.data⟩,⟨3,.guard⟩],some (3,true)⟩) (v:=undef) rfl (by kernel_rfl) (by kernel_rfl) (by kernel_rfl) (fun _ _ _ h=>h) (Or.inr ⟨by rfl,rfl⟩) (by assumption) ?_
    (try simp only [Act.put,List.setIfInBounds_toArray,List.set_cons_zero,List.set_cons_succ])
    refine wpAnyH_take (i:=8) (oi:=⟨some 31,.fieldAddr 297 (.tmp 3) 2,0,"coordinator.go:104",#[⟨3,.guard⟩],some (3,true)⟩) (v:=undef) rfl (by kernel_rfl) (by kernel_rfl) (by kernel_rfl) (fun _ _ _ h=>h) (Or.inr ⟨by rfl,rfl⟩) (by assumption) ?_
    (try simp only [Act.put,List.setIfInBounds_toArray,List.set_cons_zero,List.set_cons_succ])
    refine wpAnyH_take (i:=9) (oi:=⟨some 32,.load 34 (.tmp 31),34,"coordinator.go:104",#[⟨8,.data⟩,⟨3,.guard⟩],some (3,true)⟩) (v:=undef) rfl (by kernel_rfl) (by kernel_rfl) (by kernel_rfl) (fun _ _ _ h=>h) (Or.inr ⟨by rfl,rfl⟩) (by assumption) ?_
    (try simp only [Act.put,List.setIfInBounds_toArray,List.set_cons_zero,List.set_cons_succ])
    refine wpAnyH_take (i:=10) (oi:=⟨some 33,.binOp BinOp.sub 34 (.tmp 30) (.tmp 32) 34,34,"coordinator.go:104",#[⟨7,.data⟩,⟨9,.data⟩,⟨3,.guard⟩],some (3,true)⟩) (v:=undef) rfl (by kernel_rfl) (by kernel_rfl) (by kernel_rfl) (fun _ _ _ h=>h) (Or.inr ⟨by rfl,rfl⟩) (by assumption) ?_
    (try simp only [Act.put,List.setIfInBounds_toArray,List.set_cons_zero,List.set_cons_succ])
    refine wpAnyH_take (i:=11) (oi:=⟨some 34,.binOp BinOp.geq 34 (.tmp 33) (.const (Value.int IntKind.u64 8)) 34,4,"coordinator.go:104",#[⟨10,.data⟩,⟨3,.guard⟩],some (3,true)⟩) (v:=undef) rfl (by kernel_rfl) (by kernel_rfl) (by kernel_rfl) (fun _ _ _ h=>h) (Or.inr ⟨by rfl,rfl⟩) (by assumption) ?_
    (try simp only [Act.put,List.setIfInBounds_toArray,List.set_cons_zero,List.set_cons_succ])
    refine wpAnyH_take (i:=12) (oi:=⟨some 35,.pick (.tmp 26) (.tmp 34) (.const (Value.bool false)),4,"coordinator.go:104",#[⟨3,.data⟩,⟨11,.data⟩],none⟩) (v:=.bool false) rfl (by kernel_rfl) (by kernel_rfl) (by kernel_rfl) (fun _ _ _ h=>h) (Or.inl ⟨by rfl,?_⟩) (by assumption) ?_
    ·intro w hSw;(try dsimp only at hSw);go_simp
    (try simp only [Act.put,List.setIfInBounds_toArray,List.set_cons_zero,List.set_cons_succ])
    refine wpAnyH_take (i:=13) (oi:=⟨some 22,.assign (.tmp 35),4,"coordinator.go:104",#[⟨12,.data⟩,⟨3,.chain⟩],none⟩) (v:=.bool false) rfl (by kernel_rfl) (by kernel_rfl) (by kernel_rfl) (fun _ _ _ h=>h) (Or.inl ⟨by rfl,?_⟩) (by assumption) ?_
    ·intro w hSw;(try dsimp only at hSw);go_simp
    (try simp only [Act.put,List.setIfInBounds_toArray,List.set_cons_zero,List.set_cons_succ])
    refine wpAnyH_done (by kernel_rfl) ?_ _
    gi_wp2_with fail
    refine ⟨trivial,fun _=>by omega,CallsIn.inRound _ (hab.mono ?_)⟩
    clear hab
    rintro e W3 ⟨rfl,hc3,hf3⟩
    have HX:=toHid (HN.out W3 (by rw [HE.out];exact hc3.mono (by omega)) (((Fr.refl [] A).drew.r hla (by simp) (by simp)).trans (RFr.mono hf3 (by simp))))
    clear hc3 hf3
    gi_wp2
    exact HX.out
   ·have i6:¬ (s:Int)=6:=by omega
    have j6:((s:Int) == 6)=false:=beq_eq_false_iff_ne.2 i6
    have HX:=toHid (HN.out A.drew (by
     have e:cc.tickOne (t,⟨s,[p0,p1,p2,p3,p4,p5,p6,p7,p8],z⟩)=cc:=by
      unfold ACo.tickOne
      rw [if_neg (show ¬ s=5 from h5),if_neg (show ¬ s=6 from h6)]
     rw [e];exact (HIA.out.new (Fr.refl [] A).drew).mono (by omega)) ((Fr.refl [] A).drew.r hla (by simp) (by simp)))
    gi_wp2
    refine wpIn_region_round (S:=(fun w'=>w'.cell? ⟨tp,0,none⟩=some (.int .i64 (s:Int))∧w'.cell? ⟨tp,10,none⟩=some (.int .u64 (z:Int))∧w'.cell? ⟨w.heap.size,0,none⟩=some (.pointer (some ⟨cp,0,none⟩))∧w'.cell? ⟨cp,4,none⟩=some (.int .u64 (Tk:Int)))) (by kernel_rfl) (by kernel_rfl) (by rintro ⟨a,w,hq⟩;cases hq.1) ⟨t0,ta,a0,a4⟩ (fun hHeld=>?_)
    refine wpAnyH_take (i:=0) (oi:=⟨some 23,.fieldAddr 297 (.tmp 3) 0,0,"coordinator.go:104",#[],none⟩) (v:=.pointer (some ⟨tp,0,none⟩)) rfl (by kernel_rfl) (by kernel_rfl) (by kernel_rfl) (fun _ _ _ h=>h) (Or.inl ⟨by rfl,?_⟩) (by assumption) ?_
    ·intro w hSw;(try dsimp only at hSw);go_simp
    (try simp only [Act.put,List.setIfInBounds_toArray,List.set_cons_zero,List.set_cons_succ])
    refine wpAnyH_take (i:=1) (oi:=⟨some 24,.load 3 (.tmp 23),3,"coordinator.go:104",#[⟨0,.data⟩],none⟩) (v:=.int .i64 (s:Int)) rfl (by kernel_rfl) (by kernel_rfl) (by kernel_rfl) (fun _ _ _ h=>h) (Or.inl ⟨by rfl,?_⟩) (by assumption) ?_
    ·intro w hSw;(try dsimp only at hSw);go_simp
    (try simp only [Act.put,List.setIfInBounds_toArray,List.set_cons_zero,List.set_cons_succ])
    refine wpAnyH_take (i:=2) (oi:=⟨some 25,.binOp BinOp.eql 3 (.tmp 24) (.const (Value.int IntKind.i64 5)) 3,4,"coordinator.go:104",#[⟨1,.data⟩],none⟩) (v:=.bool false) rfl (by kernel_rfl) (by kernel_rfl) (by kernel_rfl) (fun _ _ _ h=>h) (Or.inl ⟨by rfl,?_⟩) (by assumption) ?_
    ·intro w hSw;(try dsimp only at hSw);go_simp
    (try simp only [Act.put,List.setIfInBounds_toArray,List.set_cons_zero,List.set_cons_succ])
    refine wpAnyH_take (i:=3) (oi:=⟨some 26,.move (.tmp 25),4,"coordinator.go:104",#[⟨2,.data⟩],none⟩) (v:=.bool false) rfl (by kernel_rfl) (by kernel_rfl) (by kernel_rfl) (fun _ _ _ h=>h) (Or.inl ⟨by rfl,?_⟩) (by assumption) ?_
    ·intro w hSw;(try dsimp only at hSw);go_simp
    (try simp only [Act.put,List.setIfInBounds_toArray,List.set_cons_zero,List.set_cons_succ])
    refine wpAnyH_take (i:=4) (oi:=⟨some 27,.load 91 (.tmp 1),91,"coordinator.go:104",#[⟨3,.guard⟩],some (3,true)⟩) (v:=undef) rfl (by kernel_rfl) (by kernel_rfl) (by kernel_rfl) (fun _ _ _ h=>h) (Or.inr ⟨by rfl,rfl⟩) (by assumption) ?_
    (try simp only [Act.put,List.setIfInBounds_toArray,List.set_cons_zero,List.set_cons_succ])
    refine wpAnyH_take (i:=5) (oi:=⟨some 28,.nilCheck (.tmp 27),0,"coordinator.go:104",#[⟨4,.data⟩,⟨3,.guard⟩],some (3,true)⟩) (v:=undef) rfl (by kernel_rfl) (by kernel_rfl) (by kernel_rfl) (fun _ _ _ h=>h) (Or.inr ⟨by rfl,rfl⟩) (by assumption) ?_
    (try simp only [Act.put,List.setIfInBounds_toArray,List.set_cons_zero,List.set_cons_succ])
    refine wpAnyH_take (i:=6) (oi:=⟨some 29,.fieldAddr 226 (.tmp 28) 4,0,"coordinator.go:104",#[⟨5,.data⟩,⟨3,.guard⟩],some (3,true)⟩) (v:=undef) rfl (by kernel_rfl) (by kernel_rfl) (by kernel_rfl) (fun _ _ _ h=>h) (Or.inr ⟨by rfl,rfl⟩) (by assumption) ?_
    (try simp only [Act.put,List.setIfInBounds_toArray,List.set_cons_zero,List.set_cons_succ])
    refine wpAnyH_take (i:=7) (oi:=⟨some 30,.load 34 (.tmp 29),34,"coordinator.go:104",#[⟨6,.data⟩,⟨3,.guard⟩],some (3,true)⟩) (v:=undef) rfl (by kernel_rfl) (by kernel_rfl) (by kernel_rfl) (fun _ _ _ h=>h) (Or.inr ⟨by rfl,rfl⟩) (by assumption) ?_
    (try simp only [Act.put,List.setIfInBounds_toArray,List.set_cons_zero,List.set_cons_succ])
    refine wpAnyH_take (i:=8) (oi:=⟨some 31,.fieldAddr 297 (.tmp 3) 2,0,"coordinator.go:104",#[⟨3,.guard⟩],some (3,true)⟩) (v:=undef) rfl (by kernel_rfl) (by kernel_rfl) (by kernel_rfl) (fun _ _ _ h=>h) (Or.inr ⟨by rfl,rfl⟩) (by assumption) ?_
    (try simp only [Act.put,List.setIfInBounds_toArray,List.set_cons_zero,List.set_cons_succ])
    refine wpAnyH_take (i:=9) (oi:=⟨some 32,.load 34 (.tmp 31),34,"coordinator.go:104",#[⟨8,.data⟩,⟨3,.guard⟩],some (3,true)⟩) (v:=undef) rfl (by kernel_rfl) (by kernel_rfl) (by kernel_rfl) (fun _ _ _ h=>h) (Or.inr ⟨by rfl,rfl⟩) (by assumption) ?_
    (try simp only [Act.put,List.setIfInBounds_toArray,List.set_cons_zero,List.set_cons_succ])
    refine wpAnyH_take (i:=10) (oi:=⟨some 33,.binOp BinOp.sub 34 (.tmp 30) (.tmp 32) 34,34,"coordinator.go:104",#[⟨7,.data⟩,⟨9,.data⟩,⟨3,.guard⟩],some (3,true)⟩) (v:=undef) rfl (by kernel_rfl) (by kernel_rfl) (by kernel_rfl) (fun _ _ _ h=>h) (Or.inr ⟨by rfl,rfl⟩) (by assumption) ?_
    (try simp only [Act.put,List.setIfInBounds_toArray,List.set_cons_zero,List.set_cons_succ])
    refine wpAnyH_take (i:=11) (oi:=⟨some 34,.binOp BinOp.geq 34 (.tmp 33) (.const (Value.int IntKind.u64 8)) 34,4,"coordinator.go:104",#[⟨10,.data⟩,⟨3,.guard⟩],some (3,true)⟩) (v:=undef) rfl (by kernel_rfl) (by kernel_rfl) (by kernel_rfl) (fun _ _ _ h=>h) (Or.inr ⟨by rfl,rfl⟩) (by assumption) ?_
    (try simp only [Act.put,List.setIfInBounds_toArray,List.set_cons_zero,List.set_cons_succ])
    refine wpAnyH_take (i:=12) (oi:=⟨some 35,.pick (.tmp 26) (.tmp 34) (.const (Value.bool false)),4,"coordinator.go:104",#[⟨3,.data⟩,⟨11,.data⟩],none⟩) (v:=.bool false) rfl (by kernel_rfl) (by kernel_rfl) (by kernel_rfl) (fun _ _ _ h=>h) (Or.inl ⟨by rfl,?_⟩) (by assumption) ?_
    ·intro w hSw;(try dsimp only at hSw);go_simp
    (try simp only [Act.put,List.setIfInBounds_toArray,List.set_cons_zero,List.set_cons_succ])
    refine wpAnyH_take (i:=13) (oi:=⟨some 22,.assign (.tmp 35),4,"coordinator.go:104",#[⟨12,.data⟩,⟨3,.chain⟩],none⟩) (v:=.bool false) rfl (by kernel_rfl) (by kernel_rfl) (by kernel_rfl) (fun _ _ _ h=>h) (Or.inl ⟨by rfl,?_⟩) (by assumption) ?_
    ·intro w hSw;(try dsimp only at hSw);go_simp
    (try simp only [Act.put,List.setIfInBounds_toArray,List.set_cons_zero,List.set_cons_succ])
    refine wpAnyH_done (by kernel_rfl) ?_ _
    gi_wp2
    exact HX.out
 case done =>
  rintro A ⟨hIA,hfA,rcA⟩ hsA hK
  gi_wp2
  refine ⟨by simp,.inl ⟨_,_,rfl,run_takeDeferred hK,?_⟩⟩
  obtain ⟨W9,hW9⟩:∃ W9,W9=A.putObj w2.heap.size (.deferred none):=⟨_,rfl⟩
  rw [← hW9]
  have hb9:Bk w2.heap.size A W9:=by rw [hW9];exact Bk.put hK rfl (Nat.le_refl _) _
  have hl9:(atX c.txns (keysU c.txns)).length≤12:=by
   unfold atX keysU
   simp
   exact hl
  have h9:=(hIA.bk hb9).mono (m:=n+120) (by omega)
  exact ⟨_,results_none rfl _ _ _,rfl,h9,HG.out.2.1.trans (hfA.bk hIA hb9 (Nat.le_refl _))⟩
theorem ctick_any (B cp lg bT n:Nat) (c:ACo) (w:World) (h:CoIn w B cp lg bT n c) (hl:c.txns.length≤12) (hsi:∀ x∈c.txns,x.2.since≤c.ticks∧x.1<18446744073709551616) (htk:c.ticks+1<18446744073709551616) (hn:n+200<67108864) :
  Calls Tryz.prog 147 #[.pointer (some ⟨cp,0,none⟩)] w fun e w'=>e=.returned (.tuple #[])∧CoIn w' B cp lg bT (n+120) c.tick∧RFr cp [cp,bT] w w' :=
 (callsIn_wide (n:=12)).1 (ctick_in 12 (Nat.le_refl _) B cp lg bT n c w h hl hsi htk hn)
end Go.Proofs.YtejiankgafjppaaGreatDoor
