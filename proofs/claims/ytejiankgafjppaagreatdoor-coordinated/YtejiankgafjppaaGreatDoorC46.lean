import Derived.Test.YtejiankgafjppaaGreatDoorC45
import Derived.Test.YtejiankgafjppaaGreatDoorC42
import Derived.Test.YtejiankgafjppaaGreatDoorC40
namespace Go.Proofs.YtejiankgafjppaaGreatDoor
open Go.RowKit Go.Maps Go.Shelf
open Sc
theorem Tryz.infoU64k:(Tryz.prog.info? 34).map (fun i=>(i.zero,i.size,i.bytes))=some (some (.int .u64 0),1,8):=by kernel_rfl
def idsV (l:List Nat):List Value:=l.map fun t:Nat=>.int .u64 (t:Int)
theorem idsV_at {w:World} {b:Nat} {v:Value} {l:List Nat} (h:w.ownsRow b 34 1 v l.length (idsV l)):∃ ao c,v=.slice ao l.length c∧∀ k t:Nat,l[k]?=some t→∃ g,ao=some ⟨g,0,none⟩∧w.cell? ⟨g,k,none⟩=some (.int .u64 (t:Int)):=by
 rcases h.2 with ⟨e,h0⟩ | ⟨g,cap,cur,e,rest⟩
 ·refine ⟨none,0,by rw [e,h0],fun i p hp=>?_⟩
  have:=(List.getElem?_eq_some_iff.1 hp).1
  omega
 ·refine ⟨some ⟨g,0,none⟩,cap,e,fun i p hp=>⟨g,rfl,row_cell h e (by unfold idsV;rw [List.getElem?_map,hp];rfl)⟩⟩
set_option maxRecDepth 100000 in
set_option maxHeartbeats 8000000 in
theorem ktick_any [Inhabited Bs] (rp:Nat) (S:List Nat) (R:RCo) (w:World) (h:RkN w rp S R) (hasc:DAsc R.deals) (hn:R.deals.length≤12) (hpl:∀ x∈R.deals,x.parts.length≤8) (hag:∀ x∈R.deals,x.st=5→x.age≤1000) (hol:R.out.length≤1000000) (hrl:R.res.length≤1000000) :
  Calls Tryz.prog 95 #[.pointer (some ⟨rp,0,none⟩)] w fun e w'=>e=.returned (.tuple #[])∧∃ S',RkN w' rp S' R.tick∧KFr S S' w w':=by
 obtain ⟨u0,hun,uz0,uz1,uz2⟩:=info_parts Tryz.infoU64k
 have HNN:=toHid h
 obtain ⟨xv,rv,ov,ps,h,hS⟩:=h
 have HI:=toHid h
 have HSS:=toHid hS
 clear hS
 obtain ⟨n,hnn⟩:∃ n,n=ps.length:=⟨_,rfl⟩
 have HN:Hid (ps.length=n):=hnn.symm
 have hn12:n≤12:=by rw [hnn,h.len];exact hn
 obtain ⟨ids,hids⟩:∃ ids,ids=R.deals.map (·.id):=⟨_,rfl⟩
 have hil:ids.length=n:=by rw [hids,List.length_map,hnn,h.len]
 have hnd:ids.Nodup:=by
  rw [hids]
  unfold List.Nodup
  rw [List.pairwise_map]
  exact hasc.imp fun hab=>by omega
 have HB:=toHid (show DAsc R.deals∧(∀ x∈R.deals,x.parts.length≤8)∧(∀ x∈R.deals,x.st=5→x.age≤1000)∧R.out.length≤1000000∧R.res.length≤1000000∧R.deals.length≤12 from ⟨hasc,hpl,hag,hol,hrl,hn⟩)
 have HID:=toHid (show ids=R.deals.map (·.id)∧ids.length=n∧ids.Nodup from ⟨hids,hil,hnd⟩)
 clear h hnn hasc hn hpl hag hol hrl hids hil hnd
 go_enter Tryz.func95,Tryz.ntmps95
 go_wp2
 go_loopw [2,3] (fun iv j wr=>∃ k:Nat,k≤n∧j=.int .i64 k∧Hid (wr.ownsRow w.heap.size 34 1 iv k (idsV (ids.take k))∧Fr [] w wr)) (fun _ j _=>n - (intOf j).toNat)
 case atStart=>exact ⟨0,Nat.zero_le _,rfl,by rw [List.take_zero];exact World.ownsRow_nil _ _ _ _,Fr.refl [] w⟩
 case round =>
  obtain ⟨k,hk,rfl,hr⟩:=hrel
  have hrI:=HI.out.fr hr.out.2
  have c0:=blk_cell hrI.blk 0
  simp at c0
  obtain ⟨ao,c,e0,H⟩:=hrI.slice
  rw [e0,HN.out] at c0
  obtain ⟨ia,im,ic,ei⟩:=own_sl hr.out.1
  subst ei
  by_cases hlt:k<n
  ·obtain ⟨p,hp⟩:∃ p,ps[k]?=some p:=⟨_,List.getElem?_eq_getElem (by rw [HN.out];exact hlt)⟩
   obtain ⟨g,rfl,x0,x1,x2,x3,x4⟩:=H k p hp
   have hidk:ids[k]?=some p.1.id:=by rw [HID.out.1,List.getElem?_map,HI.out.back hp];rfl
   obtain ⟨t,ht⟩:∃ t,t=p.1.id:=⟨_,rfl⟩
   rw [← ht] at x0 hidk
   have k0:(0:Int)≤(k:Int):=by omega
   have k1:(k:Int)<(n:Int):=by omega
   have HP:=toHid (show idsV (ids.take (k+1))=idsV (ids.take k)++[.int .u64 (t:Int)] by unfold idsV;rw [List.take_add_one,hidk];simp)
   clear H hp hidk ht x1 x2 x3 x4 hrI
   go_wp2_with (at_builtin;refine wpList_app rfl _ _ 56 rfl w.heap.size 34 u0 _ 1 8 Tryz.underlying56 hun uz0 uz1 uz2 rfl (by decide) _ k (idsV (ids.take k)) rfl (hr.out.1.alloc _) 1 [.int .u64 (t:Int)] (.inl ⟨⟨wr.heap.size,0,none⟩,1,rfl,cells_new _ #[.int .u64 (t:Int)] _⟩) rfl (by intro u hu;simp at hu;subst hu;rfl) (by unfold maxLen;omega) (by omega) (by have:=hr.out.2.size;simp;omega) ?_;intro v5 w5 ho5 hg5 ha5)
   have HF5:Hid (w5.ownsRow w.heap.size 34 1 v5 (k+1) (idsV (ids.take (k+1)))∧Fr [] w w5):=⟨by rw [HP.out];exact ho5,Fr.new_grown (hr.out.2.alloc _) (fun q hq=>(hr.out.1.lt q hq).1) hg5⟩
   clear ho5 hg5 ha5
   go_roundw
   case rel=>exact ⟨k+1,by omega,by go_num,HF5⟩
   case measure=>simp [intOf];omega
  ·have hkn:k=n:=by omega
   have htk:ids.take k=ids:=List.take_of_length_le (by rw [HID.out.2.1];omega)
   have hrow:=hr.out.1
   rw [htk,hkn] at hrow
   have eim:im=n:=by
    rcases hrow.2 with ⟨e,h0⟩ | ⟨_,_,_,e,_⟩
    ·simp only [Value.slice.injEq] at e;omega
    ·simp only [Value.slice.injEq] at e;exact e.2.1
   rw [eim] at hrow ⊢
   have H0:Hid (∃ S1,RkN wr rp S1 ((ids.take 0).foldl RCo.tickOne R)∧KFr S S1 w wr∧wr.ownsRow w.heap.size 34 1 (.slice ia n ic) n (idsV ids)):=⟨S,⟨xv,rv,ov,ps,hrI,HSS.out⟩,KFr.of hr.out.2,hrow⟩
   have hnl:¬ (k:Int)<(n:Int):=by omega
   clear H hrow hrI hr htk hkn eim
   go_wp2
   clear c0 hlt hnl hk
   go_loopw [4] (fun j wr=>∃ k:Nat,k≤n∧j=.int .i64 k∧Hid (∃ S1,RkN wr rp S1 ((ids.take k).foldl RCo.tickOne R)∧KFr S S1 w wr∧wr.ownsRow w.heap.size 34 1 (.slice ia n ic) n (idsV ids))) (fun j _=>n - (intOf j).toNat)
   case atStart=>exact ⟨0,Nat.zero_le _,rfl,H0⟩
   case round =>
    obtain ⟨k,hk,rfl,hr⟩:=hrel
    by_cases hlt:k<n
    ·obtain ⟨t,ht⟩:∃ t,ids[k]?=some t:=⟨_,List.getElem?_eq_getElem (by rw [HID.out.2.1];exact hlt)⟩
     obtain ⟨S1,hR1,hkf1,hrow1⟩:=hr.out
     obtain ⟨iao,ic',eia,HIA⟩:=idsV_at (l:=ids) (by rw [HID.out.2.1];exact hrow1)
     obtain ⟨gi,ea,z0⟩:=HIA k t ht
     obtain ⟨rfl,hcl,rfl⟩:ia=iao∧n=ids.length∧ic=ic':=by simpa using eia
     clear hcl
     subst ea
     obtain ⟨R1,hR⟩:∃ R1,R1=(ids.take k).foldl RCo.tickOne R:=⟨_,rfl⟩
     rw [← hR] at hR1
     have hmath:=ticks_deals (ids.take k) R HB.out.1 HB.out.2.1
     have hlens:=ticks_len (ids.take k) R HB.out.2.1
     rw [← hR] at hmath hlens
     have hnot:=nodup_take HID.out.2.2 ht
     obtain ⟨x,hxA⟩:∃ x,dealAt R1.deals t=some x:=by
      rw [hmath.2.1 t hnot]
      have hm:=List.mem_of_getElem? ht
      rw [HID.out.1] at hm
      obtain ⟨x,hx,rfl⟩:=List.mem_map.1 hm
      exact ⟨x,HB.out.1.at hx⟩
     obtain ⟨i,hix,hxi,hxid⟩:=dealAt_ix hxA
     have hagx:x.st=5→x.age≤1000:=by
      rw [hmath.2.1 t hnot] at hxA
      exact HB.out.2.2.1 x (dealAt_mem hxA).1
     have hpx:x.parts.length≤8:=hmath.2.2.2 x (List.mem_of_getElem? hxi)
     have htl:(ids.take k).length≤12:=by rw [List.length_take,HID.out.2.1];omega
     have HN1:=toHid (show R1.out.length≤1000100∧R1.res.length≤1000100∧R1.deals.length≤12 from ⟨by have:=HB.out.2.2.2.1;omega,by have:=HB.out.2.2.2.2.1;omega,by have:=HB.out.2.2.2.2.2;omega⟩)
     have HNX:=toHid (ticks_next ids R ht)
     rw [← hR] at HNX
     obtain ⟨xv1,rv1,ov1,ps1,h1,hS1⟩:=hR1
     have hf:=kfind_any rp t xv1 rv1 ov1 ps1 R1 wr h1 (by have:=HN1.out;have:=h1.len;omega)
     rw [hix] at hf
     have e1:ixI (some i)=(i:Int):=rfl
     rw [e1] at hf
     have hkl:=h1.len
     obtain ⟨v0,hv0⟩:=h1.at hxi
     have c0:=blk_cell h1.blk 0
     simp at c0
     obtain ⟨ax,c,hxv,H⟩:=h1.slice
     rw [hxv] at c0
     obtain ⟨g,rfl,x0,x1,x2,x3,x4⟩:=H i _ hv0
     obtain ⟨po,pm,pc,epv⟩:=own_sl (h1.prt _ (List.mem_of_getElem? hv0))
     simp only at epv x0 x1 x2 x3
     subst epv
     obtain ⟨D,hD⟩:∃ D,D=x.id:=⟨_,rfl⟩
     obtain ⟨st,hst⟩:∃ st,st=x.st:=⟨_,rfl⟩
     obtain ⟨ag,hga⟩:∃ ag,ag=x.age:=⟨_,rfl⟩
     obtain ⟨N1,hN1⟩:∃ N1,N1=ps1.length:=⟨_,rfl⟩
     rw [← hD] at x0
     rw [← hst] at x1
     rw [← hga] at x2
     rw [← hN1] at c0
     have k0:(0:Int)≤(k:Int):=by omega
     have k1:(k:Int)<(n:Int):=by omega
     have i1:(0:Int)≤(i:Int):=by omega
     have hil:=(List.getElem?_eq_some_iff.1 hv0).1
     have i2:(i:Int)<(N1:Int):=by omega
     have hNb:N1≤12:=by have:=HN1.out;omega
     have HW:=toHid (show RkIn wr rp xv1 rv1 ov1 ps1 R1∧KFr S (kb rp xv1 rv1 ov1 ps1) w wr∧wr.ownsRow w.heap.size 34 1 (.slice (some ⟨gi,0,none⟩) n ic) n (idsV ids)∧ps1[i]?=some (x,.slice po pm pc)∧xv1=.slice (some ⟨g,0,none⟩) N1 c∧N1=ps1.length∧R1.deals[i]?=some x∧(x.st=5→x.age≤1000)∧x.parts.length≤8 from ⟨h1,by rw [← hS1];exact hkf1,hrow1,hv0,by rw [hN1];exact hxv,hN1,hxi,hagx,hpx⟩)
     have HXX:=toHid (show D=x.id∧st=x.st∧ag=x.age∧dealAt R1.deals t=some x from ⟨hD,hst,hga,hxA⟩)
     have HDA:=toHid hmath.1
     clear h1 H hix hxi hxid hxA hagx hpx htl hmath hlens hnot hrow1 hkf1 hv0 hxv hS1 hR e1 hkl hN1 hD hst hga ht HIA eia hr hil
     go_wp2_with fail
     refine hf.mono ?_
     clear hf
     rintro e w1 ⟨rfl,q,rfl⟩
     obtain ⟨W1,hW1⟩:∃ W1,W1=wr.drewN q:=⟨_,rfl⟩
     rw [← hW1]
     have hfW:Fr [] wr W1:=by rw [hW1];exact (Fr.refl [] wr).drewM q
     have hcc:∀ a,W1.cell? a=wr.cell? a:=fun a=>by rw [hW1];rfl
     rw [← hcc] at c0 x0 x1 x2 x3 x4
     have HW1:=toHid (show RkIn W1 rp xv1 rv1 ov1 ps1 R1∧KFr S (kb rp xv1 rv1 ov1 ps1) w W1∧W1.ownsRow w.heap.size 34 1 (.slice (some ⟨gi,0,none⟩) n ic) n (idsV ids) from ⟨HW.out.1.fr hfW,HW.out.2.1.trans (KFr.of hfW),ownsRow_fr HW.out.2.2.1 hfW (by simp)⟩)
     have HW2:=toHid HW.out.2.2.2
     have hszw:w.heap.size≤W1.heap.size:=HW1.out.2.1.fr.size
     clear hW1 hfW hcc z0 HW
     have hgl:g<W1.heap.size:=(HW1.out.1.dls.lt g (by rw [HW2.out.2.1];rfl)).2
     have hrl1:rp<W1.heap.size:=(Array.getElem?_eq_some_iff.1 HW1.out.1.blk).1
     have gfz:W1.frozen? ⟨g,i*5+2,none⟩=false:=by
      obtain ⟨cur,hcur⟩:=own_cells HW1.out.1.dls (g:=g) (by rw [HW2.out.2.1];rfl)
      exact blk_free hcur _
     have epm:pm=x.parts.length:=by
      have hpr:=HW1.out.1.prt _ (List.mem_of_getElem? HW2.out.1)
      rcases hpr.2 with ⟨e,h0⟩ | ⟨_,_,_,e,_⟩
      ·simp only [Value.slice.injEq] at e;simp only at h0;omega
      ·simp only [Value.slice.injEq] at e;exact e.2.1
     obtain ⟨m,hm⟩:∃ m,m=pm:=⟨_,rfl⟩
     have hm8:m≤8:=by have:=HW2.out.2.2.2.2.2;omega
     have HPM:=toHid (show x.parts.length=m by omega)
     rw [← hm] at x3
     have HPS:=toHid (show ps1[i]?=some (x,.slice po m pc) by rw [hm];exact HW2.out.1)
     obtain ⟨b,hb⟩:∃ b,b=W1.heap.size:=⟨_,rfl⟩
     have HBR:Hid (b≠rp):=by rw [hb];exact fun e=>by omega
     clear epm hm
     by_cases h5:st=5
     ·have hx5:x.st=5:=by rw [← HXX.out.2.1];exact h5
      have hag1:ag≤1000:=by rw [HXX.out.2.2.1];exact HW2.out.2.2.2.2.1 hx5
      subst h5
      obtain ⟨A,hA⟩:∃ A,A=ag+1:=⟨_,rfl⟩
      have iA:(ag:Int)+1=(A:Int):=by omega
      have jA:IntKind.i64.wrap (A:Int)=(A:Int):=by rw [IntKind.wrap_i64];omega
      obtain ⟨q1,q2⟩:=HW1.out.1.setF (j:=2) (x':={ x with age:=x.age+1 }) (u:=.int .i64 (A:Int)) (by rw [HW2.out.2.1,HW2.out.2.2.1]) HPS.out (by decide) (by rw [hA,HXX.out.2.2.1];rfl) rfl
      obtain ⟨W2,hW2⟩:∃ W2,W2=(W1.setCell ⟨g,i*5+2,none⟩ (.int .i64 (A:Int))).alloc (.cells #[.int .u64 (D:Int),.int .i64 5,.int .i64 (ag:Int),.slice po m pc,.bool false] 144):=⟨_,rfl⟩
      have hf2:Fr [] (W1.setCell ⟨g,i*5+2,none⟩ (.int .i64 (A:Int))) W2:=by rw [hW2];exact (Fr.refl [] _).alloc _
      obtain ⟨ps2,hps2⟩:∃ ps2,ps2=ps1.set i ({ x with age:=x.age+1 },.slice po m pc):=⟨_,rfl⟩
      obtain ⟨R2,hR2⟩:∃ R2,R2={ R1 with deals:=R1.deals.set i { x with age:=x.age+1 } }:=⟨_,rfl⟩
      rw [← hps2] at q1 q2
      rw [← hR2] at q1
      have HJ:=toHid (show RkIn W2 rp xv1 rv1 ov1 ps2 R2∧KFr S (kb rp xv1 rv1 ov1 ps2) w W2∧W2.ownsRow w.heap.size 34 1 (.slice (some ⟨gi,0,none⟩) n ic) n (idsV ids)∧W2.heap[b]?=some (.cells #[.int .u64 (D:Int),.int .i64 5,.int .i64 (ag:Int),.slice po m pc,.bool false] 144 (0,0)) from ⟨q1.fr hf2,(HW1.out.2.1.trans q2).trans (KFr.of hf2),ownsRow_fr (ownsRow_fr HW1.out.2.2 (Fr.set1 (S:=[g]) (by simp) _ _) (fun z hz hmm=>by
       simp at hmm
       subst hmm
       exact own_apart HW1.out.2.2 HW1.out.1.dls (by decide) hz (by rw [HW2.out.2.1];rfl))) hf2 (by simp),by rw [hW2,hb];exact (by simpa using heap_alloc_new (W1.setCell ⟨g,i*5+2,none⟩ (.int .i64 (A:Int))) _)⟩)
      have HQ:=toHid (show x.parts.length=m∧ps2[i]?=some ({ x with age:=x.age+1 },.slice po m pc)∧({ x with age:=x.age+1 }:RDeal).parts=x.parts∧R2.out.length≤1000200 from ⟨HPM.out,by rw [hps2,List.getElem?_set_self (List.getElem?_eq_some_iff.1 HPS.out).1],rfl,by rw [hR2];have:=HN1.out.1;show R1.out.length≤_;omega⟩)
      have HD2:=toHid (show R2.deals[i]?=some { x with age:=x.age+1 }∧ps2.length≤12∧R2.res.length≤1000200 from ⟨by rw [hR2];exact List.getElem?_set_self (List.getElem?_eq_some_iff.1 HW2.out.2.2.2.1).1,by rw [hps2,List.length_set];have:=HW2.out.2.2.1;omega,by rw [hR2];have:=HN1.out.2.1;show R1.res.length≤_;omega⟩)
      have hto:R1.tickOne t=if x.age+1=8 then (R1.setAt i { x with age:=x.age+1 }).undone i { x with age:=x.age+1 } else { R1 with deals:=R1.deals.set i { x with age:=x.age+1 },out:=R1.out++toPs isZ x.id 1 x.parts }:=by
       obtain ⟨i',hi',e⟩:=tickOne_of HXX.out.2.2.2
       have:i'=i:=HDA.out.ne hi' HW2.out.2.2.2.1 rfl
       subst this
       rw [e,if_pos hx5]
      have HTO:=toHid (show A=x.age+1∧R1.tickOne t=if x.age+1=8 then (R1.setAt i { x with age:=x.age+1 }).undone i { x with age:=x.age+1 } else { R1 with deals:=R1.deals.set i { x with age:=x.age+1 },out:=R1.out++toPs isZ x.id 1 x.parts } from ⟨by rw [hA,HXX.out.2.2.1],hto⟩)
      have HR2:=toHid hR2
      have HBB:=toHid hb
      clear q1 q2 hf2 hps2 hR2 hA hto hx5 hb
      by_cases h8:A=8
      ·have HFU:=toHid (kundo_any rp i xv1 rv1 ov1 ps2 R2 W2 HJ.out.1 _ HD2.out.1 (by have:=HD2.out.2.1;omega) (by show x.parts.length≤8;have:=HPM.out;omega) (by have:=HQ.out.2.2.2;omega) (by have:=HD2.out.2.2;omega))
       subst h8
       rw [show ((8:Nat):Int)=8 from rfl] at hW2
       go_wp2_with fail
       rw [← hW2]
       refine HFU.out.mono ?_
       clear hW2 c0 x0 x1 x2 x3 x4 gfz hgl hrl1 hszw
       rintro e w5 ⟨rfl,S5,h5,k5⟩
       have HF:Hid (∃ S1,RkN w5 rp S1 ((ids.take (k+1)).foldl RCo.tickOne R)∧KFr S S1 w w5∧w5.ownsRow w.heap.size 34 1 (.slice (some ⟨gi,0,none⟩) n ic) n (idsV ids)):=by
        refine ⟨S5,?_,HJ.out.2.1.trans k5,ownsRow_fr HJ.out.2.2.1 k5.fr (fun z hz hmm=>?_)⟩
        ·rw [HNX.out,HTO.out.2,if_pos HTO.out.1.symm]
         rw [HR2.out] at h5
         exact h5
        ·rcases mem_kb.1 hmm with rfl | e | e | e | ⟨y,hy,e⟩
         ·exact own_ne HJ.out.2.2.1 HJ.out.1.blk (by decide) hz
         ·exact own_apart HJ.out.2.2.1 HJ.out.1.dls (by decide) hz e
         ·exact own_apart HJ.out.2.2.1 HJ.out.1.res (by decide) hz e
         ·exact own_apart HJ.out.2.2.1 HJ.out.1.out (by decide) hz e
         ·exact own_apart HJ.out.2.2.1 (HJ.out.1.prt y hy) (by decide) hz e
       clear h5 k5
       go_wp2
       go_roundw
       case rel=>exact ⟨k+1,by omega,by go_num,HF⟩
       case measure=>simp [intOf];omega
      ·have n8:¬ (A:Int)=8:=by omega
       have b8:((A:Int) == 8)=false:=beq_eq_false_iff_ne.2 n8
       have HFI:=toHid (show (ids.take (k+1)).foldl RCo.tickOne R={ R2 with out:=R2.out++toPs isZ D 1 x.parts } by
        rw [HNX.out,HTO.out.2,if_neg (by have:=HTO.out.1;omega),HR2.out,HXX.out.1])
       go_wp2
       rw [← hW2,← HBB.out]
       clear hW2 c0 x0 x1 x2 x3 x4 gfz hgl hrl1 hszw
       have HST:Hid (RkIn W2 rp xv1 rv1 ov1 ps2 { R2 with out:=R2.out++toPs isZ D 1 (x.parts.take 0) }∧KFr S (kb rp xv1 rv1 ov1 ps2) w W2∧W2.ownsRow w.heap.size 34 1 (.slice (some ⟨gi,0,none⟩) n ic) n (idsV ids)∧W2.heap[b]?=some (.cells #[.int .u64 (D:Int),.int .i64 5,.int .i64 (ag:Int),.slice po m pc,.bool false] 144 (0,0))):=⟨by simpa [toPs] using HJ.out.1,HJ.out.2⟩
       clear HJ
       go_loopw [7] (fun j wr=>∃ (y:Nat) (ov':Value),y≤m∧j=.int .i64 y∧Hid (RkIn wr rp xv1 rv1 ov' ps2 { R2 with out:=R2.out++toPs isZ D 1 (x.parts.take y) }∧KFr S (kb rp xv1 rv1 ov' ps2) w wr∧wr.ownsRow w.heap.size 34 1 (.slice (some ⟨gi,0,none⟩) n ic) n (idsV ids)∧wr.heap[b]?=some (.cells #[.int .u64 (D:Int),.int .i64 5,.int .i64 (ag:Int),.slice po m pc,.bool false] 144 (0,0)))) (fun j _=>m - (intOf j).toNat)
       case atStart=>exact ⟨0,ov1,Nat.zero_le _,rfl,HST⟩
       case round =>
        obtain ⟨y,ov2,hy,rfl,HY⟩:=hrel
        have xb0:=blk_cell HY.out.2.2.2 0
        have xb1:=blk_cell HY.out.2.2.2 1
        have xb3:=blk_cell HY.out.2.2.2 3
        simp at xb0 xb1 xb3
        by_cases hly:y<m
        ·have y0:(0:Int)≤(y:Int):=by omega
         have y1:(y:Int)<(m:Int):=by omega
         obtain ⟨p,hp⟩:∃ p,x.parts[y]?=some p:=⟨_,List.getElem?_eq_getElem (by rw [HQ.out.1];exact hly)⟩
         have hpr:=HY.out.1.prt _ (List.mem_of_getElem? HQ.out.2.1)
         simp only at hpr
         obtain ⟨po',pc',epo,HP⟩:=part_slice hpr
         obtain ⟨pb,hpb,z0,z1,z2⟩:=HP y p hp
         obtain ⟨rfl,hmx,rfl⟩:po=po'∧m=x.parts.length∧pc=pc':=by simpa using epo
         clear hmx
         subst hpb
         obtain ⟨sh,hsh⟩:∃ sh,sh=p.shard:=⟨_,rfl⟩
         obtain ⟨vo,hvo⟩:∃ vo,vo=p.vote:=⟨_,rfl⟩
         obtain ⟨lf,hlf⟩:∃ lf,lf=p.left:=⟨_,rfl⟩
         rw [← hsh] at z0
         rw [← hvo] at z1
         rw [← hlf] at z2
         by_cases h0:vo=0
         ·have hvo0:p.vote=0:=by omega
          subst h0
          have HTP:=toHid (show toPs isZ D 1 (x.parts.take (y+1))=toPs isZ D 1 (x.parts.take y)++[(D,sh,1)] by rw [toPs_yes hp (by unfold isZ;simp [hvo0]),← hsh])
          have hin:=HY.out.1
          have hrb:=(Array.getElem?_eq_some_iff.1 hin.blk).1
          have hxl:=(Array.getElem?_eq_some_iff.1 HY.out.2.2.2).1
          have hob:=(hpr.lt pb rfl).2
          obtain ⟨cp2,hcp2⟩:=own_cells hpr (g:=pb) rfl
          have hne:=hin.ne
          obtain ⟨OL,hOL⟩:∃ OL,OL=R2.out++toPs isZ D 1 (x.parts.take y):=⟨_,rfl⟩
          obtain ⟨N,hN⟩:∃ N,N=OL.length:=⟨_,rfl⟩
          have hNb:N≤1048600:=by
           have a1:=toPs_len isZ D 1 (x.parts.take y)
           have a2:=HQ.out.2.2.2
           rw [List.length_take,HQ.out.1] at a1
           rw [hN,hOL,List.length_append]
           omega
          have HL:=toHid (show rp<wr.heap.size∧b<wr.heap.size∧pb<wr.heap.size∧ov2.ownBlock≠some rp∧ov2.ownBlock≠some b∧ov2.ownBlock≠some pb∧b≠rp∧pb≠rp from ⟨hrb,hxl,hob,hne.2.2.1,own_ne hin.out HY.out.2.2.2 (by decide),own_ne hin.out hcp2 (by decide),HBR.out,fun e=>by rw [e,hin.blk] at hcp2;cases hcp2⟩)
          have HA:=toHid (show RkIn wr rp xv1 rv1 ov2 ps2 { R2 with out:=OL }∧wr.ownsRow B0 212 3 ov2 N (dueV OL)∧(∀ (W:World) (v:Value) (xs:List Value),W.ownsRow B0 212 3 v (N+1) xs→W.ownsRow B0 212 3 v (OL.length+1) xs) from ⟨by rw [hOL];exact hin,by rw [hN,hOL];exact hin.out,fun W v xs hh=>by rw [← hN];exact hh⟩)
          have HSF:=toHid (show ∀ W':World,W'.heap[b]?=wr.heap[b]?→W'.heap[pb]?=wr.heap[pb]?→W'.cell? ⟨b,0,none⟩=some (.int .u64 (D:Int))∧W'.cell? ⟨b,3,none⟩=some (.slice (some ⟨pb,0,none⟩) m pc)∧W'.cell? ⟨pb,y*3,none⟩=some (.int .i64 (sh:Int)) from fun W' h1 h2=>⟨(World.cell?_of_block (a:=⟨b,0,none⟩) h1).trans xb0,(World.cell?_of_block (a:=⟨b,3,none⟩) h1).trans xb3,(World.cell?_of_block (a:=⟨pb,y*3,none⟩) h2).trans z0⟩)
          have HSG:=toHid (show ∀ W':World,W'.heap[b]?=wr.heap[b]?→W'.cell? ⟨b,1,none⟩=some (.int .i64 5) from fun W' h1=>(World.cell?_of_block (a:=⟨b,1,none⟩) h1).trans xb1)
          have o3:=blk_cell hin.blk 3
          simp at o3
          have al0:∀ o,(wr.drew.alloc o).heap[b]?=wr.heap[b]?:=fun o=>Below.heap_alloc wr.drew o b hxl
          have al1:∀ o,(wr.drew.alloc o).heap[pb]?=wr.heap[pb]?:=fun o=>Below.heap_alloc wr.drew o pb hob
          have al3:∀ o,(wr.drew.alloc o).cell? ⟨rp,3,none⟩=some ov2:=fun o=>(World.cell?_alloc_lt _ _ _ hrb).trans o3
          have al4:∀ o,(wr.alloc o).cell? ⟨rp,3,none⟩=some ov2:=fun o=>(World.cell?_alloc_lt _ _ _ hrb).trans o3
          have HE:=toHid (show ∀ W' ov',RkIn W' rp xv1 rv1 ov' ps2 { R2 with out:=OL++[(D,sh,1)] }→KFr (kb rp xv1 rv1 ov2 ps2) (kb rp xv1 rv1 ov' ps2) wr W'→Fr (rp :: ov2.ownBlock.toList) wr W'→W'.heap[b]?=wr.heap[b]?→(RkIn W' rp xv1 rv1 ov' ps2 { R2 with out:=R2.out++toPs isZ D 1 (x.parts.take (y+1)) }∧KFr S (kb rp xv1 rv1 ov' ps2) w W'∧W'.ownsRow w.heap.size 34 1 (.slice (some ⟨gi,0,none⟩) n ic) n (idsV ids)∧W'.heap[b]?=some (.cells #[.int .u64 (D:Int),.int .i64 5,.int .i64 (ag:Int),.slice (some ⟨pb,0,none⟩) m pc,.bool false] 144 (0,0))) from fun W' ov' h1 h2 h3 h4=>⟨by rw [HTP.out,← List.append_assoc,← hOL];exact h1,HY.out.2.1.trans h2,ownsRow_fr HY.out.2.2.1 h3 (fun q hq hm=>by
           rcases List.mem_cons.1 hm with rfl | hm
           ·exact own_ne HY.out.2.2.1 hin.blk (by decide) hq
           ·exact own_apart HY.out.2.2.1 hin.out (by decide) hq (by simpa using hm)),h4.trans HY.out.2.2.2⟩)
          clear hp hpr HP epo hsh hvo hlf HY hin hrb hxl hob hcp2 hne hOL hN HTP
          go_wp2
          refine wp_region_held_drew (S:=(fun w'=>w'.cell? ⟨b,0,none⟩=some (.int .u64 (D:Int))∧w'.cell? ⟨b,3,none⟩=some (.slice (some ⟨pb,0,none⟩) m pc)∧w'.cell? ⟨pb,y*3,none⟩=some (.int .i64 (sh:Int)))) (by kernel_rfl) (HSF.out _ rfl rfl) (fun hHeld=>?_)
          refine wpAnyH_take (i:=0) (oi:=⟨some 94,.move (.tmp 0),78,"coord.go:273",#[],none⟩) (v:=.pointer (some ⟨rp,0,none⟩)) rfl (by kernel_rfl) (by kernel_rfl) (by kernel_rfl) (fun _ _ _ h=>h) (Or.inl ⟨by rfl,?_⟩) (by assumption) ?_
          ·intro w hSw;(try dsimp only at hSw);go_simp
          (try simp only [Act.put,List.setIfInBounds_toArray,List.set_cons_zero,List.set_cons_succ])
          refine wpAnyH_take (i:=1) (oi:=⟨some 95,.move (.tmp 0),78,"coord.go:273",#[],none⟩) (v:=.pointer (some ⟨rp,0,none⟩)) rfl (by kernel_rfl) (by kernel_rfl) (by kernel_rfl) (fun _ _ _ h=>h) (Or.inl ⟨by rfl,?_⟩) (by assumption) ?_
          ·intro w hSw;(try dsimp only at hSw);go_simp
          (try simp only [Act.put,List.setIfInBounds_toArray,List.set_cons_zero,List.set_cons_succ])
          refine wpAnyH_take (i:=2) (oi:=⟨some 96,.nilCheck (.tmp 95),0,"coord.go:273",#[⟨1,.data⟩],none⟩) (v:=.pointer (some ⟨rp,0,none⟩)) rfl (by kernel_rfl) (by kernel_rfl) (by kernel_rfl) (fun _ _ _ h=>h) (Or.inl ⟨by rfl,?_⟩) (by assumption) ?_
          ·intro w hSw;(try dsimp only at hSw);go_simp
          (try simp only [Act.put,List.setIfInBounds_toArray,List.set_cons_zero,List.set_cons_succ])
          refine wpAnyH_take (i:=3) (oi:=⟨some 97,.fieldAddr 141 (.tmp 96) 3,0,"coord.go:273",#[⟨2,.data⟩],none⟩) (v:=.pointer (some ⟨rp,3,none⟩)) rfl (by kernel_rfl) (by kernel_rfl) (by kernel_rfl) (fun _ _ _ h=>h) (Or.inl ⟨by rfl,?_⟩) (by assumption) ?_
          ·intro w hSw;(try dsimp only at hSw);go_simp
          (try simp only [Act.put,List.setIfInBounds_toArray,List.set_cons_zero,List.set_cons_succ])
          refine wpAnyH_take (i:=5) (oi:=⟨some 99,.fieldAddr 144 (.tmp 6) 0,0,"coord.go:273",#[],none⟩) (v:=.pointer (some ⟨b,0,none⟩)) rfl (by kernel_rfl) (by kernel_rfl) (by kernel_rfl) (fun _ _ _ h=>h) (Or.inl ⟨by rfl,?_⟩) (by assumption) ?_
          ·intro w hSw;(try dsimp only at hSw);go_simp
          (try simp only [Act.put,List.setIfInBounds_toArray,List.set_cons_zero,List.set_cons_succ])
          refine wpAnyH_take (i:=6) (oi:=⟨some 100,.load 34 (.tmp 99),34,"coord.go:273",#[⟨5,.data⟩],none⟩) (v:=.int .u64 (D:Int)) rfl (by kernel_rfl) (by kernel_rfl) (by kernel_rfl) (fun _ _ _ h=>h) (Or.inl ⟨by rfl,?_⟩) (by assumption) ?_
          ·intro w hSw;(try dsimp only at hSw);go_simp
          (try simp only [Act.put,List.setIfInBounds_toArray,List.set_cons_zero,List.set_cons_succ])
          refine wpAnyH_take (i:=7) (oi:=⟨some 101,.fieldAddr 144 (.tmp 6) 3,0,"coord.go:273",#[],none⟩) (v:=.pointer (some ⟨b,3,none⟩)) rfl (by kernel_rfl) (by kernel_rfl) (by kernel_rfl) (fun _ _ _ h=>h) (Or.inl ⟨by rfl,?_⟩) (by assumption) ?_
          ·intro w hSw;(try dsimp only at hSw);go_simp
          (try simp only [Act.put,List.setIfInBounds_toArray,List.set_cons_zero,List.set_cons_succ])
          refine wpAnyH_take (i:=8) (oi:=⟨some 102,.load 142 (.tmp 101),142,"coord.go:273",#[⟨7,.data⟩],none⟩) (v:=.slice (some ⟨pb,0,none⟩) m pc) rfl (by kernel_rfl) (by kernel_rfl) (by kernel_rfl) (fun _ _ _ h=>h) (Or.inl ⟨by rfl,?_⟩) (by assumption) ?_
          ·intro w hSw;(try dsimp only at hSw);go_simp
          (try simp only [Act.put,List.setIfInBounds_toArray,List.set_cons_zero,List.set_cons_succ])
          refine wpAnyH_take (i:=9) (oi:=⟨some 103,.move (.tmp 7),3,"coord.go:273",#[],none⟩) (v:=.int .i64 (y:Int)) rfl (by kernel_rfl) (by kernel_rfl) (by kernel_rfl) (fun _ _ _ h=>h) (Or.inl ⟨by rfl,?_⟩) (by assumption) ?_
          ·intro w hSw;(try dsimp only at hSw);go_simp
          (try simp only [Act.put,List.setIfInBounds_toArray,List.set_cons_zero,List.set_cons_succ])
          refine wpAnyH_take (i:=10) (oi:=⟨some 104,.indexAddr 142 (.tmp 102) (.tmp 103),0,"coord.go:273",#[⟨8,.data⟩,⟨9,.data⟩],none⟩) (v:=.pointer (some ⟨pb,y*3,none⟩)) rfl (by kernel_rfl) (by kernel_rfl) (by kernel_rfl) (fun _ _ _ h=>h) (Or.inl ⟨by rfl,?_⟩) (by assumption) ?_
          ·intro w hSw;(try dsimp only at hSw);go_simp
          (try simp only [Act.put,List.setIfInBounds_toArray,List.set_cons_zero,List.set_cons_succ])
          refine wpAnyH_take (i:=11) (oi:=⟨some 105,.fieldAddr 204 (.tmp 104) 0,0,"coord.go:273",#[⟨10,.data⟩],none⟩) (v:=.pointer (some ⟨pb,y*3,none⟩)) rfl (by kernel_rfl) (by kernel_rfl) (by kernel_rfl) (fun _ _ _ h=>h) (Or.inl ⟨by rfl,?_⟩) (by assumption) ?_
          ·intro w hSw;(try dsimp only at hSw);go_simp
          (try simp only [Act.put,List.setIfInBounds_toArray,List.set_cons_zero,List.set_cons_succ])
          refine wpAnyH_take (i:=12) (oi:=⟨some 106,.load 3 (.tmp 105),3,"coord.go:273",#[⟨11,.data⟩],none⟩) (v:=.int .i64 (sh:Int)) rfl (by kernel_rfl) (by kernel_rfl) (by kernel_rfl) (fun _ _ _ h=>h) (Or.inl ⟨by rfl,?_⟩) (by assumption) ?_
          ·intro w hSw;(try dsimp only at hSw);go_simp
          (try simp only [Act.put,List.setIfInBounds_toArray,List.set_cons_zero,List.set_cons_succ])
          refine wpAnyH_take (i:=13) (oi:=⟨some 107,.build 212 #[(0,.tmp 100),(1,.tmp 106),(2,.const (Value.int IntKind.i64 1))],212,"coord.go:273",#[⟨6,.data⟩,⟨12,.data⟩],none⟩) (v:=.agg #[.int .u64 (D:Int),.int .i64 (sh:Int),.int .i64 1]) rfl (by kernel_rfl) (by kernel_rfl) (by kernel_rfl) (fun _ _ _ h=>h) (Or.inl ⟨by rfl,?_⟩) (by assumption) ?_
          ·intro w hSw;(try dsimp only at hSw);go_simp
          (try simp only [Act.put,List.setIfInBounds_toArray,List.set_cons_zero,List.set_cons_succ])
          refine wpAnyH_ready (rs:=[4,14]) (by kernel_rfl) (by simp) ?_
          refine AllReadyH.cons (o:=⟨some 98,.load 139 (.tmp 97),139,"coord.go:273",#[⟨3,.data⟩],none⟩) rfl (fun K hK=>?_) (AllReadyH.cons (o:=⟨some 108,.buildSlice 139 1 #[(0,.tmp 107)],139,"coord.go:273",#[⟨13,.data⟩],none⟩) rfl (fun K hK=>?_) AllReadyH.nil)
          ·go_simp
           refine hK.out _ _ ?_ (fun hHeld=>?_)
           ·exact HSF.out _ rfl rfl
           clear hK K
           (try simp only [Act.put,List.setIfInBounds_toArray,List.set_cons_zero,List.set_cons_succ])
           refine wpAnyH_ready (rs:=[14]) (by kernel_rfl) (by simp) ?_
           refine AllReadyH.cons (o:=⟨some 108,.buildSlice 139 1 #[(0,.tmp 107)],139,"coord.go:273",#[⟨13,.data⟩],none⟩) rfl (fun K hK=>?_) AllReadyH.nil
           go_simp
           refine hK.out _ _ ?_ (fun hHeld=>?_)
           ·exact HSF.out _ (al0 _) (al1 _)
           clear hK K
           (try simp only [Act.put,List.setIfInBounds_toArray,List.set_cons_zero,List.set_cons_succ])
           refine wpAnyH_ready (rs:=[15]) (by kernel_rfl) (by simp) ?_
           refine AllReadyH.cons rfl (fun K hK=>?_) AllReadyH.nil
           rw [if_pos (by rfl)]
           refine wp_dueat _ _ rfl B0 ov2 N (dueV OL) D (sh:Int) 1 wr.heap.size rfl (ownsRow_fr HA.out.2.1 ((Fr.refl [] wr).drew.alloc _) (by simp)) rfl (heap_alloc_new _ _) (by omega) (by have:=HA.out.1.low;simp;omega) ?_
           intro v' w1 hown' hgrow hat0
           obtain ⟨av,mv,cv,rfl⟩:=own_sl hown'
           have hfa:Fr [] wr (wr.drew.alloc (.cells #[.int .u64 (D:Int),.int .i64 (sh:Int),.int .i64 1] 212)):=(Fr.refl [] wr).drew.alloc _
           have fro:Fr ov2.ownBlock.toList wr w1:=(hfa.mono (by simp)).trans (Fr.of_grown hgrow)
           have hb1:=(fro.block rp HL.out.1 (by simp;exact HL.out.2.2.2.1)).trans HA.out.1.blk
           have g0:=fro.block b HL.out.2.1 (by simp;exact HL.out.2.2.2.2.1)
           have g1:=fro.block pb HL.out.2.2.1 (by simp;exact HL.out.2.2.2.2.2.1)
           have d3:=blk_cell hb1 3
           have f3:=blk_free hb1 3
           simp at d3
           have HX:=toHid (HA.out.1.addOut hfa hgrow (D,sh,1) (HA.out.2.2 _ _ _ hown') (by simpa using hat0))
           have HE0:=toHid (fun u=>(Below.heap_setCell w1 ⟨rp,3,none⟩ u b HL.out.2.2.2.2.2.2.1).trans g0)
           have HE1:=toHid (fun u=>(Below.heap_setCell w1 ⟨rp,3,none⟩ u pb HL.out.2.2.2.2.2.2.2).trans g1)
           clear hown' hgrow hat0 hfa fro hb1
           refine hK.out _ _ ?_ (fun hHeld=>?_)
           ·exact HSF.out _ g0 g1
           clear hK K
           (try simp only [Act.put,List.setIfInBounds_toArray])
           refine wpAnyH_take (i:=16) (oi:=⟨some 110,.nilCheck (.tmp 94),0,"coord.go:273",#[⟨0,.data⟩,⟨0,.phase⟩,⟨1,.phase⟩,⟨2,.phase⟩,⟨3,.phase⟩,⟨4,.phase⟩,⟨5,.phase⟩,⟨6,.phase⟩,⟨7,.phase⟩,⟨8,.phase⟩,⟨9,.phase⟩,⟨10,.phase⟩,⟨11,.phase⟩,⟨12,.phase⟩,⟨13,.phase⟩,⟨14,.phase⟩,⟨15,.phase⟩],none⟩) (v:=.pointer (some ⟨rp,0,none⟩)) rfl (by kernel_rfl) (by kernel_rfl) (by kernel_rfl) (fun _ _ _ h=>h) (Or.inl ⟨by rfl,?_⟩) (by assumption) ?_
           ·intro w hSw;(try dsimp only at hSw);go_simp
           (try simp only [Act.put])
           refine wpAnyH_take (i:=17) (oi:=⟨some 111,.fieldAddr 141 (.tmp 110) 3,0,"coord.go:273",#[⟨16,.data⟩,⟨0,.phase⟩,⟨1,.phase⟩,⟨2,.phase⟩,⟨3,.phase⟩,⟨4,.phase⟩,⟨5,.phase⟩,⟨6,.phase⟩,⟨7,.phase⟩,⟨8,.phase⟩,⟨9,.phase⟩,⟨10,.phase⟩,⟨11,.phase⟩,⟨12,.phase⟩,⟨13,.phase⟩,⟨14,.phase⟩,⟨15,.phase⟩],none⟩) (v:=.pointer (some ⟨rp,3,none⟩)) rfl (by kernel_rfl) (by kernel_rfl) (by kernel_rfl) (fun _ _ _ h=>h) (Or.inl ⟨by rfl,?_⟩) (by assumption) ?_
           ·intro w hSw;(try dsimp only at hSw);go_simp
           (try simp only [Act.put])
           refine wpAnyH_ready (rs:=[18]) (by kernel_rfl) (by simp) ?_
           refine AllReadyH.cons rfl (fun K hK=>?_) AllReadyH.nil
           go_simp
           refine hK.out _ _ ?_ (fun hHeld=>?_)
           ·exact HSF.out _ (HE0.out _) (HE1.out _)
           clear hK K
           (try simp only [Act.put,List.setIfInBounds_toArray,List.set_cons_zero,List.set_cons_succ])
           refine wpAnyH_done (by kernel_rfl) ?_ _
           have HZ:=toHid (HE.out _ _ HX.out.1 HX.out.2.1 HX.out.2.2 (HE0.out _))
           have yb1:=HSG.out _ (HE0.out (.slice av mv cv))
           go_wp2
           go_roundw
           case rel=>exact ⟨y+1,.slice av mv cv,by omega,by go_num,HZ⟩
           case measure=>simp [intOf];omega
          ·go_simp
           refine hK.out _ _ ?_ (fun hHeld=>?_)
           ·exact HSF.out _ (al0 _) (al1 _)
           clear hK K
           (try simp only [Act.put,List.setIfInBounds_toArray,List.set_cons_zero,List.set_cons_succ])
           refine wpAnyH_ready (rs:=[4]) (by kernel_rfl) (by simp) ?_
           refine AllReadyH.cons (o:=⟨some 98,.load 139 (.tmp 97),139,"coord.go:273",#[⟨3,.data⟩],none⟩) rfl (fun K hK=>?_) AllReadyH.nil
           go_simp
           refine hK.out _ _ ?_ (fun hHeld=>?_)
           ·exact HSF.out _ (al0 _) (al1 _)
           clear hK K
           (try simp only [Act.put,List.setIfInBounds_toArray,List.set_cons_zero,List.set_cons_succ])
           refine wpAnyH_ready (rs:=[15]) (by kernel_rfl) (by simp) ?_
           refine AllReadyH.cons rfl (fun K hK=>?_) AllReadyH.nil
           rw [if_pos (by rfl)]
           refine wp_dueat _ _ rfl B0 ov2 N (dueV OL) D (sh:Int) 1 wr.heap.size rfl (ownsRow_fr HA.out.2.1 ((Fr.refl [] wr).drew.alloc _) (by simp)) rfl (heap_alloc_new _ _) (by omega) (by have:=HA.out.1.low;simp;omega) ?_
           intro v' w1 hown' hgrow hat0
           obtain ⟨av,mv,cv,rfl⟩:=own_sl hown'
           have hfa:Fr [] wr (wr.drew.alloc (.cells #[.int .u64 (D:Int),.int .i64 (sh:Int),.int .i64 1] 212)):=(Fr.refl [] wr).drew.alloc _
           have fro:Fr ov2.ownBlock.toList wr w1:=(hfa.mono (by simp)).trans (Fr.of_grown hgrow)
           have hb1:=(fro.block rp HL.out.1 (by simp;exact HL.out.2.2.2.1)).trans HA.out.1.blk
           have g0:=fro.block b HL.out.2.1 (by simp;exact HL.out.2.2.2.2.1)
           have g1:=fro.block pb HL.out.2.2.1 (by simp;exact HL.out.2.2.2.2.2.1)
           have d3:=blk_cell hb1 3
           have f3:=blk_free hb1 3
           simp at d3
           have HX:=toHid (HA.out.1.addOut hfa hgrow (D,sh,1) (HA.out.2.2 _ _ _ hown') (by simpa using hat0))
           have HE0:=toHid (fun u=>(Below.heap_setCell w1 ⟨rp,3,none⟩ u b HL.out.2.2.2.2.2.2.1).trans g0)
           have HE1:=toHid (fun u=>(Below.heap_setCell w1 ⟨rp,3,none⟩ u pb HL.out.2.2.2.2.2.2.2).trans g1)
           clear hown' hgrow hat0 hfa fro hb1
           refine hK.out _ _ ?_ (fun hHeld=>?_)
           ·exact HSF.out _ g0 g1
           clear hK K
           (try simp only [Act.put,List.setIfInBounds_toArray])
           refine wpAnyH_take (i:=16) (oi:=⟨some 110,.nilCheck (.tmp 94),0,"coord.go:273",#[⟨0,.data⟩,⟨0,.phase⟩,⟨1,.phase⟩,⟨2,.phase⟩,⟨3,.phase⟩,⟨4,.phase⟩,⟨5,.phase⟩,⟨6,.phase⟩,⟨7,.phase⟩,⟨8,.phase⟩,⟨9,.phase⟩,⟨10,.phase⟩,⟨11,.phase⟩,⟨12,.phase⟩,⟨13,.phase⟩,⟨14,.phase⟩,⟨15,.phase⟩],none⟩) (v:=.pointer (some ⟨rp,0,none⟩)) rfl (by kernel_rfl) (by kernel_rfl) (by kernel_rfl) (fun _ _ _ h=>h) (Or.inl ⟨by rfl,?_⟩) (by assumption) ?_
           ·intro w hSw;(try dsimp only at hSw);go_simp
           (try simp only [Act.put])
           refine wpAnyH_take (i:=17) (oi:=⟨some 111,.fieldAddr 141 (.tmp 110) 3,0,"coord.go:273",#[⟨16,.data⟩,⟨0,.phase⟩,⟨1,.phase⟩,⟨2,.phase⟩,⟨3,.phase⟩,⟨4,.phase⟩,⟨5,.phase⟩,⟨6,.phase⟩,⟨7,.phase⟩,⟨8,.phase⟩,⟨9,.phase⟩,⟨10,.phase⟩,⟨11,.phase⟩,⟨12,.phase⟩,⟨13,.phase⟩,⟨14,.phase⟩,⟨15,.phase⟩],none⟩) (v:=.pointer (some ⟨rp,3,none⟩)) rfl (by kernel_rfl) (by kernel_rfl) (by kernel_rfl) (fun _ _ _ h=>h) (Or.inl ⟨by rfl,?_⟩) (by assumption) ?_
           ·intro w hSw;(try dsimp only at hSw);go_simp
           (try simp only [Act.put])
           refine wpAnyH_ready (rs:=[18]) (by kernel_rfl) (by simp) ?_
           refine AllReadyH.cons rfl (fun K hK=>?_) AllReadyH.nil
           go_simp
           refine hK.out _ _ ?_ (fun hHeld=>?_)
           ·exact HSF.out _ (HE0.out _) (HE1.out _)
           clear hK K
           (try simp only [Act.put,List.setIfInBounds_toArray,List.set_cons_zero,List.set_cons_succ])
           refine wpAnyH_done (by kernel_rfl) ?_ _
           have HZ:=toHid (HE.out _ _ HX.out.1 HX.out.2.1 HX.out.2.2 (HE0.out _))
           have yb1:=HSG.out _ (HE0.out (.slice av mv cv))
           go_wp2
           go_roundw
           case rel=>exact ⟨y+1,.slice av mv cv,by omega,by go_num,HZ⟩
           case measure=>simp [intOf];omega
         ·have j0:¬ (vo:Int)=0:=by omega
          have b0':((vo:Int) == 0)=false:=beq_eq_false_iff_ne.2 j0
          have HY2:Hid (∃ ov',RkIn wr rp xv1 rv1 ov' ps2 { R2 with out:=R2.out++toPs isZ D 1 (x.parts.take (y+1)) }∧KFr S (kb rp xv1 rv1 ov' ps2) w wr∧wr.ownsRow w.heap.size 34 1 (.slice (some ⟨gi,0,none⟩) n ic) n (idsV ids)∧wr.heap[b]?=some (.cells #[.int .u64 (D:Int),.int .i64 5,.int .i64 (ag:Int),.slice (some ⟨pb,0,none⟩) m pc,.bool false] 144 (0,0))):=⟨ov2,by rw [toPs_no hp (by unfold isZ;simp;omega)];exact HY.out.1,HY.out.2⟩
          clear hp hpr HP epo hsh hvo hlf HY
          obtain ⟨ov3,HY3⟩:∃ ov3,Hid (RkIn wr rp xv1 rv1 ov3 ps2 { R2 with out:=R2.out++toPs isZ D 1 (x.parts.take (y+1)) }∧KFr S (kb rp xv1 rv1 ov3 ps2) w wr∧wr.ownsRow w.heap.size 34 1 (.slice (some ⟨gi,0,none⟩) n ic) n (idsV ids)∧wr.heap[b]?=some (.cells #[.int .u64 (D:Int),.int .i64 5,.int .i64 (ag:Int),.slice (some ⟨pb,0,none⟩) m pc,.bool false] 144 (0,0))):=HY2.out
          go_wp2
          go_roundw
          case rel=>exact ⟨y+1,ov3,by omega,by go_num,HY3⟩
          case measure=>simp [intOf];omega
        ·have hnl2:¬ (y:Int)<(m:Int):=by omega
         have hty:x.parts.take y=x.parts:=List.take_of_length_le (by rw [HQ.out.1];omega)
         have HF:Hid (∃ S1,RkN wr rp S1 ((ids.take (k+1)).foldl RCo.tickOne R)∧KFr S S1 w wr∧wr.ownsRow w.heap.size 34 1 (.slice (some ⟨gi,0,none⟩) n ic) n (idsV ids)):=by
          refine ⟨_,⟨_,_,_,_,?_,rfl⟩,HY.out.2.1,HY.out.2.2.1⟩
          have h9:=HY.out.1
          rw [hty] at h9
          rw [HFI.out]
          exact h9
         clear hty
         go_wp2
         go_roundw
         case rel=>exact ⟨k+1,by omega,by go_num,HF⟩
         case measure=>simp [intOf];omega
     ·by_cases h6:st=6
      ·subst h6
       obtain ⟨W2,hW2⟩:∃ W2,W2=W1.alloc (.cells #[.int .u64 (D:Int),.int .i64 6,.int .i64 (ag:Int),.slice po m pc,.bool false] 144):=⟨_,rfl⟩
       have hf2:Fr [] W1 W2:=by rw [hW2];exact (Fr.refl [] _).alloc _
       obtain ⟨ps2,hps2⟩:∃ ps2,ps2=ps1:=⟨_,rfl⟩
       obtain ⟨R2,hR2⟩:∃ R2,R2=R1:=⟨_,rfl⟩
       have HJ:=toHid (show RkIn W2 rp xv1 rv1 ov1 ps2 R2∧KFr S (kb rp xv1 rv1 ov1 ps2) w W2∧W2.ownsRow w.heap.size 34 1 (.slice (some ⟨gi,0,none⟩) n ic) n (idsV ids)∧W2.heap[b]?=some (.cells #[.int .u64 (D:Int),.int .i64 6,.int .i64 (ag:Int),.slice po m pc,.bool false] 144 (0,0)) from ⟨by rw [hps2,hR2];exact HW1.out.1.fr hf2,by rw [hps2];exact HW1.out.2.1.trans (KFr.of hf2),ownsRow_fr HW1.out.2.2 hf2 (by simp),by rw [hW2,hb];exact heap_alloc_new W1 _⟩)
       have HQ:=toHid (show x.parts.length=m∧ps2[i]?=some (x,.slice po m pc)∧x.parts=x.parts∧R2.out.length≤1000200 from ⟨HPM.out,by rw [hps2];exact HPS.out,rfl,by rw [hR2];have:=HN1.out.1;omega⟩)
       have hto:R1.tickOne t={ R1 with out:=R1.out++toPs (·.left) x.id 5 x.parts }:=by
        obtain ⟨i',hi',e⟩:=tickOne_of HXX.out.2.2.2
        rw [e,if_neg (by rw [← HXX.out.2.1];omega),if_pos (by rw [← HXX.out.2.1])]
       have HFI:=toHid (show (ids.take (k+1)).foldl RCo.tickOne R={ R2 with out:=R2.out++toPs (·.left) D 5 x.parts } by
        rw [HNX.out,hto,hR2,HXX.out.1])
       have HBB:=toHid hb
       clear hf2 hps2 hR2 hto hb
       go_wp2
       rw [← hW2,← HBB.out]
       clear hW2 c0 x0 x1 x2 x3 x4 gfz hgl hrl1 hszw
       have HST:Hid (RkIn W2 rp xv1 rv1 ov1 ps2 { R2 with out:=R2.out++toPs (·.left) D 5 (x.parts.take 0) }∧KFr S (kb rp xv1 rv1 ov1 ps2) w W2∧W2.ownsRow w.heap.size 34 1 (.slice (some ⟨gi,0,none⟩) n ic) n (idsV ids)∧W2.heap[b]?=some (.cells #[.int .u64 (D:Int),.int .i64 6,.int .i64 (ag:Int),.slice po m pc,.bool false] 144 (0,0))):=⟨by simpa [toPs] using HJ.out.1,HJ.out.2⟩
       clear HJ
       go_loopw [7] (fun j wr=>∃ (y:Nat) (ov':Value),y≤m∧j=.int .i64 y∧Hid (RkIn wr rp xv1 rv1 ov' ps2 { R2 with out:=R2.out++toPs (·.left) D 5 (x.parts.take y) }∧KFr S (kb rp xv1 rv1 ov' ps2) w wr∧wr.ownsRow w.heap.size 34 1 (.slice (some ⟨gi,0,none⟩) n ic) n (idsV ids)∧wr.heap[b]?=some (.cells #[.int .u64 (D:Int),.int .i64 6,.int .i64 (ag:Int),.slice po m pc,.bool false] 144 (0,0)))) (fun j _=>m - (intOf j).toNat)
       case atStart=>exact ⟨0,ov1,Nat.zero_le _,rfl,HST⟩
       case round =>
        obtain ⟨y,ov2,hy,rfl,HY⟩:=hrel
        have xb0:=blk_cell HY.out.2.2.2 0
        have xb1:=blk_cell HY.out.2.2.2 1
        have xb3:=blk_cell HY.out.2.2.2 3
        simp at xb0 xb1 xb3
        by_cases hly:y<m
        ·have y0:(0:Int)≤(y:Int):=by omega
         have y1:(y:Int)<(m:Int):=by omega
         obtain ⟨p,hp⟩:∃ p,x.parts[y]?=some p:=⟨_,List.getElem?_eq_getElem (by rw [HQ.out.1];exact hly)⟩
         have hpr:=HY.out.1.prt _ (List.mem_of_getElem? HQ.out.2.1)
         simp only at hpr
         obtain ⟨po',pc',epo,HP⟩:=part_slice hpr
         obtain ⟨pb,hpb,z0,z1,z2⟩:=HP y p hp
         obtain ⟨rfl,hmx,rfl⟩:po=po'∧m=x.parts.length∧pc=pc':=by simpa using epo
         clear hmx
         subst hpb
         obtain ⟨sh,hsh⟩:∃ sh,sh=p.shard:=⟨_,rfl⟩
         obtain ⟨vo,hvo⟩:∃ vo,vo=p.vote:=⟨_,rfl⟩
         obtain ⟨lf,hlf⟩:∃ lf,lf=p.left:=⟨_,rfl⟩
         rw [← hsh] at z0
         rw [← hvo] at z1
         rw [← hlf] at z2
         cases lf
         ·have hl0:p.left=false:=hlf.symm
          have HY2:Hid (∃ ov',RkIn wr rp xv1 rv1 ov' ps2 { R2 with out:=R2.out++toPs (·.left) D 5 (x.parts.take (y+1)) }∧KFr S (kb rp xv1 rv1 ov' ps2) w wr∧wr.ownsRow w.heap.size 34 1 (.slice (some ⟨gi,0,none⟩) n ic) n (idsV ids)∧wr.heap[b]?=some (.cells #[.int .u64 (D:Int),.int .i64 6,.int .i64 (ag:Int),.slice (some ⟨pb,0,none⟩) m pc,.bool false] 144 (0,0))):=⟨ov2,by rw [toPs_no hp (hl0)];exact HY.out.1,HY.out.2⟩
          clear hp hpr HP epo hsh hvo hlf HY
          obtain ⟨ov3,HY3⟩:∃ ov3,Hid (RkIn wr rp xv1 rv1 ov3 ps2 { R2 with out:=R2.out++toPs (·.left) D 5 (x.parts.take (y+1)) }∧KFr S (kb rp xv1 rv1 ov3 ps2) w wr∧wr.ownsRow w.heap.size 34 1 (.slice (some ⟨gi,0,none⟩) n ic) n (idsV ids)∧wr.heap[b]?=some (.cells #[.int .u64 (D:Int),.int .i64 6,.int .i64 (ag:Int),.slice (some ⟨pb,0,none⟩) m pc,.bool false] 144 (0,0))):=HY2.out
          go_wp2
          go_roundw
          case rel=>exact ⟨y+1,ov3,by omega,by go_num,HY3⟩
          case measure=>simp [intOf];omega
         ·have hl0:p.left=true:=hlf.symm
          have HTP:=toHid (show toPs (·.left) D 5 (x.parts.take (y+1))=toPs (·.left) D 5 (x.parts.take y)++[(D,sh,5)] by rw [toPs_yes hp (hl0),← hsh])
          have hin:=HY.out.1
          have hrb:=(Array.getElem?_eq_some_iff.1 hin.blk).1
          have hxl:=(Array.getElem?_eq_some_iff.1 HY.out.2.2.2).1
          have hob:=(hpr.lt pb rfl).2
          obtain ⟨cp2,hcp2⟩:=own_cells hpr (g:=pb) rfl
          have hne:=hin.ne
          obtain ⟨OL,hOL⟩:∃ OL,OL=R2.out++toPs (·.left) D 5 (x.parts.take y):=⟨_,rfl⟩
          obtain ⟨N,hN⟩:∃ N,N=OL.length:=⟨_,rfl⟩
          have hNb:N≤1048600:=by
           have a1:=toPs_len (·.left) D 5 (x.parts.take y)
           have a2:=HQ.out.2.2.2
           rw [List.length_take,HQ.out.1] at a1
           rw [hN,hOL,List.length_append]
           omega
          have HL:=toHid (show rp<wr.heap.size∧b<wr.heap.size∧pb<wr.heap.size∧ov2.ownBlock≠some rp∧ov2.ownBlock≠some b∧ov2.ownBlock≠some pb∧b≠rp∧pb≠rp from ⟨hrb,hxl,hob,hne.2.2.1,own_ne hin.out HY.out.2.2.2 (by decide),own_ne hin.out hcp2 (by decide),HBR.out,fun e=>by rw [e,hin.blk] at hcp2;cases hcp2⟩)
          have HA:=toHid (show RkIn wr rp xv1 rv1 ov2 ps2 { R2 with out:=OL }∧wr.ownsRow B0 212 3 ov2 N (dueV OL)∧(∀ (W:World) (v:Value) (xs:List Value),W.ownsRow B0 212 3 v (N+1) xs→W.ownsRow B0 212 3 v (OL.length+1) xs) from ⟨by rw [hOL];exact hin,by rw [hN,hOL];exact hin.out,fun W v xs hh=>by rw [← hN];exact hh⟩)
          have HSF:=toHid (show ∀ W':World,W'.heap[b]?=wr.heap[b]?→W'.heap[pb]?=wr.heap[pb]?→W'.cell? ⟨b,0,none⟩=some (.int .u64 (D:Int))∧W'.cell? ⟨b,3,none⟩=some (.slice (some ⟨pb,0,none⟩) m pc)∧W'.cell? ⟨pb,y*3,none⟩=some (.int .i64 (sh:Int)) from fun W' h1 h2=>⟨(World.cell?_of_block (a:=⟨b,0,none⟩) h1).trans xb0,(World.cell?_of_block (a:=⟨b,3,none⟩) h1).trans xb3,(World.cell?_of_block (a:=⟨pb,y*3,none⟩) h2).trans z0⟩)
          have HSG:=toHid (show ∀ W':World,W'.heap[b]?=wr.heap[b]?→W'.cell? ⟨b,1,none⟩=some (.int .i64 6) from fun W' h1=>(World.cell?_of_block (a:=⟨b,1,none⟩) h1).trans xb1)
          have o3:=blk_cell hin.blk 3
          simp at o3
          have al0:∀ o,(wr.drew.alloc o).heap[b]?=wr.heap[b]?:=fun o=>Below.heap_alloc wr.drew o b hxl
          have al1:∀ o,(wr.drew.alloc o).heap[pb]?=wr.heap[pb]?:=fun o=>Below.heap_alloc wr.drew o pb hob
          have al3:∀ o,(wr.drew.alloc o).cell? ⟨rp,3,none⟩=some ov2:=fun o=>(World.cell?_alloc_lt _ _ _ hrb).trans o3
          have al4:∀ o,(wr.alloc o).cell? ⟨rp,3,none⟩=some ov2:=fun o=>(World.cell?_alloc_lt _ _ _ hrb).trans o3
          have HE:=toHid (show ∀ W' ov',RkIn W' rp xv1 rv1 ov' ps2 { R2 with out:=OL++[(D,sh,5)] }→KFr (kb rp xv1 rv1 ov2 ps2) (kb rp xv1 rv1 ov' ps2) wr W'→Fr (rp :: ov2.ownBlock.toList) wr W'→W'.heap[b]?=wr.heap[b]?→(RkIn W' rp xv1 rv1 ov' ps2 { R2 with out:=R2.out++toPs (·.left) D 5 (x.parts.take (y+1)) }∧KFr S (kb rp xv1 rv1 ov' ps2) w W'∧W'.ownsRow w.heap.size 34 1 (.slice (some ⟨gi,0,none⟩) n ic) n (idsV ids)∧W'.heap[b]?=some (.cells #[.int .u64 (D:Int),.int .i64 6,.int .i64 (ag:Int),.slice (some ⟨pb,0,none⟩) m pc,.bool false] 144 (0,0))) from fun W' ov' h1 h2 h3 h4=>⟨by rw [HTP.out,← List.append_assoc,← hOL];exact h1,HY.out.2.1.trans h2,ownsRow_fr HY.out.2.2.1 h3 (fun q hq hm=>by
           rcases List.mem_cons.1 hm with rfl | hm
           ·exact own_ne HY.out.2.2.1 hin.blk (by decide) hq
           ·exact own_apart HY.out.2.2.1 hin.out (by decide) hq (by simpa using hm)),h4.trans HY.out.2.2.2⟩)
          clear hp hpr HP epo hsh hvo hlf HY hin hrb hxl hob hcp2 hne hOL hN HTP
          go_wp2
          refine wp_region_held_drew (S:=(fun w'=>w'.cell? ⟨b,0,none⟩=some (.int .u64 (D:Int))∧w'.cell? ⟨b,3,none⟩=some (.slice (some ⟨pb,0,none⟩) m pc)∧w'.cell? ⟨pb,y*3,none⟩=some (.int .i64 (sh:Int)))) (by kernel_rfl) (HSF.out _ rfl rfl) (fun hHeld=>?_)
          refine wpAnyH_take (i:=0) (oi:=⟨some 123,.move (.tmp 0),78,"coord.go:276",#[],none⟩) (v:=.pointer (some ⟨rp,0,none⟩)) rfl (by kernel_rfl) (by kernel_rfl) (by kernel_rfl) (fun _ _ _ h=>h) (Or.inl ⟨by rfl,?_⟩) (by assumption) ?_
          ·intro w hSw;(try dsimp only at hSw);go_simp
          (try simp only [Act.put,List.setIfInBounds_toArray,List.set_cons_zero,List.set_cons_succ])
          refine wpAnyH_take (i:=1) (oi:=⟨some 124,.move (.tmp 0),78,"coord.go:276",#[],none⟩) (v:=.pointer (some ⟨rp,0,none⟩)) rfl (by kernel_rfl) (by kernel_rfl) (by kernel_rfl) (fun _ _ _ h=>h) (Or.inl ⟨by rfl,?_⟩) (by assumption) ?_
          ·intro w hSw;(try dsimp only at hSw);go_simp
          (try simp only [Act.put,List.setIfInBounds_toArray,List.set_cons_zero,List.set_cons_succ])
          refine wpAnyH_take (i:=2) (oi:=⟨some 125,.nilCheck (.tmp 124),0,"coord.go:276",#[⟨1,.data⟩],none⟩) (v:=.pointer (some ⟨rp,0,none⟩)) rfl (by kernel_rfl) (by kernel_rfl) (by kernel_rfl) (fun _ _ _ h=>h) (Or.inl ⟨by rfl,?_⟩) (by assumption) ?_
          ·intro w hSw;(try dsimp only at hSw);go_simp
          (try simp only [Act.put,List.setIfInBounds_toArray,List.set_cons_zero,List.set_cons_succ])
          refine wpAnyH_take (i:=3) (oi:=⟨some 126,.fieldAddr 141 (.tmp 125) 3,0,"coord.go:276",#[⟨2,.data⟩],none⟩) (v:=.pointer (some ⟨rp,3,none⟩)) rfl (by kernel_rfl) (by kernel_rfl) (by kernel_rfl) (fun _ _ _ h=>h) (Or.inl ⟨by rfl,?_⟩) (by assumption) ?_
          ·intro w hSw;(try dsimp only at hSw);go_simp
          (try simp only [Act.put,List.setIfInBounds_toArray,List.set_cons_zero,List.set_cons_succ])
          refine wpAnyH_take (i:=5) (oi:=⟨some 128,.fieldAddr 144 (.tmp 6) 0,0,"coord.go:276",#[],none⟩) (v:=.pointer (some ⟨b,0,none⟩)) rfl (by kernel_rfl) (by kernel_rfl) (by kernel_rfl) (fun _ _ _ h=>h) (Or.inl ⟨by rfl,?_⟩) (by assumption) ?_
          ·intro w hSw;(try dsimp only at hSw);go_simp
          (try simp only [Act.put,List.setIfInBounds_toArray,List.set_cons_zero,List.set_cons_succ])
          refine wpAnyH_take (i:=6) (oi:=⟨some 129,.load 34 (.tmp 128),34,"coord.go:276",#[⟨5,.data⟩],none⟩) (v:=.int .u64 (D:Int)) rfl (by kernel_rfl) (by kernel_rfl) (by kernel_rfl) (fun _ _ _ h=>h) (Or.inl ⟨by rfl,?_⟩) (by assumption) ?_
          ·intro w hSw;(try dsimp only at hSw);go_simp
          (try simp only [Act.put,List.setIfInBounds_toArray,List.set_cons_zero,List.set_cons_succ])
          refine wpAnyH_take (i:=7) (oi:=⟨some 130,.fieldAddr 144 (.tmp 6) 3,0,"coord.go:276",#[],none⟩) (v:=.pointer (some ⟨b,3,none⟩)) rfl (by kernel_rfl) (by kernel_rfl) (by kernel_rfl) (fun _ _ _ h=>h) (Or.inl ⟨by rfl,?_⟩) (by assumption) ?_
          ·intro w hSw;(try dsimp only at hSw);go_simp
          (try simp only [Act.put,List.setIfInBounds_toArray,List.set_cons_zero,List.set_cons_succ])
          refine wpAnyH_take (i:=8) (oi:=⟨some 131,.load 142 (.tmp 130),142,"coord.go:276",#[⟨7,.data⟩],none⟩) (v:=.slice (some ⟨pb,0,none⟩) m pc) rfl (by kernel_rfl) (by kernel_rfl) (by kernel_rfl) (fun _ _ _ h=>h) (Or.inl ⟨by rfl,?_⟩) (by assumption) ?_
          ·intro w hSw;(try dsimp only at hSw);go_simp
          (try simp only [Act.put,List.setIfInBounds_toArray,List.set_cons_zero,List.set_cons_succ])
          refine wpAnyH_take (i:=9) (oi:=⟨some 132,.move (.tmp 7),3,"coord.go:276",#[],none⟩) (v:=.int .i64 (y:Int)) rfl (by kernel_rfl) (by kernel_rfl) (by kernel_rfl) (fun _ _ _ h=>h) (Or.inl ⟨by rfl,?_⟩) (by assumption) ?_
          ·intro w hSw;(try dsimp only at hSw);go_simp
          (try simp only [Act.put,List.setIfInBounds_toArray,List.set_cons_zero,List.set_cons_succ])
          refine wpAnyH_take (i:=10) (oi:=⟨some 133,.indexAddr 142 (.tmp 131) (.tmp 132),0,"coord.go:276",#[⟨8,.data⟩,⟨9,.data⟩],none⟩) (v:=.pointer (some ⟨pb,y*3,none⟩)) rfl (by kernel_rfl) (by kernel_rfl) (by kernel_rfl) (fun _ _ _ h=>h) (Or.inl ⟨by rfl,?_⟩) (by assumption) ?_
          ·intro w hSw;(try dsimp only at hSw);go_simp
          (try simp only [Act.put,List.setIfInBounds_toArray,List.set_cons_zero,List.set_cons_succ])
          refine wpAnyH_take (i:=11) (oi:=⟨some 134,.fieldAddr 204 (.tmp 133) 0,0,"coord.go:276",#[⟨10,.data⟩],none⟩) (v:=.pointer (some ⟨pb,y*3,none⟩)) rfl (by kernel_rfl) (by kernel_rfl) (by kernel_rfl) (fun _ _ _ h=>h) (Or.inl ⟨by rfl,?_⟩) (by assumption) ?_
          ·intro w hSw;(try dsimp only at hSw);go_simp
          (try simp only [Act.put,List.setIfInBounds_toArray,List.set_cons_zero,List.set_cons_succ])
          refine wpAnyH_take (i:=12) (oi:=⟨some 135,.load 3 (.tmp 134),3,"coord.go:276",#[⟨11,.data⟩],none⟩) (v:=.int .i64 (sh:Int)) rfl (by kernel_rfl) (by kernel_rfl) (by kernel_rfl) (fun _ _ _ h=>h) (Or.inl ⟨by rfl,?_⟩) (by assumption) ?_
          ·intro w hSw;(try dsimp only at hSw);go_simp
          (try simp only [Act.put,List.setIfInBounds_toArray,List.set_cons_zero,List.set_cons_succ])
          refine wpAnyH_take (i:=13) (oi:=⟨some 136,.build 212 #[(0,.tmp 129),(1,.tmp 135),(2,.const (Value.int IntKind.i64 5))],212,"coord.go:276",#[⟨6,.data⟩,⟨12,.data⟩],none⟩) (v:=.agg #[.int .u64 (D:Int),.int .i64 (sh:Int),.int .i64 5]) rfl (by kernel_rfl) (by kernel_rfl) (by kernel_rfl) (fun _ _ _ h=>h) (Or.inl ⟨by rfl,?_⟩) (by assumption) ?_
          ·intro w hSw;(try dsimp only at hSw);go_simp
          (try simp only [Act.put,List.setIfInBounds_toArray,List.set_cons_zero,List.set_cons_succ])
          refine wpAnyH_ready (rs:=[4,14]) (by kernel_rfl) (by simp) ?_
          refine AllReadyH.cons (o:=⟨some 127,.load 139 (.tmp 126),139,"coord.go:276",#[⟨3,.data⟩],none⟩) rfl (fun K hK=>?_) (AllReadyH.cons (o:=⟨some 137,.buildSlice 139 1 #[(0,.tmp 136)],139,"coord.go:276",#[⟨13,.data⟩],none⟩) rfl (fun K hK=>?_) AllReadyH.nil)
          ·go_simp
           refine hK.out _ _ ?_ (fun hHeld=>?_)
           ·exact HSF.out _ rfl rfl
           clear hK K
           (try simp only [Act.put,List.setIfInBounds_toArray,List.set_cons_zero,List.set_cons_succ])
           refine wpAnyH_ready (rs:=[14]) (by kernel_rfl) (by simp) ?_
           refine AllReadyH.cons (o:=⟨some 137,.buildSlice 139 1 #[(0,.tmp 136)],139,"coord.go:276",#[⟨13,.data⟩],none⟩) rfl (fun K hK=>?_) AllReadyH.nil
           go_simp
           refine hK.out _ _ ?_ (fun hHeld=>?_)
           ·exact HSF.out _ (al0 _) (al1 _)
           clear hK K
           (try simp only [Act.put,List.setIfInBounds_toArray,List.set_cons_zero,List.set_cons_succ])
           refine wpAnyH_ready (rs:=[15]) (by kernel_rfl) (by simp) ?_
           refine AllReadyH.cons rfl (fun K hK=>?_) AllReadyH.nil
           rw [if_pos (by rfl)]
           refine wp_dueat _ _ rfl B0 ov2 N (dueV OL) D (sh:Int) 5 wr.heap.size rfl (ownsRow_fr HA.out.2.1 ((Fr.refl [] wr).drew.alloc _) (by simp)) rfl (heap_alloc_new _ _) (by omega) (by have:=HA.out.1.low;simp;omega) ?_
           intro v' w1 hown' hgrow hat0
           obtain ⟨av,mv,cv,rfl⟩:=own_sl hown'
           have hfa:Fr [] wr (wr.drew.alloc (.cells #[.int .u64 (D:Int),.int .i64 (sh:Int),.int .i64 5] 212)):=(Fr.refl [] wr).drew.alloc _
           have fro:Fr ov2.ownBlock.toList wr w1:=(hfa.mono (by simp)).trans (Fr.of_grown hgrow)
           have hb1:=(fro.block rp HL.out.1 (by simp;exact HL.out.2.2.2.1)).trans HA.out.1.blk
           have g0:=fro.block b HL.out.2.1 (by simp;exact HL.out.2.2.2.2.1)
           have g1:=fro.block pb HL.out.2.2.1 (by simp;exact HL.out.2.2.2.2.2.1)
           have d3:=blk_cell hb1 3
           have f3:=blk_free hb1 3
           simp at d3
           have HX:=toHid (HA.out.1.addOut hfa hgrow (D,sh,5) (HA.out.2.2 _ _ _ hown') (by simpa using hat0))
           have HE0:=toHid (fun u=>(Below.heap_setCell w1 ⟨rp,3,none⟩ u b HL.out.2.2.2.2.2.2.1).trans g0)
           have HE1:=toHid (fun u=>(Below.heap_setCell w1 ⟨rp,3,none⟩ u pb HL.out.2.2.2.2.2.2.2).trans g1)
           clear hown' hgrow hat0 hfa fro hb1
           refine hK.out _ _ ?_ (fun hHeld=>?_)
           ·exact HSF.out _ g0 g1
           clear hK K
           (try simp only [Act.put,List.setIfInBounds_toArray])
           refine wpAnyH_take (i:=16) (oi:=⟨some 139,.nilCheck (.tmp 123),0,"coord.go:276",#[⟨0,.data⟩,⟨0,.phase⟩,⟨1,.phase⟩,⟨2,.phase⟩,⟨3,.phase⟩,⟨4,.phase⟩,⟨5,.phase⟩,⟨6,.phase⟩,⟨7,.phase⟩,⟨8,.phase⟩,⟨9,.phase⟩,⟨10,.phase⟩,⟨11,.phase⟩,⟨12,.phase⟩,⟨13,.phase⟩,⟨14,.phase⟩,⟨15,.phase⟩],none⟩) (v:=.pointer (some ⟨rp,0,none⟩)) rfl (by kernel_rfl) (by kernel_rfl) (by kernel_rfl) (fun _ _ _ h=>h) (Or.inl ⟨by rfl,?_⟩) (by assumption) ?_
           ·intro w hSw;(try dsimp only at hSw);go_simp
           (try simp only [Act.put])
           refine wpAnyH_take (i:=17) (oi:=⟨some 140,.fieldAddr 141 (.tmp 139) 3,0,"coord.go:276",#[⟨16,.data⟩,⟨0,.phase⟩,⟨1,.phase⟩,⟨2,.phase⟩,⟨3,.phase⟩,⟨4,.phase⟩,⟨5,.phase⟩,⟨6,.phase⟩,⟨7,.phase⟩,⟨8,.phase⟩,⟨9,.phase⟩,⟨10,.phase⟩,⟨11,.phase⟩,⟨12,.phase⟩,⟨13,.phase⟩,⟨14,.phase⟩,⟨15,.phase⟩],none⟩) (v:=.pointer (some ⟨rp,3,none⟩)) rfl (by kernel_rfl) (by kernel_rfl) (by kernel_rfl) (fun _ _ _ h=>h) (Or.inl ⟨by rfl,?_⟩) (by assumption) ?_
           ·intro w hSw;(try dsimp only at hSw);go_simp
           (try simp only [Act.put])
           refine wpAnyH_ready (rs:=[18]) (by kernel_rfl) (by simp) ?_
           refine AllReadyH.cons rfl (fun K hK=>?_) AllReadyH.nil
           go_simp
           refine hK.out _ _ ?_ (fun hHeld=>?_)
           ·exact HSF.out _ (HE0.out _) (HE1.out _)
           clear hK K
           (try simp only [Act.put,List.setIfInBounds_toArray,List.set_cons_zero,List.set_cons_succ])
           refine wpAnyH_done (by kernel_rfl) ?_ _
           have HZ:=toHid (HE.out _ _ HX.out.1 HX.out.2.1 HX.out.2.2 (HE0.out _))
           have yb1:=HSG.out _ (HE0.out (.slice av mv cv))
           go_wp2
           go_roundw
           case rel=>exact ⟨y+1,.slice av mv cv,by omega,by go_num,HZ⟩
           case measure=>simp [intOf];omega
          ·go_simp
           refine hK.out _ _ ?_ (fun hHeld=>?_)
           ·exact HSF.out _ (al0 _) (al1 _)
           clear hK K
           (try simp only [Act.put,List.setIfInBounds_toArray,List.set_cons_zero,List.set_cons_succ])
           refine wpAnyH_ready (rs:=[4]) (by kernel_rfl) (by simp) ?_
           refine AllReadyH.cons (o:=⟨some 127,.load 139 (.tmp 126),139,"coord.go:276",#[⟨3,.data⟩],none⟩) rfl (fun K hK=>?_) AllReadyH.nil
           go_simp
           refine hK.out _ _ ?_ (fun hHeld=>?_)
           ·exact HSF.out _ (al0 _) (al1 _)
           clear hK K
           (try simp only [Act.put,List.setIfInBounds_toArray,List.set_cons_zero,List.set_cons_succ])
           refine wpAnyH_ready (rs:=[15]) (by kernel_rfl) (by simp) ?_
           refine AllReadyH.cons rfl (fun K hK=>?_) AllReadyH.nil
           rw [if_pos (by rfl)]
           refine wp_dueat _ _ rfl B0 ov2 N (dueV OL) D (sh:Int) 5 wr.heap.size rfl (ownsRow_fr HA.out.2.1 ((Fr.refl [] wr).drew.alloc _) (by simp)) rfl (heap_alloc_new _ _) (by omega) (by have:=HA.out.1.low;simp;omega) ?_
           intro v' w1 hown' hgrow hat0
           obtain ⟨av,mv,cv,rfl⟩:=own_sl hown'
           have hfa:Fr [] wr (wr.drew.alloc (.cells #[.int .u64 (D:Int),.int .i64 (sh:Int),.int .i64 5] 212)):=(Fr.refl [] wr).drew.alloc _
           have fro:Fr ov2.ownBlock.toList wr w1:=(hfa.mono (by simp)).trans (Fr.of_grown hgrow)
           have hb1:=(fro.block rp HL.out.1 (by simp;exact HL.out.2.2.2.1)).trans HA.out.1.blk
           have g0:=fro.block b HL.out.2.1 (by simp;exact HL.out.2.2.2.2.1)
           have g1:=fro.block pb HL.out.2.2.1 (by simp;exact HL.out.2.2.2.2.2.1)
           have d3:=blk_cell hb1 3
           have f3:=blk_free hb1 3
           simp at d3
           have HX:=toHid (HA.out.1.addOut hfa hgrow (D,sh,5) (HA.out.2.2 _ _ _ hown') (by simpa using hat0))
           have HE0:=toHid (fun u=>(Below.heap_setCell w1 ⟨rp,3,none⟩ u b HL.out.2.2.2.2.2.2.1).trans g0)
           have HE1:=toHid (fun u=>(Below.heap_setCell w1 ⟨rp,3,none⟩ u pb HL.out.2.2.2.2.2.2.2).trans g1)
           clear hown' hgrow hat0 hfa fro hb1
           refine hK.out _ _ ?_ (fun hHeld=>?_)
           ·exact HSF.out _ g0 g1
           clear hK K
           (try simp only [Act.put,List.setIfInBounds_toArray])
           refine wpAnyH_take (i:=16) (oi:=⟨some 139,.nilCheck (.tmp 123),0,"coord.go:276",#[⟨0,.data⟩,⟨0,.phase⟩,⟨1,.phase⟩,⟨2,.phase⟩,⟨3,.phase⟩,⟨4,.phase⟩,⟨5,.phase⟩,⟨6,.phase⟩,⟨7,.phase⟩,⟨8,.phase⟩,⟨9,.phase⟩,⟨10,.phase⟩,⟨11,.phase⟩,⟨12,.phase⟩,⟨13,.phase⟩,⟨14,.phase⟩,⟨15,.phase⟩],none⟩) (v:=.pointer (some ⟨rp,0,none⟩)) rfl (by kernel_rfl) (by kernel_rfl) (by kernel_rfl) (fun _ _ _ h=>h) (Or.inl ⟨by rfl,?_⟩) (by assumption) ?_
           ·intro w hSw;(try dsimp only at hSw);go_simp
           (try simp only [Act.put])
           refine wpAnyH_take (i:=17) (oi:=⟨some 140,.fieldAddr 141 (.tmp 139) 3,0,"coord.go:276",#[⟨16,.data⟩,⟨0,.phase⟩,⟨1,.phase⟩,⟨2,.phase⟩,⟨3,.phase⟩,⟨4,.phase⟩,⟨5,.phase⟩,⟨6,.phase⟩,⟨7,.phase⟩,⟨8,.phase⟩,⟨9,.phase⟩,⟨10,.phase⟩,⟨11,.phase⟩,⟨12,.phase⟩,⟨13,.phase⟩,⟨14,.phase⟩,⟨15,.phase⟩],none⟩) (v:=.pointer (some ⟨rp,3,none⟩)) rfl (by kernel_rfl) (by kernel_rfl) (by kernel_rfl) (fun _ _ _ h=>h) (Or.inl ⟨by rfl,?_⟩) (by assumption) ?_
           ·intro w hSw;(try dsimp only at hSw);go_simp
           (try simp only [Act.put])
           refine wpAnyH_ready (rs:=[18]) (by kernel_rfl) (by simp) ?_
           refine AllReadyH.cons rfl (fun K hK=>?_) AllReadyH.nil
           go_simp
           refine hK.out _ _ ?_ (fun hHeld=>?_)
           ·exact HSF.out _ (HE0.out _) (HE1.out _)
           clear hK K
           (try simp only [Act.put,List.setIfInBounds_toArray,List.set_cons_zero,List.set_cons_succ])
           refine wpAnyH_done (by kernel_rfl) ?_ _
           have HZ:=toHid (HE.out _ _ HX.out.1 HX.out.2.1 HX.out.2.2 (HE0.out _))
           have yb1:=HSG.out _ (HE0.out (.slice av mv cv))
           go_wp2
           go_roundw
           case rel=>exact ⟨y+1,.slice av mv cv,by omega,by go_num,HZ⟩
           case measure=>simp [intOf];omega
        ·have hnl2:¬ (y:Int)<(m:Int):=by omega
         have hty:x.parts.take y=x.parts:=List.take_of_length_le (by rw [HQ.out.1];omega)
         have HF:Hid (∃ S1,RkN wr rp S1 ((ids.take (k+1)).foldl RCo.tickOne R)∧KFr S S1 w wr∧wr.ownsRow w.heap.size 34 1 (.slice (some ⟨gi,0,none⟩) n ic) n (idsV ids)):=by
          refine ⟨_,⟨_,_,_,_,?_,rfl⟩,HY.out.2.1,HY.out.2.2.1⟩
          have h9:=HY.out.1
          rw [hty] at h9
          rw [HFI.out]
          exact h9
         clear hty
         go_wp2
         go_roundw
         case rel=>exact ⟨k+1,by omega,by go_num,HF⟩
         case measure=>simp [intOf];omega
      ·have j5:¬ (st:Int)=5:=by omega
       have b5:((st:Int) == 5)=false:=beq_eq_false_iff_ne.2 j5
       have j6:¬ (st:Int)=6:=by omega
       have b6:((st:Int) == 6)=false:=beq_eq_false_iff_ne.2 j6
       obtain ⟨W2,hW2⟩:∃ W2,W2=W1.alloc (.cells #[.int .u64 (D:Int),.int .i64 (st:Int),.int .i64 (ag:Int),.slice po m pc,.bool false] 144):=⟨_,rfl⟩
       have hf2:Fr [] W1 W2:=by rw [hW2];exact (Fr.refl [] _).alloc _
       obtain ⟨ps2,hps2⟩:∃ ps2,ps2=ps1:=⟨_,rfl⟩
       obtain ⟨R2,hR2⟩:∃ R2,R2=R1:=⟨_,rfl⟩
       have HJ:=toHid (show RkIn W2 rp xv1 rv1 ov1 ps2 R2∧KFr S (kb rp xv1 rv1 ov1 ps2) w W2∧W2.ownsRow w.heap.size 34 1 (.slice (some ⟨gi,0,none⟩) n ic) n (idsV ids)∧W2.heap[b]?=some (.cells #[.int .u64 (D:Int),.int .i64 (st:Int),.int .i64 (ag:Int),.slice po m pc,.bool false] 144 (0,0)) from ⟨by rw [hps2,hR2];exact HW1.out.1.fr hf2,by rw [hps2];exact HW1.out.2.1.trans (KFr.of hf2),ownsRow_fr HW1.out.2.2 hf2 (by simp),by rw [hW2,hb];exact heap_alloc_new W1 _⟩)
       have HQ:=toHid (show x.parts.length=m∧ps2[i]?=some (x,.slice po m pc)∧x.parts=x.parts∧R2.out.length≤1000200 from ⟨HPM.out,by rw [hps2];exact HPS.out,rfl,by rw [hR2];have:=HN1.out.1;omega⟩)
       have hto:R1.tickOne t=R1:=by
        obtain ⟨i',hi',e⟩:=tickOne_of HXX.out.2.2.2
        rw [e,if_neg (by rw [← HXX.out.2.1];omega),if_neg (by rw [← HXX.out.2.1];exact h6)]
       have HFI:=toHid (show (ids.take (k+1)).foldl RCo.tickOne R={ R2 with out:=R2.out++toPs (fun _=>false) D 5 x.parts } by
        rw [HNX.out,hto,hR2,show toPs (fun _=>false) D 5 x.parts=[] by unfold toPs;rw [List.filter_eq_nil_iff.2 (fun _ _=>by simp)];rfl,List.append_nil])
       have HBB:=toHid hb
       clear hf2 hps2 hR2 hto hb
       go_wp2
       rw [← hW2,← HBB.out]
       clear hW2 c0 x0 x1 x2 x3 x4 gfz hgl hrl1 hszw
       have HST:Hid (RkIn W2 rp xv1 rv1 ov1 ps2 { R2 with out:=R2.out++toPs (fun _=>false) D 5 (x.parts.take 0) }∧KFr S (kb rp xv1 rv1 ov1 ps2) w W2∧W2.ownsRow w.heap.size 34 1 (.slice (some ⟨gi,0,none⟩) n ic) n (idsV ids)∧W2.heap[b]?=some (.cells #[.int .u64 (D:Int),.int .i64 (st:Int),.int .i64 (ag:Int),.slice po m pc,.bool false] 144 (0,0))):=⟨by simpa [toPs] using HJ.out.1,HJ.out.2⟩
       clear HJ
       go_loopw [7] (fun j wr=>∃ (y:Nat) (ov':Value),y≤m∧j=.int .i64 y∧Hid (RkIn wr rp xv1 rv1 ov' ps2 { R2 with out:=R2.out++toPs (fun _=>false) D 5 (x.parts.take y) }∧KFr S (kb rp xv1 rv1 ov' ps2) w wr∧wr.ownsRow w.heap.size 34 1 (.slice (some ⟨gi,0,none⟩) n ic) n (idsV ids)∧wr.heap[b]?=some (.cells #[.int .u64 (D:Int),.int .i64 (st:Int),.int .i64 (ag:Int),.slice po m pc,.bool false] 144 (0,0)))) (fun j _=>m - (intOf j).toNat)
       case atStart=>exact ⟨0,ov1,Nat.zero_le _,rfl,HST⟩
       case round =>
        obtain ⟨y,ov2,hy,rfl,HY⟩:=hrel
        have xb0:=blk_cell HY.out.2.2.2 0
        have xb1:=blk_cell HY.out.2.2.2 1
        have xb3:=blk_cell HY.out.2.2.2 3
        simp at xb0 xb1 xb3
        by_cases hly:y<m
        ·have y0:(0:Int)≤(y:Int):=by omega
         have y1:(y:Int)<(m:Int):=by omega
         obtain ⟨p,hp⟩:∃ p,x.parts[y]?=some p:=⟨_,List.getElem?_eq_getElem (by rw [HQ.out.1];exact hly)⟩
         have hpr:=HY.out.1.prt _ (List.mem_of_getElem? HQ.out.2.1)
         simp only at hpr
         obtain ⟨po',pc',epo,HP⟩:=part_slice hpr
         obtain ⟨pb,hpb,z0,z1,z2⟩:=HP y p hp
         obtain ⟨rfl,hmx,rfl⟩:po=po'∧m=x.parts.length∧pc=pc':=by simpa using epo
         clear hmx
         subst hpb
         obtain ⟨sh,hsh⟩:∃ sh,sh=p.shard:=⟨_,rfl⟩
         obtain ⟨vo,hvo⟩:∃ vo,vo=p.vote:=⟨_,rfl⟩
         obtain ⟨lf,hlf⟩:∃ lf,lf=p.left:=⟨_,rfl⟩
         rw [← hsh] at z0
         rw [← hvo] at z1
         rw [← hlf] at z2
         have HY2:Hid (∃ ov',RkIn wr rp xv1 rv1 ov' ps2 { R2 with out:=R2.out++toPs (fun _=>false) D 5 (x.parts.take (y+1)) }∧KFr S (kb rp xv1 rv1 ov' ps2) w wr∧wr.ownsRow w.heap.size 34 1 (.slice (some ⟨gi,0,none⟩) n ic) n (idsV ids)∧wr.heap[b]?=some (.cells #[.int .u64 (D:Int),.int .i64 (st:Int),.int .i64 (ag:Int),.slice (some ⟨pb,0,none⟩) m pc,.bool false] 144 (0,0))):=⟨ov2,by rw [toPs_no hp (rfl)];exact HY.out.1,HY.out.2⟩
         clear hp hpr HP epo hsh hvo hlf HY
         obtain ⟨ov3,HY3⟩:∃ ov3,Hid (RkIn wr rp xv1 rv1 ov3 ps2 { R2 with out:=R2.out++toPs (fun _=>false) D 5 (x.parts.take (y+1)) }∧KFr S (kb rp xv1 rv1 ov3 ps2) w wr∧wr.ownsRow w.heap.size 34 1 (.slice (some ⟨gi,0,none⟩) n ic) n (idsV ids)∧wr.heap[b]?=some (.cells #[.int .u64 (D:Int),.int .i64 (st:Int),.int .i64 (ag:Int),.slice (some ⟨pb,0,none⟩) m pc,.bool false] 144 (0,0))):=HY2.out
         go_wp2
         go_roundw
         case rel=>exact ⟨y+1,ov3,by omega,by go_num,HY3⟩
         case measure=>simp [intOf];omega
        ·have hnl2:¬ (y:Int)<(m:Int):=by omega
         have hty:x.parts.take y=x.parts:=List.take_of_length_le (by rw [HQ.out.1];omega)
         have HF:Hid (∃ S1,RkN wr rp S1 ((ids.take (k+1)).foldl RCo.tickOne R)∧KFr S S1 w wr∧wr.ownsRow w.heap.size 34 1 (.slice (some ⟨gi,0,none⟩) n ic) n (idsV ids)):=by
          refine ⟨_,⟨_,_,_,_,?_,rfl⟩,HY.out.2.1,HY.out.2.2.1⟩
          have h9:=HY.out.1
          rw [hty] at h9
          rw [HFI.out]
          exact h9
         clear hty
         go_wp2
         go_roundw
         case rel=>exact ⟨k+1,by omega,by go_num,HF⟩
         case measure=>simp [intOf];omega
    ·have hkn:k=n:=by omega
     have HF:=toHid (show ∃ S',RkN wr rp S' R.tick∧KFr S S' w wr from by
      obtain ⟨S1,hR1,hkf1,_⟩:=hr.out
      refine ⟨S1,?_,hkf1⟩
      unfold RCo.tick
      rw [List.take_of_length_le (by rw [HID.out.2.1];omega),HID.out.1] at hR1
      exact hR1)
     have hnl:¬ (k:Int)<(n:Int):=by omega
     go_wp2
     go_end0
     exact ⟨rfl,HF.out⟩
end Go.Proofs.YtejiankgafjppaaGreatDoor
