import Derived.Test.YtejiankgafjppaaGreatDoorC42
import Derived.Test.YtejiankgafjppaaGreatDoorC38
namespace Go.Proofs.YtejiankgafjppaaGreatDoor
open Go.RowKit Go.Maps Go.Shelf
open Sc
theorem voteP_none {z:Int} {v:Nat} {l:List RPart} (h:l.any (mineP z)=false):l.map (voteP z v)=l:=by
 rw [List.any_eq_false] at h
 have:∀ p∈l,voteP z v p=p:=fun p hp=>by
  have:=h p hp
  unfold mineP at this
  unfold voteP
  rw [if_neg (by simpa using this)]
 conv=>rhs;rw [← List.map_id l]
 exact List.map_congr_left this
set_option maxRecDepth 100000 in
set_option maxHeartbeats 4000000 in
theorem kvote_no [Inhabited Bs] (rp t:Nat) (z v:Int) (S:List Nat) (R:RCo) (w:World) (h:RkN w rp S R) (hn:R.deals.length≤1048576) (hno:∀ x,dealAt R.deals t=some x→x.st≠5∨v<2∨4<v) :
  Calls Tryz.prog 104 #[.pointer (some ⟨rp,0,none⟩),.int .u64 (t:Int),.int .i64 z,.int .i64 v] w fun e w'=>e=.returned (.tuple #[])∧∃ q,w'=w.drewN q:=by
 obtain ⟨xv,rv,ov,ps,h,rfl⟩:=h
 have hps:=h.len
 have hf:=kfind_any rp t xv rv ov ps R w h (by omega)
 have c0:=blk_cell h.blk 0
 simp at c0
 obtain ⟨ao,c,hxv,H⟩:=h.slice
 rw [hxv] at c0
 cases hix:dealIx R.deals t with
 | none =>
  rw [hix] at hf
  have e1:ixI none=-1:=rfl
  rw [e1] at hf
  clear h H hix e1 hxv hps hno
  go_enter Tryz.func104,Tryz.ntmps104
  go_wp2_with fail
  refine hf.mono ?_
  clear hf
  rintro e w1 ⟨rfl,q,rfl⟩
  go_wp2
  (try simp only [Exit.inBlock,Exit.then])
  refine bodyPost_ret (results_none rfl _ _ _) rfl ?_
  exact ⟨rfl,_,rfl⟩
 | some i =>
  obtain ⟨x,hx,hid,hat⟩:=dealIx_some hix
  obtain ⟨v0,hv⟩:=h.at hx
  obtain ⟨g,rfl,x0,x1,x2,x3,x4⟩:=H i _ hv
  have hil:=(List.getElem?_eq_some_iff.1 hv).1
  rw [hix] at hf
  have e1:ixI (some i)=(i:Int):=rfl
  rw [e1] at hf
  have i0:¬ (i:Int)<0:=by omega
  have i1:(0:Int)≤(i:Int):=by omega
  have i2:(i:Int)<(ps.length:Int):=by omega
  have hno2:=hno x hat
  obtain ⟨st,hst⟩:∃ st,st=x.st:=⟨_,rfl⟩
  simp only at x1
  rw [← hst] at x1 hno2
  clear h H hix hat hx hid hv e1 hst hxv hps hno x0 x2 x3 x4
  by_cases h5:st=5
  ·subst h5
   by_cases h2:v<2
   ·go_enter Tryz.func104,Tryz.ntmps104
    go_wp2_with fail
    refine hf.mono ?_
    clear hf
    rintro e w1 ⟨rfl,q,rfl⟩
    go_wp2
    (try simp only [Exit.inBlock,Exit.then])
    refine bodyPost_ret (results_none rfl _ _ _) rfl ?_
    exact ⟨rfl,_,rfl⟩
   ·have h4:4<v:=by omega
    go_enter Tryz.func104,Tryz.ntmps104
    go_wp2_with fail
    refine hf.mono ?_
    clear hf
    rintro e w1 ⟨rfl,q,rfl⟩
    go_wp2
    (try simp only [Exit.inBlock,Exit.then])
    refine bodyPost_ret (results_none rfl _ _ _) rfl ?_
    exact ⟨rfl,_,rfl⟩
  ·have j5:¬ (st:Int)=5:=by omega
   have b5:((st:Int) == 5)=false:=beq_eq_false_iff_ne.2 j5
   have bn5:((st:Int) != 5)=true:=by unfold bne;rw [b5];rfl
   go_enter Tryz.func104,Tryz.ntmps104
   go_wp2_with fail
   refine hf.mono ?_
   clear hf
   rintro e w1 ⟨rfl,q,rfl⟩
   go_wp2
   (try simp only [Exit.inBlock,Exit.then])
   refine bodyPost_ret (results_none rfl _ _ _) rfl ?_
   exact ⟨rfl,_,rfl⟩
set_option maxRecDepth 100000 in
set_option maxHeartbeats 8000000 in
theorem kvote_yes [Inhabited Bs] (rp t i:Nat) (z:Int) (v:Nat) (hv:2≤v∧v≤4) (S:List Nat) (R:RCo) (x:RDeal) (w:World) (h:RkN w rp S R) (hn:R.deals.length≤1048576) (hix:dealIx R.deals t=some i) (hx:R.deals[i]?=some x) (h5:x.st=5) (hne:x.parts≠[]) (hle:x.parts.length≤8) (hol:R.out.length≤1048000) (hrl:R.res.length≤1048000) :
  Calls Tryz.prog 104 #[.pointer (some ⟨rp,0,none⟩),.int .u64 (t:Int),.int .i64 z,.int .i64 (v:Int)] w fun e w'=>e=.returned (.tuple #[])∧∃ S',RkN w' rp S' (R.voted i x z v t)∧KFr S S' w w':=by
 obtain ⟨r0,hrn,rz0,rz1,rz2⟩:=info_parts Tryz.infoRes
 obtain ⟨xv,rv,ov,ps,h,rfl⟩:=h
 have hps:=h.len
 have hf:=kfind_any rp t xv rv ov ps R w h (by omega)
 have c0:=blk_cell h.blk 0
 simp at c0
 obtain ⟨ao,c,hxv,H⟩:=h.slice
 rw [hxv] at c0
 obtain ⟨v0,hv0⟩:=h.at hx
 obtain ⟨g,rfl,x0,x1,x2,x3,x4⟩:=H i _ hv0
 have hil:=(List.getElem?_eq_some_iff.1 hv0).1
 rw [hix] at hf
 have e1:ixI (some i)=(i:Int):=rfl
 rw [e1] at hf
 have i0:¬ (i:Int)<0:=by omega
 have i1:(0:Int)≤(i:Int):=by omega
 have i2:(i:Int)<(ps.length:Int):=by omega
 simp only at x1
 rw [h5] at x1
 have hpr:=h.prt _ (List.mem_of_getElem? hv0)
 simp only at hpr
 obtain ⟨po,pc,ep,HP⟩:=part_slice hpr
 obtain ⟨p0,hp0⟩:∃ p0,x.parts[0]?=some p0:=⟨_,List.getElem?_eq_getElem (List.length_pos_iff.2 hne)⟩
 obtain ⟨pb,epo,_⟩:=HP 0 p0 hp0
 obtain ⟨m,hm⟩:∃ m,m=x.parts.length:=⟨_,rfl⟩
 rw [epo,← hm] at ep
 subst ep
 obtain ⟨n,hnn⟩:∃ n,n=ps.length:=⟨_,rfl⟩
 rw [← hnn] at c0 i2 hil hxv
 have HK0:Hid (KAt w w rp i g n c pb m pc rv ov ov ps R x):=⟨⟨ps,by rw [← hxv];exact h,hv0,⟨Fr.refl _ _,fun _ hk _=>hk⟩,hnn.symm⟩,hm.symm⟩
 have HX:=toHid (show xv=.slice (some ⟨g,0,none⟩) n c∧x.parts.length=m∧R.deals[i]?=some x∧ps.length=n∧R.deals.length≤1048576 from ⟨hxv,hm.symm,hx,hnn.symm,hn⟩)
 have HS:Hid (x.st=5):=h5
 have hm8:m≤8:=by rw [hm];exact hle
 have hnb:n≤1048576:=by omega
 have v2:¬ (v:Int)<2:=by omega
 have v4:¬ (4:Int)<(v:Int):=by omega
 have v0':¬ (v:Int)=0:=by omega
 have bv0:((v:Int) == 0)=false:=beq_eq_false_iff_ne.2 v0'
 have HOL:=toHid (And.intro hol hrl)
 rw [hxv]
 clear h H hix hx hv0 e1 hxv hps hne hle hpr HP hp0 epo hnn hm x0 x2 x3 x4 h5 hol hrl hn
 go_enter Tryz.func104,Tryz.ntmps104
 go_wp2_with fail
 refine hf.mono ?_
 clear hf
 rintro e w1 ⟨rfl,q,rfl⟩
 have HKA:Hid (KAt w (w.drewN q) rp i g n c pb m pc rv ov ov ps (R.setAt i (x.pt (upTo (voteP z v) x.parts 0))) (x.pt (upTo (voteP z v) x.parts 0))):=by
  have h1:=HK0.out.fr ((Fr.refl [] w).drewM q)
  exact h1.cast (by rw [upTo_zero];exact (setAt_same HX.out.2.2.1).symm) (by rw [upTo_zero])
 clear HK0
 go_wp2
 go_loopw [9,10,11,12] (fun al so mi j wr=>∃ (k:Nat) (a b d:Bool),k≤m∧al=.bool a∧so=.bool b∧mi=.bool d∧j=.int .i64 k∧Hid (a=!((x.parts.take k).any fun p=>isZ (voteP z v p)))∧Hid (b=(x.parts.take k).any fun p=>isY (voteP z v p))∧Hid (d=(x.parts.take k).any (mineP z))∧Hid (KAt w wr rp i g n c pb m pc rv ov ov ps (R.setAt i (x.pt (upTo (voteP z v) x.parts k))) (x.pt (upTo (voteP z v) x.parts k)))) (fun _ _ _ j _=>m - (intOf j).toNat)
 case atStart=>exact ⟨0,true,false,false,Nat.zero_le _,rfl,rfl,rfl,rfl,rfl,rfl,rfl,HKA⟩
 case round =>
  obtain ⟨k,a,b,d,hk,rfl,rfl,rfl,rfl,HA,HB,HD,HK⟩:=hrel
  obtain ⟨a0,a1,a2,a3,a4,hin,HC⟩:=HK.out.cells
  clear a1 a2 a3
  by_cases hlt:k<m
  ·obtain ⟨p,hp⟩:∃ p,x.parts[k]?=some p:=⟨_,List.getElem?_eq_getElem (by rw [HX.out.2.1];exact hlt)⟩
   obtain ⟨b0,b1,b2⟩:=HC k p (upTo_at _ hp)
   obtain ⟨f0,_,_⟩:=HK.out.free
   have g2:=f0 (k*3+1)
   have nes:=HK.out.ne
   have ne1:¬ pb=rp:=nes.1
   have ne2:¬ pb=g:=nes.2.1
   have k0:(0:Int)≤(k:Int):=by omega
   have k1:(k:Int)<(m:Int):=by omega
   have HAN1:=toHid (any_next (fun p=>isZ (voteP z v p)) hp)
   have HAN2:=toHid (any_next (fun p=>isY (voteP z v p)) hp)
   have HAN3:=toHid (any_next (mineP z) hp)
   have hb1:pb<wr.heap.size:=nes.2.2.2.1
   have hb2:g<wr.heap.size:=nes.2.2.2.2.1
   have hb3:rp<wr.heap.size:=nes.2.2.2.2.2
   clear HC f0 nes
   by_cases hz:(p.shard:Int)=z∧p.vote=0
   ·have hvp:voteP z v p={ p with vote:=v }:=by unfold voteP;rw [if_pos hz]
    have hmp:mineP z p=true:=by unfold mineP;exact decide_eq_true hz
    have HS2:Hid (∀ o,KAt w ((wr.setCell ⟨pb,k*3+1,none⟩ (.int .i64 (v:Int))).alloc o) rp i g n c pb m pc rv ov ov ps (R.setAt i (x.pt (upTo (voteP z v) x.parts (k+1)))) (x.pt (upTo (voteP z v) x.parts (k+1)))):=fun o=>by
     have h1:=HK.out.setK (kx:=k) (j:=1) (l:=p) (l':=voteP z v p) (u:=.int .i64 (v:Int)) (upTo_at _ hp) (by decide) (by rw [hvp];rfl)
     exact (h1.cast (by rw [upTo_next _ hp];simp [RDeal.pt,RCo.setAt]) (by rw [upTo_next _ hp])).fr ((Fr.refl [] _).alloc o)
    have HA2:=toHid (show (a && ((v:Int) != 0))=!((x.parts.take (k+1)).any fun p=>isZ (voteP z v p)) by
     rw [HAN1.out,HA.out]
     simp only [hvp]
     unfold isZ bne
     rw [bv0,show (v == 0)=false by simp;omega]
     simp)
    have HB2:=toHid (show (b || ((v:Int) == 2))=(x.parts.take (k+1)).any fun p=>isY (voteP z v p) by
     rw [HAN2.out,HB.out]
     simp only [hvp]
     unfold isY
     congr 1
     rw [Bool.eq_iff_iff]
     simp
     omega)
    have HD2:=toHid (show true=(x.parts.take (k+1)).any (mineP z) by rw [HAN3.out,hmp];simp)
    have bz:((p.shard:Int) == z)=true:=by simp [hz.1]
    have bo:((p.vote:Int) == 0)=true:=by simp [hz.2]
    obtain ⟨sh,hsh⟩:∃ sh:Int,sh=(p.shard:Int):=⟨_,rfl⟩
    obtain ⟨vo,hvo⟩:∃ vo:Int,vo=(p.vote:Int):=⟨_,rfl⟩
    obtain ⟨lf,hlf⟩:∃ lf,lf=p.left:=⟨_,rfl⟩
    rw [← hlf] at b2
    have hsz:sh=z:=by rw [hsh];exact hz.1
    have hvz:vo=0:=by rw [hvo];have:=hz.2;omega
    rw [← hsh] at b0 bz
    rw [← hvo] at b1 bo
    clear hp hvp hmp hsh hvo hlf hz HAN1 HAN2 HAN3 HA HB HD HK
    cases a <;> cases b
    all_goals
     go_wp2
     go_roundw
     case rel=>exact ⟨k+1,_,_,_,by omega,rfl,rfl,rfl,by go_num,HA2,HB2,HD2,HS2.out _⟩
     case measure=>simp [intOf];omega
   ·have hvp:voteP z v p=p:=by unfold voteP;rw [if_neg hz]
    have hmp:mineP z p=false:=by unfold mineP;exact decide_eq_false hz
    have HS2:Hid (∀ o,KAt w (wr.alloc o) rp i g n c pb m pc rv ov ov ps (R.setAt i (x.pt (upTo (voteP z v) x.parts (k+1)))) (x.pt (upTo (voteP z v) x.parts (k+1)))):=fun o=>by
     have e:upTo (voteP z v) x.parts (k+1)=upTo (voteP z v) x.parts k:=by rw [upTo_next _ hp,hvp];exact set_same (upTo_at _ hp)
     exact (HK.out.cast (by rw [e]) (by rw [e])).fr ((Fr.refl [] wr).alloc o)
    have HA2:=toHid (show (a && ((p.vote:Int) != 0))=!((x.parts.take (k+1)).any fun p=>isZ (voteP z v p)) by
     rw [HAN1.out,HA.out]
     simp only [hvp]
     unfold isZ
     rw [Bool.not_or]
     congr 1
     rw [Bool.eq_iff_iff]
     simp)
    have HB2:=toHid (show (b || ((p.vote:Int) == 2))=(x.parts.take (k+1)).any fun p=>isY (voteP z v p) by
     rw [HAN2.out,HB.out]
     simp only [hvp]
     unfold isY
     congr 1
     rw [Bool.eq_iff_iff]
     simp
     omega)
    have HD2:=toHid (show d=(x.parts.take (k+1)).any (mineP z) by rw [HAN3.out,hmp,← HD.out];simp)
    obtain ⟨sh,hsh⟩:∃ sh:Int,sh=(p.shard:Int):=⟨_,rfl⟩
    obtain ⟨vo,hvo⟩:∃ vo:Int,vo=(p.vote:Int):=⟨_,rfl⟩
    obtain ⟨lf,hlf⟩:∃ lf,lf=p.left:=⟨_,rfl⟩
    rw [← hlf] at b2
    have hz':¬ sh=z∨(sh=z∧¬ vo=0):=by omega
    rw [← hsh] at b0
    rw [← hvo] at b1 HA2 HB2
    clear hp hvp hmp hsh hvo hlf hz HAN1 HAN2 HAN3 HA HB HD HK
    rcases hz' with n1 | ⟨n1,n2⟩
    ·have bz:(sh == z)=false:=beq_eq_false_iff_ne.2 n1
     cases a <;> cases b
     all_goals
      go_wp2
      go_roundw
      case rel=>exact ⟨k+1,_,_,_,by omega,rfl,rfl,rfl,by go_num,HA2,HB2,HD2,HS2.out _⟩
      case measure=>simp [intOf];omega
    ·have bz:(sh == z)=true:=by simp [n1]
     have bo:(vo == 0)=false:=beq_eq_false_iff_ne.2 n2
     have bo2:(vo != 0)=true:=by unfold bne;rw [bo];rfl
     have HA3:=toHid (show (a && true)=!((x.parts.take (k+1)).any fun p=>isZ (voteP z v p)) by rw [← bo2];exact HA2.out)
     clear HA2
     cases a <;> cases b
     all_goals
      go_wp2
      go_roundw
      case rel=>exact ⟨k+1,_,_,_,by omega,rfl,rfl,rfl,by go_num,HA3,HB2,HD2,HS2.out _⟩
      case measure=>simp [intOf];omega
  ·obtain rfl:k=m:=by omega
   have hall:upTo (voteP z v) x.parts k=x.parts.map (voteP z v):=upTo_all _ (by rw [HX.out.2.1];exact Nat.le_refl _)
   have htk:x.parts.take k=x.parts:=List.take_of_length_le (by rw [HX.out.2.1];exact Nat.le_refl _)
   have HKF:Hid (KAt w wr rp i g n c pb k pc rv ov ov ps (R.setAt i { x with parts:=x.parts.map (voteP z v) }) { x with parts:=x.parts.map (voteP z v) }):=HK.out.cast (by rw [hall]) (by rw [hall])
   have hA:=HA.out
   have hB:=HB.out
   have hD:=HD.out
   rw [htk] at hA hB hD
   have HA3:=toHid (show a=!((x.parts.map (voteP z v)).any isZ) by rw [hA,List.any_map];rfl)
   have HB3:=toHid (show b=(x.parts.map (voteP z v)).any isY by rw [hB,List.any_map];rfl)
   have HD3:=toHid hD
   clear HC hall htk hA hB hD HA HB HD HK
   cases d
   ·have HF:=toHid (show ∃ S',RkN wr rp S' (R.voted i x z v t)∧KFr (kb rp (.slice (some ⟨g,0,none⟩) n c) rv ov ps) S' w wr from by
     obtain ⟨ps',hin',hp',hkf,hl'⟩:=HKF.out.inn
     refine ⟨_,⟨_,_,_,_,?_,rfl⟩,hkf⟩
     have e:R.voted i x z v t=R.setAt i { x with parts:=x.parts.map (voteP z v) }:=by
      unfold RCo.voted
      rw [← HD3.out]
      simp only [if_true]
      rw [voteP_none HD3.out.symm]
      exact (setAt_same HX.out.2.2.1).symm
     rw [e]
     exact hin')
    go_wp2
    (try simp only [Exit.inBlock,Exit.then])
    refine bodyPost_ret (results_none rfl _ _ _) rfl ?_
    exact ⟨rfl,HF.out⟩
   ·by_cases h3:v=3
    ·have b3:((v:Int) == 3)=true:=by simp [h3]
     have i3:(v:Int)=3:=by omega
     obtain ⟨ps',hin',hp',hkf,hl'⟩:=HKF.out.inn
     have hud:=kundo_any rp i _ rv ov ps' _ wr hin' _ (hin'.back hp') (by omega) (by simp;have:=HX.out.2.1;omega) (by have:=HOL.out;show R.out.length≤_;omega) (by have:=HOL.out;show R.res.length≤_;omega)
     have HKF2:=toHid hkf
     clear hin' hp' hkf
     go_wp2_with fail
     refine hud.mono ?_
     clear hud
     rintro e w5 ⟨rfl,S5,h5,k5⟩
     have HF:=toHid (show ∃ S',RkN w5 rp S' (R.voted i x z v t)∧KFr (kb rp (.slice (some ⟨g,0,none⟩) n c) rv ov ps) S' w w5 from by
      refine ⟨S5,?_,HKF2.out.trans k5⟩
      have e:R.voted i x z v t=(R.setAt i { x with parts:=x.parts.map (voteP z v) }).undone i { x with parts:=x.parts.map (voteP z v) }:=by
       unfold RCo.voted
       rw [← HD3.out]
       simp only [Bool.true_eq_false,if_false]
       rw [if_pos h3]
      rw [e]
      exact h5)
     clear h5 k5
     go_wp2
     (try simp only [Exit.inBlock,Exit.then])
     refine bodyPost_ret (results_none rfl _ _ _) rfl ?_
     exact ⟨rfl,HF.out⟩
    ·have i3:¬ (v:Int)=3:=by omega
     have b3:((v:Int) == 3)=false:=beq_eq_false_iff_ne.2 i3
     cases a
     ·have HF:=toHid (show ∃ S',RkN wr rp S' (R.voted i x z v t)∧KFr (kb rp (.slice (some ⟨g,0,none⟩) n c) rv ov ps) S' w wr from by
       obtain ⟨ps',hin',hp',hkf,hl'⟩:=HKF.out.inn
       refine ⟨_,⟨_,_,_,_,?_,rfl⟩,hkf⟩
       have e0:(x.parts.map (voteP z v)).any isZ=true:=by have:=HA3.out;simpa using this
       have e:R.voted i x z v t=R.setAt i { x with parts:=x.parts.map (voteP z v) }:=by
        unfold RCo.voted
        rw [← HD3.out]
        simp only [Bool.true_eq_false,if_false]
        rw [if_neg h3,e0,if_pos rfl]
       rw [e]
       exact hin')
      go_wp2
      (try simp only [Exit.inBlock,Exit.then])
      refine bodyPost_ret (results_none rfl _ _ _) rfl ?_
      exact ⟨rfl,HF.out⟩
     ·obtain ⟨ps',hin',hp',hkf,hl'⟩:=HKF.out.inn
      have hrb:=(Array.getElem?_eq_some_iff.1 hin'.blk).1
      have hne:=hin'.ne
      obtain ⟨N,hN⟩:∃ N,N=R.res.length:=⟨_,rfl⟩
      have hNb:N≤1048600:=by have:=HOL.out;omega
      have HL:=toHid (show rp<wr.heap.size∧rv.ownBlock≠some rp from ⟨hrb,hne.2.1⟩)
      have HA:=toHid (show RkIn wr rp (.slice (some ⟨g,0,none⟩) n c) rv ov ps' (R.setAt i { x with parts:=x.parts.map (voteP z v) })∧wr.ownsRow B0 216 2 rv N (resV R.res)∧(∀ (W:World) (v:Value) (xs:List Value),W.ownsRow B0 216 2 v (N+1) xs→W.ownsRow B0 216 2 v (R.res.length+1) xs) from ⟨hin',by rw [hN];exact hin'.res,fun W v xs hh=>by rw [← hN];exact hh⟩)
      have o3:=blk_cell hin'.blk 2
      simp at o3
      have HKF2:=toHid (show KFr (kb rp (.slice (some ⟨g,0,none⟩) n c) rv ov ps) (kb rp (.slice (some ⟨g,0,none⟩) n c) rv ov ps') w wr∧ps'[i]?=some ({ x with parts:=x.parts.map (voteP z v) },.slice (some ⟨pb,0,none⟩) k pc)∧ps'.length=n from ⟨hkf,hp',hl'⟩)
      clear hin' hp' hkf hl' hrb hne hN
      go_upto_region 19 with (at_builtin;refine wpList_app rfl _ _ 138 rfl B0 216 r0 _ 2 16 Tryz.underlying138 hrn rz0 rz1 rz2 rfl (by decide) rv N (resV R.res) rfl (HA.out.2.1.alloc _) 1 [.int .u64 (t:Int),.int .i64 5] (.inl ⟨⟨wr.heap.size,0,none⟩,1,rfl,cells_new _ #[.int .u64 (t:Int),.int .i64 5] _⟩) rfl (by intro u hu;simp at hu;rcases hu with rfl | rfl <;> rfl) (by unfold maxLen;omega) (by omega) (by have:=HA.out.1.low;simp;omega) ?_;intro v2 w2 ho2 hg2 ha2;obtain ⟨o2,m2,k2,rfl⟩:=own_sl ho2;have hfa:Fr [] wr (wr.alloc (.cells #[.int .u64 (t:Int),.int .i64 5] 216)):=(Fr.refl [] wr).alloc _;have fro:Fr rv.ownBlock.toList wr w2:=(hfa.mono (by simp)).trans (Fr.of_grown hg2);have hb2:=(fro.block rp HL.out.1 (by simp;exact HL.out.2)).trans HA.out.1.blk;have t2:=blk_cell hb2 2;have tf:=blk_free hb2 2;have HXR:=toHid (HA.out.1.addRes hfa hg2 (t,5) (HA.out.2.2 _ _ _ ho2) (by simpa using ha2));simp at t2;clear ho2 hg2 ha2 hfa fro hb2)
      obtain ⟨W2,hW2⟩:∃ W2,W2=w2.setCell ⟨rp,2,none⟩ (.slice o2 m2 k2):=⟨_,rfl⟩
      rw [← hW2] at HXR ⊢
      obtain ⟨R2,hR2⟩:∃ R2,R2={ R.setAt i { x with parts:=x.parts.map (voteP z v) } with res:=(R.setAt i { x with parts:=x.parts.map (voteP z v) }).res++[(t,5)] }:=⟨_,rfl⟩
      have HXR2:=toHid (show RkIn W2 rp (.slice (some ⟨g,0,none⟩) n c) (.slice o2 m2 k2) ov ps' R2∧KFr (kb rp (.slice (some ⟨g,0,none⟩) n c) rv ov ps) (kb rp (.slice (some ⟨g,0,none⟩) n c) (.slice o2 m2 k2) ov ps') w W2 from ⟨by rw [hR2];exact HXR.out.1,HKF2.out.1.trans HXR.out.2.1⟩)
      have HR2:=toHid hR2
      clear hW2 hR2 HXR t2 tf HA HL o3 hNb
      cases b
      ·have hdr:=kdrop_any rp i _ (.slice o2 m2 k2) ov ps' _ W2 HXR2.out.1 (by have:=HKF2.out.2.2;omega) (by have:=HKF2.out.2.2;omega)
       go_wp2_with fail
       refine hdr.mono ?_
       clear hdr
       rintro e w5 ⟨rfl,⟨xv',hin5,hnew⟩,hf5⟩
       have HF:=toHid (show ∃ S',RkN w5 rp S' (R.voted i x z v t)∧KFr (kb rp (.slice (some ⟨g,0,none⟩) n c) rv ov ps) S' w w5 from by
        refine ⟨_,⟨_,_,_,_,?_,rfl⟩,HXR2.out.2.trans (kdrop_fr (i:=i) hnew hf5)⟩
        have e:R.voted i x z v t={ R2 with deals:=R2.deals.take i++R2.deals.drop (i+1) }:=by
         unfold RCo.voted
         rw [← HD3.out]
         simp only [Bool.true_eq_false,if_false]
         have e0:(x.parts.map (voteP z v)).any isZ=false:=by have:=HA3.out;simpa using this
         rw [if_neg h3,e0,← HB3.out,HR2.out]
         unfold RCo.setAt
         simp only [Bool.false_eq_true,if_false,if_true]
         rw [set_drop]
        rw [e]
        exact hin5)
       clear hin5 hnew hf5
       go_wp2
       (try simp only [Exit.inBlock,Exit.then])
       refine bodyPost_ret (results_none rfl _ _ _) rfl ?_
       exact ⟨rfl,HF.out⟩
      ·have hi2:=HXR2.out.1
       obtain ⟨h6in,h6k⟩:=hi2.setF (j:=1) (x':=⟨x.id,6,x.age,x.parts.map (voteP z v)⟩) (u:=.int .i64 6) (by rw [HKF2.out.2.2]) HKF2.out.2.1 (by decide) rfl rfl
       have d0:=blk_cell hi2.blk 0
       simp at d0
       obtain ⟨gcc,hgc⟩:=own_cells hi2.dls (g:=g) rfl
       have gf:=blk_free hgc (i*5+1)
       obtain ⟨ao9,c9,e9,H9⟩:=hi2.slice
       obtain ⟨g9,e99,y0,y1,y2,y3,y4⟩:=H9 i _ HKF2.out.2.1
       have eg:g=g9:=by
        rw [e99] at e9
        simp only [Value.slice.injEq,Option.some.injEq,Addr.mk.injEq,and_true] at e9
        exact e9.1
       subst eg
       obtain ⟨W3,hW3⟩:∃ W3,W3=W2.setCell ⟨g,i*5+1,none⟩ (.int .i64 6):=⟨_,rfl⟩
       rw [← hW3] at h6in h6k
       obtain ⟨R3,hR3⟩:∃ R3,R3={ R2 with deals:=R2.deals.set i ⟨x.id,6,x.age,x.parts.map (voteP z v)⟩ }:=⟨_,rfl⟩
       rw [← hR3] at h6in
       obtain ⟨Q,hQ⟩:∃ Q,Q=x.parts.map (voteP z v):=⟨_,rfl⟩
       have hQl:Q.length=k:=by rw [hQ,List.length_map];exact HX.out.2.1
       have HK3:Hid (KAt W3 W3 rp i g n c pb k pc (.slice o2 m2 k2) ov ov (ps'.set i (⟨x.id,6,x.age,Q⟩,.slice (some ⟨pb,0,none⟩) k pc)) R3 ⟨x.id,6,x.age,Q⟩):=⟨⟨_,by rw [hQ];exact h6in,by rw [List.getElem?_set_self (List.getElem?_eq_some_iff.1 HKF2.out.2.1).1],⟨Fr.refl _ _,fun _ hk _=>hk⟩,by rw [List.length_set];exact HKF2.out.2.2⟩,hQl⟩
       have HKB:=toHid (show KFr (kb rp (.slice (some ⟨g,0,none⟩) n c) rv ov ps) (kb rp (.slice (some ⟨g,0,none⟩) n c) (.slice o2 m2 k2) ov (ps'.set i (⟨x.id,6,x.age,Q⟩,.slice (some ⟨pb,0,none⟩) k pc))) w W3 from by rw [hQ];exact HXR2.out.2.trans h6k)
       have HFIN:=toHid (show R.voted i x z v t={ R3 with deals:=R3.deals.set i ⟨x.id,6,x.age,Q.map leftP⟩,out:=R.out++toPs isY t 5 Q } by
        unfold RCo.voted
        rw [← HD3.out]
        simp only [Bool.true_eq_false,if_false]
        have e0:(x.parts.map (voteP z v)).any isZ=false:=by have:=HA3.out;simpa using this
        rw [if_neg h3,e0,← HB3.out,hR3,HR2.out,hQ]
        unfold RCo.setAt
        simp)
       have HRO:Hid (R3.out=R.out):=by rw [hR3,HR2.out];rfl
       have HSA:Hid (R3.deals[i]?=some ⟨x.id,6,x.age,Q⟩):=by
        obtain ⟨psx,hx1,hx2,_⟩:=HK3.out.inn
        exact hx1.back hx2
       have HQL:=toHid hQl
       clear h6in h6k hi2 hgc H9 e9 hQ hR3 hQl y0 y2 y3 y4 HXR2 HKF2 HR2 HKF HA3 HB3 HD3
       go_upto_region 23 with fail
       rw [← hW3]
       clear hW3 d0 gf y1
       generalize ps'.set i (⟨x.id,6,x.age,Q⟩,.slice (some ⟨pb,0,none⟩) k pc)=ps2 at HK3 HKB
       obtain ⟨X,hX⟩:∃ X:Nat,X=x.id:=⟨_,rfl⟩
       obtain ⟨G,hG⟩:∃ G:Nat,G=x.age:=⟨_,rfl⟩
       rw [← hX,← hG] at HK3 HFIN HSA
       clear hX hG
       have HKL:Hid (KAt W3 W3 rp i g n c pb k pc (.slice o2 m2 k2) ov ov ps2 { R3 with deals:=R3.deals.set i ⟨X,6,G,upTo leftP Q 0⟩,out:=R.out++toPs isY t 5 (Q.take 0) } ⟨X,6,G,upTo leftP Q 0⟩):=HK3.out.cast (by rw [upTo_zero];rw [set_same HSA.out];simp [toPs,← HRO.out]) (by rw [upTo_zero])
       clear HK3
       go_loopw [14] (fun j wr=>∃ (q:Nat) (ov':Value),q≤k∧j=.int .i64 q∧Hid (KAt W3 wr rp i g n c pb k pc (.slice o2 m2 k2) ov ov' ps2 { R3 with deals:=R3.deals.set i ⟨X,6,G,upTo leftP Q q⟩,out:=R.out++toPs isY t 5 (Q.take q) } ⟨X,6,G,upTo leftP Q q⟩)) (fun j _=>k - (intOf j).toNat)
       case atStart=>exact ⟨0,ov,Nat.zero_le _,rfl,HKL⟩
       case round =>
        obtain ⟨q,ov1,hq,rfl,HK⟩:=hrel
        obtain ⟨a0,a1,a2,a3,a4,hin,HC⟩:=HK.out.cells
        clear a2 a3
        by_cases hlt:q<k
        ·obtain ⟨p,hp⟩:∃ p,Q[q]?=some p:=⟨_,List.getElem?_eq_getElem (by rw [HQL.out];exact hlt)⟩
         obtain ⟨b0,b1,b2⟩:=HC q p (upTo_at _ hp)
         obtain ⟨f0,_,_⟩:=HK.out.free
         have g2:=f0 (q*3+2)
         have nes:=HK.out.ne
         have ne1:¬ pb=rp:=nes.1
         have ne2:¬ pb=g:=nes.2.1
         have k0:(0:Int)≤(q:Int):=by omega
         have k1:(q:Int)<(k:Int):=by omega
         have HNE:=toHid nes
         clear HC f0 nes
         obtain ⟨vo,hvo⟩:∃ vo,vo=p.vote:=⟨_,rfl⟩
         obtain ⟨sh,hsh⟩:∃ sh,sh=p.shard:=⟨_,rfl⟩
         rw [← hvo] at b1
         rw [← hsh] at b0
         by_cases h2:vo=2
         ·have HS2:Hid (KAt W3 (wr.setCell ⟨pb,q*3+2,none⟩ (.bool true)) rp i g n c pb k pc (.slice o2 m2 k2) ov ov1 ps2 { R3 with deals:=R3.deals.set i ⟨X,6,G,upTo leftP Q (q+1)⟩,out:=R.out++toPs isY t 5 (Q.take q) } ⟨X,6,G,upTo leftP Q (q+1)⟩):=by
           have hlp:leftP p={ p with left:=true }:=by unfold leftP;rw [if_pos (by omega)]
           have h1:=HK.out.setK (kx:=q) (j:=2) (l:=p) (l':=leftP p) (u:=.bool true) (upTo_at _ hp) (by decide) (by rw [hlp];rfl)
           exact h1.cast (by rw [upTo_next _ hp];simp [RDeal.pt]) (by rw [upTo_next _ hp])
          have HSH:Hid ((wr.setCell ⟨pb,q*3+2,none⟩ (.bool true)).cell? ⟨pb,q*3,none⟩=some (.int .i64 (sh:Int))):=by
           have h1:=(HS2.out.cells.2.2.2.2.2.2 q (leftP p) (by rw [upTo_next _ hp];exact List.getElem?_set_self (by rw [upTo_len];exact (List.getElem?_eq_some_iff.1 hp).1))).1
           rw [leftP_shard,← hsh] at h1
           exact h1
          have HTP:=toHid (show toPs isY t 5 (Q.take (q+1))=toPs isY t 5 (Q.take q)++[(t,sh,5)] by
           unfold toPs
           rw [List.take_add_one,hp]
           simp [isY,← hvo,h2,hsh])
          clear hp hvo hsh
          subst h2
          obtain ⟨W4,hW4⟩:∃ W4,W4=wr.setCell ⟨pb,q*3+2,none⟩ (.bool true):=⟨_,rfl⟩
          rw [← hW4] at HS2 HSH
          obtain ⟨ps5,hin5,hp5,hkf5,hl5⟩:=HS2.out.inn
          have hrb:=(Array.getElem?_eq_some_iff.1 hin5.blk).1
          have nes:=HS2.out.ne
          have hcl:=HS2.out.cells
          have hne:=hin5.ne
          obtain ⟨OL,hOL⟩:∃ OL,OL=R.out++toPs isY t 5 (Q.take q):=⟨_,rfl⟩
          obtain ⟨N,hN⟩:∃ N,N=OL.length:=⟨_,rfl⟩
          have hNb:N≤1048600:=by
           have h1:=toPs_len isY t 5 (Q.take q)
           have h2:=HOL.out
           rw [List.length_take,HQL.out] at h1
           rw [hN,hOL,List.length_append]
           omega
          have hpr5:=hin5.prt _ (List.mem_of_getElem? hp5)
          have HL:=toHid (show rp<W4.heap.size∧g<W4.heap.size∧pb<W4.heap.size∧ov1.ownBlock≠some rp∧ov1.ownBlock≠some g∧ov1.ownBlock≠some pb∧g≠rp∧pb≠rp from ⟨hrb,nes.2.2.2.2.1,nes.2.2.2.1,hne.2.2.1,fun e=>own_apart hin5.out hin5.dls (by decide) e rfl,fun e=>own_apart hin5.out hpr5 (by decide) e rfl,nes.2.2.1,nes.1⟩)
          have HA:=toHid (show RkIn W4 rp (.slice (some ⟨g,0,none⟩) n c) (.slice o2 m2 k2) ov1 ps5 { R3 with deals:=R3.deals.set i ⟨X,6,G,upTo leftP Q (q+1)⟩,out:=OL }∧W4.ownsRow B0 212 3 ov1 N (dueV OL)∧(∀ (W:World) (v:Value) (xs:List Value),W.ownsRow B0 212 3 v (N+1) xs→W.ownsRow B0 212 3 v (OL.length+1) xs) from ⟨by rw [hOL];exact hin5,by rw [hN,hOL];exact hin5.out,fun W v xs hh=>by rw [← hN];exact hh⟩)
          have HSF:=toHid (show ∀ W':World,W'.cell? ⟨rp,0,none⟩=some (.slice (some ⟨g,0,none⟩) n c)→W'.heap[g]?=W4.heap[g]?→W'.heap[pb]?=W4.heap[pb]?→W'.cell? ⟨rp,0,none⟩=some (.slice (some ⟨g,0,none⟩) n c)∧W'.cell? ⟨g,i*5+3,none⟩=some (.slice (some ⟨pb,0,none⟩) k pc)∧W'.cell? ⟨pb,q*3,none⟩=some (.int .i64 (sh:Int)) from fun W' h0 h1 h2=>⟨h0,(World.cell?_of_block (a:=⟨g,i*5+3,none⟩) h1).trans hcl.2.2.2.2.1,(World.cell?_of_block (a:=⟨pb,q*3,none⟩) h2).trans HSH.out⟩)
          have HCO:Hid (W4.cell? ⟨rp,0,none⟩=some (.slice (some ⟨g,0,none⟩) n c)):=hcl.1
          have al0:∀ o,(W4.drew.alloc o).heap[g]?=W4.heap[g]?:=fun o=>Below.heap_alloc W4.drew o g nes.2.2.2.2.1
          have al1:∀ o,(W4.drew.alloc o).heap[pb]?=W4.heap[pb]?:=fun o=>Below.heap_alloc W4.drew o pb nes.2.2.2.1
          have al2:∀ o,(W4.drew.alloc o).cell? ⟨rp,0,none⟩=some (.slice (some ⟨g,0,none⟩) n c):=fun o=>(World.cell?_alloc_lt _ _ _ hrb).trans hcl.1
          have al3:∀ o,(W4.drew.alloc o).cell? ⟨rp,3,none⟩=some ov1:=fun o=>(World.cell?_alloc_lt _ _ _ hrb).trans hcl.2.1
          have al4:∀ o,(W4.alloc o).cell? ⟨rp,3,none⟩=some ov1:=fun o=>(World.cell?_alloc_lt _ _ _ hrb).trans hcl.2.1
          have o3:=hcl.2.1
          have HZ:=toHid (show ∀ W' ov',RkIn W' rp (.slice (some ⟨g,0,none⟩) n c) (.slice o2 m2 k2) ov' ps5 { R3 with deals:=R3.deals.set i ⟨X,6,G,upTo leftP Q (q+1)⟩,out:=OL++[(t,sh,5)] }→KFr (kb rp (.slice (some ⟨g,0,none⟩) n c) (.slice o2 m2 k2) ov1 ps5) (kb rp (.slice (some ⟨g,0,none⟩) n c) (.slice o2 m2 k2) ov' ps5) W4 W'→KAt W3 W' rp i g n c pb k pc (.slice o2 m2 k2) ov ov' ps2 { R3 with deals:=R3.deals.set i ⟨X,6,G,upTo leftP Q (q+1)⟩,out:=R.out++toPs isY t 5 (Q.take (q+1)) } ⟨X,6,G,upTo leftP Q (q+1)⟩ from fun W' ov' h1 h2=>⟨⟨ps5,by rw [HTP.out,← List.append_assoc,← hOL];exact h1,hp5,hkf5.trans h2,hl5⟩,HS2.out.len⟩)
          clear hin5 hp5 hkf5 hl5 hrb nes hcl hne hOL hN hpr5 HS2
          go_upto_region 27 with fail
          rw [← hW4]
          clear hW4 a0 a1 a4 b0 b1 b2 g2 HK ne1 ne2
          refine wp_region_held_drew (S:=(fun w'=>w'.cell? ⟨rp,0,none⟩=some (.slice (some ⟨g,0,none⟩) n c)∧w'.cell? ⟨g,i*5+3,none⟩=some (.slice (some ⟨pb,0,none⟩) k pc)∧w'.cell? ⟨pb,q*3,none⟩=some (.int .i64 (sh:Int)))) (by kernel_rfl) (HSF.out _ HCO.out rfl rfl) (fun hHeld=>?_)
          refine wpAnyH_take (i:=0) (oi:=⟨some 185,.move (.tmp 0),78,"coord.go:188",#[],none⟩) (v:=.pointer (some ⟨rp,0,none⟩)) rfl (by kernel_rfl) (by kernel_rfl) (by kernel_rfl) (fun _ _ _ h=>h) (Or.inl ⟨by rfl,?_⟩) (by assumption) ?_
          ·intro w hSw;(try dsimp only at hSw);go_simp
          (try simp only [Act.put,List.setIfInBounds_toArray,List.set_cons_zero,List.set_cons_succ])
          refine wpAnyH_take (i:=1) (oi:=⟨some 186,.move (.tmp 0),78,"coord.go:188",#[],none⟩) (v:=.pointer (some ⟨rp,0,none⟩)) rfl (by kernel_rfl) (by kernel_rfl) (by kernel_rfl) (fun _ _ _ h=>h) (Or.inl ⟨by rfl,?_⟩) (by assumption) ?_
          ·intro w hSw;(try dsimp only at hSw);go_simp
          (try simp only [Act.put,List.setIfInBounds_toArray,List.set_cons_zero,List.set_cons_succ])
          refine wpAnyH_take (i:=2) (oi:=⟨some 187,.nilCheck (.tmp 186),0,"coord.go:188",#[⟨1,.data⟩],none⟩) (v:=.pointer (some ⟨rp,0,none⟩)) rfl (by kernel_rfl) (by kernel_rfl) (by kernel_rfl) (fun _ _ _ h=>h) (Or.inl ⟨by rfl,?_⟩) (by assumption) ?_
          ·intro w hSw;(try dsimp only at hSw);go_simp
          (try simp only [Act.put,List.setIfInBounds_toArray,List.set_cons_zero,List.set_cons_succ])
          refine wpAnyH_take (i:=3) (oi:=⟨some 188,.fieldAddr 141 (.tmp 187) 3,0,"coord.go:188",#[⟨2,.data⟩],none⟩) (v:=.pointer (some ⟨rp,3,none⟩)) rfl (by kernel_rfl) (by kernel_rfl) (by kernel_rfl) (fun _ _ _ h=>h) (Or.inl ⟨by rfl,?_⟩) (by assumption) ?_
          ·intro w hSw;(try dsimp only at hSw);go_simp
          (try simp only [Act.put,List.setIfInBounds_toArray,List.set_cons_zero,List.set_cons_succ])
          refine wpAnyH_take (i:=5) (oi:=⟨some 190,.move (.tmp 1),34,"coord.go:188",#[],none⟩) (v:=.int .u64 (t:Int)) rfl (by kernel_rfl) (by kernel_rfl) (by kernel_rfl) (fun _ _ _ h=>h) (Or.inl ⟨by rfl,?_⟩) (by assumption) ?_
          ·intro w hSw;(try dsimp only at hSw);go_simp
          (try simp only [Act.put,List.setIfInBounds_toArray,List.set_cons_zero,List.set_cons_succ])
          refine wpAnyH_take (i:=6) (oi:=⟨some 191,.move (.tmp 0),78,"coord.go:188",#[],none⟩) (v:=.pointer (some ⟨rp,0,none⟩)) rfl (by kernel_rfl) (by kernel_rfl) (by kernel_rfl) (fun _ _ _ h=>h) (Or.inl ⟨by rfl,?_⟩) (by assumption) ?_
          ·intro w hSw;(try dsimp only at hSw);go_simp
          (try simp only [Act.put,List.setIfInBounds_toArray,List.set_cons_zero,List.set_cons_succ])
          refine wpAnyH_take (i:=7) (oi:=⟨some 192,.nilCheck (.tmp 191),0,"coord.go:188",#[⟨6,.data⟩],none⟩) (v:=.pointer (some ⟨rp,0,none⟩)) rfl (by kernel_rfl) (by kernel_rfl) (by kernel_rfl) (fun _ _ _ h=>h) (Or.inl ⟨by rfl,?_⟩) (by assumption) ?_
          ·intro w hSw;(try dsimp only at hSw);go_simp
          (try simp only [Act.put,List.setIfInBounds_toArray,List.set_cons_zero,List.set_cons_succ])
          refine wpAnyH_take (i:=8) (oi:=⟨some 193,.fieldAddr 141 (.tmp 192) 0,0,"coord.go:188",#[⟨7,.data⟩],none⟩) (v:=.pointer (some ⟨rp,0,none⟩)) rfl (by kernel_rfl) (by kernel_rfl) (by kernel_rfl) (fun _ _ _ h=>h) (Or.inl ⟨by rfl,?_⟩) (by assumption) ?_
          ·intro w hSw;(try dsimp only at hSw);go_simp
          (try simp only [Act.put,List.setIfInBounds_toArray,List.set_cons_zero,List.set_cons_succ])
          refine wpAnyH_take (i:=9) (oi:=⟨some 194,.load 137 (.tmp 193),137,"coord.go:188",#[⟨8,.data⟩],none⟩) (v:=.slice (some ⟨g,0,none⟩) n c) rfl (by kernel_rfl) (by kernel_rfl) (by kernel_rfl) (fun _ _ _ h=>h) (Or.inl ⟨by rfl,?_⟩) (by assumption) ?_
          ·intro w hSw;(try dsimp only at hSw);go_simp
          (try simp only [Act.put,List.setIfInBounds_toArray,List.set_cons_zero,List.set_cons_succ])
          refine wpAnyH_take (i:=10) (oi:=⟨some 195,.move (.tmp 8),3,"coord.go:188",#[],none⟩) (v:=.int .i64 (i:Int)) rfl (by kernel_rfl) (by kernel_rfl) (by kernel_rfl) (fun _ _ _ h=>h) (Or.inl ⟨by rfl,?_⟩) (by assumption) ?_
          ·intro w hSw;(try dsimp only at hSw);go_simp
          (try simp only [Act.put,List.setIfInBounds_toArray,List.set_cons_zero,List.set_cons_succ])
          refine wpAnyH_take (i:=11) (oi:=⟨some 196,.indexAddr 137 (.tmp 194) (.tmp 195),0,"coord.go:188",#[⟨9,.data⟩,⟨10,.data⟩],none⟩) (v:=.pointer (some ⟨g,i*5,none⟩)) rfl (by kernel_rfl) (by kernel_rfl) (by kernel_rfl) (fun _ _ _ h=>h) (Or.inl ⟨by rfl,?_⟩) (by assumption) ?_
          ·intro w hSw;(try dsimp only at hSw);go_simp
          (try simp only [Act.put,List.setIfInBounds_toArray,List.set_cons_zero,List.set_cons_succ])
          refine wpAnyH_take (i:=12) (oi:=⟨some 197,.fieldAddr 144 (.tmp 196) 3,0,"coord.go:188",#[⟨11,.data⟩],none⟩) (v:=.pointer (some ⟨g,i*5+3,none⟩)) rfl (by kernel_rfl) (by kernel_rfl) (by kernel_rfl) (fun _ _ _ h=>h) (Or.inl ⟨by rfl,?_⟩) (by assumption) ?_
          ·intro w hSw;(try dsimp only at hSw);go_simp
          (try simp only [Act.put,List.setIfInBounds_toArray,List.set_cons_zero,List.set_cons_succ])
          refine wpAnyH_take (i:=13) (oi:=⟨some 198,.load 142 (.tmp 197),142,"coord.go:188",#[⟨12,.data⟩],none⟩) (v:=.slice (some ⟨pb,0,none⟩) k pc) rfl (by kernel_rfl) (by kernel_rfl) (by kernel_rfl) (fun _ _ _ h=>h) (Or.inl ⟨by rfl,?_⟩) (by assumption) ?_
          ·intro w hSw;(try dsimp only at hSw);go_simp
          (try simp only [Act.put,List.setIfInBounds_toArray,List.set_cons_zero,List.set_cons_succ])
          refine wpAnyH_take (i:=14) (oi:=⟨some 199,.move (.tmp 14),3,"coord.go:188",#[],none⟩) (v:=.int .i64 (q:Int)) rfl (by kernel_rfl) (by kernel_rfl) (by kernel_rfl) (fun _ _ _ h=>h) (Or.inl ⟨by rfl,?_⟩) (by assumption) ?_
          ·intro w hSw;(try dsimp only at hSw);go_simp
          (try simp only [Act.put,List.setIfInBounds_toArray,List.set_cons_zero,List.set_cons_succ])
          refine wpAnyH_take (i:=15) (oi:=⟨some 200,.indexAddr 142 (.tmp 198) (.tmp 199),0,"coord.go:188",#[⟨13,.data⟩,⟨14,.data⟩],none⟩) (v:=.pointer (some ⟨pb,q*3,none⟩)) rfl (by kernel_rfl) (by kernel_rfl) (by kernel_rfl) (fun _ _ _ h=>h) (Or.inl ⟨by rfl,?_⟩) (by assumption) ?_
          ·intro w hSw;(try dsimp only at hSw);go_simp
          (try simp only [Act.put,List.setIfInBounds_toArray,List.set_cons_zero,List.set_cons_succ])
          refine wpAnyH_take (i:=16) (oi:=⟨some 201,.fieldAddr 204 (.tmp 200) 0,0,"coord.go:188",#[⟨15,.data⟩],none⟩) (v:=.pointer (some ⟨pb,q*3,none⟩)) rfl (by kernel_rfl) (by kernel_rfl) (by kernel_rfl) (fun _ _ _ h=>h) (Or.inl ⟨by rfl,?_⟩) (by assumption) ?_
          ·intro w hSw;(try dsimp only at hSw);go_simp
          (try simp only [Act.put,List.setIfInBounds_toArray,List.set_cons_zero,List.set_cons_succ])
          refine wpAnyH_take (i:=17) (oi:=⟨some 202,.load 3 (.tmp 201),3,"coord.go:188",#[⟨16,.data⟩],none⟩) (v:=.int .i64 (sh:Int)) rfl (by kernel_rfl) (by kernel_rfl) (by kernel_rfl) (fun _ _ _ h=>h) (Or.inl ⟨by rfl,?_⟩) (by assumption) ?_
          ·intro w hSw;(try dsimp only at hSw);go_simp
          (try simp only [Act.put,List.setIfInBounds_toArray,List.set_cons_zero,List.set_cons_succ])
          refine wpAnyH_take (i:=18) (oi:=⟨some 203,.build 212 #[(0,.tmp 190),(1,.tmp 202),(2,.const (Value.int IntKind.i64 5))],212,"coord.go:188",#[⟨5,.data⟩,⟨17,.data⟩],none⟩) (v:=.agg #[.int .u64 (t:Int),.int .i64 (sh:Int),.int .i64 5]) rfl (by kernel_rfl) (by kernel_rfl) (by kernel_rfl) (fun _ _ _ h=>h) (Or.inl ⟨by rfl,?_⟩) (by assumption) ?_
          ·intro w hSw;(try dsimp only at hSw);go_simp
          (try simp only [Act.put,List.setIfInBounds_toArray,List.set_cons_zero,List.set_cons_succ])
          refine wpAnyH_ready (rs:=[4,19]) (by kernel_rfl) (by simp) ?_
          refine AllReadyH.cons (o:=⟨some 189,.load 139 (.tmp 188),139,"coord.go:188",#[⟨3,.data⟩],none⟩) rfl (fun K hK=>?_) (AllReadyH.cons (o:=⟨some 204,.buildSlice 139 1 #[(0,.tmp 203)],139,"coord.go:188",#[⟨18,.data⟩],none⟩) rfl (fun K hK=>?_) AllReadyH.nil)
          ·go_simp
           refine hK.out _ _ ?_ (fun hHeld=>?_)
           ·exact HSF.out _ HCO.out rfl rfl
           clear hK K
           (try simp only [Act.put,List.setIfInBounds_toArray,List.set_cons_zero,List.set_cons_succ])
           refine wpAnyH_ready (rs:=[19]) (by kernel_rfl) (by simp) ?_
           refine AllReadyH.cons (o:=⟨some 204,.buildSlice 139 1 #[(0,.tmp 203)],139,"coord.go:188",#[⟨18,.data⟩],none⟩) rfl (fun K hK=>?_) AllReadyH.nil
           go_simp
           refine hK.out _ _ ?_ (fun hHeld=>?_)
           ·exact HSF.out _ (al2 _) (al0 _) (al1 _)
           clear hK K
           (try simp only [Act.put,List.setIfInBounds_toArray,List.set_cons_zero,List.set_cons_succ])
           refine wpAnyH_ready (rs:=[20]) (by kernel_rfl) (by simp) ?_
           refine AllReadyH.cons rfl (fun K hK=>?_) AllReadyH.nil
           rw [if_pos (by rfl)]
           refine wp_dueat _ _ rfl B0 ov1 N (dueV OL) t (sh:Int) 5 W4.heap.size rfl (ownsRow_fr HA.out.2.1 ((Fr.refl [] W4).drew.alloc _) (by simp)) rfl (heap_alloc_new _ _) (by omega) (by have:=HA.out.1.low;simp;omega) ?_
           intro v' w1 hown' hgrow hat0
           obtain ⟨av,mv,cv,rfl⟩:=own_sl hown'
           have hfa:Fr [] W4 (W4.drew.alloc (.cells #[.int .u64 (t:Int),.int .i64 (sh:Int),.int .i64 5] 212)):=(Fr.refl [] W4).drew.alloc _
           have fro:Fr ov1.ownBlock.toList W4 w1:=(hfa.mono (by simp)).trans (Fr.of_grown hgrow)
           have hb1:=(fro.block rp HL.out.1 (by simp;exact HL.out.2.2.2.1)).trans HA.out.1.blk
           have g0:=fro.block g HL.out.2.1 (by simp;exact HL.out.2.2.2.2.1)
           have g1:=fro.block pb HL.out.2.2.1 (by simp;exact HL.out.2.2.2.2.2.1)
           have d0:=blk_cell hb1 0
           have d3:=blk_cell hb1 3
           have f3:=blk_free hb1 3
           simp at d3 d0
           have HX:=toHid (HA.out.1.addOut hfa hgrow (t,sh,5) (HA.out.2.2 _ _ _ hown') (by simpa using hat0))
           have HE0:=toHid (fun u=>(Below.heap_setCell w1 ⟨rp,3,none⟩ u g HL.out.2.2.2.2.2.2.1).trans g0)
           have HE1:=toHid (fun u=>(Below.heap_setCell w1 ⟨rp,3,none⟩ u pb HL.out.2.2.2.2.2.2.2).trans g1)
           have HE2:Hid (∀ u,(w1.setCell ⟨rp,3,none⟩ u).cell? ⟨rp,0,none⟩=some (.slice (some ⟨g,0,none⟩) n c)):=fun u=>by have h9:=blk_cell (blk_set hb1 3 u) 0;simpa using h9
           clear hown' hgrow hat0 hfa fro hb1
           refine hK.out _ _ ?_ (fun hHeld=>?_)
           ·exact HSF.out _ d0 g0 g1
           clear hK K
           (try simp only [Act.put,List.setIfInBounds_toArray])
           refine wpAnyH_take (i:=21) (oi:=⟨some 206,.nilCheck (.tmp 185),0,"coord.go:188",#[⟨0,.data⟩,⟨0,.phase⟩,⟨1,.phase⟩,⟨2,.phase⟩,⟨3,.phase⟩,⟨4,.phase⟩,⟨5,.phase⟩,⟨6,.phase⟩,⟨7,.phase⟩,⟨8,.phase⟩,⟨9,.phase⟩,⟨10,.phase⟩,⟨11,.phase⟩,⟨12,.phase⟩,⟨13,.phase⟩,⟨14,.phase⟩,⟨15,.phase⟩,⟨16,.phase⟩,⟨17,.phase⟩,⟨18,.phase⟩,⟨19,.phase⟩,⟨20,.phase⟩],none⟩) (v:=.pointer (some ⟨rp,0,none⟩)) rfl (by kernel_rfl) (by kernel_rfl) (by kernel_rfl) (fun _ _ _ h=>h) (Or.inl ⟨by rfl,?_⟩) (by assumption) ?_
           ·intro w hSw;(try dsimp only at hSw);go_simp
           (try simp only [Act.put])
           refine wpAnyH_take (i:=22) (oi:=⟨some 207,.fieldAddr 141 (.tmp 206) 3,0,"coord.go:188",#[⟨21,.data⟩,⟨0,.phase⟩,⟨1,.phase⟩,⟨2,.phase⟩,⟨3,.phase⟩,⟨4,.phase⟩,⟨5,.phase⟩,⟨6,.phase⟩,⟨7,.phase⟩,⟨8,.phase⟩,⟨9,.phase⟩,⟨10,.phase⟩,⟨11,.phase⟩,⟨12,.phase⟩,⟨13,.phase⟩,⟨14,.phase⟩,⟨15,.phase⟩,⟨16,.phase⟩,⟨17,.phase⟩,⟨18,.phase⟩,⟨19,.phase⟩,⟨20,.phase⟩],none⟩) (v:=.pointer (some ⟨rp,3,none⟩)) rfl (by kernel_rfl) (by kernel_rfl) (by kernel_rfl) (fun _ _ _ h=>h) (Or.inl ⟨by rfl,?_⟩) (by assumption) ?_
           ·intro w hSw;(try dsimp only at hSw);go_simp
           (try simp only [Act.put])
           refine wpAnyH_ready (rs:=[23]) (by kernel_rfl) (by simp) ?_
           refine AllReadyH.cons rfl (fun K hK=>?_) AllReadyH.nil
           go_simp
           refine hK.out _ _ ?_ (fun hHeld=>?_)
           ·exact HSF.out _ (HE2.out _) (HE0.out _) (HE1.out _)
           clear hK K
           (try simp only [Act.put,List.setIfInBounds_toArray,List.set_cons_zero,List.set_cons_succ])
           refine wpAnyH_done (by kernel_rfl) ?_ _
           have HY:=toHid (HZ.out _ _ HX.out.1 HX.out.2.1)
           go_wp2
           go_roundw
           case rel=>exact ⟨q+1,_,by omega,by go_num,HY⟩
           case measure=>simp [intOf];omega
          ·go_simp
           refine hK.out _ _ ?_ (fun hHeld=>?_)
           ·exact HSF.out _ (al2 _) (al0 _) (al1 _)
           clear hK K
           (try simp only [Act.put,List.setIfInBounds_toArray,List.set_cons_zero,List.set_cons_succ])
           refine wpAnyH_ready (rs:=[4]) (by kernel_rfl) (by simp) ?_
           refine AllReadyH.cons (o:=⟨some 189,.load 139 (.tmp 188),139,"coord.go:188",#[⟨3,.data⟩],none⟩) rfl (fun K hK=>?_) AllReadyH.nil
           go_simp
           refine hK.out _ _ ?_ (fun hHeld=>?_)
           ·exact HSF.out _ (al2 _) (al0 _) (al1 _)
           clear hK K
           (try simp only [Act.put,List.setIfInBounds_toArray,List.set_cons_zero,List.set_cons_succ])
           refine wpAnyH_ready (rs:=[20]) (by kernel_rfl) (by simp) ?_
           refine AllReadyH.cons rfl (fun K hK=>?_) AllReadyH.nil
           rw [if_pos (by rfl)]
           refine wp_dueat _ _ rfl B0 ov1 N (dueV OL) t (sh:Int) 5 W4.heap.size rfl (ownsRow_fr HA.out.2.1 ((Fr.refl [] W4).drew.alloc _) (by simp)) rfl (heap_alloc_new _ _) (by omega) (by have:=HA.out.1.low;simp;omega) ?_
           intro v' w1 hown' hgrow hat0
           obtain ⟨av,mv,cv,rfl⟩:=own_sl hown'
           have hfa:Fr [] W4 (W4.drew.alloc (.cells #[.int .u64 (t:Int),.int .i64 (sh:Int),.int .i64 5] 212)):=(Fr.refl [] W4).drew.alloc _
           have fro:Fr ov1.ownBlock.toList W4 w1:=(hfa.mono (by simp)).trans (Fr.of_grown hgrow)
           have hb1:=(fro.block rp HL.out.1 (by simp;exact HL.out.2.2.2.1)).trans HA.out.1.blk
           have g0:=fro.block g HL.out.2.1 (by simp;exact HL.out.2.2.2.2.1)
           have g1:=fro.block pb HL.out.2.2.1 (by simp;exact HL.out.2.2.2.2.2.1)
           have d0:=blk_cell hb1 0
           have d3:=blk_cell hb1 3
           have f3:=blk_free hb1 3
           simp at d3 d0
           have HX:=toHid (HA.out.1.addOut hfa hgrow (t,sh,5) (HA.out.2.2 _ _ _ hown') (by simpa using hat0))
           have HE0:=toHid (fun u=>(Below.heap_setCell w1 ⟨rp,3,none⟩ u g HL.out.2.2.2.2.2.2.1).trans g0)
           have HE1:=toHid (fun u=>(Below.heap_setCell w1 ⟨rp,3,none⟩ u pb HL.out.2.2.2.2.2.2.2).trans g1)
           have HE2:Hid (∀ u,(w1.setCell ⟨rp,3,none⟩ u).cell? ⟨rp,0,none⟩=some (.slice (some ⟨g,0,none⟩) n c)):=fun u=>by have h9:=blk_cell (blk_set hb1 3 u) 0;simpa using h9
           clear hown' hgrow hat0 hfa fro hb1
           refine hK.out _ _ ?_ (fun hHeld=>?_)
           ·exact HSF.out _ d0 g0 g1
           clear hK K
           (try simp only [Act.put,List.setIfInBounds_toArray])
           refine wpAnyH_take (i:=21) (oi:=⟨some 206,.nilCheck (.tmp 185),0,"coord.go:188",#[⟨0,.data⟩,⟨0,.phase⟩,⟨1,.phase⟩,⟨2,.phase⟩,⟨3,.phase⟩,⟨4,.phase⟩,⟨5,.phase⟩,⟨6,.phase⟩,⟨7,.phase⟩,⟨8,.phase⟩,⟨9,.phase⟩,⟨10,.phase⟩,⟨11,.phase⟩,⟨12,.phase⟩,⟨13,.phase⟩,⟨14,.phase⟩,⟨15,.phase⟩,⟨16,.phase⟩,⟨17,.phase⟩,⟨18,.phase⟩,⟨19,.phase⟩,⟨20,.phase⟩],none⟩) (v:=.pointer (some ⟨rp,0,none⟩)) rfl (by kernel_rfl) (by kernel_rfl) (by kernel_rfl) (fun _ _ _ h=>h) (Or.inl ⟨by rfl,?_⟩) (by assumption) ?_
           ·intro w hSw;(try dsimp only at hSw);go_simp
           (try simp only [Act.put])
           refine wpAnyH_take (i:=22) (oi:=⟨some 207,.fieldAddr 141 (.tmp 206) 3,0,"coord.go:188",#[⟨21,.data⟩,⟨0,.phase⟩,⟨1,.phase⟩,⟨2,.phase⟩,⟨3,.phase⟩,⟨4,.phase⟩,⟨5,.phase⟩,⟨6,.phase⟩,⟨7,.phase⟩,⟨8,.phase⟩,⟨9,.phase⟩,⟨10,.phase⟩,⟨11,.phase⟩,⟨12,.phase⟩,⟨13,.phase⟩,⟨14,.phase⟩,⟨15,.phase⟩,⟨16,.phase⟩,⟨17,.phase⟩,⟨18,.phase⟩,⟨19,.phase⟩,⟨20,.phase⟩],none⟩) (v:=.pointer (some ⟨rp,3,none⟩)) rfl (by kernel_rfl) (by kernel_rfl) (by kernel_rfl) (fun _ _ _ h=>h) (Or.inl ⟨by rfl,?_⟩) (by assumption) ?_
           ·intro w hSw;(try dsimp only at hSw);go_simp
           (try simp only [Act.put])
           refine wpAnyH_ready (rs:=[23]) (by kernel_rfl) (by simp) ?_
           refine AllReadyH.cons rfl (fun K hK=>?_) AllReadyH.nil
           go_simp
           refine hK.out _ _ ?_ (fun hHeld=>?_)
           ·exact HSF.out _ (HE2.out _) (HE0.out _) (HE1.out _)
           clear hK K
           (try simp only [Act.put,List.setIfInBounds_toArray,List.set_cons_zero,List.set_cons_succ])
           refine wpAnyH_done (by kernel_rfl) ?_ _
           have HY:=toHid (HZ.out _ _ HX.out.1 HX.out.2.1)
           go_wp2
           go_roundw
           case rel=>exact ⟨q+1,_,by omega,by go_num,HY⟩
           case measure=>simp [intOf];omega
         ·have n2:¬ (vo:Int)=2:=by omega
          have bn2:((vo:Int) == 2)=false:=beq_eq_false_iff_ne.2 n2
          have HS2:Hid (KAt W3 wr rp i g n c pb k pc (.slice o2 m2 k2) ov ov1 ps2 { R3 with deals:=R3.deals.set i ⟨X,6,G,upTo leftP Q (q+1)⟩,out:=R.out++toPs isY t 5 (Q.take (q+1)) } ⟨X,6,G,upTo leftP Q (q+1)⟩):=by
           have hlp:leftP p=p:=by unfold leftP;rw [if_neg (by omega)]
           have e:upTo leftP Q (q+1)=upTo leftP Q q:=by rw [upTo_next _ hp,hlp];exact set_same (upTo_at _ hp)
           have e2:toPs isY t 5 (Q.take (q+1))=toPs isY t 5 (Q.take q):=by
            unfold toPs
            rw [List.take_add_one,hp]
            have:isY p=false:=by unfold isY;simp;omega
            simp [this]
           exact HK.out.cast (by rw [e,e2]) (by rw [e])
          clear hp hvo hsh
          go_wp2
          go_roundw
          case rel=>exact ⟨q+1,ov1,by omega,by go_num,HS2⟩
          case measure=>simp [intOf];omega
        ·obtain rfl:q=k:=by omega
         have hall:upTo leftP Q q=Q.map leftP:=upTo_all _ (by rw [HQL.out];exact Nat.le_refl _)
         have htk:Q.take q=Q:=List.take_of_length_le (by rw [HQL.out];exact Nat.le_refl _)
         have HF:=toHid (show ∃ S',RkN wr rp S' (R.voted i x z v t)∧KFr (kb rp (.slice (some ⟨g,0,none⟩) n c) rv ov ps) S' w wr from by
          obtain ⟨ps5,hin5,hp5,hkf5,_⟩:=HK.out.inn
          refine ⟨_,⟨_,_,_,_,?_,rfl⟩,HKB.out.trans hkf5⟩
          rw [HFIN.out,← hall]
          rw [htk] at hin5
          exact hin5)
         clear HC hall htk
         go_wp2
         go_end0
         exact ⟨rfl,HF.out⟩
end Go.Proofs.YtejiankgafjppaaGreatDoor
