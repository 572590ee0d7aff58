import Derived.Test.YtejiankgafjppaaGreatDoorC30
import Derived.Test.YtejiankgafjppaaGreatDoorC37
namespace Go.Proofs.YtejiankgafjppaaGreatDoor
open Go.RowKit Go.Maps Go.Shelf
open Sc
def upTo {α:Type} (f:α→α) (l:List α) (k:Nat):List α:=(l.take k).map f++l.drop k
theorem upTo_len {α:Type} (f:α→α) (l:List α) (k:Nat):(upTo f l k).length=l.length:=by
 unfold upTo
 rw [List.length_append,List.length_map,List.length_take,List.length_drop]
 omega
theorem upTo_zero {α:Type} (f:α→α) (l:List α):upTo f l 0=l:=by simp [upTo]
theorem upTo_all {α:Type} (f:α→α) {l:List α} {k:Nat} (h:l.length≤k):upTo f l k=l.map f:=by
 unfold upTo
 rw [List.take_of_length_le h,List.drop_eq_nil_of_le h,List.append_nil]
theorem upTo_at {α:Type} (f:α→α) {l:List α} {k:Nat} {x:α} (h:l[k]?=some x):(upTo f l k)[k]?=some x:=by
 unfold upTo
 have hl:=(List.getElem?_eq_some_iff.1 h).1
 have e:((l.take k).map f).length=k:=by rw [List.length_map,List.length_take];omega
 rw [List.getElem?_append_right (by omega),e,List.getElem?_drop]
 simpa using h
theorem upTo_next {α:Type} (f:α→α) {l:List α} {k:Nat} {x:α} (h:l[k]?=some x):upTo f l (k+1)=(upTo f l k).set k (f x):=by
 have hl:=(List.getElem?_eq_some_iff.1 h).1
 refine List.ext_getElem? fun j=>?_
 have e1:∀ m,m≤l.length→((l.take m).map f).length=m:=fun m hm=>by rw [List.length_map,List.length_take];omega
 unfold upTo
 by_cases ej:k=j
 ·subst ej
  rw [List.getElem?_set_self (by rw [List.length_append,e1 k (by omega),List.length_drop];omega),List.getElem?_append_left (by rw [e1 _ (by omega)];omega),List.getElem?_map,List.getElem?_take,if_pos (by omega),h]
  rfl
 ·rw [List.getElem?_set_ne ej]
  by_cases hj:j<k
  ·rw [List.getElem?_append_left (by rw [e1 _ (by omega)];omega),List.getElem?_append_left (by rw [e1 _ (by omega)];omega),List.getElem?_map,List.getElem?_map,List.getElem?_take,List.getElem?_take,if_pos (by omega),if_pos (by omega)]
  ·rw [List.getElem?_append_right (by rw [e1 _ (by omega)];omega),List.getElem?_append_right (by rw [e1 _ (by omega)];omega),e1 _ (by omega),e1 _ (by omega),List.getElem?_drop,List.getElem?_drop]
   congr 1
   omega
theorem any_next {α:Type} (q:α→Bool) {l:List α} {k:Nat} {x:α} (h:l[k]?=some x):(l.take (k+1)).any q=((l.take k).any q || q x):=by
 rw [List.take_add_one,h]
 simp
theorem set_same {α:Type} {l:List α} {k:Nat} {x:α} (h:l[k]?=some x):l.set k x=l:=by
 refine List.ext_getElem? fun j=>?_
 by_cases e:k=j
 ·subst e;rw [List.getElem?_set_self (List.getElem?_eq_some_iff.1 h).1,h]
 ·rw [List.getElem?_set_ne e]
theorem kdrop_fr {w w5:World} {rp i:Nat} {xv xv' rv ov:Value} {ps:List (RDeal × Value)} (hnew:NewV w xv') (hf:Fr [rp] w w5):KFr (kb rp xv rv ov ps) (kb rp xv' rv ov (ps.take i++ps.drop (i+1))) w w5:=by
 refine ⟨hf.mono (fun q _ hq=>mem_kb.2 (.inl (by simpa using hq))),fun q hq hl=>?_⟩
 rw [mem_kb] at hq ⊢
 rcases hq with e | e | e | e | ⟨y,hy,e⟩
 ·exact .inl e
 ·have:=hnew q e;omega
 ·exact .inr (.inr (.inl e))
 ·exact .inr (.inr (.inr (.inl e)))
 ·exact .inr (.inr (.inr (.inr ⟨y,(take_drop_sub ps i).subset hy,e⟩)))
structure KAt [Inhabited Bs] (w wr:World) (rp i g n c pb m pc:Nat) (rv ov ov':Value) (ps:List (RDeal × Value)) (R':RCo) (y:RDeal):Prop where
 inn:∃ ps',RkIn wr rp (.slice (some ⟨g,0,none⟩) n c) rv ov' ps' R'∧ps'[i]?=some (y,.slice (some ⟨pb,0,none⟩) m pc)∧KFr (kb rp (.slice (some ⟨g,0,none⟩) n c) rv ov ps) (kb rp (.slice (some ⟨g,0,none⟩) n c) rv ov' ps') w wr∧ps'.length=n
 len:y.parts.length=m
section
variable [Inhabited Bs] {w wr:World} {rp i g n c pb m pc:Nat} {rv ov ov':Value} {ps:List (RDeal × Value)} {R':RCo} {y:RDeal}
theorem KAt.cells (h:KAt w wr rp i g n c pb m pc rv ov ov' ps R' y):wr.cell? ⟨rp,0,none⟩=some (.slice (some ⟨g,0,none⟩) n c)∧wr.cell? ⟨rp,3,none⟩=some ov'∧wr.cell? ⟨g,i*5,none⟩=some (.int .u64 (y.id:Int))∧wr.cell? ⟨g,i*5+1,none⟩=some (.int .i64 (y.st:Int))∧wr.cell? ⟨g,i*5+3,none⟩=some (.slice (some ⟨pb,0,none⟩) m pc)∧i<n∧∀ k p,y.parts[k]?=some p→wr.cell? ⟨pb,k*3,none⟩=some (.int .i64 (p.shard:Int))∧wr.cell? ⟨pb,k*3+1,none⟩=some (.int .i64 (p.vote:Int))∧wr.cell? ⟨pb,k*3+2,none⟩=some (.bool p.left):=by
 obtain ⟨ps',hin,hp,_,hl⟩:=h.inn
 have c0:=blk_cell hin.blk 0
 have c3:=blk_cell hin.blk 3
 simp at c0 c3
 obtain ⟨ao,c',e,H⟩:=hin.slice
 obtain ⟨g',e2,x0,x1,x2,x3,x4⟩:=H i _ hp
 obtain ⟨po,pc',ep,HP⟩:=part_slice (hin.prt _ (List.mem_of_getElem? hp))
 rw [e2] at e
 obtain ⟨eg,_⟩:g=g'∧True:=by
  simp only [Value.slice.injEq,Option.some.injEq,Addr.mk.injEq,and_true] at e
  exact ⟨e.1,trivial⟩
 subst eg
 refine ⟨c0,c3,x0,x1,x3,by rw [← hl];exact (List.getElem?_eq_some_iff.1 hp).1,fun k p hk=>?_⟩
 obtain ⟨g2,e3,y0,y1,y2⟩:=HP k p hk
 rw [e3] at ep
 simp only [Value.slice.injEq,Option.some.injEq,Addr.mk.injEq,and_true] at ep
 rw [ep.1]
 exact ⟨y0,y1,y2⟩
theorem KAt.setK (h:KAt w wr rp i g n c pb m pc rv ov ov' ps R' y) {kx j:Nat} {l l':RPart} {u:Value} (hk:y.parts[kx]?=some l) (hj:j<3) (hf:partC l'=(partC l).set j u):KAt w (wr.setCell ⟨pb,kx*3+j,none⟩ u) rp i g n c pb m pc rv ov ov' ps { R' with deals:=R'.deals.set i (y.pt (y.parts.set kx l')) } (y.pt (y.parts.set kx l')):=by
 obtain ⟨ps',hin,hp,hkf,hl⟩:=h.inn
 rw [← h.len] at hp
 obtain ⟨h1,h2⟩:=hin.setK hp hk hj hf
 refine ⟨⟨_,h1,?_,hkf.trans h2,by rw [List.length_set];exact hl⟩,by rw [← h.len];simp⟩
 rw [List.getElem?_set_self (List.getElem?_eq_some_iff.1 hp).1,h.len]
theorem KAt.fr {wr':World} (h:KAt w wr rp i g n c pb m pc rv ov ov' ps R' y) (hf:Fr [] wr wr'):KAt w wr' rp i g n c pb m pc rv ov ov' ps R' y:=by
 obtain ⟨ps',hin,hp,hkf,hl⟩:=h.inn
 exact ⟨⟨ps',hin.fr hf,hp,hkf.trans (KFr.of hf),hl⟩,h.len⟩
theorem KAt.cast {R2:RCo} {y2:RDeal} (h:KAt w wr rp i g n c pb m pc rv ov ov' ps R' y) (e1:R'=R2) (e2:y=y2):KAt w wr rp i g n c pb m pc rv ov ov' ps R2 y2:=by subst e1 e2;exact h
theorem KAt.free (h:KAt w wr rp i g n c pb m pc rv ov ov' ps R' y):(∀ j,wr.frozen? ⟨pb,j,none⟩=false)∧(∀ j,wr.frozen? ⟨g,j,none⟩=false)∧∀ j,wr.frozen? ⟨rp,j,none⟩=false:=by
 obtain ⟨ps',hin,hp,_,hl⟩:=h.inn
 obtain ⟨cc,e1⟩:=own_cells (hin.prt _ (List.mem_of_getElem? hp)) (g:=pb) rfl
 obtain ⟨c2,e2⟩:=own_cells hin.dls (g:=g) rfl
 exact ⟨fun j=>blk_free e1 j,fun j=>blk_free e2 j,fun j=>blk_free hin.blk j⟩
theorem KAt.ne (h:KAt w wr rp i g n c pb m pc rv ov ov' ps R' y):pb≠rp∧pb≠g∧g≠rp∧pb<wr.heap.size∧g<wr.heap.size∧rp<wr.heap.size:=by
 obtain ⟨ps',hin,hp,_,hl⟩:=h.inn
 have hpr:=hin.prt _ (List.mem_of_getElem? hp)
 have hd:=hin.dls
 refine ⟨fun e=>own_ne hpr hin.blk (by decide) (by rw [e];rfl),fun e=>own_apart hpr hd (by decide) (g:=pb) rfl (by rw [e];rfl),fun e=>own_ne hd hin.blk (by decide) (by rw [e];rfl),(hpr.lt pb rfl).2,(hd.lt g rfl).2,(Array.getElem?_eq_some_iff.1 hin.blk).1⟩
end
set_option maxRecDepth 100000 in
set_option maxHeartbeats 4000000 in
theorem kdone_any [Inhabited Bs] (rp t:Nat) (z:Int) (S:List Nat) (R:RCo) (w:World) (h:RkN w rp S R) (hn:R.deals.length≤1048576) (hpl:∀ x∈R.deals,x.parts.length≤8∧(x.st=6→x.parts≠[])) :
  Calls Tryz.prog 108 #[.pointer (some ⟨rp,0,none⟩),.int .u64 (t:Int),.int .i64 z] w fun e w'=>e=.returned (.bool (R.doneB t z))∧∃ S',RkN w' rp S' (R.done t z)∧KFr S S' w w':=by
 obtain ⟨xv,rv,ov,ps,h,rfl⟩:=h
 have hps:=h.len
 have hf:=kfind_any rp t xv rv ov ps R w h (by omega)
 have c0:=blk_cell h.blk 0
 simp at c0
 obtain ⟨ao,c,hxv,H⟩:=h.slice
 rw [hxv] at c0
 cases hix:dealIx R.deals t with
 | none =>
  have hat:=dealIx_none hix
  rw [hix] at hf
  have e1:ixI none=-1:=rfl
  rw [e1] at hf
  have eE:R.doneB t z=false:=by unfold RCo.doneB;rw [hat]
  have eR:R.done t z=R:=by unfold RCo.done;rw [hix]
  rw [eE,eR]
  have HI:=toHid h
  clear h H hix hat e1 eE eR hxv hps
  go_enter Tryz.func108,Tryz.ntmps108
  go_wp2_with fail
  refine hf.mono ?_
  clear hf
  rintro e w1 ⟨rfl,q,rfl⟩
  have HF:=toHid (show ∃ S',RkN (w.drewN q) rp S' R∧KFr (kb rp xv rv ov ps) S' w (w.drewN q) from ⟨_,⟨_,_,_,_,HI.out.fr ((Fr.refl [] w).drewM q),rfl⟩,KFr.of ((Fr.refl [] w).drewM q)⟩)
  go_wp2
  go_ret
  exact ⟨rfl,HF.out⟩
 | some i =>
  obtain ⟨x,hx,hid,hat⟩:=dealIx_some hix
  obtain ⟨v,hv⟩:=h.at hx
  obtain ⟨g,rfl,x0,x1,x2,x3,x4⟩:=H i _ hv
  have hil:=(List.getElem?_eq_some_iff.1 hv).1
  rw [hix] at hf
  have e1:ixI (some i)=(i:Int):=rfl
  rw [e1] at hf
  have i0:¬ (i:Int)<0:=by omega
  have i1:(0:Int)≤(i:Int):=by omega
  have i2:(i:Int)<(ps.length:Int):=by omega
  obtain ⟨st,hst⟩:∃ st,st=x.st:=⟨_,rfl⟩
  simp only at x1
  rw [← hst] at x1
  have HI:=toHid h
  by_cases h6:st=6
  ·have eE:R.doneB t z=!((x.parts.map (doneP z)).any (·.left)):=by rw [doneB_of hat,← hst,decide_eq_true h6,Bool.true_and]
   have eR:R.done t z=if (x.parts.map (doneP z)).any (·.left) then R.setAt i { x with parts:=x.parts.map (doneP z) } else R.without i:=by
    unfold RCo.done
    rw [hix];show (match R.deals[i]? with | none=>R | some x=>_)=_
    rw [hx];show (if x.st=6 then _ else R)=_
    rw [← hst,if_pos h6]
   rw [eE,eR]
   obtain ⟨BB,hBB⟩:∃ BB,BB=(x.parts.map (doneP z)).any (·.left):=⟨_,rfl⟩
   rw [← hBB]
   have HBB:=toHid hBB
   clear hBB
   have hne:=(hpl x (List.mem_of_getElem? hx)).2 (by rw [← hst];exact h6)
   have hle:=(hpl x (List.mem_of_getElem? hx)).1
   subst h6
   have hpr:=h.prt _ (List.mem_of_getElem? hv)
   simp only at hpr
   obtain ⟨po,pc,ep,HP⟩:=part_slice hpr
   obtain ⟨p0,hp0⟩:∃ p0,x.parts[0]?=some p0:=⟨_,List.getElem?_eq_getElem (List.length_pos_iff.2 hne)⟩
   obtain ⟨pb,epo,_⟩:=HP 0 p0 hp0
   obtain ⟨m,hm⟩:∃ m,m=x.parts.length:=⟨_,rfl⟩
   rw [epo,← hm] at ep
   subst ep
   obtain ⟨n,hnn⟩:∃ n,n=ps.length:=⟨_,rfl⟩
   rw [← hnn] at c0 i2 hil hxv
   have HK0:Hid (KAt w w rp i g n c pb m pc rv ov ov ps R x):=⟨⟨ps,by rw [← hxv];exact h,hv,⟨Fr.refl _ _,fun _ hk _=>hk⟩,hnn.symm⟩,hm.symm⟩
   have HX:=toHid (show xv=.slice (some ⟨g,0,none⟩) n c∧x.parts.length=m∧R.deals[i]?=some x∧ps.length=n∧R.deals.length≤1048576 from ⟨hxv,hm.symm,hx,hnn.symm,hn⟩)
   have HS:Hid (x.st=6):=hst.symm
   have hm8:m≤8:=by rw [hm];exact hle
   have hnb:n≤1048576:=by omega
   have HRR:Hid (R.setAt i { x with parts:=upTo (doneP z) x.parts 0 }=R):=by
    rw [upTo_zero];exact setAt_same hx
   rw [hxv]
   clear h H hix hat hx hid hv e1 hst eE eR hxv hps hpl hne hle hpr HP hp0 epo hnn HI hm x0 x1 x2 x3 x4
   go_enter Tryz.func108,Tryz.ntmps108
   go_wp2_with fail
   refine hf.mono ?_
   clear hf
   rintro e w1 ⟨rfl,q,rfl⟩
   obtain ⟨y0,y1,y2,y3,y4,_,_⟩:=HK0.out.cells
   rw [HS.out] at y3
   have HKA:Hid (KAt w (w.drewN q) rp i g n c pb m pc rv ov ov ps { R with deals:=R.deals.set i (x.pt (upTo (doneP z) x.parts 0)) } (x.pt (upTo (doneP z) x.parts 0))):=by
    have h1:=HK0.out.fr ((Fr.refl [] w).drewM q)
    exact h1.cast (by rw [upTo_zero];exact (setAt_same HX.out.2.2.1).symm) (by rw [upTo_zero])
   clear HRR HK0
   go_wp2
   go_loopw [8,9] (fun lf j wr=>∃ (k:Nat) (b:Bool),k≤m∧lf=.bool b∧j=.int .i64 k∧Hid (b=(x.parts.take k).any fun p=>(doneP z p).left)∧Hid (KAt w wr rp i g n c pb m pc rv ov ov ps { R with deals:=R.deals.set i (x.pt (upTo (doneP z) x.parts k)) } (x.pt (upTo (doneP z) x.parts k)))) (fun _ j _=>m - (intOf j).toNat)
   case atStart=>exact ⟨0,false,Nat.zero_le _,rfl,rfl,rfl,HKA⟩
   case round =>
    obtain ⟨k,b,hk,rfl,rfl,HB,HK⟩:=hrel
    obtain ⟨a0,a1,a2,a3,a4,hin,HC⟩:=HK.out.cells
    have n0:(0:Int)≤(i:Int):=by omega
    clear a1 a2 a3
    by_cases hlt:k<m
    ·obtain ⟨p,hp⟩:∃ p,x.parts[k]?=some p:=⟨_,List.getElem?_eq_getElem (by rw [HX.out.2.1];exact hlt)⟩
     obtain ⟨b0,b1,b2⟩:=HC k p (upTo_at _ hp)
     obtain ⟨f0,_,_⟩:=HK.out.free
     have g2:=f0 (k*3+2)
     have nes:=HK.out.ne
     have HNE:=toHid nes
     have ne1:¬ pb=rp:=nes.1
     have ne2:¬ pb=g:=nes.2.1
     have k0:(0:Int)≤(k:Int):=by omega
     have k1:(k:Int)<(m:Int):=by omega
     have HAN:=toHid (any_next (fun p=>(doneP z p).left) hp)
     clear HC f0 nes b1
     by_cases hz:(p.shard:Int)=z
     ·have hdp:doneP z p={ p with left:=false }:=by unfold doneP;rw [if_pos hz]
      have HS2:Hid (KAt w (wr.setCell ⟨pb,k*3+2,none⟩ (.bool false)) rp i g n c pb m pc rv ov ov ps { R with deals:=R.deals.set i (x.pt (upTo (doneP z) x.parts (k+1))) } (x.pt (upTo (doneP z) x.parts (k+1)))):=by
       have h1:=HK.out.setK (kx:=k) (j:=2) (l:=p) (l':=doneP z p) (u:=.bool false) (upTo_at _ hp) (by decide) (by rw [hdp];rfl)
       exact h1.cast (by rw [upTo_next _ hp];simp [RDeal.pt]) (by rw [upTo_next _ hp])
      have HB2:=toHid (show (b || false)=(x.parts.take (k+1)).any fun p=>(doneP z p).left by rw [HAN.out,← HB.out];simp only [hdp])
      have bz:((p.shard:Int) == z)=true:=by simp [hz]
      obtain ⟨sh,hsh⟩:∃ sh:Int,sh=(p.shard:Int):=⟨_,rfl⟩
      rw [← hsh] at b0 bz hz
      clear hp hdp hsh
      cases b
      all_goals
       go_wp2
       go_roundw
       case rel=>exact ⟨k+1,_,by omega,rfl,by go_num,HB2,HS2⟩
       case measure=>simp [intOf];omega
     ·have hdp:doneP z p=p:=by unfold doneP;rw [if_neg hz]
      have HS2:Hid (KAt w wr rp i g n c pb m pc rv ov ov ps { R with deals:=R.deals.set i (x.pt (upTo (doneP z) x.parts (k+1))) } (x.pt (upTo (doneP z) x.parts (k+1)))):=by
       have e:upTo (doneP z) x.parts (k+1)=upTo (doneP z) x.parts k:=by rw [upTo_next _ hp,hdp];exact set_same (upTo_at _ hp)
       exact HK.out.cast (by rw [e]) (by rw [e])
      have HB2:=toHid (show (b || p.left)=(x.parts.take (k+1)).any fun p=>(doneP z p).left by rw [HAN.out,← HB.out];simp only [hdp])
      have bz:((p.shard:Int) == z)=false:=beq_eq_false_iff_ne.2 hz
      obtain ⟨sh,hsh⟩:∃ sh:Int,sh=(p.shard:Int):=⟨_,rfl⟩
      obtain ⟨lf,hlf⟩:∃ lf,lf=p.left:=⟨_,rfl⟩
      rw [← hsh] at b0 bz hz
      rw [← hlf] at b2 HB2
      clear hp hdp hsh hlf
      cases b
      all_goals
       go_wp2
       go_roundw
       case rel=>exact ⟨k+1,_,by omega,rfl,by go_num,HB2,HS2⟩
       case measure=>simp [intOf];omega
    ·obtain rfl:k=m:=by omega
     have hall:upTo (doneP z) x.parts k=x.parts.map (doneP z):=upTo_all _ (by rw [HX.out.2.1];exact Nat.le_refl _)
     obtain rfl:b=BB:=by
      rw [HBB.out,HB.out,List.any_map,List.take_of_length_le (by rw [HX.out.2.1];exact Nat.le_refl _)]
      rfl
     have HKF:Hid (KAt w wr rp i g n c pb k pc rv ov ov ps (R.setAt i { x with parts:=x.parts.map (doneP z) }) { x with parts:=x.parts.map (doneP z) }):=HK.out.cast (by rw [hall];rfl) (by rw [hall])
     clear HC hall HB HK
     cases b
     ·obtain ⟨ps',hin',hp',hkf,hl'⟩:=HKF.out.inn
      have hdr:=kdrop_any rp i _ rv ov ps' _ wr hin' (by omega) (by have:=HX.out.2.2.2;omega)
      have HF0:=toHid hkf
      clear hin' hp' hkf
      go_wp2_with fail
      refine hdr.mono ?_
      clear hdr
      rintro e w5 ⟨rfl,⟨xv',hin5,hnew⟩,hf5⟩
      have HF:=toHid (show ∃ S',RkN w5 rp S' (R.without i)∧KFr (kb rp (.slice (some ⟨g,0,none⟩) n c) rv ov ps) S' w w5 from by
       refine ⟨_,⟨_,_,_,_,?_,rfl⟩,HF0.out.trans (kdrop_fr (i:=i) hnew hf5)⟩
       have e:R.without i={ R.setAt i { x with parts:=x.parts.map (doneP z) } with deals:=(R.setAt i { x with parts:=x.parts.map (doneP z) }).deals.take i++(R.setAt i { x with parts:=x.parts.map (doneP z) }).deals.drop (i+1) }:=by
        unfold RCo.without RCo.setAt
        simp only
        rw [set_drop]
       rw [e]
       exact hin5)
      clear hin5 hnew hf5
      go_wp2
      go_ret
      exact ⟨rfl,HF.out⟩
     ·have HF:=toHid (show ∃ S',RkN wr rp S' (R.setAt i { x with parts:=x.parts.map (doneP z) })∧KFr (kb rp (.slice (some ⟨g,0,none⟩) n c) rv ov ps) S' w wr from by
       obtain ⟨ps',hin',hp',hkf,hl'⟩:=HKF.out.inn
       exact ⟨_,⟨_,_,_,_,hin',rfl⟩,hkf⟩)
      go_wp2
      go_ret
      exact ⟨rfl,HF.out⟩
  ·have eE:R.doneB t z=false:=by rw [doneB_of hat,← hst,decide_eq_false h6,Bool.false_and]
   have eR:R.done t z=R:=by
    unfold RCo.done
    rw [hix];show (match R.deals[i]? with | none=>R | some x=>_)=_
    rw [hx];show (if x.st=6 then _ else R)=_
    rw [← hst,if_neg h6]
   rw [eE,eR]
   have j6:¬ (st:Int)=6:=by omega
   have b6:((st:Int) == 6)=false:=beq_eq_false_iff_ne.2 j6
   have bn6:((st:Int) != 6)=true:=by unfold bne;rw [b6];rfl
   clear h H hix hat hx hid hv e1 hst eE eR hxv hps
   go_enter Tryz.func108,Tryz.ntmps108
   go_wp2_with fail
   refine hf.mono ?_
   clear hf
   rintro e w1 ⟨rfl,q,rfl⟩
   have HF:=toHid (show ∃ S',RkN (w.drewN q) rp S' R∧KFr (kb rp xv rv ov ps) S' w (w.drewN q) from ⟨_,⟨_,_,_,_,HI.out.fr ((Fr.refl [] w).drewM q),rfl⟩,KFr.of ((Fr.refl [] w).drewM q)⟩)
   go_wp2
   go_ret
   exact ⟨rfl,HF.out⟩
end Go.Proofs.YtejiankgafjppaaGreatDoor
