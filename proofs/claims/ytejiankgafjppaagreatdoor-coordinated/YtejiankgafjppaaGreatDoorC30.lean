import Derived.Test.YtejiankgafjppaaGreatDoorC29
import Derived.Test.YtejiankgafjppaaGreatDoorC21
namespace Go.Proofs.YtejiankgafjppaaGreatDoor
open Go.RowKit Go.Maps Go.Shelf
open Sc
def RCo.abortE (R:RCo) (t:Nat):Nat:=match dealAt R.deals t with | none=>7 | some x=>if x.st=6 then 4 else 0
def RCo.abort (R:RCo) (t:Nat):RCo:=match dealIx R.deals t with
 | none=>R
 | some i=>match R.deals[i]? with
  | none=>R
  | some x=>if x.st=6 then R else { R with deals:=R.deals.take i++R.deals.drop (i+1),res:=R.res++[(x.id,6)],out:=R.out++undoL x.id x.parts }
set_option maxRecDepth 100000 in
set_option maxHeartbeats 4000000 in
theorem kabort_any [Inhabited Bs] (rp t:Nat) (S:List Nat) (R:RCo) (w:World) (h:RkN w rp S R) (hn:R.deals.length≤1048576) (hpl:∀ x∈R.deals,x.parts.length≤8) (hol:R.out.length≤1048576) (hrl:R.res.length≤1048576) :
  Calls Tryz.prog 101 #[.pointer (some ⟨rp,0,none⟩),.int .u64 (t:Int)] w fun e w'=>e=.returned (.int .i64 (R.abortE t:Int))∧∃ S',RkN w' rp S' (R.abort t)∧KFr S S' w w':=by
 obtain ⟨xv,rv,ov,ps,h,rfl⟩:=h
 have hps:=h.len
 have hf:=kfind_any rp t xv rv ov ps R w h (by omega)
 have c0:=blk_cell h.blk 0
 simp at c0
 obtain ⟨ao,c,hxv,H⟩:=h.slice
 rw [hxv] at c0
 cases hix:dealIx R.deals t with
 | none =>
  have hat:=dealIx_none hix
  rw [hix] at hf
  have e1:ixI none=-1:=rfl
  rw [e1] at hf
  have eE:R.abortE t=7:=by unfold RCo.abortE;rw [hat]
  have eR:R.abort t=R:=by unfold RCo.abort;rw [hix]
  rw [eE,eR]
  have HI:=toHid h
  clear h H hix hat e1 eE eR hxv hps
  go_enter Tryz.func101,Tryz.ntmps101
  go_wp2_with fail
  refine hf.mono ?_
  clear hf
  rintro e w1 ⟨rfl,q,rfl⟩
  have HF:=toHid (show ∃ S',RkN (w.drewN q) rp S' R∧KFr (kb rp xv rv ov ps) S' w (w.drewN q) from ⟨_,⟨_,_,_,_,HI.out.fr ((Fr.refl [] w).drewM q),rfl⟩,KFr.of ((Fr.refl [] w).drewM q)⟩)
  go_wp2
  go_ret
  exact ⟨rfl,HF.out⟩
 | some i =>
  obtain ⟨x,hx,hid,hat⟩:=dealIx_some hix
  obtain ⟨v,hv⟩:=h.at hx
  obtain ⟨g,rfl,x0,x1,x2,x3,x4⟩:=H i _ hv
  have hil:=(List.getElem?_eq_some_iff.1 hv).1
  rw [hix] at hf
  have e1:ixI (some i)=(i:Int):=rfl
  rw [e1] at hf
  have i0:¬ (i:Int)<0:=by omega
  have i1:(0:Int)≤(i:Int):=by omega
  have i2:(i:Int)<(ps.length:Int):=by omega
  obtain ⟨st,hst⟩:∃ st,st=x.st:=⟨_,rfl⟩
  simp only at x1
  rw [← hst] at x1
  have HI:=toHid h
  by_cases h6:st=6
  ·have eE:R.abortE t=4:=by unfold RCo.abortE;rw [hat];show (if x.st=6 then 4 else 0)=4;rw [← hst,if_pos h6]
   have eR:R.abort t=R:=by unfold RCo.abort;rw [hix];show (match R.deals[i]? with | none=>R | some x=>_)=R;rw [hx];show (if x.st=6 then R else _)=R;rw [← hst,if_pos h6]
   rw [eE,eR]
   subst h6
   clear h H hix hat hx hid hv e1 hst eE eR hxv hps
   go_enter Tryz.func101,Tryz.ntmps101
   go_wp2_with fail
   refine hf.mono ?_
   clear hf
   rintro e w1 ⟨rfl,q,rfl⟩
   have HF:=toHid (show ∃ S',RkN (w.drewN q) rp S' R∧KFr (kb rp xv rv ov ps) S' w (w.drewN q) from ⟨_,⟨_,_,_,_,HI.out.fr ((Fr.refl [] w).drewM q),rfl⟩,KFr.of ((Fr.refl [] w).drewM q)⟩)
   go_wp2
   go_ret
   exact ⟨rfl,HF.out⟩
  ·have eE:R.abortE t=0:=by unfold RCo.abortE;rw [hat];show (if x.st=6 then 4 else 0)=0;rw [← hst,if_neg h6]
   have eR:R.abort t={ R with deals:=R.deals.take i++R.deals.drop (i+1),res:=R.res++[(x.id,6)],out:=R.out++undoL x.id x.parts }:=by unfold RCo.abort;rw [hix];show (match R.deals[i]? with | none=>R | some x=>_)=_;rw [hx];show (if x.st=6 then R else _)=_;rw [← hst,if_neg h6]
   rw [eE,eR]
   have j6:¬ (st:Int)=6:=by omega
   have b6:((st:Int) == 6)=false:=beq_eq_false_iff_ne.2 j6
   have HU:=toHid (fun W (hW:RkIn W rp xv rv ov ps R)=>kundo_any rp i xv rv ov ps R W hW x hx (by omega) (hpl x (List.mem_of_getElem? hx)) hol hrl)
   clear h H hix hat hx hid hv e1 hst eE eR hxv hps
   go_enter Tryz.func101,Tryz.ntmps101
   go_wp2_with fail
   refine hf.mono ?_
   clear hf
   rintro e w1 ⟨rfl,q,rfl⟩
   go_wp2_with fail
   refine (HU.out _ (HI.out.fr ((Fr.refl [] w).drewM q))).mono ?_
   rintro e w2 ⟨rfl,S',h2,k2⟩
   have HF:=toHid (show ∃ S',RkN w2 rp S' { R with deals:=R.deals.take i++R.deals.drop (i+1),res:=R.res++[(x.id,6)],out:=R.out++undoL x.id x.parts }∧KFr (kb rp xv rv ov ps) S' w w2 from ⟨S',h2,(KFr.of ((Fr.refl [] w).drewM q)).trans k2⟩)
   clear h2 k2
   go_wp2
   go_ret
   exact ⟨rfl,HF.out⟩
set_option maxRecDepth 100000 in
set_option maxHeartbeats 1000000 in
theorem knew_any [Inhabited Bs] (w:World) (hb:B0≤w.heap.size) :
  Calls Tryz.prog 40 #[] w fun e w'=>e=.returned (.pointer (some ⟨w.heap.size,0,none⟩))∧RkN w' w.heap.size [w.heap.size] ⟨[],1,[],[]⟩∧Fr [] w w':=by
 obtain ⟨W,hW⟩:∃ W,W=w.alloc (.cells #[.slice none 0 0,.int .u64 1,.slice none 0 0,.slice none 0 0] 141):=⟨_,rfl⟩
 have HN:=toHid (show RkN W w.heap.size [w.heap.size] ⟨[],1,[],[]⟩∧Fr [] w W from by
  refine ⟨⟨.slice none 0 0,.slice none 0 0,.slice none 0 0,[],⟨hb,?_,World.ownsRow_nil _ _ _ _,by simp,by simp,World.ownsRow_nil _ _ _ _,World.ownsRow_nil _ _ _ _,rfl⟩,rfl⟩,by rw [hW];exact (Fr.refl [] w).alloc _⟩
  rw [hW];exact heap_alloc_new w _)
 go_enter Tryz.func40,Tryz.ntmps40
 go_wp2
 rw [← hW]
 go_ret
 exact ⟨rfl,HN.out⟩
end Go.Proofs.YtejiankgafjppaaGreatDoor
namespace Go.Proofs.YtejiankgafjppaaGreatDoor
open Go.RowKit Go.Maps
open Sc
theorem ownsRow_put {w:World} {base:Nat} {e:TypeId} {size n g c j:Nat} {xs:List Value} {u:Value} (h:w.ownsRow base e size (.slice (some ⟨g,0,none⟩) n c) n xs):(w.setCell ⟨g,j,none⟩ u).ownsRow base e size (.slice (some ⟨g,0,none⟩) n c) n (xs.set j u):=by
 rcases h.2 with ⟨h',_⟩ | ⟨g',cap',cur,h',hb,hg,h1,h2,h3,htake⟩
 ·simp at h'
 ·simp only [Value.slice.injEq,Option.some.injEq,Addr.mk.injEq,and_true,true_and] at h'
  obtain ⟨rfl,rfl⟩:=h'
  refine ⟨by rw [List.length_set];exact h.1,.inr ⟨g,c,cur.setIfInBounds j u,rfl,hb,?_,h1,h2,by simpa using h3,?_⟩⟩
  ·have:=blk_set hg j u
   exact this
  ·rw [← htake]
   simp only [Array.toList_setIfInBounds]
   rw [List.take_set]
theorem flat_set {α:Type} {f:α→List Value} {k:Nat} (hk:∀ x,(f x).length=k):∀ (l:List α) (i j:Nat) (x y:α) (u:Value),l[i]?=some x→j<k→f y=(f x).set j u→(l.set i y).flatMap f=(l.flatMap f).set (i*k+j) u
 | [],i,j,x,y,u,h,_,_=>by simp at h
 | z :: l,0,j,x,y,u,h,hj,hf=>by
  simp at h
  subst h
  rw [List.set_cons_zero,List.flatMap_cons,List.flatMap_cons,Nat.zero_mul,Nat.zero_add,List.set_append_left _ _ (by rw [hk];exact hj),hf]
 | z :: l,i+1,j,x,y,u,h,hj,hf=>by
  simp at h
  have e:(i+1)*k+j=(f z).length+(i*k+j):=by rw [hk,Nat.add_mul,Nat.one_mul];omega
  rw [List.set_cons_succ,List.flatMap_cons,List.flatMap_cons,e,List.set_append_right _ _ (by omega),Nat.add_sub_cancel_left,flat_set hk l i j x y u h hj hf]
def RSh.abort (R:RSh) (t:Nat):RSh × Nat:=if t=0 then (R,7) else (⟨R.table,del R.txns t⟩,0)
end Go.Proofs.YtejiankgafjppaaGreatDoor
namespace Go.Proofs.YtejiankgafjppaaGreatDoor
open Go.RowKit Go.Maps Go.Shelf
open Sc
theorem kflat_same {α:Type} (f:α→List Value):∀ {xs:List α} {i:Nat} {x x':α},xs[i]?=some x→f x'=f x→(xs.set i x').flatMap f=xs.flatMap f
 | [],i,x,x',h,_=>by simp at h
 | y :: ys,0,x,x',h,hf=>by
  simp at h
  subst h
  rw [List.set_cons_zero,List.flatMap_cons,List.flatMap_cons,hf]
 | y :: ys,i+1,x,x',h,hf=>by
  simp at h
  rw [List.set_cons_succ,List.flatMap_cons,List.flatMap_cons,kflat_same f h hf]
theorem kmap_set_same {α β:Type} (f:α→β) {xs:List α} {i:Nat} {x x':α} (hi:xs[i]?=some x) (hf:f x'=f x):(xs.set i x').map f=xs.map f:=by
 rw [List.map_set]
 apply List.ext_getElem?
 intro m
 rw [List.getElem?_set]
 split
 ·rename_i em
  subst em
  rw [if_pos (by rw [List.length_map];exact (List.getElem?_eq_some_iff.1 hi).1),List.getElem?_map,hi,hf]
  rfl
 ·rfl
section
variable [Inhabited Bs] {w w2:World} {rp:Nat} {xv rv ov:Value} {ps:List (RDeal × Value)} {R:RCo}
omit [Inhabited Bs] in
theorem kb_set {i:Nat} {p q:RDeal × Value} (hp:ps[i]?=some p) (hq:q.2.ownBlock=p.2.ownBlock) {k:Nat} (hk:k∈kb rp xv rv ov (ps.set i q)):k∈kb rp xv rv ov ps:=by
 rw [mem_kb] at hk ⊢
 rcases hk with e | e | e | e | ⟨y,hy,e⟩
 ·exact .inl e
 ·exact .inr (.inl e)
 ·exact .inr (.inr (.inl e))
 ·exact .inr (.inr (.inr (.inl e)))
 ·rcases List.mem_or_eq_of_mem_set hy with hy | rfl
  ·exact .inr (.inr (.inr (.inr ⟨y,hy,e⟩)))
  ·exact .inr (.inr (.inr (.inr ⟨p,List.mem_of_getElem? hp,by rw [← hq];exact e⟩)))
omit [Inhabited Bs] in
theorem kapart_ix (h:ps.Pairwise fun p q=>p.2.ownBlock=none∨p.2.ownBlock≠q.2.ownBlock) {i j:Nat} {p q:RDeal × Value} (hp:ps[i]?=some p) (hq:ps[j]?=some q) (hne:i≠j) {g:Nat} (hg:p.2.ownBlock=some g):q.2.ownBlock≠some g:=by
 obtain ⟨h1,rfl⟩:=List.getElem?_eq_some_iff.1 hp
 obtain ⟨h2,rfl⟩:=List.getElem?_eq_some_iff.1 hq
 rcases Nat.lt_or_gt_of_ne hne with hl | hl
 ·rcases List.pairwise_iff_getElem.1 h i j h1 h2 hl with e | e
  ·rw [hg] at e;cases e
  ·exact fun e2=>e (by rw [hg,e2])
 ·intro e2
  rcases List.pairwise_iff_getElem.1 h j i h2 h1 hl with e | e
  ·rw [e2] at e;cases e
  ·exact e (by rw [hg,e2])
theorem RkIn.setF (h:RkIn w rp xv rv ov ps R) {i j g c:Nat} {x x':RDeal} {v u:Value} (hx:xv=.slice (some ⟨g,0,none⟩) ps.length c) (hp:ps[i]?=some (x,v)) (hj:j<5) (hf:dealC (x',v)=(dealC (x,v)).set j u) (hl:x'.parts=x.parts) :
  RkIn (w.setCell ⟨g,i*5+j,none⟩ u) rp xv rv ov (ps.set i (x',v)) { R with deals:=R.deals.set i x' }∧KFr (kb rp xv rv ov ps) (kb rp xv rv ov (ps.set i (x',v))) w (w.setCell ⟨g,i*5+j,none⟩ u):=by
 have htx:=h.dls
 rw [hx] at htx
 obtain ⟨cur,hg⟩:=own_cells htx (g:=g) rfl
 refine ⟨{ base:=h.base,blk:=?_,dls:=?_,prt:=fun p hm=>?_,apart:=?_,res:=ownsRow_set h.res hg (by decide),out:=ownsRow_set h.out hg (by decide),rs:=?_ },⟨Fr.set1 (mem_kb.2 (.inr (.inl (by rw [hx];rfl)))) _ _,fun k hk _=>kb_set hp (by rfl) hk⟩⟩
 ·refine (Below.heap_setCell _ _ _ rp ?_).trans h.blk
  intro e
  simp only [] at e
  have:=h.blk
  rw [e,hg] at this
  cases this
 ·rw [List.length_set,hx]
  have:=ownsRow_put (j:=i*5+j) (u:=u) htx
  have e:=flat_set (f:=dealC) (k:=5) (fun _=>rfl) ps i j (x,v) (x',v) u hp hj hf
  unfold dealsV at this ⊢
  rw [e]
  exact this
 ·rcases List.mem_or_eq_of_mem_set hm with hm | rfl
  ·exact ownsRow_set (h.prt p hm) hg (by decide)
  ·have:=ownsRow_set (u:=u) (i:=i*5+j) (h.prt (x,v) (List.mem_of_getElem? hp)) hg (by decide)
   simp only [hl]
   exact this
 ·have h2:(ps.map (·.2)).Pairwise fun a b=>a.ownBlock=none∨a.ownBlock≠b.ownBlock:=by rw [List.pairwise_map];exact h.apart
  rw [← kmap_set_same (·.2) hp (x':=(x',v)) rfl,List.pairwise_map] at h2
  exact h2
 ·rw [List.map_set,h.rs]
theorem RkIn.setL (h:RkIn w rp xv rv ov ps R) {i g c:Nat} {x x':RDeal} {v v2:Value} (hx:xv=.slice (some ⟨g,0,none⟩) ps.length c) (hp:ps[i]?=some (x,v)) (hf:Fr v.ownBlock.toList w w2) (ho:w2.ownsRow B0 204 3 v2 x'.parts.length (prtsV x'.parts)) (hat:v2.ownBlock=v.ownBlock∨∃ z,v2.ownBlock=some z∧w.heap.size≤z) (hc:dealC (x',v2)=(dealC (x,v)).set 3 v2) :
  RkIn (w2.setCell ⟨g,i*5+3,none⟩ v2) rp xv rv ov (ps.set i (x',v2)) { R with deals:=R.deals.set i x' }∧KFr (kb rp xv rv ov ps) (kb rp xv rv ov (ps.set i (x',v2))) w (w2.setCell ⟨g,i*5+3,none⟩ v2):=by
 have hi:i<ps.length:=(List.getElem?_eq_some_iff.1 hp).1
 have htx:=h.dls
 rw [hx] at htx
 obtain ⟨cur,hg⟩:=own_cells htx (g:=g) rfl
 have hlv:=h.prt _ (List.mem_of_getElem? hp)
 have hno:∀ {e:TypeId} {size n:Nat} {u:Value} {ys:List Value},e≠204→w.ownsRow B0 e size u n ys→∀ q,u.ownBlock=some q→q∉v.ownBlock.toList:=by
  intro e size n u ys hne hv q hq hm
  have hm2:v.ownBlock=some q:=by simpa using hm
  exact own_apart hv hlv hne hq hm2
 have hgn:g∉v.ownBlock.toList:=hno (by decide) htx g rfl
 have hg2:w2.heap[g]?=some (.cells cur 144 (0,0)):=(hf.block g (Array.getElem?_eq_some_iff.1 hg).1 hgn).trans hg
 have hrpn:rp∉v.ownBlock.toList:=fun hm=>own_ne hlv h.blk (by decide) (by simpa using hm)
 have htx2:=ownsRow_fr htx hf (hno (by decide) htx)
 have hother:∀ (j:Nat) (q:RDeal × Value),ps[j]?=some q→i≠j→∀ z,q.2.ownBlock=some z→v.ownBlock≠some z:=fun j q hq hne z hz e=>kapart_ix h.apart hq hp (fun e=>hne e.symm) hz e
 refine ⟨{ base:=h.base,blk:=?_,dls:=?_,prt:=fun p hm=>?_,apart:=?_,res:=ownsRow_set (ownsRow_fr h.res hf (hno (by decide) h.res)) hg2 (by decide),out:=ownsRow_set (ownsRow_fr h.out hf (hno (by decide) h.out)) hg2 (by decide),rs:=?_ },⟨?_,fun k hk hl=>?_⟩⟩
 ·refine (Below.heap_setCell _ _ _ rp ?_).trans ((hf.block rp (Array.getElem?_eq_some_iff.1 h.blk).1 hrpn).trans h.blk)
  intro e
  simp only [] at e
  have:=h.blk
  rw [e,hg] at this
  cases this
 ·rw [List.length_set,hx]
  have:=ownsRow_put (j:=i*5+3) (u:=v2) htx2
  have e:=flat_set (f:=dealC) (k:=5) (fun _=>rfl) ps i 3 (x,v) (x',v2) v2 hp (by decide) hc
  unfold dealsV at this ⊢
  rw [e]
  exact this
 ·obtain ⟨j,hj⟩:=List.mem_iff_getElem?.1 hm
  rw [List.getElem?_set] at hj
  split at hj
  ·rename_i em
   subst em
   cases hj
   exact ownsRow_set ho hg2 (by decide)
  ·rename_i em
   exact ownsRow_set (ownsRow_fr (h.prt p (List.mem_of_getElem? hj)) hf (fun z hz hm=>hother j p hj em z hz (by simpa using hm))) hg2 (by decide)
 ·rw [List.pairwise_iff_getElem]
  intro a b ha hb hab
  have hla:a<ps.length:=by simpa using ha
  have hlb:b<ps.length:=by simpa using hb
  have h0:=List.pairwise_iff_getElem.1 h.apart a b hla hlb hab
  have lt:∀ (j:Nat) (hj:j<ps.length) z,(ps[j]).2.ownBlock=some z→z<w.heap.size:=fun j hj z hz=>((h.prt _ (List.getElem_mem hj)).lt z hz).2
  rw [List.getElem_set,List.getElem_set]
  by_cases ea:i=a
  ·subst ea
   rw [if_pos rfl,if_neg (by omega)]
   have e1:ps[i]=(x,v):=(List.getElem?_eq_some_iff.1 hp).2
   rcases hat with e | ⟨z,e,hz⟩
   ·rw [e1] at h0;show v2.ownBlock=none∨v2.ownBlock≠_;rw [e];exact h0
   ·right;show v2.ownBlock≠_;rw [e];exact fun e2=>by have:=lt b hlb z e2.symm;omega
  ·rw [if_neg ea]
   by_cases eb:i=b
   ·subst eb
    rw [if_pos rfl]
    have e1:ps[i]=(x,v):=(List.getElem?_eq_some_iff.1 hp).2
    rcases hat with e | ⟨z,e,hz⟩
    ·rw [e1] at h0;show _∨_≠v2.ownBlock;rw [e];exact h0
    ·right;show _≠v2.ownBlock;rw [e];exact fun e2=>by have:=lt a hla z e2;omega
   ·rw [if_neg eb];exact h0
 ·rw [List.map_set,h.rs]
 ·refine (hf.mono (fun k _ hk=>mem_kb.2 (.inr (.inr (.inr (.inr ⟨_,List.mem_of_getElem? hp,by simpa using hk⟩)))))).trans (Fr.set1 (mem_kb.2 (.inr (.inl (by rw [hx];rfl)))) _ _)
 ·rw [mem_kb] at hk ⊢
  rcases hk with e | e | e | e | ⟨y,hy,e⟩
  ·exact .inl e
  ·exact .inr (.inl e)
  ·exact .inr (.inr (.inl e))
  ·exact .inr (.inr (.inr (.inl e)))
  ·rcases List.mem_or_eq_of_mem_set hy with hy | rfl
   ·exact .inr (.inr (.inr (.inr ⟨y,hy,e⟩)))
   ·rcases hat with e2 | ⟨z,e2,hz⟩
    ·exact .inr (.inr (.inr (.inr ⟨_,List.mem_of_getElem? hp,by rw [← e2];exact e⟩)))
    ·rw [e2] at e;cases e;omega
abbrev RDeal.pt (x:RDeal) (l:List RPart):RDeal:=⟨x.id,x.st,x.age,l⟩
theorem RkIn.setK (h:RkIn w rp xv rv ov ps R) {i kx j g c:Nat} {x:RDeal} {l l':RPart} {u:Value} (hp:ps[i]?=some (x,.slice (some ⟨g,0,none⟩) x.parts.length c)) (hk:x.parts[kx]?=some l) (hj:j<3) (hf:partC l'=(partC l).set j u) :
  RkIn (w.setCell ⟨g,kx*3+j,none⟩ u) rp xv rv ov (ps.set i (x.pt (x.parts.set kx l'),.slice (some ⟨g,0,none⟩) x.parts.length c)) { R with deals:=R.deals.set i (x.pt (x.parts.set kx l')) }∧KFr (kb rp xv rv ov ps) (kb rp xv rv ov (ps.set i (x.pt (x.parts.set kx l'),.slice (some ⟨g,0,none⟩) x.parts.length c))) w (w.setCell ⟨g,kx*3+j,none⟩ u):=by
 have hi:i<ps.length:=(List.getElem?_eq_some_iff.1 hp).1
 have hlv:=h.prt _ (List.mem_of_getElem? hp)
 simp only [] at hlv
 obtain ⟨cur,hg⟩:=own_cells hlv (g:=g) rfl
 refine ⟨{ base:=h.base,blk:=?_,dls:=?_,prt:=fun p hm=>?_,apart:=?_,res:=ownsRow_set h.res hg (by decide),out:=ownsRow_set h.out hg (by decide),rs:=?_ },⟨Fr.set1 (mem_kb.2 (.inr (.inr (.inr (.inr ⟨_,List.mem_of_getElem? hp,rfl⟩))))) _ _,fun k hk _=>kb_set hp (by rfl) hk⟩⟩
 ·refine (Below.heap_setCell _ _ _ rp ?_).trans h.blk
  intro e
  simp only [] at e
  have:=h.blk
  rw [e,hg] at this
  cases this
 ·rw [List.length_set]
  unfold dealsV
  rw [kflat_same dealC (x':=(x.pt (x.parts.set kx l'),.slice (some ⟨g,0,none⟩) x.parts.length c)) hp rfl]
  exact ownsRow_set h.dls hg (by decide)
 ·obtain ⟨q,hq⟩:=List.mem_iff_getElem?.1 hm
  rw [List.getElem?_set] at hq
  split at hq
  ·rename_i em
   subst em
   cases hq
   have:=ownsRow_put (j:=kx*3+j) (u:=u) hlv
   have e:=flat_set (f:=partC) (k:=3) (fun _=>rfl) x.parts kx j l l' u hk hj hf
   show (w.setCell _ _).ownsRow B0 _ 3 _ (x.parts.set kx l').length (prtsV (x.parts.set kx l'))
   rw [List.length_set]
   unfold prtsV at this ⊢
   rw [e]
   exact this
  ·rename_i em
   have hl:=h.prt p (List.mem_of_getElem? hq)
   refine ownsRow_fr hl (Fr.set1 (S:=[g]) (by simp) _ _) fun z hz hm2=>?_
   simp at hm2
   subst hm2
   exact kapart_ix h.apart hp hq em rfl hz
 ·have h2:(ps.map (·.2)).Pairwise fun a b=>a.ownBlock=none∨a.ownBlock≠b.ownBlock:=by rw [List.pairwise_map];exact h.apart
  rw [← kmap_set_same (·.2) hp (x':=(x.pt (x.parts.set kx l'),.slice (some ⟨g,0,none⟩) x.parts.length c)) rfl,List.pairwise_map] at h2
  exact h2
 ·rw [List.map_set,h.rs]
end
end Go.Proofs.YtejiankgafjppaaGreatDoor
