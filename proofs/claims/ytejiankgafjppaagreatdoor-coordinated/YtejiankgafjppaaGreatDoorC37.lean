import Derived.Test.YtejiankgafjppaaGreatDoorC36
namespace Go.Proofs.YtejiankgafjppaaGreatDoor
open Go.RowKit Go.Maps Go.Shelf
open Sc
theorem codes_nil (st:Nat):codes st []=[0,0,0,0,0,0,0,0,0]:=rfl
section
variable {L:Nat→Nat} {c:ACo} {R:RCo}
theorem CRel.begin (h:CRel c R) (hl:R.deals.length<12) (lim:Nat):CRel { c with limit:=lim,next:=c.next+1,txns:=alPut c.txns c.next ⟨4,[0,0,0,0,0,0,0,0,0],0⟩ } { R with deals:=R.deals++[⟨R.next,4,0,[]⟩],next:=R.next+1 }:=by
 have hne:∀ x∈R.deals,x.id≠c.next:=fun x hx e=>by have:=(h.ok x hx).2;rw [h.next] at e;omega
 refine ⟨?_,fun x hx=>?_,fun t ht=>?_,fun x hx=>?_,by simp;omega,h.o1.put _ _,fun z hz=>?_,by simp [h.next],h.res,h.out⟩
 ·exact List.pairwise_append.2 ⟨h.asc,by simp,fun a ha b hb=>by
   simp at hb;subst hb;exact (h.ok a ha).2⟩
 ·simp only
  rw [alLook_put]
  rcases List.mem_append.1 hx with hx | hx
  ·rw [if_neg (hne x hx)];exact h.som x hx
  ·simp at hx
   subst hx
   rw [if_pos h.next.symm]
   exact ⟨_,rfl,rfl,codes_nil 4,fun e=>by cases e⟩
 ·simp only
  rw [alLook_put]
  have h1:=dealAt_none.1 ht
  have h2:=h1 ⟨R.next,4,0,[]⟩ (by simp)
  rw [if_neg (by rw [h.next];exact fun e=>h2 e.symm)]
  exact h.non t (dealAt_none.2 fun z hz=>h1 z (by simp [hz]))
 ·rcases List.mem_append.1 hx with hx | hx
  ·have:=h.ok x hx
   exact ⟨this.1,by have:=this.2;simp only;omega⟩
  ·simp at hx
   subst hx
   exact ⟨⟨.inl rfl,⟨List.Pairwise.nil,by simp⟩,fun _=>rfl,(fun e=>by cases e),(fun e=>by cases e),(fun e=>by cases e)⟩,by simp only;omega⟩
 ·rcases List.mem_cons.1 hz with rfl | hz
  ·exact Nat.zero_le _
  ·exact h.sin z (List.mem_filter.1 hz).1
theorem asked_up {xs:List Nat} (hr:Rising xs):PsUp (askedP xs):=by
 refine ⟨?_,fun p hp=>?_⟩
 ·unfold askedP;rw [List.pairwise_map];exact hr.up
 ·unfold askedP at hp;obtain ⟨x,hx,rfl⟩:=List.mem_map.1 hp;exact hr.b x hx
theorem asked_meant {xs:List Nat} (hr:Rising xs):meant isAw (partsL xs 1)=xs:=by
 rw [partsL_codes (fun x hx=>(hr.b x hx).2),meant_codes (by decide) (asked_up hr)]
 unfold askedP
 rw [List.filter_map,List.map_map]
 have:(List.filter ((fun p:RPart=>isAw (RPart.code 5 p)) ∘ fun x=>({ shard:=x,vote:=0,left:=false }:RPart)) xs)=xs:=List.filter_eq_self.2 fun x _=>rfl
 rw [this]
 exact List.map_id' xs
theorem CRel.commit (h:CRel c R) {t:Nat} {x:RDeal} (hx:dealAt R.deals t=some x) (h4:x.st=4) {xs:List Nat} (hr:Rising xs):CRel (c.asked t xs) (R.commit t xs):=by
 obtain ⟨i,h1,h2,h3⟩:=dealAt_ix hx
 have hok:=(h.ok x (List.mem_of_getElem? h2)).1
 have e:R.commit t xs={ R with deals:=R.deals.set i ⟨x.id,5,0,x.parts++askedP xs⟩,out:=R.out++xs.map fun k=>(t,k,1) }:=by
  unfold RCo.commit
  rw [h1];show (match R.deals[i]? with | none=>R | some x=>_)=_
  rw [h2];show (if x.st=4 then _ else R)=_
  rw [if_pos h4]
 rw [e]
 subst h3
 have:=h.setOne (y:=⟨x.id,5,0,x.parts++askedP xs⟩) (T:=⟨5,partsL xs 1,c.ticks⟩) (res:=R.res) h2 rfl ⟨rfl,by rw [hok.act h4];exact partsL_codes (fun x hx=>(hr.b x hx).2),fun _=>rfl⟩ (Nat.le_refl _) ⟨.inr (.inl rfl),by rw [hok.act h4];exact asked_up hr,(fun e=>by cases e),(fun _=>⟨Nat.zero_lt_succ 7,fun p hp=>by
  rw [hok.act h4] at hp;unfold askedP at hp;obtain ⟨y,hy,rfl⟩:=List.mem_map.1 hp;exact ⟨.inl rfl,rfl⟩⟩),(fun e=>by cases e),(fun _=>by rw [hok.act h4,List.nil_append];unfold askedP;simpa using hr.ne)⟩ (show c.out++(meant isAw (partsL xs 1)).map (fun k=>(x.id,k,1))=R.out++xs.map fun k=>(x.id,k,1) by rw [asked_meant hr,h.out])
 unfold ACo.asked
 rw [h.res]
 exact this
theorem code_v {st:Nat} {p:RPart} (hs:st≠6):p.code st=if p.vote=0 then 1 else p.vote:=by
 unfold RPart.code
 by_cases h0:p.vote=0
 ·simp [h0]
 ·by_cases h2:p.vote=2
  ·simp [h2,hs]
  ·simp [h0,h2]
theorem may_undo {st:Nat} {ps:List RPart} (hs:st≠6) (hv:∀ p∈ps,p.vote≠1):(ps.filter fun p=>mayP (p.code st))=ps.filter undoP:=by
 refine List.filter_congr fun p hp=>?_
 have:=hv p hp
 rw [code_v hs]
 unfold mayP undoP
 by_cases h0:p.vote=0
 ·simp [h0]
 ·by_cases h2:p.vote=2
  ·simp [h2]
  ·rw [if_neg h0]
   have e1:(p.vote == 1)=false:=by simpa using this
   have e0:(p.vote == 0)=false:=by simpa using h0
   rw [e1,e0]
theorem RDeal.Ok.votes {x:RDeal} (h:x.Ok) (h6:x.st≠6):∀ p∈x.parts,p.vote=0∨p.vote=2∨p.vote=4:=fun p hp=>by
 rcases h.st with e | e | e
 ·rw [h.act e] at hp;cases hp
 ·exact ((h.vot e).2 p hp).1
 ·exact absurd e h6
theorem may_L {t:Nat} {x:RDeal} (h:x.Ok) (h6:x.st≠6):((meant mayP (codes x.st x.parts)).map fun k=>(t,k,6))=undoL t x.parts:=by
 rw [meant_codes (by decide) h.up,may_undo h6 (fun p hp=>by have:=h.votes h6 p hp;omega)]
 unfold undoL
 rw [List.map_map]
 rfl
theorem CRel.abortE (h:CRel c R) (t:Nat):R.abortE t=if (c.tx t).state=0 then 7 else if (c.tx t).state=6 then 4 else 0:=by
 rw [h.status]
 unfold RCo.abortE
 cases hx:dealAt R.deals t with
 | none=>rfl
 | some x =>
  have:=(h.ok x (dealAt_mem hx).1).1.st
  simp only [Option.map_some,Option.getD_some]
  rw [if_neg (show ¬ x.st=0 by omega)]
theorem undone_rel (h:CRelL L c R) {L':Nat→Nat} {i:Nat} {x:RDeal} (hi:R.deals[i]?=some x) (hL:∀ t,t≠x.id→L' t=L t) (h6:x.st≠6):CRelL L' (c.aborted x.id) { R with deals:=R.deals.take i++R.deals.drop (i+1),res:=R.res++[(x.id,6)],out:=R.out++undoL x.id x.parts }:=by
 have hok:=(h.ok x (List.mem_of_getElem? hi)).1
 have htx:=h.tx_some (h.asc.at (List.mem_of_getElem? hi))
 have:=h.delOne (res:=R.res++[(x.id,6)]) hi hL (show c.out++(meant mayP (c.tx x.id).parts).map (fun k=>(x.id,k,6))=R.out++undoL x.id x.parts by rw [htx.1.ps,may_L hok h6,h.out])
 unfold ACo.aborted
 rw [h.res]
 exact this
theorem RCo.abort_no {t:Nat} (ht:R.abortE t≠0):R.abort t=R:=by
 unfold RCo.abort
 cases hx:dealAt R.deals t with
 | none=>rw [dealAt_nix hx]
 | some x =>
  obtain ⟨i,h1,h2,h3⟩:=dealAt_ix hx
  unfold RCo.abortE at ht
  rw [hx] at ht
  rw [h1];show (match R.deals[i]? with | none=>R | some x=>_)=_
  rw [h2];show (if x.st=6 then R else _)=_
  rw [if_pos]
  by_cases e:x.st=6
  ·exact e
  ·simp [e] at ht
theorem CRel.abort (h:CRel c R) {t:Nat} (ht:R.abortE t=0):CRel (c.aborted t) (R.abort t):=by
 unfold RCo.abort
 cases hx:dealAt R.deals t with
 | none=>unfold RCo.abortE at ht;rw [hx] at ht;cases ht
 | some x =>
  obtain ⟨i,h1,h2,h3⟩:=dealAt_ix hx
  unfold RCo.abortE at ht
  rw [hx] at ht
  rw [h1];show CRel _ (match R.deals[i]? with | none=>R | some x=>_)
  rw [h2];show CRel _ (if x.st=6 then R else _)
  have h6:x.st≠6:=fun e=>by simp [e] at ht
  rw [if_neg h6]
  subst h3
  exact undone_rel h h2 (fun _ _=>rfl) h6
end
theorem partAt_codes {T:ATx} {st:Nat} {ps:List RPart} (hp:T.parts=codes st ps) {k:Nat} (hk:k<9):partAt T (k:Int)=((partFor ps k).map (RPart.code st)).getD 0:=by
 unfold partAt
 rw [if_pos (by omega),hp,Int.toNat_natCast,codes_at hk]
theorem partAt_has {T:ATx} {st:Nat} {ps:List RPart} (hp:T.parts=codes st ps) {z:Int} (h:partAt T z≠0):∃ k p,z=((k:Nat):Int)∧k<9∧partFor ps k=some p∧partAt T z=p.code st:=by
 have hz:0≤z∧z<9:=by
  unfold partAt at h
  by_cases e:0≤z∧z<9
  ·exact e
  ·rw [if_neg e] at h;exact absurd rfl h
 obtain ⟨k,rfl⟩:∃ k:Nat,z=(k:Int):=⟨z.toNat,by omega⟩
 have hk:k<9:=by omega
 rw [partAt_codes hp hk] at h ⊢
 cases hq:partFor ps k with
 | none=>rw [hq] at h;exact absurd rfl h
 | some p=>exact ⟨k,p,rfl,hk,hq,rfl⟩
section
variable {c:ACo} {R:RCo}
theorem code_one {st:Nat} {p:RPart} (hv:p.vote=0∨p.vote=2∨p.vote=4):p.code st=1↔p.vote=0:=by
 unfold RPart.code
 rcases hv with e | e | e
 ·simp [e]
 ·simp [e];split <;> omega
 ·simp [e]
theorem CRel.aw_st (h:CRel c R) {t:Nat} {z:Int} (ha:partAt (c.tx t) z=1):∃ x,dealAt R.deals t=some x∧x.st=5∧∃ k p,z=((k:Nat):Int)∧k<9∧partFor x.parts k=some p∧p.vote=0:=by
 cases hx:dealAt R.deals t with
 | none =>
  rw [h.tx_none hx] at ha
  unfold partAt at ha
  split at ha
  ·rename_i hz
   obtain ⟨k,rfl⟩:∃ k:Nat,z=(k:Int):=⟨z.toNat,by omega⟩
   have:k=0∨k=1∨k=2∨k=3∨k=4∨k=5∨k=6∨k=7∨k=8:=by omega
   rcases this with rfl | rfl | rfl | rfl | rfl | rfl | rfl | rfl | rfl <;> exact absurd ha (by decide)
  ·cases ha
 | some x =>
  obtain ⟨ht,_⟩:=h.tx_some hx
  have hok:=(h.ok x (dealAt_mem hx).1).1
  obtain ⟨k,p,hz,hk,hp,hc⟩:=partAt_has ht.ps (z:=z) (by omega)
  rw [hc] at ha
  have hm:=(partFor_some hp).1
  refine ⟨x,rfl,?_,k,p,hz,hk,hp,?_⟩
  ·rcases hok.st with e | e | e
   ·rw [hok.act e] at hm;cases hm
   ·exact e
   ·have:=((hok.com e).1 p hm).1
    have:=(code_one (by omega)).1 ha
    omega
  ·by_cases e6:x.st=6
   ·have:=((hok.com e6).1 p hm).1
    exact (code_one (by omega)).1 ha
   ·exact (code_one (hok.votes e6 p hm)).1 ha
theorem mine_not {x:RDeal} (hok:x.Ok) {T:ATx} (hT:T.parts=codes x.st x.parts) {z:Int} (ha:partAt T z≠1):x.parts.any (mineP z)=false:=by
 rw [List.any_eq_false]
 intro p hp
 unfold mineP
 simp
 intro e e0
 have hb:=hok.up.b p hp
 subst e
 rw [partAt_codes hT (by omega),hok.up.for hp] at ha
 exact ha (by simp [RPart.code,e0])
theorem CRel.vote_nz (h:CRel c R) {t:Nat} {z v:Int} (ha:partAt (c.tx t) z≠1):R.vote t z v=R:=by
 unfold RCo.vote
 cases hx:dealAt R.deals t with
 | none=>rw [dealAt_nix hx]
 | some x =>
  obtain ⟨i,h1,h2,h3⟩:=dealAt_ix hx
  rw [h1];show (match R.deals[i]? with | none=>R | some x=>_)=_
  rw [h2];show (if _ then _ else R)=_
  split
  ·unfold RCo.voted
   rw [mine_not (h.ok x (dealAt_mem hx).1).1 (h.tx_some hx).1.ps ha]
   rfl
  ·rfl
theorem RCo.vote_x {t:Nat} {z v:Int} (h2:v≠2) (h3:v≠3) (h4:v≠4):R.vote t z v=R:=by
 unfold RCo.vote
 split
 ·rfl
 ·split
  ·rfl
  ·rw [if_neg (by omega)]
theorem voteP_shard (z:Int) (v:Nat) (p:RPart):(voteP z v p).shard=p.shard:=by unfold voteP;split <;> rfl
theorem leftP_shard (p:RPart):(leftP p).shard=p.shard:=by unfold leftP;split <;> rfl
theorem doneP_shard (z:Int) (p:RPart):(doneP z p).shard=p.shard:=by unfold doneP;split <;> rfl
theorem vote_codes {x:RDeal} {k v:Nat} {p:RPart} (hp:partFor x.parts k=some p) (h0:p.vote=0) (hv:v=2∨v=3∨v=4):(codes 5 x.parts).set k v=codes 5 (x.parts.map (voteP (k:Int) v)):=by
 refine codes_set (voteP_shard _ _) hp ?_ fun y hy hne=>?_
 ·unfold voteP
  rw [if_pos ⟨by rw [(partFor_some hp).2],h0⟩,code_v (by decide)]
  simp only
  rw [if_neg (by omega)]
 ·unfold voteP
  rw [if_neg (by omega)]
theorem mine_has {x:RDeal} {k:Nat} {p:RPart} (hp:partFor x.parts k=some p) (h0:p.vote=0):x.parts.any (mineP (k:Int))=true:=by
 rw [List.any_eq_true]
 exact ⟨p,(partFor_some hp).1,by unfold mineP;simp [(partFor_some hp).2,h0]⟩
theorem mem_vote {ps:List RPart} {z:Int} {v:Nat} {q:RPart} (h:q∈ps.map (voteP z v)):∃ p∈ps,q.shard=p.shard∧q.left=p.left∧(q.vote=p.vote∨q.vote=v):=by
 obtain ⟨p,hp,rfl⟩:=List.mem_map.1 h
 refine ⟨p,hp,?_⟩
 unfold voteP
 split
 ·exact ⟨rfl,rfl,.inr rfl⟩
 ·exact ⟨rfl,rfl,.inl rfl⟩
theorem vote_eq {t:Nat} {x:RDeal} (hx:dealAt R.deals t=some x) (h5:x.st=5) {z:Int} {v:Nat} (hv:v=2∨v=3∨v=4):∃ i,R.deals[i]?=some x∧R.vote t z (v:Int)=R.voted i x z v t:=by
 obtain ⟨i,h1,h2,h3⟩:=dealAt_ix hx
 refine ⟨i,h2,?_⟩
 unfold RCo.vote
 rw [h1];show (match R.deals[i]? with | none=>R | some x=>_)=_
 rw [h2];show (if _ then _ else R)=_
 rw [if_pos ⟨h5,by omega,by omega⟩]
 rfl
theorem any_awZ {ps:List RPart} (h:PsUp ps) (hv:∀ p∈ps,p.vote≠1):(codes 5 ps).any isAw=ps.any isZ:=by
 rw [any_codes (by decide) h]
 rw [Bool.eq_iff_iff,List.any_eq_true,List.any_eq_true]
 refine exists_congr fun p=>and_congr_right fun hp=>?_
 rw [code_v (by decide)]
 unfold isAw isZ
 have:=hv p hp
 by_cases e:p.vote=0
 ·simp [e]
 ·simp [e,this]
theorem CRel.vote (h:CRel c R) {t:Nat} {x:RDeal} (hx:dealAt R.deals t=some x) (h5:x.st=5) {k v:Nat} {p:RPart} (hp:partFor x.parts k=some p) (h0:p.vote=0) (hv:v=2∨v=3∨v=4) :
  (v=3→CRel (c.saidNo t k) (R.vote t (k:Int) (v:Int))∧dealAt (R.vote t (k:Int) (v:Int)).deals t=none) ∧
  (v≠3→((c.tx t).parts.set k v).any isAw=true→CRel { c with txns:=alPut c.txns t { c.tx t with parts:=(c.tx t).parts.set k v } } (R.vote t (k:Int) (v:Int))∧((dealAt (R.vote t (k:Int) (v:Int)).deals t).map RDeal.st)=some 5) ∧
  (v≠3→((c.tx t).parts.set k v).any isAw=false→((c.tx t).parts.set k v).any hasY=false→CRel { c with txns:=alDel c.txns t,res:=c.res++[(t,5)] } (R.vote t (k:Int) (v:Int))∧dealAt (R.vote t (k:Int) (v:Int)).deals t=none) ∧
  (v≠3→((c.tx t).parts.set k v).any isAw=false→((c.tx t).parts.set k v).any hasY=true→CRel (c.comm t { c.tx t with parts:=(c.tx t).parts.set k v,state:=6 }) (R.vote t (k:Int) (v:Int))∧((dealAt (R.vote t (k:Int) (v:Int)).deals t).map RDeal.st)=some 6):=by
 obtain ⟨i,hi,e⟩:=vote_eq hx h5 (z:=(k:Int)) hv
 obtain ⟨hT,hlk⟩:=h.tx_some hx
 have hok:=(h.ok x (dealAt_mem hx).1).1
 obtain rfl:x.id=t:=(dealAt_mem hx).2
 have hcs:=vote_codes hp h0 hv
 have hvo:=(hok.vot h5).2
 have hps:=hT.ps
 rw [h5] at hps
 rw [e,hps,hcs]
 obtain ⟨ps',hps'⟩:∃ ps',ps'=x.parts.map (voteP (k:Int) v):=⟨_,rfl⟩
 have hup:PsUp ps':=by rw [hps'];exact hok.up.map (voteP_shard _ _)
 have hmem:∀ q∈ps',(q.vote=0∨q.vote=2∨q.vote=4∨q.vote=v)∧q.left=false:=fun q hq=>by
  rw [hps'] at hq
  obtain ⟨y,hy,_,h2,h3⟩:=mem_vote hq
  have:=hvo y hy
  exact ⟨by omega,by rw [h2];exact this.2⟩
 have hne1:∀ q∈ps',q.vote≠1:=fun q hq=>by have:=(hmem q hq).1;omega
 have hm:x.parts.any (mineP (k:Int))=true:=mine_has hp h0
 rw [← hps',any_awZ hup hne1]
 have hsin:(c.tx x.id).since≤c.ticks:=h.sin _ (alLook_mem hlk)
 have hage:=hT.age h5
 unfold RCo.voted
 rw [hm,← hps']
 simp only [Bool.true_eq_false,if_false]
 have gone:dealAt (R.deals.take i++R.deals.drop (i+1)) x.id=none:=dealAt_none.2 fun z hz=>by exact ((mem_drop h.asc hi).1 hz).2
 have got:∀ y:RDeal,y.id=x.id→dealAt (R.deals.set i y) x.id=some y:=fun y hy=>by
  have:=(h.asc.set hi hy).at (set_has hi)
  rw [hy] at this
  exact this
 refine ⟨fun e3=>?_,fun n3 ha=>?_,fun n3 ha hy=>?_,fun n3 ha hy=>?_⟩
 ·rw [if_pos e3]
  unfold RCo.undone RCo.setAt
  simp only
  rw [set_drop]
  refine ⟨?_,gone⟩
  have:=h.delOne (L':=fun _=>0) (res:=R.res++[(x.id,6)]) hi (fun _ _=>rfl) (show c.out++(meant mayP (codes 5 ps')).map (fun k=>(x.id,k,6))=R.out++undoL x.id ps' by
   rw [meant_codes (by decide) hup,may_undo (by decide) hne1,h.out];unfold undoL;rw [List.map_map];rfl)
  unfold ACo.saidNo
  subst e3
  rw [hps,hcs,← hps',h.res]
  exact this
 ·rw [if_neg n3,ha,if_pos rfl]
  unfold RCo.setAt
  simp only
  refine ⟨?_,by rw [got { x with parts:=ps' } rfl];exact congrArg some h5⟩
  have:=h.setOne (y:={ x with parts:=ps' }) (T:={ c.tx x.id with parts:=codes 5 ps' }) (res:=R.res) hi rfl ⟨hT.st,by rw [h5],fun _=>hage⟩ hsin ⟨hok.st,hup,(fun e=>by simp only at e;omega),(fun _=>⟨(hok.vot h5).1,fun q hq=>by have:=hmem q hq;exact ⟨by omega,this.2⟩⟩),(fun e=>by simp only at e;omega),(fun _=>by rw [hps'];simpa using hok.ne h5)⟩ h.out
  rw [h.res]
  exact this
 ·rw [if_neg n3,ha]
  have hy2:ps'.any isY=false:=by
   rw [any_codes (by decide) hup,List.any_eq_false] at hy
   rw [List.any_eq_false]
   intro q hq
   have:=hy q hq
   rw [code_v (by decide)] at this
   unfold isY
   unfold hasY at this
   intro e2
   apply this
   have e2':q.vote=2:=by simpa using e2
   rw [e2']
   rfl
  rw [hy2]
  simp only [Bool.false_eq_true,if_false,if_true]
  refine ⟨?_,gone⟩
  have:=h.delOne (L':=fun _=>0) (res:=R.res++[(x.id,5)]) hi (fun _ _=>rfl) h.out
  rw [h.res]
  exact this
 ·rw [if_neg n3,ha]
  have hy2:ps'.any isY=true:=by
   rw [any_codes (by decide) hup,List.any_eq_true] at hy
   rw [List.any_eq_true]
   obtain ⟨q,hq,hy⟩:=hy
   refine ⟨q,hq,?_⟩
   rw [code_v (by decide)] at hy
   unfold hasY at hy
   unfold isY
   have:=(hmem q hq).1
   have hz:¬ q.vote=0:=fun e0=>by
    have:=List.any_eq_false.1 ha q hq
    unfold isZ at this
    exact this (by simp [e0])
   rw [if_neg hz] at hy
   simp at hy ⊢
   omega
  rw [hy2]
  simp only [Bool.false_eq_true,if_false,Bool.true_eq_false]
  have hz:∀ q∈ps',q.vote=2∨q.vote=4:=fun q hq=>by
   have h1:=(hmem q hq).1
   have h2:=List.any_eq_false.1 ha q hq
   unfold isZ at h2
   have h3:¬ q.vote=0:=fun e0=>h2 (by simp [e0])
   omega
  have hcl:codes 6 (ps'.map leftP)=codes 5 ps':=codes_map leftP_shard fun y hy=>by
   rcases hz y hy with e | e <;> simp [leftP,RPart.code,e]
  refine ⟨?_,by rw [got ⟨x.id,6,x.age,ps'.map leftP⟩ rfl];rfl⟩
  have hupl:=hup.map leftP_shard
  have:=h.setOne (y:=⟨x.id,6,x.age,ps'.map leftP⟩) (T:={ c.tx x.id with parts:=codes 5 ps',state:=6 }) (res:=R.res++[(x.id,5)]) hi rfl ⟨rfl,hcl.symm,(fun e=>by cases e)⟩ hsin ⟨.inr (.inr rfl),hupl,(fun e=>by cases e),(fun e=>by cases e),fun _=>⟨fun q hq=>by
   obtain ⟨y,hy,rfl⟩:=List.mem_map.1 hq
   have h1:=(hmem y hy).2
   rcases hz y hy with e | e <;> simp [leftP,e,h1],by
   rw [List.any_eq_true] at hy2 ⊢
   obtain ⟨q,hq,hy⟩:=hy2
   unfold isY at hy
   simp at hy
   exact ⟨leftP q,List.mem_map.2 ⟨q,hq,rfl⟩,by simp [leftP,hy]⟩⟩,(fun e=>by cases e)⟩ (show c.out++(meant isToC (codes 5 ps')).map (fun k=>(x.id,k,5))=R.out++toPs isY x.id 5 ps' by
   rw [meant_codes (by decide) hup,h.out]
   unfold toPs
   rw [List.map_map]
   congr 1
   have:(ps'.filter fun p=>isToC (p.code 5))=ps'.filter isY:=List.filter_congr fun q hq=>by
    rcases hz q hq with e | e <;> simp [isToC,isY,RPart.code,e]
   rw [this]
   rfl)
  unfold ACo.comm
  rw [h.res]
  exact this
end
section
variable {c:ACo} {R:RCo}
theorem code_left {x:RDeal} (hok:x.Ok) (h6:x.st=6) {p:RPart} (hp:p∈x.parts):p.code 6=2↔p.left=true:=by
 have:=(hok.com h6).1 p hp
 unfold RPart.code
 rcases this.1 with e | e
 ·rw [if_neg (by omega),if_pos e]
  cases hl:p.left <;> simp
 ·rw [if_neg (by omega),if_neg (by omega)]
  constructor
  ·intro h;omega
  ·intro h;have:=this.2 h;omega
theorem doneB_of {t:Nat} {x:RDeal} {z:Int} (hx:dealAt R.deals t=some x):R.doneB t z=(decide (x.st=6) && !((x.parts.map (doneP z)).any (·.left))):=by unfold RCo.doneB;rw [hx]
theorem done_of {t:Nat} {x:RDeal} {z:Int} (hx:dealAt R.deals t=some x):∃ i,R.deals[i]?=some x∧R.done t z=if x.st=6 then (if (x.parts.map (doneP z)).any (·.left) then R.setAt i { x with parts:=x.parts.map (doneP z) } else R.without i) else R:=by
 obtain ⟨i,h1,h2,h3⟩:=dealAt_ix hx
 refine ⟨i,h2,?_⟩
 unfold RCo.done
 rw [h1];show (match R.deals[i]? with | none=>R | some x=>_)=_
 rw [h2]
theorem CRel.done_st (h:CRel c R) {t:Nat} {z:Int} (h6:(c.tx t).state≠6):R.done t z=R∧R.doneB t z=false:=by
 rw [h.status] at h6
 cases hx:dealAt R.deals t with
 | none =>
  constructor
  ·unfold RCo.done;rw [dealAt_nix hx]
  ·unfold RCo.doneB;rw [hx]
 | some x =>
  rw [hx] at h6
  simp at h6
  obtain ⟨i,_,e⟩:=done_of (z:=z) hx
  rw [e,if_neg h6,doneB_of hx]
  exact ⟨rfl,by simp [h6]⟩
theorem setAt_same {i:Nat} {x:RDeal} (hi:R.deals[i]?=some x):R.setAt i x=R:=by
 unfold RCo.setAt
 have:R.deals.set i x=R.deals:=by
  refine List.ext_getElem? fun j=>?_
  by_cases e:i=j
  ·subst e;rw [List.getElem?_set_self (List.getElem?_eq_some_iff.1 hi).1,hi]
  ·rw [List.getElem?_set_ne e]
 rw [this]
theorem CRel.done_nz (h:CRel c R) {t:Nat} {z:Int} (h6:(c.tx t).state=6) (hp:partAt (c.tx t) z≠2):R.done t z=R∧R.doneB t z=false:=by
 rw [h.status] at h6
 cases hx:dealAt R.deals t with
 | none=>rw [hx] at h6;cases h6
 | some x =>
  rw [hx] at h6
  simp at h6
  have hok:=(h.ok x (dealAt_mem hx).1).1
  have hps:=(h.tx_some hx).1.ps
  have same:x.parts.map (doneP z)=x.parts:=by
   have:∀ p∈x.parts,doneP z p=p:=fun p hpm=>by
    unfold doneP
    split
    ·rename_i e
     have hb:=hok.up.b p hpm
     subst e
     rw [partAt_codes hps (by omega),hok.up.for hpm] at hp
     simp only [Option.map_some,Option.getD_some] at hp
     rw [h6] at hp
     have hl:¬ p.left=true:=fun hl=>hp ((code_left hok h6 hpm).2 hl)
     cases p
     simp at hl ⊢
     exact hl
    ·rfl
   conv=>rhs;rw [← List.map_id x.parts]
   exact List.map_congr_left this
  obtain ⟨i,hi,e⟩:=done_of (z:=z) hx
  rw [e,if_pos h6,doneB_of hx,same,(hok.com h6).2]
  exact ⟨by rw [if_pos rfl];exact setAt_same hi,by simp⟩
theorem CRel.done (h:CRel c R) {t:Nat} {z:Int} (h6:(c.tx t).state=6) (hp:partAt (c.tx t) z=2):∃ k:Nat,z=(k:Int)∧k<9∧(c.tx t).parts.getD k 0=2 ∧
  (((c.tx t).parts.set k 5).any isToC=true→R.doneB t z=false∧CRel { c with txns:=alPut c.txns t { c.tx t with parts:=(c.tx t).parts.set k 5 } } (R.done t z)) ∧
  (((c.tx t).parts.set k 5).any isToC=false→R.doneB t z=true∧CRel { c with txns:=alDel c.txns t } (R.done t z)):=by
 have hst:=h6
 rw [h.status] at h6
 cases hx:dealAt R.deals t with
 | none=>rw [hx] at h6;cases h6
 | some x =>
  rw [hx] at h6
  simp at h6
  have hok:=(h.ok x (dealAt_mem hx).1).1
  obtain ⟨hT,hlk⟩:=h.tx_some hx
  have hps:=hT.ps
  obtain ⟨k,p,rfl,hk,hpf,hc⟩:=partAt_has hps (z:=z) (by omega)
  have hsin:(c.tx t).since≤c.ticks:=h.sin _ (alLook_mem hlk)
  rw [h6] at hps hc
  have hpc:p.code 6=2:=by rw [← hc];exact hp
  have hpm:=(partFor_some hpf).1
  have hl:p.left=true:=(code_left hok h6 hpm).1 hpc
  have hv:p.vote=2:=((hok.com h6).1 p hpm).2 hl
  obtain rfl:x.id=t:=(dealAt_mem hx).2
  have hset:(codes 6 x.parts).set k 5=codes 6 (x.parts.map (doneP (k:Int))):=by
   refine codes_set (doneP_shard _) hpf ?_ fun y hy hne=>?_
   ·unfold doneP
    rw [if_pos (by rw [(partFor_some hpf).2])]
    simp [RPart.code,hv]
   ·unfold doneP
    rw [if_neg (by omega)]
  obtain ⟨ps',hps'⟩:∃ ps',ps'=x.parts.map (doneP (k:Int)):=⟨_,rfl⟩
  have hup:PsUp ps':=by rw [hps'];exact hok.up.map (doneP_shard _)
  have hmem:∀ q∈ps',(q.vote=2∨q.vote=4)∧(q.left=true→q.vote=2):=fun q hq=>by
   rw [hps'] at hq
   obtain ⟨y,hy,rfl⟩:=List.mem_map.1 hq
   have:=(hok.com h6).1 y hy
   unfold doneP
   split
   ·exact ⟨this.1,fun e=>by cases e⟩
   ·exact this
  have hany:(codes 6 ps').any isToC=ps'.any (·.left):=by
   rw [any_codes (by decide) hup]
   rw [Bool.eq_iff_iff,List.any_eq_true,List.any_eq_true]
   refine exists_congr fun q=>and_congr_right fun hq=>?_
   have:=hmem q hq
   unfold isToC RPart.code
   rcases this.1 with e | e
   ·cases hl:q.left <;> simp [e]
   ·have:¬ q.left=true:=fun hl=>by have:=this.2 hl;omega
    simp [e,this]
  refine ⟨k,rfl,hk,?_,?_⟩
  ·rw [hps,codes_at hk,hpf];exact hpc
  ·obtain ⟨i,hi,e⟩:=done_of (z:=(k:Int)) hx
   rw [e,if_pos h6,doneB_of hx,← hps',hps,hset,← hps',hany]
   refine ⟨fun ha=>?_,fun ha=>?_⟩
   ·rw [ha,if_pos rfl]
    refine ⟨by simp,?_⟩
    have:=h.setOne (y:={ x with parts:=ps' }) (T:={ c.tx x.id with parts:=codes 6 ps' }) (res:=R.res) hi rfl ⟨hT.st,by rw [h6],hT.age⟩ hsin ⟨hok.st,hup,(fun e=>by simp only at e;omega),(fun e=>by simp only at e;omega),(fun _=>⟨hmem,ha⟩),(fun e=>by simp only at e;omega)⟩ h.out
    rw [h.res]
    exact this
   ·rw [ha,if_neg (by simp)]
    refine ⟨by simp [h6],?_⟩
    have:=h.delOne (L':=fun _=>0) (res:=R.res) hi (fun _ _=>rfl) h.out
    rw [h.res]
    exact this
theorem tickOne_of {t:Nat} {x:RDeal} (hx:dealAt R.deals t=some x):∃ i,R.deals[i]?=some x∧R.tickOne t=if x.st=5 then (if x.age+1=8 then (R.setAt i { x with age:=x.age+1 }).undone i { x with age:=x.age+1 } else { R with deals:=R.deals.set i { x with age:=x.age+1 },out:=R.out++toPs isZ x.id 1 x.parts })
   else if x.st=6 then { R with out:=R.out++toPs (·.left) x.id 5 x.parts } else R:=by
 obtain ⟨i,h1,h2,h3⟩:=dealAt_ix hx
 refine ⟨i,h2,?_⟩
 unfold RCo.tickOne
 rw [h1];show (match R.deals[i]? with | none=>R | some x=>_)=_
 rw [h2]
theorem tickOne_rel {L L':Nat→Nat} (h:CRelL L c R) {t:Nat} {x:RDeal} (hx:dealAt R.deals t=some x) (hL:∀ s,s≠t→L' s=L s) (h1:L t=1) (h0:L' t=0):CRelL L' (c.tickOne (t,c.tx t)) (R.tickOne t)∧(∀ s,s≠t→alLook (c.tickOne (t,c.tx t)).txns s=alLook c.txns s)∧(∀ s,s≠t→dealAt (R.tickOne t).deals s=dealAt R.deals s):=by
 have hok:=(h.ok x (dealAt_mem hx).1).1
 obtain ⟨hT,hlk⟩:=h.tx_some hx
 obtain ⟨i,hi,e⟩:=tickOne_of hx
 obtain rfl:x.id=t:=(dealAt_mem hx).2
 have hps:=hT.ps
 have hsin:(c.tx x.id).since≤c.ticks:=h.sin _ (alLook_mem hlk)
 rw [e]
 have setd:∀ y:RDeal,y.id=x.id→∀ s,s≠x.id→dealAt (R.deals.set i y) s=dealAt R.deals s:=fun y hy s hs=>by
  cases hd:dealAt R.deals s with
  | none =>
   refine dealAt_none.2 fun z hz=>?_
   rcases mem_set h.asc hi hz with rfl | ⟨h1,h2⟩
   ·omega
   ·exact dealAt_none.1 hd z h1
  | some z =>
   obtain ⟨hm,rfl⟩:=dealAt_mem hd
   refine (h.asc.set hi hy).at ?_
   obtain ⟨j,hj⟩:=List.mem_iff_getElem?.1 hm
   have:i≠j:=fun e=>by subst e;rw [hi] at hj;cases hj;exact hs rfl
   exact List.mem_of_getElem? (i:=j) (by rw [List.getElem?_set_ne this];exact hj)
 have deld:∀ s,s≠x.id→dealAt (R.deals.take i++R.deals.drop (i+1)) s=dealAt R.deals s:=fun s hs=>by
  cases hd:dealAt R.deals s with
  | none=>exact dealAt_none.2 fun z hz=>dealAt_none.1 hd z ((mem_drop h.asc hi).1 hz).1
  | some z =>
   obtain ⟨hm,rfl⟩:=dealAt_mem hd
   have ha:DAsc (R.deals.take i++R.deals.drop (i+1)):=h.asc.sublist (drop_sub _ _)
   exact ha.at ((mem_drop h.asc hi).2 ⟨hm,hs⟩)
 unfold ACo.tickOne
 simp only
 rw [hT.st]
 by_cases h5:x.st=5
 ·rw [if_pos h5,if_pos h5]
  have hage:=hT.age h5
  have hab:=(hok.vot h5).1
  by_cases h8:x.age+1=8
  ·rw [if_pos h8,if_pos (by omega)]
   unfold RCo.undone RCo.setAt
   simp only
   rw [set_drop]
   refine ⟨undone_rel h hi hL (by omega),fun s hs=>?_,deld⟩
   unfold ACo.aborted
   simp only
   rw [alLook_del,if_neg hs]
  ·rw [if_neg h8,if_neg (by omega)]
   refine ⟨?_,fun s hs=>rfl,setd _ rfl⟩
   have:=h.turn (y:={ x with age:=x.age+1 }) (L':=L') (ts:=c.txns) (T:=c.tx x.id) (res:=R.res) hi hL rfl h.o1 h.sin (fun t=>by
    by_cases e:t=x.id
    ·rw [if_pos e,e];exact hlk
    ·rw [if_neg e]) ⟨hT.st,hps,fun _=>by rw [h0];simp only;omega⟩ ⟨hok.st,hok.up,hok.act,(fun _=>⟨by simp only;omega,(hok.vot h5).2⟩),(fun e=>by simp only at e;omega),hok.ne⟩ (show c.out++(meant isAw (c.tx x.id).parts).map (fun k=>(x.id,k,1))=R.out++toPs isZ x.id 1 x.parts by
    rw [hps,h5,meant_codes (by decide) hok.up,h.out]
    unfold toPs
    rw [List.map_map]
    congr 1
    have:(x.parts.filter fun p=>isAw (p.code 5))=x.parts.filter isZ:=List.filter_congr fun q hq=>by
     have:=((hok.vot h5).2 q hq).1
     rcases this with e | e | e <;> simp [isAw,isZ,RPart.code,e]
    rw [this]
    rfl)
   rw [h.res]
   exact this
 ·rw [if_neg h5,if_neg h5]
  have hsame:CRelL L' c R:=⟨h.asc,fun y hy=>by
   obtain ⟨T,hT2,hi2⟩:=h.som y hy
   refine ⟨T,hT2,hi2.st,hi2.ps,fun e5=>?_⟩
   have:y.id≠x.id:=fun e=>by
    have h3:=h.asc.at hy
    rw [e,hx] at h3
    cases h3
    exact h5 e5
   rw [hL _ this];exact hi2.age e5,h.non,h.ok,h.len,h.o1,h.sin,h.next,h.res,h.out⟩
  by_cases h6:x.st=6
  ·rw [if_pos h6,if_pos h6]
   refine ⟨hsame.outs ?_,fun s hs=>rfl,fun s hs=>rfl⟩
   rw [hps,h6,meant_codes (by decide) hok.up,h.out]
   unfold toPs
   rw [List.map_map]
   congr 1
   have:(x.parts.filter fun p=>isToC (p.code 6))=x.parts.filter (·.left):=List.filter_congr fun q hq=>by
    rw [Bool.eq_iff_iff]
    have:=code_left hok h6 hq
    unfold isToC
    simpa using this
   rw [this]
   rfl
  ·rw [if_neg h6,if_neg h6]
   exact ⟨hsame,fun s hs=>rfl,fun s hs=>rfl⟩
theorem ticks_rel:∀ (ids:List Nat) (c c0:ACo) (R:RCo),ids.Nodup→CRelL (fun t=>if t∈ids then 1 else 0) c R→(∀ t∈ids,(dealAt R.deals t).isSome∧alLook c.txns t=alLook c0.txns t)→CRel ((ids.map fun k=>(k,(alLook c0.txns k).getD tx0)).foldl ACo.tickOne c) (ids.foldl RCo.tickOne R):=by
 intro ids
 induction ids with
 | nil=>intro c c0 R _ h _;simpa using h
 | cons t r ih =>
  intro c c0 R hnd h hin
  obtain ⟨hn1,hn2⟩:=List.nodup_cons.1 hnd
  obtain ⟨hs,hlk⟩:=hin t (by simp)
  obtain ⟨x,hx⟩:=Option.isSome_iff_exists.1 hs
  rw [List.map_cons,List.foldl_cons,List.foldl_cons]
  have key:=tickOne_rel (L':=fun s=>if s∈r then 1 else 0) h hx (fun s hs=>by simp [hs]) (by simp) (by simp [hn1])
  have e:(alLook c0.txns t).getD tx0=c.tx t:=by unfold ACo.tx;rw [hlk]
  rw [e]
  refine ih _ c0 _ hn2 key.1 fun s hs=>?_
  have hne:s≠t:=fun e=>hn1 (e▸hs)
  obtain ⟨h1,h2⟩:=hin s (by simp [hs])
  exact ⟨by rw [key.2.2 s hne];exact h1,by rw [key.2.1 s hne];exact h2⟩
theorem CRel.tick (h:CRel c R):CRel c.tick R.tick:=by
 unfold ACo.tick RCo.tick atX
 rw [h.keysU]
 have hids:(R.deals.map (·.id)).Nodup:=by
  unfold List.Nodup
  rw [List.pairwise_map]
  exact h.asc.imp fun hab=>by omega
 refine ticks_rel _ _ c _ hids ⟨h.asc,fun x hx=>?_,h.non,h.ok,h.len,h.o1,fun x hx=>Nat.le_succ_of_le (h.sin x hx),h.next,h.res,h.out⟩ fun t ht=>⟨?_,rfl⟩
 ·obtain ⟨T,hT,hi⟩:=h.som x hx
  refine ⟨T,hT,hi.st,hi.ps,fun e5=>?_⟩
  have:=hi.age e5
  rw [if_pos (List.mem_map.2 ⟨x,hx,rfl⟩)]
  simp only
  omega
 ·obtain ⟨x,hx,rfl⟩:=List.mem_map.1 ht
  rw [h.asc.at hx]
  rfl
end
theorem res_slice {w:World} {b:Nat} {v:Value} {T:List (Nat × Nat)} (h:w.ownsRow b 216 2 v T.length (resV T)):∃ ao c,v=.slice ao T.length c∧(∀ i x,T[i]?=some x→∃ g,ao=some ⟨g,0,none⟩∧w.cell? ⟨g,i*2,none⟩=some (.int .u64 (x.1:Int))∧w.cell? ⟨g,i*2+1,none⟩=some (.int .i64 (x.2:Int))):=by
 rcases h.2 with ⟨e,h0⟩ | ⟨g,cap,cur,e,rest⟩
 ·refine ⟨none,0,by rw [e,h0],fun i p hp=>?_⟩
  have:=(List.getElem?_eq_some_iff.1 hp).1
  omega
 ·refine ⟨some ⟨g,0,none⟩,cap,e,fun i p hp=>⟨g,rfl,?_⟩⟩
  have key:=fun j hj=>flat_at (f:=resC) (k:=2) (fun _=>rfl) T i p hp j hj
  exact ⟨row_cell h e (key 0 (by decide)),row_cell h e (key 1 (by decide))⟩
theorem due_slice {w:World} {b:Nat} {v:Value} {T:List (Nat × Nat × Nat)} (h:w.ownsRow b 212 3 v T.length (dueV T)):∃ ao c,v=.slice ao T.length c∧(∀ i x,T[i]?=some x→∃ g,ao=some ⟨g,0,none⟩∧w.cell? ⟨g,i*3,none⟩=some (.int .u64 (x.1:Int))∧w.cell? ⟨g,i*3+1,none⟩=some (.int .i64 (x.2.1:Int))∧w.cell? ⟨g,i*3+2,none⟩=some (.int .i64 (x.2.2:Int))):=by
 rcases h.2 with ⟨e,h0⟩ | ⟨g,cap,cur,e,rest⟩
 ·refine ⟨none,0,by rw [e,h0],fun i p hp=>?_⟩
  have:=(List.getElem?_eq_some_iff.1 hp).1
  omega
 ·refine ⟨some ⟨g,0,none⟩,cap,e,fun i p hp=>⟨g,rfl,?_⟩⟩
  have key:=fun j hj=>flat_at (f:=dueC) (k:=3) (fun _=>rfl) T i p hp j hj
  exact ⟨row_cell h e (key 0 (by decide)),row_cell h e (key 1 (by decide)),row_cell h e (key 2 (by decide))⟩
set_option maxHeartbeats 1000000 in
theorem sameResults_same (b1 b2:Nat) (v1 v2:Value) (T:List (Nat × Nat)) (w:World) (h1:w.ownsRow b1 216 2 v1 T.length (resV T)) (h2:w.ownsRow b2 216 2 v2 T.length (resV T)) (hn:T.length≤1099511627776) :
  Calls Tryz.prog 159 #[v1,v2] w fun e w'=>e=.returned (.bool true)∧∃ q,w'=w.drewN q:=by
 obtain ⟨a1,c1,rfl,H1⟩:=res_slice h1
 obtain ⟨a2,c2,rfl,H2⟩:=res_slice h2
 have G1:=toHid H1
 have G2:=toHid H2
 clear H1 H2 h1 h2
 obtain ⟨n,hnn⟩:∃ n,n=T.length:=⟨_,rfl⟩
 rw [← hnn] at hn ⊢
 have HN:Hid (T.length=n):=hnn.symm
 clear hnn
 go_enter Tryz.func159,Tryz.ntmps159
 go_wp2
 go_loopw [5] (fun i wr=>∃ k:Nat,k≤n∧i=.int .i64 k∧∃ q,wr=w.drewN q) (fun i _=>n - (intOf i).toNat)
 case atStart=>exact ⟨0,Nat.zero_le _,rfl,0,rfl⟩
 case round =>
  obtain ⟨k,hk,rfl,q,rfl⟩:=hrel
  by_cases hlt:k<n
  ·obtain ⟨x,hx⟩:∃ x,T[k]?=some x:=⟨_,List.getElem?_eq_getElem (by rw [HN.out];exact hlt)⟩
   obtain ⟨g1,rfl,x0,x1⟩:=G1.out k x hx
   obtain ⟨g2,rfl,y0,y1⟩:=G2.out k x hx
   have i0:(0:Int)≤(k:Int):=by omega
   have i1:(k:Int)<(n:Int):=by omega
   obtain ⟨s1,s2⟩:=x
   simp only [] at x0 x1 y0 y1
   clear hx
   go_wp2
   go_quiet (fail)
   go_wp2
   go_roundw
   case rel=>exact ⟨k+1,by omega,by go_num,_,rfl⟩
   case measure=>simp [intOf];omega
  ·go_wp2
   go_ret
   exact ⟨rfl,q,rfl⟩
set_option maxHeartbeats 1000000 in
theorem sameDues_same (b1 b2:Nat) (v1 v2:Value) (T:List (Nat × Nat × Nat)) (w:World) (h1:w.ownsRow b1 212 3 v1 T.length (dueV T)) (h2:w.ownsRow b2 212 3 v2 T.length (dueV T)) (hn:T.length≤1099511627776) :
  Calls Tryz.prog 160 #[v1,v2] w fun e w'=>e=.returned (.bool true)∧∃ q,w'=w.drewN q:=by
 obtain ⟨a1,c1,rfl,H1⟩:=due_slice h1
 obtain ⟨a2,c2,rfl,H2⟩:=due_slice h2
 have G1:=toHid H1
 have G2:=toHid H2
 clear H1 H2 h1 h2
 obtain ⟨n,hnn⟩:∃ n,n=T.length:=⟨_,rfl⟩
 rw [← hnn] at hn ⊢
 have HN:Hid (T.length=n):=hnn.symm
 clear hnn
 go_enter Tryz.func160,Tryz.ntmps160
 go_wp2
 go_loopw [5] (fun i wr=>∃ k:Nat,k≤n∧i=.int .i64 k∧∃ q,wr=w.drewN q) (fun i _=>n - (intOf i).toNat)
 case atStart=>exact ⟨0,Nat.zero_le _,rfl,0,rfl⟩
 case round =>
  obtain ⟨k,hk,rfl,q,rfl⟩:=hrel
  by_cases hlt:k<n
  ·obtain ⟨x,hx⟩:∃ x,T[k]?=some x:=⟨_,List.getElem?_eq_getElem (by rw [HN.out];exact hlt)⟩
   obtain ⟨g1,rfl,x0,x1,x2⟩:=G1.out k x hx
   obtain ⟨g2,rfl,y0,y1,y2⟩:=G2.out k x hx
   have i0:(0:Int)≤(k:Int):=by omega
   have i1:(k:Int)<(n:Int):=by omega
   obtain ⟨s1,s2,s3⟩:=x
   simp only [] at x0 x1 x2 y0 y1 y2
   clear hx
   go_wp2
   go_quiet (fail)
   go_wp2
   go_roundw
   case rel=>exact ⟨k+1,by omega,by go_num,_,rfl⟩
   case measure=>simp [intOf];omega
  ·go_wp2
   go_ret
   exact ⟨rfl,q,rfl⟩
theorem CRelL.answer {L:Nat→Nat} {c:ACo} {R:RCo} (h:CRelL L c R) (t:Nat):answerOf (c.tx t).state=((dealAt R.deals t).map fun x=>if x.st=6 then 5 else 0).getD 6:=by
 rw [h.status]
 unfold answerOf
 cases hx:dealAt R.deals t with
 | none=>rfl
 | some x =>
  have:=(h.ok x (dealAt_mem hx).1).1.st
  simp only [Option.map_some,Option.getD_some]
  rw [if_neg (show ¬ x.st=0 by omega)]
section
variable [Inhabited Bs] (hp p cp gp bT lp bD bN m n jp mp mr:Nat) (c:ACo) (l:ALog) (d:ADisk) (cv:Value) (cs:List Value) (S:List Nat) (R:RCo) (w:World)
set_option maxRecDepth 100000 in
set_option maxHeartbeats 8000000 in
theorem jlooks_any (h:JIy w hp p cp gp bT lp bD bN m n c l d jp mp mr cv cs S R) (hg:CRel c R) (hnx:R.next≤1000000) :
  Calls Tryz.prog 42 #[.pointer (some ⟨jp,0,none⟩),.pointer (some ⟨mr,0,none⟩)] w fun e w'=>e=.returned (.bool true)∧∃ q,w'=w.drewN q:=by
 have k0:=blk_cell h.kb 0
 obtain ⟨_,xv,rv,ov,hb⟩:=h.ref.root
 have r1:=blk_cell hb 1
 simp at k0 r1
 have hst:∀ (t q:Nat),t<18446744073709551616→Calls Tryz.prog 88 #[.pointer (some ⟨hp,0,none⟩),.int .u64 (t:Int)] (w.drewN q) fun e w'=>e=.returned (.int .i64 ((((dealAt R.deals t).map RDeal.st).getD 0:Nat):Int))∧w'=w.drewN q:=fun t q ht=>by
  have:=hStatus_x B0 hp p cp gp bT lp bD bN m n t c l d (w.drewN q) (h.new ((Fr.refl [] w).drewM q)).host ht
  rw [hg.status] at this
  exact this
 have han:∀ (t q:Nat),t<18446744073709551616→Calls Tryz.prog 90 #[.pointer (some ⟨hp,0,none⟩),.int .u64 (t:Int)] (w.drewN q) fun e w'=>e=.returned (.int .i64 ((((dealAt R.deals t).map fun x=>if x.st=6 then 5 else 0).getD 6:Nat):Int))∧w'=w.drewN q:=fun t q ht=>by
  have:=hAnswer_x B0 hp p cp gp bT lp bD bN m n t c l d (w.drewN q) (h.new ((Fr.refl [] w).drewM q)).host ht
  rw [hg.answer] at this
  exact this
 have hks:∀ (t q:Nat),Calls Tryz.prog 89 #[.pointer (some ⟨mr,0,none⟩),.int .u64 (t:Int)] (w.drewN q) fun e w'=>e=.returned (.int .i64 ((((dealAt R.deals t).map RDeal.st).getD 0:Nat):Int))∧∃ q',w'=(w.drewN q).drewN q':=fun t q=>by
  obtain ⟨xv,rv,ov,ps,hi,_⟩:=(h.new ((Fr.refl [] w).drewM q)).ref
  exact kstatus_any mr t xv rv ov ps R _ hi (by rw [hi.len];have:=hg.len;omega)
 have hka:∀ (t q:Nat),Calls Tryz.prog 91 #[.pointer (some ⟨mr,0,none⟩),.int .u64 (t:Int)] (w.drewN q) fun e w'=>e=.returned (.int .i64 ((((dealAt R.deals t).map fun x=>if x.st=6 then 5 else 0).getD 6:Nat):Int))∧∃ q',w'=(w.drewN q).drewN q':=fun t q=>by
  obtain ⟨xv,rv,ov,ps,hi,_⟩:=(h.new ((Fr.refl [] w).drewM q)).ref
  exact kanswer_any mr t xv rv ov ps R _ hi (by rw [hi.len];have:=hg.len;omega)
 have HST:=toHid hst
 have HAN:=toHid han
 have HKS:=toHid hks
 have HKA:=toHid hka
 obtain ⟨M,hM⟩:∃ M,M=R.next+3:=⟨_,rfl⟩
 have iM:(R.next:Int)+3=(M:Int):=by omega
 have jM:IntKind.u64.wrap (M:Int)=(M:Int):=by rw [IntKind.wrap_u64];omega
 have hMb:M≤1000003:=by omega
 clear h hg hb hst han hks hka hM hnx
 go_enter Tryz.func42,Tryz.ntmps42
 go_wp2
 go_loopw [5] (fun i wr=>∃ k:Nat,k≤M∧i=.int .u64 k∧∃ q,wr=w.drewN q) (fun i _=>M - (intOf i).toNat)
 case atStart=>exact ⟨0,Nat.zero_le _,rfl,0,rfl⟩
 case round =>
  obtain ⟨k,hk,rfl,q,rfl⟩:=hrel
  by_cases hlt:k<M
  ·have i0:(k:Int)<(M:Int):=by omega
   obtain ⟨a,ha⟩:∃ a:Nat,a=((dealAt R.deals k).map RDeal.st).getD 0:=⟨_,rfl⟩
   obtain ⟨b,hb⟩:∃ b:Nat,b=((dealAt R.deals k).map fun x=>if x.st=6 then 5 else 0).getD 6:=⟨_,rfl⟩
   have f1:=HST.out k q (by omega)
   rw [← ha] at f1
   go_wp2_with fail
   refine f1.mono ?_
   rintro e w1 ⟨rfl,rfl⟩
   clear f1
   have f2:=HKS.out k q
   rw [← ha] at f2
   clear ha
   go_wp2_with fail
   refine f2.mono ?_
   rintro e w2 ⟨rfl,q2,rfl⟩
   clear f2
   rw [World.drewN_drewN]
   have f3:=HAN.out k (q+q2) (by omega)
   rw [← hb] at f3
   go_wp2_with fail
   refine f3.mono ?_
   rintro e w3 ⟨rfl,rfl⟩
   clear f3
   have f4:=HKA.out k (q+q2)
   rw [← hb] at f4
   clear hb
   go_wp2_with fail
   refine f4.mono ?_
   rintro e w4 ⟨rfl,q4,rfl⟩
   rw [World.drewN_drewN]
   clear f4
   go_wp2
   go_roundw
   case rel=>exact ⟨k+1,by omega,by go_num,_,rfl⟩
   case measure=>simp [intOf];omega
  ·go_wp2
   go_ret
   exact ⟨rfl,q,rfl⟩
end
theorem row_keeps {w w':World} {b q:Nat} {e e':TypeId} {size n:Nat} {v:Value} {xs:List Value} {cc:Array Value} {fr:Nat × Nat} (h:w.ownsRow b e size v n xs) (hf:Fr [q] w w') (hq:w.heap[q]?=some (.cells cc e' fr)) (hne:e≠e'):w'.ownsRow b e size v n xs :=
 ownsRow_fr h hf fun g hg hm=>by simp at hm;subst hm;exact own_ne h hq hne hg
theorem Tryz.eqNilR (n c:Nat) (w:World):(binOp .eql 138 (.slice none n c) (.slice none 0 0)).run Tryz.prog w=.ok (.bool true) w:=by kernel_rfl
theorem Tryz.eqNilD (n c:Nat) (w:World):(binOp .eql 139 (.slice none n c) (.slice none 0 0)).run Tryz.prog w=.ok (.bool true) w:=by kernel_rfl
section
variable [Inhabited Bs] (hp p cp gp bT lp bD bN m n jp mp:Nat) (c:ACo) (l:ALog) (d:ADisk) (cv:Value) (cs:List Value) (S:List Nat) (R:RCo) (w:World)
set_option maxRecDepth 100000 in
set_option maxHeartbeats 8000000 in
theorem jasks_any (h:JIn w hp p cp gp bT lp bD bN m n c l d jp mp cv cs S R) (hg:CRel c R) (hrl:R.res.length≤1048576) (hol:R.out.length≤1048576) :
  Calls Tryz.prog 93 #[.pointer (some ⟨jp,0,none⟩)] w fun e w'=>e=.returned (.bool true)∧∃ S',JIn w' hp p cp gp bT lp bD bN m n { c with res:=[],out:=[] } l d jp mp cv cs S' { R with res:=[],out:=[] }∧JFr w w':=by
 have k0:=blk_cell h.kb 0
 simp at k0
 have f1:=hResults_x B0 hp p cp gp bT lp bD bN m n c l d w h.host
 rw [hg.res] at f1
 have HG:Hid (c.out=R.out):=hg.out
 have eq1:=Tryz.eqNilR
 have eq2:=Tryz.eqNilD
 have HJ:=toHid h
 clear h hg
 go_enter Tryz.func93,Tryz.ntmps93
 go_wp2_with fail
 refine f1.mono ?_
 clear f1 k0
 rintro e w1 ⟨v1,rfl,ra,na,ha1,hh1,ha2,hf1,hx1⟩
 have J1:=HJ.out.cfr hh1 hx1
 have k1:=blk_cell J1.kb 1
 simp at k1
 obtain ⟨_,xv1,rv1,ov1,hb1⟩:=J1.ref.root
 have f2:=kresults_any mp S R w1 J1.ref
 have H1:=toHid (And.intro J1 (And.intro ra (And.intro hb1 (JFr.hostC HJ.out.host hx1))))
 have HNA:=toHid na
 clear J1 ra na ha1 hh1 ha2 hf1 hx1 hb1
 obtain ⟨aa,am,ac,rfl⟩:=own_sl H1.out.2.1
 go_wp2_with fail
 refine f2.mono ?_
 clear f2 k1
 rintro e w2 ⟨v2,S2,rfl,rb,hr2,hb2,hf2,hk2⟩
 have J2:=H1.out.1.kfr hk2 hr2
 have k2:=blk_cell J2.kb 0
 simp at k2
 have f3:=hOut_x B0 hp p cp gp bT lp bD bN m n _ l d w2 J2.host
 simp only [HG.out] at f3
 have hco2:=J2.host.2.co.isCo
 have H2:=toHid (And.intro J2 (And.intro (row_keeps H1.out.2.1 hf2 H1.out.2.2.1 (by decide)) (And.intro rb (And.intro hco2 (H1.out.2.2.2.trans (hk2.lfr H1.out.1.ref))))))
 clear J2 rb hr2 hb2 hf2 hk2 hco2 H1
 obtain ⟨ba,bm,bc,rfl⟩:=own_sl H2.out.2.2.1
 go_wp2_with fail
 refine f3.mono ?_
 clear f3 k2
 rintro e w3 ⟨v3,rfl,rc,nc,hc1,hh3,hc2,hf3,hx3⟩
 have J3:=H2.out.1.cfr hh3 hx3
 have k3:=blk_cell J3.kb 1
 simp at k3
 obtain ⟨_,xv3,rv3,ov3,hb3⟩:=J3.ref.root
 have f4:=kout_any mp S2 _ w3 J3.ref
 obtain ⟨cco,hcco⟩:=H2.out.2.2.2.1
 have H3:=toHid (And.intro J3 (And.intro (row_keeps H2.out.2.1 hf3 hcco (by decide)) (And.intro (row_keeps H2.out.2.2.1 hf3 hcco (by decide)) (And.intro rc (And.intro hb3 (H2.out.2.2.2.2.trans (JFr.hostC H2.out.1.host hx3)))))))
 have HNC:=toHid nc
 clear J3 rc nc hc1 hh3 hc2 hf3 hx3 hb3 hcco H2
 obtain ⟨ca,cm,cx,rfl⟩:=own_sl H3.out.2.2.2.1
 go_wp2_with fail
 refine f4.mono ?_
 clear f4 k3
 rintro e w4 ⟨v4,S4,rfl,rd4,hr4,hb4,hf4,hk4⟩
 obtain ⟨da,dm,dx,rfl⟩:=own_sl rd4
 have J4:=H3.out.1.kfr hk4 hr4
 have ra4:=row_keeps H3.out.2.1 hf4 H3.out.2.2.2.2.1 (by decide)
 have rb4:=row_keeps H3.out.2.2.1 hf4 H3.out.2.2.2.2.1 (by decide)
 have rc4:=row_keeps H3.out.2.2.2.1 hf4 H3.out.2.2.2.2.1 (by decide)
 have f5:=sameResults_same B0 B0 _ _ R.res w4 ra4 rb4 (by omega)
 have f6:=fun q=>sameDues_same B0 B0 _ _ R.out (w4.drewN q) (ownsRow_fr rc4 ((Fr.refl [] w4).drewM q) (by simp)) (ownsRow_fr rd4 ((Fr.refl [] w4).drewM q) (by simp)) (by omega)
 have H4:=toHid (And.intro J4 (H3.out.2.2.2.2.2.trans (hk4.lfr H3.out.1.ref)))
 have ela:am=R.res.length:=by
  rcases ra4.2 with ⟨e,h0⟩ | ⟨_,_,_,e,_⟩
  ·simp only [Value.slice.injEq] at e;omega
  ·simp only [Value.slice.injEq] at e;exact e.2.1
 have elc:cm=R.out.length:=by
  rcases rc4.2 with ⟨e,h0⟩ | ⟨_,_,_,e,_⟩
  ·simp only [Value.slice.injEq] at e;omega
  ·simp only [Value.slice.injEq] at e;exact e.2.1
 have hca:(am=0∧aa=none)∨(0:Int)<(am:Int):=by
  by_cases h0:am=0
  ·refine .inl ⟨h0,?_⟩
   have:=HNA.out (by omega)
   simp only [Value.slice.injEq] at this
   exact this.1
  ·exact .inr (by omega)
 have hcc:(cm=0∧ca=none)∨(0:Int)<(cm:Int):=by
  by_cases h0:cm=0
  ·refine .inl ⟨h0,?_⟩
   have:=HNC.out (by omega)
   simp only [Value.slice.injEq] at this
   exact this.1
  ·exact .inr (by omega)
 have HB4:Hid (∀ q,∃ S',JIn (w4.drewN q) hp p cp gp bT lp bD bN m n { c with res:=[],out:=[] } l d jp mp cv cs S' { R with res:=[],out:=[] }∧JFr w (w4.drewN q)):=fun q=>⟨S4,H4.out.1.new ((Fr.refl [] w4).drewM q),H4.out.2.trans (JFr.new ((Fr.refl [] w4).drewM q) H4.out.1.size)⟩
 clear J4 ra4 rb4 rc4 rd4 hr4 hb4 hf4 hk4 H3 HNA HNC ela elc
 go_wp2_with fail
 refine f5.mono ?_
 clear f5
 rintro e w5 ⟨rfl,q5,rfl⟩
 go_wp2_with fail
 refine (f6 _).mono ?_
 clear f6
 rintro e w6 ⟨rfl,q6,rfl⟩
 rw [World.drewN_drewN]
 rcases hca with ⟨rfl,rfl⟩ | ia <;> rcases hcc with ⟨rfl,rfl⟩ | ic
 all_goals
  go_wp2
  go_ret
  exact ⟨rfl,HB4.out _⟩
end
end Go.Proofs.YtejiankgafjppaaGreatDoor
