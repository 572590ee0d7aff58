import Derived.Test.YtdcafjmdfpjcbaaGreatDoorC39
import Derived.Test.YtdcafjmdfpjcbaaGreatDoorC37
set_option maxHeartbeats 400000
namespace Go.Proofs.YtdcafjmdfpjcbaaGreatDoor
open Go.RowKit Go.Maps Tryz Sc
variable{s:ByteArray}{ss:List Sg}{cs cs':List aK}{xs:List a_}{M N a b c kind mk t:Nat}{x:a_}{d:ah}{l:aq}{F:az}
theorem A9(e:Nat)(w:World):Calls prog 70 #[.int .i64 (e:Int)] w λv w'=>v=.returned (.bool<|decide<|e=9\/e=10)/\w'=w:=by
 by_cases h:e=9
 .subst h;go_enter func70,ntmps70;go_wp2;go_ret;exact⟨rfl,rfl⟩
 .by_cases j:e=10
  .subst j;go_enter func70,ntmps70;go_wp2;go_ret;exact⟨rfl,rfl⟩
  .have n9:¬(e:Int)=9:=oE;have n:¬(e:Int)=10:=oE;go_enter func70,ntmps70;go_wp2;go_ret;exact⟨by simp[h,j];exact⟨n9,n⟩,rfl⟩
theorem abx(c:Int)(n:Nat)(w:World)(om:-2^63<=c)(lI:c<=9223372036854775807)(hn:0<n)(D:n<=4398046511103):
  Calls prog 48 #[.int .i64 c,.int .i64 n] w λe w'=>∃r:Nat,r<n/\e=.returned (.int .i64 r)/\w'=w:=by
 have R:¬(n:Int)=0:=oE;by_cases h:c<0
 .go_enter func48,ntmps48;go_wp2;go_ret;have e:-(c+1).tmod (n:Int)=(-(c+1))%(n:Int):=by
   rw[<-Int.neg_tmod,Int.tmod_eq_emod_of_nonneg oE]
  have a:=Int.emod_nonneg (-(c+1)) R;have b:=Int.emod_lt_of_pos (-(c+1)) (show(0:Int)<n by omega);refine⟨((-(c+1))%(n:Int)).toNat,oE,zd ?_,rfl⟩;rw[e];omega
 .go_enter func48,ntmps48;go_wp2;go_ret;have a:=Int.emod_nonneg c R;have b:=Int.emod_lt_of_pos c (show(0:Int)<n by omega);exact⟨(c%(n:Int)).toNat,oE,zd oE,rfl⟩
def Holds(Q:Nat->List Sg->Prop)(F:az):Prop:=∃mk ss,br F mk ss/\iZ F mk ss/\Q mk ss
theorem jS{P:az->Prop}(h:P F):gF P (eI F):=gF.rest h rfl rfl
theorem gF.bj{P:az->Prop}(h:gF P d)(a b:Int):gF P (d.bj a b):=⟨h.left,h.now⟩
def aK.rest(R:aK):aK:=⟨R.table,R.af.filter λx=>decide (x.st=3)⟩
def iM(x:Option a_):Option a_:=x.bind λx=>if x.st=3 then some x else none
theorem kY(h:jg xs)(t:Nat):aU (xs.filter λx=>decide<|x.st=3) t=iM (aU xs t):=by
 induction xs with
 |nil=>rfl
 |cons y ys ih=>
  have⟨c,f⟩:=zzA.1 h;have ih:=ih f;by_cases b:y.id=t
  .have e:aU (y::ys) t=some y:=by unfold aU;rw[List.find?_cons_of_pos<|by simpa using b]
   rw[e];have B:aU ys t=none:=kS.2 λz d=>by have:=c z d;omega
   by_cases a:y.st=3
   .rw[List.filter_cons_of_pos<|by simpa using a];unfold aU iM;rw[List.find?_cons_of_pos<|by simpa using b];simp[a]
   .rw[List.filter_cons_of_neg<|by simpa using a,ih,B];simp[iM,a]
  .have e:aU (y::ys) t=aU ys t:=by unfold aU;rw[List.find?_cons_of_neg<|by simpa using b]
   rw[e,<-ih];by_cases a:y.st=3
   .rw[List.filter_cons_of_pos<|by simpa using a];unfold aU;rw[List.find?_cons_of_neg<|by simpa using b]
   .rw[List.filter_cons_of_neg<|by simpa using a]
theorem jg.ext{a b:List a_}(d:jg a)(f:jg b)(h:∀t,aU a t=aU b t):a=b:=by
 have hn:∀{l:List a_},jg l->l.Nodup:=λ{l} i=>List.Pairwise.imp (λv e=>by rw[e]at v;exact Nat.lt_irrefl _ v) i
 have hp:a.Perm b:=by
  refine(List.perm_ext_iff_of_nodup (hn d)<|hn f).2 λx=>⟨λc=>?_,λc=>?_⟩
  .have:=d.at c;rw[h]at this;exact(aN this).1
  .have:=f.at c;rw[<-h]at this;exact(aN this).1
 exact List.Perm.eq_of_pairwise (λx y _ _ j g=>absurd g oE) d f hp
theorem jg.rest(h:jg xs):jg (xs.filter λx=>decide<|x.st=3):=List.Pairwise.filter _ h
theorem A_{R a:aK}(b:jg R.af)(c:jg a.af)(d:R.table=a.table)(h:∀t,iM (aU R.af t)=iM (aU a.af t)):R.rest=a.rest:=by
 unfold aK.rest;rw[d,b.rest.ext c.rest λt=>by rw[kY b,kY c,h]]
section
variable{c T:Nat}{s:ag}{R:aK}
theorem VD(h:Rel s R)(t:Nat)(seq:Int)(k:ByteArray)(wr:Bool)(f:List aJ->List aJ):(R.op t seq k wr f).1.rest=R.rest:=by
 unfold aK.op;by_cases r:R.refuse t seq k=0
 .rw[if_pos r];have⟨_,_,_,b,_⟩:=jQ r;have m:(R.tx t).st≠3:=by
   unfold aK.tx;cases a:aU R.af t with
   |none=>simp
   |some x=>exact(b x a).1
  have hold:iM (aU R.af t)=none:=by
   cases a:aU R.af t with
   |none=>rfl
   |some x=>simp[iM,(b x a).1]
  have c:∀y:a_,y.id=t->y.st≠3->(⟨R.table,fH (began R.af t) y⟩:aK).rest=R.rest:=λy d g=>by
   refine A_ ((h.jh.began t).fH _) h.jh rfl λu=>?_
   show iM (aU (fH (began R.af t) y) u)=_;rw[vC,d,pw];by_cases e:u=t
   .subst e;rw[if_pos rfl,if_pos rfl,hold];simp[iM,g]
   .rw[if_neg e,if_neg e]
  split
  .exact c _ (yt R t)<|by show(2:Nat)≠3;omega
  .exact c _ (yt R t) m
 .rw[if_neg r]
theorem Oq(h:Rel s R):R.tick.rest=R.rest:=by
 have b:=(Rel.tick h).jh;refine A_ b h.jh rfl λt=>?_
 show iM (aU (R.af.filterMap a_.eF) t)=_;rw[t_ h.jh];cases c:aU R.af t with
 |none=>rfl
 |some x=>
  show iM (x.eF)=iM (some x);unfold a_.eF;by_cases a:x.st=3
  .rw[if_pos a]
  .rw[if_neg a];split
   .simp[iM,a]
   .simp[iM,a]
theorem C8(h:Rel s R){t:Nat}(a:iM (aU R.af t)=none):(⟨R.table,del R.af t⟩:aK).rest=R.rest:=by
 refine A_ (h.jh.del t) h.jh rfl λu=>?_
 show iM (aU (del R.af t) u)=_;rw[Ad];by_cases e:u=t
 .subst e;rw[if_pos rfl,a];rfl
 .rw[if_neg e]
theorem G0(R:aK)(b:oU)(t:Nat):(⟨b,del R.af t⟩:aK).rest=⟨b,del R.rest.af t⟩:=by
 unfold aK.rest del;simp only[List.filter_filter];congr 1;apply List.filter_congr;intro x _;rw[Bool.and_comm]
theorem Kh(h:Rel s R){t:Nat}{x:a_}(a:aU R.af t=some x)(c:x.st≠3):(⟨R.table,fH R.af x.ready⟩:aK).rest=⟨R.table,ins R.rest.af x.ready⟩:=by
 have d:x.id=t:=(aN a).2;have b:aU R.rest.af x.ready.id=none:=by
  show aU (R.af.filter _) x.id=none;rw[kY h.jh,d,a];simp[iM,c]
 have Q:aU (R.af.filter λx=>decide<|x.st=3) x.ready.id=none:=b;show(⟨R.table,(fH R.af x.ready).filter λx=>decide<|x.st=3⟩:aK)=⟨R.table,ins (R.af.filter λx=>decide<|x.st=3) x.ready⟩;congr 1;refine((h.jh.fH _).rest).ext (h.jh.rest.ins _ Q) λu=>?_
 rw[kY<|h.jh.fH _,vD x.ready u Q,kY h.jh,Ah a<|show x.ready.id=t from d];show iM (if u=t then some x.ready else aU R.af u)=if u=x.id then some x.ready else _
 rw[d];by_cases e:u=t
 .rw[if_pos e,if_pos e];simp[iM,a_.ready]
 .rw[if_neg e,if_neg e]
theorem Gd.bd(h:Gd c T s R):Bd c R.rest where
 table:=h.table
 ops:=λx a=>h.ops x (zzp.1 a).1
 keys:=h.keys;sH:=λx a=>h.sH x (zzp.1 a).1
 len:=zzk (List.length_filter_le _ _) h.rel.len
theorem R_(h:Rel s R){t:Nat}{x:a_}(a:aU R.af t=some x)(b:x.st=3):aU R.rest.af t=some x:=by
 show aU (R.af.filter _) t=_;rw[kY h.jh,a];simp[iM,b]
theorem Ot(h:Gd c T s R){t:Nat}{x:a_}(a:aU R.af t=some x)(g:x.st=1){L:List (ByteArray×aQ)}(b:aV L)(d:∀k,aj L k=aj s.holds (t,k))(i:Nat):sI R.rest ⟨i,1,be 8 t++bW (b9 L)⟩ (⟨R.table,fH R.af x.ready⟩:aK).rest:=by
 have f:x.id=t:=(aN a).2;have z:=h.rel.ok x (aN a).1;rw[Kh h.rel a oE];have e:be 8 t=be 8 x.ready.id:=by show be 8 t=be 8 x.id;rw[f]
 rw[e];refine .ni i 1 x.ready L rfl ?_ rfl {E1:=z.E1,Ef:=z.Ef,st:=.inr<|.inr rfl,jY:=λhn=>absurd rfl hn,once:=z.once,four:=z.four,small:=z.small,read:=z.read} b (λk=>?_) ?_
 .show aU (R.af.filter _) x.id=none;rw[kY h.rel.jh,f,a];simp[iM,g]
 .rw[d,h.rel.holds,a];rfl
 .have hc:=ag.jx h.rel.o2 b d;have j:=h.count t;omega
theorem Ou(h:Gd c T s R){t:Nat}{x:a_}(d:t<2^64)(b:aU R.af t=some x)(a:x.st=3)(i:Nat):sI R.rest ⟨i,2,be 8 t⟩ (⟨eE R.table x.ak,del R.af t⟩:aK).rest:=by
 rw[G0];exact .comm i 2 t x rfl d (R_ h.rel b a) a
theorem Ov(h:Gd c T s R){t:Nat}{x:a_}(d:t<2^64)(b:aU R.af t=some x)(a:x.st=3)(i:Nat):sI R.rest ⟨i,3,be 8 t⟩ (⟨R.table,del R.af t⟩:aK).rest:=by
 rw[G0];exact .aa7 i 3 t x rfl d (R_ h.rel b a) a
end
/-! ### what may be left -/
def Cd(c mk:Nat)(X:List Rec)(f:Nat)(cs:List aK):Prop:=∀k,f<=k->k<=X.length->∃R∈cs,vL c mk (X.take k) R.rest
def QC(c:Nat)(cs:List aK)(M N:Nat)(mk:Nat)(ss:List Sg):Prop:=(∃R∈cs,vL c mk (chunks ss).flatten R.rest)/\M<=mk/\aw mk ss<=N
section
variable{c mk f:Nat}{X:List Rec}{cs:List aK}{R:aK}{r:Rec}
theorem Cd.mono(h:Cd c mk X f cs){a b:Nat}{cs':List aK}(g:c<=a)(i:f<=b)(s:∀R∈cs,R∈cs'):Cd a mk X b cs':=λk j e=>by
 have⟨R,d,l⟩:=h k oE e;exact⟨R,s R d,l.mono g⟩
theorem Cd.more(h:Cd c mk X f cs)(d:R∈cs)(l:vL c mk (X++[r]) R.rest):Cd c mk (X++[r]) f cs:=λk e a=>by
 by_cases b:k<=X.length
 .rw[List.take_append_of_le_length b];exact h k e b
 .rw[zzi]at a;simp at a;rw[show k=(X++[r]).length by rw[zzi];simp;omega,List.take_length];exact⟨R,d,l⟩
theorem Cd.all(l:vL c mk X R.rest):Cd c mk X X.length [R]:=λk h a=>by
 rw[show k=X.length by omega,List.take_length];exact⟨R,sE,l⟩
theorem E4.qc{F:az}(h:E4 mk 0 X f F)(j:Cd c mk X f cs):Holds (QC c cs mk<|mk+X.length) F:=by
 have⟨m,ss,k,b,g,p,n,d,i,o,a⟩:=h;have hp:=b.pos;obtain rfl:m=mk:=oE;have⟨R,e,l⟩:=j k d i;rw[Nat.sub_self,List.drop_zero]at a;refine⟨m,ss,b,g,⟨R,e,?_⟩,zzc _,?_⟩
 .rw[a];exact l
 .unfold aw;rw[a,zzm];omega
end
/-! ### logs,whatever they come through -/
section
variable{l:aq}{d:ah}
def Zf(l r:aq):Prop:=l.ai<=r.ai/\r.segs.length<=l.segs.length+1
theorem r8(h:l.ai<=l.next):l.ai<=(l.sync d).1.ai/\(l.sync d).1.segs=l.segs:=by grind[aq.sync]
theorem G3(h:l.ai<=l.next):Zf l (l.sync d).1:=⟨(r8 h).1,by rw[(r8 h).2];omega⟩
theorem G4(h:l.ai<=l.next):Zf l (l.room d).1:=by
 unfold aq.room;split
 .exact⟨zzc _,zzC _⟩
 .split
  .refine⟨(r8 h).1,?_⟩;show((l.sync d).1.segs++[_]).length<=_;rw[(r8 h).2];simp
  .exact G3 h
theorem Mi(h:l.ai<=l.next)(x:List Nat):Zf l (l.put d x).1:=by grind[aq.put,G4]
theorem Ki{r:aq×ah×Nat}(h:Zf l r.1):Zf l (l.wr d r).1:=by
 unfold aq.wr;split
 .exact h
 .exact⟨zzc _,zzC _⟩
theorem oL{r:aq×ah×Nat}:(l.wr d r).1.failed=(l.wr d r).2.2:=by grind[aq.wr]
theorem Kj(h:l.ai<=l.next)(kind:Nat)(s:ByteArray):Zf l (l.append d kind s).1:=by
 unfold aq.append;split
 .exact⟨zzc _,zzC _⟩
 .split
  .exact Ki<|Mi h _
  .exact Ki<|Mi h _
theorem Ch{kind:Nat}{s:ByteArray}(a:s.size<=255)(h:(l.append d kind s).2.2.2≠0):(l.append d kind s).1.failed=(l.append d kind s).2.2.2:=by grind[aq.append,oL]
theorem Ow(h:l.ai<=l.next):Zf l (l.force d).1:=by
 unfold aq.force;split
 .exact⟨zzc _,zzC _⟩
 .exact Ki<|G3 h
theorem EE(h:(l.force d).2.2≠0):(l.force d).1.failed=(l.force d).2.2:=by grind[aq.force,oL]
theorem Kk{low:Nat}(h:(l.cut d low).2.2≠0):(l.cut d low).1.failed=(l.cut d low).2.2:=by grind[aq.cut,oL]
theorem G5{kind:Nat}{s:ByteArray}(f:l.failed≠0)(h:s.size<=255):l.append d kind s=(l,d,0,l.failed):=by grind[aq.wr,aq.append]
variable{mk:Nat}{ss:List Sg}{c1:List Rec}
theorem iR.jU(h:iR l d mk ss c1):l.next=mk+((chunks ss).flatten++c1).length:=by
 rw[h.next,zzi];unfold aw;omega
theorem iR.Xb(h:iR l d mk ss c1):l.ai<=l.next:=by rw[h.j8,h.next];omega
theorem iR.EF(h:iR l d mk ss c1):l.segs.length<=((chunks ss).flatten++c1).length:=by
 have hn:∀c∈chunks ss,c≠[]:=λc m=>by
  have⟨s,k,e⟩:=zzq.1 m;exact e▸h.st.ne s k
 have q:=xD hn;rw[zzi];rcases h.mode with⟨b,g,f,a,i⟩|⟨o,p,n,b,g,f,a,i,j⟩|⟨b,g,f,a,i,j⟩
 .grind [ei]
 .grind [ei]
 .have:=zzE.2 b;rw[a,zzi,ei];simp only[List.length_singleton];omega
theorem iR.hinv(h:iR l d mk ss c1):∀k s:Nat,l.segs[k]?=some s->∃r rs,l.recs=r::rs/\r.cQ<=s/\s-r.cQ<l.recs.length:=by
 intro k s n;have m:=zzh n;have t:mk<=s/\s<mk+((chunks ss).flatten++c1).length:=by
  have q:s∈starts mk (chunks ss)->mk<=s/\s<mk+((chunks ss).flatten++c1).length:=λm=>by
   have:=(h.st.start m).2;rw[zzi];unfold aw at this;omega
  rcases h.mode with⟨c,e,g,b,f⟩|⟨p,u,o,c,e,g,b,f,j⟩|⟨c,e,g,b,f,j⟩
  .grind
  .grind
  .rw[b,zzo]at m;obtain m|m:=m
   .grind
   .simp only[List.mem_singleton]at m;have:=zzE.2 c;rw[m,zzi];unfold aw;omega
 have B:∀r,((chunks ss).flatten++c1)[0]?=some r->r.cQ=mk:=λr a=>by
  by_cases i:0<(chunks ss).flatten.length
  .rw[List.getElem?_append_left i]at a;have:=h.st.nk 0 r a;omega
  .rw[List.getElem?_append_right oE]at a;have:=h.Cc (0-(chunks ss).flatten.length) r a;unfold aw at this;omega
 rw[h.recs];cases x:(chunks ss).flatten++c1 with
 |nil=>grind
 |cons r rs=>grind
end
/-! ### what the book says of a bE -/
/-! ### the calls -/
structure qV(c:Nat)(l:aq)(d:ah)(mk:Nat)(ss:List Sg)(c1:List Rec)(cs:List aK)(m:aK):Prop where
 lg:iR l d mk ss c1
 ba:iZ d.ai mk ss
 up:d.down=false
 cd:Cd c mk ((chunks ss).flatten++c1) (l.ai-mk) cs
 lW:vL c mk ((chunks ss).flatten++c1) m.rest
 last:∃R∈cs,R.rest=m.rest
structure Kl(c:Nat)(l:aq)(d:ah)(cd:Nat)(cs:List aK)(M N:Nat):Prop where
 code:cd=9/\d.down=false\/cd=10/\d.down=true
 fail:l.failed=cd
 segs:l.filled<600->l.segs≠[]
 sure:gF (Holds (QC c cs M N)) d
theorem QC.mono(h:QC c cs M N mk ss)(s:∀R∈cs,R∈cs')(g:b<=M)(hN:N<=a):QC c cs' b a mk ss:=by
 have⟨⟨R,e,d⟩,f,i⟩:=h;exact⟨⟨R,s R e,d⟩,oE,oE⟩
theorem Kl.mono{e:Nat}(h:Kl c l d a cs M N)(s:∀R∈cs,R∈cs')(f:e<=M)(hN:N<=b):Kl c l d a cs' e b:=
 ⟨h.code,h.fail,h.segs,h.sure.mono λF j=>by obtain⟨mk,ss,g,i,k⟩:=j;exact⟨mk,ss,g,i,k.mono s f hN⟩⟩
theorem Kl.Mj(h:Kl c l d a cs M N)(j:c<=b):Kl b l d a cs M N:=
 ⟨h.code,h.fail,h.segs,h.sure.mono λF k=>by obtain⟨mk,ss,f,i,⟨R,m,g⟩,e⟩:=k;exact⟨mk,ss,f,i,⟨R,m,g.mono j⟩,e⟩⟩
theorem Ox(d:a<2^64)(f:b<2^64)(h:str (ax a 0 [])=str (ax b 0 [])):a=b:=by
 have s:∀x,((ax x 0 []).drop 2).take 8=be 8 x:=λx=>by
  unfold ax dO;rw[zzx,zzx,zzx,List.drop_left'<|eY 2 _,List.take_left'<|eY 8 x]
 have M:∀x,k9 (ax x 0 []):=λx=>oZ x 0 [] oE λ_ h=>by cases h
 have e:=congrArg bytesOf h;rw[f_<|M a,f_<|M b]at e;have c:=congrArg (λl=>val<|(l.drop 2).take 8) e;simp only[s]at c;rw[qj 8 a oE,qj 8 b oE]at c;exact c
theorem br.Zg{m:Nat}{g:List Sg}(h:br F mk ss)(a:br F m g):mk=m:=by
 have f:=h.tz;have O:=a.tz;have j:mk<18446744073709551616:=by grind[aw]
 have e:m < 18446744073709551616:=by grind[aw]
 rcases h.mark with⟨c,d⟩|c<;>rcases a.mark with⟨b,i⟩|b
 .omega
 .grind
 .grind
 .grind [Ox]
theorem iR.cQ{c1:List Rec}(h:iR l d mk ss c1):(∀q∈(chunks ss).flatten++c1,q.cQ<l.next)/\0<l.next/\mk<=l.next:=by
 have hp:=h.st.pos;have hn:=h.jU;refine⟨λq a=>?_,oE,oE⟩;rw[zzi]at hn;obtain a|a:=zzo.1 a
 .obtain⟨k,hk⟩:=zzB.1 a;have b:=h.st.nk k q hk;have c:=(zzd.1 hk).1;omega
 .obtain⟨k,hk⟩:=zzB.1 a;have b:=h.Cc k q hk;have c:=(zzd.1 hk).1;unfold aw at b;omega
section
variable{c:Nat}{l:aq}{d:ah}{mk:Nat}{ss:List Sg}{c1:List Rec}{cs:List aK}{m m':aK}
theorem qV.bj(h:qV c l d mk ss c1 cs m)(a b:Int):qV c l (d.bj a b) mk ss c1 cs m:=⟨h.lg.bj a b,h.ba,h.up,h.cd,h.lW,h.last⟩
theorem qV.sure(h:qV c l d mk ss c1 cs m):gF (Holds<|QC c cs mk l.next) d:=by
 rw[h.lg.jU];exact(h.lg.sure h.ba 0).mono λ_ F=>F.qc h.cd
theorem qV.mono(h:qV c l d mk ss c1 cs m){b:Nat}(a:c<=b):qV b l d mk ss c1 cs m:=⟨h.lg,h.ba,h.up,h.cd.mono a (zzc _) λ_ h=>h,h.lW.mono a,h.last⟩
theorem qV.same(h:qV c l d mk ss c1 cs m)(e:m'.rest=m.rest):qV c l d mk ss c1 cs m':=⟨h.lg,h.ba,h.up,h.cd,by rw[e];exact h.lW,by have⟨R,a,b⟩:=h.last;exact⟨R,a,b.trans e.symm⟩⟩
theorem qV.app(h:qV c l d mk ss c1 cs m)(kind:Nat)(x:kind<256)(s:ByteArray)(k:s.size<=255)(v:l.next+1<2^64){cs':List aK}(r:∀R∈cs,R∈cs')(p:∃R∈cs',R.rest=m'.rest)(i:vL c mk ((chunks ss).flatten++c1++[⟨l.next,kind,bytesOf s⟩]) m'.rest):
  ((l.note d kind s).2.2=0/\∃g Y,qV c (l.note d kind s).1 (l.note d kind s).2.1 mk g Y cs' m'/\(chunks g).flatten++Y=(chunks ss).flatten++c1++[⟨l.next,kind,bytesOf s⟩]) \/
  Kl c (l.note d kind s).1 (l.note d kind s).2.1 (l.note d kind s).2.2 cs' mk (l.next+1):=by
 obtain⟨R,j,o⟩:=p;have f:Cd c mk ((chunks ss).flatten++c1++[⟨l.next,kind,bytesOf s⟩]) (l.ai-mk) cs':=(h.cd.mono (zzc _) (zzc _) r).more j (by rw[o];exact i);have n:=Kj (l:=l) (d:=d) h.lg.Xb kind s;rcases h.lg.Mf h.ba h.up 0 kind x s k v with⟨w,a,y,g,Y,z,u,b,A⟩|⟨w,a⟩
 .left;refine⟨a,g,Y,⟨z,u,y,?_,by rw[b];exact i,⟨R,j,o⟩⟩,b⟩;rw[b];exact f.mono (zzc _) (by have:=n.1;show l.ai-mk<=(l.append d kind s).1.ai-mk;omega) λ_ h=>h
 .right;have q:(l.append d kind s).2.2.2≠0:=by obtain e|e:=a.1<;>omega
  have hN:l.next+1=mk+((chunks ss).flatten++c1++[⟨l.next,kind,bytesOf s⟩]:List Rec).length:=by rw[zzi,h.lg.jU];simp;omega
  rw[hN];refine⟨a.1,Ch k q,a.2.segs,a.2.sure.mono λF t=>t.qc<|f.mono (zzc _) ?_ λ_ h=>h⟩;have:=n.1;show l.ai-mk<=(l.append d kind s).1.ai-mk;omega
theorem qV.for_(h:qV c l d mk ss c1 cs m):
  ((l.force d).2.2=0/\∃g,qV c (l.force d).1 (l.force d).2.1 mk g [] [m] m/\(chunks g).flatten=(chunks ss).flatten++c1)\/Kl c (l.force d).1 (l.force d).2.1 (l.force d).2.2 cs mk l.next:=by
 have n:=Ow (l:=l) (d:=d) h.lg.Xb;rcases h.lg.Ze h.ba h.up 0 with⟨p,a,g,f,k,b⟩|a
 .left;have X:(chunks g).flatten++[]=(chunks ss).flatten++c1:=by grind
  refine⟨p,g,⟨f,k,a,?_,by rw[X];exact h.lW,⟨m,sE,rfl⟩⟩,b⟩;have q:=f.Ke.1;have j:=Cd.all h.lW;rw[X,q,b];exact j
 .right;have i:(l.force d).2.2≠0:=by obtain e|e:=a.1<;>omega
  rw[h.lg.jU];exact⟨a.1,EE i,a.2.segs,a.2.sure.mono λF o=>o.qc<|h.cd.mono (zzc _) (by have:=n.1;omega) λ_ h=>h⟩
theorem qV.note(h:qV c l d mk ss c1 cs m){kind:Nat}(r:kind<128){s:ByteArray}(j:s.size<=255)(q:l.next+1<2^64)(b:sI m.rest ⟨l.next,kind,bytesOf s⟩ m'.rest)(k:Bd c m'.rest):
  ((l.note d kind s).2.2=0/\(l.note d kind s).1.next=l.next+1/\∃g Y,qV c (l.note d kind s).1 (l.note d kind s).2.1 mk g Y (cs++[m']) m')\/Kl c (l.note d kind s).1 (l.note d kind s).2.1 (l.note d kind s).2.2 (cs++[m']) mk (l.next+1):=by
 have⟨i,o,_⟩:=h.lg.cQ;rcases h.app (cs':=cs++[m']) kind oE s j q (λR f=>by simp[f]) ⟨m',by simp,rfl⟩ (h.lW.note r i o b k)with⟨p,g,Y,a,n⟩|e
 .exact .inl ⟨p,by rw[a.lg.jU,n,zzi,h.lg.jU];simp;omega,g,Y,a⟩
 .grind
theorem qV.keep(h:qV c l d mk ss c1 cs m){kind:Nat}(n:kind<128){s:ByteArray}(i:s.size<=255)(q:l.next+1<2^64)(a:sI m.rest ⟨l.next,kind,bytesOf s⟩ m'.rest)(j:Bd c m'.rest):
  ((l.keep d kind s).2.2=0/\∃g Y,qV c (l.keep d kind s).1 (l.keep d kind s).2.1 mk g Y [m'] m')\/Kl c (l.keep d kind s).1 (l.keep d kind s).2.1 (l.keep d kind s).2.2 (cs++[m']) mk (l.next+1):=by
 unfold aq.keep;rcases h.note n i q a j with⟨k,o,g,Y,b⟩|e
 .rw[if_pos k];rcases b.for_ with⟨r,O,p,_⟩|f
  .grind
  .grind
 .have hne:(l.note d kind s).2.2≠0:=by obtain e|e:=e.code<;>omega
  rw[if_neg hne];exact .inr e
/-! ### a checkpoint -/
def aq.notes(l:aq)(d:ah):List (Nat × ByteArray)->aq × ah × Nat
 |[]=>(l,d,0)
 |e :: r=>if (l.note d e.1 e.2).2.2=0 then ((l.note d e.1 e.2).1).notes (l.note d e.1 e.2).2.1 r else l.note d e.1 e.2
def gm:Nat->List (Nat × ByteArray)->List Rec
 |_,[]=>[]
 |n,e :: r=>⟨n,e.1,bytesOf e.2⟩ :: gm (n+1) r
theorem Ba:∀(es:List<|Nat×ByteArray) (n:Nat),(gm n es).length=es.length
 |[],_=>rfl
 |e::r,n=>by show(gm (n+1) r).length+1=r.length+1;rw[Ba r<|n+1]
theorem Bb:∀(es:List<|Nat×ByteArray) (n:Nat) {q:Rec},q∈gm n es->n<=q.cQ/\q.cQ<n+es.length/\∃e∈es,q.kind=e.1
 |[],_,q,h=>by cases h
 |e::r,n,q,h=>by
  obtain rfl|h:=zzj.1 h
  .exact⟨zzc _,sE,e,sE,rfl⟩
  .obtain⟨h1,h2,e',h3,h4⟩:=Bb r (n+1) h;exact⟨oE,sC,e',by simp[h3],h4⟩
theorem qV.notes:∀(es:List<|Nat×ByteArray) {l:aq} {d:ah} {ss:List Sg} {c1:List Rec},qV c l d mk ss c1 cs m->(∀e∈es,128<=e.1/\e.1<255/\e.2.size<=255)->l.next+es.length+1<2^64 ->
  ((l.notes d es).2.2=0/\(l.notes d es).1.next=l.next+es.length/\∃g Y,qV c (l.notes d es).1 (l.notes d es).2.1 mk g Y cs m/\(chunks g).flatten++Y=(chunks ss).flatten++c1++gm l.next es) \/
  Kl c (l.notes d es).1 (l.notes d es).2.1 (l.notes d es).2.2 cs mk (l.next+es.length)
 |[],l,d,ss,c1,h,_,_=>.inl ⟨rfl,rfl,ss,c1,h,by simp[gm]⟩
 |e::r,l,d,ss,c1,h,he,hn=>by
  have⟨t,y,w⟩:=he e sE;have⟨u,o,_⟩:=h.lg.cQ;have hlen:(e::r).length=r.length+1:=rfl;rcases h.app e.1 oE e.2 w oE (λ_ h=>h) h.last (h.lW.eZ ⟨t,by show e.1≠255;omega⟩ u o)with⟨s,g,Y,b,j⟩|i
  .have kJ:(l.note d e.1 e.2).1.next=l.next+1:=by
    rw[b.lg.jU,j,zzi,h.lg.jU];simp;omega
   have a:l.notes d (e::r)=((l.note d e.1 e.2).1).notes (l.note d e.1 e.2).2.1 r:=by show(if _ then _ else _)=_;rw[if_pos s]
   rw[a];rcases qV.notes r b (λq k=>he q<|by simp[k]) (by rw[kJ];omega)with⟨x,v,O,c2,n,p⟩|f
   .left;refine⟨x,by rw[v,kJ];omega,O,c2,n,?_⟩;rw[p,j,kJ];show _=_++(_::gm (l.next+1) r);simp
   .exact .inr<|f.mono (λ_ h=>h) (zzc _)<|by rw[kJ];omega
  .have hne:(l.note d e.1 e.2).2.2≠0:=by obtain q|q:=i.code<;>omega
   have a:l.notes d (e::r)=l.note d e.1 e.2:=by show(if _ then _ else _)=_;rw[if_neg hne]
   rw[a];exact .inr<|i.mono (λ_ h=>h) (zzc _) oE
theorem VE(l:aq)(d:ah)(low:Nat)(h:l.failed=0)(s:d.sync.2=0):(l.cut d low).1.ai=l.next:=by grind[aq.sync,aq.gU,aq,ah,aq.wr,aq.cut]
def aq.eZ(l:aq)(d:ah)(es:List (Nat × ByteArray)):aq × ah × Nat :=
 if (l.notes d ((254,yA) :: es++[(255,yA)])).2.2=0 then ((l.notes d ((254,yA) :: es++[(255,yA)])).1).cut (l.notes d ((254,yA) :: es++[(255,yA)])).2.1 l.next
 else l.notes d ((254,yA) :: es++[(255,yA)])
theorem oM:∀(a b:List<|Nat×ByteArray) (l:aq) (d:ah),l.notes d (a++b)=if (l.notes d a).2.2=0 then ((l.notes d a).1).notes (l.notes d a).2.1 b else l.notes d a
 |[],b,l,d=>by
  have e:l.notes d []=(l,d,0):=rfl;rw[e];simp
 |e::r,b,l,d=>by
  show(if (l.note d e.1 e.2).2.2=0 then ((l.note d e.1 e.2).1).notes (l.note d e.1 e.2).2.1 (r++b)else l.note d e.1 e.2)=_;by_cases h:(l.note d e.1 e.2).2.2=0
  .have er:l.notes d (e::r)=((l.note d e.1 e.2).1).notes (l.note d e.1 e.2).2.1 r:=by show(if _ then _ else _)=_;rw[if_pos h]
   rw[if_pos h,er,oM r b]
  .have er:l.notes d (e::r)=l.note d e.1 e.2:=by show(if _ then _ else _)=_;rw[if_neg h]
   rw[if_neg h,er,if_neg h]
theorem qV.adI{X es:List Rec}{b n:Nat}(h:qV c l d mk ss c1 cs m)(J:(chunks ss).flatten++c1=X++[⟨b,254,[]⟩]++es++[⟨n,255,[]⟩])(T:b=mk+X.length)(N:∀q∈X,q.cQ<b)(H:∀q∈es,b<q.cQ/\q.cQ<n/\128<=q.kind/\q.kind<254)(hn:b<n){C:List (Rec×aK)}(O:Ie c C)(B:C.map (·.1)=es)(K:Ma C C.length=m.rest):
  ((l.cut d b).2.2=0/\∃a o,qV c (l.cut d b).1 (l.cut d b).2.1 a o [] [m] m/\mk+l.pD d b<=a/\(l.cut d b).1.next=l.next)\/Kl c (l.cut d b).1 (l.cut d b).2.1 (l.cut d b).2.2 cs (mk+l.pD d b) l.next:=by
 have Jc:=h.lg.st.pos;have L:∀j,j<=X.length->∀a,vL c a ((X++[⟨b,254,[]⟩]++es++[⟨n,255,[]⟩]:List Rec).drop j) m.rest:=λj u a=>by
  have e:(X++[⟨b,254,[]⟩]++es++[⟨n,255,[]⟩]:List Rec).drop j=X.drop j++[⟨b,254,[]⟩]++es++[⟨n,255,[]⟩]:=by grind
  rw[e];exact vL.whole oE (λq E=>N q<|List.mem_of_mem_drop E) H hn O B K
 obtain s|s:=iL d
 .have hdu:=VE l d b h.lg.eD s.1;rcases h.lg.adG h.ba h.up b b (.inl<|zzc _)with⟨a,o,i⟩|⟨p,S⟩
  .left;have u:a - mk<=X.length:=by have:=i.le;omega
   have x:=i.recs;rw[J]at x;refine⟨i.ret,a,o,⟨i.log,i.bare,i.up,?_,?_,⟨m,sE,rfl⟩⟩,i.gone,?_⟩
   .have r:=i.log.Ke.1;rw[List.append_nil,r];exact Cd.all<|by rw[x];exact L _ u a
   .grind
   .have h9:=i.log.jU;rw[List.append_nil,i.recs,zzz]at h9;have:=h.lg.jU;have:=i.ge;have:=i.len;omega
  .right;have G:(l.cut d b).2.2≠0:=by obtain e|e:=p.1<;>omega
   have D:gF (λF=>E4 mk b ((chunks ss).flatten++c1) ((l.cut d b).1.ai-mk) F/\∃a o,br F a o/\mk+l.pD d b<=a) (l.cut d b).2.1:=⟨λF t=>⟨p.2.sure.left F t,S.left F t⟩,λr=>⟨⟨(p.2.sure.now r).1,(S.now r).1⟩,(S.now r).2⟩⟩;refine⟨p.1,Kk G,p.2.segs,D.mono λF t=>?_⟩;have⟨⟨a,o,k,w,A,a3,V,y,a6,P,M⟩,Y,U,z,Q⟩:=t;have W:=w.Zg z;have⟨R,I,a'⟩:=h.last;rw[hdu,h.lg.jU]at y;have hk:k=((chunks ss).flatten++c1).length:=oE
   have u:a - mk<=X.length:=oE;refine⟨a,o,w,A,⟨R,I,?_⟩,oE,?_⟩
   .grind
   .have:=h.lg.jU;unfold aw;rw[M,zzz,zzm];omega
 .right;have v:l.sync d=(l,d.sync.1,d.sync.2):=by grind[aq.sync]
  have e:l.cut d b=({l with failed:=d.sync.2},d.sync.1,d.sync.2):=by
   unfold aq.cut;split
   .unfold aq.wr;rw[if_pos h.lg.eD,v]
   .have Mh:∀g f,l.gU d g f=(l,d.sync.1,d.sync.2):=λg f=>by unfold aq.gU;rw[v];simp only;rw[if_neg s.1]
    simp only;unfold aq.wr;rw[if_pos h.lg.eD,Mh];simp only;rw[if_neg s.1]
  rw[e];have Z:l.pD d b=0:=by grind[aq.pD,aq.pZ]
  rw[Z];exact⟨s.2.2.2.2,rfl,h.lg.sg',h.sure.same h.up s.2.1 s.2.2.2.1 s.2.2.1⟩
def aq.Mk(l:aq)(d:ah)(es:List (Nat × ByteArray)):Nat:=if (l.notes d ((254,yA) :: es++[(255,yA)])).2.2=0 then ((l.notes d ((254,yA) :: es++[(255,yA)])).1).pD (l.notes d ((254,yA) :: es++[(255,yA)])).2.1 l.next else 0
theorem qV.eZ(h:qV c l d mk ss c1 cs m){es:List (Nat×ByteArray)}(O:∀e∈es,128<=e.1/\e.1<254/\e.2.size<=255)(R:l.next+es.length+4<2^64)(A:∃C,Ie c C/\C.map (·.1)=gm (l.next+1) es/\Ma C C.length=m.rest):
  ((l.eZ d es).2.2=0/\∃i f,qV c (l.eZ d es).1 (l.eZ d es).2.1 i f [] [m] m/\mk+l.Mk d es<=i/\(l.eZ d es).1.next=l.next+es.length+2)\/Kl c (l.eZ d es).1 (l.eZ d es).2.1 (l.eZ d es).2.2 cs (mk+l.Mk d es) (l.next+es.length+2):=by
 have⟨C,t,p,Z⟩:=A;have⟨s,x,S⟩:=h.lg.cQ;have o:bytesOf yA=[]:=rfl;have F:(yA:ByteArray).size<=255:=dN;have r:∀q∈gm (l.next+1) es,l.next<q.cQ/\q.cQ<l.next+1+es.length/\128<=q.kind/\q.kind<254:=λq j=>by
  have⟨M,I,e,E,P⟩:=Bb es (l.next+1) j;have:=O e E;omega
 have J:((254,yA)::es++[(255,yA)]:List<|Nat×ByteArray)=((254,yA)::es)++[(255,yA)]:=rfl;unfold aq.eZ aq.Mk;rw[J,oM];rcases qV.notes ((254,yA)::es) h (λe a=>by
  obtain rfl|a:=zzj.1 a
  .exact⟨by show 128<=254;omega,by show 254<255;omega,F⟩
  .have:=O e a;exact⟨this.1,oE,this.2.2⟩) (by simp only[zzr];omega)with⟨z,w,f,Y,u,U⟩|n
 .rw[if_pos z];have X:(chunks f).flatten++Y=(chunks ss).flatten++c1++[⟨l.next,254,[]⟩]++gm (l.next+1) es:=by grind[bytesOf,gm]
  simp only[zzr]at w;have D:(l.notes d ((254,yA)::es)).1.next=l.next+1+es.length:=by grind
  have K:∀(l:aq) (d:ah),l.notes d [(255,yA)]=l.note d 255 yA:=λl d=>by
   show(if (l.note d 255 yA).2.2=0 then ((l.note d 255 yA).1,(l.note d 255 yA).2.1,0)else l.note d 255 yA)=_;by_cases j:(l.note d 255 yA).2.2=0
   .grind
   .grind
  rw[K];have N:vL c mk ((chunks f).flatten++Y++[⟨(l.notes d ((254,yA)::es)).1.next,255,bytesOf yA⟩]) m.rest:=by
   rw[X,D,o];exact vL.whole x s r oE t p Z
  rcases u.app 255 oE yA F (by rw[D];omega) (λ_ h=>h) u.last N with⟨B,G,c2,v,b⟩|k
  .simp only[if_pos B];rw[X,D,o]at b;have L:((l.notes d ((254,yA)::es)).1.note (l.notes d ((254,yA)::es)).2.1 255 yA).1.next=l.next+es.length+2:=by
    rw[v.lg.jU,b];have:=h.lg.jU;have y:(gm (l.next+1) es).length=es.length:=by exact Ba _ _
    simp only[zzi,zzr,List.length_nil,y]at this ⊢;omega
   rcases v.adI b h.lg.jU s r oE t p Z with⟨W,i,T,Q,V,H⟩|g
   .grind
   .grind
  .have hne:((l.notes d ((254,yA)::es)).1.note (l.notes d ((254,yA)::es)).2.1 255 yA).2.2≠0:=by obtain q|q:=k.code<;>omega
   simp only[if_neg hne];exact .inr<|k.mono (λ_ h=>h) oE<|by rw[D];omega
 .have hne:(l.notes d ((254,yA)::es)).2.2≠0:=by obtain q|q:=n.code<;>omega
  simp only[if_neg hne];exact .inr<|n.mono (λ_ h=>h) oE<|by simp only[zzr];omega
end
end Go.Proofs.YtdcafjmdfpjcbaaGreatDoor
