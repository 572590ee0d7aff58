import Derived.Test.YtdcafjmdfpjcbaaGreatDoorC43
namespace Go.Proofs.YtdcafjmdfpjcbaaGreatDoor
open Go.RowKit Go.Maps Tryz Sc
variable{c:Array Value}{q:Bool}{pay:ByteArray}{us:List Nat}{c1:List Rec}{ss:List Sg}{cs:List aK}{xs:List a_}{M T k k' kind m0 n:Nat}{t:TypeId}{R:aK}{x y:a_}{s:ag}{d:ah}{l:aq}
/-! ### how many records there may be behind k steps -/
def fA:Nat->Nat
 |0=>0
 |k+1=>fA k+k+15
theorem Xp:∀k,2*fA k=k*k+29*k
 |0=>rfl
 |k+1=>by
  have h:=Xp k;have e:(k+1)*(k+1)=k*k+2*k+1:=by rw[Nat.add_mul,Nat.mul_add];omega
  show 2*(fA k+k+15)=(k+1)*(k+1)+29*(k+1);omega
theorem oR(h:k<=16384):fA k<=134455296:=by
 have a:=Xp k;have b:=Nat.mul_le_mul h h;omega
theorem gx(k:Nat):fA (k+1)=fA k+k+15:=rfl
theorem VZ(h:k<=k'):fA k<=fA k':=by
 induction h with
 |refl=>exact zzc _
 |step _ ih=>rw[gx];omega
def nK(k M m0:Nat):Nat:=1100+3*fA k+M+2*m0+10*k
/-! ### a abX floor -/
section
variable{mk:Nat}{l:aq}{d:ah}
theorem sN.append(h:sN mk l)(kind:Nat)(s:ByteArray):sN mk (l.append d kind s).1:=by
 have⟨a,b,c⟩:=h;have q:(l.sync d).1.segs=l.segs/\(l.sync d).1.next=l.next/\(l.sync d).1.filled=l.filled:=by
  unfold aq.sync;split<;>exact⟨rfl,rfl,rfl⟩
 have o:sN mk (l.room d).1:=by
  unfold aq.room;split
  .exact⟨a,b,c⟩
  .split
   .refine⟨λs h=>?_,by show mk<=(l.sync d).1.next;rw[q.2.1];exact b,λ_=>sE⟩;have h:s∈(l.sync d).1.segs++[(l.sync d).1.next]:=h;rw[q.1,q.2.1]at h;obtain h|h:=zzo.1 h
    .exact a s h
    .simp at h;omega
   .exact⟨by rw[q.1];exact a,by rw[q.2.1];exact b,by rw[q.1,q.2.2];exact c⟩
 have D:∀x,sN mk (l.put d x).1:=λx=>by
  unfold aq.put;split<;>exact o
 have e:∀x,sN mk (l.wr d<|l.put d x).1:=λx=>by
  unfold aq.wr;split
  .exact D x
  .exact⟨a,b,c⟩
 unfold aq.append;split
 .exact⟨a,b,c⟩
 .split
  .rename_i h0;have⟨g,i,j⟩:=e<|ax l.next kind<|bytesOf s;refine⟨g,Nat.le_succ_of_le i,λf=>j ?_⟩;have f:(l.wr d<|l.put d<|ax l.next kind<|bytesOf s).1.filled+(15+s.size)<600:=f;omega
  .exact e _
theorem sN.low(h:sN mk l){m:Nat}(a:m<=mk):sN m l:=⟨λs b=>zzk a<|h.1 s b,zzk a h.2.1,h.2.2⟩
theorem iR.Q_{ss:List Sg}{c1:List Rec}(h:iR l d mk ss c1):sN mk l:=by
 refine⟨λs c=>?_,h.cQ.2.2,h.sg'⟩;have⟨i,b⟩:=zzB.1 c;have⟨r,rs,f,g,j⟩:=h.hinv i s b;have a:((chunks ss).flatten++c1)[0]?=some r:=by rw[<-h.recs,f];rfl
 have k:r.cQ=mk:=by
  by_cases e:0<(chunks ss).flatten.length
  .rw[List.getElem?_append_left e]at a;have:=h.st.nk 0 r a;omega
  .rw[List.getElem?_append_right oE]at a;have:=h.Cc (0-(chunks ss).flatten.length) r a;unfold aw at this;omega
 omega
theorem DF.note(h:DF mk d)(a:sN mk l)(kind:Nat)(s:ByteArray):DF mk (l.note d kind s).2.1:=h.append a kind s
theorem DF.keep(h:DF mk d)(a:sN mk l)(kind:Nat)(s:ByteArray):DF mk (l.keep d kind s).2.1:=by
 unfold aq.keep;split
 .exact(h.note a kind s).force
 .exact h.note a kind s
theorem DF.notes:∀(es:List<|Nat×ByteArray) {l:aq} {d:ah},DF mk d->sN mk l->DF mk (l.notes d es).2.1
 |[],_,_,h,_=>h
 |e::r,l,d,h,hs=>by
  show DF mk (if _ then _ else _:aq×ah×Nat).2.1;split
  .exact DF.notes r (h.note hs e.1 e.2)<|hs.append e.1 e.2
  .exact h.note hs e.1 e.2
theorem DF.eZ(h:DF mk d)(s:sN mk l)(es:List<|Nat×ByteArray):DF mk (l.eZ d es).2.1:=by
 unfold aq.eZ;split
 .exact(DF.notes _ h s).cut _
 .exact DF.notes _ h s
/-! ### a abX numbers -/
theorem KI(kind:Nat)(s:ByteArray):(l.append d kind s).1.next<=l.next+1:=by
 have q:(l.sync d).1.next=l.next:=by unfold aq.sync;split<;>rfl
 have o:(l.room d).1.next=l.next:=by
  unfold aq.room;split
  .rfl
  .split
   .exact q
   .exact q
 have e:∀x,(l.wr d<|l.put d x).1.next=l.next:=λx=>by
  have D:(l.put d x).1.next=l.next:=by unfold aq.put;split<;>exact o
  unfold aq.wr;split
  .exact D
  .rfl
 unfold aq.append;split
 .exact zzC _
 .split
  .show(l.wr d<|l.put d<|ax l.next kind<|bytesOf s).1.next+1<=_;rw[e];exact zzc _
  .show(l.wr d<|l.put d<|ax l.next kind<|bytesOf s).1.next<=_;rw[e];exact zzC _
theorem KK:(l.force d).1.next=l.next:=by
 have q:(l.sync d).1.next=l.next:=by unfold aq.sync;split<;>rfl
 unfold aq.force;split
 .rfl
 .unfold aq.wr;split
  .exact q
  .rfl
theorem Du(kind:Nat)(s:ByteArray):(l.note d kind s).1.next<=l.next+1:=KI kind s
theorem OT(kind:Nat)(s:ByteArray):(l.keep d kind s).1.next<=l.next+1:=by
 unfold aq.keep;split
 .rw[KK];exact Du kind s
 .exact Du kind s
/-! ### over a log that has failed nothing is done -/
theorem xN{kind:Nat}{s:ByteArray}(f:l.failed≠0)(h:s.size<=255):l.note d kind s=(l,d,l.failed):=by
 unfold aq.note;rw[G5 f h]
theorem OU{kind:Nat}{s:ByteArray}(f:l.failed≠0)(h:s.size<=255):l.keep d kind s=(l,d,l.failed):=by
 unfold aq.keep;rw[xN f h,if_neg f]
theorem Bu{e:Nat×ByteArray}{r:List (Nat×ByteArray)}(f:l.failed≠0)(s:e.2.size<=255):l.notes d (e::r)=(l,d,l.failed):=by
 show(if (l.note d e.1 e.2).2.2=0 then _ else _)=_;rw[xN f s,if_neg f]
theorem Dv(es:List<|Nat×ByteArray)(f:l.failed≠0):l.eZ d es=(l,d,l.failed)/\l.Mk d es=0:=by
 have h:l.notes d ((254,yA)::es++[(255,yA)])=(l,d,l.failed):=Bu f dN;unfold aq.eZ aq.Mk;rw[h];exact⟨if_neg f,if_neg f⟩
/-! ### the log behind a V0 notes -/
theorem iR.notes:∀(es:List<|Nat×ByteArray) {l:aq} {d:ah} {ss:List Sg} {c1:List Rec},iR l d mk ss c1->iZ d.ai mk ss->d.down=false->(∀e∈es,e.1<256/\e.2.size<=255)->l.next+es.length+1<2^64->(l.notes d es).2.2=0 ->
  ∃g Y,iR (l.notes d es).1 (l.notes d es).2.1 mk g Y/\(l.notes d es).1.next=l.next+es.length
 |[],l,d,ss,c1,h,_,_,_,_,_=>⟨ss,c1,h,rfl⟩
 |e::r,l,d,ss,c1,h,hb,hd,he,hn,h0=>by
  have⟨o,k⟩:=he e sE;have hlen:(e::r).length=r.length+1:=rfl;rcases h.Mf hb hd 0 e.1 o e.2 k oE with⟨m,a,p,g,Y,c,j,f,u⟩|⟨m,a⟩
  .have hz:(l.note d e.1 e.2).2.2=0:=a;have J:(l.note d e.1 e.2).1.next=l.next+1:=by
    have:=c.jU;rw[f,zzi]at this;have v:=h.jU;show(l.append d e.1 e.2).1.next=_;rw[this];simp only[List.length_singleton];omega
   have b:l.notes d (e::r)=((l.note d e.1 e.2).1).notes (l.note d e.1 e.2).2.1 r:=by show(if _ then _ else _)=_;rw[if_pos hz]
   rw[b]at h0 ⊢;have⟨O,c2,t,s⟩:=iR.notes r c j p (λq i=>he q<|by simp[i]) (by have:(l.append d e.1 e.2).1.next=l.next+1:=J;omega) h0;exact⟨O,c2,t,by
    have n:(((l.note d e.1 e.2).1).notes (l.note d e.1 e.2).2.1 r).1.next=(l.note d e.1 e.2).1.next+r.length:=s;rw[n,J];omega⟩
  .have hne:(l.note d e.1 e.2).2.2≠0:=by
    have:(l.append d e.1 e.2).2.2.2≠0:=by obtain e|e:=a.1<;>omega
    exact this
   have b:l.notes d (e::r)=l.note d e.1 e.2:=by show(if _ then _ else _)=_;rw[if_neg hne]
   rw[b]at h0;exact absurd h0 hne
theorem V1(low:Nat):l.pD d low<=l.segs.length:=by
 unfold aq.pD;split
 .exact zzs _
 .rename_i h0;have a:=DX l d (bU l.segs low)<|l.segs.getD (bU l.segs low) 0;obtain h|⟨x,h,_⟩:=(qJ l.segs low).1
  .exact absurd h h0
  .have:=(zzd.1 h).1;omega
theorem ZG{ss:List Sg}{c1:List Rec}{n:Nat}{es:List (Nat×ByteArray)}(h:iR l d mk ss c1)(i:iZ d.ai mk ss)(j:d.down=false)(O:∀e∈es,e.1<126/\e.2.size<=255)(hn:n+3*(es.length+2)+4+l.next+es.length<=1000000000):Sr n (l.Mk d<|es.map xF) l d es:=by
 intro b;have o:(eT es).length=es.length+2:=by simp[eT]
 have⟨m,Y,f,k⟩:=iR.notes (eT es) h i j (λe a=>by
  unfold eT at a;obtain a|a:=zzo.1 a
  .rcases zzj.1 a with rfl|a
   .exact⟨by show 254<256;omega,dN⟩
   .obtain⟨q,hq,rfl⟩:=zzq.1 a;have:=O q hq;exact⟨by show q.1+128<256;omega,this.2⟩
  .simp at a;subst a;exact⟨by show 255<256;omega,dN⟩) oE b
 have X:=f.EF;have J:=f.jU;have W:=h.st.pos;have g:l.Mk d (es.map xF)=(l.notes d<|eT es).1.pD (l.notes d<|eT es).2.1 l.next:=by
  unfold aq.Mk;exact if_pos b
 refine⟨by rw[g];exact V1 _,oE,λ_ c=>?_,λ_=>f.hinv⟩;rw[g];unfold aq.pD;rw[if_neg c];exact zzc _
end
/-! ### how much a QS has -/
theorem Tc{α:Type}(f:α->Nat)(b:Nat):∀(s:List Nat) (H:List α),(∀x∈H,f x∈s)->(∀t,(H.filter λx=>decide<|f x=t).length<=b)->H.length<=b*s.length
 |[],H,h,_=>by
  cases H with
  |nil=>simp
  |cons x xs=>exact absurd (h x sE) sE
 |t::s,H,h,hb=>by
  have i:=Tc f b s (H.filter λx=>!decide (f x=t)) (λx c=>by
   have⟨a,d⟩:=zzp.1 c;rcases zzj.1 (h x a)with e|e
   .simp[e]at d
   .exact e) (λu=>by
    refine zzk ?_<|hb u;rw[List.filter_filter]
    have e:(H.filter λx=>decide (f x=u)&&!decide (f x=t)).Sublist (H.filter λx=>decide<|f x=u):=by
     have:=List.filter_sublist (p:=λx=>!decide (f x=t)) (l:=H.filter λx=>decide<|f x=u);rw[List.filter_filter]at this;have g:(λx=>!decide (f x=t)&&decide (f x=u))=(λx=>decide (f x=u)&&!decide (f x=t)):=by funext x;exact Bool.and_comm _ _
     rw[g]at this;exact this
    exact e.length_le)
  have j:=hb t;have k:H.length=(H.filter λx=>decide<|f x=t).length+(H.filter λx=>!decide (f x=t)).length:=by
   rw[<-List.countP_eq_length_filter,<-List.countP_eq_length_filter];have:=List.length_eq_countP_add_countP (p:=λx=>decide<|f x=t) (l:=H);rw[this];congr 2;funext x;by_cases e:f x=t<;>simp[e]
  rw[zzr,Nat.mul_succ];omega
theorem Gd.Xq{c:Nat}(h:Gd c T s R):s.aS.length=R.table.length/\s.af.length<=12/\s.holds.length<=48:=by
 refine⟨?_,h.len,?_⟩
 .rw[h.rel.table];unfold dy;rw[zzn,dR]
 .have hl:=h.rel.len;have b:=Tc (λp:(Nat×ByteArray)×aQ=>p.1.1) 4 (R.af.map (·.id)) s.holds (λp hp=>by
   have i:=bS h.rel.o2 hp;have r:=h.rel.holds p.1.1 p.1.2;rw[show(p.1.1,p.1.2)=p.1 from rfl,i]at r;cases a:aU R.af p.1.1 with
   |none=>rw[a]at r;cases r
   |some x=>exact zzq.2 ⟨x,(aN a).1,(aN a).2⟩) (λt=>h.count t)
  rw[zzn]at b;omega
structure Ck(k:Nat)(R:aK):Prop where
 vs:Vs R
 nS:R.nS<=k
 len:R.af.length<=12
 four:∀x∈R.af,x.ak.length<=4
theorem Ck.mono(h:Ck k R)(a:k<=k'):Ck k' R:=⟨h.vs,zzk h.nS a,h.len,h.four⟩
theorem Ck.table(h:Ck k R):R.table.length<=k:=by have:=h.nS;unfold aK.nS at this;omega
theorem Ck.rest(h:Ck k R):Ck k R.rest:=
 ⟨h.vs,zzk (Ta R) h.nS,zzk (List.length_filter_le _ _) h.len,λx a=>h.four x (zzp.1 a).1⟩
theorem Gd.ck{c:Nat}(h:Gd c T s R)(v:Vs R)(hp:R.nS<=k):Ck k R:=⟨v,hp,h.rel.len,h.four⟩
structure fI(k:Nat)(s:ag)(l:aq)(d:ah)(cs:List aK)(R:aK)(us:List Nat)(sk hu:Bool)(M m0:Nat):Prop where
 gd:Gd k (20*k) s R
 ck:Ck k R
 EO:∀Q∈cs,Ck k Q
 Cm:cs.length<=k+1
 zt:us.length<=k
 up:d.down=false
 df:DF m0 d
 fl:m0<=M
 st:(hu=false/\tB R cs us/\l.next<=fA k+1/\∃ss c1,qV k l d M ss c1 cs R)\/(hu=true/\sk=true/\Hi cs us/\Kl k l d 9 cs M (fA k+1))
structure qZ(k:Nat)(d:ah)(cs:List aK)(us:List Nat)(M m0:Nat):Prop where
 EO:∀Q∈cs,Ck k Q
 Cm:cs.length<=k+1
 zt:us.length<=k
 up:d.down=false
 df:DF m0 d
 fl:m0<=M
 ku:Hi cs us
 sure:gF (Holds (QC k cs M (fA k+1))) d
def Td(k:Nat)(s:ag)(l:aq)(d:ah)(cs:List aK)(R:aK)(us:List Nat)(M m0 x:Nat):Prop :=
 (x=9/\d.down=false/\fI k s l (d.bj (-1) (-1)) cs R us true true M m0)\/(x=10/\d.down=true/\∀F,Left d.ai d.pending F->qZ k (eI F) cs us M m0)
theorem abY{c:Nat}{N:Nat}(h:gF (Holds<|QC c cs M N) d)(a:d.down=false):M<=N:=by
 have⟨mk,ss,_,_,_,e,b⟩:=(h.now a).1;unfold aw at b;omega
theorem fI.gone{sk hu:Bool}(h:fI k s l d cs R us sk hu M m0):qZ k d cs us M m0:=by
 refine⟨h.EO,h.Cm,h.zt,h.up,h.df,h.fl,?_,?_⟩
 .rcases h.st with⟨_,w,_⟩|⟨_,_,w,_⟩
  .exact w.ku
  .exact w
 .rcases h.st with⟨_,_,hn,ss,c1,o⟩|⟨_,_,_,f⟩
  .exact o.sure.mono λF c=>by obtain⟨mk,ss,a,b,e⟩:=c;exact⟨mk,ss,a,b,e.mono (λ_ h=>h) (zzc _) hn⟩
  .exact f.sure
theorem qZ.le(h:qZ k d cs us M m0):M<=fA k+1:=abY h.sure h.up
theorem mY(a:k<=16384)(h:m0<=M)(b:M<=fA k+1):nK k M m0<=806900000:=by grind[oR,nK]
theorem si{x:Nat}(f:Kl k l d x cs M<|fA k+1)(P:Hi cs us)(gd:Gd k (20*k) s R)(ck:Ck k R)(O:∀Q∈cs,Ck k Q)(m:cs.length<=k+1)(t:us.length<=k)(a:DF m0 d)(b:m0<=M):Td k s l d cs R us M m0 x:=by
 rcases f.code with⟨rfl,h⟩|⟨rfl,h⟩
 .exact .inl ⟨rfl,h,⟨gd,ck,O,m,t,h,a.bj _ _,b,.inr ⟨rfl,rfl,P,⟨.inl ⟨rfl,h⟩,f.fail,f.segs,f.sure.bj _ _⟩⟩⟩⟩
 .exact .inr ⟨rfl,h,λc F=>⟨O,m,t,rfl,DF.eI<|a.left F,b,P,jS<|f.sure.left c F⟩⟩
section
variable{k:Nat}{s:ag}{l:aq}{d:ah}{cs:List aK}{R R':aK}{us us':List Nat}{sk hu:Bool}{M m0:Nat}{a b:Int}
theorem fI.segs(h:fI k s l d cs R us sk hu M m0):l.filled<600->l.segs≠[]:=by
 rcases h.st with⟨_,_,_,ss,c1,o⟩|⟨_,_,_,f⟩
 .exact o.lg.sg'
 .exact f.segs
structure Nx(k:Nat)(R':aK)(us us':List Nat):Prop where
 bd:Bd (k+1) R'.rest
 ck:Ck (k+1) R'
 zt:us'.length<=k+1
 sub:∀t∈us,t∈us'
theorem Hi.used(h:Hi cs us)(s:∀t∈us,t∈us'):Hi cs us':=⟨λR a t b=>s t<|h.use R a t b,h.ZE⟩
theorem fI.keeps(h:fI k s l d cs R us sk hu M m0)(w:sk=false->a<0/\b<0)(y:-2^63<=a)(t:-2^63<=b){kind:Nat}(C:kind<128){pay:ByteArray}(o:pay.size<=255)(r:∀i,sI R.rest ⟨i,kind,bytesOf pay⟩ R'.rest)(hn:Nx k R' us us')(D:k<16384)(p:hu=false->Hi (cs++[R']) us'/\tB R' [R'] us'):
  ((l.keep (d.bj a b) kind pay).2.2=0/\hu=false/\(l.keep (d.bj a b) kind pay).2.1.down=false/\∀j,Gd (k+1) (20*(k+1)) j R'->fI (k+1) j (l.keep (d.bj a b) kind pay).1 ((l.keep (d.bj a b) kind pay).2.1.bj (-1) (-1)) [R'] R' us' sk false M m0) \/
  (sk=true/\(l.keep (d.bj a b) kind pay).2.2≠0/\Td (k+1) s (l.keep (d.bj a b) kind pay).1 (l.keep (d.bj a b) kind pay).2.1 (if hu then cs else cs++[R']) R us' M m0 (l.keep (d.bj a b) kind pay).2.2):=by
 have Y:=h.gd.mono (zzC k) (by omega:20*k<=20*(k+1));have u:=h.ck.mono (zzC k);have n:∀Q∈cs,Ck (k+1) Q:=λQ c=>(h.EO Q c).mono (zzC k)
 have J:=oR (Nat.le_of_lt D);have G:=gx k;have Z:=h.Cm;rcases h.st with⟨rfl,F,H,ss,c1,B⟩|⟨rfl,rfl,P,f⟩
 .have uz:=(B.mono (zzC k)).bj a b;have E:=DF.keep (h.df.bj a b) (B.lg.Q_.low h.fl) kind pay;rcases uz.keep C o oE (r _) hn.bd with⟨A,v,x,g⟩|e
  .refine .inl ⟨A,rfl,g.up,λj z=>⟨z,hn.ck,λQ c=>by simp at c;rw[c];exact hn.ck,sE,hn.zt,g.up,E.bj _ _,h.fl,.inl ⟨rfl,(p rfl).2,?_,v,x,g.bj _ _⟩⟩⟩;have:=OT (l:=l) (d:=d.bj a b) kind pay;omega
  .have hc:(l.keep (d.bj a b) kind pay).2.2=9\/(l.keep (d.bj a b) kind pay).2.2=10:=by rcases e.code with q|q<;>omega
   have T:sk=true:=by
    cases m:sk with
    |true=>rfl
    |false =>
     have:=OQ (l:=l) (d:=d.bj a b) kind pay B.lg.eD (r7 h.up (w m).1 (w m).2 y t 3);omega
   refine .inr ⟨T,oE,?_⟩;rw[if_neg sE]
   exact si (e.mono (λ_ h=>h) (zzc _) oE) (p rfl).1 Y u (λQ c=>by
    rcases zzo.1 c with c|c
    .exact n Q c
    .simp at c;rw[c];exact hn.ck) (by rw[zzi];simp only[List.length_singleton];omega) hn.zt E h.fl
 .have hne:l.failed≠0:=by rw[f.fail];omega
  rw[OU hne o,if_pos rfl];refine .inr ⟨rfl,hne,si ⟨?_,rfl,f.segs,?_⟩ (P.used hn.sub) Y u n oE hn.zt (h.df.bj _ _) h.fl⟩
  .rw[f.fail];exact .inl ⟨rfl,h.up⟩
  .exact((f.Mj (zzC k)).mono (λ_ h=>h) (zzc _) (by omega:fA k+1<=fA (k+1)+1)).sure.bj _ _
theorem fI.ab0(h:fI k s l d cs R us sk hu M m0)(w:sk=false->a<0/\b<0)(z:-2^63<=a)(v:-2^63<=b){kind:Nat}(D:kind<128){pay:ByteArray}(p:pay.size<=255)(t:∀i,sI R.rest ⟨i,kind,bytesOf pay⟩ R'.rest)(hn:Nx k R' us us')(G:k<16384)(r:hu=false->tB R' (cs++[R']) us'):
  ((l.note (d.bj a b) kind pay).2.2=0/\hu=false/\(l.note (d.bj a b) kind pay).2.1.down=false/\∀m,Gd (k+1) (20*(k+1)) m R'->fI (k+1) m (l.note (d.bj a b) kind pay).1 ((l.note (d.bj a b) kind pay).2.1.bj (-1) (-1)) (cs++[R']) R' us' sk false M m0) \/
  (sk=true/\(l.note (d.bj a b) kind pay).2.2≠0/\Td (k+1) s (l.note (d.bj a b) kind pay).1 (l.note (d.bj a b) kind pay).2.1 (if hu then cs else cs++[R']) R us' M m0 (l.note (d.bj a b) kind pay).2.2):=by
 have Y:=h.gd.mono (zzC k) (by omega:20*k<=20*(k+1));have u:=h.ck.mono (zzC k);have H:∀Q∈cs,Ck (k+1) Q:=λQ f=>(h.EO Q f).mono (zzC k)
 have E:∀Q∈cs++[R'],Ck (k+1) Q:=λQ f=>by
  rcases zzo.1 f with f|f
  .grind
  .simp at f;rw[f];exact hn.ck
 have J:=oR (Nat.le_of_lt G);have L:=gx k;have Z:=h.Cm;have F:(cs++[R']).length<=k+1+1:=by grind
 rcases h.st with⟨rfl,I,N,ss,c1,B⟩|⟨rfl,rfl,P,g⟩
 .have uz:=(B.mono (zzC k)).bj a b;have o:=DF.note (h.df.bj a b) (B.lg.Q_.low h.fl) kind pay;rcases uz.note D p oE (t _) hn.bd with⟨C,K,x,y,j⟩|e
  .exact .inl ⟨C,rfl,j.up,λm A=>⟨A,hn.ck,E,F,hn.zt,j.up,o.bj _ _,h.fl,.inl ⟨rfl,r rfl,oE,x,y,j.bj _ _⟩⟩⟩
  .have hc:(l.note (d.bj a b) kind pay).2.2=9\/(l.note (d.bj a b) kind pay).2.2=10:=by rcases e.code with q|q<;>omega
   have T:sk=true:=by
    cases n:sk with
    |true=>rfl
    |false =>
     have:=(xM (c:=0) (l:=l) (d:=d.bj a b) kind pay B.lg.eD (r7 h.up (w n).1 (w n).2 z v _) oE).1;omega
   refine .inr ⟨T,oE,?_⟩;rw[if_neg sE];exact si (e.mono (λ_ h=>h) (zzc _) oE) (r rfl).ku Y u E F hn.zt o h.fl
 .have hne:l.failed≠0:=by rw[g.fail];omega
  rw[xN hne p,if_pos rfl];refine .inr ⟨rfl,hne,si ⟨?_,rfl,g.segs,?_⟩ (P.used hn.sub) Y u H oE hn.zt (h.df.bj _ _) h.fl⟩
  .rw[g.fail];exact .inl ⟨rfl,h.up⟩
  .exact((g.Mj (zzC k)).mono (λ_ h=>h) (zzc _) (by omega:fA k+1<=fA (k+1)+1)).sure.bj _ _
theorem fI.ab1(h:fI k s l d cs R us sk hu M m0)(n:sk=false->a<0/\b<0)(U:-2^63<=a)(D:-2^63<=b)(G:aV s.aS)(Z:k<16384){es:List (Nat × ByteArray)}(O:es=(kZ s R.waiting).map xF):
  ((l.eZ (d.bj a b) es).2.2=0/\hu=false/\(l.eZ (d.bj a b) es).2.1.down=false/\∃p,M+l.Mk (d.bj a b) es<=p/\fI (k+1) s (l.eZ (d.bj a b) es).1 ((l.eZ (d.bj a b) es).2.1.bj (-1) (-1)) [R] R us sk false p m0) \/
  (sk=true/\Td (k+1) s (l.eZ (d.bj a b) es).1 (l.eZ (d.bj a b) es).2.1 (if hu then cs else cs++[R]) R us (M+l.Mk (d.bj a b) es) m0 (l.eZ (d.bj a b) es).2.2):=by
 have Y:=h.gd.mono (zzC k) (by omega:20*k<=20*(k+1));have u:=h.ck.mono (zzC k);have J:∀Q∈cs,Ck (k+1) Q:=λQ f=>(h.EO Q f).mono (zzC k)
 have ME:∀Q∈cs++[R],Ck (k+1) Q:=λQ f=>by
  rcases zzo.1 f with f|f
  .grind
  .grind
 have IJ:=oR (Nat.le_of_lt Z);have bF:=gx k;have a1:=h.Cm;have a6:=h.zt;have S:(cs++[R]).length<=k+1+1:=by grind
 have hlen:es.length<=k+12:=by
  rw[O,zzn];have h1:=S_ h.gd;have h2:=h.ck.table;omega
 rcases h.st with⟨rfl,w,kJ,ss,c1,B⟩|⟨rfl,rfl,P,i⟩
 .have uz:=(B.mono (zzC k)).bj a b;have E:=DF.eZ (h.df.bj a b) (B.lg.Q_.low h.fl) es;have I:lZ R.table:=by rw[h.gd.rel.table];exact mi G
  have L:∀x∈R.rest.af,aV ((λt=>gG s.holds t) x.id)/\∀q,aj ((λt=>gG s.holds t) x.id) q=aj s.holds (x.id,q):=λx _=>⟨nP h.gd.rel.o2 x.id,λq=>lz x.id q s.holds⟩
  have o:es=Sd R (λt=>gG s.holds t):=by grind [Xo]
  have v:=C_ h.gd h.ck.vs L;rw[<-o] at v;have y:=Sf Y h.ck.vs I L (l.next+1);rw[<-o] at y;rcases uz.eZ v oE y with⟨V,W,F,j,X,e4⟩|e
  .exact .inl ⟨V,rfl,j.up,W,X,⟨Y,u,λQ f=>by simp at f;rw[f];exact u,sE,oE,j.up,E.bj _ _,by have:=h.fl;omega,.inl ⟨rfl,w.abV,oE,F,[],j.bj _ _⟩⟩⟩
  .have hc:(l.eZ (d.bj a b) es).2.2=9\/(l.eZ (d.bj a b) es).2.2=10:=by rcases e.code with q|q<;>omega
   have T:sk=true:=by
    cases m:sk with
    |true=>rfl
    |false =>
     have r:=λc=>r7 (d:=d) h.up (n m).1 (n m).2 U D c
     have C:∀x∈((254,yA) :: es++[(255,yA)]:List (Nat × ByteArray)),x.1<256/\x.2.size<=255:=λx g=>by
      rcases zzo.1 g with g|g
      .rcases zzj.1 g with rfl|g
       .exact⟨by show 254<256;omega,dN⟩
       .have:=v x g;omega
      .simp_all
     have N:((254,yA) :: es++[(255,yA)]:List (Nat × ByteArray)).length=es.length+2:=sE;have yG:¬((l.notes (d.bj a b) ((254,yA) :: es++[(255,yA)])).2.2≠0/\(l.eZ (d.bj a b) es).2.2≠0/\False):=λg=>g.2.2
     by_cases z:(l.notes (d.bj a b) ((254,yA) :: es++[(255,yA)])).2.2=0
     .obtain⟨nO,c2,f1,f2⟩:=iR.notes _ uz.lg uz.ba uz.up C (by rw[N];omega) z;have uX:=f1.EF;have g:=f1.jU;rw[N] at f2;have:=OS es B.lg.eD r oE oE;omega
     .have iB:=(uy ((254,yA) :: es++[(255,yA)]) (c:=0) B.lg.eD (r _) (by rw[N];omega)).1;have H:l.eZ (d.bj a b) es=l.notes (d.bj a b) ((254,yA) :: es++[(255,yA)]):=by unfold aq.eZ;rw[if_neg z]
      rw[H] at hc;omega
   refine .inr ⟨T,?_⟩;rw[if_neg sE];exact si (e.mono (λQ f=>by simp[f]) (zzc _) oE) w.abU Y u ME S oE E (by have:=h.fl;omega)
 .have hne:l.failed≠0:=by rw[i.fail];omega
  obtain⟨A,K⟩:=Dv (d:=d.bj a b) es hne;rw[A,K,if_pos rfl];refine .inr ⟨rfl,si ⟨?_,rfl,i.segs,?_⟩ P Y u J oE oE (h.df.bj _ _) (by have:=h.fl;omega)⟩
  .rw[i.fail];exact .inl ⟨rfl,h.up⟩
  .exact((i.Mj (zzC k)).mono (λ_ h=>h) (zzc _) (by omega:fA k+1<=fA (k+1)+1)).sure.bj _ _
theorem fI.still(h:fI k s l d cs R us sk hu M m0){a:ag}(f:Gd (k+1) (20*(k+1)) a R')(u:Ck (k+1) R')(r:R'.rest=R.rest)(w:hu=false->∀x∈R'.af,x.st≠3->x.id∉us){q:Bool}(e:sk=true->q=true):fI (k+1) a l d cs R' us q hu M m0:=by
 have F:=gx k;refine⟨f,u,λQ c=>(h.EO Q c).mono<|zzC k,by have:=h.Cm;omega,by have:=h.zt;omega,h.up,h.df,h.fl,?_⟩;rcases h.st with⟨rfl,i,J,ss,c1,B⟩|⟨rfl,g,P,b⟩
 .exact .inl ⟨rfl,i.work r<|w rfl,oE,ss,c1,(B.mono<|zzC k).same r⟩
 .exact .inr ⟨rfl,e g,P,(b.Mj<|zzC k).mono (λ_ h=>h) (zzc _) oE⟩
theorem fI.bj(h:fI k s l d cs R us sk hu M m0)(x y:Int):fI k s l (d.bj x y) cs R us sk hu M m0:=by
 refine⟨h.gd,h.ck,h.EO,h.Cm,h.zt,h.up,h.df.bj _ _,h.fl,?_⟩;rcases h.st with⟨b,c,e,ss,c1,B⟩|⟨b,c,P,a⟩
 .exact .inl ⟨b,c,e,ss,c1,B.bj _ _⟩
 .exact .inr ⟨b,c,P,⟨.inl ⟨rfl,h.up⟩,a.fail,a.segs,a.sure.bj _ _⟩⟩
theorem fI.ZH(h:fI k s l d cs R us sk hu M m0){q:Bool}(b:sk=true->q=true):fI k s l d cs R us q hu M m0:=by
 refine⟨h.gd,h.ck,h.EO,h.Cm,h.zt,h.up,h.df,h.fl,?_⟩;obtain a|⟨a,h2,h3⟩:=h.st
 .grind
 .grind
end
section
variable{c T k:Nat}{s:ag}{l:aq}{d:ah}{cs:List aK}{R:aK}{us:List Nat}{I E:Bool}{M m0 t:Nat}{x:a_}
theorem Gd.ready(h:Gd c T s R)(b:aU R.af t=some x):Gd c T {s with af:=dm s.af t ⟨3,0,0⟩} ⟨R.table,fH R.af x.ready⟩:=by
 refine⟨h.rel.ready b,h.aL,h.table,λy a=>?_,h.keys,λy a=>?_⟩
 .rcases Eg a with rfl|a
  .exact h.ops x (aN b).1
  .exact h.ops y a
 .rcases Eg a with rfl|a
  .exact h.sH x (aN b).1
  .exact h.sH y a
theorem mZ{n:Nat}(h:R.state t=n)(hn:n≠0):∃x,aU R.af t=some x/\x.st=n:=by
 unfold aK.state at h;cases a:aU R.af t with
 |none=>rw[a]at h;exact absurd h.symm hn
 |some x=>rw[a]at h;exact⟨x,rfl,h⟩
theorem OV(h:Gd c T s R)(f:R.state t=1)(d:(R.aO t).2.1=2):∃x,aU R.af t=some x/\x.st=1/\t≠0/\x.ak.any (·.wr)=true/\R.aO t=(⟨R.table,fH R.af x.ready⟩,2,0):=by
 have⟨x,a,g⟩:=mZ f oE;have b:t≠0:=by rw[<-(aN a).2];exact(h.rel.ok x (aN a).1).E1
 have A:¬x.st=3:=oE;have C:¬x.st=2:=oE;have e:R.aO t=if x.ak.any (·.wr)=true then (⟨R.table,fH R.af x.ready⟩,2,0)else (⟨R.table,del R.af t⟩,4,0):=by
  unfold aK.aO;rw[if_neg b,a];simp only;rw[if_neg A,if_neg C]
 by_cases w:x.ak.any (·.wr)=true
 .rw[if_pos w]at e;exact⟨x,a,g,b,w,e⟩
 .rw[if_neg w]at e;rw[e]at d;cases d
theorem KM(h:Gd c T s R)(a:aU R.af t=some x)(i:x.st=1)(b:t≠0)(w:x.ak.any (·.wr)=true)(l:aq)(d:ah){L:List (ByteArray×aQ)}(e:aV L)(f:∀q,aj L q=aj s.holds (t,q)):
  s.aO l d t L=if (l.keep d 1<|yR t L).2.2=0 then ({s with af:=dm s.af t ⟨3,0,0⟩},(l.keep d 1<|yR t L).1,(l.keep d 1<|yR t L).2.1,2,0)else (s,(l.keep d 1<|yR t L).1,(l.keep d 1<|yR t L).2.1,0,(l.keep d 1<|yR t L).2.2):=by
 have z:=h.rel.ok x (aN a).1;have g:zS L=x.ak.any (·.wr):=CV e z.once λq=>by rw[f,h.rel.holds,a];rfl
 have A:¬x.st=3:=oE;unfold ag.aO;rw[if_neg b,Aw h a,if_neg A,if_pos i];unfold ag.ni;rw[g,if_pos w];rfl
theorem OW(h:Gd c T s R)(B:¬(R.state t=1/\(R.aO t).2.1=2))(l:aq)(d:ah){L:List (ByteArray×aQ)}(i:aV L)(j:∀q,aj L q=aj s.holds (t,q)):
  ∃g,s.aO l d t L=(g,l,d,(R.aO t).2.1,(R.aO t).2.2)/\Gd c T g (R.aO t).1/\(R.aO t).1.rest=R.rest/\(∀x∈(R.aO t).1.af,x∈R.af)/\(R.aO t).1.table=R.table:=by
 unfold ag.aO aK.aO;by_cases e:t=0
 .rw[if_pos e,if_pos e];exact⟨s,rfl,h,rfl,λ_ h=>h,rfl⟩
 rw[if_neg e,if_neg e];have y:∀x,aU R.af t=some x->x.st≠3->(⟨R.table,del R.af t⟩:aK).rest=R.rest:=λx a b=>C8 h.rel<|by rw[a];unfold iM;simp[b]
 have k:∀x∈del R.af t,x∈R.af:=λx a=>(zzp.1 a).1
 cases a:aU R.af t with
 |none=>
  rw[Eo h a];exact⟨_,rfl,h.gone a,rfl,λ_ h=>h,rfl⟩
 |some x=>
  rw[Aw h a];simp only[];by_cases b:x.st=3
  .rw[if_pos b,if_pos b];exact⟨s,rfl,h,rfl,λ_ h=>h,rfl⟩
  rw[if_neg b,if_neg b];have z:=h.rel.ok x (aN a).1;by_cases f:x.st=2
  .have:¬x.st=1:=oE;rw[if_neg this,if_pos f];exact⟨_,rfl,h.forget t,y x a b,k,rfl⟩
  .have e1:x.st=1:=by have:=z.st;omega
   rw[if_pos e1,if_neg f];have m:zS L=x.ak.any (·.wr):=CV i z.once λq=>by rw[j,h.rel.holds,a];rfl
   unfold ag.ni;rw[m];by_cases w:x.ak.any (·.wr)=true
   .refine absurd ⟨?_,?_⟩ B
    .unfold aK.state;rw[a];exact e1
    .unfold aK.aO;rw[if_neg e,a];simp only;rw[if_neg b,if_neg f,if_pos w]
   .rw[if_neg w,if_neg w];exact⟨_,rfl,h.forget t,y x a b,k,rfl⟩
theorem EP{xs:List a_}{x y:a_}(h:y∈fH xs x):y=x\/y∈xs/\y.id≠x.id:=by
 unfold fH at h;have⟨z,a,e⟩:=zzq.1 h;split at e
 .exact .inl e.symm
 .rename_i hn;subst e;exact .inr ⟨a,hn⟩
theorem Tf{xs:List a_}{x y:a_}(h:y∈xs)(e:y.id=x.id):x∈fH xs x:=by
 unfold fH;exact zzq.2 ⟨y,h,if_pos e⟩
theorem fI.wd(h:fI k s l d cs R us I E M m0)(a:E=false):tB R cs us:=by
 rcases h.st with⟨_,w,_⟩|⟨e,_⟩
 .exact w
 .rw[a]at e;cases e
theorem fI.Xs(h:fI k s l d cs R us I E M m0)(f:aU R.af t=some x)(q:x.st=1)(i:R.aO t=(⟨R.table,fH R.af x.ready⟩,2,0)):
  Nx k ⟨R.table,fH R.af x.ready⟩ us (us++[t])/\(E=false->Hi (cs++[⟨R.table,fH R.af x.ready⟩]) (us++[t])/\tB ⟨R.table,fH R.af x.ready⟩ [⟨R.table,fH R.af x.ready⟩] (us++[t]))/\Gd (k+1) (20*(k+1)) { s with af:=dm s.af t ⟨3,0,0⟩ } ⟨R.table,fH R.af x.ready⟩:=by
 obtain⟨m,c⟩:=aN f;have g:=(h.gd.mono (zzC k) (by omega:20*k<=20*(k+1))).ready f;have o:=yC R t h.gd.rel.jh;rw[i] at o;simp only[] at o;have p:Ck (k+1) (⟨R.table,fH R.af x.ready⟩:aK):=g.ck h.ck.vs (by have:=h.ck.nS;omega);have Z:=c
 have X:∀u,u∈(⟨R.table,fH R.af x.ready⟩:aK).waiting->u∈R.waiting\/u=t:=λu E=>by
  obtain⟨y,a,b,rfl⟩:=gP.1 E;rcases EP a with rfl|⟨a,_⟩
  .exact .inr Z
  .exact .inl (gP.2 ⟨y,a,b,rfl⟩)
 have n:t∈(⟨R.table,fH R.af x.ready⟩:aK).waiting:=gP.2 ⟨x.ready,Tf m rfl,rfl,Z⟩;refine⟨⟨g.bd,p,by have:=h.zt;rw[zzi];simp only[List.length_singleton];omega,λu E=>by simp[E]⟩,λj=>?_,g⟩;have w:=h.wd j;refine⟨w.abT ?_ n X,w.more X λy a b=>?_⟩
 .rw[<-c];exact w.Ik x m oE
 .rcases EP a with rfl|⟨a,hn⟩
  .exact absurd rfl b
  .exact⟨a,λe=>hn (e.trans Z.symm)⟩
theorem Bw{b:oU}(u:Nat):u∈(⟨b,del R.af t⟩:aK).waiting↔u∈R.waiting/\u≠t:=by
 rw[gP,gP];constructor
 .rintro⟨y,hy,h3,rfl⟩;have⟨h,a⟩:=zzp.1 hy;exact⟨⟨y,h,h3,rfl⟩,by simpa using a⟩
 .rintro⟨⟨y,hy,h3,rfl⟩,hn⟩;exact⟨y,zzp.2 ⟨hy,by simpa using hn⟩,h3,rfl⟩
theorem wh(b:aU R.af t=some x)(h:t≠0)(a:x.st=3):R.cR t=(⟨eE R.table x.ak,del R.af t⟩,0):=by
 unfold aK.cR;rw[if_neg h,b];simp only[];rw[if_pos a]
theorem fI.Xu(h:fI k s l d cs R us I E M m0)(f:aU R.af t=some x)(j:t≠0)(g:x.st=3):
  Nx k ⟨eE R.table x.ak,del R.af t⟩ us us/\(E=false->Hi (cs++[⟨eE R.table x.ak,del R.af t⟩]) us/\tB ⟨eE R.table x.ak,del R.af t⟩ [⟨eE R.table x.ak,del R.af t⟩] us):=by
 have⟨m,p⟩:=aN f;have o:=KG R t;rw[wh f j g]at o;simp only[]at o;have b:∀y∈del R.af t,y∈R.af:=λy a=>(zzp.1 a).1
 have U:(del R.af t).length<=R.af.length:=List.length_filter_le _ _;have i:=h.ck.len;have v:Ck (k+1) (⟨eE R.table x.ak,del R.af t⟩:aK):=⟨h.ck.vs.cR h.gd.rel f,by have:=h.ck.nS;omega,by show(del R.af t).length<=12;omega,λy a=>h.ck.four y<|b y a⟩
 have L:Bd (k+1) (⟨eE R.table x.ak,del R.af t⟩:aK).rest:=by
  refine⟨?_,λy a=>?_,λq c=>?_,λy a=>?_,?_⟩
  .have h1:=rT x.ak R.table;have z:=h.gd.table;have A:=h.gd.four x m;show(eE R.table x.ak).length<=_;omega
  .have:=h.gd.ops y<|b y (zzp.1 a).1;omega
  .rcases xw x.ak R.table c with c|⟨q',i,e⟩
   .exact h.gd.keys q c
   .rw[e];exact((h.gd.rel.ok x m).small q' i).2.1
  .exact h.gd.sH y<|b y (zzp.1 a).1
  .have h1:((del R.af t).filter λx=>decide<|x.st=3).length<=(del R.af t).length:=List.length_filter_le _ _;show((del R.af t).filter λx=>decide<|x.st=3).length<=12;omega
 refine⟨⟨L,v,by have:=h.zt;omega,λ_ h=>h⟩,λn=>?_⟩;have w:=h.wd n;have r:t∈R.waiting:=gP.2 ⟨x,m,g,p⟩;exact⟨(w.less r (λu=>Bw u) λy a _=>b y a).ku,w.Xn (λu E=>((Bw u).1 E).1) λy a _=>b y a⟩
theorem fI.Xv(h:fI k s l d cs R us I E M m0)(f:aU R.af t=some x)(b:x.st=3):
  Nx k ⟨R.table,del R.af t⟩ us us/\(E=false->tB ⟨R.table,del R.af t⟩ (cs++[⟨R.table,del R.af t⟩]) us)/\Gd (k+1) (20*(k+1)) (s.forget t) ⟨R.table,del R.af t⟩:=by
 obtain⟨m,e⟩:=aN f;have g:=(h.gd.mono (zzC k) (by omega:20*k<=20*(k+1))).forget t;have o:=wa R t;have i:∀y∈del R.af t,y∈R.af:=λy a=>(zzp.1 a).1
 have j:Ck (k+1) (⟨R.table,del R.af t⟩:aK):=g.ck h.ck.vs (by have:=h.ck.nS;omega);refine⟨⟨g.bd,j,by have:=h.zt;omega,λ_ h=>h⟩,λc=>?_,g⟩;exact(h.wd c).less (gP.2 ⟨x,m,b,e⟩) (λu=>Bw u) λy a _=>i y a
end
theorem EJ(n:Nat)(Q:Nat->Prop):∃S:List Nat,(∀k∈S,Q k)/\∀k,k<n->Q k->k∈S:=by
 classical
 refine⟨(List.range n).filter λk=>decide<|Q k,λk h=>?_,λk h q=>?_⟩
 .grind
 .grind
section
variable{w w':World}{B hp p sp gp bV bT bH lp h bN m n m' n':Nat}{s E:ag}{l l':aq}{d d':ah}
structure Lwk(w:World)(hp p sp gp bV bT bH lp k:Nat):Prop where
 own:¬Own lp p w k
 text:∀t,w.heap[k]?≠some (fS t)
 ne:k∉[hp,sp,gp,bV,bT,bH]
theorem mW{c b:Array Value}{t a:TypeId}{fr f:Nat×Nat}(e:t≠a):some (Obj.cells c t fr)≠some (Obj.cells b a f):=by grind
theorem kz.law{S:List Nat}(A:kz w B hp p sp gp bV bT bH lp h bN m n s l d)(f:Fr S w w')(c:∀k∈S,k<w.heap.size->Lwk w hp p sp gp bV bT bH lp k):kz w' B hp p sp gp bV bT bH lp h bN m n s l d/\∀k,Own lp p w' k->Own lp p w k:=by
 have⟨e,a,t⟩:=A;have⟨u,v,r,D,y,g⟩:=a.lg;have i:∀k,k<w.heap.size->k∈[hp,sp,gp,bV,bT,bH]->k∉S:=λk b q z=>(c k z b).ne q
 have N:=g.apart f λk b P=>⟨(c k b P).own,(c k b P).text⟩
 have j:=(zza.1 e).1;have x:=(zza.1 a.sh.blk).1;have o:=(zza.1 a.ap.lW).1;refine⟨⟨(f.block hp j<|i hp j sE).trans e,⟨a.sh.fr f (i sp x sE) (i bV a.sh.aS.lt sE) (i bT a.sh.af.lt sE)<|i bH a.sh.holds.lt sE,⟨u,v,r,D,y,N⟩,{lW:=(f.block gp o<|i gp o sE).trans a.ap.lW,ne:=a.ap.ne},a.CM⟩,t⟩,λk C=>(g.own k).2<|(N.own k).1 C⟩
theorem kz.apart(i:kz w B hp p sp gp bV bT bH lp h bN m n s l d){k:Nat}{c:Array Value}{t:TypeId}(a:w.heap[k]?=some (.cells c t (0,0)))(g:t≠148)(j:t≠229)(o:t≠64):k∉[hp,sp,gp,bV,bT,bH]:=by
 have⟨r,b,q⟩:=i;intro f;simp at f;obtain e|e|e|e|e|e:=f
 .grind
 .rw[e,b.sh.blk]at a;exact mW g.symm a
 .rw[e,b.ap.lW]at a;exact mW j.symm a
 .obtain⟨es,c2,e2⟩:=b.sh.aS.isMap;rw[e,e2]at a;cases a
 .obtain⟨es,c2,e2⟩:=b.sh.af.isMap;rw[e,e2]at a;cases a
 .obtain⟨es,c2,e2⟩:=b.sh.holds.isMap;rw[e,e2]at a;cases a
theorem kz.lw(b:kz w B hp p sp gp bV bT bH lp h bN m n s l d){k:Nat}{c:Array Value}{t:TypeId}(a:w.heap[k]?=some (.cells c t (0,0)))(o:t≠58)(q:t≠162)(x:t≠137)(g:t≠34)(r:t≠82)(j:t≠148)(u:t≠229)(i:t≠9)(v:t≠64):Lwk w hp p sp gp bV bT bH lp k:=by
 have⟨y,z,A,D,N,f⟩:=b.2.1.lg;exact⟨f.free a o q x g r,λt e=>mW i<|a.symm.trans e,b.apart a j u v⟩
theorem kz.lwu(b:kz w B hp p sp gp bV bT bH lp h bN m n s l d){k:Nat}{c:Array Value}(a:w.heap[k]?=some (.cells c 34 (0,0)))(o:¬Own lp p w k):Lwk w hp p sp gp bV bT bH lp k:=
 ⟨o,λt e=>mW dN<|a.symm.trans e,b.apart a dN dN dN⟩
end
theorem lH.refl(s V T H l p:Nat)(w:World):lH s V T H l p w w:=(kI.refl l p w).s
end Go.Proofs.YtdcafjmdfpjcbaaGreatDoor
