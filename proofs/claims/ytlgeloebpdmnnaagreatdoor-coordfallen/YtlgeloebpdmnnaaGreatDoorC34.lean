import Derived.Test.YtlgeloebpdmnnaaGreatDoorC27
import Derived.Test.YtlgeloebpdmnnaaGreatDoorC22
set_option maxHeartbeats 8000000
set_option maxRecDepth 100000
namespace Go.Proofs.YtlgeloebpdmnnaaGreatDoor
open Go.RowKit Go.Maps Tryz Sc
variable{X es:List Rec}{ss:List Sg}{M N a b c c' kind mk n:Nat}{r:Rec}{F:aG}{d:aj}{l:au}{s:nS}
def Holds(Q:Nat->List Sg->Prop)(F:aG):Prop:=∃mk ss,bG F mk ss/\kJ F mk ss/\Q mk ss
theorem lr{P:aG->Prop}(h:P F):iq P (dP F):=iq.rest h rfl rfl
theorem iq.aJ{P:aG->Prop}(h:iq P d)(a b:Int):iq P (d.aJ a b):=⟨h.left,h.now⟩
section
variable{l:au}{d:aj}
def Upp(l r:au):Prop:=l.ak<=r.ak/\r.segs.length<=l.segs.length+1
theorem uu(h:l.ak<=l.next):l.ak<=(l.sync d).1.ak/\(l.sync d).1.segs=l.segs:=by grind[au.sync]
theorem Ji(h:l.ak<=l.next):Upp l (l.sync d).1:=⟨(uu h).1,by rw[(uu h).2];omega⟩
theorem Jj(h:l.ak<=l.next):Upp l (l.room d).1:=by
 unfold au.room;split
 .exact⟨zzc _,zzC _⟩
 .split
  .refine⟨(uu h).1,?_⟩;show((l.sync d).1.segs++[_]).length<=_;rw[(uu h).2];simp
  .exact Ji h
theorem NU(h:l.ak<=l.next)(x:List Nat):Upp l (l.put d x).1:=by grind[au.put,Jj]
theorem Md{r:au×aj×Nat}(h:Upp l r.1):Upp l (l.wr d r).1:=by
 unfold au.wr;split
 .exact h
 .exact⟨zzc _,zzC _⟩
theorem qk{r:au×aj×Nat}:(l.wr d r).1.failed=(l.wr d r).2.2:=by grind[au.wr]
theorem Me(h:l.ak<=l.next)(kind:Nat)(s:nS):Upp l (l.append d kind s).1:=by
 unfold au.append;split
 .exact⟨zzc _,zzC _⟩
 .split<;>(exact Md<|NU h _)
theorem Dl{kind:Nat}{s:nS}(a:s.size<=255)(h:(l.append d kind s).2.2.2≠0):(l.append d kind s).1.failed=(l.append d kind s).2.2.2:=by grind[au.append,qk]
theorem Qv(h:l.ak<=l.next):Upp l (l.force d).1:=by
 unfold au.force;split
 .exact⟨zzc _,zzC _⟩
 .exact Md<|Ji h
theorem FV(h:(l.force d).2.2≠0):(l.force d).1.failed=(l.force d).2.2:=by grind[au.force,qk]
theorem Mf{low:Nat}(h:(l.cut d low).2.2≠0):(l.cut d low).1.failed=(l.cut d low).2.2:=by grind[au.cut,qk]
theorem Jk{kind:Nat}{s:nS}(hf:l.failed≠0)(h:s.size<=255):l.append d kind s=(l,d,0,l.failed):=by grind[au.wr,au.append]
variable{mk:Nat}{ss:List Sg}{c1:List Rec}
theorem kH.l7(h:kH l d mk ss c1):l.next=mk+((chunks ss).flatten++c1).length:=by
 rw[h.next,zzi];unfold az;omega
theorem kH.Z5(h:kH l d mk ss c1):l.ak<=l.next:=by rw[h.lB,h.next];omega
theorem kH.NV(h:kH l d mk ss c1):l.segs.length<=((chunks ss).flatten++c1).length:=by
 have hn:∀c∈chunks ss,c≠[]:=λc k=>by
  have⟨s,m,e⟩:=zzq.1 k;exact e▸h.st.ne s m
 have p:=yL hn;rw[zzi];rcases h.mode with⟨a,f,g,b,i⟩|⟨ds,n,o,a,f,g,b,i,j⟩|⟨a,f,g,b,i,j⟩
 .grind [eT]
 .grind [eT]
 .have:=zzE.2 a;rw[b,zzi,eT];simp only[List.length_singleton];omega
theorem kH.hinv(h:kH l d mk ss c1):∀k s:Nat,l.segs[k]?=some s->∃r rs,l.recs=r::rs/\r.cW<=s/\s-r.cW<l.recs.length:=by
 intro k s n;have m:=zzh n;have hb:mk<=s/\s<mk+((chunks ss).flatten++c1).length:=by
  have p:s∈starts mk (chunks ss)->mk<=s/\s<mk+((chunks ss).flatten++c1).length:=λm=>by
   have:=(h.st.start m).2;rw[zzi];unfold az at this;omega
  rcases h.mode with⟨b,e,f,c,g⟩|⟨ds,o,q,b,e,f,c,g,i⟩|⟨b,e,f,c,g,i⟩
  .grind
  .grind
  .rw[c,zzo]at m;obtain m|m:=m
   .grind
   .simp only[List.mem_singleton]at m;have:=zzE.2 b;rw[m,zzi];unfold az;omega
 have hnum:∀r,((chunks ss).flatten++c1)[0]?=some r->r.cW=mk:=λr a=>by
  by_cases j:0<(chunks ss).flatten.length
  .rw[Ij j]at a;have:=h.st.gw 0 r a;omega
  .rw[Hn dp]at a;have:=h.Di (0-(chunks ss).flatten.length) r a;unfold az at this;omega
 rw[h.recs];cases hx:(chunks ss).flatten++c1 with
 |nil=>grind
 |cons r rs=>grind
end
structure Aa(σ:Type) where
 s0:σ
 E:σ->Rec->σ->Prop
 Bd:Nat->σ->Prop
 mono:∀{c c':Nat} {s:σ},c<=c'->Bd c s->Bd c' s
section
variable{σ:Type}{P:Aa σ}
def rP(P:Aa σ)(C:List (Rec × σ)):Nat->σ
 |0=>P.s0
 |i+1=>((C[i]?).map (·.2)).getD P.s0
def tk(P:Aa σ)(c:Nat)(C:List (Rec × σ)):Prop:=∀i r R',C[i]?=some (r,R')->P.E (rP P C i) r R'/\P.Bd c R'
theorem Cb(P:Aa σ)(c:Nat):tk P c []:=λi r R' h=>by simp at h
theorem tk.snoc{c:Nat}{C:List (Rec×σ)}(h:tk P c C){r:Rec}{R':σ}(d:P.E (rP P C C.length) r R')(e:P.Bd c R'):tk P c (C++[(r,R')]):=by
 have f:∀i,i<=C.length->rP P (C++[(r,R')]) i=rP P C i:=λi a=>by
  cases i with
  |zero=>rfl
  |succ i=>
   show(((C++[(r,R')])[i]?).map (·.2)).getD P.s0=((C[i]?).map (·.2)).getD P.s0;rw[Ij dp]
 intro i q Q b;by_cases a:i<C.length
 .rw[Ij a]at b;rw[f i dp];exact h i q Q b
 .grind
theorem yM(P:Aa σ)(C:List<|Rec×σ)(r:Rec)(R':σ):rP P (C++[(r,R')]) (C++[(r,R')]).length=R':=by
 rw[zzi];show(((C++[(r,R')])[C.length]?).map (·.2)).getD P.s0=R';simp
theorem tk.mono{c c':Nat}{C:List (Rec×σ)}(h:tk P c C)(d:c<=c'):tk P c' C:=λi r R' q=>by
 have⟨a,b⟩:=h i r R' q;exact⟨a,P.mono d b⟩
theorem NW{n:Nat}(a:0<n):∀(X:List Rec),(∀r∈X,r.cW<n)->(h_ X).1<n/\(h_ X).2.1<n/\(h_ X).2.2<n:=by
 have y:∀(X:List Rec) (x:Nat×Nat×Nat),(∀r∈X,r.cW<n)->x.1<n/\x.2.1<n/\x.2.2<n->(X.foldl kh x).1<n/\(X.foldl kh x).2.1<n/\(X.foldl kh x).2.2<n:=by
  intro X;induction X with
  |nil=>grind
  |cons r X ih=>grind[kh]
 exact λX h=>y X (0,0,0) h ⟨a,a,a⟩
theorem FW{X:List Rec}{r:Rec}(k:r.kind<128)(h:∀q∈X,q.cW<r.cW)(a:0<r.cW):h_ (X++[r])=h_ X/\counted (X++[r])=counted X++[r]:=by
 have e:h_ (X++[r])=h_ X:=by grind[yG,kh]
 have⟨_,_,b⟩:=NW a X h;refine⟨e,?_⟩;unfold counted;rw[e,List.filter_append];congr 1;have:counts (h_ X).2.1 (h_ X).2.2 r=true:=by grind[counts]
 simp[this]
theorem FX{X:List Rec}{r:Rec}(k:128<=r.kind/\r.kind≠255)(h:∀q∈X,q.cW<r.cW)(b:0<r.cW):(h_<|X++[r]).2=(h_ X).2/\counted (X++[r])=counted X/\(h_<|X++[r]).1=if r.kind=254 then r.cW else (h_ X).1:=by
 have e:h_ (X++[r])=if r.kind=254 then (r.cW,(h_ X).2)else h_ X:=by grind[yG,kh]
 have⟨_,_,c⟩:=NW b X h;have a:(h_<|X++[r]).2=(h_ X).2:=by grind
 refine⟨a,?_,by rw[e];split<;>rfl⟩;unfold counted;rw[a,List.filter_append];have:counts (h_ X).2.1 (h_ X).2.2 r=false:=by grind[counts,h_]
 simp[this]
theorem Dm{X es:List Rec}{b n:Nat}(hb:0<b)(i:∀q∈X,q.cW<b)(j:∀q∈es,b<q.cW/\q.cW<n/\128<=q.kind/\q.kind<254)(hn:b<n):h_ (X++[⟨b,254,[]⟩]++es++[⟨n,255,[]⟩])=(b,b,n)/\counted (X++[⟨b,254,[]⟩]++es++[⟨n,255,[]⟩])=es:=by
 have D:∀(es:List Rec),(∀q∈es,128<=q.kind/\q.kind<254)->∀x,es.foldl kh x=x:=by
  intro es;induction es with
  |nil=>grind
  |cons q r ih=>
   intro h x;have l:=h q dv;rw[List.foldl_cons];have:kh x q=x:=by grind[kh]
   rw[this];exact ih (λy k=>h y<|by simp[k]) x
 have e:h_ (X++[⟨b,254,[]⟩]++es++[⟨n,255,[]⟩])=(b,b,n):=by grind[h_,kh]
 refine⟨e,?_⟩;unfold counted;rw[e,List.filter_append,List.filter_append,List.filter_append];have f:X.filter (counts b n)=[]:=by
  rw[List.filter_eq_nil_iff];intro r a;have:=i r a;unfold counts;have c:¬n<r.cW:=dp;have d:¬b<r.cW:=dp;simp[c,d]
 have g:es.filter (counts b n)=es:=by
  rw[List.filter_eq_self];intro r a;have:=j r a;unfold counts;simp[this.1,this.2.1]
 have c1:counts b n ⟨b,254,[]⟩=false:=by simp[counts]
 have c3:counts b n ⟨n,255,[]⟩=false:=by simp[counts]
 simp only[f,g];simp[c1,c3]
structure ny(P:Aa σ)(c mk:Nat)(X:List Rec)(R:σ):Prop where
 cp:mk=1\/(h_ X).2.1≠0
 ch:∃C,tk P c C/\C.map (·.1)=counted X/\rP P C C.length=R
theorem ny.mono{c c' mk:Nat}{X:List Rec}{R:σ}(h:ny P c mk X R)(e:c<=c'):ny P c' mk X R:=by
 have⟨C,a,b,d⟩:=h.ch;exact⟨h.cp,C,a.mono e,b,d⟩
theorem yN(P:Aa σ)(c:Nat):ny P c 1 [] P.s0:=⟨.inl rfl,[],Cb P c,rfl,rfl⟩
theorem ny.note{c mk:Nat}{X:List Rec}{R R':σ}{r:Rec}(h:ny P c mk X R)(k:r.kind<128)(l:∀q∈X,q.cW<r.cW)(b:0<r.cW)(i:P.E R r R')(hb:P.Bd c R'):ny P c mk (X++[r]) R':=by
 have⟨e,a⟩:=FW k l b;have⟨C,d,f,g⟩:=h.ch;refine⟨by rw[e];exact h.cp,C++[(r,R')],d.snoc (by rw[g];exact i) hb,?_,yM P C r R'⟩;rw[BB,f,a];rfl
theorem ny.eV{c mk:Nat}{X:List Rec}{R:σ}{r:Rec}(h:ny P c mk X R)(k:128<=r.kind/\r.kind≠255)(l:∀q∈X,q.cW<r.cW)(b:0<r.cW):ny P c mk (X++[r]) R:=by
 have⟨e,a,_⟩:=FX k l b;have⟨C,d,f,g⟩:=h.ch;exact⟨by rw[e];exact h.cp,C,d,by rw[f,a],g⟩
theorem ny.whole{c mk:Nat}{X es:List Rec}{R:σ}{b n:Nat}(hb:0<b)(h:∀q∈X,q.cW<b)(d:∀q∈es,b<q.cW/\q.cW<n/\128<=q.kind/\q.kind<254)(hn:b<n){C:List (Rec×σ)}(f:tk P c C)(m:C.map (·.1)=es)(g:rP P C C.length=R):ny P c mk (X++[⟨b,254,[]⟩]++es++[⟨n,255,[]⟩]) R:=by
 have⟨e,a⟩:=Dm hb h d hn;exact⟨.inr<|by rw[e];show b≠0;omega,C,f,by rw[a,m],g⟩
def NY(P:Aa σ)(c mk:Nat)(X:List Rec)(f:Nat)(cs:List σ):Prop:=∀k,f<=k->k<=X.length->∃R∈cs,ny P c mk (X.take k) R
def Qw(P:Aa σ)(c:Nat)(cs:List σ)(M N:Nat)(mk:Nat)(ss:List Sg):Prop:=(∃R∈cs,ny P c mk (chunks ss).flatten R)/\M<=mk/\az mk ss<=N
section
variable{c mk f:Nat}{X:List Rec}{cs:List σ}{R:σ}{r:Rec}
theorem NY.mono(h:NY P c mk X f cs){c' a:Nat}{cs':List σ}(e:c<=c')(hf:f<=a)(s:∀R∈cs,R∈cs'):NY P c' mk X a cs':=λk g b=>by
 have⟨R,d,l⟩:=h k dp b;exact⟨R,s R d,l.mono e⟩
theorem NY.more(h:NY P c mk X f cs)(e:R∈cs)(l:ny P c mk (X++[r]) R):NY P c mk (X++[r]) f cs:=λk d a=>by
 by_cases b:k<=X.length
 .rw[List.take_append_of_le_length b];exact h k d b
 .rw[zzi]at a;simp at a;rw[show k=(X++[r]).length by rw[zzi];simp;omega,List.take_length];exact⟨R,e,l⟩
theorem NY.all(l:ny P c mk X R):NY P c mk X X.length [R]:=λk h a=>by
 rw[show k=X.length by omega,List.take_length];exact⟨R,dv,l⟩
theorem GI.gqc{F:aG}(h:GI mk 0 X f F)(i:NY P c mk X f cs):Holds (Qw P c cs mk<|mk+X.length) F:=by
 have⟨m,ss,k,a,b,j,l,d,a6,n,e⟩:=h;have hp:=a.pos;obtain rfl:m=mk:=dp;have⟨R,g,o⟩:=i k d a6;rw[Nat.sub_self,List.drop_zero]at e;refine⟨m,ss,a,b,⟨R,g,?_⟩,zzc _,?_⟩
 .grind
 .grind [az]
end
structure xz(P:Aa σ)(c:Nat)(l:au)(d:aj)(mk:Nat)(ss:List Sg)(c1:List Rec)(cs:List σ)(m:σ):Prop where
 lg:kH l d mk ss c1
 ba:kJ d.ak mk ss
 up:d.down=false
 cd:NY P c mk ((chunks ss).flatten++c1) (l.ak-mk) cs
 qD:ny P c mk ((chunks ss).flatten++c1) m
 last:∃R∈cs,R=m
structure RB(P:Aa σ)(c:Nat)(l:au)(d:aj)(cd:Nat)(cs:List σ)(M N:Nat):Prop where
 code:cd=9/\d.down=false\/cd=10/\d.down=true
 fail:l.failed=cd
 segs:l.filled<600->l.segs≠[]
 sure:iq (Holds (Qw P c cs M N)) d
theorem Qw.mono{c:Nat}{cs cs':List σ}{M N a b:Nat}{mk:Nat}{ss:List Sg}(h:Qw P c cs M N mk ss)(s:∀R∈cs,R∈cs')(g:a<=M)(hN:N<=b):Qw P c cs' a b mk ss:=by
 have⟨⟨R,d,e⟩,f,a6⟩:=h;exact⟨⟨R,s R d,e⟩,dp,dp⟩
theorem RB.mono{c:Nat}{l:au}{d:aj}{e:Nat}{cs cs':List σ}{M N a b:Nat}(h:RB P c l d e cs M N)(s:∀R∈cs,R∈cs')(k:a<=M)(hN:N<=b):RB P c l d e cs' a b:=
 ⟨h.code,h.fail,h.segs,h.sure.mono λF j=>by obtain⟨mk,ss,f,g,i⟩:=j;exact⟨mk,ss,f,g,i.mono s k hN⟩⟩
theorem Qx{a b:Nat}(d:a<2^64)(hb:b<2^64)(h:str (aB a 0 [])=str (aB b 0 [])):a=b:=by
 have s:∀x,((aB x 0 []).drop 2).take 8=be 8 x:=λx=>by
  unfold aB d_;rw[zzx,zzx,zzx,List.drop_left'<|ew 2 _,List.take_left'<|ew 8 x]
 have t:∀x,mG (aB x 0 []):=λx=>qJ x 0 [] dp λ_ h=>by cases h
 have e:=congrArg bytesOf h;rw[gv<|t a,gv<|t b]at e;have c:=congrArg (λl=>val<|(l.drop 2).take 8) e;simp only[s]at c;rw[py 8 a dp,py 8 b dp]at c;exact c
theorem bG.abv{F:aG}{mk m:Nat}{ss j:List Sg}(h:bG F mk ss)(a:bG F m j):mk=m:=by
 have hb:=h.ve;have Y:=a.ve;have f:mk<18446744073709551616:=by grind[az]
 have g:m < 18446744073709551616:=by grind[az]
 rcases h.mark with⟨b,d⟩|b<;>rcases a.mark with⟨c,e⟩|c
 .omega
 .grind
 .grind
 .grind [Qx]
theorem kH.cW{l:au}{d:aj}{mk:Nat}{ss:List Sg}{c1:List Rec}(h:kH l d mk ss c1):(∀q∈(chunks ss).flatten++c1,q.cW<l.next)/\0<l.next/\mk<=l.next:=by
 have hp:=h.st.pos;have hn:=h.l7;refine⟨λq a=>?_,dp,dp⟩;rw[zzi]at hn;obtain a|a:=zzo.1 a
 .obtain⟨k,hk⟩:=zzB.1 a;have b:=h.st.gw k q hk;have c:=(zzd.1 hk).1;omega
 .obtain⟨k,hk⟩:=zzB.1 a;have b:=h.Di k q hk;have c:=(zzd.1 hk).1;unfold az at b;omega
section
variable{c:Nat}{l:au}{d:aj}{mk:Nat}{ss:List Sg}{c1:List Rec}{cs:List σ}{m m':σ}
theorem xz.aJ(h:xz P c l d mk ss c1 cs m)(a b:Int):xz P c l (d.aJ a b) mk ss c1 cs m:=⟨h.lg.aJ a b,h.ba,h.up,h.cd,h.qD,h.last⟩
theorem xz.sure(h:xz P c l d mk ss c1 cs m):iq (Holds<|Qw P c cs mk l.next) d:=by
 rw[h.lg.l7];exact(h.lg.sure h.ba 0).mono λ_ F=>F.gqc h.cd
theorem xz.app(h:xz P c l d mk ss c1 cs m)(kind:Nat)(u:kind<256)(s:nS)(k:s.size<=255)(V:l.next+1<2^64){cs':List σ}(t:∀R∈cs,R∈cs')(v:∃R∈cs',R=m')(i:ny P c mk ((chunks ss).flatten++c1++[⟨l.next,kind,bytesOf s⟩]) m'):
  ((l.note d kind s).2.2=0/\∃j w,xz P c (l.note d kind s).1 (l.note d kind s).2.1 mk j w cs' m'/\(chunks j).flatten++w=(chunks ss).flatten++c1++[⟨l.next,kind,bytesOf s⟩]) \/
  RB P c (l.note d kind s).1 (l.note d kind s).2.1 (l.note d kind s).2.2 cs' mk (l.next+1):=by
 obtain⟨R,f,g⟩:=v;have Z:=(h.cd.mono (zzc _) (zzc _) t).more f (by rw[g];exact i);have z:=Me (l:=l) (d:=d) h.lg.Z5 kind s;rcases h.lg.NR h.ba h.up 0 kind u s k V with⟨n,a,o,j,w,p,q,b,y⟩|⟨n,a⟩
 .left;refine⟨a,j,w,⟨p,q,o,?_,by rw[b];exact i,⟨R,f,g⟩⟩,b⟩;rw[b];exact Z.mono (zzc _) (by have:=z.1;show l.ak-mk<=(l.append d kind s).1.ak-mk;omega) λ_ h=>h
 .right;have x:(l.append d kind s).2.2.2≠0:=by obtain e|e:=a.1<;>omega
  have hN:l.next+1=mk+((chunks ss).flatten++c1++[⟨l.next,kind,bytesOf s⟩]:List Rec).length:=by rw[zzi,h.lg.l7];simp;omega
  rw[hN];refine⟨a.1,Dl k x,a.2.segs,a.2.sure.mono λF r=>r.gqc<|Z.mono (zzc _) ?_ λ_ h=>h⟩;have:=z.1;show l.ak-mk<=(l.append d kind s).1.ak-mk;omega
theorem xz.for_(h:xz P c l d mk ss c1 cs m):
  ((l.force d).2.2=0/\∃j,xz P c (l.force d).1 (l.force d).2.1 mk j [] [m] m/\(chunks j).flatten=(chunks ss).flatten++c1)\/RB P c (l.force d).1 (l.force d).2.1 (l.force d).2.2 cs mk l.next:=by
 have z:=Qv (l:=l) (d:=d) h.lg.Z5;rcases h.lg.abu h.ba h.up 0 with⟨g,a,j,b,i,f⟩|a
 .left;have X:(chunks j).flatten++[]=(chunks ss).flatten++c1:=by grind
  refine⟨g,j,⟨b,i,a,?_,by rw[X];exact h.qD,⟨m,dv,rfl⟩⟩,f⟩;have o:=b.Ma.1;have n:=NY.all h.qD;rw[X,o,f];exact n
 .right;have p:(l.force d).2.2≠0:=by obtain e|e:=a.1<;>omega
  rw[h.lg.l7];exact⟨a.1,FV p,a.2.segs,a.2.sure.mono λF k=>k.gqc<|h.cd.mono (zzc _) (by have:=z.1;omega) λ_ h=>h⟩
theorem xz.note(h:xz P c l d mk ss c1 cs m){kind:Nat}(o:kind<128){s:nS}(p:s.size<=255)(V:l.next+1<2^64)(n:P.E m ⟨l.next,kind,bytesOf s⟩ m')(hb:P.Bd c m'):
  ((l.note d kind s).2.2=0/\(l.note d kind s).1.next=l.next+1/\∃j w,xz P c (l.note d kind s).1 (l.note d kind s).2.1 mk j w (cs++[m']) m')\/RB P c (l.note d kind s).1 (l.note d kind s).2.1 (l.note d kind s).2.2 (cs++[m']) mk (l.next+1):=by
 have⟨g,i,_⟩:=h.lg.cW;rcases h.app (cs':=cs++[m']) kind dp s p V (λR k=>by simp[k]) ⟨m',by simp,rfl⟩ (h.qD.note o g i n hb)with⟨b,j,w,a,f⟩|e
 .exact .inl ⟨b,by rw[a.lg.l7,f,zzi,h.lg.l7];simp;omega,j,w,a⟩
 .grind
theorem xz.keep(h:xz P c l d mk ss c1 cs m){kind:Nat}(k:kind<128){s:nS}(i:s.size<=255)(V:l.next+1<2^64)(g:P.E m ⟨l.next,kind,bytesOf s⟩ m')(hb:P.Bd c m'):
  ((l.keep d kind s).2.2=0/\∃j w,xz P c (l.keep d kind s).1 (l.keep d kind s).2.1 mk j w [m'] m')\/RB P c (l.keep d kind s).1 (l.keep d kind s).2.1 (l.keep d kind s).2.2 (cs++[m']) mk (l.next+1):=by
 unfold au.keep;rcases h.note k i V g hb with⟨a,n,j,w,b⟩|e
 .rw[oo a];rcases b.for_ with⟨o,q,p,_⟩|f
  .grind
  .grind
 .have hne:(l.note d kind s).2.2≠0:=by obtain e|e:=e.code<;>omega
  rw[mE hne];exact .inr e
def ir:Nat->List (Nat × nS)->List Rec
 |_,[]=>[]
 |n,e :: r=>⟨n,e.1,bytesOf e.2⟩ :: ir (n+1) r
theorem Cc:∀(es:List<|Nat×nS) (n:Nat),(ir n es).length=es.length
 |[],_=>rfl
 |e::r,n=>by show(ir (n+1) r).length+1=r.length+1;rw[Cc r<|n+1]
theorem Cd:∀(es:List<|Nat×nS) (n:Nat) {q:Rec},q∈ir n es->n<=q.cW/\q.cW<n+es.length/\∃e∈es,q.kind=e.1
 |[],_,q,h=>by cases h
 |e::r,n,q,h=>by
  obtain rfl|h:=zzj.1 h
  .exact⟨zzc _,dv,e,dv,rfl⟩
  .obtain⟨h1,h2,e',h3,h4⟩:=Cd r (n+1) h;exact⟨dp,ef,e',by simp[h3],h4⟩
theorem xz.notes:∀(es:List<|Nat×nS) {l:au} {d:aj} {ss:List Sg} {c1:List Rec},xz P c l d mk ss c1 cs m->(∀e∈es,128<=e.1/\e.1<255/\e.2.size<=255)->l.next+es.length+1<2^64 ->
  ((l.notes d es).2.2=0/\(l.notes d es).1.next=l.next+es.length/\∃j w,xz P c (l.notes d es).1 (l.notes d es).2.1 mk j w cs m/\(chunks j).flatten++w=(chunks ss).flatten++c1++ir l.next es) \/
  RB P c (l.notes d es).1 (l.notes d es).2.1 (l.notes d es).2.2 cs mk (l.next+es.length)
 |[],l,d,ss,c1,h,_,_=>.inl ⟨rfl,rfl,ss,c1,h,by simp[ir]⟩
 |e::r,l,d,ss,c1,h,he,hn=>by
  have⟨x,A,y⟩:=he e dv;have⟨t,u,_⟩:=h.lg.cW;have hlen:(e::r).length=r.length+1:=rfl;rcases h.app e.1 dp e.2 y dp (λ_ h=>h) h.last (h.qD.eV ⟨x,by show e.1≠255;omega⟩ t u)with⟨k,j,w,b,g⟩|i
  .have kB:(l.note d e.1 e.2).1.next=l.next+1:=by
    rw[b.lg.l7,g,zzi,h.lg.l7];simp;omega
   have a:l.notes d (e::r)=((l.note d e.1 e.2).1).notes (l.note d e.1 e.2).2.1 r:=by show(if _ then _ else _)=_;rw[oo k]
   rw[a];rcases xz.notes r b (λq v=>he q<|by simp[v]) (by rw[kB];omega)with⟨n,o,z,c2,p,s⟩|f
   .left;refine⟨n,by rw[o,kB];omega,z,c2,p,?_⟩;rw[s,g,kB];show _=_++(_::ir (l.next+1) r);simp
   .exact .inr<|f.mono (λ_ h=>h) (zzc _)<|by rw[kB];omega
  .have hne:(l.note d e.1 e.2).2.2≠0:=by obtain q|q:=i.code<;>omega
   have a:l.notes d (e::r)=l.note d e.1 e.2:=by show(if _ then _ else _)=_;rw[mE hne]
   rw[a];exact .inr<|i.mono (λ_ h=>h) (zzc _) dp
theorem YB(l:au)(d:aj)(low:Nat)(h:l.failed=0)(s:d.sync.2=0):(l.cut d low).1.ak=l.next:=by grind[au.sync,au.iP,au,aj,au.wr,au.cut]
theorem xz.af0{X es:List Rec}{b n:Nat}(h:xz P c l d mk ss c1 cs m)(J:(chunks ss).flatten++c1=X++[⟨b,254,[]⟩]++es++[⟨n,255,[]⟩])(hb:b=mk+X.length)(B:∀q∈X,q.cW<b)(D:∀q∈es,b<q.cW/\q.cW<n/\128<=q.kind/\q.kind<254)(hn:b<n){C:List (Rec×σ)}(E:tk P c C)(K:C.map (·.1)=es)(H:rP P C C.length=m):
  ((l.cut d b).2.2=0/\∃a o,xz P c (l.cut d b).1 (l.cut d b).2.1 a o [] [m] m/\mk+l.rr d b<=a/\(l.cut d b).1.next=l.next)\/RB P c (l.cut d b).1 (l.cut d b).2.1 (l.cut d b).2.2 cs (mk+l.rr d b) l.next:=by
 have zU:=h.lg.st.pos;have Y:∀j,j<=X.length->∀a,ny P c a ((X++[⟨b,254,[]⟩]++es++[⟨n,255,[]⟩]:List Rec).drop j) m:=λj u a=>by
  have e:(X++[⟨b,254,[]⟩]++es++[⟨n,255,[]⟩]:List Rec).drop j=X.drop j++[⟨b,254,[]⟩]++es++[⟨n,255,[]⟩]:=by grind
  rw[e];exact ny.whole dp (λq M=>B q<|List.mem_of_mem_drop M) D hn E K H
 obtain s|s:=ki d
 .have hdu:=YB l d b h.lg.eZ s.1;rcases h.lg.afX h.ba h.up b b (.inl<|zzc _)with⟨a,o,i⟩|⟨p,S⟩
  .left;have u:a - mk<=X.length:=by have:=i.le;omega
   have V:=i.recs;rw[J]at V;refine⟨i.ret,a,o,⟨i.log,i.bare,i.up,?_,?_,⟨m,dv,rfl⟩⟩,i.gone,?_⟩
   .have r:=i.log.Ma.1;rw[wo,r];exact NY.all<|by rw[V];exact Y _ u a
   .grind
   .have h9:=i.log.l7;rw[wo,i.recs,zzz]at h9;have:=h.lg.l7;have:=i.ge;have:=i.len;omega
  .right;have L:(l.cut d b).2.2≠0:=by obtain e|e:=p.1<;>omega
   have z:iq (λF=>GI mk b ((chunks ss).flatten++c1) ((l.cut d b).1.ak-mk) F/\∃a o,bG F a o/\mk+l.rr d b<=a) (l.cut d b).2.1:=⟨λF t=>⟨p.2.sure.left F t,S.left F t⟩,λr=>⟨⟨(p.2.sure.now r).1,(S.now r).1⟩,(S.now r).2⟩⟩;refine⟨p.1,Mf L,p.2.segs,z.mono λF t=>?_⟩;have⟨⟨a,o,k,v,w,O,Q,x,a6,U,y⟩,a',aa,A,W⟩:=t;have N:=v.abv A;have⟨R,I,Z⟩:=h.last;rw[hdu,h.lg.l7]at x;have hk:k=((chunks ss).flatten++c1).length:=dp
   have u:a - mk<=X.length:=dp;refine⟨a,o,v,w,⟨R,I,?_⟩,dp,?_⟩
   .grind
   .have:=h.lg.l7;unfold az;rw[y,zzz,zzm];omega
 .right;have T:l.sync d=(l,d.sync.1,d.sync.2):=by grind[au.sync]
  have e:l.cut d b=({l with failed:=d.sync.2},d.sync.1,d.sync.2):=by
   unfold au.cut;split
   .unfold au.wr;rw[oo h.lg.eZ,T]
   .have NT:∀g f,l.iP d g f=(l,d.sync.1,d.sync.2):=λg f=>by unfold au.iP;rw[T];simp only;rw[mE s.1]
    simp only;unfold au.wr;rw[oo h.lg.eZ,NT];simp only;rw[mE s.1]
  rw[e];have G:l.rr d b=0:=by grind[au.rr,au.qR]
  rw[G];exact⟨s.2.2.2.2,rfl,h.lg.sg',h.sure.same h.up s.2.1 s.2.2.2.1 s.2.2.1⟩
def au.Jl(l:au)(d:aj)(es:List (Nat × nS)):Nat:=if (l.notes d ((254,gW) :: es++[(255,gW)])).2.2=0 then ((l.notes d ((254,gW) :: es++[(255,gW)])).1).rr (l.notes d ((254,gW) :: es++[(255,gW)])).2.1 l.next else 0
theorem xz.eV(h:xz P c l d mk ss c1 cs m){es:List (Nat×nS)}(D:∀e∈es,128<=e.1/\e.1<254/\e.2.size<=255)(W:l.next+es.length+4<2^64)(I:∃C,tk P c C/\C.map (·.1)=ir (l.next+1) es/\rP P C C.length=m):
  ((l.eV d es).2.2=0/\∃b j,xz P c (l.eV d es).1 (l.eV d es).2.1 b j [] [m] m/\mk+l.Jl d es<=b/\(l.eV d es).1.next=l.next+es.length+2)\/RB P c (l.eV d es).1 (l.eV d es).2.1 (l.eV d es).2.2 cs (mk+l.Jl d es) (l.next+es.length+2):=by
 have⟨C,u,Y,n⟩:=I;have⟨t,H,V⟩:=h.lg.cW;have v:bytesOf gW=[]:=rfl;have i:(gW:nS).size<=255:=du;have x:∀q∈ir (l.next+1) es,l.next<q.cW/\q.cW<l.next+1+es.length/\128<=q.kind/\q.kind<254:=λq w=>by
  have⟨K,M,e,z,N⟩:=Cd es (l.next+1) w;have:=D e z;omega
 have A:((254,gW)::es++[(255,gW)]:List<|Nat×nS)=((254,gW)::es)++[(255,gW)]:=rfl;unfold au.eV au.Jl;rw[A,pX];rcases xz.notes ((254,gW)::es) h (λe a=>by
  obtain rfl|a:=zzj.1 a
  .exact⟨by show 128<=254;omega,by show 254<255;omega,i⟩
  .have:=D e a;exact⟨this.1,dp,this.2.2⟩) (by simp only[zzr];omega)with⟨E,F,j,y,o,O⟩|p
 .rw[oo E];have X:(chunks j).flatten++y=(chunks ss).flatten++c1++[⟨l.next,254,[]⟩]++ir (l.next+1) es:=by grind[bytesOf,ir]
  simp only[zzr]at F;have k:(l.notes d ((254,gW)::es)).1.next=l.next+1+es.length:=by grind
  have B:∀(l:au) (d:aj),l.notes d [(255,gW)]=l.note d 255 gW:=λl d=>by
   show(if (l.note d 255 gW).2.2=0 then ((l.note d 255 gW).1,(l.note d 255 gW).2.1,0)else l.note d 255 gW)=_;by_cases w:(l.note d 255 gW).2.2=0
   .grind
   .grind
  rw[B];have L:ny P c mk ((chunks j).flatten++y++[⟨(l.notes d ((254,gW)::es)).1.next,255,bytesOf gW⟩]) m:=by
   rw[X,k,v];exact ny.whole H t x dp u Y n
  rcases o.app 255 dp gW i (by rw[k];omega) (λ_ h=>h) o.last L with⟨G,Z,c2,r,f⟩|s
  .simp only[oo G];rw[X,k,v]at f;have Q:((l.notes d ((254,gW)::es)).1.note (l.notes d ((254,gW)::es)).2.1 255 gW).1.next=l.next+es.length+2:=by
    rw[r.lg.l7,f];have:=h.lg.l7;have J:(ir (l.next+1) es).length=es.length:=by exact Cc _ _
    simp only[zzi,zzr,List.length_nil,J]at this ⊢;omega
   rcases r.af0 f h.lg.l7 t x dp u Y n with⟨R,b,a7,S,T,U⟩|g
   .grind
   .grind
  .have hne:((l.notes d ((254,gW)::es)).1.note (l.notes d ((254,gW)::es)).2.1 255 gW).2.2≠0:=by obtain q|q:=s.code<;>omega
   simp only[mE hne];exact .inr<|s.mono (λ_ h=>h) dp<|by rw[k];omega
 .have hne:(l.notes d ((254,gW)::es)).2.2≠0:=by obtain q|q:=p.code<;>omega
  simp only[mE hne];exact .inr<|p.mono (λ_ h=>h) dp<|by simp only[zzr];omega
end
end
structure qE where
 lim:Nat
 ds:List (Nat × List Nat)
structure RD(ys:List Nat):Prop where
 ne:ys≠[]
 up:ys.Pairwise (· < ·)
 rng:∀y∈ys,1<=y/\y<=8
def Ab:List (Nat × List Nat)->Nat × List Nat->List (Nat × List Nat)
 |[],x=>[x]
 |p :: r,x=>if p.1<x.1 then p :: Ab r x else x :: p :: r
def U1(ds:List (Nat × List Nat))(t:Nat):List (Nat × List Nat):=ds.filter λp=>decide (p.1≠t)
def ql(ds:List (Nat × List Nat)):Prop:=ds.Pairwise λp q=>p.1<q.1
def CE(R:qE)(r:Rec)(R':qE):Prop :=
 (r.kind%128=1/\r.pay=be 8 R'.lim/\R.lim<=R'.lim/\R'.ds=R.ds) \/
 (r.kind%128=2/\∃t s,r.pay=be 8 t++s/\0<t/\t<R.lim/\(∀p∈R.ds,p.1≠t)/\RD s/\R'.lim=R.lim/\R'.ds=Ab R.ds (t,s)) \/
 (r.kind%128=3/\∃t,r.pay=be 8 t/\(∃p∈R.ds,p.1=t)/\R'.lim=R.lim/\R'.ds=U1 R.ds t)
structure Ac(c:Nat)(R:qE):Prop where
 lim:R.lim<=c
 len:R.ds.length<=12
 oL:ql R.ds
 pos:∀p∈R.ds,0<p.1/\p.1<R.lim/\RD p.2
def kK:Aa qE:=⟨⟨1,[]⟩,CE,Ac,λc h=>⟨zzk h.lim c,h.len,h.oL,h.pos⟩⟩
theorem Jm:∀{s:List Nat} {a b:Nat},s.Pairwise (· < ·)->(∀y∈s,a<y/\y<=b)->s.length<=b-a
 |[],_,_,_,_=>zzs _
 |y::r,a,b,h,hr=>by
  have⟨d,e⟩:=zzA.1 h;have f:=hr y dv;have:=Jm e λz c=>⟨d z c,(hr z<|by simp[c]).2⟩
  rw[zzr];omega
theorem RD.len{s:List Nat}(h:RD s):s.length<=8:=Jm (a:=0) (b:=8) h.up λy c=>by
 have:=h.rng y c;omega
theorem RD.X8{s:List Nat}(h:RD s):mG s:=λy a=>by
 have:=h.rng y a;omega
theorem Em:∀{ds:List (Nat×List Nat)} {x:Nat×List Nat},(∀p∈ds,p.1<x.1)->Ab ds x=ds++[x]
 |[],_,_=>rfl
 |p::r,x,h=>by
  unfold Ab;rw[oo<|h p dv,Em λq a=>h q<|by simp[a]];rfl
theorem oM:∀{ds:List (Nat×List Nat)} {x q:Nat×List Nat},q∈Ab ds x↔q=x\/q∈ds
 |[],x,q=>by unfold Ab;simp
 |p::r,x,q=>by
  unfold Ab;split
  .rw[zzj,oM,zzj];constructor
   .rintro (h|h|h)
    .exact .inr<|.inl h
    .exact .inl h
    .exact .inr<|.inr h
   .rintro (h|h|h)
    .exact .inr<|.inl h
    .exact .inl h
    .exact .inr<|.inr h
  .rw[zzj]
theorem ql.ins:∀{ds:List (Nat×List Nat)} {x:Nat×List Nat},ql ds->(∀p∈ds,p.1≠x.1)->ql (Ab ds x)
 |[],x,_,_=>by unfold Ab ql;simp
 |p::r,x,h,hn=>by
  have⟨b,c⟩:=zzA.1 h;unfold Ab;split
  .refine zzA.2 ⟨λq a=>?_,ql.ins c λq a=>hn q<|by simp[a]⟩;obtain rfl|a:=oM.1 a
   .assumption
   .exact b q a
  .have hp:x.1<p.1:=by have:=hn p dv;omega
   refine zzA.2 ⟨λq a=>?_,h⟩;obtain rfl|a:=zzj.1 a
   .exact hp
   .exact Nat.lt_trans hp<|b q a
theorem xA{ds:List (Nat×List Nat)}{t:Nat}{q:Nat×List Nat}:q∈U1 ds t↔q∈ds/\q.1≠t:=by grind[U1]
theorem ql.del{ds:List (Nat×List Nat)}(h:ql ds)(t:Nat):ql (U1 ds t):=List.Pairwise.filter _ h
theorem ql.ext:∀{a b:List (Nat×List Nat)},ql a->ql b->(∀q,q∈a↔q∈b)->a=b
 |[],[],_,_,_=>rfl
 |[],y::b,_,_,h=>by have:=(h y).2 dv;cases this
 |x::a,[],_,_,h=>by have:=(h x).1 dv;cases this
 |x::a,y::b,ha,hb,h=>by
  have⟨c,f⟩:=zzA.1 ha;have⟨d,g⟩:=zzA.1 hb;have e:x=y:=by
   rcases zzj.1 ((h x).1 dv)with e|hx
   .exact e
   .rcases zzj.1 ((h y).2 dv)with e|hy
    .exact e.symm
    .have:=c y hy;have:=d x hx;omega
  subst e;rw[ql.ext f g λq=>?_];constructor
  .intro hq;rcases zzj.1 ((h q).1<|by simp[hq])with e|hb
   .subst e;have:=c q hq;omega
   .exact hb
  .intro hq;rcases zzj.1 ((h q).2<|by simp[hq])with e|ha
   .subst e;have:=d q hq;omega
   .exact ha
section
variable{c:Nat}{R:qE}
theorem Ac.more(h:Ac c R){L:Nat}(a:R.lim<=L)(b:L<=c):Ac c ⟨L,R.ds⟩:=⟨b,h.len,h.oL,λp hp=>by have:=h.pos p hp;exact⟨this.1,zzl this.2.1 a,this.2.2⟩⟩
theorem AP{l:List Nat}(h:mG l):(str l).size=l.length:=by rw[<-iZ,gv h]
def YE(lim:Nat):Nat × nS:=(129,str (be 8 lim))
def U2(p:Nat × List Nat):Nat × nS:=(130,str (be 8 p.1++p.2))
def Qy(R:qE):List (Nat × nS):=YE R.lim :: R.ds.map U2
theorem zC:∀(a b:List<|Nat×nS) (n:Nat),ir n (a++b)=ir n a++ir (n+a.length) b
 |[],b,n=>by simp[ir]
 |e::r,b,n=>by
  show _::ir (n+1) (r++b)=_::(ir (n+1) r++_);rw[zC r b<|n+1];congr 3;simp;omega
theorem Ce{p:Nat×List Nat}(h:RD p.2):mG (be 8 p.1++p.2):=λy a=>by
 obtain a|a:=zzo.1 a
 .exact za 8 _ y a
 .exact h.X8 y a
theorem Z7(hb:Ac c R)(a:1<=R.lim)(n:Nat):∀i,i<=R.ds.length->∃C,tk kK c C/\C.map (·.1)=ir n (YE R.lim::(R.ds.take i).map U2)/\rP kK C C.length=⟨R.lim,R.ds.take i⟩
 |0,_=>by
  refine⟨[(⟨n,129,be 8 R.lim⟩,⟨R.lim,[]⟩)],?_,?_,rfl⟩
  .have:=(Cb kK c).snoc (r:=⟨n,129,be 8 R.lim⟩) (R':=⟨R.lim,[]⟩) (.inl ⟨by show 129%128=1;decide,rfl,a,rfl⟩) ⟨hb.lim,by simp,List.Pairwise.nil,dv⟩;exact this
  .show [_]=[(⟨n,129,bytesOf<|str<|be 8 R.lim⟩:Rec)];rw[gv<|za 8 _]
 |i+1,hi=>by
  have⟨C,e,f,g⟩:=Z7 hb a n i dp;obtain⟨p,hp⟩:∃p,R.ds[i]?=some p:=⟨_,zzg dp⟩;have B:=zzh hp;obtain⟨j,k,d⟩:=hb.pos p B;have et:R.ds.take (i+1)=R.ds.take i++[p]:=by rw[vV,hp];rfl
  have W:∀q∈R.ds.take i,q.1<p.1:=λq h=>by
   have b:ql (R.ds.take<|i+1):=List.Pairwise.sublist (List.take_sublist _ _) hb.oL;rw[et]at b;exact(List.pairwise_append.1 b).2.2 q h p dv
  refine⟨C++[(⟨n+(i+1),130,be 8 p.1++p.2⟩,⟨R.lim,R.ds.take<|i+1⟩)],e.snoc ?_ ?_,?_,yM kK C _ _⟩
  .rw[g];refine .inr (.inl ⟨by show 130%128=2;decide,p.1,p.2,rfl,j,k,λq h=>Nat.ne_of_lt<|W q h,d,rfl,?_⟩);show R.ds.take (i+1)=Ab (R.ds.take i) (p.1,p.2);rw[Em W,et]
  .refine⟨hb.lim,?_,List.Pairwise.sublist (List.take_sublist _ _) hb.oL,λq h=>hb.pos q<|FQ h⟩;have:=hb.len;show(R.ds.take<|i+1).length<=12;rw[zzm];omega
  .rw[BB,f,et,BB];show _=ir n (YE R.lim::(R.ds.take i).map U2++[U2 p]);rw[zC];have l:(YE R.lim::(R.ds.take i).map U2).length=i+1:=by rw[zzr,zzn,zzm];omega
   rw[l];show _++[_]=_++[(⟨n+(i+1),130,bytesOf<|str<|be 8 p.1++p.2⟩:Rec)];rw[gv<|Ce d]
theorem Mg(hb:Ac c R)(h:1<=R.lim)(n:Nat):∃C,tk kK c C/\C.map (·.1)=ir n (Qy R)/\rP kK C C.length=R:=by
 have⟨C,d,a,b⟩:=Z7 hb h n R.ds.length<|zzc _;rw[List.take_length]at a b;exact⟨C,d,a,b⟩
theorem Qz(hb:Ac c R):∀e∈Qy R,128<=e.1/\e.1<254/\e.2.size<=255:=λe h=>by
 obtain rfl|h:=zzj.1 h
 .refine⟨by show 128<=129;omega,by show 129<254;omega,?_⟩;show(str<|be 8 R.lim).size<=255;rw[AP<|za 8 _,ew];omega
 .obtain⟨p,hp,rfl⟩:=zzq.1 h;have a:=(hb.pos p hp).2.2.len;refine⟨by show 128<=130;omega,by show 130<254;omega,?_⟩;show(str<|be 8 p.1++p.2).size<=255;rw[AP<|Ce (hb.pos p hp).2.2,zzi,ew];omega
end
section
open Go.Shelf
@[go_sem] theorem Qj (P:Program) (w:nL) (t:TypeId) (x:Operand) (v:Value) (q:Nat):(eqGuard .neq t x (.const v) (bB q) .nilIface).run P w=.ok () w:=by
 unfold bB;split<;>simp[eqGuard]
theorem LV(B p Y b n t k v:Nat)(S:v=2\/v=3\/v=4)(R:k<9)(c:bL)(w:nL)(h:a_ w B p Y b n c)(j:t<2^64)(g:(c.tx t).parts.getD k 0=1)(f:(c.tx t).aS≠0):
  Calls prog 135 #[gx p,.int .u64 (t:Int),.int .i64 (k:Int),.int .i64 (v:Int)] w λe w'=>e=.returned (bB (c.tx t).aS)/\Fr [] w w':=by
 have Z:=h.GA t;obtain⟨rv,ov,i,_⟩:=h.ex;have c1:=af i 1;simp at c1;have Q:=h.jS;have M:=ox v S;obtain⟨T,a⟩:∃T,T=c.tx t:=⟨_,rfl⟩;have U:∀o,(Instr.lookup 192 (.map (some b)) (.int .u64 (t:Int)) false).run prog ((w.alloc o).drew)=.ok (lz T) ((w.alloc o).drew):=λo=>by rw[a];exact(h.new ((Fr.refl [] w).alloc o).drew).iQ j
 have m:(Instr.lookup 192 (.map (some b)) (.int .u64 (t:Int)) false).run prog w.drew=.ok (lz T) w.drew:=by rw[a];exact(h.new (Fr.refl [] w).drew).iQ j
 rw[<-a] at Z g f ⊢;clear a;have V:¬(v:Int)=0:=by omega
 have j0:((v:Int)==0)=false:=oT.2 V;have X:=λW=>vA T Z k R W
 rw[g] at X;clear g;have N:=ah X;clear X;obtain⟨s,ps,z,d⟩:=T
 change d≠0 at f
 change Calls _ _ _ _ λe w'=>e=.returned (bB d)/\Fr [] w w'
 have hq:decide (d≠0)=true:=by simp[f]
 have Zl:¬d=0:=f;obtain⟨q,u,x,y,C,D,F,J,K,G⟩:=nine Z.1
 change ps=_ at G
 subst G;rw[bC] at m N;simp only[bC] at U;have l:∀o,(w.alloc o).cell? ⟨p,1,none⟩=some (.map (some b)):=λo=>(sR _ _ _ Q.1).trans c1
 have HI:=ah h;clear h i
 go_enter func135,ntmps135
 go_wp2
 go_cut [9,10] from 12 to 19 (λs9 P wx=>s9=.pointer (some ⟨w.heap.size,0,none⟩)/\P=.int .u8 (v:Int)/\wx=(w.alloc (.cells #[.int .i64 (s:Int),.int .u8 (q:Int),.int .u8 (u:Int),.int .u8 (x:Int),.int .u8 (y:Int),.int .u8 (C:Int),.int .u8 (D:Int),.int .u8 (F:Int),.int .u8 (J:Int),.int .u8 (K:Int),.int .u64 (z:Int),bB d] 249)).drew)
 case first =>
  go_region_held3 (λw'=>w'.cell? ⟨p,1,none⟩=some (.map (some b)))
   (first|exact l _|simp[*])
   (first|(go_at_call 197;refine(M _).mono ?_;rintro e w2 ⟨rfl,rfl⟩))
  all_goals
   (go_wp2_with fail
    go_meet
    case rel=>exact⟨rfl,rfl,rfl⟩)
 case rest =>
  obtain⟨rfl,rfl,A⟩:=hcut;have I:Fr [] w wc:=by rw[A];exact((Fr.refl [] w).alloc _).drew
  have r:wc.heap[w.heap.size]?=some (.cells #[.int .i64 (s:Int),.int .u8 (q:Int),.int .u8 (u:Int),.int .u8 (x:Int),.int .u8 (y:Int),.int .u8 (C:Int),.int .u8 (D:Int),.int .u8 (F:Int),.int .u8 (J:Int),.int .u8 (K:Int),.int .u64 (z:Int),bB d] 249 (0,0)):=by rw[A];exact oz w _
  obtain⟨y0,y1,y2,y3,y4,y5,y6,y7,y8,y9,ya,yb⟩:=mD r;have wU:=(zza.1 r).1;have E:=N.out wc;have H:=ah (zzb I r);clear A I r m U l;go_wp2_with fail;refine E.mono ?_;rintro e w2 ⟨rfl,bH⟩;have L:=(bH.block w.heap.size wU (by simp)).trans H.2;obtain⟨x0,x1,x2,x3,x4,x5,x6,x7,x8,x9,xa,xb⟩:=mD L;clear L;have O:=ah (H.1.trans bH);clear bH E
  go_wp2;go_ret;exact⟨rfl,O.out⟩
end
end Go.Proofs.YtlgeloebpdmnnaaGreatDoor
