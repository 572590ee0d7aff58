import Derived.Test.YtdcafjmdfpjcbaaGreatDoorC31
set_option maxHeartbeats 8000000
set_option maxRecDepth 100000
namespace Go.Proofs.YtdcafjmdfpjcbaaGreatDoor
open Go.RowKit Go.Maps Tryz Sc
variable{k:ByteArray}{hp i p t:Nat}{w w':World}
theorem pM.sL(f:pM p w w'):lA hp p none none w w':=
 ⟨f.os,f.tape,f.output,f.size,λk h hn=>f.block k h (λo=>hn (eX.2 (.inr o))),λk h o=>by
  obtain e|e:=eX.1 o
  .grind [eX]
  .exact eX.2 (.inr (f.stay k h e))⟩
theorem lA.Zw{B h bN n D N:Nat}{v:Value}{d:ah}{C:Option (Nat×List Nat)}(f:lA hp p none C w w')(a:aB w B p h bN v d n D N)(L:B<=hp):Below B w w':=
 f.below a.base.2.2.2 (λk b=>by
  obtain e|e:=eX.1 b
  .omega
  .exact a.geD e)
def zm(J:List Rec->ag->Prop)(B hp p D bN:Nat)(R:aq × ah × Nat)(n:Nat)(so:Option (Nat × List Nat))(w:World)(e:Ending)(w':World):Prop :=
 e=.returned (.int .i64 (R.2.2:Int))/\Below B w w' /\
 ((R.2.2=0/\∃s b V T H l a,J (counted R.1.recs) a/\kz w' B hp p s b V T H l D bN (20*R.1.recs.length) n a R.1 (R.2.1.bj (-1) (-1))/\lA hp p so (some (l,[s,V,T,H])) w w') \/
  (R.2.2≠0/\R.2.1.down=false/\wH w' B 2 hp p D bN (R.2.1.bj (-1) (-1)) n/\lA hp p so none w w') \/
  (R.2.2≠0/\R.2.1.down=true/\∃F g,Left R.2.1.ai R.2.1.pending F/\wH w' B 2 hp p D g (eI F) n/\lA hp p so none w w'))
theorem VN(B hp p o bN n nD nN:Nat)(J:List Rec->ag->Prop)(L:aq×ah×Nat->Nat->Prop)(pv lv:Value)(up:Bool)(so:Option<|Nat×List Nat)(d:ah)(a b c k:Int)(w:World)(hh:w.heap[hp]?=some (gB p up lv))(NR:∃x,lv=.pointer x)(Gh:∀lp S,so=some (lp,S)->lp<w.heap.size)(a8:aB w B p o bN pv d n nD nN)(hB:3<=B)(fL:B<=hp)(gH:Met w)
  (dM:∀W,aB W B p o bN pv (d.bj a b) n nD nN->Below B w W->Kt J B p o bN L W) (hr:∀R n,L R n->R.2.2=0->R.2.1.down=false) (kD:-2^63<=k) (gT:k<=9223372036854775807) :
  Calls prog 9 #[rM hp,fY a b c k] w λe w'=>∃R n,L R n/\zm J B hp p o bN R n so w e w':=by
 have⟨W,hW⟩:=xY <|w.alloc (iV a b c k);have eU:Fr [] w W:=by rw[hW];exact(lE w).alloc _
 have wI:=a8.new eU;have wy:=(zza.1 hh).1;have E6:W.heap[hp]?=some (gB p up lv):=(eU.block hp wy sE).trans hh;have Y:W.heap[w.heap.size]?=some (iV a b c k):=by rw[hW];exact heap_alloc_new w _
 have nh:Below B w W:=eU.below a8.base.2.2.2 sE;have Ih:lA hp p so so w W:=a8.Sv eU Gh;have x0:=aa Y 0;have x1:=aa Y 1;have x2:=aa Y 2;have x3:=aa Y 3;simp at x0 x1 x2 x3;rw[hW]at x0 x1 x2 x3;have HG:=ae gH;have HS:=ae<|zzb dM hr;have i:=ae<|zzb E6<|zzb Y<|zzb wI<|zzb nh Ih;clear hh eU wI E6 Y nh a8 gH dM hr Ih
 go_enter func9,ntmps9;go_wp2_with fail;rw[<-hW];clear hW x0 x1 x2 x3;apply(qK hp p o bN pv _ up d.down d.left d.full a b c k W i.1 i.2.2.1.blk).mono;rintro e Q ⟨rfl,gw,bF⟩;have mF:aB Q B p o bN pv (d.bj a b) n nD nN:=i.2.2.1.gR bF a b d.down gw;have an:hp≠p:=by intro e;have:=i.1;rw[e,i.2.2.1.blk]at this;cases this
 have td:Q.heap[hp]?=some (gB p up lv):=(bF.block hp (zza.1 i.1).1<|by simpa using an).trans i.1;have Zr:w.heap.size≠p:=by intro e;have:=i.2.1;rw[e,i.2.2.1.blk]at this;cases this
 have oa:Q.heap[w.heap.size]?=some (iV a b c k):=(bF.block _ (zza.1 i.2.1).1<|by simpa using Zr).trans i.2.1;have Qc:Below B W Q:=bF.below i.2.2.1.base.2.2.2 (by intro j h;simp at h;rw[h];exact i.2.2.1.base.1);have y:=ae<|zzb td<|zzb oa<|zzb mF<|zzb (i.2.2.2.1.trans Qc) bF;clear gw bF mF td oa Qc;go_wp2_with fail;apply(LS hp p up lv NR Q y.1).mono;rintro e w2 ⟨rfl,BJ,cA⟩;have ow:aB w2 B p o bN pv (d.bj a b) n nD nN:=y.2.2.1.nQ y.1 cA;have a7:w.heap.size≠hp:=oE
 have lF:w2.heap[w.heap.size]?=some (iV a b c k):=(cA.block _ (zza.1 y.2.1).1<|by simpa using a7).trans y.2.1;have Nd:Below B Q w2:=cA.below y.2.2.1.base.2.2.2 (by intro j h;simp at h;omega);have lQ:lA hp p so none w w2:=i.2.2.2.2.trans (i.2.2.1.sL ow ((y.2.2.2.2.mono (by intro j _ h;simp at h;simp[h]):Fr [hp,p] W Q).trans<|cA.mono<|by intro j _ h;simp at h;simp[h]) (by intro j h;simp at h;obtain e|e:=h<;>simp[e]) (.inl rfl)<|bn.refl _ _);have sj:=aa BJ 0;have lI:=aa BJ 2;simp at sj lI;have YT:=y.2.2.2.1.trans Nd;have vW:Met w2:=HG.out.below YT oE;have fB:=G_ J B p o bN L w2<|HS.1 w2 ow YT;have H:=ae<|zzb BJ<|zzb lF<|zzb ow<|zzb YT<|zzb lQ vW;clear BJ cA ow lF Nd lQ YT vW;go_wp2_with fail;apply fB.mono;clear fB;rintro e r ⟨R,n3,Ks,Xd⟩;have al:=HS.2 R n3 Ks;have HR:=ae Ks;clear Ks;rcases Xd with⟨u,M,gp,bV,bT,bH,lp,s',rfl,Ku,gA,lj,D,pX⟩|⟨u,rfl,⟨Nj,Ph,Nk,Nl⟩,D⟩
 .have De:r.heap[hp]?=some (gB p false<|.pointer none):=(D.block hp (zza.1 H.1).1 (H.2.2.1.iU H.1 dN dN) sE).trans H.1;have C:r.heap[w.heap.size]?=some (iV a b c k):=(D.block _ (zza.1 H.2.1).1 (H.2.2.1.iU H.2.1 dN dN) sE).trans H.2.1;have Z:Below B w2 r:=⟨D.os,D.tape,D.output,D.size,λq V=>D.block q (zzl V H.2.2.1.base.2.2.2) (λho=>by have:=H.2.2.1.geD ho;omega) sE⟩;have qW:Met r:=H.2.2.2.2.2.below Z oE;have aA:=H.2.2.1.base.2.2.2;have eV:B<=M/\B<=bV/\B<=bT/\B<=bH:=⟨oE,oE,oE,oE⟩;have ay:=al u;have⟨g,I⟩:∃g,g=(r.setCell ⟨hp,5,none⟩<|.pointer<|some ⟨M,0,none⟩).setCell ⟨hp,3,none⟩ (.bool true):=⟨_,rfl⟩
  have a1:g.heap[hp]?=some (gB p true<|.pointer<|some (dH M)):=by
   have:=aH (aH De 5<|.pointer<|some (dH M)) 3<|.bool true;simp at this;rw[I];exact this
  have N:Fr [hp] r g:=by rw[I];exact(Fr.cH sE _ _).trans<|Fr.cH sE _ _
  have v:g.heap[w.heap.size]?=some (iV a b c k):=(N.block _ (zza.1 C).1<|by simpa using a7).trans C;have wF:=gA.other N De dN dN dN dN dN dN dN dN;have E:Below B r g:=N.below (by have:=D.size;omega) (by intro j h;simp at h;omega);have SF:Met g:=qW.below E oE;have QU:lA hp p none (some (lp,[M,bV,bT,bH])) w2 g:=by
   have⟨Nj,aC,aE,Ph,Nk,sT⟩:=gA.lg;have jH:=sT.other N De dN dN dN dN dN dN;refine⟨N.os.trans D.os,N.tape.trans D.tape,N.output.trans D.output,zzk D.size N.size,λq V hn=>?_,λq V ho=>?_⟩
   .rw[eX]at hn;simp only[not_or]at hn;exact(N.block q (zzl V D.size)<|by simp;exact hn.1).trans<|D.block q V hn.2 sE
   .rw[eX];obtain e|e|e:=eM.1 ho
    .exact .inl e
    .exact .inr<|pX q V<|(sT.own q).2<|(jH.own q).1 e
    .simp at e;omega
  have z:=aa v 0;have T:=aa v 1;have A:=aa v 2;have O:=aa v 3;simp at z T A O;rw[I]at z T A O;have l:=ae<|zzb a1<|zzb wF<|zzb ((H.2.2.2.1.trans Z).trans E)<|zzb (H.2.2.2.2.1.trans QU) Ku;have c3:=aa De 3;have c5:=aa De 5;have f3:=au De 3;have f5:=au De 5;have c2:=aa De 2;simp at c3 c5 c2;clear sj lI De C Z gA D a1 N v wF E pX QU al Ku;go_wp2_with fail;rw[<-I];clear I z T A O c3 c5 f3 f5 c2;apply(vV B hp M gp bV bT bH (20*R.1.recs.length) lp p o bN n3 s' R.1 R.2.1 a b c k g l.1 l.2.1 eV kD gT).mono;rintro e s ⟨rfl,hz5⟩;rcases hz5 with⟨_,P,X⟩|⟨e1,_⟩
  rotate_left
  .rw[ay]at e1;cases e1
  have G:Below B g s:=X.below (l.2.1.p_ eV fL).1 (l.2.1.p_ eV fL).2;have Mv:Met s:=SF.below G oE;have f:=ae<|zzb P<|zzb (l.2.2.1.trans G)<|zzb (l.2.2.2.1.trans X) l.2.2.2.2;clear P X G;go_wp2_with fail;apply(jw 0 s Mv).mono;rintro e t ⟨rfl,oz⟩
  have GU:Hid (∃R n,L R n/\zm J B hp p o bN R n so w (.returned<|.int .i64 0) t):=by
   have⟨k1,k2⟩:=f.1.new oz;refine⟨R,n3,HR.out,by rw[u];rfl,f.2.1.trans<|(k2.sL).below (f.1.2.1.p_ eV fL).1 (f.1.2.1.p_ eV fL).2,.inl ⟨u,M,gp,bV,bT,bH,lp,s',f.2.2.2,k1,f.2.2.1.trans k2.sL⟩⟩
  clear oz;go_wp2;go_ret;exact GU.out
 .have De:r.heap[hp]?=some (gB p false<|.pointer none):=(D.block hp (zza.1 H.1).1<|H.2.2.1.iU H.1 dN dN).trans H.1;have C:r.heap[w.heap.size]?=some (iV a b c k):=(D.block _ (zza.1 H.2.1).1<|H.2.2.1.iU H.2.1 dN dN).trans H.2.1;have Z:Below B w2 r:=D.below H.2.2.1;have qW:Met r:=H.2.2.2.2.2.below Z oE;have⟨g,I⟩:∃g,g=(r.setCell ⟨hp,5,none⟩<|.pointer none).setCell ⟨hp,3,none⟩ (.bool false):=⟨_,rfl⟩;have a1:g.heap[hp]?=some (gB p false<|.pointer none):=by
   have:=aH (aH De 5<|.pointer none) 3<|.bool false;simp at this;rw[I];exact this
  have N:Fr [hp] r g:=by rw[I];exact(Fr.cH sE _ _).trans<|Fr.cH sE _ _
  have v:g.heap[w.heap.size]?=some (iV a b c k):=(N.block _ (zza.1 C).1<|by simpa using a7).trans C;have ab:=Nl.nQ De N;have QU:lA hp p so none w g:=(H.2.2.2.2.1.trans D.sL).trans (Nl.sL ab N (by intro j h;simp at h;simp[h]) (.inl rfl)<|bn.refl _ _);have E:Below B r g:=N.below Nl.base.2.2.2 (by intro j h;simp at h;omega);have SF:Met g:=qW.below E oE;have c3:=aa De 3;have c5:=aa De 5;have f3:=au De 3;have f5:=au De 5;have c2:=aa De 2;simp at c3 c5 c2;have ao:=LS hp p false (.pointer none) ⟨_,rfl⟩ g a1;have l:=ae<|zzb a1<|zzb v<|zzb ab<|zzb ((H.2.2.2.1.trans Z).trans E) QU;clear sj lI De C Z D a1 N v ab E QU al Nl;rw[aG u];go_wp2_with fail;rw[<-I];clear I c3 c5 f3 f5 c2;apply ao.mono;clear ao;rintro e s ⟨rfl,hh5,kP⟩;have ak:=l.2.2.1.nQ l.1 kP;have P:s.heap[w.heap.size]?=some (iV a b c k):=(kP.block _ (zza.1 l.2.1).1<|by simpa using a7).trans l.2.1;have X:lA hp p so none w s:=l.2.2.2.2.trans (l.2.2.1.sL ak kP (by intro j h;simp at h;simp[h]) (.inl rfl)<|bn.refl _ _);have G:Below B g s:=kP.below l.2.2.1.base.2.2.2 (by intro j h;simp at h;omega);have Mv:Met s:=SF.below G oE;have z:=aa P 0;have T:=aa P 1;have A:=aa P 2;have O:=aa P 3
  simp at z T A O;have f:=ae<|zzb hh5<|zzb ak<|zzb (l.2.2.2.1.trans G) X;clear hh5 kP ak P X G
  cases VJ:R.2.1.down with
  |false=>
   have tL:=f.2.1.blk;rw[VJ]at tL;go_wp2_with fail;apply(LR hp p o bN Nj _ false R.2.1.left R.2.1.full a b c k s f.1 tL).mono;rintro e t ⟨rfl,M4,oz⟩;have ad:=M4;rw[<-VJ]at ad;have U:aB t B p o bN Nj (R.2.1.bj (-1)<|-1) n3 Ph Nk:=f.2.1.gR oz (-1) (-1) R.2.1.down ad;have a6:=(oz.block hp (zza.1 f.1).1<|by simpa using an).trans f.1;have WH:lA hp p so none w t:=f.2.2.2.trans (f.2.1.sL U oz (by intro j h;simp at h;simp[h]) (.inl rfl)<|bn.refl _ _);have K:Below B s t:=oz.below f.2.1.base.2.2.2 (by intro j h;simp at h;rw[h];exact f.2.1.base.1);have SI:Met t:=Mv.below K oE;have m:=ae<|zzb a6<|zzb U<|zzb (f.2.2.1.trans K) WH;clear M4 ad oz U a6 WH K tL z T A O;have F:=jw R.2.2 t SI;rw[aG u]at F;go_wp2_with fail;apply F.mono;clear F;rintro e w7 ⟨rfl,lX⟩
   have GU:Hid (∃R' n',L R' n'/\zm J B hp p o bN R' n' so w (.returned<|.int .i64 (R.2.2:Int)) w7):=by
    refine⟨R,n3,HR.out,?_⟩;have a':=m.2.1.new lX;exact⟨rfl,m.2.2.1.trans<|lX.below m.2.1.base.2.2.2 sE,.inr<|.inl ⟨u,VJ,⟨(lX.block hp (zza.1 m.1).1 sE).trans m.1,_,_,_,a'⟩,m.2.2.2.trans<|m.2.1.Sv lX sE⟩⟩
   clear lX;go_wp2;go_ret;exact GU.out
  |true=>
   go_wp2_with fail;apply(vU 2 B hp p o bN n3 Ph Nk Nj (.pointer none) (.pointer none) false R.2.1 a b c k none s sE f.1 ⟨_,rfl⟩ ⟨_,rfl⟩ f.2.1 VJ kD gT).mono;rintro e t ⟨rfl,F',ng,hl6,⟨a6,pv6,nD6,nN6,U⟩,WH⟩;have K:Below B s t:=WH.Zw f.2.1 fL;have SI:Met t:=Mv.below K oE;have m:=ae<|zzb a6<|zzb U<|zzb (f.2.2.1.trans K)<|zzb (f.2.2.2.trans WH) hl6;clear U a6 WH K hl6 z T A O;have F:=jw R.2.2 t SI;rw[aG u]at F;go_wp2_with fail;apply F.mono;clear F;rintro e w7 ⟨rfl,lX⟩
   have GU:Hid (∃R' n',L R' n'/\zm J B hp p o bN R' n' so w (.returned<|.int .i64 (R.2.2:Int)) w7):=by
    refine⟨R,n3,HR.out,?_⟩;have a':=m.2.1.new lX;exact⟨rfl,m.2.2.1.trans<|lX.below m.2.1.base.2.2.2 sE,.inr<|.inr ⟨u,VJ,F',ng,m.2.2.2.2,⟨(lX.block hp (zza.1 m.1).1 sE).trans m.1,_,_,_,a'⟩,m.2.2.2.1.trans<|m.2.1.Sv lX sE⟩⟩
   clear lX;go_wp2;go_ret;exact GU.out
structure aJ where
 key:ByteArray
 wr:Bool
 gone:Bool
 val:ByteArray
structure a_ where
 id:Nat
 st:Nat
 ops:Nat
 jY:Nat
 ak:List aJ
structure aK where
 table:List (ByteArray × ByteArray)
 af:List a_
def aJ.dx(l:aJ):aQ:=⟨if l.wr=true then (if l.gone=true then 2 else 1) else 0,l.val⟩
theorem aJ.writes(l:aJ):l.dx.writes=l.wr:=by grind[aJ.dx,aQ.writes]
def aT(s:List aJ)(k:ByteArray):Option aJ:=s.find? λl=>decide (l.key=k)
def aU(xs:List a_)(t:Nat):Option a_:=xs.find? λx=>decide (x.id=t)
def lJ(s:List aJ)(k:ByteArray):Option Nat:=s.findIdx? λl=>decide (l.key=k)
def p8(xs:List a_)(t:Nat):Option Nat:=xs.findIdx? λx=>decide (x.id=t)
theorem rQ{α:Type}(p:α->Bool):∀(xs:List α),(∀i,xs.findIdx? p=some i->∃x,xs[i]?=some x/\p x=true/\xs.find? p=some x)/\(xs.findIdx? p=none->xs.find? p=none)
 |[]=>⟨λi h=>by simp at h,λ_=>rfl⟩
 |x::xs=>by
  have⟨c,f⟩:=rQ p xs;by_cases a:p x=true
  .refine⟨λi h=>?_,λh=>?_⟩
   .simp[List.findIdx?_cons,a]at h;subst h;exact⟨x,rfl,a,by simp[a]⟩
   .simp[List.findIdx?_cons,a]at h
  .refine⟨λi h=>?_,λh=>?_⟩
   .simp[List.findIdx?_cons,a]at h;obtain⟨j,b,rfl⟩:=h;have⟨y,g,e,d⟩:=c j b;exact⟨y,by simpa using g,e,by simp[a,d]⟩
   .simp only[List.findIdx?_cons,a,Bool.false_eq_true,if_false,Option.map_eq_none_iff]at h;rw[List.find?_cons_of_neg<|by simpa using a];exact f h
theorem kR{xs:List a_}(h:p8 xs t=some i):∃x,xs[i]?=some x/\x.id=t/\aU xs t=some x:=by
 have⟨x,a,c,b⟩:=(rQ _ xs).1 i h;exact⟨x,a,by simpa using c,b⟩
theorem mg{xs:List a_}(h:p8 xs t=none):aU xs t=none:=(rQ _ xs).2 h
theorem qP{s:List aJ}(h:lJ s k=some i):∃l,s[i]?=some l/\l.key=k/\aT s k=some l:=by
 have⟨x,a,b,c⟩:=(rQ _ s).1 i h;exact⟨x,a,by simpa using b,c⟩
theorem nI{s:List aJ}(h:lJ s k=none):aT s k=none:=(rQ _ s).2 h
theorem aN{xs:List a_}{x:a_}(h:aU xs t=some x):x∈xs/\x.id=t:=⟨List.mem_of_find?_eq_some h,by simpa using List.find?_some h⟩
theorem kS{xs:List a_}:aU xs t=none↔∀x∈xs,x.id≠t:=by unfold aU;simp
theorem pq{s:List aJ}{l:aJ}(h:aT s k=some l):l∈s/\l.key=k:=⟨List.mem_of_find?_eq_some h,by simpa using List.find?_some h⟩
theorem jP{s:List aJ}:aT s k=none↔∀l∈s,l.key≠k:=by unfold aT;simp
def jg(xs:List a_):Prop:=xs.Pairwise λa b=>a.id<b.id
theorem jg.at{xs:List a_}(h:jg xs){x:a_}(a:x∈xs):aU xs x.id=some x:=by
 induction xs with
 |nil=>cases a
 |cons y ys ih=>
  have⟨b,c⟩:=zzA.1 h;unfold aU;obtain rfl|hm:=zzj.1 a
  .simp
  .have:¬y.id=x.id:=λe=>by have:=b x hm;omega
   rw[List.find?_cons_of_neg<|by simpa using this];exact ih c hm
theorem jg.ix{xs:List a_}(h:jg xs){x:a_}(c:xs[i]?=some x):p8 xs x.id=some i:=by
 unfold p8;rw[List.findIdx?_eq_some_iff_getElem];have⟨a,e⟩:=zzd.1 c;refine⟨a,by simp[e],λj b=>?_⟩;have:=List.pairwise_iff_getElem.1 h j i oE a b;rw[e]at this;simp;omega
def fH(xs:List a_)(x:a_):List a_:=xs.map λy=>if y.id=x.id then x else y
theorem Ed(xs:List a_)(x:a_):(fH xs x).length=xs.length:=by simp[fH]
theorem Vd(xs:List a_)(x:a_):(fH xs x).map (·.id)=xs.map (·.id):=by
 unfold fH;rw[List.map_map];apply List.map_congr_left;intro y _;simp only[Function.comp];split
 .grind
 .rfl
theorem Ee{xs:List a_}:jg xs↔(xs.map (·.id)).Pairwise (· < ·):=by rw[List.pairwise_map];rfl
theorem jg.fH{xs:List a_}(h:jg xs)(x:a_):jg (fH xs x):=by grind[Ee,Vd]
theorem vC{xs:List a_}(x:a_)(t:Nat):aU (fH xs x) t=if t=x.id then (aU xs t).map λ_=>x else aU xs t:=by
 induction xs with
 |nil=>simp[fH,aU]
 |cons y ys ih=>grind[aU,fH]
theorem jg.set{xs:List a_}(h:jg xs){x x':a_}(b:xs[i]?=some x)(f:x'.id=x.id):xs.set i x'=Go.Proofs.YtdcafjmdfpjcbaaGreatDoor.fH xs x':=by
 apply List.ext_getElem?;intro j;unfold Go.Proofs.YtdcafjmdfpjcbaaGreatDoor.fH;rw[List.getElem?_set,zzy];have⟨l,e⟩:=zzd.1 b;by_cases a:i=j
 .grind
 .rw[if_neg a];cases q:xs[j]? with
  |none=>rfl
  |some y=>
   simp only[Option.map_some];have:¬y.id=x'.id:=by
    intro g;have d:=h.ix b;have c:=h.ix q;rw[g,f,d]at c;exact a<|Option.some.inj c
   rw[if_neg this]
def del(xs:List a_)(t:Nat):List a_:=xs.filter λy=>!decide (y.id=t)
theorem jg.del{xs:List a_}(h:jg xs)(t:Nat):jg (del xs t):=List.Pairwise.filter _ h
theorem Ad{xs:List a_}(u t:Nat):aU (del xs u) t=if t=u then none else aU xs t:=by grind[aU,del]
theorem jg.erase{xs:List a_}(h:jg xs){x:a_}(a:xs[i]?=some x):xs.take i++xs.drop (i+1)=Go.Proofs.YtdcafjmdfpjcbaaGreatDoor.del xs x.id:=by
 induction xs generalizing i with
 |nil=>simp at a
 |cons y ys ih=>
  have⟨b,d⟩:=zzA.1 h;unfold Go.Proofs.YtdcafjmdfpjcbaaGreatDoor.del at *;cases i with
  |zero=>
   simp at a;subst a;rw[List.filter_cons_of_neg sE];simp only[List.take_zero,List.nil_append,Nat.zero_add,List.drop_succ_cons,List.drop_zero];symm;rw[List.filter_eq_self];intro z c;have:=b z c;simp;omega
  |succ i=>
   simp at a;have m:=zzh a;have:=b x m;rw[List.filter_cons_of_pos sC];simp only[List.take_succ_cons,List.drop_succ_cons,List.cons_append];rw[ih d a]
def ins(xs:List a_)(x:a_):List a_:=(xs.takeWhile λy=>decide (y.id<x.id))++x :: (xs.dropWhile λy=>decide (y.id<x.id))
theorem vD{xs:List a_}(x:a_)(t:Nat)(h:aU xs x.id=none):aU (ins xs x) t=if t=x.id then some x else aU xs t:=by
 induction xs with
 |nil=>
  unfold ins aU;by_cases e:x.id=t
  .simp[e]
  .have:¬t=x.id:=λh=>e h.symm
   simp[e,this]
 |cons y ys ih=>
  have hn:=kS.1 h;have c:y.id≠x.id:=hn y sE;have r:aU ys x.id=none:=kS.2 λz b=>hn z<|by simp[b]
  have ih:=ih r;unfold ins aU at *;by_cases l:y.id<x.id
  .rw[List.takeWhile_cons_of_pos<|by simpa using l,List.dropWhile_cons_of_pos<|by simpa using l,List.cons_append,List.find?_cons,List.find?_cons];by_cases a:y.id=t
   .grind
   .grind
  .rw[List.takeWhile_cons_of_neg<|by simpa using l,List.dropWhile_cons_of_neg<|by simpa using l,List.nil_append,List.find?_cons];by_cases a:x.id=t
   .simp[a]
   .grind
theorem jg.ins{xs:List a_}(h:jg xs)(x:a_)(hn:aU xs x.id=none):jg (ins xs x):=by
 induction xs with
 |nil=>unfold Go.Proofs.YtdcafjmdfpjcbaaGreatDoor.ins jg;simp
 |cons y ys ih=>
  have⟨b,c⟩:=zzA.1 h;have q:=kS.1 hn;have d:y.id≠x.id:=q y sE;have r:aU ys x.id=none:=kS.2 λz a=>q z<|by simp[a]
  have ih:=ih c r;unfold Go.Proofs.YtdcafjmdfpjcbaaGreatDoor.ins jg at *;by_cases l:y.id<x.id
  .rw[List.takeWhile_cons_of_pos<|by simpa using l,List.dropWhile_cons_of_pos<|by simpa using l,List.cons_append,zzA];refine⟨λz a=>?_,ih⟩;obtain a|a:=zzo.1 a
   .exact b z<|(List.takeWhile_sublist _).subset a
   .rcases zzj.1 a with rfl|a
    .exact l
    .exact b z<|List.dropWhile_subset _ a
  .rw[List.takeWhile_cons_of_neg<|by simpa using l,List.dropWhile_cons_of_neg<|by simpa using l,List.nil_append,zzA];refine⟨λz a=>?_,h⟩;obtain rfl|a:=zzj.1 a
   .omega
   .grind
theorem Ve(xs:List a_)(x:a_):(ins xs x).length=xs.length+1:=by
 unfold ins;have:=congrArg List.length<|List.takeWhile_append_dropWhile (p:=λy:a_=>decide<|y.id<x.id) (l:=xs);rw[zzi]at this;rw[zzi,zzr];omega
def eJ(s:List aJ)(l:aJ):List aJ:=if (aT s l.key).isSome=true then s.map (λy=>if y.key=l.key then l else y) else s++[l]
def iy(s:List aJ):Prop:=s.Pairwise λa b=>a.key≠b.key
theorem JQ(s:List aJ)(l:aJ)(k:ByteArray):aT (eJ s l) k=if k=l.key then some l else aT s k:=by
 unfold eJ;by_cases h:(aT s l.key).isSome=true
 .rw[if_pos h];have a:∀s:List aJ,aT (s.map λy=>if y.key=l.key then l else y) k=if k=l.key then (aT s k).map λ_=>l else aT s k:=by
   intro s;induction s with
   |nil=>simp[aT]
   |cons y ys ih=>grind[aT]
  rw[a];by_cases e:k=l.key
  .subst e;rw[if_pos rfl,if_pos rfl];have⟨z,b⟩:=Option.isSome_iff_exists.1 h;rw[b];rfl
  .grind
 .grind [aT]
theorem iy.put{s:List aJ}(h:iy s)(l:aJ):iy (eJ s l):=by
 unfold eJ;split
 .have:(s.map λy=>if y.key=l.key then l else y).map (·.key)=s.map (·.key):=by
   rw[List.map_map];apply List.map_congr_left;intro y _;simp only[Function.comp];split
   .grind
   .rfl
  have d:(s.map (·.key)).Pairwise (·≠·):=by rw[List.pairwise_map];exact h
  rw[<-this,List.pairwise_map]at d;exact d
 .rename_i hn;have hn:aT s l.key=none:=by simpa using hn
  have hn:=jP.1 hn;exact List.pairwise_append.2 ⟨h,sE,λa e b c=>by simp at c;subst c;exact hn a e⟩
theorem yr(s:List aJ)(l:aJ):(eJ s l).length=if (aT s l.key).isSome=true then s.length else s.length+1:=by grind[eJ]
theorem Gt{s:List aJ}{l x:aJ}(h:x∈eJ s l):x=l\/x∈s:=by grind[eJ]
theorem iy.set{s:List aJ}(h:iy s){l l':aJ}(f:s[i]?=some l)(k:l'.key=l.key):s.set i l'=eJ s l':=by
 have⟨c,e⟩:=zzd.1 f;have g:(aT s l'.key).isSome=true:=by grind[aT,jP]
 unfold eJ;rw[if_pos g];apply List.ext_getElem?;intro j;rw[List.getElem?_set,zzy];by_cases b:i=j
 .grind
 .rw[if_neg b];cases q:s[j]? with
  |none=>rfl
  |some y=>
   simp only[Option.map_some];have⟨B,d⟩:=zzd.1 q;have:¬y.key=l'.key:=by
    intro a;rw[k]at a;obtain P|Tv:=Nat.lt_or_gt_of_ne b
    .exact List.pairwise_iff_getElem.1 h i j c B P<|by rw[e,d];exact a.symm
    .exact List.pairwise_iff_getElem.1 h j i B c Tv<|by rw[e,d];exact a
   rw[if_neg this]
end Go.Proofs.YtdcafjmdfpjcbaaGreatDoor
