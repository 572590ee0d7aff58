import Derived.Test.YtlgeloebpdmnnaaGreatDoorC28
import Derived.Test.YtlgeloebpdmnnaaGreatDoorC34
set_option maxHeartbeats 8000000
set_option maxRecDepth 100000
namespace Go.Proofs.YtlgeloebpdmnnaaGreatDoor
open Go.RowKit Go.Maps Tryz Sc
section
open Go.Shelf
theorem CL.more{w:nL}{B a g T m m' e p h N n:Nat}{c:bL}{l:au}{d:aj}(b:CL w B a g T m e p h N n c l d)(f:m<=m'):CL w B a g T m' e p h N n c l d:={b with co:=b.co.mono f}
def bL.UG(c:bL)(M x:Nat):bL:=if x=0 then { c with aH:=M } else c
def bL.ended(c:bL)(t x:Nat):bL:=if x=0 then { c with aD:=dU c.aD t } else c
def bL.begun(c:bL)(x:Nat):bL:=if x=0 then { c with aH:=c.aH+16,next:=c.aH+1,aD:=dt c.aD c.aH ⟨4,[0,0,0,0,0,0,0,0,0],0,0⟩ } else c
def abl(t x:Nat):Value:=if x=0 then .tuple #[.int .u64 (t:Int),.nilIface] else .tuple #[.int .u64 0,bB x]
theorem Qk(B b g T m f p D N n:Nat)(c:bL)(l:au)(d:aj)(w:nL)(h:CL w B b g T m f p D N n c l d)(a1:c.aH+16<2^64)(hn:n+3<1000000000)(G:2<=B)(uM:l.filled<600->l.segs≠[])(C:dJ w):
  Calls prog 253 #[gx b] w λe w'=>e=.returned (bB (l.keep d 1<|str<|be 8<|c.aH+16).2.2)/\CL w' B b g T m f p D N (n+3) (c.UG (c.aH+16) (l.keep d 1<|str<|be 8<|c.aH+16).2.2) (l.keep d 1<|str<|be 8<|c.aH+16).1 (l.keep d 1<|str<|be 8<|c.aH+16).2.1/\jJ b T f p w w':=by
 obtain⟨r,v,t,_⟩:=h.co.ex;have L:=h.PG;have s:=af t 0;have c3:=af t 3;simp at s c3;rw[kq L]at s;have hl:=h.co.jS.1;have S:=h.co.gw;obtain⟨M,u⟩:∃M,M=c.aH+16:=⟨_,rfl⟩;have iM:(c.aH:Int)+16=(M:Int):=dp;have jM:IntKind.u64.wrap ((c.aH:Int)+16)=(M:Int):=by rw[Bl];omega
 have kM:(c.aH:Int)+16<18446744073709551616:=dp;rw[<-u];have Z:=uV M w.drew dp;have q:=ah<|zzb h C;have V:=ah u;clear h C t u
 go_enter func253,ntmps253
 go_wp2;clear iM jM kM
 go_region_held3 (λw'=>w'.cell? ⟨b,0,none⟩=some (.pointer<|some ⟨g,0,none⟩))
  (simp[*])
  (first|(go_at_call 251;refine Z.mono ?_;rintro e j ⟨rfl,CD⟩;have z:=(fU w).drew.trans<|Fr.bE CD [];obtain⟨yo,H⟩:=q.1.new z;have k0:=(zze (a:=⟨b,0,none⟩)<|z.block b hl dv).trans s;have K:=ah<|show CL j B b g T m f p D N n c l d/\jJ b T f p w j/\dJ j from ⟨yo,H,(H.kO q.1).p_ G q.2⟩;clear z CD yo H)|(go_at_call 185;obtain⟨pv,sv,a7,nD,nN,U⟩:=K.1.lg;refine(Ib B g f p D N n nD nN 1 pv sv a7 l d (str<|be 8 M) j K.1.qD U dp hn G uM K.2.2).mono ?_;rintro e k ⟨rfl,Us,XE⟩;obtain⟨P,I⟩:=K.1.log XE Us;obtain⟨a',a8,o,_⟩:=P.co.ex;have O:=af o 0;have n3:=af o 3;have f3:=aq o 3;simp at O n3;rw[kq L]at O;have i:=ah<|show CL k B b g T m f p D N (n+3) c (l.keep d 1<|str<|be 8 M).1 (l.keep d 1<|str<|be 8 M).2.1/\jJ b T f p w k from ⟨P,K.2.1.trans I⟩;clear U Us XE P I o))
 obtain⟨x,hx⟩:∃x,x=(l.keep d 1<|str<|be 8 M).2.2:=⟨_,rfl⟩;rw[<-hx];have X:=ah hx;clear hx;by_cases F:x=0
 .subst F;rw[aT];obtain⟨W,y⟩:∃W,W=k.setCell ⟨b,3,none⟩ (.int .u64 (M:Int)):=⟨_,rfl⟩;have E:Fr [b] k W:=by rw[y];exact Fr.cG dv _ _
  have Y:∀r v,k.heap[b]?=some (ub g T c r v)->W.heap[b]?=some (ub g T {c with aH:=M} r v):=λr v e=>by
   rw[y];have:=aF e 3<|.int .u64 (M:Int)
   simpa using this
  have A:a_ W B b g T m {c with aH:=M}:=i.1.co.cell rfl (hnum:=⟨S.1,by show M<_;rw[V.out];exact a1,S.2.2⟩) (hf:=E) (hb:=Y);obtain⟨J,Q⟩:=i.1.fL A<|i.1.co.Ny E dv Y;have R:=ah<|show CL W B b g T m f p D N (n+3) {c with aH:=M} (l.keep d 1<|str<|be 8 M).1 (l.keep d 1<|str<|be 8 M).2.1/\jJ b T f p w W from ⟨J,i.2.trans Q⟩;clear A E J Q Y;go_wp2;rw[<-y];go_ret;exact⟨by rw[<-X.out];rfl,by rw[<-X.out];exact R.out⟩
 .have hq:decide (x≠0)=true:=by simp[F]
  go_wp2;go_ret;exact⟨by rw[<-X.out];rfl,by rw[<-X.out,bL.UG,mE F];exact i.out⟩
theorem Yr(B a f T m b p D j n:Nat)(c:bL)(l:au)(d:aj)(w:nL)(h:CL w B a f T m b p D j n c l d)(Z:c.aD.length<12)(Q:c.next=c.aH)(O:c.aH+16<2^64)(hm:m+1<1000000000)(hn:n+3<1000000000)(hB:2<=B)(uM:l.filled<600->l.segs≠[])(I:dJ w):
  Calls prog 194 #[gx a] w λe w'=>e=.returned (abl c.aH (l.keep d 1<|str<|be 8<|c.aH+16).2.2)/\CL w' B a f T (m+1) b p D j (n+3) (c.begun (l.keep d 1<|str<|be 8<|c.aH+16).2.2) (l.keep d 1<|str<|be 8<|c.aH+16).1 (l.keep d 1<|str<|be 8<|c.aH+16).2.1/\jJ a T b p w w':=by
 obtain⟨t,s,g,_⟩:=h.co.ex;have Y:=h.PG;have z:=af g 0;have c1:=af g 1;have c2:=af g 2;have c3:=af g 3;simp at z c1 c2 c3;rw[kq Y]at z;rw[Q]at c2;have hlen:=h.co.aaY;have hl:=h.co.jS.1;have sS:=h.co.gw;have y:=Qk B a f T m b p D j n c l d w.drew (h.new (fU w).drew).1 O hn hB uM I;have C:=ah h;obtain⟨R,M⟩:∃R,R=l.keep d 1 (str<|be 8<|c.aH+16):=⟨_,rfl⟩;rw[<-M]at y ⊢;obtain⟨N,hN⟩:∃N,N=c.aD.length:=⟨_,rfl⟩;rw[<-hN]at hlen Z;have a1:¬(12:Int)<=N:=dp
 obtain⟨x,hx⟩:∃x,x=R.2.2:=⟨_,rfl⟩;rw[<-hx]at y ⊢;clear h I g M hN hx
 go_enter func194,ntmps194
 go_wp2
 go_region_held3 (λw'=>w'.cell? ⟨a,2,none⟩=some (.int .u64 (c.aH:Int))/\w'.cell? ⟨a,3,none⟩=some (.int .u64 (c.aH:Int)))
  (simp[*])
  (fail)
 go_wp2_with fail;refine y.mono ?_;clear y hlen z c1 c2 c3;rintro e i ⟨rfl,kn,oW⟩;by_cases F:x=0
 .subst F;rw[aT]
  change CL i B a f T m b p D j (n+3) {c with aH:=c.aH+16} R.1 R.2.1 at kn
  obtain⟨gM,iJ,g,_⟩:=kn.co.ex;have c2:=af g 2;have f2:=aq g 2;simp at c2;rw[Q]at c2;have i1:IntKind.u64.wrap ((c.aH:Int)+1)=(c.aH:Int)+1:=by rw[Bl];omega
  have i2:(c.aH:Int)+1<18446744073709551616:=dp;obtain⟨W,q⟩:∃W,W=i.setCell ⟨a,2,none⟩ (.int .u64<|(c.aH:Int)+1):=⟨_,rfl⟩;have u:Fr [a] i W:=by rw[q];exact Fr.cG dv _ _
  have A:∀t s,i.heap[a]?=some (ub f T {c with aH:=c.aH+16} t s)->W.heap[a]?=some (ub f T {c with aH:=c.aH+16,next:=c.aH+1} t s):=λt s e=>by
   rw[q];have:=aF e 2<|.int .u64<|(c.aH:Int)+1
   simpa [ub]using this
  have o:a_ W B a f T m {c with aH:=c.aH+16,next:=c.aH+1}:=kn.co.cell rfl (hnum:=⟨by show c.aH+1<_;omega,O,sS.2.2⟩) (hf:=u) (hb:=A);obtain⟨r,U⟩:=kn.fL o<|kn.co.Ny u dv A;obtain⟨J8,uX,J,_⟩:=o.ex;have E:=af J 1;simp at E;obtain⟨S,G,K,L⟩:=o.aD.qV underlying192 eE (k:=c.aH) (show c.aH<18446744073709551616 by omega) (v:=(⟨4,[0,0,0,0,0,0,0,0,0],0,0⟩:fQ))<|show fQ.Ok _ from ⟨rfl,du⟩
  change (Instr.mapUpdate _ _ (.int .u64 (c.aH:Int))<|.agg #[.int .i64 4,.int .u8 0,.int .u8 0,.int .u8 0,.int .u8 0,.int .u8 0,.int .u8 0,.int .u8 0,.int .u8 0,.int .u8 0,.int .u64 0,.nilIface]).run _ _=_ at G
  have X:=o.lS (Fr.bI L) K dp;obtain⟨P,V⟩:=r.fL X ((Fr.bI L).r r.co.jS.1 (by simpa using r.co.jS.2.2) dv);have F:=(C.out.new (fU w).drew).2.trans oW;have H:=ah<|show CL S B a f T (m+1) b p D j (n+3) {c with aH:=c.aH+16,next:=c.aH+1,aD:=dt c.aD c.aH ⟨4,[0,0,0,0,0,0,0,0,0],0,0⟩} R.1 R.2.1/\jJ a T b p w S from ⟨P,(F.trans U).trans V⟩;rw[q]at E G;clear kn oW g u A o r U J K L X P V F q;go_wp2;go_ret2;exact⟨rfl,H.out⟩
 .rw[bL.UG,mE F]at kn;have hq:decide (x≠0)=true:=by simp[F]
  have H:=ah<|show CL i B a f T (m+1) b p D j (n+3) c R.1 R.2.1/\jJ a T b p w i from ⟨kn.more dp,(C.out.new (fU w).drew).2.trans oW⟩;clear kn oW;go_wp2;go_ret2;exact⟨by rw[abl,mE F];rfl,by rw[bL.begun,mE F];exact H.out⟩
theorem abm(B b j f m g p D N n t k:Nat)(hk:k<9)(c:bL)(l:au)(d:aj)(w:nL)(h:CL w B b j f m g p D N n c l d)(ht:t<2^64)(G:(c.tx t).aS=0)(C:(c.tx t).state=6)(Nx:(c.tx t).parts.getD k 0=2)(S:((c.tx t).parts.set k 5).any kE=false)(hn:n+3<1000000000)(hB:2<=B)(uM:l.filled<600->l.segs≠[])(dK:dJ w):
  Calls prog 137 #[gx b,.int .u64 (t:Int),.int .i64 (k:Int)] w λe w'=>e=.returned (bB (l.note d 3<|str<|be 8 t).2.2)/\CL w' B b j f m g p D N (n+3) (c.ended t (l.note d 3<|str<|be 8 t).2.2) (l.note d 3<|str<|be 8 t).1 (l.note d 3<|str<|be 8 t).2.1/\jJ b f g p w w':=by
 have R:=h.co;have Z:=R.GA t;have mn:=R.iQ ht;obtain⟨rv,ov,g1,_⟩:=R.ex;have c1:=af g1 1;simp at c1;have dM:=R.jS;obtain⟨T,hT⟩:∃T,T=c.tx t:=⟨_,rfl⟩;rw[<-hT]at Z C Nx S mn G;obtain⟨i,o⟩:∃i:fQ,i={T with parts:=T.parts.set k 5}:=⟨_,rfl⟩;have uE:i.Ok:=by rw[o];exact yn Z dp
 have TA:T.parts.set k 5=i.parts:=by rw[o]
 rw[TA]at S;have E:=λW=>vA T Z k hk W
 rw[Nx]at E;have Y:=λW=>sG T Z k 5 hk W
 rw[<-o]at Y;obtain⟨J,L,M,O,P,Q,U,V,q8,H⟩:=nine uE.1
 have kG:lz i=.agg #[.int .i64 6,.int .u8 (J:Int),.int .u8 (L:Int),.int .u8 (M:Int),.int .u8 (O:Int),.int .u8 (P:Int),.int .u8 (Q:Int),.int .u8 (U:Int),.int .u8 (V:Int),.int .u8 (q8:Int),.int .u64 (T.since:Int),.nilIface]:=by
  have e:i=⟨6,[J,L,M,O,P,Q,U,V,q8],T.since,0⟩:=by
   have e1:i.state=6:=by rw[o];exact C
   have e2:i.since=T.since:=by rw[o]
   have e3:i.aS=0:=by rw[o];exact G
   obtain⟨a1,a2,a3,a4⟩:=i;simp only at e1 e2 e3 H;rw[e1,e2,e3,H]
  rw[e,bC,aT];rfl
 rw[kG]at Y;have TB:=ah λW=>tZ 182 kE Am wV i uE W;rw[S,kG]at TB;have XU:=ah Y;obtain⟨s,ps,z,qd⟩:=T
 change qd=0 at G
 subst G;obtain⟨p0,p1,p2,p3,p4,p5,p6,p7,p8,eG⟩:=nine Z.1
 change ps=_ at eG
 subst eG
 change s=6 at C
 subst C;rw[bC,aT]at mn;simp only[bC,aT]at E;have HI:=ah<|zzb h dK;have Ly:=h.PG;obtain⟨u,F⟩:∃u,u=w.alloc (.cells #[.int .i64 6,.int .u8 (p0:Int),.int .u8 (p1:Int),.int .u8 (p2:Int),.int .u8 (p3:Int),.int .u8 (p4:Int),.int .u8 (p5:Int),.int .u8 (p6:Int),.int .u8 (p7:Int),.int .u8 (p8:Int),.int .u64 (z:Int),.nilIface] 249):=⟨_,rfl⟩;have dI:Fr [] w u:=by rw[F];exact(fU w).alloc _
 have r0:u.heap[nF w]?=some (.cells #[.int .i64 6,.int .u8 (p0:Int),.int .u8 (p1:Int),.int .u8 (p2:Int),.int .u8 (p3:Int),.int .u8 (p4:Int),.int .u8 (p5:Int),.int .u8 (p6:Int),.int .u8 (p7:Int),.int .u8 (p8:Int),.int .u64 (z:Int),.nilIface] 249 (0,0)):=by rw[F];exact oz w _
 have fE:=E u;have wU:=(zza.1 r0).1;have H0:=ah<|zzb dI r0
 go_enter func137,ntmps137
 go_wp2_with fail;rw[<-F];refine fE.mono ?_
 rintro e w2 ⟨rfl,bH⟩;have r2:=(bH.block (nF w) wU dv).trans H0.2;obtain⟨x0,x1,x2,x3,x4,x5,x6,x7,x8,x9,xa,xb⟩:=mD r2;have Y:=XU.out w2;have H2:=ah<|H0.1.trans bH;go_wp2_with fail;refine Y.mono ?_;rintro e w3 ⟨rfl,fu⟩;obtain⟨v,I⟩:∃v,v=w3.alloc (.cells #[.int .i64 6,.int .u8 (J:Int),.int .u8 (L:Int),.int .u8 (M:Int),.int .u8 (O:Int),.int .u8 (P:Int),.int .u8 (Q:Int),.int .u8 (U:Int),.int .u8 (V:Int),.int .u8 (q8:Int),.int .u64 (z:Int),.nilIface] 249):=⟨_,rfl⟩;have iI:Fr [] w v:=by rw[I];exact(H2.out.trans fu).alloc _
 have r4:v.heap[nF w3]?=some (.cells #[.int .i64 6,.int .u8 (J:Int),.int .u8 (L:Int),.int .u8 (M:Int),.int .u8 (O:Int),.int .u8 (P:Int),.int .u8 (Q:Int),.int .u8 (U:Int),.int .u8 (V:Int),.int .u8 (q8:Int),.int .u64 (z:Int),.nilIface] 249 (0,0)):=by rw[I];exact oz w3 _
 have nb:=(zza.1 r4).1;have H4:=ah<|zzb iI r4;have Lv:=TB.out v;go_wp2_with fail;rw[<-I];refine Lv.mono ?_;rintro e q ⟨rfl,iR⟩;have H5:=ah<|zzb (H4.1.trans iR)<|(iR.block (nF w3) nb dv).trans H4.2;go_wp2;obtain⟨Pm,AH⟩:=HI.1.new H5.1;obtain⟨ab,a',g5,_⟩:=Pm.co.ex;have u0:=af g5 0;simp at u0;rw[kq Ly]at u0;have Kh:=Pm.co.jS.1;have CH:=Lp t q.drew ht;have A:=ah<|show CL q B b j f m g p D N n c l d/\jJ b f g p w q/\dJ q from ⟨Pm,AH,(AH.kO HI.1).p_ hB HI.2⟩
 go_region_held3 (λw'=>w'.cell? ⟨b,0,none⟩=some (.pointer<|some ⟨j,0,none⟩))
  (simp[*])
  (first|(go_at_call 202;refine CH.mono ?_;rintro e y ⟨rfl,CD⟩;have il:=(fU q).drew.trans<|Fr.bE CD [];obtain⟨yo,GH⟩:=A.1.new il;have k0:=(zze (a:=⟨b,0,none⟩)<|il.block b Kh dv).trans u0;have r:=ah<|show CL y B b j f m g p D N n c l d/\jJ b f g p w y/\dJ y from ⟨yo,A.2.1.trans GH,(GH.kO A.1).p_ hB A.2.2⟩;clear il CD yo GH)|(go_at_call 188;obtain⟨pv,sv,a8,nD,nN,UH⟩:=r.1.lg;refine(wS B j g p D N n nD nN 3 pv sv a8 l d (str<|be 8 t) y r.1.qD UH dp hn hB uM r.2.2).mono ?_;rintro e w7 ⟨rfl,Us,XE⟩;obtain⟨PH,a7⟩:=r.1.log XE Us;obtain⟨ad,aa,g7,_⟩:=PH.co.ex;have n0:=af g7 0;have n1:=af g7 1;simp at n0 n1;rw[kq Ly]at n0;have K:=ah<|show CL w7 B b j f m g p D N (n+3) c (l.note d 3<|str<|be 8 t).1 (l.note d 3<|str<|be 8 t).2.1/\jJ b f g p w w7 from ⟨PH,r.2.1.trans a7⟩;clear UH Us XE PH a7 g7))
 obtain⟨x,hx⟩:∃x,x=(l.note d 3<|str<|be 8 t).2.2:=⟨_,rfl⟩;rw[<-hx];have X:=ah hx;clear hx;by_cases oF:x=0
 .subst oF;rw[aT]
  go_wp2_with (first
   |(at_delete;refine lN (KR:=KU) (ER:=EX) rfl _ _ 192 249 rfl underlying192 f m c.aD rfl K.1.co.aD t ht rfl ?_;intro w8 Ti Rz)
   |fail)
  have Dg:=K.1.co.lS (Fr.bI Rz) Ti<|zzc _;obtain⟨k8,x8⟩:=K.1.fL Dg ((Fr.bI Rz).r K.1.co.jS.1 (by simpa using K.1.co.jS.2.2) dv);have H8:=ah<|show CL w8 B b j f m g p D N (n+3) {c with aD:=dU c.aD t} (l.note d 3<|str<|be 8 t).1 (l.note d 3<|str<|be 8 t).2.1/\jJ b f g p w w8 from ⟨k8,K.2.trans x8⟩;clear Dg Ti Rz k8 x8;go_wp2;go_ret;exact⟨by rw[<-X.out];rfl,by rw[<-X.out];exact H8.out⟩
 .have H:decide (x≠0)=true:=by simp[oF]
  go_wp2;go_ret;exact⟨by rw[<-X.out];rfl,by rw[<-X.out,bL.ended,mE oF];exact K.out⟩
end
end Go.Proofs.YtlgeloebpdmnnaaGreatDoor
