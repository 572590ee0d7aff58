import Derived.Test.YtlgeloebpdmnnaaGreatDoorC37
import Derived.Test.YtlgeloebpdmnnaaGreatDoorC36
set_option maxHeartbeats 8000000
set_option maxRecDepth 100000
namespace Go.Proofs.YtlgeloebpdmnnaaGreatDoor
open Go.RowKit Go.Maps Tryz Sc
section
open Go.Shelf
variable{xs:List aK}{l:List aU}{i k s t:Nat}{v:Value}{x:aK}{p:aU}{w:nL}
def bL.cR(c:bL)(t x:Nat):bL:={ c with aD:=dt c.aD t { c.tx t with aS:=x } }
theorem QU(B p y b n t x:Nat)(c:bL)(w:nL)(h:a_ w B p y b n c)(K:t<2^64)(hx:x≠0)(hn:n+1<1000000000):
  Calls prog 256 #[gx p,.int .u64 (t:Int),bB x] w λe w'=>e=.returned (.tuple #[])/\a_ w' B p y b (n+1) (c.cR t x)/\gQ p [p,b] w w':=by
 have D:=h.GA t;have L:=h.iQ K;obtain⟨rv,ov,F,_⟩:=h.ex;have c1:=af F 1;simp at c1;have M:=h.jS;unfold bL.cR;obtain⟨T,J⟩:∃T,T=c.tx t:=⟨_,rfl⟩;rw[<-J]at D L ⊢;clear J;obtain⟨s,ps,z,qd⟩:=T;obtain⟨d,f,g,i,j,l,m,o,q,G⟩:=nine D.1
 change ps=_ at G
 subst G;rw[bC]at L
 have P:=ah (λ(W:nL) (m':Nat) (H:a_ W B p y b m' c) (V:m' < maxLen)=>(by
  obtain⟨A,Y,U,O⟩:=H.aD.qV underlying192 V (k:=t) K (v:=⟨s,[d,f,g,i,j,l,m,o,q],z,x⟩)<|show fQ.Ok _ from D;refine⟨A,?_,H.lS (Fr.bI O) U dp,Fr.bI O⟩;have e:(EX.ev ⟨s,[d,f,g,i,j,l,m,o,q],z,x⟩:Value)=lz ⟨s,[d,f,g,i,j,l,m,o,q],z,x⟩:=rfl;rw[e,bC]at Y
  exact Y:∃A,(Instr.mapUpdate 192 (.map (some b)) (.int .u64 (t:Int)) (.agg #[.int .i64 (s:Int),.int .u8 (d:Int),.int .u8 (f:Int),.int .u8 (g:Int),.int .u8 (i:Int),.int .u8 (j:Int),.int .u8 (l:Int),.int .u8 (m:Int),.int .u8 (o:Int),.int .u8 (q:Int),.int .u64 (z:Int),bB x])).run prog W=.ok () A/\a_ A B p y b (m' + 1) {c with aD:=dt c.aD t ⟨s,[d,f,g,i,j,l,m,o,q],z,x⟩}/\Fr [b] W A))
 obtain⟨r,Z⟩:∃r,r=w.alloc (.cells #[.int .i64 (s:Int),.int .u8 (d:Int),.int .u8 (f:Int),.int .u8 (g:Int),.int .u8 (i:Int),.int .u8 (j:Int),.int .u8 (l:Int),.int .u8 (m:Int),.int .u8 (o:Int),.int .u8 (q:Int),.int .u64 (z:Int),bB x] 249):=⟨_,rfl⟩;have I:Fr [] w r:=by rw[Z];exact(fU w).alloc _
 have C:r.heap[nF w]?=some (.cells #[.int .i64 (s:Int),.int .u8 (d:Int),.int .u8 (f:Int),.int .u8 (g:Int),.int .u8 (i:Int),.int .u8 (j:Int),.int .u8 (l:Int),.int .u8 (m:Int),.int .u8 (o:Int),.int .u8 (q:Int),.int .u64 (z:Int),bB x] 249 (0,0)):=by rw[Z];exact oz w _
 obtain⟨d0,d1,d2,d3,d4,d5,d6,d7,d8,d9,da,X⟩:=mD C;have u1:=(zze (a:=⟨p,1,none⟩)<|I.block p M.1 dv).trans c1;obtain⟨E,R,yo,u⟩:=P.out r.drew n (h.new I.drew) eE;have Q:Fr [b] r E:=⟨u.os,u.tape,u.output,u.size,u.block⟩;have S:=ah (show a_ E B p y b (n+1) {c with aD:=dt c.aD t ⟨s,[d,f,g,i,j,l,m,o,q],z,x⟩}/\gQ p [p,b] w E from ⟨yo,gQ.trans (I.r M.1 dv dv)<|Q.r (zzl M.1 I.size) (by simpa using M.2.2) dv⟩);have a1:¬w.heap.size=b:=by omega
 have N:=(Q.block (nF w) (zza.1 C).1<|by simpa using a1).trans C;obtain⟨t0,t1,t2,t3,t4,t5,t6,t7,t8,t9,ta,tb⟩:=mD N;have u6:=(zze (a:=⟨p,1,none⟩)<|Q.block p (zzl M.1 I.size)<|by simpa using M.2.2).trans u1;clear h F I C yo u Q N P;rw[aV hx]at Z R X tb ⊢
 go_enter func256,ntmps256
 go_wp2;rw[<-Z];clear Z
 go_region_held3 (λw'=>w'.cell? ⟨p,1,none⟩=some (.map<|some b)/\w'.cell? ⟨nF w,0,none⟩=some (.int .i64 (s:Int))/\w'.cell? ⟨nF w,1,none⟩=some (.int .u8 (d:Int))/\w'.cell? ⟨nF w,2,none⟩=some (.int .u8 (f:Int))/\w'.cell? ⟨nF w,3,none⟩=some (.int .u8 (g:Int))/\w'.cell? ⟨nF w,4,none⟩=some (.int .u8 (i:Int))/\w'.cell? ⟨nF w,5,none⟩=some (.int .u8 (j:Int))/\w'.cell? ⟨nF w,6,none⟩=some (.int .u8 (l:Int))/\w'.cell? ⟨nF w,7,none⟩=some (.int .u8 (m:Int))/\w'.cell? ⟨nF w,8,none⟩=some (.int .u8 (o:Int))/\w'.cell? ⟨nF w,9,none⟩=some (.int .u8 (q:Int))/\w'.cell? ⟨nF w,10,none⟩=some (.int .u64 (z:Int))/\w'.cell? ⟨nF w,11,none⟩=some (.iface 27<|.int .i64 (x:Int)))
  (simp[*])
  (fail)
 go_wp2;go_end0;exact⟨rfl,S.out⟩
def bL.JL(c:bL)(t:Nat)(T:fQ)(x:Nat):bL:=if x=0 then c.comm t { T with state:=6 } else c.cR t x
theorem QV(B b h f m g p E N n t:Nat)(c:bL)(l:au)(d:aj)(T:fQ)(Z:T.Ok)(hd:T.aS=0)(ae:T.parts.any fG=true)(w:nL)(a':CL w B b h f m g p E N n c l d)(ht:t<2^64)(hm:m+20<1000000000)(hn:n+3<1000000000)(hB:2<=B)(uM:l.filled<600->l.segs≠[])(dK:dJ w):
  Calls prog 201 #[gx b,.int .u64 (t:Int),lz T] w λe w'=>e=.returned (bB (l.keep d 2<|str<|be 8 t++bV fG T.parts).2.2)/\CL w' B b h f (m+11) g p E N (n+3) (c.JL t T (l.keep d 2<|str<|be 8 t++bV fG T.parts).2.2) (l.keep d 2<|str<|be 8 t++bV fG T.parts).1 (l.keep d 2<|str<|be 8 t++bV fG T.parts).2.1/\jJ b f g p w w':=by
 have HH:=ah λW=>(tZ 255 fG La Fi T Z W);have HE:=ah λW=>sJ t T Z W ht;obtain⟨S,hS⟩:∃S,S=str (be 8 t++bV fG T.parts):=⟨_,rfl⟩;rw[<-hS]at HE ⊢;rw[ae]at HH;have ag:fQ.Ok {T with state:=6}:=Z;obtain⟨i,V⟩:∃i:fQ,i={T with state:=6}:=⟨_,rfl⟩;rw[<-V]at ag;have ad:=ah V;clear hS ae V;obtain⟨s,ps,z,qd⟩:=T
 change qd=0 at hd
 subst hd;obtain⟨j,o,q,r,u,y,A,C,D,eG⟩:=nine Z.1
 change ps=_ at eG
 subst eG;rw[bC,aT]at HH HE ⊢;have V:=ad.out
 have z_:=ah (λ(W:nL) (m':Nat) (h2:a_ W B b h f m' c) (Rg:m' < maxLen)=>(by
  obtain⟨F,nY,PE,rO⟩:=h2.aD.qV underlying192 Rg (k:=t) ht (v:=i) ag;refine⟨F,?_,h2.lS (Fr.bI rO) PE dp,Fr.bI rO⟩;have e:(EX.ev i:Value)=lz i:=rfl;rw[e,V,bC,aT]at nY
  exact nY:∃F,(Instr.mapUpdate 192 (.map (some f)) (.int .u64 (t:Int)) (.agg #[.int .i64 6,.int .u8 (j:Int),.int .u8 (o:Int),.int .u8 (q:Int),.int .u8 (r:Int),.int .u8 (u:Int),.int .u8 (y:Int),.int .u8 (A:Int),.int .u8 (C:Int),.int .u8 (D:Int),.int .u64 (z:Int),.nilIface])).run prog W=.ok () F/\a_ F B b h f (m' + 1) {c with aD:=dt c.aD t i}/\Fr [f] W F))
 obtain⟨G,U⟩:∃G,G=w.alloc (.cells (mf s j o q r u y A C D z .nilIface) 249):=⟨_,rfl⟩;have dI:Fr [] w G:=by rw[U];exact(fU w).alloc _
 obtain⟨lx,K⟩:=a'.new dI;have r0:G.heap[w.heap.size]?=some (.cells (mf s j o q r u y A C D z .nilIface) 249 (0,0)):=by rw[U];exact oz w _
 have Ar:=HH.out G;have Ly:=a'.PG;have L:=ah<|show CL G B b h f m g p E N n c l d/\jJ b f g p w G/\G.heap[w.heap.size]?=some (.cells (mf s j o q r u y A C D z .nilIface) 249 (0,0))/\dJ G from ⟨lx,K,r0,(K.kO a').p_ hB dK⟩;obtain⟨y0,y1,y2,y3,y4,y5,y6,y7,y8,y9,ya,yb⟩:=mD r0;rw[U]at y0 y1 y2 y3 y4 y5 y6 y7 y8 y9 ya yb;clear a' dI lx K r0 Z dK
 go_enter func201,ntmps201
 go_wp2_with fail;rw[<-U];clear U y0 y1 y2 y3 y4 y5 y6 y7 y8 y9 ya yb;refine Ar.mono ?_;clear Ar;rintro e O ⟨rfl,cY⟩;obtain⟨kn,oW⟩:=L.1.new cY;have r1:=(cY.block w.heap.size (zza.1 L.2.2.1).1 dv).trans L.2.2.1;obtain⟨e0,e1,e2,e3,e4,e5,e6,e7,e8,e9,ax,ay⟩:=mD r1;obtain⟨rv,ov,g1,_⟩:=kn.co.ex;have c0:=af g1 0;simp at c0;rw[kq Ly]at c0;have aA:=HE.out O.drew;have Q:=ah<|show CL O B b h f m g p E N n c l d/\jJ b f g p w O/\O.heap[w.heap.size]?=some (.cells (mf s j o q r u y A C D z .nilIface) 249 (0,0))/\dJ O from ⟨kn,L.2.1.trans oW,r1,(oW.kO L.1).p_ hB L.2.2.2⟩;have eK:=(zza.1 r1).1;have eL:=kn.co.jS.1;clear cY kn oW r1 L g1;go_wp2
 go_region_held3 (λw'=>w'.cell? ⟨b,0,none⟩=some (.pointer<|some ⟨h,0,none⟩)/\w'.cell? ⟨w.heap.size,0,none⟩=some (.int .i64 (s:Int))/\w'.cell? ⟨w.heap.size,1,none⟩=some (.int .u8 (j:Int))/\w'.cell? ⟨w.heap.size,2,none⟩=some (.int .u8 (o:Int))/\w'.cell? ⟨w.heap.size,3,none⟩=some (.int .u8 (q:Int))/\w'.cell? ⟨w.heap.size,4,none⟩=some (.int .u8 (r:Int))/\w'.cell? ⟨w.heap.size,5,none⟩=some (.int .u8 (u:Int))/\w'.cell? ⟨w.heap.size,6,none⟩=some (.int .u8 (y:Int))/\w'.cell? ⟨w.heap.size,7,none⟩=some (.int .u8 (A:Int))/\w'.cell? ⟨w.heap.size,8,none⟩=some (.int .u8 (C:Int))/\w'.cell? ⟨w.heap.size,9,none⟩=some (.int .u8 (D:Int))/\w'.cell? ⟨w.heap.size,10,none⟩=some (.int .u64 (z:Int))/\w'.cell? ⟨w.heap.size,11,none⟩=some (.nilIface))
  (simp[*])
  (first|(go_at_call 252;refine aA.mono ?_;rintro e w2 ⟨rfl,dy⟩;have Y:=(fU O).drew.trans<|Fr.bE dy [];obtain⟨iy,iY⟩:=Q.1.new Y;have r2:=(Y.block w.heap.size eK dv).trans Q.2.2.1;obtain⟨a0,a1,a2,a3,a4,a5,a6,a7,a8,a9,aa,ab⟩:=mD r2;have k0:=(zze (a:=⟨b,0,none⟩)<|Y.block b eL dv).trans c0;have M:=ah<|show CL w2 B b h f m g p E N n c l d/\jJ b f g p w w2/\w2.heap[w.heap.size]?=some (.cells (mf s j o q r u y A C D z .nilIface) 249 (0,0))/\dJ w2 from ⟨iy,Q.2.1.trans iY,r2,(iY.kO Q.1).p_ hB Q.2.2.2⟩;clear Y dy iy iY r2)|(go_at_call 185;obtain⟨pv,sv,aE,nD,nN,UH⟩:=M.1.lg;refine(Ib B h g p E N n nD nN 2 pv sv aE l d S w2 M.1.qD UH dp hn hB uM M.2.2.2).mono ?_;rintro e P ⟨rfl,nV,wj⟩;obtain⟨mH,yr⟩:=M.1.log wj nV;have r3:=yr.cells M.1 M.2.2.1 du du du du du du du du;obtain⟨b0,b1,b2,b3,b4,b5,b6,b7,b8,b9,ba,bb⟩:=mD r3;obtain⟨aW,I5,g3,_⟩:=mH.co.ex;have n0:=af g3 0;simp at n0;rw[kq Ly]at n0;have H:=ah<|show CL P B b h f m g p E N (n+3) c (l.keep d 2 S).1 (l.keep d 2 S).2.1/\jJ b f g p w P/\P.heap[w.heap.size]?=some (.cells (mf s j o q r u y A C D z .nilIface) 249 (0,0))from ⟨mH,M.2.1.trans yr,r3⟩;clear UH nV wj mH yr r3 g3))
 obtain⟨x,hx⟩:∃x,x=(l.keep d 2 S).2.2:=⟨_,rfl⟩;rw[<-hx];have X:=ah hx;clear hx;by_cases K:x=0
 .subst K;rw[aT];have fz:=aq H.2.2 0;have Rs:w.heap.size<P.heap.size:=(zza.1 H.2.2).1;go_wp2;obtain⟨I,nt⟩:∃I,I=P.setCell ⟨w.heap.size,0,none⟩ (.int .i64 6):=⟨_,rfl⟩;rw[<-nt];have J:Fr [w.heap.size] P I:=by rw[nt];exact Fr.cG dv _ _
  have r4:I.heap[w.heap.size]?=some (.cells #[.int .i64 6,.int .u8 (j:Int),.int .u8 (o:Int),.int .u8 (q:Int),.int .u8 (r:Int),.int .u8 (u:Int),.int .u8 (y:Int),.int .u8 (A:Int),.int .u8 (C:Int),.int .u8 (D:Int),.int .u64 (z:Int),.nilIface] 249 (0,0)):=by
   rw[nt];have:=aF H.2.2 0<|.int .i64 6
   simpa using this
  obtain⟨CA,oX⟩:=H.1.Tz J H.2.2 du du du du du du du du du du;have Jo:=H.2.1.ZG J (zzc _) oX (J.block b H.1.co.jS.1<|by simp;intro e;obtain⟨cs,ao⟩:=H.1.co.w_;rw[e,H.2.2]at ao;cases ao);obtain⟨d0,d1,d2,d3,d4,d5,d6,d7,d8,d9,da,db⟩:=mD r4;obtain⟨aX,aI,g4,_⟩:=CA.co.ex;have u1:=af g4 1;simp at u1;obtain⟨F,nY,Pm,R⟩:=z_.out I.drew m (CA.co.new (fU I).drew) eE;have al:=CA.co.jS
  have Xu:¬w.heap.size=f:=by
   intro e;obtain⟨es,cc,e2⟩:=CA.co.aD.isMap;rw[<-e,r4]at e2;cases e2
  have r5:=(R.block w.heap.size (by show w.heap.size<I.heap.size;have:=J.size;omega)<|by simpa using Xu).trans r4;obtain⟨t0,t1,t2,t3,t4,t5,t6,t7,t8,t9,ta,tb⟩:=mD r5;have u5:=(zze (a:=⟨b,1,none⟩)<|R.block b al.1<|by simpa using al.2.2).trans u1
  have H5:=ah (show CL F B b h f (m+1) g p E N (n+3) {c with aD:=dt c.aD t i} (l.keep d 2 S).1 (l.keep d 2 S).2.1/\jJ b f g p w F from by
   have av:Fr [f] I F:=⟨R.os,R.tape,R.output,R.size,R.block⟩;obtain⟨k1,k2⟩:=CA.fL Pm<|av.r CA.co.jS.1 (by simpa using CA.co.jS.2.2) dv
   exact⟨k1,Jo.trans k2⟩)
  clear J r4 CA oX Jo g4 Pm R r5 nt fz;clear b0 b1 b2 b3 b4 b5 b6 b7 b8 b9 ba bb a0 a1 a2 a3 a4 a5 a6 a7 a8 a9 aa ab e0 e1 e2 e3 e4 e5 e6 e7 e8 e9 ax ay c0 k0 n0
  go_region_held3 (λw'=>w'.cell? ⟨b,1,none⟩=some (.map<|some f)/\w'.cell? ⟨w.heap.size,0,none⟩=some (.int .i64 6)/\w'.cell? ⟨w.heap.size,1,none⟩=some (.int .u8 (j:Int))/\w'.cell? ⟨w.heap.size,2,none⟩=some (.int .u8 (o:Int))/\w'.cell? ⟨w.heap.size,3,none⟩=some (.int .u8 (q:Int))/\w'.cell? ⟨w.heap.size,4,none⟩=some (.int .u8 (r:Int))/\w'.cell? ⟨w.heap.size,5,none⟩=some (.int .u8 (u:Int))/\w'.cell? ⟨w.heap.size,6,none⟩=some (.int .u8 (y:Int))/\w'.cell? ⟨w.heap.size,7,none⟩=some (.int .u8 (A:Int))/\w'.cell? ⟨w.heap.size,8,none⟩=some (.int .u8 (C:Int))/\w'.cell? ⟨w.heap.size,9,none⟩=some (.int .u8 (D:Int))/\w'.cell? ⟨w.heap.size,10,none⟩=some (.int .u64 (z:Int))/\w'.cell? ⟨w.heap.size,11,none⟩=some (.nilIface))
   (simp[*])
   (fail)
  have an:=vF B b h f (m+1) t 5 _ F H5.1.co dp;go_wp2_with fail;refine an.mono ?_;clear an;rintro e w6 ⟨rfl,yo,il⟩;obtain⟨k6,x6⟩:=H5.1.fL yo (gQ.mono il dv);have Ai:=sO B b h f (m+1+1) t 182 kE Am wV 5 _ w6 yo ht dp;have CK:({c with aD:=dt c.aD t i,res:=c.res++[(t,5)]}:bL).tx t=i:=Lu _ t i;rw[CK]at Ai;clear CK;have H6:=ah<|show CL w6 B b h f (m+1+1) g p E N (n+3) {c with aD:=dt c.aD t i,res:=c.res++[(t,5)]} (l.keep d 2 S).1 (l.keep d 2 S).2.1/\jJ b f g p w w6 from ⟨k6,H5.2.trans x6⟩;clear yo il k6 x6;go_wp2_with fail;refine Ai.mono ?_;clear Ai;rintro e w7 ⟨rfl,PH,lU⟩;obtain⟨k7,x7⟩:=H6.1.fL PH (gQ.mono lU dv);have H7:=ah (show CL w7 B b h f (m+11) g p E N (n+3) (c.comm t i) (l.keep d 2 S).1 (l.keep d 2 S).2.1/\jJ b f g p w w7 from ⟨by rw[show m+11=m+1+1+9 by omega];exact k7,H6.2.trans x7⟩);clear PH lU k7 x7;go_wp2;go_ret;exact⟨by rw[<-X.out];rfl,by rw[<-X.out];show CL _ _ _ _ _ _ _ _ _ _ _ (c.comm t ⟨6,[j,o,q,r,u,y,A,C,D],z,0⟩) _ _/\_;rw[<-ad.out];exact H7.out⟩
 .have hq:decide (x≠0)=true:=by simp[K]
  have TR:=QU B b h f m t x c P H.1.co ht K dp;have fz:=aq H.2.2 0;go_wp2_with fail;refine TR.mono ?_;clear TR;rintro e w4 ⟨rfl,CA,J⟩;obtain⟨k4,x4⟩:=H.1.fL CA J;have H4:=ah (show CL w4 B b h f (m+11) g p E N (n+3) (c.cR t x) (l.keep d 2 S).1 (l.keep d 2 S).2.1/\jJ b f g p w w4 from ⟨k4.more dp,H.2.1.trans x4⟩);clear CA J k4 x4;go_wp2;go_ret;exact⟨by rw[<-X.out];rfl,by rw[<-X.out,bL.JL,mE K];exact H4.out⟩
theorem xJ{base:Nat}{e:TypeId}{size n:Nat}{xs:List Value}(h:w.ownsRow base e size v n xs):qX w v n xs:=by
 rcases h.2 with⟨rfl,rfl⟩|⟨g,p,r,rfl,rest⟩
 .exact .inr ⟨rfl,rfl,List.eq_nil_of_length_eq_zero<|by rw[h.1];simp⟩
 .refine .inl ⟨_,_,rfl,h.cells rfl⟩
theorem Oa{b w2:nL}(h:Fr [] w b)(k:Fr v.ownBlock.toList b w2)(c:ju w v):Fr [] w w2:=
 ⟨k.os.trans h.os,k.tape.trans h.tape,k.output.trans h.output,zzk h.size k.size,λi a hn=>(k.block i (zzl a h.size) λm=>by have:=c i (by simpa using m);omega).trans<|h.block i a hn⟩
theorem Vp(l:List<|Nat×Nat):(lj l).length=l.length*2:=wW (f:=PA) (k:=2) (λ_=>rfl) l
theorem Vq(l:List<|Nat×Nat×Nat):(jv l).length=l.length*3:=wW (f:=PB) (k:=3) (λ_=>rfl) l
theorem YQ(l:List<|Nat×Nat):∀u∈lj l,u.oneCell'=true:=by
 intro u h;have⟨p,hp,q⟩:=List.mem_flatMap.1 h;simp at q;obtain rfl|rfl:=q<;>rfl
theorem YR(l:List<|Nat×Nat×Nat):∀u∈jv l,u.oneCell'=true:=by
 intro u h;have⟨p,hp,q⟩:=List.mem_flatMap.1 h;simp at q;obtain rfl|rfl|rfl:=q<;>rfl
section
variable [Inhabited Bs]{w w2 w4:nL}{cp:Nat}{xv rv ov v2 v4 lv:Value}{qs:List (aK × Value)}{R:aP}{x:aK}
theorem bQ.aab(h:bQ w cp xv rv ov qs R)(hf:Fr xv.ownBlock.toList w w4)(o:w4.ownsRow B0 123 5 v4 (qs.length+1)<|dO qs++nQ (x,lv))(l:w4.ownsRow B0 162 3 lv x.parts.length<|fP x.parts)(J:ju w lv):
  bQ (w4.setCell (gi cp) v4) cp v4 rv ov (qs++[(x,lv)]) {R with ai:=R.ai++[x]}:=by
 have j:∀{e:TypeId} {size n:Nat} {v:Value} {s:List Value},e≠123->w.ownsRow B0 e size v n s->∀g,v.ownBlock=some g->g∉xv.ownBlock.toList:=by
  intro e size n v s c d g b m;exact cP d h.kF c b<|by simpa using m
 have Y:=(hf.block cp (zza.1 h.blk).1 λm=>aQ h.kF h.blk du<|by simpa using m).trans h.blk;refine {base:=h.base,blk:=?_,kF:=?_,prt:=λp hp=>?_,apart:=?_,res:=aN (ar h.res hf<|j du h.res) Y du,out:=aN (ar h.out hf<|j du h.out) Y du,rs:=by rw[BB,h.rs];rfl}
 .have:=aF Y 0 v4;simpa using this
 .rw[zzi,oD];refine aN ?_ Y du;have e:dO [(x,lv)]=nQ (x,lv):=rfl;rw[e];exact o
 .rcases zzo.1 hp with hp|hp
  .exact aN (ar (h.prt p hp) hf<|j du<|h.prt p hp) Y du
  .simp at hp;subst hp;exact aN l Y du
 .refine List.pairwise_append.2 ⟨h.apart,dv,λp hp q a=>?_⟩;simp at a;subst a
  cases hb:p.2.ownBlock with
  |none=>exact .inl rfl
  |some g=>
   refine .inr λe=>?_
   have f:=((h.prt p hp).lt g hb).2;have i:=J g e.symm;omega
theorem bQ.abG(h:bQ w cp xv rv ov qs R)(hf:Fr [] w w2){T:List (Nat×Nat)}(o:w2.ownsRow B0 174 2 v2 T.length<|lj T):bQ (w2.setCell (hP cp 2) v2) cp xv v2 ov qs {R with res:=T}:=by
 have a:=h.fr hf;refine {base:=h.base,blk:=?_,kF:=aN a.kF a.blk du,prt:=λp hp=>aN (a.prt p hp) a.blk du,apart:=h.apart,res:=aN o a.blk du,out:=aN a.out a.blk du,rs:=h.rs};have:=aF a.blk 2 v2
 simpa using this
theorem bQ.abH(h:bQ w cp xv rv ov qs R)(hf:Fr [] w w2){T:List (Nat×Nat×Nat)}(o:w2.ownsRow B0 170 3 v2 T.length<|jv T):bQ (w2.setCell (hP cp 3) v2) cp xv rv v2 qs {R with out:=T}:=by
 have a:=h.fr hf;refine {base:=h.base,blk:=?_,kF:=aN a.kF a.blk du,prt:=λp hp=>aN (a.prt p hp) a.blk du,apart:=h.apart,res:=aN a.res a.blk du,out:=aN o a.blk du,rs:=h.rs};have:=aF a.blk 3 v2
 simpa using this
end
theorem oq [Inhabited Bs](rp:Nat)(S:List Nat)(R:aP)(w:nL)(h:gh w rp S R)(hn:R.ai.length<=1048576)(hl:∀x∈R.ai,x.parts.length<=1000)(uO:R.res.length<=1048576)(D5:R.out.length<=1048576):
  Calls prog 22 #[gx rp] w λe w'=>∃cp S',e=.returned (gx cp)/\gh w' cp S' R/\(∀k∈S',w.heap.size<=k)/\Fr [] w w':=by
 obtain⟨xv,rv,ov,ps,h,_⟩:=h;have⟨i0,eH,hz0,hz1,hz2⟩:=tO Ap;have⟨d0,mq,dz0,dz1,dz2⟩:=tO Nv;have⟨j0,hjn,gz0,gz1,gz2⟩:=tO xf;have⟨l0,abI,lz0,lz1,lz2⟩:=tO BG;have c1:=af h.blk 1;simp at c1;have XY:rp<w.heap.size:=(zza.1 h.blk).1;have HI:Hid (bQ w rp xv rv ov ps R):=h;have⟨cp,jY⟩:=gb w.heap.size;have⟨W1,gP⟩:=gb <|w.alloc (.cells #[.slice none 0 0,.int .u64 (R.next:Int),.slice none 0 0,.slice none 0 0] 120);have pU:Fr [] w W1:=by rw[gP];exact(fU w).alloc _
 have hRW:bQ W1 cp (.slice none 0 0) (.slice none 0 0) (.slice none 0 0) [] ⟨[],R.next,[],[]⟩:=by
  refine {base:=by rw[jY];exact HI.out.low,blk:=?_,kF:=zzu _ _ _ _,prt:=dv,apart:=dv,res:=zzu _ _ _ _,out:=zzu _ _ _ _,rs:=rfl};rw[gP,jY];exact oz w _
 have Cz:w.heap.size<=cp:=by rw[jY];exact zzc _
 have dM:cp<W1.heap.size:=(zza.1 hRW.blk).1;have H1:=ah<|show bQ W1 cp (.slice none 0 0) (.slice none 0 0) (.slice none 0 0) [] ⟨[],R.next,[],[]⟩/\Fr [] w W1/\w.heap.size<=cp/\cp<W1.heap.size from ⟨hRW,pU,Cz,dM⟩
 go_enter func22,ntmps22;go_wp2;rw[<-gP];rw[<-jY];clear gP jY c1;have⟨n,kC⟩:=gb ps.length;have HN:Hid (ps.length=n):=kC.symm;rw[<-HI.out.len,<-kC]at hn;clear kC;have HL:Hid (∀x∈R.ai,x.parts.length<=1000):=hl;clear hl;go_loopw [4] (λi wr=>∃(k:Nat) (CP:Value) (qs:List<|aK×Value),k<=n/\i=.int .i64 k/\Hid (bQ wr cp CP (.slice none 0 0) (.slice none 0 0) qs ⟨R.ai.take k,R.next,[],[]⟩/\Fr [] w wr/\qs.length=k/\ju w CP/\W1.heap.size<=wr.heap.size/\∀q∈qs,ju w q.2)) (λi _=>n-(intOf i).toNat);.exact⟨0,.slice none 0 0,[],zzs _,rfl,H1.1,H1.2.1,rfl,ju.nil _,zzc _,dv⟩
 .obtain⟨k,CP,qs,hk,rfl,hr⟩:=hrel;have Cr:=HI.out.fr hr.2.1;have c1:=af Cr.blk 0;simp at c1;have⟨ao,c,e0,H⟩:=Cr.slice;rw[e0,HN.out]at c1;have hsz:=hr.2.1.size;have hBr:B0<=wr.heap.size:=zzk HI.out.low hsz;have dM:cp<wr.heap.size:=zzl H1.2.2.2 hr.2.2.2.2.1;by_cases bW:k<n
  .obtain⟨p,hp⟩:∃p,ps[k]?=some p:=⟨_,zzg<|by rw[HN.out];exact bW⟩;obtain⟨g,rfl,x0,x1,x2,x3,x4⟩:=H k p hp;have lJ:=Cr.prt p<|zzh hp;have⟨pa,pc,ep⟩:=fe lJ;have Yl:=HL.out p.1<|zzh<|HI.out.back hp;have⟨nl,IX⟩:=gb p.1.parts.length;rw[ep]at x3 lJ;rw[<-IX]at x3 lJ Yl;have hbc:=af hr.1.blk 0;simp at hbc;have i1:(0:Int)<=k:=dp
   have i2:(k:Int)<n:=dp;have HP:Hid (ps[k]?=some p/\nl=p.1.parts.length):=⟨hp,IX⟩;have Qc:=xJ<|lJ.alloc<|.cells #[.int .u64 (p.1.id:Int),.int .i64 (p.1.st:Int),.int .i64 (p.1.gH:Int),.slice pa nl pc,.bool p.1.aS] 123;clear H hp Cr IX ep lJ
   go_wp2_with (at_builtin;refine fH rfl _ _ 121 rfl wr.heap.size 162 l0 _ 3 24 underlying121 abI lz0 lz1 lz2 rfl du (.slice none 0 0) 0 [] rfl (zzu _ _ _ _) nl (fP p.1.parts) Qc (by rw[D2,<-HP.2]) (IC _) eE dp dv ?_;intro lv w2 ik fT vw;obtain⟨o2,k2,rfl⟩:=fe ik;have dy:=(fT.block wr.heap.size dv<|by simp[Value.ownBlock]).trans<|oz wr _;have q0:=af dy 0;have q1:=af dy 1;have q2:=af dy 2;have q3:=af dy 3;have q4:=af dy 4;have qf:=aq dy 3;have iy:=fT.cell ((zze (a:=⟨cp,0,none⟩)<|zzf wr _ cp dM).trans hbc) (by simp[Value.ownBlock]);simp at q0 q1 q2 q3 q4)
   have qC:Fr [] wr (w2.setCell ⟨wr.heap.size,3,none⟩<|.slice o2 nl k2):=(Fr.od ((fU wr).alloc _) (ju.nil wr) fT).setCell (.inr<|zzc _) _;have nV:(w2.setCell ⟨wr.heap.size,3,none⟩<|.slice o2 nl k2).ownsRow wr.heap.size 162 3 (.slice o2 nl k2) nl (fP p.1.parts):=aN (by simpa using ik) dy du;have iL:=aF dy 3<|.slice o2 nl k2;obtain⟨W3,Rs⟩:∃W3,W3=w2.setCell ⟨wr.heap.size,3,none⟩ (.slice o2 nl k2):=⟨_,rfl⟩;rw[<-Rs]at qC nV iL ⊢;clear Rs q0 q1 q2 q3 q4 qf iy fT vw ik dy hbc Qc;have b0:=af iL 0;have b1:=af iL 1;have b2:=af iL 2;have b3:=af iL 3;have b4:=af iL 4;simp at b0 b1 b2 b3 b4;have Gw:=hr.1.fr qC;have p2:=af Gw.blk 0;have g2:=aq Gw.blk 0;simp at p2;have mH:cp<W3.heap.size:=zzl dM qC.size;have gI:∀ob,(W3.alloc ob).frozen? ⟨cp,0,none⟩=false:=λob=>(zzw (a:=⟨cp,0,none⟩)<|zzf W3 ob cp mH).trans g2
   have GZ:∀ob,(W3.alloc ob).cell? ⟨cp,0,none⟩=some CP:=λob=>(zze (a:=⟨cp,0,none⟩)<|zzf W3 ob cp mH).trans p2
   have aW:=Gw.kF;rw[hr.2.2.1]at aW;obtain⟨xo,xc,ex⟩:=fe aW;subst ex;have HB:Hid (W3.heap[cp]?=some (uD (.slice xo k xc) (.slice none 0 0) (.slice none 0 0) R.next)/\some cp≠(Value.slice xo k xc).ownBlock):=⟨Gw.blk,λe=>aQ aW Gw.blk du e.symm⟩;have WX:B0<=W3.heap.size:=zzk hBr qC.size;have H3:=ah<|show Fr [] wr W3/\W3.ownsRow wr.heap.size 162 3 (.slice o2 nl k2) nl (fP p.1.parts)/\W3.ownsRow B0 123 5 (.slice xo k xc) k (dO qs)from ⟨qC,nV,aW⟩;clear qC nV iL Gw aW
   go_region_law (first|(rw[oo<|by rfl];refine gV _ _ 116 rfl B0 123 j0 _ 5 56 underlying116 hjn gz0 gz1 gz2 rfl du _ k (dO qs) rfl (H3.2.2.alloc _) ⟨W3.heap.size,0,none⟩ 1 1 [.int .u64 (p.1.id:Int),.int .i64 (p.1.st:Int),.int .i64 (p.1.gH:Int),.slice o2 nl k2,.bool p.1.aS] rfl rfl (fV _ #[.int .u64 (p.1.id:Int),.int .i64 (p.1.st:Int),.int .i64 (p.1.gH:Int),.slice o2 nl k2,.bool p.1.aS] _) (by intro u hu;simp at hu;obtain rfl|rfl|rfl|rfl|rfl:=hu<;>rfl) eE dp (zzk WX dv) ?_;intro v4 w4 oX oY nb;obtain⟨o4,c4,rfl⟩:=fe oX;have nM:w4.heap[cp]?=some (uD (.slice xo k xc) (.slice none 0 0) (.slice none 0 0) R.next):=(oY.block cp ef HB.2).trans<|(zzf W3 _ cp mH).trans HB.1;have t2:=af nM 0;have tf:=aq nM 0;simp at t2))
   all_goals
    have iI:Fr (Value.slice xo k xc).ownBlock.toList wr w4:=(H3.1.mono dv).trans<|(((Fr.refl _ W3).alloc _).drew).trans<|Fr.cA (r:=(Value.slice xo k xc).ownBlock) oY
    have HR:Hid (bQ (w4.setCell ⟨cp,0,none⟩<|.slice o4 (k+1) c4) cp (.slice o4 (k+1) c4) (.slice none 0 0) (.slice none 0 0) (qs++[(p.1,.slice o2 nl k2)]) ⟨R.ai.take<|k+1,R.next,[],[]⟩/\Fr [] w (w4.setCell ⟨cp,0,none⟩<|.slice o4 (k+1) c4)/\(qs++[(p.1,(.slice o2 nl k2:Value))]).length=k+1/\ju w (.slice o4 (k+1) c4)/\W1.heap.size<=(w4.setCell ⟨cp,0,none⟩<|.slice o4 (k+1) c4).heap.size/\∀q∈qs++[(p.1,(.slice o2 nl k2:Value))],ju w q.2):=by
     have rS:w4.ownsRow B0 162 3 (.slice o2 nl k2) p.1.parts.length (fP p.1.parts):=by
      have h1:=ar (ownsRow_base_a H3.2.1 hBr) (((fU W3).alloc<|.cells #[.int .u64 (p.1.id:Int),.int .i64 (p.1.st:Int),.int .i64 (p.1.gH:Int),.slice o2 nl k2,.bool p.1.aS] 123).drew) dv;have h2:=ar H3.2.2 (((fU W3).alloc<|.cells #[.int .u64 (p.1.id:Int),.int .i64 (p.1.st:Int),.int .i64 (p.1.gH:Int),.slice o2 nl k2,.bool p.1.aS] 123).drew) dv;rw[<-HP.2];refine ar h1 (Fr.cA (r:=(Value.slice xo k xc).ownBlock) oY) λg hg hm=>?_
      have oZ:(Value.slice xo k xc).ownBlock=some g:=by simpa using hm
      exact cP h1 h2 du hg oZ
     have e1:R.ai.take (k+1)=R.ai.take k++[p.1]:=by rw[vV,HI.out.back HP.1];rfl
     have hq:=hr.2.2.1;have Mr:ju wr (.slice o2 nl k2):=λg hg=>(H3.2.1.lt g hg).1
     refine⟨?_,?_,by simp[hq],?_,?_,λq hqm=>?_⟩
     .rw[e1];exact hr.1.aab iI (by rw[hq];exact oX) rS Mr
     .have hx:Fr [] w w4:=Oa hr.2.1 iI hr.2.2.2.1;exact hx.setCell (.inr H1.2.2.1) _
     .exact ju.next hr.2.2.2.1 (by have:=H3.1.size;simp;omega) nb
     .have h1:=iI.size;have h2:=hr.2.2.2.2.1;simp[World.setCell];omega
     .rcases zzo.1 hqm with hqm|hqm
      .exact hr.2.2.2.2.2 q hqm
      .simp at hqm;subst hqm;exact λg hg=>zzk hsz<|Mr g hg
    clear iI oY oX nb nM;go_wp2;go_roundw;.exact⟨k+1,_,_,dp,eR,HR.out⟩
    case measure=>simp[intOf];omega
  .have CZ:k=n:=dp;have HT:Hid (R.ai.take k=R.ai):=zzt (by rw[CZ,<-HN.out,HI.out.len];omega);have c2:=af Cr.blk 2;have c3:=af Cr.blk 3;simp at c2 c3;have p2:=af hr.1.blk 2;have g2:=aq hr.1.blk 2;simp at p2;have hsr:=xJ Cr.res;have af':rp<wr.heap.size:=(zza.1 Cr.blk).1;have hne:¬rp=cp:=by have:=H1.2.2.1;omega
   have sA:¬cp=rp:=λe=>hne e.symm
   have⟨ra,rm,rc,er⟩:=dN Cr.res;have⟨oa,om,oc,eo⟩:=dN Cr.out;rw[er]at c2 hsr;rw[eo]at c3;have HE:Hid (rv=.slice ra rm rc/\ov=.slice oa om oc):=⟨er,eo⟩;clear H Cr er eo;have HR:Hid (bQ wr cp CP (.slice none 0 0) (.slice none 0 0) qs ⟨R.ai,R.next,[],[]⟩/\Fr [] w wr/\cp<wr.heap.size/\w.heap.size<=cp/\ju w CP/\(∀q∈qs,ju w q.2)):=by
    have:=hr.1;rw[HT.out]at this;exact⟨this,hr.2.1,dM,H1.2.2.1,hr.2.2.2.1,hr.2.2.2.2.2⟩
   clear hr HT CZ;go_upto_region 9 with (at_builtin;refine fH rfl _ _ 117 rfl wr.heap.size 174 i0 _ 2 16 underlying117 eH hz0 hz1 hz2 rfl du (.slice none 0 0) 0 [] rfl (zzu _ _ _ _) R.res.length (lj R.res) hsr (Vp _) (YQ _) eE dp (zzc _) ?_;intro v2 w2 ik fT vw;obtain⟨o2,m2,k2,rfl⟩:=dN ik;have bH:Fr [] wr w2:=Fr.od (fU wr) (ju.nil wr) fT;have dy:=(bH.block cp HR.2.2.1 dv).trans HR.1.blk;have t2:=af dy 2;have tf:=aq dy 2;simp at t2;clear dy fT vw);have⟨W2,fj⟩:=gb <|w2.setCell ⟨cp,2,none⟩ (.slice o2 m2 k2);rw[<-fj];have rJ:bQ W2 cp CP (.slice o2 m2 k2) (.slice none 0 0) qs ⟨R.ai,R.next,R.res,[]⟩:=by
    rw[fj];exact HR.1.abG bH<|by rw[Nat.zero_add]at ik;exact ownsRow_base_a ik hBr
   have CT:Fr [] w W2:=by rw[fj];exact(HR.2.1.trans bH).setCell (.inr HR.2.2.2.1) _
   have Oo:ju w (.slice o2 m2 k2):=λq hq=>zzk hsz (ik.lt q hq).1
   have hI2:=HI.out.fr CT;have c3':=af hI2.blk 3;simp at c3';rw[HE.2]at c3';have Rv:=xJ hI2.out;rw[HE.2]at Rv;have Rm:B0<=W2.heap.size:=hI2.low;have aga:cp<W2.heap.size:=(zza.1 rJ.blk).1;have p3:=af rJ.blk 3;have g3:=aq rJ.blk 3;simp at p3;have pM:=ah<|zzb rJ<|zzb CT<|zzb aga Oo;clear fj rJ CT Oo hI2 ik bH t2 tf c1 c2 c3 p2 g2 hsr dM af'
   go_wp2_with (at_builtin;refine fH rfl _ _ 118 rfl W2.heap.size 170 d0 _ 3 24 underlying118 mq dz0 dz1 dz2 rfl du (.slice none 0 0) 0 [] rfl (zzu _ _ _ _) R.out.length (jv R.out) Rv (Vq _) (YR _) eE dp (zzc _) ?_;intro v4 w4 oX oY ha4;obtain⟨o4,m4,k4,rfl⟩:=dN oX;have iI:Fr [] W2 w4:=Fr.od (fU W2) (ju.nil W2) oY;have nM:=(iI.block cp pM.2.2.1 dv).trans pM.1.blk;have t4:=af nM 3;have tf4:=aq nM 3;simp at t4;clear nM oY ha4);go_ret;refine⟨cp,_,rfl,⟨_,_,_,_,pM.1.abH iI (T:=R.out)<|by rw[Nat.zero_add]at oX;exact ownsRow_base_a oX Rm,rfl⟩,λq hq=>?_,(pM.2.1.trans iI).setCell (.inr HR.2.2.2.1) _⟩;obtain rfl|e|e|e|⟨y,hy,e⟩:=dC.1 hq
   .exact HR.2.2.2.1
   .exact HR.2.2.2.2.1 q e
   .exact pM.2.2.2 q e
   .exact zzk pM.2.1.size (oX.lt q e).1
   .exact HR.2.2.2.2.2 y hy q e
theorem MJ(h:jE xs){y:aK}(b:xs[i]?=some x)(f:y.id=x.id)(c:s≠x.id):aO (xs.set i y) s=aO xs s:=by
 cases d:aO xs s with
 |none=>grind[dh,mem_set]
 |some z=>
  obtain⟨m,rfl⟩:=bh d;apply(h.set b f).at;have⟨j,a⟩:=zzB.1 m;have:i≠j:=λe=>by subst e;rw[b]at a;cases a;exact c rfl
  exact zzh<|by rw[List.getElem?_set_ne this];exact a
theorem JT(h:jE xs)(b:xs[i]?=some x)(c:s≠x.id):aO (xs.take i++xs.drop (i+1)) s=aO xs s:=by
 cases d:aO xs s with
 |none=>grind[dh,oP]
 |some z=>
  obtain⟨m,rfl⟩:=bh d;have a:jE (xs.take i++xs.drop (i+1)):=h.sublist<|ma _ _;exact a.at<|(oP h b).2 ⟨m,c⟩
theorem Dt{R:aP}(h:jE R.ai)(t:Nat):jE (R.aR t).ai/\(∀s,s≠t->aO (R.aR t).ai s=aO R.ai s)/\(R.aR t).ai.length<=R.ai.length:=by
 cases hx:aO R.ai t with
 |none=>grind[aP.aR,jF]
 |some x=>
  have⟨i,a,e⟩:=mV hx;obtain rfl:x.id=t:=(bh hx).2;rw[e];split
  .grind
  split
  .split
   .unfold aP.l8 aP.setAt;simp only;rw[set_drop];exact⟨h.sublist<|ma _ _,λs b=>JT h a b,(ma _ _).length_le⟩
   .exact⟨h.set a rfl,λs b=>MJ (y:={x with gH:=x.gH+1}) h a rfl b,dv⟩
  .grind
theorem JU:∀(ids:List Nat) (R:aP),jE R.ai->(∀x∈R.ai,x.parts.length<=8)->jE (ids.foldl aP.aR R).ai/\(∀s,s∉ids->aO (ids.foldl aP.aR R).ai s=aO R.ai s)/\(ids.foldl aP.aR R).ai.length<=R.ai.length/\∀x∈(ids.foldl aP.aR R).ai,x.parts.length<=8:=by
 intro ids;induction ids with
 |nil=>grind
 |cons t r ih=>grind[Dt,zK]
theorem MK(ids:List Nat)(R:aP)(h:ids[k]?=some t):(ids.take<|k+1).foldl aP.aR R=((ids.take k).foldl aP.aR R).aR t:=by
 rw[vV,h];simp
theorem ML{ids:List Nat}(h:ids.Nodup)(d:ids[k]?=some t):t∉ids.take k:=by
 intro m;have⟨j,a⟩:=zzB.1 m;rw[List.getElem?_take]at a;split at a
 .obtain⟨a1,a2⟩:=zzd.1 a;have⟨b,c⟩:=zzd.1 d;exact DS.1 h j k a1 b dp<|by rw[a2,c]
 .cases a
theorem Gn{f:aU->Bool}{x:Nat}(hp:l[k]?=some p)(h:f p=false):eB f t x (l.take<|k+1)=eB f t x (l.take k):=by
 unfold eB;rw[vV,hp];simp[h]
theorem JV{f:aU->Bool}{x:Nat}(hp:l[k]?=some p)(h:f p=true):eB f t x (l.take<|k+1)=eB f t x (l.take k)++[(t,p.cH,x)]:=by
 unfold eB;rw[vV,hp];simp[h]
theorem Dq(B p m b n t:Nat)(c:bL)(w:nL)(h:a_ w B p m b n c)(j:t<2^64)(f:(c.tx t).state≠0)(i:(c.tx t).state≠6)(d:(c.tx t).aS≠0):
  Calls prog 134 #[gx p,.int .u64 (t:Int)] w λe w'=>e=.returned (bB (c.tx t).aS)/\Fr [] w w':=by
 have Z:=h.GA t;have⟨N,A,g,_⟩:=h.ex;have c1:=af g 1;simp at c1;have M:=h.jS;have⟨T,a⟩:=gb <|c.tx t;have U:∀o,(Instr.lookup 192 (.map<|some b) (.int .u64 (t:Int)) false).run prog (w.alloc o)=.ok (lz T) (w.alloc o):=λo=>by rw[a];exact(h.new<|(fU w).alloc o).iQ j
 have r:(Instr.lookup 192 (.map<|some b) (.int .u64 (t:Int)) false).run prog w=.ok (lz T) w:=by rw[a];exact h.iQ j
 rw[<-a]at Z f i d ⊢;clear a;have⟨s,ps,z,q⟩:=T;have⟨C,D,E,F,H,I,J,K,L,G⟩:=nine Z.1;change ps=_ at G;change q≠0 at d;change Calls _ _ _ _ λe w'=>e=.returned (bB q)/\Fr [] w w'
 have u:decide (q≠0)=true:=by simp[d]
 have k:¬(s:Int)=0:=by have:s≠0:=f;omega
 have l:¬(s:Int)=6:=by have:s≠6:=i;omega
 have v:=oT.2 k;have x:=oT.2 l;subst G;rw[bC]at r;simp only[bC]at U;have y:∀o,(w.alloc o).cell? (hP p 1)=some (.map<|some b):=λo=>(sR _ _ _ M.1).trans c1
 clear h g;go_enter func134,ntmps134;go_wp2;go_ret;exact⟨rfl,(fU w).alloc _⟩
end
end Go.Proofs.YtlgeloebpdmnnaaGreatDoor
