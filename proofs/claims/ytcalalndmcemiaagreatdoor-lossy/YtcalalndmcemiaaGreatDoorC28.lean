import Derived.Test.YtcalalndmcemiaaGreatDoorC26
set_option maxHeartbeats 8000000
set_option maxRecDepth 100000
namespace Go.Proofs.YtcalalndmcemiaaGreatDoor
open Go.RowKit Go.Maps Tryz Sc
theorem SL.other{w w':World}{B i g V T H m h p D N n q:Nat}{s:ag}{l:au}{d:ah}{c:Array Value}{t:TypeId}(a:SL w B i g V T H m h p D N n s l d)(hf:Fr [q] w w')(f:w.heap[q]?=some (.cells c t (0,0)))(k:t≠96)(o:t≠182)(r:t≠222)(u:t≠43)(v:t≠110)(x:t≠9)(y:t≠139)(z:t≠244):SL w' B i g V T H m h p D N n s l d:=by
 obtain⟨L,O,M,J,K,A⟩:=a.lg;have C:i≠q:=by intro e;have:=a.sh.blk;rw[e,f] at this;cases this;exact y rfl
 have E:V≠q:=by intro e;obtain⟨j,c2,b⟩:=a.sh.aM.isMap;rw[e,f] at b;cases b
 have F:T≠q:=by intro e;obtain⟨j,c2,b⟩:=a.sh.ai.isMap;rw[e,f] at b;cases b
 have G:H≠q:=by intro e;obtain⟨j,c2,b⟩:=a.sh.holds.isMap;rw[e,f] at b;cases b
 have I:g≠q:=by intro e;have:=a.ap.ju;rw[e,f] at this;cases this;exact z rfl
 exact⟨a.sh.fr hf (by simpa using C) (by simpa using E) (by simpa using F) (by simpa using G),⟨_,_,_,_,_,A.other hf f k o r u v x⟩,⟨(hf.block g (zza.1 a.ap.ju).1 (by simpa using I)).trans a.ap.ju,a.ap.ne⟩,a.oN⟩
section
open Go.Shelf
theorem LU(B p lg f n t k:Nat)(hk:k<9)(c:aU)(w:World)(h:bm w B p lg f n c)(ht:t<18446744073709551616)(G:(c.tx t).state=6)(P:(c.tx t).parts.getD k 0=2)(O:((c.tx t).parts.set k 5).any jf=true)(hn:n+1<67108864):
  Calls prog 251 #[.pointer<|some ⟨p,0,none⟩,.int .u64 (t:Int),.int .i64 (k:Int)] w λe w'=>e=.returned .nilIface/\bm w' B p lg f (n+1) {c with ai:=aV c.ai t {c.tx t with parts:=(c.tx t).parts.set k 5}}/\gm p [p,f] w w':=by
 have F:=h;have E:=F.J8 t;have oD:=F.f_ ht;obtain⟨rv,ov,g1,_⟩:=F.ex;have c1:=ae g1 1;simp at c1;have N:=F.eY;obtain⟨T,hT⟩:∃T,T=c.tx t:=⟨_,rfl⟩;rw[<-hT]at E G P O oD ⊢;clear hT;obtain⟨d,y⟩:∃d:fe,d={T with parts:=T.parts.set k 5}:=⟨_,rfl⟩;have U:d.Ok:=by rw[y];exact vz E bL
 have PV:T.parts.set k 5=d.parts:=by rw[y]
 rw[PV]at O;rw[<-y];have Q:=λW=>sH T E k hk W
 rw[P]at Q;have K:=λW=>qk T E k 5 hk W
 rw[<-y]at K;obtain⟨q,j,l,m,o,r,u,x,A,hq⟩:=nine U.1
 have M:kO d=.agg #[.int .i64 6,.int .u8 (q:Int),.int .u8 (j:Int),.int .u8 (l:Int),.int .u8 (m:Int),.int .u8 (o:Int),.int .u8 (r:Int),.int .u8 (u:Int),.int .u8 (x:Int),.int .u8 (A:Int),.int .u64 (T.since:Int),.nilIface]:=by
  have e:d=⟨6,[q,j,l,m,o,r,u,x,A],T.since⟩:=by
   have e1:d.state=6:=by rw[y];exact G
   have I:d.since=T.since:=by rw[y]
   rw[<-e1,<-I,<-hq]
  rw[e,bE];rfl
 rw[M]at K
 have CQ:=af (λ(W:World) (m':Nat) (h2:bm W B p lg f m' c) (tC:m' < maxLen)=>(by
  obtain⟨g,rU,zH,pB⟩:=h2.ai.fA underlying118 tC (k:=t) ht (v:=d) U;refine⟨g,?_,h2.fS (Fr.aF pB) zH bL,Fr.aF pB⟩;have e:(EX.ev d:Value)=kO d:=rfl;rw[e,M]at rU
  exact rU:∃g,(Instr.mapUpdate 118 (.map (some f)) (.int .u64 (t:Int)) (.agg #[.int .i64 6,.int .u8 (q:Int),.int .u8 (j:Int),.int .u8 (l:Int),.int .u8 (m:Int),.int .u8 (o:Int),.int .u8 (r:Int),.int .u8 (u:Int),.int .u8 (x:Int),.int .u8 (A:Int),.int .u64 (T.since:Int),.nilIface])).run prog W=.ok () g/\bm g B p lg f (m' + 1) {c with ai:=aV c.ai t d}/\Fr [f] W g))
 have PW:=af λW=>q_ 183 jf xm ud d U W;rw[O,M]at PW;have Tp:=af K;clear y hq K P O PV M;obtain⟨s,ps,z⟩:=T;obtain⟨p0,p1,p2,p3,p4,p5,p6,p7,p8,az⟩:=nine E.1
 change ps=_ at az
 subst az
 change s=6 at G
 subst G;rw[bE]at oD;simp only[bE]at Q;have Z:=af h;obtain⟨C,J⟩:∃C,C=w.alloc (.cells #[.int .i64 6,.int .u8 (p0:Int),.int .u8 (p1:Int),.int .u8 (p2:Int),.int .u8 (p3:Int),.int .u8 (p4:Int),.int .u8 (p5:Int),.int .u8 (p6:Int),.int .u8 (p7:Int),.int .u8 (p8:Int),.int .u64 (z:Int),.nilIface] 128):=⟨_,rfl⟩;have cu:Fr [] w C:=by rw[J];exact(lT w).alloc _
 have R:C.heap[w.heap.size]?=some (.cells #[.int .i64 6,.int .u8 (p0:Int),.int .u8 (p1:Int),.int .u8 (p2:Int),.int .u8 (p3:Int),.int .u8 (p4:Int),.int .u8 (p5:Int),.int .u8 (p6:Int),.int .u8 (p7:Int),.int .u8 (p8:Int),.int .u64 (z:Int),.nilIface] 128 (0,0)):=by rw[J];exact heap_alloc_new w _
 have eW:=Q C;have Cv:=(zza.1 R).1;have X:=af<|zzb cu R;clear h g1 Q cu R F
 go_enter func251,ntmps251
 go_wp2_with fail;rw[<-J];clear J;refine eW.mono ?_;clear eW
 rintro e w2 ⟨rfl,aQ⟩;have r2:=(aQ.block w.heap.size Cv bR).trans X.2;obtain⟨x0,x1,x2,x3,x4,x5,x6,x7,x8,x9,xa,xb⟩:=lH r2;have K:=Tp.out w2;have H2:=af<|X.1.trans aQ;clear aQ r2;go_wp2_with fail;refine K.mono ?_;clear K x0 x1 x2 x3 x4 x5 x6 x7 x8 x9 xa xb;rintro e b ⟨rfl,dz⟩;obtain⟨D,L⟩:∃D,D=b.alloc (.cells #[.int .i64 6,.int .u8 (q:Int),.int .u8 (j:Int),.int .u8 (l:Int),.int .u8 (m:Int),.int .u8 (o:Int),.int .u8 (r:Int),.int .u8 (u:Int),.int .u8 (x:Int),.int .u8 (A:Int),.int .u64 (z:Int),.nilIface] 128):=⟨_,rfl⟩;have fo:Fr [] w D:=by rw[L];exact(H2.out.trans dz).alloc _
 have S:D.heap[b.heap.size]?=some (.cells #[.int .i64 6,.int .u8 (q:Int),.int .u8 (j:Int),.int .u8 (l:Int),.int .u8 (m:Int),.int .u8 (o:Int),.int .u8 (r:Int),.int .u8 (u:Int),.int .u8 (x:Int),.int .u8 (A:Int),.int .u64 (z:Int),.nilIface] 128 (0,0)):=by rw[L];exact heap_alloc_new b _
 have iZ:=(zza.1 S).1;have Y:=af<|zzb fo S;have Ik:=PW.out D;clear fo S dz;go_wp2_with fail;rw[<-L];clear L;refine Ik.mono ?_;clear Ik;rintro e g ⟨rfl,cO⟩;have H:=af (zzb (Y.1.trans cO)<|(cO.block b.heap.size iZ bR).trans Y.2);clear cO;go_wp2;obtain⟨d0,d1,d2,d3,d4,d5,d6,d7,d8,d9,da,db⟩:=lH H.2;have u1:=(zze (a:=⟨p,1,none⟩)<|H.1.block p N.1 bR).trans c1;obtain⟨V,Xk,zI,i⟩:=CQ.out g.drew n (Z.out.new H.1.drew) eA
 have a1:¬b.heap.size=f:=by
  intro e;obtain⟨es,cc,I⟩:=(Z.out.new H.1).ai.isMap;rw[<-e,H.2]at I;cases I
 have r6:=(i.block b.heap.size (zza.1 H.2).1<|by simpa using a1).trans H.2;obtain⟨t0,t1,t2,t3,t4,t5,t6,t7,t8,t9,ta,tb⟩:=lH r6;have u6:=(zze (a:=⟨p,1,none⟩)<|i.block p (by have:=H.1.size;show p<g.heap.size;omega)<|by simpa using N.2.2).trans u1;have vA:Fr [f] g V:=⟨i.os,i.tape,i.output,i.size,i.block⟩;have H6:=af (show bm V B p lg f (n+1) {c with ai:=aV c.ai t d}/\gm p [p,f] w V from ⟨zI,gm.trans (H.1.r N.1 bR bR)<|vA.r (zzl N.1 H.1.size) (by simpa using N.2.2) bR⟩);clear zI i vA r6
 go_region_held3 (λw'=>w'.cell? ⟨p,1,none⟩=some (.map<|some f)/\w'.cell? ⟨b.heap.size,0,none⟩=some (.int .i64 6)/\w'.cell? ⟨b.heap.size,1,none⟩=some (.int .u8 (q:Int))/\w'.cell? ⟨b.heap.size,2,none⟩=some (.int .u8 (j:Int))/\w'.cell? ⟨b.heap.size,3,none⟩=some (.int .u8 (l:Int))/\w'.cell? ⟨b.heap.size,4,none⟩=some (.int .u8 (m:Int))/\w'.cell? ⟨b.heap.size,5,none⟩=some (.int .u8 (o:Int))/\w'.cell? ⟨b.heap.size,6,none⟩=some (.int .u8 (r:Int))/\w'.cell? ⟨b.heap.size,7,none⟩=some (.int .u8 (u:Int))/\w'.cell? ⟨b.heap.size,8,none⟩=some (.int .u8 (x:Int))/\w'.cell? ⟨b.heap.size,9,none⟩=some (.int .u8 (A:Int))/\w'.cell? ⟨b.heap.size,10,none⟩=some (.int .u64 (z:Int))/\w'.cell? ⟨b.heap.size,11,none⟩=some (.nilIface))
  (simp[*])
  (fail)
 go_wp2;go_ret;exact⟨rfl,H6.out⟩
theorem LV(B b j f m g p D N n t k:Nat)(hk:k<9)(c:aU)(l:au)(d:ah)(w:World)(h:CL w B b j f m g p D N n c l d)(ht:t<18446744073709551616)(G:(c.tx t).state=6)(Bq:(c.tx t).parts.getD k 0=2)(H:((c.tx t).parts.set k 5).any jf=false)(hn:n+3<67108864)(hB:2<=B)(lN:l.filled<600->l.segs≠[])(aH:bI w)(XI:(l.note d 3<|str<|be 8 t).2.2=0):
  Calls prog 251 #[.pointer<|some ⟨b,0,none⟩,.int .u64 (t:Int),.int .i64 (k:Int)] w λe w'=>e=.returned .nilIface/\CL w' B b j f m g p D N (n+3) {c with ai:=aT c.ai t} (l.note d 3<|str<|be 8 t).1 (l.note d 3<|str<|be 8 t).2.1/\mN b f g p w w':=by
 have A:=h.co;have x:=A.J8 t;have oD:=A.f_ ht;obtain⟨rv,ov,g1,_⟩:=A.ex;have c1:=ae g1 1;simp at c1;have eN:=A.eY;obtain⟨T,hT⟩:∃T,T=c.tx t:=⟨_,rfl⟩;rw[<-hT]at x G Bq H oD;clear hT;obtain⟨i,y⟩:∃i:fe,i={T with parts:=T.parts.set k 5}:=⟨_,rfl⟩;have rG:i.Ok:=by rw[y];exact vz x bL
 have PV:T.parts.set k 5=i.parts:=by rw[y]
 rw[PV]at H;have Q:=λW=>sH T x k hk W
 rw[Bq]at Q;have K:=λW=>qk T x k 5 hk W
 rw[<-y]at K;obtain⟨I,L,M,O,P,S,U,V,X,hq⟩:=nine rG.1
 have iQ:kO i=.agg #[.int .i64 6,.int .u8 (I:Int),.int .u8 (L:Int),.int .u8 (M:Int),.int .u8 (O:Int),.int .u8 (P:Int),.int .u8 (S:Int),.int .u8 (U:Int),.int .u8 (V:Int),.int .u8 (X:Int),.int .u64 (T.since:Int),.nilIface]:=by
  have e:i=⟨6,[I,L,M,O,P,S,U,V,X],T.since⟩:=by
   have e1:i.state=6:=by rw[y];exact G
   have e2:i.since=T.since:=by rw[y]
   rw[<-e1,<-e2,<-hq]
  rw[e,bE];rfl
 rw[iQ]at K;have PW:=af λW=>q_ 183 jf xm ud i rG W;rw[H,iQ]at PW;have Tp:=af K;clear y hq K Bq H PV iQ;obtain⟨s,ps,z⟩:=T;obtain⟨p0,p1,p2,p3,p4,p5,p6,p7,p8,az⟩:=nine x.1
 change ps=_ at az
 subst az
 change s=6 at G
 subst G;rw[bE]at oD;simp only[bE]at Q;have HI:=af<|zzb h aH;have CM:=h.oN;obtain⟨u,F⟩:∃u,u=w.alloc (.cells #[.int .i64 6,.int .u8 (p0:Int),.int .u8 (p1:Int),.int .u8 (p2:Int),.int .u8 (p3:Int),.int .u8 (p4:Int),.int .u8 (p5:Int),.int .u8 (p6:Int),.int .u8 (p7:Int),.int .u8 (p8:Int),.int .u64 (z:Int),.nilIface] 128):=⟨_,rfl⟩;have cu:Fr [] w u:=by rw[F];exact(lT w).alloc _
 have r0:u.heap[w.heap.size]?=some (.cells #[.int .i64 6,.int .u8 (p0:Int),.int .u8 (p1:Int),.int .u8 (p2:Int),.int .u8 (p3:Int),.int .u8 (p4:Int),.int .u8 (p5:Int),.int .u8 (p6:Int),.int .u8 (p7:Int),.int .u8 (p8:Int),.int .u64 (z:Int),.nilIface] 128 (0,0)):=by rw[F];exact heap_alloc_new w _
 have eW:=Q u;have Cv:=(zza.1 r0).1;have H0:=af<|zzb cu r0;clear h aH g1 Q cu r0 A
 go_enter func251,ntmps251
 go_wp2_with fail;rw[<-F];clear F;refine eW.mono ?_;clear eW
 rintro e w2 ⟨rfl,aQ⟩;have r2:=(aQ.block w.heap.size Cv bR).trans H0.2;obtain⟨x0,x1,x2,x3,x4,x5,x6,x7,Z,x9,xa,xb⟩:=lH r2;have K:=Tp.out w2;have H2:=af<|H0.1.trans aQ;clear aQ r2;go_wp2_with fail;refine K.mono ?_;clear K x0 x1 x2 x3 x4 x5 x6 x7 Z x9 xa xb;rintro e Y ⟨rfl,dz⟩;obtain⟨v,J⟩:∃v,v=Y.alloc (.cells #[.int .i64 6,.int .u8 (I:Int),.int .u8 (L:Int),.int .u8 (M:Int),.int .u8 (O:Int),.int .u8 (P:Int),.int .u8 (S:Int),.int .u8 (U:Int),.int .u8 (V:Int),.int .u8 (X:Int),.int .u64 (z:Int),.nilIface] 128):=⟨_,rfl⟩;have fo:Fr [] w v:=by rw[J];exact(H2.out.trans dz).alloc _
 have r4:v.heap[Y.heap.size]?=some (.cells #[.int .i64 6,.int .u8 (I:Int),.int .u8 (L:Int),.int .u8 (M:Int),.int .u8 (O:Int),.int .u8 (P:Int),.int .u8 (S:Int),.int .u8 (U:Int),.int .u8 (V:Int),.int .u8 (X:Int),.int .u64 (z:Int),.nilIface] 128 (0,0)):=by rw[J];exact heap_alloc_new Y _
 have iZ:=(zza.1 r4).1;have H4:=af<|zzb fo r4;have Ik:=PW.out v;clear fo r4 dz;go_wp2_with fail;rw[<-J];clear J;refine Ik.mono ?_;clear Ik;rintro e q ⟨rfl,cO⟩;have H5:=af (zzb (H4.1.trans cO)<|(cO.block Y.heap.size iZ bR).trans H4.2);clear cO;go_wp2;obtain⟨R,pI⟩:=HI.1.new H5.1;obtain⟨a',a7,g5,_⟩:=R.co.ex;have u0:=ae g5 0;simp at u0;rw[dE CM]at u0;have Ga:=R.co.eY.1;have iU:=Hz t q.drew ht;have E:=af<|show CL q B b j f m g p D N n c l d/\mN b f g p w q/\bI q from ⟨R,pI,(pI.gF HI.1).lh hB HI.2⟩;clear R pI g5
 go_region_held3 (λw'=>w'.cell? ⟨b,0,none⟩=some (.pointer<|some ⟨j,0,none⟩))
  (simp[*])
  (first|(go_at_call 283;refine iU.mono ?_;rintro e C ⟨rfl,xO⟩;have dW:=(lT q).drew.trans<|Fr.aX xO [];obtain⟨zI,Hq⟩:=E.1.new dW;have k0:=(zze (a:=⟨b,0,none⟩)<|dW.block b Ga bR).trans u0;have r:=af<|show CL C B b j f m g p D N n c l d/\mN b f g p w C/\bI C from ⟨zI,E.2.1.trans Hq,(Hq.gF E.1).lh hB E.2.2⟩;clear dW xO zI Hq)|(go_at_call 148;obtain⟨pv,sv,a6,nD,nN,uF⟩:=r.1.lg;refine(qi B j g p D N n nD nN 3 pv sv a6 l d (str<|be 8 t) C r.1.ju uF bL hn hB lN r.2.2).mono ?_;rintro e w7 ⟨rfl,S8,SI⟩;obtain⟨LR,a1⟩:=r.1.log SI S8;obtain⟨aa,a8,g7,_⟩:=LR.co.ex;have n0:=ae g7 0;have n1:=ae g7 1;simp at n0 n1;rw[dE CM]at n0;have o:=af<|show CL w7 B b j f m g p D N (n+3) c (l.note d 3<|str<|be 8 t).1 (l.note d 3<|str<|be 8 t).2.1/\mN b f g p w w7 from ⟨LR,r.2.1.trans a1⟩;clear uF S8 SI LR a1 g7))
 rw[bK]
 go_wp2_with (first
  |(at_delete;refine iE (KR:=KU) (ER:=EX) rfl _ _ 118 128 rfl underlying118 f m c.ai rfl o.1.co.ai t ht rfl ?_;intro w8 Zj U7)
  |fail)
 have ni:=o.1.co.fS (Fr.aF U7) Zj<|zzc _;obtain⟨k8,Z⟩:=o.1.ic ni ((Fr.aF U7).r o.1.co.eY.1 (by simpa using o.1.co.eY.2.2) bR);have H8:=af<|show CL w8 B b j f m g p D N (n+3) {c with ai:=aT c.ai t} (l.note d 3<|str<|be 8 t).1 (l.note d 3<|str<|be 8 t).2.1/\mN b f g p w w8 from ⟨k8,o.2.trans Z⟩;clear ni Zj U7 k8 Z;go_wp2;go_ret;exact⟨rfl,H8.out⟩
end
/-! ### Td segments,Td bytes -/
theorem xw(a b:List Nat):str (a++b)=str a++str b:=by
 apply ByteArray.ext;rw[ByteArray.data_append,ml,ml,ml];simp
/-! ### records that lie in a file -/
section
open Go.Shelf
variable{B lg n p:Nat}{w:World}{c:aU}
theorem bm.cell{w w':World}{B p lg l T n:Nat}{c c':aU}(h:bm w B p lg T n c)(k:c'.ai=c.ai)(X:c'.res=c.res:=by rfl)(u:c'.out=c.out:=by rfl)(hnum:c'.next<18446744073709551616/\c'.aW<18446744073709551616/\c'.aC<18446744073709551616)(hf:Fr [p] w w')(hb:∀r v,w.heap[p]?=some (qt lg T c r v)->w'.heap[p]?=some (qt l T c' r v)):bm w' B p l T n c':=by
 have⟨r,v,a,b,d,i,j⟩:=h.ex;rw[<-X]at b i;rw[<-u]at d j;refine⟨⟨r,v,hb r v a,aD b hf λg f=>?_,aD d hf λg f=>?_,i,j⟩,by rw[k];exact h.ai.fr hf<|by simpa using λe=>h.eY.2.2 e.symm,⟨h.low.1,h.low.2.1,zzk h.low.2.2 hf.size⟩,hnum⟩
 .simp;intro e;subst e;exact bj b a bM f
 .simp;intro e;subst e;exact bj d a bM f
theorem bm.J9{w':World}{l b:Nat}{c':aU}{T:List Nat}(h:bm w B p lg b n c)(hf:Fr [p] w w')(g:p∈T)(hb:∀r v,w.heap[p]?=some (qt lg b c r v)->w'.heap[p]?=some (qt l b c' r v)):gm p T w w':=by
 have⟨r,v,d,_⟩:=h.ex;have f:=hb r v d;have e:rd p w'=rd p w:=by unfold rd;rw[d,f];rfl
 exact⟨hf.mono λk _ a=>by simp at a;subst a;exact List.mem_append_left _ g,λk _ a=>by rw[e]at a;exact a⟩
theorem Fj(B b g T m f p D N n:Nat)(c:aU)(l:au)(d:ah)(w:World)(h:CL w B b g T m f p D N n c l d)(a1:c.aW+16<18446744073709551616)(hn:n+3<67108864)(A:2<=B)(lN:l.filled<600->l.segs≠[])(z:bI w)(X:(l.keep d 1<|str<|be 8<|c.aW+16).2.2=0):
  Calls prog 58 #[.pointer<|some ⟨b,0,none⟩] w λe w'=>e=.returned .nilIface/\CL w' B b g T m f p D N (n+3) {c with aW:=c.aW+16} (l.keep d 1<|str<|be 8<|c.aW+16).1 (l.keep d 1<|str<|be 8<|c.aW+16).2.1/\mN b T f p w w':=by
 obtain⟨r,v,u,_⟩:=h.co.ex;have C:=h.oN;have s:=ae u 0;have c3:=ae u 3;simp at s c3;rw[dE C]at s;have Z:=h.co.eY.1;have J:=h.co.fB;have⟨M,x⟩:=gb <|c.aW+16;have iM:(c.aW:Int)+16=(M:Int):=bL;have jM:IntKind.u64.wrap ((c.aW:Int)+16)=(M:Int):=by rw[IntKind.wrap_u64];omega
 have kM:(c.aW:Int)+16<18446744073709551616:=bL;rw[<-x]at X ⊢;have V:=rV M w.drew bL;have H:=af<|zzb h z;have S:=af x;clear h z u x
 go_enter func58,ntmps58;go_wp2;clear iM jM kM;go_region_held3 (λw'=>w'.cell? (gz b)=some (.pointer<|some (gz g)))
  (simp[*])
  (first|(go_at_call 98;apply V.mono;rintro e i ⟨rfl,xO⟩;have t:=(lT w).drew.trans<|Fr.aX xO [];have⟨P,q⟩:=H.1.new t;have k0:=(zze<|t.block b Z bR).trans s;have K:=af<|show CL i B b g T m f p D N n c l d/\mN b T f p w i/\bI i from ⟨P,q,(q.gF H.1).lh A H.2⟩;clear t xO P q)|(go_at_call 97;have⟨pv,sv,a6,nD,nN,L⟩:=K.1.lg;apply(tR B g f p D N n nD nN 1 pv sv a6 l d (str<|be 8 M) i K.1.ju L bL hn A lN K.2.2).mono;rintro e j ⟨rfl,S8,SI⟩;have⟨R,E⟩:=K.1.log SI S8;have⟨a8,a7,o,_⟩:=R.co.ex;have G:=ae o 0;have n3:=ae o 3;have f3:=aj o 3;simp at G n3;rw[dE C]at G;have k:=af<|show CL j B b g T m f p D N (n+3) c (l.keep d 1<|str<|be 8 M).1 (l.keep d 1<|str<|be 8 M).2.1/\mN b T f p w j from ⟨R,K.2.1.trans E⟩;clear L S8 SI R E o))
 rw[bK];have⟨W,U⟩:∃W,W=j.setCell ⟨b,3,none⟩ (.int .u64 (M:Int)):=⟨_,rfl⟩;have Y:Fr [b] j W:=by rw[U];exact Fr.cD bR _ _
 have y:∀r v,j.heap[b]?=some (qt g T c r v)->W.heap[b]?=some (qt g T {c with aW:=M} r v):=λr v e=>by
  rw[U];have:=ar e 3<|.int .u64 (M:Int)
  simpa using this
 have I:bm W B b g T m {c with aW:=M}:=k.1.co.cell rfl (hnum:=⟨J.1,by show M<_;rw[S.out];exact a1,J.2.2⟩) (hf:=Y) (hb:=y);have⟨F,O⟩:=k.1.ic I (k.1.co.J9 Y bR y);have Q:=af<|show CL W B b g T m f p D N (n+3) {c with aW:=M} (l.keep d 1<|str<|be 8 M).1 (l.keep d 1<|str<|be 8 M).2.1/\mN b T f p w W from ⟨F,k.2.trans O⟩;clear I Y F O y;go_wp2;rw[<-U];go_ret;exact⟨rfl,Q.out⟩
theorem bm.Lv{T:Nat}(h:bm w B p lg T n c)(ty:TypeId):(Builtin.len_ #[118] ty #[.map<|some T]).run prog w=.ok (.int .i64 (c.ai.length:Int)) w:=
 h.ai.Ci underlying118 ty
theorem LW(B a b T m f p D i n:Nat)(c:aU)(l:au)(d:ah)(w:World)(h:CL w B a b T m f p D i n c l d)(X:c.ai.length<12)(L:c.next=c.aW)(z:c.aW+16<18446744073709551616)(hm:m+1<67108864)(hn:n+3<67108864)(hB:2<=B)(lN:l.filled<600->l.segs≠[])(t:bI w)(I:(l.keep d 1<|str<|be 8<|c.aW+16).2.2=0):
  Calls prog 28 #[.pointer<|some ⟨a,0,none⟩] w λe w'=>e=.returned (.tuple #[.int .u64 (c.aW:Int),.nilIface])/\CL w' B a b T (m+1) f p D i (n+3) {c with aW:=c.aW+16,next:=c.aW+1,ai:=aV c.ai c.aW ⟨4,[0,0,0,0,0,0,0,0,0],0⟩} (l.keep d 1<|str<|be 8<|c.aW+16).1 (l.keep d 1<|str<|be 8<|c.aW+16).2.1/\mN a T f p w w':=by
 obtain⟨r,o,g,_⟩:=h.co.ex;have M:=h.oN;have s:=ae g 0;have c1:=ae g 1;have c2:=ae g 2;have c3:=ae g 3;simp at s c1 c2 c3;rw[dE M]at s;rw[L]at c2;have hlen:=h.co.Lv;have hl:=h.co.eY.1;have px:=h.co.fB;have V:=Fj B a b T m f p D i n c l d w.drew (h.new (lT w).drew).1 z hn hB lN t I;have P:=af h;have⟨R,y⟩:=gb <|l.keep d 1 (str<|be 8<|c.aW+16);rw[<-y]at V ⊢;have⟨N,hN⟩:=gb c.ai.length;rw[<-hN]at hlen X;have a1:¬(12:Int)<=N:=bL
 clear h t g y hN I;go_enter func28,ntmps28;go_wp2;go_region_held3 (λw'=>w'.cell? (hO a 2)=some (.int .u64 (c.aW:Int))/\w'.cell? (hO a 3)=some (.int .u64 (c.aW:Int)))
  (simp[*])
  (fail)
 go_wp2_with fail;apply V.mono;clear V hlen s c1 c2 c3;rintro e q ⟨rfl,iX,eG⟩;have⟨m_,Bm,g,_⟩:=iX.co.ex;have c2:=ae g 2;have f2:=aj g 2;simp at c2;rw[L]at c2;have i1:IntKind.u64.wrap ((c.aW:Int)+1)=(c.aW:Int)+1:=by rw[IntKind.wrap_u64];omega
 have i2:(c.aW:Int)+1<18446744073709551616:=bL;have⟨W,O⟩:∃W,W=q.setCell ⟨a,2,none⟩ (.int .u64<|(c.aW:Int)+1):=⟨_,rfl⟩;have Q:Fr [a] q W:=by rw[O];exact Fr.cD bR _ _
 have Z:∀r o,q.heap[a]?=some (qt b T {c with aW:=c.aW+16} r o)->W.heap[a]?=some (qt b T {c with aW:=c.aW+16,next:=c.aW+1} r o):=λr o e=>by
  rw[O];have:=ar e 2<|.int .u64<|(c.aW:Int)+1
  simpa [qt]using this
 have H:bm W B a b T m {c with aW:=c.aW+16,next:=c.aW+1}:=iX.co.cell rfl (hnum:=⟨by show c.aW+1<_;omega,z,px.2.2⟩) (hf:=Q) (hb:=Z);have⟨j,J⟩:=iX.ic H (iX.co.J9 Q bR Z);have⟨F8,a6,x,_⟩:=H.ex;have u:=ae x 1;simp at u;obtain⟨G,C,Y,U⟩:=H.ai.fA underlying118 eA (k:=c.aW) (show c.aW<18446744073709551616 by omega) (v:=(⟨4,[0,0,0,0,0,0,0,0,0],0⟩:fe))<|show fe.Ok _ from ⟨rfl,by decide⟩
 change (Instr.mapUpdate _ _ (.int .u64 (c.aW:Int))<|.agg #[.int .i64 4,.int .u8 0,.int .u8 0,.int .u8 0,.int .u8 0,.int .u8 0,.int .u8 0,.int .u8 0,.int .u8 0,.int .u8 0,.int .u64 0,.nilIface]).run _ _=_ at C;have E:=H.fS (Fr.aF U) Y bL;have⟨A,K⟩:=j.ic E ((Fr.aF U).r j.co.eY.1 (by simpa using j.co.eY.2.2) bR);have F:=(P.out.new (lT w).drew).2.trans eG;have S:=af<|show CL G B a b T (m+1) f p D i (n+3) {c with aW:=c.aW+16,next:=c.aW+1,ai:=aV c.ai c.aW ⟨4,[0,0,0,0,0,0,0,0,0],0⟩} R.1 R.2.1/\mN a T f p w G from ⟨A,(F.trans J).trans K⟩;rw[O]at u C;clear iX eG g Q Z H j J x Y U E A K F O;go_wp2;go_ret2;exact⟨rfl,S.out⟩
end
def abM(d:ah)(t:ByteArray):Prop:=∀k,d.now k=if k=aN 1 then some t else none
section
open Go.Shelf
abbrev ly(z:Int):Prop:=-9223372036854775808<=z/\z<9223372036854775808
def mj:Int->List Int->Bool
 |l,[]=>decide (0<l)
 |l,x :: r=>if x<=l\/8<x then false else mj x r
theorem PX:∀(zs:List Int) (l:Int),0<=l->mj l zs=true->∃xs:List Nat,zs=xs.map (λx:Nat=>(x:Int))/\xs.Pairwise (· < ·)/\(∀x∈xs,l<x/\x<=8)/\(xs=[]->0<l):=by
 intro zs;induction zs with
 |nil=>intro l g h;exact⟨[],rfl,List.Pairwise.nil,bR,λ_=>by simpa [mj]using h⟩
 |cons z r ih=>
  intro l g h;unfold mj at h;by_cases c:z<=l\/8<z
  .rw[if_pos c]at h;cases h
  .rw[if_neg c]at h;have⟨xs,d,f,b,i⟩:=ih z bL h;obtain⟨x,rfl⟩:∃x:Nat,z=(x:Int):=⟨z.toNat,bL⟩;refine⟨x::xs,by simp[d],zzA.2 ⟨λy a=>by have:=(b y a).1;omega,f⟩,?_,bR⟩;intro y a;obtain e|e:=zzj.1 a
   .subst e;omega
   .have:=b y e;omega
theorem CR{zs:List Int}(h:mj 0 zs=true):∃xs:List Nat,zs=xs.map (λx:Nat=>(x:Int))/\oK xs:=by
 have⟨xs,a,b,c,d⟩:=PX zs 0 bL h;exact⟨xs,a,⟨λe=>by have:=d e;omega,b,λx f=>by have:=c x f;omega⟩⟩
def Tq(w:World)(o:Option Addr)(zs:List Int):Prop:=∀(k:Nat) (z:Int),zs[k]?=some z->ly z/\∃g,o=some ⟨g,0,none⟩/\w.cell? ⟨g,k,none⟩=some (.int .i64 z)
theorem Tr(o:Option Addr)(r:Nat)(zs:List Int)(hlen:zs.length<=281474976710656)(w:World)(l:Tq w o zs):
  Calls prog 65 #[.slice o zs.length r] w λe w'=>e=.returned (.bool<|mj 0 zs)/\w'=w:=by
 have X:Hid (Tq w o zs):=l;have⟨m,c⟩:=gb zs.length;have M:Hid (m=zs.length):=c;rw[<-c]at hlen ⊢;have⟨R,b⟩:=gb <|mj 0 zs;have n:Hid (R=mj 0 zs):=b;rw[<-b];clear l c b;go_enter func65,ntmps65;go_wp2;go_loopw [3,8] (λL i wr=>∃(k:Nat) (y:Int),k<=m/\i=.int .i64 k/\L=.int .i64 y/\wr=w/\ly y/\Hid (mj y (zs.drop k)=R)) (λ_ i _=>m-(intOf i).toNat);case atStart=>exact⟨0,0,zzs _,rfl,rfl,rfl,bM,n.out.symm⟩
 case round=>
  obtain⟨k,y,z,rfl,rfl,rfl,A,H⟩:=hrel;by_cases U:k<m
  .obtain⟨x,JS⟩:∃x,zs[k]?=some x:=⟨_,zzg<|by have:=M.out;omega⟩;obtain⟨t,g,rfl,v⟩:=X.out k x JS
   have j:zs.drop k=x::zs.drop (k+1):=by
    have⟨p,q⟩:=zzd.1 JS;rw[List.drop_eq_getElem_cons p,q]
   have a:Hid ((if x<=y\/8<x then false else mj x (zs.drop<|k+1))=R):=by
    have:=H.out;rw[j]at this;exact this
   have u:(k:Int)<m:=bL;clear j JS;by_cases d:x<=y
   .go_wp2;go_ret;have:=a.out;rw[if_pos<|.inl d]at this;exact⟨by rw[<-this];rfl,rfl⟩
   .by_cases f:8<x
    .go_wp2;go_ret;have:=a.out;rw[if_pos<|.inr f]at this;exact⟨by rw[<-this];rfl,rfl⟩
    .go_wp2;go_roundw;case rel=>
      have:=a.out;rw[if_neg<|by rintro (h|h);exact d h;exact f h]at this;exact⟨k+1,x,bL,bR,rfl,bR,t,this⟩
     case measure=>simp[intOf];omega
  .obtain rfl:k=m:=bL;have u:¬(k:Int)<k:=bL;have a:Hid (decide (0<y)=R):=by
    have:=H.out;rw[M.out,List.drop_length]at this;exact this
   by_cases s:0<y
   .go_wp2;go_ret;have:=a.out;rw[decide_eq_true s]at this;exact⟨by rw[<-this];rfl,rfl⟩
   .go_wp2;go_ret;have:=a.out;rw[show decide (0<y)=false from decide_eq_false bL]at this;exact⟨by rw[<-this];rfl,rfl⟩
def partAt(t:fe)(z:Int):Nat:=if 0<=z/\z<9 then t.parts.getD z.toNat 0 else 0
theorem adg(t:fe)(h:t.Ok)(z:Int)(w:World):
  Calls prog 279 #[kO t,.int .i64 z] w λe w'=>e=.returned (.int .u8 ((partAt t z:Nat):Int))/\Fr [] w w':=by
 unfold partAt;by_cases a:0<=z/\z<9
 .rw[if_pos a];obtain⟨k,rfl⟩:∃k:Nat,z=(k:Int):=⟨z.toNat,bL⟩;rw[Int.toNat_natCast];exact sH t h k bL w
 .rw[if_neg a];have⟨s,ps,y⟩:=t;obtain⟨p,c,d,f,g,i,j,l,m,rfl⟩:=nine h.1;rw[bE];by_cases b:z<0
  .go_enter func279,ntmps279;go_wp2;go_ret;exact⟨rfl,(lT w).alloc _⟩
  .have h9:(9:Int)<=z:=bL;go_enter func279,ntmps279;go_wp2;go_ret;exact⟨rfl,(lT w).alloc _⟩
theorem CS(B E lg G n t:Nat)(c:aU)(w:World)(h:bm w B E lg G n c)(ht:t<18446744073709551616)(b:(c.tx t).state=0):
  Calls prog 146 #[.pointer<|some ⟨E,0,none⟩,.int .u64 (t:Int)] w λe w'=>e=.returned (cf 7)/\Fr [] w w':=by
 have f:=h.J8 t;have⟨y,v,g,_⟩:=h.ex;have c1:=ae g 1;simp at c1;have N:=h.eY;have⟨T,a⟩:=gb <|c.tx t;have p:∀o,(Instr.lookup 118 (.map<|some G) (.int .u64 (t:Int)) false).run prog (w.alloc o)=.ok (kO T) (w.alloc o):=λo=>by rw[a];exact(h.new<|(lT w).alloc o).f_ ht
 have D:(Instr.lookup 118 (.map<|some G) (.int .u64 (t:Int)) false).run prog w=.ok (kO T) w:=by rw[a];exact h.f_ ht
 rw[<-a]at f b;clear a;have⟨s,ps,z⟩:=T;have⟨i,j,k,l,m,q,r,u,x,d⟩:=nine f.1;change ps=_ at d;change s=0 at b;subst d;subst b;rw[bE]at D;simp only[bE]at p;have F:∀o,(w.alloc o).cell? (hO E 1)=some (.map<|some G):=λo=>(World.cell?_alloc_lt _ _ _ N.1).trans c1
 clear h g;go_enter func146,ntmps146;go_wp2;go_ret;exact⟨rfl,(lT w).alloc _⟩
theorem CT(B E lg G n t:Nat)(c:aU)(w:World)(h:bm w B E lg G n c)(ht:t<18446744073709551616)(b:(c.tx t).state=6):
  Calls prog 146 #[.pointer<|some ⟨E,0,none⟩,.int .u64 (t:Int)] w λe w'=>e=.returned (cf 4)/\Fr [] w w':=by
 have f:=h.J8 t;have⟨y,v,g,_⟩:=h.ex;have c1:=ae g 1;simp at c1;have N:=h.eY;have⟨T,a⟩:=gb <|c.tx t;have p:∀o,(Instr.lookup 118 (.map<|some G) (.int .u64 (t:Int)) false).run prog (w.alloc o)=.ok (kO T) (w.alloc o):=λo=>by rw[a];exact(h.new<|(lT w).alloc o).f_ ht
 have D:(Instr.lookup 118 (.map<|some G) (.int .u64 (t:Int)) false).run prog w=.ok (kO T) w:=by rw[a];exact h.f_ ht
 rw[<-a]at f b;clear a;have⟨s,ps,z⟩:=T;have⟨i,j,k,l,m,q,r,u,x,d⟩:=nine f.1;change ps=_ at d;change s=6 at b;subst d;subst b;rw[bE]at D;simp only[bE]at p;have F:∀o,(w.alloc o).cell? (hO E 1)=some (.map<|some G):=λo=>(World.cell?_alloc_lt _ _ _ N.1).trans c1
 clear h g;go_enter func146,ntmps146;go_wp2;go_ret;exact⟨rfl,(lT w).alloc _⟩
theorem Fk(B E lg G n t:Nat)(c:aU)(w:World)(h:bm w B E lg G n c)(ht:t<18446744073709551616)(b:(c.tx t).state≠0)(d:(c.tx t).state≠6)(hn:n+10<67108864):
  Calls prog 146 #[.pointer<|some ⟨E,0,none⟩,.int .u64 (t:Int)] w λe w'=>e=.returned .nilIface/\bm w' B E lg G (n+10) (c.jV t)/\gm E [E,G] w w':=by
 have i:=h.J8 t;obtain⟨P,O,j,_⟩:=h.ex;have c1:=ae j 1;simp at c1;have N:=h.eY;have⟨T,a⟩:=gb <|c.tx t;have J:∀o,(Instr.lookup 118 (.map<|some G) (.int .u64 (t:Int)) false).run prog (w.alloc o)=.ok (kO T) (w.alloc o):=λo=>by rw[a];exact(h.new<|(lT w).alloc o).f_ ht
 have D:(Instr.lookup 118 (.map<|some G) (.int .u64 (t:Int)) false).run prog w=.ok (kO T) w:=by rw[a];exact h.f_ ht
 rw[<-a]at i b d;clear a;have⟨s,ps,z⟩:=T;have⟨p,q,r,u,v,x,y,A,I,f⟩:=nine i.1;change ps=_ at f;have l:¬(s:Int)=0:=by have:s≠0:=b;omega
 have m:¬(s:Int)=6:=by have:s≠6:=d;omega
 have L:=beq_eq_false_iff_ne.2 l;have M:=beq_eq_false_iff_ne.2 m;subst f;rw[bE]at D;simp only[bE]at J;have K:∀o,(w.alloc o).cell? (hO E 1)=some (.map<|some G):=λo=>(World.cell?_alloc_lt _ _ _ N.1).trans c1
 have⟨W,k⟩:=gb <|w.alloc (.cells #[.int .i64 (s:Int),.int .u8 (p:Int),.int .u8 (q:Int),.int .u8 (r:Int),.int .u8 (u:Int),.int .u8 (v:Int),.int .u8 (x:Int),.int .u8 (y:Int),.int .u8 (A:Int),.int .u8 (I:Int),.int .u64 (z:Int),.nilIface] 128);have g:Fr [] w W:=by rw[k];exact(lT w).alloc _
 have C:=sO B E lg G n t c W (h.new g) ht hn;have F:=af (g.r (T:=[E,G]) N.1 bR bR);clear h j g b d;go_enter func146,ntmps146;go_wp2_with fail;rw[<-k];apply C.mono;clear C;rintro e Q ⟨rfl,ef,aQ⟩;have H:=af<|zzb ef<|F.out.trans aQ;clear ef aQ;go_wp2;go_ret;exact⟨rfl,H.out⟩
theorem PY(B E p G m:Nat)(c:aU)(w:World)(h:bm w B E p G m c)(M:1<=p)(q:c.ai.length<12)(J:c.next≠c.aW)(y:m+1<67108864)(n:c.next+1<18446744073709551616):
  Calls prog 28 #[.pointer<|some ⟨E,0,none⟩] w λe w'=>e=.returned (.tuple #[.int .u64 (c.next:Int),.nilIface])/\bm w' B E p G (m+1) {c with next:=c.next+1,ai:=aV c.ai c.next ⟨4,[0,0,0,0,0,0,0,0,0],0⟩}/\gm E [E,G] w w':=by
 obtain⟨r,o,g,_⟩:=h.ex;have a:=ae g 0;have c1:=ae g 1;have c2:=ae g 2;have c3:=ae g 3;have u:=aj g 2;simp at a c1 c2 c3;rw[dE M]at a;have hlen:=h.Lv;have x:=h.fB;obtain⟨N,hN⟩:∃N,N=c.ai.length:=⟨_,rfl⟩;rw[<-hN]at hlen q;have A:¬(12:Int)<=N:=bL;have s:¬(c.next:Int)=(c.aW:Int):=bL;have D:((c.next:Int)==(c.aW:Int))=false:=beq_eq_false_iff_ne.2 s;have z:IntKind.u64.wrap ((c.next:Int)+1)=(c.next:Int)+1:=by rw[IntKind.wrap_u64];omega
 have C:(c.next:Int)+1<18446744073709551616:=bL;obtain⟨W,O⟩:∃W,W=(w.setCell ⟨E,2,none⟩<|.int .u64<|(c.next:Int)+1).drew:=⟨_,rfl⟩;have Q:Fr [E] w W:=by rw[O];exact(Fr.cD bR _ _).drew
 have Z:∀r o,w.heap[E]?=some (qt p G c r o)->W.heap[E]?=some (qt p G {c with next:=c.next+1} r o):=λr o e=>by
  rw[O];have:=ar e 2<|.int .u64<|(c.next:Int)+1;show(w.setCell _ _).heap[E]?=_
  simpa [qt]using this
 have H:bm W B E p G m {c with next:=c.next+1}:=h.cell rfl (hnum:=⟨n,x.2.1,x.2.2⟩) (hf:=Q) (hb:=Z);have L:gm E [E,G] w W:=h.J9 Q (by simp) Z;obtain⟨F,I,b,_⟩:=H.ex;have d:=ae b 1;simp at d;obtain⟨t,f,Y,U⟩:=H.ai.fA underlying118 eA (k:=c.next) (show c.next<18446744073709551616 by omega) (v:=(⟨4,[0,0,0,0,0,0,0,0,0],0⟩:fe))<|show fe.Ok _ from ⟨rfl,by decide⟩
 change (Instr.mapUpdate _ _ (.int .u64 (c.next:Int))<|.agg #[.int .i64 4,.int .u8 0,.int .u8 0,.int .u8 0,.int .u8 0,.int .u8 0,.int .u8 0,.int .u8 0,.int .u8 0,.int .u8 0,.int .u64 0,.nilIface]).run _ _=_ at f
 have i:=H.fS (Fr.aF U) Y bL;have j:gm E [E,G] W t:=(Fr.aF U).r H.eY.1 (by simpa using H.eY.2.2) (by simp);have l:=af<|zzb i<|L.trans j;rw[O]at d f;clear h g hN Q Z H L b Y U i j O
 go_enter func28,ntmps28;go_wp2;go_region_held3 (λw'=>w'.cell? ⟨E,2,none⟩=some (.int .u64 (c.next:Int))/\w'.cell? ⟨E,3,none⟩=some (.int .u64 (c.aW:Int)))
  (simp[*])
  (fail)
 go_wp2;go_ret2;exact⟨rfl,l.out⟩
theorem Il(B E p G m:Nat)(c:aU)(w:World)(h:bm w B E p G m c)(M:1<=p)(U:12<=c.ai.length):
  Calls prog 28 #[.pointer<|some ⟨E,0,none⟩] w λe w'=>e=.returned (.tuple #[.int .u64 0,cf 5])/\Fr [] w w':=by
 have⟨r,v,g,_⟩:=h.ex;have a:=ae g 0;have c1:=ae g 1;simp at a c1;rw[dE M]at a;have hlen:=h.Lv;have⟨N,hN⟩:=gb c.ai.length;rw[<-hN]at hlen U;have i:(12:Int)<=N:=bL;clear h g hN;go_enter func28,ntmps28;go_wp2;go_ret2;exact⟨rfl,lT w⟩
section
variable(B E lg G n t:Nat)(v:Value)(c:aU)(w:World)(h:bm w B E lg G n c)(ht:t<18446744073709551616)
include h ht
theorem CU(b:(c.tx t).state=0):
  Calls prog 33 #[.pointer<|some ⟨E,0,none⟩,.int .u64 (t:Int),v] w λe w'=>e=.returned (cf 7)/\w'=w:=by
 have hs:=jq B E lg G n t c w h ht;rw[b]at hs;clear h;go_enter func33,ntmps33;go_wp2_with fail;apply hs.mono;clear hs;rintro e a ⟨rfl,mY⟩;subst mY;go_wp2;go_ret;exact⟨rfl,rfl⟩
theorem Ap(a:(c.tx t).state≠0)(b:(c.tx t).state≠4):
  Calls prog 33 #[.pointer<|some ⟨E,0,none⟩,.int .u64 (t:Int),v] w λe w'=>e=.returned (cf 4)/\w'=w:=by
 have hs:=jq B E lg G n t c w h ht;have⟨s,S⟩:=gb <|(c.tx t).state;rw[<-S]at hs a b;have i:¬(s:Int)=0:=bL;have d:¬(s:Int)=4:=bL;have f:=beq_eq_false_iff_ne.2 i;have g:=beq_eq_false_iff_ne.2 d;clear h S;go_enter func33,ntmps33;go_wp2_with fail;apply hs.mono;clear hs;rintro e j ⟨rfl,mY⟩;subst mY;go_wp2;go_ret;exact⟨rfl,rfl⟩
end
theorem Aq(B E lg G n t p:Nat)(o:Option Addr)(zs:List Int)(c:aU)(w:World)(h:bm w B E lg G n c)(ht:t<18446744073709551616)(hlen:zs.length<=281474976710656)(x:Tq w o zs)(b:(c.tx t).state=4)(q:mj 0 zs=false):
  Calls prog 33 #[.pointer<|some ⟨E,0,none⟩,.int .u64 (t:Int),.slice o zs.length p] w λe w'=>e=.returned (cf 6)/\w'=w:=by
 have hs:=jq B E lg G n t c w h ht;have r:=Tr o p zs hlen w x;rw[q]at r;rw[b]at hs;clear h;go_enter func33,ntmps33;go_wp2_with fail;apply hs.mono;clear hs;rintro e a ⟨rfl,mY⟩;subst mY;go_wp2_with fail;apply r.mono;clear r;rintro e d ⟨rfl,ki⟩;subst ki;go_wp2;go_ret;exact⟨rfl,rfl⟩
end
variable{c:Nat}{d:ah}
theorem Uk(h:d.ij c)(i:c<1099511627776):d.writes=({ d with left:=d.left-1,full:=d.full-1 },0):=by
 have f:=h.left;have g:=h.full;have e:=Nt (d:=d) (by rw[h.up];simp;omega) (by omega);have a:wrap64 (d.left-1)=d.left-1:=by unfold wrap64;omega
 have b:wrap64 (d.full-1)=d.full-1:=by unfold wrap64;omega
 rw[a,b] at e;exact e
theorem VF(h:d.ij c)(a:c<1099511627776):d.sync=({ d with left:=d.left-1,full:=d.full-1,aZ:=d.pending.foldl fW d.aZ,pending:=[] },0):=by
 unfold ah.sync;simp only[Uk h a,if_true]
structure One(l:au)(d:ah)(rs:List Rec):Prop where
 next:l.next=1+rs.length
 recs:l.recs=rs
 failed:l.failed=0
 file:(rs=[]/\l.segs=[]/\l.filled=600/\∀k,d.now k=none)\/(rs≠[]/\l.segs=[1]/\l.filled=(XP rs).length/\abM d (str (XP rs)))
 rz:d.aZ=d.now
 pen:d.pending=[]
 fine:abd rs
 Td:(XP rs).length<600
 mZ:l.aZ=l.next
 well:d.ij 0
theorem QL(h:d.ij c)(f g:cC)(p:List mG):ah.ij ⟨f,g,p,d.left-1,d.full-1,d.down⟩ (c+1):=⟨h.up,by have:=h.left;simp;omega,by have:=h.full;simp;omega⟩
theorem YD(l:au)(h:d.ij 0):l.opens d=({ l with aZ:=l.next },{ d with left:=d.left-1-1,full:=d.full-1-1,aZ:=d.pending.foldl fW d.aZ,pending:=[] },0):=by
 have s:l.sync d=({ l with aZ:=l.next },{ d with left:=d.left-1,full:=d.full-1,aZ:=d.pending.foldl fW d.aZ,pending:=[] },0):=by
  unfold au.sync;rw[VF h (by omega)];rfl
 unfold au.opens;rw[s];simp only[if_true];unfold ah.removeAll;rw[VF (QL h _ _ _) (by omega)];rfl
theorem One.first(Q:∀k,d.now k=none)(u:d.aZ=d.now)(U:d.pending=[])(w:d.ij 0):((fI 1).opens d).2.2=0/\((fI 1).opens d).2.1.down=false/\((fI 1).opens d).1.recs=[]/\((fI 1).opens d).1.next=1/\One ((fI 1).opens d).1 (((fI 1).opens d).2.1.bQ (-1) (-1)) []:=by
 rw[YD _ w];refine⟨rfl,w.up,rfl,rfl,{ next:=rfl,recs:=rfl,failed:=rfl,file:=.inl ⟨rfl,rfl,rfl,Q⟩,rz:=?_,pen:=rfl,fine:=λk r h=>by simp at h,Td:=by decide,mZ:=rfl,well:=⟨w.up,by simp[ah.bQ],by simp[ah.bQ]⟩ }⟩;show d.pending.foldl fW d.aZ=d.now;rw[U,u];rfl
section
open Go.Shelf
theorem Ts(B p lg m n t:Nat)(k:Int)(c:aU)(w:World)(h:bm w B p lg m n c)(o:t<18446744073709551616)(G:(c.tx t).state=6)(q:partAt (c.tx t) k≠2):
  Calls prog 251 #[.pointer (some ⟨p,0,none⟩),.int .u64 (t:Int),.int .i64 k] w λe w'=>e=.returned .nilIface/\Fr [] w w':=by
 have b:=h.J8 t;have D:=h.f_ o;obtain⟨N,M,g,_⟩:=h.ex;have c1:=ae g 1;simp at c1;obtain⟨T,j⟩:∃T,T=c.tx t:=⟨_,rfl⟩;rw[<-j] at b G q D;clear j;obtain⟨P,i⟩:∃P,P=partAt T k:=⟨_,rfl⟩;have Q:=λW=>adg T b k W
 rw[<-i] at q Q;clear i;have r:¬(P:Int)=2:=by omega
 have L:((P:Int)==2)=false:=beq_eq_false_iff_ne.2 r;obtain⟨s,ps,z⟩:=T;obtain⟨v,x,y,A,C,E,I,J,K,d⟩:=nine b.1
 change ps=_ at d
 subst d
 change s=6 at G
 subst G;rw[bE] at D;simp only[bE] at Q;obtain⟨a,F⟩:∃a,a=w.alloc (.cells #[.int .i64 6,.int .u8 (v:Int),.int .u8 (x:Int),.int .u8 (y:Int),.int .u8 (A:Int),.int .u8 (C:Int),.int .u8 (E:Int),.int .u8 (I:Int),.int .u8 (J:Int),.int .u8 (K:Int),.int .u64 (z:Int),.nilIface] 128):=⟨_,rfl⟩;have u:Fr [] w a:=by rw[F];exact(Fr.refl [] w).alloc _
 have f:=Q a;have H:=af u;clear h g Q u
 go_enter func251,ntmps251
 go_wp2_with fail;rw[<-F];clear F;refine f.mono ?_;clear f
 rintro e O ⟨rfl,aQ⟩;have l:=af (H.out.trans aQ);clear aQ;go_wp2;go_ret;exact⟨rfl,l.out⟩
theorem Tt(B p lg f n t:Nat)(k:Int)(c:aU)(w:World)(h:bm w B p lg f n c)(i:t<18446744073709551616)(G:(c.tx t).state≠6):
  Calls prog 251 #[.pointer (some ⟨p,0,none⟩),.int .u64 (t:Int),.int .i64 k] w λe w'=>e=.returned .nilIface/\Fr [] w w':=by
 have b:=h.J8 t;have D:=h.f_ i;obtain⟨E,v,g,_⟩:=h.ex;have c1:=ae g 1;simp at c1;obtain⟨T,d⟩:∃T,T=c.tx t:=⟨_,rfl⟩;rw[<-d] at b G D;clear d;obtain⟨s,ps,z⟩:=T;obtain⟨m,o,q,r,u,x,y,A,C,a⟩:=nine b.1
 change ps=_ at a
 subst a
 change s≠6 at G
 have j:¬(s:Int)=6:=by omega
 have l:((s:Int)==6)=false:=beq_eq_false_iff_ne.2 j;rw[bE] at D;clear h g
 go_enter func251,ntmps251
 go_wp2;go_ret;exact⟨rfl,(Fr.refl [] w).alloc _⟩
theorem Fl(B p lg T n:Nat)(c:aU)(w:World)(h:bm w B p lg T n c):
  Calls prog 117 #[.pointer (some ⟨p,0,none⟩)] w λe w'=>∃v,e=.returned v/\w'.ownsRow B 157 2 v c.res.length (oQ c.res)/\(c.res.length=0->v=.slice none 0 0)/\(∀g,v.ownBlock=some g->g∈rd p w)/\bm w' B p lg T n { c with res:=[] }/\(∀g,v.ownBlock=some g->g∉rd p w')/\Fr [p] w w'/\gm p [p] w w':=by
 obtain⟨r,o,a,d,i,q,s⟩:=h.ex;have c5:=ae a 5;have K:=aj a 5;simp at c5;have F:=h.eY;obtain⟨W,j⟩:∃W,W=w.setCell ⟨p,5,none⟩ (.slice none 0 0):=⟨_,rfl⟩;have hf:Fr [p] w W:=by rw[j];exact Fr.cD (by simp) _ _
 have hb:W.heap[p]?=some (qt lg T c (.slice none 0 0) o):=by
  rw[j];have:=ar a 5 (.slice none 0 0)
  simpa using this
 have A:∀g,r.ownBlock=some g->g∉[p]:=λg b m=>by simp at m;subst m;exact bj d a (by decide) b
 have C:∀g,o.ownBlock=some g->g∉[p]:=λg b m=>by simp at m;subst m;exact bj i a (by decide) b
 have y:=aD d hf A;have z:=aD i hf C;have x:bm W B p lg T n { c with res:=[] }:=⟨⟨Value.slice none 0 0,o,hb,zzu _ _ _ _,z,Ao.nil _,s⟩,h.ai.fr hf (by simpa using λe=>F.2.2 e.symm),⟨h.low.1,h.low.2.1,zzk h.low.2.2 hf.size⟩,h.fB⟩;have u:rd p w=r.ownBlock.toList++o.ownBlock.toList:=by unfold rd Fa;rw[a];rfl
 have E:rd p W=o.ownBlock.toList:=by unfold rd Fa;rw[hb];rfl
 have t:∀g,r.ownBlock=some g->g∉rd p W:=λg b m=>by
  rw[E] at m;simp at m;obtain⟨G,D⟩:=aq d b;obtain⟨H,l⟩:=aq i m;rw[D] at l;cases l
 have N:=af (show W.ownsRow B 157 2 r c.res.length (oQ c.res)/\(c.res.length=0->r=.slice none 0 0)/\(∀g,r.ownBlock=some g->g∈rd p w)/\bm W B p lg T n { c with res:=[] }/\(∀g,r.ownBlock=some g->g∉rd p W)/\Fr [p] w W/\gm p [p] w W from ⟨y,q.2,λg b=>by rw[u];simp[b],x,t,hf,⟨hf.mono (λk _ f=>List.mem_append_left _ f),λk _ f=>by rw[E] at f;rw[u];simp at f ⊢;simp[f]⟩⟩);obtain⟨I,L,J,U⟩:=ct d;rw[U] at c5 N;clear h a d i q s hf hb A C y z x u E t
 go_enter func117,ntmps117
 go_wp2;rw[<-j];go_ret;exact⟨_,rfl,N.out⟩
theorem Tv(B p lg T n:Nat)(c:aU)(w:World)(h:bm w B p lg T n c):
  Calls prog 112 #[.pointer (some ⟨p,0,none⟩)] w λe w'=>∃v,e=.returned v/\w'.ownsRow B 207 3 v c.out.length (oR c.out)/\(c.out.length=0->v=.slice none 0 0)/\(∀g,v.ownBlock=some g->g∈rd p w)/\bm w' B p lg T n { c with out:=[] }/\(∀g,v.ownBlock=some g->g∉rd p w')/\Fr [p] w w'/\gm p [p] w w':=by
 obtain⟨r,o,a,i,d,q,s⟩:=h.ex;have c5:=ae a 6;have K:=aj a 6;simp at c5;have F:=h.eY;obtain⟨W,j⟩:∃W,W=w.setCell ⟨p,6,none⟩ (.slice none 0 0):=⟨_,rfl⟩;have hf:Fr [p] w W:=by rw[j];exact Fr.cD (by simp) _ _
 have hb:W.heap[p]?=some (qt lg T c r (.slice none 0 0)):=by
  rw[j];have:=ar a 6 (.slice none 0 0)
  simpa using this
 have A:∀g,r.ownBlock=some g->g∉[p]:=λg b m=>by simp at m;subst m;exact bj i a (by decide) b
 have C:∀g,o.ownBlock=some g->g∉[p]:=λg b m=>by simp at m;subst m;exact bj d a (by decide) b
 have y:=aD i hf A;have z:=aD d hf C;have x:bm W B p lg T n { c with out:=[] }:=⟨⟨r,Value.slice none 0 0,hb,y,zzu _ _ _ _,q,Ao.nil _⟩,h.ai.fr hf (by simpa using λe=>F.2.2 e.symm),⟨h.low.1,h.low.2.1,zzk h.low.2.2 hf.size⟩,h.fB⟩;have u:rd p w=r.ownBlock.toList++o.ownBlock.toList:=by unfold rd Fa;rw[a];rfl
 have E:rd p W=r.ownBlock.toList:=by unfold rd Fa;rw[hb];exact List.append_nil _
 have t:∀g,o.ownBlock=some g->g∉rd p W:=λg b m=>by
  rw[E] at m;simp at m;obtain⟨G,D⟩:=aq i m;obtain⟨H,l⟩:=aq d b;rw[D] at l;cases l
 have N:=af (show W.ownsRow B 207 3 o c.out.length (oR c.out)/\(c.out.length=0->o=.slice none 0 0)/\(∀g,o.ownBlock=some g->g∈rd p w)/\bm W B p lg T n { c with out:=[] }/\(∀g,o.ownBlock=some g->g∉rd p W)/\Fr [p] w W/\gm p [p] w W from ⟨z,s.2,λg b=>by rw[u];simp[b],x,t,hf,⟨hf.mono (λk _ f=>List.mem_append_left _ f),λk _ f=>by rw[E] at f;rw[u];simp at f ⊢;simp[f]⟩⟩);obtain⟨I,L,J,U⟩:=ct d;rw[U] at c5 N;clear h a i d q s hf hb A C y z x u E t
 go_enter func112,ntmps112
 go_wp2;rw[<-j];go_ret;exact⟨_,rfl,N.out⟩
end
variable{L M S:List Nat}{H K T V a b f g i j k lg m m' n' p q:Nat}{t:TypeId}{A E v:Value}{c:aU}{s:ag}{d:ah}{l:au}
abbrev fg(i:Nat)(p:Nat)(up:Bool)(s c n:Option Addr):Obj:=.cells #[.int .i64 4,.int .i64 (i:Int),.pointer (some ⟨p,0,none⟩),.bool up,.pointer none,.pointer s,.pointer c,.pointer n] 79
abbrev gK(i:Nat)(c s:Option Addr)(v:Value):Obj:=.cells #[.int .i64 (i:Int),.pointer c,.pointer s,v] 210
structure bt where
 kind:Nat
 src:Nat
 dst:Nat
 aP:Nat
deriving DecidableEq
abbrev XL(m:bt):List Value:=[.int .i64 (m.kind:Int),.int .i64 (m.src:Int),.int .i64 (m.dst:Int),.int .u64 (m.aP:Int)]
def py(l:List bt):List Value:=l.flatMap XL
theorem Im(l:List bt)(x:bt):py (l++[x])=py l++XL x:=by simp[py]
def bo(t:TypeId):Prop:=t=79\/t=96\/t=182\/t=222\/t=43\/t=110\/t=139\/t=244\/t=122\/t=157\/t=207\/t=210\/t=151
def fU(o:Option Obj):Prop:=(∃s c,o=some (.map s c))\/∃c t,o=some (.cells c t (0,0))/\bo t
theorem fU.ty{c:Array Value}(h:bo t):fU (some<|.cells c t (0,0)):=.inr ⟨c,t,rfl,h⟩
theorem fU.not{c:Array Value}{fr:Nat×Nat}(h:fU<|some<|.cells c t fr):bo t:=by
 rcases h with⟨s,c,e⟩|⟨c,t,e,a⟩
 .cases e
 .cases e;exact a
def br(h d p lp x g:Nat)(w:World):List Nat:=[h,d,p,lp,x,g]++refs w.heap[d]?++refs w.heap[lp]?++refs w.heap[p]?++refs w.heap[x]?
structure jk(L L':List Nat)(w w':World):Prop where
 fr:Fr L w w'
 stay:∀k,k<w.heap.size->k∈L'->k∈L
theorem jk.trans{N:List Nat}{a b c:World}(h:jk L M a b)(k:jk M N b c):jk L N a c where
 fr:=⟨k.fr.os.trans h.fr.os,k.fr.tape.trans h.fr.tape,k.fr.output.trans h.fr.output,zzk h.fr.size k.fr.size,λi d hn=>(k.fr.block i (zzl d h.fr.size) λm=>hn<|h.stay i d m).trans<|h.fr.block i d hn⟩
 stay:=λi d m=>h.stay i d<|k.stay i (zzl d h.fr.size) m
theorem aL{h d lp x:Nat}{w:World}:k∈br h d p lp x g w↔k=h\/k=d\/k=p\/k=lp\/k=x\/k=g\/k∈refs w.heap[d]?\/k∈refs w.heap[lp]?\/k∈refs w.heap[p]?\/k∈refs w.heap[x]?:=by
 simp[br]
theorem jW{c s:Option Addr}(h:∃a m c,v=.slice a m c)(k:Nat):k∈refs (some<|gK i c s v)↔v.ownBlock=some k:=by
 obtain⟨a,m,c2,rfl⟩:=h;cases a<;>simp[refs,Value.ownBlock,eq_comm]
theorem nW{aC:Nat}:k∈refs (some<|Zk lg V T H aC)↔k=V\/k=T\/k=H:=by
 simp[refs,lgP]
theorem mem_co(h:∃a m c,E=.slice a m c)(d:∃a m c,v=.slice a m c):k∈refs (some<|qt lg T c E v)↔k=T\/E.ownBlock=some k\/v.ownBlock=some k:=by
 obtain⟨a,m,c2,rfl⟩:=h;obtain⟨b,m',t,rfl⟩:=d;cases a<;>cases b <;> simp[refs,Value.ownBlock,lgP,eq_comm]
def mD(l:au)(d:ah):Prop:=(∃t s,eT l d t s)/\d.down=false
variable{w w':World}{B lp p bD bN n G I:Nat}{J O E:Value}{l:au}{d:ah}
theorem aA.qx(h:aA w B lp p bD bN J O E l d n G I)(a:Own lp p w k):B<=k/\fU w.heap[k]?:=by
 refine⟨h.ge a,?_⟩;obtain e|e|e|e|e|e|e:=(h.own k).1 a
 .rw[e,h.blk];exact .ty<|by simp[bo]
 .rw[e,h.bq.blk];exact .ty<|by simp[bo]
 .rw[e];exact .inl h.bq.rz.isMap
 .rw[e];exact .inl h.bq.now.isMap
 .obtain⟨c,hc⟩:=aq h.bq.pen e;rw[hc];exact .ty<|by simp[bo]
 .obtain⟨c,hc⟩:=aq h.segs e;rw[hc];exact .ty<|by simp[bo]
 .obtain⟨c,hc⟩:=aq h.recs e;rw[hc];exact .ty<|by simp[bo]
structure pQ(w:World)(B i hp nd p sp gp bV bT bH lp bD bN m n:Nat)(s:ag)(l:au)(d:ah)(ov:Value)(out:List bt):Prop where
 hh:w.heap[hp]?=some (fg i p true (some ⟨sp,0,none⟩) none (some ⟨nd,0,none⟩))
 fG:w.heap[nd]?=some (gK i none (some ⟨sp,0,none⟩) ov)
 jz:w.ownsRow B 151 4 ov out.length (py out)
 sl:SL w B sp gp bV bT bH m lp p bD bN n s l d
 hb:B<=hp/\B<=nd/\B<=gp/\B<=sp/\B<=bV/\B<=bT/\B<=bH
structure nX(w:World)(B hp nd p cp gp bT lp bD bN m n:Nat)(c:aU)(l:au)(d:ah)(ov:Value)(out:List bt):Prop where
 hh:w.heap[hp]?=some (fg 0 p true none (some ⟨cp,0,none⟩) (some ⟨nd,0,none⟩))
 fG:w.heap[nd]?=some (gK 0 (some ⟨cp,0,none⟩) none ov)
 jz:w.ownsRow B 151 4 ov out.length (py out)
 sl:CL w B cp gp bT m lp p bD bN n c l d
 hb:B<=hp/\B<=nd/\B<=gp
def dh(w:World)(B i h:Nat)(s:ag)(out:List bt)(K:Nat)(L:List Nat):Prop :=
 ∃a p b g V T H lp bD bN m n l d v,pQ w B i h a p b g V T H lp bD bN m n s l d v out/\mD l d/\(m<=200*K/\n+l.segs.length<=100+4*K/\out.length<=200*K)/\L=br h a p lp b g w
def cT(w:World)(B h:Nat)(c:aU)(out:List bt)(K:Nat)(L:List Nat):Prop :=
 ∃b p a g T lp bD bN m n l d v,nX w B h b p a g T lp bD bN m n c l d v out/\mD l d/\(m<=200*K/\n+l.segs.length<=100+4*K/\out.length<=200*K)/\L=br h b p lp a g w
theorem pQ.obj{o:Nat}{out:List bt}(h:pQ w B i j o p q g V T H lp bD bN m n s l d v out):∀k∈br j o p lp q g w,B<=k/\fU w.heap[k]?:=by
 have⟨t,f,z,hs,hb⟩:=h;have⟨J,O,E,G,I,a⟩:=hs.lg;intro k u;obtain e|e|e|e|e|e|e|e|e|e:=aL.1 u
 .rw[e,t];exact⟨hb.1,.ty<|by simp[bo]⟩
 .rw[e,f];exact⟨hb.2.1,.ty<|by simp[bo]⟩
 .exact a.qx<|.inr<|.inl e
 .exact a.qx<|.inl e
 .rw[e,hs.sh.blk];exact⟨hb.2.2.2.1,.ty<|by simp[bo]⟩
 .rw[e,hs.ap.ju];exact⟨hb.2.2.1,.ty<|by simp[bo]⟩
 .rw[f]at e;have b:=(jW (ct z) k).1 e;have⟨c,r⟩:=aq z b;rw[r];exact⟨(z.lt k b).1,.ty<|by simp[bo]⟩
 .exact a.qx<|.inr<|.inr<|.inl e
 .exact a.qx<|.inr<|.inr<|.inr e
 .rw[hs.sh.blk]at e;obtain e|e|e:=nW.1 e
  .rw[e];exact⟨hb.2.2.2.2.1,.inl hs.sh.aM.isMap⟩
  .rw[e];exact⟨hb.2.2.2.2.2.1,.inl hs.sh.ai.isMap⟩
  .rw[e];exact⟨hb.2.2.2.2.2.2,.inl hs.sh.holds.isMap⟩
theorem nX.obj{r s:Nat}{out:List bt}(h:nX w B r s p i q T lp bD bN m n c l d v out):∀k∈br r s p lp i q w,B<=k/\fU w.heap[k]?:=by
 have⟨t,o,z,hs,hb⟩:=h;have⟨J,O,E,G,I,b⟩:=hs.lg;obtain⟨x,A,y,f,g,-⟩:=hs.co.ex;intro k u;obtain e|e|e|e|e|e|e|e|e|e:=aL.1 u
 .rw[e,t];exact⟨hb.1,.ty<|by simp[bo]⟩
 .rw[e,o];exact⟨hb.2.1,.ty<|by simp[bo]⟩
 .exact b.qx<|.inr<|.inl e
 .exact b.qx<|.inl e
 .rw[e,y];exact⟨hs.co.low.1,.ty<|by simp[bo]⟩
 .rw[e,hs.ju];exact⟨hb.2.2,.ty<|by simp[bo]⟩
 .rw[o]at e;have j:=(jW (ct z) k).1 e;have⟨c,a⟩:=aq z j;rw[a];exact⟨(z.lt k j).1,.ty<|by simp[bo]⟩
 .exact b.qx<|.inr<|.inr<|.inl e
 .exact b.qx<|.inr<|.inr<|.inr e
 .rw[y]at e;obtain e|e|e:=(mem_co (ct f)<|ct g).1 e
  .rw[e];exact⟨hs.co.low.2.1,.inl hs.co.ai.isMap⟩
  .obtain⟨c,a⟩:=aq f e;rw[a];exact⟨(f.lt k e).1,.ty<|by simp[bo]⟩
  .obtain⟨c,a⟩:=aq g e;rw[a];exact⟨(g.lt k e).1,.ty<|by simp[bo]⟩
theorem dh.obj{out:List bt}(h:dh w B i a s out K L):∀k∈L,B<=k/\fU w.heap[k]?:=by
 obtain⟨b,p,c,g,V,T,H,lp,bD,bN,m,n,l,d,v,h,-,-,rfl⟩:=h;exact h.obj
theorem cT.obj{out:List bt}(h:cT w B a c out K L):∀k∈L,B<=k/\fU w.heap[k]?:=by
 obtain⟨e,p,b,g,T,lp,bD,bN,m,n,l,d,v,h,-,-,rfl⟩:=h;exact h.obj
theorem fU.lt(h:fU w.heap[k]?):k<w.heap.size:=by
 rcases h with⟨s,c,e⟩|⟨c,t,e,-⟩<;>exact(zza.1 e).1
theorem fU.text(h:fU w.heap[k]?)(t:ByteArray):w.heap[k]?≠some (dV t):=by
 intro e;rw[e]at h;have:=h.not;simp[bo]at this
theorem Fr.PZ(hf:Fr S w w')(d:∀k∈S,k∉L)(a:∀k∈L,k<w.heap.size):∀k∈L,w'.heap[k]?=w.heap[k]?:=λk h=>hf.block k (a k h) λhs=>d k hs h
theorem bW{e:TypeId}{xs:List Value}(h:w.ownsRow B e k v m xs)(a:∀g,v.ownBlock=some g->w'.heap[g]?=w.heap[g]?):w'.ownsRow B e k v m xs:=by
 refine⟨h.1,?_⟩;obtain hn|⟨g,cap,cur,rfl,hb,hg,rest⟩:=h.2
 .exact .inl hn
 .exact .inr ⟨g,cap,cur,rfl,hb,(a g rfl).trans hg,rest⟩
theorem pQ.apart{c:Nat}{out:List bt}(h:pQ w B i f j p b c V T H lp bD bN m n s l d A out)(hf:Fr S w w')(o:∀k∈S,k<w.heap.size->k∉br f j p lp b c w/\∀t,w.heap[k]?≠some (dV t)):pQ w' B i f j p b c V T H lp bD bN m n s l d A out/\br f j p lp b c w'=br f j p lp b c w:=by
 have R:=h.obj;have U:∀k∈br f j p lp b c w,k<w.heap.size:=λk a=>(R k a).2.lt
 have a:=hf.PZ (λk hs q=>(o k hs<|U k q).1 q) U;have⟨Q,y,z,hs,hb⟩:=h;have⟨J,O,E,G,I,q⟩:=hs.lg;have r:∀k,k∈br f j p lp b c w->k∉S:=λk a hs=>(o k hs<|U k a).1 a
 have own:∀k,Own lp p w k->k∈br f j p lp b c w:=λk u=>aL.2<|by obtain e|e|e|e:=u<;>simp[e]
 have v:∀k,k=V\/k=T\/k=H->k∈br f j p lp b c w:=λk a=>aL.2<|by rw[hs.sh.blk];simp only[nW.2 a,or_true]
 have D:=a f (aL.2 bR);have x:=a j (aL.2 bR);have F:=a p (aL.2 bR);have K:=a lp (aL.2 bR);have e5:=a b (aL.2 bR);have M:=a c (aL.2 bR);refine⟨⟨D.trans Q,x.trans y,bW z λg N=>a g<|aL.2<|by rw[y];simp only[(jW (ct z) g).2 N,true_or,or_true],⟨hs.sh.fr hf (r b<|aL.2 bR) (r V<|v _<|.inl rfl) (r T<|v _<|.inr<|.inl rfl)<|r H<|v _<|.inr<|.inr rfl,⟨_,_,_,_,_,q.apart hf λk P C=>⟨λu=>(o k P C).1<|own k u,(o k P C).2⟩⟩,⟨M.trans hs.ap.ju,hs.ap.ne⟩,hs.oN⟩,hb⟩,?_⟩;unfold br;rw[x,F,K,e5]
theorem nX.apart{C:Value}{out:List bt}(h:nX w B i j p b f T lp bD bN m n c l d C out)(hf:Fr S w w')(q:∀k∈S,k<w.heap.size->k∉br i j p lp b f w/\∀t,w.heap[k]?≠some (dV t)):nX w' B i j p b f T lp bD bN m n c l d C out/\br i j p lp b f w'=br i j p lp b f w:=by
 have X:=h.obj;have U:∀k∈br i j p lp b f w,k<w.heap.size:=λk a=>(X k a).2.lt
 have a:=hf.PZ (λk hs r=>(q k hs<|U k r).1 r) U;have⟨W,x,A,hs,hb⟩:=h;have⟨J,O,E,G,I,r⟩:=hs.lg;have⟨H,K,F,y,z,V⟩:=hs.co.ex;have Y:∀k,k∈br i j p lp b f w->k∉S:=λk a hs=>(q k hs<|U k a).1 a
 have own:∀k,Own lp p w k->k∈br i j p lp b f w:=λk s=>aL.2<|by obtain e|e|e|e:=s<;>simp[e]
 have u:∀k,k=T\/H.ownBlock=some k\/K.ownBlock=some k->k∈br i j p lp b f w:=λk a=>aL.2<|by rw[F];simp only[(mem_co (ct y)<|ct z).2 a,or_true]
 have M:=a i (aL.2 bR);have v:=a j (aL.2 bR);have N:=a p (aL.2 bR);have Q:=a lp (aL.2 bR);have e5:=a b (aL.2 bR);have R:=a f (aL.2 bR);refine⟨⟨M.trans W,v.trans x,bW A λg o=>a g<|aL.2<|by rw[x];simp only[(jW (ct A) g).2 o,true_or,or_true],⟨⟨⟨H,K,e5.trans F,bW y λg o=>a g<|u g<|.inr<|.inl o,bW z λg o=>a g<|u g<|.inr<|.inr o,V⟩,hs.co.ai.fr hf<|Y T<|u _<|.inl rfl,⟨hs.co.low.1,hs.co.low.2.1,zzk hs.co.low.2.2 hf.size⟩,hs.co.fB⟩,⟨_,_,_,_,_,r.apart hf λk P D=>⟨λs=>(q k P D).1<|own k s,(q k P D).2⟩⟩,R.trans hs.ju,hs.ne,hs.oN⟩,hb⟩,?_⟩;unfold br;rw[v,N,Q,e5]
theorem dh.apart{out:List bt}(h:dh w B i a s out K L)(hf:Fr S w w')(e:∀k∈S,k<w.heap.size->k∉L/\∀t,w.heap[k]?≠some (dV t)):dh w' B i a s out K L:=by
 obtain⟨o,p,q,g,V,T,H,lp,bD,bN,m,n,l,d,v,P,j,f,rfl⟩:=h;have⟨b,c⟩:=P.apart hf e;exact⟨o,p,q,g,V,T,H,lp,bD,bN,m,n,l,d,v,b,j,f,c.symm⟩
theorem cT.apart{out:List bt}(h:cT w B a c out K L)(hf:Fr S w w')(i:∀k∈S,k<w.heap.size->k∉L/\∀t,w.heap[k]?≠some (dV t)):cT w' B a c out K L:=by
 obtain⟨q,p,b,g,T,lp,bD,bN,m,n,l,d,v,P,o,j,rfl⟩:=h;have⟨e,f⟩:=P.apart hf i;exact⟨q,p,b,g,T,lp,bD,bN,m,n,l,d,v,e,o,j,f.symm⟩
theorem jk.yQ{b c:World}(h:jk L M w b)(hf:Fr S b c)(d:∀k∈S,w.heap.size<=k):jk L M w c:=
 ⟨⟨hf.os.trans h.fr.os,hf.tape.trans h.fr.tape,hf.output.trans h.fr.output,zzk h.fr.size hf.size,λk a hn=>(hf.block k (zzl a h.fr.size) λm=>by have:=d k m;omega).trans<|h.fr.block k a hn⟩,h.stay⟩
theorem pO.node{c:Nat}{s':ag}{r:au}{j:ah}(hf:pO a V T H lp p w w')(hs:SL w B a g V T H m lp p bD bN n s l d)(t:SL w' B a g V T H m' lp p bD bN n' s' r j)(G:w.heap[c]?=some (gK i none (some ⟨a,0,none⟩) v)):
  jk (br f c p lp a g w) (br f c p lp a g w') w w':=by
 have q:=hf.cells hs G bM bM bM bM bM bM;have own:∀k,Own lp p w k->k∈br f c p lp a g w:=λk o=>aL.2<|by obtain e|e|e|e:=o<;>simp[e]
 refine⟨⟨hf.os,hf.tape,hf.output,hf.size,λk h hn=>hf.block k h (λo=>hn<|own k o) λb=>hn ?_⟩,λk h b=>?_⟩
 .simp at b;obtain e|e:=b
  .exact aL.2<|by simp[e]
  .exact aL.2<|by rw[hs.sh.blk];simp only[nW.2 e,or_true]
 .rcases aL.1 b with e|e|e|e|e|e|e|e|e|e
  .exact aL.2<|by simp[e]
  .exact aL.2<|by simp[e]
  .exact aL.2<|by simp[e]
  .exact aL.2<|by simp[e]
  .exact aL.2<|by simp[e]
  .exact aL.2<|by simp[e]
  .rw[q,<-G]at e;exact aL.2<|by simp only[e,true_or,or_true]
  .exact own k<|hf.stay k h<|.inr<|.inr<|.inl e
  .exact own k<|hf.stay k h<|.inr<|.inr<|.inr e
  .rw[t.sh.blk,nW]at e;exact aL.2<|by rw[hs.sh.blk];simp only[nW.2 e,or_true]
theorem CX(y:w.heap[p]?=some (qt lg T c E v)):k∈rd p w↔E.ownBlock=some k\/v.ownBlock=some k:=by
 unfold rd;rw[y];simp[Fa]
theorem mN.node{c':aU}{z:au}{r:ah}(hf:mN a T lp p w w')(hs:CL w B a g T m lp p bD bN n c l d)(C:CL w' B a g T m' lp p bD bN n' c' z r)(G:w.heap[b]?=some (gK 0 (some ⟨a,0,none⟩) none A)):
  jk (br i b p lp a g w) (br i b p lp a g w') w w':=by
 have s:=hf.cells hs G bM bM bM bM bM bM bM bM;have own:∀k,Own lp p w k->k∈br i b p lp a g w:=λk o=>aL.2<|by obtain e|e|e|e:=o<;>simp[e]
 obtain⟨D,F,y,t,u,-⟩:=hs.co.ex;obtain⟨E,H,q,S,v,-⟩:=C.co.ex;have j:∀k,k=T\/k∈rd a w->k∈br i b p lp a g w:=λk h=>aL.2<|by rw[CX y]at h;rw[y];simp only[(mem_co (ct t)<|ct u).2 h,or_true]
 refine⟨⟨hf.os,hf.tape,hf.output,hf.size,λk h hn=>hf.block k h (λo=>hn<|own k o) (λf=>hn ?_) λx=>hn<|j k<|.inr x⟩,λk h f=>?_⟩
 .simp at f;obtain e|e:=f
  .exact aL.2<|by simp[e]
  .exact j k<|.inl e
 .rcases aL.1 f with e|e|e|e|e|e|e|e|e|e
  .exact aL.2<|by simp[e]
  .exact aL.2<|by simp[e]
  .exact aL.2<|by simp[e]
  .exact aL.2<|by simp[e]
  .exact aL.2<|by simp[e]
  .exact aL.2<|by simp[e]
  .rw[s,<-G]at e;exact aL.2<|by simp only[e,true_or,or_true]
  .exact own k<|hf.stay k h<|.inr<|.inr<|.inl e
  .exact own k<|hf.stay k h<|.inr<|.inr<|.inr e
  .rw[q,mem_co (ct S)<|ct v,<-CX q]at e;exact j k<|e.imp id<|hf.own k h
theorem jh(E p J O i:Nat)(v:Value)(x j m:Option Addr)(up n:Bool)(l f a b c k:Int)(w:World)(g:w.heap[E]?=some (fg i p up x j m))(d:w.heap[p]?=some (gv J O v l f n)):
  Calls prog 27 #[.pointer<|some ⟨E,0,none⟩,fy a b c k] w λe w'=>e=.returned (.tuple #[])/\w'.heap[p]?=some (gv J O v a b n)/\Fr [p] w w':=by
 have q:E<w.heap.size:=(zza.1 g).1;have s:=(zza.1 d).1;have r:¬E=p:=by intro e;subst e;rw[g]at d;cases d
 have S:¬p=E:=λe=>r e.symm
 have z:¬p=w.heap.size:=bL;have A:¬w.heap.size=p:=bL;have⟨W,h⟩:=gb <|w.alloc (.cells #[.int .i64 a,.int .i64 b,.int .i64 c,.int .i64 k] 40);have R:W.heap[E]?=some (fg i p up x j m):=by rw[h,zzf w _ E q];exact g
 have o:W.heap[p]?=some (gv J O v l f n):=by rw[h,zzf w _ p s];exact d
 have G:W.heap[w.heap.size]?=some (.cells #[.int .i64 a,.int .i64 b,.int .i64 c,.int .i64 k] 40 (0,0)):=by rw[h];exact heap_alloc_new w _
 have c2:=ae R 2;have c3:=ae o 3;have c4:=ae o 4;have c5:=ae o 5;have u:=aj o 3;have y:=aj o 4;have t:=ae G 0;have x:=ae G 1;simp at c2 c3 c4 c5 t x;have D:Hid (W.heap[p]?=some (gv J O v l f n)):=o;have F:Hid (Fr [p] w W):=by rw[h];exact(Fr.refl [p] w).alloc _
 clear d g R o G;clear c5;go_enter func27,ntmps27;go_wp2;rw[<-h];clear h;go_region_held3 (λw'=>w'.cell? (hO E 2)=some (.pointer<|some (gz p))/\w'.cell? (gz w.heap.size)=some (.int .i64 a)/\w'.cell? (hO w.heap.size 1)=some (.int .i64 b)) (simp[dB, *]) (fail);go_end0;refine⟨rfl,?_,F.out.trans<|((Fr.cD bR _ _).trans<|Fr.cD bR _ _).drew⟩;have:=ar (ar D.out 3<|.int .i64 a) 4<|.int .i64 b;simp at this;exact this
theorem kG(E p J O i:Nat)(v:Value)(x n q:Option Addr)(up:Bool)(l f a b c k:Int)(w:World)(g:w.heap[E]?=some (fg i p up x n q))(d:w.heap[p]?=some (gv J O v l f false)):
  Calls prog 29 #[.pointer<|some ⟨E,0,none⟩,fy a b c k] w λe w'=>e=.returned (.tuple #[])/\w'.heap[p]?=some (gv J O v (-1) (-1) false)/\Fr [p] w w':=by
 have r:E<w.heap.size:=(zza.1 g).1;have t:=(zza.1 d).1;have s:¬E=p:=by intro e;subst e;rw[g]at d;cases d
 have S:¬p=E:=λe=>s e.symm
 have A:¬p=w.heap.size:=bL;have B:¬w.heap.size=p:=bL;have⟨W,h⟩:=gb <|w.alloc (.cells #[.int .i64 a,.int .i64 b,.int .i64 c,.int .i64 k] 40);have R:W.heap[E]?=some (fg i p up x n q):=by rw[h,zzf w _ E r];exact g
 have o:W.heap[p]?=some (gv J O v l f false):=by rw[h,zzf w _ p t];exact d
 have G:W.heap[w.heap.size]?=some (.cells #[.int .i64 a,.int .i64 b,.int .i64 c,.int .i64 k] 40 (0,0)):=by rw[h];exact heap_alloc_new w _
 have c2:=ae R 2;have c3:=ae o 3;have c4:=ae o 4;have c5:=ae o 5;have y:=aj o 3;have z:=aj o 4;have u:=ae G 0;have x:=ae G 1;simp at c2 c3 c4 c5 u x;have D:Hid (W.heap[p]?=some (gv J O v l f false)):=o;have F:Hid (Fr [p] w W):=by rw[h];exact(Fr.refl [p] w).alloc _
 clear d g R o G;go_enter func29,ntmps29;have j:=c2;have m:=c5;rw[h]at j m;go_wp2;rw[<-h];clear h j m;go_region_held3 (λw'=>w'.cell? (hO E 2)=some (.pointer<|some (gz p))) (simp[dB, *]) (fail);go_end0;refine⟨rfl,?_,F.out.trans<|((Fr.cD bR _ _).trans<|Fr.cD bR _ _).drew⟩;have:=ar (ar D.out 3<|.int .i64<|-1) 4<|.int .i64<|-1;simp at this;exact this
theorem J'(E p i:Nat)(up:Bool)(x a b:Option Addr)(w:World)(h:w.heap[E]?=some (fg i p up x a b)):
  Calls prog 38 #[.pointer<|some ⟨E,0,none⟩] w λe w'=>e=.returned (.tuple #[])/\w'.heap[E]?=some (fg i p false none none none)/\Fr [E] w w':=by
 have c3:=ae h 3;have c4:=ae h 4;have c5:=ae h 5;have c:=ae h 6;have d:=ae h 7;have f:=aj h 3;have g:=aj h 4;have j:=aj h 5;have k:=aj h 6;have l:=aj h 7;simp at c3 c4 c5 c d;have H:Hid (w.heap[E]?=some (fg i p up x a b)):=h;clear h;go_enter func38,ntmps38;go_wp2;go_end0;refine⟨rfl,?_,((((Fr.cD bR _ _).trans<|Fr.cD bR _ _).trans<|Fr.cD bR _ _).trans<|Fr.cD bR _ _).trans<|Fr.cD bR _ _⟩;have:=ar (ar (ar (ar (ar H.out 3<|.bool false) 4<|.pointer none) 5<|.pointer none) 6<|.pointer none) 7<|.pointer none;simp at this;exact this
section
variable{w w':World}{B i E I p Z G r U q h J O m n m' n' j:Nat}{s s':ag}{c c':aU}{l u:au}{d t:ah}{o:Value}{out:List bt}
theorem pQ.Ip(a:pQ w B i E I p Z G r U q h J O m n s l d o out)(hf:pO Z r U q h p w w')(hs:SL w' B Z G r U q m' h p J O n' s' u t):pQ w' B i E I p Z G r U q h J O m' n' s' u t o out/\jk (br E I p h Z G w) (br E I p h Z G w') w w':=
 ⟨⟨hf.cells a.sl a.hh bM bM bM bM bM bM,hf.cells a.sl a.fG bM bM bM bM bM bM,
  bW a.jz (λg e=>by have⟨c,b⟩:=aq a.jz e;exact(hf.cells a.sl b bM bM bM bM bM bM).trans b.symm),hs,a.hb⟩,hf.node a.sl hs a.fG⟩
theorem nX.zJ(a:nX w B E I p j G U h J O m n c l d o out)(hf:mN j U h p w w')(hs:CL w' B j G U m' h p J O n' c' u t):nX w' B E I p j G U h J O m' n' c' u t o out/\jk (br E I p h j G w) (br E I p h j G w') w w':=
 ⟨⟨hf.cells a.sl a.hh bM bM bM bM bM bM bM bM,hf.cells a.sl a.fG bM bM bM bM bM bM bM bM,
  bW a.jz (λg e=>by have⟨c,b⟩:=aq a.jz e;exact(hf.cells a.sl b bM bM bM bM bM bM bM bM).trans b.symm),hs,a.hb⟩,hf.node a.sl hs a.fG⟩
theorem pQ.new(a:pQ w B i E I p Z G r U q h J O m n s l d o out)(hf:Fr [] w w'):pQ w' B i E I p Z G r U q h J O m n s l d o out/\jk (br E I p h Z G w) (br E I p h Z G w') w w':=a.Ip (a.sl.new hf).2 (a.sl.new hf).1
theorem nX.new(a:nX w B E I p j G U h J O m n c l d o out)(hf:Fr [] w w'):nX w' B E I p j G U h J O m n c l d o out/\jk (br E I p h j G w) (br E I p h j G w') w w':=a.zJ (a.sl.new hf).2 (a.sl.new hf).1
theorem pQ.Iq(a:pQ w B i E I p Z G r U q h J O m n s l d o out)(hf:Fr [] w w'):br E I p h Z G w'=br E I p h Z G w:=(a.apart hf bR).2
theorem nX.Iq(a:nX w B E I p j G U h J O m n c l d o out)(hf:Fr [] w w'):br E I p h j G w'=br E I p h j G w:=(a.apart hf bR).2
theorem jk.below{L a:List Nat}(hf:jk L a w w')(h:B<=w.heap.size)(b:∀k∈L,B<=k/\fU w.heap[k]?):Below B w w':=hf.fr.below h λk c=>(b k c).1
theorem pQ.size(a:pQ w B i E I p Z G r U q h J O m n s l d o out):B<=w.heap.size:=by
 have b:=(zza.1 a.sl.sh.blk).1;have:=a.hb.2.2.2.1;omega
theorem nX.size(a:nX w B E I p j G U h J O m n c l d o out):B<=w.heap.size:=a.sl.co.low.2.2
theorem pQ.keeps(b:pQ w B i E I p Z G r U q h J O m n s l d o out){L:List Nat}(hf:jk (br E I p h Z G w) L w w')(c:2<=B):(Met w->Met w')/\(bI w->bI w'):=by
 have hb:=hf.below b.size b.obj;exact⟨λa=>a.below hb bL,λa=>a.cI<|hb.block 1 bL⟩
theorem nX.keeps(b:nX w B E I p j G U h J O m n c l d o out){L:List Nat}(hf:jk (br E I p h j G w) L w w')(e:2<=B):(Met w->Met w')/\(bI w->bI w'):=by
 have hb:=hf.below b.size b.obj;exact⟨λa=>a.below hb bL,λa=>a.cI<|hb.block 1 bL⟩
end
/-! ### a log that is well -/
theorem mD.bQ(h:mD l d)(a b:Int):mD l (d.bQ a b):=by
 have⟨⟨t,s,c⟩,e⟩:=h;exact⟨⟨t,s,{c with files:=c.files}⟩,e⟩
theorem vB(h:d.down=false):(d.bQ (-1)<|-1).ij 0:=by
 constructor<;>simp[ah.bQ,h]
theorem eT.Ir{t c:Nat}{a:List (List Rec)}(h:eT l d t a)(w:d.ij c)(g:c+2<1099511627776)(kind:Nat)(s:ByteArray)(hs:s.size<=255):(l.append d kind s).1.segs.length<=l.segs.length+1:=by
 have f:=h.append w g kind s hs;have b:=f.sum;have i:(bytesOf s).length=s.size:=by unfold bytesOf;rw[zzn,Array.length_toList];rfl
 have j:l.filled<870:=by
  obtain e|⟨ds,c0,e⟩:=List.eq_nil_or_concat a
  .rw[h.none e];decide
  .rw[List.concat_eq_append]at e;rw[h.fill ds c0 e];exact h.size c0<|by simp[e]
 simp only[]at b;omega
theorem mD.note(h:mD l d)(kind:Nat)(s:ByteArray)(hs:s.size<=255):(l.note (d.bQ (-1)<|-1) kind s).2.2=0/\mD (l.note (d.bQ (-1)<|-1) kind s).1 (l.note (d.bQ (-1)<|-1) kind s).2.1/\(l.note (d.bQ (-1)<|-1) kind s).1.segs.length<=l.segs.length+1:=by
 have w:=vB h.2;obtain⟨⟨t,f,b⟩,-⟩:=h.bQ (-1)<|-1;have a:=b.append w bL kind s hs;obtain⟨c,e,-⟩:=a.log;exact⟨a.ret.2,⟨⟨t,c,e⟩,a.well.up⟩,b.Ir w bL kind s hs⟩
theorem mD.keep(h:mD l d)(kind:Nat)(s:ByteArray)(hs:s.size<=255):(l.keep (d.bQ (-1)<|-1) kind s).2.2=0/\mD (l.keep (d.bQ (-1)<|-1) kind s).1 (l.keep (d.bQ (-1)<|-1) kind s).2.1/\(l.keep (d.bQ (-1)<|-1) kind s).1.segs.length<=l.segs.length+1:=by
 have w:=vB h.2;obtain⟨⟨t,g,b⟩,-⟩:=h.bQ (-1)<|-1;have a:=b.append w bL kind s hs;obtain⟨c,e,-⟩:=a.log;have f:(l.note (d.bQ (-1)<|-1) kind s).2.2=0:=a.ret.2;have hf:=eT.force e a.well bL;have k:l.keep (d.bQ (-1)<|-1) kind s=(l.note (d.bQ (-1)<|-1) kind s).1.force (l.note (d.bQ (-1)<|-1) kind s).2.1:=by unfold au.keep;rw[if_pos f]
 rw[k];exact⟨hf.1,⟨⟨t,c,hf.2.1⟩,hf.2.2.1.up⟩,zzk (Nat.le_of_eq<|congrArg List.length hf.2.2.2.1)<|b.Ir w bL kind s hs⟩
theorem mD.segs(h:mD l d)(hf:l.filled<600):l.segs≠[]:=by
 obtain⟨⟨t,s,a⟩,-⟩:=h;exact a.Xr hf
end Go.Proofs.YtcalalndmcemiaaGreatDoor
