import Derived.Test.YtlgeloebpdmnnaaGreatDoorC19
set_option maxHeartbeats 8000000
set_option maxRecDepth 100000
namespace Go.Proofs.YtlgeloebpdmnnaaGreatDoor
open Go.RowKit Go.Maps Tryz Sc
section
open Go.Shelf
variable{k p:Nat}
theorem Tx{ps:List Nat}(h:k<ps.length)(j:Nat):(ps.set k p).getD j 0=if j=k then p else ps.getD j 0:=by grind
theorem yn{t:fQ}(h:t.Ok)(hp:p<256):fQ.Ok {t with parts:=t.parts.set k p}:=
 ⟨by simp[h.1],λx hx=>by
  obtain e|e:=List.mem_or_eq_of_mem_set hx
  .exact h.2 x e
  .rw[e];exact hp⟩
theorem PD{xs:List Nat}{e:Nat}(h:e<256):∀p∈cO xs e,p<256:=by
 have:∀(l ps:List Nat),(∀p∈ps,p<256)->∀p∈l.foldl (λps x=>ps.set x e) ps,p<256:=by
  intro l;induction l with
  |nil=>grind
  |cons a r ih=>grind
 exact this xs _ du
theorem DY(xs:List Nat)(s e z:Nat)(h:e<256):fQ.Ok ⟨s,cO xs e,z,0⟩:=⟨k_ xs e,PD h⟩
theorem Lu(c:bL)(t:Nat)(T:fQ):({c with aD:=dt c.aD t T}:bL).tx t=T:=by grind[bL.tx,kc]
def bL.asked(c:bL)(t:Nat)(xs:List Nat):bL:={ c with aD:=dt c.aD t ⟨5,cO xs 1,c.bw,0⟩,out:=c.out++(bV nk (cO xs 1)).map λk=>(t,k,1) }
def bL.kX(c:bL)(t:Nat):bL:={ c with aD:=dU c.aD t,res:=c.res++[(t,6)],out:=c.out++(bV zW (c.tx t).parts).map λk=>(t,k,6) }
theorem Ix(B p l T n t g f:Nat)(xs:List Nat)(c:bL)(w:nL)(h:a_ w B p l T n c)(m:t<2^64)(V:(c.tx t).state=4)(u:j_ xs)(hx:vB w g xs)(hn:n+10<1000000000):
  Calls prog 133 #[gx p,.int .u64 (t:Int),.slice (some<|gi g) xs.length f] w λe w'=>e=.returned .nilIface/\a_ w' B p l T (n+10) (c.asked t xs)/\gQ p [p,T] w w':=by
 have s:=ke B p l T n t c w h m;rw[V]at s;have Z:=Ih g f xs u w hx;have r:=zq g f 1 xs u w.drew hx;have⟨C,D,E,F,G,I,J,K,L,q⟩:=nine<|k_ xs 1;have y:Xm (cO xs 1)=.agg #[.int .u8 (C:Int),.int .u8 (D:Int),.int .u8 (E:Int),.int .u8 (F:Int),.int .u8 (G:Int),.int .u8 (I:Int),.int .u8 (J:Int),.int .u8 (K:Int),.int .u8 (L:Int)]:=by rw[q];rfl
 rw[y]at r;have z:∀W,Fr [] w W->∃b,(Instr.mapUpdate 192 (.map<|some T) (.int .u64 (t:Int))<|.agg #[.int .i64 5,.int .u8 (C:Int),.int .u8 (D:Int),.int .u8 (E:Int),.int .u8 (F:Int),.int .u8 (G:Int),.int .u8 (I:Int),.int .u8 (J:Int),.int .u8 (K:Int),.int .u8 (L:Int),.int .u64 (c.bw:Int),.nilIface]).run prog W=.ok () b/\a_ b B p l T (n+1) {c with aD:=dt c.aD t ⟨5,cO xs 1,c.bw,0⟩}/\Fr [T] W b:=by
  intro W j;have o:=h.new j;have⟨b,Y,U,O⟩:=o.aD.qV underlying192 eE m (DY xs 5 1 c.bw du);refine⟨b,?_,o.lS (Fr.bI O) U dp,Fr.bI O⟩;have e:(EX.ev ⟨5,cO xs 1,c.bw,0⟩:Value)=lz ⟨5,cO xs 1,c.bw,0⟩:=rfl;rw[e,q,bC,aT]at Y;exact Y
 have⟨rv,ov,i,_⟩:=h.ex;have c1:=af i 1;have c4:=af i 4;simp at c1 c4;have M:=h.jS;have Q:=ah z;have S:=ah (λ(W:nL) (j:a_ W B p l T (n+1) {c with aD:=dt c.aD t ⟨5,cO xs 1,c.bw,0⟩})=>sO B p l T (n+1) t 181 nk E' Ao 1 {c with aD:=dt c.aD t ⟨5,cO xs 1,c.bw,0⟩} W j m dp);clear z y q i hx h;go_enter func133,ntmps133;go_wp2_with fail;apply s.mono;clear s;rintro e w1 ⟨rfl,mR⟩;subst mR;go_wp2_with fail;apply Z.mono;clear Z;rintro e w2 ⟨rfl,lI⟩;subst lI;go_wp2;go_region_held3 (λw'=>w'.cell? (hP p 1)=some (.map<|some T)/\w'.cell? (hP p 4)=some (.int .u64 (c.bw:Int)))
  (simp[*])
  (first|(go_at_call 196;apply r.mono;rintro e d ⟨rfl,iI⟩;have z1:=(zze<|iI.block p M.1 dv).trans c1;have z4:=(zze<|iI.block p M.1 dv).trans c4;have⟨b,Y,Pm,R⟩:=Q.out d ⟨iI.os,iI.tape,iI.output,iI.size,iI.block⟩;have y1:=(zze<|R.block p (zzl M.1 iI.size)<|by simpa using M.2.2).trans z1;have y4:=(zze (a:=⟨p,4,none⟩)<|R.block p (zzl M.1 iI.size)<|by simpa using M.2.2).trans z4;have H:=ah<|zzb Pm<|zzb iI R;clear Pm iI R))
 have A:=S.out b H.1;go_wp2_with fail;refine A.mono ?_;clear A;rintro e N ⟨rfl,yo,il⟩
 have P:=ah (show a_ N B p l T (n+10) (c.asked t xs)/\gQ p [p,T] w2 N from ⟨by rw[Lu]at yo;exact yo.mono dp,by
  have x:Fr [] w2 d:=⟨H.2.1.os,H.2.1.tape,H.2.1.output,H.2.1.size,H.2.1.block⟩;have X:gQ p [p,T] w2 d:=x.r M.1 dv (by simp);have k3:gQ p [p,T] d b:=H.2.2.r (zzl M.1 x.size) (by simpa using M.2.2) (by simp);exact gQ.trans (gQ.trans X k3) (gQ.mono il dv)⟩)
 clear yo il;go_wp2;go_ret;exact⟨rfl,P.out⟩
theorem PF{K V:Type}[DecidableEq K](l:List<|K×V)(k:K)(v:V):dU (dt l k v) k=dU l k:=by
 unfold dt dU;simp
theorem vH(B p g T n t:Nat)(c:bL)(w:nL)(h:a_ w B p g T n c)(b:t<2^64)(hn:n+10<1000000000):
  Calls prog 179 #[gx p,.int .u64 (t:Int)] w λe w'=>e=.returned (.tuple #[])/\a_ w' B p g T (n+10) (c.kX t)/\gQ p [p,T] w w':=by
 have hb:=vF B p g T n t 6 c w h dp;clear h;go_enter func179,ntmps179;go_wp2_with fail;apply hb.mono;clear hb;rintro e i ⟨rfl,kn,cY⟩;have s:=sO B p g T (n+1) t 243 zW aaM XN 6 {c with res:=c.res++[(t,6)]} i kn b dp;have d:=ah cY;clear kn cY;go_wp2_with fail;apply s.mono;clear s;rintro e w2 ⟨rfl,iy,bH⟩;have⟨r,o,a,_⟩:=iy.ex;have c1:=af a 1;simp at c1;have⟨c2,X⟩:∃c2:bL,c2={c with res:=c.res++[(t,6)],out:=c.out++(bV zW (c.tx t).parts).map λk=>(t,k,6)}:=⟨_,rfl⟩;have Z:a_ w2 B p g T (n+1+9) c2:=by rw[X];exact iy
 have H:=ah<|show a_ w2 B p g T (n+1+9) c2/\gQ p [p] w w2 from ⟨Z,gQ.trans d.out bH⟩;have f:=ah X;clear iy Z X bH a
 go_wp2_with (first
  |(at_delete;apply lN rfl _ _ 192 249 rfl underlying192 T (n+1+9) c2.aD rfl H.1.aD t b rfl;intro j v L)
  |fail)
 have x:=H.1.lS (Fr.bI L) v<|zzc _;go_end0;refine⟨rfl,?_,gQ.trans (gQ.mono H.2 dv)<|(Fr.bI L).r H.1.jS.1 (by simpa using H.1.jS.2.2) dv⟩;have:=x.mono (m:=n+10) (by omega);rw[f.out]at this;exact this
theorem Fl(B p g b n t:Nat)(c:bL)(T:fQ)(Z:T.Ok)(j:T.aS=0)(k:T.parts.any fG=false)(w:nL)(h:a_ w B p g b n c)(y:t<2^64)(hn:n+10<1000000000):
  Calls prog 201 #[gx p,.int .u64 (t:Int),lz T] w λe w'=>e=.returned .nilIface/\a_ w' B p g b (n+10) {c with aD:=dU c.aD t,res:=c.res++[(t,5)]}/\gQ p [p,b] w w':=by
 have v:=λW=>tZ 255 fG La Fi T Z W
 rw[k]at v;have q:=ah v;have⟨s,ps,z,P⟩:=T;change P=0 at j;subst j;have⟨A,C,D,E,F,J,M,N,O,G⟩:=nine Z.1;change ps=_ at G;subst G;rw[bC,aT];have⟨a,d⟩:=gb <|w.alloc (.cells (mf s A C D E F J M N O z .nilIface) 249);have I:Fr [] w a:=by rw[d];exact(fU w).alloc _
 have r:=q.out a;rw[bC,aT]at r;have u:Hid (p<w.heap.size):=h.jS.1;have f:=ah<|show a_ a B p g b n c/\Fr [] w a from ⟨h.new I,I⟩;clear v h I k Z
 go_enter func201,ntmps201;go_wp2_with fail;rw[<-d];clear d;apply r.mono;clear r;rintro e Q ⟨rfl,cY⟩;have hb:=vF B p g b n t 5 c Q (f.1.new cY) dp;have m:=ah<|f.2.trans cY;clear cY;go_wp2_with fail;apply hb.mono;clear hb;rintro e w2 ⟨rfl,iy,bH⟩;have⟨S,R,i,_⟩:=iy.ex;have c1:=af i 1;simp at c1;have H:=ah (show a_ w2 B p g b (n+1) {c with res:=c.res++[(t,5)]}/\gQ p [p] w w2 from ⟨iy,gQ.trans (m.out.r u.out dv dv) bH⟩);clear iy bH i
 go_wp2_with (first
  |(at_delete;apply lN rfl _ _ 192 249 rfl underlying192 b (n+1) c.aD rfl H.1.aD t y rfl;intro l K L)
  |fail)
 have x:=H.1.lS (Fr.bI L) K<|zzc _;have o:=ah (show a_ l B p g b (n+10) {c with aD:=dU c.aD t,res:=c.res++[(t,5)]}/\gQ p [p,b] w l from ⟨x.mono dp,gQ.trans (gQ.mono H.2 dv)<|(Fr.bI L).r H.1.jS.1 (by simpa using H.1.jS.2.2) dv⟩);clear x K L;go_wp2;go_ret;exact⟨rfl,o.out⟩
theorem mD{w:nL}{s:Int}{b o q r t u x y A z:Nat}{v:Value}(h:w.heap[b]?=some (.cells #[.int .i64 s,.int .u8 (p:Int),.int .u8 (o:Int),.int .u8 (q:Int),.int .u8 (r:Int),.int .u8 (t:Int),.int .u8 (u:Int),.int .u8 (x:Int),.int .u8 (y:Int),.int .u8 (A:Int),.int .u64 (z:Int),v] 249 (0,0))):w.cell? (gi b)=some (.int .i64 s)/\w.cell? (hP b 1)=some (.int .u8 (p:Int))/\w.cell? (hP b 2)=some (.int .u8 (o:Int))/\w.cell? (hP b 3)=some (.int .u8 (q:Int))/\w.cell? (hP b 4)=some (.int .u8 (r:Int))/\w.cell? (hP b 5)=some (.int .u8 (t:Int))/\w.cell? (hP b 6)=some (.int .u8 (u:Int))/\w.cell? (hP b 7)=some (.int .u8 (x:Int))/\w.cell? (hP b 8)=some (.int .u8 (y:Int))/\w.cell? (hP b 9)=some (.int .u8 (A:Int))/\w.cell? (hP b 10)=some (.int .u64 (z:Int))/\w.cell? (hP b 11)=some v:=by
 have e:=af h 0;have a:=af h 1;have f:=af h 2;have g:=af h 3;have i:=af h 4;have j:=af h 5;have k:=af h 6;have l:=af h 7;have m:=af h 8;have n:=af h 9;have c:=af h 10;have d:=af h 11;simp at e a f g i j k l m n c d;exact⟨e,a,f,g,i,j,k,l,m,n,c,d⟩
def bL.comm(c:bL)(t:Nat)(T:fQ):bL:={ c with aD:=dt c.aD t T,res:=c.res++[(t,5)],out:=c.out++(bV kE T.parts).map λk=>(t,k,5) }
def bL.yq(c:bL)(t k:Nat):bL:={ c with aD:=dU c.aD t,res:=c.res++[(t,6)],out:=c.out++(bV zW ((c.tx t).parts.set k 3)).map λk=>(t,k,6) }
theorem XT(B p i d n t k v:Nat)(R:v=3)(hk:k<9)(c:bL)(w:nL)(h:a_ w B p i d n c)(K:t<2^64)(J:(c.tx t).aS=0)(zZ:(c.tx t).parts.getD k 0=1)(hn:n+11<1000000000):
  Calls prog 135 #[gx p,.int .u64 (t:Int),.int .i64 (k:Int),.int .i64 (v:Int)] w λe w'=>e=.returned .nilIface/\a_ w' B p i d (n+11) (c.yq t k)/\gQ p [p,d] w w':=by
 have Z:=h.GA t
 have P:Hid (∀b:fQ,b={c.tx t with parts:=(c.tx t).parts.set k v}->({c with aD:=dt c.aD t b}:bL).kX t=c.yq t k):=by
  intro b G;unfold bL.kX bL.yq;rw[Lu,G,R,PF]
 obtain⟨rv,ov,g1,_⟩:=h.ex;have c1:=af g1 1;simp at c1;have M:=h.jS;have GZ:=ox v<|.inr<|.inl R;obtain⟨T,I⟩:∃T,T=c.tx t:=⟨_,rfl⟩;have rU:∀o,(Instr.lookup 192 (.map<|some d) (.int .u64 (t:Int)) false).run prog ((w.alloc o).drew)=.ok (lz T) ((w.alloc o).drew):=λo=>by rw[I];exact(h.new ((fU w).alloc o).drew).iQ K
 have mn:(Instr.lookup 192 (.map<|some d) (.int .u64 (t:Int)) false).run prog w.drew=.ok (lz T) w.drew:=by rw[I];exact(h.new (fU w).drew).iQ K
 rw[<-I]at Z zZ P J;clear I;have i0:¬(v:Int)=0:=dp;have j0:=oT.2 i0;obtain⟨b,j⟩:∃b:fQ,b={T with parts:=T.parts.set k v}:=⟨_,rfl⟩;have uE:b.Ok:=by rw[j];exact yn Z dp
 have X:=λW=>vA T Z k hk W
 rw[zZ]at X;have Y:=λW=>sG T Z k v hk W
 rw[<-j]at Y;obtain⟨q,m,r,u,x,y,A,C,D,Q⟩:=nine uE.1
 have S:lz b=.agg (mf T.state q m r u x y A C D T.since .nilIface):=by
  have e:b=⟨T.state,[q,m,r,u,x,y,A,C,D],T.since,0⟩:=by
   have e1:b.state=T.state:=by rw[j]
   have E:b.since=T.since:=by rw[j]
   have e3:b.aS=0:=by rw[j];exact J
   obtain⟨a1,a2,a3,a4⟩:=b;simp only at e1 E e3 Q;rw[e1,E,e3,Q]
  rw[e,bC,aT]
 rw[S]at Y
 have z_:=ah (λ(W:nL) (m':Nat) (G:a_ W B p i d m' c) (Rg:m' < maxLen)=>(by
  obtain⟨F,nY,PE,rO⟩:=G.aD.qV underlying192 Rg (k:=t) K (v:=b) uE;refine⟨F,?_,G.lS (Fr.bI rO) PE dp,Fr.bI rO⟩;have e:(EX.ev b:Value)=lz b:=rfl;rw[e,S]at nY
  exact nY:∃F,(Instr.mapUpdate 192 (.map (some d)) (.int .u64 (t:Int)) (.agg (mf T.state q m r u x y A C D T.since .nilIface))).run prog W=.ok () F/\a_ F B p i d (m' + 1) {c with aD:=dt c.aD t b}/\Fr [d] W F))
 have a7:=ah<|P.out b j;have XU:=ah Y;clear j Q Y zZ P;have Nw:=ah X;clear X S;subst R;obtain⟨s,ps,z,qd⟩:=T
 change qd=0 at J
 subst J;obtain⟨p0,p1,p2,p3,p4,p5,p6,p7,p8,eG⟩:=nine Z.1
 change ps=_ at eG
 subst eG;rw[bC,aT]at mn Nw;simp only[bC,aT]at rU;have o6:∀o,(w.alloc o).cell? ⟨p,1,none⟩=some (.map<|some d):=λo=>(sR _ _ _ M.1).trans c1
 have HI:=ah h;clear h g1
 go_enter func135,ntmps135
 go_wp2
 go_cut [9,10]from 12 to 19 (λs9 Iy wx=>s9=.pointer (some ⟨w.heap.size,0,none⟩)/\Iy=.int .u8 3/\wx=(w.alloc<|.cells (mf s p0 p1 p2 p3 p4 p5 p6 p7 p8 z .nilIface) 249).drew)
 case first=>
  go_region_held3 (λw'=>w'.cell? ⟨p,1,none⟩=some (.map<|some d))
   (first|exact o6 _|simp[*])
   (first|(go_at_call 197;refine(GZ _).mono ?_;rintro e w2 ⟨rfl,rfl⟩))
  all_goals
   (go_wp2_with fail
    go_meet
    case rel=>exact⟨rfl,rfl,rfl⟩)
 case rest=>
  obtain⟨rfl,rfl,wA⟩:=hcut;have dI:Fr [] w wc:=by rw[wA];exact((fU w).alloc _).drew
  have N:wc.heap[nF w]?=some (.cells (mf s p0 p1 p2 p3 p4 p5 p6 p7 p8 z .nilIface) 249 (0,0)):=by rw[wA];exact oz w _
  obtain⟨y0,y1,y2,y3,y4,y5,y6,y7,y8,y9,ya,yb⟩:=mD N;have wU:=(zza.1 N).1;have fE:=Nw.out wc;have H0:=ah<|zzb dI N;clear wA dI N mn rU o6;go_wp2_with fail;refine fE.mono ?_;clear fE
  rintro e w2 ⟨rfl,bH⟩;have r2:=(bH.block (nF w) wU dv).trans H0.2;obtain⟨x0,x1,x2,x3,x4,x5,x6,x7,x8,x9,xa,xb⟩:=mD r2;have Y:=XU.out w2;have H2:=ah<|H0.1.trans bH;clear bH r2 y0 y1 y2 y3 y4 y5 y6 y7 y8 y9 ya yb;go_wp2_with fail;refine Y.mono ?_;clear Y x0 x1 x2 x3 x4 x5 x6 x7 x8 x9 xa xb;rintro e f ⟨rfl,fu⟩;obtain⟨g,L⟩:∃g,g=f.alloc (.cells (mf s q m r u x y A C D z .nilIface) 249):=⟨_,rfl⟩;have iI:Fr [] w g:=by rw[L];exact(H2.out.trans fu).alloc _
  have V:g.heap[nF f]?=some (.cells (mf s q m r u x y A C D z .nilIface) 249 (0,0)):=by rw[L];exact oz f _
  have nb:=(zza.1 V).1;have H:=ah<|zzb iI V;clear iI V fu;go_wp2;rw[<-L];clear L;obtain⟨d0,d1,d2,d3,d4,d5,d6,d7,d8,d9,da,db⟩:=mD H.2;have u1:=(zze (a:=⟨p,1,none⟩)<|(H.1).block p M.1 dv).trans c1;obtain⟨O,GB,yo,l⟩:=z_.out g.drew n (HI.out.new (H.1).drew) eE
  have a8:¬(nF f)=d:=by
   intro e;obtain⟨es,cc,E⟩:=(HI.out.new<|H.1).aD.isMap;rw[<-e,H.2]at E;cases E
  have r6:=(l.block (nF f) (zza.1<|H.2).1<|by simpa using a8).trans<|H.2;obtain⟨t0,t1,t2,t3,t4,t5,t6,t7,t8,t9,ta,tb⟩:=mD r6;have u6:=(zze (a:=⟨p,1,none⟩)<|l.block p (by have:=(H.1).size;show p<g.heap.size;omega)<|by simpa using M.2.2).trans u1;have sQ:Fr [d] g O:=⟨l.os,l.tape,l.output,l.size,l.block⟩;have H6:=ah (show a_ O B p i d (n+1) {c with aD:=dt c.aD t b}/\gQ p [p,d] w O from ⟨yo,gQ.trans (H.1.r M.1 dv dv)<|sQ.r (zzl M.1 H.1.size) (by simpa using M.2.2) dv⟩);clear yo l sQ r6
  go_region_held3 (λw'=>w'.cell? ⟨p,1,none⟩=some (.map<|some d)/\w'.cell? ⟨nF f,0,none⟩=some (.int .i64 (s:Int))/\w'.cell? ⟨nF f,1,none⟩=some (.int .u8 (q:Int))/\w'.cell? ⟨nF f,2,none⟩=some (.int .u8 (m:Int))/\w'.cell? ⟨nF f,3,none⟩=some (.int .u8 (r:Int))/\w'.cell? ⟨nF f,4,none⟩=some (.int .u8 (u:Int))/\w'.cell? ⟨nF f,5,none⟩=some (.int .u8 (x:Int))/\w'.cell? ⟨nF f,6,none⟩=some (.int .u8 (y:Int))/\w'.cell? ⟨nF f,7,none⟩=some (.int .u8 (A:Int))/\w'.cell? ⟨nF f,8,none⟩=some (.int .u8 (C:Int))/\w'.cell? ⟨nF f,9,none⟩=some (.int .u8 (D:Int))/\w'.cell? ⟨nF f,10,none⟩=some (.int .u64 (z:Int))/\w'.cell? ⟨nF f,11,none⟩=some (.nilIface))
   (simp[*])
   (fail)
  have U:=vH B p i d (n+1) t _ O H6.1 K dp;rw[a7.out]at U;go_wp2_with fail;refine U.mono ?_;clear U;rintro e w7 ⟨rfl,PH,lU⟩;have H7:=ah (show a_ w7 B p i d (n+11) (c.yq t k)/\gQ p [p,d] w w7 from ⟨by rw[show n+11=n+1+10 by omega];exact PH,gQ.trans H6.2 lU⟩);clear PH lU;go_wp2;go_ret;exact⟨rfl,H7.out⟩
theorem PJ(B p F f n t k v:Nat)(hv:v=2\/v=4)(hk:k<9)(c:bL)(w:nL)(h:a_ w B p F f n c)(O:t<2^64)(I:(c.tx t).aS=0)(V:(c.tx t).parts.getD k 0=1)(S:((c.tx t).parts.set k v).any nk=true)(hn:n+11<1000000000):
  Calls prog 135 #[gx p,.int .u64 (t:Int),.int .i64 (k:Int),.int .i64 (v:Int)] w λe w'=>e=.returned .nilIface/\a_ w' B p F f (n+1) {c with aD:=dt c.aD t {c.tx t with parts:=(c.tx t).parts.set k v}}/\gQ p [p,f] w w':=by
 have Z:=h.GA t;obtain⟨rv,ov,g1,_⟩:=h.ex;have c1:=af g1 1;simp at c1;have M:=h.jS;have GZ:=ox v dp;obtain⟨T,G⟩:∃T,T=c.tx t:=⟨_,rfl⟩;have rU:∀o,(Instr.lookup 192 (.map<|some f) (.int .u64 (t:Int)) false).run prog ((w.alloc o).drew)=.ok (lz T) ((w.alloc o).drew):=λo=>by rw[G];exact(h.new ((fU w).alloc o).drew).iQ O
 have mn:(Instr.lookup 192 (.map<|some f) (.int .u64 (t:Int)) false).run prog w.drew=.ok (lz T) w.drew:=by rw[G];exact(h.new (fU w).drew).iQ O
 rw[<-G]at Z V S I ⊢;clear G;have i0:¬(v:Int)=0:=dp;have j0:=oT.2 i0;have i3:¬(v:Int)=3:=dp;have j3:=oT.2 i3;obtain⟨d,i⟩:∃d:fQ,d={T with parts:=T.parts.set k v}:=⟨_,rfl⟩;have Q:d.Ok:=by rw[i];exact yn Z dp
 rw[<-i]at ⊢;have TA:T.parts.set k v=d.parts:=by rw[i]
 rw[TA]at S;have X:=λW=>vA T Z k hk W
 rw[V]at X;have Y:=λW=>sG T Z k v hk W
 rw[<-i]at Y;obtain⟨q,j,m,r,u,x,y,A,C,N⟩:=nine Q.1
 have J:lz d=.agg (mf T.state q j m r u x y A C T.since .nilIface):=by
  have e:d=⟨T.state,[q,j,m,r,u,x,y,A,C],T.since,0⟩:=by
   have e1:d.state=T.state:=by rw[i]
   have E:d.since=T.since:=by rw[i]
   have e3:d.aS=0:=by rw[i];exact I
   obtain⟨a1,a2,a3,a4⟩:=d;simp only at e1 E e3 N;rw[e1,E,e3,N]
  rw[e,bC,aT]
 rw[J]at Y
 have z_:=ah (λ(W:nL) (m':Nat) (h2:a_ W B p F f m' c) (Rg:m' < maxLen)=>(by
  obtain⟨g,nY,PE,rO⟩:=h2.aD.qV underlying192 Rg (k:=t) O (v:=d) Q;refine⟨g,?_,h2.lS (Fr.bI rO) PE dp,Fr.bI rO⟩;have e:(EX.ev d:Value)=lz d:=rfl;rw[e,J]at nY
  exact nY:∃g,(Instr.mapUpdate 192 (.map (some f)) (.int .u64 (t:Int)) (.agg (mf T.state q j m r u x y A C T.since .nilIface))).run prog W=.ok () g/\a_ g B p F f (m' + 1) {c with aD:=dt c.aD t d}/\Fr [f] W g))
 have TB:=ah λW=>tZ 181 nk E' Ao d Q W;rw[S,J]at TB;have XU:=ah Y;clear i N Y V;have Nw:=ah X;clear X J S TA;obtain⟨s,ps,z,qd⟩:=T
 change qd=0 at I
 subst I;obtain⟨p0,p1,p2,p3,p4,p5,p6,p7,p8,eG⟩:=nine Z.1
 change ps=_ at eG
 subst eG;rw[bC,aT]at mn Nw;simp only[bC,aT]at rU;have o6:∀o,(w.alloc o).cell? ⟨p,1,none⟩=some (.map<|some f):=λo=>(sR _ _ _ M.1).trans c1
 have HI:=ah h;clear h g1
 go_enter func135,ntmps135
 go_wp2
 go_cut [9,10]from 12 to 19 (λs9 Iy wx=>s9=.pointer (some ⟨w.heap.size,0,none⟩)/\Iy=.int .u8 (v:Int)/\wx=(w.alloc<|.cells (mf s p0 p1 p2 p3 p4 p5 p6 p7 p8 z .nilIface) 249).drew)
 case first=>
  go_region_held3 (λw'=>w'.cell? ⟨p,1,none⟩=some (.map<|some f))
   (first|exact o6 _|simp[*])
   (first|(go_at_call 197;refine(GZ _).mono ?_;rintro e w2 ⟨rfl,rfl⟩))
  all_goals
   (go_wp2_with fail
    go_meet
    case rel=>exact⟨rfl,rfl,rfl⟩)
 case rest=>
  obtain⟨rfl,rfl,U⟩:=hcut;have dI:Fr [] w wc:=by rw[U];exact((fU w).alloc _).drew
  have L:wc.heap[nF w]?=some (.cells (mf s p0 p1 p2 p3 p4 p5 p6 p7 p8 z .nilIface) 249 (0,0)):=by rw[U];exact oz w _
  obtain⟨y0,y1,y2,y3,y4,y5,y6,y7,y8,y9,ya,yb⟩:=mD L;have wU:=(zza.1 L).1;have fE:=Nw.out wc;have H0:=ah<|zzb dI L;clear U dI L mn rU o6;go_wp2_with fail;refine fE.mono ?_;clear fE
  rintro e w2 ⟨rfl,bH⟩;have r2:=(bH.block (nF w) wU dv).trans H0.2;obtain⟨x0,x1,x2,x3,x4,x5,x6,x7,x8,x9,xa,xb⟩:=mD r2;have Y:=XU.out w2;have H2:=ah<|H0.1.trans bH;clear bH r2 y0 y1 y2 y3 y4 y5 y6 y7 y8 y9 ya yb;go_wp2_with fail;refine Y.mono ?_;clear Y x0 x1 x2 x3 x4 x5 x6 x7 x8 x9 xa xb;rintro e b ⟨rfl,fu⟩;obtain⟨D,K⟩:∃D,D=b.alloc (.cells (mf s q j m r u x y A C z .nilIface) 249):=⟨_,rfl⟩;have iI:Fr [] w D:=by rw[K];exact(H2.out.trans fu).alloc _
  have P:D.heap[nF b]?=some (.cells (mf s q j m r u x y A C z .nilIface) 249 (0,0)):=by rw[K];exact oz b _
  have nb:=(zza.1 P).1;have H4:=ah<|zzb iI P;clear iI P fu;have Lv:=TB.out D;go_wp2_with fail;rw[<-K];clear K;refine Lv.mono ?_;clear Lv;rintro e g ⟨rfl,iR⟩;have H:=ah (zzb (H4.1.trans iR)<|(iR.block (nF b) nb dv).trans H4.2);clear iR;go_wp2;obtain⟨d0,d1,d2,d3,d4,d5,d6,d7,d8,d9,da,db⟩:=mD H.2;have u1:=(zze (a:=⟨p,1,none⟩)<|(H.1).block p M.1 dv).trans c1;obtain⟨R,GB,yo,l⟩:=z_.out g.drew n (HI.out.new (H.1).drew) eE
  have a7:¬(nF b)=f:=by
   intro e;obtain⟨es,cc,E⟩:=(HI.out.new<|H.1).aD.isMap;rw[<-e,H.2]at E;cases E
  have r6:=(l.block (nF b) (zza.1<|H.2).1<|by simpa using a7).trans<|H.2;obtain⟨t0,t1,t2,t3,t4,t5,t6,t7,t8,t9,ta,tb⟩:=mD r6;have u6:=(zze (a:=⟨p,1,none⟩)<|l.block p (by have:=(H.1).size;show p<g.heap.size;omega)<|by simpa using M.2.2).trans u1;have sQ:Fr [f] g R:=⟨l.os,l.tape,l.output,l.size,l.block⟩;have H6:=ah (show a_ R B p F f (n+1) {c with aD:=dt c.aD t d}/\gQ p [p,f] w R from ⟨yo,gQ.trans (H.1.r M.1 dv dv)<|sQ.r (zzl M.1 H.1.size) (by simpa using M.2.2) dv⟩);clear yo l sQ r6
  go_region_held3 (λw'=>w'.cell? ⟨p,1,none⟩=some (.map<|some f)/\w'.cell? ⟨nF b,0,none⟩=some (.int .i64 (s:Int))/\w'.cell? ⟨nF b,1,none⟩=some (.int .u8 (q:Int))/\w'.cell? ⟨nF b,2,none⟩=some (.int .u8 (j:Int))/\w'.cell? ⟨nF b,3,none⟩=some (.int .u8 (m:Int))/\w'.cell? ⟨nF b,4,none⟩=some (.int .u8 (r:Int))/\w'.cell? ⟨nF b,5,none⟩=some (.int .u8 (u:Int))/\w'.cell? ⟨nF b,6,none⟩=some (.int .u8 (x:Int))/\w'.cell? ⟨nF b,7,none⟩=some (.int .u8 (y:Int))/\w'.cell? ⟨nF b,8,none⟩=some (.int .u8 (A:Int))/\w'.cell? ⟨nF b,9,none⟩=some (.int .u8 (C:Int))/\w'.cell? ⟨nF b,10,none⟩=some (.int .u64 (z:Int))/\w'.cell? ⟨nF b,11,none⟩=some (.nilIface))
   (simp[*])
   (fail)
  go_wp2;go_ret;exact⟨rfl,H6.out⟩
theorem D0(B p lg f n t k v:Nat)(hv:v=2\/v=4)(hk:k<9)(c:bL)(w:nL)(h:a_ w B p lg f n c)(ht:t<2^64)(i:(c.tx t).aS=0)(L:(c.tx t).parts.getD k 0=1)(S:((c.tx t).parts.set k v).any nk=false)(J:Value)(P:nL->Prop)(D:∀W,Fr [] w W->Calls prog 201 #[gx p,.int .u64 (t:Int),lz {c.tx t with parts:=(c.tx t).parts.set k v}] W λe w'=>e=.returned J/\P w'):
  Calls prog 135 #[gx p,.int .u64 (t:Int),.int .i64 (k:Int),.int .i64 (v:Int)] w λe w'=>e=.returned J/\P w':=by
 have Z:=h.GA t;obtain⟨J,ov,g1,_⟩:=h.ex;have c1:=af g1 1;simp at c1;have dM:=h.jS;have GZ:=ox v dp;obtain⟨T,g⟩:∃T,T=c.tx t:=⟨_,rfl⟩;have rU:∀o,(Instr.lookup 192 (.map<|some f) (.int .u64 (t:Int)) false).run prog ((w.alloc o).drew)=.ok (lz T) ((w.alloc o).drew):=λo=>by rw[g];exact(h.new ((fU w).alloc o).drew).iQ ht
 have mn:(Instr.lookup 192 (.map<|some f) (.int .u64 (t:Int)) false).run prog w.drew=.ok (lz T) w.drew:=by rw[g];exact(h.new (fU w).drew).iQ ht
 rw[<-g]at Z L S D i;clear g;have i0:¬(v:Int)=0:=dp;have j0:=oT.2 i0;have i3:¬(v:Int)=3:=dp;have j3:=oT.2 i3;obtain⟨a,b⟩:∃a:fQ,a={T with parts:=T.parts.set k v}:=⟨_,rfl⟩;have uE:a.Ok:=by rw[b];exact yn Z dp
 rw[<-b]at D;have U:T.parts.set k v=a.parts:=by rw[b]
 rw[U]at S;have X:=λW=>vA T Z k hk W
 rw[L]at X;have Y:=λW=>sG T Z k v hk W
 rw[<-b]at Y;obtain⟨q,l,m,r,u,x,y,A,C,H⟩:=nine uE.1
 have G:lz a=.agg (mf T.state q l m r u x y A C T.since .nilIface):=by
  have e:a=⟨T.state,[q,l,m,r,u,x,y,A,C],T.since,0⟩:=by
   have e1:a.state=T.state:=by rw[b]
   have e2:a.since=T.since:=by rw[b]
   have e3:a.aS=0:=by rw[b];exact i
   obtain⟨a1,a2,a3,a4⟩:=a;simp only at e1 e2 e3 H;rw[e1,e2,e3,H]
  rw[e,bC,aT]
 rw[G]at Y;have V:=ah λW=>tZ 181 nk E' Ao a uE W;rw[S,G]at V;rw[G]at D;have a7:=ah D;clear D;have XU:=ah Y;clear b H Y L;have R:=ah X;clear X G S U;obtain⟨s,ps,z,qd⟩:=T
 change qd=0 at i
 subst i;obtain⟨p0,p1,p2,p3,p4,p5,p6,p7,p8,eG⟩:=nine Z.1
 change ps=_ at eG
 subst eG;rw[bC,aT]at mn R;simp only[bC,aT]at rU;have o6:∀o,(w.alloc o).cell? ⟨p,1,none⟩=some (.map<|some f):=λo=>(sR _ _ _ dM.1).trans c1
 have HI:=ah h;clear h g1
 go_enter func135,ntmps135
 go_wp2
 go_cut [9,10]from 12 to 19 (λs9 Iy wx=>s9=.pointer (some ⟨w.heap.size,0,none⟩)/\Iy=.int .u8 (v:Int)/\wx=(w.alloc<|.cells (mf s p0 p1 p2 p3 p4 p5 p6 p7 p8 z .nilIface) 249).drew)
 case first=>
  go_region_held3 (λw'=>w'.cell? ⟨p,1,none⟩=some (.map<|some f))
   (first|exact o6 _|simp[*])
   (first|(go_at_call 197;refine(GZ _).mono ?_;rintro e w2 ⟨rfl,rfl⟩))
  all_goals
   (go_wp2_with fail
    go_meet
    case rel=>exact⟨rfl,rfl,rfl⟩)
 case rest=>
  obtain⟨rfl,rfl,K⟩:=hcut;have dI:Fr [] w wc:=by rw[K];exact((fU w).alloc _).drew
  have E:wc.heap[nF w]?=some (.cells (mf s p0 p1 p2 p3 p4 p5 p6 p7 p8 z .nilIface) 249 (0,0)):=by rw[K];exact oz w _
  obtain⟨y0,y1,y2,y3,y4,y5,y6,y7,y8,y9,ya,yb⟩:=mD E;have wU:=(zza.1 E).1;have fE:=R.out wc;have M:=ah<|zzb dI E;clear K dI E mn rU o6;go_wp2_with fail;refine fE.mono ?_;clear fE
  rintro e w2 ⟨rfl,bH⟩;have r2:=(bH.block (nF w) wU dv).trans M.2;obtain⟨x0,x1,x2,x3,x4,x5,x6,x7,x8,x9,xa,xb⟩:=mD r2;have Y:=XU.out w2;have H2:=ah<|M.1.trans bH;clear bH r2 y0 y1 y2 y3 y4 y5 y6 y7 y8 y9 ya yb;go_wp2_with fail;refine Y.mono ?_;clear Y x0 x1 x2 x3 x4 x5 x6 x7 x8 x9 xa xb;rintro e F ⟨rfl,fu⟩;obtain⟨d,j⟩:∃d,d=F.alloc (.cells (mf s q l m r u x y A C z .nilIface) 249):=⟨_,rfl⟩;have iI:Fr [] w d:=by rw[j];exact(H2.out.trans fu).alloc _
  have I:d.heap[nF F]?=some (.cells (mf s q l m r u x y A C z .nilIface) 249 (0,0)):=by rw[j];exact oz F _
  have nb:=(zza.1 I).1;have N:=ah<|zzb iI I;clear iI I fu;have Q:=V.out d;go_wp2_with fail;rw[<-j];clear j;refine Q.mono ?_;clear Q;rintro e w5 ⟨rfl,iR⟩;have O:=ah (zzb (N.1.trans iR)<|(iR.block (nF F) nb dv).trans N.2);clear iR;obtain⟨d0,d1,d2,d3,d4,d5,d6,d7,d8,d9,da,db⟩:=mD O.2;have D:=a7.out w5 O.1;go_wp2_with fail;refine D.mono ?_;clear D d0 d1 d2 d3 d4 d5 d6 d7 d8 d9 da db;rintro e w6 ⟨rfl,hp6⟩;have H6:=ah hp6;clear hp6;go_wp2;go_ret;exact⟨rfl,H6.out⟩
end
end Go.Proofs.YtlgeloebpdmnnaaGreatDoor
