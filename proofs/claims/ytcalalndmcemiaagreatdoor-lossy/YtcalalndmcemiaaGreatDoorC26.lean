import Derived.Test.YtcalalndmcemiaaGreatDoorC24
import Derived.Test.YtcalalndmcemiaaGreatDoorC22
set_option maxHeartbeats 8000000
set_option maxRecDepth 100000
namespace Go.Proofs.YtcalalndmcemiaaGreatDoor
open Go.RowKit Go.Maps Tryz Sc
section
open Go.Shelf
def aU.yP(c:aU)(t k:Nat):aU:={ c with ai:=aT c.ai t,res:=c.res++[(t,6)],out:=c.out++(dK u_ ((c.tx t).parts.set k 3)).map λk=>(t,k,6) }
theorem PT(B p lg b n t k v:Nat)(R:v=2\/v=3\/v=4)(O:k<9)(c:aU)(w:World)(h:bm w B p lg b n c)(l:t<18446744073709551616)(m:(c.tx t).parts.getD k 0≠1):
  Calls prog 250 #[.pointer<|some ⟨p,0,none⟩,.int .u64 (t:Int),.int .i64 (k:Int),.int .i64 (v:Int)] w λe w'=>e=.returned .nilIface/\Fr [] w w':=by
 have d:=h.J8 t;obtain⟨rv,ov,i,_⟩:=h.ex;have c1:=ae i 1;simp at c1;have N:=h.eY;have Y:=oG v R;obtain⟨T,a⟩:∃T,T=c.tx t:=⟨_,rfl⟩;have K:∀o,(Instr.lookup 118 (.map<|some b) (.int .u64 (t:Int)) false).run prog ((w.alloc o).drew)=.ok (kO T) ((w.alloc o).drew):=λo=>by rw[a];exact(h.new ((lT w).alloc o).drew).f_ l
 have D:(Instr.lookup 118 (.map<|some b) (.int .u64 (t:Int)) false).run prog w.drew=.ok (kO T) w.drew:=by rw[a];exact(h.new (lT w).drew).f_ l
 rw[<-a]at d m;clear a;have S:¬(v:Int)=0:=bL;have j0:=beq_eq_false_iff_ne.2 S;obtain⟨P,j⟩:∃P,P=T.parts.getD k 0:=⟨_,rfl⟩;have Q:=λW=>sH T d k O W
 rw[<-j]at m Q;clear j;have V:¬(P:Int)=1:=bL;have j1:=beq_eq_false_iff_ne.2 V;have U:=af Q;clear Q;obtain⟨s,ps,z⟩:=T;obtain⟨q,x,y,A,C,E,H,I,J,f⟩:=nine d.1
 change ps=_ at f
 subst f;rw[bE]at D U;simp only[bE]at K;have F:∀o,(w.alloc o).cell? ⟨p,1,none⟩=some (.map<|some b):=λo=>(World.cell?_alloc_lt _ _ _ N.1).trans c1
 have HI:=af h;clear h i
 go_enter func250,ntmps250
 go_wp2
 go_cut [9,10]from 12 to 19 (λZ X wx=>Z=.pointer (some ⟨w.heap.size,0,none⟩)/\X=.int .u8 (v:Int)/\wx=(w.alloc<|.cells #[.int .i64 (s:Int),.int .u8 (q:Int),.int .u8 (x:Int),.int .u8 (y:Int),.int .u8 (A:Int),.int .u8 (C:Int),.int .u8 (E:Int),.int .u8 (H:Int),.int .u8 (I:Int),.int .u8 (J:Int),.int .u64 (z:Int),.nilIface] 128).drew)
 case first=>
  go_region_held3 (λw'=>w'.cell? ⟨p,1,none⟩=some (.map<|some b))
   (first|exact F _|simp[*])
   (first|(go_at_call 278;refine(Y _).mono ?_;rintro e w2 ⟨rfl,rfl⟩))
  all_goals
   (go_wp2_with fail
    go_meet
    case rel=>exact⟨rfl,rfl,rfl⟩)
 case rest=>
  obtain⟨rfl,rfl,G⟩:=hcut;have u:Fr [] w wc:=by rw[G];exact((lT w).alloc _).drew
  have r:wc.heap[w.heap.size]?=some (.cells #[.int .i64 (s:Int),.int .u8 (q:Int),.int .u8 (x:Int),.int .u8 (y:Int),.int .u8 (A:Int),.int .u8 (C:Int),.int .u8 (E:Int),.int .u8 (H:Int),.int .u8 (I:Int),.int .u8 (J:Int),.int .u64 (z:Int),.nilIface] 128 (0,0)):=by rw[G];exact heap_alloc_new w _
  obtain⟨y0,y1,y2,y3,y4,y5,y6,y7,y8,y9,ya,yb⟩:=lH r;have Cv:=(zza.1 r).1;have g:=U.out wc;have L:=af<|zzb u r;clear G u r D K F;go_wp2_with fail;refine g.mono ?_;rintro e w2 ⟨rfl,aQ⟩;have M:=af<|L.1.trans aQ;clear aQ g
  go_wp2;go_ret;exact⟨rfl,M.out⟩
theorem To(B p lg b n t k v:Nat)(S:v=3)(hk:k<9)(c:aU)(w:World)(h:bm w B p lg b n c)(J:t<18446744073709551616)(Y:(c.tx t).parts.getD k 0=1)(hn:n+11<67108864):
  Calls prog 250 #[.pointer<|some ⟨p,0,none⟩,.int .u64 (t:Int),.int .i64 (k:Int),.int .i64 (v:Int)] w λe w'=>e=.returned .nilIface/\bm w' B p lg b (n+11) (c.yP t k)/\gm p [p,b] w w':=by
 have D:=h.J8 t
 have Q:Hid (∀d:fe,d={c.tx t with parts:=(c.tx t).parts.set k v}->({c with ai:=aV c.ai t d}:aU).jV t=c.yP t k):=by
  intro d G;unfold aU.jV aU.yP;rw[Ij,G,S,LQ]
 obtain⟨rv,ov,g1,_⟩:=h.ex;have c1:=ae g1 1;simp at c1;have N:=h.eY;have pL:=oG v<|.inr<|.inl S;obtain⟨T,I⟩:∃T,T=c.tx t:=⟨_,rfl⟩;have pE:∀o,(Instr.lookup 118 (.map<|some b) (.int .u64 (t:Int)) false).run prog ((w.alloc o).drew)=.ok (kO T) ((w.alloc o).drew):=λo=>by rw[I];exact(h.new ((lT w).alloc o).drew).f_ J
 have oD:(Instr.lookup 118 (.map<|some b) (.int .u64 (t:Int)) false).run prog w.drew=.ok (kO T) w.drew:=by rw[I];exact(h.new (lT w).drew).f_ J
 rw[<-I]at D Y Q;clear I;have i0:¬(v:Int)=0:=bL;have j0:=beq_eq_false_iff_ne.2 i0;obtain⟨d,y⟩:∃d:fe,d={T with parts:=T.parts.set k v}:=⟨_,rfl⟩;have rG:d.Ok:=by rw[y];exact vz D bL
 have R:=λW=>sH T D k hk W
 rw[Y]at R;have K:=λW=>qk T D k v hk W
 rw[<-y]at K;obtain⟨q,j,l,m,r,u,x,A,C,hq⟩:=nine rG.1
 have U:kO d=.agg #[.int .i64 (T.state:Int),.int .u8 (q:Int),.int .u8 (j:Int),.int .u8 (l:Int),.int .u8 (m:Int),.int .u8 (r:Int),.int .u8 (u:Int),.int .u8 (x:Int),.int .u8 (A:Int),.int .u8 (C:Int),.int .u64 (T.since:Int),.nilIface]:=by
  have e:d=⟨T.state,[q,j,l,m,r,u,x,A,C],T.since⟩:=by
   have e1:d.state=T.state:=by rw[y]
   have F:d.since=T.since:=by rw[y]
   rw[<-e1,<-F,<-hq]
  rw[e,bE]
 rw[U]at K
 have CQ:=af (λ(W:World) (m':Nat) (G:bm W B p lg b m' c) (tC:m' < maxLen)=>(by
  obtain⟨E,rU,zH,pB⟩:=G.ai.fA underlying118 tC (k:=t) J (v:=d) rG;refine⟨E,?_,G.fS (Fr.aF pB) zH bL,Fr.aF pB⟩;have e:(EX.ev d:Value)=kO d:=rfl;rw[e,U]at rU
  exact rU:∃E,(Instr.mapUpdate 118 (.map (some b)) (.int .u64 (t:Int)) (.agg #[.int .i64 (T.state:Int),.int .u8 (q:Int),.int .u8 (j:Int),.int .u8 (l:Int),.int .u8 (m:Int),.int .u8 (r:Int),.int .u8 (u:Int),.int .u8 (x:Int),.int .u8 (A:Int),.int .u8 (C:Int),.int .u64 (T.since:Int),.nilIface])).run prog W=.ok () E/\bm E B p lg b (m' + 1) {c with ai:=aV c.ai t d}/\Fr [b] W E))
 have a1:=af<|Q.out d y;have Tp:=af K;clear y hq K Y Q;have PU:=af R;clear R U;subst S;obtain⟨s,ps,z⟩:=T;obtain⟨p0,p1,p2,p3,p4,p5,p6,p7,p8,az⟩:=nine D.1
 change ps=_ at az
 subst az;rw[bE]at oD PU;simp only[bE]at pE;have Z:∀o,(w.alloc o).cell? ⟨p,1,none⟩=some (.map<|some b):=λo=>(World.cell?_alloc_lt _ _ _ N.1).trans c1
 have HI:=af h;clear h g1
 go_enter func250,ntmps250
 go_wp2
 go_cut [9,10]from 12 to 19 (λs9 XJ wx=>s9=.pointer (some ⟨w.heap.size,0,none⟩)/\XJ=.int .u8 3/\wx=(w.alloc<|.cells #[.int .i64 (s:Int),.int .u8 (p0:Int),.int .u8 (p1:Int),.int .u8 (p2:Int),.int .u8 (p3:Int),.int .u8 (p4:Int),.int .u8 (p5:Int),.int .u8 (p6:Int),.int .u8 (p7:Int),.int .u8 (p8:Int),.int .u64 (z:Int),.nilIface] 128).drew)
 case first=>
  go_region_held3 (λw'=>w'.cell? ⟨p,1,none⟩=some (.map<|some b))
   (first|exact Z _|simp[*])
   (first|(go_at_call 278;refine(pL _).mono ?_;rintro e w2 ⟨rfl,rfl⟩))
  all_goals
   (go_wp2_with fail
    go_meet
    case rel=>exact⟨rfl,rfl,rfl⟩)
 case rest=>
  obtain⟨rfl,rfl,P⟩:=hcut;have cu:Fr [] w wc:=by rw[P];exact((lT w).alloc _).drew
  have M:wc.heap[w.heap.size]?=some (.cells #[.int .i64 (s:Int),.int .u8 (p0:Int),.int .u8 (p1:Int),.int .u8 (p2:Int),.int .u8 (p3:Int),.int .u8 (p4:Int),.int .u8 (p5:Int),.int .u8 (p6:Int),.int .u8 (p7:Int),.int .u8 (p8:Int),.int .u64 (z:Int),.nilIface] 128 (0,0)):=by rw[P];exact heap_alloc_new w _
  obtain⟨y0,y1,y2,y3,y4,y5,y6,y7,y8,y9,ya,yb⟩:=lH M;have Cv:=(zza.1 M).1;have eW:=PU.out wc;have H0:=af<|zzb cu M;clear P cu M oD pE Z;go_wp2_with fail;refine eW.mono ?_;clear eW
  rintro e w2 ⟨rfl,aQ⟩;have r2:=(aQ.block w.heap.size Cv bR).trans H0.2;obtain⟨x0,x1,x2,x3,x4,x5,x6,x7,x8,x9,xa,xb⟩:=lH r2;have K:=Tp.out w2;have H2:=af<|H0.1.trans aQ;clear aQ r2 y0 y1 y2 y3 y4 y5 y6 y7 y8 y9 ya yb;go_wp2_with fail;refine K.mono ?_;clear K x0 x1 x2 x3 x4 x5 x6 x7 x8 x9 xa xb;rintro e f ⟨rfl,dz⟩;obtain⟨i,L⟩:∃i,i=f.alloc (.cells #[.int .i64 (s:Int),.int .u8 (q:Int),.int .u8 (j:Int),.int .u8 (l:Int),.int .u8 (m:Int),.int .u8 (r:Int),.int .u8 (u:Int),.int .u8 (x:Int),.int .u8 (A:Int),.int .u8 (C:Int),.int .u64 (z:Int),.nilIface] 128):=⟨_,rfl⟩;have fo:Fr [] w i:=by rw[L];exact(H2.out.trans dz).alloc _
  have V:i.heap[f.heap.size]?=some (.cells #[.int .i64 (s:Int),.int .u8 (q:Int),.int .u8 (j:Int),.int .u8 (l:Int),.int .u8 (m:Int),.int .u8 (r:Int),.int .u8 (u:Int),.int .u8 (x:Int),.int .u8 (A:Int),.int .u8 (C:Int),.int .u64 (z:Int),.nilIface] 128 (0,0)):=by rw[L];exact heap_alloc_new f _
  have iZ:=(zza.1 V).1;have H:=af<|zzb fo V;clear fo V dz;go_wp2;rw[<-L];clear L;obtain⟨d0,d1,d2,d3,d4,d5,d6,d7,d8,d9,da,db⟩:=lH H.2;have u1:=(zze (a:=⟨p,1,none⟩)<|(H.1).block p N.1 bR).trans c1;obtain⟨O,Xk,zI,g⟩:=CQ.out i.drew n (HI.out.new (H.1).drew) eA
  have a6:¬f.heap.size=b:=by
   intro e;obtain⟨es,cc,F⟩:=(HI.out.new<|H.1).ai.isMap;rw[<-e,H.2]at F;cases F
  have r6:=(g.block f.heap.size (zza.1<|H.2).1<|by simpa using a6).trans<|H.2;obtain⟨t0,t1,t2,t3,t4,t5,t6,t7,t8,t9,ta,tb⟩:=lH r6;have u6:=(zze (a:=⟨p,1,none⟩)<|g.block p (by have:=(H.1).size;show p<i.heap.size;omega)<|by simpa using N.2.2).trans u1;have vA:Fr [b] i O:=⟨g.os,g.tape,g.output,g.size,g.block⟩;have H6:=af (show bm O B p lg b (n+1) {c with ai:=aV c.ai t d}/\gm p [p,b] w O from ⟨zI,gm.trans (H.1.r N.1 bR bR)<|vA.r (zzl N.1 H.1.size) (by simpa using N.2.2) bR⟩);clear zI g vA r6
  go_region_held3 (λw'=>w'.cell? ⟨p,1,none⟩=some (.map<|some b)/\w'.cell? ⟨f.heap.size,0,none⟩=some (.int .i64 (s:Int))/\w'.cell? ⟨f.heap.size,1,none⟩=some (.int .u8 (q:Int))/\w'.cell? ⟨f.heap.size,2,none⟩=some (.int .u8 (j:Int))/\w'.cell? ⟨f.heap.size,3,none⟩=some (.int .u8 (l:Int))/\w'.cell? ⟨f.heap.size,4,none⟩=some (.int .u8 (m:Int))/\w'.cell? ⟨f.heap.size,5,none⟩=some (.int .u8 (r:Int))/\w'.cell? ⟨f.heap.size,6,none⟩=some (.int .u8 (u:Int))/\w'.cell? ⟨f.heap.size,7,none⟩=some (.int .u8 (x:Int))/\w'.cell? ⟨f.heap.size,8,none⟩=some (.int .u8 (A:Int))/\w'.cell? ⟨f.heap.size,9,none⟩=some (.int .u8 (C:Int))/\w'.cell? ⟨f.heap.size,10,none⟩=some (.int .u64 (z:Int))/\w'.cell? ⟨f.heap.size,11,none⟩=some (.nilIface))
   (simp[*])
   (fail)
  have X:=sO B p lg b (n+1) t _ O H6.1 J bL;rw[a1.out]at X;go_wp2_with fail;refine X.mono ?_;clear X;rintro e w7 ⟨rfl,LR,fJ⟩;have H7:=af (show bm w7 B p lg b (n+11) (c.yP t k)/\gm p [p,b] w w7 from ⟨by rw[show n+11=n+1+10 by omega];exact LR,gm.trans H6.2 fJ⟩);clear LR fJ;go_wp2;go_ret;exact⟨rfl,H7.out⟩
theorem LS(B p lg d n t k v:Nat)(hv:v=2\/v=4)(hk:k<9)(c:aU)(w:World)(h:bm w B p lg d n c)(P:t<18446744073709551616)(U:(c.tx t).parts.getD k 0=1)(I:((c.tx t).parts.set k v).any l_=true)(hn:n+11<67108864):
  Calls prog 250 #[.pointer<|some ⟨p,0,none⟩,.int .u64 (t:Int),.int .i64 (k:Int),.int .i64 (v:Int)] w λe w'=>e=.returned .nilIface/\bm w' B p lg d (n+1) {c with ai:=aV c.ai t {c.tx t with parts:=(c.tx t).parts.set k v}}/\gm p [p,d] w w':=by
 have E:=h.J8 t;obtain⟨rv,ov,g1,_⟩:=h.ex;have c1:=ae g1 1;simp at c1;have N:=h.eY;have pL:=oG v bL;obtain⟨T,G⟩:∃T,T=c.tx t:=⟨_,rfl⟩;have pE:∀o,(Instr.lookup 118 (.map<|some d) (.int .u64 (t:Int)) false).run prog ((w.alloc o).drew)=.ok (kO T) ((w.alloc o).drew):=λo=>by rw[G];exact(h.new ((lT w).alloc o).drew).f_ P
 have oD:(Instr.lookup 118 (.map<|some d) (.int .u64 (t:Int)) false).run prog w.drew=.ok (kO T) w.drew:=by rw[G];exact(h.new (lT w).drew).f_ P
 rw[<-G]at E U I ⊢;clear G;have i0:¬(v:Int)=0:=bL;have j0:=beq_eq_false_iff_ne.2 i0;have i3:¬(v:Int)=3:=bL;have j3:=beq_eq_false_iff_ne.2 i3;obtain⟨f,y⟩:∃f:fe,f={T with parts:=T.parts.set k v}:=⟨_,rfl⟩;have S:f.Ok:=by rw[y];exact vz E bL
 rw[<-y]at ⊢;have PV:T.parts.set k v=f.parts:=by rw[y]
 rw[PV]at I;have O:=λW=>sH T E k hk W
 rw[U]at O;have K:=λW=>qk T E k v hk W
 rw[<-y]at K;obtain⟨q,j,l,m,r,u,x,A,C,hq⟩:=nine S.1
 have Q:kO f=.agg #[.int .i64 (T.state:Int),.int .u8 (q:Int),.int .u8 (j:Int),.int .u8 (l:Int),.int .u8 (m:Int),.int .u8 (r:Int),.int .u8 (u:Int),.int .u8 (x:Int),.int .u8 (A:Int),.int .u8 (C:Int),.int .u64 (T.since:Int),.nilIface]:=by
  have e:f=⟨T.state,[q,j,l,m,r,u,x,A,C],T.since⟩:=by
   have e1:f.state=T.state:=by rw[y]
   have F:f.since=T.since:=by rw[y]
   rw[<-e1,<-F,<-hq]
  rw[e,bE]
 rw[Q]at K
 have CQ:=af (λ(W:World) (m':Nat) (h2:bm W B p lg d m' c) (tC:m' < maxLen)=>(by
  obtain⟨g,rU,zH,pB⟩:=h2.ai.fA underlying118 tC (k:=t) P (v:=f) S;refine⟨g,?_,h2.fS (Fr.aF pB) zH bL,Fr.aF pB⟩;have e:(EX.ev f:Value)=kO f:=rfl;rw[e,Q]at rU
  exact rU:∃g,(Instr.mapUpdate 118 (.map (some d)) (.int .u64 (t:Int)) (.agg #[.int .i64 (T.state:Int),.int .u8 (q:Int),.int .u8 (j:Int),.int .u8 (l:Int),.int .u8 (m:Int),.int .u8 (r:Int),.int .u8 (u:Int),.int .u8 (x:Int),.int .u8 (A:Int),.int .u8 (C:Int),.int .u64 (T.since:Int),.nilIface])).run prog W=.ok () g/\bm g B p lg d (m' + 1) {c with ai:=aV c.ai t f}/\Fr [d] W g))
 have PW:=af λW=>q_ 68 l_ Cr xr f S W;rw[I,Q]at PW;have Tp:=af K;clear y hq K U;have PU:=af O;clear O Q I PV;obtain⟨s,ps,z⟩:=T;obtain⟨p0,p1,p2,p3,p4,p5,p6,p7,p8,az⟩:=nine E.1
 change ps=_ at az
 subst az;rw[bE]at oD PU;simp only[bE]at pE;have X:∀o,(w.alloc o).cell? ⟨p,1,none⟩=some (.map<|some d):=λo=>(World.cell?_alloc_lt _ _ _ N.1).trans c1
 have HI:=af h;clear h g1
 go_enter func250,ntmps250
 go_wp2
 go_cut [9,10]from 12 to 19 (λs9 XJ wx=>s9=.pointer (some ⟨w.heap.size,0,none⟩)/\XJ=.int .u8 (v:Int)/\wx=(w.alloc<|.cells #[.int .i64 (s:Int),.int .u8 (p0:Int),.int .u8 (p1:Int),.int .u8 (p2:Int),.int .u8 (p3:Int),.int .u8 (p4:Int),.int .u8 (p5:Int),.int .u8 (p6:Int),.int .u8 (p7:Int),.int .u8 (p8:Int),.int .u64 (z:Int),.nilIface] 128).drew)
 case first=>
  go_region_held3 (λw'=>w'.cell? ⟨p,1,none⟩=some (.map<|some d))
   (first|exact X _|simp[*])
   (first|(go_at_call 278;refine(pL _).mono ?_;rintro e w2 ⟨rfl,rfl⟩))
  all_goals
   (go_wp2_with fail
    go_meet
    case rel=>exact⟨rfl,rfl,rfl⟩)
 case rest=>
  obtain⟨rfl,rfl,M⟩:=hcut;have cu:Fr [] w wc:=by rw[M];exact((lT w).alloc _).drew
  have L:wc.heap[w.heap.size]?=some (.cells #[.int .i64 (s:Int),.int .u8 (p0:Int),.int .u8 (p1:Int),.int .u8 (p2:Int),.int .u8 (p3:Int),.int .u8 (p4:Int),.int .u8 (p5:Int),.int .u8 (p6:Int),.int .u8 (p7:Int),.int .u8 (p8:Int),.int .u64 (z:Int),.nilIface] 128 (0,0)):=by rw[M];exact heap_alloc_new w _
  obtain⟨y0,y1,y2,y3,y4,y5,y6,y7,y8,y9,ya,yb⟩:=lH L;have Cv:=(zza.1 L).1;have eW:=PU.out wc;have Y:=af<|zzb cu L;clear M cu L oD pE X;go_wp2_with fail;refine eW.mono ?_;clear eW
  rintro e w2 ⟨rfl,aQ⟩;have r2:=(aQ.block w.heap.size Cv bR).trans Y.2;obtain⟨x0,x1,x2,x3,x4,x5,x6,x7,x8,x9,xa,xb⟩:=lH r2;have K:=Tp.out w2;have H2:=af<|Y.1.trans aQ;clear aQ r2 y0 y1 y2 y3 y4 y5 y6 y7 y8 y9 ya yb;go_wp2_with fail;refine K.mono ?_;clear K x0 x1 x2 x3 x4 x5 x6 x7 x8 x9 xa xb;rintro e b ⟨rfl,dz⟩;obtain⟨D,J⟩:∃D,D=b.alloc (.cells #[.int .i64 (s:Int),.int .u8 (q:Int),.int .u8 (j:Int),.int .u8 (l:Int),.int .u8 (m:Int),.int .u8 (r:Int),.int .u8 (u:Int),.int .u8 (x:Int),.int .u8 (A:Int),.int .u8 (C:Int),.int .u64 (z:Int),.nilIface] 128):=⟨_,rfl⟩;have fo:Fr [] w D:=by rw[J];exact(H2.out.trans dz).alloc _
  have R:D.heap[b.heap.size]?=some (.cells #[.int .i64 (s:Int),.int .u8 (q:Int),.int .u8 (j:Int),.int .u8 (l:Int),.int .u8 (m:Int),.int .u8 (r:Int),.int .u8 (u:Int),.int .u8 (x:Int),.int .u8 (A:Int),.int .u8 (C:Int),.int .u64 (z:Int),.nilIface] 128 (0,0)):=by rw[J];exact heap_alloc_new b _
  have iZ:=(zza.1 R).1;have Z:=af<|zzb fo R;clear fo R dz;have Ik:=PW.out D;go_wp2_with fail;rw[<-J];clear J;refine Ik.mono ?_;clear Ik;rintro e g ⟨rfl,cO⟩;have H:=af (zzb (Z.1.trans cO)<|(cO.block b.heap.size iZ bR).trans Z.2);clear cO;go_wp2;obtain⟨d0,d1,d2,d3,d4,d5,d6,d7,d8,d9,da,db⟩:=lH H.2;have u1:=(zze (a:=⟨p,1,none⟩)<|(H.1).block p N.1 bR).trans c1;obtain⟨V,Xk,zI,i⟩:=CQ.out g.drew n (HI.out.new (H.1).drew) eA
  have a1:¬b.heap.size=d:=by
   intro e;obtain⟨es,cc,F⟩:=(HI.out.new<|H.1).ai.isMap;rw[<-e,H.2]at F;cases F
  have r6:=(i.block b.heap.size (zza.1<|H.2).1<|by simpa using a1).trans<|H.2;obtain⟨t0,t1,t2,t3,t4,t5,t6,t7,t8,t9,ta,tb⟩:=lH r6;have u6:=(zze (a:=⟨p,1,none⟩)<|i.block p (by have:=(H.1).size;show p<g.heap.size;omega)<|by simpa using N.2.2).trans u1;have vA:Fr [d] g V:=⟨i.os,i.tape,i.output,i.size,i.block⟩;have H6:=af (show bm V B p lg d (n+1) {c with ai:=aV c.ai t f}/\gm p [p,d] w V from ⟨zI,gm.trans (H.1.r N.1 bR bR)<|vA.r (zzl N.1 H.1.size) (by simpa using N.2.2) bR⟩);clear zI i vA r6
  go_region_held3 (λw'=>w'.cell? ⟨p,1,none⟩=some (.map<|some d)/\w'.cell? ⟨b.heap.size,0,none⟩=some (.int .i64 (s:Int))/\w'.cell? ⟨b.heap.size,1,none⟩=some (.int .u8 (q:Int))/\w'.cell? ⟨b.heap.size,2,none⟩=some (.int .u8 (j:Int))/\w'.cell? ⟨b.heap.size,3,none⟩=some (.int .u8 (l:Int))/\w'.cell? ⟨b.heap.size,4,none⟩=some (.int .u8 (m:Int))/\w'.cell? ⟨b.heap.size,5,none⟩=some (.int .u8 (r:Int))/\w'.cell? ⟨b.heap.size,6,none⟩=some (.int .u8 (u:Int))/\w'.cell? ⟨b.heap.size,7,none⟩=some (.int .u8 (x:Int))/\w'.cell? ⟨b.heap.size,8,none⟩=some (.int .u8 (A:Int))/\w'.cell? ⟨b.heap.size,9,none⟩=some (.int .u8 (C:Int))/\w'.cell? ⟨b.heap.size,10,none⟩=some (.int .u64 (z:Int))/\w'.cell? ⟨b.heap.size,11,none⟩=some (.nilIface))
   (simp[*])
   (fail)
  go_wp2;go_ret;exact⟨rfl,H6.out⟩
theorem Bp(B p lg f n t k v:Nat)(hv:v=2\/v=4)(hk:k<9)(c:aU)(w:World)(h:bm w B p lg f n c)(ht:t<18446744073709551616)(I:(c.tx t).parts.getD k 0=1)(H:((c.tx t).parts.set k v).any l_=false)(P:World->Prop)(Y:∀W,Fr [] w W->Calls prog 282 #[.pointer<|some ⟨p,0,none⟩,.int .u64 (t:Int),kO {c.tx t with parts:=(c.tx t).parts.set k v}] W λe w'=>e=.returned .nilIface/\P w'):
  Calls prog 250 #[.pointer<|some ⟨p,0,none⟩,.int .u64 (t:Int),.int .i64 (k:Int),.int .i64 (v:Int)] w λe w'=>e=.returned .nilIface/\P w':=by
 have d:=h.J8 t;obtain⟨rv,ov,g1,_⟩:=h.ex;have c1:=ae g1 1;simp at c1;have eN:=h.eY;have pL:=oG v bL;obtain⟨T,g⟩:∃T,T=c.tx t:=⟨_,rfl⟩;have pE:∀o,(Instr.lookup 118 (.map<|some f) (.int .u64 (t:Int)) false).run prog ((w.alloc o).drew)=.ok (kO T) ((w.alloc o).drew):=λo=>by rw[g];exact(h.new ((lT w).alloc o).drew).f_ ht
 have oD:(Instr.lookup 118 (.map<|some f) (.int .u64 (t:Int)) false).run prog w.drew=.ok (kO T) w.drew:=by rw[g];exact(h.new (lT w).drew).f_ ht
 rw[<-g]at d I H Y;clear g;have i0:¬(v:Int)=0:=bL;have j0:=beq_eq_false_iff_ne.2 i0;have i3:¬(v:Int)=3:=bL;have j3:=beq_eq_false_iff_ne.2 i3;obtain⟨a,y⟩:∃a:fe,a={T with parts:=T.parts.set k v}:=⟨_,rfl⟩;have rG:a.Ok:=by rw[y];exact vz d bL
 rw[<-y]at Y;have V:T.parts.set k v=a.parts:=by rw[y]
 rw[V]at H;have E:=λW=>sH T d k hk W
 rw[I]at E;have K:=λW=>qk T d k v hk W
 rw[<-y]at K;obtain⟨q,i,j,l,m,r,u,x,A,hq⟩:=nine rG.1
 have Q:kO a=.agg #[.int .i64 (T.state:Int),.int .u8 (q:Int),.int .u8 (i:Int),.int .u8 (j:Int),.int .u8 (l:Int),.int .u8 (m:Int),.int .u8 (r:Int),.int .u8 (u:Int),.int .u8 (x:Int),.int .u8 (A:Int),.int .u64 (T.since:Int),.nilIface]:=by
  have e:a=⟨T.state,[q,i,j,l,m,r,u,x,A],T.since⟩:=by
   have e1:a.state=T.state:=by rw[y]
   have e2:a.since=T.since:=by rw[y]
   rw[<-e1,<-e2,<-hq]
  rw[e,bE]
 rw[Q]at K;have S:=af λW=>q_ 68 l_ Cr xr a rG W;rw[H,Q]at S;rw[Q]at Y;have a1:=af Y;clear Y;have Tp:=af K;clear y hq K I;have U:=af E;clear E Q H V;obtain⟨s,ps,z⟩:=T;obtain⟨p0,p1,p2,p3,p4,p5,p6,p7,p8,X⟩:=nine d.1
 change ps=_ at X
 subst X;rw[bE]at oD U;simp only[bE]at pE;have L:∀o,(w.alloc o).cell? ⟨p,1,none⟩=some (.map<|some f):=λo=>(World.cell?_alloc_lt _ _ _ eN.1).trans c1
 have HI:=af h;clear h g1
 go_enter func250,ntmps250
 go_wp2
 go_cut [9,10]from 12 to 19 (λs9 XJ wx=>s9=.pointer (some ⟨w.heap.size,0,none⟩)/\XJ=.int .u8 (v:Int)/\wx=(w.alloc<|.cells #[.int .i64 (s:Int),.int .u8 (p0:Int),.int .u8 (p1:Int),.int .u8 (p2:Int),.int .u8 (p3:Int),.int .u8 (p4:Int),.int .u8 (p5:Int),.int .u8 (p6:Int),.int .u8 (p7:Int),.int .u8 (p8:Int),.int .u64 (z:Int),.nilIface] 128).drew)
 case first=>
  go_region_held3 (λw'=>w'.cell? ⟨p,1,none⟩=some (.map<|some f))
   (first|exact L _|simp[*])
   (first|(go_at_call 278;refine(pL _).mono ?_;rintro e w2 ⟨rfl,rfl⟩))
  all_goals
   (go_wp2_with fail
    go_meet
    case rel=>exact⟨rfl,rfl,rfl⟩)
 case rest=>
  obtain⟨rfl,rfl,G⟩:=hcut;have Z:Fr [] w wc:=by rw[G];exact((lT w).alloc _).drew
  have C:wc.heap[w.heap.size]?=some (.cells #[.int .i64 (s:Int),.int .u8 (p0:Int),.int .u8 (p1:Int),.int .u8 (p2:Int),.int .u8 (p3:Int),.int .u8 (p4:Int),.int .u8 (p5:Int),.int .u8 (p6:Int),.int .u8 (p7:Int),.int .u8 (p8:Int),.int .u64 (z:Int),.nilIface] 128 (0,0)):=by rw[G];exact heap_alloc_new w _
  obtain⟨y0,y1,y2,y3,y4,y5,y6,y7,y8,y9,ya,yb⟩:=lH C;have Cv:=(zza.1 C).1;have eW:=U.out wc;have M:=af<|zzb Z C;clear G Z C oD pE L;go_wp2_with fail;refine eW.mono ?_;clear eW
  rintro e w2 ⟨rfl,aQ⟩;have r2:=(aQ.block w.heap.size Cv bR).trans M.2;obtain⟨x0,x1,x2,x3,x4,x5,x6,x7,x8,x9,xa,xb⟩:=lH r2;have K:=Tp.out w2;have H2:=af<|M.1.trans aQ;clear aQ r2 y0 y1 y2 y3 y4 y5 y6 y7 y8 y9 ya yb;go_wp2_with fail;refine K.mono ?_;clear K x0 x1 x2 x3 x4 x5 x6 x7 x8 x9 xa xb;rintro e D ⟨rfl,dz⟩;obtain⟨b,J⟩:∃b,b=D.alloc (.cells #[.int .i64 (s:Int),.int .u8 (q:Int),.int .u8 (i:Int),.int .u8 (j:Int),.int .u8 (l:Int),.int .u8 (m:Int),.int .u8 (r:Int),.int .u8 (u:Int),.int .u8 (x:Int),.int .u8 (A:Int),.int .u64 (z:Int),.nilIface] 128):=⟨_,rfl⟩;have fo:Fr [] w b:=by rw[J];exact(H2.out.trans dz).alloc _
  have F:b.heap[D.heap.size]?=some (.cells #[.int .i64 (s:Int),.int .u8 (q:Int),.int .u8 (i:Int),.int .u8 (j:Int),.int .u8 (l:Int),.int .u8 (m:Int),.int .u8 (r:Int),.int .u8 (u:Int),.int .u8 (x:Int),.int .u8 (A:Int),.int .u64 (z:Int),.nilIface] 128 (0,0)):=by rw[J];exact heap_alloc_new D _
  have iZ:=(zza.1 F).1;have N:=af<|zzb fo F;clear fo F dz;have R:=S.out b;go_wp2_with fail;rw[<-J];clear J;refine R.mono ?_;clear R;rintro e w5 ⟨rfl,cO⟩;have O:=af (zzb (N.1.trans cO)<|(cO.block D.heap.size iZ bR).trans N.2);clear cO;obtain⟨d0,d1,d2,d3,d4,d5,d6,d7,d8,d9,da,db⟩:=lH O.2;have Y:=a1.out w5 O.1;go_wp2_with fail;refine Y.mono ?_;clear Y d0 d1 d2 d3 d4 d5 d6 d7 d8 d9 da db;rintro e w6 ⟨rfl,hp6⟩;have H6:=af hp6;clear hp6;go_wp2;go_ret;exact⟨rfl,H6.out⟩
end
theorem ml(l:List Nat):(str l).data=(l.map λx=>UInt8.ofNat x).toArray:=by
 have a:∀(l:List Nat) (r:ByteArray),((l.map λx:Nat=>(x:Int)).foldl (λr n=>r.push (UInt8.ofNat n.toNat)) r).data=r.data++(l.map λx=>UInt8.ofNat x).toArray:=by
  intro l
  induction l with
  |nil=>intro r;simp
  |cons x l ih =>
   intro r;rw[List.map_cons,List.foldl_cons,ih];simp[ByteArray.push]
 unfold str;rw[a];simp
theorem kU{l:List Nat}(h:kE l):bytesOf (str l)=l:=by
 unfold bytesOf;rw[ml];simp only[List.map_map]
 have:∀(m:List Nat),kE m->m.map (UInt8.toNat ∘ λx=>UInt8.ofNat x)=m:=by
  intro m
  induction m with
  |nil=>intro _;rfl
  |cons x m ih =>
   intro hb;have b:x<256:=hb x (by simp);rw[List.map_cons,ih (λy a=>hb y (by simp[a]))];congr 1;simp;omega
 exact this l h
def XP(rs:List Rec):List Nat:=rs.flatMap λr=>bF r.oq r.kind r.nH
def abd(rs:List Rec):Prop:=∀(k:Nat) (r:Rec),rs[k]?=some r->r.oq=1+k/\r.kind<256/\r.nH.length<=255/\kE r.nH/\r.oq<18446744073709551616
end Go.Proofs.YtcalalndmcemiaaGreatDoor
