import Derived.Test.YtlgeloebpdmnnaaGreatDoorC44
import Derived.Test.YtlgeloebpdmnnaaGreatDoorC29
import Derived.Stop.LaidErr
import Derived.Test.YtlgeloebpdmnnaaGreatDoorC18
import Derived.Test.YtlgeloebpdmnnaaGreatDoorTie
import Derived.Test.YtlgeloebpdmnnaaGreatDoorCards
set_option maxHeartbeats 16000000
set_option maxRecDepth 100000
namespace Go.Proofs.YtlgeloebpdmnnaaGreatDoor
open Go.RowKit Go.Maps Go.Proofs.Tryz Sc
section
open Go.Shelf
def tD [Inhabited Bs](w:nL)(a:kT):Prop:=∃zs:List Int,a.sx=zs.length/\yV w a.sa zs/\(zs=[]->(a.sa=none/\a.sy=0)\/∃d:Addr,a.sa=some d)
theorem zM:bG (λ_=>none) 1 [] where
 mark:=.inl ⟨rfl,rfl⟩
 pos:=zzc _
 ne:=dv
 files:=dv
 uG:=dv
 size:=dv
 gw:=dv
 fine:=by intro r a;simp at a
 other:=λnm h=>absurd rfl h
 dead:=λt h=>by cases h
 ve:=by rw[jB];omega
theorem MM:rL 0 1 0 (dP λ_=>none) [(⟨[],1,[],[]⟩:aP)] (λ_=>[]) 1 1 where
 one:=zzc _
 qs:=⟨λQ a=>by simp at a;rw[a];exact⟨List.Pairwise.nil,dv,dv⟩,λQ a p hp=>by simp at a;rw[a]at hp;exact absurd hp<|by simp[aP.ds]⟩
 EG:=dv
 lg:=⟨[⟨1,[]⟩],λs b=>by simp at b;rw[b];exact⟨⟨⟨[],1,[],[]⟩,dv,rfl⟩,dv,dv,dv⟩,rfl,DF.dP λu c=>absurd rfl c,zzc _,lr ⟨1,[],zM,.inr ⟨rfl,λnm h=>absurd rfl h⟩,⟨⟨⟨1,[]⟩,dv,yN kK kL⟩,zzc _,by rw[jB];exact zzc _⟩⟩⟩
def InS(a:kT):Prop:=a.eC<2^64/\-2^63<=a.nn/\a.nn<=9223372036854775807/\-2^63<=a.f1/\-2^63<=a.f2/\-2^63<=a.f4/\a.f4<=9223372036854775807
section
variable [Inhabited Bs]{I w w':nL}{hp p h E k:Nat}
theorem Af.from{a:nL}(b:Af a w hp p h E k)(hf:iw I a):Af I w hp p h E k:=by
 obtain⟨so,v,gc,s,u,m,l,c,d,e⟩:=b;exact⟨so,v,gc,s,u,m,l,c,hf.trans d,e⟩
theorem Af.new(c:Af I w hp p h E k)(hf:Fr [] w w'):Af I w' hp p h E k:=by
 obtain⟨so,v,gc,s,u,m,l,a,e,b,f⟩:=c;obtain⟨N,d,n,g⟩:=b.mg;exact⟨so,v,gc,s,u,m,l,a.new g hf,e.trans<|iw.new hf a.size,ku.new (o:=.on _ _ _ _ _) b hf,f⟩
theorem rY.Vy{so:AW}{s:List aP}{R:aP}{gc:Nat}{a u sk':Bool}(f:rY w hp p h so k s R gc a u)(j:a=true->sk'=true):rY w hp p h so k s R gc sk' u:=by
 obtain⟨b,g,T,m,N,c,l,d,H,M,m0,e,i,o⟩:=f;exact⟨b,g,T,m,N,c,l,d,H,M,m0,e,i,o.Vy j⟩
end
theorem JX [Inhabited Bs](v:Value)(L:List kT)(w:nL)(O_:w.heap.size=B0)(a':xC w v L)(eH:∀(i:Nat) (a:kT),L[i]?=some a->InS a/\tD w a)(nA:Gl w)(C:3<=(B0:Nat)):
  Calls prog 8 #[v,.bool true] w λe w'=>e=.returned (.bool true)/\Below B0 w w':=by
 have G:=QB v L w a';have Gv:Hid (xC w v L/\∀(i:Nat) (a:kT),L[i]?=some a->InS a/\tD w a):=⟨a',eH⟩;have T:=ah O_;obtain⟨hlen,ao,bY,rfl,hc⟩:=a';obtain⟨m,hm⟩:∃m,m=L.length:=⟨_,rfl⟩;rw[<-hm]at hlen G ⊢;have HM:Hid (m=L.length):=hm;have ad:=ah nA;clear hm hc eH nA O_;by_cases al:m+kU L<=16384
 .rw[zI al]at G;have bp:Hid (m+kU L<=16384):=al;have a8:=ah G;clear G al;by_cases bD:400<m
  .have d400:decide ((400:Int)<m)=true:=zI dp
   go_enter func8,ntmps8
   go_wp2_with fail;refine a8.out.mono ?_;rintro e w1 ⟨rfl,q,rfl⟩;go_wp2;go_ret;exact⟨rfl,(fU w).dE q |>.below (Nat.le_of_eq T.out.symm) dv⟩
  have d400:decide ((400:Int)<m)=false:=zY dp
  go_enter func8,ntmps8
  go_wp2_with fail;refine a8.out.mono ?_;rintro e w1 ⟨rfl,q,rfl⟩;have cY:Fr [] w (w.drewN q):=(fU w).dE q;have Ze:(w.drewN q).heap.size=B0:=by rw[<-T.out];simp
  have b3:=QC (w.drewN q) 1000 du;rw[Ze]at b3;have uL:Hid (iw w<|w.drewN q):=iw.new cY<|Nat.le_of_eq T.out.symm;clear cY;go_wp2_with fail;refine b3.mono ?_;clear b3;rintro e w2 ⟨hp,p,h,U,rfl,CB,qA,iN,dy⟩;have bH:Fr [] (w.drewN q) w2:=Fr.bE (by rw[<-Ze]at dy;exact dy) [];have CT:iw w w2:=uL.out.trans<|iw.new bH<|Nat.le_of_eq Ze.symm;have H2:Hid (ug w2 B0 3 hp p h U (dP λ_=>none) 1000/\iw w w2):=⟨⟨CB,_,_,_,qA⟩,CT⟩;clear CB qA dy bH CT Ze a8 uL;go_wp2_with fail;refine(xD w2).mono ?_;rintro e w3 ⟨rfl,iL⟩;have fu:Fr [] w2 w3:=Fr.bE iL _;have YD:=(H2.1.fresh fu).1;have aI:iw w w3:=H2.2.trans<|iw.new fu (H2.1.xq iN).1;have kN:=EJ (N:=1) (s:=⟨1,[]⟩) (mk:=1) (ss:=[]) YD ⟨1,[],zM,.inr ⟨rfl,λnm a'=>absurd rfl a'⟩,rfl,rfl⟩ (λu hu=>absurd rfl hu) (yN kK kL) (by rw[jB];exact zzc _) C iN (aI.gl C ad.out) dp dp;have H3:Hid (ug w3 B0 3 hp p h U (dP λ_=>none) 1000/\iw w w3):=⟨YD,aI⟩;clear fu iL YD aI H2;go_wp2_with fail;refine kN.mono ?_;clear kN;rintro e w4 ⟨rfl,cp,gp,bT,lp,x4,l4,d4,g1,g2,g3,g4,g5,g6⟩;have xE:oO w3 B0 hp p h U none (dP λ_=>none) 1000:=.inr ⟨rfl,H3.1⟩;have Yk:iw w w4:=H3.2.trans<|iw.vR xE iN g6;have V:=EH MM (s:=⟨1,[]⟩) du g1.1 g1.2 (Q:=⟨[],1,[],[]⟩) dv rfl g4 g5 g3 (yN kK kL) (by rw[jB];exact zzc _);have bz:x4.aH=1:=g1.1.lim
  have bf:dH 1 {x4 with next:=x4.aH} l4 d4 [(⟨[],1,[],[]⟩:aP)] ⟨[],1,[],[]⟩ 0 false false (λ_=>[]) 1 1:=⟨V.jd,by show x4.aH<=1+0;omega,V.pos,V.qs,V.rq,V.EG,V.Wu,V.lg⟩
  have uO:l4.recs.length<=mC 1:=by
   have e:=g4.recs;rw[e];exact zzs _
  have bb:rY w4 hp p h (cx cp bT lp w4) 1 [(⟨[],1,[],[]⟩:aP)] ⟨[],1,[],[]⟩ 0 false false:=⟨cp,gp,bT,lp,U,_,l4,d4,_,1,1,rfl,⟨g2.1,g2.2.fW (by unfold nC;omega) (by unfold nC;omega) uO⟩,bf⟩;have F:=cIs p hp true _ w4 g2.1;have R:=ah<|zzb bb Yk;clear g1 g2 g3 g4 g5 g6 xE Yk V bf bb H3 bz uO;go_wp2_with fail;refine F.mono ?_;clear F;rintro e w5 ⟨rfl,rfl⟩;obtain⟨av,b7⟩:∃av,av=cx cp bT lp w5:=⟨_,rfl⟩;rw[<-b7]at R;clear b7;have ZN:B0<=w5.heap.size:=by have:=R.2.below.size;rw[T.out]at this;exact this
  have CZ:=TP w5 ZN;go_wp2_with fail;refine CZ.mono ?_;rintro e P ⟨rfl,GB,il⟩;clear CZ;obtain⟨b,Uh⟩:∃b,b=w5.heap.size:=⟨_,rfl⟩;rw[<-Uh]at GB ⊢;obtain⟨E,an⟩:∃E,E=P.heap.size:=⟨_,rfl⟩;obtain⟨r,pE⟩:∃r,r=P.alloc (FZ hp b (.slice none 0 0) 0 false false):=⟨_,rfl⟩;have ax:r=P.alloc (.cells #[.pointer<|some ⟨hp,0,none⟩,.pointer<|some ⟨b,0,none⟩,.slice none 0 0,.int .u64 0,.bool false,.bool false] 59):=pE;have bu:B0<=P.heap.size:=zzk ZN il.size;have sQ:Fr [] P r:=by rw[pE];exact(fU P).alloc _
  have Zf:Fr [] w5 r:=il.trans sQ;have ay:gh r b [b] ⟨[],1,[],[]⟩:=GB.Ws sQ dv;have K6:nI r hp E (.slice none 0 0) 0 false false (b,⟨[],1,[],[]⟩,[b]) []:=⟨dp,by rw[pE,an];exact oz P _,λx hx=>by simp at hx;subst hx;exact ay,zzu _ _ _ _,dv⟩;obtain⟨bO,d5,n5,Of⟩:=R.1.mg
  have A6:JA r hp p E av (.slice none 0 0) 0 false false (b,⟨[],1,[],[]⟩,[b]) []:=⟨K6,λx hx k hk ho=>by
   simp at hx;subst hx;simp at hk
   exact Of.above (k:=k) dp ((Of.mW (tB.new ZN Zf)).2 k ho)⟩
  have O6:=ku.new (o:=.on _ _ _ _ _) R.1 Zf;have F6:=R.2.trans<|iw.new Zf ZN;have jY:=oq b [b] ⟨[],1,[],[]⟩ r ay dv dv dv dv;have y:=ah<|zzb A6<|zzb O6 F6;have O:=af K6.kb 1;simp at O;rw[ax]at O;clear A6 O6 F6 K6 pE bu GB ay il sQ Zf Uh ZN Of R;rw[an]at O;go_wp2_with fail;rw[<-ax,<-an];clear ax an O;refine jY.mono ?_;clear jY;rintro e D ⟨cq,SQ,rfl,CF,WU,lU⟩;obtain⟨bR,d6,n6,Q4⟩:=ku.mg y.2.1;have j:=y.1.new Q4 lU;have O7:=ku.new (o:=.on _ _ _ _ _) y.2.1 lU;have F7:=y.2.2.trans<|iw.new lU y.1.size;have bl:∀k∈SQ,¬jN hp p av D k:=λk hk ho=>Q4.above (WU k hk)<|(Q4.mW<|tB.new y.1.size lU).2 k ho
  obtain⟨bX,d7,n7,ba⟩:=ku.mg O7;have o_:E<D.heap.size:=(zza.1 j.mem.kb).1;have O:=af j.mem.kb 1;have k2:=af j.mem.kb 2;have f:=aq j.mem.kb 2;simp at O k2
  have M8:=j.mem.uH (cv':=.slice (some (gi D.heap.size)) 1 1) (cl':=[(cq,⟨[],1,[],[]⟩,SQ)]) (w2:=D.alloc (.cells #[nR (cq,⟨[],1,[],[]⟩,SQ)] 55)) ((Fr.refl _ D).alloc _) (JW j.mem.size) (λz n=>by simp at n;rw[n];exact CF) (zzA.2 ⟨λz n=>by
   simp at n;rw[n];refine .inr λk hk mL=>?_
   have h1:=WU k mL;have h2:=((y.1.mem.each _ dv).kinds hk).2.1
   omega,dv⟩)
  have L8:=j.mem.Ad (w2:=D.alloc<|.cells #[nR (cq,⟨[],1,[],[]⟩,SQ)] 55) (cv':=.slice (some (gi D.heap.size)) 1 1) []<|(Fr.refl _ D).alloc _
  have A8:=j.law ba M8 L8 (λz n=>by
   rcases zzj.1 n with rfl|n
   .exact j.free _ dv
   .simp at n;subst n;exact bl)
  have O8:=ku.mW O7 L8;have F8:=F7.trans<|iw.QW L8;rw[World.setCell_alloc_past _ _ _ _ o_]at A8 O8 F8;have lJ:=yX (x:=(b,⟨[],1,[],[]⟩,[b])) O8 A8.mem.kb A8.ref dp;have H8:Hid (Af w _ hp p h E 1):=⟨_,_,0,_,_,_,[(cq,⟨[],1,[],[]⟩,SQ)],A8,F8,O8,dp⟩;clear CF WU lU Q4 j O7 F7 bl ba M8 L8 A8 O8 F8 y;go_wp2_with fail;refine lJ.mono ?_;clear lJ;rintro e w9 ⟨rfl,OP⟩;have B:=ah<|H8.out.new OP;clear OP H8 O k2 f o_;go_wp2
  go_loopw [5,8,10] (λok is i wr=>∃(k:Nat) (c:Bool),k<=m/\ok=.bool true/\is=.bool c/\i=.int .i64 (k:Int)/\Hid (∃kk,kk<=3*k+1/\Af w wr hp p h E kk)) (λ_ _ i _=>m-(intOf i).toNat)
  case atStart=>exact⟨0,true,zzs _,rfl,rfl,rfl,1,dp,B.out⟩
  case round=>
   obtain⟨k,cz,bZ,rfl,rfl,rfl,HK⟩:=hrel;clear B;by_cases bW:k<m
   .obtain⟨a,ha⟩:∃a,L[k]?=some a:=⟨_,zzg<|by have:=HM.out;omega⟩;obtain⟨⟨_,bK,mz,e',oU⟩,bm⟩:=Gv.out;obtain⟨⟨b0,ca,rfl,mY,bg⟩,z1,z2,z3⟩:=oU k a ha
    cases e';rw[T.out]at mY;obtain⟨kk,qO,so,cv,gc,t,hu,mm,cl,hA,hF,hO,uU⟩:=HK.out;have bo:=bg.below hF.below mY;obtain⟨c0,c1,c2,c3,c4,c5,c6,c7,c8,c9,GK⟩:=bo;have cf:=Er L<|k+1;have CJ:=Es ha
    have X0:a.sx<=16384:=by
     have h1:=bp.out;have h2:a.wt=a.key.size+a.s.size+a.sx:=rfl;omega
    obtain⟨⟨r0,r1,r2,r3,r4,r5,r6⟩,b8⟩:=bm k a ha;have b6:=ah b8;have S:=ah<|zzb hA<|zzb hO hF;have bF:kk+3<10000:=dp
    clear bg oU hA hO hF HK bm ha z1 z2 z3 cf CJ b8;have i1:(k:Int)<m:=dp
    obtain⟨kd,eC,sq,nn,a7,s,sa,sx,sy,g,f,X,Z⟩:=a;simp only at c0 c1 c2 c3 c4 c5 c6 c7 c8 c9 GK r0 r1 r2 r3 r4 r5 r6 X0 b6;obtain⟨bx,k9⟩:∃bx,bx=wr.heap.size:=⟨_,rfl⟩;obtain⟨W,a1⟩:∃W,W=wr.alloc (qo kd eC sq nn a7 s sa sx sy g f X Z):=⟨_,rfl⟩;have gI:Fr [] wr W:=by rw[a1];exact(fU wr).alloc _
    have I:W.heap[bx]?=some (qo kd eC sq nn a7 s sa sx sy g f X Z):=by rw[a1,k9];exact oz wr _
    obtain⟨bq,da,na,aa⟩:=rY.mg S.2.1;have J:=S.1.new aa gI;have ag:=ku.new (o:=.on _ _ _ _ _) S.2.1 gI;have ae:iw w W:=S.2.2.trans<|iw.new gI S.1.size;have A:=ah<|zzb J<|zzb ag<|zzb ae I;have x0:=af I 0;simp at x0;clear aa S;by_cases qB:kd=1
    .subst qB
     have UU:Calls prog 24 #[.pointer<|some (gi E),Jp 1 eC sq nn a7 s sa sx sy g f X Z] W λe w'=>e=.returned (.bool true)/\Af W w' hp p h E (kk+2):=by
      obtain⟨cp,gp,bT,lp,U,c,l,d,H,M,m0,Rv,hh,ho⟩:=ag;subst Rv;exact VW 1 eC sx sy sq nn a7 s sa g f X Z J hh.mg ho.gone dp (by unfold nC;omega) (zzc _) C iN (ae.gl C ad.out) uU r1 r2 r3 r4 r5 r6
     clear gI I J ag ae x0;go_wp2_with fail;rw[<-a1];refine UU.mono ?_;clear UU a1;rintro e w8 ⟨rfl,hS⟩;have H8:=ah<|hS.from A.2.2.1;clear hS A c0 c1 c2 c3 c4 c5 c6 c7 c8 c9 GK;go_wp2
     go_roundw
     case rel=>exact⟨k+1,cz,dp,rfl,rfl,eR,kk+2,dp,H8.out⟩
     case measure=>simp[intOf];omega
    .have agt:(kd==1)=false:=by simpa using qB
     have bA:¬E=bx:=by intro e;have:=J.mem.kb;rw[e,I]at this;cases this
     have sA:¬bx=E:=λe=>bA e.symm
     have y3:=af J.mem.kb 4;have bt:=aq J.mem.kb 4;have x7:=af I 7;have x8:=af I 8;simp at y3 x7 x8;clear gI I J ag ae
     have th:t=true\/(t=false/\0<=g)\/(t=false/\¬0<=g/\0<=f)\/(t=false/\¬0<=g/\¬0<=f):=by
      cases t
      .by_cases q1:0<=g
       .exact .inr<|.inl ⟨rfl,q1⟩
       .by_cases q2:0<=f
        .exact .inr<|.inr<|.inl ⟨rfl,q1,q2⟩
        .exact .inr<|.inr<|.inr ⟨rfl,q1,q2⟩
      .exact .inl rfl
     obtain⟨b2,dy⟩:∃b2:Bool,(kd==2)=b2:=⟨_,rfl⟩;clear qB
     cases b2
     all_goals go_upto_region 21 with fail
     all_goals rw[<-a1,<-k9]
     all_goals clear a1 k9 c0 c1 c2 c3 c4 c5 c6 c7 c8 c9 GK x0 dy agt
     all_goals rcases th with hs|⟨hs,g1⟩|⟨hs,g1,g2⟩|⟨hs,g1,g2⟩
     all_goals rw[hs]at y3
     all_goals go_upto_region 22 with fail
     all_goals (
      obtain⟨sk',Hh⟩:∃sk':Bool,sk'=(t||decide (0<=g)||decide (0<=f)):=⟨_,rfl⟩;obtain⟨Wd,aX⟩:∃Wd,Wd=W.setCell ⟨E,4,none⟩ (.bool sk'):=⟨_,rfl⟩;have K:Wd=W.setCell (hP E 4) (.bool<|t||decide (0<=g)||decide (0<=f)):=by rw[aX,Hh]
      simp[hs]at K
      first
      |rw[<-K]
      |(simp[g1]at K;rw[<-K])
      |(simp[g1,g2]at K;rw[<-K])
      have b9:t=true->sk'=true:=λe=>by rw[Hh,e];simp
      have b':sk'=false->g<0/\f<0:=λe=>by
       rw[Hh]at e;simp at e;omega
      clear Hh K;obtain⟨bq,da,na,aa⟩:=rY.mg A.2.1;have Ld:=A.1.mem.mh [] 4<|.bool sk';have bc:=A.1.mem.set (w':=W.setCell (hP E 4)<|.bool sk') (gc':=gc) (sk':=sk') (hu':=hu) (Fr.cG dv _ _) (by have:=aF A.1.mem.kb 4<|.bool sk';simpa using this);have aE:=A.1.law aa bc Ld A.1.free;have aW:=rY.Vy (ku.mW (o:=.on _ _ _ _ _) A.2.1 Ld) b9;have ab:=A.2.2.1.trans<|iw.QW Ld;have Y:=(iw.QW Ld).step _ _ A.2.2.2;rw[<-aX]at aE aW ab Y;obtain⟨zs,b4,b5,V9⟩:=b6.out;simp only at b4 b5 V9;have Du:=Q9 hp p h E kk gc so cv sk' hu mm cl Wd kd sq nn g f X Z eC sx sy a7 s sa zs aE aW ⟨dp,C,iN,r5,r6,r3,r4,ab.gl C ad.out,b',r0⟩ uU r1 r2 (b5.below ab.below) V9 b4 dp;have s0:=af Y 0;have s1:=af Y 1;have s2:=af Y 2;have s3:=af Y 3;have s4:=af Y 4;have s5:=af Y 5;have s6:=af Y 6;have s7:=af Y 7;have s8:=af Y 8;have s9:=af Y 9;have Iy:=af Y 10;simp at s0 s1 s2 s3 s4 s5 s6 s7 s8 s9 Iy;have HD:=ah<|zzb ab Y;clear aa Ld bc aE aW ab Y aX b9 b' hs y3 bt x7 x8 A b4 b5 V9;go_wp2_with fail;refine Du.mono ?_;clear Du s0 s1 s2 s3 s4 s5 s6 s7 s8 s9 Iy;rintro e w9 ⟨rfl,so9,cv9,aeM,sk9,hu9,m9,cl9,o9,hA9,hF9,hO9,hoo,aeN⟩;rcases hoo with rfl|⟨rfl,rfl⟩
      .have F:Calls prog 13 #[.pointer<|some (gi hp)] w9 λe w'=>e=.returned (.bool true)/\w'=w9:=by
        obtain⟨cp,gp,bT,lp,U,c,l,d,H,M,m0,_,hh,_⟩:=hO9;exact cIs p hp true _ w9 hh.1
       have lJ:=yX hO9 hA9.mem.kb hA9.ref (by omega:kk+1<=10000);have b1:=af hA9.mem.kb 1;simp at b1;have B:Hid (Af w w9 hp p h E<|kk+1):=⟨so9,cv9,aeM,sk9,hu9,m9,cl9,hA9,HD.1.trans hF9,hO9,aeN⟩;clear hA9 hO9 hF9 HD;go_wp2_with fail;refine F.mono ?_;clear F;rintro e wX ⟨rfl,rfl⟩;go_wp2_with fail;refine lJ.mono ?_;clear lJ b1;rintro e wY ⟨rfl,hfY⟩;have HY:=ah<|B.out.new hfY;clear hfY B;go_wp2
       go_roundw
       .exact⟨k+1,true,dp,rfl,rfl,eR,kk+1,dp,HY.out⟩
       case measure=>simp[intOf];omega
      .obtain⟨rfl,bN9,d9,H9',M9,m09,hC9,hG9⟩:=hO9;have F:=cIs p hp false _ w9 hC9.blk;have aA:=HD.1.trans hF9;have h5:nC (kk+1) M9 m09-5<=nC (kk+1) M9 m09/\16*(kk+1)+1+1<=nC (kk+1) M9 m09-5:=by unfold nC;omega
       have UU:=VW kd eC sx sy sq nn a7 s sa g f X Z hA9 (.inr ⟨rfl,hC9⟩) hG9 dp h5.2 h5.1 C iN (aA.gl C ad.out) aeN r1 r2 r3 r4 r5 r6;have v3:=af hA9.mem.kb 4;have Y:=hF9.step _ _ HD.2;have s0:=af Y 0;have s1:=af Y 1;have s2:=af Y 2;have s3:=af Y 3;have s4:=af Y 4;have s5:=af Y 5;have s6:=af Y 6;have s7:=af Y 7;have s8:=af Y 8;have s9:=af Y 9;have Iy:=af Y 10;simp at v3 s0 s1 s2 s3 s4 s5 s6 s7 s8 s9 Iy;have B:=ah aA;clear hA9 hC9 hG9 hF9 aA Y HD;go_wp2_with fail;refine F.mono ?_;clear F;rintro e wX ⟨rfl,rfl⟩;go_wp2_with fail;refine UU.mono ?_;clear UU v3 s0 s1 s2 s3 s4 s5 s6 s7 s8 s9 Iy;rintro e wY ⟨rfl,hS⟩;have HY:=ah<|hS.from B.out;clear hS B;go_wp2
       go_roundw
       .exact⟨k+1,false,dp,rfl,rfl,eR,kk+3,dp,HY.out⟩
       .simp[intOf];omega)
   .go_wp2;go_ret;obtain⟨kk,qO,so,cv,gc,t,hu,mm,cl,hA,hF,hO,uU⟩:=HK.out;exact⟨rfl,hF.below⟩
 .rw[zY al]at G;have a8:=ah G;clear G
  go_enter func8,ntmps8
  go_wp2_with fail;refine a8.out.mono ?_;rintro e w1 ⟨rfl,q,rfl⟩;go_wp2;go_ret;exact⟨rfl,(fU w).dE q |>.below (Nat.le_of_eq T.out.symm) dv⟩
end
end Go.Proofs.YtlgeloebpdmnnaaGreatDoor
set_option maxHeartbeats 1000000
set_option maxRecDepth 100000
namespace Go.Proofs.YtlgeloebpdmnnaaGreatDoor
open Go.ChangeShapes Go.WideShapes Go.RowKit Go.Joins Go.Proofs.Tryz
open Go.ChangeMaps (setBlock shut_map_nil open_string shut_string keptBut_setBlock frozen?_setBlock heap_setBlock_same)
open Sc
abbrev Q_(b:Nat):Inhabited Bs:=⟨{ b:=b }⟩
theorem EN:Tryz.prog.cellsOf 40=11:=eu
theorem Ra:Tryz.prog.cellsOf 30=4:=eu
theorem tE:Tryz.prog.cellsOf 3=1:=eu
theorem Rb:Tryz.prog.cellsOf 34=1:=eu
theorem EO:Tryz.prog.cellsOf 9=1:=eu
theorem Rc:Tryz.prog.cellsOf 38=1:=eu
theorem Re:Tryz.prog.bytesOf 40=120:=eu
theorem ab2:Tryz.prog.bytesOf 3=8:=eu
theorem EP{cs:List Value}(h:cs.length=11):∃a b c d e f g i j k l,cs=[a,b,c,d,e,f,g,i,j,k,l]:=by
 match cs,h with
 |[a,b,c,d,e,f,g,i,j,k,l],_=>exact⟨a,b,c,d,e,f,g,i,j,k,l,rfl⟩
section
variable{H:Type}{enc:TypeId × Value->H}{P:Program}{w:nL}{base:Nat}{I:Nat->Bool}{E:Bool}
theorem Gq{t:TypeId}{f a b c d e g i:Field}{fuel:Nat}{cs:List Value}{x:DataW H×List MemPlace}(r:P.underlying t=some (.struct #[f,a,b,c,d,e,g,i]))(h:DataW.trod enc P w base I E fuel t cs=some x):
  ∃y j k l m o p q n,x.1=.agg [y.1,j.1,k.1,l.1,m.1,o.1,p.1,q.1]/\DataW.trod enc P w base I E n f.type ((cs.drop f.offset).take<|P.cellsOf f.type)=some y /\
   DataW.trod enc P w base I E n a.type ((cs.drop a.offset).take<|P.cellsOf a.type)=some j/\DataW.trod enc P w base I E n b.type ((cs.drop b.offset).take<|P.cellsOf b.type)=some k /\
   DataW.trod enc P w base I E n c.type ((cs.drop c.offset).take<|P.cellsOf c.type)=some l/\DataW.trod enc P w base I E n d.type ((cs.drop d.offset).take<|P.cellsOf d.type)=some m /\
   DataW.trod enc P w base I E n e.type ((cs.drop e.offset).take<|P.cellsOf e.type)=some o/\DataW.trod enc P w base I E n g.type ((cs.drop g.offset).take<|P.cellsOf g.type)=some p /\
   DataW.trod enc P w base I E n i.type ((cs.drop i.offset).take<|P.cellsOf i.type)=some q:=by
 obtain⟨xs,n,_,rfl,s,hlen,hf⟩:=DataW.trod_struct r h;match xs,hlen with
 |[y,j,k,l,m,o,p,q],_=>exact⟨y,j,k,l,m,o,p,q,n,dv,by simpa using hf 0 f rfl,by simpa using hf 1 a rfl,by simpa using hf 2 b rfl,by simpa using hf 3 c rfl,by simpa using hf 4 d rfl,by simpa using hf 5 e rfl,by simpa using hf 6 g rfl,by simpa using hf 7 i rfl⟩
theorem tF{e:TypeId}{d:DataW H}{k:Nat}:∀{l:List (DataW H)},d∈l->k∈d.weights P e->k∈DataW.weightsAll P e l
 |x::l,h,hk=>by
  obtain rfl|h:=zzj.1 h
  .simp[DataW.weightsAll,hk]
  .simp[DataW.weightsAll,tF h hk]
end
theorem Zh{a6:Addr}{len6:Nat}{W:nL}(hx:∀i,i<len6->∃z:Int,XV z/\W.cell? (a6.add i)=some (.int .i64 z)):∃zs:List Int,len6=zs.length/\@yV (Q_ W.heap.size) W (some a6) zs:=by
 have H:∀i,∃z:Int,i<len6->XV z/\W.cell? (a6.add i)=some (.int .i64 z):=λi=>by
  by_cases d:i<len6
  .obtain⟨z,h⟩:=hx i d;exact⟨z,λ_=>h⟩
  .exact⟨0,λh=>absurd h d⟩
 have⟨f,hf⟩:=Classical.skolem.1 H;refine⟨(List.range len6).map f,dv,λk z c=>?_⟩;have e:k<len6:=by simpa using (zzd.1 c).1
 rw[zzy,List.getElem?_range e]at c;cases c;have⟨j,a⟩:=hf k e;have⟨b,o,spot⟩:=a6;have V:spot=none:=by simpa [Addr.add]using World.cell?_spot (hf 0 dp).2
 subst V;have g:((hP b o):Addr).add k=(hP b (o+k)):=by
  unfold Addr.add;split
  .rename_i h0;subst h0;rfl
  .rfl
 rw[g]at a;exact⟨j,b,o,rfl,zzF W _ a,a⟩
theorem Rf{H:Type}{enc:TypeId×Value->H}{W:nL}{v:Value}{d:DataW H}{p:List MemPlace}(h:DataW.Trod enc prog W 0 (λ_=>true) true 22 v d p)(hv:∃a len ae,v=.slice a len ae)(G:(DataW.weightsEach prog [22] [d]).all (·<=reachBytes)=true):∃a1,xC W v a1/\∀(i:Nat) (a:kT),a1[i]?=some a->InS a/\@tD (Q_ W.heap.size) W a:=by
 obtain⟨a0,y,aa,rfl⟩:=hv;have⟨fuel,hf⟩:=h;rcases Deep.open_slice underlying22 hf with⟨t,_⟩|⟨L,bl,mz,m,n,D,Pl,t,_,hl,_,hm,hd,hx⟩
 .simp[Value.cells]at t;obtain⟨rfl,rfl,rfl⟩:=t;exact⟨[],⟨dv,none,0,rfl,dv⟩,dv⟩
 .simp[Value.cells]at t;obtain⟨rfl,rfl,rfl⟩:=t;simp only[if_true]at hm;have kR:d=.slice ((List.range y).map D) ((List.range<|m-y).map λj=>D<|y+j):=congrArg Prod.fst hd;have kP:=List.all_eq_true.1 G;have pB:reachBytes<=140737488355328:=by have:=reachBytes_lt;omega
  have b2:∀i,i<y->∀k∈(D i).weights prog 40,k<=140737488355328:=λi c k M=>by
   have:=kP k (by
    rw[kR];simp only[DataW.weightsEach,DataW.weights,underlying22,wo];exact Ds _ (List.mem_append_left _ (tF (zzq.2 ⟨i,List.mem_range.2 c,rfl⟩) M)))
   simp at this;omega
  have hlen:y<=281474976710656:=by
   have:=sized_slice (j:=0) G rfl (by rw[kR];rfl) underlying22;rw[Re]at this;simp at this;omega
  have b5:∀i,∃s:kT,i<y->(∃b o,(some L:Option Addr)=some ⟨b,o,none⟩/\b<W.heap.size/\og W b (o+i*11) s)/\s.key.size<=281474976710656/\s.s.size<=281474976710656/\s.sx<=281474976710656/\(InS s/\@tD (Q_ W.heap.size) W s):=λi=>by
   by_cases c:i<y
   .obtain⟨cs',h1,h2⟩:=hx i dp;rw[EN]at h1;have⟨_,dM,l⟩:=World.cells?_some h1;have⟨S,T,U,V,X,Y,Z,y7,n',hy,g0,g1,g2,g3,g4,g5,g6,g7⟩:=Gq underlying40 h2;obtain⟨v0,v1,v2,v3,v4,v5,v6,v7,v8,v9,a8,rfl⟩:=EP dM;have av:DataW.trod enc prog W 0 (λ_=>true) true n' 3 [v0]=some S:=by simpa [tE]using g0
    have ax:DataW.trod enc prog W 0 (λ_=>true) true n' 34 [v1]=some T:=by simpa [Rb]using g1
    have ay:DataW.trod enc prog W 0 (λ_=>true) true n' 3 [v2]=some U:=by simpa [tE]using g2
    have aA:DataW.trod enc prog W 0 (λ_=>true) true n' 3 [v3]=some V:=by simpa [tE]using g3
    have aE:DataW.trod enc prog W 0 (λ_=>true) true n' 9 [v4]=some X:=by simpa [EO]using g4
    have aI:DataW.trod enc prog W 0 (λ_=>true) true n' 9 [v5]=some Y:=by simpa [EO]using g5
    have aW:DataW.trod enc prog W 0 (λ_=>true) true n' 38 [v6]=some Z:=by simpa [Rc]using g6
    have aX:DataW.trod enc prog W 0 (λ_=>true) true n' 30 [v7,v8,v9,a8]=some y7:=by simpa [Ra]using g7
    have⟨q0,q1,q2,q3,I,_,_,r0,r1,r2,r3⟩:=trod_struct4 underlying30 aX;have b6:DataW.trod enc prog W 0 (λ_=>true) true I 3 [v7]=some q0:=by simpa [tE]using r0
    have b9:DataW.trod enc prog W 0 (λ_=>true) true I 3 [v8]=some q1:=by simpa [tE]using r1
    have b':DataW.trod enc prog W 0 (λ_=>true) true I 3 [v9]=some q2:=by simpa [tE]using r2
    have ba:DataW.trod enc prog W 0 (λ_=>true) true I 3 [a8]=some q3:=by simpa [tE]using r3
    have⟨x0,e0,_,_⟩:=DataW.trod_int underlying3 av;have⟨x1,E,_,bb⟩:=DataW.trod_int underlying34 ax;have⟨x2,F,_,_⟩:=DataW.trod_int underlying3 ay;have⟨P,e3,_,bc⟩:=DataW.trod_int underlying3 aA;have⟨Q,e4,an,_⟩:=DataW.trod_string underlying9 aE;have⟨R,e5,ao,_⟩:=DataW.trod_string underlying9 aI;have⟨x7,e7,_,bf⟩:=DataW.trod_int underlying3 b6;have⟨x8,e8,_,bg⟩:=DataW.trod_int underlying3 b9;have⟨x9,e9,_,_⟩:=DataW.trod_int underlying3 b';have⟨O,a7,_,ab⟩:=DataW.trod_int underlying3 ba;simp at e0 E F e3 e4 e5 e7 e8 e9 a7;subst e0 E F e3 e4 e5 e7 e8 e9 a7;have bx:=bounds_u64 bb;have b3:=bounds_i64 bc;have b7:=bounds_i64 bf;have b8:=bounds_i64 bg;have bo:=bounds_i64 ab;obtain⟨X1,rfl⟩:=Int.eq_ofNat_of_zero_le bx.1;have N:∀k∈DataW.weightsEach prog [3,34,3,3,9,9,38,30] [S.1,T.1,U.1,V.1,X.1,Y.1,Z.1,y7.1],k<=140737488355328:=λk M=>b2 i c k (by
     have b4:D i=.agg [S.1,T.1,U.1,V.1,X.1,Y.1,Z.1,y7.1]:=hy;rw[b4];simpa [DataW.weights,underlying40]using M)
    have s4:Q.size<=281474976710656:=by
     have:=N Q.data.toList.length (DataW.weights_mem_each (j:=4) rfl rfl _<|by rw[an];simp[DataW.weights]);simp at this;omega
    have s5:R.size<=281474976710656:=by
     have:=N R.data.toList.length (DataW.weights_mem_each (j:=5) rfl rfl _<|by rw[ao];simp[DataW.weights]);simp at this;omega
    have⟨q,x,J,al,s6,s7⟩:∃q x J,v6=.slice q x J/\x<=281474976710656/\∃zs:List Int,x=zs.length/\@yV (Q_ W.heap.size) W q zs/\(zs=[]->(q=none/\J=0)\/∃ad:Addr,q=some ad):=by
     rcases Deep.open_slice underlying38 aW with⟨r,_⟩|⟨a6,len6,bm,m6,n6,D6,P6,r,_,ZO,_,b1,b0,GH⟩
     .simp at r;exact⟨none,0,0,r,dp,[],rfl,(λk z G=>by simp at G),λ_=>.inl ⟨rfl,rfl⟩⟩
     .simp at r;refine⟨_,_,_,r,?_,?_⟩
      .have:=N (((List.range len6).map D6).length+((List.range (m6-len6)).map λj=>D6 (len6+j)).length |>.mul 8) (DataW.weights_mem_each (j:=6) rfl rfl _ (by
        rw[b0];simp[DataW.weights,underlying38,ab2]))
       simp at this;omega
      .simp only[if_true]at b1;obtain⟨zs,E,F⟩:=Zh (a6:=a6) (len6:=len6) λi c=>by
        obtain⟨ag,w1,w2⟩:=GH i dp;rw[tE]at w1;obtain⟨_,wl,wc⟩:=World.cells?_some w1
        match ag,wl with
        |[u],_=>
         obtain⟨z,ez,_,wz⟩:=DataW.trod_int underlying3 w2;simp at ez;subst ez;have g:=wc 0 dp;rw[Deep.add_add]at g;have bz:=bounds_i64 wz;exact⟨z,⟨dp,dp⟩,by simpa using g⟩
       exact⟨zs,E,F,λ_=>.inr ⟨_,rfl⟩⟩
    subst al;have⟨b,o,spot⟩:=L;have g:=l 0 dp;have c1:=l 1 dp;have c2:=l 2 dp;have c3:=l 3 dp;have c4:=l 4 dp;have c5:=l 5 dp;have w:=l 6 dp;have A:=l 7 dp;have B:=l 8 dp;have C:=l 9 dp;have K:=l 10 dp;rw[Deep.add_add]at g c1 c2 c3 c4 c5 w A B C K;have V2:spot=none:=by
     have⟨bp,z1,_⟩:=hx 0 dp;rw[EN]at z1;have⟨_,zl,zc⟩:=World.cells?_some z1;obtain⟨u0,u1,u2,u3,u4,u5,u6,u7,u8,u9,bq,rfl⟩:=EP zl;have z0:=zc 0 dp;rw[Deep.add_add]at z0;simpa [Addr.add]using World.cell?_spot z0
    subst V2;have ea:∀j,((⟨b,o,none⟩:Addr).add j)=⟨b,o+j,none⟩:=λj=>by
     unfold Addr.add;split
     .rename_i h0;subst h0;rfl
     .rfl
    rw[ea]at g c1 c2 c3 c4 c5 w A B C K;simp only[Nat.add_zero]at g;simp only[<-Nat.add_assoc]at c1 c2 c3 c4 c5 w A B C K;exact⟨⟨x0,X1,x2,P,Q,R,q,x,J,x7,x8,x9,O⟩,λ_=>⟨⟨b,o,rfl,zzF W _ g,g,c1,c2,c3,c4,c5,w,A,B,C,K⟩,s4,s5,s6,⟨by show X1<_;omega,by show _<=P;omega,by show P<=_;omega,by show _<=x7;omega,by show _<=x8;omega,by show _<=O;omega,by show O<=_;omega⟩,s7⟩⟩
   .exact⟨⟨0,0,0,0,ByteArray.empty,ByteArray.empty,none,0,0,0,0,0,0⟩,λh=>absurd h c⟩
  have⟨f,Np⟩:=Classical.skolem.1 b5;have fE:∀(i:Nat) (s:kT),((List.range y).map f)[i]?=some s->i<y/\s=f i:=λi s e=>by
   rw[zzy]at e;have c:i<y:=by
    have⟨j,hj,_⟩:=Option.map_eq_some_iff.1 e;have:=(zzd.1 hj).1;simpa using this
   rw[List.getElem?_range c]at e;simp at e;exact⟨c,e.symm⟩
  refine⟨(List.range y).map f,⟨by simpa using hlen,some L,aa,dv,λi s e=>?_⟩,λi s e=>?_⟩
  .obtain⟨c,rfl⟩:=fE i s e;have⟨k1,k2,k3,k4,_⟩:=Np i c;exact⟨k1,k2,k3,k4⟩
  .obtain⟨c,rfl⟩:=fE i s e;exact(Np i c).2.2.2.2
theorem gES:Tryz.prog.globalNamed "strconv.ErrSyntax"=some 2:=eu
theorem Zi:(Tryz.prog.globals[2]?).map (·.type)=some 74:=eu
theorem Zj:Tryz.prog.cellsOf 455=1:=eu
theorem V3:Tryz.prog.cellsOf 9=1:=eu
theorem V4: "*"++ "errors.errorString"= "*errors.errorString":=du
theorem aeR(u:TypeId)(h:Tryz.prog.typeName? 3 u=some "*errors.errorString"):u=453:=
 typeName_ptr_named (by rw[V4];kernel_rfl) eu du u (by rw[V4];exact h)
theorem Gr{W:nL}(h:laidMetH prog zN W):nZ W/\3<=W.heap.size:=by
 have a:=(vZ h).1.tail.tail.tail.tail;obtain⟨b,s,N,-,-,-⟩:=laid_sentinel a gES Zi underlying74 aeR underlying453 underlying455 rfl rfl underlying9 Zj V3;have c:=World.var?_cell gES N 0;simp at c;exact⟨⟨_,c,.inr ⟨_,_,rfl⟩⟩,zzF W _ c⟩
theorem Ag(v:Value)(L:List kT)(w:nL)(h:xC w v L)(H:∀(i:Nat) (a:kT),L[i]?=some a->InS a/\@tD (Q_ w.heap.size) w a)(A:Gl w)(B:3<=w.heap.size):
  Calls prog 5 #[v] w λe w'=>e=.returned (.bool true)/\Below w.heap.size w w':=by
 have C:Hid (Calls prog 8 #[v,.bool true] w λe w'=>e=.returned (.bool true)/\Below w.heap.size w w'):=@JX (Q_ (nF w)) v L w rfl h H A B;obtain⟨_,o,p,rfl,_⟩:=h;go_enter func5,ntmps5;go_wp2_with fail;refine C.out.mono ?_;rintro e b ⟨rfl,hb⟩;go_wp2;go_ret;exact⟨rfl,hb⟩
end Go.Proofs.YtlgeloebpdmnnaaGreatDoor
