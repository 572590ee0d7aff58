import Derived.Test.YtdcafjmdfpjcbaaGreatDoorC51
set_option maxHeartbeats 16000000
set_option maxRecDepth 100000
namespace Go.Proofs.YtdcafjmdfpjcbaaGreatDoor
open Go.RowKit Go.Maps Tryz Sc
variable{us:List Nat}{a b bN h hp k n p:Nat}{v:Value}{w:World}
def ZL(b:Nat)(w:World)(hp p D a:Nat)(v:Value)(us:List Nat)(k:Nat)(e:Ending)(w':World):Prop :=
 e=.returned (.bool true)/\KF b w w'/\∃so c m M m0,KA b w' hp p a so c false false v m [m] us/\ny w' b hp p D so k [m.2.1] m.2.1 us false false M m0
theorem By{l:List cM}(h:w.ownsRow b 43 1 v l.length<|l.map lD):∃o c,v=.slice o l.length c/\∀(i:Nat) (x:cM),l[i]?=some x->∃g,o=some (dH g)/\w.cell? (d8 g i)=some (rM x.1):=by
 rcases h.2 with⟨e,d⟩|⟨g,p,r,e,rest⟩
 .grind
 .refine⟨some (dH g),p,e,λi x a=>⟨g,rfl,?_⟩⟩;exact fh h e<|by rw[zzy,a];rfl
theorem Hp{B:Nat}{e:TypeId}{x:Value}(h:B<=w.heap.size):(w.alloc<|.cells #[x] e).ownsRow B e 1 (.slice (some<|dH w.heap.size) 1 1) 1 [x]:=
 ⟨rfl,.inr ⟨_,1,#[x],rfl,h,heap_alloc_new w _,zzc _,by unfold maxLen;decide,rfl,rfl⟩⟩
def Mat(R0:aK)(x:cM):Prop:=R0.table=x.2.1.table/\R0.waiting=x.2.1.waiting
instance(R0:aK)(x:cM):Decidable (Mat R0 x):=by unfold Mat;exact inferInstance
def AgL(b:Nat)(t w:World)(hp p a r V T H f D bN m n k h:Nat)(s:ag)(l:aq)(d:ah)(q:Value)(g u:Bool)(v:Value)(e:List cM)(us:List Nat)(R0:aK)(so:Obj)(j:Nat)(o:Bool):Prop :=
 ∃c:cM,KA b w hp p k (some (f,[a,V,T,H])) q g u v c e us/\kz w b hp p a r V T H f D bN m n s l d/\KF b t w/\w.heap[h]?=some so/\(o=false->∀i x,e[i]?=some x->j<=i->¬Mat R0 x)/\(o=true->c.2.1=R0.rest)
def KOs(b:Nat)(w:World)(hp p D bN n c T mk:Nat)(ss:List Sg)(R0:aK)(w':World):Prop :=
 ∃a g V f H e s l d,Pp c T s R0.rest/\kz w' b hp p a g V f H e D bN (20*l.recs.length) (n+1) s l d/\d.down=false/\iR l d mk ss []/\iZ d.ai mk ss/\lA hp p none (some (e,[a,V,f,H])) w w'
theorem Dw{N c T mk:Nat}{ss:List Sg}{F:az}{R0:aK}(j:wH w b 2 hp p h bN (eI F) n)(P:Holds (λa s=>a=mk/\s=ss) F)(k:lB mk F)(L:vL c mk (chunks ss).flatten R0.rest)(m:aw mk ss<=N)(B:3<=b)(f:b<=hp)(g:Gl w)(hN:N+1<=n)(hn:n+(N-mk)+10<=1000000000):
  Calls prog 9 #[rM hp,fY (-1) (-1) 0 0] w λe w'=>e=.returned (.int .i64 0)/\KOs b w hp p h bN n c T mk ss R0 w':=by
 refine(xI T (cs:=[R0]) (M:=mk) (m0:=mk) (N:=N) (c:=c) (so:=none) (d:=eI F) (Q:=λa s=>a=mk/\s=ss) (.inr ⟨rfl,j⟩) (jS P) (DF.eI k) rfl (λa q i=>?_) (zzc _) B f g hN hn).mono ?_
 .obtain⟨rfl,rfl⟩:=i;exact⟨⟨R0,sE,L⟩,zzc _,m⟩
 .rintro e w' ⟨he,_,mk',fg,⟨rfl,rfl⟩,_,⟨_,sp,gp,bV,bT,bH,lp,s,l,d,R,hR,a1,a2,a3,a4,a5,a6,a7⟩|⟨h9,_⟩⟩
  .simp at hR;subst hR;refine⟨he,sp,gp,bV,bT,bH,lp,s,l,d,a1,?_,a3,a4,a5,a7⟩;rw[Nat.sub_self]at a2;exact a2
  .omega
theorem To{D k' M m0:Nat}{so:Option (Nat×List Nat)}{d:ah}{cv uv:Value}{sk hu:Bool}{m:cM}{cl:List cM}(kd:Int)(aM x y:Nat)(sq Z:Int)(a' sv:ByteArray)(ao:Option Addr)(f1 f2 f3 L:Int)
  (ab:KA b w hp p D so cv sk hu uv m cl us) (hh:nR w b hp p h bN so d n) (hg:qZ k d (cl.map (·.2.1)) us M m0) (kD:k<=k') (im:k'<=16384) (c6:fA k+1+1<=n) (qa:n+3<=nK k' M m0) (hB:3<=b) (fL:b<=hp) (kB:Gl w)
  (Cu:-2^63<=Z) (tD:Z<=9223372036854775807) (Cz:-2^63<=f1) (Mx:-2^63<=f2) (Di:-2^63<=L) (Dj:L<=9223372036854775807) :
  Calls prog 17 #[rM D,qX kd aM sq Z a' sv ao x y f1 f2 f3 L] w (ZL b w hp p h D uv us k'):=by
 have cK:=hg.le;have IJ:=oR im;have bR:=VZ kD;have Wf:n+2*(fA k+1-m0)+20<=1000000000:=by have:=hg.fl;unfold nK at qa;omega
 have⟨ay,hW⟩:=xY <|w.alloc (gI kd aM sq Z a' sv ao x y f1 f2 f3 L);have eU:Fr [] w ay:=by rw[hW];exact(lE w).alloc _
 have E:ay.heap[w.heap.size]?=some (gI kd aM sq Z a' sv ao x y f1 f2 f3 L):=by rw[hW];exact heap_alloc_new w _
 have A0:=ab.new hh eU;have⟨ad,_⟩:=hh.new eU;have F0:=KF.new ab.mem.size eU;have ZM:=(lE ay).drew;have AD:=A0.new ad ZM;have⟨al,_⟩:=ad.new ZM;have FD:=F0.trans<|KF.new A0.mem.size ZM;have GD:=FD.gl hB kB;have c0:=aa A0.mem.kb 0;have z0:=aa E 0;have z1:=aa E 1;have z2:=aa E 2;have z3:=aa E 3;have z4:=aa E 4;have z5:=aa E 5;have z6:=aa E 6;have z7:=aa E 7;have z8:=aa E 8;have z9:=aa E 9;have E8:=aa E 10;simp at c0 z0 z1 z2 z3 z4 z5 z6 z7 z8 z9 E8;have an:=E;have HI:=ae<|zzb AD<|zzb al<|zzb FD<|zzb GD an;have K:=ae hg;have UL:=ae kB;clear ab hh hg kB eU E A0 ad F0 ZM AD al FD GD an
 go_enter func17,ntmps17
 go_wp2_with fail;rw[<-hW];clear hW;have⟨B,iA⟩:=xY w.heap.size;rw[<-iA]at HI z0 z1 z2 z3 z4 z5 z6 z7 z8 z9 E8 ⊢;clear iA
 go_region_held3 (λw'=>w'.cell? ⟨D,0,none⟩=some (.pointer<|some ⟨hp,0,none⟩)/\w'.cell? ⟨B,0,none⟩=some (.int .i64 kd)/\w'.cell? ⟨B,1,none⟩=some (.int .u64 (aM:Int))/\w'.cell? ⟨B,2,none⟩=some (.int .i64 sq)/\w'.cell? ⟨B,3,none⟩=some (.int .i64 Z)/\w'.cell? ⟨B,4,none⟩=some (.string a')/\w'.cell? ⟨B,5,none⟩=some (.string sv)/\w'.cell? ⟨B,6,none⟩=some (.slice ao x y)/\w'.cell? ⟨B,7,none⟩=some (.int .i64 f1)/\w'.cell? ⟨B,8,none⟩=some (.int .i64 f2)/\w'.cell? ⟨B,9,none⟩=some (.int .i64 f3)/\w'.cell? ⟨B,10,none⟩=some (.int .i64 L))
  (simp[*])
  (first|(go_at_call 32;apply(Ha (20*k') kd aM x y sq Z a' sv ao f1 f2 f3 L HI.2.1 K.out.sure K.out.df K.out.up (λ_ _ ab=>ab) K.out.fl hB fL HI.2.2.2.1 c6 Wf Cu tD Cz Mx Di Dj).mono;rintro e w2 ⟨rfl,cU,u,Q,V,l,g,v,S,J,O,U,mk,ss,R0,a1,a2,a3,a4,a5,a6,a7,a8,a9,aX⟩;have W:=HI.1.host HI.2.1 aX;have F2:=KF.sL HI.2.1 fL aX;have F:=F2.step _ _ HI.2.2.2.2;have y0:=aa W.mem.kb 0;have y1:=aa F 0;have y2:=aa F 1;have y3:=aa F 2;have y4:=aa F 3;have y5:=aa F 4;have y6:=aa F 5;have y7:=aa F 6;have y8:=aa F 7;have y9:=aa F 8;have ak:=aa F 9;have c9:=aa F 10;simp at y0 y1 y2 y3 y4 y5 y6 y7 y8 y9 ak c9;have H:=ae<|zzb W<|zzb (HI.2.2.1.trans F2)<|zzb (F2.gl hB HI.2.2.2.1)<|zzb F<|zzb a1<|zzb a2<|zzb a3<|zzb a4<|zzb a5<|zzb a6<|zzb a7<|zzb a8 a9;clear a1 a2 a3 a4 a5 a6 a7 a8 a9 aX W F2 F cU))
 clear c0 z0 z1 z2 z3 z4 z5 z6 z7 z8 z9 E8 y1 y2 y3 y4 y5 y6 y7 y8 y9 ak c9 HI;have⟨⟨_,_⟩,cm,kJ⟩:=H.2.2.2.2.2.2.2.2.2.2.2.1;have kC:aV J.aS:=by have⟨_,_,_,h3,_⟩:=H.2.2.2.2.2.2.1.2.1.sh.aS;exact h3
 have bb:=H.2.2.2.2.2.1.all kC;have⟨xR,bL,bY⟩:=zzq.1 H.2.2.2.2.1;have bg:=(K.out.EO R0 H.2.2.2.2.1).rest;have⟨cg,cn,IZ⟩:=bb.Xq;have cd:=bg.table;have bl:kz w2 b hp p u Q V l g v h S (mK k) (n+2*(mk-m0)+2) J O U:=H.2.2.2.2.2.2.1.tight (by unfold mK;omega) (by unfold mK;omega) (by unfold mK;omega);have bq:=xO K.out kD bR H.2.2.2.2.1 H.2.2.2.2.2.1 kC H.2.2.2.2.2.2.2.2.1 H.2.2.2.2.2.2.2.2.2.1 H.2.2.2.2.2.2.2.1 H.2.2.2.2.2.2.2.2.2.2.1 kJ;have cA:m0<=mk:=H.2.2.2.2.2.2.2.2.2.2.2.2;have HO:=ae<|zzb bb<|zzb bg<|zzb bq<|zzb cm kJ;have ZN:=ae<|zzb bL bY;have⟨r,bc⟩:=xY <|n+2*(mk-m0)+2;rw[<-bc]at bl;have cS:mk<=fA k+1:=by have:=kJ;unfold aw at this;omega
 have c7:r+10+(fA k+1-mk)<=1000000000/\fA k+1+1<=r/\r+1<=nK k' mk mk:=by
  have k_:=K.out.fl;rw[bc];unfold nK at qa ⊢;refine⟨?_,?_,?_⟩<;>omega
 clear bc cg cn IZ cd bb bg bq kC bL bY c6 Wf qa;have⟨c8,c2,cr,_⟩:=By H.1.mem.iW;subst cr;have⟨nL,ba⟩:=xY cl.length;have k2:=aa H.1.mem.kb 2;simp at k2;have U3:Hid (AgL b w w2 hp p u Q V l g v h S (mK k) r D B J O U (.slice c8 cl.length c2) sk hu uv cl us R0 (gI kd aM sq Z a' sv ao x y f1 f2 f3 L) nL false):=⟨m,H.1,bl,H.2.1,H.2.2.2.1,λ_ i z G hi=>by have:=(zzd.1 G).1;omega,λab=>by cases ab⟩;rw[<-ba]at k2 U3;have wD:Hid (cl.length=nL):=ba.symm;have cB:nL<=16385:=by have:=K.out.Cm;rw[zzn]at this;omega
 clear bl ba;go_wp2
 go_loopw [5,6] (λcy iv wr=>∃(j:Nat) (o:Bool),j<=nL/\iv=.int .i64 ((j:Int)-1)/\cy=.bool o/\Hid (AgL b w wr hp p u Q V l g v h S (mK k) r D B J O U (.slice c8 nL c2) sk hu uv cl us R0 (gI kd aM sq Z a' sv ao x y f1 f2 f3 L) j o)) (λ_ i _=>(intOf i+1).toNat)
 case atStart=>exact⟨nL,false,zzc _,rfl,rfl,U3⟩
 case round=>
  obtain⟨j,o,hj,rfl,rfl,HL⟩:=hrel;clear U3 k2 y0
  cases o with
  |false=>
   obtain⟨q,rfl⟩:∃q,j=q+1:=by
    cases j with
    |succ q=>exact⟨q,rfl⟩
    |zero=>
     exfalso;have⟨Y,_,_,_,_,iB,_⟩:=HL.out;have⟨i,hi⟩:=zzB.1 ZN.1;exact iB rfl i xR hi (zzs _) ⟨by rw[ZN.2],by rw[ZN.2]⟩
   have ej:(((q+1:Nat):Int)-1)=(q:Int):=oE;rw[ej];have⟨Y,C,X1,F1,S1,iB,_⟩:=HL.out;have⟨f,b6⟩:∃f,cl[q]?=some f:=⟨_,zzg<|by rw[wD.out];omega⟩;have Xc:=zzh b6;have Hw:=C.mem.iW;rw[<-wD.out]at Hw;have⟨cE,c3,ct,ZO⟩:=By Hw
   cases ct;have⟨g3,cu,v3⟩:=ZO q f b6;subst cu;have k2:=aa C.mem.kb 2;simp at k2;have i0:(0:Int)<=q:=oE;have i1:(q:Int)<nL:=oE;have V2:Ck k f.2.1:=K.out.EO _<|zzq.2 ⟨f,Xc,rfl⟩;have Ku:=OK (C.mem.each f<|by simp[Xc]) (by have:=V2.len;omega) (λz G=>by have:=V2.four z G;omega) (by have:=V2.table;omega);have A:=ae<|zzb C<|zzb X1<|zzb F1<|zzb S1<|zzb iB<|zzb Xc<|zzb b6 V2;clear C X1 F1 S1 iB Xc b6 V2 Hw ZO;go_wp2_with fail;apply Ku.mono;clear Ku;rintro e w3 ⟨cp,S',rfl,Hy,dD,yS⟩;have tA:nR wr b hp p h S (some (v,[u,V,l,g])) U r:=.inl ⟨u,Q,V,l,g,v,_,J,O,rfl,A.2.1⟩;have A3:=A.1.new tA dD;have X3:=(A.2.1.new dD).1;have F3:=KF.new A.1.mem.size dD
   have pX:R0.rest.table=(f.2.1.rest).table->R0.rest.waiting=(f.2.1.rest).waiting->∀t,R0.rest.state t=(f.2.1.rest).state t:=λe1 e2 t=>by
    have:=(K.out.ku.anew (R0:=R0) (R:=f.2.1) (zzq.2 ⟨xR,ZN.1,ZN.2⟩) (zzq.2 ⟨f,A.2.2.2.2.2.1,rfl⟩) e1.symm<|by rw[g_,g_]at e2;exact e2.symm).1;rw[this]
   have ic:=Tn (x:=(cp,f.2.1.rest,S')) X3 A3.mem.kb Hy HO.1 oE (by unfold mK;omega) A.2.2.2.2.2.2.2.rest.len pX;have⟨o',wu⟩:=xY <|decide (R0.rest.table=(f.2.1.rest).table/\R0.rest.waiting=(f.2.1.rest).waiting);rw[<-wu]at ic
   have ca:Hid (o'=true↔Mat R0 f):=by
    rw[wu,decide_eq_true_iff,g_,g_];exact Iff.rfl
   have H3:=ae<|zzb A3<|zzb X3<|zzb F3<|zzb Hy yS;have cb:=ae pX;clear A3 X3 F3 Hy dD yS tA pX wu k2 v3 i0 i1;go_wp2_with fail;apply ic.mono;clear ic;rintro e w4 ⟨rfl,kN⟩;have KP:nR w3 b hp p h S (some (v,[u,V,l,g])) U r:=.inl ⟨u,Q,V,l,g,v,_,J,O,rfl,H3.2.1⟩;have I:=H3.1.new KP kN;have X4:=(H3.2.1.new kN).1;have F4:=H3.2.2.1.trans<|KF.new H3.1.mem.size kN;have R4:lC b w4 cp f.2.1.rest S':=H3.2.2.2.1.v_ kN (λk _ c=>by cases c) (λk c=>by cases c);have bF:nR w4 b hp p h S (some (v,[u,V,l,g])) U r:=.inl ⟨u,Q,V,l,g,v,_,J,O,rfl,X4⟩;have b1:=aa I.mem.kb 1;have bf:=au I.mem.kb 1;simp at b1
   have M5:=I.mem.OM (x:=(cp,f.2.1.rest,S')) R4 (λy hy=>.inr λk c gT=>by
    have h1:=(A.1.mem.each y<|by simp[hy]).lt gT;have h2:=H3.2.2.2.2 k c
    omega)
   have L5:=I.mem.pH [] 1<|.pointer<|some ⟨cp,0,none⟩;have A5:=I.law bF M5 L5;have X5:=(X4.jA L5 λk c=>by cases c).1;have F5:KF b wr _:=F4.trans<|KF.KO L5 λk c=>by cases c
   have H5:Hid (AgL b w (w4.setCell ⟨D,1,none⟩<|.pointer<|some ⟨cp,0,none⟩) hp p u Q V l g v h S (mK k) r D B J O U (.slice (some ⟨g3,0,none⟩) nL c2) sk hu uv cl us R0 (gI kd aM sq Z a' sv ao x y f1 f2 f3 L) q o'):=by
    refine⟨(cp,f.2.1.rest,S'),A5,X5,A.2.2.1.trans F5,F5.step _ _ A.2.2.2.1,λh0 i z G hi=>?_,λh1=>?_⟩
    .rcases Nat.lt_or_ge q i with hq|hq
     .exact A.2.2.2.2.1 (by first|rfl|trivial) i z G hq
     .have e1:i=q:=oE;subst e1;rw[A.2.2.2.2.2.2.1]at G
      cases G;exact λhm=>by rw[ca.2 hm]at h0;cases h0
    .have hm:=ca.1 h1;exact(K.out.ku.anew (R0:=R0) (R:=f.2.1) (zzq.2 ⟨xR,ZN.1,ZN.2⟩) (zzq.2 ⟨f,A.2.2.2.2.2.1,rfl⟩) hm.1.symm hm.2.symm).1
   clear I X4 F4 R4 KP bF M5 L5 A5 X5 F5 kN H3 cb;go_wp2
   go_roundw
   case rel=>exact⟨q,o',oE,nF,rfl,H5⟩
   case measure=>first|(simp[intOf];done)|(simp[intOf];omega)
  |true=>
   have⟨Y,C,X1,F1,S1,_,aC⟩:=HL.out;have aC:=aC rfl;have b1:=aa C.mem.kb 1;have b2:=aa C.mem.kb 2;have cc:=au C.mem.kb 2;simp at b1 b2;have mB:D<wr.heap.size:=(zza.1 C.mem.kb).1;have KQ:nR wr b hp p h S (some (v,[u,V,l,g])) U r:=.inl ⟨u,Q,V,l,g,v,_,J,O,rfl,X1⟩;have M2:=C.mem.sM (cv':=.slice (some ⟨wr.heap.size,0,none⟩) 1 1) (cl':=[Y]) (w2:=wr.alloc<|.cells #[lD Y] 43) ((Fr.refl _ wr).alloc _) (Hp C.mem.size) (λz G=>by simp at G;rw[G];exact C.mem.each Y sE) (zzA.2 ⟨λz G=>by simp at G;rw[G];exact .inl rfl,sE⟩);have L2:=C.mem.VW (w2:=wr.alloc<|.cells #[lD Y] 43) (cv':=.slice (some ⟨wr.heap.size,0,none⟩) 1 1) []<|(Fr.refl _ wr).alloc _;have W:=C.law KQ M2 L2;have X2:=(X1.jA L2 λk c=>by cases c).1;have F2:KF b wr _:=KF.KO L2 (λk c=>by cases c);have S2:=F2.step _ _ S1;have⟨b0,V3⟩:∃b0,b0=(wr.alloc<|.cells #[lD Y] 43).setCell ⟨D,2,none⟩ (.slice (some ⟨wr.heap.size,0,none⟩) 1 1):=⟨_,rfl⟩;rw[<-V3]at W X2 F2 S2;rw[World.setCell_alloc_past _ _ _ _ mB]at V3;have Xw:=ae<|zzb W<|zzb X2<|zzb (F1.trans F2)<|zzb S2 aC;have b3:=aa W.mem.kb 3;have b4:=aa W.mem.kb 4;have cq:=au W.mem.kb 3;have cx:=au W.mem.kb 4;simp at b3 b4;clear C X1 F1 S1 aC KQ M2 L2 W X2 F2 S2 HL;have mQ:¬(0:Int)<=j-1\/(0:Int)<=j-1:=oE
   obtain h_|h_:=mQ
   all_goals
    go_upto_region 14 with fail
    rw[show lD Y=Value.pointer (some ⟨Y.1,0,none⟩)from rfl]at V3;rw[<-V3];clear V3 b1 b2 cc mB h_
    go_upto_region 16 with fail
    have⟨aA,bo⟩:∃aA,aA=(b0.setCell ⟨D,3,none⟩<|.bool false).setCell ⟨D,4,none⟩ (.bool false):=⟨_,rfl⟩;rw[<-bo];have bz:nR b0 b hp p h S (some (v,[u,V,l,g])) U r:=.inl ⟨u,Q,V,l,g,v,_,J,O,rfl,Xw.2.1⟩;have L3:=Xw.1.mem.pH [] 3<|.bool false;have A3:=Xw.1.law bz (Xw.1.mem.MC false) L3;have X3:=(Xw.2.1.jA L3 λk c=>by cases c).1;have bP:nR _ b hp p h S (some (v,[u,V,l,g])) U r:=.inl ⟨u,Q,V,l,g,v,_,J,O,rfl,X3⟩;have L4:=A3.mem.pH [] 4<|.bool false;have I:=A3.law bP (A3.mem.EN false) L4;have X4:=(X3.jA L4 λk c=>by cases c).1;have F4:=(KF.KO L3 λk c=>by cases c).trans (KF.KO L4 λk c=>by cases c);rw[<-bo]at I X4 F4;have S4:=F4.step _ _ Xw.2.2.2.1;have b8:nR aA b hp p h S (some (v,[u,V,l,g])) U r:=.inl ⟨u,Q,V,l,g,v,_,J,O,rfl,X4⟩;have ZM:=(lE aA).drew;have AD:=I.new b8 ZM;have⟨al,_⟩:=b8.new ZM;have FD:KF b w aA.drew:=(Xw.2.2.1.trans F4).trans<|KF.new I.mem.size ZM;have an:=S4;have c0:=aa I.mem.kb 0;have z9:=aa S4 9;have E8:=aa S4 10;simp at c0 z9 E8;have A:=ae<|zzb AD<|zzb al<|zzb FD<|zzb (FD.gl hB UL.out)<|zzb an Xw.2.2.2.2;clear bo bz L3 A3 X3 bP L4 I X4 F4 S4 b8 ZM AD al FD an Xw b3 b4 cq cx
    go_region_held3 (λw'=>w'.cell? ⟨D,0,none⟩=some (.pointer<|some ⟨hp,0,none⟩)/\w'.cell? ⟨B,9,none⟩=some (.int .i64 f3)/\w'.cell? ⟨B,10,none⟩=some (.int .i64 L))
     (simp[*])
     (first|(go_at_call 33;apply(SM (P:=Holds λa s=>a=mk/\s=ss) f3 L A.2.1.any (H.2.2.2.2.2.2.2.2.1.SJ ⟨mk,ss,H.2.2.2.2.2.2.2.2.1.st,H.2.2.2.2.2.2.2.2.2.1,rfl,rfl⟩) H.2.2.2.2.2.2.2.2.1.floor Di Dj).mono;rintro e wB ⟨rfl,FB,bNB,hPB,hFB,hCB,hXB⟩;have AB:=A.1.host A.2.1 hXB;have KB:=KF.sL A.2.1 fL hXB;have b':=KB.step _ _ A.2.2.2.2.1;have y0:=aa AB.mem.kb 0;have y9:=aa b' 9;have ak:=aa b' 10;simp at y0 y9 ak;have HB:=ae<|zzb AB<|zzb hCB<|zzb (A.2.2.1.trans KB)<|zzb (KB.gl hB A.2.2.2.1)<|zzb A.2.2.2.2.2<|zzb hPB hFB;clear AB KB b' hPB hFB hCB hXB))
    clear c0 z9 E8 y9 ak A;go_wp2_with fail;have aE:=(lE wB).drew;have bu:nR wB b hp p h bNB none (eI FB) r:=.inr ⟨rfl,HB.2.1⟩;have FC:=KF.new HB.1.mem.size aE;have HC:=ae<|zzb (HB.1.new bu aE)<|zzb (HB.2.1.fresh aE).1<|zzb (HB.2.2.1.trans FC)<|zzb (FC.gl hB HB.2.2.2.1) HB.2.2.2.2;clear aE bu FC HB
    go_region_held3 (λw'=>w'.cell? ⟨D,0,none⟩=some (.pointer<|some ⟨hp,0,none⟩))
     (simp[*])
     (first
      |(go_at_call 10;apply(vY _).mono;rintro e wE ⟨rfl,hbE⟩;have b7:Fr [] wB.drew wE:=Fr.bw hbE [];have c':nR wB.drew b hp p h bNB none (eI FB) r:=.inr ⟨rfl,HC.2.1⟩;have AE:=HC.1.new c' b7;have CE:=(HC.2.1.fresh b7).1;have FE:KF b wB.drew wE:=KF.new HC.1.mem.size b7;have ad:=aa AE.mem.kb 0;simp at ad;have HE:=ae<|zzb AE<|zzb CE<|zzb (HC.2.2.1.trans FE)<|zzb (FE.gl hB HC.2.2.2.1) HC.2.2.2.2;clear hbE b7 c' AE CE FE)
      |(go_at_call 9;apply(Dw (T:=20*k') (N:=fA k+1) HE.2.1 HE.2.2.2.2.2.1 HE.2.2.2.2.2.2 H.2.2.2.2.2.2.2.2.2.2.1 HO.2.2.2.2 hB fL HE.2.2.2.1 c7.2.1 oE).mono;rintro e wG ⟨rfl,spG,gpG,bVG,bTG,bHG,lpG,sG,lG,dG,g1,g2,g3,g4,g5,g6⟩;have bp:nR wE b hp p h bNB none (eI FB) r:=.inr ⟨rfl,HE.2.1⟩;have AG:=HE.1.host bp g6;have FG:=KF.sL bp fL g6;have Z':=aa AG.mem.kb 0;simp at Z';have X:=ae (zzb AG (zzb (HE.2.2.1.trans FG) (zzb HE.2.2.2.2.1 (zzb g1 (zzb g2 (zzb g3 (zzb g4 g5)))))));clear bp AG FG g1 g2 g3 g4 g5 g6))
    have bO:aV sG.aS:=by have⟨_,_,_,h3,_⟩:=X.2.2.2.2.1.2.1.sh.aS;exact h3
    have bA:=xO K.out kD bR H.2.2.2.2.1 X.2.2.2.1 bO X.2.2.2.2.2.2.1 X.2.2.2.2.2.2.2 X.2.2.2.2.2.1 H.2.2.2.2.2.2.2.2.2.2.1 HO.2.2.2.2;have aI:=bA.host X.2.2.2.2.1 c7.2.2 im;rw[<-X.2.2.1]at aI;have ic:=xP aI X.1.mem.kb (X.1.mem.each Y sE) im;have bt:=ae aI;have g1:=aa X.1.mem.kb 1;simp at g1;clear bO bA aI HE HC y0 ad Z';go_wp2_with fail;apply ic.mono;clear ic g1;rintro e wZ ⟨rfl,hfZ⟩;have⟨cz,dZ,bX,_⟩:=bt.out.km;have ch:Hid (ZL b w hp p h D uv us k' (.returned<|.bool true) wZ):=⟨rfl,X.2.1.trans<|KF.new X.1.mem.size hfZ,_,_,Y,mk,mk,X.1.new bX hfZ,(bt.out.new hfZ).1⟩;clear hfZ bX;go_wp2;go_ret;exact ch.out
theorem yD:br (λ_=>none) 1 [] where
 mark:=.inl ⟨rfl,rfl⟩
 pos:=zzc _;ne:=sE;files:=sE;sJ:=sE;size:=sE;nk:=sE;fine:=by intro r a;simp at a
 other:=λnm h=>absurd rfl h
 dead:=λt h=>by cases h
 tz:=by rw[gX];omega
theorem V9:Ck 0 (⟨[],[]⟩:aK):=⟨λp hp=>by simp at hp,zzc _,sE,sE⟩
theorem K9:qZ 0 (eI λ_=>none) [(⟨[],[]⟩:aK)] [] 1 1 where
 EO:=λQ b=>by simp at b;rw[b];exact V9
 Cm:=sE;zt:=sE;up:=rfl;df:=DF.eI λu d=>absurd rfl d
 fl:=zzc _;ku:=⟨λR a t c=>by simp at a;subst a;exact absurd c<|by simp[aK.waiting],zq _⟩
 sure:=jS ⟨1,[],yD,.inr ⟨rfl,λnm h=>absurd rfl h⟩,⟨⟨⟨[],[]⟩,sE,AF 0⟩,zzc _,by rw[gX];exact zzc _⟩⟩
theorem Tr(b:Nat)(w:World)(B:b<=w.heap.size):@RS (oP b) (w.alloc<|vI (.slice none 0 0)<|.slice none 0 0) w.heap.size ⟨[],[]⟩:=
 ⟨.slice none 0 0,.slice none 0 0,[],@cX.mk (oP b) _ _ _ _ _ _ B (heap_alloc_new w _) (zzu _ _ _ _) (zzu _ _ _ _) sE sE rfl λk h=>trivial⟩
def InS(a:kj):Prop:=a.aM<2^64/\-2^63<=a.nn/\a.nn<=9223372036854775807/\-2^63<=a.f1/\-2^63<=a.f2/\-2^63<=a.f4/\a.f4<=9223372036854775807
theorem BA.new{g w':World}(n:BA b g w hp p h a k)(f:Fr [] w w'):BA b g w' hp p h a k:=by
 have⟨so,j,s,u,v,m,l,us,M,m0,c,e,i⟩:=n;have⟨bN,d,E,_⟩:=e.km;exact⟨so,j,s,u,v,m,l,us,M,m0,c.new E f,(e.new f).1,i.trans<|KF.new c.mem.size f⟩
theorem ZL.iF{c d:World}{e:Ending}(n:ZL b d hp p h a v us k e w)(g:KF b c d):e=.returned (.bool true)/\BA b c w hp p h a k:=by
 have⟨f,i,so,j,m,M,m0,l,o⟩:=n;exact⟨f,so,j,false,false,v,m,[m],us,M,m0,l,o,g.trans i⟩
theorem Hs(v:Value)(L:List kj)(w:World)(ab:zo w v L)(jc:∀(i:Nat) (a:kj),L[i]?=some a->InS a)(gH:Met w)(dF:dw w)(sK:mP w)(t:3<=w.heap.size):
  Calls prog 6 #[v,.bool true] w λe w'=>e=.returned (.bool true)/\Below w.heap.size w w':=by
 have O:=OE v L w ab;have M_:Hid (zo w v L/\∀(i:Nat) (a:kj),L[i]?=some a->InS a):=⟨ab,jc⟩;obtain⟨hlen,ao,cS,rfl,hc⟩:=ab;have⟨m,hm⟩:=xY L.length;rw[<-hm]at hlen O ⊢;have HM:Hid (m=L.length):=hm;have UL:Hid (Gl w):=⟨gH,dF,sK⟩;clear hm hc jc gH dF sK;by_cases ay:m+mX L<=16384
 .rw[decide_eq_true ay]at O;have cK:m<=16384:=oE;have ct:Hid (m+mX L<=16384):=ay;have ak:=ae O;clear O ay;go_enter func6,ntmps6;go_wp2_with fail;apply ak.out.mono;rintro e w1 ⟨rfl,q,rfl⟩;have bF:Fr [] w (w.drewN q):=(lE w).aR q;have Jk:(w.drewN q).heap.size=w.heap.size:=sE;have b3:=NS (w.drewN q) 1000 dN;rw[Jk]at b3;have lf:Hid (KF w.heap.size w<|w.drewN q):=KF.new (zzc _) bF;clear bF;go_wp2_with fail;apply b3.mono;clear b3;rintro e w2 ⟨hp,p,D,bN,rfl,BJ,ow,fL,X⟩;have cA:Fr [] (w.drewN q) w2:=Fr.bw (by rw[<-Jk]at X;exact X) [];have uS:KF w.heap.size w w2:=lf.out.trans<|KF.new (Nat.le_of_eq Jk.symm) cA;have H2:Hid (wH w2 w.heap.size 2 hp p D bN (eI λ_=>none) 1000/\KF w.heap.size w w2):=⟨⟨BJ,_,_,_,ow⟩,uS⟩;clear BJ ow X cA uS Jk ak lf;go_wp2_with fail;apply(vY w2).mono;rintro e w3 ⟨rfl,eV⟩;have dD:Fr [] w2 w3:=Fr.bw eV _;have Zi:=(H2.1.fresh dD).1;have b7:KF w.heap.size w w3:=H2.2.trans<|KF.new (H2.1.p_ fL).1 dD;have fB:=Dw (T:=0) (N:=1) (c:=0) (R0:=⟨[],[]⟩) (mk:=1) (ss:=[]) Zi ⟨1,[],yD,.inr ⟨rfl,λnm ab=>absurd rfl ab⟩,rfl,rfl⟩ (λu hu=>absurd rfl hu) (AF 0) (by rw[gX];exact zzc _) t fL (b7.gl t UL.out) oE oE;have H3:Hid (wH w3 w.heap.size 2 hp p D bN (eI λ_=>none) 1000/\KF w.heap.size w w3):=⟨Zi,b7⟩;clear dD eV Zi b7 H2;go_wp2_with fail;apply fB.mono;clear fB;rintro e w4 ⟨rfl,sp,gp,bV,bT,bH,lp,C,l4,d4,g1,g2,g3,g4,g5,g6⟩;have Ic:aV C.aS:=by have⟨_,_,_,h3,_⟩:=g2.2.1.sh.aS;exact h3
  have tA:nR w3 w.heap.size hp p D bN none (eI λ_=>none) 1000:=.inr ⟨rfl,H3.1⟩;have bo:KF w.heap.size w w4:=H3.2.trans<|KF.sL tA fL g6;have cd:fI 0 C l4 d4 [(⟨[],[]⟩:aK)] ⟨[],[]⟩ [] false false 1 1:=xO K9 (zzc 0) (zzc _) sE g1 Ic g4 g5 g3 (AF 0) (by rw[gX];exact zzc _);have bO:=cd.host g2 (by unfold nK fA;omega) oE;have Q:=sIs p hp true _ w4 g2.1;have H4:=ae<|zzb bO bo;clear g1 g2 g3 g4 g5 g6 Ic tA bo cd bO H3;go_wp2_with fail;apply Q.mono;clear Q;rintro e b ⟨rfl,rfl⟩;have⟨b',bt⟩:=xY <|some (lp,[sp,bV,bT,bH]);rw[<-bt]at H4;clear bt;have aE:w.heap.size<=b.heap.size:=H4.2.below.size;have⟨W,qG⟩:=xY <|(b.alloc<|vI (.slice none 0 0)<|.slice none 0 0).alloc (oQ hp b.heap.size (.slice none 0 0) false false<|.slice none 0 0);have bA:W=(b.alloc<|.cells #[.slice none 0 0,.slice none 0 0] 47).alloc (.cells #[.pointer<|some ⟨hp,0,none⟩,.pointer<|some ⟨b.heap.size,0,none⟩,.slice none 0 0,.bool false,.bool false,.slice none 0 0] 51):=qG;have kP:Fr [] b W:=by rw[qG];exact((lE b).alloc _).alloc _
  have⟨S0,Ih⟩:=RS.ad8<|Tr w.heap.size b aE;have Jp:lC w.heap.size W b.heap.size ⟨[],[]⟩ S0:=Ih.v_ (by rw[qG];exact(lE _).alloc _) (λk _ h=>by cases h) λk h=>by cases h
  have M5:jV w.heap.size W hp (b.heap.size+1) (.slice none 0 0) false false (.slice none 0 0) (b.heap.size,⟨[],[]⟩,S0) [] []:=by
   refine⟨oE,?_,λx hx=>?_,zzu _ _ _ _,sE,zzu _ _ _ _⟩
   .have:=heap_alloc_new (b.alloc<|vI (.slice none 0 0)<|.slice none 0 0)<|oQ hp b.heap.size (.slice none 0 0) false false<|.slice none 0 0;rw[zzv]at this;rw[qG];exact this
   .simp at hx;subst hx;exact Jp
  have A5:KA w.heap.size W hp p (b.heap.size+1) b' (.slice none 0 0) false false (.slice none 0 0) (b.heap.size,⟨[],[]⟩,S0) [] []:=⟨M5,λg hg=>by cases hg⟩;have bX:=(H4.1.new kP).1;have bl:KF w.heap.size w W:=H4.2.trans<|KF.new aE kP;have nJ:=ik Jp sE sE sE;have H:=ae<|zzb A5<|zzb bX bl;clear kP Ih Jp M5 A5 bX bl qG H4;go_wp2_with fail;rw[<-bA];have⟨mp,aA⟩:=xY b.heap.size;have⟨j,aX⟩:=xY <|b.heap.size+1;rw[<-aX,<-aA];rw[<-aX,<-aA]at H;rw[<-aA]at nJ;clear aX aA bA aE;apply nJ.mono;clear nJ;rintro e E ⟨cp,S6,rfl,Hy,oz,yS⟩;have⟨cC,d5,bp,_⟩:=H.2.1.km;have o:=H.1.new bp oz;have b6:=(H.2.1.new oz).1;have ca:KF w.heap.size w E:=H.2.2.trans<|KF.new H.1.mem.size oz;have⟨cE,d6,cc,_⟩:=b6.km;have mB:j<E.heap.size:=(zza.1 o.mem.kb).1;have k1:=aa o.mem.kb 1;have k2:=aa o.mem.kb 2;have f:=au o.mem.kb 2;simp at k1 k2;have M7:=o.mem.sM (cv':=.slice (some ⟨E.heap.size,0,none⟩) 1 1) (cl':=[(cp,⟨[],[]⟩,S6)]) (w2:=E.alloc<|.cells #[lD (cp,⟨[],[]⟩,S6)] 43) ((Fr.refl _ E).alloc _) (Hp o.mem.size) (λz hz=>by simp at hz;rw[hz];exact Hy) (zzA.2 ⟨λz hz=>by simp at hz;rw[hz];exact .inr<|(H.1.mem.each _ sE).apart yS,by simp⟩);have L7:=o.mem.VW (w2:=E.alloc<|.cells #[lD (cp,⟨[],[]⟩,S6)] 43) (cv':=.slice (some ⟨E.heap.size,0,none⟩) 1 1) []<|(Fr.refl _ E).alloc _
  have A7:=o.law cc M7 L7;have al:=b6.jA L7 (λk h=>by cases h);have b4:=ca.trans (KF.KO L7 λk h=>by cases h);rw[World.setCell_alloc_past _ _ _ _ mB]at A7 al b4;have ic:=xP (x:=(mp,⟨[],[]⟩,S0)) al A7.mem.kb (A7.mem.each _ (by simp)) oE;have H7:=ae<|zzb A7<|zzb al b4;clear Hy oz yS bp o b6 ca cc M7 L7 A7 al b4 H;go_wp2_with fail;apply ic.mono;clear ic;rintro e w8 ⟨rfl,NC⟩
  have H8:Hid (BA w.heap.size w w8 hp p D j 0):=by
   have h0:BA w.heap.size w _ hp p D j 0:=⟨_,_,_,_,_,_,[(cp,⟨[],[]⟩,S6)],_,_,_,H7.1,H7.2.1,H7.2.2⟩;exact h0.new NC
  clear NC H7 k1 k2 f mB;go_wp2;go_loopw [5,8,10] (λok is i wr=>∃(k:Nat) (c:Bool),k<=m/\ok=.bool true/\is=.bool c/\i=.int .i64 (k:Int)/\Hid (BA w.heap.size w wr hp p D j k)) (λ_ _ i _=>m-(intOf i).toNat);case atStart=>exact⟨0,true,zzs _,rfl,rfl,rfl,H8⟩
  case round=>
   obtain⟨k,cz,WA,rfl,rfl,rfl,HK⟩:=hrel;clear H8;by_cases bP:k<m
   .obtain⟨a,ha⟩:∃a,L[k]?=some a:=⟨_,zzg<|by have:=HM.out;omega⟩;have⟨⟨_,cx,fW,e',yK⟩,bz⟩:=M_.out;obtain⟨⟨b0,cy,rfl,nh,bq⟩,z1,z2,z3⟩:=yK k a ha
    cases e';have⟨so,cv,r,hu,uv,mm,cl,us,M,m0,hA,hO,hF⟩:=HK.out;have ZR:=bq.below hF.below nh;have⟨c0,c1,c2,c3,c4,c5,c6,c7,c8,c9,My⟩:=ZR;have cm:=Dg L<|k+1;have RJ:=Dh ha
    have TJ:a.key.size<=16384:=by
     have h1:=ct.out;have h2:a.wt=a.key.size+a.s.size+a.sx:=rfl;omega
    have⟨r0,r1,r2,r3,r4,r5,r6⟩:=bz k a ha;have V:=ae<|zzb hA<|zzb hO hF;have VU:k<16384:=oE
    clear bq yK hA hO hF HK bz ha z1 z2 z3 cm RJ;have i1:(k:Int)<m:=oE;have⟨kd,aM,sq,nn,a7,s,sa,sx,sy,n,f,f3,f4⟩:=a;simp only at c0 c1 c2 c3 c4 c5 c6 c7 c8 c9 My r0 r1 r2 r3 r4 r5 r6 TJ;have⟨bx,iA⟩:=xY wr.heap.size;have⟨J,K⟩:=xY <|wr.alloc (gI kd aM sq nn a7 s sa sx sy n f f3 f4);have yG:Fr [] wr J:=by rw[K];exact(lE wr).alloc _
    have I:J.heap[bx]?=some (gI kd aM sq nn a7 s sa sx sy n f f3 f4):=by rw[K,iA];exact heap_alloc_new wr _
    have⟨cu,da,a1,cn⟩:=V.2.1.km;have G:=V.1.new a1 yG;have an:=(V.2.1.new yG).1;have ad:KF w.heap.size w J:=V.2.2.trans<|KF.new V.1.mem.size yG;have A:=ae<|zzb G<|zzb an<|zzb ad I;have x0:=aa I 0;simp at x0;clear a1 cn V;by_cases kD:kd=1
    .subst kD;have⟨cB,db,bR,bY⟩:=an.km;have bF:=gx k;have a':=To (k':=k+1) 1 aM sx sy sq nn a7 s sa n f f3 f4 G bR bY (zzC k) VU (by unfold nK;omega) (by unfold nK;omega) t fL (ad.gl t UL.out) r1 r2 r3 r4 r5 r6;clear yG I G an ad bR bY bF x0;go_wp2_with fail;rw[<-K];apply a'.mono;clear a' K;intro e w8 hP;obtain⟨rfl,hS⟩:=hP.iF A.2.2.1;have H8:=ae hS;clear hP hS A c0 c1 c2 c3 c4 c5 c6 c7 c8 c9 My;go_wp2;go_roundw;case rel=>exact⟨k+1,cz,oE,rfl,rfl,nF,H8⟩
     case measure=>simp[intOf];omega
    .have aeo:(kd==1)=false:=by simpa using kD
     have ch:¬j=bx:=by intro e;have:=G.mem.kb;rw[e,I]at this;cases this
     have Fs:¬bx=j:=λe=>ch e.symm
     have y3:=aa G.mem.kb 3;have cq:=au G.mem.kb 3;have x7:=aa I 7;have x8:=aa I 8;simp at y3 x7 x8;clear yG I G an ad;have mQ:r=true\/(r=false/\0<=n)\/(r=false/\¬0<=n/\0<=f)\/(r=false/\¬0<=n/\¬0<=f):=by
      cases r
      .by_cases q1:0<=n
       .exact .inr<|.inl ⟨rfl,q1⟩
       .by_cases q2:0<=f
        .exact .inr<|.inr<|.inl ⟨rfl,q1,q2⟩
        .exact .inr<|.inr<|.inr ⟨rfl,q1,q2⟩
      .exact .inl rfl
     have⟨b2,X⟩:∃b2:Bool,(kd==2)=b2:=⟨_,rfl⟩;clear kD;cases b2;all_goals go_upto_region 21 with fail
     all_goals rw[<-K,<-iA]
     all_goals clear K iA c0 c1 c2 c3 c4 c5 c6 c7 c8 c9 My x0 X aeo
     all_goals obtain U|⟨U,g1⟩|⟨U,g1,g2⟩|⟨U,g1,g2⟩:=mQ
     all_goals rw[U]at y3
     all_goals go_upto_region 22 with fail
     all_goals (
      have⟨B,H_⟩:∃B:Bool,B=(r||decide (0<=n)||decide (0<=f)):=⟨_,rfl⟩;have⟨Wd,b8⟩:=xY <|J.setCell ⟨j,3,none⟩ (.bool B);have F:Wd=J.setCell ⟨j,3,none⟩ (.bool<|r||decide (0<=n)||decide (0<=f)):=by rw[b8,H_]
      simp[U]at F;first
      |rw[<-F]
      |(simp[g1]at F;rw[<-F])
      |(simp[g1,g2]at F;rw[<-F])
      have bc:r=true->B=true:=λe=>by rw[H_,e];simp
      have bL:B=false->n<0/\f<0:=λe=>by
       rw[H_]at e;simp at e;omega
      clear H_ F;have⟨cu,da,a1,_⟩:=A.2.1.km;have Ld:=A.1.mem.pH [] 3<|.bool B;have ba:=A.1.law a1 (A.1.mem.MC B) Ld;have bb:=(A.2.1.jA Ld λk h=>by cases h).ZH bc;have aC:=A.2.2.1.trans (KF.KO Ld λk h=>by cases h);have y:=(KF.KO Ld λk h=>by cases h).step _ _ A.2.2.2;rw[<-b8]at ba bb aC y;have nz:=O3 w.heap.size hp p D j k M m0 so cv uv B hu mm cl us Wd kd sq nn n f f3 f4 aM sx sy a7 s sa ba bb (aC.gl t UL.out) ⟨VU,t,fL,r0,TJ,bL,r1,r2,r3,r4,r5,r6⟩;have s0:=aa y 0;have Z:=aa y 1;have s2:=aa y 2;have Y:=aa y 3;have C:=aa y 4;have s5:=aa y 5;have s6:=aa y 6;have s7:=aa y 7;have s8:=aa y 8;have s9:=aa y 9;have a6:=aa y 10;simp at s0 Z s2 Y C s5 s6 s7 s8 s9 a6;have HD:=ae<|zzb aC y;clear a1 Ld ba bb aC y b8 bc bL U y3 cq x7 x8 A;go_wp2_with fail;apply nz.mono;clear nz s0 Z s2 Y C s5 s6 s7 s8 s9 a6;rintro e w9 ⟨rfl,hS9⟩;rcases hS9 with⟨cg,bu,cr,c',cb,m9,bg,bf,M9,a8,S,P,R⟩|⟨bu,c',cb,m9,bg,bf,M9,a8,S,P,R⟩
      .have Q:Calls prog 11 #[.pointer<|some ⟨hp,0,none⟩] w9 λe w'=>e=.returned (.bool true)/\w'=w9:=by
        have⟨sp,gp,bV,bT,bH,lp,bN,s,l,d,_,hh,_⟩:=P;exact sIs p hp true _ w9 hh.1
       have ic:=xP P S.mem.kb (S.mem.each m9 sE) (by omega:k+1<=16384);have b1:=aa S.mem.kb 1;simp at b1;have H9:Hid (BA w.heap.size w w9 hp p D j<|k+1):=⟨cg,bu,cr,c',cb,m9,bg,bf,M9,a8,S,P,HD.1.trans R⟩;clear S P R HD;go_wp2_with fail;apply Q.mono;clear Q;rintro e wX ⟨rfl,rfl⟩;go_wp2_with fail;apply ic.mono;clear ic b1;rintro e wY ⟨rfl,hfY⟩;have HY:=ae<|H9.out.new hfY;clear hfY H9;go_wp2
       go_roundw;case rel=>exact⟨k+1,true,oE,rfl,rfl,nF,HY⟩
       case measure=>simp[intOf];omega
      .obtain⟨bN9,d9,hC9,hG9⟩:=P;have Q:=sIs p hp false _ w9 hC9.blk;have aI:=HD.1.trans R;have h5:nK (k+1) M9 a8-5+3<=nK (k+1) M9 a8/\fA (k+1)+1+1<=nK (k+1) M9 a8-5:=by unfold nK;omega
       have a':=To kd aM sx sy sq nn a7 s sa n f f3 f4 S (.inr ⟨rfl,hC9⟩) hG9 (zzc _) oE h5.2 h5.1 t fL (aI.gl t UL.out) r1 r2 r3 r4 r5 r6;have v3:=aa S.mem.kb 3;have y:=R.step _ _ HD.2;have s0:=aa y 0;have Z:=aa y 1;have s2:=aa y 2;have Y:=aa y 3;have C:=aa y 4;have s5:=aa y 5;have s6:=aa y 6;have s7:=aa y 7;have s8:=aa y 8;have s9:=aa y 9;have a6:=aa y 10;simp at v3 s0 Z s2 Y C s5 s6 s7 s8 s9 a6;have H9:=ae aI;clear S hC9 hG9 R aI y HD;go_wp2_with fail;apply Q.mono;clear Q;rintro e wX ⟨rfl,rfl⟩;go_wp2_with fail;apply a'.mono;clear a' v3 s0 Z s2 Y C s5 s6 s7 s8 s9 a6;intro e wY hP;obtain⟨rfl,hS⟩:=hP.iF H9.out;have HY:=ae hS;clear hP hS H9;go_wp2;go_roundw;case rel=>exact⟨k+1,false,oE,rfl,rfl,nF,HY⟩
       case measure=>simp[intOf];omega)
   .go_wp2;go_ret;have⟨so,cv,r,hu,uv,mm,cl,us,M,m0,hA,hO,hF⟩:=HK.out;exact⟨rfl,hF.below⟩
 .rw[decide_eq_false ay]at O;have ak:=ae O;clear O;go_enter func6,ntmps6;go_wp2_with fail;apply ak.out.mono;rintro e w1 ⟨rfl,q,rfl⟩;go_wp2;go_ret;exact⟨rfl,(lE w).aR q |>.below (zzc _) sE⟩
end Go.Proofs.YtdcafjmdfpjcbaaGreatDoor
