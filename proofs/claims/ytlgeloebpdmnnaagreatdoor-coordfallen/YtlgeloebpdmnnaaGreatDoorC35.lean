import Derived.Test.YtlgeloebpdmnnaaGreatDoorC33
set_option maxHeartbeats 8000000
set_option maxRecDepth 100000
namespace Go.Proofs.YtlgeloebpdmnnaaGreatDoor
open Go.RowKit Go.Maps Tryz Sc
section
open Go.Shelf
theorem Qg(n:Nat)(hn:6<=n)(l:Nat)(H:List Nat)(d b m:Nat)(L:List (Nat × fQ))(V:L.length<=12)(W:nL)(X:W.cell? (gi d)=some (.map (some b)))(E:dV KU EX W b m L):
  Yn Fence.wide n prog 240 #[gx d] (λx:Nat × fQ=>#[.int .u64 (x.1:Int),lz x.2]) (wy L (jO L)) (λ_=>True) l H W:=λJ S _ D _ Z I Y r=>by
 have h:=Bt (σ:=FK × Option (Nat × Obj)) n hn l d b m L V W (λq s A=>J q.1 s A/\W.heap.size<=A.heap.size/\match q.2 with|none=>True|some (g,o)=>A.heap[g]?=some o/\vh o=true) (λp A=>S p A/\p <+: wy L (jO L))
  (λA a=>⟨([],none),D [] [] W A r (zzc _) (Bk.fr (Fr.bE a [])),a.size,trivial⟩)
  (λA g y c c2 a F T z C=>⟨([(g,_)],some (y,_)),⟨Z [] [] W A g c _ r (zzc _) (Fr.bE a []) F z,a.size,C,rfl⟩,λs B t=>⟨I _ _ _ t.1 (g,_) dv,t.2.2.1⟩⟩)
  (λq p x v j _ _ hp=>by
   obtain⟨ss,f,i,k⟩:=hp;rw[tj f i] at k;obtain⟨w,tmps,assign,body,G,R⟩:=Y q.1 p x v j.1 j.2.1 k;refine⟨w,tmps,assign,body,G,R.mono ?_⟩;rintro e u (⟨r1,r2,r3⟩|⟨r1,r2,_⟩)
   .refine .inl ⟨r1,r2,zzk j.2.1 r3.size,?_⟩
    match q,j with
    |(_,none),_=>trivial
    |(_,some (g,o)),⟨_,_,a1,a2⟩=>exact⟨r3.same g o a1 a2,a2⟩
   .exact .inr ⟨r1,r2,k⟩)
  X E
 refine h.mono ?_;rintro e u ⟨he,⟨q,ss,f,i,j⟩|⟨p,_,hf⟩⟩
 .rw[tj f i] at j;exact⟨he,.inl ⟨_,j.1⟩⟩
 .exact⟨he,.inr ⟨p,hf.2,hf.1⟩⟩
def enX(x:Nat × fQ):Nat × nS:=(2,str (be 8 x.1++bV fG x.2.parts))
def Qh(x:Nat × fQ):Bool:=decide (x.2.state=6)
def nw(l:List (Nat × fQ)):List (Nat × nS):=(l.filter Qh).map enX
def pK(c:bL):Nat × nS:=(1,str (be 8 c.aH))
def vk(c:bL):List (Nat × nS):=pK c :: nw (wy c.aD (jO c.aD))
theorem I2{l:List (Nat×fQ)}{x:Nat×fQ}(h:x.2.state=6):nw (l++[x])=nw l++[enX x]:=by simp[nw,Qh,h]
theorem Yp{l:List (Nat×fQ)}{x:Nat×fQ}(h:x.2.state≠6):nw (l++[x])=nw l:=by simp[nw,Qh,h]
theorem I3{l r:List (Nat×fQ)}(h:l<+:r):nw l<+:nw r:=by grind[nw]
abbrev LR(l:Nat):Value:=.func (.yield l) #[] #[]
theorem I4(n:Nat)(hn:14<=n)(l:Nat)(D:List Nat)(Bs B i lg T m:Nat)(c:bL)(W:nL)(Qc:∀k∈D,k<W.heap.size)(a1:W.heap[Bs]?=some (.cells #[gx i] 68 (0,0)))(h:a_ W B i lg T m c)(zV:c.aD.length<=12)(ae:∀x∈c.aD,x.1<2^64):
  Yn Fence.wide n prog 250 #[gx Bs] (λx:Nat × nS=>#[.int .u8 (x.1:Int),.string x.2]) (vk c) (λA=>a_ A B i lg T m c/\A.heap[Bs]?=some (.cells #[gx i] 68 (0,0))) l D W:=λJ S ab hJ hS IZ I0 hY h0=>by
 have ag:Fence.wide.round=none:=rfl;have h1:1<=n:=dp;have bH:Fence.wide.fn 178:=trivial;have fu:Fence.wide.fn 240:=trivial;have iI:Fence.wide.fn 251:=trivial;have iR:Fence.wide.fn 252:=trivial;obtain⟨j,P⟩:∃j,j=W.alloc (.cells #[LR l] 349):=⟨_,rfl⟩;have cY:Fr [] W j:=by rw[P];exact(fU W).alloc _
 have bY:Boxed j W.heap.size 349 (LR l):=by rw[P];exact Boxed.new W _ _
 have dT:j.heap.size=W.heap.size+1:=by rw[P];simp
 have OT:Bs<W.heap.size:=(zza.1 a1).1;have b1:=(cY.block Bs OT dv).trans a1;have l6:=h.new cY;obtain⟨rv,ov,LS,-⟩:=l6.ex;have I:=bj b1 0;have c3:=bj LS 3;have y0:=bY.cell;simp at I c3;have aW:=h.gw.2.1;have HY:Hid (∀p d x j,J p d j->W.heap.size<=j.heap.size->d++[x] <+: vk c->YieldAt Fence.wide (n-1) prog l #[.int .u8 (x.1:Int),.string x.2] j λe v=>e=.returned (.bool true)/\J p (d++[x]) v/\td j v\/e=.returned (.bool false)/\S (d++[x]) v/\Qb D j v):=hY;have H:Hid ((∀p q A B,J p q A->W.heap.size<=A.heap.size->Bk W.heap.size A B->J p q B)/\(∀p q A,J p q A->a_ A B i lg T m c/\A.heap[Bs]?=some (.cells #[.pointer (some ⟨i,0,none⟩)] 68 (0,0)))/\(∀q A B,S q A->W.heap.size<=A.heap.size->Bk W.heap.size A B->S q B)/\(∀p s A B g c t,J p s A->W.heap.size<=A.heap.size->Fr [] A B->A.heap.size<=g->B.heap[g]?=some (.cells c t (0,0))->J ((g,.cells c t (0,0)) :: p) s B)/\(∀p s A,J p s A->∀x∈p,A.heap[x.1]?=some x.2)/\∀k∈D,k<W.heap.size):=⟨hJ,ab,hS,IZ,I0,Qc⟩;have J1:Hid (J [] [] j):=hJ _ _ _ _ h0 (zzc _) (Bk.fr cY)
 have HB:Hid (∀w,Below j.drew.heap.size j.drew w->w.cell? ⟨W.heap.size,0,none⟩=some (LR l)/\Fr [] j w/\YieldAt Fence.wide (n-1) prog l #[.int .u8 1,.string (str (be 8 c.aH))] w λe v=>e=.returned (.bool true)/\J [] [pK c] v/\td w v\/e=.returned (.bool false)/\S [pK c] v/\Qb D w v):=λw u=>by
  have U:Fr [] j w:=⟨u.os,u.tape,u.output,u.size,λk F _=>u.block k F⟩;have aX:=U.size;exact⟨(zze (a:=⟨W.heap.size,0,none⟩) (U.block W.heap.size dp dv)).trans y0,U,HY.out [] [] (pK c) w (H.1 _ _ _ _ J1.out dp (Bk.fr (U.mono dv))) dp (by unfold vk;simp)⟩
 have HI:=ah (zzb h (zzb bY (zzb ae a1)));rw[P] at I c3 y0;clear h h0 hJ ab hS IZ I0 hY Qc a1 l6 LS b1 ae;refine callsIn_of_wp_marks func250 rfl trivial ?_ ag;simp only[ntmps250,ji,zzr,jn,Nat.reduceAdd,Nat.reduceSub,mK,jo,j7,j8,kV,lC]
 gi_wp2
 rw[<-P];rw[<-P] at I c3 y0;clear P
 refine wpIn_mono (Q:=λe a b=>match e with
  |.normal=>∃o:Bool,a={ tmps:=#[LR l,.pointer (some ⟨Bs,0,none⟩),.pointer (some ⟨W.heap.size,0,none⟩),undef,undef,LR l,.pointer (some ⟨i,0,none⟩),.pointer (some ⟨i,0,none⟩),.pointer (some ⟨i,3,none⟩),.int .u64 (c.aH:Int),.string (str (be 8 c.aH)),.bool o,.bool !o,undef,undef,undef,undef,undef,undef,undef,undef,undef,undef,undef,undef,undef,undef,undef,undef,undef,undef],defers:=[] }/\Hid (o=true/\J [] [pK c] b/\td j b\/o=false/\S [pK c] b/\j.heap.size<=b.heap.size)
  |_=>False) ?_ ?_
 .gi_region_with (first
   |(gi_at_call 251;refine((yY (n:=n-1)).2 (uV c.aH _ aW)).mono ?_;rintro e w ⟨rfl,u⟩;obtain⟨v7,U,b3,b4,b0,b2,hy,E_⟩:=HB.out w u)
   |(refine E_.mono ?_;rintro e b ZS;obtain⟨o,rfl,a7⟩:=Uy ZS;clear ZS))
  all_goals
   (refine⟨o,rfl,?_⟩
    show o=true/\J [] [pK c] b/\td j b\/o=false/\S [pK c] b/\j.heap.size<=b.heap.size;rcases a7 with⟨r1,r2,r3⟩|⟨r1,r2,r3⟩
    .exact .inl ⟨r1,r2,(td.fr U).trans r3⟩
    .exact .inr ⟨r1,r2,zzk U.size r3.size⟩)
 .rintro e a3 b h3
  cases e with
  |normal =>
   obtain⟨o,rfl,HN⟩:=h3;clear HB y0 I c3
   cases o
   .gi_wp2
    exact⟨_,xw rfl _ _ _,⟨_,rfl⟩,.inr ⟨[pK c],by unfold vk;simp,(HN.out.resolve_left (λh=>by cases h.1)).2.1⟩⟩
   .obtain⟨_,q1,q2⟩:=HN.out.resolve_right (λh=>by cases h.1);obtain⟨xd,iL⟩:=H.2.1 _ _ _ q1;obtain⟨b8,I5,a8,-⟩:=xd.ex;have I:=bj iL 0;have c1:=bj a8 1;simp at I c1;clear HN
    gi_wp2_with (gi_at_call 178;refine(Bu _ T _).mono ?_;rintro e w2 ⟨rfl,rfl⟩)
    have aa:Boxed b W.heap.size 349 (LR l):=q2.same _ _ bY rfl;obtain⟨w2,lI⟩:∃w2,w2=b.alloc (.cells #[.map (some T)] 192):=⟨_,rfl⟩;rw[<-lI];have FM:Fr [] b w2:=by rw[lI];exact(fU b).alloc _
    have b7:w2.heap.size=b.heap.size+1:=by rw[lI];simp
    have al:w2.heap[b.heap.size]?=some (.cells #[.map (some T)] 192 (0,0)):=by rw[lI];exact oz b _
    have lT:=xd.new FM;have UA:=q2.size;have HG:=ah (zzb lT (zzb al (zzb ((FM.block _ dp dv).trans aa) (H.1 _ _ _ _ q1 dp (Bk.fr FM)))));clear lI FM al lT xd iL a8 I c1 q1 q2 aa
    refine xp D (λk F=>by have:=H.2.2.2.2.2 k F;omega) ag h1 (gf:=240) (lb:=#[.pointer (some ⟨b.heap.size,0,none⟩)]) rfl fu (enters_of func240 eu rfl)
     (encs:=λx:Nat × fQ=>#[.int .u64 (x.1:Int),lz x.2]) (rs:=wy c.aD (jO c.aD)) (Inv:=λ_=>True) (λ_=>rfl)
     (λWx k9 _=>Qg (n-1) dp _ _ b.heap.size T m c.aD zV Wx (by
      have h1:=(k9.block b.heap.size dp dv).trans HG.2.1;have h2:=af h1 0
      simpa using h2) (HG.1.aD.fr k9 dv))
     (λp d A=>Boxed A W.heap.size 349 (LR l)/\J p (pK c :: nw d) A) (λd A=>S (pK c :: nw d) A)
     (λq A B y hz hb=>H.2.2.1 _ _ _ y dp (hb.mono dp))
     HG.2.2 (λ_ _ _ _=>trivial)
     (λp q A B y hz hb=>⟨hb.block _ _ y.1 (.inl rfl),H.1 _ _ _ _ y.2 dp (hb.mono dp)⟩)
     (λp q A B g c t y hz hf hg hB=>⟨(hf.block _ (zza.1 y.1).1 dv).trans y.1,H.2.2.2.1 _ _ _ _ _ _ _ y.2 dp hf hg hB⟩) (λp q A y=>H.2.2.2.2.1 _ _ _ y.2)
     (λx a' A=>∃E,w2.heap.size+2<=E/\A.heap[E]?=some (.cells (J9 x.2).toArray 249 (0,0))/\a'={ tmps:=#[LR l,.pointer (some ⟨Bs,0,none⟩),.pointer (some ⟨W.heap.size,0,none⟩),.int .u64 (x.1:Int),.pointer (some ⟨E,0,none⟩),LR l,.pointer (some ⟨i,0,none⟩),.pointer (some ⟨i,0,none⟩),.pointer (some ⟨i,3,none⟩),.int .u64 (c.aH:Int),.string (str (be 8 c.aH)),.bool true,.bool false,.pointer (some ⟨i,0,none⟩),.pointer (some ⟨i,0,none⟩),.pointer (some ⟨i,1,none⟩),.map (some T),.func (.func 240) #[] #[.pointer (some ⟨b.heap.size,0,none⟩)],.int .u64 (x.1:Int),lz x.2,undef,undef,undef,undef,undef,undef,undef,undef,undef,undef,undef],defers:=[] })
     (λx a' A r y=>by
      obtain⟨E,h1,h2,h3⟩:=y
      exact⟨E,h1,(qY dp).trans h2,h3⟩)
     ?assign ?body ?done ?stop
    case assign =>
     have pV:=@Bg;rintro p d x A b5 hI ym eN K
     have Z:x.2.Ok:=by
      obtain⟨_,_,_,gq,Z⟩:=HG.1.aD;exact(Z _ (ui gq (eN.subset dv))).2
     obtain⟨t,s,ps,z,qd⟩:=x;obtain⟨L,M,N,O,R,V,X,Y,p8,eG⟩:=nine Z.1
     change ps=_ at eG
     subst eG;rw[bC];rw[bC] at K;have HK:=ah K;clear K hI
     gi_wp2
     exact HK.out _ _ (Bk.fr ((fU A).alloc _)) (td.alloc A _) ⟨A.heap.size,ym,oz A _,rfl⟩
    case body =>
     have pV:=@Bg;rintro p d x a' A ⟨y1,hj⟩ ym ⟨E,htp,CK,rfl⟩ eN
     have I1:x∈c.aD:=by
      obtain⟨_,_,_,gq,_⟩:=HG.1.aD;exact ui gq (eN.subset dv)
     have Z:x.2.Ok:=by
      obtain⟨_,_,_,_,Z⟩:=HG.1.aD;exact(Z _ I1).2
     have ht:=HI.2.2.1 x I1;have v1:=y1.cell;have h3:1<=n-1-1:=dp;have HP:Hid (x.2.state=6->pK c :: nw d++[enX x] <+: vk c):=λC=>by
      have:=I3 eN;rw[I2 C] at this;unfold vk;rw[List.cons_append];exact List.cons_prefix_cons.2 ⟨rfl,this⟩
     have HB:Hid (∀w,Below A.drew.heap.size A.drew w->x.2.state=6->w.cell? ⟨W.heap.size,0,none⟩=some (LR l)/\Fr [] A w/\YieldAt Fence.wide (n-1-1-1) prog l #[.int .u8 2,.string (str (be 8 x.1++bV fG x.2.parts))] w λe v=>e=.returned (.bool true)/\J p (pK c :: nw (d++[x])) v/\td w v\/e=.returned (.bool false)/\S (pK c :: nw (d++[x])) v/\Qb D w v):=λw u C=>by
      have U:Fr [] A w:=⟨u.os,u.tape,u.output,u.size,λk F _=>u.block k F⟩;have aX:=U.size;rw[I2 C];exact⟨(zze (a:=⟨W.heap.size,0,none⟩) (U.block W.heap.size dp dv)).trans v1,U,oB (HY.out p _ (enX x) w (H.1 _ _ _ _ hj dp (Bk.fr U)) dp (HP.out C))⟩
     have HA:=ah (zzb y1 hj)
     have HE:Hid (∀w b,Fr [] A w->J p (pK c :: nw (d++[x])) b->td w b->(Boxed b W.heap.size 349 (LR l)/\J p (pK c :: nw (d++[x])) b)/\td A b):=λw b U yc lF=>by
      have F:td A b:=(td.fr U).trans lF;exact⟨⟨F.same _ _ HA.1 rfl,yc⟩,F⟩
     have HX:Hid (x.2.state≠6->nw (d++[x])=nw d):=λC=>Yp C
     obtain⟨t,s,ps,z,qd⟩:=x;obtain⟨L,M,N,O,R,V,X,Y,p8,eG⟩:=nine Z.1
     change ps=_ at eG
     subst eG;have LJ:A.heap[E]?=some (.cells #[.int .i64 (s:Int),.int .u8 (L:Int),.int .u8 (M:Int),.int .u8 (N:Int),.int .u8 (O:Int),.int .u8 (R:Int),.int .u8 (V:Int),.int .u8 (X:Int),.int .u8 (Y:Int),.int .u8 (p8:Int),.int .u64 (z:Int),bB qd] 249 (0,0)):=CK;obtain⟨t0,t1,t2,t3,t4,t5,t6,t7,t8,t9,ta,tb⟩:=mD LJ;rw[bC];clear y1 hj CK LJ I1
     gi_wp2
     refine wpIn_mono (Q:=λe a G=>match e with
      |.normal=>∃(o:Bool) (an ao av ax ay aA aE aI:Value),a={ tmps:=#[LR l,.pointer (some ⟨Bs,0,none⟩),.pointer (some ⟨W.heap.size,0,none⟩),.int .u64 (t:Int),.pointer (some ⟨E,0,none⟩),LR l,.pointer (some ⟨i,0,none⟩),.pointer (some ⟨i,0,none⟩),.pointer (some ⟨i,3,none⟩),.int .u64 (c.aH:Int),.string (str (be 8 c.aH)),.bool true,.bool false,.pointer (some ⟨i,0,none⟩),.pointer (some ⟨i,0,none⟩),.pointer (some ⟨i,1,none⟩),.map (some T),.func (.func 240) #[] #[.pointer (some ⟨b.heap.size,0,none⟩)],.int .u64 (t:Int),(.agg #[.int .i64 (s:Int),.int .u8 (L:Int),.int .u8 (M:Int),.int .u8 (N:Int),.int .u8 (O:Int),.int .u8 (R:Int),.int .u8 (V:Int),.int .u8 (X:Int),.int .u8 (Y:Int),.int .u8 (p8:Int),.int .u64 (z:Int),bB qd]),.pointer (some ⟨E,0,none⟩),.int .i64 (s:Int),an,ao,av,ax,ay,aA,aE,aI,.bool o],defers:=[] }/\Hid (o=false/\(Boxed G W.heap.size 349 (LR l)/\J p (pK c :: nw (d++[(t,⟨s,[L,M,N,O,R,V,X,Y,p8],z,qd⟩)])) G)/\td A G\/o=true/\S (pK c :: nw (d++[(t,⟨s,[L,M,N,O,R,V,X,Y,p8],z,qd⟩)])) G/\Qb D A G)
      |_=>False) ?_ ?_
     .by_cases C:s=6
      .subst C
       gi_region_with (first
        |(gi_at_call 252;refine((yY (n:=n-1-1-1)).2 (sJ t ⟨6,[L,M,N,O,R,V,X,Y,p8],z,qd⟩ Z _ ht)).mono ?_;rintro e w ⟨rfl,u⟩;obtain⟨v7,U,b3,b4,b0,b2,hy,E_⟩:=HB.out w u rfl)
        |(refine E_.mono ?_;rintro e G ZS;obtain⟨o,rfl,a7⟩:=Uy ZS;clear ZS))
       all_goals
        (refine⟨!o,_,_,_,_,_,_,_,_,rfl,?_⟩
         rcases a7 with⟨rfl,r2,r3⟩|⟨rfl,r2,r3⟩
         .exact .inl ⟨rfl,HE.out w _ U r2 r3⟩
         .exact .inr ⟨rfl,r2,((td.fr U).x D).trans r3⟩)
      .have i6:((s:Int)==6)=false:=ef;have HD:Hid ((Boxed A.drew W.heap.size 349 (LR l)/\J p (pK c :: nw (d++[(t,⟨s,[L,M,N,O,R,V,X,Y,p8],z,qd⟩)])) A.drew)/\td A A.drew):=by
        have ad:Fr [] A A.drew:=(fU A).drew;exact HE.out A.drew A.drew ad (by rw[HX.out C];exact H.1 _ _ _ _ HA.2 dp (Bk.fr ad)) (td.refl _)
       have b6:∀f:FuncId,Fence.wide.fn f:=λ_=>trivial
       gi_region_with (fail)
       all_goals exact⟨false,_,_,_,_,_,_,_,_,rfl,.inl ⟨rfl,HD.out⟩⟩
     .rintro e a4 G h4
      cases e with
      |normal =>
       obtain⟨o,an,ao,av,ax,ay,aA,aE,aI,rfl,HN⟩:=h4;clear HB HE HP HA
       cases o
       .gi_wp2
        exact(HN.out.resolve_right (λh=>by cases h.1)).2
       .gi_wp2
        exact(HN.out.resolve_left (λh=>by cases h.1)).2
      |_=>exact h4.elim
    case done =>
     rintro p A ⟨y1,hj⟩ ym K
     gi_wp2
     refine⟨dv,.inl ⟨_,_,rfl,DK K,?_⟩⟩;exact⟨_,xw rfl _ _ _,⟨_,rfl⟩,.inl ⟨p,H.1 _ _ _ _ hj dp (Bk.put K rfl dp _)⟩⟩
    case stop =>
     rintro d A eN y ym K;refine⟨dv,.inl ⟨_,_,rfl,DK K,?_⟩⟩;exact⟨_,xw rfl _ _ _,⟨_,rfl⟩,.inr ⟨pK c :: nw d,by unfold vk;exact List.cons_prefix_cons.2 ⟨rfl,I3 eN⟩,H.2.2.1 _ _ _ y dp (Bk.put K rfl dp _)⟩⟩
  |_=>exact h3.elim
end
end Go.Proofs.YtlgeloebpdmnnaaGreatDoor
