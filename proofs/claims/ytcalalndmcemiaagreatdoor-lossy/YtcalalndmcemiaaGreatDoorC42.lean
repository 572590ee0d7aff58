import Derived.Test.YtcalalndmcemiaaGreatDoorC41
set_option maxHeartbeats 8000000
set_option maxRecDepth 100000
namespace Go.Proofs.YtcalalndmcemiaaGreatDoor
open Go.RowKit Go.Maps Tryz Sc
section
open Go.Shelf
theorem Mw(n:Nat)(hn:6<=n)(l:Nat)(K:List Nat)(d b m:Nat)(L:List (Nat × fe))(M:L.length<=12)(W:World)(I:W.cell? ⟨d,0,none⟩=some (.map (some b)))(E:aO KU EX W b m L):
  LF Fence.wide n prog 226 #[.pointer (some ⟨d,0,none⟩)] (λx:Nat × fe=>#[.int .u64 (x.1:Int),kO x.2]) (qY L (iw L)) (λ_=>True) l K W:=λJ S _ D _ N O Y r=>by
 have h:=yj (σ:=CI × Option (Nat × Obj)) n hn l d b m L M W (λq s A=>J q.1 s A/\W.heap.size<=A.heap.size/\match q.2 with|none=>True|some (g,o)=>A.heap[g]?=some o/\rW o=true) (λp A=>S p A/\p <+: qY L (iw L))
  (λA a=>⟨([],none),D [] [] W A r (zzc _) (Bk.fr (Fr.aX a [])),a.size,trivial⟩)
  (λA g y c c2 a F P z C=>⟨([(g,_)],some (y,_)),⟨N [] [] W A g c _ r (zzc _) (Fr.aX a []) F z,a.size,C,rfl⟩,λs B t=>⟨O _ _ _ t.1 (g,_) bR,t.2.2.1⟩⟩)
  (λq p x v j _ _ G=>by
   obtain⟨ss,f,i,k⟩:=G;rw[n_ f i] at k;obtain⟨w,tmps,assign,body,H,R⟩:=Y q.1 p x v j.1 j.2.1 k;refine⟨w,tmps,assign,body,H,R.mono ?_⟩;rintro e u (⟨r1,r2,r3⟩|⟨r1,r2,_⟩)
   .refine .inl ⟨r1,r2,zzk j.2.1 r3.size,?_⟩
    match q,j with
    |(_,none),_=>trivial
    |(_,some (g,o)),⟨_,_,a1,a2⟩=>exact⟨r3.same g o a1 a2,a2⟩
   .exact .inr ⟨r1,r2,k⟩)
  I E
 refine h.mono ?_;rintro e u ⟨he,⟨q,ss,f,i,j⟩|⟨p,_,hf⟩⟩
 .rw[n_ f i] at j;exact⟨he,.inl ⟨_,j.1⟩⟩
 .exact⟨he,.inr ⟨p,hf.2,hf.1⟩⟩
def enX(x:Nat × fe):Nat × ByteArray:=(2,str (be 8 x.1++dK jR x.2.parts))
def Yv(x:Nat × fe):Bool:=decide (x.2.state=6)
def lq(l:List (Nat × fe)):List (Nat × ByteArray):=(l.filter Yv).map enX
def nw(c:aU):Nat × ByteArray:=(1,str (be 8 c.aW))
def DH(c:aU):List (Nat × ByteArray):=nw c :: lq (qY c.ai (iw c.ai))
theorem FJ{l:List (Nat×fe)}{x:Nat×fe}(h:x.2.state=6):lq (l++[x])=lq l++[enX x]:=by simp[lq,Yv,h]
theorem Uh{l:List (Nat×fe)}{x:Nat×fe}(h:x.2.state≠6):lq (l++[x])=lq l:=by simp[lq,Yv,h]
theorem FK{l r:List (Nat×fe)}(h:l<+:r):lq l<+:lq r:=by
 unfold lq;exact(h.filter _).map _
abbrev Kn(l:Nat):Value:=.func (.yield l) #[] #[]
theorem FL(n:Nat)(hn:14<=n)(l:Nat)(D:List Nat)(Bs B i lg T m:Nat)(c:aU)(W:World)(M9:∀k∈D,k<W.heap.size)(LJ:W.heap[Bs]?=some (.cells #[.pointer (some ⟨i,0,none⟩)] 76 (0,0)))(h:bm W B i lg T m c)(qh:c.ai.length<=12)(a8:∀x∈c.ai,x.1<18446744073709551616):
  LF Fence.wide n prog 191 #[.pointer (some ⟨Bs,0,none⟩)] (λx:Nat × ByteArray=>#[.int .u8 (x.1:Int),.string x.2]) (DH c) (λA=>bm A B i lg T m c/\A.heap[Bs]?=some (.cells #[.pointer (some ⟨i,0,none⟩)] 76 (0,0))) l D W:=λJ S RG hJ hS yI yJ hY h0=>by
 have aa:Fence.wide.round=none:=rfl;have h1:1<=n:=bL;have aQ:Fence.wide.fn 181:=trivial;have dz:Fence.wide.fn 226:=trivial;have fo:Fence.wide.fn 98:=trivial;have cO:Fence.wide.fn 192:=trivial;obtain⟨j,M⟩:∃j,j=W.alloc (.cells #[Kn l] 318):=⟨_,rfl⟩;have bh:Fr [] W j:=by rw[M];exact(lT W).alloc _
 have bY:Boxed j W.heap.size 318 (Kn l):=by rw[M];exact Boxed.new W _ _
 have df:j.heap.size=W.heap.size+1:=by rw[M];simp
 have tM:Bs<W.heap.size:=(zza.1 LJ).1;have b1:=(bh.block Bs tM bR).trans LJ;have cJ:=h.new bh;obtain⟨rv,ov,qy,-⟩:=cJ.ex;have L:=ay b1 0;have c3:=ay qy 3;have y0:=bY.cell;simp at L c3;have aI:=h.fB.2.1;have HY:Hid (∀p d x j,J p d j->W.heap.size<=j.heap.size->d++[x] <+: DH c->YieldAt Fence.wide (n-1) prog l #[.int .u8 (x.1:Int),.string x.2] j λe y=>e=.returned (.bool true)/\J p (d++[x]) y/\nk j y\/e=.returned (.bool false)/\S (d++[x]) y/\E4 D j y):=hY;have H:Hid ((∀p q A B,J p q A->W.heap.size<=A.heap.size->Bk W.heap.size A B->J p q B)/\(∀p q A,J p q A->bm A B i lg T m c/\A.heap[Bs]?=some (.cells #[.pointer (some ⟨i,0,none⟩)] 76 (0,0)))/\(∀q A B,S q A->W.heap.size<=A.heap.size->Bk W.heap.size A B->S q B)/\(∀p s A B g c t,J p s A->W.heap.size<=A.heap.size->Fr [] A B->A.heap.size<=g->B.heap[g]?=some (.cells c t (0,0))->J ((g,.cells c t (0,0)) :: p) s B)/\(∀p s A,J p s A->∀x∈p,A.heap[x.1]?=some x.2)/\∀k∈D,k<W.heap.size):=⟨hJ,RG,hS,yI,yJ,M9⟩;have J1:Hid (J [] [] j):=hJ _ _ _ _ h0 (zzc _) (Bk.fr bh)
 have HB:Hid (∀w,Below j.drew.heap.size j.drew w->w.cell? ⟨W.heap.size,0,none⟩=some (Kn l)/\Fr [] j w/\YieldAt Fence.wide (n-1) prog l #[.int .u8 1,.string (str (be 8 c.aW))] w λe y=>e=.returned (.bool true)/\J [] [nw c] y/\nk w y\/e=.returned (.bool false)/\S [nw c] y/\E4 D w y):=λw v=>by
  have u:Fr [] j w:=⟨v.os,v.tape,v.output,v.size,λk G _=>v.block k G⟩;have Ta:=u.size;exact⟨(zze (a:=⟨W.heap.size,0,none⟩) (u.block W.heap.size bL bR)).trans y0,u,HY.out [] [] (nw c) w (H.1 _ _ _ _ J1.out bL (Bk.fr (u.mono bR))) bL (by unfold DH;simp)⟩
 have HI:=af (zzb h (zzb bY (zzb a8 LJ)));rw[M] at L c3 y0;clear h h0 hJ RG hS yI yJ hY M9 LJ cJ qy b1 a8;refine callsIn_of_wp_marks func191 rfl trivial ?_ aa;simp only[ntmps191,mB,zzr,mH,Nat.reduceAdd,Nat.reduceSub,mK,mL,nb,nU,n5,qC]
 gi_wp2
 rw[<-M];rw[<-M] at L c3 y0;clear M
 refine wpIn_mono (Q:=λe a b=>match e with
  |.normal=>∃o:Bool,a={ tmps:=#[Kn l,.pointer (some ⟨Bs,0,none⟩),.pointer (some ⟨W.heap.size,0,none⟩),undef,undef,Kn l,.pointer (some ⟨i,0,none⟩),.pointer (some ⟨i,0,none⟩),.pointer (some ⟨i,3,none⟩),.int .u64 (c.aW:Int),.string (str (be 8 c.aW)),.bool o,.bool !o,undef,undef,undef,undef,undef,undef,undef,undef,undef,undef,undef,undef,undef,undef,undef,undef,undef,undef],defers:=[] }/\Hid (o=true/\J [] [nw c] b/\nk j b\/o=false/\S [nw c] b/\j.heap.size<=b.heap.size)
  |_=>False) ?_ ?_
 .gi_region_with (first
   |(gi_at_call 98;refine((callsIn_wide (n:=n-1)).2 (rV c.aW _ aI)).mono ?_;rintro e w ⟨rfl,v⟩;obtain⟨v7,u,b3,b4,b0,b2,hy,xj⟩:=HB.out w v)
   |(refine xj.mono ?_;rintro e b M_;obtain⟨o,rfl,E6⟩:=CK M_;clear M_))
  all_goals
   (refine⟨o,rfl,?_⟩
    show o=true/\J [] [nw c] b/\nk j b\/o=false/\S [nw c] b/\j.heap.size<=b.heap.size;rcases E6 with⟨r1,r2,r3⟩|⟨r1,r2,r3⟩
    .exact .inl ⟨r1,r2,(nk.fr u).trans r3⟩
    .exact .inr ⟨r1,r2,zzk u.size r3.size⟩)
 .rintro e a3 b h3
  cases e with
  |normal =>
   obtain⟨o,rfl,HN⟩:=h3;clear HB y0 L c3
   cases o
   .gi_wp2
    exact⟨_,results_none rfl _ _ _,⟨_,rfl⟩,.inr ⟨[nw c],by unfold DH;simp,(HN.out.resolve_left (λh=>by cases h.1)).2.1⟩⟩
   .obtain⟨_,q1,q2⟩:=HN.out.resolve_right (λh=>by cases h.1);obtain⟨kf,ja⟩:=H.2.1 _ _ _ q1;obtain⟨b8,Zr,a1,-⟩:=kf.ex;have L:=ay ja 0;have c1:=ay a1 1;simp at L c1;clear HN
    gi_wp2_with (gi_at_call 181;refine(yl _ T _).mono ?_;rintro e w2 ⟨rfl,rfl⟩)
    have a6:Boxed b W.heap.size 318 (Kn l):=q2.same _ _ bY rfl;obtain⟨w2,ki⟩:∃w2,w2=b.alloc (.cells #[.map (some T)] 118):=⟨_,rfl⟩;rw[<-ki];have ue:Fr [] b w2:=by rw[ki];exact(lT b).alloc _
    have b7:w2.heap.size=b.heap.size+1:=by rw[ki];simp
    have ab:w2.heap[b.heap.size]?=some (.cells #[.map (some T)] 118 (0,0)):=by rw[ki];exact heap_alloc_new b _
    have fH:=kf.new ue;have ZC:=q2.size;have HG:=af (zzb fH (zzb ab (zzb ((ue.block _ bL bR).trans a6) (H.1 _ _ _ _ q1 bL (Bk.fr ue)))));clear ki ue ab fH kf ja a1 L c1 q1 q2 a6
    refine oP D (λk G=>by have:=H.2.2.2.2.2 k G;omega) aa h1 (gf:=226) (lb:=#[.pointer (some ⟨b.heap.size,0,none⟩)]) rfl dz (enters_of func226 dJ rfl)
     (encs:=λx:Nat × fe=>#[.int .u64 (x.1:Int),kO x.2]) (rs:=qY c.ai (iw c.ai)) (Inv:=λ_=>True) (λ_=>rfl)
     (λWx dQ _=>Mw (n-1) bL _ _ b.heap.size T m c.ai qh Wx (by
      have h1:=(dQ.block b.heap.size bL bR).trans HG.2.1;have h2:=ae h1 0
      simpa using h2) (HG.1.ai.fr dQ bR))
     (λp d A=>Boxed A W.heap.size 318 (Kn l)/\J p (nw c :: lq d) A) (λd A=>S (nw c :: lq d) A)
     (λq A B hs hz hb=>H.2.2.1 _ _ _ hs bL (hb.mono bL))
     HG.2.2 (λ_ _ _ _=>trivial)
     (λp q A B hs hz hb=>⟨hb.block _ _ hs.1 (.inl rfl),H.1 _ _ _ _ hs.2 bL (hb.mono bL)⟩)
     (λp q A B g c t hs hz hf hg hB=>⟨(hf.block _ (zza.1 hs.1).1 bR).trans hs.1,H.2.2.2.1 _ _ _ _ _ _ _ hs.2 bL hf hg hB⟩) (λp q A hs=>H.2.2.2.2.1 _ _ _ hs.2)
     (λx a' A=>∃E,w2.heap.size+2<=E/\A.heap[E]?=some (.cells (G_ x.2).toArray 128 (0,0))/\a'={ tmps:=#[Kn l,.pointer (some ⟨Bs,0,none⟩),.pointer (some ⟨W.heap.size,0,none⟩),.int .u64 (x.1:Int),.pointer (some ⟨E,0,none⟩),Kn l,.pointer (some ⟨i,0,none⟩),.pointer (some ⟨i,0,none⟩),.pointer (some ⟨i,3,none⟩),.int .u64 (c.aW:Int),.string (str (be 8 c.aW)),.bool true,.bool false,.pointer (some ⟨i,0,none⟩),.pointer (some ⟨i,0,none⟩),.pointer (some ⟨i,1,none⟩),.map (some T),.func (.func 226) #[] #[.pointer (some ⟨b.heap.size,0,none⟩)],.int .u64 (x.1:Int),kO x.2,undef,undef,undef,undef,undef,undef,undef,undef,undef,undef,undef],defers:=[] })
     (λx a' A r hs=>by
      obtain⟨E,h1,h2,h3⟩:=hs
      exact⟨E,h1,(World.putObj_heap_other bL).trans h2,h3⟩)
     ?assign ?body ?done ?stop
    case assign =>
     have jE:=@Oper.semAt_some;rintro p d x A b5 hI rh dN K
     have F:x.2.Ok:=by
      obtain⟨_,_,_,eE,F⟩:=HG.1.ai;exact(F _ (xz eE (dN.subset bR))).2
     obtain⟨t,s,ps,z⟩:=x;obtain⟨N,O,P,R,U,V,X,Y,Z,az⟩:=nine F.1
     change ps=_ at az
     subst az;rw[bE];rw[bE] at K;have HK:=af K;clear K hI
     gi_wp2
     exact HK.out _ _ (Bk.fr ((lT A).alloc _)) (nk.alloc A _) ⟨A.heap.size,rh,heap_alloc_new A _,rfl⟩
    case body =>
     have jE:=@Oper.semAt_some;rintro p d x a' A ⟨y1,hj⟩ rh ⟨E,htp,Hn,rfl⟩ dN
     have J7:x∈c.ai:=by
      obtain⟨_,_,_,eE,_⟩:=HG.1.ai;exact xz eE (dN.subset bR)
     have F:x.2.Ok:=by
      obtain⟨_,_,_,_,F⟩:=HG.1.ai;exact(F _ J7).2
     have ht:=HI.2.2.1 x J7;have v1:=y1.cell;have h3:1<=n-1-1:=bL;have HP:Hid (x.2.state=6->nw c :: lq d++[enX x] <+: DH c):=λC=>by
      have:=FK dN;rw[FJ C] at this;unfold DH;rw[List.cons_append];exact List.cons_prefix_cons.2 ⟨rfl,this⟩
     have HB:Hid (∀w,Below A.drew.heap.size A.drew w->x.2.state=6->w.cell? ⟨W.heap.size,0,none⟩=some (Kn l)/\Fr [] A w/\YieldAt Fence.wide (n-1-1-1) prog l #[.int .u8 2,.string (str (be 8 x.1++dK jR x.2.parts))] w λe y=>e=.returned (.bool true)/\J p (nw c :: lq (d++[x])) y/\nk w y\/e=.returned (.bool false)/\S (nw c :: lq (d++[x])) y/\E4 D w y):=λw v C=>by
      have u:Fr [] A w:=⟨v.os,v.tape,v.output,v.size,λk G _=>v.block k G⟩;have Ta:=u.size;rw[FJ C];exact⟨(zze (a:=⟨W.heap.size,0,none⟩) (u.block W.heap.size bL bR)).trans v1,u,sI (HY.out p _ (enX x) w (H.1 _ _ _ _ hj bL (Bk.fr u)) bL (HP.out C))⟩
     have HA:=af (zzb y1 hj)
     have HE:Hid (∀w b,Fr [] A w->J p (nw c :: lq (d++[x])) b->nk w b->(Boxed b W.heap.size 318 (Kn l)/\J p (nw c :: lq (d++[x])) b)/\nk A b):=λw b u rP kW=>by
      have G:nk A b:=(nk.fr u).trans kW;exact⟨⟨G.same _ _ HA.1 rfl,rP⟩,G⟩
     have HX:Hid (x.2.state≠6->lq (d++[x])=lq d):=λC=>Uh C
     obtain⟨t,s,ps,z⟩:=x;obtain⟨N,O,P,R,U,V,X,Y,Z,az⟩:=nine F.1
     change ps=_ at az
     subst az;have QH:A.heap[E]?=some (.cells #[.int .i64 (s:Int),.int .u8 (N:Int),.int .u8 (O:Int),.int .u8 (P:Int),.int .u8 (R:Int),.int .u8 (U:Int),.int .u8 (V:Int),.int .u8 (X:Int),.int .u8 (Y:Int),.int .u8 (Z:Int),.int .u64 (z:Int),.nilIface] 128 (0,0)):=Hn;obtain⟨t0,t1,t2,t3,t4,t5,t6,t7,t8,t9,ta,tb⟩:=lH QH;rw[bE];clear y1 hj Hn QH J7
     gi_wp2
     refine wpIn_mono (Q:=λe a I=>match e with
      |.normal=>∃(o:Bool) (ad al an ao av aw aE aH:Value),a={ tmps:=#[Kn l,.pointer (some ⟨Bs,0,none⟩),.pointer (some ⟨W.heap.size,0,none⟩),.int .u64 (t:Int),.pointer (some ⟨E,0,none⟩),Kn l,.pointer (some ⟨i,0,none⟩),.pointer (some ⟨i,0,none⟩),.pointer (some ⟨i,3,none⟩),.int .u64 (c.aW:Int),.string (str (be 8 c.aW)),.bool true,.bool false,.pointer (some ⟨i,0,none⟩),.pointer (some ⟨i,0,none⟩),.pointer (some ⟨i,1,none⟩),.map (some T),.func (.func 226) #[] #[.pointer (some ⟨b.heap.size,0,none⟩)],.int .u64 (t:Int),(.agg #[.int .i64 (s:Int),.int .u8 (N:Int),.int .u8 (O:Int),.int .u8 (P:Int),.int .u8 (R:Int),.int .u8 (U:Int),.int .u8 (V:Int),.int .u8 (X:Int),.int .u8 (Y:Int),.int .u8 (Z:Int),.int .u64 (z:Int),.nilIface]),.pointer (some ⟨E,0,none⟩),.int .i64 (s:Int),ad,al,an,ao,av,aw,aE,aH,.bool o],defers:=[] }/\Hid (o=false/\(Boxed I W.heap.size 318 (Kn l)/\J p (nw c :: lq (d++[(t,⟨s,[N,O,P,R,U,V,X,Y,Z],z⟩)])) I)/\nk A I\/o=true/\S (nw c :: lq (d++[(t,⟨s,[N,O,P,R,U,V,X,Y,Z],z⟩)])) I/\E4 D A I)
      |_=>False) ?_ ?_
     .by_cases C:s=6
      .subst C
       gi_region_with (first
        |(gi_at_call 192;refine((callsIn_wide (n:=n-1-1-1)).2 (qp t ⟨6,[N,O,P,R,U,V,X,Y,Z],z⟩ F _ ht)).mono ?_;rintro e w ⟨rfl,v⟩;obtain⟨v7,u,b3,b4,b0,b2,hy,xj⟩:=HB.out w v rfl)
        |(refine xj.mono ?_;rintro e I M_;obtain⟨o,rfl,E6⟩:=CK M_;clear M_))
       all_goals
        (refine⟨!o,_,_,_,_,_,_,_,_,rfl,?_⟩
         rcases E6 with⟨rfl,r2,r3⟩|⟨rfl,r2,r3⟩
         .exact .inl ⟨rfl,HE.out w _ u r2 r3⟩
         .exact .inr ⟨rfl,r2,((nk.fr u).x D).trans r3⟩)
      .have i6:((s:Int)==6)=false:=cE;have HD:Hid ((Boxed A.drew W.heap.size 318 (Kn l)/\J p (nw c :: lq (d++[(t,⟨s,[N,O,P,R,U,V,X,Y,Z],z⟩)])) A.drew)/\nk A A.drew):=by
        have a7:Fr [] A A.drew:=(lT A).drew;exact HE.out A.drew A.drew a7 (by rw[HX.out C];exact H.1 _ _ _ _ HA.2 bL (Bk.fr a7)) (nk.refl _)
       have b6:∀f:FuncId,Fence.wide.fn f:=λ_=>trivial
       gi_region_with (fail)
       all_goals exact⟨false,_,_,_,_,_,_,_,_,rfl,.inl ⟨rfl,HD.out⟩⟩
     .rintro e a4 I h4
      cases e with
      |normal =>
       obtain⟨o,ad,al,an,ao,av,aw,aE,aH,rfl,HN⟩:=h4;clear HB HE HP HA
       cases o
       .gi_wp2
        exact(HN.out.resolve_right (λh=>by cases h.1)).2
       .gi_wp2
        exact(HN.out.resolve_left (λh=>by cases h.1)).2
      |_=>exact h4.elim
    case done =>
     rintro p A ⟨y1,hj⟩ rh K
     gi_wp2
     refine⟨bR,.inl ⟨_,_,rfl,run_takeDeferred K,?_⟩⟩;exact⟨_,results_none rfl _ _ _,⟨_,rfl⟩,.inl ⟨p,H.1 _ _ _ _ hj bL (Bk.put K rfl bL _)⟩⟩
    case stop =>
     rintro d A dN hs rh K;refine⟨bR,.inl ⟨_,_,rfl,run_takeDeferred K,?_⟩⟩;exact⟨_,results_none rfl _ _ _,⟨_,rfl⟩,.inr ⟨nw c :: lq d,by unfold DH;exact List.cons_prefix_cons.2 ⟨rfl,FK dN⟩,H.2.2.1 _ _ _ hs bL (Bk.put K rfl bL _)⟩⟩
  |_=>exact h3.elim
end
end Go.Proofs.YtcalalndmcemiaaGreatDoor
