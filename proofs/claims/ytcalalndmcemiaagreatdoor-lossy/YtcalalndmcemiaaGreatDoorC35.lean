import Derived.Test.YtcalalndmcemiaaGreatDoorC34
set_option maxHeartbeats 8000000
set_option maxRecDepth 100000
namespace Go.Proofs.YtcalalndmcemiaaGreatDoor
open Go.RowKit Go.Maps Tryz Sc
section
open Go.Shelf
def qs(x:ByteArray × ByteArray):Nat × ByteArray:=(4,str (CD x.1 x.2))
def LH(s:ag)(t:Nat):Nat × ByteArray:=(1,ac0 t (jU s.holds t))
def rE(s:ag)(ws:List Nat):List (Nat × ByteArray):=(cX s.aM).map qs++ws.map (LH s)
theorem LI(s:ag)(ws:List Nat){e:List (ByteArray×ByteArray)}{x:ByteArray×ByteArray}(h:e++[x]<+:cX s.aM):e.map qs++[qs x]<+:rE s ws:=by
 have:=h.map qs;rw[List.map_append]at this;exact this.trans<|List.prefix_append _ _
theorem CK{e:Ending}{Y N:Prop}(h:e=.returned (.bool true)/\Y\/e=.returned (.bool false)/\N):∃b:Bool,e=.returned (.bool b)/\(b=true/\Y\/b=false/\N):=by
 rcases h with⟨rfl,h⟩|⟨rfl,h⟩
 .exact⟨true,rfl,.inl ⟨rfl,h⟩⟩
 .exact⟨false,rfl,.inr ⟨rfl,h⟩⟩
theorem Ib(n:Nat)(hn:14<=n)(l:Nat)(M:List Nat)(Bs y lg V bT bH m:Nat)(s:ag)(ws:List Nat)(W:World)(M9:∀k∈M,k<W.heap.size)(LJ:W.heap[Bs]?=some (.cells #[.pointer (some ⟨y,0,none⟩)] 75 (0,0)))(h:a_ W y lg V bT bH m s)(ht:s.ai.length<=12)(hm:m<=67108864)(u9:∀x∈cX s.aM,x.1.size<256/\x.2.size<256)
  (Xx:∀ss,ss.Perm (s.ai.map (·.1))->ss.Pairwise (·<=·)->waits (yi s.ai ss)=ws) (Vb:∀t∈ws,t<18446744073709551616/\(∀x∈dG (jU s.holds t),gP x)/\(jU s.holds t).length<=16) (Lx:b_ s.holds) (Bf:ws.length<=12) :
  LF Fence.wide n prog 188 #[.pointer (some ⟨Bs,0,none⟩)] (λx:Nat × ByteArray=>#[.int .u8 (x.1:Int),.string x.2]) (rE s ws) (λA=>a_ A y lg V bT bH m s/\A.heap[Bs]?=some (.cells #[.pointer (some ⟨y,0,none⟩)] 75 (0,0))) l M W:=λJ S RG hJ hS yI yJ hY h0=>by
 have an:Fence.wide.round=none:=rfl;have h1:1<=n:=bL;have aQ:Fence.wide.fn 160:=trivial;have dz:Fence.wide.fn 207:=trivial;have fo:Fence.wide.fn 142:=trivial;have dW:Fence.wide.fn 152:=trivial;have f:Fence.wide.fn 190:=trivial;have cO:Fence.wide.fn 189:=trivial;obtain⟨E,T⟩:∃E,E=W.alloc (.cells #[.func (.yield l) #[] #[]] 318):=⟨_,rfl⟩;have bh:Fr [] W E:=by rw[T];exact(lT W).alloc _
 have bY:Boxed E W.heap.size 318 (.func (.yield l) #[] #[]):=by rw[T];exact Boxed.new W _ _
 have df:E.heap.size=W.heap.size+1:=by rw[T];simp
 have tM:Bs<W.heap.size:=(zza.1 LJ).1;have b1:E.heap[Bs]?=some (.cells #[.pointer (some ⟨y,0,none⟩)] 75 (0,0)):=(bh.block Bs tM bR).trans LJ;have cJ:=h.fr bh bR bR bR bR;have c0:=ay b1 0;have c1:=ay cJ.blk 1;simp at c0 c1;rw[T] at c0 c1;refine callsIn_of_wp_marks func188 rfl trivial ?_ an;simp only[ntmps188,mB,zzr,mH,Nat.reduceAdd,Nat.reduceSub,mK,mL,nb,nU,n5,qC]
 gi_wp2_with (gi_at_call 160;refine(x_ _ V _).mono ?_;rintro e w2 ⟨rfl,rfl⟩)
 rw[<-T];have ab:=bY.alloc (.cells #[.map (some V)] 135);have ue:Fr [] W (E.alloc (.cells #[.map (some V)] 135)):=bh.alloc _;have bA:=Boxed.new E 135 (.map (some V));rw[df] at bA;have dT:(E.alloc (.cells #[.map (some V)] 135)).heap.size=W.heap.size+2:=by rw[zzv,df]
 obtain⟨W2,dO⟩:∃W2,W2=E.alloc (.cells #[.map (some V)] 135):=⟨_,rfl⟩;rw[<-dO] at ab ue bA dT ⊢;have H:=af (zzb hJ (zzb RG (zzb hS (zzb yI (zzb yJ M9)))));have HV:Hid (aO KS ES W2 V m s.aM):=(h.fr ue bR bR bR bR).aM;have J0:=af (hJ _ _ _ _ h0 (zzc _) (Bk.fr ue));have HY:=af hY;have HT:=af (zzb ht (zzb Xx (zzb Vb Lx)));clear T dO cJ b1 c0 c1 bh ue h h0 hJ RG bY hS yI yJ hY M9 ht Xx Vb Lx
 refine oP M (λk D=>by have:=H.2.2.2.2.2 k D;omega) an h1 (gf:=207) (lb:=#[.pointer (some ⟨W.heap.size+1,0,none⟩)]) rfl dz (enters_of func207 dJ rfl)
  (encs:=λx:ByteArray × ByteArray=>#[.string x.1,.string x.2]) (rs:=cX s.aM) (Inv:=λ_=>True) (λ_=>rfl)
  (λWx dQ _=>LG (n-1) bL _ _ (W.heap.size+1) V m s.aM hm Wx ((zze (a:=⟨W.heap.size+1,0,none⟩) (dQ.block (W.heap.size+1) bL bR)).trans bA.cell) (HV.out.fr dQ bR))
  (λp z A=>Boxed A W.heap.size 318 (.func (.yield l) #[] #[])/\J p (z.map qs) A) (λz A=>S (z.map qs) A)
  (λq A B hs hz hb=>H.2.2.1 _ _ _ hs bL (hb.mono bL))
  ⟨ab,J0.out⟩ (λ_ _ _ _=>trivial)
  (λp q A B hs hz hb=>⟨hb.block _ _ hs.1 (.inl rfl),H.1 _ _ _ _ hs.2 bL (hb.mono bL)⟩)
  (λp q A B g c t hs hz hf hg hB=>⟨(hf.block _ (zza.1 hs.1).1 bR).trans hs.1,H.2.2.2.1 _ _ _ _ _ _ _ hs.2 bL hf hg hB⟩) (λp q A hs=>H.2.2.2.2.1 _ _ _ hs.2)
  (λx a' A=>a'={ tmps:=#[.func (.yield l) #[] #[],.pointer (some ⟨Bs,0,none⟩),.pointer (some ⟨W.heap.size,0,none⟩),.string x.1,.string x.2,undef,undef,.pointer (some ⟨y,0,none⟩),.pointer (some ⟨y,0,none⟩),.pointer (some ⟨y,1,none⟩),.map (some V),.func (.func 207) #[] #[.pointer (some ⟨W.heap.size+1,0,none⟩)],.string x.1,.string x.2,undef,undef,undef,undef,undef,undef,undef,undef,undef,undef,undef,undef,undef,undef,undef,undef,undef,undef,undef,undef,undef,undef],defers:=[] })
  (λx a' A r hs=>hs)
  ?assign ?body ?done ?stop
 case assign =>
  have jE:=@Oper.semAt_some;rintro p z x A b2 ⟨y1,O⟩ rh dN N
  gi_wp2
  exact N _ _ (Bk.refl _ _) (nk.refl _) rfl
 case body =>
  have jE:=@Oper.semAt_some;rintro p z x a' A ⟨y1,O⟩ rh rfl dN;have v1:=y1.cell;obtain⟨z1,z2⟩:=u9 x (dN.subset bR);have h3:1<=n-1-1:=bL
  have HP:=af (LI s ws dN)
  have R:Hid (∀w,Below A.drew.heap.size A.drew w->w.cell? ⟨W.heap.size,0,none⟩=some (.func (.yield l) #[] #[])/\Fr [] A w/\YieldAt Fence.wide (n-1-1-1) prog l #[.int .u8 4,.string (str (CD x.1 x.2))] w λe K=>e=.returned (.bool true)/\J p (z.map qs++[qs x]) K/\nk w K\/e=.returned (.bool false)/\S (z.map qs++[qs x]) K/\E4 M w K):=λw G=>by
   have f:Fr [] A w:=⟨G.os,G.tape,G.output,G.size,λk D _=>G.block k D⟩;have Ta:=f.size;exact⟨(zze (a:=⟨W.heap.size,0,none⟩) (f.block W.heap.size bL bR)).trans v1,f,sI (HY.out p _ (qs x) w (H.1 _ _ _ _ O bL (Bk.fr f)) bL HP.out)⟩
  have HA:=af y1
  have HE:Hid ((∀w b,Fr [] A w->J p (z.map qs++[qs x]) b->nk w b->(Boxed b W.heap.size 318 (.func (.yield l) #[] #[])/\J p (z.map qs++[qs x]) b)/\nk A b)/\∀w b,Fr [] A w->S (z.map qs++[qs x]) b->E4 M w b->S (z.map qs++[qs x]) b/\E4 M A b):=⟨λw b f rP kW=>by
   have D:nk A b:=(nk.fr f).trans kW
   exact⟨⟨D.same _ _ HA.out rfl,rP⟩,D⟩,λw b f av kW=>⟨av,((nk.fr f).x M).trans kW⟩⟩
  clear y1 O
  gi_wp2
  gi_region_with (first
   |(gi_at_call 189;refine((callsIn_wide (n:=n-1-1-1)).2 (H' x.1 x.2 _ z1 z2)).mono ?_;rintro e w ⟨rfl,G⟩;obtain⟨v7,f,aH,b0,az,aE,hy,xj⟩:=R.out w G)
   |(refine xj.mono ?_;rintro e b M_;obtain⟨C,rfl,E6⟩:=CK M_;clear M_))
  all_goals
   (have HN:Hid (C=true/\(Boxed b W.heap.size 318 (.func (.yield l) #[] #[])/\J p (z.map qs++[qs x]) b)/\nk A b\/C=false/\S (z.map qs++[qs x]) b/\E4 M A b):=E6.elim (λh=>.inl ⟨h.1,HE.1 w b f h.2.1 h.2.2⟩) (λh=>.inr ⟨h.1,HE.2 w b f h.2.1 h.2.2⟩)
    clear HE R HP HA xj hy E6 f G
    cases C
    .gi_wp2
     exact(HN.out.resolve_left (λh=>by cases h.1)).2
    .gi_wp2
     obtain⟨_,q1,U⟩:=HN.out.resolve_right (λh=>by cases h.1)
     exact⟨q1,U⟩)
 case done =>
  rintro p A ⟨y1,O⟩ rh N;obtain⟨je,uE⟩:=H.2.1 _ _ _ O;have Xx:=yH (n-1) bL y lg V bT bH m s A je HT.1;have v1:=ay uE 0;simp at v1;rw[dT] at N rh;have HD:=af (zzb O (zzb y1 N));clear O N y1 je uE
  gi_wp2_with (gi_at_call 142;refine Xx.mono ?_;rintro e Y ⟨v,ss,rfl,p1,p2,aI,dM,h_⟩;have hv:=HT.2.1 ss p1 p2;rw[hv] at aI dM;clear p1 p2 hv;obtain⟨pp,ao,rfl⟩:=hZ aI)
  have a8:Hid (∃I,J I ((cX s.aM).map qs) Y/\(ws.length=0\/∃g P,pp=some ⟨g,0,none⟩/\(g,Obj.cells P 43 (0,0))∈I/\∀(k t:Nat),ws[k]?=some t->P[k]?=some (Value.int .u64 (t:Int)))):=by
   have cO:=Fr.aX h_ [];rcases aI.2 with⟨_,h3⟩|⟨g,fR,P,e,hb,hg,_,_,b3,lK⟩
   .exact⟨p,H.1 _ _ _ _ HD.1 bL (Bk.fr cO),.inl bL⟩
   .refine⟨_,H.2.2.2.1 p _ A Y g P 43 HD.1 bL cO hb hg,.inr ⟨g,P,by have e2:=e;simp at e2;exact e2.1,List.mem_cons_self,λk t D=>?_⟩⟩;have xE:=(zzd.1 D).1;have:(P.toList.take (ws.length*1))[k]?=some (.int .u64 (t:Int)):=by rw[lK];unfold eI;rw[zzy,D];rfl
    rw[List.getElem?_take_of_lt bL] at this
    simpa using this
  obtain⟨I,ad,Xy⟩:=a8.out;have b4:=h_.size;have EH:Hid (J I ((cX s.aM).map qs) Y/\Boxed Y W.heap.size 318 (.func (.yield l) #[] #[])/\Y.heap[W.heap.size+2]?=some (.deferred (some []))/\W.heap.size+3<=Y.heap.size):=⟨ad,(h_.block _ bL).trans HD.2.1,(h_.block _ bL).trans HD.2.2,bL⟩;have HW:=af Xy;clear ad Xy a8 aI dM HD
  gi_loopw [23] (λi wr=>∃j:Nat,j<=ws.length/\i=.int .i64 j/\Hid (J I ((cX s.aM).map qs++(ws.take j).map (LH s)) wr/\Boxed wr W.heap.size 318 (.func (.yield l) #[] #[])/\wr.heap[W.heap.size+2]?=some (.deferred (some []))/\W.heap.size+3<=wr.heap.size)) (λi _=>ws.length-(intOf i).toNat)
  case atStart=>exact⟨0,zzs _,rfl,by rw[List.take_zero,List.map_nil,List.append_nil];exact EH⟩
  case round =>
   obtain⟨j,O,rfl,F⟩:=hrel;by_cases bU:j<ws.length
   .obtain⟨g,P,rfl,CM,hcs⟩:=HW.out.resolve_left bL;obtain⟨t,a1⟩:∃t,ws[j]?=some t:=⟨_,zzg bU⟩;obtain⟨t1,t2,t3⟩:=HT.2.2.1 t (zzh a1);obtain⟨je,uE⟩:=H.2.1 _ _ _ F.1;have cg:wr.cell? ⟨g,j,none⟩=some (.int .u64 (t:Int)):=by rw[ay (H.2.2.2.2.1 _ _ _ F.1 _ CM)];exact hcs j t a1
    have cs:=ay uE 0;simp at cs;have cy:=F.2.1.cell
    have HX:Hid ((ws.take (j+1)).map (LH s)=(ws.take j).map (LH s)++[LH s t]):=by
     show _=_;rw[List.take_add_one,a1];simp
    have HI:Hid (a_ wr.drew y lg V bT bH m s):=je.fr ((lT wr).drew) bR bR bR bR;have aw:m<maxLen:=eA
    have HG:Hid (∀(d:World) o L,aO KS EG d o m L->(∀k,ak L k=ak s.holds (t,k))->dG L=dG (jU s.holds t)/\(∀x∈dG L,gP x)/\L.length<=16):=λd o L hM D=>by
     obtain⟨_,_,_,ho,_⟩:=hM;have e:=PC ho (qq HT.2.2.2 t) (λk=>(D k).trans (mV t k _).symm);refine⟨e,by rw[e];exact t2,?_⟩;have:=congrArg List.length e;unfold dG at this;rw[zzn,zzn,dR,dR] at this;omega
    have R:Hid (∀w,Fr [] wr w->w.cell? ⟨W.heap.size,0,none⟩=some (.func (.yield l) #[] #[])/\YieldAt Fence.wide (n-1) prog l #[.int .u8 1,.string (str (be 8 t++cF (dG (jU s.holds t))))] w λe K=>e=.returned (.bool true)/\J I ((cX s.aM).map qs++(ws.take (j+1)).map (LH s)) K/\nk w K\/e=.returned (.bool false)/\S ((cX s.aM).map qs++(ws.take (j+1)).map (LH s)) K/\E4 M w K):=λw f=>by
     have Ta:=f.size;have UO:=F.2.2.2;refine⟨(zze (a:=⟨W.heap.size,0,none⟩) (f.block W.heap.size bL bR)).trans cy,?_⟩;rw[HX.out,<-zzx]
     exact HY.out I _ (LH s t) w (H.1 _ _ _ _ F.1 bL (Bk.fr f)) bL (by
      rw[zzx,<-HX.out]
      exact(List.prefix_append_right_inj _).2 ((List.take_prefix _ _).map _))
    have a6:Hid (∀d,(∃o L,aO KS EG d o m L/\(∀k,ak L k=ak s.holds (t,k))/\Fr [] wr.drew d)->d.cell? ⟨W.heap.size,0,none⟩=some (.func (.yield l) #[] #[])/\Fr [] wr d):=λd ⟨_,_,_,_,dW⟩=>by
     have hf:Fr [] wr d:=((lT wr).drew).trans dW;exact⟨(R.out d hf).1,hf⟩
    have aa:Hid (∀d o L,aO KS EG d o m L->(∀k,ak L k=ak s.holds (t,k))->CallsIn Fence.wide (n-1) prog 190 #[.int .u64 (t:Int),.map (some o)] d λe w'=>e=.returned (.string (str (be 8 t++cF (dG (jU s.holds t)))))/\Below d.heap.size d w'):=λd o L Z Tb=>by
     obtain⟨e6,s6,l6⟩:=HG.out d o L Z Tb;have:=(callsIn_wide (n:=n-1)).2 (tT t o m L hm _ Z t1 s6 l6);rw[e6] at this;exact this
    clear je uE CM hcs a1 t2 t3
    gi_wp2
    refine wpIn_mono (Q:=λe a b=>match e with
     |.normal=>∃(C:Bool) (o:Nat) (u:Value),a={ tmps:=#[.func (.yield l) #[] #[],.pointer (some ⟨Bs,0,none⟩),.pointer (some ⟨W.heap.size,0,none⟩),undef,undef,undef,.int .u64 (t:Int),.pointer (some ⟨y,0,none⟩),.pointer (some ⟨y,0,none⟩),.pointer (some ⟨y,1,none⟩),.map (some V),.func (.func 207) #[] #[.pointer (some ⟨W.heap.size+1,0,none⟩)],undef,undef,undef,undef,undef,undef,undef,undef,.pointer (some ⟨y,0,none⟩),.slice (some ⟨g,0,none⟩) ws.length ao,.int .i64 (ws.length:Int),.int .i64 (j:Int),.bool true,.pointer (some ⟨g,j,none⟩),.int .u64 (t:Int),.func (.yield l) #[] #[],.int .u64 (t:Int),.pointer (some ⟨y,0,none⟩),.int .u64 (t:Int),.map (some o),.string (str (be 8 t++cF (dG (jU s.holds t)))),.bool C,.bool !C,u],defers:=[{ target:=.collected (W.heap.size+2),args:=#[] }] }/\Hid (C=true/\J I ((cX s.aM).map qs++(ws.take (j+1)).map (LH s)) b/\Boxed b W.heap.size 318 (.func (.yield l) #[] #[])/\b.heap[W.heap.size+2]?=some (.deferred (some []))/\W.heap.size+3<=b.heap.size\/C=false/\S ((cX s.aM).map qs++(ws.take (j+1)).map (LH s)) b/\b.heap[W.heap.size+2]?=some (.deferred (some []))/\W.heap.size+3<=b.heap.size)
     |_=>False) ?_ ?_
    .gi_region_with (first
      |(gi_at_call 152;refine((callsIn_wide (n:=n-1)).2 (mU y lg V bT bH m t s _ HI.out t1 aw)).mono ?_;rintro e d ⟨o,L,rfl,_,Z,Tb,dW⟩;obtain⟨v6,U5⟩:=a6.out d ⟨o,L,Z,Tb,dW⟩;have a7:=af (zzb Z Tb);clear Z Tb dW)
      |(gi_at_call 190;refine(aa.out d o L a7.1 a7.2).mono ?_;rintro e w ⟨rfl,G⟩;have f:Fr [] wr w:=U5.trans (Fr.aX G []);obtain⟨v7,aH,b0,az,aE,hy,xj⟩:=R.out w f)
      |(refine xj.mono ?_;rintro e b M_;obtain⟨C,rfl,E6⟩:=CK M_;clear M_))
     all_goals
      (refine⟨C,_,_,rfl,?_⟩
       show C=true/\J I ((cX s.aM).map qs++(ws.take (j+1)).map (LH s)) b/\Boxed b W.heap.size 318 (.func (.yield l) #[] #[])/\b.heap[W.heap.size+2]?=some (.deferred (some []))/\W.heap.size+3<=b.heap.size\/C=false/\S ((cX s.aM).map qs++(ws.take (j+1)).map (LH s)) b/\b.heap[W.heap.size+2]?=some (.deferred (some []))/\W.heap.size+3<=b.heap.size;obtain⟨_,U,q3,q4⟩:=F.out;have zz:=f.size;have e2:w.heap[W.heap.size+2]?=some (.deferred (some [])):=(f.block _ bL bR).trans q3;have e3:w.heap[W.heap.size]?=_:=(f.block _ bL bR).trans U;rcases E6 with⟨r1,r2,X⟩|⟨r1,r2,X⟩
       .exact .inl ⟨r1,r2,X.same _ _ e3 rfl,X.same _ _ e2 rfl,by have:=X.size;omega⟩
       .exact .inr ⟨r1,r2,X.same _ _ (λD=>by have:=H.2.2.2.2.2 _ D;omega) e2 rfl,by have:=X.size;omega⟩)
    .rintro e a3 b h3
     cases e with
     |normal =>
      obtain⟨C,o,u,rfl,HN⟩:=h3;clear R HG HI a6 aa
      cases C
      .gi_wp2
       obtain⟨_,q1,U,q3⟩:=HN.out.resolve_left (λh=>by cases h.1);refine⟨bR,.inl ⟨_,_,rfl,run_takeDeferred U,?_⟩⟩;refine⟨_,results_none rfl _ _ _,⟨_,rfl⟩,.inr ⟨_,(List.prefix_append_right_inj _).2 ((List.take_prefix (j+1) ws).map (LH s)),H.2.2.1 _ _ _ q1 bL (Bk.put U rfl bL _)⟩⟩
      .gi_wp2
       have al:j+1<=ws.length/\ws.length-(j+1)<ws.length-j:=⟨bU,Nat.sub_succ_lt_self _ _ bU⟩
       go_roundw
       .exact⟨j+1,al.1,bR,(HN.out.resolve_right (λh=>by cases h.1)).2⟩
       .simp[intOf];exact al.2
     |_=>exact h3.elim
   .obtain rfl:j=ws.length:=bL;gi_wp2
    refine⟨bR,.inl ⟨_,_,rfl,run_takeDeferred F.2.2.1,?_⟩⟩;refine⟨_,results_none rfl _ _ _,⟨_,rfl⟩,.inl ⟨I,H.1 _ _ _ _ (by have:=F.1;rw[List.take_length] at this;exact this) (by have:=F.2.2.2;omega) (Bk.put F.2.2.1 rfl bL _)⟩⟩
 case stop =>
  rintro z A dN hs rh N;refine⟨bR,.inl ⟨_,_,rfl,run_takeDeferred N,?_⟩⟩;refine⟨_,results_none rfl _ _ _,⟨_,rfl⟩,.inr ⟨z.map qs,(dN.map qs).trans (List.prefix_append _ _),H.2.2.1 _ _ _ hs bL (Bk.put N rfl (by rw[dT];omega) _)⟩⟩
end
end Go.Proofs.YtcalalndmcemiaaGreatDoor
