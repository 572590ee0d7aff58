import Derived.Test.YtdcafjmdfpjcbaaGreatDoorC42
set_option maxHeartbeats 8000000
set_option maxRecDepth 100000
namespace Go.Proofs.YtdcafjmdfpjcbaaGreatDoor
open Go.RowKit Go.Maps Tryz Sc
section
open Go.Shelf
def r9(x:ByteArray × ByteArray):Nat × ByteArray:=(4,str (p7 x.1 x.2))
def Oz(s:ag)(t:Nat):Nat × ByteArray:=(1,yR t (gG s.holds t))
def kZ(s:ag)(ws:List Nat):List (Nat × ByteArray):=(dy s.aS).map r9++ws.map (Oz s)
theorem OA(s:ag)(ws:List Nat){pre:List (ByteArray×ByteArray)}{x:ByteArray×ByteArray}(h:pre++[x]<+:dy s.aS):pre.map r9++[r9 x]<+:kZ s ws:=by
 have:=h.map r9;rw[List.map_append]at this;exact this.trans<|List.prefix_append _ _
theorem Sj{e:Ending}{Y N:Prop}(h:e=.returned (.bool true)/\Y\/e=.returned (.bool false)/\N):∃b:Bool,e=.returned (.bool b)/\(b=true/\Y\/b=false/\N):=by grind
theorem Km(n:Nat)(hn:14<=n)(l:Nat)(ls:List Nat)(Bs sp lg bV bT bH m:Nat)(s:ag)(ws:List Nat)(W:World)(TI:∀k∈ls,k<W.heap.size)(hBs:W.heap[Bs]?=some (.cells #[.pointer (some ⟨sp,0,none⟩)] 60 (0,0)))(h:bC W sp lg bV bT bH m s)(ht:s.af.length<=12)(hm:m<=1000000000)(CO:∀x∈dy s.aS,x.1.size<256/\x.2.size<256)
  (hwt:∀ss,ss.Perm (s.af.map (·.1))->ss.Pairwise (·<=·)->waits (wW s.af ss)=ws) (hws:∀t∈ws,t<18446744073709551616/\(∀x∈b9 (gG s.holds t),gz x)/\(gG s.holds t).length<=16) (U0:aV s.holds) (hwl:ws.length<=12) :
  Vc Fence.wide n prog 193 #[.pointer (some ⟨Bs,0,none⟩)] (λx:Nat × ByteArray=>#[.int .u8 (x.1:Int),.string x.2]) (kZ s ws) (λA=>bC A sp lg bV bT bH m s/\A.heap[Bs]?=some (.cells #[.pointer (some ⟨sp,0,none⟩)] 60 (0,0))) l ls W:=λJ S hJi hJ hS Re Rf hY h0=>by
 have hro:Fence.wide.round=none:=rfl;have h1:1<=n:=oE;have cA:Fence.wide.fn 124:=trivial;have dD:Fence.wide.fn 172:=trivial;have kN:Fence.wide.fn 75:=trivial;have oz:Fence.wide.fn 190:=trivial;have lX:Fence.wide.fn 192:=trivial;have kP:Fence.wide.fn 194:=trivial;obtain⟨W1,jf⟩:∃W1,W1=W.alloc (.cells #[.func (.yield l) #[] #[]] 307):=⟨_,rfl⟩;have bF:Fr [] W W1:=by rw[jf];exact(lE W).alloc _
 have bY:Boxed W1 W.heap.size 307 (.func (.yield l) #[] #[]):=by rw[jf];exact Boxed.new W _ _
 have d_:W1.heap.size=W.heap.size+1:=by rw[jf];simp
 have zM:Bs<W.heap.size:=(zza.1 hBs).1;have b1:W1.heap[Bs]?=some (.cells #[.pointer (some ⟨sp,0,none⟩)] 60 (0,0)):=(bF.block Bs zM sE).trans hBs;have fZ:=h.fr bF sE sE sE sE;have c0:=aP b1 0;have c1:=aP fZ.blk 1;simp at c0 c1;rw[jf] at c0 c1;refine callsIn_of_wp_marks func193 rfl trivial ?_ hro;simp only[ntmps193,mJ,zzr,mV,Nat.reduceAdd,Nat.reduceSub,m7,m8,n8,oS,p5,qS]
 gi_wp2_with (gi_at_call 124;refine(zO _ bV _).mono ?_;rintro e w2 ⟨rfl,rfl⟩)
 rw[<-jf];have bY2:=bY.alloc (.cells #[.map (some bV)] 143);have Zm:Fr [] W (W1.alloc (.cells #[.map (some bV)] 143)):=bF.alloc _;have bA:=Boxed.new W1 143 (.map (some bV));rw[d_] at bA;have cC:(W1.alloc (.cells #[.map (some bV)] 143)).heap.size=W.heap.size+2:=by rw[zzv,d_]
 obtain⟨W2,iY⟩:∃W2,W2=W1.alloc (.cells #[.map (some bV)] 143):=⟨_,rfl⟩;rw[<-iY] at bY2 Zm bA cC ⊢;have HJ:=ae (zzb hJ (zzb hJi (zzb hS (zzb Re (zzb Rf TI)))));have HV:Hid (bB KS ES W2 bV m s.aS):=(h.fr Zm sE sE sE sE).aS;have J0:=ae (hJ _ _ _ _ h0 (zzc _) (Bk.fr Zm));have HY:=ae hY;have HT:=ae (zzb ht (zzb hwt (zzb hws U0)));clear jf iY fZ b1 c0 c1 bF Zm h h0 hJ hJi bY hS Re Rf hY TI ht hwt hws U0
 refine vB ls (λk hk=>by have:=HJ.2.2.2.2.2 k hk;omega) hro h1 (gf:=172) (lb:=#[.pointer (some ⟨W.heap.size+1,0,none⟩)]) rfl dD (enters_of func172 k6 rfl)
  (encs:=λx:ByteArray × ByteArray=>#[.string x.1,.string x.2]) (rs:=dy s.aS) (Inv:=λ_=>True) (λ_=>rfl)
  (λWx iA _=>N2 (n-1) oE _ _ (W.heap.size+1) bV m s.aS hm Wx ((zze (a:=⟨W.heap.size+1,0,none⟩) (iA.block (W.heap.size+1) oE sE)).trans bA.cell) (HV.out.fr iA sE))
  (λp pre A=>Boxed A W.heap.size 307 (.func (.yield l) #[] #[])/\J p (pre.map r9) A) (λpre A=>S (pre.map r9) A)
  (λq A B hs hz hb=>HJ.2.2.1 _ _ _ hs oE (hb.mono oE))
  ⟨bY2,J0.out⟩ (λ_ _ _ _=>trivial)
  (λp q A B hs hz hb=>⟨hb.block _ _ hs.1 (.inl rfl),HJ.1 _ _ _ _ hs.2 oE (hb.mono oE)⟩)
  (λp q A B g c t hs hz hf hg hB=>⟨(hf.block _ (zza.1 hs.1).1 sE).trans hs.1,HJ.2.2.2.1 _ _ _ _ _ _ _ hs.2 oE hf hg hB⟩) (λp q A hs=>HJ.2.2.2.2.1 _ _ _ hs.2)
  (λx a' A=>a'={ tmps:=#[.func (.yield l) #[] #[],.pointer (some ⟨Bs,0,none⟩),.pointer (some ⟨W.heap.size,0,none⟩),.string x.1,.string x.2,undef,undef,.pointer (some ⟨sp,0,none⟩),.pointer (some ⟨sp,0,none⟩),.pointer (some ⟨sp,1,none⟩),.map (some bV),.func (.func 172) #[] #[.pointer (some ⟨W.heap.size+1,0,none⟩)],.string x.1,.string x.2,undef,undef,undef,undef,undef,undef,undef,undef,undef,undef,undef,undef,undef,undef,undef,undef,undef,undef,undef,undef,undef,undef],defers:=[] })
  (λx a' A r hs=>hs)
  ?assign ?body ?done ?stop
 case assign =>
  have o9:=@Oper.semAt_some;rintro p pre x A K ⟨y1,hj⟩ Mn dM hK
  gi_wp2
  exact hK _ _ (Bk.refl _ _) (yi.refl _) rfl
 case body =>
  have o9:=@Oper.semAt_some;rintro p pre x a' A ⟨y1,hj⟩ Mn rfl dM;have v1:=y1.cell;obtain⟨z1,z2⟩:=CO x (dM.subset sE);have h3:1<=n-1-1:=oE
  have HP:=ae (OA s ws dM)
  have HB:Hid (∀w7,Below A.drew.heap.size A.drew w7->w7.cell? ⟨W.heap.size,0,none⟩=some (.func (.yield l) #[] #[])/\Fr [] A w7/\YieldAt Fence.wide (n-1-1-1) prog l #[.int .u8 4,.string (str (p7 x.1 x.2))] w7 λe W'=>e=.returned (.bool true)/\J p (pre.map r9++[r9 x]) W'/\yi w7 W'\/e=.returned (.bool false)/\S (pre.map r9++[r9 x]) W'/\LZ ls w7 W'):=λw7 sX=>by
   have lX:Fr [] A w7:=⟨sX.os,sX.tape,sX.output,sX.size,λk hk _=>sX.block k hk⟩;have hz7:=lX.size;exact⟨(zze (a:=⟨W.heap.size,0,none⟩) (lX.block W.heap.size oE sE)).trans v1,lX,mN (HY.out p _ (r9 x) w7 (HJ.1 _ _ _ _ hj oE (Bk.fr lX)) oE HP.out)⟩
  have HA:=ae y1
  have HE:Hid ((∀w7 W3,Fr [] A w7->J p (pre.map r9++[r9 x]) W3->yi w7 W3->(Boxed W3 W.heap.size 307 (.func (.yield l) #[] #[])/\J p (pre.map r9++[r9 x]) W3)/\yi A W3)/\∀w7 W3,Fr [] A w7->S (pre.map r9++[r9 x]) W3->LZ ls w7 W3->S (pre.map r9++[r9 x]) W3/\LZ ls A W3):=⟨λw7 W3 lX BS kM=>by
   have hk:yi A W3:=(yi.fr lX).trans kM
   exact⟨⟨hk.same _ _ HA.out rfl,BS⟩,hk⟩,λw7 W3 lX hS3 kM=>⟨hS3,((yi.fr lX).x ls).trans kM⟩⟩
  clear y1 hj
  gi_wp2
  gi_region_with (first
   |(gi_at_call 194;refine((callsIn_wide (n:=n-1-1-1)).2 (JI x.1 x.2 _ z1 z2)).mono ?_;rintro e w7 ⟨rfl,sX⟩;obtain⟨v7,lX,yfn,ytm,yas,ybo,hy,BR⟩:=HB.out w7 sX)
   |(refine BR.mono ?_;rintro e W3 Xd;obtain⟨bb,rfl,Zn⟩:=Sj Xd;clear Xd))
  all_goals
   (have HN:Hid (bb=true/\(Boxed W3 W.heap.size 307 (.func (.yield l) #[] #[])/\J p (pre.map r9++[r9 x]) W3)/\yi A W3\/bb=false/\S (pre.map r9++[r9 x]) W3/\LZ ls A W3):=Zn.elim (λh=>.inl ⟨h.1,HE.1 w7 W3 lX h.2.1 h.2.2⟩) (λh=>.inr ⟨h.1,HE.2 w7 W3 lX h.2.1 h.2.2⟩)
    clear HE HB HP HA BR hy Zn lX sX
    cases bb
    .gi_wp2
     exact(HN.out.resolve_left (λh=>by cases h.1)).2
    .gi_wp2
     obtain⟨_,q1,q2⟩:=HN.out.resolve_right (λh=>by cases h.1)
     exact⟨q1,q2⟩)
 case done =>
  rintro p A ⟨y1,hj⟩ Mn hK;obtain⟨jc,yf⟩:=HJ.2.1 _ _ _ hj;have hwt:=zT (n-1) oE sp lg bV bT bH m s A jc HT.1;have v1:=aP yf 0;simp at v1;rw[cC] at hK Mn;have HD:=ae (zzb hj (zzb y1 hK));clear hj hK y1 jc yf
  gi_wp2_with (gi_at_call 75;refine hwt.mono ?_;rintro e w5 ⟨v,ss,rfl,p1,p2,aC,eQ,lr⟩;have hv:=HT.2.1 ss p1 p2;rw[hv] at aC eQ;clear p1 p2 hv;obtain⟨pp,cap,rfl⟩:=rG aC)
  have HP5:Hid (∃p',J p' ((dy s.aS).map r9) w5/\(ws.length=0\/∃g cur,pp=some ⟨g,0,none⟩/\(g,Obj.cells cur 34 (0,0))∈p'/\∀(k t:Nat),ws[k]?=some t->cur[k]?=some (Value.int .u64 (t:Int)))):=by
   have kP:=Fr.bw lr [];rcases aC.2 with⟨_,h3⟩|⟨g,fW,cur,e,hb,hg,_,_,hsz,pV⟩
   .exact⟨p,HJ.1 _ _ _ _ HD.1 oE (Bk.fr kP),.inl oE⟩
   .refine⟨_,HJ.2.2.2.1 p _ A w5 g cur 34 HD.1 oE kP hb hg,.inr ⟨g,cur,by have e2:=e;simp at e2;exact e2.1,List.mem_cons_self,λk t hk=>?_⟩⟩;have mB:=(zzd.1 hk).1;have:(cur.toList.take (ws.length*1))[k]?=some (.int .u64 (t:Int)):=by rw[pV];unfold dh;rw[zzy,hk];rfl
    rw[List.getElem?_take_of_lt oE] at this
    simpa using this
  obtain⟨p',hJ5,Zo⟩:=HP5.out;have hz5:=lr.size;have Jo:Hid (J p' ((dy s.aS).map r9) w5/\Boxed w5 W.heap.size 307 (.func (.yield l) #[] #[])/\w5.heap[W.heap.size+2]?=some (.deferred (some []))/\W.heap.size+3<=w5.heap.size):=⟨hJ5,(lr.block _ oE).trans HD.2.1,(lr.block _ oE).trans HD.2.2,oE⟩;have HW:=ae Zo;clear hJ5 Zo HP5 aC eQ HD
  gi_loopw [23] (λi wr=>∃j:Nat,j<=ws.length/\i=.int .i64 j/\Hid (J p' ((dy s.aS).map r9++(ws.take j).map (Oz s)) wr/\Boxed wr W.heap.size 307 (.func (.yield l) #[] #[])/\wr.heap[W.heap.size+2]?=some (.deferred (some []))/\W.heap.size+3<=wr.heap.size)) (λi _=>ws.length-(intOf i).toNat)
  case atStart=>exact⟨0,zzs _,rfl,by rw[List.take_zero,List.map_nil,List.append_nil];exact Jo⟩
  case round =>
   obtain⟨j,hj,rfl,hQ⟩:=hrel;by_cases bP:j<ws.length
   .obtain⟨g,cur,rfl,hgp,hcs⟩:=HW.out.resolve_left oE;obtain⟨t,htj⟩:∃t,ws[j]?=some t:=⟨_,zzg bP⟩;obtain⟨t1,t2,t3⟩:=HT.2.2.1 t (zzh htj);obtain⟨jc,yf⟩:=HJ.2.1 _ _ _ hQ.1;have cg:wr.cell? ⟨g,j,none⟩=some (.int .u64 (t:Int)):=by rw[aP (HJ.2.2.2.2.1 _ _ _ hQ.1 _ hgp)];exact hcs j t htj
    have cs:=aP yf 0;simp at cs;have cy:=hQ.2.1.cell
    have HX:Hid ((ws.take (j+1)).map (Oz s)=(ws.take j).map (Oz s)++[Oz s t]):=by
     show _=_;rw[List.take_add_one,htj];simp
    have HI:Hid (bC wr.drew sp lg bV bT bH m s):=jc.fr ((lE wr).drew) sE sE sE sE;have hm9:m<maxLen:=mE
    have HG:Hid (∀(w6:World) b6 L6,bB KS EG w6 b6 m L6->(∀k,aj L6 k=aj s.holds (t,k))->b9 L6=b9 (gG s.holds t)/\(∀x∈b9 L6,gz x)/\L6.length<=16):=λw6 b6 L6 hM hk=>by
     obtain⟨_,_,_,ho,_⟩:=hM;have e:=Si ho (nP HT.2.2.2 t) (λk=>(hk k).trans (lz t k _).symm);refine⟨e,by rw[e];exact t2,?_⟩;have:=congrArg List.length e;unfold b9 at this;rw[zzn,zzn,dR,dR] at this;omega
    have HB:Hid (∀w7,Fr [] wr w7->w7.cell? ⟨W.heap.size,0,none⟩=some (.func (.yield l) #[] #[])/\YieldAt Fence.wide (n-1) prog l #[.int .u8 1,.string (str (be 8 t++bW (b9 (gG s.holds t))))] w7 λe W'=>e=.returned (.bool true)/\J p' ((dy s.aS).map r9++(ws.take (j+1)).map (Oz s)) W'/\yi w7 W'\/e=.returned (.bool false)/\S ((dy s.aS).map r9++(ws.take (j+1)).map (Oz s)) W'/\LZ ls w7 W'):=λw7 lX=>by
     have hz7:=lX.size;have hzr:=hQ.2.2.2;refine⟨(zze (a:=⟨W.heap.size,0,none⟩) (lX.block W.heap.size oE sE)).trans cy,?_⟩;rw[HX.out,<-zzx]
     exact HY.out p' _ (Oz s t) w7 (HJ.1 _ _ _ _ hQ.1 oE (Bk.fr lX)) oE (by
      rw[zzx,<-HX.out]
      exact(List.prefix_append_right_inj _).2 ((List.take_prefix _ _).map _))
    have HH6:Hid (∀w6,(∃b6 L6,bB KS EG w6 b6 m L6/\(∀k,aj L6 k=aj s.holds (t,k))/\Fr [] wr.drew w6)->w6.cell? ⟨W.heap.size,0,none⟩=some (.func (.yield l) #[] #[])/\Fr [] wr w6):=λw6 ⟨_,_,_,_,oz⟩=>by
     have hf:Fr [] wr w6:=((lE wr).drew).trans oz;exact⟨(HB.out w6 hf).1,hf⟩
    have HP6:Hid (∀w6 b6 L6,bB KS EG w6 b6 m L6->(∀k,aj L6 k=aj s.holds (t,k))->CallsIn Fence.wide (n-1) prog 192 #[.int .u64 (t:Int),.map (some b6)] w6 λe w'=>e=.returned (.string (str (be 8 t++bW (b9 (gG s.holds t)))))/\Below w6.heap.size w6 w'):=λw6 b6 L6 hM6 hk6=>by
     obtain⟨e6,s6,l6⟩:=HG.out w6 b6 L6 hM6 hk6;have:=(callsIn_wide (n:=n-1)).2 (vy t b6 m L6 hm _ hM6 t1 s6 l6);rw[e6] at this;exact this
    clear jc yf hgp hcs htj t2 t3
    gi_wp2
    refine wpIn_mono (Q:=λe a W3=>match e with
     |.normal=>∃(bb:Bool) (b6:Nat) (u:Value),a={ tmps:=#[.func (.yield l) #[] #[],.pointer (some ⟨Bs,0,none⟩),.pointer (some ⟨W.heap.size,0,none⟩),undef,undef,undef,.int .u64 (t:Int),.pointer (some ⟨sp,0,none⟩),.pointer (some ⟨sp,0,none⟩),.pointer (some ⟨sp,1,none⟩),.map (some bV),.func (.func 172) #[] #[.pointer (some ⟨W.heap.size+1,0,none⟩)],undef,undef,undef,undef,undef,undef,undef,undef,.pointer (some ⟨sp,0,none⟩),.slice (some ⟨g,0,none⟩) ws.length cap,.int .i64 (ws.length:Int),.int .i64 (j:Int),.bool true,.pointer (some ⟨g,j,none⟩),.int .u64 (t:Int),.func (.yield l) #[] #[],.int .u64 (t:Int),.pointer (some ⟨sp,0,none⟩),.int .u64 (t:Int),.map (some b6),.string (str (be 8 t++bW (b9 (gG s.holds t)))),.bool bb,.bool !bb,u],defers:=[{ target:=.collected (W.heap.size+2),args:=#[] }] }/\Hid (bb=true/\J p' ((dy s.aS).map r9++(ws.take (j+1)).map (Oz s)) W3/\Boxed W3 W.heap.size 307 (.func (.yield l) #[] #[])/\W3.heap[W.heap.size+2]?=some (.deferred (some []))/\W.heap.size+3<=W3.heap.size\/bb=false/\S ((dy s.aS).map r9++(ws.take (j+1)).map (Oz s)) W3/\W3.heap[W.heap.size+2]?=some (.deferred (some []))/\W.heap.size+3<=W3.heap.size)
     |_=>False) ?_ ?_
    .gi_region_with (first
      |(gi_at_call 190;refine((callsIn_wide (n:=n-1)).2 (nG sp lg bV bT bH m t s _ HI.out t1 hm9)).mono ?_;rintro e w6 ⟨b6,L6,rfl,_,hM6,hk6,oz⟩;obtain⟨v6,Yw⟩:=HH6.out w6 ⟨b6,L6,hM6,hk6,oz⟩;have HM6:=ae (zzb hM6 hk6);clear hM6 hk6 oz)
      |(gi_at_call 192;refine(HP6.out w6 b6 L6 HM6.1 HM6.2).mono ?_;rintro e w7 ⟨rfl,sX⟩;have lX:Fr [] wr w7:=Yw.trans (Fr.bw sX []);obtain⟨v7,yfn,ytm,yas,ybo,hy,BR⟩:=HB.out w7 lX)
      |(refine BR.mono ?_;rintro e W3 Xd;obtain⟨bb,rfl,Zn⟩:=Sj Xd;clear Xd))
     all_goals
      (refine⟨bb,_,_,rfl,?_⟩
       show bb=true/\J p' ((dy s.aS).map r9++(ws.take (j+1)).map (Oz s)) W3/\Boxed W3 W.heap.size 307 (.func (.yield l) #[] #[])/\W3.heap[W.heap.size+2]?=some (.deferred (some []))/\W.heap.size+3<=W3.heap.size\/bb=false/\S ((dy s.aS).map r9++(ws.take (j+1)).map (Oz s)) W3/\W3.heap[W.heap.size+2]?=some (.deferred (some []))/\W.heap.size+3<=W3.heap.size;obtain⟨_,q2,q3,q4⟩:=hQ.out;have zz:=lX.size;have e2:w7.heap[W.heap.size+2]?=some (.deferred (some [])):=(lX.block _ oE sE).trans q3;have e3:w7.heap[W.heap.size]?=_:=(lX.block _ oE sE).trans q2;rcases Zn with⟨r1,r2,r3⟩|⟨r1,r2,r3⟩
       .exact .inl ⟨r1,r2,r3.same _ _ e3 rfl,r3.same _ _ e2 rfl,by have:=r3.size;omega⟩
       .exact .inr ⟨r1,r2,r3.same _ _ (λhk=>by have:=HJ.2.2.2.2.2 _ hk;omega) e2 rfl,by have:=r3.size;omega⟩)
    .rintro e a3 W3 h3
     cases e with
     |normal =>
      obtain⟨bb,b6,u,rfl,HN⟩:=h3;clear HB HG HI HH6 HP6
      cases bb
      .gi_wp2
       obtain⟨_,q1,q2,q3⟩:=HN.out.resolve_left (λh=>by cases h.1);refine⟨sE,.inl ⟨_,_,rfl,run_takeDeferred q2,?_⟩⟩;refine⟨_,results_none rfl _ _ _,⟨_,rfl⟩,.inr ⟨_,(List.prefix_append_right_inj _).2 ((List.take_prefix (j+1) ws).map (Oz s)),HJ.2.2.1 _ _ _ q1 oE (Bk.put q2 rfl oE _)⟩⟩
      .gi_wp2
       have Mo:j+1<=ws.length/\ws.length-(j+1)<ws.length-j:=⟨bP,Nat.sub_succ_lt_self _ _ bP⟩
       go_roundw
       .have y:=(HN.out.resolve_right (λh=>by cases h.1)).2;refine⟨j+1,Mo.1,sE,?_⟩;first|exact y|rw[List.map_take] at y;exact y
       .simp[intOf];exact Mo.2
     |_=>exact h3.elim
   .obtain rfl:j=ws.length:=oE;gi_wp2
    refine⟨sE,.inl ⟨_,_,rfl,run_takeDeferred hQ.2.2.1,?_⟩⟩;refine⟨_,results_none rfl _ _ _,⟨_,rfl⟩,.inl ⟨p',HJ.1 _ _ _ _ (by have:=hQ.1;rw[List.take_length] at this;exact this) (by have:=hQ.2.2.2;omega) (Bk.put hQ.2.2.1 rfl oE _)⟩⟩
 case stop =>
  rintro pre A dM hs Mn hK;refine⟨sE,.inl ⟨_,_,rfl,run_takeDeferred hK,?_⟩⟩;refine⟨_,results_none rfl _ _ _,⟨_,rfl⟩,.inr ⟨pre.map r9,(dM.map r9).trans (List.prefix_append _ _),HJ.2.2.1 _ _ _ hs oE (Bk.put hK rfl (by rw[cC];omega) _)⟩⟩
theorem Dc{s:ag}{w:List Nat}{e:Nat×ByteArray}(h:e∈kZ s w):e.1<126:=by
 unfold kZ at h;obtain h|h:=zzo.1 h
 .obtain⟨x,_,rfl⟩:=zzq.1 h;show 4<126;omega
 .obtain⟨x,_,rfl⟩:=zzq.1 h;show 1<126;omega
def Sr(n g:Nat)(l:aq)(d:ah)(es:List (Nat × ByteArray)):Prop :=
 (l.notes d (eT es)).2.2=0->g<=(l.notes d (eT es)).1.segs.length/\n+3*(es.length+2)+2+(l.notes d (eT es)).1.segs.length<=1000000000 /\
   ((l.notes d (eT es)).1.failed=0->bU (l.notes d (eT es)).1.segs l.next≠0->(l.notes d (eT es)).1.pZ (l.notes d (eT es)).2.1 (bU (l.notes d (eT es)).1.segs l.next) ((l.notes d (eT es)).1.segs.getD (bU (l.notes d (eT es)).1.segs l.next) 0)<=g) /\
   ((l.notes d (eT es)).1.failed=0->∀k s:Nat,(l.notes d (eT es)).1.segs[k]?=some s->∃r rs,(l.notes d (eT es)).1.recs=r :: rs/\r.cQ<=s/\s-r.cQ<(l.notes d (eT es)).1.recs.length)
structure abB(s:ag)(ws:List Nat):Prop where
 len:s.af.length<=12
 aS:∀x∈dy s.aS,x.1.size<256/\x.2.size<256
 wait:∀ss,ss.Perm (s.af.map (·.1))->ss.Pairwise (·<=·)->waits (wW s.af ss)=ws
 held:∀t∈ws,t<2^64/\(∀x∈b9 (gG s.holds t),gz x)/\(gG s.holds t).length<=16
 once:aV s.holds
 few:ws.length<=12
theorem abC(B a f V T H m i p D bN n g:Nat)(s:ag)(b:List Nat)(l:aq)(d:ah)(w:World)(h:SL w B a f V T H m i p D bN n s l d)(P:m<=1000000000)(I:abB s b)(R:l.filled<600->l.segs≠[])(hn:n+3*((kZ s b).length+2)+2+g<=1000000000)(hcut:Sr n g l d<|kZ s b)(C:2<=B)(Y:B<=a/\B<=V/\B<=T/\B<=H)(M:dw w):
  Calls prog 92 #[rM a] w λe w'=>e=.returned (cj (l.eZ d<|(kZ s b).map xF).2.2)/\SL w' B a f V T H m i p D bN (n+3*((kZ s b).length+2)+2+g) s (l.eZ d<|(kZ s b).map xF).1 (l.eZ d<|(kZ s b).map xF).2.1/\lH a V T H i p w w':=by
 have B_:2<=w.heap.size:=by have⟨y,v,u,x,N,c⟩:=h.lg;have:=c.bE.base.2.2.2;omega
 have G:=aa h.sh.blk 0;simp at G;rw[iw h.CM]at G;have⟨W,j⟩:∃W,W=w.drew.alloc (.cells #[.pointer<|some ⟨a,0,none⟩] 60):=⟨_,rfl⟩;have U:Fr [] w W:=by rw[j];exact((lE w).drew).alloc _
 have⟨k,o⟩:=h.new U;have⟨y,v,u,x,N,c⟩:=k.lg;have F:W.heap[w.heap.size]?=some (.cells #[.pointer<|some (dH a)] 60 (0,0)):=by rw[j];exact heap_alloc_new w.drew _
 have Q:∀A,kI i p W A->bC A a f V T H m s/\A.heap[w.heap.size]?=some (.cells #[.pointer<|some (dH a)] 60 (0,0)):=λA z=>⟨(k.sh.BG c k.ap z).1,(z.kpo c).same _ _ F rfl⟩
 have S:=(callsIn_wide).1 (abA 16 (zzc _) B f i p D bN n x N g 193 #[rM w.heap.size] y v u l d (kZ s b) _ W k.ap.lW c C (by have:=U.size;omega) R (h.p6 o C Y M) (enters_of func193 k6 rfl) (λe L=>Dc L) Q
  (λl' Z W' O t=>Km 15 oE l' Z w.heap.size a f V T H m s b W' O t.2 t.1 I.len P I.aS I.wait I.held I.once I.few) hn hcut)
 have UR:=(callsIn_wide).1<|JJ 1 a w.drew;have r:=aa k.sh.blk 0;simp at r;rw[iw h.CM]at r;have X:=ae<|zzb k o;clear h k o c F U Q I hcut
 go_enter func92,ntmps92;go_wp2;go_region_held3 (λw'=>w'.cell? (dH a)=some (.pointer<|some (dH f))) (simp[*])
  (first
   |(go_at_call 146;apply UR.mono;rintro e w1 ⟨rfl,sw⟩;rw[<-j]at sw;subst sw;clear j)
   |(go_at_call 145;apply S.mono;rintro e w2 ⟨rfl,eN,iH⟩;have⟨q,K⟩:=X.1.log iH eN;have J:=aa q.sh.blk 0;simp at J;rw[iw q.CM]at J;have E:=ae (zzb q (X.2.trans K));clear q K eN iH))
 all_goals
  (go_wp2
   go_ret;exact⟨rfl,E.1,E.2⟩)
end
variable{T c t:Nat}{R:aK}{x y:a_}{s:ag}
theorem OP(R:aK):R.rest.rest=R.rest:=by
 unfold aK.rest;simp only[List.filter_filter,Bool.and_self]
theorem k7(R:aK):R.rest.table=R.table:=rfl
theorem g_(R:aK):R.rest.waiting=R.waiting:=by
 unfold aK.waiting;show((R.af.filter _).filter _).map _=_;rw[List.filter_filter];simp only[Bool.and_self]
theorem gP:t∈R.waiting↔∃x∈R.af,x.st=3/\x.id=t:=by grind[aK.waiting]
theorem fc{a:aK}(h:R.rest=a.rest):R.waiting=a.waiting:=by grind[g_]
def Uni(cs:List aK):Prop:=∀R∈cs,∀a∈cs,R.table=a.table->R.waiting=a.waiting->R.rest=a.rest
structure Hi(cs:List aK)(us:List Nat):Prop where
 use:∀R∈cs,∀t∈R.waiting,t∈us
 ZE:Uni cs
structure tB(m:aK)(cs:List aK)(us:List Nat):Prop where
 ku:Hi cs us
 sub:∀R∈cs,∀t∈m.waiting,t∈R.waiting
 Ik:∀x∈m.af,x.st≠3->x.id∉us
 last:∃R∈cs,R.rest=m.rest
theorem Uni.snoc{cs:List aK}{m:aK}(h:Uni cs)(hn:∀R∈cs,R.table=m.table->R.waiting=m.waiting->R.rest=m.rest):Uni (cs++[m]):=by
 intro R a b E c d;obtain a|a:=zzo.1 a
 .rcases zzo.1 E with E|E
  .exact h R a b E c d
  .grind
 .grind
theorem zq(m:aK):Uni [m]:=by
 intro R h a E _ _;simp at h E;rw[h,E]
section
variable{m m':aK}{cs:List aK}{us:List Nat}{t:Nat}
theorem tB.Bt(h:tB m cs us):∀t∈m.waiting,t∈us:=λt b=>by
 have⟨R,a,r⟩:=h.last;exact h.ku.use R a t<|by rw[fc r];exact b
theorem tB.work(h:tB m cs us)(e:m'.rest=m.rest)(w:∀x∈m'.af,x.st≠3->x.id∉us):tB m' cs us:=by
 have b:=fc e;refine⟨h.ku,λR a t c=>h.sub R a t<|by rw[<-b];exact c,w,?_⟩;have⟨R,a,r⟩:=h.last;exact⟨R,a,r.trans e.symm⟩
theorem tB.less(h:tB m cs us)(f:t∈m.waiting)(w:∀u,u∈m'.waiting↔u∈m.waiting/\u≠t)(k:∀x∈m'.af,x.st≠3->x∈m.af):tB m' (cs++[m']) us where
 ku:=⟨λR a u b=>by
   obtain a|a:=zzo.1 a
   .exact h.ku.use R a u b
   .simp at a;subst a;exact h.Bt u ((w u).1 b).1,
  h.ku.ZE.snoc λR a _ e=>by
   have:=h.sub R a t f;rw[e]at this;exact absurd rfl ((w t).1 this).2⟩
 sub:=λR a u b=>by
  obtain a|a:=zzo.1 a
  .exact h.sub R a u ((w u).1 b).1
  .simp at a;subst a;exact b
 Ik:=λx d c=>h.Ik x (k x d c) c
 last:=⟨m',sE,rfl⟩
theorem tB.Xn(h:tB m cs us)(w:∀u,u∈m'.waiting->u∈m.waiting)(k:∀x∈m'.af,x.st≠3->x∈m.af):tB m' [m'] us where
 ku:=⟨λR a u b=>by simp at a;subst a;exact h.Bt u<|w u b,zq m'⟩
 sub:=λR a u b=>by simp at a;subst a;exact b
 Ik:=λx d c=>h.Ik x (k x d c) c
 last:=⟨m',sE,rfl⟩
theorem tB.more(h:tB m cs us)(w:∀u,u∈m'.waiting->u∈m.waiting\/u=t)(k:∀x∈m'.af,x.st≠3->x∈m.af/\x.id≠t):tB m' [m'] (us++[t]) where
 ku:=⟨λR b u c=>by
   simp at b;subst b;obtain e|e:=w u c
   .simp[h.Bt u e]
   .simp[e],zq m'⟩
 sub:=λR b u c=>by simp at b;subst b;exact c
 Ik:=λx g d a=>by
  have⟨f,i⟩:=k x g d;obtain a|a:=zzo.1 a
  .exact h.Ik x f d a
  .simp at a;exact i a
 last:=⟨m',sE,rfl⟩
theorem tB.abT(h:tB m cs us)(d:t∉us)(b:t∈m'.waiting)(w:∀u,u∈m'.waiting->u∈m.waiting\/u=t):Hi (cs++[m']) (us++[t]):=
 ⟨λR a u c=>by
   obtain a|a:=zzo.1 a
   .simp[h.ku.use R a u c]
   .simp at a;subst a;obtain e|e:=w u c
    .simp[h.Bt u e]
    .simp[e],
  h.ku.ZE.snoc λR a _ e=>by
   rw[<-e]at b;exact absurd (h.ku.use R a t b) d⟩
theorem tB.abU(h:tB m cs us):Hi (cs++[m]) us:=
 ⟨λR a u b=>by
   obtain a|a:=zzo.1 a
   .exact h.ku.use R a u b
   .simp at a;subst a;exact h.Bt u b,
  h.ku.ZE.snoc λR a d e=>by
   have⟨Q,c,q⟩:=h.last;have t:Q.table=m.table:=by rw[<-k7 Q,q,k7]
   rw[h.ku.ZE R a Q c (d.trans t.symm) (e.trans (fc q).symm),q]⟩
theorem tB.abV(h:tB m cs us):tB m [m] us:=h.Xn (λ_ h=>h) λ_ h _=>h
theorem Hi.anew{R0 R:aK}(h:Hi cs us)(d:R0∈cs)(c:R∈cs)(i:R.table=R0.table)(g:R.waiting=R0.waiting):R.rest=R0.rest/\tB R.rest [R.rest] us:=by
 refine⟨h.ZE R c R0 d i g,⟨⟨λQ a u b=>?_,zq _⟩,λQ a u b=>?_,λx e f=>?_,⟨R.rest,sE,rfl⟩⟩⟩
 .simp at a;subst a;rw[g_]at b;exact h.use R c u b
 .grind
 .have:=(zzp.1 e).2;exact absurd (by simpa using this) f
end
theorem Xo(h:Gd c T s R):(kZ s R.waiting).map xF=Sd R (λt=>gG s.holds t):=by
 unfold kZ Sd;rw[List.map_append,List.map_map,List.map_map,<-h.rel.table];congr 1;unfold aK.waiting aK.rest;rw[List.map_map];rfl
theorem abW(h:Gd c T s R)(e:Vs R):abB s R.waiting where
 len:=h.len
 aS:=λx b=>by
  rw[<-h.rel.table]at b;have a:=h.keys x b;have d:=e x b;omega
 wait:=λss a d=>h.rel.waiting a d
 held:=λt g=>by
  obtain⟨x,b,_,rfl⟩:=gP.1 g;refine⟨(h.rel.ok x b).Ef,λy f=>?_,?_⟩
  .have a:=nP h.rel.o2 x.id;have m:=bS a<|oA a f;rw[lz]at m;exact h.holds<|bJ m
  .have:=h.count x.id;unfold ag.count at this;unfold gG;rw[zzn];omega
 once:=h.rel.o2;few:=by
  have a:=h.rel.len;have d:R.waiting.length<=R.af.length:=by grind[aK.waiting]
  omega
theorem S_(h:Gd c T s R):(kZ s R.waiting).length<=R.table.length+12:=by
 have a:=h.rel.len;have b:R.waiting.length<=R.af.length:=by grind[aK.waiting]
 unfold kZ;rw[zzi,zzn,zzn,<-h.rel.table];omega
def tC:List a_->Nat
 |[]=>0
 |x :: xs=>x.ak.length+tC xs
def aK.nS(R:aK):Nat:=R.table.length+tC R.af
theorem pI(p:a_->Bool):∀xs:List a_,tC (xs.filter p)<=tC xs
 |[]=>zzc _
 |x::xs=>by
  have h:=pI p xs;rw[List.filter_cons];split
  .simp only[tC];omega
  .simp only[tC];omega
theorem ux:∀a b:List a_,tC (a++b)=tC a+tC b
 |[],b=>by simp[tC]
 |x::a,b=>by simp only[List.cons_append,tC,ux a b];omega
theorem Hj(h:x.eF=some y):y.ak=x.ak:=by grind[a_.eF]
theorem Hk:∀xs:List a_,tC (xs.filterMap a_.eF)<=tC xs
 |[]=>zzc _
 |x::xs=>by
  have h:=Hk xs;rw[List.filterMap_cons];split
  .simp only[tC];omega
  .rename_i y hy;simp only[tC,Hj hy];omega
theorem MD:∀{xs:List a_},x∈xs->x.id=t->tC (del xs t)+x.ak.length<=tC xs
 |[],h,_=>by cases h
 |y::ys,h,e=>by
  unfold del;rw[List.filter_cons];have f:=pI (λy=>!decide (y.id=t)) ys;obtain rfl|h:=zzj.1 h
  .rw[if_neg<|by simp[e]];simp only[tC];omega
  .have ih:=MD h e;unfold del at ih;split
   .simp only[tC];omega
   .simp only[tC];omega
theorem Ta(R:aK):R.rest.nS<=R.nS:=by grind[pI,aK.nS,aK.rest]
theorem Tb(R:aK):R.tick.nS<=R.nS:=by grind[Hk,aK.nS,aK.tick]
theorem wa(R:aK)(t:Nat):(⟨R.table,del R.af t⟩:aK).nS<=R.nS:=by grind[pI,aK.nS,del]
theorem KG(R:aK)(t:Nat):(R.cR t).1.nS<=R.nS:=by
 unfold aK.cR;split
 .grind
 .split
  .grind
  .rename_i x hx;split
   .have h1:=rT x.ak R.table;have h:=MD (aN hx).1 (aN hx).2;unfold aK.nS;simp only;omega
   .grind
theorem Hl:∀{xs:List a_},(∀z∈xs,z.id≠y.id)->tC (fH xs y)=tC xs
 |[],_=>rfl
 |z::zs,h=>by
  have a:(fH (z::zs) y)=z::fH zs y:=by
   unfold fH;rw[List.map_cons,if_neg<|h z sE]
  rw[a];simp only[tC,Hl (xs:=zs) λq b=>h q<|by simp[b]]
theorem zr:∀{xs:List a_},jg xs->x∈xs->x.id=y.id->tC (fH xs y)+x.ak.length=tC xs+y.ak.length
 |[],_,h,_=>by cases h
 |z::zs,ha,h,e=>by
  have⟨a,c⟩:=zzA.1 ha;obtain rfl|h:=zzj.1 h
  .have h1:(fH (x::zs) y)=y::fH zs y:=by
    unfold fH;rw[List.map_cons,if_pos e]
   rw[h1];have d:=Hl (y:=y) (xs:=zs) (λq b=>by have:=a q b;omega);simp only[tC,d];omega
  .have h1:(fH (z::zs) y)=z::fH zs y:=by
    unfold fH;rw[List.map_cons,if_neg<|by have:=a x h;omega]
   rw[h1];have ih:=zr c h e;simp only[tC];omega
theorem yC(R:aK)(t:Nat)(a:jg R.af):(R.aO t).1.nS<=R.nS:=by
 unfold aK.aO;split
 .grind
 .split
  .grind
  .rename_i x hx;split
   .grind
   .split
    .exact wa R t
    .split
     .have:=zr (y:=x.ready) a (aN hx).1 rfl;have e:x.ready.ak=x.ak:=rfl;rw[e]at this;unfold aK.nS;simp only;omega
     .exact wa R t
theorem VY(xs:List a_)(x:a_):tC (ins xs x)=tC xs+x.ak.length:=by
 have h:=ux (xs.takeWhile λy=>decide<|y.id<x.id)<|xs.dropWhile λy=>decide<|y.id<x.id;rw[List.takeWhile_append_dropWhile]at h;unfold ins;rw[ux];simp only[tC];omega
theorem Dr(xs:List a_)(t:Nat):tC (began xs t)=tC xs:=by grind[began,VY]
theorem ZF{seq:Int}{k:ByteArray}{wr:Bool}{f:List aJ->List aJ}(a:jg R.af)(h:∀s,(f s).length<=s.length+1):(R.op t seq k wr f).1.nS<=R.nS+1:=by
 have b:=a.began t;have J:aU (began R.af t) t=some (R.tx t):=by rw[pw,if_pos rfl];rfl
 have⟨m,i⟩:=aN J;unfold aK.op;split
 .split
  .grind [zr,Dr,a_.dQ,aK.nS]
  .have:=zr (y:=(R.tx t).worked f) b m rfl;rw[Dr]at this;have e:((R.tx t).worked f).ak.length<=(R.tx t).ak.length+1:=h _;unfold aK.nS;simp only;omega
 .grind
section
variable{l:aq}{d:ah}
theorem Ds{c:Nat}(C:List Nat)(h:d.Calm<|c+2)(a:c+2<4398046511103):(l.put d C).2.1.Calm c:=by
 have r:(l.room d).2.2=0/\(l.room d).2.1.Calm (c+1):=by
  unfold aq.room;split
  .exact⟨rfl,h.mono oE⟩
  .grind [mU]
 unfold aq.put;rw[if_pos r.1];exact(oK ⟨2,ar<|(l.room d).1.segs.getLastD 0,yA,str C⟩ r.2 oE).2.2
theorem Hm{c:Nat}{r:aq×ah×Nat}(h:d.Calm c)(a:r.2.1.Calm c):(l.wr d r).2.1.Calm c:=by grind[aq.wr]
theorem xM{c:Nat}(kind:Nat)(s:ByteArray)(f:l.failed=0)(h:d.Calm<|c+2)(a:c+2<4398046511103):((l.note d kind s).2.2≠9/\(l.note d kind s).2.2≠10)/\(l.note d kind s).2.1.Calm c:=by
 refine⟨GZ kind s f<|h.mono oE,?_⟩;show(l.append d kind s).2.1.Calm c;unfold aq.append;split
 .exact h.mono oE
 .split
  .exact Hm (h.mono oE)<|Ds _ h a
  .exact Hm (h.mono oE)<|Ds _ h a
theorem Dt{kind:Nat}{s:ByteArray}(h:(l.note d kind s).2.2=0):(l.note d kind s).1.failed=0:=by
 have a:(l.append d kind s).2.2.2=0:=h;show(l.append d kind s).1.failed=0;clear h;unfold aq.append at *;by_cases b:255<s.size
 .grind
 .grind [ax,bytesOf,oL]
theorem OQ(kind:Nat)(s:ByteArray)(f:l.failed=0)(h:d.Calm 3):(l.keep d kind s).2.2≠9/\(l.keep d kind s).2.2≠10:=by
 have⟨a,b⟩:=xM kind s f h oE;unfold aq.keep;split
 .grind [Kf,Dt]
 .exact a
theorem uy:∀(es:List<|Nat×ByteArray) {l:aq} {d:ah} {c:Nat},l.failed=0->d.Calm (c+2*es.length)->c+2*es.length<4398046511103->((l.notes d es).2.2≠9/\(l.notes d es).2.2≠10)/\((l.notes d es).2.2=0->(l.notes d es).1.failed=0/\(l.notes d es).2.1.Calm c)
 |[],l,d,c,hf,h,_=>⟨⟨by show(0:Nat)≠9;omega,by show(0:Nat)≠10;omega⟩,λ_=>⟨hf,(by simpa using h:d.Calm c)⟩⟩
 |e::r,l,d,c,hf,h,hc=>by
  have b:(e::r).length=r.length+1:=rfl;rw[b]at h hc;obtain⟨f,g⟩:=xM (c:=c+2*r.length) e.1 e.2 hf (h.mono (by omega)) (by omega);show((if _ then _ else _:aq×ah×Nat).2.2≠9/\_)/\_;by_cases a:(l.note d e.1 e.2).2.2=0
  .have er:l.notes d (e::r)=((l.note d e.1 e.2).1).notes (l.note d e.1 e.2).2.1 r:=by show(if _ then _ else _)=_;rw[if_pos a]
   rw[er,if_pos a];exact uy r (Dt a) g oE
  .have er:l.notes d (e::r)=l.note d e.1 e.2:=by show(if _ then _ else _)=_;rw[if_neg a]
   rw[er,if_neg a];exact⟨f,λi=>absurd i a⟩
theorem OS(es:List<|Nat×ByteArray)(f:l.failed=0)(h:∀c,d.Calm c)(a:es.length<=1000000)(s:(l.notes d ((254,yA)::es++[(255,yA)])).1.segs.length<1000000000):(l.eZ d es).2.2≠9/\(l.eZ d es).2.2≠10:=by
 have hn:=uy ((254,yA)::es++[(255,yA)]) (c:=6+(l.notes d ((254,yA)::es++[(255,yA)])).1.segs.length) f (h _) (by
  have e:((254,yA)::es++[(255,yA)]:List<|Nat×ByteArray).length=es.length+2:=sE
  rw[e]
  omega)
 unfold aq.eZ;split
 .grind [R8]
 .exact hn.1
end
end Go.Proofs.YtdcafjmdfpjcbaaGreatDoor
