import Derived.Test.YtlgeloebpdmnnaaGreatDoorC25
set_option maxHeartbeats 4000000
set_option maxRecDepth 100000
namespace Go.Proofs.YtlgeloebpdmnnaaGreatDoor
open Go.RowKit Go.Maps Tryz Sc
section
open Go.Shelf
abbrev Yu(p:Nat):Value:=.func (.func 145) #[gx p] #[]
structure ZW(I:List Rec->nL->Prop)(cp bT n:Nat)(R:au × aj × Nat):Prop where
 adG:∀r∈R.1.recs,r.kind<256
 first:(h_ R.1.recs).2.1=0->pF R.1.recs R.1.next=1
 X8:∀r∈R.1.recs,mG r.pay/\r.pay.length<=4096
 rd:∀pre x n fp A,pre++[x] <+: counted R.1.recs->I pre A->cp<n->bT<n->g_ n A fp x.pay->Calls prog 145 #[gx cp,.int .u8 ((x.kind%128:Nat):Int),gx fp] A λe w'=>e=.returned (.bool true)/\I (pre++[x]) w'/\Fr [fp,cp,bT] A w'
 le:n<=1000000000
def adH(I:List Rec->nL->Prop)(B p b a c T:Nat)(R:au × aj × Nat)(n:Nat)(w:nL)(e:Ending)(w':nL):Prop :=
 (R.2.2=0/\∃g l,e=.returned (.tuple #[gx g,.nilIface])/\I (counted R.1.recs) w'/\(∃pv s v D N,aM w' B l p b a pv s v R.1 R.2.1 n D N)/\w'.heap[g]?=some (C5 l)/\w.heap.size<=g/\Px p [c,T] w w'/\∀k,k<w.heap.size->Own l p w' k->nj p w k) \/
 (R.2.2≠0/\e=.returned (.tuple #[.pointer none,bB R.2.2])/\(∃pv D N,aC w' B p b a pv R.2.1 n D N)/\qQ p w w')
theorem Dh(N:Nat)(hN:14<=N)(B p bD bN f T:Nat)(Pr:au × aj × Nat->Nat->Prop)(I:List Rec->nL->Prop)(w:nL)(Wo:I [] w)(O:∀G A A',I G A->A.heap.size<=A'.heap.size->(∀k∈[f,T],A'.heap[k]?=A.heap[k]?)->I G A')(jY:∃cs,w.heap[f]?=some (.cells cs 194 (0,0)))(aa:∃es c,w.heap[T]?=some (.map es c))(hd:∃pv d n nD nN,aC w B p bD bN pv d n nD nN)(ab:T≠bD/\T≠bN)
  (hJ:∀W,Fr [] w W->Calls prog 87 #[fS p] W λe w'=>∃R n,Pr R n/\uf B p bD bN n R W e w') (hR:∀R n,Pr R n->R.2.2=0->ZW I f T n R) :
  CallsIn Fence.wide N prog 143 #[fS p,Yu f] w λe w'=>∃R n,Pr R n/\adH I B p bD bN f T R n w e w':=by
 have aW:Fence.wide.round=none:=rfl;have h1:1<=N:=dp;have cY:Fence.wide.fn 87:=trivial;have bH:Fence.wide.fn 207:=trivial;have fu:Fence.wide.fn 208:=trivial;have iI:Fence.wide.fn 209:=trivial;have iR:Fence.wide.fn 264:=trivial;have l:Fence.wide.fn 210:=trivial;have U:Fence.wide.fn 145:=trivial;obtain⟨cs,jY⟩:=jY;obtain⟨bK,bF,aa⟩:=aa;have bp:f<w.heap.size:=(zza.1 jY).1;have bo:T<w.heap.size:=(zza.1 aa).1;obtain⟨C,gZ⟩:∃C,C=((w.alloc (.cells #[Yu f] 191)).alloc (.cells #[.pointer none] 186)).alloc (.cells #[.nilIface] 74):=⟨_,rfl⟩;have m:Fr [] w C:=by rw[gZ];exact(((fU w).alloc _).alloc _).alloc _
 have ni:C.heap.size=w.heap.size+3:=by rw[gZ];simp
 have r0:C.heap[w.heap.size]?=some (.cells #[Yu f] 191 (0,0)):=by rw[gZ,zzf _ _ w.heap.size ef,zzf _ _ w.heap.size dv];exact oz w _
 have r1:C.heap[w.heap.size+1]?=some (.cells #[.pointer none] 186 (0,0)):=by
  rw[gZ,zzf _ _ (w.heap.size+1) dv];have:=oz (w.alloc (.cells #[Yu f] 191)) (.cells #[.pointer none] 186)
  rwa [zzv] at this
 have r2:C.heap[w.heap.size+2]?=some (.cells #[.nilIface] 74 (0,0)):=by
  rw[gZ];have:=oz ((w.alloc (.cells #[Yu f] 191)).alloc (.cells #[.pointer none] 186)) (.cells #[.nilIface] 74)
  rwa [zzv,zzv] at this
 have aE:=(yY (n:=N-1)).2 (hJ C m);have aX:=(m.block f bp dv).trans jY;have b3:=(m.block T bo dv).trans aa;have ad:I [] C:=O [] w C Wo m.size (λk h=>m.block k (by simp at h;omega) dv);obtain⟨bX,d0,n0,bO,bR,uh⟩:=hd;have Q:=uh.new m;refine callsIn_of_wp_marks func143 rfl trivial ?_ aW;simp only[ntmps143,ji,zzr,jn,Nat.reduceAdd,Nat.reduceSub,mK,jo,j7,j8,kV,lC]
 gi_wp2_with fail
 rw[<-gZ];refine aE.mono ?_;clear aE gZ;rintro e b ⟨R,n,Ej,⟨lx,lp,rfl,qM,⟨pv,sv,rv,nD,nN,eK⟩,oG,ng⟩|⟨lx,rfl,adI,oG⟩⟩
 rotate_left
 focus
  rw[aV lx];have H:=(oG.block _ dp (Q.kD r1 du du)).trans r1;have J:=(oG.block _ dp (Q.kD r2 du du)).trans r2;have u1:=af H 0;have u2:=af J 0;have f1:=aq H 0;have f2:=aq J 0;simp at u1 u2 f1 f2;have UM:qQ p w b:=⟨oG.os.trans m.os,oG.tape.trans m.tape,oG.output.trans m.output,by have:=oG.size;omega,λk h o=>(oG.block k dp (λqy=>o ((uh.fI k).2 ((Q.fI k).1 qy)))).trans (m.block k h dv),λk h o=>(uh.fI k).2 ((Q.fI k).1 (oG.stay k dp o))⟩;have HE:Hid (Pr R n/\(∃pv nD nN,aC b B p bD bN pv R.2.1 n nD nN)/\qQ p w b/\R.2.2≠0):=⟨Ej,adI,UM,lx⟩;have bW:w.heap.size+2<b.heap.size:=by have:=oG.size;omega
  clear oG adI UM Ej hR hJ ad Q uh r0 r1 r2 m;obtain⟨j,F⟩:∃j,j=(b.setCell ⟨w.heap.size+1,0,none⟩ (.pointer none)).setCell ⟨w.heap.size+1+1,0,none⟩ (bB R.2.2):=⟨_,rfl⟩;have l:Fr [w.heap.size+1,w.heap.size+2] b j:=by rw[F];exact(Fr.cG dv _ _).trans (Fr.cG dv _ _)
  have s1:j.heap[w.heap.size+1]?=some (.cells #[.pointer none] 186 (0,0)):=by
   rw[F];have:=aF H 0 (.pointer none);rw[wg _ _ _ _ (by show w.heap.size+1≠w.heap.size+1+1;omega)]
   simpa using this
  have s2:j.heap[w.heap.size+1+1]?=some (.cells #[bB R.2.2] 74 (0,0)):=by
   rw[F];have ao:(b.setCell ⟨w.heap.size+1,0,none⟩ (.pointer none)).heap[w.heap.size+1+1]?=some (.cells #[.nilIface] 74 (0,0)):=(wg _ _ _ _ (by show w.heap.size+1+1≠w.heap.size+1;omega)).trans J;have:=aF ao 0 (bB R.2.2)
   simpa using this
  have HF:Hid ((∃pv nD nN,aC j B p bD bN pv R.2.1 n nD nN)/\qQ p w j):=by
   obtain⟨_,⟨mj,nK,nG,g1⟩,E,_⟩:=HE.out
   have g6:=g1.beside l (λk h=>by
    simp at h;rcases h with rfl|rfl
    .exact⟨_,_,H,du,du,du⟩
    .exact⟨_,_,J,du,du,du⟩)
   refine⟨⟨mj,nK,nG,g6⟩,l.os.trans E.os,l.tape.trans E.tape,l.output.trans E.output,zzk E.size l.size,λk h o=>(l.block k (by have:=E.size;omega) ef).trans (E.block k h o),λk h o=>E.stay k h ((g1.fI k).2 ((g6.fI k).1 o))⟩
  have z1:=af s1 0;have z2:=af s2 0;simp at z1 z2;clear l s1 s2 H J;rw[aV HE.2.2.2] at F
  gi_wp2
  rw[<-F];refine⟨.tuple #[.pointer none,bB R.2.2],?_,R,n,HE.1,.inr ⟨HE.2.2.2,rfl,HF.1,HF.2⟩⟩;simp only[results,f143];simp[go_sem,z1,z2]
 obtain⟨UK,aI,Ot,bb,hn⟩:=hR R n Ej lx
 have Z:∀k∈[f,T,w.heap.size,w.heap.size+1,w.heap.size+2],b.heap[k]?=C.heap[k]?:=by
  intro k h;simp at h;rcases h with rfl|rfl|rfl|rfl|rfl
  .exact oG.block _ dp (Q.kD aX du du)
  .exact oG.block _ dp (Q.Tp ⟨_,_,b3⟩ ab.1 ab.2)
  .exact oG.block _ dp (Q.kD r0 du du)
  .exact oG.block _ dp (Q.kD r1 du du)
  .exact oG.block _ dp (Q.kD r2 du du)
 have rT:I [] b:=O [] C b ad oG.size (λk h=>Z k (by simp at h ⊢;omega));have bf:=(Z f dv).trans aX;have bl:=(Z T dv).trans b3;have q0:=(Z w.heap.size dv).trans r0;have H:=(Z (w.heap.size+1) dv).trans r1;have J:=(Z (w.heap.size+2) dv).trans r2;have bu:=oG.size
 have xr:Px p [f,T] w b:=⟨oG.os.trans m.os,oG.tape.trans m.tape,oG.output.trans m.output,dp,λk h o _=>(oG.block k dp (λqy=>o (by
  have:=(Q.fI k).1 qy
  exact(uh.fI k).2 this))).trans (m.block k h dv)⟩
 have pS:∀k,k<w.heap.size->Own lp p b k->nj p w k:=λk h o=>(uh.fI k).2 ((Q.fI k).1 (ng k dp o))
 have b8:=eK.own;clear oG Z r0 r1 r2 m ad Q uh ng;obtain⟨g,fj⟩:∃g,g=b.alloc (C5 lp):=⟨_,rfl⟩;have z:Fr [] b g:=by rw[fj];exact(fU b).alloc _
 have bx:g.heap.size=b.heap.size+1:=by rw[fj];simp
 have E:g.heap[b.heap.size]?=some (C5 lp):=by rw[fj];exact oz b _
 have Y:=eK.new z;have nH:I [] g:=O [] b g rT z.size (λk h=>z.block k (by simp at h;omega) dv);have bg:=(z.block f dp dv).trans bf;have bm:=(z.block T dp dv).trans bl;have a7:lQ g lp rv R.1.recs:=⟨(zza.1 Y.blk).1,by have:=af Y.blk 3;simpa using this,Ln Y.recs⟩;have b5:g.cell? ⟨lp,4,none⟩=some (.int .u64 (R.1.next:Int)):=by have:=af Y.blk 4;simpa using this
 have aA:g.cell? ⟨b.heap.size,0,none⟩=some (.pointer (some ⟨lp,0,none⟩)):=by have:=af E 0;simpa using this
 have hlen:R.1.recs.length<=1000000000:=by have:=Y.iC;omega
 have jY:=Ei (N-1) dp b.heap.size lp rv R.1.recs hlen g aA a7;have b0:=(z.block w.heap.size dp dv).trans q0;have b1:=(z.block (w.heap.size+1) dp dv).trans H;have b2:=(z.block (w.heap.size+2) dp dv).trans J;clear q0 H J
 gi_wp2_with fail
 have av:g=b.alloc (.cells #[.pointer (some ⟨lp,0,none⟩)] 273):=fj;rw[<-av];refine jY.mono ?_;clear jY fj av;rintro e w3 ⟨rfl,iL⟩;have V9:=iL.size;obtain⟨X,ax⟩:∃X,X=(h_ R.1.recs).2.1:=⟨_,rfl⟩;obtain⟨ce,ay⟩:∃ce,ce=(h_ R.1.recs).2.2:=⟨_,rfl⟩;rw[<-ax] at aI ⊢;rw[<-ay];clear ax ay;refine(Decidable.em (X=0)).elim (λLS=>?_) (λLS=>?_)
 focus
  have ag:(X:Int)=0:=dp;have b9:((X:Int)==0)=true:=beq_iff_eq.2 ag;have ae:=Lj (N-1) dp lp R.1.next rv R.1.recs hlen w3 (a7.below iL) ((iL.cell (p:=⟨lp,4,none⟩) a7.lt).trans b5);rw[aI LS] at ae
  gi_wp2_with fail
  refine ae.mono ?_;clear ae;rintro e v ⟨rfl,adK⟩;have nM:Below g.heap.size g v:=iL.trans (adK.mono V9);clear adK
 rotate_left
 focus
  obtain⟨v,NB⟩:∃v,v=w3:=⟨_,rfl⟩;have ag:¬(X:Int)=0:=dp;have b9:((X:Int)==0)=false:=oT.2 ag;have nM:Below g.heap.size g v:=by rw[NB];exact iL
  rw[<-NB];clear NB
 all_goals
  have bz:=nM.size;have gI:=Pq (N-1) b.heap.size v
  gi_wp2_with fail
  refine gI.mono ?_;clear gI;rintro e i ⟨rfl,Rn⟩;have Ro:Below g.heap.size g i:=by rw[Rn];exact nM.alloc dp _
  have bc:i.heap.size=v.heap.size+1:=by rw[Rn];simp
  have a5:i.heap[v.heap.size]?=some (.cells #[.pointer (some ⟨b.heap.size,0,none⟩)] 186 (0,0)):=by rw[Rn];exact oz v _
  have y:Fr [] g i:=Fr.bE Ro [];have Kh:=Y.new y;have b6:I [] i:=O [] g i nH y.size (λk h=>y.block k (by simp at h;omega) dv);have al:=(y.block f dp dv).trans bg;have an:=(y.block T dp dv).trans bm;have b4:=a7.below Ro;have g5:=(y.block b.heap.size dp dv).trans E;have c0:=(y.block w.heap.size dp dv).trans b0;have c1:=(y.block (w.heap.size+1) dp dv).trans b1;have c2:=(y.block (w.heap.size+2) dp dv).trans b2;have Yv:Px p [f,T] w i:=⟨y.os.trans (z.os.trans xr.os),y.tape.trans (z.tape.trans xr.tape),y.output.trans (z.output.trans xr.output),dp,λk h o q=>(y.block k dp dv).trans ((z.block k dp dv).trans (xr.block k h o q))⟩;clear Rn Ro y Y nH a7 E b0 b1 b2 xr iL nM b5 aA eK rT z
  gi_wp2
  have z4:i.cell? ⟨v.heap.size,0,none⟩=some (.pointer (some ⟨b.heap.size,0,none⟩)):=by have:=af a5 0;simpa using this
  have z5:i.cell? ⟨b.heap.size,0,none⟩=some (.pointer (some ⟨lp,0,none⟩)):=by have:=af g5 0;simpa using this
  have a8:∀{k:Nat} {c:Array Value} {t:TypeId} {fr:Nat × Nat},i.heap[k]?=some (.cells c t fr)->t≠194->k∉[f,T]:=by
   intro k c t fr h ht hm;simp at hm;rcases hm with e|e
   .rw[e,al] at h;cases h;exact ht rfl
   .rw[e,an] at h;cases h
  have b7:∀k∈rowsOf rv,k∉[f,T]:=λk h=>by
   simp[rowsOf] at h;obtain⟨c,hc⟩:=aL Kh.recs h;exact a8 hc du
  refine rI aW h1 (gf:=264) (lb:=#[.pointer (some ⟨v.heap.size,0,none⟩)]) rfl iR (enters_of func264 eu rfl)
   (encs:=λx:Rec=>#[.int .u8 ((x.kind%128:Nat):Int),.string (str x.pay)]) (rs:=counted R.1.recs) (S:=rowsOf rv) (λ_=>rfl) b4.rows
   (λWx k9 _=>UL (N-1) dp _ v.heap.size b.heap.size lp rv R.1.recs hlen UK Wx ((k9.cell (p:=⟨v.heap.size,0,none⟩) (by show v.heap.size<_;omega)).trans z4) ((k9.cell (p:=⟨b.heap.size,0,none⟩) (by show b.heap.size<_;omega)).trans z5) (b4.below k9))
   (λG A=>I G A/\Fr [f,T] i A)
   (λWx k9=>⟨O [] i Wx b6 k9.size (λk h=>k9.block k (by simp at h;omega)),Fr.bE k9 _⟩)
   (λs A B u hb=>⟨O s A B u.1 hb.size (λk h=>hb.block k (by simp at h;omega)),⟨hb.os.trans u.2.os,hb.tape.trans u.2.tape,hb.output.trans u.2.output,zzk u.2.size hb.size,λk h q=>(hb.block k dp).trans (u.2.block k h q)⟩⟩)
   (λs A r u=>⟨O s A _ u.1 (by rw[cJ];exact zzc _) (λk h=>qY (by simp at h;omega)),⟨u.2.os,u.2.tape,u.2.output,by rw[cJ];exact u.2.size,λk h q=>(qY dp).trans (u.2.block k h q)⟩⟩)
   (λx a' A=>∃t0 t1 t2 t3 t4 t5 u0 u1 u2 u3 u4,a'={ tmps:=#[fS p,Yu f,undef,.pointer (some ⟨w.heap.size,0,none⟩),.pointer (some ⟨w.heap.size+1,0,none⟩),.pointer (some ⟨w.heap.size+1+1,0,none⟩),.pointer (some ⟨lp,0,none⟩),.nilIface,.pointer (some ⟨b.heap.size,0,none⟩),u2,.int .u64 (ce:Int),.int .u8 ((x.kind%128:Nat):Int),.string (str x.pay),.tuple #[.pointer (some ⟨lp,0,none⟩),.nilIface],fS p,.tuple #[.pointer (some ⟨lp,0,none⟩),.nilIface],.pointer (some ⟨lp,0,none⟩),.nilIface,.nilIface,.bool false,undef,.pointer (some ⟨lp,0,none⟩),.agg #[.pointer (some ⟨lp,0,none⟩)],.pointer (some ⟨b.heap.size,0,none⟩),u0,.pointer (some ⟨b.heap.size,0,none⟩),u1,u3,.int .u64 (ce:Int),u4,t0,t1,t2,t3,t4,t5,undef,.pointer (some ⟨b.heap.size,0,none⟩),.func (.func 264) #[] #[.pointer (some ⟨v.heap.size,0,none⟩)],.int .u8 ((x.kind%128:Nat):Int),.string (str x.pay),undef,undef,undef,undef,undef,undef,undef,undef],defers:=[] })
   (λx a' A r u=>u)
   ?assign ?body ?done
  case assign =>
   have pV:=@Bg;rintro G x A bq hI ym eN hK
   gi_wp2
   exact hK _ _ hI (oy.refl _ _ _) ⟨_,_,_,_,_,_,_,_,_,_,_,rfl⟩
  case body =>
   have pV:=@Bg;rintro G x a' A ⟨l6,vG⟩ ym ⟨t0,t1,t2,t3,t4,t5,u0,u1,u2,u3,u4,rfl⟩ eN;have hx:x∈R.1.recs:=(zzp.1 (eN.subset dv)).1;obtain⟨y1,y2⟩:=Ot x hx;have bt:=vG.size;have v0:A.cell? ⟨w.heap.size,0,none⟩=some (Yu f):=by have:=af ((vG.block w.heap.size dp (a8 c0 du)).trans c0) 0;simpa using this
   have h3:1<=N-1-1:=dp;have HI:Hid (I G A/\Fr [f,T] i A):=⟨l6,vG⟩
   have HB:Hid (∀(L M:nL) (fp:Nat),A.heap.size<=fp->Fr [] A.drew L->I (G++[x]) M->Fr [fp,f,T] L M->(I (G++[x]) M/\Fr [f,T] i M)/\oy i.heap.size (rowsOf rv) A M):=by
    intro L M fp rV D Dg K;have bA:A.heap.size<=L.heap.size:=D.size;have blk:∀k,k<A.heap.size->k∉[f,T]->M.heap[k]?=A.heap[k]?:=λk h q=>(K.block k dp (by simp at q ⊢;omega)).trans (D.block k h dv)
    refine⟨⟨Dg,K.os.trans (D.os.trans vG.os),K.tape.trans (D.tape.trans vG.tape),K.output.trans (D.output.trans vG.output),by have:=K.size;have:=vG.size;omega,λk h q=>(blk k dp q).trans (vG.block k h q)⟩,by have:=K.size;omega,λk h bW=>blk k bW ef,λk h bW=>blk k bW (b7 k h)⟩
   clear l6 vG
   gi_wp2
   gi_region_with (first
    |(gi_at_call 210;refine((yY (n:=N-1-1-1)).2 (Fg x.pay y1 y2 _)).mono ?_;rintro e L ⟨fp,rfl,abn,D⟩;have v7:L.cell? ⟨w.heap.size,0,none⟩=some (Yu f):=(zze (a:=⟨w.heap.size,0,none⟩) (D.block w.heap.size (by show w.heap.size<A.heap.size;omega) dv)).trans v0)
    |(gi_at_call 145;refine((yY (n:=N-1-1-1)).2 (bb G x A.heap.size fp L eN (O G A L HI.1 D.size (λk h=>D.block k (by show k<A.heap.size;simp at h;omega) dv)) dp dp abn)).mono ?_;rintro e M ⟨rfl,Dg,K⟩))
   all_goals
    (have HN:=ah (HB.out L M fp abn.low D Dg K)
     clear HB HI abn D Dg K
     gi_wp2
     obtain⟨⟨o1,o2⟩,o3⟩:=HN.out;rw[bc] at o3
     first
      |exact⟨⟨o1,o2⟩,o3⟩
      |exact⟨o1,o2,o3⟩)
  case done =>
   rintro W ⟨o8,pU⟩ hsW hK;have t1:=(pU.block (w.heap.size+1) dp (a8 c1 du)).trans c1;have t2:=(pU.block (w.heap.size+2) dp (a8 c2 du)).trans c2;have u1:=af t1 0;have u2:=af t2 0;have f1:=aq t1 0;have f2:=aq t2 0;simp at u1 u2 f1 f2;obtain⟨j,F⟩:∃j,j=(W.setCell ⟨w.heap.size+1,0,none⟩ (.pointer (some ⟨b.heap.size,0,none⟩))).setCell ⟨w.heap.size+1+1,0,none⟩ .nilIface:=⟨_,rfl⟩;have l:Fr [w.heap.size+1,w.heap.size+2] W j:=by rw[F];exact(Fr.cG dv _ _).trans (Fr.cG dv _ _)
   have s1:j.heap[w.heap.size+1]?=some (.cells #[.pointer (some ⟨b.heap.size,0,none⟩)] 186 (0,0)):=by
    rw[F];have:=aF t1 0 (.pointer (some ⟨b.heap.size,0,none⟩));rw[wg _ _ _ _ (by show w.heap.size+1≠w.heap.size+1+1;omega)]
    simpa using this
   have s2:j.heap[w.heap.size+1+1]?=some (.cells #[.nilIface] 74 (0,0)):=by
    rw[F];have ao:(W.setCell ⟨w.heap.size+1,0,none⟩ (.pointer (some ⟨b.heap.size,0,none⟩))).heap[w.heap.size+1+1]?=some (.cells #[.nilIface] 74 (0,0)):=(wg _ _ _ _ (by show w.heap.size+1+1≠w.heap.size+1;omega)).trans t2;have:=aF ao 0 .nilIface
    simpa using this
   have Wi:j.heap[i.heap.size]?=some (.deferred (some [])):=(l.block _ dp ef).trans hK;have P:Hid (I (counted R.1.recs) W/\Fr [f,T] i W):=⟨o8,pU⟩;clear o8 pU
   gi_wp2
   rw[<-F];clear F;refine⟨dv,.inl ⟨_,_,rfl,DK Wi,?_⟩⟩;obtain⟨V,a1⟩:∃V,V=j.putObj i.heap.size (.deferred none):=⟨_,rfl⟩;have Yw:∀k,k≠i.heap.size->V.heap[k]?=j.heap[k]?:=λk h=>by rw[a1];exact qY h
   have U:Fr [f,T,w.heap.size+1,w.heap.size+2] i V:=by
    refine⟨?_,?_,?_,?_,λk h q=>?_⟩
    .rw[a1];exact l.os.trans P.2.os
    .rw[a1];exact l.tape.trans P.2.tape
    .rw[a1];exact l.output.trans P.2.output
    .rw[a1,cJ];have:=l.size;have:=P.2.size;omega
    .simp at q;rw[Yw k dp,l.block k dp ef,P.2.block k h ef]
   have Us:=Kh.apart U (λk h _=>by
    simp at h;rcases h with rfl|rfl|rfl|rfl
    .exact⟨Kh.free al du du du du du,λt e=>by rw[al] at e;cases e⟩
    .exact⟨Kh.Nr ⟨_,_,an⟩ ab.1 ab.2,λt e=>by rw[an] at e;cases e⟩
    .exact⟨Kh.free c1 du du du du du,λt e=>by rw[c1] at e;cases e⟩
    .exact⟨Kh.free c2 du du du du du,λt e=>by rw[c2] at e;cases e⟩)
   have b':I (counted R.1.recs) V:=O _ W V P.1 (by rw[a1,cJ];exact l.size) (λk h=>by
    simp at h
    rw[Yw k dp,l.block k (by have:=P.2.size;omega) ef])
   have H:=af ((Yw (w.heap.size+1) dp).trans s1) 0;have J:=af ((Yw (w.heap.size+1+1) dp).trans s2) 0;simp at H J;have g7:=(U.block b.heap.size dp (by have:=a8 g5 du;simp at this ⊢;omega)).trans g5;have ba:Px p [f,T] w V:=⟨U.os.trans Yv.os,U.tape.trans Yv.tape,U.output.trans Yv.output,by have:=U.size;omega,λk h o q=>(U.block k dp (by simp at q ⊢;omega)).trans (Yv.block k h o q)⟩;rw[<-a1];refine⟨.tuple #[.pointer (some ⟨b.heap.size,0,none⟩),.nilIface],?_,R,n,Ej,.inl ⟨lx,b.heap.size,lp,rfl,b',⟨pv,sv,rv,nD,nN,Us⟩,g7,dp,ba,λk h o=>pS k h ((b8 k).2 ((Us.own k).1 o))⟩⟩;simp only[results,f143];simp[go_sem,H,J]
theorem LZ(B p D N a T:Nat)(r:au×aj×Nat->Nat->Prop)(I:List Rec->nL->Prop)(w:nL)(o:I [] w)(y:∀f A b,I f A->A.heap.size<=b.heap.size->(∀k∈[a,T],b.heap[k]?=A.heap[k]?)->I f b)(Y:∃cs,w.heap[a]?=some (.cells cs 194 (0,0)))(g:∃es c,w.heap[T]?=some (.map es c))(i:∃pv d n l m,aC w B p D N pv d n l m)(j:T≠D/\T≠N)
  (J:∀W,Fr [] w W->Calls prog 87 #[fS p] W λe w'=>∃R n,r R n/\uf B p D N n R W e w') (h:∀R n,r R n->R.2.2=0->ZW I a T n R) :
  Calls prog 143 #[fS p,Yu a] w λe w'=>∃R n,r R n/\adH I B p D N a T R n w e w':=
 (yY).1 (Dh 14 (zzc _) B p D N a T r I w o y Y g i j J h)
end
end Go.Proofs.YtlgeloebpdmnnaaGreatDoor
