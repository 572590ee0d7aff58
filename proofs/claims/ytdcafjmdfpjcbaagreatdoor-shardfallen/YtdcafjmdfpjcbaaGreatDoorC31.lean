import Derived.Test.YtdcafjmdfpjcbaaGreatDoorC30
set_option maxHeartbeats 4000000
set_option maxRecDepth 100000
namespace Go.Proofs.YtdcafjmdfpjcbaaGreatDoor
open Go.RowKit Go.Maps Tryz Sc
section
open Go.Shelf
theorem aB.beside{w w':World}{S:List Nat}{B p h bN n D N:Nat}{v:Value}{d:ah}(b:aB w B p h bN v d n D N)(l:Fr S w w')(f:∀k∈S,∃c t,w.heap[k]?=some (.cells c t (0,0))/\t≠58/\t≠162/\t≠9):aB w' B p h bN v d n D N:=by
 have i:∀k∈S,¬lq p w k:=λk a=>by have⟨c,t,e,m,s,_⟩:=f k a;exact b.iU e m s
 apply b.fr l (λa=>i p a<|(b.eO p).2 sE) (λa=>i h a<|(b.eO h).2 sE) (λa=>i bN a<|(b.eO bN).2 sE) (λg o a=>i g a<|(b.eO g).2<|by simp[o]);intro q r t e;have⟨c,x,j,_,_,u⟩:=f q r;rw[j]at e;cases e;exact u rfl
structure SA(J:List Rec->ag->Prop)(m n:Nat)(R:aq × ah × Nat):Prop where
 afI:∀r∈R.1.recs,r.kind<256
 first:(gC R.1.recs).2.1=0->pg R.1.recs R.1.next=1
 byt:∀r∈R.1.recs,k9 r.pay/\r.pay.length<=4096
 aa9:∀pre x s',pre++[x] <+: counted R.1.recs->J pre s'->Gn (J (pre++[x])) s' ⟨x.cQ,x.kind%128,x.pay⟩
 room:m+20*(counted R.1.recs).length+32<maxLen
 le:n<=1000000000
def abF(J:List Rec->ag->Prop)(B p b bN m a V T H:Nat)(R:aq × ah × Nat)(n:Nat)(w:World)(e:Ending)(w':World):Prop :=
 (R.2.2=0/\∃g l s,e=.returned (.tuple #[rM g,.nilIface])/\J (counted R.1.recs) s/\bC w' a 0 V T H (m+20*(counted R.1.recs).length) s/\(∃v c r D N,aD w' B l p b bN v c r R.1 R.2.1 n D N)/\w'.heap[g]?=some (BZ l)/\w.heap.size<=g/\NQ p [V,T,H] w w'/\∀k,k<w.heap.size->Own l p w' k->lq p w k) \/
 (R.2.2≠0/\e=.returned (.tuple #[.pointer none,cj R.2.2])/\(∃v D N,aB w' B p b bN v R.2.1 n D N)/\pM p w w')
theorem EI(N:Nat)(hN:14<=N)(B p bD bN m f V T H:Nat)(Pr:aq × ah × Nat->Nat->Prop)(a1:List Rec->ag->Prop)(s0:ag)(w:World)(Vq:a1 [] s0)(hs:bC w f 0 V T H m s0)(hd:∃pv d n nD nN,aB w B p bD bN pv d n nD nN)(E:V≠bD/\V≠bN/\T≠bD/\T≠bN/\H≠bD/\H≠bN)
  (hJ:∀a6,Fr [] w a6->Calls prog 59 #[fo p] a6 λe w'=>∃R n,Pr R n/\rX B p bD bN n R a6 e w') (hR:∀R n,Pr R n->R.2.2=0->SA a1 m n R) :
  CallsIn Fence.wide N prog 99 #[fo p,U7 f] w λe w'=>∃R n,Pr R n/\abF a1 B p bD bN m f V T H R n w e w':=by
 have aE:Fence.wide.round=none:=rfl;have h1:1<=N:=oE;have bF:Fence.wide.fn 59:=trivial;have cA:Fence.wide.fn 152:=trivial;have dD:Fence.wide.fn 153:=trivial;have kN:Fence.wide.fn 154:=trivial;have kP:Fence.wide.fn 205:=trivial;have z:Fence.wide.fn 155:=trivial;have lX:Fence.wide.fn 100:=trivial;obtain⟨U,nX⟩:∃U,U=((w.alloc (.cells #[U7 f] 151)).alloc (.cells #[.pointer none] 146)).alloc (.cells #[.nilIface] 67):=⟨_,rfl⟩;have y:Fr [] w U:=by rw[nX];exact(((lE w).alloc _).alloc _).alloc _
 have ja:U.heap.size=w.heap.size+3:=by rw[nX];simp
 have r0:U.heap[w.heap.size]?=some (.cells #[U7 f] 151 (0,0)):=by rw[nX,zzf _ _ w.heap.size sC,zzf _ _ w.heap.size sE];exact heap_alloc_new w _
 have r1:U.heap[w.heap.size+1]?=some (.cells #[.pointer none] 146 (0,0)):=by
  rw[nX,zzf _ _ (w.heap.size+1) sE];have:=heap_alloc_new (w.alloc (.cells #[U7 f] 151)) (.cells #[.pointer none] 146)
  rwa [zzv] at this
 have r2:U.heap[w.heap.size+2]?=some (.cells #[.nilIface] 67 (0,0)):=by
  rw[nX];have:=heap_alloc_new ((w.alloc (.cells #[U7 f] 151)).alloc (.cells #[.pointer none] 146)) (.cells #[.nilIface] 67)
  rwa [zzv,zzv] at this
 have aA:=(callsIn_wide (n:=N-1)).2 (hJ U y);have Z:=hs.fr y sE sE sE sE;obtain⟨Xe,d0,n0,ba,bq,wI⟩:=hd;have C:=wI.new y;refine callsIn_of_wp_marks func99 rfl trivial ?_ aE;simp only[ntmps99,mJ,zzr,mV,Nat.reduceAdd,Nat.reduceSub,m7,m8,n8,oS,p5,qS]
 gi_wp2_with fail
 rw[<-nX];refine aA.mono ?_;clear aA nX;rintro e b ⟨R,n,Ks,⟨sj,lp,rfl,wA,⟨pv,sv,rv,nD,nN,fE⟩,nr,lR⟩|⟨sj,rfl,adN,nr⟩⟩
 rotate_left
 focus
  rw[aG sj];have J:=(nr.block _ oE (C.iU r1 dN dN)).trans r1;have O:=(nr.block _ oE (C.iU r2 dN dN)).trans r2;have u1:=aa J 0;have u2:=aa O 0;have f1:=au J 0;have f2:=au O 0;simp at u1 u2 f1 f2;have VJ:pM p w b:=⟨nr.os.trans y.os,nr.tape.trans y.tape,nr.output.trans y.output,by have:=nr.size;omega,λk h o=>(nr.block k oE (λwu=>o ((wI.eO k).2 ((C.eO k).1 wu)))).trans (y.block k h sE),λk h o=>(wI.eO k).2 ((C.eO k).1 (nr.stay k oE o))⟩;have HE:=ae (zzb Ks (zzb adN (zzb VJ sj)));have bP:w.heap.size+2<b.heap.size:=by have:=nr.size;omega
  clear nr adN VJ Ks hR hJ Z C wI r0 r1 r2 y;obtain⟨g,G⟩:∃g,g=(b.setCell ⟨w.heap.size+1,0,none⟩ (.pointer none)).setCell ⟨w.heap.size+1+1,0,none⟩ (cj R.2.2):=⟨_,rfl⟩;have z:Fr [w.heap.size+1,w.heap.size+2] b g:=by rw[G];exact(Fr.cH sE _ _).trans (Fr.cH sE _ _)
  have s1:g.heap[w.heap.size+1]?=some (.cells #[.pointer none] 146 (0,0)):=by
   rw[G];have:=aH J 0 (.pointer none);rw[Below.heap_setCell _ _ _ _ (by show w.heap.size+1≠w.heap.size+1+1;omega)]
   simpa using this
  have K:g.heap[w.heap.size+1+1]?=some (.cells #[cj R.2.2] 67 (0,0)):=by
   rw[G];have ak:(b.setCell ⟨w.heap.size+1,0,none⟩ (.pointer none)).heap[w.heap.size+1+1]?=some (.cells #[.nilIface] 67 (0,0)):=(Below.heap_setCell _ _ _ _ (by show w.heap.size+1+1≠w.heap.size+1;omega)).trans O;have:=aH ak 0 (cj R.2.2)
   simpa using this
  have HF:Hid ((∃pv nD nN,aB g B p bD bN pv R.2.1 n nD nN)/\pM p w g):=by
   obtain⟨_,⟨kr,lT,lN,g1⟩,F,_⟩:=HE.out
   have g6:=g1.beside z (λk h=>by
    simp at h;rcases h with rfl|rfl
    .exact⟨_,_,J,dN,dN,dN⟩
    .exact⟨_,_,O,dN,dN,dN⟩)
   refine⟨⟨kr,lT,lN,g6⟩,z.os.trans F.os,z.tape.trans F.tape,z.output.trans F.output,zzk F.size z.size,λk h o=>(z.block k (by have:=F.size;omega) sC).trans (F.block k h o),λk h o=>F.stay k h ((g1.eO k).2 ((g6.eO k).1 o))⟩
  have z1:=aa s1 0;have z2:=aa K 0;simp at z1 z2;clear z s1 K J O;rw[aG HE.2.2.2] at G
  gi_wp2
  rw[<-G];refine⟨.tuple #[.pointer none,cj R.2.2],?_,R,n,HE.1,.inr ⟨HE.2.2.2,rfl,HF.1,HF.2⟩⟩;simp only[results,f99];simp[go_sem,z1,z2]
 obtain⟨Sx,n_,MM,b4,hm,hn⟩:=hR R n Ks sj
 have fD:∀k∈[f,V,T,H,w.heap.size,w.heap.size+1,w.heap.size+2],b.heap[k]?=U.heap[k]?:=by
  have hl:=Z.oT;intro k h;simp at h;rcases h with rfl|rfl|rfl|rfl|rfl|rfl|rfl
  .exact nr.block _ oE (C.iU Z.blk dN dN)
  .exact nr.block _ oE (C.Aa Z.aS.isMap E.1 E.2.1)
  .exact nr.block _ oE (C.Aa Z.af.isMap E.2.2.1 E.2.2.2.1)
  .exact nr.block _ oE (C.Aa Z.holds.isMap E.2.2.2.2.1 E.2.2.2.2.2)
  .exact nr.block _ oE (C.iU r0 dN dN)
  .exact nr.block _ oE (C.iU r1 dN dN)
  .exact nr.block _ oE (C.iU r2 dN dN)
 have pY:bC b f 0 V T H m s0:=Z.blocks (λk h=>fD k (by simp at h ⊢;omega));have q0:=(fD w.heap.size sE).trans r0;have J:=(fD (w.heap.size+1) sE).trans r1;have O:=(fD (w.heap.size+2) sE).trans r2;have bg:=nr.size
 have Bf:NQ p [V,T,H] w b:=⟨nr.os.trans y.os,nr.tape.trans y.tape,nr.output.trans y.output,oE,λk h o _=>(nr.block k oE (λwu=>o (by
  have:=(C.eO k).1 wu
  exact(wI.eO k).2 this))).trans (y.block k h sE)⟩
 have qy:∀k,k<w.heap.size->Own lp p b k->lq p w k:=λk h o=>(wI.eO k).2 ((C.eO k).1 (lR k oE o))
 have b3:=fE.own;clear nr fD r0 r1 r2 y Z C wI lR;obtain⟨W,iY⟩:∃W,W=b.alloc (BZ lp):=⟨_,rfl⟩;have P:Fr [] b W:=by rw[iY];exact(lE b).alloc _
 have bp:W.heap.size=b.heap.size+1:=by rw[iY];simp
 have F:W.heap[b.heap.size]?=some (BZ lp):=by rw[iY];exact heap_alloc_new b _
 have eN:=fE.new P;have rJ:=pY.fr P sE sE sE sE;have ab:kc W lp rv R.1.recs:=⟨(zza.1 eN.blk).1,by have:=aa eN.blk 3;simpa using this,JH eN.recs⟩;have an:W.cell? ⟨lp,4,none⟩=some (.int .u64 (R.1.next:Int)):=by have:=aa eN.blk 4;simpa using this
 have ay:W.cell? ⟨b.heap.size,0,none⟩=some (.pointer (some ⟨lp,0,none⟩)):=by have:=aa F 0;simpa using this
 have hlen:R.1.recs.length<=1000000000:=by have:=eN.fV;omega
 have nJ:=Df (N-1) oE b.heap.size lp rv R.1.recs hlen W ay ab;have b0:=(P.block w.heap.size oE sE).trans q0;have b1:=(P.block (w.heap.size+1) oE sE).trans J;have b2:=(P.block (w.heap.size+2) oE sE).trans O;clear q0 J O
 gi_wp2_with fail
 have QW:W=b.alloc (.cells #[.pointer (some ⟨lp,0,none⟩)] 229):=iY;rw[<-QW];refine nJ.mono ?_;clear nJ iY QW;rintro e w3 ⟨rfl,eV⟩;have IZ:=eV.size;obtain⟨cb,ao⟩:∃cb,cb=(gC R.1.recs).2.1:=⟨_,rfl⟩;obtain⟨ce,aX⟩:∃ce,ce=(gC R.1.recs).2.2:=⟨_,rfl⟩;rw[<-ao] at n_ ⊢;rw[<-aX];clear ao aX;refine(Decidable.em (cb=0)).elim (λZu=>?_) (λZu=>?_)
 focus
  have al:(cb:Int)=0:=oE;have b':((cb:Int)==0)=true:=beq_iff_eq.2 al;have TE:=JD (N-1) oE lp R.1.next rv R.1.recs hlen w3 (ab.below eV) ((eV.cell (p:=⟨lp,4,none⟩) ab.lt).trans an);rw[n_ Zu] at TE
  gi_wp2_with fail
  refine TE.mono ?_;clear TE;rintro e l ⟨rfl,adQ⟩;have tH:Below W.heap.size W l:=eV.trans (adQ.mono IZ);clear adQ
 rotate_left
 focus
  obtain⟨l,ad⟩:∃l,l=w3:=⟨_,rfl⟩;have al:¬(cb:Int)=0:=oE;have b':((cb:Int)==0)=false:=beq_eq_false_iff_ne.2 al;have tH:Below W.heap.size W l:=by rw[ad];exact eV
  rw[<-ad];clear ad
 all_goals
  have bc:=tH.size;have yG:=NM (N-1) b.heap.size l
  gi_wp2_with fail
  refine yG.mono ?_;clear yG;rintro e j ⟨rfl,SB⟩;have Xf:Below W.heap.size W j:=by rw[SB];exact tH.alloc oE _
  have b7:j.heap.size=l.heap.size+1:=by rw[SB];simp
  have a5:j.heap[l.heap.size]?=some (.cells #[.pointer (some ⟨b.heap.size,0,none⟩)] 146 (0,0)):=by rw[SB];exact heap_alloc_new l _
  have L:Fr [] W j:=Fr.bw Xf [];have SC:=eN.new L;have M:=rJ.fr L sE sE sE sE;have aI:=ab.below Xf;have g5:=(L.block b.heap.size oE sE).trans F;have c0:=(L.block w.heap.size oE sE).trans b0;have c1:=(L.block (w.heap.size+1) oE sE).trans b1;have c2:=(L.block (w.heap.size+2) oE sE).trans b2;have VK:NQ p [V,T,H] w j:=⟨L.os.trans (P.os.trans Bf.os),L.tape.trans (P.tape.trans Bf.tape),L.output.trans (P.output.trans Bf.output),oE,λk h o q=>(L.block k oE sE).trans ((P.block k oE sE).trans (Bf.block k h o q))⟩;clear SB Xf L eN rJ ab F b0 b1 b2 Bf eV tH an ay fE pY P
  gi_wp2
  have z4:j.cell? ⟨l.heap.size,0,none⟩=some (.pointer (some ⟨b.heap.size,0,none⟩)):=by have:=aa a5 0;simpa using this
  have z5:j.cell? ⟨b.heap.size,0,none⟩=some (.pointer (some ⟨lp,0,none⟩)):=by have:=aa g5 0;simpa using this
  have bo:=M.oT
  have a8:∀{k:Nat} {c:Array Value} {t:TypeId} {fr:Nat × Nat},j.heap[k]?=some (.cells c t fr)->k∉[V,T,H]:=by
   intro k c t fr h hm;simp at hm;rcases hm with e|e|e
   .obtain⟨es,c,i⟩:=M.aS.isMap;rw[e,i] at h;cases h
   .obtain⟨es,c,i⟩:=M.af.isMap;rw[e,i] at h;cases h
   .obtain⟨es,c,i⟩:=M.holds.isMap;rw[e,i] at h;cases h
  have b6:∀k∈rowsOf rv,k∉[V,T,H]:=λk h=>by
   simp[rowsOf] at h;obtain⟨c,hc⟩:=aF SC.recs h;exact a8 hc
  refine pO aE h1 (gf:=205) (lb:=#[.pointer (some ⟨l.heap.size,0,none⟩)]) rfl kP (enters_of func205 k6 rfl)
   (encs:=λx:Rec=>#[.int .u8 ((x.kind%128:Nat):Int),.string (str x.pay)]) (rs:=counted R.1.recs) (S:=rowsOf rv) (λ_=>rfl) aI.rows
   (λWx iA _=>Sz (N-1) oE _ l.heap.size b.heap.size lp rv R.1.recs hlen Sx Wx ((iA.cell (p:=⟨l.heap.size,0,none⟩) (by show l.heap.size<_;omega)).trans z4) ((iA.cell (p:=⟨b.heap.size,0,none⟩) (by show b.heap.size<_;omega)).trans z5) (aI.below iA))
   (λu A=>(∃D,a1 u D/\bC A f 0 V T H (m+20*u.length) D)/\Fr [V,T,H] j A)
   (λWx iA=>⟨⟨s0,Vq,M.fr (Fr.bw iA []) sE sE sE sE⟩,Fr.bw iA _⟩)
   (λs A B hs hb=>by
    obtain⟨⟨D,e1,i⟩,I⟩:=hs
    exact⟨⟨D,e1,i.blocks (λk h=>hb.block k (by simp at h;omega))⟩,⟨hb.os.trans I.os,hb.tape.trans I.tape,hb.output.trans I.output,zzk I.size hb.size,λk h q=>(hb.block k oE).trans (I.block k h q)⟩⟩)
   (λs A r hs=>by
    obtain⟨⟨D,e1,i⟩,I⟩:=hs
    exact⟨⟨D,e1,i.blocks (λk h=>World.putObj_heap_other (by simp at h;omega))⟩,⟨I.os,I.tape,I.output,by rw[fG];exact I.size,λk h q=>(World.putObj_heap_other oE).trans (I.block k h q)⟩⟩)
   (λx a' A=>∃t0 t1 t2 t3 t4 t5 u0 u1 u2 u3 u4,a'={ tmps:=#[fo p,U7 f,undef,.pointer (some ⟨w.heap.size,0,none⟩),.pointer (some ⟨w.heap.size+1,0,none⟩),.pointer (some ⟨w.heap.size+1+1,0,none⟩),.pointer (some ⟨lp,0,none⟩),.nilIface,.pointer (some ⟨b.heap.size,0,none⟩),u2,.int .u64 (ce:Int),.int .u8 ((x.kind%128:Nat):Int),.string (str x.pay),.tuple #[.pointer (some ⟨lp,0,none⟩),.nilIface],fo p,.tuple #[.pointer (some ⟨lp,0,none⟩),.nilIface],.pointer (some ⟨lp,0,none⟩),.nilIface,.nilIface,.bool false,undef,.pointer (some ⟨lp,0,none⟩),.agg #[.pointer (some ⟨lp,0,none⟩)],.pointer (some ⟨b.heap.size,0,none⟩),u0,.pointer (some ⟨b.heap.size,0,none⟩),u1,u3,.int .u64 (ce:Int),u4,t0,t1,t2,t3,t4,t5,undef,.pointer (some ⟨b.heap.size,0,none⟩),.func (.func 205) #[] #[.pointer (some ⟨l.heap.size,0,none⟩)],.int .u8 ((x.kind%128:Nat):Int),.string (str x.pay),undef,undef,undef,undef,undef,undef,undef,undef],defers:=[] })
   (λx a' A r hs=>hs)
   ?assign ?body ?done
  case assign =>
   have o9:=@Oper.semAt_some;rintro u x A bb hI Mn dM hK
   gi_wp2
   exact hK _ _ hI (mL.refl _ _ _) ⟨_,_,_,_,_,_,_,_,_,_,_,rfl⟩
  case body =>
   have o9:=@Oper.semAt_some;rintro u x a' A ⟨⟨s1,kn,fZ⟩,Zv⟩ Mn ⟨t0,t1,t2,t3,t4,t5,u0,u1,u2,u3,u4,rfl⟩ dM;have hx:x∈R.1.recs:=(zzp.1 (dM.subset sE)).1;have bf:u.length+1<=(counted R.1.recs).length:=by have:=dM.length_le;simpa using this
   obtain⟨y1,y2⟩:=MM x hx;have uI:=b4 u x s1 dM kn;have v0:A.cell? ⟨w.heap.size,0,none⟩=some (U7 f):=by have:=aa ((Zv.block w.heap.size oE (a8 c0)).trans c0) 0;simpa using this
   have h3:1<=N-1-1:=oE;have HI:=ae (zzb fZ Zv)
   have HB:Hid (∀(Y Q:World) (fp:Nat) (K:ag),A.heap.size<=fp->Fr [] A.drew Y->a1 (u++[x]) K->bC Q f 0 V T H (m+20*u.length+20) K->Fr [fp,V,T,H] Y Q ->
     ((∃D,a1 (u++[x]) D/\bC Q f 0 V T H (m+20*(u.length+1)) D)/\Fr [V,T,H] j Q)/\mL j.heap.size (rowsOf rv) A Q):=by
    intro Y Q fp K yo v VL Js X;have bl:A.heap.size<=Y.heap.size:=v.size;have blk:∀k,k<A.heap.size->k∉[V,T,H]->Q.heap[k]?=A.heap[k]?:=λk h q=>(X.block k oE (by simp at q ⊢;omega)).trans (v.block k h sE)
    refine⟨⟨⟨K,VL,by rw[show m+20*(u.length+1)=m+20*u.length+20 by omega];exact Js⟩,X.os.trans (v.os.trans Zv.os),X.tape.trans (v.tape.trans Zv.tape),X.output.trans (v.output.trans Zv.output),by have:=X.size;have:=Zv.size;omega,λk h q=>(blk k oE q).trans (Zv.block k h q)⟩,by have:=X.size;omega,λk h bP=>blk k bP sC,λk h bP=>blk k bP (b6 k h)⟩
   clear fZ Zv
   gi_wp2
   gi_region_with (first
    |(gi_at_call 155;refine((callsIn_wide (n:=N-1-1-1)).2 (D_ x.pay y1 y2 _)).mono ?_;rintro e Y ⟨fp,rfl,abH,v⟩;have v7:Y.cell? ⟨w.heap.size,0,none⟩=some (U7 f):=(zze (a:=⟨w.heap.size,0,none⟩) (v.block w.heap.size (by show w.heap.size<A.heap.size;omega) sE)).trans v0)
    |(gi_at_call 100;refine((callsIn_wide (n:=N-1-1-1)).2 (QZ A.heap.size f 0 V T H (m+20*u.length) fp s1 ⟨x.cQ,x.kind%128,x.pay⟩ Y (HI.1.fr (S:=[]) (w:=A) ⟨v.os,v.tape,v.output,v.size,v.block⟩ sE sE sE sE) abH (a1 (u++[x])) uI oE ⟨by have:=HI.1.oT;omega,by have:=HI.1.oT;omega,by have:=HI.1.oT;omega,by have:=HI.1.oT;omega⟩)).mono ?_;rintro e Q ⟨rfl,K,VL,Js,X⟩))
   all_goals
    (have HN:=ae (HB.out Y Q fp K abH.low v VL Js X)
     clear HB HI abH v VL Js X
     gi_wp2
     obtain⟨⟨o1,o2⟩,o3⟩:=HN.out;rw[b7] at o3
     first
      |exact⟨⟨o1,o2⟩,o3⟩
      |exact⟨o1,o2,o3⟩)
  case done =>
   rintro a6 ⟨⟨D,hr',adR⟩,o7⟩ hsW hK;have t1:=(o7.block (w.heap.size+1) oE (a8 c1)).trans c1;have t2:=(o7.block (w.heap.size+2) oE (a8 c2)).trans c2;have u1:=aa t1 0;have u2:=aa t2 0;have f1:=au t1 0;have f2:=au t2 0;simp at u1 u2 f1 f2;obtain⟨g,G⟩:∃g,g=(a6.setCell ⟨w.heap.size+1,0,none⟩ (.pointer (some ⟨b.heap.size,0,none⟩))).setCell ⟨w.heap.size+1+1,0,none⟩ .nilIface:=⟨_,rfl⟩;have z:Fr [w.heap.size+1,w.heap.size+2] a6 g:=by rw[G];exact(Fr.cH sE _ _).trans (Fr.cH sE _ _)
   have s1:g.heap[w.heap.size+1]?=some (.cells #[.pointer (some ⟨b.heap.size,0,none⟩)] 146 (0,0)):=by
    rw[G];have:=aH t1 0 (.pointer (some ⟨b.heap.size,0,none⟩));rw[Below.heap_setCell _ _ _ _ (by show w.heap.size+1≠w.heap.size+1+1;omega)]
    simpa using this
   have K:g.heap[w.heap.size+1+1]?=some (.cells #[.nilIface] 67 (0,0)):=by
    rw[G];have ak:(a6.setCell ⟨w.heap.size+1,0,none⟩ (.pointer (some ⟨b.heap.size,0,none⟩))).heap[w.heap.size+1+1]?=some (.cells #[.nilIface] 67 (0,0)):=(Below.heap_setCell _ _ _ _ (by show w.heap.size+1+1≠w.heap.size+1;omega)).trans t2;have:=aH ak 0 .nilIface
    simpa using this
   have TG:g.heap[j.heap.size]?=some (.deferred (some [])):=(z.block _ oE sC).trans hK;have HW:=ae (zzb hr' (zzb adR o7));clear hr' adR o7
   gi_wp2
   rw[<-G];clear G;refine⟨sE,.inl ⟨_,_,rfl,run_takeDeferred TG,?_⟩⟩;have lj:=hs.oT;obtain⟨W7,a7⟩:∃W7,W7=g.putObj j.heap.size (.deferred none):=⟨_,rfl⟩;have VM:∀k,k≠j.heap.size->W7.heap[k]?=g.heap[k]?:=λk h=>by rw[a7];exact World.putObj_heap_other h
   have lX:Fr [V,T,H,w.heap.size+1,w.heap.size+2] j W7:=by
    refine⟨?_,?_,?_,?_,λk h q=>?_⟩
    .rw[a7];exact z.os.trans HW.2.2.os
    .rw[a7];exact z.tape.trans HW.2.2.tape
    .rw[a7];exact z.output.trans HW.2.2.output
    .rw[a7,fG];have:=z.size;have:=HW.2.2.size;omega
    .simp at q;rw[VM k oE,z.block k oE sC,HW.2.2.block k h sC]
   have aC:=SC.apart lX (λk h _=>by
    simp at h;rcases h with rfl|rfl|rfl|rfl|rfl
    .exact⟨SC.rL M.aS.isMap E.1 E.2.1,λt e=>by obtain⟨es,c,i⟩:=M.aS.isMap;rw[i] at e;cases e⟩
    .exact⟨SC.rL M.af.isMap E.2.2.1 E.2.2.2.1,λt e=>by obtain⟨es,c,i⟩:=M.af.isMap;rw[i] at e;cases e⟩
    .exact⟨SC.rL M.holds.isMap E.2.2.2.2.1 E.2.2.2.2.2,λt e=>by obtain⟨es,c,i⟩:=M.holds.isMap;rw[i] at e;cases e⟩
    .exact⟨SC.free c1 dN dN dN dN dN,λt e=>by rw[c1] at e;cases e⟩
    .exact⟨SC.free c2 dN dN dN dN dN,λt e=>by rw[c2] at e;cases e⟩)
   have YE:bC W7 f 0 V T H (m+20*(counted R.1.recs).length) D:=HW.2.1.blocks (λk h=>by
    simp at h
    rw[VM k oE,z.block k (by have:=HW.2.2.size;omega) sC])
   have J:=aa ((VM (w.heap.size+1) oE).trans s1) 0;have O:=aa ((VM (w.heap.size+1+1) oE).trans K) 0;simp at J O;have g7:=(lX.block b.heap.size oE (by have:=a8 g5;simp at this ⊢;omega)).trans g5;have b8:NQ p [V,T,H] w W7:=⟨lX.os.trans VK.os,lX.tape.trans VK.tape,lX.output.trans VK.output,by have:=lX.size;omega,λk h o q=>(lX.block k oE (by simp at q ⊢;omega)).trans (VK.block k h o q)⟩;rw[<-a7];refine⟨.tuple #[.pointer (some ⟨b.heap.size,0,none⟩),.nilIface],?_,R,n,Ks,.inl ⟨sj,b.heap.size,lp,D,rfl,HW.1,YE,⟨pv,sv,rv,nD,nN,aC⟩,g7,oE,b8,λk h o=>qy k h ((b3 k).2 ((aC.own k).1 o))⟩⟩;simp only[results,f99];simp[go_sem,J,O]
theorem OD(B p D bN m s V T H:Nat)(r:aq×ah×Nat->Nat->Prop)(J:List Rec->ag->Prop)(a:ag)(w:World)(q:J [] a)(f:bC w s 0 V T H m a)(i:∃v d n b N,aB w B p D bN v d n b N)(c:V≠D/\V≠bN/\T≠D/\T≠bN/\H≠D/\H≠bN)
  (g:∀W,Fr [] w W->Calls prog 59 #[fo p] W λe w'=>∃R n,r R n/\rX B p D bN n R W e w') (h:∀R n,r R n->R.2.2=0->SA J m n R) :
  Calls prog 99 #[fo p,U7 s] w λe w'=>∃R n,r R n/\abF J B p D bN m s V T H R n w e w':=
 (callsIn_wide).1 (EI 14 (zzc _) B p D bN m s V T H r J a w q f i c g h)
end
theorem Bg(rs:List Rec):(counted rs).length<=rs.length:=by grind[counted]
structure Kt(J:List Rec->ag->Prop)(B p bD bN:Nat)(Pr:aq × ah × Nat->Nat->Prop)(w:World):Prop where
 bE:∃pv d n nD nN,aB w B p bD bN pv d n nD nN
 jop:∀W,Fr [] w W->Calls prog 59 #[fo p] W λe w'=>∃R n,Pr R n/\rX B p bD bN n R W e w'
 none:J [] sh0
 ok:∀R n,Pr R n->R.2.2=0->SA J 0 n R
def ShX(J:List Rec->ag->Prop)(B p D bN:Nat)(R:aq × ah × Nat)(n:Nat)(w:World)(e:Ending)(w':World):Prop :=
 (R.2.2=0/\∃s g V T H l a,e=.returned (.tuple #[rM s,.nilIface])/\J (counted R.1.recs) a/\SL w' B s g V T H (20*R.1.recs.length) l p D bN n a R.1 R.2.1/\(w.heap.size<=s/\w.heap.size<=V/\w.heap.size<=T/\w.heap.size<=H)/\NQ p [] w w'/\∀k,k<w.heap.size->Own l p w' k->lq p w k) \/
 (R.2.2≠0/\e=.returned (.tuple #[.pointer none,cj R.2.2])/\(∃v b N,aB w' B p D bN v R.2.1 n b N)/\pM p w w')
theorem SD(J:List Rec->ag->Prop)(B p D bN:Nat)(r:aq×ah×Nat->Nat->Prop)(w:World)(h:Kt J B p D bN r w):
  Calls prog 60 #[fo p] w λe w'=>∃R n,r R n/\ShX J B p D bN R n w e w':=by
 have P:=@run_makeMap prog;have⟨G,d,K,C,N,f⟩:=h.bE;have O:=f.base;have L:=f.now.lt;have M:=f.j8.lt;have⟨W,b⟩:=xY <|(((w.alloc<|.map #[] 0).alloc<|.map #[] 0).alloc<|.map #[] 0).alloc (shO 0 w.heap.size (w.heap.size+1) (w.heap.size+1+1) 0);have ie:Fr [] w W:=by rw[b];exact((((lE w).alloc _).alloc _).alloc _).alloc _
 have z:W.heap.size=w.heap.size+4:=by rw[b];simp
 have l:bC W (w.heap.size+1+1+1) 0 w.heap.size (w.heap.size+1) (w.heap.size+1+1) 0 sh0:=by
  refine {blk:=?_,aS:=?_,af:=?_,holds:=?_,ne:=⟨oE,oE,oE⟩,aL:=dN}
  .rw[b];have:=heap_alloc_new (((w.alloc<|.map #[] 0).alloc<|.map #[] 0).alloc<|.map #[] 0)<|shO 0 w.heap.size (w.heap.size+1) (w.heap.size+1+1) 0;rwa [zzv,zzv,zzv]at this
  .rw[b];exact(((bB.made w).fr ((lE _).alloc _) sE).fr ((lE _).alloc _) sE).fr ((lE _).alloc _) sE
  .rw[b];have:=bB.made (KR:=KU) (ER:=ET)<|w.alloc<|.map #[] 0;rw[zzv]at this;exact(this.fr ((lE _).alloc _) sE).fr ((lE _).alloc _) sE
  .rw[b];have:=bB.made (KR:=KH) (ER:=EG)<|(w.alloc<|.map #[] 0).alloc<|.map #[] 0;rw[zzv,zzv]at this;exact this.fr ((lE _).alloc _) sE
 have m:=OD B p D bN 0 (w.heap.size+1+1+1) w.heap.size (w.heap.size+1) (w.heap.size+1+1) r J sh0 W h.none l ⟨_,_,_,_,_,f.new ie⟩ ⟨oE,oE,oE,oE,oE,oE⟩
  (λv X=>h.jop v<|ie.trans X) h.ok
 have F:=ae<|zzb ie f;clear h ie f l
 go_enter func60,ntmps60;go_wp2_with fail;have Y:W=(((w.alloc<|.map #[] 0).alloc<|.map #[] 0).alloc<|.map #[] 0).alloc (.cells #[.pointer none,.map<|some w.heap.size,.map<|some<|w.heap.size+1,.map<|some<|w.heap.size+1+1,.int .u64 0] 148):=b;rw[<-Y];clear b Y;apply m.mono;clear m;rintro e g ⟨R,n,Ks,⟨sj,gp,lp,s',rfl,Ku,fZ,⟨kr,sB,qz,lT,lN,fE⟩,iN,hgp,Bf,lR⟩|⟨sj,rfl,hdd,E7⟩⟩
 rotate_left
 .have I:=F.2;have U:=F.1;have V:pM p w g:=⟨E7.os.trans U.os,E7.tape.trans U.tape,E7.output.trans U.output,by have:=E7.size;omega,λk a o=>(E7.block k oE λu=>o<|(I.eO k).2<|((I.new U).eO k).1 u).trans<|U.block k a sE,λk a o=>(I.eO k).2<|((I.new U).eO k).1<|E7.stay k oE o⟩;have E:Hid (∃j n,r j n/\ShX J B p D bN j n w (.returned<|.tuple #[.pointer none,cj R.2.2]) g):=⟨R,n,Ks,.inr ⟨sj,rfl,hdd,V⟩⟩;clear hdd E7 V Ks I U F;rw[aG sj]at E ⊢;go_wp2;go_ret2;exact E.out
 have H:=ae<|zzb Ks sj;clear Ks sj;have x:=aa fZ.blk 0;have s:=au fZ.blk 0;simp at x s;have⟨c,Y⟩:∃c,c=g.setCell ⟨w.heap.size+1+1+1,0,none⟩ (.pointer<|some ⟨gp,0,none⟩):=⟨_,rfl⟩;have A:Fr [w.heap.size+1+1+1] g c:=by rw[Y];exact Fr.cH sE _ _
 have q:1<=gp:=oE;have i:c.heap[w.heap.size+1+1+1]?=some (shO gp w.heap.size (w.heap.size+1) (w.heap.size+1+1) s'.aL):=by
  have:=aH fZ.blk 0<|.pointer<|some (dH gp);simp at this;rw[Y];unfold shO;rw[iw q];exact this
 have y:gp≠w.heap.size+1+1+1:=oE;have S:Hid (J (counted R.1.recs) s'/\SL c B (w.heap.size+1+1+1) gp w.heap.size (w.heap.size+1) (w.heap.size+1+1) (20*R.1.recs.length) lp p D bN n s' R.1 R.2.1/\NQ p [] w c/\∀k,k<w.heap.size->Own lp p c k->lq p w k):=by
  have Q:=fZ;rw[Nat.zero_add]at Q;have Q:=Q.mono<|Nat.mul_le_mul_left 20<|Bg R.1.recs;refine⟨Ku,⟨{blk:=i,aS:=Q.aS.fr A sC,af:=Q.af.fr A sE,holds:=Q.holds.fr A sE,ne:=Q.ne,aL:=Q.aL},⟨kr,sB,qz,lT,lN,fE.apart A λk a _=>?_⟩,{lW:=(A.block gp (zza.1 iN).1<|by simpa using y).trans iN,ne:=⟨oE,oE,oE,oE,oE,oE⟩},q⟩,?_,?_⟩
  .simp at a;subst a;exact⟨fE.free fZ.blk dN dN dN dN dN,λt e=>by rw[fZ.blk]at e;cases e⟩
  .have U:=F.1;have I:=F.2;refine⟨A.os.trans<|Bf.os.trans U.os,A.tape.trans<|Bf.tape.trans U.tape,A.output.trans<|Bf.output.trans U.output,by have:=A.size;have:=Bf.size;omega,λk a o _=>?_⟩;rw[A.block k (by have:=Bf.size;omega) sC,Bf.block k oE (λu=>o<|(I.eO k).2<|((I.new U).eO k).1 u) sC,U.block k a sE]
  .have eN:=fE.apart A (λk a _=>by
    simp at a;subst a;exact⟨fE.free fZ.blk dN dN dN dN dN,λt e=>by rw[fZ.blk]at e;cases e⟩)
   intro k a o;exact(F.2.eO k).2<|((F.2.new F.1).eO k).1<|lR k oE<|(fE.own k).2<|(eN.own k).1 o
 clear Ku fZ fE iN Bf A i lR;go_wp2;rw[<-Y];go_ret2;exact⟨R,n,H.1,.inl ⟨H.2,w.heap.size+1+1+1,gp,w.heap.size,w.heap.size+1,w.heap.size+1+1,lp,s',rfl,S.1,S.2.1,⟨oE,oE,oE,oE⟩,S.2.2⟩⟩
theorem G_(J:List Rec->ag->Prop)(B p D bN:Nat)(r:aq×ah×Nat->Nat->Prop)(w:World)(h:Kt J B p D bN r w):
  Calls prog 23 #[fo p] w λe w'=>∃R n,r R n/\ShX J B p D bN R n w e w':=by
 have C:=ae<|SD J B p D bN r w h;clear h
 go_enter func23,ntmps23;go_wp2_with fail;apply C.out.mono;rintro e d ⟨R,n,Ks,hx⟩;have f:∃a b,e=.returned (.tuple #[a,b]):=by
  rcases hx with⟨_,_,_,_,_,_,_,_,rfl,_⟩|⟨_,rfl,_⟩
  .exact⟨_,_,rfl⟩
  .exact⟨_,_,rfl⟩
 obtain⟨v,c,rfl⟩:=f;have H:Hid (∃R n,r R n/\ShX J B p D bN R n w (.returned<|.tuple #[v,c]) d):=⟨R,n,Ks,hx⟩;clear hx Ks;go_wp2;go_ret2;exact H.out
end Go.Proofs.YtdcafjmdfpjcbaaGreatDoor
