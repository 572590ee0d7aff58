import Derived.Test.YtlgeloebpdmnnaaGreatDoorC28
import Derived.Test.YtlgeloebpdmnnaaGreatDoorC27
set_option maxHeartbeats 4000000
set_option maxRecDepth 100000
namespace Go.Proofs.YtlgeloebpdmnnaaGreatDoor
open Go.RowKit Go.Maps Tryz Sc
section
open Go.Shelf
variable{S:List Nat}{B T d g n p:Nat}{c:bL}{w w':nL}
def NK:Obj->Bool
 |.cells _ t _=>decide (t≠194/\t≠174/\t≠170)
 |.map ..=>false
 |_=>true
structure Rw(A B:nL):Prop where
 size:A.heap.size<=B.heap.size
 same:∀(k:Nat) (o:Obj),A.heap[k]?=some o->NK o=true->B.heap[k]?=some o
theorem Rw.fr{A B:nL}(h:Fr [] A B):Rw A B:=⟨h.size,λk o a _=>(h.block k (zza.1 a).1 dv).trans a⟩
theorem Rw.alloc(A:nL)(o:Obj):Rw A (A.alloc o):=Rw.fr<|(fU A).alloc o
theorem a_.bk(h:a_ w B p g T n c)(hb:Bk d w w'):a_ w' B p g T n c:=
 h.fr hb.adu (λk b=>by
  have⟨o,a,hb⟩:=Ed b;refine⟨λe=>?_,λe=>?_,λe=>?_⟩
  .obtain⟨cs,h1⟩:=h.w_;rw[e,h1]at a;cases a;cases hb
  .obtain⟨es,cc,h1⟩:=h.aD.isMap;rw[e,h1]at a;cases a;cases hb
  .obtain⟨_,cc,t,h1,_⟩:=h.Tv e;rw[h1]at a;cases a;cases hb)
theorem a_.abj{b:Nat}(h:a_ w B p g T n c)(hb:Bk b w w'):rd p w'=rd p w:=by
 have⟨cs,a⟩:=h.w_;exact lR<|(hb.block p _ a<|.inl rfl).trans a.symm
theorem gQ.bk{b:nL}(hf:gQ p S b w)(h:a_ w B p g T n c)(hb:Bk d w w')(hn:b.heap.size<=d):gQ p S b w':=
 ⟨⟨hb.os.trans hf.fr.os,hb.tape.trans hf.fr.tape,hb.output.trans hf.fr.output,zzk hf.fr.size hb.size,λk a f=>by
  have L:=zzl a hf.fr.size;have e:=hb.block k _ (Cq L) (.inr dp);rw[e,<-Cq L];exact hf.fr.block k a f⟩,λk a m=>hf.stay k a (by rw[h.abj hb]at m;exact m)⟩
theorem gQ.kpc{l:Nat}(hf:gQ p S w w')(h:a_ w B p l T n c)(g:∀k∈S,k=p\/k=T):Rw w w':=
 ⟨hf.fr.size,λk o a d=>(hf.block (zza.1 a).1 (λe=>by
  obtain e|e:=g k e
  .obtain⟨cs,b⟩:=h.w_;rw[e,b]at a;cases a;simp[NK]at d
  .obtain⟨es,f,b⟩:=h.aD.isMap;rw[e,b]at a;cases a;simp[NK]at d) (λe=>by
  have⟨_,f,t,b,i⟩:=h.Tv e;rw[b]at a;cases a;obtain rfl|rfl:=i<;>simp[NK]at d)).trans a⟩
def adw{α:Type}(F:Fence)(n:Nat)(P:Program)(gf:Nat)(lb:Array Value)(encs:α->Array Value)(rs:List α)(Inv:nL->Prop)(l:Nat)(W:nL):Prop :=
 ∀J:List α->nL->Prop,(∀s A,J s A->Inv A)->(∀s A B,J s A->W.heap.size<=A.heap.size->Bk W.heap.size A B->J s B) ->
  (∀p x b,J p b->W.heap.size<=b.heap.size->p++[x] <+: rs->YieldAt F (n-1) P l (encs x) b λe a=>e=.returned (.bool true)/\J (p++[x]) a/\Rw b a) ->
  J [] W->CallsIn F n P gf (#[.func (.yield l) #[] #[]]++lb) W λe a=>(∃v,e=.returned v)/\J rs a
section
variable{F:Fence}{n:Nat}{P:Program}
theorem FL{α:Type}{g:Operand}{ps:Array Tmp}{assign body:Code}{Q:Exit->Act->nL->Prop}{a:Act}{w:nL}
  (hro:F.round=none) (h1:1<=n) {gf:Nat} {lb:Array Value} (hg:a.eval g=.func (.func gf) #[] lb) (O3:F.fn gf) (eg:∀args w,(callFunc gf args).run P w=.ok (.enter gf args) w)
  {encs:α->Array Value} {rs:List α} {Inv:nL->Prop} (eG:∀x,(encs x).size=ps.size)
  (sF:∀W1,Fr [] w W1->W1.heap.size=w.heap.size+2->adw F (n-1) P gf lb encs rs Inv (w.heap.size+1) W1)
  (I:List α->nL->Prop) (hI0:I [] w) (Qd:∀s A,I s A->Inv A) (yh:∀s A B,I s A->w.heap.size<=A.heap.size->Bk w.heap.size A B->I s B)
  (Ax:α->Act->nL->Prop) (hAx:∀x a' A r,Ax x a' A->Ax x a' (A.putObj (w.heap.size+1)<|.loop r))
  (qT:∀(pre:List α) (x:α) (W:nL) (K:Act->nL->Prop),I pre W->w.heap.size+2<=W.heap.size->pre++[x]<+:rs->(∀a' W',Bk w.heap.size W W'->Rw W W'->Ax x a' W'->K a' W') ->
   assign.wpIn (F.inRound (w.heap.size+1)) (n-1-1) P (Exit.then K (λ_ _ _=>False)) {tmps:=(ps.zip (encs x)).foldl (λt (p,v)=>t.setIfInBounds p v) a.tmps,defers:=[]} W)
  (Bw:∀(pre:List α) (x:α) (a':Act) (W:nL),I pre W->w.heap.size+2<=W.heap.size->Ax x a' W->pre++[x]<+:rs->body.wpIn (F.inRound<|w.heap.size+1) (n-1-1) P (λe _ W'=>e=.normal/\I (pre++[x]) W'/\Rw W W') a' W)
  (By:∀(W:nL),I rs W->w.heap.size+2<=W.heap.size->W.heap[w.heap.size]?=some (.deferred<|some [])->Q .normal {a with defers:={target:=.collected w.heap.size,args:=#[]}::a.defers} W) :
  (Code.rangeFunc g ps assign body).wpIn F n P Q a w:=by
 refine wpIn_rangeFunc λfn Po=>?_
 rw[hro];have⟨L,hL⟩:∃L:LoopState->Loop,L=λst=>{state:=st,pending:=none,fn,tmps:=a.tmps,params:=ps,assign,body,defers:=w.heap.size}:=⟨_,rfl⟩
 have⟨W1,gP⟩:=gb <|(w.alloc<|.deferred<|some []).alloc (.loop<|L .ready);have dB:Fr [] w W1:=by rw[gP];exact((fU w).alloc _).alloc _
 have dT:W1.heap.size=w.heap.size+2:=by rw[gP];simp
 have eK:W1.heap[w.heap.size+1]?=some (.loop<|L .ready):=by
  rw[gP];have:=Cy (w.alloc<|.deferred<|some [])<|.loop<|L .ready;rwa [zzv]at this
 have kR:W1.heap[w.heap.size]?=some (.deferred<|some []):=by
  rw[gP];exact(zzf _ _ _ dv).trans<|Cy w _
 refine⟨w.heap.size+1,[{target:=.collected w.heap.size,args:=#[]}],W1,{target:=.fn (.func gf) lb,args:=#[.func (.yield<|w.heap.size+1) #[] #[]]},W1,gf,#[.func (.yield<|w.heap.size+1) #[] #[]]++lb,W1,?_,?_,?_,?_,λ_=>h1,?_⟩
 .rw[gP,hL];exact run_enterLoop_outer _ _ _ _ _
 .simp only[resolve,hg];simp[go_sem]
 .intro f' Np;simp[Target.leads]at Np;subst Np;exact O3
 .simp[invoke,go_sem,eg]
 refine(sF W1 dB dT (λs A=>I s A/\A.heap[w.heap.size+1]?=some (.loop<|L .ready)/\A.heap[w.heap.size]?=some (.deferred<|some [])/\w.heap.size+2<=A.heap.size) (λs A hs=>Qd s A hs.1) ?_ ?_ ⟨yh _ _ _ hI0 (zzc _)<|Bk.fr dB,eK,kR,by omega⟩).mono ?_
 .rintro s A B ⟨i1,i2,i3,i4⟩ _ hb;rw[dT]at hb;exact⟨yh s A B i1 dp<|hb.mono dp,hb.block _ _ i2<|.inr dp,hb.block _ _ i3<|.inr dp,zzk i4 hb.size⟩
 .rintro pre x W ⟨i1,i2,i3,i4⟩ _ eN;have hy:=run_yield (P:=P) (args:=encs x) i2 (by rw[hL];exact eG x);rw[hL]at hy;refine⟨fn,_,assign,body,hy,roundIn_of_wpIn Po<|qT pre x W _ i1 i4 eN λa' Wa ba ka xa=>?_⟩;have la:=ka.same _ _ i2 rfl;have da:=ka.same _ _ i3 rfl;have lta:=(zza.1 la).1;obtain⟨Wb,uT⟩:∃Wb,Wb=Wa.putObj (w.heap.size+1) (.loop<|L .busy):=⟨_,rfl⟩;have bb:Bk w.heap.size Wa Wb:=by rw[uT];exact Bk.put la rfl dp _
  have ZC:Wb.heap[w.heap.size+1]?=some (.loop<|L .busy):=by rw[uT];exact Hf lta
  have sb:Wb.heap.size=Wa.heap.size:=by rw[uT];simp
  refine⟨Wb,by rw[uT];have:=run_beginRound (P:=P) la (by rw[hL]);rw[hL]at this ⊢;exact this,?_⟩;apply wpIn_mono (Bw pre x a' Wb (yh _ _ _ i1 dp<|ba.trans bb) (by rw[sb];omega) (by rw[uT];exact hAx _ _ _ _ xa) eN);rintro e a3 W3 ⟨rfl,XF,k3⟩;have l3:=k3.same _ _ ZC rfl;have Wh:=(zza.1 l3).1;have d3:=k3.same _ _ (by rw[uT];exact(qY dp).trans da) rfl;have oA:=run_endRound (P:=P) none l3;refine⟨_,_,oA,rfl,⟨yh _ _ _ XF dp<|Bk.put l3 rfl dp _,?_,(qY dp).trans d3,by rw[cJ];omega⟩,?_,?_⟩
  .rw[Hf Wh,hL];rfl
  .rw[cJ];have:=ka.size;have:=k3.size;omega
  .intro k o hk ho;by_cases e:k=w.heap.size+1
   .subst e;rw[i2]at hk;cases hk;rw[Hf Wh,hL];rfl
   .rw[qY e];refine k3.same k o ?_ ho;rw[uT,qY e];exact ka.same k o hk ho
 .rintro e W2 ⟨⟨v,rfl⟩,i1,i2,i3,i4⟩;have oA:=run_endLoop (P:=P) i2 (by rw[hL];simp);have hp:(L .ready).pending=none:=by rw[hL]
  rw[hp]at oA;refine⟨none,_,oA,?_⟩;exact By _ (yh _ _ _ i1 dp<|Bk.put i2 rfl dp _) (by rw[cJ];exact i4)<|(qY dp).trans i3
end
def jO{V:Type}(L:List (Nat × V)):List Nat:=(L.map (·.1)).mergeSort (λa b=>decide (a<=b))
theorem tj{V:Type}{L:List (Nat×V)}{ss:List Nat}(hp:ss.Perm<|L.map (·.1))(s:ss.Pairwise (·<=·)):ss=jO L:=by
 have d:=List.pairwise_mergeSort (le:=λa b:Nat=>decide<|a<=b) (by intro a b c;simp;omega) (by intro a b;simp;omega)<|L.map (·.1);apply List.Perm.eq_of_pairwise (λa b _ _ d e=>Nat.le_antisymm d e) s (d.imp λh=>by simpa using h);exact hp.trans (List.mergeSort_perm _ _).symm
theorem Qe(n:Nat)(hn:6<=n)(l a b m:Nat)(L:List (Nat × fQ))(V:L.length<=12)(W:nL)(X:W.cell? (gi a)=some (.map (some b)))(C:dV KU EX W b m L):
  adw Fence.wide n prog 240 #[gx a] (λx:Nat × fQ=>#[.int .u64 (x.1:Int),lz x.2]) (wy L (jO L)) (λ_=>True) l W:=λJ _ z Y y=>by
 have h:=K_ n hn l a b m L V W Rw (λ_ _=>True) (λ_ _ _ _=>trivial) (λk A B c t D d i _=>⟨(d.same k _ i (by rcases D with rfl|rfl<;>rfl)).trans i.symm,trivial⟩)
  (λs A=>J s A/\W.heap.size<=A.heap.size) (λ_ _=>False)
  (λs A B f g=>⟨z s A B f.1 f.2 (Bk.fr ⟨g.os,g.tape,g.output,g.size,λk d _=>g.block k d dv⟩),zzk f.2 g.size⟩)
  (λr x v j _ _ hp=>by
   obtain⟨ss,p,o,q⟩:=hp;rw[tj p o] at q;obtain⟨w,tmps,assign,body,E,R⟩:=Y r x v j.1 j.2 q;refine⟨w,tmps,assign,body,E,R.mono ?_⟩;rintro e u ⟨r1,r2,r3⟩
   exact .inl ⟨r1,⟨r2,zzk j.2 r3.size⟩,r3⟩)
  X C ⟨y,zzc _⟩
 refine h.mono ?_;rintro e u ⟨he,⟨ss,p,o,j⟩|⟨r,_,hf⟩⟩
 .grind [tj]
 .grind
def bL.aR(c:bL)(x:Nat × fQ):bL :=
 if x.2.aS=0 then (if x.2.state=5 then (if 8<=c.bw-x.2.since then c.kX x.1 else { c with out:=c.out++(bV nk (c.tx x.1).parts).map λk=>(x.1,k,1) })
 else if x.2.state=6 then { c with out:=c.out++(bV kE (c.tx x.1).parts).map λk=>(x.1,k,5) } else c) else c
def bL.tick(c:bL):bL:=(wy c.aD (jO c.aD)).foldl bL.aR { c with bw:=c.bw+1 }
theorem Df(c:bL)(x:Nat×fQ):(c.aR x).bw=c.bw:=by grind[bL.aR,bL.kX]
theorem BW(l:List<|Nat×fQ):∀c:bL,(l.foldl bL.aR c).bw=c.bw:=by
 induction l with
 |nil=>grind
 |cons x r ih=>grind[Df]
theorem ui{L:List (Nat×fQ)}(b:fM L){y:Nat×fQ}(h:y∈wy L (jO L)):y∈L:=by
 unfold wy at h;obtain⟨k,a,rfl⟩:=zzq.1 h;have m:k∈L.map (·.1):=by unfold jO at a;exact List.mem_mergeSort.1 a
 obtain⟨p,hp,rfl⟩:=zzq.1 m;rw[jR b<|show(p.1,p.2)∈L from hp];exact hp
theorem Uz(N:Nat)(hN:12<=N)(B p g T n:Nat)(c:bL)(w:nL)(a8:a_ w B p g T n c)(hl:c.aD.length<=12)(al:∀x∈c.aD,x.2.since<=c.bw/\x.1<2^64)(tY:c.bw+1<2^64)(hn:n+200<1000000000):
  CallsIn Fence.wide N prog 113 #[gx p] w λe w'=>e=.returned (.tuple #[])/\a_ w' B p g T (n+120) c.tick/\gQ p [p,T] w w':=by
 obtain⟨W,P⟩:∃W,W=w.alloc (.cells #[.pointer (some ⟨p,0,none⟩)] 68):=⟨_,rfl⟩;have lh:Fr [] w W:=by rw[P];exact(fU w).alloc _
 have ni:W.heap.size=w.heap.size+1:=by rw[P];simp
 have r0:W.heap[w.heap.size]?=some (.cells #[.pointer (some ⟨p,0,none⟩)] 68 (0,0)):=by rw[P];exact oz w _
 have lx:=a8.new lh;have dM:=a8.jS;obtain⟨rv,ov,i,_⟩:=lx.ex;have c1:=af i 1;have c4:=af i 4;have f4:=aq i 4;have v0:=af r0 0;simp at c1 c4 v0;have i1:IntKind.u64.wrap ((c.bw:Int)+1)=(c.bw:Int)+1:=by rw[Bl];omega
 have i2:(c.bw:Int)+1<18446744073709551616:=dp;have aX:¬p=w.heap.size:=dp;have sA:¬w.heap.size=p:=dp;have ag:Fence.wide.round=none:=rfl;rw[P] at c1 c4 v0 f4;have H:=ah (show a_ W B p g T n c/\Fr [] w W/\W.heap[w.heap.size]?=some (.cells #[.pointer (some ⟨p,0,none⟩)] 68 (0,0))/\W.heap.size=w.heap.size+1 from ⟨lx,lh,r0,ni⟩);have aE:=ah al;have a7:=ah P;have Pj:=ah dM;clear a8 lx lh r0 ni i al P dM;have bH:Fence.wide.fn 178:=trivial;have u:Fence.wide.fn 240:=trivial;have Yo:1<=N:=dp;refine callsIn_of_wp_marks func113 rfl trivial ?_ ag;simp only[ntmps113,ji,zzr,jn,Nat.reduceAdd,Nat.reduceSub,mK,jo,j7,j8,kV,lC]
 gi_wp2_with (gi_at_call 178;refine(Bu _ T _).mono ?_;rintro e w2 ⟨rfl,rfl⟩)
 obtain⟨h,mR⟩:∃h,h=(w.alloc (.cells #[.pointer (some ⟨p,0,none⟩)] 68)).setCell ⟨p,4,none⟩ (.int .u64 ((c.bw:Int)+1)):=⟨_,rfl⟩;rw[<-mR];have cY:Fr [p] W h:=by rw[mR,a7.out];exact Fr.cG dv _ _
 have dB:∀rv ov,W.heap[p]?=some (ub g T c rv ov)->h.heap[p]?=some (ub g T { c with bw:=c.bw+1 } rv ov):=λrv ov e=>by
  rw[mR,<-a7.out];have:=aF e 4 (.int .u64 ((c.bw:Int)+1))
  simpa [ub] using this
 have l6:a_ h B p g T n { c with bw:=c.bw+1 }:=H.1.cell rfl (hnum:=⟨H.1.gw.1,H.1.gw.2.1,tY⟩) (hf:=cY) (hb:=dB);have oW:gQ p [p,T] w h:=(H.2.1.r Pj.1 dv dv).trans (H.1.Ny cY dv dB);have ax:h.heap[w.heap.size]?=some (.cells #[.pointer (some ⟨p,0,none⟩)] 68 (0,0)):=(cY.block _ (by have:=H.2.2.2;omega) (by simp;exact sA)).trans H.2.2.1;have ao:h.heap.size=w.heap.size+1:=by rw[mR];simp
 obtain⟨w2,lI⟩:∃w2,w2=h.alloc (.cells #[.map (some T)] 192):=⟨_,rfl⟩;rw[<-lI];have FM:Fr [] h w2:=by rw[lI];exact(fU h).alloc _
 have av:w2.heap.size=w.heap.size+2:=by rw[lI];simp;omega
 have lT:=l6.new FM;have iY:gQ p [p,T] w w2:=oW.trans (FM.r l6.jS.1 dv dv);have ay:=(FM.block _ dp dv).trans ax
 have aA:w2.heap[w.heap.size+1]?=some (.cells #[.map (some T)] 192 (0,0)):=by
  rw[lI,<-ao];exact oz h _
 have G:=ah (show a_ w2 B p g T n { c with bw:=c.bw+1 }/\gQ p [p,T] w w2/\w2.heap[w.heap.size]?=some (.cells #[.pointer (some ⟨p,0,none⟩)] 68 (0,0))/\w2.heap[w.heap.size+1]?=some (.cells #[.map (some T)] 192 (0,0)) from ⟨lT,iY,ay,aA⟩);have HZ:=ah av;clear lI mR cY dB l6 oW ax ao FM av lT iY ay aA c1 c4 v0 f4 i1 i2 aX sA H a7
 refine FL ag Yo (gf:=240) (lb:=#[.pointer (some ⟨w.heap.size+1,0,none⟩)]) rfl u (enters_of func240 eu rfl)
  (encs:=λx:Nat × fQ=>#[.int .u64 (x.1:Int),lz x.2]) (rs:=wy c.aD (jO c.aD)) (Inv:=λ_=>True) (λ_=>rfl)
  (λWx k9 b4 aI aW hJ hY h0=>Qe (N-1) dp _ (w.heap.size+1) T n c.aD hl Wx (by
   have i:=(k9.block (w.heap.size+1) (by have:=HZ.out;omega) dv).trans G.2.2.2;have L:=af i 0
   simpa using L) (G.1.aD.fr k9 dv) aI aW hJ hY h0)
  (λf A=>a_ A B p g T (n+10*f.length) (f.foldl bL.aR { c with bw:=c.bw+1 })/\gQ p [p,T] w2 A/\A.heap[w.heap.size]?=some (.cells #[.pointer (some ⟨p,0,none⟩)] 68 (0,0)))
  ⟨by simpa using G.1,(fU w2).r G.1.jS.1 dv dv,G.2.2.1⟩
  (λ_ _ _=>trivial)
  (λq A B R hz XL=>⟨R.1.bk XL,R.2.1.bk R.1 XL dp,XL.block _ _ R.2.2 (.inl rfl)⟩)
  (λx a' A=>∃d,w2.heap.size+2<=d/\A.heap[d]?=some (.cells (J9 x.2).toArray 249 (0,0))/\a'={ tmps:=#[.pointer (some ⟨p,0,none⟩),.pointer (some ⟨w.heap.size,0,none⟩),.int .u64 (x.1:Int),.pointer (some ⟨d,0,none⟩),.pointer (some ⟨p,0,none⟩),.pointer (some ⟨p,0,none⟩),.pointer (some ⟨p,4,none⟩),.int .u64 (c.bw:Int),.int .u64 ((c.bw:Int)+1),.pointer (some ⟨p,0,none⟩),.pointer (some ⟨p,4,none⟩),.pointer (some ⟨p,0,none⟩),.pointer (some ⟨p,0,none⟩),.pointer (some ⟨p,1,none⟩),.map (some T),.func (.func 240) #[] #[.pointer (some ⟨w.heap.size+1,0,none⟩)],.int .u64 (x.1:Int),lz x.2,undef,undef,undef,undef,undef,undef,undef,undef,undef,undef,undef,undef,undef,undef,undef,undef,undef,undef,undef,undef,undef,undef,undef,undef,undef,undef,undef,undef,undef,undef,undef,undef,undef,undef,undef],defers:=[] })
  (λx a' A r R=>by
   obtain⟨d,i,L,h3⟩:=R
   exact⟨d,i,(qY dp).trans L,h3⟩)
  ?assign ?body ?done
 case assign =>
  have pV:=@Bg;rintro f x A b2 hI ym eN Q
  have Y:x∈c.aD:=by
   obtain⟨_,_,_,gq,_⟩:=G.1.aD;exact ui gq (eN.subset dv)
  have Z:x.2.Ok:=by
   obtain⟨_,_,_,_,Z⟩:=G.1.aD;exact(Z _ Y).2
  obtain⟨t,s,ps,z,qd⟩:=x;obtain⟨l,o,v,y,C,E,F,I,J,eG⟩:=nine Z.1
  change ps=_ at eG
  subst eG;rw[bC];rw[bC] at Q;have HA:=ah (show A.heap.size<(A.alloc (.cells #[.int .i64 (s:Int),.int .u8 (l:Int),.int .u8 (o:Int),.int .u8 (v:Int),.int .u8 (y:Int),.int .u8 (C:Int),.int .u8 (E:Int),.int .u8 (F:Int),.int .u8 (I:Int),.int .u8 (J:Int),.int .u64 (z:Int),bB qd] 249)).heap.size from dv);have HK:=ah Q;clear Q hI
  gi_wp2
  exact HK.out _ _ (Bk.fr ((fU A).alloc _)) (Rw.alloc A _) ⟨A.heap.size,ym,oz A _,rfl⟩
 case body =>
  have pV:=@Bg;rintro f x a' A ⟨BF,vG,rcA⟩ ym ⟨d,htp,CK,rfl⟩ eN
  have Y:x∈c.aD:=by
   obtain⟨_,_,_,gq,_⟩:=G.1.aD;exact ui gq (eN.subset dv)
  have Z:x.2.Ok:=by
   obtain⟨_,_,_,_,Z⟩:=G.1.aD;exact(Z _ Y).2
  have ae:=aE.out x Y
  have qI:f.length+1<=12:=by
   have:=eN.length_le;unfold wy jO at this;simp at this;omega
  obtain⟨b,oU⟩:∃b,b=f.foldl bL.aR { c with bw:=c.bw+1 }:=⟨_,rfl⟩;have an:b.bw=c.bw+1:=by rw[oU,BW]
  have V:=ah (show ∀K,a_ K B p g T (n+10*f.length+10) (b.aR x)->gQ p [p,T] A K->(a_ K B p g T (n+10*(f.length+1)) ((f.foldl bL.aR { c with bw:=c.bw+1 }).aR x)/\gQ p [p,T] w2 K/\K.heap[w.heap.size]?=some (.cells #[.pointer (some ⟨p,0,none⟩)] 68 (0,0)))/\Rw A K from λK i L=>by
   refine⟨⟨?_,vG.trans L,L.cells BF rcA (by simp;have:=Pj.out;omega) du du⟩,L.kpc BF dv⟩;rw[<-oU,Nat.mul_add,<-Nat.add_assoc]
   exact i)
  rw[<-oU] at BF;clear oU;obtain⟨t,s,ps,z,qd⟩:=x;obtain⟨l,o,v,y,C,E,F,I,J,eG⟩:=nine Z.1
  change ps=_ at eG
  subst eG;have LJ:A.heap[d]?=some (.cells #[.int .i64 (s:Int),.int .u8 (l:Int),.int .u8 (o:Int),.int .u8 (v:Int),.int .u8 (y:Int),.int .u8 (C:Int),.int .u8 (E:Int),.int .u8 (F:Int),.int .u8 (I:Int),.int .u8 (J:Int),.int .u64 (z:Int),bB qd] 249 (0,0)):=CK;obtain⟨t0,_,_,_,_,_,_,_,_,_,ta,tb⟩:=mD LJ;have mn:=BF.jS.1;obtain⟨b7,b6,gA,_⟩:=BF.ex;have O:=af gA 4;have a0:=af rcA 0;simp at O a0;obtain⟨Tk,ab⟩:∃Tk,Tk=b.bw:=⟨_,rfl⟩;rw[<-ab] at O an;have b0:z<=Tk:=by have:=ae.1;change z<=c.bw at this;omega
  have ht:t<18446744073709551616:=ae.2;have b3:Tk<18446744073709551616:=dp;have b1:(Tk:Int)-z=((Tk-z:Nat):Int):=dp;obtain⟨D,hD⟩:∃D,D=Tk-z:=⟨_,rfl⟩;rw[<-hD] at b1;have b5:IntKind.u64.wrap (D:Int)=D:=by rw[Bl];omega
  have ZR:=ah BF;have a1:=ah (zzb ab hD);clear BF vG rcA gA CK LJ ae Y Z eN ym htp an ab b0 hD;rw[bC];by_cases ad:qd=0
  .subst ad;rw[aT] at tb ⊢;by_cases h5:s=5
   .subst h5;by_cases h8:8<=D
    .have i8:(8:Int)<=D:=dp;have U:=ah (show b.aR (t,⟨5,[l,o,v,y,C,E,F,I,J],z,0⟩)=b.kX t from by
      unfold bL.aR
      rw[oo rfl,oo rfl,<-a1.1,oo (show 8<=Tk-z from by rw[<-a1.2];exact h8)])
     have j:=(yY (n:=N-1-1-1)).2 (vH B p g T (n+10*f.length) t b A.drew (ZR.out.new (fU A).drew) ht dp)
     gi_wp2
     refine hZ (S:=(λw'=>w'.cell? ⟨d,0,none⟩=some (.int .i64 (5:Int))/\w'.cell? ⟨d,10,none⟩=some (.int .u64 (z:Int))/\w'.cell? ⟨w.heap.size,0,none⟩=some (.pointer (some ⟨p,0,none⟩))/\w'.cell? ⟨p,4,none⟩=some (.int .u64 (Tk:Int)))) eu eu (by rintro⟨a,w,M⟩;cases M.1) ⟨t0,ta,a0,O⟩ (λaa=>?_);refine b_ 0 ?_;refine b_ 1 ?_;refine b_ 2 ?_;refine b_ 3 ?_;refine b_ 4 ?_;refine b_ 5 ?_;refine b_ 6 ?_;refine b_ 7 ?_;refine b_ 8 ?_;refine b_ 9 ?_;refine b_ 10 ?_;refine b_ 11 ?_;refine b_ 12 ?_;refine b_ 13 ?_
     (try simp only[Act.put,mA,hU,mI])
     refine Cj eu ?_ _
     gi_wp2_with fail
     refine⟨trivial,λ_=>dp,CallsIn.inRound _ (j.mono ?_)⟩;clear j;rintro e W3 ⟨rfl,mH,u⟩;have X:=ah (V.out W3 (by rw[U.out];exact mH) (((fU A).drew.r mn dv dv).trans u));clear mH u
     gi_wp2
     exact X.out
    .have i8:¬(8:Int)<=D:=dp;have U:=ah (show b.aR (t,⟨5,[l,o,v,y,C,E,F,I,J],z,0⟩)={ b with out:=b.out++(bV nk (b.tx t).parts).map λk=>(t,k,1) } from by
      unfold bL.aR
      rw[oo rfl,oo rfl,<-a1.1,mE (show ¬8<=Tk-z from by rw[<-a1.2];exact h8)])
     have j:=(yY (n:=N-1-1-1)).2 (sO B p g T (n+10*f.length) t 181 nk E' Ao 1 b A.drew (ZR.out.new (fU A).drew) ht dp)
     gi_wp2
     refine hZ (S:=(λw'=>w'.cell? ⟨d,0,none⟩=some (.int .i64 (5:Int))/\w'.cell? ⟨d,10,none⟩=some (.int .u64 (z:Int))/\w'.cell? ⟨w.heap.size,0,none⟩=some (.pointer (some ⟨p,0,none⟩))/\w'.cell? ⟨p,4,none⟩=some (.int .u64 (Tk:Int)))) eu eu (by rintro⟨a,w,M⟩;cases M.1) ⟨t0,ta,a0,O⟩ (λaa=>?_);refine b_ 0 ?_;refine b_ 1 ?_;refine b_ 2 ?_;refine b_ 3 ?_;refine b_ 4 ?_;refine b_ 5 ?_;refine b_ 6 ?_;refine b_ 7 ?_;refine b_ 8 ?_;refine b_ 9 ?_;refine b_ 10 ?_;refine b_ 11 ?_;refine b_ 12 ?_;refine b_ 13 ?_
     (try simp only[Act.put,mA,hU,mI])
     refine Cj eu ?_ _
     gi_wp2_with fail
     refine⟨trivial,λ_=>dp,CallsIn.inRound _ (j.mono ?_)⟩;clear j;rintro e W3 ⟨rfl,mH,u⟩;have X:=ah (V.out W3 (by rw[U.out];exact mH.mono dp) (((fU A).drew.r mn dv dv).trans (gQ.mono u dv)));clear mH u
     gi_wp2
     exact X.out
   .have i5:¬(s:Int)=5:=dp;have j5:((s:Int)==5)=false:=oT.2 i5;by_cases h6:s=6
    .subst h6
     have U:=ah (show b.aR (t,⟨6,[l,o,v,y,C,E,F,I,J],z,0⟩)={ b with out:=b.out++(bV kE (b.tx t).parts).map λk=>(t,k,5) } from by
      unfold bL.aR
      rw[oo rfl,mE (show ¬6=5 from du),oo rfl])
     have j:=(yY (n:=N-1-1-1)).2 (sO B p g T (n+10*f.length) t 182 kE Am wV 5 b A.drew (ZR.out.new (fU A).drew) ht dp)
     gi_wp2
     refine hZ (S:=(λw'=>w'.cell? ⟨d,0,none⟩=some (.int .i64 (6:Int))/\w'.cell? ⟨d,10,none⟩=some (.int .u64 (z:Int))/\w'.cell? ⟨w.heap.size,0,none⟩=some (.pointer (some ⟨p,0,none⟩))/\w'.cell? ⟨p,4,none⟩=some (.int .u64 (Tk:Int)))) eu eu (by rintro⟨a,w,M⟩;cases M.1) ⟨t0,ta,a0,O⟩ (λaa=>?_);refine b_ 0 ?_;refine b_ 1 ?_;refine b_ 2 ?_;refine b_ 3 ?_;refine Ka 4 ?_;refine Ka 5 ?_;refine Ka 6 ?_;refine Ka 7 ?_;refine Ka 8 ?_;refine Ka 9 ?_;refine Ka 10 ?_;refine Ka 11 ?_;refine b_ 12 ?_;refine b_ 13 ?_
     (try simp only[Act.put,mA,hU,mI])
     refine Cj eu ?_ _
     gi_wp2_with fail
     refine⟨trivial,λ_=>dp,CallsIn.inRound _ (j.mono ?_)⟩;clear j;rintro e W3 ⟨rfl,mH,u⟩;have X:=ah (V.out W3 (by rw[U.out];exact mH.mono dp) (((fU A).drew.r mn dv dv).trans (gQ.mono u dv)));clear mH u
     gi_wp2
     exact X.out
    .have i6:¬(s:Int)=6:=dp;have j6:((s:Int)==6)=false:=oT.2 i6
     have X:=ah (V.out A.drew (by
      have e:b.aR (t,⟨s,[l,o,v,y,C,E,F,I,J],z,0⟩)=b:=by
       unfold bL.aR;rw[oo rfl,mE (show ¬s=5 from h5),mE (show ¬s=6 from h6)]
      rw[e];exact(ZR.out.new (fU A).drew).mono dp) ((fU A).drew.r mn dv dv))
     gi_wp2
     refine hZ (S:=(λw'=>w'.cell? ⟨d,0,none⟩=some (.int .i64 (s:Int))/\w'.cell? ⟨d,10,none⟩=some (.int .u64 (z:Int))/\w'.cell? ⟨w.heap.size,0,none⟩=some (.pointer (some ⟨p,0,none⟩))/\w'.cell? ⟨p,4,none⟩=some (.int .u64 (Tk:Int)))) eu eu (by rintro⟨a,w,M⟩;cases M.1) ⟨t0,ta,a0,O⟩ (λaa=>?_);refine b_ 0 ?_;refine b_ 1 ?_;refine b_ 2 ?_;refine b_ 3 ?_;refine Ka 4 ?_;refine Ka 5 ?_;refine Ka 6 ?_;refine Ka 7 ?_;refine Ka 8 ?_;refine Ka 9 ?_;refine Ka 10 ?_;refine Ka 11 ?_;refine b_ 12 ?_;refine b_ 13 ?_
     (try simp only[Act.put,mA,hU,mI])
     refine Cj eu ?_ _
     gi_wp2
     exact X.out
  .have X:=ah (V.out A (by
    have e:b.aR (t,⟨s,[l,o,v,y,C,E,F,I,J],z,qd⟩)=b:=by
     unfold bL.aR;rw[mE ad]
    rw[e];exact ZR.out.mono dp) ((fU A).r mn dv dv))
   rw[aV ad] at tb ⊢
   gi_wp2
   exact X.out
 case done =>
  rintro A ⟨BF,vG,rcA⟩ ym Q
  gi_wp2
  refine⟨dv,.inl ⟨_,_,rfl,DK Q,?_⟩⟩;obtain⟨W9,Nh⟩:∃W9,W9=A.putObj w2.heap.size (.deferred none):=⟨_,rfl⟩;rw[<-Nh];have wu:Bk w2.heap.size A W9:=by rw[Nh];exact Bk.put Q rfl (zzc _) _
  have Ng:(wy c.aD (jO c.aD)).length<=12:=by
   unfold wy jO;simp;exact hl
  have h9:=(BF.bk wu).mono (m:=n+120) dp;exact⟨_,xw rfl _ _ _,rfl,h9,G.2.1.trans (vG.bk BF wu (zzc _))⟩
theorem Qf(B p g T n:Nat)(c:bL)(w:nL)(h:a_ w B p g T n c)(l:c.aD.length<=12)(i:∀x∈c.aD,x.2.since<=c.bw/\x.1<2^64)(Y:c.bw+1<2^64)(hn:n+200<1000000000):
  Calls prog 113 #[gx p] w λe w'=>e=.returned (.tuple #[])/\a_ w' B p g T (n+120) c.tick/\gQ p [p,T] w w':=
 (yY).1 (Uz 12 (zzc _) B p g T n c w h l i Y hn)
end
variable{m mk:Nat}{F:aG}{o:km}
def mN(mk:Nat)(F:aG):Prop:=∀u,F (aw u)≠none->mk<=u
def YH(mk:Nat)(o:km):Prop:=((o.kind=1\/o.kind=2)->∀u,o.name=aw u->mk<=u)/\(o.kind=4->∀u,o.to≠aw u)
theorem qm{nm:nS}{x:Option nS}(h:mN mk F)(hn:x≠none->∀u,nm=aw u->mk<=u):mN mk (F.set nm x):=λu a=>by
 by_cases e:aw u=nm
 .grind [aG.f_]
 .rw[aG.cU _ _ e]at a;exact h u a
theorem ry(h:mN mk F)(b:YH mk o):mN mk (dD F o):=by
 unfold dD;split
 .rename_i hk;exact qm h λ_ u a=>b.1 (.inl hk) u a
 .split
  .rename_i hk;exact qm h λ_ u a=>b.1 (.inr hk) u a
  .split
   .grind [qm]
   .split
    .rename_i hk;split
     .exact h
     .exact qm (qm h λ_ u a=>absurd a<|b.2 hk u) λhx=>absurd rfl hx
    .exact h
structure DF(mk:Nat)(d:aj):Prop where
 lB:mN mk d.ak
 now:mN mk d.now
 pen:∀o∈d.pending,YH mk o
theorem Cg:∀(os:List km) {F:aG},mN mk F->(∀o∈os,YH mk o)->mN mk (os.foldl dD F)
 |[],_,h,_=>h
 |o::os,_,h,ho=>Cg os (ry h<|ho o dv) λq a=>ho q<|by simp[a]
section
variable{mk:Nat}{d:aj}
theorem DF.aJ(h:DF mk d)(a b:Int):DF mk (d.aJ a b):=⟨h.lB,h.now,h.pen⟩
theorem DF.low(h:DF mk d){m:Nat}(b:m<=mk):DF m d:=
 ⟨λu a=>zzk b<|h.lB u a,λu a=>zzk b<|h.now u a,λo c=>⟨λk u a=>zzk b<|(h.pen o c).1 k u a,(h.pen o c).2⟩⟩
theorem DF.writes(h:DF mk d):DF mk d.writes.1:=by
 have s:=iX d;exact⟨by rw[s];exact h.lB,by rw[s];exact h.now,by rw[s];exact h.pen⟩
theorem DF.tell(h:DF mk d){o:km}(b:YH mk o):DF mk (d.tell o).1:=by
 have w:=h.writes;have WD:∀q∈d.writes.1.pending++[o],YH mk q:=λq a=>by
  obtain a|a:=zzo.1 a
  .exact w.pen q a
  .grind
 unfold aj.tell;simp only;split
 .exact⟨w.lB,w.now,WD⟩
 .split
  .exact w
  .split
   .exact w
   .split
    .exact w
    .exact⟨w.lB,ry w.now b,WD⟩
theorem DF.sync(h:DF mk d):DF mk d.sync.1:=by
 have w:=h.writes;unfold aj.sync;simp only;split
 .exact⟨Cg _ w.lB w.pen,w.now,dv⟩
 .exact w
theorem N0(nm:nS):YH mk ⟨3,nm,gW,gW⟩:=⟨λh=>(by obtain h|h:=h<;>cases h),λh=>(by cases h)⟩
theorem DF.removeAll:∀(ns:List nS) {d:aj},DF mk d->DF mk (d.removeAll ns).1
 |[],_,h=>h.sync
 |nm::r,d,h=>by
  show DF mk (if (d.tell ⟨3,nm,gW,gW⟩).2=0 then (d.tell ⟨3,nm,gW,gW⟩).1.removeAll r else d.tell ⟨3,nm,gW,gW⟩).1;split
  .exact DF.removeAll r<|h.tell<|N0 nm
  .exact h.tell<|N0 nm
theorem DF.bn(h:DF mk d)(first:Nat):DF mk (d.bn first).1:=by
 have o:YH mk ⟨1,cD,gW,str<|aB first 0 []⟩:=⟨λ_ u a=>absurd a.symm (br u).2,λh=>(by cases h)⟩;have b:YH mk ⟨4,cD,eA,gW⟩:=⟨λh=>(by obtain h|h:=h<;>cases h),λ_ u a=>absurd a.symm (br u).1⟩;unfold aj.bn;simp only;split
 .split
  .split
   .exact((h.tell o).sync.tell b).sync
   .exact(h.tell o).sync.tell b
  .exact(h.tell o).sync
 .exact h.tell o
variable{l:au}
def uI(mk:Nat)(l:au):Prop:=(∀s∈l.segs,mk<=s)/\mk<=l.next/\(l.filled<600->l.segs≠[])
theorem DF.xB(h:DF mk d):DF mk (l.sync d).2.1:=by
 unfold au.sync;split<;>exact h.sync
theorem DF.wr{r:au×aj×Nat}(h:DF mk d)(a:DF mk r.2.1):DF mk (l.wr d r).2.1:=by grind[au.wr]
theorem DF.put(h:DF mk d)(s:uI mk l)(x:List Nat):DF mk (l.put d x).2.1:=by
 have A:DF mk (l.room d).2.1:=by
  unfold au.room;split
  .exact h
  .split<;>exact h.xB
 have y:(l.room d).2.2=0->∀u,aw ((l.room d).1.segs.getLastD 0)=aw u->mk<=u:=λb u a=>by
  have a:=fN a;rw[<-a];unfold au.room at b ⊢;split
  .rename_i hf;have e:=s.2.2 hf;rw[List.getLastD_eq_getLast?,List.getLast?_eq_some_getLast e];exact s.1 _<|List.getLast_mem e
  .rename_i hf;rw[mE hf]at b;split
   .show mk<=((l.sync d).1.segs++[(l.sync d).1.next]).getLastD 0;have B:(l.sync d).1.next=l.next:=by grind[au.sync]
    simp[B];exact s.2.1
   .grind
 unfold au.put;split
 .rename_i b;exact A.tell ⟨λ_ u a=>y b u a,λh=>(by cases h)⟩
 .exact A
theorem DF.append(h:DF mk d)(a:uI mk l)(kind:Nat)(s:nS):DF mk (l.append d kind s).2.1:=by
 unfold au.append;split
 .exact h
 .split<;>(exact h.wr<|h.put a _)
theorem DF.force(h:DF mk d):DF mk (l.force d).2.1:=by
 unfold au.force;split
 .exact h
 .exact h.wr h.xB
theorem DF.cut(h:DF mk d)(low:Nat):DF mk (l.cut d low).2.1:=by
 have T:∀g f,DF mk (l.iP d g f).2.1:=λg f=>by
  unfold au.iP;split
  .split
   .exact DF.removeAll _<|h.xB.bn _
   .exact h.xB.bn _
  .exact h.xB
 unfold au.cut;split
 .exact h.wr h.xB
 .simp only;split<;>(exact h.wr<|T _ _)
theorem DF.dR(h:DF mk d)(ns:List nS):DF mk (l.dR d ns).2.1:=by
 unfold au.dR;split
 .exact DF.removeAll _ h.xB
 .exact h.xB
theorem DF.left(h:DF mk d){F:aG}(l:Left d.ak d.pending F):mN mk F:=by
 obtain⟨b,torn,q,rfl⟩:=l
 have y:∀(os:List km) (i:Nat) (s:ll×aG),mN mk s.2->(∀o∈os,YH mk o)->mN mk (jw b torn q i os s).2:=by
  intro os
  induction os with
  |nil=>intro i s h _;exact h
  |cons o os ih=>
   intro i s h c;show mN mk (jw b torn q (i+1) os<|bS (b i) (decide<|i=torn) q o s).2;refine ih (i+1) _ ?_ λx hx=>c x<|by simp[hx]
   have a:=c o dv;unfold bS
   repeat' split
   all_goals first
    |exact h
    |exact ry h a
    |exact ry h ⟨λk u e=>a.1 k u e,λk u=>a.2 k u⟩
 exact y d.pending 0 _ h.lB h.pen
end
theorem Dn{ss:List Sg}{us:List Nat}(h:bG F mk ss)(f:kY F mk ss us)(hf:mN m F):us.length<=(mk-m)+1:=by
 have d:∀u∈us,m<=u/\(u<mk\/u=az mk ss):=λu i=>by
  have⟨c,k⟩:=(f.2 u).1 i;refine⟨hf u c,?_⟩;obtain e|e|⟨v,e,_,h4⟩:=h.other _ c
  .grind [br]
  .grind [br]
  .grind [fN]
 have B:mk<=az mk ss:=by unfold az;omega
 have:=yA (mk-m+1) (us.map λu=>if u<mk then u-m else mk-m) ?_ ?_
 .grind
 .unfold List.Nodup;rw[zv];refine List.Pairwise.imp_of_mem ?_ f.1;intro a b g hb Z e;have j:=d a g;have c:=d b hb;split at e<;>split at e<;>omega
 .grind
end Go.Proofs.YtlgeloebpdmnnaaGreatDoor
