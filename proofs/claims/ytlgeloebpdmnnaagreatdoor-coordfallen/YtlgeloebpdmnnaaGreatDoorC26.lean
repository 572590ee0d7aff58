import Derived.Test.YtlgeloebpdmnnaaGreatDoorC24
set_option maxHeartbeats 8000000
set_option maxRecDepth 100000
namespace Go.Proofs.YtlgeloebpdmnnaaGreatDoor
open Go.RowKit Go.Maps Tryz Sc
section
open Go.Shelf
variable{D N h k m n p:Nat}{o:Obj}{pv s v:Value}{d:aj}{l:au}{A B C w w':nL}
def vS:Obj->Bool
 |.loop ..=>true
 |.deferred ..=>true
 |_=>false
structure Bk(n:Nat)(A B:nL):Prop where
 os:B.os=A.os
 tape:B.tape=A.tape
 output:B.output=A.output
 size:A.heap.size<=B.heap.size
 block:∀(k:Nat) (o:Obj),A.heap[k]?=some o->(vS o=false\/k<n)->B.heap[k]?=some o
theorem Bk.refl(n:Nat)(A:nL):Bk n A A:=⟨rfl,rfl,rfl,zzc _,λ_ _ h _=>h⟩
theorem Bk.trans(h:Bk n A B)(k:Bk n B C):Bk n A C:=
 ⟨k.os.trans h.os,k.tape.trans h.tape,k.output.trans h.output,zzk h.size k.size,λi o b a=>k.block i o (h.block i o b a) a⟩
theorem Bk.mono(h:Bk n A B)(c:m<=n):Bk m A B:=
 ⟨h.os,h.tape,h.output,h.size,λi o a b=>h.block i o a<|by obtain e|e:=b;exact .inl e;exact .inr dp⟩
theorem Bk.fr(h:Fr [] A B):Bk n A B:=
 ⟨h.os,h.tape,h.output,h.size,λk o a _=>(h.block k (zza.1 a).1 dv).trans a⟩
theorem Bk.put(h:A.heap[k]?=some o)(hb:vS o=true)(hn:n<=k)(b:Obj):Bk n A (A.putObj k b):=
 ⟨rfl,rfl,rfl,dv,λi x a hx=>by
  by_cases e:i=k
  .grind
  .exact(qY e).trans a⟩
def NJ(A:nL):List Nat:=(List.range A.heap.size).filter λk=>(A.heap[k]?.map vS).getD false
theorem Ed(h:k∈NJ A):∃o,A.heap[k]?=some o/\vS o=true:=by grind[NJ]
theorem Bk.adu(h:Bk n A B):Fr (NJ A) A B:=
 ⟨h.os,h.tape,h.output,h.size,λk a hn=>by
  rw[Cq a];refine h.block k _ (Cq a)<|.inl ?_
  cases hb:vS A.heap[k]with
  |false=>rfl
  |true=>exact absurd (by unfold NJ;rw[zzp,List.mem_range,Cq a];exact⟨a,by simpa using hb⟩) hn⟩
def vh:Obj->Bool
 |.cells _ t _=>decide (t≠65/\t≠200/\t≠177/\t≠34/\t≠89)
 |.map ..=>false
 |_=>true
structure td(A B:nL):Prop where
 size:A.heap.size<=B.heap.size
 same:∀(k:Nat) (o:Obj),A.heap[k]?=some o->vh o=true->B.heap[k]?=some o
theorem td.refl(A:nL):td A A:=⟨zzc _,λ_ _ h _=>h⟩
theorem td.trans(h:td A B)(k:td B C):td A C:=⟨zzk h.size k.size,λi o b a=>k.same i o (h.same i o b a) a⟩
theorem td.fr(h:Fr [] A B):td A B:=⟨h.size,λk o a _=>(h.block k (zza.1 a).1 dv).trans a⟩
theorem td.alloc(A:nL)(o:Obj):td A (A.alloc o):=td.fr<|(fU A).alloc o
theorem P'(h:vS o=true):vh o=true:=by cases o<;>first|rfl|cases h
theorem aM.vh{B:Nat}(a:aM w B k p h N pv s v l d n D m){q:Nat}(g:w.heap[q]?=some o)(f:vh o=true):¬Own k p w q:=by
 intro j;have y:∀{c:Array Value} {t:TypeId} {fr:Nat×Nat},w.heap[q]?=some (.cells c t fr)->False:=by
  intro c t fr b;rw[b]at g;cases g;simp[Go.Proofs.YtlgeloebpdmnnaaGreatDoor.vh]at f;exact a.free b f.1 f.2.1 f.2.2.1 f.2.2.2.1 f.2.2.2.2 j
 obtain e|e|e|e|e|e|e:=(a.own q).1 j
 .subst e;exact y a.blk
 .subst e;exact y a.bP.blk
 .subst e;have⟨es,c,i⟩:=a.bP.lB.isMap;rw[i]at g;cases g;cases f
 .subst e;have⟨es,c,i⟩:=a.bP.now.isMap;rw[i]at g;cases g;cases f
 .obtain⟨c,b⟩:=aL a.bP.pen e;exact y b
 .obtain⟨c,b⟩:=aL a.segs e;exact y b
 .obtain⟨c,b⟩:=aL a.recs e;exact y b
theorem mJ.kpo{B b e:Nat}(hf:mJ b p w w')(c:aM w B b p h N pv s v l d n D e):td w w':=
 ⟨hf.size,λk _ a o=>(hf.block k (zza.1 a).1<|c.vh a o).trans a⟩
theorem aM.bk{j:Nat}{B f g:Nat}(a:aM w B f p h N pv s v l d n D g)(hb:Bk j w w'):aM w' B f p h N pv s v l d n D g:=
 a.apart hb.adu (λk i _=>by
  have⟨o,b,c⟩:=Ed i;exact⟨a.vh b (P' c),λt e=>by rw[b]at e;cases e;cases c⟩)
structure Qb(ls:List Nat)(A B:nL):Prop where
 size:A.heap.size<=B.heap.size
 same:∀(k:Nat) (o:Obj),k∉ls->A.heap[k]?=some o->vh o=true->B.heap[k]?=some o
theorem td.x(h:td A B)(s:List Nat):Qb s A B:=⟨h.size,λk o _ a b=>h.same k o a b⟩
theorem Qb.trans{s:List Nat}(h:Qb s A B)(k:Qb s B C):Qb s A C:=⟨zzk h.size k.size,λi o l b a=>k.same i o l (h.same i o l b a) a⟩
abbrev FK:=List (Nat × Obj)
def Yn{α:Type}(F:Fence)(n:Nat)(P:Program)(gf:Nat)(lb:Array Value)(encs:α->Array Value)(rs:List α)(Inv:nL->Prop)(l:Nat)(f:List Nat)(W:nL):Prop :=
 ∀(J:FK->List α->nL->Prop) (S:List α->nL->Prop),(∀p s A,J p s A->Inv A)->(∀p s A B,J p s A->W.heap.size<=A.heap.size->Bk W.heap.size A B->J p s B)->(∀s A B,S s A->W.heap.size<=A.heap.size->Bk W.heap.size A B->S s B) ->
  (∀p s A B g c t,J p s A->W.heap.size<=A.heap.size->Fr [] A B->A.heap.size<=g->B.heap[g]?=some (.cells c t (0,0))->J ((g,.cells c t (0,0)) :: p) s B)->(∀p s A,J p s A->∀x∈p,A.heap[x.1]?=some x.2) ->
  (∀p b x d,J p b d->W.heap.size<=d.heap.size->b++[x] <+: rs->YieldAt F (n-1) P l (encs x) d λe a=>e=.returned (.bool true)/\J p (b++[x]) a/\td d a\/e=.returned (.bool false)/\S (b++[x]) a/\Qb f d a) ->
  J [] [] W->CallsIn F n P gf (#[.func (.yield l) #[] #[]]++lb) W λe a=>(∃v,e=.returned v)/\((∃p,J p rs a)\/∃b,b <+: rs/\S b a)
section
variable{F:Fence}{n:Nat}{P:Program}
theorem xp{α:Type}{g:Operand}{ps:Array Tmp}{assign body:Code}{Q:Exit->Act->nL->Prop}{a:Act}{w:nL}
  (D:List Nat) (Qc:∀k∈D,k<w.heap.size) (ad:F.round=none) (h1:1<=n) {gf:Nat} {lb:Array Value} (Y:a.eval g=.func (.func gf) #[] lb) (O3:F.fn gf) (eg:∀args w,(callFunc gf args).run P w=.ok (.enter gf args) w)
  {encs:α->Array Value} {rs:List α} {Inv:nL->Prop} (eG:∀x,(encs x).size=ps.size)
  (sF:∀d,Fr [] w d->d.heap.size=w.heap.size+2->Yn F (n-1) P gf lb encs rs Inv (w.heap.size+1) ((w.heap.size+1)::D) d)
  (I:FK->List α->nL->Prop) (S:List α->nL->Prop) (V:∀s A B,S s A->w.heap.size<=A.heap.size->Bk w.heap.size A B->S s B) (ab:I [] [] w) (Qd:∀p s A,I p s A->Inv A) (H:∀p s A B,I p s A->w.heap.size<=A.heap.size->Bk w.heap.size A B->I p s B)
  (IZ:∀p s A B g c t,I p s A->w.heap.size<=A.heap.size->Fr [] A B->A.heap.size<=g->B.heap[g]?=some (.cells c t (0,0))->I ((g,.cells c t (0,0))::p) s B) (I0:∀p s A,I p s A->∀x∈p,A.heap[x.1]?=some x.2)
  (J:α->Act->nL->Prop) (aa:∀x u A r,J x u A->J x u (A.putObj (w.heap.size+1)<|.loop r))
  (qT:∀(p:FK) (b:List α) (x:α) (W:nL) (a1:Act->nL->Prop),I p b W->w.heap.size+2<=W.heap.size->b++[x]<+:rs->(∀u y,Bk w.heap.size W y->td W y->J x u y->a1 u y) ->
   assign.wpIn (F.inRound (w.heap.size+1)) (n-1-1) P (Exit.then a1 (λ_ _ _=>False)) {tmps:=(ps.zip (encs x)).foldl (λt (p,v)=>t.setIfInBounds p v) a.tmps,defers:=[]} W)
  (Bw:∀(p:FK) (b:List α) (x:α) (u:Act) (W:nL),I p b W->w.heap.size+2<=W.heap.size->J x u W->b++[x]<+:rs->body.wpIn (F.inRound<|w.heap.size+1) (n-1-1) P (λe _ y=>e=.normal/\I p (b++[x]) y/\td W y\/e=.ret/\S (b++[x]) y/\Qb D W y) u W)
  (By:∀(p:FK) (W:nL),I p rs W->w.heap.size+2<=W.heap.size->W.heap[w.heap.size]?=some (.deferred<|some [])->Q .normal {a with defers:={target:=.collected w.heap.size,args:=#[]}::a.defers} W)
  (a8:∀(b:List α) (W:nL),b<+:rs->S b W->w.heap.size+2<=W.heap.size->W.heap[w.heap.size]?=some (.deferred<|some [])->Q .ret {a with defers:={target:=.collected w.heap.size,args:=#[]}::a.defers} W) :
  (Code.rangeFunc g ps assign body).wpIn F n P Q a w:=by
 refine wpIn_rangeFunc λfn Po=>?_
 rw[ad];have⟨L,l⟩:∃L:LoopState->Loop,L=λst=>{state:=st,pending:=none,fn,tmps:=a.tmps,params:=ps,assign,body,defers:=w.heap.size}:=⟨_,rfl⟩
 have⟨d,E⟩:=gb <|(w.alloc<|.deferred<|some []).alloc (.loop<|L .ready);have dB:Fr [] w d:=by rw[E];exact((fU w).alloc _).alloc _
 have U:d.heap.size=w.heap.size+2:=by rw[E];simp
 have eK:d.heap[w.heap.size+1]?=some (.loop<|L .ready):=by
  rw[E];have:=Cy (w.alloc<|.deferred<|some [])<|.loop<|L .ready;rwa [zzv]at this
 have kR:d.heap[w.heap.size]?=some (.deferred<|some []):=by
  rw[E];exact(zzf _ _ _ dv).trans<|Cy w _
 refine⟨w.heap.size+1,[{target:=.collected w.heap.size,args:=#[]}],d,{target:=.fn (.func gf) lb,args:=#[.func (.yield<|w.heap.size+1) #[] #[]]},d,gf,#[.func (.yield<|w.heap.size+1) #[] #[]]++lb,d,?_,?_,?_,?_,λ_=>h1,?_⟩
 .rw[E,l];exact run_enterLoop_outer _ _ _ _ _
 .simp only[resolve,Y];simp[go_sem]
 .intro f' Np;simp[Target.leads]at Np;subst Np;exact O3
 .simp[invoke,go_sem,eg]
 refine(sF d dB U (λp s A=>I p s A/\A.heap[w.heap.size+1]?=some (.loop<|L .ready)/\A.heap[w.heap.size]?=some (.deferred<|some [])/\w.heap.size+2<=A.heap.size) (λs A=>S s A/\A.heap[w.heap.size+1]?=some (.loop {L .done with pending:=some .ret})/\A.heap[w.heap.size]?=some (.deferred<|some [])/\w.heap.size+2<=A.heap.size) (λp s A Z=>Qd p s A Z.1) ?_ ?_ ?_ (λp s A Z=>I0 p s A Z.1) ?_ ⟨H _ _ _ _ ab (zzc _)<|Bk.fr dB,eK,kR,dp⟩).mono ?_
 .rintro p s A B ⟨f,i,j,q⟩ _ hb;rw[U]at hb;exact⟨H p s A B f dp<|hb.mono dp,hb.block _ _ i<|.inr dp,hb.block _ _ j<|.inr dp,zzk q hb.size⟩
 .rintro s A B ⟨f,i,j,q⟩ _ hb;rw[U]at hb;exact⟨V s A B f dp<|hb.mono dp,hb.block _ _ i<|.inr dp,hb.block _ _ j<|.inr dp,zzk q hb.size⟩
 .rintro p s A B g c t ⟨f,i,j,q⟩ _ hf Y hB;exact⟨IZ p s A B g c t f (by omega) hf Y hB,(hf.block _ (zza.1 i).1 dv).trans i,(hf.block _ (zza.1 j).1 dv).trans j,zzk q hf.size⟩
 .rintro p b x W ⟨f,i,j,q⟩ _ N;have hy:=run_yield (P:=P) (args:=encs x) i (by rw[l];exact eG x);rw[l]at hy;refine⟨fn,_,assign,body,hy,roundIn_of_wpIn Po<|qT p b x W _ f q N λu M ba O xa=>?_⟩;have la:=O.same _ _ i rfl;have da:=O.same _ _ j rfl;have ae:w.heap.size+1<M.heap.size:=(zza.1 la).1;obtain⟨z,T⟩:∃z,z=M.putObj (w.heap.size+1) (.loop<|L .busy):=⟨_,rfl⟩;have bb:Bk w.heap.size M z:=by rw[T];exact Bk.put la rfl dp _
  have ZC:z.heap[w.heap.size+1]?=some (.loop<|L .busy):=by rw[T];exact Hf ae
  have sb:z.heap.size=M.heap.size:=by rw[T];simp
  refine⟨z,by rw[T];have:=run_beginRound (P:=P) la (by rw[l]);rw[l]at this ⊢;exact this,?_⟩;refine wpIn_mono (Bw p b x u z (H _ _ _ _ f dp<|ba.trans bb) (by rw[sb];omega) (by rw[T];exact aa _ _ _ _ xa) N) ?_;rintro e a3 K th;have k3:Qb D z K:=th.elim (λh=>h.2.2.x D) λh=>h.2.2;have n1:w.heap.size+1∉D:=λm=>by have:=Qc _ m;omega
  have n0:w.heap.size∉D:=λm=>by have:=Qc _ m;omega
  have G:=k3.same _ _ n1 ZC rfl;have R:w.heap.size+1<K.heap.size:=(zza.1 G).1;have d3:K.heap[w.heap.size]?=some (.deferred<|some []):=k3.same _ _ n0 (by rw[T];exact(qY dp).trans da) rfl;have XO:W.heap.size<=K.heap.size:=by have:=O.size;have:=k3.size;omega
  have a7:∀(k:Nat) (o:Obj),k≠w.heap.size+1->W.heap[k]?=some o->vh o=true->z.heap[k]?=some o:=λk o e m C=>by
   rw[T,qY e];exact O.same k o m C
  rcases th with⟨rfl,X,kk⟩|⟨rfl,X,kk⟩
  .have oA:=run_endRound (P:=P) none G;refine⟨_,_,oA,.inl ⟨rfl,⟨H _ _ _ _ X dp<|Bk.put G rfl dp _,?_,(qY dp).trans d3,by rw[cJ];omega⟩,?_,?_⟩⟩
   .rw[Hf R,l];rfl
   .rw[cJ];exact XO
   .intro k o m C;by_cases e:k=w.heap.size+1
    .subst e;rw[i]at m;cases m;rw[Hf R,l];rfl
    .rw[qY e];exact kk.same k o (a7 k o e m C) C
  .have oA:=run_endRound (P:=P) (some .ret) G;refine⟨_,_,oA,.inr ⟨rfl,⟨V _ _ _ X dp<|Bk.put G rfl dp _,?_,(qY dp).trans d3,by rw[cJ];omega⟩,?_,?_⟩⟩
   .rw[Hf R,l];rfl
   .rw[cJ];exact XO
   .intro k o e m C;rw[zzj,not_or]at e;rw[qY e.1];exact kk.same k o e.2 (a7 k o e.1 m C) C
 .rintro e W2 ⟨⟨v,rfl⟩,hc⟩;rcases hc with⟨p,f,i,j,q⟩|⟨b,N,f,i,j,q⟩
  .have oA:=run_endLoop (P:=P) i (by rw[l];simp);have hp:(L .ready).pending=none:=by rw[l]
   rw[hp]at oA;refine⟨none,_,oA,?_⟩;exact By p _ (H _ _ _ _ f dp<|Bk.put i rfl dp _) (by rw[cJ];exact q)<|(qY dp).trans j
  .have oA:=run_endLoop (P:=P) i (by rw[l];simp);refine⟨some .ret,_,oA,?_⟩;have hq:=a8 b _ N (V _ _ _ f dp<|Bk.put i rfl dp<|.loop {({L .done with pending:=some .ret}:Loop)with state:=.exhausted}) (by rw[cJ];exact q) ((qY dp).trans j);exact wpIn_ret hq
end
theorem Uy{e:Ending}{Y N:Prop}(h:e=.returned (.bool true)/\Y\/e=.returned (.bool false)/\N):∃b:Bool,e=.returned (.bool b)/\(b=true/\Y\/b=false/\N):=by grind
end
variable{ops:List km}{c torn:Nat}{F:aG}{o:km}
theorem xm(b a:Nat->Bool)(torn q c:Nat):∀(os:List km) (i:Nat) (s:ll×aG),(∀j,i<=j->j<i+os.length->b j=a j)->(i<=torn->torn<i+os.length->q=c)->jw b torn q i os s=jw a torn c i os s
 |[],_,_,_,_=>rfl
 |o::os,i,s,h1,h2=>by
  show jw b torn q (i+1) os (bS (b i) (decide<|i=torn) q o s)=jw a torn c (i+1) os (bS (a i) (decide<|i=torn) c o s);have e:=h1 i (zzc _) dv;have d:bS (b i) (decide<|i=torn) q o s=bS (a i) (decide<|i=torn) c o s:=by
   rw[e];by_cases t:i=torn
   .rw[h2 dp ef]
   .have hd:=zY t;rw[hd];unfold bS;simp
  rw[d];exact xm b a torn q c os (i+1) _ (λj h l=>h1 j dp ef) λh l=>h2 dp ef
def Wq(torn:Nat)(F:aG)(ops:List km)(s:ll × aG):Prop:=∃b q,s=jw b torn q 0 ops (λ_=>false,F)
theorem Wq.first(torn:Nat)(F:aG):Wq torn F [] (λ_=>false,F):=⟨λ_=>false,0,rfl⟩
theorem Wq.step{s:ll×aG}(h:Wq torn F ops s)(c:Bool)(a:Nat)(o:km):Wq torn F (ops++[o]) (bS c (decide<|ops.length=torn) a o s):=by
 obtain⟨b,q,rfl⟩:=h;refine⟨λj=>if j=ops.length then c else b j,if torn=ops.length then a else q,?_⟩;rw[sX];have e:=xm b (λj=>if j=ops.length then c else b j) torn q (if torn=ops.length then a else q) ops 0 (λ_=>false,F) (λj _ d=>by rw[mE dp]) (λ_ d=>by rw[mE dp]);rw[<-e];simp only[Nat.zero_add,if_true];by_cases t:ops.length=torn
 .grind
 .grind [bS]
theorem Wq.left{s:ll×aG}(h:Wq torn F ops s):Left F ops s.2:=by
 obtain⟨b,q,rfl⟩:=h;exact⟨b,torn,q,rfl⟩
theorem Ok.cut(h:o.Ok c)(q:Nat):km.Ok {o with data:=o.data.extract 0 q} c:=
 ⟨h.kind,h.name,h.to,by have:=h.data;simp[ByteArray.size_extract];omega⟩
theorem rh{b t:Bool}{q d:Nat}{s:ll×aG}(h:s.2.Le d)(e:o.Ok c):(bS b t q o s).2.Le (d+c):=by
 have m:s.2.Le (d+c):=λk t a=>zzk (h k t a)<|Nat.le_add_right _ _
 unfold bS;split
 .exact m
 .grind [Ah,Ok.cut]
theorem NH{p:Prop}(h:p):Hid p:=h
structure CrL(w1 wr:nL)(bD bc nD torn:Nat)(d:aj)(i:Nat)(s:ll × aG):Prop where
 crs:Wq torn d.ak (d.pending.take i) s
 lB:FileMap wr bD (nD+i) s.2
 cut:gB wr bc i s.1
 fr:Fr [bD,bc] w1 wr
 le:s.2.Le ((nD+i)*4096)
theorem Ec(B p D bN n l nN:Nat)(pv:Value)(d:aj)(kept part:Int)(w:nL)(h:aC w B p D bN pv d n l nN)(uA:-2^63<=part)(GG:part<=9223372036854775807):
  Calls prog 93 #[gx p,.int .i64 kept,.int .i64 part] w λe w'=>e=.returned (.tuple #[])/\∃F' ow sj,Left d.ak d.pending F'/\aC w' B p D ow (.slice none 0 0) ⟨F',F',[],-1,-1,false⟩ n sj sj/\w.heap.size<=ow/\Fr [p,D] w w':=by
 have Gx:=@run_makeMap prog;have hn:=h.hn;have iB:=h.base;have hD:=h.hD;have⟨len,hlen⟩:=gb d.pending.length
 obtain⟨pa,pc,rfl⟩:∃a c,pv=.slice a len c:=by
  have:=h.pen;rw[<-hlen]at this;rcases this.2 with⟨e,h0⟩|⟨g,b0,bg,e,_⟩
  .rw[h0];exact⟨_,_,e⟩
  .exact⟨_,_,e⟩
 have qI:=(zza.1 h.blk).1;have bc:=h.lB.lt;have c2:=af h.blk 2;simp at c2;have ba:∀(ty:TypeId) (W:nL),(Builtin.len_ #[63] ty #[.slice pa len pc]).run prog W=.ok (.int .i64 len) W:=λty W=>by simp[go_sem]
 have⟨W,hW⟩:=gb <|w.alloc (.map #[] 0);have pU:Fr [] w W:=by rw[hW];exact(fU w).alloc _
 have aa:=h.new pU;have b2:=af aa.blk 2;simp at b2;have H:Hid (aC W B p D bN (.slice pa len pc) d n l nN/\Fr [] w W/\gB W w.heap.size 0 (λ_=>false)/\len=d.pending.length/\W.heap.size=w.heap.size+1):=⟨aa,pU,by rw[hW];exact gB.made w,hlen,by rw[hW];simp⟩;have jl:IntKind.i64.wrap ((len:Int)+1)=((len+1:Nat):Int):=eD
 have bb:len<=n:=dp;clear pU aa hlen
 go_enter func93,ntmps93
 go_wp2_with fail;apply(Eb part (len+1) w uA GG dp dp).mono;rintro e m ⟨torn,ZF,rfl,rfl⟩;go_wp2;rw[<-hW];clear hW
 go_loopw [24] (λi wr=>∃k:Nat,k<=len/\i=.int .i64 k/\∃s,Hid<|CrL W wr D m.heap.size l torn d k s) (λi _=>len-(intOf i).toNat)
 case atStart=>exact⟨0,zzs _,rfl,_,⟨Wq.first torn d.ak,H.1.lB,H.2.2.1,Fr.refl _ _,H.1.Ou⟩⟩
 case round=>
  obtain⟨k,hk,rfl,s,R⟩:=hrel;by_cases bW:k<len
  .have o_:k<d.pending.length:=by rw[<-H.2.2.2.1];exact bW
   have⟨o,ho⟩:∃o,d.pending[k]?=some o:=⟨_,zzg o_⟩;have bZ:=H.1.ops o<|zzh ho;have M:=H.1.pen;rw[<-H.2.2.2.1]at M;have⟨g,b0,SX⟩:=eQ M dp;simp only[Bx,true_and]at SX;obtain⟨rfl,rfl⟩:=SX;have aE:=R.out.cut.lt;have av:=R.out.fr.size;have V:p≠D/\p≠m.heap.size:=⟨λe=>H.1.lB.cT H.1.blk e.symm,by omega⟩
   have al:g≠D/\g≠m.heap.size:=by
    have⟨c,hc⟩:=aL M rfl;refine⟨λe=>H.1.lB.cT hc e.symm,λe=>?_⟩;have⟨es,c',z⟩:=H.2.2.1.isMap;rw[<-e,hc]at z;cases z
   have aW:=ar M R.out.fr (λq hq=>by
    simp[Value.ownBlock]at hq;subst hq;simp;exact al)
   obtain⟨c0,c1,ao,c3⟩:=Be aW k o ho;have I:=(R.out.fr.block p (zzl qI H.2.1.size)<|by simp;exact V).trans H.1.blk;have p0:=af I 0;simp at p0;have b7:p<wr.heap.size:=zzF wr ⟨p,0,none⟩ p0;have O:Hid (o.Ok 4096/\d.pending[k]?=some o/\(d.pending.take k).length=k):=⟨bZ,ho,by rw[zzm];omega⟩;have tY:Hid (d.pending.take (k+1)=d.pending.take k++[o]):=by show _=_;rw[vV,ho];rfl
   have bm:l+k<n:=dp;have ag:Hid (s.2.Le 4200000000000):=λx t y=>by
    have z:=R.out.le x t y;have h6:(l+k)*4096<=n*4096:=Nat.mul_le_mul_right _ dp;omega
   clear bZ ho aW M al V;have i0:(0:Int)<=k:=dp;have i1:(k:Int)<len:=dp;have⟨kd,nm,v,f⟩:=o;simp only at c0 c1 ao c3
   go_upto_region 5 with fail
   go_cut [34]from 25 to 79 (λb8 G=>(∃c:Bool,b8=.bool c)/\G=wr.alloc (.cells #[.int .i64 (kd:Int),.string nm,.string v,.string f] 200))
   case first=>
    go_wp2
    go_meet
    exact⟨⟨_,rfl⟩,rfl⟩
   case rest=>
    obtain⟨⟨c,rfl⟩,wA⟩:=hcut;have⟨A,Nl⟩:=gb wr.heap.size;have J:wc.heap[A]?=some (.cells #[.int .i64 (kd:Int),.string nm,.string v,.string f] 200 (0,0)):=by rw[wA,Nl];exact oz wr _
    have Cz:wc.heap.size=wr.heap.size+1:=by rw[wA];simp
    have P:Fr [] wr wc:=by rw[wA];exact(fU wr).alloc _
    have ay:=(zze (a:=⟨p,0,none⟩)<|P.block p b7 dv).trans p0;have C:Hid (CrL W wc D m.heap.size l torn d k s):=⟨R.out.crs,R.out.lB.fr P dv dv,R.out.cut.blk<|P.block _ aE dv,R.out.fr.trans<|P.mono dv,R.out.le⟩;have q0:=af J 0;have q1:=af J 1;have q2:=af J 2;have q3:=af J 3;have r3:=aq J 3;simp at q0 q1 q2 q3;have K:=ah<|zzb Nl<|zzb J Cz;have a':m.heap.size<wc.heap.size:=by omega
    have ZQ:A≠m.heap.size:=dp;have bl:=R.out.lB.lt;have aI:A≠D:=dp;rw[<-Nl];clear wA R J Cz P p0 c0 c1 ao c3 Nl
    cases c with
    |true=>
     by_cases mL:kd=2
     .subst mL
      go_wp2_with (first|(at_mapUpdate;apply sZ rfl _ _ _ rfl m.heap.size k s.1 rfl C.out.cut eE nm O.1.name rfl rfl;intro w2 iy T)|fail)
      have hx:CrL W w2 D m.heap.size l torn d (k+1) (bS false (decide<|(d.pending.take k).length=torn) 0 ⟨2,nm,v,f⟩ s):=by
       refine⟨by rw[tY.out];exact C.out.crs.step false 0 _,?_,?_,C.out.fr.trans<|(Fr.bI T).mono<|by intro j _ u;simp at u;simp[u],?_⟩
       .unfold bS;simp only[if_true];refine(C.out.lB.fr (Fr.bI T) (by simp;omega) ?_).mono dp;intro q hq t y;simp at hq;subst hq;have⟨es,c',z⟩:=C.out.cut.isMap;rw[z]at y;cases y
       .unfold bS;simp only[if_true];exact iy
       .have:=rh (b:=false) (t:=decide<|(d.pending.take k).length=torn) (q:=0) C.out.le O.1;rw[show(l+(k+1))*4096=(l+k)*4096+4096 by omega];exact this
      have X:=ah hx;clear hx iy T
      go_roundw
      case rel=>exact⟨k+1,dp,dv,_,X.out⟩
      case measure=>simp[intOf];omega
     .have k2:¬(kd:Int)=2:=dp;have hx:CrL W wc D m.heap.size l torn d (k+1) (bS false (decide<|(d.pending.take k).length=torn) 0 ⟨kd,nm,v,f⟩ s):=by
       have es:bS false (decide<|(d.pending.take k).length=torn) 0 ⟨kd,nm,v,f⟩ s=s:=by unfold bS;simp only[if_true];rw[mE mL]
       have E:=C.out.crs.step false 0 ⟨kd,nm,v,f⟩;rw[es]at E ⊢;exact⟨by rw[tY.out];exact E,C.out.lB.mono dp,C.out.cut.mono dp,C.out.fr,λx t y=>zzk (C.out.le x t y)<|Nat.mul_le_mul_right _ dp⟩
      have X:=ah hx;clear hx;go_wp2
      go_roundw
      case rel=>exact⟨k+1,dp,dv,_,X.out⟩
      case measure=>simp[intOf];omega
    |false=>
     have lJ:=C.out.cut.look nm O.1.name;by_cases U:kd=2/\s.1 nm=true
     .obtain⟨rfl,kn⟩:=U;rw[oo kn]at lJ
      have hx:CrL W wc D m.heap.size l torn d (k+1) (bS true (decide<|(d.pending.take k).length=torn) 0 ⟨2,nm,v,f⟩ s):=by
       have es:bS true (decide<|(d.pending.take k).length=torn) 0 ⟨2,nm,v,f⟩ s=s:=by unfold bS;rw[mE dv,oo ⟨rfl,kn⟩]
       have E:=C.out.crs.step true 0 ⟨2,nm,v,f⟩;rw[es]at E ⊢;exact⟨by rw[tY.out];exact E,C.out.lB.mono dp,C.out.cut.mono dp,C.out.fr,λx t y=>zzk (C.out.le x t y)<|Nat.mul_le_mul_right _ dp⟩
      have X:=ah hx;clear hx;go_wp2
      go_roundw
      case rel=>exact⟨k+1,dp,dv,_,X.out⟩
      case measure=>simp[intOf];omega
     .go_upto_region 8 with fail
      go_cut [50]from 25 to 79 (λb9 G=>b9=.bool false/\G=wc)
      case first=>
       by_cases mL:kd=2
       .subst mL;have kn:¬s.1 nm=true:=λe=>U ⟨rfl,e⟩
        rw[mE kn]at lJ;go_wp2
        go_meet
        exact⟨rfl,rfl⟩
       .have k2:¬(kd:Int)=2:=dp;go_wp2
        go_meet
        exact⟨rfl,rfl⟩
      case rest=>
       obtain⟨rfl,ad⟩:=hcut;subst ad;clear lJ
       go_upto_region 9 with fail
       go_cut [58]from 25 to 79 (λb' G=>b'=.bool (decide<|k=torn/\kd<3)/\G=wc)
       case first=>
        by_cases z:k=torn
        .subst z;by_cases h2:kd<3
         .have h2i:(kd:Int)<3:=dp;go_wp2
          go_meet
          exact⟨by simp[h2],rfl⟩
         .have h2i:¬(kd:Int)<3:=dp;go_wp2
          go_meet
          exact⟨by simp[h2],rfl⟩
        .have h1i:¬(k:Int)=torn:=dp;go_wp2
         go_meet
         exact⟨by simp[z],rfl⟩
       case rest=>
        obtain⟨rfl,ad⟩:=hcut;subst ad;by_cases L:k=torn/\kd<3
        .rw[zI L];have Wn:=ah L;clear L;have jd:IntKind.i64.wrap ((f.size:Int)+1)=((f.size+1:Nat):Int):=by have:=O.1.data;simp only at this;rw[IntKind.wrap_i64];omega
         go_upto_region 10 with fail
         go_cut [70]from 25 to 79 (λ_ G=>∃q,G.heap[A]?=some (.cells #[.int .i64 (kd:Int),.string nm,.string v,.string<|f.extract 0 q] 200 (0,0))/\Fr [A] wc G)
         case first=>
          have XM:f.size<=4096:=O.1.data
          have b5:∀W',Calls prog 146 #[.int .i64<|IntKind.i64.wrap<|part.tdiv 7,.int .i64<|(f.size:Int)+1] W' λe w'=>∃r:Nat,r<=f.size/\e=.returned (.int .i64 r)/\w'=W':=λW'=>by
           have z:=Eb (IntKind.i64.wrap<|part.tdiv 7) (f.size+1) W' eD eD dp (by omega);have e1:((f.size+1:Nat):Int)=(f.size:Int)+1:=dp
           rw[e1]at z;apply z.mono;rintro e w' ⟨r,h2,h3,h4⟩;exact⟨r,dp,h3,h4⟩
          go_region_with (first|(go_at_call 146;apply(b5 _).mono;rintro e w3 ⟨r,hr,rfl,rfl⟩;have DZ:(r:Int)<=(f.size:Int):=dp))
          all_goals go_wp2
          all_goals go_meet
          all_goals exact⟨r,by have:=aF K.2.1 3<|.string<|f.extract 0 r;simp at this;exact this,((Fr.refl [A] wc).setCell (.inl dv) _).drew⟩
         case rest=>
          have⟨q,ab,N⟩:=hcut;have qA:=C.out.lB.fr N (by simp;exact λe=>aI e.symm) (by intro x hx t y;simp at hx;subst hx;rw[K.2.1]at y;cases y);have iy:=C.out.cut.blk (N.block _ a'<|by simp;exact λe=>ZQ e.symm);have bp:=zzl a' N.size;have b6:p≠A:=by have:=K.1;omega
          have b1:p≠m.heap.size:=dp;have aA:=(zze (a:=⟨p,0,none⟩)<|N.block p (by have:=K.2.2;omega)<|by simpa using b6).trans ay;have t1:=af ab 1;simp at t1
          have Q:Hid (Wq torn d.ak (d.pending.take k) s/\Fr [D,m.heap.size] W wc/\FileMap wc D (l+k) s.2/\gB wc m.heap.size k s.1/\wc.heap[A]?=some (.cells #[.int .i64 (kd:Int),.string nm,.string v,.string<|f.extract 0 q] 200 (0,0))/\s.2.Le ((l+k)*4096)):=by
           refine⟨C.out.crs,C.out.fr.andThen N λj u G'=>?_,qA,iy,ab,C.out.le⟩;simp at u;have:=K.1;have:=C.out.fr.size;have:=K.2.2;have h9:=av;omega
          clear qA iy ab N C q0 q1 q2 q3 r3 ay
          go_wp2_with (first|(at_mapUpdate;apply sZ rfl _ _ _ rfl m.heap.size k s.1 rfl Q.2.2.2.1 eE nm O.1.name rfl rfl;intro w2 mH pL)|fail)
          have S:=Fr.bI pL;have bf:=S.size;have aX:=(zza.1 Q.2.2.2.2.1).1;have Y:=(S.block A aX<|by simpa using ZQ).trans Q.2.2.2.2.1;have p3:=(zze (a:=⟨p,0,none⟩)<|S.block p dp<|by simpa using b1).trans aA;have y0:=af Y 0;have y1:=af Y 1;have y2:=af Y 2;have y3:=af Y 3;simp at y0 y1 y2 y3
          have Rl:Hid (FileMap w2 D (l+k) s.2):=Q.2.2.1.fr S ef (by
           intro x hx t y;simp at hx;subst hx;have⟨es,c',z⟩:=Q.2.2.2.1.isMap
           rw[z]at y;cases y)
          have ae:=ah<|zzb mH S
          have a7:Hid (bS true (decide<|(d.pending.take k).length=torn) q ⟨kd,nm,v,f⟩ s=(s.1.set nm,dD s.2 ⟨kd,nm,v,f.extract 0 q⟩)):=by
           show _=_;unfold bS;rw[mE dv,mE λe=>U ⟨e.1,e.2⟩,oo ⟨by rw[O.2.2];exact zI Wn.1,Wn.2⟩]
          have Gv:=NH<|Q.1.step true q ⟨kd,nm,v,f⟩;have a8:=NH<|rh (b:=true) (t:=decide<|(d.pending.take k).length=torn) (q:=q) Q.2.2.2.2.2 O.1;clear mH pL S Y aA t1 U
          go_region_with (first|(go_at_call 147;apply(EU D (l+k) 4096 _ ⟨kd,nm,v,f.extract 0 q⟩ _ (Rl.out.fr (fU w2).drew dv dv) eE (Ok.cut O.1 q) dp ag.out).mono;rintro e w4 ⟨rfl,Yk,oY⟩))
          all_goals (
           have hx:CrL W w4 D m.heap.size l torn d (k+1) (s.1.set nm,dD s.2 ⟨kd,nm,v,f.extract 0 q⟩):=by
            have an:=(Fr.refl [D] w2).drew.trans<|Fr.bI oY;have E:=Gv.out;have Z:=a8.out;rw[a7.out]at E Z;refine⟨by rw[tY.out];exact E,Yk,ae.1.blk<|an.block _ dp ef,(Q.2.1.trans<|ae.2.mono<|by intro j _ u;simp at u;simp[u]).trans<|an.mono<|by intro j _ u;simp at u;simp[u],?_⟩;rw[show(l+(k+1))*4096=(l+k)*4096+4096 by omega];exact Z
           have X:=ah hx;clear hx Yk oY;go_wp2
           go_roundw
           case rel=>exact⟨k+1,dp,dv,_,X.out⟩
           case measure=>simp[intOf];omega)
        .rw[zY L]
         have D9:bS true (decide<|(d.pending.take k).length=torn) 0 ⟨kd,nm,v,f⟩ s=(s.1,dD s.2 ⟨kd,nm,v,f⟩):=by
          unfold bS;rw[mE dv,mE λe=>U ⟨e.1,e.2⟩,mE λe=>L ⟨by have:=of_decide_eq_true e.1;rw[O.2.2]at this;exact this,e.2⟩]
         have a7:=ah D9;have Gv:=NH<|C.out.crs.step true 0 ⟨kd,nm,v,f⟩;have a8:=NH<|rh (b:=true) (t:=decide<|(d.pending.take k).length=torn) (q:=0) C.out.le O.1;clear D9 U L;go_wp2
         go_region_with (first|(go_at_call 147;apply(EU D (l+k) 4096 _ ⟨kd,nm,v,f⟩ _ (C.out.lB.fr (fU wc).drew dv dv) eE O.1 dp ag.out).mono;rintro e w2 ⟨rfl,CT,T⟩))
         all_goals (
          have hx:CrL W w2 D m.heap.size l torn d (k+1) (s.1,dD s.2 ⟨kd,nm,v,f⟩):=by
           have pI:Fr [D] wc w2:=(Fr.refl [D] wc).drew.trans<|Fr.bI T;have E:=Gv.out;have Z:=a8.out;rw[a7.out]at E Z;refine⟨by rw[tY.out];exact E,CT,(C.out.cut.blk<|pI.block _ a' ef).mono dp,C.out.fr.trans<|pI.mono<|by intro j _ u;simp at u;simp[u],?_⟩;rw[show(l+(k+1))*4096=(l+k)*4096+4096 by omega];exact Z
          have X:=ah hx;clear hx CT T;go_wp2
          go_roundw
          case rel=>exact⟨k+1,dp,dv,_,X.out⟩
          case measure=>simp[intOf];omega)
  .obtain rfl:k=len:=dp;have V:p≠D/\p≠m.heap.size:=⟨λe=>H.1.lB.cT H.1.blk e.symm,dp⟩;have av:W.heap.size<=wr.heap.size:=R.out.fr.size;have I:=(R.out.fr.block p (zzl qI H.2.1.size)<|by simp;exact V).trans H.1.blk;have b3:=af I 3;have b4:=af I 4;have f3:=aq I 3;have f4:=aq I 4;simp at b3 b4;obtain⟨F,fj⟩:∃F,F=(wr.setCell ⟨p,3,none⟩<|.int .i64<|-1).setCell ⟨p,4,none⟩ (.int .i64<|-1):=⟨_,rfl⟩;have bH:Fr [p] wr F:=by rw[fj];exact(Fr.cG dv _ _).trans<|Fr.cG dv _ _
   have dy:F.heap[p]?=some (.cells #[.map<|some D,.map<|some bN,.slice pa k pc,.int .i64<|-1,.int .i64<|-1,.bool d.down] 65):=by
    have:=aF (aF I 3<|.int .i64<|-1) 4<|.int .i64<|-1;simp at this;rw[fj];exact this
   have ax:FileMap F D (l+k) s.2:=R.out.lB.fr bH (by simp;exact λe=>V.1 e.symm) (by
    intro x hx t y;simp at hx;subst hx;rw[I]at y;cases y)
   have Az:=Tl B p D n (l+k) (.slice pa k pc) (.map<|some bN) ⟨s.2,d.now,d.pending,-1,-1,d.down⟩ F dy ⟨iB.1,iB.2.1,by have:=bH.size;have:=H.2.1.size;omega⟩ ax (by rw[H.2.2.2.1];exact hD) hn R.out.le;have y:d.pending.take k=d.pending:=zzt (by rw[H.2.2.2.1];exact zzc _);have rS:=R.out.crs.left;rw[y]at rS
   have uC:Fr [p,D] m F:=by
    have a1:Fr [p,D] m W:=H.2.1.mono (by simp)
    have a2:=a1.andThen R.out.fr (λj u G'=>by
     simp at u;obtain e|e:=u
     .simp[e]
     .omega)
    exact a2.trans<|bH.mono<|by intro j _ u;simp at u;simp[u]
   have HF:=ah<|zzb uC<|zzb rS uC.size;clear uC rS ax dy bH I y R;go_wp2_with fail;rw[<-fj];apply Az.mono;clear Az;rintro e w3 ⟨rfl,C2,fu⟩;have H3:=ah<|zzb C2 fu;clear C2 fu;go_wp2;go_end0;exact⟨rfl,s.2,F.heap.size,l+k,HF.2.1,H3.1,HF.2.2,HF.1.trans<|H3.2.mono<|by intro j _ u;simp at u;simp[u]⟩
end Go.Proofs.YtlgeloebpdmnnaaGreatDoor
