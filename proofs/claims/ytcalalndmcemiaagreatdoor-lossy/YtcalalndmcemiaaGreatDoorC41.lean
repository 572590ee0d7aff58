import Derived.Test.YtcalalndmcemiaaGreatDoorC38
import Derived.Test.YtcalalndmcemiaaGreatDoorC39
import Derived.Test.YtcalalndmcemiaaGreatDoorC35
set_option maxHeartbeats 4000000
set_option maxRecDepth 100000
namespace Go.Proofs.YtcalalndmcemiaaGreatDoor
open Go.RowKit Go.Maps Tryz Sc
section
open Go.Shelf
variable{a:Act}{S:List Nat}{rest:List Oper}{B T d lg n p:Nat}{o:Oper}{w w':World}{c:aU}
theorem Ya:(Tryz.prog.info? 9).map (λi=>(i.zero,i.size,i.bytes))=some (some<|.string ByteArray.empty,1,16):=dJ
theorem Md{a:Nat}{e:TypeId}{k:Nat}{v:Value}{xs:List Value}(h:w.ownsRow a e k v n xs)(b:B<=a):w.ownsRow B e k v n xs:=by
 refine⟨h.1,?_⟩;obtain e|⟨g,cap,cur,a1,a2,a3⟩:=h.2
 .exact .inl e
 .exact .inr ⟨g,cap,cur,a1,zzk b a2,a3⟩
theorem FD(a b:List bt):eJ (a++b)=eJ a++eJ b:=by simp[eJ]
structure Me(w w':World)(B:Nat)(v v':Value)(bC:List bt):Prop where
 row:w'.ownsRow B 9 1 v' bC.length (eJ bC)
 nil:bC=[]->v'=.slice none 0 0
 fr:∃S,Fr S w w'/\oV w S/\∀k∈S,v.ownBlock=some k
 loc:∀g,v'.ownBlock=some g->v.ownBlock=some g\/w.heap.size<=g
theorem wV{P:Program}(base:Nat)(t ty e:TypeId)(i:TypeInfo)(size:Nat)(b:P.underlying t=some (.slice e))(h:P.info? e=some i)
  (v:Value) (n:Nat) (xs:List Value) (A:w.ownsRow base e size v n xs) (a:Option Addr) (c:Nat):(Builtin.append_ #[t,t] ty #[v,.slice a 0 c]).run P w=.ok v w:=by
 rcases A.2 with⟨rfl,rfl⟩|⟨g,p,r,rfl,_,_,Y,_⟩
 .cases a<;>simp[Builtin.append_,run_underlying b,sizeOf,typeInfo,h,Builtin.lenOf,Builtin.firstCells,loadCells,loadCellsFrom]
 .cases a<;>simp[Builtin.append_,run_underlying b,sizeOf,typeInfo,h,Builtin.lenOf,Builtin.firstCells,Y,storeCells,loadCells,loadCellsFrom]
theorem jA{ops:Array Oper}{Q:Exit->Act->World->Prop}(U:o.guard=none)(s x:Operand)
  (G:o.op=.call {callee:=.builtin .append,args:=#[s,x],argTypes:=#[35,35]}) (B:Nat) (v:Value) (I:Option Addr) (y:Nat) (bC l:List bt)
  (hs:a.eval s=v) (A:w.ownsRow B 9 1 v bC.length<|eJ bC) (i:bC=[]->v=.slice none 0 0)
  (t:a.eval x=.slice I l.length y) (M:∀j u,(eJ l)[j]?=some u->∃m,I=some m/\w.cell? (m.add j)=some u) (a8:bC.length+l.length<=60000000) (L:B<=w.heap.size)
  (h:∀v' w',Me w w' B v v' (bC++l)->wpList prog ops Q rest (a.put o.dst v') w'):wpList prog ops Q (o::rest) a w:=by
 have⟨H,D,O,R,S⟩:=info_parts Ya;by_cases p:l=[]
 .refine wpList_plain U λa6 hK=>?_
  have T:=wV B 35 o.type 9 H 1 underlying35 D v bC.length _ A I y;rw[p]at t;unfold Oper.wp;simp[execOp,G,resolve,invoke,builtin,hs,t,T,Result.andThen];refine hK _ _<|h v w ⟨?_,?_,⟨[],lT w,oV.nil w,bR⟩,λg d=>.inl d⟩
  .rw[p,List.append_nil];exact A
  .rw[p,List.append_nil];exact i
 .obtain⟨lp,ll⟩:0<l.length/\True:=⟨zzE.2 p,trivial⟩;have N:¬bC++l=[]:=by simp[p]
  obtain⟨m,rfl,-⟩:=M 0 ((eJ l)[0]'(by simpa [eJ]using lp))<|zzg _
  have X:∀j u,(eJ l)[j]?=some u->w.cell? (m.add j)=some u:=λj u E=>by
   have⟨a7,e,h'⟩:=M j u E;cases e;exact h'
  have V:∀u∈eJ l,u.oneCell'=true:=by
   intro u hu;obtain⟨x,-,rfl⟩:=zzq.1 hu;rfl
  have J:(eJ l).length=l.length*1:=by simp[eJ]
  have⟨q,c,n,Y⟩:∃q c,v=.slice q bC.length c/\(q=none->bC.length=0/\c=0):=by
   rcases A.2 with⟨e,i⟩|⟨g,z,C,e,rest⟩
   .exact⟨none,0,by rw[e,i],λ_=>⟨i,rfl⟩⟩
   .exact⟨_,z,e,nofun⟩
  by_cases W:c<bC.length+l.length
  .refine wpList_append_grows w U s x 35 G 9 H _ 1 16 underlying35 D O R S rfl bM q bC.length c (eJ bC) (by rw[hs,n]) Y A.1 (λb hb j u E=>?_) m l.length y (eJ l) t J X V W eA bL ?_
   .subst hb;rcases A.2 with⟨e,i⟩|⟨g,z,C,e,rest⟩
    .rw[n]at e;cases e
    .rw[n]at e;cases e;rw[n]at A;exact A.cells rfl j u E
   .intro v' w' r d;refine h v' w' ⟨?_,λe=>absurd e N,⟨[],⟨d.os,d.tape,d.output,d.size,λk f _=>d.block k f bR⟩,oV.nil w,bR⟩,λg F=>.inr (r.lt g F).1⟩;rw[zzi,FD];exact Md r L
  .refine gR U s x 35 G B 9 H _ 1 16 underlying35 D O R S rfl bM v bC.length _ hs A l.length (eJ l) (.inl ⟨m,y,t,X⟩) J V eA bL L ?_;intro v' w' r d Z;refine h v' w' ⟨by rw[zzi,FD];exact r,λe=>absurd e N,⟨v.ownBlock.toList,Fr.bz d,λk f _=>?_,λk f=>by simpa using f⟩,λg F=>Z.elim (λe=>.inl<|e▸F) λe=>.inr<|by rw[e]at F;cases F;exact zzc _⟩;simp at f;rcases A.2 with⟨e,i⟩|⟨g,z,C,e,-,hc,-,-,a1,-⟩
   .rw[e]at f;cases f
   .have e':=e;rw[n]at e';cases e';rw[e]at f;cases f;refine⟨C,_,_,hc,by simp[bo],λ_=>?_⟩;rw[a1];obtain K|K:=Nat.eq_zero_or_pos bC.length
    .have:=i<|List.length_eq_zero_iff.1 K;rw[this]at e
     cases e
    .omega
theorem zf{ops:Array Oper}{Q:Exit->Act->World->Prop}(U:o.guard=none)(s x:Operand)
  (m:o.op=.call {callee:=.builtin .append,args:=#[s,x],argTypes:=#[35,35]}) (B q:Nat) (v p:Value) (bC l:List bt)
  (hs:a.eval s=v) (A:w.ownsRow B 9 1 v bC.length<|eJ bC) (i:bC=[]->v=.slice none 0 0)
  (n:a.eval x=p) (d:w.ownsRow q 9 1 p l.length<|eJ l) (z:bC.length+l.length<=60000000) (k:B<=w.heap.size)
  (h:∀v' w',Me w w' B v v' (bC++l)->wpList prog ops Q rest (a.put o.dst v') w'):wpList prog ops Q (o::rest) a w:=by
 rcases d.2 with⟨e,b⟩|⟨f,c2,L,b,-⟩
 .exact jA U s x m B v none 0 bC l hs A i (by rw[n,e,b]) (λj u c=>by rw[List.length_eq_zero_iff.1 b]at c;simp[eJ]at c) z k h
 .exact jA U s x m B v (some (gz f)) c2 bC l hs A i (by rw[n,b]) (λj u c=>⟨_,rfl,by rw[b]at d;exact d.cells rfl j u c⟩) z k h
section
variable{w w' f G:World}{B E n:Nat}{O I bv U v':Value}{J:Bool}{d:List Nat}{ps:List (Nat × Value × Value)}{ds:List aS}{bC Z:List bt}{ord:List Nat}
theorem ee.Vu(h:ee w B E O I bv U n J d ps ds bC ord)(P:Me w G B bv v' Z):ee (G.setCell ⟨E,2,none⟩ v') B E O I v' U n J d ps ds Z ord/\∃S,Fr S w (G.setCell ⟨E,2,none⟩ v')/\oV w S/\∀k∈S,k=E\/bv.ownBlock=some k:=by
 have⟨W,r⟩:∃W,W=G.setCell ⟨E,2,none⟩ v':=⟨_,rfl⟩;rw[<-r];have⟨S,A,H,i⟩:=P.fr;have X:=(zza.1 h.net).1;have M:=bj h.bg h.net bM;have z:=(A.block E X λx=>M<|i E x).trans h.net;have F:Fr [E] G W:=by rw[r];exact Fr.cD bR _ _
 have hf:=(A.mono λk _ a=>List.mem_cons_of_mem E a).andThen (F.mono λk _ a=>by simp at a;simp[a]) λj u _=>u
 have keep:∀(q:Nat) (c:Array Value) (t:TypeId),w.heap[q]?=some (.cells c t (0,0))->t≠37->t≠9->W.heap[q]?=some (.cells c t (0,0)):=λq c t f l o=>(hf.block q (zza.1 f).1 (λx=>by
  obtain e|e:=zzj.1 x
  .rw[e,h.net]at f;cases f;exact l rfl
  .obtain⟨c2,ef⟩:=aq h.bg<|i q e;rw[f]at ef
   cases ef;exact o rfl)).trans f
 have row:∀{b m j:Nat} {e:TypeId} {v:Value} {xs:List Value},w.ownsRow b e j v m xs->e≠37->e≠9->W.ownsRow b e j v m xs:=λ{b m j e v xs} D l o=>bW D (λg s=>by
  have⟨c,C⟩:=aq D s;exact(keep g c e C l o).trans C.symm)
 refine⟨⟨by rw[r];have:=ar z 2 v';simp at this;exact this,⟨h.low.1,zzk h.low.2 hf.size⟩,row h.hs bM bM,row h.dl bM bM,aD P.row F λg s=>by simp;intro e;subst e;exact bj P.row z bM s,P.nil,row h.od bM bM,h.Qh,h.ap,h.len,λj p y u L=>?_,h.zK⟩,E::S,hf,λk a K=>?_,λk a=>?_⟩
 .have hd:=h.each j p y u L;exact⟨keep _ _ _ hd.blk bM bM,hd.low,row hd.seq bM bM,row hd.qE bM bM⟩
 .rcases zzj.1 a with e|e
  .rw[e,h.net];exact⟨_,_,_,rfl,by simp[bo],λe=>absurd e bM⟩
  .exact H k e K
 .rcases zzj.1 a with e|e
  .exact .inl e
  .exact .inr<|i k e
theorem Me.none(B:Nat)(w:World)(v:Value):Me w w B v (.slice Option.none 0 0) []:=⟨zzu w _ _ _,λ_=>rfl,⟨[],lT w,oV.nil w,bR⟩,nofun⟩
theorem wS.ic{d:World}{S:List Nat}(h:wS B d w)(hf:Fr S w w')(i:B<=w.heap.size)(g:∀k∈S,B<=k/\(d.heap.size<=k\/∃c t fr,w.heap[k]?=some (.cells c t fr)/\mr t)):wS B d w':=by
 refine⟨h.below.trans<|hf.below i λk a=>(g k a).1,λk c t fr a j f=>?_⟩;have b:=h.cells k c t fr a j f;refine(hf.block k (zza.1 b).1 λm=>?_).trans b;obtain e|⟨c',t',fr',e,e2⟩:=(g k m).2
 .have:=(zza.1 a).1;omega
 .rw[b]at e;cases e;exact f e2
end
def J_:Obj->Bool
 |.cells _ t _=>decide (t≠122/\t≠157/\t≠207)
 |.map ..=>false
 |_=>true
structure Na(A B:World):Prop where
 size:A.heap.size<=B.heap.size
 same:∀(k:Nat) (o:Obj),A.heap[k]?=some o->J_ o=true->B.heap[k]?=some o
theorem Na.fr{A B:World}(h:Fr [] A B):Na A B:=⟨h.size,λk o a _=>(h.block k (zza.1 a).1 bR).trans a⟩
theorem Na.alloc(A:World)(o:Obj):Na A (A.alloc o):=Na.fr<|(lT A).alloc o
theorem bm.bk(h:bm w B p lg T n c)(hb:Bk d w w'):bm w' B p lg T n c:=
 h.fr hb.aaQ (λk b=>by
  have⟨o,a,hb⟩:=Be b;refine⟨λe=>?_,λe=>?_,λe=>?_⟩
  .obtain⟨cs,h1⟩:=h.yN;rw[e,h1]at a;cases a;cases hb
  .obtain⟨es,cc,h1⟩:=h.ai.isMap;rw[e,h1]at a;cases a;cases hb
  .obtain⟨_,cc,t,h1,_⟩:=h.Ti e;rw[h1]at a;cases a;cases hb)
theorem bm.XK{b:Nat}(h:bm w B p lg T n c)(hb:Bk b w w'):rd p w'=rd p w:=by
 have⟨s,a⟩:=h.yN;exact ri<|(hb.block p _ a<|.inl rfl).trans a.symm
theorem gm.bk{b:World}(hf:gm p S b w)(h:bm w B p lg T n c)(hb:Bk d w w')(hn:b.heap.size<=d):gm p S b w':=
 ⟨⟨hb.os.trans hf.fr.os,hb.tape.trans hf.fr.tape,hb.output.trans hf.fr.output,zzk hf.fr.size hb.size,λk a f=>by
  have P:=zzl a hf.fr.size;have e:=hb.block k _ (Array.getElem?_eq_getElem P) (.inr bL);rw[e,<-Array.getElem?_eq_getElem P];exact hf.fr.block k a f⟩,λk a m=>hf.stay k a (by rw[h.XK hb]at m;exact m)⟩
theorem gm.kpc(hf:gm p S w w')(h:bm w B p lg T n c)(g:∀k∈S,k=p\/k=T):Na w w':=
 ⟨hf.fr.size,λk o a d=>(hf.block (zza.1 a).1 (λe=>by
  obtain e|e:=g k e
  .obtain⟨cs,b⟩:=h.yN;rw[e,b]at a;cases a;simp[J_]at d
  .obtain⟨es,f,b⟩:=h.ai.isMap;rw[e,b]at a;cases a;simp[J_]at d) (λe=>by
  have⟨_,f,t,b,i⟩:=h.Ti e;rw[b]at a;cases a;obtain rfl|rfl:=i<;>simp[J_]at d)).trans a⟩
def aa6{α:Type}(F:Fence)(n:Nat)(P:Program)(gf:Nat)(lb:Array Value)(encs:α->Array Value)(rs:List α)(Inv:World->Prop)(l:Nat)(W:World):Prop :=
 ∀J:List α->World->Prop,(∀s A,J s A->Inv A)->(∀s A B,J s A->W.heap.size<=A.heap.size->Bk W.heap.size A B->J s B) ->
  (∀p x b,J p b->W.heap.size<=b.heap.size->p++[x] <+: rs->YieldAt F (n-1) P l (encs x) b λe a=>e=.returned (.bool true)/\J (p++[x]) a/\Na b a) ->
  J [] W->CallsIn F n P gf (#[.func (.yield l) #[] #[]]++lb) W λe a=>(∃v,e=.returned v)/\J rs a
section
variable{F:Fence}{n:Nat}{P:Program}
theorem CV{α:Type}{g:Operand}{ps:Array Tmp}{assign body:Code}{Q:Exit->Act->World->Prop}{a:Act}{w:World}
  (a1:F.round=none) (h1:1<=n) {gf:Nat} {lb:Array Value} (hg:a.eval g=.func (.func gf) #[] lb) (N:F.fn gf) (eg:∀args w,(callFunc gf args).run P w=.ok (.enter gf args) w)
  {encs:α->Array Value} {rs:List α} {Inv:World->Prop} (O:∀x,(encs x).size=ps.size)
  (nc:∀b,Fr [] w b->b.heap.size=w.heap.size+2->aa6 F (n-1) P gf lb encs rs Inv (w.heap.size+1) b)
  (I:List α->World->Prop) (V:I [] w) (M:∀s A,I s A->Inv A) (D:∀s A B,I s A->w.heap.size<=A.heap.size->Bk w.heap.size A B->I s B)
  (l:α->Act->World->Prop) (X:∀x c A r,l x c A->l x c (A.putObj (w.heap.size+1)<|.loop r))
  (oJ:∀(d:List α) (x:α) (W:World) (K:Act->World->Prop),I d W->w.heap.size+2<=W.heap.size->d++[x]<+:rs->(∀c f,Bk w.heap.size W f->Na W f->l x c f->K c f) ->
   assign.wpIn (F.inRound (w.heap.size+1)) (n-1-1) P (Exit.then K (λ_ _ _=>False)) {tmps:=(ps.zip (encs x)).foldl (λt (p,v)=>t.setIfInBounds p v) a.tmps,defers:=[]} W)
  (yq:∀(d:List α) (x:α) (c:Act) (W:World),I d W->w.heap.size+2<=W.heap.size->l x c W->d++[x]<+:rs->body.wpIn (F.inRound<|w.heap.size+1) (n-1-1) P (λe _ f=>e=.normal/\I (d++[x]) f/\Na W f) c W)
  (yr:∀(W:World),I rs W->w.heap.size+2<=W.heap.size->W.heap[w.heap.size]?=some (.deferred<|some [])->Q .normal {a with defers:={target:=.collected w.heap.size,args:=#[]}::a.defers} W) :
  (Code.rangeFunc g ps assign body).wpIn F n P Q a w:=by
 refine wpIn_rangeFunc λH xn=>?_
 rw[a1];have⟨L,h⟩:∃L:LoopState->Loop,L=λst=>{state:=st,pending:=none,fn:=H,tmps:=a.tmps,params:=ps,assign,body,defers:=w.heap.size}:=⟨_,rfl⟩
 have⟨b,G⟩:=gb <|(w.alloc<|.deferred<|some []).alloc (.loop<|L .ready);have E:Fr [] w b:=by rw[G];exact((lT w).alloc _).alloc _
 have df:b.heap.size=w.heap.size+2:=by rw[G];simp
 have dY:b.heap[w.heap.size+1]?=some (.loop<|L .ready):=by
  rw[G];have:=World.alloc_heap_new (w.alloc<|.deferred<|some [])<|.loop<|L .ready;rwa [zzv]at this
 have j_:b.heap[w.heap.size]?=some (.deferred<|some []):=by
  rw[G];exact(zzf _ _ _ bR).trans<|World.alloc_heap_new w _
 refine⟨w.heap.size+1,[{target:=.collected w.heap.size,args:=#[]}],b,{target:=.fn (.func gf) lb,args:=#[.func (.yield<|w.heap.size+1) #[] #[]]},b,gf,#[.func (.yield<|w.heap.size+1) #[] #[]]++lb,b,?_,?_,?_,?_,λ_=>h1,?_⟩
 .rw[G,h];exact run_enterLoop_outer _ _ _ _ _
 .simp only[resolve,hg];simp[go_sem]
 .intro f' pF;simp[Target.leads]at pF;subst pF;exact N
 .simp[invoke,go_sem,eg]
 refine(nc b E df (λs A=>I s A/\A.heap[w.heap.size+1]?=some (.loop<|L .ready)/\A.heap[w.heap.size]?=some (.deferred<|some [])/\w.heap.size+2<=A.heap.size) (λs A hs=>M s A hs.1) ?_ ?_ ⟨D _ _ _ V (zzc _)<|Bk.fr E,dY,j_,bL⟩).mono ?_
 .rintro s A B ⟨i1,i2,i3,i4⟩ _ hb;rw[df]at hb;exact⟨D s A B i1 bL<|hb.mono bL,hb.block _ _ i2<|.inr bL,hb.block _ _ i3<|.inr bL,zzk i4 hb.size⟩
 .rintro d x W ⟨i1,i2,i3,i4⟩ _ dN;have J:=run_yield (P:=P) (args:=encs x) i2 (by rw[h];exact O x);rw[h]at J;refine⟨H,_,assign,body,J,roundIn_of_wpIn xn<|oJ d x W _ i1 i4 dN λc j S q xa=>?_⟩;have C:=q.same _ _ i2 rfl;have da:=q.same _ _ i3 rfl;have Y:=(zza.1 C).1;obtain⟨i,m⟩:∃i,i=j.putObj (w.heap.size+1) (.loop<|L .busy):=⟨_,rfl⟩;have T:Bk w.heap.size j i:=by rw[m];exact Bk.put C rfl bL _
  have U:i.heap[w.heap.size+1]?=some (.loop<|L .busy):=by rw[m];exact World.putObj_heap_same Y
  have sb:i.heap.size=j.heap.size:=by rw[m];simp
  refine⟨i,by rw[m];have:=run_beginRound (P:=P) C (by rw[h]);rw[h]at this ⊢;exact this,?_⟩;apply wpIn_mono (yq d x c i (D _ _ _ i1 bL<|S.trans T) (by rw[sb];omega) (by rw[m];exact X _ _ _ _ xa) dN);rintro e a3 y ⟨rfl,SN,k3⟩;have z:=k3.same _ _ U rfl;have R:=(zza.1 z).1;have Z:=k3.same _ _ (by rw[m];exact(World.putObj_heap_other bL).trans da) rfl;have u:=run_endRound (P:=P) none z;refine⟨_,_,u,rfl,⟨D _ _ _ SN bL<|Bk.put z rfl bL _,?_,(World.putObj_heap_other bL).trans Z,by rw[cj];omega⟩,?_,?_⟩
  .rw[World.putObj_heap_same R,h];rfl
  .rw[cj];have:=q.size;have:=k3.size;omega
  .intro k o hk ho;by_cases e:k=w.heap.size+1
   .subst e;rw[i2]at hk;cases hk;rw[World.putObj_heap_same R,h];rfl
   .rw[World.putObj_heap_other e];refine k3.same k o ?_ ho;rw[m,World.putObj_heap_other e];exact q.same k o hk ho
 .rintro e W2 ⟨⟨v,rfl⟩,i1,i2,i3,i4⟩;have u:=run_endLoop (P:=P) i2 (by rw[h];simp);have hp:(L .ready).pending=none:=by rw[h]
  rw[hp]at u;refine⟨none,_,u,?_⟩;exact yr _ (D _ _ _ i1 bL<|Bk.put i2 rfl bL _) (by rw[cj];exact i4)<|(World.putObj_heap_other bL).trans i3
end
def iw{V:Type}(L:List (Nat × V)):List Nat:=(L.map (·.1)).mergeSort (λa b=>decide (a<=b))
theorem n_{V:Type}{L:List (Nat×V)}{ss:List Nat}(p:ss.Perm<|L.map (·.1))(hs:ss.Pairwise (·<=·)):ss=iw L:=by
 have d:=List.pairwise_mergeSort (le:=λa b:Nat=>decide<|a<=b) (by intro a b c;simp;omega) (by intro a b;simp;omega)<|L.map (·.1);apply List.Perm.eq_of_pairwise (λa b _ _ d e=>Nat.le_antisymm d e) hs (d.imp λh=>by simpa using h);exact p.trans (List.mergeSort_perm _ _).symm
theorem Mu(n:Nat)(hn:6<=n)(l a b m:Nat)(L:List (Nat × fe))(G:L.length<=12)(W:World)(F:W.cell? ⟨a,0,none⟩=some (.map (some b)))(z:aO KU EX W b m L):
  aa6 Fence.wide n prog 226 #[.pointer (some ⟨a,0,none⟩)] (λx:Nat × fe=>#[.int .u64 (x.1:Int),kO x.2]) (qY L (iw L)) (λ_=>True) l W:=λJ _ y Y w=>by
 have h:=Hb n hn l a b m L G W Na (λ_ _=>True) (λ_ _ _ _=>trivial) (λk A B c t D d i _=>⟨(d.same k _ i (by rcases D with rfl|rfl<;>rfl)).trans i.symm,trivial⟩)
  (λs A=>J s A/\W.heap.size<=A.heap.size) (λ_ _=>False)
  (λs A B hs g=>⟨y s A B hs.1 hs.2 (Bk.fr ⟨g.os,g.tape,g.output,g.size,λk d _=>g.block k d bR⟩),zzk hs.2 g.size⟩)
  (λq x u j _ _ C=>by
   obtain⟨ss,p,f,o⟩:=C;rw[n_ p f] at o;obtain⟨v,tmps,assign,body,E,R⟩:=Y q x u j.1 j.2 o;refine⟨v,tmps,assign,body,E,R.mono ?_⟩;rintro e r ⟨r1,r2,r3⟩
   exact .inl ⟨r1,⟨r2,zzk j.2 r3.size⟩,r3⟩)
  F z ⟨w,zzc _⟩
 refine h.mono ?_;rintro e r ⟨he,⟨ss,p,f,j⟩|⟨q,_,hf⟩⟩
 .rw[n_ p f] at j;exact⟨he,j.1⟩
 .exact hf.elim
def aU.cU(c:aU)(x:Nat × fe):aU :=
 if x.2.state=5 then (if 8<=c.aC-x.2.since then c.jV x.1 else { c with out:=c.out++(dK l_ (c.tx x.1).parts).map λk=>(x.1,k,1) })
 else if x.2.state=6 then { c with out:=c.out++(dK jf (c.tx x.1).parts).map λk=>(x.1,k,5) } else c
def aU.tick(c:aU):aU:=(qY c.ai (iw c.ai)).foldl aU.cU { c with aC:=c.aC+1 }
theorem Aw(c:aU)(x:Nat×fe):(c.cU x).aC=c.aC:=by
 unfold aU.cU aU.jV;split
 .split<;>rfl
 .split<;>rfl
theorem IX(l:List<|Nat×fe):∀c:aU,(l.foldl aU.cU c).aC=c.aC:=by
 induction l with
 |nil=>intro c;rfl
 |cons x r ih=>intro c;rw[List.foldl_cons,ih,Aw]
theorem xz{L:List (Nat×fe)}(c:b_ L){y:Nat×fe}(h:y∈qY L (iw L)):y∈L:=by
 unfold qY at h;obtain⟨k,a,rfl⟩:=zzq.1 h;have P:k∈L.map (·.1):=by unfold iw at a;exact List.mem_mergeSort.1 a
 obtain⟨p,b,rfl⟩:=zzq.1 P;rw[cP c<|show(p.1,p.2)∈L from b];exact b
theorem QG(N:Nat)(hN:12<=N)(B p lg T n:Nat)(c:aU)(w:World)(a8:bm w B p lg T n c)(hl:c.ai.length<=12)(Ys:∀x∈c.ai,x.2.since<=c.aC/\x.1<18446744073709551616)(lK:c.aC+1<18446744073709551616)(hn:n+200<67108864):
  CallsIn Fence.wide N prog 140 #[.pointer (some ⟨p,0,none⟩)] w λe w'=>e=.returned (.tuple #[])/\bm w' B p lg T (n+120) c.tick/\gm p [p,T] w w':=by
 obtain⟨W,Q⟩:∃W,W=w.alloc (.cells #[.pointer (some ⟨p,0,none⟩)] 76):=⟨_,rfl⟩;have iH:Fr [] w W:=by rw[Q];exact(lT w).alloc _
 have xk:W.heap.size=w.heap.size+1:=by rw[Q];simp
 have r0:W.heap[w.heap.size]?=some (.cells #[.pointer (some ⟨p,0,none⟩)] 76 (0,0)):=by rw[Q];exact heap_alloc_new w _
 have qM:=a8.new iH;have eN:=a8.eY;obtain⟨rv,ov,j,_⟩:=qM.ex;have c1:=ae j 1;have c4:=ae j 4;have f4:=aj j 4;have v0:=ae r0 0;simp at c1 c4 v0;have i1:IntKind.u64.wrap ((c.aC:Int)+1)=(c.aC:Int)+1:=by rw[IntKind.wrap_u64];omega
 have i2:(c.aC:Int)+1<18446744073709551616:=bL;have b2:¬p=w.heap.size:=bL;have xS:¬w.heap.size=p:=bL;have an:Fence.wide.round=none:=rfl;rw[Q] at c1 c4 v0 f4;have H:=af (show bm W B p lg T n c/\Fr [] w W/\W.heap[w.heap.size]?=some (.cells #[.pointer (some ⟨p,0,none⟩)] 76 (0,0))/\W.heap.size=w.heap.size+1 from ⟨qM,iH,r0,xk⟩);have b0:=af Ys;have a7:=af Q;have al:=af eN;clear a8 qM iH r0 xk j Ys Q eN;have aQ:Fence.wide.fn 181:=trivial;have i:Fence.wide.fn 226:=trivial;have gX:1<=N:=bL;refine callsIn_of_wp_marks func140 rfl trivial ?_ an;simp only[ntmps140,mB,zzr,mH,Nat.reduceAdd,Nat.reduceSub,mK,mL,nb,nU,n5,qC]
 gi_wp2_with (gi_at_call 181;refine(yl _ T _).mono ?_;rintro e d ⟨rfl,rfl⟩)
 obtain⟨h,mY⟩:∃h,h=(w.alloc (.cells #[.pointer (some ⟨p,0,none⟩)] 76)).setCell ⟨p,4,none⟩ (.int .u64 ((c.aC:Int)+1)):=⟨_,rfl⟩;rw[<-mY];have bh:Fr [p] W h:=by rw[mY,a7.out];exact Fr.cD bR _ _
 have cG:∀rv ov,W.heap[p]?=some (qt lg T c rv ov)->h.heap[p]?=some (qt lg T { c with aC:=c.aC+1 } rv ov):=λrv ov e=>by
  rw[mY,<-a7.out];have:=ar e 4 (.int .u64 ((c.aC:Int)+1))
  simpa [qt] using this
 have cJ:bm h B p lg T n { c with aC:=c.aC+1 }:=H.1.cell rfl (hnum:=⟨H.1.fB.1,H.1.fB.2.1,lK⟩) (hf:=bh) (hb:=cG);have eG:gm p [p,T] w h:=(H.2.1.r al.1 bR bR).trans (H.1.J9 bh bR cG);have aE:h.heap[w.heap.size]?=some (.cells #[.pointer (some ⟨p,0,none⟩)] 76 (0,0)):=(bh.block _ (by have:=H.2.2.2;omega) (by simp;exact xS)).trans H.2.2.1;have av:h.heap.size=w.heap.size+1:=by rw[mY];simp
 obtain⟨d,ki⟩:∃d,d=h.alloc (.cells #[.map (some T)] 118):=⟨_,rfl⟩;rw[<-ki];have ue:Fr [] h d:=by rw[ki];exact(lT h).alloc _
 have aw:d.heap.size=w.heap.size+2:=by rw[ki];simp;omega
 have fH:=cJ.new ue;have iL:gm p [p,T] w d:=eG.trans (ue.r cJ.eY.1 bR bR);have aH:=(ue.block _ bL bR).trans aE
 have aI:d.heap[w.heap.size+1]?=some (.cells #[.map (some T)] 118 (0,0)):=by
  rw[ki,<-av];exact heap_alloc_new h _
 have G:=af (show bm d B p lg T n { c with aC:=c.aC+1 }/\gm p [p,T] w d/\d.heap[w.heap.size]?=some (.cells #[.pointer (some ⟨p,0,none⟩)] 76 (0,0))/\d.heap[w.heap.size+1]?=some (.cells #[.map (some T)] 118 (0,0)) from ⟨fH,iL,aH,aI⟩);have HZ:=af aw;clear ki mY bh cG cJ eG aE av ue aw fH iL aH aI c1 c4 v0 f4 i1 i2 b2 xS H a7
 refine CV an gX (gf:=226) (lb:=#[.pointer (some ⟨w.heap.size+1,0,none⟩)]) rfl i (enters_of func226 dJ rfl)
  (encs:=λx:Nat × fe=>#[.int .u64 (x.1:Int),kO x.2]) (rs:=qY c.ai (iw c.ai)) (Inv:=λ_=>True) (λ_=>rfl)
  (λWx dQ b7 b1 RG hJ hY h0=>Mu (N-1) bL _ (w.heap.size+1) T n c.ai hl Wx (by
   have j:=(dQ.block (w.heap.size+1) (by have:=HZ.out;omega) bR).trans G.2.2.2;have u:=ae j 0
   simpa using u) (G.1.ai.fr dQ bR) b1 RG hJ hY h0)
  (λg A=>bm A B p lg T (n+10*g.length) (g.foldl aU.cU { c with aC:=c.aC+1 })/\gm p [p,T] d A/\A.heap[w.heap.size]?=some (.cells #[.pointer (some ⟨p,0,none⟩)] 76 (0,0)))
  ⟨by simpa using G.1,(lT d).r G.1.eY.1 bR bR,G.2.2.1⟩
  (λ_ _ _=>trivial)
  (λq A B hs hz Xn=>⟨hs.1.bk Xn,hs.2.1.bk hs.1 Xn bL,Xn.block _ _ hs.2.2 (.inl rfl)⟩)
  (λx a' A=>∃f,d.heap.size+2<=f/\A.heap[f]?=some (.cells (G_ x.2).toArray 128 (0,0))/\a'={ tmps:=#[.pointer (some ⟨p,0,none⟩),.pointer (some ⟨w.heap.size,0,none⟩),.int .u64 (x.1:Int),.pointer (some ⟨f,0,none⟩),.pointer (some ⟨p,0,none⟩),.pointer (some ⟨p,0,none⟩),.pointer (some ⟨p,4,none⟩),.int .u64 (c.aC:Int),.int .u64 ((c.aC:Int)+1),.pointer (some ⟨p,0,none⟩),.pointer (some ⟨p,4,none⟩),.pointer (some ⟨p,0,none⟩),.pointer (some ⟨p,0,none⟩),.pointer (some ⟨p,1,none⟩),.map (some T),.func (.func 226) #[] #[.pointer (some ⟨w.heap.size+1,0,none⟩)],.int .u64 (x.1:Int),kO x.2,undef,undef,undef,undef,undef,undef,undef,undef,undef,undef,undef,undef,undef,undef,undef,undef,undef,undef,undef,undef,undef,undef,undef,undef,undef,undef,undef,undef,undef,undef,undef,undef,undef,undef,undef],defers:=[] })
  (λx a' A r hs=>by
   obtain⟨f,j,u,h3⟩:=hs
   exact⟨f,j,(World.putObj_heap_other bL).trans u,h3⟩)
  ?assign ?body ?done
 case assign =>
  have jE:=@Oper.semAt_some;rintro g x A b5 hI rh dN R
  have V:x∈c.ai:=by
   obtain⟨_,_,_,eE,_⟩:=G.1.ai;exact xz eE (dN.subset bR)
  have l:x.2.Ok:=by
   obtain⟨_,_,_,_,l⟩:=G.1.ai;exact(l _ V).2
  obtain⟨t,s,ps,z⟩:=x;obtain⟨y,E,F,I,J,K,L,M,O,az⟩:=nine l.1
  change ps=_ at az
  subst az;rw[bE];rw[bE] at R;have HA:=af (show A.heap.size<(A.alloc (.cells #[.int .i64 (s:Int),.int .u8 (y:Int),.int .u8 (E:Int),.int .u8 (F:Int),.int .u8 (I:Int),.int .u8 (J:Int),.int .u8 (K:Int),.int .u8 (L:Int),.int .u8 (M:Int),.int .u8 (O:Int),.int .u64 (z:Int),.nilIface] 128)).heap.size from bR);have HK:=af R;clear R hI
  gi_wp2
  exact HK.out _ _ (Bk.fr ((lT A).alloc _)) (Na.alloc A _) ⟨A.heap.size,rh,heap_alloc_new A _,rfl⟩
 case body =>
  have jE:=@Oper.semAt_some;rintro g x a' A ⟨yO,ou,rcA⟩ rh ⟨f,htp,Hn,rfl⟩ dN
  have V:x∈c.ai:=by
   obtain⟨_,_,_,eE,_⟩:=G.1.ai;exact xz eE (dN.subset bR)
  have l:x.2.Ok:=by
   obtain⟨_,_,_,_,l⟩:=G.1.ai;exact(l _ V).2
  have ad:=b0.out x V
  have il:g.length+1<=12:=by
   have:=dN.length_le;unfold qY iw at this;simp at this;omega
  obtain⟨b,na⟩:∃b,b=g.foldl aU.cU { c with aC:=c.aC+1 }:=⟨_,rfl⟩;have ao:b.aC=c.aC+1:=by rw[na,IX]
  have HN:=af (show ∀o,bm o B p lg T (n+10*g.length+10) (b.cU x)->gm p [p,T] A o->(bm o B p lg T (n+10*(g.length+1)) ((g.foldl aU.cU { c with aC:=c.aC+1 }).cU x)/\gm p [p,T] d o/\o.heap[w.heap.size]?=some (.cells #[.pointer (some ⟨p,0,none⟩)] 76 (0,0)))/\Na A o from λo j u=>by
   refine⟨⟨?_,ou.trans u,u.cells yO rcA (by simp;have:=al.out;omega) bM bM⟩,u.kpc yO bR⟩;rw[<-na,Nat.mul_add,<-Nat.add_assoc]
   exact j)
  rw[<-na] at yO;clear na;obtain⟨t,s,ps,z⟩:=x;obtain⟨y,E,F,I,J,K,L,M,O,az⟩:=nine l.1
  change ps=_ at az
  subst az;have QH:A.heap[f]?=some (.cells #[.int .i64 (s:Int),.int .u8 (y:Int),.int .u8 (E:Int),.int .u8 (F:Int),.int .u8 (I:Int),.int .u8 (J:Int),.int .u8 (K:Int),.int .u8 (L:Int),.int .u8 (M:Int),.int .u8 (O:Int),.int .u64 (z:Int),.nilIface] 128 (0,0)):=Hn;obtain⟨t0,_,_,_,_,_,_,_,_,_,ta,tb⟩:=lH QH;have oD:=yO.eY.1;obtain⟨b',b9,gA,_⟩:=yO.ex;have P:=ae gA 4;have Z:=ae rcA 0;simp at P Z;obtain⟨Tk,ab⟩:∃Tk,Tk=b.aC:=⟨_,rfl⟩;rw[<-ab] at P ao;have b3:z<=Tk:=by have:=ad.1;change z<=c.aC at this;omega
  have ht:t<18446744073709551616:=ad.2;have b6:Tk<18446744073709551616:=bL;have b4:(Tk:Int)-z=((Tk-z:Nat):Int):=bL;obtain⟨D,hD⟩:∃D,D=Tk-z:=⟨_,rfl⟩;rw[<-hD] at b4;have b8:IntKind.u64.wrap (D:Int)=D:=by rw[IntKind.wrap_u64];omega
  have a1:=af yO;have a6:=af (zzb ab hD);clear yO ou rcA gA Hn QH ad V l dN rh htp ao ab b3 hD;rw[bE];by_cases h5:s=5
  .subst h5;by_cases h8:8<=D
   .have i8:(8:Int)<=D:=bL;have U:=af (show b.cU (t,⟨5,[y,E,F,I,J,K,L,M,O],z⟩)=b.jV t from by
     unfold aU.cU
     rw[if_pos rfl,<-a6.1,if_pos (show 8<=Tk-z from by rw[<-a6.2];exact h8)])
    have C:=(callsIn_wide (n:=N-1-1-1)).2 (sO B p lg T (n+10*g.length) t b A.drew (a1.out.new (lT A).drew) ht bL)
    gi_wp2
    refine fT (S:=(λw'=>w'.cell? ⟨f,0,none⟩=some (.int .i64 (5:Int))/\w'.cell? ⟨f,10,none⟩=some (.int .u64 (z:Int))/\w'.cell? ⟨w.heap.size,0,none⟩=some (.pointer (some ⟨p,0,none⟩))/\w'.cell? ⟨p,4,none⟩=some (.int .u64 (Tk:Int)))) dJ dJ (by rintro⟨a,w,v⟩;cases v.1) ⟨t0,ta,Z,P⟩ (λaa=>?_);refine tkH 0 ?_;refine tkH 1 ?_;refine tkH 2 ?_;refine tkH 3 ?_;refine tkH 4 ?_;refine tkH 5 ?_;refine tkH 6 ?_;refine tkH 7 ?_;refine tkH 8 ?_;refine tkH 9 ?_;refine tkH 10 ?_;refine tkH 11 ?_;refine tkH 12 ?_;refine tkH 13 ?_
    (try simp only[Act.put,mA,mC,mI])
    refine wpAnyH_done dJ ?_ _
    gi_wp2_with fail
    refine⟨trivial,λ_=>bL,CallsIn.inRound _ (C.mono ?_)⟩;clear C;rintro e Y ⟨rfl,mQ,i⟩;have X:=af (HN.out Y (by rw[U.out];exact mQ) (((lT A).drew.r oD bR bR).trans i));clear mQ i
    gi_wp2
    exact X.out
   .have i8:¬(8:Int)<=D:=bL;have U:=af (show b.cU (t,⟨5,[y,E,F,I,J,K,L,M,O],z⟩)={ b with out:=b.out++(dK l_ (b.tx t).parts).map λk=>(t,k,1) } from by
     unfold aU.cU
     rw[if_pos rfl,<-a6.1,if_neg (show ¬8<=Tk-z from by rw[<-a6.2];exact h8)])
    have C:=(callsIn_wide (n:=N-1-1-1)).2 (qu B p lg T (n+10*g.length) t 68 l_ Cr xr 1 b A.drew (a1.out.new (lT A).drew) ht bL)
    gi_wp2
    refine fT (S:=(λw'=>w'.cell? ⟨f,0,none⟩=some (.int .i64 (5:Int))/\w'.cell? ⟨f,10,none⟩=some (.int .u64 (z:Int))/\w'.cell? ⟨w.heap.size,0,none⟩=some (.pointer (some ⟨p,0,none⟩))/\w'.cell? ⟨p,4,none⟩=some (.int .u64 (Tk:Int)))) dJ dJ (by rintro⟨a,w,v⟩;cases v.1) ⟨t0,ta,Z,P⟩ (λaa=>?_);refine tkH 0 ?_;refine tkH 1 ?_;refine tkH 2 ?_;refine tkH 3 ?_;refine tkH 4 ?_;refine tkH 5 ?_;refine tkH 6 ?_;refine tkH 7 ?_;refine tkH 8 ?_;refine tkH 9 ?_;refine tkH 10 ?_;refine tkH 11 ?_;refine tkH 12 ?_;refine tkH 13 ?_
    (try simp only[Act.put,mA,mC,mI])
    refine wpAnyH_done dJ ?_ _
    gi_wp2_with fail
    refine⟨trivial,λ_=>bL,CallsIn.inRound _ (C.mono ?_)⟩;clear C;rintro e Y ⟨rfl,mQ,i⟩;have X:=af (HN.out Y (by rw[U.out];exact mQ.mono bL) (((lT A).drew.r oD bR bR).trans (gm.mono i bR)));clear mQ i
    gi_wp2
    exact X.out
  .have i5:¬(s:Int)=5:=bL;have j5:((s:Int)==5)=false:=beq_eq_false_iff_ne.2 i5;by_cases h6:s=6
   .subst h6
    have U:=af (show b.cU (t,⟨6,[y,E,F,I,J,K,L,M,O],z⟩)={ b with out:=b.out++(dK jf (b.tx t).parts).map λk=>(t,k,5) } from by
     unfold aU.cU
     rw[if_neg (show ¬6=5 from bM),if_pos rfl])
    have C:=(callsIn_wide (n:=N-1-1-1)).2 (qu B p lg T (n+10*g.length) t 183 jf xm ud 5 b A.drew (a1.out.new (lT A).drew) ht bL)
    gi_wp2
    refine fT (S:=(λw'=>w'.cell? ⟨f,0,none⟩=some (.int .i64 (6:Int))/\w'.cell? ⟨f,10,none⟩=some (.int .u64 (z:Int))/\w'.cell? ⟨w.heap.size,0,none⟩=some (.pointer (some ⟨p,0,none⟩))/\w'.cell? ⟨p,4,none⟩=some (.int .u64 (Tk:Int)))) dJ dJ (by rintro⟨a,w,v⟩;cases v.1) ⟨t0,ta,Z,P⟩ (λaa=>?_);refine tkH 0 ?_;refine tkH 1 ?_;refine tkH 2 ?_;refine tkH 3 ?_;refine tkU 4 ?_;refine tkU 5 ?_;refine tkU 6 ?_;refine tkU 7 ?_;refine tkU 8 ?_;refine tkU 9 ?_;refine tkU 10 ?_;refine tkU 11 ?_;refine tkH 12 ?_;refine tkH 13 ?_
    (try simp only[Act.put,mA,mC,mI])
    refine wpAnyH_done dJ ?_ _
    gi_wp2_with fail
    refine⟨trivial,λ_=>bL,CallsIn.inRound _ (C.mono ?_)⟩;clear C;rintro e Y ⟨rfl,mQ,i⟩;have X:=af (HN.out Y (by rw[U.out];exact mQ.mono bL) (((lT A).drew.r oD bR bR).trans (gm.mono i bR)));clear mQ i
    gi_wp2
    exact X.out
   .have i6:¬(s:Int)=6:=bL;have j6:((s:Int)==6)=false:=beq_eq_false_iff_ne.2 i6
    have X:=af (HN.out A.drew (by
     have e:b.cU (t,⟨s,[y,E,F,I,J,K,L,M,O],z⟩)=b:=by
      unfold aU.cU;rw[if_neg (show ¬s=5 from h5),if_neg (show ¬s=6 from h6)]
     rw[e];exact(a1.out.new (lT A).drew).mono bL) ((lT A).drew.r oD bR bR))
    gi_wp2
    refine fT (S:=(λw'=>w'.cell? ⟨f,0,none⟩=some (.int .i64 (s:Int))/\w'.cell? ⟨f,10,none⟩=some (.int .u64 (z:Int))/\w'.cell? ⟨w.heap.size,0,none⟩=some (.pointer (some ⟨p,0,none⟩))/\w'.cell? ⟨p,4,none⟩=some (.int .u64 (Tk:Int)))) dJ dJ (by rintro⟨a,w,v⟩;cases v.1) ⟨t0,ta,Z,P⟩ (λaa=>?_);refine tkH 0 ?_;refine tkH 1 ?_;refine tkH 2 ?_;refine tkH 3 ?_;refine tkU 4 ?_;refine tkU 5 ?_;refine tkU 6 ?_;refine tkU 7 ?_;refine tkU 8 ?_;refine tkU 9 ?_;refine tkU 10 ?_;refine tkU 11 ?_;refine tkH 12 ?_;refine tkH 13 ?_
    (try simp only[Act.put,mA,mC,mI])
    refine wpAnyH_done dJ ?_ _
    gi_wp2
    exact X.out
 case done =>
  rintro A ⟨yO,ou,rcA⟩ rh R
  gi_wp2
  refine⟨bR,.inl ⟨_,_,rfl,run_takeDeferred R,?_⟩⟩;obtain⟨W9,JF⟩:∃W9,W9=A.putObj d.heap.size (.deferred none):=⟨_,rfl⟩;rw[<-JF];have wI:Bk d.heap.size A W9:=by rw[JF];exact Bk.put R rfl (zzc _) _
  have JE:(qY c.ai (iw c.ai)).length<=12:=by
   unfold qY iw;simp;exact hl
  have h9:=(yO.bk wI).mono (m:=n+120) bL;exact⟨_,results_none rfl _ _ _,rfl,h9,G.2.1.trans (ou.bk yO wI (zzc _))⟩
theorem Mv(B p lg T n:Nat)(c:aU)(w:World)(h:bm w B p lg T n c)(l:c.ai.length<=12)(s:∀x∈c.ai,x.2.since<=c.aC/\x.1<18446744073709551616)(K:c.aC+1<18446744073709551616)(hn:n+200<67108864):
  Calls prog 140 #[.pointer<|some ⟨p,0,none⟩] w λe w'=>e=.returned (.tuple #[])/\bm w' B p lg T (n+120) c.tick/\gm p [p,T] w w':=
 (callsIn_wide).1 (QG 12 (zzc _) B p lg T n c w h l s K hn)
theorem LL{s:ag}{ws:List Nat}{e:Nat×ByteArray}(h:e∈rE s ws):e.1<126:=by
 unfold rE at h;obtain h|h:=zzo.1 h
 .obtain⟨x,_,rfl⟩:=zzq.1 h;show 4<126;omega
 .obtain⟨x,_,rfl⟩:=zzq.1 h;show 1<126;omega
def PG(n g:Nat)(l:au)(d:ah)(e:List (Nat × ByteArray)):Prop :=
 (l.notes d (e_ e)).2.2=0->g<=(l.notes d (e_ e)).1.segs.length/\n+3*(e.length+2)+2+(l.notes d (e_ e)).1.segs.length<=67108864 /\
   ((l.notes d (e_ e)).1.failed=0->cb (l.notes d (e_ e)).1.segs l.next≠0->(l.notes d (e_ e)).1.tQ (l.notes d (e_ e)).2.1 (cb (l.notes d (e_ e)).1.segs l.next) ((l.notes d (e_ e)).1.segs.getD (cb (l.notes d (e_ e)).1.segs l.next) 0)<=g) /\
   ((l.notes d (e_ e)).1.failed=0->∀k s:Nat,(l.notes d (e_ e)).1.segs[k]?=some s->∃r rs,(l.notes d (e_ e)).1.recs=r :: rs/\r.oq<=s/\s-r.oq<(l.notes d (e_ e)).1.recs.length)
structure aaU(s:ag)(ws:List Nat):Prop where
 len:s.ai.length<=12
 aM:∀x∈cX s.aM,x.1.size<256/\x.2.size<256
 wait:∀ss,ss.Perm (s.ai.map (·.1))->ss.Pairwise (·<=·)->waits (yi s.ai ss)=ws
 held:∀t∈ws,t<18446744073709551616/\(∀x∈dG (jU s.holds t),gP x)/\(jU s.holds t).length<=16
 once:b_ s.holds
 Td:ws.length<=12
theorem aaV(B a b V T H m f p D N n g:Nat)(s:ag)(ws:List Nat)(l:au)(d:ah)(w:World)(h:SL w B a b V T H m f p D N n s l d)(R:m<=67108864)(U:aaU s ws)(Y:l.filled<600->l.segs≠[])(hn:n+3*((rE s ws).length+2)+2+g<=67108864)(hcut:PG n g l d<|rE s ws)(v:2<=B)(hb:B<=a/\B<=V/\B<=T/\B<=H)(P:bI w):
  Calls prog 92 #[.pointer<|some ⟨a,0,none⟩] w λe w'=>e=.returned (cf (l.kc d<|(rE s ws).map wQ).2.2)/\SL w' B a b V T H m f p D N (n+3*((rE s ws).length+2)+2+g) s (l.kc d<|(rE s ws).map wQ).1 (l.kc d<|(rE s ws).map wQ).2.1/\pO a V T H f p w w':=by
 have tj:2<=w.heap.size:=by have⟨z,G,F,x,y,c⟩:=h.lg;have:=c.bq.base.2.2.2;omega
 have o:=ae h.sh.blk 0;simp at o;rw[dE h.oN]at o;have⟨W,i⟩:∃W,W=w.drew.alloc (.cells #[.pointer<|some ⟨a,0,none⟩] 75):=⟨_,rfl⟩;have u:Fr [] w W:=by rw[i];exact((lT w).drew).alloc _
 have⟨k,j⟩:=h.new u;have⟨z,G,F,x,y,c⟩:=k.lg;have L:W.heap[w.heap.size]?=some (.cells #[.pointer<|some (gz a)] 75 (0,0)):=by rw[i];exact heap_alloc_new w.drew _
 have J:∀A,ku f p W A->a_ A a b V T H m s/\A.heap[w.heap.size]?=some (.cells #[.pointer<|some (gz a)] 75 (0,0)):=λA t=>⟨(k.sh.zY c k.ap t).1,(t.kpo c).same _ _ L rfl⟩
 have Z:=(callsIn_wide).1 (Vc 16 (zzc _) B b f p D N n x y g 188 #[gx w.heap.size] z G F l d (rE s ws) _ W k.ap.ju c v (by have:=u.size;omega) Y (h.lh j v hb P) (enters_of func188 dJ rfl) (λe Q=>LL Q) J
  (λS ls O M I=>Ib 15 bL S ls w.heap.size a b V T H m s ws O M I.2 I.1 U.len R U.aM U.wait U.held U.once U.Td) hn hcut)
 have xn:=(callsIn_wide).1<|Ia 1 a w.drew;have r:=ae k.sh.blk 0;simp at r;rw[dE h.oN]at r;have X:=af<|zzb k j;clear h k j c L u J U hcut
 go_enter func92,ntmps92;go_wp2;go_region_held3 (λw'=>w'.cell? (gz a)=some (.pointer<|some (gz b))) (simp[*])
  (first
   |(go_at_call 144;apply xn.mono;rintro e w1 ⟨rfl,mY⟩;rw[<-i]at mY;subst mY;clear i)
   |(go_at_call 143;apply Z.mono;rintro e w2 ⟨rfl,eh,gH⟩;have⟨q,C⟩:=X.1.log gH eh;have K:=ae q.sh.blk 0;simp at K;rw[dE q.oN]at K;have E:=af (zzb q (X.2.trans C));clear q C eh gH))
 all_goals
  (go_wp2
   go_ret;exact⟨rfl,E.1,E.2⟩)
end
end Go.Proofs.YtcalalndmcemiaaGreatDoor
