import Derived.Test.YtdcafjmdfpjcbaaGreatDoorC20
import Derived.Shelf.SlIter.Nil
set_option maxHeartbeats 4000000
set_option maxRecDepth 100000
namespace Go.Proofs.YtdcafjmdfpjcbaaGreatDoor
open Go.RowKit Go.Maps Tryz Sc
section
open Go.Shelf
variable{S:List Nat}{rs:List Rec}{l m n:Nat}{v:Value}{A B w:World}
abbrev FR(r:Rec):Value:=.agg #[.int .u64 (r.cQ:Int),.int .u8 (r.kind:Int),.string (str r.pay)]
def w_(W:World)(g:Nat)(rs:List Rec):Prop :=
 ∀k r,rs[k]?=some r->W.cell? (d8 g (k*3))=some (.int .u64 (r.cQ:Int))/\W.cell? (d8 g (k*3+1))=some (.int .u8 (r.kind:Int))/\W.cell? (d8 g (k*3+2))=some (.string (str r.pay))
theorem w_.below{g:Nat}(h:Below n A B)(b:g<n)(a:w_ A g rs):w_ B g rs:=λk r c=>
 ⟨(h.cell b).trans (a k r c).1,(h.cell b).trans (a k r c).2.1,(h.cell b).trans (a k r c).2.2⟩
theorem lV{k:Nat}{r:Rec}(h:rs[k]?=some r):rs.take (k+1)=rs.take k++[r]:=by
 rw[List.take_add_one,h];rfl
theorem FT(F:Fence)(n:Nat)(b:F.fn 110)(o:F.round=none)(l B p:Nat)(J:List Rec->World->Prop)
  (W:World) (H:W.cell? (dH B)=some (rM p)) (c:W.cell? (d8 p 3)=some (.slice none 0 0)) (h:J [] W) :
  CallsIn F n prog 110 #[.func (.yield l) #[] #[],rM B] W λe a=>(∃v,e=.returned v)/\J [] a:=by
 refine callsIn_of_wp func110 rfl b ?_ o;simp only[ntmps110,mJ,zzr,mV,Nat.reduceAdd,Nat.reduceSub,m7,m8,n8,oS,p5,qS];gi_wp2;gi_loopw [10] (λi wr=>i=.int .i64 0/\J [] wr) (λ_ _=>0);case atStart=>exact⟨rfl,h⟩
 case round=>
  obtain⟨rfl,s⟩:=hrel;gi_wp2;go_end0;exact⟨⟨_,rfl⟩,s⟩
theorem Jg(F:Fence)(n:Nat)(h:F.fn 69)(o:F.round=none)(p:Option Addr)(w:World):
  CallsIn F n prog 69 #[.pointer p] w λe w'=>e=.returned (.func (.func 110) #[] #[rM w.heap.size])/\w'=w.alloc (.cells #[.pointer p] 59):=by
 refine callsIn_of_wp func69 rfl h ?_ o;simp only[ntmps69,mJ,zzr,mV,Nat.reduceAdd,Nat.reduceSub,m7,m8,n8,oS,p5,qS];gi_wp2;go_ret;exact⟨rfl,rfl⟩
def xb(n:Nat)(W:World)(v:Value)(rs:List Rec):Prop :=
 (v=.slice none 0 0/\rs=[])\/∃g p,v=.slice (some (dH g)) rs.length p/\g<n/\w_ W g rs
theorem xb.below(h:Below n A B)(r:xb n A v rs):xb n B v rs:=by
 obtain e|⟨g,cap,e,hg,r⟩:=r
 .exact .inl e
 .exact .inr ⟨g,cap,e,hg,r.below h hg⟩
structure pN(S:List Nat)(A B:World):Prop where
 size:A.heap.size<=B.heap.size
 same:∀k∈S,k<A.heap.size->B.heap[k]?=A.heap[k]?
theorem pN.trans{C:World}(h:pN S A B)(k:pN S B C):pN S A C:=
 ⟨zzk h.size k.size,λi a l=>(k.same i a<|zzl l h.size).trans<|h.same i a l⟩
theorem pN.book(h:∀k∈S,k<w.heap.size)(W:World)(l:Nat)(o a:Obj)(c:w.heap.size<=l)(_:W.heap[l]?=some o)(_:o.isCells=false)(_:o.isWalk=false):pN S W (W.putObj l a):=
 ⟨sE,λk b _=>World.putObj_heap_other λe=>by have:=h k b;omega⟩
theorem pN.alloc(W:World)(o:Obj):pN S W (W.alloc o):=⟨sE,λk _ l=>zzf _ _ k l⟩
theorem pN.refl{S:List Nat}(W:World):pN S W W:=⟨zzc _,λ_ _ _=>rfl⟩
theorem pN.below(h:Below n A B)(a:∀k∈S,k<n):pN S A B:=⟨h.size,λk b _=>h.block k<|a k b⟩
def rowsOf(v:Value):List Nat:=v.ownBlock.toList
theorem QL(n:Nat)(hn:1<=n)(l B o g z:Nat)(rs:List Rec)(hlen:rs.length<=1000000000)(J j:List Rec->World->Prop)
  (D:∀s W b,J s W->W.grownBy b none->J s b)
  (C:∀p x W,J p W->p.length<rs.length->x∈rs->YieldAt Fence.wide (n-1) prog l #[FR x] W λe b=>
   (e=.returned (.bool true)/\J (p++[x]) b/\pN [g] W b)\/(e=.returned (.bool false)/\j (p++[x]) b))
  (W:World) (E:g<W.heap.size) (X:W.cell? (dH B)=some (rM o)) (H:W.cell? (d8 o 3)=some (.slice (some<|dH g) rs.length z)) (A:w_ W g rs) (I:J [] W) :
  CallsIn Fence.wide n prog 110 #[.func (.yield l) #[] #[],rM B] W λe b=>(∃v,e=.returned v) /\
   ((∃y,y=rs/\J y b)\/(∃p,p<+:rs/\j p b)):=by
 have⟨m,h⟩:=xY rs.length;rw[<-h]at H hlen;have M:=ae h;have G:Fence.wide.round=none:=rfl;clear h;refine callsIn_of_wp func110 rfl trivial ?_ G;simp only[ntmps110,mJ,zzr,mV,Nat.reduceAdd,Nat.reduceSub,m7,m8,n8,oS,p5,qS];gi_wp2;gi_loopw [10] (λi wr=>∃k:Nat,k<=m/\i=.int .i64 k/\J (rs.take k) wr/\pN [g] W wr)
  (λi _=>m-(intOf i).toNat)
 case atStart=>exact⟨0,zzs _,rfl,by simpa using I,pN.refl _⟩
 case round=>
  obtain⟨k,V,rfl,f,u⟩:=hrel;by_cases T:k<m
  .obtain⟨r,hr⟩:∃r,rs[k]?=some r:=⟨_,zzg<|by have:=M.out;omega⟩;have d:=u.same g sE E;have⟨w,t,q⟩:=A k r hr;have Q:=(zze d).trans w;have L:=(zze d).trans t;have P:=(zze d).trans q;have⟨c,Y⟩:=xY <|wr.alloc (.cells #[.int .u64 (r.cQ:Int),.int .u8 (r.kind:Int),.string<|str r.pay] 82);have K:wr.grownBy c none:=by rw[Y];exact World.grownBy_alloc wr _ none
   have F:=D _ _ _ f K;have U:pN [g] W c:=by rw[Y];exact u.trans<|pN.alloc _ _
   have⟨O,tmps,assign,body,S,R⟩:=C _ r c F (by rw[zzm];have:=M.out;omega)<|zzh hr;subst Y;clear w t q d
   gi_wp2;apply R.mono;rintro e N (⟨rfl,BS,kM⟩|⟨rfl,DV⟩)
   .gi_wp2;go_roundw;case rel=>exact⟨k+1,oE,sE,by rw[lV hr];exact BS,U.trans kM⟩
    case measure=>simp[intOf];omega
   .gi_wp2;apply bodyPost_ret (results_none rfl _ _ _) rfl;exact⟨⟨_,rfl⟩,.inr ⟨_,by rw[<-lV hr];exact List.take_prefix _ _,DV⟩⟩
  .obtain rfl:k=m:=oE;gi_wp2;go_end0;exact⟨⟨_,rfl⟩,.inl ⟨_,by rw[M.out,List.take_length],f⟩⟩
theorem zQ(n:Nat)(hn:1<=n)(c d:Nat)(v:Value)(rs:List Rec)(w:World)(hlen:rs.length<=1000000000)(O:c<w.heap.size)(D:d<w.heap.size)
  (K:w.cell? (dH c)=some (rM d)) (M:w.cell? (d8 d 3)=some v) (L:xb w.heap.size w v rs) :
  SeqStopsK Fence.wide n prog 110 #[rM c] (λx:{ x:Rec // x∈rs }=>#[FR x.1]) (pN (rowsOf v)) (λy=>y.map (·.1)=rs) (λb=>b.map (·.1) <+: rs) rs.length w:=λl J E W f H _ Y q=>by
 have c1:=(f.cell (p:=⟨c,0,none⟩) O).trans K;have c2:=(f.cell (p:=⟨d,3,none⟩) D).trans M;rcases L.below (f.mono (zzc _)) with⟨rfl,rfl⟩|⟨g,u,rfl,G,C⟩
 .refine(FT Fence.wide n trivial rfl l c d (λ_ W=>J [] W) W c1 c2 q).mono ?_;rintro e o ⟨he,j⟩;exact⟨he,.inl ⟨[],rfl,j⟩⟩
 .have h:=QL n hn l c d g u rs hlen (λb W=>∃m:List { x:Rec // x∈rs },m.map (·.1)=b/\J m W) (λb W=>∃m:List { x:Rec // x∈rs },m.map (·.1)=b/\E m W)
   (λs A B I N=>by obtain⟨a,e,j⟩:=I;exact⟨a,e,H a A B none j N (λr e=>by cases e)⟩)
   (λb x t j P k=>by
    obtain⟨a,e,j⟩:=j;obtain⟨z,tmps,assign,body,F,R⟩:=Y a ⟨x,k⟩ t j (by rw[<-e,zzn] at P;exact P);refine⟨z,tmps,assign,body,F,R.mono ?_⟩;rintro i o (⟨r1,r2,r3⟩|⟨r1,r2⟩)
    .exact .inl ⟨r1,⟨a++[⟨x,k⟩],by simp[e],r2⟩,by simpa [rowsOf,Value.ownBlock] using r3⟩
    .exact .inr ⟨r1,⟨a++[⟨x,k⟩],by simp[e],r2⟩⟩)
   W (zzl G f.size) c1 c2 C ⟨[],rfl,q⟩
  refine h.mono ?_;rintro e o ⟨he,⟨y,rfl,a,i,j⟩|⟨b,hp,a,i,j⟩⟩
  .exact⟨he,.inl ⟨a,i,j⟩⟩
  .exact⟨he,.inr ⟨a,by show _ <+: rs;rw[i];exact hp,j⟩⟩
structure kc(w:World)(lp:Nat)(rv:Value)(rs:List Rec):Prop where
 lt:lp<w.heap.size
 cell:w.cell? (d8 lp 3)=some rv
 recs:xb w.heap.size w rv rs
theorem kc.below{w':World}(h:kc w l v rs)(b:Below w.heap.size w w'):kc w' l v rs:=
 ⟨zzl h.lt b.size,(b.cell h.lt).trans h.cell,by
  obtain e|⟨g,cap,e,hg,hr⟩:=h.recs.below b
  .exact .inl e
  .exact .inr ⟨g,cap,e,zzl hg b.size,hr⟩⟩
theorem kc.rows{p:Nat}(h:kc w p v rs):∀k∈rowsOf v,k<w.heap.size:=by
 intro k a;rcases h.recs with⟨rfl,_⟩|⟨g,c,rfl,b,_⟩
 .simp[rowsOf,Value.ownBlock]at a
 .simp[rowsOf,Value.ownBlock]at a;omega
theorem Q0(p x:Nat)(w:World)(h:w.cell? (d8 p 4)=some (.int .u64 (x:Int))):Calls prog 68 #[rM p] w λe w'=>e=.returned (.int .u64 (x:Int))/\w'=w:=by
 go_enter func68,ntmps68;go_wp2;go_ret;exact⟨rfl,rfl⟩
def pg(rs:List Rec)(x:Nat):Nat:=match rs with|[]=>x|r :: _=>r.cQ
theorem JB{a b:List Rec}(e:a≠[])(h:a<+:b):pg b n=pg a 0:=by
 obtain⟨t,rfl⟩:=h;cases a with
 |nil=>grind
 |cons x r=>rfl
theorem JD(n:Nat)(hn:4<=n)(b f:Nat)(v:Value)(rs:List Rec)(hlen:rs.length<=1000000000)(w:World)(L:kc w b v rs)(Z:w.cell? (d8 b 4)=some (.int .u64 (f:Int))):
  CallsIn Fence.wide n prog 153 #[rM b] w λe w'=>e=.returned (.int .u64 (pg rs f:Int))/\Below w.heap.size w w':=by
 have m:Fence.wide.round=none:=rfl;have q:1<=n:=oE;have Q:Fence.wide.fn 69:=trivial;have I:Fence.wide.fn 110:=trivial;have kN:Fence.wide.fn 68:=trivial;refine callsIn_of_wp_marks func153 rfl trivial ?_ m;simp only[ntmps153,mJ,zzr,mV,Nat.reduceAdd,Nat.reduceSub,m7,m8,n8,oS,p5,qS]
 gi_wp2_with (gi_at_call 69;refine(Jg Fence.wide (n-1) Q m _ _).mono ?_;rintro e w' ⟨rfl,rfl⟩)
 have R:=Boxed.new w 34 (.int .u64 0);have A:=Boxed.new (w.alloc (.cells #[.int .u64 0] 34)) 59 (.pointer (some ⟨b,0,none⟩));rw[zzv] at A;have z:=R.alloc (.cells #[.pointer (some ⟨b,0,none⟩)] 59);have C:Below w.heap.size w ((w.alloc (.cells #[.int .u64 0] 34)).alloc (.cells #[.pointer (some ⟨b,0,none⟩)] 59)):=((zzD _ w).alloc (zzc _) _).alloc sE _;have H:((w.alloc (.cells #[.int .u64 0] 34)).alloc (.cells #[.pointer (some ⟨b,0,none⟩)] 59)).heap.size=w.heap.size+2:=sE
 obtain⟨t,u⟩:∃t,t=(w.alloc (.cells #[.int .u64 0] 34)).alloc (.cells #[.pointer (some ⟨b,0,none⟩)] 59):=⟨_,rfl⟩;rw[<-u] at A z C H ⊢;clear u R;have y:=L.below C;have K:=L.lt
 refine wpIn_rangeFunc_ownH m q (gf:=110) (lb:=#[.pointer (some ⟨w.heap.size+1,0,none⟩)]) rfl I (enters_of func110 k6 rfl)
  (zQ (n-1) oE (w.heap.size+1) b v rs t hlen oE y.lt A.cell y.cell y.recs) (λh k=>h.trans k) (pN.book y.rows) (zzD _ _) (λ_=>rfl)
  (λd W=>(Boxed W w.heap.size 34 (.int .u64 0)/\d=[])/\Below w.heap.size w W)
  (λc d W=>(Boxed W w.heap.size 34 (.int .u64 (pg (d.map (·.1)) 0:Int))/\(c=.ret/\d≠[]))/\Below w.heap.size w W)
  (OwnFrom.and (OwnFrom.and (Own.from (boxed_own _ _ _) _) (ownFrom_pure _ _)) (ownFrom_below (zzc _) oE))
  (λc=>OwnFrom.and (OwnFrom.and (Own.from (boxed_own _ _ _) _) (ownFrom_pure _ _)) (ownFrom_below (zzc _) oE))
  ⟨⟨z,rfl⟩,C⟩
  (λx s W=>∃B,w.heap.size<B/\W.heap[B]?=some (.cells #[.int .u64 (x.1.cQ:Int),.int .u8 (x.1.kind:Int),.string (str x.1.pay)] 82 (0,0))/\s={ tmps:=#[.pointer (some ⟨b,0,none⟩),undef,.pointer (some ⟨w.heap.size,0,none⟩),.pointer (some ⟨B,0,none⟩),.pointer (some ⟨b,0,none⟩),.func (.func 110) #[] #[.pointer (some ⟨w.heap.size+1,0,none⟩)],FR x.1,undef,undef,undef,undef],defers:=[] })
  (λx s _ X a6 row M N J=>by
   obtain⟨B,q,i,U⟩:=M
   exact⟨B,q,(N.block B (zza.1 i).1 (λe=>by obtain⟨_,o,E,O⟩:=J B e.symm;rw[i] at E;cases E;cases O)).trans i,U⟩)
  ?assign ?body ?done ?stop
 case assign =>
  have T:=@Oper.semAt_some;rintro l d x W a1 ⟨⟨kC,hp⟩,tG⟩ hK
  gi_wp2
  exact hK _ _ ((KeepsOthers.alloc _ _).from _) (pN.alloc _ _) ⟨⟨kC.alloc _,hp⟩,tG.alloc tG.size _⟩ ⟨W.heap.size,kC.lt,World.alloc_heap_new W _,rfl⟩
 case body =>
  have T:=@Oper.semAt_some;rintro l d x s W eN _ ⟨⟨kC,rfl⟩,hB⟩ ⟨B,hBx,bX,rfl⟩ bP;have P:=aP bX 0;simp at P;have c2:=kC.cell;have f2:=kC.frozen
  gi_wp2
  refine⟨((KeepsOthers.setCell W _ _).from _),⟨kC.set _,rfl,sE⟩,hB.setCell (p:=⟨w.heap.size,0,none⟩) (zzc _) _⟩
 case done =>
  rintro D ys W hD V ⟨⟨kC,rfl⟩,hB⟩ hK;have Y:rs=[]:=by rw[<-V];rfl
  have c2:=kC.cell;have f2:=kC.frozen;have c4:=(hB.cell (p:=⟨b,4,none⟩) K).trans Z
  gi_wp2_with (gi_at_call 68;refine((callsIn_wide (n:=n-1)).2 (Q0 b f W c4)).mono ?_;rintro e w' ⟨rfl,rfl⟩)
  obtain⟨a,g⟩:∃a,a=w'.setCell ⟨w.heap.size,0,none⟩ (.int .u64 (f:Int)):=⟨_,rfl⟩;rw[<-g];have v2:Boxed a w.heap.size 34 (.int .u64 (f:Int)):=by rw[g];exact kC.set _
  have j:Below w.heap.size w a:=by rw[g];exact hB.setCell (p:=⟨w.heap.size,0,none⟩) (zzc _) _
  have G:a.heap[D]?=some (.deferred (some [])):=by rw[g];exact(Below.heap_setCell _ _ _ D (by show D≠w.heap.size;omega)).trans hK
  clear g;refine⟨sE,.inl ⟨_,_,rfl,run_takeDeferred G,?_⟩⟩;have r:=(v2.kept (grownBy_putObj' a D (.deferred none)) sC).cell;refine⟨.int .u64 (f:Int),?_,by rw[Y];rfl,j.trans (belowK_b (w:=w) (zzc _) a D _ _ oE G rfl rfl)⟩;simp only[results,f153];simp[go_sem,r]
 case stop =>
  rintro D c d W hD S ⟨⟨kC,rfl,hne⟩,hB⟩ hK;have F:pg rs f=pg (d.map (·.1)) 0:=JB (λe=>hne (List.map_eq_nil_iff.1 e)) S
  gi_wp2
  obtain⟨a,g⟩:∃a,a=W:=⟨_,rfl⟩;rw[<-g];have v2:Boxed a w.heap.size 34 (.int .u64 (pg (d.map (·.1)) 0:Int)):=by rw[g];exact kC
  have j:Below w.heap.size w a:=by rw[g];exact hB
  have G:a.heap[D]?=some (.deferred (some [])):=by rw[g];exact hK
  clear g;refine⟨sE,.inl ⟨_,_,rfl,run_takeDeferred G,?_⟩⟩;have r:=(v2.kept (grownBy_putObj' a D (.deferred none)) sC).cell;refine⟨.int .u64 (pg (d.map (·.1)) 0:Int),?_,by rw[F],j.trans (belowK_b (w:=w) (zzc _) a D _ _ oE G rfl rfl)⟩;simp only[results,f153];simp[go_sem,r]
structure mL(n:Nat)(S:List Nat)(A B:World):Prop where
 size:A.heap.size<=B.heap.size
 high:∀k,n<=k->k<A.heap.size->B.heap[k]?=A.heap[k]?
 same:∀k∈S,k<A.heap.size->B.heap[k]?=A.heap[k]?
theorem mL.refl(n:Nat)(S:List Nat)(A:World):mL n S A A:=⟨zzc _,λ_ _ _=>rfl,λ_ _ _=>rfl⟩
theorem mL.mono(h:mL n S A B)(b:n<=m):mL m S A B:=⟨h.size,λk a=>h.high k<|zzk b a,h.same⟩
theorem mL.alloc(n:Nat)(S:List Nat)(A:World)(o:Obj):mL n S A (A.alloc o):=⟨sE,λk _ l=>zzf _ _ k l,λk _ l=>zzf _ _ k l⟩
theorem fG(W:World)(l:Nat)(o:Obj):(W.putObj l o).heap.size=W.heap.size:=sE
def Ym{α:Type}(F:Fence)(n:Nat)(P:Program)(gf:Nat)(lb:Array Value)(encs:α->Array Value)(rs:List α)(S:List Nat)(l:Nat)(W:World):Prop :=
 ∀J:List α->World->Prop,(∀s A B,J s A->Below W.heap.size A B->J s B) ->
  (∀p x a,J p a->W.heap.size<=a.heap.size->p++[x] <+: rs->YieldAt F (n-1) P l (encs x) a λe b=>e=.returned (.bool true)/\J (p++[x]) b/\mL W.heap.size S a b) ->
  J [] W->CallsIn F n P gf (#[.func (.yield l) #[] #[]]++lb) W λe b=>(∃v,e=.returned v)/\J rs b
section
variable{F:Fence}{n:Nat}{P:Program}
theorem pO{α:Type}{g:Operand}{ps:Array Tmp}{assign body:Code}{Q:Exit->Act->World->Prop}{a:Act}{w:World}
  (hro:F.round=none) (h1:1<=n) {gf:Nat} {lb:Array Value} (hg:a.eval g=.func (.func gf) #[] lb) (UG:F.fn gf) (eg:∀args w,(callFunc gf args).run P w=.ok (.enter gf args) w)
  {encs:α->Array Value} {rs:List α} {S:List Nat} (zL:∀x,(encs x).size=ps.size) (hS:∀k∈S,k<w.heap.size)
  (tI:∀W1,Below w.heap.size w W1->W1.heap.size=w.heap.size+2->Ym F (n-1) P gf lb encs rs S (w.heap.size+1) W1)
  (I:List α->World->Prop) (hI0:∀W1,Below w.heap.size w W1->I [] W1) (UQ:∀s A B,I s A->Below (w.heap.size+2) A B->I s B) (hIl:∀s A r,I s A->I s (A.putObj (w.heap.size+1)<|.loop r))
  (Ax:α->Act->World->Prop) (hAx:∀x a' A r,Ax x a' A->Ax x a' (A.putObj (w.heap.size+1)<|.loop r))
  (D0:∀(pre:List α) (x:α) (W:World) (K:Act->World->Prop),I pre W->w.heap.size+2<=W.heap.size->pre++[x]<+:rs->(∀a' W',I pre W'->mL w.heap.size S W W'->Ax x a' W'->K a' W') ->
   assign.wpIn (F.inRound (w.heap.size+1)) (n-1-1) P (Exit.then K (λ_ _ _=>False)) {tmps:=(ps.zip (encs x)).foldl (λt (p,v)=>t.setIfInBounds p v) a.tmps,defers:=[]} W)
  (QM:∀(pre:List α) (x:α) (a':Act) (W:World),I pre W->w.heap.size+2<=W.heap.size->Ax x a' W->pre++[x]<+:rs->body.wpIn (F.inRound<|w.heap.size+1) (n-1-1) P (λe _ W'=>e=.normal/\I (pre++[x]) W'/\mL w.heap.size S W W') a' W)
  (CI:∀(W:World),I rs W->w.heap.size+2<=W.heap.size->W.heap[w.heap.size]?=some (.deferred<|some [])->Q .normal {a with defers:={target:=.collected w.heap.size,args:=#[]}::a.defers} W) :
  (Code.rangeFunc g ps assign body).wpIn F n P Q a w:=by
 refine wpIn_rangeFunc λfn UR=>?_
 rw[hro];have⟨L,hL⟩:∃L:LoopState->Loop,L=λst=>{state:=st,pending:=none,fn,tmps:=a.tmps,params:=ps,assign,body,defers:=w.heap.size}:=⟨_,rfl⟩
 have⟨W1,jf⟩:=xY <|(w.alloc<|.deferred<|some []).alloc (.loop<|L .ready);have gw:Below w.heap.size w W1:=by rw[jf];exact((zzD _ w).alloc (zzc _) _).alloc sE _
 have d_:W1.heap.size=w.heap.size+2:=by rw[jf];simp
 have fE:W1.heap[w.heap.size+1]?=some (.loop<|L .ready):=by
  rw[jf];have:=World.alloc_heap_new (w.alloc<|.deferred<|some [])<|.loop<|L .ready;rwa [zzv]at this
 have mF:W1.heap[w.heap.size]?=some (.deferred<|some []):=by
  rw[jf];exact(zzf _ _ _ sE).trans<|World.alloc_heap_new w _
 refine⟨w.heap.size+1,[{target:=.collected w.heap.size,args:=#[]}],W1,{target:=.fn (.func gf) lb,args:=#[.func (.yield<|w.heap.size+1) #[] #[]]},W1,gf,#[.func (.yield<|w.heap.size+1) #[] #[]]++lb,W1,?_,?_,?_,?_,λ_=>h1,?_⟩
 .rw[jf,hL];exact run_enterLoop_outer _ _ _ _ _
 .simp only[resolve,hg];simp[go_sem]
 .intro f' WB;simp[Target.leads]at WB;subst WB;exact UG
 .simp[invoke,go_sem,eg]
 refine(tI W1 gw d_ (λs A=>I s A/\A.heap[w.heap.size+1]?=some (.loop<|L .ready)/\A.heap[w.heap.size]?=some (.deferred<|some [])/\w.heap.size+2<=A.heap.size) ?_ ?_ ⟨hI0 W1 gw,fE,mF,oE⟩).mono ?_
 .rintro s A B ⟨i1,i2,i3,i4⟩ hb;rw[d_]at hb;exact⟨UQ s A B i1 hb,(hb.block _ oE).trans i2,(hb.block _ oE).trans i3,zzk i4 hb.size⟩
 .rintro pre x W ⟨i1,i2,i3,i4⟩ _ dM;have hy:=run_yield (P:=P) (args:=encs x) i2 (by rw[hL];exact zL x);rw[hL]at hy;refine⟨fn,_,assign,body,hy,roundIn_of_wpIn UR<|D0 pre x W _ i1 i4 dM λa' Wa ia ka xa=>?_⟩;have la:Wa.heap[w.heap.size+1]?=some (.loop<|L .ready):=(ka.high _ oE oE).trans i2;have da:Wa.heap[w.heap.size]?=some (.deferred<|some []):=(ka.high _ oE oE).trans i3;have lta:w.heap.size+1<Wa.heap.size:=(zza.1 la).1;obtain⟨Wb,H'⟩:∃Wb,Wb=Wa.putObj (w.heap.size+1) (.loop<|L .busy):=⟨_,rfl⟩;have lb':Wb.heap[w.heap.size+1]?=some (.loop<|L .busy):=by rw[H'];exact World.putObj_heap_same lta
  have db:Wb.heap[w.heap.size]?=some (.deferred<|some []):=by rw[H'];exact(World.putObj_heap_other oE).trans da
  have sb:Wb.heap.size=Wa.heap.size:=by rw[H'];simp
  refine⟨Wb,by rw[H'];have:=run_beginRound (P:=P) la (by rw[hL]);rw[hL]at this ⊢;exact this,?_⟩;apply wpIn_mono (QM pre x a' Wb (by rw[H'];exact hIl _ _ _ ia) (by rw[sb];omega) (by rw[H'];exact hAx _ _ _ _ xa) dM);rintro e a3 W3 ⟨rfl,i3',k3⟩;have l3:W3.heap[w.heap.size+1]?=some (.loop<|L .busy):=(k3.high _ oE oE).trans lb';have d3:W3.heap[w.heap.size]?=some (.deferred<|some []):=(k3.high _ oE oE).trans db;have lt3:w.heap.size+1<W3.heap.size:=(zza.1 l3).1;have xd:=run_endRound (P:=P) none l3;refine⟨_,_,xd,rfl,⟨hIl _ _ _ i3',?_,(World.putObj_heap_other oE).trans d3,by rw[fG];omega⟩,?_,?_,?_⟩
  .rw[World.putObj_heap_same lt3,hL];rfl
  .rw[fG];have:=ka.size;have:=k3.size;omega
  .intro k hk bP;rw[d_]at hk;rw[World.putObj_heap_other oE,k3.high k oE<|by have:=ka.size;omega,H',World.putObj_heap_other oE,ka.high k oE bP]
  .intro k hk bP;have hkw:=hS k hk;rw[World.putObj_heap_other oE,k3.same k hk<|by have:=ka.size;omega,H',World.putObj_heap_other oE,ka.same k hk bP]
 .rintro e W2 ⟨⟨v,rfl⟩,i1,i2,i3,i4⟩;have xd:=run_endLoop (P:=P) i2 (by rw[hL];simp);have hp:(L .ready).pending=none:=by rw[hL]
  rw[hp]at xd;refine⟨none,_,xd,?_⟩;exact CI _ (hIl _ _ _ i1) (by rw[fG];exact i4)<|(World.putObj_heap_other oE).trans i3
end
theorem mN{m':Nat}{P:Program}{args:Array Value}{W:World}{R:Ending->World->Prop}(h:YieldAt Fence.wide m P l args W R):YieldAt Fence.wide m' P l args W R:=by
 have⟨n,tmps,assign,body,y,a,b⟩:=h;exact⟨n,tmps,assign,body,y,a,λc cs _=>b c cs<|by intro d e;cases e⟩
theorem JE(n:Nat)(hn:1<=n)(l o t g y:Nat)(rs:List Rec)(hlen:rs.length<=1000000000)(J:List Rec->World->Prop)(W:World)
  (D:∀s A B,J s A->Below W.heap.size A B->J s B)
  (C:∀p x c,J p c->W.heap.size<=c.heap.size->p++[x]<+:rs->YieldAt Fence.wide (n-1) prog l #[FR x] c λe d=>e=.returned (.bool true)/\J (p++[x]) d/\mL W.heap.size [g] c d)
  (E:g<W.heap.size) (Z:W.cell? (dH o)=some (rM t)) (H:W.cell? (d8 t 3)=some (.slice (some<|dH g) rs.length y)) (z:w_ W g rs) (I:J [] W) :
  CallsIn Fence.wide n prog 110 #[.func (.yield l) #[] #[],rM o] W λe d=>(∃v,e=.returned v)/\J rs d:=by
 have⟨m,h⟩:=xY rs.length;rw[<-h]at H hlen;have M:=ae h;have G:Fence.wide.round=none:=rfl;clear h;refine callsIn_of_wp func110 rfl trivial ?_ G;simp only[ntmps110,mJ,zzr,mV,Nat.reduceAdd,Nat.reduceSub,m7,m8,n8,oS,p5,qS];gi_wp2;gi_loopw [10] (λi wr=>∃k:Nat,k<=m/\i=.int .i64 k/\Hid (J (rs.take k) wr/\pN [g] W wr))
  (λi _=>m-(intOf i).toNat)
 case atStart=>exact⟨0,zzs _,rfl,by simpa using I,pN.refl _⟩
 case round=>
  obtain⟨k,X,rfl,Q⟩:=hrel;by_cases V:k<m
  .obtain⟨r,hr⟩:∃r,rs[k]?=some r:=⟨_,zzg<|by have:=M.out;omega⟩;have q:=Q.2.same g sE E;have⟨w,u,f⟩:=z k r hr;have P:=(zze q).trans w;have K:=(zze q).trans u;have O:=(zze q).trans f;have⟨b,Y⟩:=xY <|wr.alloc (.cells #[.int .u64 (r.cQ:Int),.int .u8 (r.kind:Int),.string<|str r.pay] 82);have U:Below W.heap.size wr b:=by rw[Y];exact(zzD _ wr).alloc Q.2.size _
   have F:=D _ _ _ Q.1 U;have T:pN [g] W b:=Q.2.trans (pN.below U sC);have⟨L,tmps,assign,body,S,R⟩:=C _ r b F (zzk Q.2.size U.size) (by rw[<-lV hr];exact List.take_prefix _ _);subst Y;clear w u f q;gi_wp2;apply R.mono;rintro e j ⟨rfl,BS,kM⟩;have N:Hid (J (rs.take<|k+1) j/\pN [g] W j):=⟨by rw[lV hr];exact BS,T.trans ⟨kM.size,kM.same⟩⟩;clear BS kM
   gi_wp2;go_roundw;case rel=>exact⟨k+1,oE,sE,N.out⟩
   case measure=>simp[intOf];omega
  .obtain rfl:k=m:=oE;gi_wp2;go_end0;refine⟨⟨_,rfl⟩,?_⟩;have:=Q.1;rwa [M.out,List.take_length]at this
theorem aaR(n:Nat)(hn:1<=n)(l B p:Nat)(v:Value)(rs:List Rec)(hlen:rs.length<=1000000000)(W:World)(c:W.cell? (dH B)=some (rM p))(L:kc W p v rs):
  Ym Fence.wide n prog 110 #[rM B] (λx:Rec=>#[FR x]) rs (rowsOf v) l W:=λJ d Y h=>by
 have a:=L.cell;rcases L.recs with⟨rfl,rfl⟩|⟨g,e,rfl,b,r⟩
 .exact FT Fence.wide n trivial rfl l B p J W c a h
 .exact JE n hn l B p g e rs hlen J W d Y b c a r h
theorem NM(n:Nat)(p:Nat)(w:World):
  CallsIn Fence.wide n prog 154 #[rM p] w λe w'=>e=.returned (.func (.func 205) #[] #[rM w.heap.size])/\w'=w.alloc (.cells #[rM p] 146):=by
 refine callsIn_of_wp func154 rfl trivial ?_ rfl;simp only[ntmps154,mJ,zzr,mV,Nat.reduceAdd,Nat.reduceSub,m7,m8,n8,oS,p5,qS];gi_wp2;go_ret;exact⟨rfl,rfl⟩
end
end Go.Proofs.YtdcafjmdfpjcbaaGreatDoor
namespace Go.Proofs
open Go.Shelf
def Tryz.lays190_ren:Go.Shelf.Ren:=⟨fun | 190=>222 | 125=>240 | 258=>255 | 128=>277 | 129=>245 | 302=>284 | 303=>285 | 304=>286 | 305=>287 | 306=>288 | 307=>289 | 308=>290 | 309=>291 | 310=>292 | 333=>307 | 329=>297 | 330=>298 | 334=>308 | 335=>309 | 336=>310 | 344=>317 | n=>n,fun | 31=>138 | 9=>9 | 3=>3 | 46=>316 | 0=>0 | 51=>260 | 53=>34 | 4=>4 | 183=>383 | 182=>382 | 131=>222 | 5=>5 | 218=>401 | 222=>404 | 228=>415 | 229=>416 | n=>n,fun | n=>n⟩
theorem Tryz.lays190:Go.Proofs.Lays.n190 Tryz.prog Tryz.lays190_ren:={
 mixed:=by kernel_rfl
 f125:=Tryz.func240.trans (congrArg some (by kernel_rfl))
 f128:=Tryz.func277.trans (congrArg some (by kernel_rfl))
 f129:=Tryz.func245.trans (congrArg some (by kernel_rfl))
 f190:=Tryz.func222.trans (congrArg some (by kernel_rfl))
 f258:=Tryz.func255.trans (congrArg some (by kernel_rfl))
 f302:=Tryz.func284.trans (congrArg some (by kernel_rfl))
 f303:=Tryz.func285.trans (congrArg some (by kernel_rfl))
 f304:=Tryz.func286.trans (congrArg some (by kernel_rfl))
 f305:=Tryz.func287.trans (congrArg some (by kernel_rfl))
 f306:=Tryz.func288.trans (congrArg some (by kernel_rfl))
 f307:=Tryz.func289.trans (congrArg some (by kernel_rfl))
 f308:=Tryz.func290.trans (congrArg some (by kernel_rfl))
 f309:=Tryz.func291.trans (congrArg some (by kernel_rfl))
 f310:=Tryz.func292.trans (congrArg some (by kernel_rfl))
 f329:=Tryz.func297.trans (congrArg some (by kernel_rfl))
 f330:=Tryz.func298.trans (congrArg some (by kernel_rfl))
 f333:=Tryz.func307.trans (congrArg some (by kernel_rfl))
 f334:=Tryz.func308.trans (congrArg some (by kernel_rfl))
 f335:=Tryz.func309.trans (congrArg some (by kernel_rfl))
 f336:=Tryz.func310.trans (congrArg some (by kernel_rfl))
 f344:=Tryz.func317.trans (congrArg some (by kernel_rfl))
 t0:=Tryz.underlying0
 a0:=Tryz.isAgg0
 z0:=Tryz.sizeOf0
 v0:=Tryz.zeroValue0
 t3:=Tryz.underlying3
 a3:=Tryz.isAgg3
 z3:=Tryz.sizeOf3
 v3:=Tryz.zeroValue3
 t4:=Tryz.underlying4
 a4:=Tryz.isAgg4
 z4:=Tryz.sizeOf4
 v4:=Tryz.zeroValue4
 t5:=Tryz.underlying5
 a5:=Tryz.isAgg5
 z5:=Tryz.sizeOf5
 v5:=Tryz.zeroValue5
 t9:=Tryz.underlying9
 a9:=Tryz.isAgg9
 z9:=Tryz.sizeOf9
 v9:=Tryz.zeroValue9
 t31:=Tryz.underlying138
 a31:=Tryz.isAgg138
 z31:=Tryz.sizeOf138
 v31:=Tryz.zeroValue138
 t46:=Tryz.underlying316
 a46:=Tryz.isAgg316
 z46:=Tryz.sizeOf316
 v46:=Tryz.zeroValue316
 t51:=Tryz.underlying260
 a51:=Tryz.isAgg260
 z51:=Tryz.sizeOf260
 v51:=Tryz.zeroValue260
 t53:=Tryz.underlying34
 a53:=Tryz.isAgg34
 z53:=Tryz.sizeOf34
 v53:=Tryz.zeroValue34
 t131:=Tryz.underlying222
 a131:=Tryz.isAgg222
 z131:=Tryz.sizeOf222
 v131:=Tryz.zeroValue222
 t182:=Tryz.underlying382
 a182:=Tryz.isAgg382
 z182:=Tryz.sizeOf382
 v182:=Tryz.zeroValue382
 t183:=Tryz.underlying383
 a183:=Tryz.isAgg383
 z183:=Tryz.sizeOf383
 v183:=Tryz.zeroValue383
 t218:=Tryz.underlying401
 a218:=Tryz.isAgg401
 z218:=Tryz.sizeOf401
 v218:=Tryz.zeroValue401
 t222:=Tryz.underlying404
 a222:=Tryz.isAgg404
 z222:=Tryz.sizeOf404
 v222:=Tryz.zeroValue404
 t228:=Tryz.underlying415
 a228:=Tryz.isAgg415
 z228:=Tryz.sizeOf415
 v228:=Tryz.zeroValue415
 t229:=Tryz.underlying416
 a229:=Tryz.isAgg416
 z229:=Tryz.sizeOf416
 v229:=Tryz.zeroValue416 }
open Go.Sort Go.RowKit in
theorem Tryz.slices_Sort_string (blk off cap:Nat) (ss:List (List UInt8)) (w:World) (hH:Holds encStr w blk off ss.toArray) (hblk:blk<w.heap.size) (hsz:ss.length<4611686018427387904) :
  Calls Tryz.prog 222 #[.slice (some ⟨blk,off,none⟩) ss.length cap] w fun e w' =>
   e=.returned (.tuple #[])∧∃ n os,w'=grow (putRow encStr (Sort.ahead w n) blk off (ss.mergeSort fun x y=>decide (x≤y)).toArray) os:=Any.slices_Sort_string Tryz.lays190 blk off cap ss w hH hblk hsz
open Go.RowKit Go.Sort in
theorem Tryz.slices_Sort_string_none (p:Option Addr) (cap:Nat) (w:World) :
  Calls Tryz.prog 222 #[.slice p 0 cap] w fun e w'=>e=.returned (.tuple #[])∧w'=w:=Any.slices_Sort_string_none Tryz.lays190 p cap w
def Tryz.keysG_ren:Go.Shelf.Ren:=⟨fun | 7=>258 | 10=>293 | n=>n,fun | 23=>303 | 26=>9 | 3=>287 | 28=>278 | 0=>0 | 27=>277 | 33=>335 | 4=>4 | n=>n,fun | n=>n⟩
theorem Tryz.keysG:Go.Proofs.SlLaysZ.n7 Tryz.prog Tryz.keysG_ren:={
 mixed:=by kernel_rfl
 f7:=⟨Tryz.f258.name,by decide,Tryz.func258.trans (congrArg some (by kernel_rfl))⟩
 f10:=⟨Tryz.f293.name,by decide,Tryz.func293.trans (congrArg some (by kernel_rfl))⟩
 t0:=Tryz.underlying0
 a0:=Tryz.isAgg0
 z0:=Tryz.sizeOf0
 v0:=Tryz.zeroValue0
 t4:=Tryz.underlying4
 a4:=Tryz.isAgg4
 z4:=Tryz.sizeOf4
 v4:=Tryz.zeroValue4
 t23:=Tryz.underlying303
 a23:=Tryz.isAgg303
 z23:=Tryz.sizeOf303
 v23:=Tryz.zeroValue303
 t26:=Tryz.underlying9
 a26:=Tryz.isAgg9
 z26:=Tryz.sizeOf9
 v26:=Tryz.zeroValue9
 t27:=Tryz.underlying277
 a27:=Tryz.isAgg277
 z27:=Tryz.sizeOf277
 v27:=Tryz.zeroValue277
 t28:=Tryz.underlying278
 a28:=Tryz.isAgg278
 z28:=Tryz.sizeOf278
 v28:=Tryz.zeroValue278
 t33:=Tryz.underlying335
 a33:=Tryz.isAgg335
 z33:=Tryz.sizeOf335
 v33:=Tryz.zeroValue335 }
def Tryz.keysV_ren:Go.Shelf.Ren:=⟨fun | 7=>174 | 10=>223 | n=>n,fun | 23=>143 | 26=>9 | 3=>9 | 28=>278 | 0=>0 | 27=>277 | 33=>335 | 4=>4 | n=>n,fun | n=>n⟩
theorem Tryz.keysV:Go.Proofs.SlLaysZ.n7 Tryz.prog Tryz.keysV_ren:={
 mixed:=by kernel_rfl
 f7:=⟨Tryz.f174.name,by decide,Tryz.func174.trans (congrArg some (by kernel_rfl))⟩
 f10:=⟨Tryz.f223.name,by decide,Tryz.func223.trans (congrArg some (by kernel_rfl))⟩
 t0:=Tryz.underlying0
 a0:=Tryz.isAgg0
 z0:=Tryz.sizeOf0
 v0:=Tryz.zeroValue0
 t4:=Tryz.underlying4
 a4:=Tryz.isAgg4
 z4:=Tryz.sizeOf4
 v4:=Tryz.zeroValue4
 t23:=Tryz.underlying143
 a23:=Tryz.isAgg143
 z23:=Tryz.sizeOf143
 v23:=Tryz.zeroValue143
 t26:=Tryz.underlying9
 a26:=Tryz.isAgg9
 z26:=Tryz.sizeOf9
 v26:=Tryz.zeroValue9
 t27:=Tryz.underlying277
 a27:=Tryz.isAgg277
 z27:=Tryz.sizeOf277
 v27:=Tryz.zeroValue277
 t28:=Tryz.underlying278
 a28:=Tryz.isAgg278
 z28:=Tryz.sizeOf278
 v28:=Tryz.zeroValue278
 t33:=Tryz.underlying335
 a33:=Tryz.isAgg335
 z33:=Tryz.sizeOf335
 v33:=Tryz.zeroValue335 }
def Tryz.sortedS_ren:Go.Shelf.Ren:=⟨fun | 6=>173 | 8=>221 | 9=>222 | 11=>254 | 13=>240 | 12=>255 | 23=>277 | 24=>245 | 14=>284 | 15=>285 | 16=>286 | 17=>287 | 18=>288 | 19=>289 | 20=>290 | 21=>291 | 22=>292 | 25=>307 | 26=>297 | 27=>298 | 28=>308 | 29=>309 | 30=>310 | 31=>317 | n=>n,fun | 26=>9 | 28=>278 | 24=>138 | 0=>0 | 3=>3 | 37=>316 | 48=>260 | 50=>34 | 4=>4 | 40=>383 | 39=>382 | 45=>222 | 5=>5 | 9=>9 | 51=>401 | 55=>404 | 57=>415 | 58=>416 | 33=>335 | n=>n,fun | n=>n⟩
theorem Tryz.sortedS:Go.Proofs.SlLaysZ.n6 Tryz.prog Tryz.sortedS_ren:={
 mixed:=by kernel_rfl
 f6:=⟨Tryz.f173.name,by decide,Tryz.func173.trans (congrArg some (by kernel_rfl))⟩
 f8:=⟨Tryz.f221.name,by decide,Tryz.func221.trans (congrArg some (by kernel_rfl))⟩
 f11:=⟨Tryz.f254.name,by decide,Tryz.func254.trans (congrArg some (by kernel_rfl))⟩
 t0:=Tryz.underlying0
 a0:=Tryz.isAgg0
 z0:=Tryz.sizeOf0
 v0:=Tryz.zeroValue0
 t24:=Tryz.underlying138
 a24:=Tryz.isAgg138
 z24:=Tryz.sizeOf138
 v24:=Tryz.zeroValue138
 t26:=Tryz.underlying9
 a26:=Tryz.isAgg9
 z26:=Tryz.sizeOf9
 v26:=Tryz.zeroValue9
 t28:=Tryz.underlying278
 a28:=Tryz.isAgg278
 z28:=Tryz.sizeOf278
 v28:=Tryz.zeroValue278
 i26:=by kernel_rfl }
end Go.Proofs
