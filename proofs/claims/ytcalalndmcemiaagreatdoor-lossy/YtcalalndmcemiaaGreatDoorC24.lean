import Derived.Test.YtcalalndmcemiaaGreatDoorC21
import Derived.Test.YtcalalndmcemiaaGreatDoorC19
set_option maxHeartbeats 8000000
set_option maxRecDepth 100000
namespace Go.Proofs.YtcalalndmcemiaaGreatDoor
open Go.RowKit Go.Maps Tryz Sc
section
open Go.Sort
section
variable{s:ag}{R:Fb}
def sM.ready(x:sM):sM:=⟨x.id,3,x.ops,x.Zp,x.pq⟩
def Fb.gQ(R:Fb)(t:Nat):Fb × Nat × Nat :=
 if t=0 then (R,0,7) else
 match PO R.ai t with
 |none=>(R,3,0)
 |some x=>if x.st=3 then (R,2,0) else if x.st=2 then (⟨R.table,del R.ai t⟩,3,0) else if x.pq.any (·.wr)=true then (⟨R.table,upd R.ai x.ready⟩,2,0) else (⟨R.table,del R.ai t⟩,4,0)
def sM.aa0(x:sM):Option sM:=if x.st=3 then some x else if x.Zp+1=16 then none else some ⟨x.id,x.st,x.ops,x.Zp+1,x.pq⟩
def Fb.tick(R:Fb):Fb:=⟨R.table,R.ai.filterMap sM.aa0⟩
end
end
section
open Go.Shelf
variable{a:Act}{w:World}
section
variable{P:Program}{ops:Array Oper}{Q:Exit->Act->World->Prop}{l n:Nat}
theorem LO{o:Oper}{a:Act}{w:World}{K:Act->World->Prop}(e:∀c,o.op≠.defer c)(h:o.wp P a w K Q):o.wpIn (Fence.wide.inRound l) n P a w K Q:=by
 refine⟨λ_ _=>trivial,?_⟩;rw[Oper.semAt_eq _ _ _ e];unfold Oper.wp at h;generalize (execOp a.eval o).run P w=r at *
 cases r with
 |ok x w' =>
  cases x<;>simp only[Oper.upon,Oper.uponIn] at h ⊢
  case value=>exact h
  case skip=>exact h
  case defer=>exact h
  case enter f args=>exact⟨λb=>(by cases b),CallsIn.inRound l (callsIn_wide.2 h)⟩
  case row row args=>exact⟨λb=>(by cases b),λc d _=>let ⟨v,w',r,s⟩:=h c d;⟨v,w',r,stepsIn_wide.2 s⟩⟩
 |halt x w'=>cases x<;>simp only[Oper.upon,Oper.uponIn] at h ⊢ <;> exact h
theorem Tn{i:Nat}{a:Act}{w:World}{K:Act->World->Prop}(e:∀o,ops[i]?=some o->∀c,o.op≠.defer c)(L:¬LetsOut Q)(h:wpOp P ops Q i K a w):wpOpIn (Fence.wide.inRound l) n P ops Q i K a w:=by
 unfold wpOp at h;unfold wpOpIn
 cases b:ops[i]? with
 |none=>rw[b] at h;exact h
 |some o =>
  rw[b] at h;simp only at h ⊢;by_cases d:Region.wanted o (yielded ops a.tmps)=true
  .rw[if_pos d] at h ⊢;rcases h with h|h
   .exact LO (e o b) h
   .exact absurd h.2 L
  .rw[if_neg d] at h ⊢;exact⟨λ_ _=>trivial,h⟩
theorem Fc(d:∀(i:Nat) o,ops[i]?=some o->∀c,o.op≠.defer c)(L:¬LetsOut Q):∀(fuel:Nat) (listed:Array Bool) (a:Act) (w:World),wpAny P .any ops Q fuel listed a w->wpAnyIn (Fence.wide.inRound l) n P .any ops Q fuel listed a w
 |0,_,_,_,h=>h
 |fuel+1,_,_,_,h=>⟨h.1,λi f=>wpOpIn_mono (λb w' e=>Fc d L fuel _ b w' e) (Tn (d i) L (h.2 i f))⟩
def Fe(ops:Array Oper):Bool:=ops.toList.all λo=>match o.op with|.defer _=>false|_=>true
theorem Ff(h:Fe ops=true):∀(i:Nat) o,ops[i]?=some o->∀c,o.op≠.defer c:=by
 intro i o b c a;have:=List.all_eq_true.1 h o (zzh (i:=i) (by simpa using b));rw[a] at this
 cases this
theorem fT{S:World->Prop}{id:Nat}{a:Act}{w:World}(m:P.follows .mixedOrders=true)(d:Fe ops=true)(L:¬LetsOut Q)(b:S w.drew)
  (h:S w.drew->wpAnyH P .any ops Q S ops.size (Array.replicate ops.size false) a w.drew):(Code.region id ops true).wpIn (Fence.wide.inRound l) n P Q a w :=
 wpIn_region_any m (Fc (Ff d) L _ _ _ _ (wpAny_of_held _ _ _ _ (h b)))
end
end
abbrev Gb:ag:=⟨[],[],[],0⟩
def ShP0(B p D N n:Nat)(R:au × ah × Nat)(w:World)(e:Ending)(w':World):Prop :=
 ∃s g V T H l,e=.returned (.tuple #[.pointer (some ⟨s,0,none⟩),.nilIface])/\SL w' B s g V T H 0 l p D N n Gb R.1 R.2.1/\(w.heap.size<=s/\w.heap.size<=V/\w.heap.size<=T/\w.heap.size<=H/\w.heap.size<=g)/\rD p [] w w'
theorem shOpen_0(B p D N n:Nat)(R:au×ah×Nat)(w:World)(y:R.1.recs=[])(a:∃v d i l,ax w B p D N v d n i l)(g:∀W,Fr [] w W->Calls prog 78 #[dX p] W (mg B p D N n R W))(u:jS R.1.recs R.1.next=1):
  Calls prog 79 #[dX p] w (ShP0 B p D N n R w):=by
 have M:=@run_makeMap prog;have⟨v,d,i,l,a⟩:=a;have T:=a.base;have X:=a.now.lt;have E:=a.rz.lt;have⟨W,h⟩:=gb <|(((w.alloc<|.map #[] 0).alloc<|.map #[] 0).alloc<|.map #[] 0).alloc (Zk 0 w.heap.size (w.heap.size+1) (w.heap.size+1+1) 0);have gF:Fr [] w W:=by rw[h];exact((((lT w).alloc _).alloc _).alloc _).alloc _
 have L:W.heap.size=w.heap.size+4:=by rw[h];simp
 have j:a_ W (w.heap.size+1+1+1) 0 w.heap.size (w.heap.size+1) (w.heap.size+1+1) 0 Gb:=by
  refine {blk:=?_,aM:=?_,ai:=?_,holds:=?_,ne:=⟨bL,bL,bL⟩,aC:=bM}
  .rw[h];have:=heap_alloc_new (((w.alloc<|.map #[] 0).alloc<|.map #[] 0).alloc<|.map #[] 0)<|Zk 0 w.heap.size (w.heap.size+1) (w.heap.size+1+1) 0;rwa [zzv,zzv,zzv]at this
  .rw[h];exact(((aO.made w).fr ((lT _).alloc _) bR).fr ((lT _).alloc _) bR).fr ((lT _).alloc _) bR
  .rw[h];have:=aO.made (KR:=KU) (ER:=ET)<|w.alloc<|.map #[] 0;rw[zzv]at this;exact(this.fr ((lT _).alloc _) bR).fr ((lT _).alloc _) bR
  .rw[h];have:=aO.made (KR:=KH) (ER:=EG)<|(w.alloc<|.map #[] 0).alloc<|.map #[] 0;rw[zzv,zzv]at this;exact this.fr ((lT _).alloc _) bR
 have m:=led0 B p D N n 125 (w.heap.size+1+1+1) R y W ⟨_,_,_,_,a.new gF⟩ (λr q=>g r<|gF.trans q) u;have F:=af<|zzb gF a;have I:=af j;clear gF a j g
 go_enter func79,ntmps79;go_wp2_with fail;have O:W=(((w.alloc<|.map #[] 0).alloc<|.map #[] 0).alloc<|.map #[] 0).alloc (.cells #[.pointer none,.map<|some w.heap.size,.map<|some<|w.heap.size+1,.map<|some<|w.heap.size+1+1,.int .u64 0] 139):=h;rw[<-O];clear h O;apply m.mono;clear m;rintro e f ⟨gp,lp,rfl,⟨j9,qc,m_,lC,lu,dY⟩,nA,CM,kg⟩;have J:=I.out.blocks (λk b=>by
  have o:=F.2.new F.1;have K:=I.out.eY;simp at b;obtain rfl|rfl|rfl|rfl:=b
  .exact kg.block _ bL (o.iF I.out.blk bM bM) bR
  .exact kg.block _ bL (o.ub I.out.aM.isMap bL bL) bR
  .exact kg.block _ bL (o.ub I.out.ai.isMap bL bL) bR
  .exact kg.block _ bL (o.ub I.out.holds.isMap bL bL) bR)
 have s:=ae J.blk 0;have x:=aj J.blk 0;simp at s x;have⟨c,O⟩:∃c,c=f.setCell ⟨w.heap.size+1+1+1,0,none⟩ (.pointer<|some ⟨gp,0,none⟩):=⟨_,rfl⟩;have Q:Fr [w.heap.size+1+1+1] f c:=by rw[O];exact Fr.cD bR _ _
 have P:1<=gp:=bL;have Z:c.heap[w.heap.size+1+1+1]?=some (Zk gp w.heap.size (w.heap.size+1) (w.heap.size+1+1) 0):=by
  have:=ar J.blk 0<|.pointer<|some (gz gp);simp at this;rw[O];unfold Zk;rw[dE P];exact this
 have A:gp≠w.heap.size+1+1+1:=bL;have S:Hid (SL c B (w.heap.size+1+1+1) gp w.heap.size (w.heap.size+1) (w.heap.size+1+1) 0 lp p D N n Gb R.1 R.2.1/\rD p [] w c):=by
  have H:=J;refine⟨⟨{blk:=Z,aM:=H.aM.fr Q cE,ai:=H.ai.fr Q bR,holds:=H.holds.fr Q bR,ne:=H.ne,aC:=H.aC},⟨j9,qc,m_,lC,lu,dY.apart Q λk b _=>?_⟩,{ju:=(Q.block gp (zza.1 nA).1<|by simpa using A).trans nA,ne:=⟨bL,bL,bL,bL,bL,bL⟩},P⟩,?_⟩
  .simp at b;subst b;exact⟨dY.free J.blk bM bM bM bM bM,λt e=>by rw[J.blk]at e;cases e⟩
  .have cu:=F.1;have G:=F.2;refine⟨Q.os.trans<|kg.os.trans cu.os,Q.tape.trans<|kg.tape.trans cu.tape,Q.output.trans<|kg.output.trans cu.output,by have:=Q.size;have:=kg.size;omega,λk b z _=>?_⟩;rw[Q.block k (by have:=kg.size;omega) cE,kg.block k bL (λC=>z<|(G.l8 k).2<|((G.new cu).l8 k).1 C) bR,cu.block k b bR]
 clear J dY nA kg Q Z;go_wp2;rw[<-O];go_ret2;exact⟨w.heap.size+1+1+1,gp,w.heap.size,w.heap.size+1,w.heap.size+1+1,lp,rfl,S.1,⟨bL,bL,bL,bL,bL⟩,S.2⟩
structure HFs(B:Nat)(w w':World):Prop where
 below:Below B w w'
 ac':∀(k:Nat) (a b c d:Int),w.heap[k]?=some (gi a b c d)->w'.heap[k]?=some (gi a b c d)
section
variable{w w':World}{B J Z I G E m m' h p O U n n':Nat}{s s':ag}{l g:au}{d f:ah}
theorem pO.cells(hf:pO J I G E h p w w')(b:SL w B J Z I G E m h p O U n s l d){k:Nat}{c:Array Value}{t:TypeId}(a:w.heap[k]?=some (.cells c t (0,0)))(g:t≠96)(i:t≠182)(j:t≠222)(o:t≠43)(q:t≠110)(r:t≠139):w'.heap[k]?=some (.cells c t (0,0)):=by
 obtain⟨v,y,x,D,N,u⟩:=b.lg;refine(hf.block k (zza.1 a).1 (u.free a g i j o q) ?_).trans a;intro f;simp at f;rcases f with e|e|e|e
 .rw[e,b.sh.blk] at a;cases a;exact r rfl
 .obtain⟨es,c2,e2⟩:=b.sh.aM.isMap;rw[e,e2] at a;cases a
 .obtain⟨es,c2,e2⟩:=b.sh.ai.isMap;rw[e,e2] at a;cases a
 .obtain⟨es,c2,e2⟩:=b.sh.holds.isMap;rw[e,e2] at a;cases a
theorem pO.gF(hf:pO J I G E h p w w')(f:SL w B J Z I G E m h p O U n s l d)(hb:B<=J/\B<=I/\B<=G/\B<=E):HFs B w w':=by
 obtain⟨v,i,r,D,N,g⟩:=f.lg;refine⟨⟨hf.os,hf.tape,hf.output,hf.size,λk e=>hf.block k (zzl e g.bq.base.2.2.2) (λo=>by have:=g.ge o;omega) (by simp;omega)⟩,λk a b c x e=>hf.cells f e (by decide) (by decide) (by decide) (by decide) (by decide) (by decide)⟩
theorem SL.bQ(c:SL w B J Z I G E m h p O U n s l d)(a b:Int)(hf:Fr [p] w w'){v:Value}(hb:w'.heap[p]?=some (gv O U v a b d.down))(H:w.heap[p]?=some (gv O U v d.left d.full d.down)):
  SL w' B J Z I G E m h p O U n s l (d.bQ a b)/\pO J I G E h p w w':=by
 obtain⟨j,k,r,D,N,f⟩:=c.lg;have e:j=v:=by have:=f.bq.blk;rw[H] at this;cases this;rfl
 subst e;obtain⟨g,i⟩:=f.bQ a b hf hb;exact c.log i ⟨_,_,_,_,_,g⟩
end
theorem HFs.met{B:Nat}{w w':World}(h:HFs B w w')(a:2<=B)(m:Met w):Met w':=m.below h.below (by omega)
section
open Go.Shelf
abbrev PJ(x:ByteArray × ByteArray):List Value:=[.string x.1,.string x.2]
def nn(l:List (ByteArray × ByteArray)):List Value:=l.flatMap PJ
theorem E9(l:List<|ByteArray×ByteArray)(x:ByteArray×ByteArray):nn (l++[x])=nn l++PJ x:=by simp[nn]
theorem PK:(Tryz.prog.info? 164).map (λi=>(i.zero,i.size,i.bytes))=some (some<|.agg #[.string ByteArray.empty,.string ByteArray.empty],2,32):=dJ
theorem XA(v:Array Value)(w:World):(binOp .eql 218 (.func (.func 207) #[] v) .nilFunc).run prog w=.ok (.bool false) w:=dJ
theorem Te(p:Option Addr)(n c:Nat)(w:World):(Builtin.len_ #[159] 3 #[.slice p n c]).run prog w=.ok (.int .i64 n) w:=by simp[Builtin.len_,run_underlying underlying159,goInt]
theorem XB(n:Nat)(hn:1<=n)(p lg V T H m:Nat)(s:ag)(w:World)(h:a_ w p lg V T H m s):
  CallsIn Fence.wide n prog 118 #[.pointer<|some ⟨p,0,none⟩] w λe w'=>e=.returned (.func (.func 207) #[] #[.pointer<|some ⟨w.heap.size,0,none⟩])/\w'=w.alloc (.cells #[.map<|some V] 135):=by
 have c1:=ae h.blk 1;simp at c1;have j:=x_ (n-1) V w;have Q:Fence.wide.fn 160:=trivial;refine callsIn_of_wp func118 rfl trivial ?_ rfl;simp only[ntmps118,mB,zzr,mH,Nat.reduceAdd,Nat.reduceSub,mK,mL,nb,nU,n5,qC];gi_wp2_with fail;apply j.mono;rintro e a ⟨rfl,rfl⟩;gi_wp2;go_ret;exact⟨rfl,rfl⟩
def kB{L:List (ByteArray × ByteArray)}(e:List { x:ByteArray × ByteArray // x∈cX L }):List (ByteArray × ByteArray):=e.map (·.1)
theorem E_{L:List (ByteArray×ByteArray)}(e:List {x:ByteArray×ByteArray//x∈cX L})(x:{x:ByteArray×ByteArray//x∈cX L}):kB (e++[x])=kB e++[x.1]:=by simp[kB]
theorem LM(n:Nat)(hn:9<=n)(d i lg V Z U m:Nat)(s:ag)(w:World)(o:Array Value)(ho:o[5]?=some (.pointer (some ⟨i,0,none⟩)))(C:w.heap[d]?=some (.cells o 79 (0,0)))(h:a_ w i lg V Z U m s)(hm:m<=67108864):
  CallsIn Fence.wide n prog 76 #[.pointer (some ⟨d,0,none⟩),.int .i64 0] w λe w'=>∃v,e=.returned (.tuple #[v,.bool true])/\w'.ownsRow w.heap.size 164 2 v (cX s.aM).length (nn (cX s.aM))/\Below w.heap.size w w':=by
 have a1:Fence.wide.round=none:=rfl;have j:1<=n:=bL;have aQ:Fence.wide.fn 118:=trivial;have dz:Fence.wide.fn 207:=trivial;obtain⟨i0,hi,a7,a8,aa⟩:=info_parts PK;obtain⟨f,G⟩:∃f,f=w.alloc (.cells #[.int .i64 0] 3):=⟨_,rfl⟩;have E:Below w.heap.size w f:=by rw[G];exact(zzD _ w).alloc (zzc _) _
 have df:f.heap.size=w.heap.size+1:=by rw[G];simp
 have Y:Boxed f w.heap.size 3 (.int .i64 0):=by rw[G];exact Boxed.new w _ _
 have N:=(E.block d (zza.1 C).1).trans C;have J:=h.fr (Fr.aX E []) bR bR bR bR;have c5:=(ae N 5).trans ho;have T:=XB (n-1) bL i lg V Z U m s f J;have H:=af J.aM;have ao:=XA;clear h J C N;rw[G] at c5;refine callsIn_of_wp_marks func76 rfl trivial ?_ a1;simp only[ntmps76,mB,zzr,mH,Nat.reduceAdd,Nat.reduceSub,mK,mL,nb,nU,n5,qC]
 gi_wp2_with (gi_at_call 118;rw[<-G];refine T.mono ?_;rintro e w2 ⟨rfl,rfl⟩)
 rw[<-G];have al:=Te;obtain⟨g,O⟩:∃g,g=f.alloc (.cells #[.map (some V)] 135):=⟨_,rfl⟩;obtain⟨b,F⟩:∃b,b=g.alloc (.cells #[.slice none 0 0] 159):=⟨_,rfl⟩;rw[<-O,<-F];have dT:g.heap.size=w.heap.size+2:=by rw[O,zzv,df]
 have av:b.heap.size=w.heap.size+3:=by rw[F,zzv,dT]
 have bA:Boxed b (w.heap.size+1) 135 (.map (some V)):=by
  rw[F];have:=Boxed.new f 135 (.map (some V));rw[df,<-O] at this;exact this.alloc _
 have S:Boxed b (w.heap.size+1+1) 159 (.slice none 0 0):=by
  have:=Boxed.new g 159 (.slice none 0 0);rw[dT,<-F] at this;exact this
 have a6:Boxed b w.heap.size 3 (.int .i64 0):=by rw[F,O];exact(Y.alloc _).alloc _
 have wM:Below w.heap.size w b:=by rw[F,O];exact(E.alloc bL _).alloc cE _
 have Cq:aO KS ES b V m s.aM:=by rw[F,O];exact(H.out.fr ((lT _).alloc _) bR).fr ((lT _).alloc _) bR
 have UM:s.aM.length<=67108864:=by have j:=H.out.len;omega
 clear F O G Y T c5 E H
 refine wpIn_rangeFunc_ownH a1 j (gf:=207) (lb:=#[.pointer (some ⟨w.heap.size+1,0,none⟩)]) rfl dz (enters_of func207 dJ rfl)
  (z_ (n-1) bL (w.heap.size+1) V m s.aM (λx=>x∈cX s.aM) (λx hx=>hx) hm b bL bA.cell Cq (xU 9 9 w.heap.size (w.heap.size+1+1)) (λk A=>¬D9 (w.heap.size+1+1) A k)
   (λW k A hW _ r K=>by
    obtain⟨v,e1,e2⟩:=K;have j:A.cell? ⟨w.heap.size+1+1,0,none⟩=b.cell? ⟨w.heap.size+1+1,0,none⟩:=(r.cell (p:=⟨w.heap.size+1+1,0,none⟩) (by have:=hW.size;show w.heap.size+1+1<_;omega)).trans (hW.cell (p:=⟨w.heap.size+1+1,0,none⟩) (by show w.heap.size+1+1<_;omega));rw[j,S.cell] at e1
    cases e1
    cases e2)
   (λk A B c t ht hk r hn=>⟨hk.same k c t ht r hn,λK=>hn (hk.stay k (zza.1 r).1 K)⟩))
  (λh k=>h.trans k) (xU.book bL bL) (zzD _ _) (λ_=>rfl)
  (λa W=>((∃v,Boxed W (w.heap.size+1+1) 159 v/\W.ownsRow w.heap.size 164 2 v (kB a).length (nn (kB a))/\True)/\Boxed W w.heap.size 3 (.int .i64 0))/\Below w.heap.size w W)
  (λ_ _ _=>False)
  (OwnFrom.and (OwnFrom.and (Own.from (holdsRow_own w.heap.size (w.heap.size+1+1) 159 164 2 (λa:List { x:ByteArray × ByteArray // x∈cX s.aM }=>(kB a).length) (λa=>nn (kB a)) (λ_ _=>True)) _) (Own.from (boxed_own _ _ _) _)) (ownFrom_below (zzc _) bL))
  (λ_ _ _ _ _ hs _ _=>hs)
  ⟨⟨⟨_,S,zzu _ _ _ _,trivial⟩,a6⟩,wM⟩
  (λx y W=>y={ tmps:=#[.pointer (some ⟨d,0,none⟩),.int .i64 0,undef,.pointer (some ⟨w.heap.size,0,none⟩),.slice none 0 0,.bool false,.func (.func 207) #[] #[.pointer (some ⟨w.heap.size+1,0,none⟩)],.pointer (some ⟨w.heap.size+1+1,0,none⟩),.string x.1.1,.string x.1.2,.pointer (some ⟨d,0,none⟩),.pointer (some ⟨d,0,none⟩),.pointer (some ⟨d,5,none⟩),.pointer (some ⟨i,0,none⟩),.bool false,.pointer (some ⟨d,0,none⟩),.pointer (some ⟨d,0,none⟩),.pointer (some ⟨d,5,none⟩),.pointer (some ⟨i,0,none⟩),.func (.func 207) #[] #[.pointer (some ⟨w.heap.size+1,0,none⟩)],.func (.func 207) #[] #[.pointer (some ⟨w.heap.size+1,0,none⟩)],.bool false,.func (.func 207) #[] #[.pointer (some ⟨w.heap.size+1,0,none⟩)],.string x.1.1,.string x.1.2,undef,undef,undef,undef,undef,undef,undef,undef,undef,undef,undef],defers:=[] })
  (λx y _ X ad row hs _ _=>hs)
  ?assign ?body ?done ?stop
 case assign =>
  have jE:=@Oper.semAt_some;rintro l a x W ab ⟨⟨⟨v,hv,aI,_⟩,pE⟩,E⟩ hK
  gi_wp2
  exact hK _ _ (KeepsFrom.refl _ _) (xU.refl _) ⟨⟨⟨v,hv,aI,trivial⟩,pE⟩,E⟩ rfl
 case body =>
  have jE:=@Oper.semAt_some;rintro l a x y W eh _ ⟨⟨⟨v,hv,aI,_⟩,pE⟩,hB⟩ rfl bU;have hc:=hv.cell;have il:(kB a).length=a.length:=by unfold kB;rw[zzn]
  have HW:=af (E_ a x);have su:(kB a).length<67108864:=bL;clear il;obtain⟨q,I⟩:∃q,q=(kB a).length:=⟨_,rfl⟩;have HQ:=af I;rw[<-I] at aI su;clear I;have iq:¬((q:Int)+1=0):=bL;gi_wp2_with (gi_at_builtin;refine mi _ rfl _ _ 159 rfl w.heap.size 164 i0 _ 2 32 underlying159 hi a7 a8 aa rfl bM _ _ _ rfl (aI.alloc _) ⟨W.heap.size,0,none⟩ 1 1 [.string x.1.1,.string x.1.2] rfl rfl (dU _ #[.string x.1.1,.string x.1.2] _) (by intro u hu;simp at hu;rcases hu with rfl|rfl<;>rfl) eA bL (by have:=hB.size;simp;omega) ?_;intro v' M bw P eW;obtain⟨z,R,rfl⟩:=ownsRow_succ bw;obtain⟨yg,L,UU,tP,cZ⟩:=hv.appended bM aI hB.size bL bw P;have iX:=yg.cell;have bh:=yg.frozen;have ef:=L.cell;have dY:Boxed (M.setCell ⟨w.heap.size+1+1,0,none⟩ (.slice (some ⟨z,0,none⟩) (q+1) R)) w.heap.size 3 (.int .i64 0):=(Below.heap_setCell _ _ _ w.heap.size (by show w.heap.size≠w.heap.size+1+1;omega)).trans ((P.block w.heap.size (by have:=pE.lt;simp;omega) (pE.not_row bM aI)).trans ((zzf _ _ _ pE.lt).trans pE));have an:=dY.cell;have Q:Hid (xU 9 9 w.heap.size (w.heap.size+1+1) W (M.setCell ⟨w.heap.size+1+1,0,none⟩ (.slice (some ⟨z,0,none⟩) (q+1) R))/\KeepsOthers W (M.setCell ⟨w.heap.size+1+1,0,none⟩ (.slice (some ⟨z,0,none⟩) (q+1) R))):=⟨xU.appended hv bM bM P eW cZ L,tP⟩;clear eW)
  refine⟨Q.2.from _,Q.1,⟨⟨_,L,?_,trivial⟩,dY⟩,hB.trans cZ⟩;rw[HW.out,E9,zzi,<-HQ.out];exact UU
 case done =>
  rintro D ys W hD G5 ⟨⟨⟨v,hv,aI,_⟩,pE⟩,hB⟩ hK;have hc:=hv.cell;have HE:Hid (kB ys=cX s.aM):=by show _=_;unfold kB;exact G5
  gi_wp2
  refine⟨bR,.inl ⟨_,_,rfl,run_takeDeferred hK,?_⟩⟩;rw[HE.out] at aI;refine⟨.tuple #[v,.bool true],?_,v,rfl,ownsRow_putObj aI _ hK rfl,hB.trans (belowK_b (w:=w) (zzc _) W D _ _ bL hK rfl rfl)⟩;simp only[results,f76];simp[go_sem]
 case stop =>
  rintro D c a W _ _ h _;exact h.elim
end
theorem rj{α:Type}{f:α->List Value}{k:Nat}(a:∀x,(f x).length=k):∀(l:List α) (i:Nat) (x:α),l[i]?=some x->∀j,j<k->(l.flatMap f)[i*k+j]?=(f x)[j]?
 |[],i,x,h,_,_=>by simp at h
 |y :: l,0,x,h,j,hj=>by
  simp at h;subst h;rw[List.flatMap_cons,Nat.zero_mul,Nat.zero_add,List.getElem?_append_left (by rw[a];exact hj)]
 |y :: l,i+1,x,h,j,hj=>by
  simp at h;have e:(i+1)*k+j=k+(i*k+j):=by rw[Nat.add_mul,Nat.one_mul];omega
  rw[List.flatMap_cons,e,List.getElem?_append_right (by rw[a];omega),a,Nat.add_sub_cancel_left];exact rj a l i x h j hj
theorem dC{w:World}{base:Nat}{e:TypeId}{size n:Nat}{v:Value}{xs:List Value}(h:w.ownsRow base e size v n xs){g c m:Nat}(b:v=.slice (some ⟨g,0,none⟩) m c){j:Nat}{u:Value}(a:xs[j]?=some u):w.cell? ⟨g,j,none⟩=some u:=by
 have:=h.cells (g:=g) (by rw[b];rfl) j u a;have e:(⟨g,0,none⟩:Addr).add j=⟨g,j,none⟩:=by unfold Addr.add;split<;>simp_all
 rw[e] at this;exact this
structure Bs where
 b:Nat
 ok:Nat->Prop:=λ_=>True
abbrev B0 [Inhabited Bs]:Nat:=(default:Bs).b
section
open Go.Shelf
variable{ps:List Nat}
theorem rV(t:Nat)(w:World)(a:t<18446744073709551616):
  Calls prog 98 #[.int .u64 (t:Int)] w λe w'=>e=.returned (.string<|str<|be 8 t)/\Below w.heap.size w w':=by
 have h:=qd w.heap.size (.slice none 0 0) [] t 0 w (zzu _ _ _ _) a bL<|zzc _
 go_enter func98,ntmps98;go_wp2_with fail;apply h.mono;clear h;rintro e b ⟨v',rfl,ho,hb,_⟩;obtain⟨g,p,rfl⟩:=dZ ho bL;have v:=jN b g 0 (0+8) p (be 8 t) (by rw[dH]) (lA<|by simpa using ho);clear ho;go_wp2;go_ret;exact⟨rfl,hb⟩
theorem Hz(t:Nat)(w:World)(a:t<18446744073709551616):
  Calls prog 283 #[.int .u64 (t:Int)] w λe w'=>e=.returned (.string<|str<|be 8 t)/\Below w.heap.size w w':=by
 have h:=qd w.heap.size (.slice none 0 0) [] t 0 w (zzu _ _ _ _) a bL<|zzc _
 go_enter func283,ntmps283;go_wp2_with fail;apply h.mono;clear h;rintro e b ⟨v',rfl,ho,hb,_⟩;obtain⟨g,p,rfl⟩:=dZ ho bL;have v:=jN b g 0 (0+8) p (be 8 t) (by rw[dH]) (lA<|by simpa using ho);clear ho;go_wp2;go_ret;exact⟨rfl,hb⟩
theorem CH:Enters 237:=enters_of func237 dJ rfl
theorem xr:Enters 68:=enters_of func68 dJ rfl
theorem ud:Enters 183:=enters_of func183 dJ rfl
theorem S9:Enters 230:=enters_of func230 dJ rfl
theorem Pz{q:Nat->Bool}{y:Nat}(h:y∈dK q ps):y<9:=by
 have:=(zzp.1 h).1;simpa using this
theorem ib{q:Nat->Bool}:(dK q ps).length<=9:=by
 apply zzk (List.length_filter_le _ _);simp
theorem qp(t:Nat)(T:fe)(bB:T.Ok)(w:World)(ht:t<18446744073709551616):
  Calls prog 192 #[.int .u64 (t:Int),kO T] w λe w'=>e=.returned (.string (str (be 8 t++dK jR T.parts)))/\Below w.heap.size w w':=by
 obtain⟨P,Zi⟩:∃P,P=T.parts:=⟨_,rfl⟩;have Jo:=af (λ(n l b1 b2:Nat) (hn:2<=n) (a1:World)=>Ew n hn l b1 b2 237 jR He CH T bB a1);have aa:=λ(n:Nat) (a1:World)=>A7 n 237 T bB a1
 rw[<-Zi] at Jo ⊢;clear Zi;obtain⟨s,ps,z⟩:=T;obtain⟨B,D,E,G,I,J,K,L,M,az⟩:=nine bB.1
 change ps=_ at az
 subst az;have al:=af aa;rw[bE];obtain⟨C,a7⟩:∃C:Array Value,C=(G_ ⟨s,[B,D,E,G,I,J,K,L,M],z⟩).toArray:=⟨_,rfl⟩;have ab:=a7;obtain⟨W,X⟩:∃W,W=w.alloc (.cells #[.int .i64 (s:Int),.int .u8 (B:Int),.int .u8 (D:Int),.int .u8 (E:Int),.int .u8 (G:Int),.int .u8 (I:Int),.int .u8 (J:Int),.int .u8 (K:Int),.int .u8 (L:Int),.int .u8 (M:Int),.int .u64 (z:Int),.nilIface] 128):=⟨_,rfl⟩;have iH:Below w.heap.size w W:=by rw[X];exact(zzD _ w).alloc (zzc _) _
 have xk:W.heap.size=w.heap.size+1:=by rw[X];simp
 have r0:W.heap[w.heap.size]?=some (.cells #[.int .i64 (s:Int),.int .u8 (B:Int),.int .u8 (D:Int),.int .u8 (E:Int),.int .u8 (G:Int),.int .u8 (I:Int),.int .u8 (J:Int),.int .u8 (K:Int),.int .u8 (L:Int),.int .u8 (M:Int),.int .u64 (z:Int),.nilIface] 128 (0,0)):=by rw[X];exact heap_alloc_new w _
 have U:=(callsIn_wide (n:=5)).2 (qd W.heap.size (.slice none 0 0) [] t 0 W (zzu _ _ _ _) ht bL (zzc _));have an:Fence.wide.round=none:=rfl;have bh:Fence.wide.fn 149:=trivial;have aQ:Fence.wide.fn 111:=trivial;have dz:Fence.wide.fn 156:=trivial;have H0:=af (show Below w.heap.size w W/\W.heap[w.heap.size]?=some (.cells #[.int .i64 (s:Int),.int .u8 (B:Int),.int .u8 (D:Int),.int .u8 (E:Int),.int .u8 (G:Int),.int .u8 (I:Int),.int .u8 (J:Int),.int .u8 (K:Int),.int .u8 (L:Int),.int .u8 (M:Int),.int .u64 (z:Int),.nilIface] 128 (0,0)) from ⟨iH,r0⟩);have av:=af ab;have a8:=af a7;clear aa iH r0 a7 ab;refine(callsIn_wide (n:=6)).1 ?_;refine callsIn_of_wp_marks func192 rfl trivial ?_ an;simp only[ntmps192,mB,zzr,mH,Nat.reduceAdd,Nat.reduceSub,mK,mL,nb,nU,n5,qC]
 gi_wp2_with fail
 rw[<-X];clear X;refine U.mono ?_;clear U;rintro e a ⟨v1,rfl,eE,cG,GU⟩;obtain⟨x,c1,rfl⟩:=dZ eE bL;simp only[Nat.zero_add,List.nil_append] at eE;have ao:=cG.size;obtain⟨b,O⟩:∃b,b=a.alloc (.cells #[.slice (some ⟨x,0,none⟩) 8 c1] 88):=⟨_,rfl⟩;have r2:=(cG.block w.heap.size bL).trans H0.2;have f:b.heap[w.heap.size]?=some (.cells #[.int .i64 (s:Int),.int .u8 (B:Int),.int .u8 (D:Int),.int .u8 (E:Int),.int .u8 (G:Int),.int .u8 (I:Int),.int .u8 (J:Int),.int .u8 (K:Int),.int .u8 (L:Int),.int .u8 (M:Int),.int .u64 (z:Int),.nilIface] 128 (0,0)):=by rw[O,zzf _ _ _ bL];exact r2
 have e0:=ae f 0;have e1:=ae f 1;have e2:=ae f 2;have e3:=ae f 3;have e4:=ae f 4;have e5:=ae f 5;have e6:=ae f 6;have e7:=ae f 7;have e8:=ae f 8;have e9:=ae f 9;have ea:=ae f 10;have eb:=ae f 11;simp at e0 e1 e2 e3 e4 e5 e6 e7 e8 e9 ea eb;have Xw:=al.out 5 b;rw[bE,<-a8.out] at Xw;have dT:b.heap.size=a.heap.size+1:=by rw[O];simp
 have qb:b.heap[a.heap.size]?=some (.cells #[.slice (some ⟨x,0,none⟩) 8 c1] 88 (0,0)):=by rw[O];exact heap_alloc_new a _
 have gH:b.ownsRow W.heap.size 5 1 (.slice (some ⟨x,0,none⟩) 8 c1) 8 (bs (be 8 t)):=by rw[O];exact eE.alloc _
 have JT:Below W.heap.size W b:=by rw[O];exact cG.alloc bL _
 have H2:=af (show b.heap[a.heap.size]?=some (.cells #[.slice (some ⟨x,0,none⟩) 8 c1] 88 (0,0))/\b.ownsRow W.heap.size 5 1 (.slice (some ⟨x,0,none⟩) 8 c1) 8 (bs (be 8 t))/\Below W.heap.size W b from ⟨qb,gH,JT⟩);rw[O] at e0 e1 e2 e3 e4 e5 e6 e7 e8 e9 ea eb;clear qb gH JT eE cG GU r2 f
 gi_wp2_with fail
 rw[<-O];clear O e0 e1 e2 e3 e4 e5 e6 e7 e8 e9 ea eb;refine Xw.mono ?_;clear Xw;rintro e d ⟨rfl,wP⟩;have iz:d.heap.size=a.heap.size+3:=by rw[wP];simp;omega
 have Dz:Below b.heap.size b d:=by rw[wP];exact((zzD _ b).alloc (zzc _) _).alloc bR _
 have q1:d.heap[a.heap.size+1]?=some (.cells C 128 (0,0)):=by
  rw[wP,zzf _ _ _ cE,<-dT];exact heap_alloc_new b _
 have q2:d.heap[a.heap.size+1+1]?=some (.cells #[Ct 237] 146 (0,0)):=by
  rw[wP];have:=heap_alloc_new (b.alloc (.cells C 128)) (.cells #[Ct 237] 146);rw[zzv,dT] at this;exact this
 have q3:=(Dz.block a.heap.size bL).trans H2.1;have q4:d.ownsRow W.heap.size 5 1 (.slice (some ⟨x,0,none⟩) 8 c1) 8 (bs (be 8 t)):=aD H2.2.1 (Fr.aX Dz []) bR;have q5:Below W.heap.size W d:=H2.2.2.trans (Dz.mono bL);clear wP Dz H2;rw[dT];have aI:=ao
 gi_wp2
 refine tV (F:=Fence.wide) (n:=6) rfl bL (gf:=154) (lb:=#[.pointer (some ⟨a.heap.size+1,0,none⟩),.pointer (some ⟨a.heap.size+1+1,0,none⟩)]) rfl trivial (enters_of func154 dJ rfl)
  (encs:=λy:Nat=>#[.int .i64 (y:Int)]) (rs:=dK jR P) (S:=[a.heap.size+1,a.heap.size+1+1]) (λ_=>rfl) (by intro k o;simp at o;omega)
  (λWx Q _=>Jo.out 5 _ (a.heap.size+1) (a.heap.size+1+1) bL Wx (by rw[<-a8.out];exact(Q.block _ bL).trans q1) ((Q.block _ bL).trans q2))
  (λp A=>(∃v,A.heap[a.heap.size]?=some (.cells #[v] 88 (0,0))/\A.ownsRow W.heap.size 5 1 v (8+p.length) (bs (be 8 t++p)))/\Below W.heap.size W A/\A.heap[a.heap.size+1]?=some (.cells C 128 (0,0))/\A.heap[a.heap.size+1+1]?=some (.cells #[Ct 237] 146 (0,0)))
  (λWx Q=>⟨⟨_,(Q.block _ bL).trans q3,by simpa using aD q4 (Fr.aX Q []) bR⟩,q5.trans (Q.mono bL),(Q.block _ bL).trans q1,(Q.block _ bL).trans q2⟩)
  (λl A r hs rh i=>by
   obtain⟨r0,i⟩:=i;have nj:Fr [d.heap.size+1] A (A.putObj (d.heap.size+1) (.loop r)):=⟨rfl,rfl,rfl,by rw[cj];exact zzc _,λj _ hj=>World.putObj_heap_other (by simpa using hj)⟩;obtain⟨⟨v,N,u⟩,V,Y,Z⟩:=hs;refine⟨⟨v,(World.putObj_heap_other bL).trans N,aD u nj (λg U hm=>?_)⟩,V.trans (nj.below bL (by intro k o;simp at o;omega)),(World.putObj_heap_other bL).trans Y,(World.putObj_heap_other bL).trans Z⟩;simp at hm;obtain⟨cc,hc⟩:=aq u U
   rw[hm,i] at hc;cases hc)
  (λy a' A=>a'={ tmps:=#[.int .u64 (t:Int),.agg #[.int .i64 (s:Int),.int .u8 (B:Int),.int .u8 (D:Int),.int .u8 (E:Int),.int .u8 (G:Int),.int .u8 (I:Int),.int .u8 (J:Int),.int .u8 (K:Int),.int .u8 (L:Int),.int .u8 (M:Int),.int .u64 (z:Int),.nilIface],undef,.pointer (some ⟨w.heap.size,0,none⟩),.string { data:=#[] },.pointer (some ⟨a.heap.size,0,none⟩),.int .i64 (y:Int),.int .u64 (t:Int),.slice (some ⟨x,0,none⟩) 8 c1,.agg #[.int .i64 (s:Int),.int .u8 (B:Int),.int .u8 (D:Int),.int .u8 (E:Int),.int .u8 (G:Int),.int .u8 (I:Int),.int .u8 (J:Int),.int .u8 (K:Int),.int .u8 (L:Int),.int .u8 (M:Int),.int .u64 (z:Int),.nilIface],.func (.func 154) #[] #[.pointer (some ⟨a.heap.size+1,0,none⟩),.pointer (some ⟨a.heap.size+1+1,0,none⟩)],.int .i64 (y:Int),undef,undef,undef,undef,undef,undef],defers:=[] })
  (λy a' A r hs=>hs)
  ?assign ?body ?done
 case assign =>
  have jE:=@Oper.semAt_some;rintro p y A aw hI rh dN hK
  gi_wp2
  exact hK _ _ hI (oH.refl _) rfl
 case body =>
  have jE:=@Oper.semAt_some;rintro p y a' A ⟨⟨v,N,u⟩,V,Y,Z⟩ rh rfl dN hdf i
  have il:p.length+1<=9:=by
   have:=dN.length_le;have h9:=ib (q:=jR) (ps:=P);simp at this;omega
  have aH:y<9:=Pz (dN.subset bR);have j1:IntKind.u8.wrap (y:Int)=y:=by rw[IntKind.wrap_u8];omega
  have ad:=(callsIn_wide (n:=3)).2 (Cf W.heap.size v (be 8 t++p) y (8+p.length) A u bL bL bL);have d0:=ae N 0;simp at d0;have H:=af (show A.heap[a.heap.size]?=some (.cells #[v] 88 (0,0))/\Below W.heap.size W A/\A.heap[a.heap.size+1]?=some (.cells C 128 (0,0))/\A.heap[a.heap.size+1+1]?=some (.cells #[Ct 237] 146 (0,0))/\A.heap[d.heap.size]?=some (.deferred (some []))/\(∃r,A.heap[d.heap.size+1]?=some (.loop r)) from ⟨N,V,Y,Z,hdf,i⟩);clear N u V Y Z hdf i
  gi_wp2_with fail
  refine ad.mono ?_;clear ad;rintro e A2 ⟨v2,rfl,o2,b2,t2⟩;rw[be1 bL,zzx] at o2;obtain⟨R,c3,rfl⟩:=dZ o2 bL;have z1:=(t2.block a.heap.size bL (λc e=>by rw[H.1] at e;cases e)).trans H.1;have z4:=(t2.block (a.heap.size+1) bL (λc e=>by rw[H.2.2.1] at e;cases e)).trans H.2.2.1;have z5:=(t2.block (a.heap.size+1+1) bL (λc e=>by rw[H.2.2.2.1] at e;cases e)).trans H.2.2.2.1;have z6:=(t2.block d.heap.size bL (λc e=>by rw[H.2.2.2.2.1] at e;cases e)).trans H.2.2.2.2.1;obtain⟨r,i⟩:=H.2.2.2.2.2;have z7:=(t2.block (d.heap.size+1) bL (λc e=>by rw[i] at e;cases e)).trans i;have S_:=t2.size;have k0:=ae z1 0;have f0:=aj z1 0;simp at k0;obtain⟨h,a6⟩:∃h,h=A2.setCell ⟨a.heap.size,0,none⟩ (.slice (some ⟨R,0,none⟩) (8+p.length+1) c3):=⟨_,rfl⟩;have m:Fr [a.heap.size] A2 h:=by rw[a6];exact Fr.cD bR _ _
  have m1:h.heap[a.heap.size]?=some (.cells #[.slice (some ⟨R,0,none⟩) (8+p.length+1) c3] 88 (0,0)):=by
   rw[a6];have:=ar z1 0 (.slice (some ⟨R,0,none⟩) (8+p.length+1) c3)
   simpa using this
  have m2:h.ownsRow W.heap.size 5 1 (.slice (some ⟨R,0,none⟩) (8+p.length+1) c3) (8+p.length+1) (bs (be 8 t++(p++[y]))):=aD o2 m (λg U=>by simp;intro e;subst e;exact bj o2 z1 bM U)
  have HN:=af (show((∃v,h.heap[a.heap.size]?=some (.cells #[v] 88 (0,0))/\h.ownsRow W.heap.size 5 1 v (8+(p++[y]).length) (bs (be 8 t++(p++[y]))))/\Below W.heap.size W h/\h.heap[a.heap.size+1]?=some (.cells C 128 (0,0))/\h.heap[a.heap.size+1+1]?=some (.cells #[Ct 237] 146 (0,0)))/\oH (d.heap.size :: (d.heap.size+1) :: [a.heap.size+1,a.heap.size+1+1]) A h from
   ⟨⟨⟨_,m1,by rw[zzi];exact m2⟩,H.2.1.trans (b2.trans (m.below bL (by intro k o;simp at o;omega))),(m.block _ bL bR).trans z4,(m.block _ bL cE).trans z5⟩,zzk S_ m.size,λk o bU=>by
    simp at o;rcases o with rfl|rfl|rfl|rfl
    .rw[m.block _ bL cE,z6,H.2.2.2.2.1]
    .rw[m.block _ bL cE,z7,i]
    .rw[m.block _ bL bR,z4,H.2.2.1]
    .rw[m.block _ bL cE,z5,H.2.2.2.1]⟩)
  clear o2 b2 t2 z1 z4 z5 z6 z7 i m1 m2 m H
  gi_wp2
  rw[<-a6];have hn:=HN.out;simp only[zzi,zzr,List.length_nil,Nat.zero_add,xk,iz] at hn;exact hn
 case done =>
  rintro A ⟨⟨v,N,u⟩,V,Y,Z⟩ rh hK;obtain⟨R,c3,rfl⟩:=dZ u bL;have d0:=ae N 0;simp at d0;have aE:=jN A R 0 (8+(dK jR P).length) c3 (be 8 t++dK jR P) (by rw[zzi,dH]) (lA u)
  gi_wp2
  refine⟨bR,.inl ⟨_,_,rfl,run_takeDeferred hK,?_⟩⟩;refine⟨.string (str (be 8 t++dK jR P)),by simp[results,results192,go_sem],rfl,?_⟩;have nj:Below w.heap.size A (A.putObj d.heap.size (.deferred none)):=⟨rfl,rfl,rfl,by rw[cj];exact zzc _,λj hj=>World.putObj_heap_other bL⟩;exact H0.1.trans ((V.mono bL).trans nj)
end
def PQ(w:World)(x:Value)(m:Nat)(news:List Value):Prop :=
 (∃d c,x=.slice (some d) m c/\∀j u,news[j]?=some u->w.cell? (d.add j)=some u)\/(x=.slice none 0 0/\m=0/\news=[])
theorem gR{P:Program}{w:World}{ops:Array Oper}{rest:List Oper}{o:Oper}{a:Act}{Q:Exit->Act->World->Prop}(U:o.guard=none)(s x:Operand)(t:TypeId)
  (j:o.op=.call { callee:=.builtin .append,args:=#[s,x],argTypes:=#[t,t] })
  (base:Nat) (e:TypeId) (i:TypeInfo) (z:Value) (size bytes:Nat) (k:P.underlying t=some (.slice e)) (g:P.info? e=some i) (D:i.zero=some z)
  (N:i.size=size) (l:i.bytes=bytes) (E:z.cells.size=size) (C:0<size)
  (v:Value) (n:Nat) (xs:List Value) (hs:a.eval s=v) (A:w.ownsRow base e size v n xs)
  (m:Nat) (news:List Value) (f:PQ w (a.eval x) m news) (B:news.length=m*size) (r:∀u∈news,u.oneCell'=true)
  (y:n+m<=maxLen) (G:(n+m)*bytes<=140737488355328) (J:base<=w.heap.size)
  (h:∀d w',w'.ownsRow base e size d (n+m) (xs++news)->w.grownBy w' v.ownBlock->(d.ownBlock=v.ownBlock\/d.ownBlock=some w.heap.size)->wpList P ops Q rest (a.put o.dst d) w') :
  wpList P ops Q (o :: rest) a w:=by
 rcases f with⟨q,c,f,p⟩|⟨f,rfl,rfl⟩
 .exact wpList_append_own_at (P:=P) (w:=w) U s x t j base e i z size bytes k g D N l E C v n xs hs A q m c news f B p r y G J (λd w' a b _ c=>h d w' a b c)
 .exact wpList_append_own_none U s x t j base e i size k g v n xs hs A f (h v w (by simpa using A) ⟨rfl,rfl,rfl,zzc _,λ_ _ _=>rfl⟩ (.inl rfl))
section
open Go.Shelf
theorem Tl:(Tryz.prog.info? 157).map (λi=>(i.zero,i.size,i.bytes))=some (some<|.agg #[.int .u64 0,.int .i64 0],2,16):=dJ
theorem Tm:(Tryz.prog.info? 207).map (λi=>(i.zero,i.size,i.bytes))=some (some<|.agg #[.int .u64 0,.int .i64 0,.int .i64 0],3,24):=dJ
section
variable{w Z J:World}{B E lg U n:Nat}{c:aU}{G O I:Value}
theorem bm.res(h:bm w B E lg U n c)(d:w.heap[E]?=some (qt lg U c G O))(p:w.ownsRow B 157 2 G c.res.length<|oQ c.res)(q:w.ownsRow B 207 3 O c.out.length<|oR c.out)(v:Ao G c.res.length n)(y:Ao O c.out.length n)(x:Nat×Nat)(u:Fr [] w Z)(b:Z.grownBy J G.ownBlock)(r:J.ownsRow B 157 2 I (c.res.length+1)<|oQ c.res++Tg x)(t:∀g,I.ownBlock=some g->G.ownBlock=some g\/w.heap.size<=g):
  bm (J.setCell ⟨E,5,none⟩ I) B E lg U (n+1) {c with res:=c.res++[x]}/\gm E [E] w (J.setCell ⟨E,5,none⟩ I):=by
 have⟨W,i⟩:∃W,W=J.setCell ⟨E,5,none⟩ I:=⟨_,rfl⟩;rw[<-i];have N:=h.eY;have K:=bj p d bM;have o:=((Fr.bz b).block E (by have:=u.size;omega)<|by simp;exact K).trans ((u.block E N.1 bR).trans d);have s:Fr [E] J W:=by rw[i];exact Fr.cD bR _ _
 have hf:=((u.mono bR).andThen ((Fr.bz b).mono λk _ a=>List.mem_cons_of_mem E a) λj l _=>l).andThen (s.mono λk _ a=>by simp at a;simp[a]) λj l _=>l
 have hb:W.heap[E]?=some (qt lg U c I O):=by
  rw[i];have:=ar o 5 I;simpa using this
 have z:=aD r s λg b=>by simp;intro e;subst e;exact bj r o bM b
 have S:∀{g:Nat},g∈E::G.ownBlock.toList->g=E\/∃f,w.heap[g]?=some (.cells f 157 (0,0)):=λ{g} m=>by
  obtain e|e:=zzj.1 m
  .exact .inl e
  .simp at e;exact .inr<|aq p e
 refine⟨⟨⟨I,O,hb,by rw[PL,zzi];exact z,aD q hf λg b m=>?_,⟨by rw[zzi];show c.res.length+1<=_;have:=v.1;omega,λe=>by simp at e⟩,y.mono bL⟩,(h.ai.fr hf λm=>?_).mono bL,⟨h.low.1,h.low.2.1,zzk h.low.2.2 hf.size⟩,h.fB⟩,⟨Fr.mono hf λk _ a=>?_,λk a m=>?_⟩⟩
 .obtain⟨f,hc⟩:=aq q b;obtain e|⟨Zq,e⟩:=S m
  .rw[e,d]at hc;cases hc
  .rw[e]at hc;cases hc
 .obtain⟨es,f,wE⟩:=h.ai.isMap;obtain e|⟨Zq,e⟩:=S m
  .exact N.2.2 e.symm
  .rw[e]at wE;cases wE
 .rcases zzj.1 a with e|e
  .simp[e]
  .simp at e;exact List.mem_append_right _<|by unfold rd Fa;rw[d];simp[e]
 .unfold rd Fa at m ⊢;rw[hb]at m;rw[d];simp at m ⊢;obtain m|m:=m
  .rcases t k m with e|e
   .exact .inl e
   .omega
  .exact .inr m
theorem bm.due(h:bm w B E lg U n c)(d:w.heap[E]?=some (qt lg U c G O))(p:w.ownsRow B 157 2 G c.res.length<|oQ c.res)(q:w.ownsRow B 207 3 O c.out.length<|oR c.out)(v:Ao G c.res.length n)(y:Ao O c.out.length n)(x:Nat×Nat×Nat)(u:Fr [] w Z)(b:Z.grownBy J O.ownBlock)(r:J.ownsRow B 207 3 I (c.out.length+1)<|oR c.out++Th x)(t:∀g,I.ownBlock=some g->O.ownBlock=some g\/w.heap.size<=g):
  bm (J.setCell ⟨E,6,none⟩ I) B E lg U (n+1) {c with out:=c.out++[x]}/\gm E [E] w (J.setCell ⟨E,6,none⟩ I):=by
 have⟨W,i⟩:∃W,W=J.setCell ⟨E,6,none⟩ I:=⟨_,rfl⟩;rw[<-i];have N:=h.eY;have K:=bj q d bM;have o:=((Fr.bz b).block E (by have:=u.size;omega)<|by simp;exact K).trans ((u.block E N.1 bR).trans d);have s:Fr [E] J W:=by rw[i];exact Fr.cD bR _ _
 have hf:=((u.mono bR).andThen ((Fr.bz b).mono λk _ a=>List.mem_cons_of_mem E a) λj l _=>l).andThen (s.mono λk _ a=>by simp at a;simp[a]) λj l _=>l
 have hb:W.heap[E]?=some (qt lg U c G I):=by
  rw[i];have:=ar o 6 I;simpa using this
 have z:=aD r s λg b=>by simp;intro e;subst e;exact bj r o bM b
 have S:∀{g:Nat},g∈E::O.ownBlock.toList->g=E\/∃f,w.heap[g]?=some (.cells f 207 (0,0)):=λ{g} m=>by
  obtain e|e:=zzj.1 m
  .exact .inl e
  .simp at e;exact .inr<|aq q e
 refine⟨⟨⟨G,I,hb,aD p hf λg b m=>?_,by rw[PM,zzi];exact z,v.mono bL,⟨by rw[zzi];show c.out.length+1<=_;have:=y.1;omega,λe=>by simp at e⟩⟩,(h.ai.fr hf λm=>?_).mono bL,⟨h.low.1,h.low.2.1,zzk h.low.2.2 hf.size⟩,h.fB⟩,⟨Fr.mono hf λk _ a=>?_,λk a m=>?_⟩⟩
 .obtain⟨f,hc⟩:=aq p b;obtain e|⟨Zq,e⟩:=S m
  .rw[e,d]at hc;cases hc
  .rw[e]at hc;cases hc
 .obtain⟨es,f,wE⟩:=h.ai.isMap;obtain e|⟨Zq,e⟩:=S m
  .exact N.2.2 e.symm
  .rw[e]at wE;cases wE
 .rcases zzj.1 a with e|e
  .simp[e]
  .simp at e;exact List.mem_append_right _<|by unfold rd Fa;rw[d];simp[e]
 .unfold rd Fa at m ⊢;rw[hb]at m;rw[d];simp at m ⊢;obtain m|m:=m
  .exact .inl m
  .rcases t k m with e|e
   .exact .inr e
   .omega
end
theorem sN(B E lg U n t x:Nat)(c:aU)(w:World)(h:bm w B E lg U n c)(hn:n<67108864):
  Calls prog 229 #[.pointer<|some ⟨E,0,none⟩,.int .u64 (t:Int),.int .i64 (x:Int)] w λe w'=>e=.returned (.tuple #[])/\bm w' B E lg U (n+1) {c with res:=c.res++[(t,x)]}/\gm E [E] w w':=by
 have⟨D,y,z,A,C⟩:=info_parts Tl;have⟨G,O,a,f,m,i,o⟩:=h.ex;have M:=i.1;have S:=af<|zzb i o;clear i o;have c5:=ae a 5;simp at c5;have s:=h.eY;have K:=bj f a bM;have H:=af<|zzb h<|zzb a<|zzb f m;have F:=h.low;clear h a m
 go_enter func229,ntmps229;go_wp2_with (at_builtin;apply gR rfl _ _ 119 rfl B 157 D _ 2 16 underlying119 y z A C rfl bM G c.res.length (oQ c.res) rfl (f.alloc _) 1 [.int .u64 (t:Int),.int .i64 (x:Int)] (.inl ⟨gz w.heap.size,1,rfl,dU _ #[.int .u64 (t:Int),.int .i64 (x:Int)] _⟩) rfl (by intro u p;simp at p;obtain rfl|rfl:=p<;>rfl) eA bL cE);intro I J b P Q;obtain⟨v,q,k,rfl⟩:=ct b;have l:=(lT w).alloc<|.cells #[.int .u64 (t:Int),.int .i64 (x:Int)] 157;have d:=((Fr.bz P).block E cE<|by simp;exact K).trans ((l.block E s.1 bR).trans H.2.1);have r:=ae d 5;have L:=aj d 5;simp at r;have N:Hid (bm (J.setCell ⟨E,5,none⟩<|.slice v q k) B E lg U (n+1) {c with res:=c.res++[(t,x)]}/\gm E [E] w (J.setCell ⟨E,5,none⟩<|.slice v q k)):=H.1.res H.2.1 H.2.2.1 H.2.2.2 S.1 S.2 (t,x) l P b (λg j=>Q.elim (λe=>.inl<|e▸j) λe=>.inr<|by rw[e]at j;cases j;simp);clear b P d l;go_wp2;go_end0;exact⟨rfl,N.out⟩
end
variable{q:Nat}{t:TypeId}{c:World}
structure IFr(B:Nat)(w w':World):Prop where
 below:Below B w w'
 ac':∀(k:Nat) (a b c d:Int),w.heap[k]?=some (gi a b c d)->w'.heap[k]?=some (gi a b c d)
 ints:∀(k:Nat) (c:Array Value),w.heap[k]?=some (.cells c 3 (0,0))->w'.heap[k]?=some (.cells c 3 (0,0))
theorem IFr.lh{B:Nat}{w w':World}(h:IFr B w w')(a:2<=B)(m:bI w):bI w':=m.cI<|h.below.block 1 bL
structure mN(cp bT lp p:Nat)(w w':World):Prop where
 os:w'.os=w.os
 tape:w'.tape=w.tape
 output:w'.output=w.output
 size:w.heap.size<=w'.heap.size
 block:∀k,k<w.heap.size->¬Own lp p w k->k∉[cp,bT]->k∉rd cp w->w'.heap[k]?=w.heap[k]?
 stay:∀k,k<w.heap.size->Own lp p w' k->Own lp p w k
 own:∀k,k<w.heap.size->k∈rd cp w'->k∈rd cp w
theorem mN.trans{cp bT lp p:Nat}{a b:World}(h:mN cp bT lp p a b)(k:mN cp bT lp p b c):mN cp bT lp p a c:=
 ⟨k.os.trans h.os,k.tape.trans h.tape,k.output.trans h.output,zzk h.size k.size,
  λi d hn m r=>(k.block i (zzl d h.size) (λo=>hn<|h.stay i d o) m λx=>r<|h.own i d x).trans<|h.block i d hn m r,
  λi d o=>h.stay i d (k.stay i (zzl d h.size) o),λi d o=>h.own i d (k.own i (zzl d h.size) o)⟩
structure CL(w:World)(B cp gp bT m lp p bD bN n:Nat)(c:aU)(l:au)(d:ah):Prop where
 co:bm w B cp gp bT m c
 lg:∃pv sv rv nD nN,aA w B lp p bD bN pv sv rv l d n nD nN
 ju:w.heap[gp]?=some (rB lp)
 ne:bT≠bD/\bT≠bN
 oN:1<=gp
section
variable{w w':World}{B cp gp bT m m' lp p bD bN n n':Nat}{c c':aU}{l G:au}{d E:ah}
theorem CL.free(h:CL w B cp gp bT m lp p bD bN n c l d):∀k,k∈[cp,bT,gp]++rd cp w->¬Own lp p w k/\∀t,w.heap[k]?≠some (dV t):=by
 have⟨v,i,r,D,N,f⟩:=h.lg;have⟨s,U⟩:=h.co.yN;intro k b;obtain b|b:=zzo.1 b
 .simp at b;obtain rfl|rfl|rfl:=b
  .exact⟨f.free U bM bM bM bM bM,λt e=>by rw[U]at e;cases e⟩
  .exact⟨f.mT h.co.ai.isMap h.ne.1 h.ne.2,λt e=>by have⟨g,c,a⟩:=h.co.ai.isMap;rw[a]at e;cases e⟩
  .exact⟨f.free h.ju bM bM bM bM bM,λt e=>by rw[h.ju]at e;cases e⟩
 .obtain⟨_,cc,t,e,ht⟩:=h.co.Ti b;obtain rfl|rfl:=ht
  .exact⟨f.free e bM bM bM bM bM,λt a=>by rw[e]at a;cases a⟩
  .exact⟨f.free e bM bM bM bM bM,λt a=>by rw[e]at a;cases a⟩
theorem CL.ic(h:CL w B cp gp bT m lp p bD bN n c l d)(i:bm w' B cp gp bT m' c')(hf:gm cp [cp,bT] w w'):CL w' B cp gp bT m' lp p bD bN n c' l d/\mN cp bT lp p w w':=by
 have⟨q,t,s,D,N,g⟩:=h.lg;have f:=g.apart hf.fr (λk a _=>h.free k (by
  obtain e|e:=zzo.1 a
  .simp at e;obtain e|e:=e<;>simp[e]
  .exact List.mem_append_right _ e))
 have j:gp∉[cp,bT]++rd cp w:=by
  intro b;obtain e|e:=zzo.1 b
  .simp at e;have v:=h.ju;obtain e|e:=e
   .obtain⟨cs,vU⟩:=h.co.yN;rw[e,vU]at v;cases v
   .obtain⟨es,c,e2⟩:=h.co.ai.isMap;rw[e,e2]at v;cases v
  .exact h.co.rd_not h.ju bM bM e
 refine⟨⟨i,⟨q,t,s,D,N,f⟩,(hf.fr.block gp (zza.1 h.ju).1 j).trans h.ju,h.ne,h.oN⟩,hf.fr.os,hf.fr.tape,hf.fr.output,hf.fr.size,λk a _ b r=>hf.block a b r,λk _ o=>?_,hf.stay⟩;rw[g.own];exact(f.own k).1 o
theorem CL.new(h:CL w B cp gp bT m lp p bD bN n c l d)(hf:Fr [] w w'):CL w' B cp gp bT m lp p bD bN n c l d/\mN cp bT lp p w w':=
 h.ic (h.co.new hf) (hf.r h.co.eY.1 bR bR)
theorem CL.log(h:CL w B cp gp bT m lp p bD bN n c l d)(hf:ku lp p w w')(F:∃J K s H N,aA w' B lp p bD bN J K s G E n' H N):CL w' B cp gp bT m lp p bD bN n' c G E/\mN cp bT lp p w w':=by
 have j:=h.free;have⟨s,I,a,b,f,o,A⟩:=h.co.ex;have t:=hf.block cp h.co.eY.1 (j cp bR).1;have row:∀{e:TypeId} {k m:Nat} {v:Value} {xs:List Value},w.ownsRow B e k v m xs->(∀g,v.ownBlock=some g->g∈rd cp w)->w'.ownsRow B e k v m xs:=by
  intro e k m v xs x C;refine⟨x.1,?_⟩;obtain a|⟨g,cap,cur,rfl,b,f,o⟩:=x.2
  .exact .inl a
  .exact .inr ⟨g,cap,cur,rfl,b,(hf.block g (zza.1 f).1 (j g<|List.mem_append_right _<|C g rfl).1).trans f,o⟩
 have T:aO KU EX w' bT m c.ai:=by
  have U:=h.co.ai.lt;have⟨y,⟨z,c2,a,b⟩,r⟩:=h.co.ai;exact⟨y,⟨z,c2,(hf.block bT U (j bT bR).1).trans a,b⟩,r⟩
 refine⟨⟨⟨⟨s,I,t.trans a,row b λg q=>by unfold rd Fa;rw[a];simp[q],row f λg q=>by unfold rd Fa;rw[a];simp[q],o,A⟩,T,⟨h.co.low.1,h.co.low.2.1,zzk h.co.low.2.2 hf.size⟩,h.co.fB⟩,F,(hf.block gp (zza.1 h.ju).1 (j gp bR).1).trans h.ju,h.ne,h.oN⟩,hf.os,hf.tape,hf.output,hf.size,λi D hn _ _=>hf.block i D hn,hf.stay,λk _ u=>by rw[ri t]at u;exact u⟩
theorem mN.cells(hf:mN cp bT lp p w w')(h:CL w B cp gp bT m lp p bD bN n c l d){k:Nat}{b:Array Value}{t:TypeId}(a:w.heap[k]?=some (.cells b t (0,0)))(g:t≠96)(i:t≠182)(j:t≠222)(o:t≠43)(q:t≠110)(r:t≠122)(s:t≠157)(u:t≠207):w'.heap[k]?=some (.cells b t (0,0)):=by
 have⟨x,z,y,D,N,v⟩:=h.lg;refine(hf.block k (zza.1 a).1 (v.free a g i j o q) ?_<|h.co.rd_not a s u).trans a;intro f;simp at f;obtain e|e:=f
 .obtain⟨cs,vU⟩:=h.co.yN;rw[e,vU]at a;cases a;exact r rfl
 .obtain⟨es,c2,e2⟩:=h.co.ai.isMap;rw[e,e2]at a;cases a
end
section
variable{w w':World}{B cp gp bT m m' lp p bD bN n n':Nat}{c c':aU}{l G:au}{d E:ah}
theorem mN.gF(hf:mN cp bT lp p w w')(h:CL w B cp gp bT m lp p bD bN n c l d):IFr B w w':=by
 have⟨v,s,r,D,N,f⟩:=h.lg;exact⟨⟨hf.os,hf.tape,hf.output,hf.size,λk e=>hf.block k (zzl e f.bq.base.2.2.2) (λo=>by have:=f.ge o;omega) (by have:=h.co.low;simp;omega) λg=>by have:=(h.co.Ti g).1;omega⟩,λk a b x y e=>hf.cells h e bM bM bM bM bM bM bM bM,λk x e=>hf.cells h e bM bM bM bM bM bM bM bM⟩
theorem CL.bQ(h:CL w B cp gp bT m lp p bD bN n c l d)(a b:Int)(hf:Fr [p] w w'){v:Value}(hb:w'.heap[p]?=some (gv bD bN v a b d.down))(H:w.heap[p]?=some (gv bD bN v d.left d.full d.down)):
  CL w' B cp gp bT m lp p bD bN n c l (d.bQ a b)/\mN cp bT lp p w w':=by
 have⟨j,s,r,D,N,f⟩:=h.lg;have e:j=v:=by have:=f.bq.blk;rw[H]at this;cases this;rfl
 subst e;have⟨g,i⟩:=f.bQ a b hf hb;exact h.log i ⟨_,_,_,_,_,g⟩
theorem CL.other{q:Nat}{f:Array Value}{t:TypeId}(h:CL w B cp gp bT m lp p bD bN n c l d)(hf:Fr [q] w w')(a:w.heap[q]?=some (.cells f t (0,0)))(i:t≠96)(j:t≠182)(o:t≠222)(r:t≠43)(s:t≠110)(u:t≠9)(v:t≠122)(x:t≠244)(y:t≠157)(V:t≠207):CL w' B cp gp bT m lp p bD bN n c l d:=by
 have⟨H,J,I,G,N,z⟩:=h.lg;have⟨E,U⟩:=h.co.yN;have A:q≠cp:=by intro e;rw[e,U]at a;cases a;exact v rfl
 have C:q≠bT:=by intro e;have⟨F,c2,g⟩:=h.co.ai.isMap;rw[e,g]at a;cases a
 have D:gp≠q:=by intro e;have:=h.ju;rw[e,a]at this;cases this;exact x rfl
 exact⟨h.co.fr hf λk b=>by simp at b;subst b;exact⟨A,C,h.co.rd_not a y V⟩,⟨_,_,_,_,_,z.other hf a i j o r s u⟩,(hf.block gp (zza.1 h.ju).1<|by simpa using D).trans h.ju,h.ne,h.oN⟩
theorem CL.XH{q:Nat}{r:Array Value}{t:TypeId}(h:CL w B cp gp bT m lp p bD bN n c l d)(hf:Fr [q] w w')(o:w.heap[q]?=some (.cells r t (0,0)))(a:t≠96)(b:t≠182)(e:t≠222)(f:t≠43)(g:t≠110)(i:t≠9)(s:t≠122)(u:t≠244)(v:t≠157)(V:t≠207):CL w' B cp gp bT m lp p bD bN n c l d/\∀k,Own lp p w' k->Own lp p w k:=by
 refine⟨h.other hf o a b e f g i s u v V,λk x=>?_⟩;have⟨y,A,z,D,N,j⟩:=h.lg;rw[j.own];exact((j.other hf o a b e f g i).own k).1 x
theorem mN.v_{c:World}{q:Nat}(h:mN cp bT lp p c w)(hf:Fr [q] w w')(i:c.heap.size<=q)(o:∀k,Own lp p w' k->Own lp p w k)(g:w'.heap[cp]?=w.heap[cp]?):mN cp bT lp p c w':=
 ⟨hf.os.trans h.os,hf.tape.trans h.tape,hf.output.trans h.output,zzk h.size hf.size,λk a d e f=>(hf.block k (zzl a h.size) cE).trans<|h.block k a d e f,λk a b=>h.stay k a<|o k b,λk a b=>h.own k a<|by rw[ri g]at b;exact b⟩
end
section
open Go.Shelf
variable{p:Nat}{w:World}
theorem Fg{o:Oper}{a:Act}{K:Act->World->Prop}{Q:Exit->Act->World->Prop}(s x:Operand)
  (d:o.op=.call {callee:=.builtin .append,args:=#[s,x],argTypes:=#[120,120]})
  (base:Nat) (v:Value) (n:Nat) (xs:List Value) (t:Nat) (k y:Int) (b:Nat) (hs:a.eval s=v) (A:w.ownsRow base 207 3 v n xs) (e:a.eval x=.slice (some ⟨b,0,none⟩) 1 1)
  (hb:w.heap[b]?=some (.cells #[.int .u64 (t:Int),.int .i64 k,.int .i64 y] 207 (0,0))) (hn:n<=1099511627776) (J:base<=w.heap.size)
  (h:∀c w',w'.ownsRow base 207 3 c (n+1) (xs++[.int .u64 (t:Int),.int .i64 k,.int .i64 y])->w.grownBy w' v.ownBlock->(c.ownBlock=v.ownBlock\/c.ownBlock=some w.heap.size)->K (a.put o.dst c) w'):o.wp prog a w K Q:=by
 have⟨m,i,g,j,l⟩:=info_parts Tm;have M:=ae hb 0;have X:=ae hb 1;have f:=ae hb 2;simp at M X f;refine gO s x 120 d base 207 m _ 3 24 underlying120 i g j l rfl bM v n xs hs A (gz b) 1 1 [.int .u64 (t:Int),.int .i64 k,.int .i64 y] e rfl ?_ ?_ eA bL J ?_
 .intro jj u gS;match jj,gS with
  |0,gS=>simp at gS;subst gS;simpa [Addr.add]using M
  |1,gS=>simp at gS;subst gS;simpa [Addr.add]using X
  |2,gS=>simp at gS;subst gS;simpa [Addr.add]using f
 .intro u hu;simp at hu;obtain rfl|rfl|rfl:=hu<;>rfl
 .intro c w' s8 AF ha';exact h c w' s8 AF ha'
theorem qu(B p lg i n t C:Nat)(q:Nat->Bool)(Y:rR C q)(iU:Enters C)(x:Nat)(c:aU)(w:World)(h:bm w B p lg i n c)(ht:t<18446744073709551616)(hn:n+9<67108864):
  Calls prog 67 #[.pointer (some ⟨p,0,none⟩),.int .u64 (t:Int),.int .i64 (x:Int),Ct C] w λe w'=>e=.returned (.tuple #[])/\bm w' B p lg i (n+9) { c with out:=c.out++(dK q (c.tx t).parts).map λk=>(t,k,x) }/\gm p [p] w w':=by
 obtain⟨W,V⟩:∃W,W=((w.alloc (.cells #[.pointer (some ⟨p,0,none⟩)] 76)).alloc (.cells #[.int .u64 (t:Int)] 43)).alloc (.cells #[.int .i64 (x:Int)] 3):=⟨_,rfl⟩;have iH:Fr [] w W:=by rw[V];exact(((lT w).alloc _).alloc _).alloc _
 have xk:W.heap.size=w.heap.size+3:=by rw[V];simp
 have r0:W.heap[w.heap.size]?=some (.cells #[.pointer (some ⟨p,0,none⟩)] 76 (0,0)):=by rw[V,zzf _ _ w.heap.size cE,zzf _ _ w.heap.size bR];exact heap_alloc_new w _
 have r1:W.heap[w.heap.size+1]?=some (.cells #[.int .u64 (t:Int)] 43 (0,0)):=by
  rw[V,zzf _ _ (w.heap.size+1) bR];have:=heap_alloc_new (w.alloc (.cells #[.pointer (some ⟨p,0,none⟩)] 76)) (.cells #[.int .u64 (t:Int)] 43)
  rwa [zzv] at this
 have r2:W.heap[w.heap.size+2]?=some (.cells #[.int .i64 (x:Int)] 3 (0,0)):=by
  rw[V];have:=heap_alloc_new ((w.alloc (.cells #[.pointer (some ⟨p,0,none⟩)] 76)).alloc (.cells #[.int .u64 (t:Int)] 43)) (.cells #[.int .i64 (x:Int)] 3)
  rwa [zzv,zzv] at this
 have qM:=h.new iH;have bB:=h.J8 t;obtain⟨rv,ov,h1,_⟩:=qM.ex;have eN:=qM.eY.1;have c1:=ae h1 1;have v0:=ae r0 0;have v1:=ae r1 0;simp at c1 v0 v1;have hl:∀a7,Fr [] W a7->(Instr.lookup 118 (.map (some i)) (.int .u64 (t:Int)) false).run prog a7=.ok (kO (c.tx t)) a7:=λa7 hW=>(qM.new hW).f_ ht
 have Cv:=hl W.drew (lT W).drew;have Xw:=callsIn_wide.1 (A7 5 C (c.tx t) bB W.drew);have u:=af (show bm W B p lg i n c/\Fr [] w W/\W.heap[w.heap.size]?=some (.cells #[.pointer (some ⟨p,0,none⟩)] 76 (0,0))/\W.heap[w.heap.size+1]?=some (.cells #[.int .u64 (t:Int)] 43 (0,0))/\W.heap[w.heap.size+2]?=some (.cells #[.int .i64 (x:Int)] 3 (0,0)) from ⟨qM,iH,r0,r1,r2⟩);obtain⟨T,hT⟩:∃T,T=c.tx t:=⟨_,rfl⟩;rw[<-hT] at Cv Xw bB ⊢;clear hT;clear h qM iH r0 r1 r2 h1 hl;have al:Fence.wide.round=none:=rfl;have wH:Fence.wide.fn 154:=trivial;refine(callsIn_wide (n:=6)).1 ?_;refine callsIn_of_wp_marks func67 rfl trivial ?_ al;simp only[ntmps67,mB,zzr,mH,Nat.reduceAdd,Nat.reduceSub,mK,mL,nb,nU,n5,qC]
 gi_wp2
 rw[<-V];clear V;refine wpIn_wide.2 ?_
 go_region_held3 (λw'=>w'.cell? ⟨w.heap.size,0,none⟩=some (.pointer (some ⟨p,0,none⟩))/\w'.cell? ⟨w.heap.size+1,0,none⟩=some (.int .u64 (t:Int))/\w'.cell? ⟨p,1,none⟩=some (.map (some i)))
  (simp[*])
  (first|(go_at_call 111;refine Xw.mono ?_;rintro e d ⟨rfl,ki⟩;have Q:Fr [] W d:=(by rw[ki];exact((lT W).drew.alloc _).alloc _);have z0:=(zze (a:=⟨w.heap.size,0,none⟩) (Q.block w.heap.size bL bR)).trans v0;have z1:=(zze (a:=⟨w.heap.size+1,0,none⟩) (Q.block (w.heap.size+1) bL bR)).trans v1;have z2:=(zze (a:=⟨p,1,none⟩) (Q.block p eN bR)).trans c1;have H2:=af (show Fr [] W d/\d=(W.drew.alloc (.cells (G_ T).toArray 128)).alloc (.cells #[Ct C] 146) from ⟨Q,ki⟩);clear Q ki))
 have l0:d.heap.size=w.heap.size+5:=by rw[H2.2];simp;omega
 have q1:d.heap[w.heap.size+3]?=some (.cells (G_ T).toArray 128 (0,0)):=by
  rw[H2.2,zzf _ _ _ cE];have:=heap_alloc_new W.drew (.cells (G_ T).toArray 128);rw[show W.drew.heap.size=w.heap.size+3 from xk] at this;exact this
 have q2:d.heap[w.heap.size+3+1]?=some (.cells #[Ct C] 146 (0,0)):=by
  rw[H2.2];have:=heap_alloc_new (W.drew.alloc (.cells (G_ T).toArray 128)) (.cells #[Ct C] 146);rw[zzv,show W.drew.heap.size=w.heap.size+3 from xk] at this;exact this
 have Q:=H2.1;have G:=u.1.new Q;have u0:=(Q.block w.heap.size bL bR).trans u.2.2.1;have u1:=(Q.block (w.heap.size+1) bL bR).trans u.2.2.2.1;have u2:=(Q.block (w.heap.size+2) bL bR).trans u.2.2.2.2
 have R0:p<w.heap.size:=by
  obtain⟨cs,hc⟩:=u.1.yN;by_cases e:p<w.heap.size
  .exact e
  .have h3:p=w.heap.size\/p=w.heap.size+1\/p=w.heap.size+2:=bL;rcases h3 with e|e|e
   .rw[e,u.2.2.1] at hc;cases hc
   .rw[e,u.2.2.2.1] at hc;cases hc
   .rw[e,u.2.2.2.2] at hc;cases hc
 have HR:=af (show Fr [] w d from u.2.1.trans Q);clear u H2 Q z0 z1 z2 v0 v1 c1 Xw Cv
 gi_wp2
 refine tV (F:=Fence.wide) (n:=6) rfl bL (gf:=154) (lb:=#[.pointer (some ⟨w.heap.size+3,0,none⟩),.pointer (some ⟨w.heap.size+3+1,0,none⟩)]) rfl trivial (enters_of func154 dJ rfl)
  (encs:=λy:Nat=>#[.int .i64 (y:Int)]) (rs:=dK q T.parts) (S:=[w.heap.size+3,w.heap.size+3+1]) (λ_=>rfl) (by intro k f;simp at f;omega)
  (λWx dQ _=>Ew 5 bL _ (w.heap.size+3) (w.heap.size+3+1) C q Y iU T bB Wx ((dQ.block _ bL).trans q1) ((dQ.block _ bL).trans q2))
  (λl A=>bm A B p lg i (n+l.length) { c with out:=c.out++l.map λk=>(t,k,x) }/\gm p [p] d A)
  (λWx dQ=>⟨by simpa using G.new (Fr.aX dQ []),(Fr.aX dQ []).r G.eY.1 bR bR⟩)
  (λs A r hs rh N=>by
   obtain⟨r0,N⟩:=N;have D:Fr [d.heap.size+1] A (A.putObj (d.heap.size+1) (.loop r)):=⟨rfl,rfl,rfl,by rw[cj];exact zzc _,λj _ M=>World.putObj_heap_other (by simpa using M)⟩;have XF:(A.putObj (d.heap.size+1) (.loop r)).heap[p]?=A.heap[p]?:=World.putObj_heap_other bL;refine⟨hs.1.fr D (λk f=>?_),⟨hs.2.fr.os,hs.2.fr.tape,hs.2.fr.output,by rw[cj];exact hs.2.fr.size,λj M hS=>(World.putObj_heap_other bL).trans (hs.2.fr.block j M hS)⟩,λk f Y=>hs.2.stay k f (by rw[ri XF] at Y;exact Y)⟩;simp at f;subst f;refine⟨bL,λe=>?_,λe=>?_⟩
   .obtain⟨es,cc,O⟩:=hs.1.ai.isMap;rw[<-e,N] at O;cases O
   .obtain⟨_,c9,t9,e9,_⟩:=hs.1.Ti e
    rw[N] at e9;cases e9)
  (λy a' A=>a'={ tmps:=#[.pointer (some ⟨p,0,none⟩),.int .u64 (t:Int),.int .i64 (x:Int),Ct C,.pointer (some ⟨w.heap.size,0,none⟩),.pointer (some ⟨w.heap.size+1,0,none⟩),.pointer (some ⟨w.heap.size+1+1,0,none⟩),undef,.int .i64 (y:Int),.pointer (some ⟨p,0,none⟩),.pointer (some ⟨p,0,none⟩),.pointer (some ⟨p,1,none⟩),.map (some i),.int .u64 (t:Int),kO T,Ct C,.func (.func 154) #[] #[.pointer (some ⟨w.heap.size+3,0,none⟩),.pointer (some ⟨w.heap.size+3+1,0,none⟩)],.int .i64 (y:Int),undef,undef,undef,undef,undef,undef,undef,undef,undef,undef,undef,undef,undef],defers:=[] })
  (λy a' A r hs=>hs)
  ?assign ?body ?done
 case assign =>
  have jE:=@Oper.semAt_some;rintro l y A K hI rh dN b
  gi_wp2
  exact b _ _ hI (oH.refl _) rfl
 case body =>
  have jE:=@Oper.semAt_some;rintro l y a' A ⟨yO,ou⟩ rh rfl dN hdf N
  have il:l.length+1<=9:=by
   have:=dN.length_le
   have h9:(dK q T.parts).length<=9:=by
    refine zzk (List.length_filter_le _ _) ?_;simp
   simp at this;omega
  have B0:=gm.cells ou G u0 cE bM bM;have B1:=gm.cells ou G u1 cE bM bM;have B2:=gm.cells ou G u2 cE bM bM;have B3:=gm.cells ou G q1 cE bM bM;have B4:=gm.cells ou G q2 cE bM bM;obtain⟨c',Dy⟩:∃c':aU,c'={ c with out:=c.out++l.map λk=>(t,k,x) }:=⟨_,rfl⟩;rw[<-Dy] at yO;obtain⟨m_,m,z,J,g3,g4,g5⟩:=yO.ex;have ao:=g4.1;have aw:=g5.1;have pK:m.ownBlock≠some p:=bj g3 z bM;have m0:m.ownBlock≠some w.heap.size:=bj g3 B0 bM;have m1:m.ownBlock≠some (w.heap.size+1):=bj g3 B1 bM;have m2:m.ownBlock≠some (w.heap.size+1+1):=bj g3 B2 bM;have ab:=yO.eY.1;have a0:=ae B0 0;have a1:=ae B1 0;have a2:=ae B2 0;have a6:=ae z 6;simp at a0 a1 a2 a6;have H:=af (show bm A B p lg i (n+l.length) c'/\A.heap[p]?=some (qt lg i c' m_ m)/\A.ownsRow B 157 2 m_ c'.res.length (oQ c'.res)/\A.ownsRow B 207 3 m c'.out.length (oR c'.out)/\Ao m_ c'.res.length (n+l.length)/\Ao m c'.out.length (n+l.length) from ⟨yO,z,J,g3,g4,g5⟩)
  have HE:=af (show ∀W',bm W' B p lg i (n+l.length+1) { c' with out:=c'.out++[(t,y,x)] }/\gm p [p] A W'->(bm W' B p lg i (n+(l++[y]).length) { c with out:=c.out++(l++[y]).map λk=>(t,k,x) }/\gm p [p] d W')/\oH (d.heap.size :: (d.heap.size+1) :: [w.heap.size+3,w.heap.size+3+1]) A W' from λW' h=>⟨⟨by have h9:=h.1;rw[Dy] at h9;rw[zzi,List.length_singleton,<-Nat.add_assoc,List.map_append,<-zzx];exact h9,gm.trans ou h.2⟩,h.2.fr.size,λk f bU=>h.2.fr.block k bU (λO=>by
   rcases zzo.1 O with e|e
   .simp at f e;omega
   .obtain⟨_,c9,t9,e2,_⟩:=yO.Ti e;obtain⟨r0,N⟩:=N;simp at f;rcases f with rfl|rfl|rfl|rfl
    .rw[hdf] at e2;cases e2
    .rw[N] at e2;cases e2
    .exact yO.rd_not B3 bM bM e
    .exact yO.rd_not B4 bM bM e)⟩)
  have a8:∀o,(A.drew.alloc o).cell? ⟨w.heap.size,0,none⟩=some (.pointer (some ⟨p,0,none⟩)):=λo=>(World.cell?_alloc_lt _ _ _ (by show w.heap.size<A.heap.size;omega)).trans a0
  have DF:∀o,(A.drew.alloc o).cell? ⟨w.heap.size+1,0,none⟩=some (.int .u64 (t:Int)):=λo=>(World.cell?_alloc_lt _ _ _ (by show w.heap.size+1<A.heap.size;omega)).trans a1
  have aa:∀o,(A.drew.alloc o).cell? ⟨w.heap.size+1+1,0,none⟩=some (.int .i64 (x:Int)):=λo=>(World.cell?_alloc_lt _ _ _ (by show w.heap.size+1+1<A.heap.size;omega)).trans a2
  have an:∀o,(A.drew.alloc o).cell? ⟨p,6,none⟩=some m:=λo=>(World.cell?_alloc_lt _ _ _ ab).trans a6
  clear yO ou z J g3 B3 B4
  gi_wp2
  refine fT (S:=(λw'=>w'.cell? ⟨w.heap.size,0,none⟩=some (.pointer (some ⟨p,0,none⟩))/\w'.cell? ⟨w.heap.size+1,0,none⟩=some (.int .u64 (t:Int))/\w'.cell? ⟨w.heap.size+1+1,0,none⟩=some (.int .i64 (x:Int)))) dJ dJ (by rintro⟨a,w,hq⟩;cases hq.1) ?_ (λL=>?_)
  .simp[*]
  refine tkH 0 ?_;refine tkH 1 ?_;refine tkH 2 ?_;refine tkH 3 ?_;refine tkH 5 ?_;refine tkH 6 ?_;refine tkH 7 ?_;refine tkH 8 ?_
  (try simp only[Act.put,mA,mC,mI])
  refine wpAnyH_ready (rs:=[4,9]) dJ bR ?_;refine ryC (λK b=>?_) (ryC (λK b=>?_) AllReadyH.nil)
  .go_simp;refine b.out _ _ ?_ (λL=>?_)
   .simp[*]
   clear b K
   (try simp only[Act.put,mA,mC,mI])
   refine wpAnyH_ready (rs:=[9]) dJ bR ?_;refine ryC (λK b=>?_) AllReadyH.nil;go_simp;refine b.out _ _ ?_ (λL=>?_)
   .exact⟨a8 _,DF _,aa _⟩
   clear b K
   (try simp only[Act.put,mA,mC,mI])
   refine wpAnyH_ready (rs:=[10]) dJ bR ?_;refine AllReadyH.cons rfl (λK b=>?_) AllReadyH.nil;rw[if_pos (by rfl)];refine Fg _ _ rfl B m c'.out.length (oR c'.out) t (y:Int) (x:Int) A.heap.size rfl (aD H.2.2.2.1 ((lT A).drew.alloc _) bR) rfl (heap_alloc_new _ _) bL (by have:=H.1.low;simp;omega) ?_;intro v' E R P eQ;obtain⟨av,mv,cv,rfl⟩:=ct R;have lB:=(lT A).drew.alloc (.cells #[.int .u64 (t:Int),.int .i64 (y:Int),.int .i64 (x:Int)] 207);have HN:=af (H.1.due H.2.1 H.2.2.1 H.2.2.2.1 H.2.2.2.2.1 H.2.2.2.2.2 (t,y,x) lB P R (λg X=>eQ.elim (λe=>.inl (e▸X)) (λe=>.inr (by rw[e] at X;cases X;simp))));have I:Fr m.ownBlock.toList A E:=(lB.mono bR).trans (Fr.bz P);have U:=(I.block p ab (by simp;exact pK)).trans H.2.1;have g0:=(I.block w.heap.size bL (by simp;exact m0)).trans B0;have z:=(I.block (w.heap.size+1) bL (by simp;exact m1)).trans B1;have J:=(I.block (w.heap.size+1+1) bL (by simp;exact m2)).trans B2;have d6:=ae U 6;have f6:=aj U 6;have k0:=ae g0 0;have Z:=ae z 0;have k2:=ae J 0;simp at d6 k0 Z k2;have y0:=λv=>(dB E p 6 w.heap.size 0 v bL).trans k0
   have y1:=λv=>(dB E p 6 (w.heap.size+1) 0 v bL).trans Z
   have y2:=λv=>(dB E p 6 (w.heap.size+1+1) 0 v bL).trans k2
   clear R P eQ lB I U g0 z J;refine b.out _ _ ?_ (λL=>?_)
   .simp[*]
   clear b K
   (try simp only[Act.put,List.setIfInBounds_toArray])
   refine tkH 11 ?_;refine tkH 12 ?_
   (try simp only[Act.put])
   refine wpAnyH_ready (rs:=[13]) dJ bR ?_;refine AllReadyH.cons rfl (λK b=>?_) AllReadyH.nil;go_simp;refine b.out _ _ ?_ (λL=>?_)
   .simp[*]
   clear b K
   (try simp only[Act.put,mA,mC,mI])
   refine wpAnyH_done dJ ?_ _;exact⟨rfl,HE.out _ HN.out⟩
  .go_simp;refine b.out _ _ ?_ (λL=>?_)
   .exact⟨a8 _,DF _,aa _⟩
   clear b K
   (try simp only[Act.put,mA,mC,mI])
   refine wpAnyH_ready (rs:=[4]) dJ bR ?_;refine ryC (λK b=>?_) AllReadyH.nil;go_simp;refine b.out _ _ ?_ (λL=>?_)
   .exact⟨a8 _,DF _,aa _⟩
   clear b K
   (try simp only[Act.put,mA,mC,mI])
   refine wpAnyH_ready (rs:=[10]) dJ bR ?_;refine AllReadyH.cons rfl (λK b=>?_) AllReadyH.nil;rw[if_pos (by rfl)];refine Fg _ _ rfl B m c'.out.length (oR c'.out) t (y:Int) (x:Int) A.heap.size rfl (aD H.2.2.2.1 ((lT A).drew.alloc _) bR) rfl (heap_alloc_new _ _) bL (by have:=H.1.low;simp;omega) ?_;intro v' E R P eQ;obtain⟨av,mv,cv,rfl⟩:=ct R;have lB:=(lT A).drew.alloc (.cells #[.int .u64 (t:Int),.int .i64 (y:Int),.int .i64 (x:Int)] 207);have HN:=af (H.1.due H.2.1 H.2.2.1 H.2.2.2.1 H.2.2.2.2.1 H.2.2.2.2.2 (t,y,x) lB P R (λg X=>eQ.elim (λe=>.inl (e▸X)) (λe=>.inr (by rw[e] at X;cases X;simp))));have I:Fr m.ownBlock.toList A E:=(lB.mono bR).trans (Fr.bz P);have U:=(I.block p ab (by simp;exact pK)).trans H.2.1;have g0:=(I.block w.heap.size bL (by simp;exact m0)).trans B0;have z:=(I.block (w.heap.size+1) bL (by simp;exact m1)).trans B1;have J:=(I.block (w.heap.size+1+1) bL (by simp;exact m2)).trans B2;have d6:=ae U 6;have f6:=aj U 6;have k0:=ae g0 0;have Z:=ae z 0;have k2:=ae J 0;simp at d6 k0 Z k2;have y0:=λv=>(dB E p 6 w.heap.size 0 v bL).trans k0
   have y1:=λv=>(dB E p 6 (w.heap.size+1) 0 v bL).trans Z
   have y2:=λv=>(dB E p 6 (w.heap.size+1+1) 0 v bL).trans k2
   clear R P eQ lB I U g0 z J;refine b.out _ _ ?_ (λL=>?_)
   .simp[*]
   clear b K
   (try simp only[Act.put,List.setIfInBounds_toArray])
   refine tkH 11 ?_;refine tkH 12 ?_
   (try simp only[Act.put])
   refine wpAnyH_ready (rs:=[13]) dJ bR ?_;refine AllReadyH.cons rfl (λK b=>?_) AllReadyH.nil;go_simp;refine b.out _ _ ?_ (λL=>?_)
   .simp[*]
   clear b K
   (try simp only[Act.put,mA,mC,mI])
   refine wpAnyH_done dJ ?_ _;exact⟨rfl,HE.out _ HN.out⟩
 case done =>
  rintro A ⟨yO,ou⟩ rh b
  gi_wp2
  refine⟨bR,.inl ⟨_,_,rfl,run_takeDeferred b,?_⟩⟩;obtain⟨W9,JF⟩:∃W9,W9=A.putObj d.heap.size (.deferred none):=⟨_,rfl⟩;rw[<-JF];have D:Fr [d.heap.size] A W9:=by rw[JF];exact⟨rfl,rfl,rfl,by rw[cj];exact zzc _,λj _ M=>World.putObj_heap_other (by simpa using M)⟩
  have h9:bm W9 B p lg i (n+(dK q T.parts).length) { c with out:=c.out++(dK q T.parts).map λk=>(t,k,x) }:=yO.fr D (λk f=>by
   simp at f;subst f;refine⟨bL,λe=>?_,λe=>?_⟩
   .obtain⟨es,cc,O⟩:=yO.ai.isMap;rw[<-e,b] at O;cases O
   .obtain⟨_,c9,t9,e9,_⟩:=yO.Ti e
    rw[b] at e9;cases e9)
  have JE:(dK q T.parts).length<=9:=by
   refine zzk (List.length_filter_le _ _) ?_;simp
  have ad:=G.eY.1
  have MX:gm p [p] w W9:=by
   have Z:gm p [p] w d:=HR.out.r R0 bR bR;have XF:W9.heap[p]?=A.heap[p]?:=D.block p (zzl ad ou.fr.size) cE;refine Z.trans ⟨⟨D.os.trans ou.fr.os,D.tape.trans ou.fr.tape,D.output.trans ou.fr.output,zzk ou.fr.size D.size,λj M hS=>(D.block j (zzl M ou.fr.size) cE).trans (ou.fr.block j M hS)⟩,λk f Y=>ou.stay k f (by rw[ri XF] at Y;exact Y)⟩
  exact⟨_,results_none rfl _ _ _,rfl,h9.mono bL,MX⟩
theorem vz{t:fe}{k:Nat}(h:t.Ok)(a:p<256):fe.Ok {t with parts:=t.parts.set k p}:=
 ⟨by simp[h.1],λx b=>by
  obtain e|e:=List.mem_or_eq_of_mem_set b
  .exact h.2 x e
  .rw[e];exact a⟩
theorem LP{xs:List Nat}{e:Nat}(c:e<256):∀p∈ch xs e,p<256:=by
 have:∀(l ps:List Nat),(∀p∈ps,p<256)->∀p∈l.foldl (λps x=>ps.set x e) ps,p<256:=by
  intro l;induction l with
  |nil=>intro ps h;exact h
  |cons a r ih=>
   intro ps h;rw[List.foldl_cons];refine ih _ λp d=>?_;obtain b|b:=List.mem_or_eq_of_mem_set d
   .exact h p b
   .rw[b];exact c
 exact this xs _ bM
theorem Bo(xs:List Nat)(s e z:Nat)(h:e<256):fe.Ok ⟨s,ch xs e,z⟩:=⟨mb xs e,LP h⟩
theorem Ij(c:aU)(t:Nat)(T:fe):({c with ai:=aV c.ai t T}:aU).tx t=T:=by
 unfold aU.tx;rw[ky,if_pos rfl];rfl
def aU.asked(c:aU)(t:Nat)(xs:List Nat):aU:={ c with ai:=aV c.ai t ⟨5,ch xs 1,c.aC⟩,out:=c.out++(dK l_ (ch xs 1)).map λk=>(t,k,1) }
def aU.jV(c:aU)(t:Nat):aU:={ c with ai:=aT c.ai t,res:=c.res++[(t,6)],out:=c.out++(dK u_ (c.tx t).parts).map λk=>(t,k,6) }
theorem Fh(B p lg T n t g f:Nat)(xs:List Nat)(c:aU)(w:World)(h:bm w B p lg T n c)(l:t<18446744073709551616)(Y:(c.tx t).state=4)(s:oK xs)(x:yt w g xs)(hn:n+10<67108864):
  Calls prog 33 #[.pointer<|some ⟨p,0,none⟩,.int .u64 (t:Int),.slice (some ⟨g,0,none⟩) xs.length f] w λe w'=>e=.returned .nilIface/\bm w' B p lg T (n+10) (c.asked t xs)/\gm p [p,T] w w':=by
 have hs:=jq B p lg T n t c w h l;rw[Y]at hs;have Q:=Ex g f xs s w x;have r:=vT g f 1 xs s w.drew x;have⟨C,D,E,F,G,I,J,K,L,q⟩:=nine<|mb xs 1;have P:UW (ch xs 1)=.agg #[.int .u8 (C:Int),.int .u8 (D:Int),.int .u8 (E:Int),.int .u8 (F:Int),.int .u8 (G:Int),.int .u8 (I:Int),.int .u8 (J:Int),.int .u8 (K:Int),.int .u8 (L:Int)]:=by rw[q];rfl
 rw[P]at r;have y:∀W,Fr [] w W->∃b,(Instr.mapUpdate 118 (.map<|some T) (.int .u64 (t:Int))<|.agg #[.int .i64 5,.int .u8 (C:Int),.int .u8 (D:Int),.int .u8 (E:Int),.int .u8 (F:Int),.int .u8 (G:Int),.int .u8 (I:Int),.int .u8 (J:Int),.int .u8 (K:Int),.int .u8 (L:Int),.int .u64 (c.aC:Int),.nilIface]).run prog W=.ok () b/\bm b B p lg T (n+1) {c with ai:=aV c.ai t ⟨5,ch xs 1,c.aC⟩}/\Fr [T] W b:=by
  intro W j;have o:=h.new j;have⟨b,U,zH,z⟩:=o.ai.fA underlying118 eA l (Bo xs 5 1 c.aC bM);refine⟨b,?_,o.fS (Fr.aF z) zH bL,Fr.aF z⟩;have e:(EX.ev ⟨5,ch xs 1,c.aC⟩:Value)=kO ⟨5,ch xs 1,c.aC⟩:=rfl;rw[e,q,bE]at U;exact U
 have⟨rv,ov,i,_⟩:=h.ex;have c1:=ae i 1;have c4:=ae i 4;simp at c1 c4;have N:=h.eY;have V:=af y;have X:=af (λ(W:World) (j:bm W B p lg T (n+1) {c with ai:=aV c.ai t ⟨5,ch xs 1,c.aC⟩})=>qu B p lg T (n+1) t 68 l_ Cr xr 1 {c with ai:=aV c.ai t ⟨5,ch xs 1,c.aC⟩} W j l bL);clear y P q i x h;go_enter func33,ntmps33;go_wp2_with fail;apply hs.mono;clear hs;rintro e w1 ⟨rfl,mY⟩;subst mY;go_wp2_with fail;apply Q.mono;clear Q;rintro e m ⟨rfl,ki⟩;subst ki;go_wp2;go_region_held3 (λw'=>w'.cell? (hO p 1)=some (.map<|some T)/\w'.cell? (hO p 4)=some (.int .u64 (c.aC:Int)))
  (simp[*])
  (first|(go_at_call 66;apply r.mono;rintro e d ⟨rfl,fo⟩;have z1:=(zze<|fo.block p N.1 bR).trans c1;have z4:=(zze<|fo.block p N.1 bR).trans c4;have⟨b,U,R,O⟩:=V.out d ⟨fo.os,fo.tape,fo.output,fo.size,fo.block⟩;have y1:=(zze<|O.block p (zzl N.1 fo.size)<|by simpa using N.2.2).trans z1;have y4:=(zze (a:=⟨p,4,none⟩)<|O.block p (zzl N.1 fo.size)<|by simpa using N.2.2).trans z4;have H:=af<|zzb R<|zzb fo O;clear R fo O))
 have A:=X.out b H.1;go_wp2_with fail;refine A.mono ?_;clear A;rintro e M ⟨rfl,zI,dW⟩
 have S:=af (show bm M B p lg T (n+10) (c.asked t xs)/\gm p [p,T] m M from ⟨by rw[Ij]at zI;exact zI.mono bL,by
  have u:Fr [] m d:=⟨H.2.1.os,H.2.1.tape,H.2.1.output,H.2.1.size,H.2.1.block⟩;have Z:gm p [p,T] m d:=u.r N.1 bR (by simp);have k3:gm p [p,T] d b:=H.2.2.r (zzl N.1 u.size) (by simpa using N.2.2) (by simp);exact gm.trans (gm.trans Z k3) (gm.mono dW bR)⟩)
 clear zI dW;go_wp2;go_ret;exact⟨rfl,S.out⟩
theorem LQ{K V:Type}[DecidableEq K](l:List (K × V))(k:K)(v:V):aT (aV l k v) k=aT l k:=by
 unfold aV aT;simp
theorem sO(B p lg T n t:Nat)(c:aU)(w:World)(h:bm w B p lg T n c)(f:t<18446744073709551616)(hn:n+10<67108864):
  Calls prog 182 #[.pointer (some ⟨p,0,none⟩),.int .u64 (t:Int)] w λe w'=>e=.returned (.tuple #[])/\bm w' B p lg T (n+10) (c.jV t)/\gm p [p,T] w w':=by
 have hb:=sN B p lg T n t 6 c w h (by omega);clear h
 go_enter func182,ntmps182
 go_wp2_with fail;refine hb.mono ?_;clear hb;rintro e l ⟨rfl,iX,bh⟩;have hs:=qu B p lg T (n+1) t 230 u_ WT S9 6 { c with res:=c.res++[(t,6)] } l iX f (by omega);have g:=af bh;clear iX bh;go_wp2_with fail;refine hs.mono ?_;clear hs;rintro e a ⟨rfl,ef,aQ⟩;obtain⟨r,v,d,_⟩:=ef.ex;have c1:=ae d 1;simp at c1;obtain⟨c2,G⟩:∃c2:aU,c2={ c with res:=c.res++[(t,6)],out:=c.out++(dK u_ (c.tx t).parts).map λk=>(t,k,6) }:=⟨_,rfl⟩;have b:bm a B p lg T (n+1+9) c2:=by rw[G];exact ef
 have H:=af (show bm a B p lg T (n+1+9) c2/\gm p [p] w a from ⟨b,gm.trans g.out aQ⟩);have i:=af G;clear ef b G aQ d
 go_wp2_with (first
  |(at_delete;refine iE (KR:=KU) (ER:=EX) rfl _ _ 118 128 rfl underlying118 T (n+1+9) c2.ai rfl H.1.ai t f rfl ?_;intro o Y U)
  |fail)
 have j:=H.1.fS (Fr.aF U) Y (zzc _);go_end0;refine⟨rfl,?_,gm.trans (gm.mono H.2 (by simp)) ((Fr.aF U).r H.1.eY.1 (by simpa using H.1.eY.2.2) (by simp))⟩;have:=j.mono (m:=n+10) (by omega);rw[i.out] at this;exact this
theorem CP(B p lg b n t:Nat)(c:aU)(T:fe)(d:T.Ok)(Q:T.parts.any jR=false)(w:World)(h:bm w B p lg b n c)(v:t<18446744073709551616)(hn:n+10<67108864):
  Calls prog 282 #[.pointer (some ⟨p,0,none⟩),.int .u64 (t:Int),kO T] w λe w'=>e=.returned .nilIface/\bm w' B p lg b (n+10) { c with ai:=aT c.ai t,res:=c.res++[(t,5)] }/\gm p [p,b] w w':=by
 have k:=λW=>q_ 237 jR He CH T d W
 rw[Q] at k;have r:=af k;obtain⟨s,ps,z⟩:=T;obtain⟨x,y,A,C,D,E,G,J,K,g⟩:=nine d.1
 change ps=_ at g
 subst g;rw[bE];obtain⟨a,F⟩:∃a,a=w.alloc (.cells #[.int .i64 (s:Int),.int .u8 (x:Int),.int .u8 (y:Int),.int .u8 (A:Int),.int .u8 (C:Int),.int .u8 (D:Int),.int .u8 (E:Int),.int .u8 (G:Int),.int .u8 (J:Int),.int .u8 (K:Int),.int .u64 (z:Int),.nilIface] 128):=⟨_,rfl⟩;have u:Fr [] w a:=by rw[F];exact(Fr.refl [] w).alloc _
 have I:=r.out a;rw[bE] at I;have L:=af h.eY.1;have f:=af (show bm a B p lg b n c/\Fr [] w a from ⟨h.new u,u⟩);clear k h u Q d
 go_enter func282,ntmps282
 go_wp2_with fail;rw[<-F];clear F;refine I.mono ?_;clear I;rintro e M ⟨rfl,bh⟩;have hb:=sN B p lg b n t 5 c M (f.1.new bh) (by omega);have o:=af (f.2.trans bh);clear bh;go_wp2_with fail;refine hb.mono ?_;clear hb;rintro e l ⟨rfl,ef,aQ⟩;obtain⟨O,N,i,_⟩:=ef.ex;have c1:=ae i 1;simp at c1;have H:=af (show bm l B p lg b (n+1) { c with res:=c.res++[(t,5)] }/\gm p [p] w l from ⟨ef,gm.trans (o.out.r L.out (by simp) (by simp)) aQ⟩);clear ef aQ i
 go_wp2_with (first
  |(at_delete;refine iE (KR:=KU) (ER:=EX) rfl _ _ 118 128 rfl underlying118 b (n+1) c.ai rfl H.1.ai t v rfl ?_;intro m Y U)
  |fail)
 have j:=H.1.fS (Fr.aF U) Y (zzc _);have q:=af (show bm m B p lg b (n+10) { c with ai:=aT c.ai t,res:=c.res++[(t,5)] }/\gm p [p,b] w m from ⟨j.mono (by omega),gm.trans (gm.mono H.2 (by simp)) ((Fr.aF U).r H.1.eY.1 (by simpa using H.1.eY.2.2) (by simp))⟩);clear j Y U;go_wp2;go_ret;exact⟨rfl,q.out⟩
theorem lH{s:Int}{b n o q r t u v x z:Nat}(h:w.heap[b]?=some (.cells #[.int .i64 s,.int .u8 (p:Int),.int .u8 (n:Int),.int .u8 (o:Int),.int .u8 (q:Int),.int .u8 (r:Int),.int .u8 (t:Int),.int .u8 (u:Int),.int .u8 (v:Int),.int .u8 (x:Int),.int .u64 (z:Int),.nilIface] 128 (0,0))):w.cell? ⟨b,0,none⟩=some (.int .i64 s)/\w.cell? ⟨b,1,none⟩=some (.int .u8 (p:Int))/\w.cell? ⟨b,2,none⟩=some (.int .u8 (n:Int))/\w.cell? ⟨b,3,none⟩=some (.int .u8 (o:Int))/\w.cell? ⟨b,4,none⟩=some (.int .u8 (q:Int))/\w.cell? ⟨b,5,none⟩=some (.int .u8 (r:Int))/\w.cell? ⟨b,6,none⟩=some (.int .u8 (t:Int))/\w.cell? ⟨b,7,none⟩=some (.int .u8 (u:Int))/\w.cell? ⟨b,8,none⟩=some (.int .u8 (v:Int))/\w.cell? ⟨b,9,none⟩=some (.int .u8 (x:Int))/\w.cell? ⟨b,10,none⟩=some (.int .u64 (z:Int))/\w.cell? ⟨b,11,none⟩=some (.nilIface):=by
 have e:=ae h 0;have a:=ae h 1;have f:=ae h 2;have g:=ae h 3;have i:=ae h 4;have e5:=ae h 5;have j:=ae h 6;have k:=ae h 7;have l:=ae h 8;have m:=ae h 9;have c:=ae h 10;have d:=ae h 11;simp at e a f g i e5 j k l m c d;exact⟨e,a,f,g,i,e5,j,k,l,m,c,d⟩
def aU.comm(c:aU)(t:Nat)(T:fe):aU:={ c with ai:=aV c.ai t T,res:=c.res++[(t,5)],out:=c.out++(dK jf T.parts).map λk=>(t,k,5) }
theorem Fi(B b h f m g p D N n t:Nat)(c:aU)(l:au)(d:ah)(T:fe)(R:T.Ok)(ad:T.parts.any jR=true)(w:World)(a':CL w B b h f m g p D N n c l d)(ht:t<18446744073709551616)(hm:m+20<67108864)(hn:n+3<67108864)(hB:2<=B)(lN:l.filled<600->l.segs≠[])(aH:bI w)
  (XI:(l.keep d 2<|str<|be 8 t++dK jR T.parts).2.2=0) :
  Calls prog 282 #[.pointer<|some ⟨b,0,none⟩,.int .u64 (t:Int),kO T] w λe w'=>e=.returned .nilIface/\CL w' B b h f (m+11) g p D N (n+3) (c.comm t {T with state:=6}) (l.keep d 2<|str<|be 8 t++dK jR T.parts).1 (l.keep d 2<|str<|be 8 t++dK jR T.parts).2.1/\mN b f g p w w':=by
 have HH:=af λW=>(q_ 237 jR He CH T R W);have HE:=af λW=>qp t T R W ht;obtain⟨S,hS⟩:∃S,S=str (be 8 t++dK jR T.parts):=⟨_,rfl⟩;rw[<-hS]at HE XI ⊢;rw[ad]at HH;have al:fe.Ok {T with state:=6}:=R;obtain⟨i,X⟩:∃i:fe,i={T with state:=6}:=⟨_,rfl⟩;rw[<-X]at al ⊢;have aE:=af X;clear hS ad X;obtain⟨s,ps,z⟩:=T;obtain⟨j,o,q,r,u,x,y,A,C,az⟩:=nine R.1
 change ps=_ at az
 subst az;rw[bE]at HH HE ⊢;have X:i=⟨6,[j,o,q,r,u,x,y,A,C],z⟩:=aE.out
 have CQ:=af (λ(W:World) (m':Nat) (h2:bm W B b h f m' c) (tC:m' < maxLen)=>(by
  obtain⟨E,rU,zH,pB⟩:=h2.ai.fA underlying118 tC (k:=t) ht (v:=i) al;refine⟨E,?_,h2.fS (Fr.aF pB) zH bL,Fr.aF pB⟩;have e:(EX.ev i:Value)=kO i:=rfl;rw[e,X,bE]at rU
  exact rU:∃E,(Instr.mapUpdate 118 (.map (some f)) (.int .u64 (t:Int)) (.agg #[.int .i64 6,.int .u8 (j:Int),.int .u8 (o:Int),.int .u8 (q:Int),.int .u8 (r:Int),.int .u8 (u:Int),.int .u8 (x:Int),.int .u8 (y:Int),.int .u8 (A:Int),.int .u8 (C:Int),.int .u64 (z:Int),.nilIface])).run prog W=.ok () E/\bm E B b h f (m' + 1) {c with ai:=aV c.ai t i}/\Fr [f] W E))
 obtain⟨F,U⟩:∃F,F=w.alloc (.cells #[.int .i64 (s:Int),.int .u8 (j:Int),.int .u8 (o:Int),.int .u8 (q:Int),.int .u8 (r:Int),.int .u8 (u:Int),.int .u8 (x:Int),.int .u8 (y:Int),.int .u8 (A:Int),.int .u8 (C:Int),.int .u64 (z:Int),.nilIface] 128):=⟨_,rfl⟩;have cu:Fr [] w F:=by rw[U];exact(lT w).alloc _
 obtain⟨qM,nV⟩:=a'.new cu;have r0:F.heap[w.heap.size]?=some (.cells #[.int .i64 (s:Int),.int .u8 (j:Int),.int .u8 (o:Int),.int .u8 (q:Int),.int .u8 (r:Int),.int .u8 (u:Int),.int .u8 (x:Int),.int .u8 (y:Int),.int .u8 (A:Int),.int .u8 (C:Int),.int .u64 (z:Int),.nilIface] 128 (0,0)):=by rw[U];exact heap_alloc_new w _
 have uI:=HH.out F;have CM:=a'.oN;have J:=af<|show CL F B b h f m g p D N n c l d/\mN b f g p w F/\F.heap[w.heap.size]?=some (.cells #[.int .i64 (s:Int),.int .u8 (j:Int),.int .u8 (o:Int),.int .u8 (q:Int),.int .u8 (r:Int),.int .u8 (u:Int),.int .u8 (x:Int),.int .u8 (y:Int),.int .u8 (A:Int),.int .u8 (C:Int),.int .u64 (z:Int),.nilIface] 128 (0,0))/\bI F from ⟨qM,nV,r0,(nV.gF a').lh hB aH⟩;obtain⟨y0,y1,y2,y3,y4,y5,y6,y7,y8,y9,ya,yb⟩:=lH r0;rw[U]at y0 y1 y2 y3 y4 y5 y6 y7 y8 y9 ya yb;clear a' cu qM nV r0 R aH
 go_enter func282,ntmps282
 go_wp2_with fail;rw[<-U];clear U y0 y1 y2 y3 y4 y5 y6 y7 y8 y9 ya yb;refine uI.mono ?_;clear uI;rintro e L ⟨rfl,bh⟩;obtain⟨iX,eG⟩:=J.1.new bh;have r1:=(bh.block w.heap.size (zza.1 J.2.2.1).1 bR).trans J.2.2.1;obtain⟨e0,e1,e2,e3,e4,e5,e6,e7,e8,e9,b',bc⟩:=lH r1;obtain⟨rv,ov,g1,_⟩:=iX.co.ex;have Z:=ae g1 0;simp at Z;rw[dE CM]at Z;have bd:=HE.out L.drew;have Q:=af<|show CL L B b h f m g p D N n c l d/\mN b f g p w L/\L.heap[w.heap.size]?=some (.cells #[.int .i64 (s:Int),.int .u8 (j:Int),.int .u8 (o:Int),.int .u8 (q:Int),.int .u8 (r:Int),.int .u8 (u:Int),.int .u8 (x:Int),.int .u8 (y:Int),.int .u8 (A:Int),.int .u8 (C:Int),.int .u64 (z:Int),.nilIface] 128 (0,0))/\bI L from ⟨iX,J.2.1.trans eG,r1,(eG.gF J.1).lh hB J.2.2.2⟩;have dY:=(zza.1 r1).1;have eh:=iX.co.eY.1;clear bh iX eG r1 J g1;go_wp2
 go_region_held3 (λw'=>w'.cell? ⟨b,0,none⟩=some (.pointer<|some ⟨h,0,none⟩)/\w'.cell? ⟨w.heap.size,0,none⟩=some (.int .i64 (s:Int))/\w'.cell? ⟨w.heap.size,1,none⟩=some (.int .u8 (j:Int))/\w'.cell? ⟨w.heap.size,2,none⟩=some (.int .u8 (o:Int))/\w'.cell? ⟨w.heap.size,3,none⟩=some (.int .u8 (q:Int))/\w'.cell? ⟨w.heap.size,4,none⟩=some (.int .u8 (r:Int))/\w'.cell? ⟨w.heap.size,5,none⟩=some (.int .u8 (u:Int))/\w'.cell? ⟨w.heap.size,6,none⟩=some (.int .u8 (x:Int))/\w'.cell? ⟨w.heap.size,7,none⟩=some (.int .u8 (y:Int))/\w'.cell? ⟨w.heap.size,8,none⟩=some (.int .u8 (A:Int))/\w'.cell? ⟨w.heap.size,9,none⟩=some (.int .u8 (C:Int))/\w'.cell? ⟨w.heap.size,10,none⟩=some (.int .u64 (z:Int))/\w'.cell? ⟨w.heap.size,11,none⟩=some (.nilIface))
  (simp[*])
  (first|(go_at_call 192;refine bd.mono ?_;rintro e M ⟨rfl,cZ⟩;have Y:=(lT L).drew.trans<|Fr.aX cZ [];obtain⟨ef,iL⟩:=Q.1.new Y;have r2:=(Y.block w.heap.size dY bR).trans Q.2.2.1;obtain⟨a0,a1,a2,a3,a4,a5,a6,a7,a8,a9,aa,ab⟩:=lH r2;have k0:=(zze (a:=⟨b,0,none⟩)<|Y.block b eh bR).trans Z;have K:=af<|show CL M B b h f m g p D N n c l d/\mN b f g p w M/\M.heap[w.heap.size]?=some (.cells #[.int .i64 (s:Int),.int .u8 (j:Int),.int .u8 (o:Int),.int .u8 (q:Int),.int .u8 (r:Int),.int .u8 (u:Int),.int .u8 (x:Int),.int .u8 (y:Int),.int .u8 (A:Int),.int .u8 (C:Int),.int .u64 (z:Int),.nilIface] 128 (0,0))/\bI M from ⟨ef,Q.2.1.trans iL,r2,(iL.gF Q.1).lh hB Q.2.2.2⟩;clear Y cZ ef iL r2)|(go_at_call 97;obtain⟨pv,sv,bf,nD,nN,uF⟩:=K.1.lg;refine(tR B h g p D N n nD nN 2 pv sv bf l d S M K.1.ju uF bL hn hB lN K.2.2.2).mono ?_;rintro e P ⟨rfl,qg,pN⟩;obtain⟨mQ,po⟩:=K.1.log pN qg;have r3:=po.cells K.1 K.2.2.1 bM bM bM bM bM bM bM bM;obtain⟨b0,b1,b2,b3,b4,b5,b6,b7,b8,b9,ba,bb⟩:=lH r3;obtain⟨bl,Zr,g3,_⟩:=mQ.co.ex;have n0:=ae g3 0;simp at n0;rw[dE CM]at n0;have H:=af<|show CL P B b h f m g p D N (n+3) c (l.keep d 2 S).1 (l.keep d 2 S).2.1/\mN b f g p w P/\P.heap[w.heap.size]?=some (.cells #[.int .i64 (s:Int),.int .u8 (j:Int),.int .u8 (o:Int),.int .u8 (q:Int),.int .u8 (r:Int),.int .u8 (u:Int),.int .u8 (x:Int),.int .u8 (y:Int),.int .u8 (A:Int),.int .u8 (C:Int),.int .u64 (z:Int),.nilIface] 128 (0,0))from ⟨mQ,K.2.1.trans po,r3⟩;clear uF qg pN mQ po r3 g3))
 rw[bK];have fz:=aj H.2.2 0;have uf:w.heap.size<P.heap.size:=(zza.1 H.2.2).1;go_wp2;obtain⟨G,iJ⟩:∃G,G=P.setCell ⟨w.heap.size,0,none⟩ (.int .i64 6):=⟨_,rfl⟩;rw[<-iJ];have V:Fr [w.heap.size] P G:=by rw[iJ];exact Fr.cD bR _ _
 have r4:G.heap[w.heap.size]?=some (.cells #[.int .i64 6,.int .u8 (j:Int),.int .u8 (o:Int),.int .u8 (q:Int),.int .u8 (r:Int),.int .u8 (u:Int),.int .u8 (x:Int),.int .u8 (y:Int),.int .u8 (A:Int),.int .u8 (C:Int),.int .u64 (z:Int),.nilIface] 128 (0,0)):=by
  rw[iJ];have:=ar H.2.2 0<|.int .i64 6
  simpa using this
 obtain⟨O,kq⟩:=H.1.XH V H.2.2 bM bM bM bM bM bM bM bM bM bM;have aw:=H.2.1.v_ V (zzc _) kq (V.block b H.1.co.eY.1<|by simp;intro e;obtain⟨cs,av⟩:=H.1.co.yN;rw[e,H.2.2]at av;cases av);obtain⟨d0,d1,d2,d3,d4,d5,d6,d7,d8,d9,da,db⟩:=lH r4;obtain⟨bn,bg,g4,_⟩:=O.co.ex;have u1:=ae g4 1;simp at u1;obtain⟨E,rU,JR,I⟩:=CQ.out G.drew m (O.co.new (lT G).drew) eA;have an:=O.co.eY
 have Sy:¬w.heap.size=f:=by
  intro e;obtain⟨es,cc,e2⟩:=O.co.ai.isMap;rw[<-e,r4]at e2;cases e2
 have r5:=(I.block w.heap.size (by show w.heap.size<G.heap.size;have:=V.size;omega)<|by simpa using Sy).trans r4;obtain⟨t0,t1,t2,t3,t4,t5,t6,t7,t8,t9,ta,tb⟩:=lH r5;have u5:=(zze (a:=⟨b,1,none⟩)<|I.block b an.1<|by simpa using an.2.2).trans u1
 have H5:=af (show CL E B b h f (m+1) g p D N (n+3) {c with ai:=aV c.ai t i} (l.keep d 2 S).1 (l.keep d 2 S).2.1/\mN b f g p w E from by
  have aI:Fr [f] G E:=⟨I.os,I.tape,I.output,I.size,I.block⟩;obtain⟨k1,k2⟩:=O.ic JR<|aI.r O.co.eY.1 (by simpa using O.co.eY.2.2) bR
  exact⟨k1,aw.trans k2⟩)
 clear V r4 O kq aw g4 JR I r5 iJ fz;clear b0 b1 b2 b3 b4 b5 b6 b7 b8 b9 ba bb a0 a1 a2 a3 a4 a5 a6 a7 a8 a9 aa ab e0 e1 e2 e3 e4 e5 e6 e7 e8 e9 b' bc Z k0 n0
 go_region_held3 (λw'=>w'.cell? ⟨b,1,none⟩=some (.map<|some f)/\w'.cell? ⟨w.heap.size,0,none⟩=some (.int .i64 6)/\w'.cell? ⟨w.heap.size,1,none⟩=some (.int .u8 (j:Int))/\w'.cell? ⟨w.heap.size,2,none⟩=some (.int .u8 (o:Int))/\w'.cell? ⟨w.heap.size,3,none⟩=some (.int .u8 (q:Int))/\w'.cell? ⟨w.heap.size,4,none⟩=some (.int .u8 (r:Int))/\w'.cell? ⟨w.heap.size,5,none⟩=some (.int .u8 (u:Int))/\w'.cell? ⟨w.heap.size,6,none⟩=some (.int .u8 (x:Int))/\w'.cell? ⟨w.heap.size,7,none⟩=some (.int .u8 (y:Int))/\w'.cell? ⟨w.heap.size,8,none⟩=some (.int .u8 (A:Int))/\w'.cell? ⟨w.heap.size,9,none⟩=some (.int .u8 (C:Int))/\w'.cell? ⟨w.heap.size,10,none⟩=some (.int .u64 (z:Int))/\w'.cell? ⟨w.heap.size,11,none⟩=some (.nilIface))
  (simp[*])
  (fail)
 have ao:=sN B b h f (m+1) t 5 _ E H5.1.co bL;go_wp2_with fail;refine ao.mono ?_;clear ao;rintro e w6 ⟨rfl,zI,dW⟩;obtain⟨k6,x6⟩:=H5.1.ic zI (gm.mono dW bR);have pA:=qu B b h f (m+1+1) t 183 jf xm ud 5 _ w6 zI ht bL;have Hn:({c with ai:=aV c.ai t i,res:=c.res++[(t,5)]}:aU).tx t=i:=Ij _ t i;rw[Hn]at pA;clear Hn;have H6:=af<|show CL w6 B b h f (m+1+1) g p D N (n+3) {c with ai:=aV c.ai t i,res:=c.res++[(t,5)]} (l.keep d 2 S).1 (l.keep d 2 S).2.1/\mN b f g p w w6 from ⟨k6,H5.2.trans x6⟩;clear zI dW k6 x6;go_wp2_with fail;refine pA.mono ?_;clear pA;rintro e w7 ⟨rfl,LR,fJ⟩;obtain⟨k7,x7⟩:=H6.1.ic LR (gm.mono fJ bR);have H7:=af (show CL w7 B b h f (m+11) g p D N (n+3) (c.comm t i) (l.keep d 2 S).1 (l.keep d 2 S).2.1/\mN b f g p w w7 from ⟨by rw[show m+11=m+1+1+9 by omega];exact k7,H6.2.trans x7⟩);clear LR fJ k7 x7;go_wp2;go_ret;exact⟨rfl,H7.out⟩
end
end Go.Proofs.YtcalalndmcemiaaGreatDoor
