import Derived.Test.YtlgeloebpdmnnaaGreatDoorC12
import Derived.Test.YtlgeloebpdmnnaaGreatDoorC10
import Derived.Test.YtlgeloebpdmnnaaGreatDoorC15
import Derived.Test.YtlgeloebpdmnnaaGreatDoorC14
set_option maxHeartbeats 4000000
set_option maxRecDepth 100000
namespace Go.Proofs.YtlgeloebpdmnnaaGreatDoor
open Go.RowKit Go.Maps Tryz Sc
variable{a b:Nat}
theorem Lm(u:Nat):Lib.decDigits u≠[]:=by
 rw[Lib.decDigits];split<;>simp
theorem Nt(d:a<10)(hb:b<10)(h:UInt8.ofNat (48+a)=UInt8.ofNat (48+b)):a=b:=by
 have c:=congrArg UInt8.toNat h;simp at c;omega
theorem XI:∀(n a b:Nat),a<n->Lib.decDigits a=Lib.decDigits b->a=b:=by
 intro n
 induction n with
 |zero=>grind
 |succ n ih=>
  intro a b hn h;rw[Lib.decDigits,Lib.decDigits.eq_def b]at h;split at h
  .split at h
   .grind [Nt]
   .have:=congrArg List.length h;have d:0<(Lib.decDigits<|b/10).length:=zzE.2<|Lm _;rw[zzi]at this;simp only[zzr,List.length_nil]at this;omega
  .split at h
   .have:=congrArg List.length h;have d:0<(Lib.decDigits<|a/10).length:=zzE.2<|Lm _;rw[zzi]at this;simp only[zzr,List.length_nil]at this;omega
   .rename_i ha hb;have⟨e,c⟩:=List.append_inj' h rfl;simp only[List.cons.injEq,and_true]at c;have d:=Nt dp dp c;have f:=ih (a/10) (b/10) dp e;omega
theorem qU(u:Nat):(aw u).data.toList=[115,101,103,109,101,110,116,45]++Lib.decDigits u:=by
 unfold aw;rw[ByteArray.data_append];simp
theorem fN(h:aw a=aw b):a=b:=by
 have c:=congrArg (λx:nS=>x.data.toList) h;simp only[qU]at c;exact XI (a+1) a b dp<|List.append_cancel_left c
theorem br(u:Nat):aw u≠eA/\aw u≠cD:=by grind[qU,eA,cD]
def starts:Nat->List (List Rec)->List Nat
 |_,[]=>[]
 |n,c :: cs=>n :: starts (n+c.length) cs
theorem eT:∀(cs:List<|List Rec) (n:Nat),(starts n cs).length=cs.length
 |[],_=>rfl
 |c::cs,n=>by simp[starts,eT cs]
theorem lq:∀(cs:List<|List Rec) (n k:Nat),k<cs.length->(starts n cs)[k]?=some (n+(cs.take k).flatten.length)
 |[],_,_,h=>absurd h dv
 |c::cs,n,0,_=>by simp[starts]
 |c::cs,n,k+1,h=>by
  have:=lq cs (n+c.length) k (by simpa using h);simp only[starts,List.getElem?_cons_succ,this];simp;omega
theorem eF:∀(cs:List<|List Rec) (n:Nat) (c:List Rec),starts n (cs++[c])=starts n cs++[n+cs.flatten.length]
 |[],_,_=>by simp[starts]
 |b::cs,n,c=>by
  simp only[List.cons_append,starts,eF cs];simp;omega
theorem sH:∀(cs:List<|List Rec) (n k:Nat),(starts n cs).drop k=starts (n+(cs.take k).flatten.length) (cs.drop k)
 |[],_,k=>by simp[starts]
 |c::cs,n,0=>dv
 |c::cs,n,k+1=>by
  simp only[starts,List.drop_succ_cons,sH cs];simp[Nat.add_assoc]
theorem vC:∀(cs:List<|List Rec) (n:Nat) (a b:List Rec),starts n (cs++[a])=starts n (cs++[b]):=by grind[eF]
theorem oC:∀(cs:List<|List Rec) (n:Nat),(∀c∈cs,c≠[])->(starts n cs).Pairwise (· < ·)/\∀s∈starts n cs,n<=s
 |[],_,_=>by simp[starts]
 |c::cs,n,h=>by
  have⟨f,b⟩:=oC cs (n+c.length) (λd g=>h d<|by simp[g]);have i:=zzE.2 (h c dv);refine⟨?_,?_⟩
  .simp only[starts,zzA];exact⟨λs a=>by have:=b s a;omega,f⟩
  .intro s a;simp only[starts,zzj]at a;obtain e|a:=a
   .omega
   .have:=b s a;omega
theorem BA{segs:List Nat}{low:Nat}:∀(f k:Nat),(fF segs low f k=k\/∃x,segs[fF segs low f k]?=some x/\x<=low)/\(segs.length<=k+f->∀x,segs[fF segs low f k+1]?=some x->low<x):=by
 intro f;induction f with
 |zero=>grind[fF]
 |succ f ih=>
  intro k;by_cases h:k+1<segs.length
  .obtain⟨s,hs⟩:∃s,segs[k+1]?=some s:=⟨_,zzg h⟩;by_cases l:s<=low
   .grind [vy]
   .grind [vz]
  .grind [vx]
theorem sI(segs:List Nat)(low:Nat):(bM segs low=0\/∃x,segs[bM segs low]?=some x/\x<=low)/\∀x,segs[bM segs low+1]?=some x->low<x:=by
 obtain⟨h,a⟩:=BA (low:=low) segs.length 0;exact⟨h,a dp⟩
def eU:List Rec->Nat
 |[]=>0
 |r :: l=>15+r.pay.length+eU l
theorem ld(a b:List Rec):eU (a++b)=eU a+eU b:=by
 induction a with
 |nil=>simp[eU]
 |cons r a ih=>grind[eU]
section
variable{w w':nL}{B p h E n I J:Nat}{pv:Value}{d:aj}
theorem aC.geD(a:aC w B p h E pv d n I J){k:Nat}(b:nj p w k):B<=k:=by
 have:=(a.fI k).1 b;simp at this;obtain e|e|e|e:=this
 .rw[e];exact a.base.1
 .rw[e];exact a.base.2.1
 .rw[e];exact a.base.2.2.1
 .exact(a.pen.lt k e).1
theorem qQ.below(hf:qQ p w w')(a:aC w B p h E pv d n I J):Below B w w':=
 ⟨hf.os,hf.tape,hf.output,hf.size,λk b=>hf.block k (zzl b a.base.2.2.2) λo=>by have:=a.geD o;omega⟩
end
theorem aM.other{w w':nL}{B p h E n I J q:Nat}{pv s v:Value}{l:au}{d:aj}{c:Array Value}{t:TypeId}(a:aM w B b p h E pv s v l d n I J)(hf:Fr [q] w w')(k:w.heap[q]?=some (.cells c t (0,0)))(e:t≠65)(f:t≠200)(g:t≠177)(i:t≠34)(j:t≠89)(m:t≠9):aM w' B b p h E pv s v l d n I J:=by
 have o:=a.free k e f g i j;rw[a.own]at o;simp only[not_or]at o;refine a.turned (a.bP.fr hf ?_ ?_ ?_ ?_ ?_) hf ?_<|zzc _<;>grind
section
variable{l:au}{d:aj}{E c:Nat}{cs:List (List Rec)}
theorem BC(k:Nat)(cs:List<|List Rec):cs.flatten=(cs.take k).flatten++(cs.drop k).flatten:=by
 rw[<-List.flatten_append,Ez]
theorem dY(cs:List<|List Rec)(a:List Rec):(cs++[a]).flatten=cs.flatten++a:=dv
theorem Pw{L:List Rec}{f:Nat}(h:∀(k:Nat) (r:Rec),L[k]?=some r->r.cW=f+k)(x:Rec)(hx:x.cW=f+L.length):∀(k:Nat) (r:Rec),(L++[x])[k]?=some r->r.cW=f+k:=by grind
end
section
open Go.Shelf
variable{rs:List Rec}{v:Value}{w:nL}
structure lQ(w:nL)(lp:Nat)(rv:Value)(rs:List Rec):Prop where
 lt:lp<w.heap.size
 cell:w.cell? (hP lp 3)=some rv
 recs:yf w.heap.size w rv rs
theorem lQ.below{w':nL}{l:Nat}(h:lQ w l v rs)(hb:Below w.heap.size w w'):lQ w' l v rs:=
 ⟨zzl h.lt hb.size,(hb.cell h.lt).trans h.cell,by
  obtain e|⟨g,cap,e,hg,hr⟩:=h.recs.below hb
  .exact .inl e
  .exact .inr ⟨g,cap,e,zzl hg hb.size,hr⟩⟩
theorem lQ.rows{p:Nat}(h:lQ w p v rs):∀k∈rowsOf v,k<w.heap.size:=by
 intro k a;rcases h.recs with⟨rfl,_⟩|⟨g,c,rfl,b,_⟩
 .simp[rowsOf,Value.ownBlock]at a
 .simp[rowsOf,Value.ownBlock]at a;omega
end
section
variable{w w':nL}{B E p h I n a f:Nat}{pv O J:Value}{l:au}{d:aj}
theorem aM.Nr(g:aM w B E p h I pv O J l d n a f){b:Nat}(hb:∃es c,w.heap[b]?=some (.map es c))(i:b≠h)(j:b≠I):¬Own E p w b:=by
 have⟨es,c,hb⟩:=hb;rw[g.own];rintro (e|e|e|e|e|e|e)
 .subst e;rw[g.blk]at hb;cases hb
 .subst e;rw[g.bP.blk]at hb;cases hb
 .exact i e
 .exact j e
 .obtain⟨c,hc⟩:=aL g.bP.pen e;rw[hc]at hb;cases hb
 .obtain⟨c,hc⟩:=aL g.segs e;rw[hc]at hb;cases hb
 .obtain⟨c,hc⟩:=aL g.recs e;rw[hc]at hb;cases hb
theorem aM.apart{S:List Nat}(b:aM w B E p h I pv O J l d n a f)(hf:Fr S w w')(i:∀k∈S,k<w.heap.size->¬Own E p w k/\∀t,w.heap[k]?≠some (gN t)):aM w' B E p h I pv O J l d n a f:=by
 have y:∀k,k<(nF w)->Own E p w k->k∉S:=λk c o m=>(i k m c).1 o
 have lt:∀k,Own E p w k->k<(nF w):=λk o=>by
  obtain e|e|e|e|e|e|e:=(b.own k).1 o
  .rw[e];exact(zza.1 b.blk).1
  .rw[e];exact(zza.1 b.bP.blk).1
  .rw[e];exact b.bP.lB.lt
  .rw[e];exact b.bP.now.lt
  .exact(b.bP.pen.lt k e).2
  .exact(b.segs.lt k e).2
  .exact(b.recs.lt k e).2
 have r:∀k,Own E p w k->k∉S:=λk o=>y k (lt k o) o
 have H:∀{k},(k=E\/k=p\/k=h\/k=I\/pv.ownBlock=some k\/O.ownBlock=some k\/J.ownBlock=some k)->k∉S:=λ{k} c=>r k<|(b.own k).2 c
 refine b.turned (b.bP.fr hf (H dv) (H dv) (H dv) (λg j=>H<|by simp[j]) λq u t=>?_) hf (λk c s=>?_)<|zzc _<;>grind
end
section
open Go.Shelf
theorem Tj(p x:Nat)(w:nL)(h:w.cell? (hP p 4)=some (.int .u64 (x:Int))):Calls prog 96 #[gx p] w λe w'=>e=.returned (.int .u64 (x:Int))/\w'=w:=by
 go_enter func96,ntmps96;go_wp2;go_ret;exact⟨rfl,rfl⟩
def pF(rs:List Rec)(x:Nat):Nat:=match rs with|[]=>x|r :: _=>r.cW
theorem Li{a b:List Rec}{n:Nat}(e:a≠[])(h:a<+:b):pF b n=pF a 0:=by
 obtain⟨t,rfl⟩:=h;cases a with
 |nil=>grind
 |cons x r=>rfl
theorem Lj(n:Nat)(hn:4<=n)(b f:Nat)(z:Value)(rs:List Rec)(hlen:rs.length<=1000000000)(w:nL)(L:lQ w b z rs)(U:w.cell? (hP b 4)=some (.int .u64 (f:Int))):
  CallsIn Fence.wide n prog 208 #[gx b] w λe w'=>e=.returned (.int .u64 (pF rs f:Int))/\Below w.heap.size w w':=by
 have t:Fence.wide.round=none:=rfl;have q:1<=n:=dp;have H:Fence.wide.fn 97:=trivial;have F:Fence.wide.fn 154:=trivial;have iI:Fence.wide.fn 96:=trivial;refine callsIn_of_wp_marks func208 rfl trivial ?_ t;simp only[ntmps208,ji,zzr,jn,Nat.reduceAdd,Nat.reduceSub,mK,jo,j7,j8,kV,lC]
 gi_wp2_with (gi_at_call 97;refine(Lb Fence.wide (n-1) H t _ _).mono ?_;rintro e w' ⟨rfl,rfl⟩)
 have R:=Boxed.new w 34 (.int .u64 0);have A:=Boxed.new (w.alloc (.cells #[.int .u64 0] 34)) 66 (.pointer (some ⟨b,0,none⟩));rw[zzv] at A;have v:=R.alloc (.cells #[.pointer (some ⟨b,0,none⟩)] 66);have O:Below w.heap.size w ((w.alloc (.cells #[.int .u64 0] 34)).alloc (.cells #[.pointer (some ⟨b,0,none⟩)] 66)):=((zzD _ w).alloc (zzc _) _).alloc dv _;have S:((w.alloc (.cells #[.int .u64 0] 34)).alloc (.cells #[.pointer (some ⟨b,0,none⟩)] 66)).heap.size=w.heap.size+2:=dv
 obtain⟨j,Z⟩:∃j,j=(w.alloc (.cells #[.int .u64 0] 34)).alloc (.cells #[.pointer (some ⟨b,0,none⟩)] 66):=⟨_,rfl⟩;rw[<-Z] at A v O S ⊢;clear Z R;have g:=L.below O;have Y:=L.lt
 refine wpIn_rangeFunc_ownH t q (gf:=154) (lb:=#[.pointer (some ⟨w.heap.size+1,0,none⟩)]) rfl F (enters_of func154 eu rfl)
  (Bv (n-1) dp (w.heap.size+1) b z rs j hlen dp g.lt A.cell g.cell g.recs) (λh k=>h.trans k) (nP.book g.rows) (zzD _ _) (λ_=>rfl)
  (λd W=>(Boxed W w.heap.size 34 (.int .u64 0)/\d=[])/\Below w.heap.size w W)
  (λc d W=>(Boxed W w.heap.size 34 (.int .u64 (pF (d.map (·.1)) 0:Int))/\(c=.ret/\d≠[]))/\Below w.heap.size w W)
  (OwnFrom.and (OwnFrom.and (Own.from (boxed_own _ _ _) _) (ownFrom_pure _ _)) (ownFrom_below (zzc _) dp))
  (λc=>OwnFrom.and (OwnFrom.and (Own.from (boxed_own _ _ _) _) (ownFrom_pure _ _)) (ownFrom_below (zzc _) dp))
  ⟨⟨v,rfl⟩,O⟩
  (λx m W=>∃B,w.heap.size<B/\W.heap[B]?=some (.cells #[.int .u64 (x.1.cW:Int),.int .u8 (x.1.kind:Int),.string (str x.1.pay)] 89 (0,0))/\m={ tmps:=#[.pointer (some ⟨b,0,none⟩),undef,.pointer (some ⟨w.heap.size,0,none⟩),.pointer (some ⟨B,0,none⟩),.pointer (some ⟨b,0,none⟩),.func (.func 154) #[] #[.pointer (some ⟨w.heap.size+1,0,none⟩)],Hy x.1,undef,undef,undef,undef],defers:=[] })
  (λx m _ X a7 row Q M P=>by
   obtain⟨B,q,r,G⟩:=Q
   exact⟨B,q,(M.block B (zza.1 r).1 (λe=>by obtain⟨_,o,y,J⟩:=P B e.symm;rw[r] at y;cases y;cases J)).trans r,G⟩)
  ?assign ?body ?done ?stop
 case assign =>
  have V:=@Bg;rintro l d x W a1 ⟨⟨tX,hp⟩,Gt⟩ hK
  gi_wp2
  exact hK _ _ ((KeepsOthers.alloc _ _).from _) (nP.alloc _ _) ⟨⟨tX.alloc _,hp⟩,Gt.alloc Gt.size _⟩ ⟨W.heap.size,tX.lt,Cy W _,rfl⟩
 case body =>
  have V:=@Bg;rintro l d x m W eL _ ⟨⟨tX,rfl⟩,hB⟩ ⟨B,hBx,bX,rfl⟩ bW;have x0:=bj bX 0;simp at x0;have c2:=tX.cell;have C:=tX.frozen
  gi_wp2
  refine⟨((KeepsOthers.setCell W _ _).from _),⟨tX.set _,rfl,dv⟩,hB.setCell (p:=⟨w.heap.size,0,none⟩) (zzc _) _⟩
 case done =>
  rintro D ys W hD T ⟨⟨tX,rfl⟩,hB⟩ hK;have I:rs=[]:=by rw[<-T];rfl
  have c2:=tX.cell;have C:=tX.frozen;have c4:=(hB.cell (p:=⟨b,4,none⟩) Y).trans U
  gi_wp2_with (gi_at_call 96;refine((yY (n:=n-1)).2 (Tj b f W c4)).mono ?_;rintro e w' ⟨rfl,rfl⟩)
  obtain⟨a,E⟩:∃a,a=w'.setCell ⟨w.heap.size,0,none⟩ (.int .u64 (f:Int)):=⟨_,rfl⟩;rw[<-E];have v2:Boxed a w.heap.size 34 (.int .u64 (f:Int)):=by rw[E];exact tX.set _
  have s:Below w.heap.size w a:=by rw[E];exact hB.setCell (p:=⟨w.heap.size,0,none⟩) (zzc _) _
  have i:a.heap[D]?=some (.deferred (some [])):=by rw[E];exact(wg _ _ _ D (by show D≠w.heap.size;omega)).trans hK
  clear E;refine⟨dv,.inl ⟨_,_,rfl,DK i,?_⟩⟩;have u:=(v2.kept (grownBy_putObj' a D (.deferred none)) ef).cell;refine⟨.int .u64 (f:Int),?_,by rw[I];rfl,s.trans (belowK_b (w:=w) (zzc _) a D _ _ dp i rfl rfl)⟩;simp only[results,f208];simp[go_sem,u]
 case stop =>
  rintro D c d W hD N ⟨⟨tX,rfl,hne⟩,hB⟩ hK;have K:pF rs f=pF (d.map (·.1)) 0:=Li (λe=>hne (List.map_eq_nil_iff.1 e)) N
  gi_wp2
  obtain⟨a,E⟩:∃a,a=W:=⟨_,rfl⟩;rw[<-E];have v2:Boxed a w.heap.size 34 (.int .u64 (pF (d.map (·.1)) 0:Int)):=by rw[E];exact tX
  have s:Below w.heap.size w a:=by rw[E];exact hB
  have i:a.heap[D]?=some (.deferred (some [])):=by rw[E];exact hK
  clear E;refine⟨dv,.inl ⟨_,_,rfl,DK i,?_⟩⟩;have u:=(v2.kept (grownBy_putObj' a D (.deferred none)) ef).cell;refine⟨.int .u64 (pF (d.map (·.1)) 0:Int),?_,by rw[K],s.trans (belowK_b (w:=w) (zzc _) a D _ _ dp i rfl rfl)⟩;simp only[results,f208];simp[go_sem,u]
end
def eI.Small(s:eI):Prop:=∀p∈s.holds,aaR (p.1.2,p.2)
section
open Go.Shelf
variable{m:Nat}
structure oy(n:Nat)(S:List Nat)(A B:nL):Prop where
 size:A.heap.size<=B.heap.size
 high:∀k,n<=k->k<A.heap.size->B.heap[k]?=A.heap[k]?
 same:∀k∈S,k<A.heap.size->B.heap[k]?=A.heap[k]?
theorem oy.refl(n:Nat)(S:List Nat)(A:nL):oy n S A A:=⟨zzc _,λ_ _ _=>rfl,λ_ _ _=>rfl⟩
theorem oy.mono{n:Nat}{S:List Nat}{A B:nL}(h:oy n S A B)(b:n<=m):oy m S A B:=⟨h.size,λk a=>h.high k<|zzk b a,h.same⟩
theorem oy.alloc(n:Nat)(S:List Nat)(A:nL)(o:Obj):oy n S A (A.alloc o):=⟨dv,λk _ l=>zzf _ _ k l,λk _ l=>zzf _ _ k l⟩
theorem cJ(W:nL)(l:Nat)(o:Obj):(W.putObj l o).heap.size=W.heap.size:=dv
def aaQ{α:Type}(F:Fence)(n:Nat)(P:Program)(gf:Nat)(lb:Array Value)(encs:α->Array Value)(rs:List α)(S:List Nat)(l:Nat)(W:nL):Prop :=
 ∀J:List α->nL->Prop,(∀s A B,J s A->Below W.heap.size A B->J s B) ->
  (∀p x b,J p b->W.heap.size<=b.heap.size->p++[x] <+: rs->YieldAt F (n-1) P l (encs x) b λe a=>e=.returned (.bool true)/\J (p++[x]) a/\oy W.heap.size S b a) ->
  J [] W->CallsIn F n P gf (#[.func (.yield l) #[] #[]]++lb) W λe a=>(∃v,e=.returned v)/\J rs a
section
variable{F:Fence}{n:Nat}{P:Program}
theorem rI{α:Type}{g:Operand}{ps:Array Tmp}{assign body:Code}{Q:Exit->Act->nL->Prop}{a:Act}{w:nL}
  (hro:F.round=none) (h1:1<=n) {gf:Nat} {lb:Array Value} (hg:a.eval g=.func (.func gf) #[] lb) (O3:F.fn gf) (eg:∀args w,(callFunc gf args).run P w=.ok (.enter gf args) w)
  {encs:α->Array Value} {rs:List α} {S:List Nat} (eG:∀x,(encs x).size=ps.size) (hS:∀k∈S,k<w.heap.size)
  (sF:∀W1,Below w.heap.size w W1->W1.heap.size=w.heap.size+2->aaQ F (n-1) P gf lb encs rs S (w.heap.size+1) W1)
  (I:List α->nL->Prop) (hI0:∀W1,Below w.heap.size w W1->I [] W1) (yh:∀s A B,I s A->Below (w.heap.size+2) A B->I s B) (hIl:∀s A r,I s A->I s (A.putObj (w.heap.size+1)<|.loop r))
  (Ax:α->Act->nL->Prop) (hAx:∀x a' A r,Ax x a' A->Ax x a' (A.putObj (w.heap.size+1)<|.loop r))
  (qT:∀(pre:List α) (x:α) (W:nL) (K:Act->nL->Prop),I pre W->w.heap.size+2<=W.heap.size->pre++[x]<+:rs->(∀a' W',I pre W'->oy w.heap.size S W W'->Ax x a' W'->K a' W') ->
   assign.wpIn (F.inRound (w.heap.size+1)) (n-1-1) P (Exit.then K (λ_ _ _=>False)) {tmps:=(ps.zip (encs x)).foldl (λt (p,v)=>t.setIfInBounds p v) a.tmps,defers:=[]} W)
  (Bw:∀(pre:List α) (x:α) (a':Act) (W:nL),I pre W->w.heap.size+2<=W.heap.size->Ax x a' W->pre++[x]<+:rs->body.wpIn (F.inRound<|w.heap.size+1) (n-1-1) P (λe _ W'=>e=.normal/\I (pre++[x]) W'/\oy w.heap.size S W W') a' W)
  (By:∀(W:nL),I rs W->w.heap.size+2<=W.heap.size->W.heap[w.heap.size]?=some (.deferred<|some [])->Q .normal {a with defers:={target:=.collected w.heap.size,args:=#[]}::a.defers} W) :
  (Code.rangeFunc g ps assign body).wpIn F n P Q a w:=by
 refine wpIn_rangeFunc λfn Po=>?_
 rw[hro];have⟨L,hL⟩:∃L:LoopState->Loop,L=λst=>{state:=st,pending:=none,fn,tmps:=a.tmps,params:=ps,assign,body,defers:=w.heap.size}:=⟨_,rfl⟩
 have⟨W1,gP⟩:=gb <|(w.alloc<|.deferred<|some []).alloc (.loop<|L .ready);have dB:Below w.heap.size w W1:=by rw[gP];exact((zzD _ w).alloc (zzc _) _).alloc dv _
 have dT:W1.heap.size=w.heap.size+2:=by rw[gP];simp
 have eK:W1.heap[w.heap.size+1]?=some (.loop<|L .ready):=by
  rw[gP];have:=Cy (w.alloc<|.deferred<|some [])<|.loop<|L .ready;rwa [zzv]at this
 have kR:W1.heap[w.heap.size]?=some (.deferred<|some []):=by
  rw[gP];exact(zzf _ _ _ dv).trans<|Cy w _
 refine⟨w.heap.size+1,[{target:=.collected w.heap.size,args:=#[]}],W1,{target:=.fn (.func gf) lb,args:=#[.func (.yield<|w.heap.size+1) #[] #[]]},W1,gf,#[.func (.yield<|w.heap.size+1) #[] #[]]++lb,W1,?_,?_,?_,?_,λ_=>h1,?_⟩
 .rw[gP,hL];exact run_enterLoop_outer _ _ _ _ _
 .simp only[resolve,hg];simp[go_sem]
 .intro f' Np;simp[Target.leads]at Np;subst Np;exact O3
 .simp[invoke,go_sem,eg]
 refine(sF W1 dB dT (λs A=>I s A/\A.heap[w.heap.size+1]?=some (.loop<|L .ready)/\A.heap[w.heap.size]?=some (.deferred<|some [])/\w.heap.size+2<=A.heap.size) ?_ ?_ ⟨hI0 W1 dB,eK,kR,by omega⟩).mono ?_
 .rintro s A B ⟨i1,i2,i3,i4⟩ hb;rw[dT]at hb;exact⟨yh s A B i1 hb,(hb.block _ dp).trans i2,(hb.block _ dp).trans i3,zzk i4 hb.size⟩
 .rintro pre x W ⟨i1,i2,i3,i4⟩ _ eN;have hy:=run_yield (P:=P) (args:=encs x) i2 (by rw[hL];exact eG x);rw[hL]at hy;refine⟨fn,_,assign,body,hy,roundIn_of_wpIn Po<|qT pre x W _ i1 i4 eN λa' Wa ia ka xa=>?_⟩;have la:=(ka.high _ dp dp).trans i2;have da:=(ka.high _ dp dp).trans i3;have lta:=(zza.1 la).1;obtain⟨Wb,uT⟩:∃Wb,Wb=Wa.putObj (w.heap.size+1) (.loop<|L .busy):=⟨_,rfl⟩;have ZC:Wb.heap[w.heap.size+1]?=some (.loop<|L .busy):=by rw[uT];exact Hf lta
  have db:Wb.heap[w.heap.size]?=some (.deferred<|some []):=by rw[uT];exact(qY dp).trans da
  have sb:Wb.heap.size=Wa.heap.size:=by rw[uT];simp
  refine⟨Wb,by rw[uT];have:=run_beginRound (P:=P) la (by rw[hL]);rw[hL]at this ⊢;exact this,?_⟩;apply wpIn_mono (Bw pre x a' Wb (by rw[uT];exact hIl _ _ _ ia) (by rw[sb];omega) (by rw[uT];exact hAx _ _ _ _ xa) eN);rintro e a3 W3 ⟨rfl,XF,k3⟩;have l3:=(k3.high _ dp dp).trans ZC;have d3:=(k3.high _ dp dp).trans db;have Wh:=(zza.1 l3).1;have oA:=run_endRound (P:=P) none l3;refine⟨_,_,oA,rfl,⟨hIl _ _ _ XF,?_,(qY dp).trans d3,by rw[cJ];omega⟩,?_,?_,?_⟩
  .rw[Hf Wh,hL];rfl
  .rw[cJ];have:=ka.size;have:=k3.size;omega
  .intro k hk bW;rw[dT]at hk;rw[qY dp,k3.high k dp<|by have:=ka.size;omega,uT,qY dp,ka.high k dp bW]
  .intro k hk bW;have hkw:=hS k hk;rw[qY dp,k3.same k hk<|by have:=ka.size;omega,uT,qY dp,ka.same k hk bW]
 .rintro e W2 ⟨⟨v,rfl⟩,i1,i2,i3,i4⟩;have oA:=run_endLoop (P:=P) i2 (by rw[hL];simp);have hp:(L .ready).pending=none:=by rw[hL]
  rw[hp]at oA;refine⟨none,_,oA,?_⟩;exact By _ (hIl _ _ _ i1) (by rw[cJ];exact i4)<|(qY dp).trans i3
end
theorem oB{m' l:Nat}{P:Program}{args:Array Value}{W:nL}{R:Ending->nL->Prop}(h:YieldAt Fence.wide m P l args W R):YieldAt Fence.wide m' P l args W R:=by
 have⟨n,tmps,assign,body,y,a,b⟩:=h;exact⟨n,tmps,assign,body,y,a,λc cs _=>b c cs<|by intro d e;cases e⟩
theorem Lk(n:Nat)(hn:1<=n)(l f q g z:Nat)(rs:List Rec)(hlen:rs.length<=1000000000)(J:List Rec->nL->Prop)(W:nL)
  (F:∀s A B,J s A->Below W.heap.size A B->J s B)
  (Y:∀p x d,J p d->W.heap.size<=d.heap.size->p++[x]<+:rs->YieldAt Fence.wide (n-1) prog l #[Hy x] d λe c=>e=.returned (.bool true)/\J (p++[x]) c/\oy W.heap.size [g] d c)
  (I:g<W.heap.size) (X:W.cell? (gi f)=some (gx q)) (D:W.cell? (hP q 3)=some (.slice (some<|gi g) rs.length z)) (R:ye W g rs) (C:J [] W) :
  CallsIn Fence.wide n prog 154 #[.func (.yield l) #[] #[],gx f] W λe c=>(∃v,e=.returned v)/\J rs c:=by
 have⟨m,h⟩:=gb rs.length;rw[<-h]at D hlen;have M:=ah h;have H:Fence.wide.round=none:=rfl;clear h;refine callsIn_of_wp func154 rfl trivial ?_ H;simp only[ntmps154,ji,zzr,jn,Nat.reduceAdd,Nat.reduceSub,mK,jo,j7,j8,kV,lC];gi_wp2;gi_loopw [10] (λi wr=>∃k:Nat,k<=m/\i=.int .i64 k/\Hid (J (rs.take k) wr/\nP [g] W wr))
  (λi _=>m-(intOf i).toNat)
 .exact⟨0,zzs _,rfl,by simpa using C,nP.refl _⟩
 case round=>
  obtain⟨k,P,rfl,Q⟩:=hrel;by_cases K:k<m
  .obtain⟨r,hr⟩:∃r,rs[k]?=some r:=⟨_,zzg<|by have:=M.out;omega⟩;have V:=Q.2.same g dv I;have⟨t,u,w⟩:=R k r hr;have T:=(zze V).trans t;have U:=(zze V).trans u;have Z:=(zze V).trans w;have⟨b,o⟩:=gb <|wr.alloc (.cells #[.int .u64 (r.cW:Int),.int .u8 (r.kind:Int),.string<|str r.pay] 89);have y:Below (nF W) wr b:=by rw[o];exact(zzD _ wr).alloc Q.2.size _
   have G:=F _ _ _ Q.1 y;have L:=Q.2.trans (nP.below y ef);have⟨O,tmps,assign,body,S,E⟩:=Y _ r b G (zzk Q.2.size y.size) (by rw[<-nX hr];exact List.take_prefix _ _);subst o;clear t u w V;gi_wp2;apply E.mono;rintro e j ⟨rfl,yc,lF⟩;have N:Hid (J (rs.take<|k+1) j/\nP [g] W j):=⟨by rw[nX hr];exact yc,L.trans ⟨lF.size,lF.same⟩⟩;clear yc lF
   gi_wp2;go_roundw;.exact⟨k+1,dp,dv,N.out⟩
   case measure=>simp[intOf];omega
  .obtain rfl:k=m:=dp;gi_wp2;go_end0;refine⟨⟨_,rfl⟩,?_⟩;have:=Q.1;rwa [M.out,List.take_length]at this
theorem acJ(n:Nat)(hn:1<=n)(l B p:Nat)(v:Value)(rs:List Rec)(hlen:rs.length<=1000000000)(W:nL)(c:W.cell? (gi B)=some (gx p))(L:lQ W p v rs):
  aaQ Fence.wide n prog 154 #[gx B] (λx:Rec=>#[Hy x]) rs (rowsOf v) l W:=λJ d Y h=>by
 have a:=L.cell;rcases L.recs with⟨rfl,rfl⟩|⟨g,b,rfl,e,r⟩
 .exact Hz Fence.wide n trivial rfl l B p J W c a h
 .exact Lk n hn l B p g b rs hlen J W d Y e c a r h
theorem Pq(n:Nat)(p:Nat)(w:nL):
  CallsIn Fence.wide n prog 209 #[gx p] w λe w'=>e=.returned (.func (.func 264) #[] #[gx w.heap.size])/\w'=w.alloc (.cells #[gx p] 186):=by
 refine callsIn_of_wp func209 rfl trivial ?_ rfl;simp only[ntmps209,ji,zzr,jn,Nat.reduceAdd,Nat.reduceSub,mK,jo,j7,j8,kV,lC];gi_wp2;go_ret;exact⟨rfl,rfl⟩
end
variable{w:nL}
theorem Ln{base n:Nat}{v:Value}{rs:List Rec}(h:w.ownsRow base 89 3 v n<|cM rs):yf w.heap.size w v rs:=by
 have l:rs.length=n:=by have:=h.1;rw[tQ]at this;omega
 have W:=h.lt;have⟨o,p,e,H⟩:=Ll h;rcases h.2 with⟨a,q⟩|⟨g,z,j,a,hb,s,rest⟩
 .left;exact⟨a,List.eq_nil_of_length_eq_zero dp⟩
 .right;refine⟨g,z,by rw[a,l],(W g<|by rw[a];rfl).2,λk r i=>?_⟩;have⟨B,L⟩:=zzd.1 i;have⟨m,f,b,c,d⟩:=H k B;rw[a]at e
  cases e;cases f;rw[L]at b c d;exact⟨b,c,d⟩
theorem PX(rs:List Rec):∀u∈cM rs,u.oneCell'=true:=by
 intro u a;have⟨r,_,h⟩:=List.mem_flatMap.1 a;simp[dQ]at h;obtain rfl|rfl|rfl:=h<;>rfl
def Fh(w:nL)(p:Nat):Nat:=match w.cell? (gi p) with
 |some (.slice _ n _)=>n
 |_=>0
theorem zr.len{p:Nat}{rest:List Nat}(h:zr w p rest):Fh w p=rest.length:=by
 have⟨b,f,d,a,_⟩:=h;have c:=af a 0;simp at c;unfold Fh;rw[c]
structure pY where
 key:nS
 wr:Bool
 gone:Bool
 val:nS
structure vE where
 id:Nat
 st:Nat
 ops:Nat
 gH:Nat
 pZ:List pY
structure CM where
 table:List (nS × nS)
 aD:List vE
def pY.acK(l:pY):zm:=⟨if l.wr=true then (if l.gone=true then 2 else 1) else 0,l.val⟩
def Lr(s:List pY)(k:nS):Option pY:=s.find? λl=>decide (l.key=k)
def Ts(xs:List vE)(t:Nat):Option vE:=xs.find? λx=>decide (x.id=t)
theorem Fj{α:Type}(p:α->Bool):∀(xs:List α),(∀i,xs.findIdx? p=some i->∃x,xs[i]?=some x/\p x=true/\xs.find? p=some x)/\(xs.findIdx? p=none->xs.find? p=none)
 |[]=>⟨λi h=>by simp at h,λ_=>rfl⟩
 |x::xs=>by
  have⟨c,d⟩:=Fj p xs;by_cases hx:p x=true
  .refine⟨λi h=>?_,λh=>?_⟩
   .simp[List.findIdx?_cons,hx]at h;subst h;exact⟨x,rfl,hx,by simp[hx]⟩
   .simp[List.findIdx?_cons,hx]at h
  .refine⟨λi h=>?_,λh=>?_⟩
   .simp[List.findIdx?_cons,hx]at h;obtain⟨j,f,rfl⟩:=h;have⟨y,e,a,b⟩:=c j f;exact⟨y,by simpa using e,a,by simp[hx,b]⟩
   .simp only[List.findIdx?_cons,hx,Bool.false_eq_true,if_false,Option.map_eq_none_iff]at h;rw[List.find?_cons_of_neg<|by simpa using hx];exact d h
def upd(xs:List vE)(x:vE):List vE:=xs.map λy=>if y.id=x.id then x else y
def del(xs:List vE)(t:Nat):List vE:=xs.filter λy=>!decide (y.id=t)
def ins(xs:List vE)(x:vE):List vE:=(xs.takeWhile λy=>decide (y.id<x.id))++x :: (xs.dropWhile λy=>decide (y.id<x.id))
def acW(s:List pY):Prop:=s.Pairwise λa b=>a.key≠b.key
structure vE.Ok(bw:Nat)(x:vE):Prop where
 id0:x.id≠0
 idb:x.id<2^64
 st:x.st=1\/x.st=2\/x.st=3
 gH:x.st≠3->x.gH<=bw/\x.gH<16
 once:acW x.pZ
 four:x.pZ.length<=4
 small:∀l∈x.pZ,1<=l.key.size/\l.key.size<=16/\l.val.size<=32
 read:∀l∈x.pZ,l.wr=false->l.val=gW
section
variable{s:eI}{R:CM}
def CM.state(R:CM)(t:Nat):Nat:=((Ts R.aD t).map (·.st)).getD 0
def CM.refuse(R:CM)(t:Nat)(q:Int)(k:nS):Nat :=
 if t=0 then 7 else if k.size<1\/16<k.size then 1 else
 match Ts R.aD t with
 |some x=>if x.st=3 then 4 else if q≠(x.ops:Int) then 4 else if x.st=2 then 3 else if (Lr x.pZ k).isSome=false/\x.pZ.length=4 then 5 else 0
 |none=>if q≠0 then 4 else if R.aD.length=12 then 5 else 0
def XP(t:Nat)(k:nS)(wr:Bool)(x:vE):Bool:=!decide (x.id=t)&&((Lr x.pZ k).map λl=>wr||l.wr).getD false
def meets(xs:List vE)(t:Nat)(k:nS)(wr:Bool):Bool:=xs.any (XP t k wr)
def CM.tx(R:CM)(t:Nat):vE:=(Ts R.aD t).getD ⟨t,1,0,0,[]⟩
def began(xs:List vE)(t:Nat):List vE:=if (Ts xs t).isSome=true then xs else ins xs ⟨t,1,0,0,[]⟩
def vE.aaV(x:vE):vE:=⟨x.id,2,x.ops,0,x.pZ⟩
def vE.worked(x:vE)(f:List pY->List pY):vE:=⟨x.id,x.st,x.ops+1,0,f x.pZ⟩
def CM.op(R:CM)(t:Nat)(q:Int)(k:nS)(wr:Bool)(f:List pY->List pY):CM × Nat :=
 if R.refuse t q k=0 then
  if meets (began R.aD t) t k wr=true then (⟨R.table,upd (began R.aD t) (R.tx t).aaV⟩,3)
  else (⟨R.table,upd (began R.aD t) ((R.tx t).worked f)⟩,0)
 else (R,R.refuse t q k)
end
section
open Go.Shelf
def acI{α:Type}(F:Fence)(n:Nat)(P:Program)(gf:Nat)(lb:Array Value)(encs:α->Array Value)(rs:List α)(S:List Nat)(l:Nat)(W:nL):Prop :=
 ∀J:List α->nL->Prop,
  (∀p x b,J p b->W.heap.size<=b.heap.size->p++[x] <+: rs->YieldAt F (n-1) P l (encs x) b λe a=>e=.returned (.bool true)/\J (p++[x]) a/\nP S b a) ->
  J [] W->CallsIn F n P gf (#[.func (.yield l) #[] #[]]++lb) W λe a=>(∃v,e=.returned v)/\J rs a
section
variable{F:Fence}{n:Nat}{P:Program}
theorem wT{α:Type}{g:Operand}{ps:Array Tmp}{assign body:Code}{Q:Exit->Act->nL->Prop}{a:Act}{w:nL}
  (hro:F.round=none) (h1:1<=n) {gf:Nat} {lb:Array Value} (hg:a.eval g=.func (.func gf) #[] lb) (O3:F.fn gf) (eg:∀args w,(callFunc gf args).run P w=.ok (.enter gf args) w)
  {encs:α->Array Value} {rs:List α} {S:List Nat} (eG:∀x,(encs x).size=ps.size) (hS:∀k∈S,k<w.heap.size)
  (sF:∀W1,Below w.heap.size w W1->W1.heap.size=w.heap.size+2->acI F (n-1) P gf lb encs rs S (w.heap.size+1) W1)
  (I:List α->nL->Prop) (hI0:∀W1,Below w.heap.size w W1->I [] W1) (hIl:∀s A r,I s A->w.heap.size+2<=A.heap.size->(∃r0,A.heap[w.heap.size+1]?=some (.loop r0))->I s (A.putObj (w.heap.size+1)<|.loop r))
  (Ax:α->Act->nL->Prop) (hAx:∀x a' A r,Ax x a' A->Ax x a' (A.putObj (w.heap.size+1)<|.loop r))
  (qT:∀(pre:List α) (x:α) (W:nL) (K:Act->nL->Prop),I pre W->w.heap.size+2<=W.heap.size->pre++[x]<+:rs->(∀a' W',I pre W'->nP (w.heap.size::(w.heap.size+1)::S) W W'->Ax x a' W'->K a' W') ->
   assign.wpIn (F.inRound (w.heap.size+1)) (n-1-1) P (Exit.then K (λ_ _ _=>False)) {tmps:=(ps.zip (encs x)).foldl (λt (p,v)=>t.setIfInBounds p v) a.tmps,defers:=[]} W)
  (Bw:∀(pre:List α) (x:α) (a':Act) (W:nL),I pre W->w.heap.size+2<=W.heap.size->Ax x a' W->pre++[x]<+:rs->W.heap[w.heap.size]?=some (.deferred<|some [])->(∃r,W.heap[w.heap.size+1]?=some (.loop r))->body.wpIn (F.inRound<|w.heap.size+1) (n-1-1) P (λe _ W'=>e=.normal/\I (pre++[x]) W'/\nP (w.heap.size::(w.heap.size+1)::S) W W') a' W)
  (By:∀(W:nL),I rs W->w.heap.size+2<=W.heap.size->W.heap[w.heap.size]?=some (.deferred<|some [])->Q .normal {a with defers:={target:=.collected w.heap.size,args:=#[]}::a.defers} W) :
  (Code.rangeFunc g ps assign body).wpIn F n P Q a w:=by
 refine wpIn_rangeFunc λfn Po=>?_
 rw[hro];have⟨L,hL⟩:∃L:LoopState->Loop,L=λst=>{state:=st,pending:=none,fn,tmps:=a.tmps,params:=ps,assign,body,defers:=w.heap.size}:=⟨_,rfl⟩
 have⟨W1,gP⟩:=gb <|(w.alloc<|.deferred<|some []).alloc (.loop<|L .ready);have dB:Below w.heap.size w W1:=by rw[gP];exact((zzD _ w).alloc (zzc _) _).alloc dv _
 have dT:W1.heap.size=w.heap.size+2:=by rw[gP];simp
 have eK:W1.heap[w.heap.size+1]?=some (.loop<|L .ready):=by
  rw[gP];have:=Cy (w.alloc<|.deferred<|some [])<|.loop<|L .ready;rwa [zzv]at this
 have kR:W1.heap[w.heap.size]?=some (.deferred<|some []):=by
  rw[gP];exact(zzf _ _ _ dv).trans<|Cy w _
 refine⟨w.heap.size+1,[{target:=.collected w.heap.size,args:=#[]}],W1,{target:=.fn (.func gf) lb,args:=#[.func (.yield<|w.heap.size+1) #[] #[]]},W1,gf,#[.func (.yield<|w.heap.size+1) #[] #[]]++lb,W1,?_,?_,?_,?_,λ_=>h1,?_⟩
 .rw[gP,hL];exact run_enterLoop_outer _ _ _ _ _
 .simp only[resolve,hg];simp[go_sem]
 .intro f' Np;simp[Target.leads]at Np;subst Np;exact O3
 .simp[invoke,go_sem,eg]
 refine(sF W1 dB dT (λs A=>I s A/\A.heap[w.heap.size+1]?=some (.loop<|L .ready)/\A.heap[w.heap.size]?=some (.deferred<|some [])/\w.heap.size+2<=A.heap.size) ?_ ⟨hI0 W1 dB,eK,kR,dp⟩).mono ?_
 .rintro pre x W ⟨i1,i2,i3,i4⟩ _ eN;have hy:=run_yield (P:=P) (args:=encs x) i2 (by rw[hL];exact eG x);rw[hL]at hy;refine⟨fn,_,assign,body,hy,roundIn_of_wpIn Po<|qT pre x W _ i1 i4 eN λa' Wa ia ka xa=>?_⟩;have la:Wa.heap[w.heap.size+1]?=some (.loop<|L .ready):=(ka.same _ dv (by omega)).trans i2;have da:Wa.heap[w.heap.size]?=some (.deferred<|some []):=(ka.same _ dv (by omega)).trans i3;have lta:=(zza.1 la).1;obtain⟨Wb,uT⟩:∃Wb,Wb=Wa.putObj (w.heap.size+1) (.loop<|L .busy):=⟨_,rfl⟩;have ZC:Wb.heap[w.heap.size+1]?=some (.loop<|L .busy):=by rw[uT];exact Hf lta
  have db:Wb.heap[w.heap.size]?=some (.deferred<|some []):=by rw[uT];exact(qY (by omega)).trans da
  have sb:Wb.heap.size=Wa.heap.size:=by rw[uT];simp
  refine⟨Wb,by rw[uT];have:=run_beginRound (P:=P) la (by rw[hL]);rw[hL]at this ⊢;exact this,?_⟩;apply wpIn_mono (Bw pre x a' Wb (by rw[uT];exact hIl _ _ _ ia (by have:=ka.size;omega) ⟨_,la⟩) (by rw[sb];omega) (by rw[uT];exact hAx _ _ _ _ xa) eN db ⟨_,ZC⟩);rintro e a3 W3 ⟨rfl,XF,k3⟩;have l3:=(k3.same _ dv dp).trans ZC;have d3:=(k3.same _ dv dp).trans db;have Wh:=(zza.1 l3).1;have oA:=run_endRound (P:=P) none l3;refine⟨_,_,oA,rfl,⟨hIl _ _ _ XF (by have:=k3.size;have:=ka.size;omega) ⟨_,l3⟩,?_,(qY dp).trans d3,by rw[cJ];omega⟩,?_,?_⟩
  .rw[Hf Wh,hL];rfl
  .rw[cJ];have:=ka.size;have:=k3.size;omega
  .intro k hk bW;have hkw:=hS k hk;rw[qY dp,k3.same k (by simp[hk])<|by have:=ka.size;omega,uT,qY dp,ka.same k (by simp[hk]) bW]
 .rintro e W2 ⟨⟨v,rfl⟩,i1,i2,i3,i4⟩;have oA:=run_endLoop (P:=P) i2 (by rw[hL];simp);have hp:(L .ready).pending=none:=by rw[hL]
  rw[hp]at oA;refine⟨none,_,oA,?_⟩;exact By _ (hIl _ _ _ i1 i4 ⟨_,i2⟩) (by rw[cJ];exact i4)<|(qY dp).trans i3
end
end
section
open Go.Sort
abbrev Prs:=List (nS × nS)
def BD(l:pY):Prs->Bool->Prs
 |[],done=>if done=true then [] else [(l.key,l.val)]
 |p :: r,done =>
  if done=false/\l.key.data.toList<p.1.data.toList then (l.key,l.val) :: p :: BD l r true
  else if p.1≠l.key then p :: BD l r done else if done=true then BD l r true else (l.key,l.val) :: BD l r true
def afm(b:Prs)(l:pY):Prs:=BD l b l.gone
def acX(b:Prs)(s:List pY):Prs:=s.foldl (λb l=>if l.wr=true then afm b l else b) b
section
variable{s:eI}{R:CM}
def CM.got(R:CM)(t:Nat)(k:nS):nS × Bool :=
 match Lr (R.tx t).pZ k with
 |some l=>if l.wr=true then (l.val,!l.gone) else ((bJ R.table k).getD gW,(bJ R.table k).isSome)
 |none=>((bJ R.table k).getD gW,(bJ R.table k).isSome)
def vE.ready(x:vE):vE:=⟨x.id,3,x.ops,x.gH,x.pZ⟩
def vE.acY(x:vE):Option vE:=if x.st=3 then some x else if x.gH+1=16 then none else some ⟨x.id,x.st,x.ops,x.gH+1,x.pZ⟩
def CM.tick(R:CM):CM:=⟨R.table,R.aD.filterMap vE.acY⟩
end
end
variable{rs:List Rec}
theorem BM(M:Nat)(c:UInt8)(v:Nat):∀(a:List UInt8) (b:Nat),Lib.parseUintM M b a=.ok v->Lib.parseUintM M b (a++[c])=Lib.parseUintM M v [c]
 |[],b,h=>by
  have e:b=v:=by simpa [Lib.parseUintM]using h
  rw[e];rfl
 |x::a,b,h=>by
  rw[List.cons_append];unfold Lib.parseUintM at h ⊢;split at h
  .rename_i h1;rw[oo h1];split at h
   .cases h
   .rename_i h2;rw[mE h2];split at h
    .cases h
    .rename_i h3;rw[mE h3];exact BM M c v a _ h
  .cases h
theorem LM:∀(n u:Nat),u<n->u<2^64->Lib.parseUintM 18446744073709551615 0 (Lib.decDigits u)=.ok u:=by
 intro n;induction n with
 |zero=>grind
 |succ n ih=>
  intro u hn a;rw[Lib.decDigits];split
  .rename_i h;obtain rfl|rfl|rfl|rfl|rfl|rfl|rfl|rfl|rfl|rfl:u=0\/u=1\/u=2\/u=3\/u=4\/u=5\/u=6\/u=7\/u=8\/u=9:=dp
   all_goals rfl
  .rename_i h;rw[BM _ _ (u/10) _ _<|ih (u/10) dp dp];have e:(UInt8.ofNat<|48+u%10).toNat=48+u%10:=ef
   unfold Lib.parseUintM;rw[e,oo dp,mE dp,mE dp];unfold Lib.parseUintM;congr 1;omega
theorem PY(u:Nat)(h:u<2^64):Lib.parseUintB 64 (Lib.decDigits u)=.ok u:=by
 unfold Lib.parseUintB;rw[mE<|Lm u];exact LM (u+1) u dp h
def nZ(w:nL):Prop:=∃v,w.cell? (gi 2)=some v/\(v=.nilIface\/∃t e,v=.iface t e)
theorem nZ.below{n:Nat}{w w':nL}(h:nZ w)(hb:Below n w w')(hn:2<n):nZ w':=by
 have⟨v,a,b⟩:=h;exact⟨v,(hb.cell hn).trans a,b⟩
theorem vM(rs:List Rec):(dF rs).length=eU rs:=by
 induction rs with
 |nil=>rfl
 |cons r rs ih=>grind[dF,gu,eU]
theorem yy:∀(a:List<|List Rec) (n:Nat),(∀b∈a,b≠[])->∀x∈starts n a,x<n+a.flatten.length:=by
 intro a;induction a with
 |nil=>grind[starts]
 |cons b a ih=>
  intro n hb x hx;have h:=zzE.2<|hb b dv;simp only[starts,zzj]at hx;obtain rfl|hx:=hx
  .simp;omega
  .grind
theorem ue(a b:List Nat):str (a++b)=str a++str b:=by
 apply ByteArray.ext;rw[ByteArray.data_append,qe,qe,qe];simp
theorem T8{cs:List (List Rec)}{k:Nat}{c:List Rec}(h:cs[k]?=some c):cs.take (k+1)=cs.take k++[c]:=by rw[vV,h];rfl
def vd(rs:List Rec):Prop:=∀r∈rs,r.kind<256/\r.pay.length<=255/\mG r.pay/\r.cW<2^64
theorem LN(h:vd rs):mG (dF rs):=by
 intro b hb;have⟨r,e,d⟩:=List.mem_flatMap.1 hb;have⟨a,_,c,_⟩:=h r e;exact qJ r.cW r.kind r.pay a c b d
theorem ND:∀(rs:List Rec),vd rs->∀t,Good (dF rs++t) rs.length/\(st rs.length<|dF rs++t).1=rs/\(st rs.length<|dF rs++t).2=(dF rs).length:=by
 intro rs;refine List.Da (motive:=λrs=>vd rs->∀t,Good (dF rs++t) rs.length/\(st rs.length<|dF rs++t).1=rs/\(st rs.length<|dF rs++t).2=(dF rs).length) rs ?_ ?_
 .intro _ t;exact⟨tP _,rfl,rfl⟩
 .intro rs r ih hf t;have⟨b,k,c,f⟩:=hf r dv;have e:dF (rs++[r])++t=dF rs++(aB r.cW r.kind r.pay++t):=by grind[ud]
  rw[e];have⟨h,a,g⟩:=ih (λx hx=>hf x<|by simp[hx])<|aB r.cW r.kind r.pay++t;have d:(dF rs++(aB r.cW r.kind r.pay++t)).drop (st rs.length<|dF rs++(aB r.cW r.kind r.pay++t)).2=aB r.cW r.kind r.pay++t:=by grind
  have l:(rs++[r]).length=rs.length+1:=dv;rw[l];refine⟨DJ h<|by rw[d];exact PU _ _ _ t k b c,?_,?_⟩
  .show(st rs.length<|dF rs++(aB r.cW r.kind r.pay++t)).1++[rD<|(dF rs++(aB r.cW r.kind r.pay++t)).drop (st rs.length<|dF rs++(aB r.cW r.kind r.pay++t)).2]=_;rw[d,a,PV _ _ _ t k f]
  .grind [st,dF,aB,gX,ud,D',gu]
theorem T9(h:vd rs):uN (dF rs) rs.length/\(st rs.length<|dF rs).1=rs/\(st rs.length<|dF rs).2=(dF rs).length:=by
 have⟨b,c,a⟩:=ND rs h [];rw[wo]at b c a;exact⟨⟨b,by rw[a,List.drop_length];exact ko<|qL dv⟩,c,a⟩
theorem FF(w:nL)(d:Nat)(b:Int):
  (Op.equalIn (d+2) 74 .nilIface<|.iface 27<|.int .i64 b).run prog w=.ok false w:=by
 simp[Op.equalIn,run_underlying underlying74]
theorem T_(w:nL)(b:Int):
  (binOp .eql 74 .nilIface<|.iface 27<|.int .i64 b).run prog w=.ok (.bool false) w:=by
 simp only[binOp];simp[Op.equal,Op.maxDepth,FF w 9998 b]
theorem aa7(n:Int)(w:nL):
  Calls prog 95 #[.nilIface,.iface 27<|.int .i64 n] w λv w'=>v=.returned (.bool false)/\w'=w:=by
 have e:∀w,(binOp .eql 74 .nilIface<|.iface 27<|.int .i64 n).run prog w=.ok (.bool false) w:=λw=>T_ w n
 go_enter func95,ntmps95;go_wp2;go_ret;exact⟨rfl,rfl⟩
theorem Db(B p i j n m o f:Nat)(pv:Value)(d:aj)(w:nL)(h:aC w B p i j pv d n m o)(G:d.down=false)(z:d.now eA=some (str<|aB f 0 []))(hf:f<2^64):
  Calls prog 203 #[fS p] w λe w'=>e=.returned (.tuple #[.int .u64 (f:Int),.nilIface])/\Below w.heap.size w w':=by
 have Q:=Nb;have a:=wO B p i j n m o pv d eA w h du;have s:vd [⟨f,0,[]⟩]:=by intro r a;simp at a;subst a;exact⟨show 0<256 by decide,show 0<=255 by decide,by intro x hx;simp at hx,hf⟩
 have t:dF [⟨f,0,[]⟩]=aB f 0 []:=by simp[dF]
 have e:d.read eA=(some<|str<|dF [⟨f,0,[]⟩],0):=by unfold aj.read;rw[mE<|by rw[G];decide,z,t]
 have l:(dF [⟨f,0,[]⟩]).length=15:=by rw[t,gu];rfl
 clear h z;go_enter func203,ntmps203;go_wp2_with fail;apply a.mono;rintro N c ⟨v,rfl,OY,hb⟩;rw[e]at OY ⊢;rw[aT];have W:Src c v (dF [⟨f,0,[]⟩]):=by
  have:Src c v (bytesOf<|str<|dF [⟨f,0,[]⟩]):=OY;rwa [sV<|LN s]at this
 have y:=To v (dF [⟨f,0,[]⟩]) c W (LN s) dp;obtain⟨u,A,c2,rfl⟩:∃u A c2,v=.slice (some ⟨u,A,none⟩) 15 c2:=by
  rcases W with⟨_,e⟩|⟨b,J,F,e,_⟩
  .rw[e]at l;simp at l
  .exact⟨b,J,F,by rw[e,l]⟩
 have H:=ah hb;go_wp2_with fail;apply(aa7 8 c).mono;rintro O w2 ⟨rfl,rfl⟩;go_wp2_with fail;apply y.mono;rintro P R ⟨k,v3,rfl,hE,aW,_,iL⟩;have⟨C,D,E⟩:=T9 s;obtain rfl:=qK hE C;rw[D]at aW;rw[E,l];obtain⟨q,c3,rfl⟩:=eQ aW dv;have K:=aW.cells rfl 0 (.int .u64 (f:Int)) (by simp[cM,dQ]);have L:=aW.cells rfl 1 (.int .u8 0) (by simp[cM,dQ]);have M:=aW.cells rfl 2 (.string<|str []) (by simp[cM,dQ]);simp only[Addr.add_lit,Nat.zero_add]at K L M;have I:=ah<|H.out.trans<|iL.mono H.out.size;go_wp2;go_ret2;exact⟨rfl,I.out⟩
section
variable{w I:nL}{B E p i j n m o:Nat}{pv O J v:Value}{l:au}{d:aj}
theorem aM.aa8{ss:List Nat}(h:aM w B E p i j pv O J l d n m o)(r:Fr O.ownBlock.toList w I)(t:I.ownsRow B 34 1 v ss.length<|fC ss)(D:bU w.heap.size O v)(x:ss.length<=n/\∀s∈ss,s<2^64):
  aM (I.setCell (hP E 1) v) B E p i j pv v J {l with segs:=ss} d n m o/\mJ E p w (I.setCell (hP E 1) v):=by
 have C:=(zza.1 h.blk).1;have y:E∉O.ownBlock.toList:=by simp;exact aQ h.segs h.blk du
 have M:=(r.block E C y).trans h.blk;obtain⟨W,q⟩:∃W,W=I.setCell ⟨E,1,none⟩ v:=⟨_,rfl⟩;rw[<-q];have u:Fr [E] I W:=by rw[q];exact Fr.cG dv _ _
 have hf:Fr (E::O.ownBlock.toList) w W:=(r.mono λk _ a=>Ds _ a).trans<|u.mono<|by intro k _ a;simp at a;simp[a]
 have hb:W.heap[E]?=some (o0 p v J {l with segs:=ss}):=by
  rw[q];have:=aF M 1 v;simpa using this
 have A:=ar t u λg b=>by simp;intro e;subst e;exact aQ t M du b
 have z:=ar h.recs hf (λg b f=>by
  obtain e|f:=zzj.1 f
  .subst e;exact aQ h.recs h.blk du b
  .simp at f;have⟨c,U⟩:=aL h.segs f;exact aQ h.recs U du b)
 have L:=h.rows hf (by intro k a _;obtain e|a:=zzj.1 a;exact .inl e;simp at a;exact .inr<|.inl a) hb A z (zzc _) h.bP.hn x h.iC h.kQ h.iO h.nU;exact⟨L,h.C0 L hf (by intro k a _;obtain e|a:=zzj.1 a;simp[e];simp at a;simp[a]) (.inl rfl) (bU.refl _ _) D<|bU.refl _ _⟩
theorem aM.aa9{rs:List Rec}(h:aM w B E p i j pv O J l d n m o)(r:Fr J.ownBlock.toList w I)(s:I.ownsRow B 89 3 v rs.length<|cM rs)(D:bU w.heap.size J v)(u:rs.length<=n):
  aM (I.setCell (hP E 3) v) B E p i j pv O v {l with recs:=rs} d n m o/\mJ E p w (I.setCell (hP E 3) v):=by
 have A:=(zza.1 h.blk).1;have x:E∉J.ownBlock.toList:=by simp;exact aQ h.recs h.blk du
 have M:=(r.block E A x).trans h.blk;obtain⟨W,q⟩:∃W,W=I.setCell ⟨E,3,none⟩ v:=⟨_,rfl⟩;rw[<-q];have t:Fr [E] I W:=by rw[q];exact Fr.cG dv _ _
 have hf:Fr (E::J.ownBlock.toList) w W:=(r.mono λk _ a=>Ds _ a).trans<|t.mono<|by intro k _ a;simp at a;simp[a]
 have hb:W.heap[E]?=some (o0 p O v {l with recs:=rs}):=by
  rw[q];have:=aF M 3 v;simpa using this
 have y:=ar s t λg b=>by simp;intro e;subst e;exact aQ s M du b
 have z:=ar h.segs hf (λg b f=>by
  obtain e|f:=zzj.1 f
  .subst e;exact aQ h.segs h.blk du b
  .simp at f;have⟨c,U⟩:=aL h.recs f;exact aQ h.segs U du b)
 have L:=h.rows hf (by intro k a _;obtain e|a:=zzj.1 a;exact .inl e;simp at a;exact .inr<|.inr a) hb z y (zzc _) h.bP.hn h.eJ u h.kQ h.iO h.nU;exact⟨L,h.C0 L hf (by intro k a _;obtain e|a:=zzj.1 a;simp[e];simp at a;simp[a]) (.inl rfl) (bU.refl _ _) (bU.refl _ _) D⟩
end
theorem PZ(a b:List Rec):cM (a++b)=cM a++cM b:=by simp[cM]
section
open Go.Shelf
variable{ps:List Nat}{k:Nat}{q:Nat->Bool}
def gL(q:Nat->Bool)(ps:List Nat)(k:Nat):List Nat:=(List.range k).filter λj=>q (ps.getD j 0)
abbrev bV(q:Nat->Bool)(ps:List Nat):List Nat:=gL q ps 9
theorem Ic(h:q (ps.getD k 0)=true):gL q ps (k+1)=gL q ps k++[k]:=by
 unfold gL;rw[List.range_succ,List.filter_append];simp only[List.filter_cons,h,if_true,List.filter_nil]
theorem Lg(h:q (ps.getD k 0)=false):gL q ps (k+1)=gL q ps k:=by
 unfold gL;rw[List.range_succ,List.filter_append];simp only[List.filter_cons,h,List.filter_nil];simp
theorem Ie:∀{k:Nat},k<=9->gL q ps k<+:bV q ps:=by
 intro k h;have:List.range k<+:List.range 9:=by
  rw[List.prefix_iff_eq_take];rw[List.take_range];simp[Nat.min_eq_left h]
 exact this.filter _
theorem XG(l:ps.length=9)(hp:∀p∈ps,p<256)(h:k<9):ps.getD k 0<256:=by simp_all
theorem DU(n f:Nat)(t:fQ)(h:t.Ok)(w:nL):
  CallsIn Fence.wide n prog 244 #[lz t,Fb f] w λe w'=>e=.returned (.func (.func 285) #[] #[gx w.heap.size,gx<|w.heap.size+1])/\w'=(w.alloc<|.cells (J9 t).toArray 249).alloc (.cells #[Fb f] 251):=by
 have⟨s,ps,z,q⟩:=t;obtain⟨p,a,b,c,d,g,i,j,k,rfl⟩:=nine h.1;rw[bC];refine callsIn_of_wp func244 rfl trivial ?_ rfl;simp only[ntmps244,ji,zzr,jn,Nat.reduceAdd,Nat.reduceSub,mK,jo,j7,j8,kV,lC];gi_wp2;go_ret;exact⟨rfl,rfl⟩
theorem Lh(n:Nat)(hn:2<=n)(l o b m:Nat)(q:Nat->Bool)(hm:uQ m q)(H:Enters m)(t:fQ)(g:t.Ok)(W:nL)(h:W.heap[o]?=some (.cells (J9 t).toArray 249 (0,0)))(u:W.heap[b]?=some (.cells #[Fb m] 251 (0,0)))
  (J:List Nat->nL->Prop)
  (N:∀pre (x:Nat) W1,J pre W1->W.heap.size<=W1.heap.size->pre++[x]<+:bV q t.parts->YieldAt Fence.wide (n-1) prog l #[.int .i64 (x:Int)] W1 λe a=>e=.returned (.bool true)/\J (pre++[x]) a/\nP [o,b] W1 a) (h0:J [] W) :
  CallsIn Fence.wide n prog 285 #[.func (.yield l) #[] #[],gx o,gx b] W λe a=>(∃v,e=.returned v)/\J (bV q t.parts) a:=by
 have a8:Fence.wide.round=none:=rfl;have hg:1<=n:=dp;have a':Fence.wide.fn m:=trivial;have dy:b<W.heap.size:=(zza.1 u).1;have O:∀k:Nat,k<9->∀w,(Instr.index 247 (Xm t.parts)<|.int .i64 (k:Int)).run prog w=.ok (.int .u8 ((t.parts.getD k 0:Nat):Int)) w:=λk p w=>aaH g.1 p w
 have D:=O;have Y:Hid (∀pre (x:Nat) W1,J pre W1->W.heap.size<=W1.heap.size->pre++[x]<+:bV q t.parts->YieldAt Fence.wide (n-1) prog l #[.int .i64 (x:Int)] W1 λe a=>e=.returned (.bool true)/\J (pre++[x]) a/\nP [o,b] W1 a):=N;have B:Hid (∀k,k<9->t.parts.getD k 0<256):=λk p=>XG g.1 g.2 p
 have a1:Hid (W.heap[b]?=some (.cells #[Fb m] 251 (0,0))):=u;clear O N u;have⟨s,ps,z,qd⟩:=t;have⟨PS,y⟩:=gb ps;have⟨V,hV⟩:=gb <|Xm ps;have c1:=af h 1;have c2:=af h 2;have c3:=af h 3;have c4:=af h 4;have c5:=af h 5;have G:=af h 6;have I:=af h 7;have K:=af h 8;have L:=af h 9;have⟨U,X,p2,p3,p4,p5,p6,p7,p8,Z⟩:=nine g.1;rw[<-y]at D Y B ⊢;change Hid (∀k:Nat,k<9->∀w,(Instr.index 247 (Xm PS)<|.int .i64 (k:Int)).run prog w=.ok (.int .u8 ((PS.getD k 0:Nat):Int)) w)at D;have T:ps=[U,X,p2,p3,p4,p5,p6,p7,p8]:=Z;have M:Xm PS=.agg #[.int .u8 (U:Int),.int .u8 (X:Int),.int .u8 (p2:Int),.int .u8 (p3:Int),.int .u8 (p4:Int),.int .u8 (p5:Int),.int .u8 (p6:Int),.int .u8 (p7:Int),.int .u8 (p8:Int)]:=by rw[y,T];rfl
 rw[M]at D;subst T;simp[J9]at c1 c2 c3 c4 c5 G I K L;clear y hV M h g Z;refine callsIn_of_wp func285 rfl trivial ?_ a8;simp only[ntmps285,ji,zzr,jn,Nat.reduceAdd,Nat.reduceSub,mK,jo,j7,j8,kV,lC];gi_wp2;clear c1 c2 c3 c4 c5 G I K L;gi_loopw [8] (λi wr=>∃k:Nat,k<=9/\i=.int .i64 k/\Hid (J (gL q PS k) wr/\nP [b] W wr)) (λi _=>9-(intOf i).toNat);.exact⟨0,zzs _,rfl,h0,nP.refl _⟩
 case round=>
  obtain⟨k,p,rfl,Q⟩:=hrel;by_cases F:k<9
  .have i9:(k:Int)<9:=dp;have a7:=D.out k F;have d:=(yY (n:=n-1)).2<|hm (PS.getD k 0) wr<|B.out k F;have A:=(Q.2.same b dv dy).trans a1.out;have d2:=af A 0;simp at d2;have⟨P,c⟩:=gb <|PS.getD k 0;rw[<-c]at a7 d
   cases r:q P with
   |true=>
    have C:=Ic (q:=q) (ps:=PS) (k:=k) (by rw[<-c];exact r);obtain⟨fn,tmps,assign,body,hy,E_⟩:=Y.out _ k wr Q.1 Q.2.size (by rw[<-C];exact Ie dp);rw[r]at d;have S:Hid (gL q PS (k+1)=gL q PS k++[k]):=C;clear c C A;unfold Enters at H;gi_wp2_with fail;apply d.mono;rintro e w2 ⟨rfl,rfl⟩;gi_wp2;apply E_.mono;rintro e E ⟨rfl,yc,lF⟩;have HN:Hid (J (gL q PS<|k+1) E/\nP [b] W E):=⟨by rw[S.out];exact yc,Q.2.trans ⟨lF.size,λj R=>lF.same j<|by simp at R ⊢;exact .inr R⟩⟩;clear yc lF
    gi_wp2;go_roundw;.exact⟨k+1,dp,dv,HN.out⟩
    .exact fq  |false=>
    have S:Hid (gL q PS (k+1)=gL q PS k):=Lg (by rw[<-c];exact r);rw[r]at d;clear c A;unfold Enters at H;have pV:=@Bg;gi_wp2_with fail;apply d.mono;rintro e w2 ⟨rfl,rfl⟩;gi_wp2;refine⟨λf hf=>(by cases hf),?_⟩
    gi_wp2;go_roundw;.exact⟨k+1,dp,dv,by rw[S.out];exact Q.1,Q.2⟩
    case measure=>simp[intOf];omega
  .obtain rfl:k=9:=dp;gi_wp2;go_end0;exact⟨⟨_,rfl⟩,Q.1⟩
theorem Ig(n:Nat)(hn:2<=n)(l b a f:Nat)(q:Nat->Bool)(m:uQ f q)(H:Enters f)(t:fQ)(e:t.Ok)(W:nL)(c:W.heap[b]?=some (.cells (J9 t).toArray 249 (0,0)))(d:W.heap[a]?=some (.cells #[Fb f] 251 (0,0))):
  acI Fence.wide n prog 285 #[gx b,gx a] (λx:Nat=>#[.int .i64 (x:Int)]) (bV q t.parts) [b,a] l W:=λJ Y h=>
 Lh n hn l b a f q m H t e W c d J Y h
structure Px(p:Nat)(S:List Nat)(w w':nL):Prop where
 os:w'.os=w.os
 tape:w'.tape=w.tape
 output:w'.output=w.output
 size:w.heap.size<=w'.heap.size
 block:∀k,k<w.heap.size->¬nj p w k->k∉S->w'.heap[k]?=w.heap[k]?
theorem aC.Tp{w:nL}{B p h N n D i:Nat}{pv:Value}{d:aj}(b:aC w B p h N pv d n D i)(m:∃es c,w.heap[k]?=some (.map es c))(f:k≠h)(g:k≠N):¬nj p w k:=by
 have⟨es,c,a⟩:=m;intro o;have:=(b.fI k).1 o;simp at this;obtain e|e|e|e:=this
 .rw[e,b.blk]at a;cases a
 .exact f e
 .exact g e
 .obtain⟨c2,hc⟩:=aL b.pen e;rw[hc]at a;cases a
end
variable{S T:List Nat}{k m n:Nat}{α:Type}{t:TypeId}{v:Value}{a b w w':nL}
def Gz:Option Obj->List Nat
 |some (.cells c _ _)=>(c.getD 5 .nilIface).ownBlock.toList++(c.getD 6 .nilIface).ownBlock.toList
 |_=>[]
def rd(cp:Nat)(w:nL):List Nat:=Gz w.heap[cp]?
structure gQ(cp:Nat)(S:List Nat)(w w':nL):Prop where
 fr:Fr (S++rd cp w) w w'
 stay:∀k,k<w.heap.size->k∈rd cp w'->k∈rd cp w
section
variable{cp:Nat}
theorem gQ.trans{S:List Nat}{a b c:nL}(h:gQ cp S a b)(k:gQ cp S b c):gQ cp S a c:=
 ⟨h.fr.andThen k.fr (λj d l=>by
  obtain e|e:=zzo.1 d
  .grind
  .exact EL _ (h.stay j l e)),λj d m=>h.stay j d (k.stay j (zzl d h.fr.size) m)⟩
theorem gQ.mono{S T:List Nat}{a b:nL}(h:gQ cp S a b)(s:∀k∈S,k∈T):gQ cp T a b:=⟨h.fr.mono (λk _ d=>by
 obtain c|c:=zzo.1 d
 .grind
 .exact EL _ c),h.stay⟩
theorem lR{w w':nL}(h:w'.heap[cp]?=w.heap[cp]?):rd cp w'=rd cp w:=by grind[rd]
theorem Fr.r{S T:List Nat}{w w':nL}(h:Fr S w w')(l:cp<w.heap.size)(hn:cp∉S)(s:∀k∈S,k∈T):gQ cp T w w':=
 ⟨h.mono λk _ a=>List.mem_append_left _<|s k a,λk _ m=>by rw[lR<|h.block cp l hn]at m;exact m⟩
theorem gQ.block{S:List Nat}{w w':nL}(h:gQ cp S w w'){k:Nat}(b:k<w.heap.size)(a:k∉S)(r:k∉rd cp w):w'.heap[k]?=w.heap[k]? :=
 h.fr.block k b (by rw[zzo];exact λe=>e.elim a r)
end
structure bL where
 aD:List (Nat × fQ)
 next:Nat
 aH:Nat
 bw:Nat
 res:List (Nat × Nat)
 out:List (Nat × Nat × Nat)
abbrev PA(x:Nat × Nat):List Value:=[.int .u64 (x.1:Int),.int .i64 (x.2:Int)]
abbrev PB(x:Nat × Nat × Nat):List Value:=[.int .u64 (x.1:Int),.int .i64 (x.2.1:Int),.int .i64 (x.2.2:Int)]
def lj(l:List (Nat × Nat)):List Value:=l.flatMap PA
def jv(l:List (Nat × Nat × Nat)):List Value:=l.flatMap PB
theorem Io(a b:List<|Nat×Nat):lj (a++b)=lj a++lj b:=by simp[lj]
theorem Ip(a b:List<|Nat×Nat×Nat):jv (a++b)=jv a++jv b:=by simp[jv]
def bL.tx(c:bL)(t:Nat):fQ:=(bJ c.aD t).getD OS
abbrev ub(lg bT:Nat)(c:bL)(r v:Value):Obj:=.cells #[.pointer (lgP lg),.map (some bT),.int .u64 (c.next:Int),.int .u64 (c.aH:Int),.int .u64 (c.bw:Int),r,v] 194
def C7(v:Value)(k n:Nat):Prop:=k<=n/\(k=0->v=.slice none 0 0)
theorem C7.mono(h:C7 v k n)(a:n<=m):C7 v k m:=⟨zzk h.1 a,h.2⟩
theorem C7.nil(n:Nat):C7 (.slice none 0 0) 0 n:=⟨zzs _,λ_=>rfl⟩
structure a_(w:nL)(B cp lg bT n:Nat)(c:bL):Prop where
 ex:∃rv ov,w.heap[cp]?=some (ub lg bT c rv ov)/\w.ownsRow B 174 2 rv c.res.length (lj c.res)/\w.ownsRow B 170 3 ov c.out.length (jv c.out)/\C7 rv c.res.length n/\C7 ov c.out.length n
 aD:dV KU EX w bT n c.aD
 low:B<=cp/\B<=bT/\B<=w.heap.size
 gw:c.next<2^64/\c.aH<2^64/\c.bw<2^64
section
variable{w w':nL}{B cp lg bT n:Nat}{c:bL}
theorem a_.w_(h:a_ w B cp lg bT n c):∃cs,w.heap[cp]?=some (.cells cs 194 (0,0)):=by have⟨r,v,a,_⟩:=h.ex;exact⟨_,a⟩
theorem a_.jS(h:a_ w B cp lg bT n c):cp<w.heap.size/\bT<w.heap.size/\cp≠bT:=by
 have⟨cs,a⟩:=h.w_;refine⟨(zza.1 a).1,h.aD.lt,λe=>?_⟩;have⟨es,c2,b⟩:=h.aD.isMap;rw[e,b]at a;cases a
theorem a_.mono(h:a_ w B cp lg bT n c){m:Nat}(a:n<=m):a_ w B cp lg bT m c:=by
 have⟨r,v,b,d,e,f,g⟩:=h.ex;exact⟨⟨r,v,b,d,e,f.mono a,g.mono a⟩,h.aD.mono a,h.low,h.gw⟩
theorem a_.fr{S:List Nat}(h:a_ w B cp lg bT n c)(hf:Fr S w w')(a:∀k∈S,k≠cp/\k≠bT/\k∉rd cp w):a_ w' B cp lg bT n c:=by
 have⟨r,v,b,d,f,i,j⟩:=h.ex;refine⟨⟨r,v,(hf.block cp h.jS.1 λe=>(a _ e).1 rfl).trans b,ar d hf ?_,ar f hf ?_,i,j⟩,h.aD.fr hf λe=>(a _ e).2.1 rfl,⟨h.low.1,h.low.2.1,zzk h.low.2.2 hf.size⟩,h.gw⟩
 .intro g hg e;exact(a g e).2.2<|by unfold rd Gz;rw[b];simp[hg]
 .intro g hg e;exact(a g e).2.2<|by unfold rd Gz;rw[b];simp[hg]
theorem a_.Tv(h:a_ w B cp lg bT n c){k:Nat}(a:k∈rd cp w):B<=k/\∃b t,w.heap[k]?=some (.cells b t (0,0))/\(t=174\/t=170):=by
 have⟨r,v,f,d,e,g,i⟩:=h.ex;unfold rd Gz at a;rw[f]at a;simp at a;obtain a|a:=a
 .obtain⟨b,hc⟩:=aL d a;exact⟨(d.lt k a).1,b,_,hc,.inl rfl⟩
 .obtain⟨b,hc⟩:=aL e a;exact⟨(e.lt k a).1,b,_,hc,.inr rfl⟩
theorem a_.rd_not(h:a_ w B cp lg bT n c){k:Nat}{b:Array Value}{t:TypeId}{fr:Nat×Nat}(g:w.heap[k]?=some (.cells b t fr))(d:t≠174)(f:t≠170):k∉rd cp w:=λm=>by
 have⟨_,c2,i,e,a⟩:=h.Tv m;rw[g]at e;cases e;obtain a|a:=a
 .exact d a
 .exact f a
theorem gQ.cells{S:List Nat}(hf:gQ cp S w w')(h:a_ w B cp lg bT n c){k:Nat}{b:Array Value}{t:TypeId}{fr:Nat×Nat}(a:w.heap[k]?=some (.cells b t fr))(f:k∉S)(d:t≠174)(e:t≠170):w'.heap[k]?=some (.cells b t fr):=
 (hf.block (zza.1 a).1 f<|h.rd_not a d e).trans a
theorem a_.new(h:a_ w B cp lg bT n c)(hf:Fr [] w w'):a_ w' B cp lg bT n c:=h.fr hf dv
theorem a_.iQ(h:a_ w B cp lg bT n c){t:Nat}(a:t<2^64):
  (Instr.lookup 192 (.map<|some bT) (.int .u64 (t:Int)) false).run prog w=.ok (lz<|c.tx t) w:=
 h.aD.look underlying192 (SL w) KW a
theorem a_.GA(h:a_ w B cp lg bT n c)(t:Nat):(c.tx t).Ok:=by
 unfold bL.tx;cases l:bJ c.aD t with
 |none=>exact KW
 |some u=>have⟨_,_,_,_,k⟩:=h.aD;exact(k _<|eO l).2
theorem a_.lS{ts:List (Nat×fQ)}{m:Nat}(h:a_ w B cp lg bT n c)(hf:Fr [bT] w w')(b:dV KU EX w' bT m ts)(hn:n<=m):a_ w' B cp lg bT m {c with aD:=ts}:=by
 have⟨t,s,j,f,i,l,p⟩:=h.ex;have⟨es,c2,d⟩:=h.aD.isMap;have o:∀{g:Nat} {e:TypeId} {k m:Nat} {v:Value} {xs:List Value},w.ownsRow B e k v m xs->v.ownBlock=some g->g∉[bT]:=λr a b=>by
  simp at b;subst b;have⟨u,q⟩:=aL r a;rw[q]at d;cases d
 exact⟨⟨t,s,(hf.block cp h.jS.1<|by simpa using h.jS.2.2).trans j,ar f hf λg a=>o f a,ar i hf λg a=>o i a,l.mono hn,p.mono hn⟩,b,⟨h.low.1,h.low.2.1,zzk h.low.2.2 hf.size⟩,h.gw⟩
end
theorem ke(B cp lg bT n t:Nat)(c:bL)(w:nL)(h:a_ w B cp lg bT n c)(d:t<2^64):
  Calls prog 121 #[gx cp,.int .u64 (t:Int)] w λe w'=>e=.returned (.int .i64 ((c.tx t).state:Int))/\w'=w:=by
 have⟨r,v,a,_⟩:=h.ex;have c1:=af a 1;simp at c1;have l:=h.iQ d;have I:=Xp (c.tx t)<|h.GA t;have⟨T,b⟩:=gb <|c.tx t;rw[<-b]at l I ⊢;clear h b a
 go_enter func121,ntmps121;go_wp2;go_ret;exact⟨rfl,rfl⟩
def jI(state:Nat):Nat:=if state=0 then 6 else if state=6 then 5 else 0
theorem Ls(B cp lg bT n t:Nat)(c:bL)(w:nL)(h:a_ w B cp lg bT n c)(f:t<2^64):
  Calls prog 123 #[gx cp,.int .u64 (t:Int)] w λe w'=>e=.returned (.int .i64 (jI (c.tx t).state:Int))/\w'=w:=by
 have d:=ke B cp lg bT n t c w h f;have⟨s,S⟩:=gb <|(c.tx t).state;rw[<-S]at d ⊢;clear h S;go_enter func123,ntmps123;go_wp2_with fail;apply d.mono;rintro e k ⟨rfl,rfl⟩;by_cases a:s=0
 .subst a;go_wp2;go_ret;exact⟨rfl,rfl⟩
 .by_cases b:s=6
  .subst b;go_wp2;go_ret;exact⟨rfl,rfl⟩
  .have i0:¬(s:Int)=0:=dp;have i:¬(s:Int)=6:=dp;have g:=oT.2 i0;have j:=oT.2 i;go_wp2;go_ret;exact⟨by unfold jI;rw[mE a,mE b];rfl,rfl⟩
theorem qW{f:α->List Value}(a:∀x,(f x).length=k):∀(l:List α) (i:Nat) (x:α),l[i]?=some x->∀j,j<k->(l.flatMap f)[i*k+j]?=(f x)[j]?
 |[],i,x,h,_,_=>by simp at h
 |y::l,0,x,h,j,hj=>by
  simp at h;subst h;rw[List.flatMap_cons,Nat.zero_mul,Nat.zero_add,Ij<|by rw[a];exact hj]
 |y::l,i+1,x,h,j,hj=>by
  simp at h;have e:(i+1)*k+j=k+(i*k+j):=by rw[Nat.add_mul,Nat.one_mul];omega
  rw[List.flatMap_cons,e,Hn<|by rw[a];omega,a,Nat.add_sub_cancel_left];exact qW a l i x h j hj
theorem wW{f:α->List Value}(h:∀x,(f x).length=k)(l:List α):(l.flatMap f).length=l.length*k:=by
 induction l with
 |nil=>simp
 |cons x l ih=>grind
theorem fA{base:Nat}{e:TypeId}{size:Nat}{xs:List Value}(h:w.ownsRow base e size v n xs){g c:Nat}(b:v=.slice (some<|gi g) m c){j:Nat}{u:Value}(a:xs[j]?=some u):w.cell? (hP g j)=some u:=by
 have:=h.cells (by rw[b];rfl) j u a;have e:((gi g):Addr).add j=(hP g j):=by unfold Addr.add;split<;>simp_all
 rw[e]at this;exact this
structure Bs where
 b:Nat
 ok:Nat->Prop:=λ_=>True
abbrev B0 [Inhabited Bs]:Nat:=(default:Bs).b
def CN(o:Option Nat):Int:=(o.map λn:Nat=>(n:Int)).getD (-1)
theorem XQ{p:α->Bool}{xs:List α}(h:∀(i:Nat) (x:α),xs[i]?=some x->p x=false):xs.findIdx? p=none:=by
 rw[List.findIdx?_eq_none_iff];intro x hx;have⟨i,a⟩:=zzB.1 hx;exact h i x a
theorem XR{p:α->Bool}{xs:List α}{x:α}(b:xs[k]?=some x)(hx:p x=true)(h:∀(i:Nat) (y:α),i<k->xs[i]?=some y->p y=false):xs.findIdx? p=some k:=by
 rw[List.findIdx?_eq_some_iff_getElem];have⟨l,e⟩:=zzd.1 b;refine⟨l,by rw[e];exact hx,λj a=>?_⟩;have:=h j xs[j] a<|zzg _;simp[this]
section
open Go.Shelf
variable{a:Act}{K:Act->nL->Prop}{w:nL}
section
variable{P:Program}{ops:Array Oper}{Q:Exit->Act->nL->Prop}{l n:Nat}
theorem PC{o:Oper}{a:Act}{w:nL}{K:Act->nL->Prop}(d:∀c,o.op≠.defer c)(h:o.wp P a w K Q):o.wpIn (Fence.wide.inRound l) n P a w K Q:=by
 refine⟨λ_ _=>trivial,?_⟩;rw[Oper.semAt_eq _ _ _ d];unfold Oper.wp at h;generalize (execOp a.eval o).run P w=r at *
 cases r with
 |ok x w'=>
  cases x<;>simp only[Oper.upon,Oper.uponIn]at h ⊢
  case value=>exact h
  case skip=>exact h
  case defer=>exact h
  case enter f args=>exact⟨λb=>(by cases b),CallsIn.inRound l<|yY.2 h⟩
  case row row args=>exact⟨λb=>(by cases b),λc cs _=>let ⟨v,w',r,s⟩:=h c cs;⟨v,w',r,stepsIn_wide.2 s⟩⟩
 |halt x w'=>cases x<;>simp only[Oper.upon,Oper.uponIn]at h ⊢ <;> exact h
theorem XS{i:Nat}{a:Act}{w:nL}{K:Act->nL->Prop}(e:∀o,ops[i]?=some o->∀c,o.op≠.defer c)(L:¬LetsOut Q)(h:wpOp P ops Q i K a w):wpOpIn (Fence.wide.inRound l) n P ops Q i K a w:=by
 unfold wpOp at h;unfold wpOpIn;cases b:ops[i]? with
 |none=>rw[b]at h;exact h
 |some o=>
  rw[b]at h;simp only at h ⊢;by_cases d:Region.wanted o (yielded ops a.tmps)=true
  .rw[oo d]at h ⊢;obtain h|h:=h
   .exact PC (e o b) h
   .exact absurd h.2 L
  .rw[mE d]at h ⊢;exact⟨λ_ _=>trivial,h⟩
theorem Iu(d:∀(i:Nat) o,ops[i]?=some o->∀c,o.op≠.defer c)(L:¬LetsOut Q):∀(fuel:Nat) (listed:Array Bool) (a:Act) (w:nL),wpAny P .any ops Q fuel listed a w->wpAnyIn (Fence.wide.inRound l) n P .any ops Q fuel listed a w
 |0,_,_,_,h=>h
 |fuel+1,_,_,_,h=>⟨h.1,λi f=>wpOpIn_mono (λb w' e=>Iu d L fuel _ b w' e)<|XS (d i) L<|h.2 i f⟩
def Iv(ops:Array Oper):Bool:=ops.toList.all λo=>match o.op with|.defer _=>false|_=>true
theorem Iw(h:Iv ops=true):∀(i:Nat) o,ops[i]?=some o->∀c,o.op≠.defer c:=by
 intro i o b c a;have:=List.all_eq_true.1 h o (zzh<|by simpa using b);rw[a]at this;cases this
theorem hZ{S:nL->Prop}{id:Nat}{a:Act}{w:nL}(m:P.follows .mixedOrders=true)(d:Iv ops=true)(L:¬LetsOut Q)(b:S w.drew)
  (h:S w.drew->wpAnyH P .any ops Q S ops.size (Array.replicate ops.size false) a w.drew):(Code.region id ops true).wpIn (Fence.wide.inRound l) n P Q a w:=
 wpIn_region_any m (Iu (Iw d) L _ _ _ _<|wpAny_of_held _ _ _ _<|h b)
end
end
variable{k:Nat}
theorem IP{p:Prop}(h:p):Hid p:=h
abbrev Sg:=List Rec × List Nat
def BO(s:Sg):List Nat:=dF s.1++s.2
abbrev chunks(ss:List Sg):List (List Rec):=ss.map Prod.fst
structure vO(t:List Nat):Prop where
 X8:mG t
 no:gK t=false
 le:t.length<=300
theorem xj:vO []:=⟨by intro x hx;simp at hx,ko<|qL dv,dv⟩
def az(mk:Nat)(ss:List Sg):Nat:=mk+(chunks ss).flatten.length
def nu(s:Sg):Nat:=if s.2=[] then eU s.1 else 600
def mU(ss:List Sg):Nat:=match ss.getLast? with|none=>600|some s=>nu s
def xk(rs:List Rec):Prop:=∀r∈rs,r.kind<256/\r.pay.length<=255/\mG r.pay
structure bG(F:aG)(mk:Nat)(ss:List Sg):Prop where
 mark:(mk=1/\F eA=none)\/F eA=some (str (aB mk 0 []))
 pos:1<=mk
 ne:∀s∈ss,s.1≠[]
 files:∀(k:Nat) (s:Sg),ss[k]?=some s->F (aw (az mk (ss.take k)))=some (str (BO s))
 uG:∀s∈ss,vO s.2
 size:∀s∈ss,eU s.1<870
 gw:∀(k:Nat) (r:Rec),(chunks ss).flatten[k]?=some r->r.cW=mk+k
 fine:xk (chunks ss).flatten
 other:∀nm,F nm≠none->nm=eA\/nm=cD\/∃u,nm=aw u/\u<2^64/\(u<mk\/u∈starts mk (chunks ss)\/u=az mk ss)
 dead:∀t,F (aw (az mk ss))=some t->∃b,t=str b/\vO b
 ve:az mk ss<2^64
def cL(mk:Nat)(ss:List Sg):au:=⟨starts mk (chunks ss),mU ss,(chunks ss).flatten,az mk ss,0,0⟩
theorem fh(ss:List Sg)(k:Nat):chunks (ss.take k)=(chunks ss).take k:=by simp_all
theorem IQ{ss:List Sg}{s:Sg}(h:ss[k]?=some s):ss.take (k+1)=ss.take k++[s]:=by rw[vV,h];rfl
theorem aY(ss:List Sg)(s:Sg):chunks (ss++[s])=chunks ss++[s.1]:=by grind
theorem sY(mk:Nat)(ss:List Sg)(s:Sg):az mk (ss++[s])=az mk ss+s.1.length:=by grind[az,aY,dY]
theorem jB(mk:Nat):az mk []=mk:=by simp[az]
theorem pk(ss:List Sg)(s:Sg):mU (ss++[s])=nu s:=by unfold mU;simp
theorem LO(mk:Nat)(ss:List Sg)(s:Sg):cL mk (ss++[s])=⟨(cL mk ss).segs++[(cL mk ss).next],nu s,(cL mk ss).recs++s.1,(cL mk ss).next+s.1.length,0,0⟩:=by
 unfold cL;rw[pk,sY,aY,eF,dY];rfl
theorem BP(mk:Nat)(ss:List Sg)(k:Nat):az mk (ss.take k)<=az mk ss:=by
 unfold az;rw[fh];have:=congrArg List.length<|BC k<|chunks ss;rw[zzi]at this;omega
theorem Uc{s:Sg}(hf:vd s.1)(j:vO s.2):mG (BO s)/\uN (BO s) s.1.length/\(st s.1.length<|BO s).1=s.1/\(st s.1.length<|BO s).2=(dF s.1).length:=by
 have⟨a,b,h⟩:=ND s.1 hf s.2;refine⟨?_,⟨a,?_⟩,b,h⟩
 .intro x hx;obtain hx|hx:=zzo.1 hx
  .exact LN hf x hx
  .exact j.X8 x hx
 .show gK ((dF s.1++s.2).drop (st s.1.length<|dF s.1++s.2).2)=false;rw[h,qc _ _ _ rfl];exact j.no
section
variable{F:aG}{mk:Nat}{ss:List Sg}
theorem bG.ne'(h:bG F mk ss):∀c∈chunks ss,c≠[]:=by
 intro c a;obtain⟨s,b,rfl⟩:=zzq.1 a;exact h.ne s b
theorem bG.at_(h:bG F mk ss){k:Nat}{s:Sg}(c:ss[k]?=some s):
  vd s.1/\(∀(j:Nat) (r:Rec),s.1[j]?=some r->r.cW=az mk (ss.take k)+j)/\s.1≠[]/\F (aw<|az mk<|ss.take k)=some (str<|BO s)/\vO s.2/\eU s.1<870/\az mk (ss.take k)+s.1.length<=az mk ss:=by
 have m:=zzh c;have g:(chunks ss)[k]?=some s.1:=by grind
 have U:(chunks ss).flatten=((chunks ss).take k).flatten++(s.1++((chunks ss).drop<|k+1).flatten):=by
  have a:=BC (k+1)<|chunks ss;rw[T8 g,dY,zzx]at a;exact a
 have E:∀(j:Nat) (r:Rec),s.1[j]?=some r->(chunks ss).flatten[((chunks ss).take k).flatten.length+j]?=some r:=λj r b=>by
  rw[U,Hn dp,show((chunks ss).take k).flatten.length+j-((chunks ss).take k).flatten.length=j by omega,Ij (zzd.1 b).1];exact b
 have B:az mk (ss.take k)=mk+((chunks ss).take k).flatten.length:=by unfold az;rw[fh]
 refine⟨λr i=>?_,λj r b=>?_,h.ne s m,h.files k s c,h.uG s m,h.size s m,?_⟩
 .obtain⟨j,b⟩:=zzB.1 i;have a:=E j r b;have l:=h.gw _ r a;have n:=(zzd.1 a).1;have⟨f,d,e⟩:=h.fine r<|zzh a;have o:az mk ss=mk+(chunks ss).flatten.length:=rfl;have:=h.ve;exact⟨f,d,e,dp⟩
 .have:=h.gw _ r<|E j r b;omega
 .rw[B];have:=congrArg List.length U;simp only[zzi]at this;show _<=mk+(chunks ss).flatten.length;omega
end
theorem Fr.dE{S:List Nat}{a w:nL}(h:Fr S a w):∀k,Fr S a<|w.drewN k
 |0=>h
 |k+1=>by
  have b:=Fr.dE h k;exact⟨b.os,b.tape,b.output,b.size,b.block⟩
theorem Ul(f B p D N n G H:Nat)(pv:Value)(d:aj)(rs:List Rec)(t:List Nat)(w:nL)(h:aC w B p D N pv d n G H)(mq:d.down=false)(I:vd rs)(j9:∀(k:Nat) (r:Rec),rs[k]?=some r->r.cW=f+k)(hf:f+rs.length<2^64)(Y:rs≠[])(c:vO t)(pR:d.now (aw f)=some (str<|BO (rs,t)))(dK:dJ w)(hlen:rs.length<=1000000000)(Ot:(dF rs).length<=4096):
  Calls prog 263 #[fS p,.int .u64 (f:Int)] w λe w'=>∃v,e=.returned (.tuple #[v,.int .i64 (nu (rs,t):Int),.nilIface])/\w'.ownsRow w.heap.size 89 3 v rs.length (cM rs)/\Below w.heap.size w w':=by
 have hm:=Nb;have ab:=NC p;have P:Hid (aC w B p D N pv d n G H/\d.read (aw f)=(some<|str<|BO (rs,t),0)):=⟨h,by unfold aj.read;rw[mE<|by rw[mq];decide,pR]⟩;have F:Hid ((vd rs/\∀(k:Nat) (r:Rec),rs[k]?=some r->r.cW=f+k)/\mG (BO (rs,t))/\uN (BO (rs,t)) rs.length/\(st rs.length<|BO (rs,t)).1=rs/\(st rs.length<|BO (rs,t)).2=(dF rs).length):=⟨⟨I,j9⟩,Uc I c⟩;have J:Hid ((BO (rs,t)).length=(dF rs).length+t.length):=by show _=_;simp[BO]
 have a':(BO (rs,t)).length<=5000:=by rw[J.out];have:=c.le;omega
 have ae:=c.le;clear h pR I j9 c;go_enter func263,ntmps263;go_wp2;go_region_held3 (λ_=>True)
  (trivial)
  (first
   |(go_at_call 159;apply(gS f w.drew dp<|show dJ w.drew from dK).mono;rintro e w1 ⟨rfl,mY⟩;have K:Hid (Below (nF w) w w1):=⟨mY.os,mY.tape,mY.output,mY.size,mY.block⟩;clear mY)
   |(go_at_call 411;apply(wO B p D N n G H pv d (aw f) w1 (P.1.new (Fr.bE K.out [])) (by have:=jr f dp;unfold maxLen;omega)).mono;rintro e w2 ⟨v2,rfl,fT,dy⟩))
 all_goals clear hm ab
 all_goals rw[P.2]at fT ⊢
 all_goals rw[aT]
 all_goals
  have W:Src w2 v2 (BO (rs,t)):=by
   have:Src w2 v2 (bytesOf<|str<|BO (rs,t)):=fT;rwa [sV F.2.1]at this
  have zU:0<(dF rs).length:=by
   cases o:rs with
   |nil=>exact absurd o Y
   |cons r l=>simp[dF,gu];omega
  have a7:=zzE.2 Y;have a8:=To v2 (BO (rs,t)) w2 W F.2.1 dp;have Q:=ah<|K.out.trans<|dy.mono K.out.size
  obtain⟨V,o2,c2,rfl⟩:∃V o2 c2,v2=.slice (some ⟨V,o2,none⟩) (BO (rs,t)).length c2:=by
   rcases W with⟨_,e⟩|⟨b,ad,aa,e,_⟩
   .have Gu:=J.out;rw[e]at Gu;simp at Gu;omega
   .exact⟨b,ad,aa,e⟩
  clear fT dy W;go_wp2_with fail;apply a8.mono;clear a8;rintro e z ⟨k,v3,rfl,hE,aW,_,iL⟩;have⟨z1,z2,z3⟩:=F.2.2;obtain rfl:=qK hE z1;rw[z2]at aW;rw[z3];obtain⟨a,c3,rfl⟩:=eQ aW a7;have M:=ah<|Q.out.trans<|iL.mono Q.out.size;have T:=ah aW;have L:=(aW.lt a rfl).2
  have HC:Hid (∀(k:Nat) (r:Rec),rs[k]?=some r->z.cell? (hP a (k*3))=some (.int .u64 (r.cW:Int))/\z.cell? (hP a (k*3+1))=some (.int .u8 (r.kind:Int))/\z.cell? (hP a (k*3+2))=some (.string<|str r.pay)):=λk r X=>by
   obtain⟨qB,rfl⟩:=zzd.1 X;have⟨a1,a2,a3⟩:=Bz rs k qB;have q:=aW.cells rfl _ _ a1;have u:=aW.cells rfl _ _ a2;have x:=aW.cells rfl _ _ a3;simp only[Addr.add_lit,Nat.zero_add]at q u x;exact⟨q,u,x⟩
  clear hE z1 z2 z3 aW iL;have⟨m,A⟩:=gb rs.length;have S:=ah A;rw[<-A]at T hlen a7 hf ⊢;clear A;have⟨j,C⟩:=gb <|(dF rs).length;have⟨y,U⟩:=gb <|(BO (rs,t)).length;rw[<-C]at Ot zU J ⊢;rw[<-U]at J a' ⊢;have E:=ah<|zzb C J.out;have ag:j<=y:=by have:=J.out;omega
  clear C J U;go_wp2;go_loopw [33] (λi wr=>∃k:Nat,k<=m/\i=.int .i64 k/\Hid (Below (nF z) z wr)) (λi _=>m-(intOf i).toNat);.exact⟨0,zzs _,rfl,zzD _ _⟩
  case round=>
   obtain⟨k,X,rfl,R⟩:=hrel;by_cases bW:k<m
   .obtain⟨r,o⟩:∃r,rs[k]?=some r:=⟨_,zzg<|by have:=S.out;omega⟩;have⟨q,u,x⟩:=HC.out k r o;have y1:=F.1.2 k r o;rw[y1]at q;have r1:=(R.out.cell L).trans q;have r2:=(R.out.cell L).trans u;have r3:=(R.out.cell L).trans x;have j1:IntKind.u64.wrap (k:Int)=k:=by rw[Bl];omega
    have j2:IntKind.u64.wrap ((f:Int)+k)=(f:Int)+k:=by rw[Bl];omega
    have I:=R.out.size;clear q u x y1 o;go_wp2;go_roundw;.exact⟨k+1,dp,dv,R.out.alloc I _⟩
    case measure=>simp[intOf];omega
   .obtain rfl:k=m:=dp;have Z:wr.ownsRow (nF w) 89 3 (.slice (some (gi a)) k c3) rs.length (cM rs):=by
     rw[<-S.out];exact qa (tW T.out Q.out.size) R.out
    have O:=ah<|zzb Z<|M.out.trans<|R.out.mono M.out.size;clear Z;by_cases c:t=[]
    .have hq:j=y:=by rw[E.2,c];rfl
     subst hq;have hd:decide ((j:Int)<j)=false:=dv;go_wp2;go_ret3;exact⟨.slice (some (gi a)) k c3,by unfold nu;rw[oo c,<-vM,<-E.1];rfl,O.out⟩
    .have hq:(j:Int)<y:=by have:=E.2;have:0<t.length:=zzE.2 c;omega
     go_wp2;go_ret3;exact⟨.slice (some (gi a)) k c3,by unfold nu;rw[mE c];rfl,O.out⟩
end Go.Proofs.YtlgeloebpdmnnaaGreatDoor
