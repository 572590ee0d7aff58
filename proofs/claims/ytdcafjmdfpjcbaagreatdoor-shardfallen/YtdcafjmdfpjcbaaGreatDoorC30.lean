import Derived.Test.YtdcafjmdfpjcbaaGreatDoorC29
set_option maxHeartbeats 4000000
set_option maxRecDepth 100000
namespace Go.Proofs.YtdcafjmdfpjcbaaGreatDoor
open Go.RowKit Go.Maps Tryz Sc
variable{kd:Int}{B p:Nat}{w w':World}
theorem lA.below{hp:Nat}{so C:Option (Nat×List Nat)}(f:lA hp p so C w w')(b:B<=w.heap.size)(o:∀k,jL hp p so w k->B<=k):Below B w w':=
 ⟨f.os,f.tape,f.output,f.size,λk a=>f.block k oE λh=>by have:=o k h;omega⟩
section
variable{w w':World}{B hp p E f I J O U h bN m n:Nat}{s:ag}{l:aq}{d:ah}
theorem SL.p_(b:SL w B E f I J O m U p h bN n s l d)(i:B<=E/\B<=I/\B<=J/\B<=O)(L:B<=hp):B<=w.heap.size/\∀k,jL hp p (some (U,[E,I,J,O])) w k->B<=k:=by
 have⟨v,g,r,D,N,a⟩:=b.lg;refine⟨a.bE.base.2.2.2,λk c=>?_⟩;obtain e|e|e:=eM.1 c
 .omega
 .exact a.ge e
 .grind
theorem wH.p_{kd:Int}(c:wH w B kd hp p h bN d n)(L:B<=hp):B<=w.heap.size/\∀k,jL hp p none w k->B<=k:=by
 have⟨v,D,N,a⟩:=c.bE;have b:=a.base;refine⟨b.2.2.2,λk f=>?_⟩;obtain e|e:=eX.1 f
 .omega
 .exact a.geD e
theorem wH.fresh{kd:Int}(c:wH w B kd hp p h bN d n)(f:Fr [] w w'):wH w' B kd hp p h bN d n/\lA hp p none none w w':=by
 have⟨a,v,D,N,b⟩:=c;exact⟨⟨(f.block hp (zza.1 a).1 sE).trans a,v,D,N,b.new f⟩,b.Sv f sE⟩
end
def HZ(g w:World)(B hp p E f I J O U h bN m n:Nat)(s:ag)(l:aq)(d:ah):Prop :=
 (d.down=false/\kz w B hp p E f I J O U h bN m n s l (d.bj (-1) (-1))/\lA hp p (some (U,[E,I,J,O])) (some (U,[E,I,J,O])) g w) \/
 (d.down=true/\∃F a,Left d.ai d.pending F/\wH w B 2 hp p h a (eI F) n/\lA hp p (some (U,[E,I,J,O])) none g w)
section
variable{g w w':World}{B hp p E f I J O U h bN m n:Nat}{s:ag}{l:aq}{d:ah}
theorem HZ.new(k:HZ g w B hp p E f I J O U h bN m n s l d)(e:Fr [] w w'):HZ g w' B hp p E f I J O U h bN m n s l d:=by
 rcases k with⟨a,b,c⟩|⟨a,F,j,b,c,i⟩
 .obtain⟨k1,k2⟩:=b.new e;exact .inl ⟨a,k1,c.trans k2.sL⟩
 .obtain⟨k1,k2⟩:=c.fresh e;exact .inr ⟨a,F,j,b,k1,i.trans k2⟩
theorem HZ.from(k:HZ w w' B hp p E f I J O U h bN m n s l d)(e:lH E I J O U p g w):HZ g w' B hp p E f I J O U h bN m n s l d:=by
 rcases k with⟨a,b,c⟩|⟨a,F,j,b,c,i⟩
 .exact .inl ⟨a,b,e.sL.trans c⟩
 .exact .inr ⟨a,F,j,b,c,e.sL.trans i⟩
theorem HZ.fr(b:HZ g w B hp p E f I J O U h bN m n s l d):∃so,lA hp p (some (U,[E,I,J,O])) so g w:=by
 rcases b with⟨a,c,e⟩|⟨a,F,j,c,e,i⟩
 .grind
 .grind
end
theorem vV(B hp E f I J O m U p h bN n:Nat)(s:ag)(l:aq)(d:ah)(a b c k:Int)(w:World)(i:w.heap[hp]?=some (gB p true<|rM E))(j:SL w B E f I J O m U p h bN n s l d)(o:B<=E/\B<=I/\B<=J/\B<=O)(t:-2^63<=k)(T:k<=9223372036854775807):
  Calls prog 27 #[rM hp,fY a b c k] w λe w'=>e=.returned (.tuple #[])/\HZ w w' B hp p E f I J O U h bN m n s l d:=by
 have⟨v,x,C,D,N,g⟩:=j.lg;cases M:d.down with
 |false=>
  have L:=g.bE.blk;rw[M]at L;apply(LR hp p h bN v _ true d.left d.full a b c k w i L).mono;rintro e u ⟨rfl,eV,dD⟩;rw[<-M]at eV;have⟨r,y⟩:=j.bj (-1) (-1) dD eV g.bE.blk;have q:=y.cells j i dN dN dN dN dN dN;exact⟨rfl,.inl ⟨M,⟨q,r,o⟩,y.sL⟩⟩
 |true=>
  have A:=(zza.1 g.blk).1;apply(vU 2 B hp p h bN n D N v (.pointer<|some (dH E)) (.pointer none) true d a b c k (some (U,[E,I,J,O])) w (λz S e=>by cases e;exact A) i ⟨_,rfl⟩ ⟨_,rfl⟩ g.bE M t T).mono;rintro e u ⟨rfl,F',ng,h1,h2,h3⟩;exact⟨rfl,.inr ⟨M,F',ng,h1,h2,h3⟩⟩
theorem Ms{fo fi:Nat}{ar:List Value}{rv:Nat->Value->Value}(t:Nat)(hK:fo=51/\fi=87/\ar=[.int .u64 (t:Int)]/\rv=(λv y=>.tuple #[.int .i64 (v:Int),y])\/fo=54/\fi=89/\ar=[.int .u64 (t:Int)]/\rv=(λ_ y=>y)\/fo=56/\fi=91/\ar=[.int .u64 (t:Int)]/\rv=(λ_ y=>y)\/fo=58/\fi=92/\ar=[]/\rv=λ_ y=>y)(B hp E f I J O m U p h bN n:Nat)(s:ag)(l:aq)(d:ah)(a b c k:Int)(w:World)(Q:Nat->Nat->ag->aq->ah->Nat->Nat->Prop)(hh:w.heap[hp]?=some (gB p true<|rM E))(A:SL w B E f I J O m U p h bN n s l d)(z:B<=E/\B<=I/\B<=J/\B<=O)(hB:2<=B)(fL:B<=hp)(kD:-2^63<=k)(gT:k<=9223372036854775807)(gH:Met w)
  (hX:∀q,SL q B E f I J O m U p h bN n s l (d.bj a b)->lH E I J O U p w q->Calls prog fi (rM E::ar).toArray q λe w2=>∃v x g l' d' m' n',Q v x g l' d' m' n'/\e=.returned (rv v<|cj x)/\SL w2 B E f I J O m' U p h bN n' g l' d'/\lH E I J O U p q w2) :
  Calls prog fo (rM hp::(ar++[fY a b c k])).toArray w λe w'=>∃v x g l' d' m' n',Q v x g l' d' m' n'/\e=.returned (rv v<|.int .i64 (x:Int))/\HZ w w' B hp p E f I J O U h bN m' n' g l' d':=by
 rcases hK with⟨rfl,rfl,rfl,rfl⟩|⟨rfl,rfl,rfl,rfl⟩|⟨rfl,rfl,rfl,rfl⟩|⟨rfl,rfl,rfl,rfl⟩
 all_goals
  simp only[List.cons_append,List.nil_append]at hX ⊢;have⟨W,r⟩:=xY <|w.alloc (iV a b c k);have eU:Fr [] w W:=by rw[r];exact(lE w).alloc _
  have⟨X,M⟩:=A.new eU;have K:=M.cells A hh dN dN dN dN dN dN;have V:W.heap[w.heap.size]?=some (iV a b c k):=by rw[r];exact heap_alloc_new w _
  have Ih:=M;have Zs:=ae A;have c3:=aa K 3;have c5:=aa K 5;have S:=aa V 0;have C:=aa V 1;have N:=aa V 2;have F:=aa V 3;simp at c3 c5 S C N F;rw[r]at c3 c5 S C N F;have⟨Xe,wI⟩:∃j,W.heap[p]?=some (kF h bN j d.left d.full d.down):=by have⟨j,sv,rv,nD,nN,G⟩:=X.lg;exact⟨j,G.bE.blk⟩
  have H:=ae<|zzb X<|zzb K<|zzb V<|zzb Ih wI;clear A hh eU X M K V Ih wI
  first|go_enter func51,ntmps51|go_enter func54,ntmps54|go_enter func56,ntmps56|go_enter func58,ntmps58
  go_wp2_with fail;rw[<-r];clear r c3 c5 S C N F;apply(qK hp p h bN Xe _ true d.down d.left d.full a b c k W H.2.1 H.2.2.2.2).mono;rintro e q ⟨rfl,gw,bF⟩;have⟨L,y⟩:=H.1.bj a b bF gw H.2.2.2.2;have P:=y.cells H.1 H.2.1 dN dN dN dN dN dN;have Ko:=y.cells H.1 H.2.2.1 dN dN dN dN dN dN;have R:=H.2.2.2.1.trans y;have Y:=hX q L R;have k5:=aa P 5;simp at k5;have o:=ae<|zzb L<|zzb P<|zzb Ko R;clear L y P Ko R gw bF hX H;go_wp2_with fail;apply Y.mono;clear Y;rintro e w2 ⟨v,x,g,l',d',m',n',hQ,rfl,cC,lF⟩;have Z:=lF.cells o.1 o.2.1 dN dN dN dN dN dN;have u:=lF.cells o.1 o.2.2.1 dN dN dN dN dN dN;have T:=o.2.2.2.trans lF;have y0:=aa u 0;have y1:=aa u 1;have y2:=aa u 2;have y3:=aa u 3;simp at y0 y1 y2 y3;have vW:Met w2:=(T.ie Zs.out z).met hB gH;have⟨ya,ow⟩:∃j,w2.heap[p]?=some (kF h bN j d'.left d'.full d'.down):=by have⟨j,sv,rv,nD,nN,G⟩:=cC.lg;exact⟨j,G.bE.blk⟩
  have i:=ae<|zzb cC<|zzb Z<|zzb T<|zzb ow hQ;clear cC lF Z u T ow hQ k5 o;go_wp2_with fail;apply(vV B hp E f I J O m' U p h bN n' g l' d' a b c k w2 i.2.1 i.1 z kD gT).mono;clear y0 y1 y2 y3;rintro e w3 ⟨rfl,IZ⟩;have⟨Zt,yl⟩:=IZ.fr;have qW:Met w3:=vW.below (yl.below (i.1.p_ z fL).1 (i.1.p_ z fL).2) oE;have D:=ae<|zzb (IZ.from i.2.2.1) i.2.2.2.2;clear IZ yl i;go_wp2_with fail;apply(jw x w3 qW).mono;rintro e w4 ⟨rfl,kN⟩;have H4:=ae<|zzb D.2<|D.1.new kN;clear kN D;go_wp2;first|go_ret2;exact⟨v,x,g,l',d',m',n',H4.1,rfl,H4.2⟩|go_ret;exact⟨v,x,g,l',d',m',n',H4.1,rfl,H4.2⟩
theorem NS(w:World)(n:Nat)(hn:n<=1000000000):
  Calls prog 8 #[.int .i64 2,.int .i64 0] w λe w'=>∃hp p D bN,e=.returned (rM hp)/\w'.heap[hp]?=some (gB p false<|.pointer none)/\aB w' w.heap.size p D bN (.slice none 0 0) ⟨λ_=>none,λ_=>none,[],-1,-1,false⟩ n 0 0/\w.heap.size<=hp/\Below w.heap.size w w':=by
 have o:=@run_makeMap prog;go_enter func8,ntmps8;go_wp2_with fail;have⟨W,h⟩:=xY <|((w.alloc<|.map #[] 0).alloc<|.cells #[.map<|some w.heap.size,.map none,.slice none 0 0,.int .i64<|-1,.int .i64<|-1,.bool false] 58).alloc (gB (w.heap.size+1) false<|.pointer none);have Y:=h;rw[<-Y];clear Y;have z:W.heap.size=w.heap.size+3:=by rw[h];simp
 have a:Below w.heap.size w W:=by rw[h];exact(((zzD _ w).alloc (zzc _) _).alloc sE _).alloc sC _
 have m:FileMap W w.heap.size 0 (λ_=>none):=by rw[h];exact((FileMap.made w).alloc _).alloc _
 have c:W.heap[w.heap.size+1]?=some (.cells #[.map<|some w.heap.size,.map none,.slice none 0 0,.int .i64<|-1,.int .i64<|-1,.bool false] 58):=by
  rw[h,zzf _ _ (w.heap.size+1) sE];have:=heap_alloc_new (w.alloc<|.map #[] 0)<|.cells #[.map<|some w.heap.size,.map none,.slice none 0 0,.int .i64<|-1,.int .i64<|-1,.bool false] 58;rw[zzv]at this;exact this
 have b:W.heap[w.heap.size+2]?=some (gB (w.heap.size+1) false<|.pointer none):=by
  rw[h];have:=heap_alloc_new ((w.alloc<|.map #[] 0).alloc<|.cells #[.map<|some w.heap.size,.map none,.slice none 0 0,.int .i64<|-1,.int .i64<|-1,.bool false] 58)<|gB (w.heap.size+1) false<|.pointer none;rw[zzv,zzv]at this;exact this
 clear h;have i:=ae b;apply(QQ w.heap.size (w.heap.size+1) w.heap.size n 0 (.slice none 0 0) (.map none) ⟨λ_=>none,λ_=>none,[],-1,-1,false⟩ W c ⟨oE,oE,oE⟩ m oE hn<|by intro k t l;cases l).mono;rintro e f ⟨rfl,mF,bF⟩;have d:f.heap[w.heap.size+1+1]?=some (gB (w.heap.size+1) false<|.pointer none):=(bF.block (w.heap.size+2) oE sE).trans i.out;have g:Below w.heap.size w f:=a.trans (bF.below oE<|by intro k j;simp at j;omega);have H:=ae<|zzb mF<|zzb g d;clear mF bF d g c b m a;go_wp2;go_ret;exact⟨w.heap.size+1+1,w.heap.size+1,w.heap.size,W.heap.size,rfl,H.2.2,H.1,oE,H.2.1⟩
theorem SL.other{i g V T H m k h bN n q:Nat}{s:ag}{l:aq}{d:ah}{c:Array Value}{t:TypeId}(a:SL w B i g V T H m k p h bN n s l d)(j:Fr [q] w w')(f:w.heap[q]?=some (.cells c t (0,0)))(I:t≠58)(z:t≠162)(G:t≠137)(C:t≠34)(D:t≠82)(x:t≠9)(A:t≠148)(r:t≠229):SL w' B i g V T H m k p h bN n s l d:=by
 have⟨M,J,K,L,N,u⟩:=a.lg;have F:i≠q:=by intro e;have:=a.sh.blk;rw[e,f]at this;cases this;exact A rfl
 have y:V≠q:=by intro e;have⟨es,c2,b⟩:=a.sh.aS.isMap;rw[e,f]at b;cases b
 have o:T≠q:=by intro e;have⟨es,c2,b⟩:=a.sh.af.isMap;rw[e,f]at b;cases b
 have v:H≠q:=by intro e;have⟨es,c2,b⟩:=a.sh.holds.isMap;rw[e,f]at b;cases b
 have E:g≠q:=by intro e;have:=a.ap.lW;rw[e,f]at this;cases this;exact r rfl
 exact⟨a.sh.fr j (by simpa using F) (by simpa using y) (by simpa using o)<|by simpa using v,⟨_,_,_,_,_,u.other j f I z G C D x⟩,⟨(j.block g (zza.1 a.ap.lW).1<|by simpa using E).trans a.ap.lW,a.ap.ne⟩,a.CM⟩
def az.less:az->List ByteArray->az
 |m,[]=>m
 |m,x :: l=>(m.set x none).less l
/-! ### the files of a log -/
def Q_:Nat->List (List Rec)->az
 |_,[]=>λ_=>none
 |n,c :: cs=>(Q_ (n+c.length) cs).set (ar n) (some (str (dt c)))
/-! ### what Append and Cut come to -/
/-! ### a aaT WQ -/
def iJ(x:Nat × Nat × Nat)(r:Rec):Nat × Nat × Nat:=if r.kind=254 then (r.cQ,x.2) else if r.kind=255/\0<x.1 then (x.1,x.1,r.cQ) else x
def gC(rs:List Rec):Nat × Nat × Nat:=rs.foldl iJ (0,0,0)
theorem xm(rs:List Rec)(r:Rec):gC (rs++[r])=iJ (gC rs) r:=by simp[gC]
def counts(b e:Nat)(r:Rec):Bool:=(decide (r.kind<128)&&decide (e<r.cQ))||(decide (b<r.cQ)&&decide (r.cQ<e))
def counted(rs:List Rec):List Rec:=rs.filter (counts (gC rs).2.1 (gC rs).2.2)
section
open Go.Shelf
variable{S:List Nat}{l:List Rec}{b e:Nat}{x:Rec}{W X:World}
def Ii{rs:List Rec}(e:List { x:Rec // x∈rs }):Nat × Nat × Nat:=gC (e.map (·.1))
theorem Sw{rs:List Rec}(e:List {x:Rec//x∈rs})(x:{x:Rec//x∈rs}):Ii (e++[x])=iJ (Ii e) x.1:=by grind[Ii,xm]
theorem pN.dr(h:pN S W X):pN S W X.drew:=⟨h.size,h.same⟩
theorem KeepsOthers.dr(h:KeepsOthers W X):KeepsOthers W X.drew:=⟨h.size,h.same⟩
theorem pN.sM{n:Nat}(h:∀k∈S,k<n)(c:n<=b)(v:Value):pN S W (W.setCell (dH b) v):=
 ⟨sE,λk a _=>Below.heap_setCell _ _ _ k<|by have:=h k a;simp;omega⟩
theorem Df(n:Nat)(hn:4<=n)(i g:Nat)(E:Value)(rs:List Rec)(hlen:rs.length<=1000000000)(w:World)(z:w.cell? (dH i)=some (rM g))(hL:kc w g E rs):
  CallsIn Fence.wide n prog 152 #[rM i] w λe w'=>e=.returned (.tuple #[.int .u64 ((gC rs).2.1:Int),.int .u64 ((gC rs).2.2:Int)])/\Below w.heap.size w w':=by
 have K:Fence.wide.round=none:=rfl;have M:1<=n:=oE;have cA:Fence.wide.fn 69:=trivial;have dD:Fence.wide.fn 110:=trivial;have kB:i<w.heap.size:=zzF w (dH i) z;have⟨f,r⟩:=xY <|((w.alloc (.cells #[.int .u64 0] 34)).alloc (.cells #[.int .u64 0] 34)).alloc (.cells #[.int .u64 0] 34);have U:Below w.heap.size w f:=by rw[r];exact(((zzD _ w).alloc (zzc _) _).alloc sE _).alloc sC _
 have c0:f.cell? (dH i)=some (rM g):=(U.cell kB).trans z;rw[r]at c0;refine callsIn_of_wp_marks func152 rfl trivial ?_ K;simp only[ntmps152,mJ,zzr,mV,Nat.reduceAdd,Nat.reduceSub,m7,m8,n8,oS,p5,qS];gi_wp2_with (gi_at_call 69;apply(Jg Fence.wide (n-1) cA K _ _).mono;rintro e w' ⟨rfl,rfl⟩);have F:=Boxed.new f 59 (rM g);have I:f.heap.size=w.heap.size+3:=by rw[r];simp
 have b4:Boxed f (w.heap.size+1+1) 34 (.int .u64 0):=by
  have:=Boxed.new ((w.alloc (.cells #[.int .u64 0] 34)).alloc (.cells #[.int .u64 0] 34)) 34 (.int .u64 0);rw[zzv,zzv,<-r]at this;exact this
 have R:Boxed f (w.heap.size+1) 34 (.int .u64 0):=by
  have:=(Boxed.new (w.alloc (.cells #[.int .u64 0] 34)) 34 (.int .u64 0)).alloc (.cells #[.int .u64 0] 34);rw[zzv,<-r]at this;exact this
 have Q:Boxed f w.heap.size 34 (.int .u64 0):=by
  have:=((Boxed.new w 34 (.int .u64 0)).alloc (.cells #[.int .u64 0] 34)).alloc (.cells #[.int .u64 0] 34);rw[<-r]at this;exact this
 rw[<-r];clear r c0;have P:=Q.alloc (.cells #[rM g] 59);have Pb:=R.alloc (.cells #[rM g] 59);have Y:=b4.alloc (.cells #[rM g] 59);have N:Below w.heap.size w (f.alloc (.cells #[rM g] 59)):=U.alloc U.size _;have wF:(f.alloc (.cells #[rM g] 59)).heap.size=w.heap.size+4:=by rw[zzv,I]
 have y:=hL.below N;rw[I]at F;have⟨O,nX⟩:∃O,O=f.alloc (.cells #[rM g] 59):=⟨_,rfl⟩;rw[<-nX]at F P Pb Y N wF y ⊢;clear nX Q R b4 U I;refine wpIn_rangeFunc_ownH K M rfl dD (enters_of func110 k6 rfl)
  (zQ (n-1) oE (w.heap.size+1+1+1) g E rs O hlen oE y.lt F.cell y.cell y.recs) (λh k=>h.trans k) (pN.book y.rows) (zzD _ _) (λ_=>rfl)
  (λa W=>((Boxed W w.heap.size 34 (.int .u64 ((Ii a).2.1:Int))/\Boxed W (w.heap.size+1) 34 (.int .u64 ((Ii a).2.2:Int)))/\Boxed W (w.heap.size+1+1) 34 (.int .u64 ((Ii a).1:Int)))/\Below w.heap.size w W)
  (λ_ _ _=>False)
  (OwnFrom.and (OwnFrom.and (OwnFrom.and (Own.from (boxed_own _ _ _) _) (Own.from (boxed_own _ _ _) _)) (Own.from (boxed_own _ _ _) _)) (ownFrom_below (zzc _) oE))
  (λ_ _ _ _ _ H _ _=>H)
  ⟨⟨⟨P,Pb⟩,Y⟩,N⟩
  (λx L W=>∃B,w.heap.size+1+1<B/\W.heap[B]?=some (.cells #[.int .u64 (x.1.cQ:Int),.int .u8 (x.1.kind:Int),.string (str x.1.pay)] 82 (0,0))/\L={tmps:=#[rM i,undef,rM w.heap.size,rM (w.heap.size+1),rM (w.heap.size+1+1),rM B,rM i,rM i,rM i,rM g,.func (.func 110) #[] #[rM (w.heap.size+1+1+1)],FR x.1,undef,undef,undef,undef,undef,undef,undef,undef,undef,undef,undef,undef,undef,undef,undef,undef,undef,undef,undef],defers:=[]})
  (λx L _ X al row H z hr=>by
   have⟨B,M,G,h3⟩:=H;exact⟨B,M,(z.block B (zza.1 G).1 (λe=>by have⟨_,o,ho,A⟩:=hr B e.symm;rw[G]at ho;cases ho;cases A)).trans G,h3⟩)
  ?assign ?body ?done ?stop
 case assign=>
  have o9:=@Oper.semAt_some;rintro l a x W ad ⟨⟨⟨kC,yM⟩,Ic⟩,tG⟩ hK;gi_wp2;exact hK _ _ ((KeepsOthers.alloc _ _).from _) (pN.alloc _ _) ⟨⟨⟨kC.alloc _,yM.alloc _⟩,Ic.alloc _⟩,tG.alloc tG.size _⟩ ⟨W.heap.size,Ic.lt,World.alloc_heap_new W _,rfl⟩
 case body=>
  have o9:=@Oper.semAt_some;rintro l a x L W eN _ ⟨⟨⟨kC,yM⟩,Ic⟩,hB⟩ ⟨B,hBx,bX,rfl⟩ bP;have S:=ae (Sw a x);have⟨c,A⟩:=xY <|Ii a;rw[<-A]at kC yM Ic S;have⟨d,q,j⟩:=c;clear A;have x0:=aP bX 0;have s:=aP bX 1;simp at x0 s;have c2:=kC.cell;have c3:=yM.cell;have c4:=Ic.cell;have f2:=kC.frozen;have f3:=yM.frozen;have f4:=Ic.frozen;have Z:=hL.rows;by_cases u:x.1.kind=254
  .have HE:Hid (Ii (a++[x])=(x.1.cQ,q,j)):=by show _=_;rw[S.out];simp[iJ,u]
   rw[u]at s;simp at s;clear S;gi_wp2;refine⟨(KeepsOthers.setCell W _ _).from _,pN.sM Z oE _,⟨⟨?_,?_⟩,?_⟩,hB.setCell (by show w.heap.size<=w.heap.size+1+1;omega) _⟩
   .rw[HE.out];exact kC.other oE _
   .rw[HE.out];exact yM.other oE _
   .rw[HE.out];exact Ic.set _
  .have k1':¬(x.1.kind:Int)=254:=oE;by_cases t:x.1.kind=255
   .by_cases k3:0<d
    .have HE:Hid (Ii (a++[x])=(d,d,x.1.cQ)):=by show _=_;rw[S.out];simp[iJ,t,k3]
     rw[t]at s;simp at s;have a6:(0:Int)<d:=oE;clear S u k1';have a7:Hid (pN (rowsOf E) W ((W.setCell (dH w.heap.size) (.int .u64 (d:Int))).setCell (dH (w.heap.size+1)) (.int .u64 (x.1.cQ:Int))).drew):=((pN.sM Z (zzc _) _).trans (pN.sM Z oE _)).dr;have a8:Hid (((Boxed ((W.setCell (dH w.heap.size) (.int .u64 (d:Int))).setCell (dH (w.heap.size+1)) (.int .u64 (x.1.cQ:Int))).drew w.heap.size 34 (.int .u64 ((Ii (a++[x])).2.1:Int))/\Boxed ((W.setCell (dH w.heap.size) (.int .u64 (d:Int))).setCell (dH (w.heap.size+1)) (.int .u64 (x.1.cQ:Int))).drew (w.heap.size+1) 34 (.int .u64 ((Ii (a++[x])).2.2:Int)))/\Boxed ((W.setCell (dH w.heap.size) (.int .u64 (d:Int))).setCell (dH (w.heap.size+1)) (.int .u64 (x.1.cQ:Int))).drew (w.heap.size+1+1) 34 (.int .u64 ((Ii (a++[x])).1:Int)))/\Below w.heap.size w ((W.setCell (dH w.heap.size) (.int .u64 (d:Int))).setCell (dH (w.heap.size+1)) (.int .u64 (x.1.cQ:Int))).drew):=by
      refine⟨⟨⟨?_,?_⟩,?_⟩,((hB.setCell (zzc _) _).setCell (by show w.heap.size<=w.heap.size+1;omega) _).drew⟩
      .rw[HE.out];exact(kC.set _).other oE _
      .rw[HE.out];exact(yM.other oE _).set _
      .rw[HE.out];exact(Ic.other oE _).other oE _
     gi_wp2;gi_region;all_goals gi_wp2
     all_goals exact⟨(KeepsOthers.dr ((KeepsOthers.setCell W _ _).trans (KeepsOthers.setCell _ _ _))).from _,a7.out,a8.out⟩
    .have HE:Hid (Ii (a++[x])=(d,q,j)):=by show _=_;rw[S.out];simp[iJ,t,k3]
     rw[t]at s;simp at s;have a6:¬(0:Int)<d:=oE;clear S u k1';gi_wp2;exact⟨KeepsFrom.refl _ _,pN.refl _,⟨⟨by rw[HE.out];exact kC,by rw[HE.out];exact yM⟩,by rw[HE.out];exact Ic⟩,hB⟩
   .have HE:Hid (Ii (a++[x])=(d,q,j)):=by show _=_;rw[S.out];simp[iJ,u,t]
    have ak:¬(x.1.kind:Int)=255:=oE;clear S u t;gi_wp2;exact⟨KeepsFrom.refl _ _,pN.refl _,⟨⟨by rw[HE.out];exact kC,by rw[HE.out];exact yM⟩,by rw[HE.out];exact Ic⟩,hB⟩
 case done=>
  rintro D ys W hD QB ⟨⟨⟨kC,yM⟩,Ic⟩,hB⟩ hK;have V:Ii ys=gC rs:=by unfold Ii;rw[QB]
  rw[V]at kC yM Ic;have⟨q,C⟩:=xY <|(gC rs).2.1;have⟨j,J⟩:=xY <|(gC rs).2.2;rw[<-C]at kC;rw[<-J]at yM;have a1:=ae (zzb C J);clear C J V;have c2:=kC.cell;have c3:=yM.cell;have f2:=kC.frozen;have f3:=yM.frozen;gi_wp2;gi_region;gi_wp2;have⟨m,v⟩:∃m,m=((W.setCell ⟨w.heap.size,0,none⟩ (.int .u64 (q:Int))).setCell ⟨w.heap.size+1,0,none⟩ (.int .u64 (j:Int))).drew:=⟨_,rfl⟩;rw[<-v];have v2:Boxed m w.heap.size 34 (.int .u64 (q:Int)):=by rw[v];exact(kC.set _).other oE _
  have v3:Boxed m (w.heap.size+1) 34 (.int .u64 (j:Int)):=by rw[v];exact(yM.other oE _).set _
  have ab:Below w.heap.size w m:=by rw[v];exact((hB.setCell (zzc _) _).setCell (by show w.heap.size<=w.heap.size+1;omega) _).drew
  have T:m.heap[D]?=some (.deferred (some [])):=by
   rw[v];exact(Below.heap_setCell _ _ _ D (by show D≠w.heap.size+1;omega)).trans ((Below.heap_setCell _ _ _ D (by show D≠w.heap.size;omega)).trans hK)
  clear v;refine⟨sE,.inl ⟨_,_,rfl,run_takeDeferred T,?_⟩⟩;have q2:=(v2.kept (grownBy_putObj' m D (.deferred none)) sC).cell;have q3:=(v3.kept (grownBy_putObj' m D (.deferred none)) sC).cell;refine⟨.tuple #[.int .u64 (q:Int),.int .u64 (j:Int)],?_,by rw[<-a1.1,<-a1.2],ab.trans (belowK_b (zzc _) m D _ _ oE T rfl rfl)⟩;simp only[results,f152];simp[go_sem,q2,q3]
 case stop=>
  rintro D c a W _ _ h _;exact h.elim
def G9(b e:Nat)(l:List Rec):List Rec:=l.filter (counts b e)
theorem zj(h:counts b e x=true):G9 b e (l++[x])=G9 b e l++[x]:=by grind[G9]
theorem EH(h:counts b e x=false):G9 b e (l++[x])=G9 b e l:=by grind[G9]
theorem zk{m:List Rec}(h:l<+:m):G9 b e l<+:G9 b e m:=h.filter _
theorem Kq{k:Nat}(h:k<256):bits .andNot .u8 (k:Int) 128=((k%128:Nat):Int):=by
 have:=u8_andNot_nat k 128 oE oE;rw[show((128:Nat):Int)=128 from rfl]at this;rw[this];congr 1;have:k&&&(2^7-1)=k%2^7:=Nat.and_two_pow_sub_one_eq_mod k 7;simpa using this
theorem Kr(n:Nat)(hn:7<=n)(m l u g d:Nat)(w:Value)(rs:List Rec)(hlen:rs.length<=1000000000)(Sx:∀r∈rs,r.kind<256)(W:World)(J:List Rec->World->Prop)
  (K:∀s A B,J s A->Below W.heap.size A B->J s B)
  (Y:∀a x i,J a i->W.heap.size<=i.heap.size->a++[x]<+:counted rs->YieldAt Fence.wide m prog l #[.int .u8 ((x.kind%128:Nat):Int),.string (str x.pay)] i λe U=>
   e=.returned (.bool true)/\J (a++[x]) U/\mL W.heap.size (rowsOf w) i U)
  (zM:W.cell? (dH u)=some (rM g)) (Z:W.cell? (dH g)=some (rM d)) (hL:kc W d w rs) (h0:J [] W) :
  CallsIn Fence.wide n prog 205 #[.func (.yield l) #[] #[],rM u] W λe U=>(∃v,e=.returned v)/\J (counted rs) U:=by
 have a6:Fence.wide.round=none:=rfl;have h1:1<=n:=oE;have bF:Fence.wide.fn 152:=trivial;have cA:Fence.wide.fn 69:=trivial;have dD:Fence.wide.fn 110:=trivial;have a8:u<W.heap.size:=zzF W ⟨u,0,none⟩ zM;have kB:g<W.heap.size:=zzF W ⟨g,0,none⟩ Z;have⟨i,H⟩:=xY <|W.alloc (.cells #[.func (.yield l) #[] #[]] 307);have L:Below W.heap.size W i:=by rw[H];exact(zzD _ W).alloc (zzc _) _
 have bY:Boxed i W.heap.size 307 (.func (.yield l) #[] #[]):=by rw[H];exact Boxed.new W _ _
 have d_:i.heap.size=W.heap.size+1:=by rw[H];simp
 have c0:i.cell? ⟨u,0,none⟩=some (.pointer (some ⟨g,0,none⟩)):=(L.cell a8).trans zM;have cg:i.cell? ⟨g,0,none⟩=some (.pointer (some ⟨d,0,none⟩)):=(L.cell kB).trans Z;have X:=Df (n-1) oE g d w rs hlen i cg (hL.below L);have T:Hid (counted rs=G9 (gC rs).2.1 (gC rs).2.2 rs):=rfl;have⟨b,Zu⟩:=xY <|(gC rs).2.1;have⟨c,ab⟩:=xY <|(gC rs).2.2;rw[<-Zu,<-ab]at X T;clear Zu ab;rw[H]at c0;refine callsIn_of_wp_marks func205 rfl trivial ?_ a6;simp only[ntmps205,mJ,zzr,mV,Nat.reduceAdd,Nat.reduceSub,m7,m8,n8,oS,p5,qS];gi_wp2_with fail;rw[<-H];apply X.mono;clear X c0 H;rintro e w2 ⟨rfl,cU⟩;have YT:Below W.heap.size W w2:=L.trans (cU.mono oE);have ak:Boxed w2 W.heap.size 307 (.func (.yield l) #[] #[]):=(cU.block W.heap.size oE).trans bY;have⟨h,I⟩:=xY <|(w2.alloc (.cells #[.int .u64 (b:Int)] 34)).alloc (.cells #[.int .u64 (c:Int)] 34);have cC:=cU.size;have wF:h.heap.size=w2.heap.size+2:=by rw[I];simp
 have V:Below W.heap.size W h:=by rw[I];exact(YT.alloc oE _).alloc sC _
 have c4:h.cell? ⟨u,0,none⟩=some (.pointer (some ⟨g,0,none⟩)):=(V.cell a8).trans zM;have d4:h.cell? ⟨g,0,none⟩=some (.pointer (some ⟨d,0,none⟩)):=(V.cell kB).trans Z;have a7:Boxed h W.heap.size 307 (.func (.yield l) #[] #[]):=by rw[I];exact(ak.alloc _).alloc _
 have e3:Boxed h w2.heap.size 34 (.int .u64 (b:Int)):=by rw[I];exact(Boxed.new w2 _ _).alloc _
 have e4:Boxed h (w2.heap.size+1) 34 (.int .u64 (c:Int)):=by
  have:=Boxed.new (w2.alloc (.cells #[.int .u64 (b:Int)] 34)) 34 (.int .u64 (c:Int));rw[zzv,<-I]at this;exact this
 rw[I]at c4 d4;gi_wp2_with (gi_at_call 69;apply(Jg Fence.wide (n-1) cA a6 _ _).mono;rintro e w' ⟨rfl,rfl⟩);rw[<-I];have bA:Boxed (h.alloc (.cells #[.pointer (some ⟨d,0,none⟩)] 59)) (w2.heap.size+1+1) 59 (.pointer (some ⟨d,0,none⟩)):=by
  have:=Boxed.new h 59 (.pointer (some ⟨d,0,none⟩));rwa [wF]at this
 have ad:=a7.alloc (.cells #[.pointer (some ⟨d,0,none⟩)] 59);have f3:=e3.alloc (.cells #[.pointer (some ⟨d,0,none⟩)] 59);have f4:=e4.alloc (.cells #[.pointer (some ⟨d,0,none⟩)] 59);have Xf:Below W.heap.size W (h.alloc (.cells #[.pointer (some ⟨d,0,none⟩)] 59)):=V.alloc oE _;have NA:(h.alloc (.cells #[.pointer (some ⟨d,0,none⟩)] 59)).heap.size=w2.heap.size+3:=by rw[zzv,wF]
 have⟨W0,nX⟩:∃W0,W0=h.alloc (.cells #[.pointer (some ⟨d,0,none⟩)] 59):=⟨_,rfl⟩;rw[<-nX]at bA ad f3 f4 Xf NA ⊢;clear I nX bY ak a7 e3 e4 c4 d4 V L YT cg;have Jy:=hL.below Xf;refine pO a6 h1 rfl dD (enters_of func110 k6 rfl)
  (λ_=>rfl) Jy.rows
  (λWx C _=>aaR (n-1) oE _ (w2.heap.size+1+1) d w rs hlen Wx ((C.cell (by show w2.heap.size+1+1<_;omega)).trans bA.cell) (Jy.below C))
  (λa A=>(Boxed A W.heap.size 307 (.func (.yield l) #[] #[])/\Boxed A w2.heap.size 34 (.int .u64 (b:Int))/\Boxed A (w2.heap.size+1) 34 (.int .u64 (c:Int)))/\J (G9 b c a) A)
  (λWx C=>⟨⟨(C.block _ oE).trans ad,(C.block _ oE).trans f3,(C.block _ oE).trans f4⟩,K _ _ _ h0 (Xf.trans (C.mono oE))⟩)
  (λs A B t P=>⟨⟨(P.block _ oE).trans t.1.1,(P.block _ oE).trans t.1.2.1,(P.block _ oE).trans t.1.2.2⟩,K _ _ _ t.2 (P.mono oE)⟩)
  (λs A r t=>⟨⟨(World.putObj_heap_other oE).trans t.1.1,(World.putObj_heap_other oE).trans t.1.2.1,(World.putObj_heap_other oE).trans t.1.2.2⟩,K _ _ _ t.2 ⟨rfl,rfl,rfl,by rw[fG];exact zzc _,λk hk=>World.putObj_heap_other oE⟩⟩)
  (λx a' A=>∃G,W0.heap.size+2<=G/\A.heap[G]?=some (.cells #[.int .u64 (x.cQ:Int),.int .u8 (x.kind:Int),.string (str x.pay)] 82 (0,0))/\a'={tmps:=#[.func (.yield l) #[] #[],.pointer (some ⟨u,0,none⟩),.pointer (some ⟨W.heap.size,0,none⟩),.pointer (some ⟨w2.heap.size,0,none⟩),.pointer (some ⟨w2.heap.size+1,0,none⟩),.pointer (some ⟨G,0,none⟩),undef,undef,.tuple #[.int .u64 (b:Int),.int .u64 (c:Int)],.pointer (some ⟨g,0,none⟩),.tuple #[.int .u64 (b:Int),.int .u64 (c:Int)],.int .u64 (b:Int),.int .u64 (c:Int),.pointer (some ⟨g,0,none⟩),.pointer (some ⟨g,0,none⟩),.pointer (some ⟨g,0,none⟩),.pointer (some ⟨d,0,none⟩),.func (.func 110) #[] #[.pointer (some ⟨w2.heap.size+1+1,0,none⟩)],FR x,undef,undef,undef,undef,undef,undef,undef,undef,undef,undef,undef,undef,undef,undef,undef,undef,undef,undef,undef,undef,undef,undef,undef,undef,undef,undef,undef,undef,undef,undef,undef,undef,undef],defers:=[]})
  (λx a' A r t=>by have⟨G,g1,g2,g3⟩:=t;exact⟨G,g1,(World.putObj_heap_other oE).trans g2,g3⟩)
  ?assign ?body ?done
 case assign=>
  have o9:=@Oper.semAt_some;rintro a x A al ⟨⟨y1,y2,y3⟩,hj⟩ Mn dM hK;gi_wp2;exact hK _ _ ⟨⟨y1.alloc _,y2.alloc _,y3.alloc _⟩,K _ _ _ hj ((zzD _ A).alloc oE _)⟩ (mL.alloc _ _ _ _) ⟨A.heap.size,Mn,World.alloc_heap_new A _,rfl⟩
 case body=>
  have o9:=@Oper.semAt_some;rintro a x a' A ⟨⟨y1,y2,y3⟩,hj⟩ Mn ⟨G,hBx,bX,rfl⟩ dM;have x0:=aP bX 0;have x1:=aP bX 1;have x2:=aP bX 2;simp at x0 x1 x2;have v1:=y1.cell;have v2:=y2.cell;have v3:=y3.cell;have hk:=Sx x (dM.subset sE);have k4:=Kq hk;have⟨kd,j⟩:=xY <|x.kind%128;rw[<-j]at k4;have h3:1<=n-1-1:=oE
  by_cases a1:x.kind<128
  .by_cases a2:c<x.cQ
   .by_cases a3:b<x.cQ
    .have C5:counts b c x=true:=by simp[counts];omega
     have z:(x.kind:Int)<128:=oE;have O:(c:Int)<(x.cQ:Int):=oE;have D:(b:Int)<(x.cQ:Int):=oE;have Q:¬(x.cQ:Int)<(c:Int):=oE;have o:G9 b c (a++[x])=G9 b c a++[x]:=zj C5;have y:=Y _ x A hj oE (by rw[<-o,T.out];exact zk dM);rw[<-j]at y;obtain⟨fn,tmps,assign,body,hy,R⟩:=mN (m':=n-1-1-1) y;clear y j;have F:Hid (G9 b c (a++[x])=G9 b c a++[x]):=o;clear o C5;gi_wp2;apply R.mono;rintro e q ⟨rfl,BS,M⟩;have N:Hid (J (G9 b c (a++[x])) q/\mL W.heap.size (rowsOf w) A q):=⟨by rw[F.out];exact BS,M⟩;clear BS M
     gi_wp2;have M:=N.2;refine⟨⟨⟨(M.high _ oE oE).trans y1,(M.high _ oE oE).trans y2,(M.high _ oE oE).trans y3⟩,N.1⟩,M.mono oE⟩
    .have C5:counts b c x=true:=by simp[counts];omega
     have z:(x.kind:Int)<128:=oE;have O:(c:Int)<(x.cQ:Int):=oE;have D:¬(b:Int)<(x.cQ:Int):=oE;have o:G9 b c (a++[x])=G9 b c a++[x]:=zj C5;have y:=Y _ x A hj oE (by rw[<-o,T.out];exact zk dM);rw[<-j]at y;obtain⟨fn,tmps,assign,body,hy,R⟩:=mN (m':=n-1-1-1) y;clear y j;have F:Hid (G9 b c (a++[x])=G9 b c a++[x]):=o;clear o C5;gi_wp2;apply R.mono;rintro e q ⟨rfl,BS,M⟩;have N:Hid (J (G9 b c (a++[x])) q/\mL W.heap.size (rowsOf w) A q):=⟨by rw[F.out];exact BS,M⟩;clear BS M
     gi_wp2;have M:=N.2;refine⟨⟨⟨(M.high _ oE oE).trans y1,(M.high _ oE oE).trans y2,(M.high _ oE oE).trans y3⟩,N.1⟩,M.mono oE⟩
   .by_cases a3:b<x.cQ
    .by_cases a4:x.cQ<c
     .have C5:counts b c x=true:=by simp[counts];omega
      have z:(x.kind:Int)<128:=oE;have O:¬(c:Int)<(x.cQ:Int):=oE;have D:(b:Int)<(x.cQ:Int):=oE;have Q:(x.cQ:Int)<(c:Int):=oE;have o:G9 b c (a++[x])=G9 b c a++[x]:=zj C5;have y:=Y _ x A hj oE (by rw[<-o,T.out];exact zk dM);rw[<-j]at y;obtain⟨fn,tmps,assign,body,hy,R⟩:=mN (m':=n-1-1-1) y;clear y j;have F:Hid (G9 b c (a++[x])=G9 b c a++[x]):=o;clear o C5;gi_wp2;apply R.mono;rintro e q ⟨rfl,BS,M⟩;have N:Hid (J (G9 b c (a++[x])) q/\mL W.heap.size (rowsOf w) A q):=⟨by rw[F.out];exact BS,M⟩;clear BS M
      gi_wp2;have M:=N.2;refine⟨⟨⟨(M.high _ oE oE).trans y1,(M.high _ oE oE).trans y2,(M.high _ oE oE).trans y3⟩,N.1⟩,M.mono oE⟩
     .have C5:counts b c x=false:=by simp[counts];omega
      have z:(x.kind:Int)<128:=oE;have O:¬(c:Int)<(x.cQ:Int):=oE;have D:(b:Int)<(x.cQ:Int):=oE;have Q:¬(x.cQ:Int)<(c:Int):=oE;have o:G9 b c (a++[x])=G9 b c a:=EH C5;have F:Hid (J (G9 b c (a++[x])) A):=by show J _ _;rw[o];exact hj
      clear o C5 j;gi_wp2;refine⟨λf E=>(by cases E),?_⟩
      gi_wp2;exact⟨F.out,mL.refl _ _ _⟩
    .have C5:counts b c x=false:=by simp[counts];omega
     have z:(x.kind:Int)<128:=oE;have O:¬(c:Int)<(x.cQ:Int):=oE;have D:¬(b:Int)<(x.cQ:Int):=oE;have o:G9 b c (a++[x])=G9 b c a:=EH C5;have F:Hid (J (G9 b c (a++[x])) A):=by show J _ _;rw[o];exact hj
     clear o C5 j;gi_wp2;refine⟨λf E=>(by cases E),?_⟩
     gi_wp2;exact⟨F.out,mL.refl _ _ _⟩
  .by_cases a3:b<x.cQ
   .by_cases a4:x.cQ<c
    .have C5:counts b c x=true:=by simp[counts];omega
     have z:¬(x.kind:Int)<128:=oE;have D:(b:Int)<(x.cQ:Int):=oE;have Q:(x.cQ:Int)<(c:Int):=oE;have o:G9 b c (a++[x])=G9 b c a++[x]:=zj C5;have y:=Y _ x A hj oE (by rw[<-o,T.out];exact zk dM);rw[<-j]at y;obtain⟨fn,tmps,assign,body,hy,R⟩:=mN (m':=n-1-1-1) y;clear y j;have F:Hid (G9 b c (a++[x])=G9 b c a++[x]):=o;clear o C5;gi_wp2;apply R.mono;rintro e q ⟨rfl,BS,M⟩;have N:Hid (J (G9 b c (a++[x])) q/\mL W.heap.size (rowsOf w) A q):=⟨by rw[F.out];exact BS,M⟩;clear BS M
     gi_wp2;have M:=N.2;refine⟨⟨⟨(M.high _ oE oE).trans y1,(M.high _ oE oE).trans y2,(M.high _ oE oE).trans y3⟩,N.1⟩,M.mono oE⟩
    .have C5:counts b c x=false:=by simp[counts];omega
     have z:¬(x.kind:Int)<128:=oE;have D:(b:Int)<(x.cQ:Int):=oE;have Q:¬(x.cQ:Int)<(c:Int):=oE;have o:G9 b c (a++[x])=G9 b c a:=EH C5;have F:Hid (J (G9 b c (a++[x])) A):=by show J _ _;rw[o];exact hj
     clear o C5 j;gi_wp2;refine⟨λf E=>(by cases E),?_⟩
     gi_wp2;exact⟨F.out,mL.refl _ _ _⟩
   .have C5:counts b c x=false:=by simp[counts];omega
    have z:¬(x.kind:Int)<128:=oE;have D:¬(b:Int)<(x.cQ:Int):=oE;have o:G9 b c (a++[x])=G9 b c a:=EH C5;have F:Hid (J (G9 b c (a++[x])) A):=by show J _ _;rw[o];exact hj
    clear o C5 j;gi_wp2;refine⟨λf E=>(by cases E),?_⟩
    gi_wp2;exact⟨F.out,mL.refl _ _ _⟩
 case done=>
  rintro A ⟨⟨y1,y2,y3⟩,hj⟩ Mn hK;gi_wp2;refine⟨sE,.inl ⟨_,_,rfl,run_takeDeferred hK,?_⟩⟩;exact⟨_,results_none rfl _ _ _,⟨_,rfl⟩,K _ A _ (by rw[T.out];exact hj) ⟨rfl,rfl,rfl,by rw[fG];exact zzc _,λk hk=>World.putObj_heap_other oE⟩⟩
theorem Sz(n:Nat)(hn:7<=n)(l B p a:Nat)(v:Value)(rs:List Rec)(hlen:rs.length<=1000000000)(S:∀r∈rs,r.kind<256)(W:World)(M:W.cell? (dH B)=some (rM p))(g:W.cell? (dH p)=some (rM a))(L:kc W a v rs):
  Ym Fence.wide n prog 205 #[rM B] (λx:Rec=>#[.int .u8 ((x.kind%128:Nat):Int),.string<|str x.pay]) (counted rs) (rowsOf v) l W:=λJ b Y h=>
 Kr n hn (n-1) l B p a v rs hlen S W J b Y M g L h
end
end Go.Proofs.YtdcafjmdfpjcbaaGreatDoor
