import Derived.Test.YtcalalndmcemiaaGreatDoorC34
import Derived.Test.YtcalalndmcemiaaGreatDoorC23
set_option maxHeartbeats 16000000
set_option maxRecDepth 100000
namespace Go.Proofs.YtcalalndmcemiaaGreatDoor
open Go.RowKit Go.Maps Tryz Sc
theorem uh(s:ByteArray)(c:Nat):oB s c=.cells (bytesRow s c) 5 ((bytesRow s c).size,(bytesRow s c).size+1):=rfl
theorem nr(s:ByteArray)(c:Nat):s.size<=(bytesRow s c).size:=by
 unfold bytesRow;simp
theorem ui(c:Array Value)(fr:Nat×Nat)(t:ByteArray):(some (.cells c 5 fr):Option Obj)≠some (dV t):=by
 intro e;cases e
theorem Fs(c:Array Value)(fr:Nat×Nat)(a b x y:Int):(some (.cells c 5 fr):Option Obj)≠some (gi a b x y):=by
 intro e;cases e
def fE(i:Nat)(s:ag)(out:List bt)(x:bt):ag × List bt :=
 if x.kind=1 then ((s.kh x.aP).1,out++[⟨(s.kh x.aP).2,i,x.src,x.aP⟩]) else if x.kind=5 then (s.dD x.aP,out++[⟨7,i,x.src,x.aP⟩]) else (s.forget x.aP,out)
def gj(c:aU)(out:List bt)(x:bt):aU × List bt :=
 if x.kind=7 then (c.kn x.aP x.src,out) else if x.kind=8 then (c,out++Fq c x.src x.aP) else (c.kT x.aP x.src x.kind,out)
theorem Bv(i:Nat)(s:ag)(out:List bt)(x:bt):(fE i s out x).2.length<=out.length+1:=by
 unfold fE;split
 .simp
 .split<;>simp
theorem Bw(c:aU)(out:List bt)(x:bt):(gj c out x).2.length<=out.length+1:=by
 unfold gj;split
 .simp
 .split
  .simp[Fq];split<;>simp
  .simp
theorem jk.v_{L a:List Nat}{w' w:World}(hf:jk L a w' w){n:Nat}(h:∀k∈L,k<n):∀k,n<=k->k<w'.heap.size->w.heap[k]?=w'.heap[k]?:=λk b l=>hf.fr.block k l λm=>by have:=h k m;omega
theorem P_(B i b a p j g V T H c D N m n K:Nat)(s:ag)(l:au)(d:ah)(v:Value)(out:List bt)(w:World)(x:bt)(k:x.Ok)(C:x.kind=1\/x.kind=5\/x.kind=6)(A:x.kind=5->s.fC x.aP=0)(h:pQ w B i b a p j g V T H c D N m n s l (d.bQ (-1)<|-1) v out)(y:mD l d)(z:cz K s)(t:m<=60000000)(hn:n<=60000000)(u:out.length<=60000000)(r:2<=B)(o:bI w):
  ∃f,ak Bt x.kind=some (some f)/\Enters f/\Calls prog f #[.pointer<|some ⟨a,0,none⟩,.agg #[.int .i64 (x.kind:Int),.int .i64 (x.src:Int),.int .i64 (x.dst:Int),.int .u64 (x.aP:Int)]] w λe w'=>e=.returned .nilIface/\sP B i b a p j g V T H c D N m (n+l.segs.length) (fE i s out x).1 (fE i s out x).2 w w':=by
 have q:=k.small.2.2.2;unfold fE;obtain e|e|e:=C
 .rw[if_pos e];exact⟨_,by rw[e];rfl,TL,aa8 B i b a p j g V T H c D N m n K x.kind x.src x.dst x.aP s l d v out w h y z q t hn u r o k.id⟩
 .rw[if_neg bL,if_pos e];exact⟨_,by rw[e];rfl,TM,aa9 B i b a p j g V T H c D N m n K x.kind x.src x.dst x.aP s l d v out w h y z q (A e) t hn u r o k.id⟩
 .rw[if_neg bL,if_neg bL];exact⟨_,by rw[e];rfl,TN,aa' B i b a p j g V T H c D N m n x.kind x.src x.dst x.aP s l d v out w h y q t hn u r o k.id⟩
theorem XT(B i h K:Nat)(s:ag)(out:List bt)(L:List Nat)(w:World)(x:bt)(hx:x.Ok)(Iv:x.dst=i)(j:x.kind=1\/x.kind=5\/x.kind=6)(he:x.kind=5->s.fC x.aP=0)(a8:dh w B i h s out K L)(hg:cz K s)(E:2<=B)(bp:Met w)(aH:bI w)(hK:K<=290000):
  Calls prog 72 #[.pointer<|some ⟨h,0,none⟩,.string<|str x.bytes,fy (-1) (-1) 0 0] w λe w'=>e=.returned (.int .i64 0)/\∃L',dh w' B i h (fE i s out x).1 (fE i s out x).2 (K+1) L'/\jk L L' w w':=by
 obtain⟨q,p,r,u,Y,X,V,v,D,N,m,n,l,d,ov,hP,hw,R,rfl⟩:=a8;obtain⟨W,T⟩:∃W,W=w.alloc (gi (-1) (-1) 0 0):=⟨_,rfl⟩;have cu:Fr [] w W:=by rw[T];exact(lT w).alloc _
 have⟨gl,oW⟩:=hP.new cu;have O:W.heap[w.heap.size]?=some (gi (-1) (-1) 0 0):=by rw[T];exact heap_alloc_new w _
 have c7:=ae gl.hh 7;have x0:=ae O 0;have x1:=ae O 1;have x2:=ae O 2;have x3:=ae O 3;simp at c7 x0 x1 x2 x3;rw[T]at c7 x0 x1 x2 x3;have⟨Hx,lG⟩:∃G,W.heap[p]?=some (gv D N G d.left d.full d.down):=by have⟨G,sv,rv,nD,nN,hl⟩:=gl.sl.lg;exact⟨G,hl.bq.blk⟩
 have H:=af<|zzb gl<|zzb oW<|zzb O<|zzb lG<|zzb hP<|zzb hw R;have J:=af<|zzb hx hg;have M:=af hK;have HM:=af bp;clear gl oW O lG hP hw R cu hx hg hK
 go_enter func72,ntmps72;go_wp2_with fail;rw[<-T];clear T c7 x0 x1 x2 x3;apply(jh h p D N i Hx _ _ _ true d.down d.left d.full (-1) (-1) 0 0 W H.1.hh H.2.2.2.1).mono;rintro e g ⟨rfl,cG,bh⟩;have⟨df,eG⟩:=H.1.sl.bQ (-1) (-1) bh cG H.2.2.2.1;have⟨eO,Z⟩:=H.1.Ip eG df;have mm:=eG.cells H.1.sl H.2.2.1 bM bM bM bM bM bM;have C:=af<|zzb eO<|zzb (H.2.1.trans Z) mm;have d7:=ae eO.hh 7;simp at d7;have ug:=((H.2.2.2.2.1.keeps (H.2.1.trans Z) E).1 bp);have pk:=((H.2.2.2.2.1.keeps (H.2.1.trans Z) E).2 aH);clear cG bh df eG eO Z mm bp aH;have M0:=lO;have aa:(str x.bytes).size=15:=by rw[cR];exact x.eP
 have⟨o,Ge⟩:=gb <|grownCap g 15 0 5;have⟨b,S⟩:=gb <|(g.alloc<|oB (str x.bytes) o).drew;have aQ:Fr [] g b:=by rw[S];exact((lT g).alloc _).drew
 have⟨A,nB⟩:=C.1.new aQ;have y_:=(aQ.block _ (zza.1 C.2.2).1 bR).trans C.2.2;have ir:cW b g.heap.size 0 x.bytes:=by
  have:=tH g (str x.bytes) o;rw[kU J.1.Ie]at this;rw[S];exact this
 have Fu:b.heap[g.heap.size]?=some (oB (str x.bytes) o):=by rw[S];exact heap_alloc_new g<|oB (str x.bytes) o
 have d_:15<=o/\o<=maxLen:=by rw[Ge];exact⟨grownCap_ge _ _ _ _,grownCap_le_maxLen _ _ _ _<|by unfold maxLen;decide⟩
 have e7:∀ob,(g.alloc ob).cell? (hO h 7)=some (.pointer<|some (gz q)):=λob=>(zze<|zzf g ob h (zza.1 C.1.hh).1).trans d7
 have qf:∀k∈br h q p v r u b,k<b.heap.size:=λk j=>(A.obj k j).2.lt
 obtain⟨f,xn,iU,-⟩:=P_ B i h q p r u Y X V v D N m n K s l d ov out b x J.1 j he A H.2.2.2.2.2.1 J.2 (by have z:=H.2.2.2.2.2.2;have Q:=M.out;omega) (by have z:=H.2.2.2.2.2.2;have Q:=M.out;omega) (by have z:=H.2.2.2.2.2.2;have Q:=M.out;omega) E<|(C.1.keeps nB E).2 pk
 have Iw:=Fp q i g.heap.size o f none (some (gz r)) ov x J.1 Iv xn iU (.inl ⟨rfl,_,rfl⟩) b A.fG ir d_ (λI=>sP B i h q p r u Y X V v D N m (n+l.segs.length) (fE i s out x).1 (fE i s out x).2 b I/\∀k,k<b.heap.size->k∉br h q p v r u b->I.heap[k]?=b.heap[k]?) (λw' a7=>by
  have⟨a',P'⟩:=A.new a7;obtain⟨f',Qa,-,eN⟩:=P_ B i h q p r u Y X V v D N m n K s l d ov out w' x J.1 j he a' H.2.2.2.2.2.1 J.2 (by have z:=H.2.2.2.2.2.2;have Q:=M.out;omega) (by have z:=H.2.2.2.2.2.2;have Q:=M.out;omega) (by have z:=H.2.2.2.2.2.2;have Q:=M.out;omega) E<|(A.keeps P' E).2<|(C.1.keeps nB E).2 pk;rw[xn]at Qa
  cases Qa;apply eN.mono;rintro e I ⟨rfl,l',d',m',n',jl,q1,q2,q3,q4,q5⟩;refine⟨rfl,⟨⟨l',d',m',n',jl,q1,q2,q3,q4,P'.trans q5⟩,λk j hn=>(P'.trans q5).fr.block k j hn⟩,q5.v_ λk j=>?_⟩;rw[A.Iq a7]at j
  exact qf k j)
 have a1:∀k,k<b.heap.size->(∃c t fr,b.heap[k]?=some (.cells c t fr)/\¬bo t)->k∉br h q p v r u b:=λk _ ⟨c,t,fr,e,ht⟩ R=>ht<|by have:=(A.obj k R).2;rw[e]at this;exact this.not
 have P:=af<|zzb A<|zzb nB<|zzb y_<|zzb Fu a1;have Nb:=af Iw;clear xn iU A nB y_ Fu ir d_ qf aQ a1 Iw;go_wp2_with fail;rw[<-Ge,<-S];clear S Ge e7 d7 M0;apply Nb.out.mono;rintro e I ⟨rfl,⟨l',d',m',n',jl,sQ,uf,lY,rL,sR⟩,sA⟩;have Au:=(sA _ (zza.1 P.2.2.2.1).1<|P.2.2.2.2 _ (zza.1 P.2.2.2.1).1 ⟨_,_,_,P.2.2.2.1,by simp[bo]⟩).trans P.2.2.2.1;have fw:=(sA _ (zza.1 P.2.2.1).1<|P.2.2.2.2 _ (zza.1 P.2.2.1).1 ⟨_,_,_,P.2.2.1,by simp[bo]⟩).trans P.2.2.1;have y:=af<|zzb sQ<|zzb uf<|zzb lY<|zzb rL<|zzb ((C.2.1.trans P.2.1).trans sR) fw;have Ag:=C.2.1.fr.size;have a6:=oY g.heap.size 15 o (bytesRow (str x.bytes) o) I Au (by have:=nr (str x.bytes) o;omega) bM;have HO:Hid (I.heap[g.heap.size]?=some (oB (str x.bytes) o)):=Au;clear Au fw sQ uf lY rL sR sA Nb P ug pk;go_wp2_with fail;apply a6.mono;rintro e w4 ⟨rfl,fo⟩;have kN:=HO.out;have Ce:g.heap.size∉br h q p v r u I:=λR=>by have:=(y.1.obj _ R).2;rw[kN]at this;have:=this.not;simp[bo]at this
 have⟨XU,tU⟩:=y.1.apart fo (by intro k j _;simp at j;subst j;exact⟨Ce,λt e=>by rw[kN,uh]at e;exact ui _ _ _ e⟩);have Fv:=y.2.2.2.2.1.yQ fo (by intro k j;simp at j;omega);rw[<-tU]at Fv;have U:=(fo.block _ (zza.1 y.2.2.2.2.2).1<|by simp;intro e;have z:=y.2.2.2.2.2;rw[e,kN,uh]at z;exact Fs _ _ _ _ _ _ z).trans y.2.2.2.2.2;have y0:=ae U 0;have y1:=ae U 1;have y2:=ae U 2;have y3:=ae U 3;simp at y0 y1 y2 y3;have ox:=y.2.1.2;have⟨DC,uY⟩:∃G,w4.heap[p]?=some (gv D N G d'.left d'.full d'.down):=by have⟨G,sv,rv,nD,nN,hl⟩:=XU.sl.lg;exact⟨G,hl.bq.blk⟩
 have F:=af<|zzb XU<|zzb Fv uY;clear XU tU Fv U uY fo a6 kN Ce;go_wp2_with fail;have gU:=F.2.2;rw[ox]at gU;apply(kG h p D N i DC _ _ _ true d'.left d'.full (-1) (-1) 0 0 w4 F.1.hh gU).mono;clear gU y0 y1 y2 y3;rintro e w5 ⟨rfl,h_,cO⟩;rw[<-ox]at h_;have⟨iz,pI⟩:=F.1.sl.bQ (-1) (-1) cO h_ F.2.2;have⟨nt,jG⟩:=F.1.Ip pI iz;have mo:=(H.2.2.2.2.1.keeps (F.2.1.trans jG) E).1 HM.out;have H5:=af<|zzb nt<|F.2.1.trans jG;clear h_ cO iz pI nt jG;go_wp2_with fail;apply(gC 0 w5 mo).mono;rintro e w6 ⟨rfl,dW⟩;have⟨uJ,qD⟩:=H5.1.new dW;have H6:=af (show dh w6 B i h (fE i s out x).1 (fE i s out x).2 (K+1) (br h q p v r u w6)/\jk (br h q p v r u w) (br h q p v r u w6) w w6 from ⟨⟨q,p,r,u,Y,X,V,v,D,N,m',n',l',_,jl,uJ,y.2.1.bQ _ _,(by have z:=H.2.2.2.2.2.2;have Q:=y.2.2;have h3:=Bv i s out x;omega),rfl⟩,H5.2.trans qD⟩);clear uJ qD dW;go_wp2;go_ret;exact⟨rfl,_,H6.out⟩
theorem Qb(B i a p b g T j D N m n:Nat)(c:aU)(l:au)(d:ah)(v:Value)(out:List bt)(w:World)(x:bt)(k:x.Ok)(z:x.kind=2\/x.kind=3\/x.kind=4\/x.kind=7\/x.kind=8)(h:nX w B i a p b g T j D N m n c l (d.bQ (-1)<|-1) v out)(r:mD l d)(t:m<=60000000)(hn:n<=60000000)(q:out.length<=60000000)(s:2<=B)(H:bI w):
  ∃f,ak Bt x.kind=some (some f)/\Enters f/\Calls prog f #[.pointer<|some ⟨a,0,none⟩,.agg #[.int .i64 (x.kind:Int),.int .i64 (x.src:Int),.int .i64 (x.dst:Int),.int .u64 (x.aP:Int)]] w λe w'=>e=.returned .nilIface/\qB B i a p b g T j D N m (n+l.segs.length) (gj c out x).1 (gj c out x).2 w w':=by
 have y:=k.small.2.1;unfold gj;by_cases e:x.kind=7
 .rw[if_pos e];exact⟨_,by rw[e];rfl,TQ,abb B i a p b g T j D N m n x.kind x.src x.dst x.aP c l d v out w h r bL t hn q s H k.id⟩
 .rw[if_neg e];by_cases o:x.kind=8
  .rw[if_pos o];exact⟨_,by rw[o];rfl,TR,adm B i a p b g T j D N m n x.kind x.src x.dst x.aP c l d v out w h r q k.id⟩
  .rw[if_neg o];have u:x.kind=2\/x.kind=3\/x.kind=4:=bL;refine⟨_,?_,TP,aba B i a p b g T j D N m n x.kind x.src x.dst x.aP c l d v out w h r bL u t hn q s H k.id⟩;obtain e|e|e:=u<;>(rw[e];rfl)
theorem XV(B h K:Nat)(c:aU)(out:List bt)(L:List Nat)(w:World)(x:bt)(hx:x.Ok)(Iv:x.dst=0)(i:x.kind=2\/x.kind=3\/x.kind=4\/x.kind=7\/x.kind=8)(a8:cT w B h c out K L)(A:2<=B)(bp:Met w)(aH:bI w)(hK:K<=290000):
  Calls prog 72 #[.pointer<|some ⟨h,0,none⟩,.string<|str x.bytes,fy (-1) (-1) 0 0] w λe w'=>e=.returned (.int .i64 0)/\∃L',cT w' B h (gj c out x).1 (gj c out x).2 (K+1) L'/\jk L L' w w':=by
 obtain⟨o,p,q,r,T,s,D,N,m,n,l,d,ov,hP,hw,M,rfl⟩:=a8;obtain⟨W,Q⟩:∃W,W=w.alloc (gi (-1) (-1) 0 0):=⟨_,rfl⟩;have cu:Fr [] w W:=by rw[Q];exact(lT w).alloc _
 have⟨U,oW⟩:=hP.new cu;have I:W.heap[w.heap.size]?=some (gi (-1) (-1) 0 0):=by rw[Q];exact heap_alloc_new w _
 have c7:=ae U.hh 7;have x0:=ae I 0;have x1:=ae I 1;have x2:=ae I 2;have x3:=ae I 3;simp at c7 x0 x1 x2 x3;rw[Q]at c7 x0 x1 x2 x3;have⟨Hx,lG⟩:∃E,W.heap[p]?=some (gv D N E d.left d.full d.down):=by have⟨E,sv,rv,nD,nN,hl⟩:=U.sl.lg;exact⟨E,hl.bq.blk⟩
 have H:=af<|zzb U<|zzb oW<|zzb I<|zzb lG<|zzb hP<|zzb hw M;have S:=af<|zzb hx trivial;have G:=af hK;have HM:=af bp;clear U oW I lG hP hw M cu hx hK
 go_enter func72,ntmps72;go_wp2_with fail;rw[<-Q];clear Q c7 x0 x1 x2 x3;apply(jh h p D N 0 Hx _ _ _ true d.down d.left d.full (-1) (-1) 0 0 W H.1.hh H.2.2.2.1).mono;rintro e g ⟨rfl,cG,bh⟩;have⟨df,eG⟩:=H.1.sl.bQ (-1) (-1) bh cG H.2.2.2.1;have⟨eO,X⟩:=H.1.zJ eG df;have mm:=eG.cells H.1.sl H.2.2.1 bM bM bM bM bM bM bM bM;have z:=af<|zzb eO<|zzb (H.2.1.trans X) mm;have d7:=ae eO.hh 7;simp at d7;have ug:=((H.2.2.2.2.1.keeps (H.2.1.trans X) A).1 bp);have pk:=((H.2.2.2.2.1.keeps (H.2.1.trans X) A).2 aH);clear cG bh df eG eO X mm bp aH;have M0:=lO;have aa:(str x.bytes).size=15:=by rw[cR];exact x.eP
 have⟨j,Ge⟩:=gb <|grownCap g 15 0 5;have⟨b,O⟩:=gb <|(g.alloc<|oB (str x.bytes) j).drew;have aQ:Fr [] g b:=by rw[O];exact((lT g).alloc _).drew
 have⟨y,Y⟩:=z.1.new aQ;have y_:=(aQ.block _ (zza.1 z.2.2).1 bR).trans z.2.2;have ir:cW b g.heap.size 0 x.bytes:=by
  have:=tH g (str x.bytes) j;rw[kU S.1.Ie]at this;rw[O];exact this
 have Fu:b.heap[g.heap.size]?=some (oB (str x.bytes) j):=by rw[O];exact heap_alloc_new g<|oB (str x.bytes) j
 have d_:15<=j/\j<=maxLen:=by rw[Ge];exact⟨grownCap_ge _ _ _ _,grownCap_le_maxLen _ _ _ _<|by unfold maxLen;decide⟩
 have e7:∀ob,(g.alloc ob).cell? (hO h 7)=some (.pointer<|some (gz o)):=λob=>(zze<|zzf g ob h (zza.1 z.1.hh).1).trans d7
 have qf:∀k∈br h o p s q r b,k<b.heap.size:=λk i=>(y.obj k i).2.lt
 obtain⟨f,xn,iU,-⟩:=Qb B h o p q r T s D N m n c l d ov out b x S.1 i y H.2.2.2.2.2.1 (by have v:=H.2.2.2.2.2.2;have J:=G.out;omega) (by have v:=H.2.2.2.2.2.2;have J:=G.out;omega) (by have v:=H.2.2.2.2.2.2;have J:=G.out;omega) A<|(z.1.keeps Y A).2 pk
 have Iw:=Fp o 0 g.heap.size j f (some (gz q)) none ov x S.1 Iv xn iU (.inr ⟨⟨_,rfl⟩,rfl⟩) b y.fG ir d_ (λF=>qB B h o p q r T s D N m (n+l.segs.length) (gj c out x).1 (gj c out x).2 b F/\∀k,k<b.heap.size->k∉br h o p s q r b->F.heap[k]?=b.heap[k]?) (λw' a7=>by
  have⟨a',P'⟩:=y.new a7;obtain⟨f',Qa,-,eN⟩:=Qb B h o p q r T s D N m n c l d ov out w' x S.1 i a' H.2.2.2.2.2.1 (by have v:=H.2.2.2.2.2.2;have J:=G.out;omega) (by have v:=H.2.2.2.2.2.2;have J:=G.out;omega) (by have v:=H.2.2.2.2.2.2;have J:=G.out;omega) A<|(y.keeps P' A).2<|(z.1.keeps Y A).2 pk;rw[xn]at Qa
  cases Qa;apply eN.mono;rintro e F ⟨rfl,l',d',m',n',jl,q1,q2,q3,q4,q5⟩;refine⟨rfl,⟨⟨l',d',m',n',jl,q1,q2,q3,q4,P'.trans q5⟩,λk i hn=>(P'.trans q5).fr.block k i hn⟩,q5.v_ λk i=>?_⟩;rw[y.Iq a7]at i
  exact qf k i)
 have a1:∀k,k<b.heap.size->(∃c t fr,b.heap[k]?=some (.cells c t fr)/\¬bo t)->k∉br h o p s q r b:=λk _ ⟨c,t,fr,e,ht⟩ M=>ht<|by have:=(y.obj k M).2;rw[e]at this;exact this.not
 have P:=af<|zzb y<|zzb Y<|zzb y_<|zzb Fu a1;have Nb:=af Iw;clear xn iU y Y y_ Fu ir d_ qf aQ a1 Iw;go_wp2_with fail;rw[<-Ge,<-O];clear O Ge e7 d7 M0;apply Nb.out.mono;rintro e F ⟨rfl,⟨l',d',m',n',jl,sQ,uf,lY,rL,sR⟩,sA⟩;have Au:=(sA _ (zza.1 P.2.2.2.1).1<|P.2.2.2.2 _ (zza.1 P.2.2.2.1).1 ⟨_,_,_,P.2.2.2.1,by simp[bo]⟩).trans P.2.2.2.1;have fw:=(sA _ (zza.1 P.2.2.1).1<|P.2.2.2.2 _ (zza.1 P.2.2.1).1 ⟨_,_,_,P.2.2.1,by simp[bo]⟩).trans P.2.2.1;have u:=af<|zzb sQ<|zzb uf<|zzb lY<|zzb rL<|zzb ((z.2.1.trans P.2.1).trans sR) fw;have Ag:=z.2.1.fr.size;have a6:=oY g.heap.size 15 j (bytesRow (str x.bytes) j) F Au (by have:=nr (str x.bytes) j;omega) bM;have HO:Hid (F.heap[g.heap.size]?=some (oB (str x.bytes) j)):=Au;clear Au fw sQ uf lY rL sR sA Nb P ug pk;go_wp2_with fail;apply a6.mono;rintro e w4 ⟨rfl,fo⟩;have V:=HO.out;have Ce:g.heap.size∉br h o p s q r F:=λM=>by have:=(u.1.obj _ M).2;rw[V]at this;have:=this.not;simp[bo]at this
 have⟨XU,tU⟩:=u.1.apart fo (by intro k i _;simp at i;subst i;exact⟨Ce,λt e=>by rw[V,uh]at e;exact ui _ _ _ e⟩);have Fv:=u.2.2.2.2.1.yQ fo (by intro k i;simp at i;omega);rw[<-tU]at Fv;have R:=(fo.block _ (zza.1 u.2.2.2.2.2).1<|by simp;intro e;have v:=u.2.2.2.2.2;rw[e,V,uh]at v;exact Fs _ _ _ _ _ _ v).trans u.2.2.2.2.2;have y0:=ae R 0;have y1:=ae R 1;have y2:=ae R 2;have y3:=ae R 3;simp at y0 y1 y2 y3;have ox:=u.2.1.2;have⟨DC,uY⟩:∃E,w4.heap[p]?=some (gv D N E d'.left d'.full d'.down):=by have⟨E,sv,rv,nD,nN,hl⟩:=XU.sl.lg;exact⟨E,hl.bq.blk⟩
 have C:=af<|zzb XU<|zzb Fv uY;clear XU tU Fv R uY fo a6 V Ce;go_wp2_with fail;have gU:=C.2.2;rw[ox]at gU;apply(kG h p D N 0 DC _ _ _ true d'.left d'.full (-1) (-1) 0 0 w4 C.1.hh gU).mono;clear gU y0 y1 y2 y3;rintro e w5 ⟨rfl,h_,cO⟩;rw[<-ox]at h_;have⟨iz,pI⟩:=C.1.sl.bQ (-1) (-1) cO h_ C.2.2;have⟨nt,jG⟩:=C.1.zJ pI iz;have mo:=(H.2.2.2.2.1.keeps (C.2.1.trans jG) A).1 HM.out;have H5:=af<|zzb nt<|C.2.1.trans jG;clear h_ cO iz pI nt jG;go_wp2_with fail;apply(gC 0 w5 mo).mono;rintro e Z ⟨rfl,dW⟩;have⟨uJ,qD⟩:=H5.1.new dW;have H6:=af (show cT Z B h (gj c out x).1 (gj c out x).2 (K+1) (br h o p s q r Z)/\jk (br h o p s q r w) (br h o p s q r Z) w Z from ⟨⟨o,p,q,r,T,s,D,N,m',n',l',_,jl,uJ,u.2.1.bQ _ _,(by have v:=H.2.2.2.2.2.2;have J:=u.2.2;have h3:=Bw c out x;omega),rfl⟩,H5.2.trans qD⟩);clear uJ qD dW;go_wp2;go_ret;exact⟨rfl,_,H6.out⟩
section
open Go.Shelf
variable{s:List Nat}{B b p:Nat}{v:Value}{w:World}
abbrev L5(g:Nat):Value:=.slice (some ⟨g,0,none⟩) 15 15
theorem Qc:(Tryz.prog.info? 88).map (λi=>(i.zero,i.size,i.bytes))=some (some<|.slice none 0 0,1,24):=dJ
structure sS(b:Nat)(w:World)(v:Value)(gs:List Nat)(ms:List bt):Prop where
 row:w.ownsRow b 88 1 v gs.length (gs.map L5)
 len:gs.length=ms.length
 nod:gs.Nodup
 each:∀(j g:Nat) (m:bt),gs[j]?=some g->ms[j]?=some m->w.ownsRow b 5 1 (L5 g) 15 (bs m.bytes)
theorem By{T:List bt}(h:w.ownsRow b 151 4 v T.length<|py T):∃o c,v=.slice o T.length c/\(∀i x,T[i]?=some x->∃g,o=some ⟨g,0,none⟩/\w.cell? ⟨g,i*4,none⟩=some (.int .i64 (x.kind:Int))/\w.cell? ⟨g,i*4+1,none⟩=some (.int .i64 (x.src:Int))/\w.cell? ⟨g,i*4+2,none⟩=some (.int .i64 (x.dst:Int))/\w.cell? ⟨g,i*4+3,none⟩=some (.int .u64 (x.aP:Int))):=by
 rcases h.2 with⟨e,l⟩|⟨g,d,r,e,rest⟩
 .refine⟨none,0,by rw[e,l],λi p a=>?_⟩;have:=(zzd.1 a).1;omega
 .refine⟨some ⟨g,0,none⟩,d,e,λi p a=>⟨g,rfl,?_⟩⟩;have y:=λj m=>rj (f:=XL) (k:=4) (λ_=>rfl) T i p a j m
  exact⟨dC h e<|y 0 bM,dC h e<|y 1 bM,dC h e<|y 2 bM,dC h e<|y 3 bM⟩
theorem sS.fr{w':World}{f:List bt}{S:List Nat}(h:sS b w v s f)(hf:Fr S w w')(i:∀q∈S,q<b):sS b w' v s f:=by
 have y:∀{e:TypeId} {u:Value} {m:Nat} {xs:List Value},w.ownsRow b e 1 u m xs->w'.ownsRow b e 1 u m xs:=λ{e u m xs} r=>bW r λg d=>hf.block g (r.lt g d).2 λk=>by have a:=(r.lt g d).1;have c:=i g k;omega
 exact⟨y h.row,h.len,h.nod,λj g m a c=>y<|h.each j g m a c⟩
theorem L7(B d i:Nat)(ss:Option Addr)(L:Value)(out:List bt)(w:World)(G:w.heap[d]?=some (gK i none ss L))(z:w.ownsRow B 151 4 L out.length<|py out)(C:∀x∈out,x.Ok)(hlen:out.length<=60000000):
  Calls prog 69 #[.pointer<|some ⟨d,0,none⟩] w λe w'=>∃v s,e=.returned v/\sS w.heap.size w' v s out/\w'.heap[d]?=some (gK i none ss<|.slice none 0 0)/\Fr [d] w w':=by
 have⟨i0,je,a6,a7,a8⟩:=info_parts Qc;have⟨ao,ca,eo,J⟩:=By z;subst eo;have c1:=ae G 1;have c3:=ae G 3;simp at c1 c3;have⟨n,hn⟩:=gb out.length;rw[<-hn]at c3 hlen;have H:=af<|zzb G<|zzb z<|zzb J<|zzb C hn;clear G z J C hn
 go_enter func69,ntmps69;go_wp2;go_loopw [5,39] (λsv i wr=>∃(k:Nat) (s:List Nat),k<=n/\i=.int .i64 (k:Int)/\Hid (sS w.heap.size wr sv s (out.take k)/\Fr [] w wr)) (λ_ i _=>n-(intOf i).toNat);case atStart=>exact⟨0,[],zzs _,rfl,⟨zzu _ _ _ _,rfl,List.nodup_nil,λj g m a1=>by simp at a1⟩,Fr.refl _ _⟩
 case round=>
  obtain⟨k,s,hk,rfl,R⟩:=hrel;by_cases bU:k<n
  .obtain⟨x,hx⟩:∃x,out[k]?=some x:=⟨_,zzg<|by have:=H.2.2.2.2;omega⟩;obtain⟨g,rfl,y0,y1,y2,y3⟩:=H.2.2.1 k x hx;have nG:=(H.2.1.lt g rfl).2;have keep:∀j,wr.cell? (hO g j)=w.cell? (hO g j):=λj=>zze<|R.2.block g nG bR
   rw[<-keep]at y0 y1 y2 y3;have I:=H.2.2.2.1 x<|zzh hx;have RJ:(0:Int)<=k:=bL
   have i1:(k:Int)<n:=bL;have X:=af<|zzb hx I;clear keep hx I;have U:=yK x.kind x.src x.dst x.aP (wr.alloc<|fk (x.kind:Int) (x.src:Int) (x.dst:Int) (x.aP:Int)) X.2.sound X.2.small.1 X.2.small.2.1 X.2.small.2.2.1 X.2.id;have A:s.length=k:=by have p:=R.1.len;rw[zzm]at p;have:=H.2.2.2.2;omega
   have S:=af R.1.row;go_wp2_with fail;apply U.mono;clear U;rintro e f ⟨g2,rfl,gH,cZ⟩;have Q:=((lT wr).alloc _).trans<|Fr.aX cZ [];have T:=R.1.fr Q bR;have aa:=zzk R.2.size Q.size;have r:=T.row;have o:=af<|zzb T<|zzb Q gH;rw[A]at r;clear cZ Q T gH S
   go_wp2_with (at_builtin;apply gR rfl _ _ 147 rfl w.heap.size 88 i0 _ 1 24 underlying147 je a6 a7 a8 rfl bM u5 k (s.map L5) rfl (r.alloc _) 1 [L5 g2] (.inl ⟨gz f.heap.size,1,rfl,dU _ #[L5 g2] _⟩) rfl (by intro u K;simp at K;subst K;rfl) eA bL cE);intro v' t D P Y
   have N:=af (show sS w.heap.size t v' (s++[g2]) (out.take (k+1))/\Fr [] w t from by
    have lB:Fr [] f (f.alloc<|.cells #[L5 g2] 88):=(lT f).alloc _;have E:=(lB.mono bR).trans<|Fr.bz P;have mO:∀q∈u5.ownBlock.toList,w.heap.size<=q:=λq c=>by simp at c;exact(r.lt q c).1
    have keep:∀{u:Value} {m:Nat} {xs:List Value},f.ownsRow w.heap.size 5 1 u m xs->t.ownsRow w.heap.size 5 1 u m xs:=λ{u m xs} y=>bW y (λq c=>E.block q (y.lt q c).2 (λh=>by
     simp at h;have⟨c1,W⟩:=aq y c;have⟨c2,F⟩:=aq r h;rw[W]at F;cases F))
    have fc:=o.2.2.lt g2 rfl;have a':(out.take k).length=k:=by rw[zzm];have:=H.2.2.2.2;omega
    refine⟨⟨by rw[List.map_append,zzi,A];exact D,by rw[zzi,zzm,A];have:=H.2.2.2.2;simp;omega,?_,?_⟩,(R.2.trans o.2.1).andThen E λq c qf=>by have:=mO q c;omega⟩
    .rw[List.nodup_append];refine⟨o.1.nod,bR,λa ha b hb e=>?_⟩;simp at hb;have⟨j,l,ej⟩:=List.getElem_of_mem ha;have⟨m,h⟩:∃m,(out.take k)[j]?=some m:=⟨_,zzg bL⟩;have:=(R.1.each j a m (by rw[zzg l,ej]) h).lt a rfl;have h3:=fc.1;simp at h3;omega
    .intro j q m l h;have jH:w.heap.size<=(wr.alloc<|fk (x.kind:Int) (x.src:Int) (x.dst:Int) (x.aP:Int)).heap.size:=by have:=R.2.size;simp;omega
     by_cases O:j<k
     .rw[List.getElem?_append_left bL]at l;rw[List.getElem?_take_of_lt bL]at h;exact keep<|o.1.each j q m l<|by rw[List.getElem?_take_of_lt O];exact h
     .have nM:j<k+1:=by have:=(zzd.1 h).1;rw[zzm]at this;omega
      obtain rfl:j=k:=bL;rw[List.getElem?_append_right bL,A,Nat.sub_self]at l;simp at l;subst l;rw[List.getElem?_take_of_lt bL,X.1]at h;cases h;exact keep (ep o.2.2 jH))
   clear D P Y r o;obtain⟨oa,oc,rfl⟩:=hZ N.1.row;go_wp2;go_roundw;case rel=>exact⟨k+1,s++[g2],bL,eR,N⟩
   case measure=>simp[intOf];omega
  .obtain rfl:k=n:=bL;have Z:=(R.2.block d (zza.1 H.1).1 bR).trans H.1;have V:=ae Z 3;have f3:=aj Z 3;simp at V;have N:=af (show sS w.heap.size (wr.setCell ⟨d,3,none⟩ (.slice none 0 0)) u5 s out/\(wr.setCell ⟨d,3,none⟩ (.slice none 0 0)).heap[d]?=some (gK i none ss (.slice none 0 0))/\Fr [d] w (wr.setCell ⟨d,3,none⟩ (.slice none 0 0))from by
    have p:=R.1;rw[zzt<|by have:=H.2.2.2.2;omega]at p;have M:Fr [d] wr (wr.setCell ⟨d,3,none⟩<|.slice none 0 0):=Fr.cD (by simp) _ _
    refine⟨p.fr M (by intro q c;simp at c;subst c;exact(zza.1 H.1).1),by have:=ar Z 3 (.slice none 0 0);simp at this;exact this,(R.2.mono bR).trans M⟩)
   clear Z;go_wp2;go_ret;exact⟨u5,s,rfl,N.out⟩
def cY(l:List (Nat × Nat × Nat)):List bt:=l.map λx=>⟨x.2.2,0,x.2.1,x.1⟩
theorem sS.low{a:Nat}{c:List bt}(h:sS b w v s c)(hb:a<=b):sS a w v s c:=⟨ep h.row hb,h.len,h.nod,λj g m d e=>ep (h.each j g m d e) hb⟩
theorem nX.TT{k o i j T h D N m n:Nat}{c:aU}{l:au}{d:ah}{out:List bt}(O:nX w B k o p i j T h D N m n c l d v out){g:Nat}{q:Array Value}{t:TypeId}(a:w.heap[g]?=some (.cells q t (0,0)))(b:t=157\/t=207)(u:g∉rd i w):g∉br k o p h i j w:=λs=>by
 have⟨E,G,F,A,C,f⟩:=O.sl.lg;obtain⟨H,I,y,x,z,-⟩:=O.sl.co.ex;obtain e|e|e|e|e|e|e|e|e|e:=aL.1 s
 .rw[e,O.hh]at a;obtain rfl|rfl:=b<;>cases a
 .rw[e,O.fG]at a;obtain rfl|rfl:=b<;>cases a
 .rw[e,f.bq.blk]at a;obtain rfl|rfl:=b<;>cases a
 .rw[e,f.blk]at a;obtain rfl|rfl:=b<;>cases a
 .rw[e,y]at a;obtain rfl|rfl:=b<;>cases a
 .rw[e,O.sl.ju]at a;obtain rfl|rfl:=b<;>cases a
 .rw[O.fG]at e;have⟨c2,r⟩:=aq O.jz<|(jW (ct O.jz) g).1 e;rw[r]at a;obtain rfl|rfl:=b<;>cases a
 .rcases b with rfl|rfl<;>exact f.free a bM bM bM bM bM (.inr<|.inr<|.inl e)
 .rcases b with rfl|rfl<;>exact f.free a bM bM bM bM bM (.inr<|.inr<|.inr e)
 .rw[y]at e;obtain e|e:=(mem_co (ct x)<|ct z).1 e
  .obtain⟨es,c2,e2⟩:=O.sl.co.ai.isMap;rw[<-e,a]at e2;cases e2
  .exact u<|(CX y).2 e
theorem Bz{T:List (Nat×Nat×Nat)}(h:w.ownsRow b 207 3 v T.length<|oR T):∃o c,v=.slice o T.length c/\(∀i x,T[i]?=some x->∃g,o=some ⟨g,0,none⟩/\w.cell? ⟨g,i*3,none⟩=some (.int .u64 (x.1:Int))/\w.cell? ⟨g,i*3+1,none⟩=some (.int .i64 (x.2.1:Int))/\w.cell? ⟨g,i*3+2,none⟩=some (.int .i64 (x.2.2:Int))):=by
 rcases h.2 with⟨e,l⟩|⟨g,d,r,e,rest⟩
 .refine⟨none,0,by rw[e,l],λi p a=>?_⟩;have:=(zzd.1 a).1;omega
 .refine⟨some ⟨g,0,none⟩,d,e,λi p a=>⟨g,rfl,?_⟩⟩;have y:=λj m=>rj (f:=Th) (k:=3) (λ_=>rfl) T i p a j m
  exact⟨dC h e<|y 0 bM,dC h e<|y 1 bM,dC h e<|y 2 bM⟩
theorem L8(B z f p s t T A bD bN m n':Nat)(c:aU)(l:au)(d:ah)(ov:Value)(out:List bt)(w:World)(h:nX w B z f p s t T A bD bN m n' c l d ov out)(O:∀x∈out++cY c.out,x.Ok)(hlen:(out++cY c.out).length<=60000000):
  Calls prog 69 #[.pointer<|some ⟨f,0,none⟩] w λe w'=>∃v E U,e=.returned v/\sS w.heap.size w' v E (out++cY c.out)/\nX w' B z f p s t T A bD bN m n' {c with out:=[]} l d U []/\jk (br z f p A s t w) (br z f p A s t w') w w':=by
 have⟨i0,je,av,aw,az⟩:=info_parts Qc;have Hm:=Tv B s t T m c w h.sl.co;have c1:=ae h.fG 1;simp at c1;have Q:=af<|zzb h<|zzb O hlen;clear h O
 go_enter func69,ntmps69;go_wp2_with fail;apply Hm.mono;clear Hm;rintro e w1 ⟨v,rfl,F,-,h3,h4,h5,-,h7⟩;have⟨df,eG⟩:=Q.1.sl.ic h4 (h7.mono<|by intro k hk;simp at hk;simp[hk]);have⟨eO,gX⟩:=Q.1.zJ eG df;have a8:∀g,v.ownBlock=some g->g∉br z f p A s t w1:=λg hg=>by
  have⟨cc,hc⟩:=aq F hg;exact eO.TT hc (.inr rfl)<|h5 g hg
 have⟨ad,dc,ed,RI⟩:=Bz F;subst ed;have⟨N,TU⟩:=gb c.out.length;have aI:N<=60000000:=by rw[TU];rw[zzi]at hlen;unfold cY at hlen;rw[zzn]at hlen;omega
 have J:=af<|zzb eO<|zzb gX<|zzb a8<|zzb F<|zzb RI TU;rw[<-TU];clear F h3 h4 h5 h7 df eG eO gX a8 RI TU c1 hlen;go_wp2
 go_loopw [21] (λi wr=>∃k:Nat,k<=N/\i=.int .i64 (k:Int)/\Hid (∃U,nX wr B z f p s t T A bD bN m n' {c with out:=[]} l d U (out++cY (c.out.take k))/\jk (br z f p A s t w) (br z f p A s t wr) w wr/\wr.ownsRow B 207 3 (.slice ad c.out.length dc) c.out.length (oR c.out)/\w1.heap.size<=wr.heap.size)) (λi _=>N-(intOf i).toNat)
 case atStart=>exact⟨0,zzs _,rfl,ov,by simpa [cY]using J.1,J.2.1,J.2.2.2.1,zzc _⟩
 case round=>
  obtain⟨k,hk,rfl,R⟩:=hrel;have⟨Bm,V,P,TV,a6⟩:=R.out;by_cases bU:k<N
  .obtain⟨x,hx⟩:∃x,c.out[k]?=some x:=⟨_,zzg<|by have:=J.2.2.2.2.2;omega⟩;have⟨b0,b1,al,ab⟩:=Bz TV
   cases al;obtain⟨g,rfl,y0,y1,y2⟩:=ab k x hx;have i1:(k:Int)<N:=bL;have⟨tx,sx,wx⟩:=x;simp only[]at y0 y1 y2;have⟨a1,hW⟩:=gb <|wr.alloc (.cells #[.int .u64 (tx:Int),.int .i64 (sx:Int),.int .i64 (wx:Int)] 207);have gG:Fr [] wr a1:=by rw[hW];exact(lT wr).alloc _
   have⟨W,a'⟩:=V.new gG;have pA:=nY B f 0 wx sx tx (some (gz s)) none Bm (out++cY (c.out.take k)) a1 W.fG W.jz W.size (by
    have:=Q.2.2;have h2:=J.2.2.2.2.2;rw[zzi]at this ⊢;unfold cY at this ⊢;rw[zzn]at this ⊢;rw[zzm];omega)
   have K:=af<|zzb W<|zzb (P.trans a')<|zzb TV<|zzb hx<|zzb gG a6;have a7:=af pA;clear V P TV hx ab W a' gG pA R a6;go_wp2_with fail;rw[<-hW];clear hW;apply a7.out.mono;clear a7;rintro e C ⟨rfl,k_⟩;have⟨Zr,sQ,sR⟩:=K.1.yX k_
   have Vl:C.ownsRow B 207 3 (.slice (some (gz g)) c.out.length dc) c.out.length (oR c.out):=by
    obtain⟨b3,-,-,MX,-⟩:=k_;refine bW (bW K.2.2.1 λq o=>K.2.2.2.2.1.block q (K.2.2.1.lt q o).2 bR) λq o=>MX.block q (zzl (K.2.2.1.lt q o).2 K.2.2.2.2.1.size) λy=>?_;have⟨c5,e5⟩:=aq K.2.2.1 o;have e6:=(K.2.2.2.2.1.block q (K.2.2.1.lt q o).2 bR).trans e5;obtain e7|e7:=zzj.1 y
    .rw[e7,K.1.fG]at e6;cases e6
    .simp at e7;have⟨c8,e8⟩:=aq K.1.jz e7;rw[e8]at e6;cases e6
   have M:=af (show ∃U,nX C B z f p s t T A bD bN m n' {c with out:=[]} l d U (out++cY (c.out.take (k+1)))/\jk (br z f p A s t w) (br z f p A s t C) w C/\C.ownsRow B 207 3 (.slice (some (gz g)) c.out.length dc) c.out.length (oR c.out)/\w1.heap.size<=C.heap.size from ⟨Zr,by
    have e1:out++cY (c.out.take<|k+1)=out++cY (c.out.take k)++[⟨wx,0,sx,tx⟩]:=by
     unfold cY;rw[List.take_add_one,K.2.2.2.1,List.map_append,zzx];rfl
    rw[e1];exact sQ,K.2.1.trans sR,Vl,zzk K.2.2.2.2.2 (zzk K.2.2.2.2.1.size sR.fr.size)⟩)
   clear k_ sQ sR Vl K;go_wp2;go_roundw;case rel=>exact⟨k+1,bL,eR,M⟩
   case measure=>simp[intOf];omega
  .obtain rfl:k=N:=bL;have⟨r,Zv⟩:=gb wr;have⟨D,Y⟩:=gb <|out++cY c.out;rw[zzt<|by have:=J.2.2.2.2.2;omega,<-Y]at V;have O:=Q.2.1;have hlen:=Q.2.2;rw[<-Y]at O hlen;rw[<-Zv]at V P ⊢;have fG:=V.fG;have jz:=V.jz;have⟨ao,ca,eo,aa⟩:=By jz;subst eo;have c3:=ae fG 3;simp at c3;have⟨n,hn⟩:=gb D.length;rw[<-hn]at c3 hlen;have H:=af<|zzb fG<|zzb jz<|zzb aa<|zzb O hn;have H4:=af<|zzb V<|zzb P Y;clear fG jz aa O hn R Zv V P TV a6 Y;go_wp2
   go_loopw [5,39] (λsv i wr=>∃(k:Nat) (E:List Nat),k<=n/\i=.int .i64 (k:Int)/\Hid (sS r.heap.size wr sv E (D.take k)/\Fr [] r wr)) (λ_ i _=>n-(intOf i).toNat);case atStart=>exact⟨0,[],zzs _,rfl,⟨zzu _ _ _ _,rfl,List.nodup_nil,λj g m h=>by simp at h⟩,Fr.refl _ _⟩
   case round=>
    obtain⟨k,E,hk,rfl,R⟩:=hrel;by_cases bU:k<n
    .obtain⟨x,hx⟩:∃x,D[k]?=some x:=⟨_,zzg<|by have:=H.2.2.2.2;omega⟩;obtain⟨g,rfl,y0,y1,y2,y3⟩:=H.2.2.1 k x hx;have nG:=(H.2.1.lt g rfl).2;have keep:∀j,wr.cell? (hO g j)=r.cell? (hO g j):=λj=>zze<|R.2.block g nG bR
     rw[<-keep]at y0 y1 y2 y3;have Ix:=H.2.2.2.1 x<|zzh hx;have RJ:(0:Int)<=k:=bL
     have i1:(k:Int)<n:=bL;have X:=af<|zzb hx Ix;clear keep hx Ix;have iU:=yK x.kind x.src x.dst x.aP (wr.alloc<|fk (x.kind:Int) (x.src:Int) (x.dst:Int) (x.aP:Int)) X.2.sound X.2.small.1 X.2.small.2.1 X.2.small.2.2.1 X.2.id;have RA:E.length=k:=by have F:=R.1.len;rw[zzm]at F;have:=H.2.2.2.2;omega
     have Qd:=af R.1.row;go_wp2_with fail;apply iU.mono;clear iU;rintro e G ⟨g2,rfl,gH,cZ⟩;have aQ:=((lT wr).alloc _).trans<|Fr.aX cZ [];have dT:=R.1.fr aQ bR;have b2:=zzk R.2.size aQ.size;have S:=dT.row;have L:=af<|zzb dT<|zzb aQ gH;rw[RA]at S;clear cZ aQ dT gH Qd
     go_wp2_with (at_builtin;apply gR rfl _ _ 147 rfl r.heap.size 88 i0 _ 1 24 underlying147 je av aw az rfl bM u5 k (E.map L5) rfl (S.alloc _) 1 [L5 g2] (.inl ⟨gz G.heap.size,1,rfl,dU _ #[L5 g2] _⟩) rfl (by intro u hu;simp at hu;subst hu;rfl) eA bL cE);intro v' C bw bP eQ
     have M:=af (show sS r.heap.size C v' (E++[g2]) (D.take (k+1))/\Fr [] r C from by
      have lB:Fr [] G (G.alloc<|.cells #[L5 g2] 88):=(lT G).alloc _;have dz:=(lB.mono bR).trans<|Fr.bz bP;have mO:∀q∈u5.ownBlock.toList,r.heap.size<=q:=λq o=>by simp at o;exact(S.lt q o).1
      have keep:∀{u:Value} {m:Nat} {xs:List Value},G.ownsRow r.heap.size 5 1 u m xs->C.ownsRow r.heap.size 5 1 u m xs:=λ{u m xs} hr=>bW hr (λq o=>dz.block q (hr.lt q o).2 (λy=>by
       simp at y;have⟨c1,e1⟩:=aq hr o;have⟨c2,e2⟩:=aq S y;rw[e1]at e2;cases e2))
      have fc:=L.2.2.lt g2 rfl;have aH:(D.take k).length=k:=by rw[zzm];have:=H.2.2.2.2;omega
      refine⟨⟨by rw[List.map_append,zzi,RA];exact bw,by rw[zzi,zzm,RA];have:=H.2.2.2.2;simp;omega,?_,?_⟩,(R.2.trans L.2.1).andThen dz λq o qf=>by have:=mO q o;omega⟩
      .rw[List.nodup_append];refine⟨L.1.nod,bR,λa ha b hb e=>?_⟩;simp at hb;have⟨j,I,ej⟩:=List.getElem_of_mem ha;have⟨m,y⟩:∃m,(D.take k)[j]?=some m:=⟨_,zzg bL⟩;have:=(R.1.each j a m (by rw[zzg I,ej]) y).lt a rfl;have h3:=fc.1;simp at h3;omega
      .intro j q m I y;have jH:r.heap.size<=(wr.alloc<|fk (x.kind:Int) (x.src:Int) (x.dst:Int) (x.aP:Int)).heap.size:=by have:=R.2.size;simp;omega
       by_cases K3:j<k
       .rw[List.getElem?_append_left bL]at I;rw[List.getElem?_take_of_lt bL]at y;exact keep<|L.1.each j q m I<|by rw[List.getElem?_take_of_lt K3];exact y
       .have nM:j<k+1:=by have:=(zzd.1 y).1;rw[zzm]at this;omega
        obtain rfl:j=k:=bL;rw[List.getElem?_append_right bL,RA,Nat.sub_self]at I;simp at I;subst I;rw[List.getElem?_take_of_lt bL,X.1]at y;cases y;exact keep (ep L.2.2 jH))
     clear bw bP eQ S L;obtain⟨oa,oc,rfl⟩:=hZ M.1.row;go_wp2;go_roundw;case rel=>exact⟨k+1,E++[g2],bL,eR,M⟩
     case measure=>simp[intOf];omega
    .obtain rfl:k=n:=bL;have Z:=(R.2.block f (zza.1 H.1).1 bR).trans H.1;have d3:=ae Z 3;have f3:=aj Z 3;simp at d3;have M:=af (show sS r.heap.size (wr.setCell (hO f 3) (.slice none 0 0)) u5 E D/\(wr.setCell ⟨f,3,none⟩ (.slice none 0 0)).heap[f]?=some (gK 0 (some ⟨s,0,none⟩) none (.slice none 0 0))/\Fr [f] r (wr.setCell ⟨f,3,none⟩ (.slice none 0 0))from by
      have F:=R.1;rw[zzt<|by have:=H.2.2.2.2;omega]at F;have wH:Fr [f] wr (wr.setCell ⟨f,3,none⟩<|.slice none 0 0):=Fr.cD (by simp) _ _
      refine⟨F.fr wH (by intro q o;simp at o;subst o;exact(zza.1 H.1).1),by have:=ar Z 3 (.slice none 0 0);simp at this;exact this,(R.2.mono bR).trans wH⟩)
     clear Z;go_wp2;go_ret;have⟨an,Qe,dW⟩:=M.out;have pA:r9 B f 0 (some (gz s)) none (.slice ao D.length ca) [] r _:=⟨.slice none 0 0,Qe,zzu _ _ _ _,dW.mono<|by intro q _ o;simp at o;simp[o],λg hg=>by cases hg⟩;have⟨aE,uJ,qD⟩:=H4.1.yX pA;exact⟨u5,E,aE,rfl,(by rw[<-H4.2.2];exact an.low<|zzk H4.2.1.fr.size<|zzc _),uJ,H4.2.1.trans qD⟩
def Iy(zs:List Int):List Value:=zs.map λz:Int=>.int .i64 z
theorem TW(l:List Int):∀u∈Iy l,u.oneCell'=true:=by
 intro u h;unfold Iy at h;obtain⟨x,_,rfl⟩:=zzq.1 h;rfl
theorem TX(l:List Int):(Iy l).length=l.length:=by simp[Iy]
theorem abg{o:Option Addr}{l:List Int}(h:w.ownsRow B 3 1 (.slice o l.length p) l.length<|Iy l)(c:∀z∈l,ly z):Tq w o l:=λk z a=>by
 refine⟨c z<|zzh a,?_⟩;have E:=(zzd.1 a).1;rcases h.2 with⟨_,d⟩|⟨g,R,r,e,hb,b,_,_,f,K⟩
 .omega
 .cases e;refine⟨g,rfl,?_⟩;have:(r.toList.take<|l.length*1)[k]?=some (.int .i64 z):=by rw[K];unfold Iy;rw[zzy,a];rfl
  rw[List.getElem?_take_of_lt bL]at this;rw[ae b k];simpa using this
theorem Iz:(Tryz.prog.info? 3).map (λi=>(i.zero,i.size,i.bytes))=some (some<|.int .i64 0,1,8):=dJ
section
variable(B E K t:Nat)(c:aU)(out:List bt)(L:List Nat)(w:World)
theorem XY(a1:cT w B E c out K L)(hg:cN K c)(s:2<=B)(O:Met w)(J:bI w)(Y:K<=290000):
  Calls prog 11 #[.pointer<|some ⟨E,0,none⟩,fy (-1) (-1) 0 0] w λe w'=>e=.returned (.tuple #[.int .u64 (c.begun.2.1:Int),.int .i64 (c.begun.2.2:Int)])/\∃I,cT w' B E c.begun.1 out (K+1) I/\jk L I w w':=by
 obtain⟨o,p,f,h,T,j,D,N,m,n,l,d,ov,P,hw,hm,rfl⟩:=a1;have⟨W,i⟩:=gb <|w.alloc (gi (-1) (-1) 0 0);have R:Fr [] w W:=by rw[i];exact(lT w).alloc _
 have⟨k,oW⟩:=P.new R;have A:W.heap[w.heap.size]?=some (gi (-1) (-1) 0 0):=by rw[i];exact heap_alloc_new w _
 have r:=ae k.hh 6;have x:=ae A 0;have y:=ae A 1;have z:=ae A 2;have C:=ae A 3;simp at r x y z C;rw[i]at r x y z C;have⟨Hx,lG⟩:∃v,W.heap[p]?=some (gv D N v d.left d.full d.down):=by have⟨v,sv,rv,nD,nN,t⟩:=k.sl.lg;exact⟨v,t.bq.blk⟩
 have H:=af<|zzb k<|zzb oW<|zzb A<|zzb lG<|zzb P<|zzb hw hm;have M:=af<|zzb O<|zzb J Y;have HG:=af hg;clear hg;clear k oW A lG P hw hm R O J Y
 go_enter func11,ntmps11;go_wp2_with fail;rw[<-i];clear i r x y z C;apply(jh E p D N 0 Hx _ _ _ true d.down d.left d.full (-1) (-1) 0 0 W H.1.hh H.2.2.2.1).mono;rintro e w1 ⟨rfl,cG,bh⟩;have⟨df,G⟩:=H.1.sl.bQ (-1) (-1) bh cG H.2.2.2.1;have⟨V,X⟩:=H.1.zJ G df;have mm:=G.cells H.1.sl H.2.2.1 bM bM bM bM bM bM bM bM;have b:=af<|zzb V<|zzb (H.2.1.trans X) mm;have S:=ae b.1.hh 6;simp at S;have U:m<=60000000/\n<=60000000:=by have h1:=H.2.2.2.2.2.2;have h2:=M.2.2;omega
 clear cG bh df G V X mm;have Z:=P1 B f h T m j p D N n K c l d w1 b.1.sl H.2.2.2.2.2.1 HG.out (by have:=M.2.2;omega) U.1 U.2 s<|(H.2.2.2.2.1.keeps b.2.1 s).2 M.2.1;clear U;go_wp2_with fail;apply Z.mono;clear Z S;rintro e w3 ⟨rfl,l',d',m',n',k_,po,uf,lY,rL⟩;have⟨Q,za⟩:=b.1.zJ po k_;have sR:=b.2.1.trans za;have g:=po.cells b.1.sl b.2.2 bM bM bM bM bM bM bM bM;clear k_ po za;have ox:=uf.2;have y0:=ae g 0;have y1:=ae g 1;have y2:=ae g 2;have y3:=ae g 3;simp at y0 y1 y2 y3;have⟨DC,uY⟩:∃v,w3.heap[p]?=some (gv D N v d'.left d'.full d'.down):=by have⟨v,sv,rv,nD,nN,t⟩:=Q.sl.lg;exact⟨v,t.bq.blk⟩
 have a:=af<|zzb Q<|zzb sR<|zzb uY<|zzb uf<|zzb lY rL;clear Q sR g uY uf lY rL;go_wp2_with fail;have U:=a.2.2.1;rw[ox]at U;apply(kG E p D N 0 DC _ _ _ true d'.left d'.full (-1) (-1) 0 0 w3 a.1.hh U).mono;clear U y0 y1 y2 y3;rintro e w5 ⟨rfl,h_,cO⟩;rw[<-ox]at h_;have⟨iz,pI⟩:=a.1.sl.bQ (-1) (-1) cO h_ a.2.2.1;have⟨nt,u⟩:=a.1.zJ pI iz;have mo:=(H.2.2.2.2.1.keeps (a.2.1.trans u) s).1 M.1;have F:=af<|zzb nt<|a.2.1.trans u;clear h_ cO iz pI nt u;go_wp2_with fail;apply(gC c.begun.2.2 w5 mo).mono;rintro e q ⟨rfl,dW⟩;have⟨uJ,qD⟩:=F.1.new dW;have H6:=af (show cT q B E c.begun.1 out (K+1) (br E o p j f h q)/\jk (br E o p j f h w) (br E o p j f h q) w q from ⟨⟨o,p,f,h,T,j,D,N,m',n',l',_,ov,uJ,a.2.2.2.1.bQ _ _,(by have h1:=H.2.2.2.2.2.2;have h2:=a.2.2.2.2;omega),rfl⟩,F.2.trans qD⟩);clear uJ qD dW;go_wp2;go_ret2;exact⟨rfl,_,H6.out⟩
theorem XZ(a1:cT w B E c out K L)(ht:t<18446744073709551616)(hB:2<=B)(O:Met w)(J:bI w)(Y:K<=290000):
  Calls prog 95 #[.pointer<|some ⟨E,0,none⟩,.int .u64 (t:Int),fy (-1) (-1) 0 0] w λe w'=>e=.returned (.int .i64 (c.rZ t:Int))/\∃I,cT w' B E (c.iR t) out (K+1) I/\jk L I w w':=by
 obtain⟨o,p,f,h,T,j,D,N,m,n,l,d,ov,P,hw,hm,rfl⟩:=a1;have⟨W,i⟩:=gb <|w.alloc (gi (-1) (-1) 0 0);have R:Fr [] w W:=by rw[i];exact(lT w).alloc _
 have⟨k,oW⟩:=P.new R;have A:W.heap[w.heap.size]?=some (gi (-1) (-1) 0 0):=by rw[i];exact heap_alloc_new w _
 have r:=ae k.hh 6;have x:=ae A 0;have y:=ae A 1;have z:=ae A 2;have C:=ae A 3;simp at r x y z C;rw[i]at r x y z C;have⟨Hx,lG⟩:∃v,W.heap[p]?=some (gv D N v d.left d.full d.down):=by have⟨v,sv,rv,nD,nN,s⟩:=k.sl.lg;exact⟨v,s.bq.blk⟩
 have H:=af<|zzb k<|zzb oW<|zzb A<|zzb lG<|zzb P<|zzb hw hm;have M:=af<|zzb O<|zzb J Y
 skip;clear k oW A lG P hw hm R O J Y;go_enter func95,ntmps95;go_wp2_with fail;rw[<-i];clear i r x y z C;apply(jh E p D N 0 Hx _ _ _ true d.down d.left d.full (-1) (-1) 0 0 W H.1.hh H.2.2.2.1).mono;rintro e w1 ⟨rfl,cG,bh⟩;have⟨df,G⟩:=H.1.sl.bQ (-1) (-1) bh cG H.2.2.2.1;have⟨V,X⟩:=H.1.zJ G df;have mm:=G.cells H.1.sl H.2.2.1 bM bM bM bM bM bM bM bM;have b:=af<|zzb V<|zzb (H.2.1.trans X) mm;have S:=ae b.1.hh 6;simp at S;have U:m<=60000000/\n<=60000000:=by have h1:=H.2.2.2.2.2.2;have h2:=M.2.2;omega
 clear cG bh df G V X mm;have Z:=P2 B f h T m j p D N n t c l d w1 b.1.sl H.2.2.2.2.2.1 U.1 ht;clear U;go_wp2_with fail;apply Z.mono;clear Z S;rintro e w3 ⟨rfl,l',d',m',n',k_,po,uf,lY,rL⟩;have⟨Q,za⟩:=b.1.zJ po k_;have sR:=b.2.1.trans za;have g:=po.cells b.1.sl b.2.2 bM bM bM bM bM bM bM bM;clear k_ po za;have ox:=uf.2;have y0:=ae g 0;have y1:=ae g 1;have y2:=ae g 2;have y3:=ae g 3;simp at y0 y1 y2 y3;have⟨DC,uY⟩:∃v,w3.heap[p]?=some (gv D N v d'.left d'.full d'.down):=by have⟨v,sv,rv,nD,nN,s⟩:=Q.sl.lg;exact⟨v,s.bq.blk⟩
 have a:=af<|zzb Q<|zzb sR<|zzb uY<|zzb uf<|zzb lY rL;clear Q sR g uY uf lY rL;go_wp2_with fail;have U:=a.2.2.1;rw[ox]at U;apply(kG E p D N 0 DC _ _ _ true d'.left d'.full (-1) (-1) 0 0 w3 a.1.hh U).mono;clear U y0 y1 y2 y3;rintro e w5 ⟨rfl,h_,cO⟩;rw[<-ox]at h_;have⟨iz,pI⟩:=a.1.sl.bQ (-1) (-1) cO h_ a.2.2.1;have⟨nt,u⟩:=a.1.zJ pI iz;have mo:=(H.2.2.2.2.1.keeps (a.2.1.trans u) hB).1 M.1;have F:=af<|zzb nt<|a.2.1.trans u;clear h_ cO iz pI nt u;go_wp2_with fail;apply(gC (c.rZ t) w5 mo).mono;rintro e q ⟨rfl,dW⟩;have⟨uJ,qD⟩:=F.1.new dW;have H6:=af (show cT q B E (c.iR t) out (K+1) (br E o p j f h q)/\jk (br E o p j f h w) (br E o p j f h q) w q from ⟨⟨o,p,f,h,T,j,D,N,m',n',l',_,ov,uJ,a.2.2.2.1.bQ _ _,(by have h1:=H.2.2.2.2.2.2;have h2:=a.2.2.2.2;omega),rfl⟩,F.2.trans qD⟩);clear uJ qD dW;go_wp2;go_ret;exact⟨rfl,_,H6.out⟩
theorem TY(v:Value)(zs:List Int)(a8:cT w B E c out K L)(ht:t<18446744073709551616)(hB:2<=B)(bp:Met w)(aH:bI w)(hK:K<=290000)(hlen:zs.length<=100)(wN:0<zs.length)(hz:∀z∈zs,ly z)(S:∃b0,w.ownsRow b0 3 1 v zs.length<|Iy zs):
  Calls prog 16 #[.pointer<|some ⟨E,0,none⟩,.int .u64 (t:Int),v,fy (-1) (-1) 0 0] w λe w'=>e=.returned (.int .i64 (c.fC t zs:Int))/\∃L',cT w' B E (c.dD t zs) out (K+1) L'/\jk L L' w w':=by
 have⟨b0,S⟩:=S;obtain⟨vo,vc,rfl⟩:=hZ S;have⟨ii,hi,a',aa,ab⟩:=info_parts Iz;have HZ:=af<|zzb hz S;clear hz S;obtain⟨P,p,C,G,bT,J,D,y,m,n,l,d,ov,hP,hw,I,rfl⟩:=a8;have⟨W,O⟩:=gb <|w.alloc (gi (-1) (-1) 0 0);have cu:Fr [] w W:=by rw[O];exact(lT w).alloc _
 have⟨V,oW⟩:=hP.new cu;have F:W.heap[w.heap.size]?=some (gi (-1) (-1) 0 0):=by rw[O];exact heap_alloc_new w _
 have c6:=ae V.hh 6;have x0:=ae F 0;have x1:=ae F 1;have x2:=ae F 2;have x3:=ae F 3;simp at c6 x0 x1 x2 x3;rw[O]at c6 x0 x1 x2 x3;have⟨Hx,lG⟩:∃r,W.heap[p]?=some (gv D y r d.left d.full d.down):=by have⟨r,sv,rv,nD,nN,hl⟩:=V.sl.lg;exact⟨r,hl.bq.blk⟩
 have a:=af<|zzb V<|zzb oW<|zzb F<|zzb lG<|zzb hP<|zzb hw I;have HM:=af<|zzb bp<|zzb aH hK
 skip;clear V oW F lG hP hw I cu bp aH hK;go_enter func16,ntmps16;go_wp2_with fail;rw[<-O];clear O c6 x0 x1 x2 x3;apply(jh E p D y 0 Hx _ _ _ true d.down d.left d.full (-1) (-1) 0 0 W a.1.hh a.2.2.2.1).mono;rintro e w1 ⟨rfl,cG,bh⟩;have⟨df,eG⟩:=a.1.sl.bQ (-1) (-1) bh cG a.2.2.2.1;have⟨eO,gX⟩:=a.1.zJ eG df;have mm:=eG.cells a.1.sl a.2.2.1 bM bM bM bM bM bM bM bM;have s:=af<|zzb eO<|zzb (a.2.1.trans gX) mm;have U:m<=60000000/\n<=60000000:=by have Z:=a.2.2.2.2.2.2;have h2:=HM.2.2;omega
 clear cG bh df eG eO gX mm;have tD:=bW HZ.2 (λg hg=>by
  have⟨h,hc⟩:=aq HZ.2 hg;exact s.2.1.fr.block g (zza.1 hc).1 (λI=>by have:=(a.2.2.2.2.1.obj g I).2;rw[hc]at this;have:=this.not;simp[bo]at this))
 have Vi:PQ w1 (.slice vo zs.length vc) zs.length (Iy zs):=by
  rcases tD.2 with⟨e,h0⟩|⟨g,fR,a7,e,-⟩
  .omega
  .exact .inl ⟨gz g,fR,e,λj u hj=>by have:=tD.cells (by rw[e];rfl) j u hj;simpa [Addr.add]using this⟩
 clear tD;go_wp2_with (at_builtin;apply gR rfl _ _ 53 rfl w1.heap.size 3 ii (.int .i64 0) 1 8 underlying53 hi a' aa ab rfl bM (.slice none 0 0) 0 [] rfl (zzu _ _ _ _) zs.length (Iy zs) Vi (by rw[TX];omega) (TW zs) eA bL (zzc _));intro v' w2 A bP _;obtain⟨b,c2,rfl⟩:=jb A wN;have aQ:Fr [] w1 w2:=Fr.bz bP;have⟨jo,nB⟩:=s.1.new aQ;have y_:=(aQ.block _ (zza.1 s.2.2).1 (by simp)).trans s.2.2;have⟨Zq,fc⟩:=aq A rfl;have nG:=zzk s.2.1.fr.size (A.lt b rfl).1;have a1:zs.length<=Zq.size:=by
  rcases A.2 with⟨e,_⟩|⟨g',fR,a7,e,_,e2,e3,_,e4,_⟩
  .cases e
  .cases e;rw[fc]at e2;cases e2;omega
 have sY:=L3 B C G bT m J p D y n t c l d w2 c2 (some (gz b)) zs hlen (abg A HZ.1) jo.sl a.2.2.2.2.2.1 U.1 ht;have k6:=ae jo.hh 6;simp at k6;have x:=af<|zzb jo<|zzb (s.2.1.trans nB)<|zzb y_ fc;have⟨N,hN⟩:=gb zs.length;rw[<-hN]at sY a1 hlen wN;rw[<-hN];clear A bP aQ jo nB y_ fc hN Vi;go_wp2_with fail;apply sY.mono;clear sY k6;rintro e w3 ⟨rfl,l',d',m',n',k_,po,M,Y,T⟩;have⟨Q,R⟩:=x.1.zJ po k_;have o:=po.cells x.1.sl x.2.2.1 bM bM bM bM bM bM bM bM;have hU:=po.cells x.1.sl x.2.2.2 bM bM bM bM bM bM bM bM;have H:=af<|zzb Q<|zzb (x.2.1.trans R)<|zzb o<|zzb hU<|zzb M<|zzb Y T;clear k_ po Q R o hU M Y T;go_wp2
 go_loopw [31] (λi wr=>∃q:Nat,q<=N/\i=.int .i64 q/\Hid ((∃h,wr.heap[b]?=some (.cells h 3 (0,0))/\N<=h.size)/\Fr [b] w3 wr)) (λi _=>N-(intOf i).toNat)
 case atStart=>exact⟨0,zzs _,rfl,⟨Zq,H.2.2.2.1,a1⟩,Fr.refl _ _⟩
 case round=>
  obtain⟨q,hq,rfl,X⟩:=hrel;by_cases bU:q<N
  .obtain⟨h,hgq,hcq⟩:=X.1;have i3:(q:Int)<N:=bL;have d0:=ae hgq q;have f0:=aj hgq q;have⟨u,hu⟩:∃u,h[q]?=some u:=⟨_,Array.getElem?_eq_getElem bL⟩;rw[hu]at d0;have a6:=af (show(∃h,(wr.setCell (hO b q)<|.int .i64 7).heap[b]?=some (.cells h 3 (0,0))/\N<=h.size)/\Fr [b] w3 (wr.setCell (hO b q)<|.int .i64 7)from ⟨⟨_,ar hgq q<|.int .i64 7,by simpa using hcq⟩,X.2.trans<|Fr.cD bR _ _⟩);clear hgq hu;go_wp2
   go_roundw;case rel=>exact⟨q+1,bL,bR,a6.out⟩
   case measure=>simp[intOf];omega
  .obtain rfl:q=N:=bL;have i3:¬(q:Int)<q:=bL;have Ce:b∉br E P p J C G w3:=λI=>by have:=(H.1.obj _ I).2;rw[H.2.2.2.1]at this;have:=this.not;simp[bo]at this
   have⟨Q,tU⟩:=H.1.apart X.2 (by intro k hk _;simp at hk;subst hk;exact⟨Ce,λt e=>by rw[H.2.2.2.1]at e;cases e⟩);have R:=H.2.1.yQ X.2 (by intro k hk;simp at hk;omega);rw[<-tU]at R;have o:=(X.2.block _ (zza.1 H.2.2.1).1<|by simp;intro e;have Z:=H.2.2.1;rw[e,H.2.2.2.1]at Z;cases Z).trans H.2.2.1;have M:=H.2.2.2.2.1;have Y:=H.2.2.2.2.2.1;have T:=H.2.2.2.2.2.2;clear Ce tU X H U;have ox:=M.2;have y0:=ae o 0;have y1:=ae o 1;have y2:=ae o 2;have y3:=ae o 3;simp at y0 y1 y2 y3;have⟨DC,uY⟩:∃r,wr.heap[p]?=some (gv D y r d'.left d'.full d'.down):=by have⟨r,sv,rv,nD,nN,hl⟩:=Q.sl.lg;exact⟨r,hl.bq.blk⟩
   have f:=af<|zzb Q<|zzb R<|zzb uY<|zzb M<|zzb Y T;clear Q R o uY M Y T;go_wp2_with fail;have U:=f.2.2.1;rw[ox]at U;apply(kG E p D y 0 DC _ _ _ true d'.left d'.full (-1) (-1) 0 0 wr f.1.hh U).mono;clear U y0 y1 y2 y3;rintro e w5 ⟨rfl,h_,cO⟩;rw[<-ox]at h_;have⟨iz,pI⟩:=f.1.sl.bQ (-1) (-1) cO h_ f.2.2.1;have⟨nt,jG⟩:=f.1.zJ pI iz;have mo:=(a.2.2.2.2.1.keeps (f.2.1.trans jG) hB).1 HM.1;have H5:=af<|zzb nt<|f.2.1.trans jG;clear h_ cO iz pI nt jG;go_wp2_with fail;apply(gC (c.fC t zs) w5 mo).mono;rintro e w6 ⟨rfl,dW⟩;have⟨uJ,qD⟩:=H5.1.new dW;have H6:=af (show cT w6 B E (c.dD t zs) out (K+1) (br E P p J C G w6)/\jk (br E P p J C G w) (br E P p J C G w6) w w6 from ⟨⟨P,p,C,G,bT,J,D,y,m',n',l',_,ov,uJ,f.2.2.2.1.bQ _ _,(by have Z:=a.2.2.2.2.2.2;have h2:=f.2.2.2.2;omega),rfl⟩,H5.2.trans qD⟩);clear uJ qD dW;go_wp2;go_ret;exact⟨rfl,_,H6.out⟩
theorem TZ(h:cT w B E c out K L)(i:t<18446744073709551616):
  Calls prog 75 #[.pointer<|some ⟨E,0,none⟩,.int .u64 (t:Int)] w λe w'=>e=.returned (.int .i64 ((c.tx t).state:Int))/\w'=w:=by
 obtain⟨o,p,b,g,T,k,D,N,m,n,l,d,v,P,j,f,rfl⟩:=h;have u:=jq B b g T m t c w P.sl.co i;have a:=ae P.hh 6;simp at a;clear P j f;go_enter func75,ntmps75;go_wp2_with fail;apply u.mono;clear u;rintro e q ⟨rfl,rfl⟩;go_wp2;go_ret;exact⟨rfl,rfl⟩
theorem Qg(h:cT w B E c out K L):
  Calls prog 73 #[.pointer<|some ⟨E,0,none⟩] w λe w'=>∃v s,e=.returned v/\w'.ownsRow B 157 2 v c.res.length (oQ c.res)/\cT w' B E {c with res:=[]} out K s/\jk L s w w'/\∀g,v.ownBlock=some g->g∉s:=by
 obtain⟨o,p,b,f,T,j,D,N,m,n,l,d,J,P,A,r,rfl⟩:=h;have u:=Fl B b f T m c w P.sl.co;have F:=ae P.hh 6;simp at F;have H:=af<|zzb P<|zzb A r;clear P A r
 go_enter func73,ntmps73;go_wp2_with fail;apply u.mono;clear u;rintro e i ⟨v,rfl,h1,-,h3,h4,h5,-,h7⟩;have⟨df,t⟩:=H.1.sl.ic h4 (h7.mono<|by intro k z;simp at z;simp[z]);have⟨O,X⟩:=H.1.zJ t df;have G:∀g,v.ownBlock=some g->g∉br E o p j b f i:=λg x r=>by
  have⟨R,a⟩:=aq h1 x;have⟨V,Y,W,S,U,q⟩:=O.sl.lg;obtain⟨Z,yv,y,M,Q,-⟩:=O.sl.co.ex;obtain e|e|e|e|e|e|e|e|e|e:=aL.1 r
  .rw[e,O.hh]at a;cases a
  .rw[e,O.fG]at a;cases a
  .rw[e,q.bq.blk]at a;cases a
  .rw[e,q.blk]at a;cases a
  .rw[e,y]at a;cases a
  .rw[e,O.sl.ju]at a;cases a
  .rw[O.fG]at e;have⟨c2,I⟩:=aq O.jz<|(jW (ct O.jz) g).1 e;rw[I]at a;cases a
  .exact q.free a bM bM bM bM bM<|.inr<|.inr<|.inl e
  .exact q.free a bM bM bM bM bM<|.inr<|.inr<|.inr e
  .rw[y]at e;obtain e|e:=(mem_co (ct M)<|ct Q).1 e
   .obtain⟨es,c2,e2⟩:=O.sl.co.ai.isMap;rw[<-e,a]at e2;cases e2
   .exact h5 g x<|(CX y).2 e
 have C:=af (show i.ownsRow B 157 2 v c.res.length (oQ c.res)/\cT i B E {c with res:=[]} out K (br E o p j b f i)/\jk (br E o p j b f w) (br E o p j b f i) w i/\∀g,v.ownBlock=some g->g∉br E o p j b f i from ⟨h1,⟨o,p,b,f,T,j,D,N,m,n,l,d,J,O,H.2.1,H.2.2,rfl⟩,X,G⟩);clear h1 h3 h4 h5 h7 df t O X G;go_wp2;go_ret;exact⟨v,_,rfl,C.out⟩
end
end
end Go.Proofs.YtcalalndmcemiaaGreatDoor
