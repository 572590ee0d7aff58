import Derived.Test.YtcalalndmcemiaaGreatDoorC16
import Derived.Test.YtcalalndmcemiaaGreatDoorC17
set_option maxHeartbeats 4000000
set_option maxRecDepth 100000
namespace Go.Proofs.YtcalalndmcemiaaGreatDoor
open Go.RowKit Go.Maps Tryz Sc
def fI(x:Nat):au:=⟨[],600,[],x,0,0⟩
theorem Hl(B l p D N n a:Nat)(v:Value)(d:ah)(w:World)(h:aA w B l p D N v (.slice none 0 0) (.slice none 0 0) (fI 0) d n a 0)(x:d.down=false)(C:d.now ie=none):
  Calls prog 119 #[.pointer<|some ⟨l,0,none⟩] w λe w'=>e=.returned (.tuple #[.slice none 0 0,.nilIface])/\aA w' B l p D N v (.slice none 0 0) (.slice none 0 0) (fI 1) d n a 0/\ku l p w w':=by
 have o:=ae h.blk 0;simp at o;have I:Hid (aA w B l p D N v (.slice none 0 0) (.slice none 0 0) (fI 0) d n a 0):=h;clear h;have K:=Wk
 go_enter func119,ntmps119
 go_wp2_with fail;refine(Ei B p D N n a v d w I.out.bq x).mono ?_;rintro e b ⟨rfl,cG⟩;have i:Fr [] w b:=Fr.aX cG _;have Y:=I.out.new i;have E:=I.out.uT i;have u:=ae Y.blk 0;simp at u;have f:Hid (aA b B l p D N v (.slice none 0 0) (.slice none 0 0) (fI 0) d n a 0/\ku l p w b):=⟨Y,E⟩;clear Y E i cG o;go_wp2_with fail;refine(Aa B p D N n a 0 v d b f.1.bq x C).mono ?_;rintro e c ⟨rfl,cZ⟩;have Q:Fr [] b c:=Fr.aX cZ _;have g:=f.1.new Q;have r:=f.2.trans<|f.1.uT Q;have F:=ae g.blk 4;have J:=aj g.blk 4;simp at F;have H:Hid (aA c B l p D N v (.slice none 0 0) (.slice none 0 0) (fI 0) d n a 0/\ku l p w c):=⟨g,r⟩;clear g r Q cZ u;have⟨W,j⟩:∃W,W=c.setCell ⟨l,4,none⟩ (.int .u64 1):=⟨_,rfl⟩;have z:Fr [l] c W:=by rw[j];exact Fr.cD bR _ _
 have t:W.heap[l]?=some (pC p (.slice none 0 0) (.slice none 0 0)<|fI 1):=by rw[j];have:=ar H.1.blk 4<|.int .u64 1;simp[fI]at this ⊢;exact this
 have hn:=H.1.bq.hn;have q:=H.1.N9 z t H.1.eB H.1.gJ H.1.km (by show 1<=n+1;omega) H.1.mZ rfl rfl;have y:=H.2.trans (H.1.zY q z (λk s _=>by simp at s;simp[s]) (.inl rfl) (bS.refl _ _) (bS.refl _ _)<|bS.refl _ _);have G:=ae q.blk 4;simp[fI]at G;have m:Hid (aA W B l p D N v (.slice none 0 0) (.slice none 0 0) (fI 1) d n a 0/\ku l p w W):=⟨q,y⟩;clear q y z t;subst j;go_wp2_with fail;apply(K_ _).mono;rintro e A ⟨rfl,rfl⟩;go_wp2_with fail;apply(G3 1 _).mono;rintro e A ⟨rfl,rfl⟩;go_wp2_with fail;apply(Eg _).mono;rintro e A ⟨rfl,rfl⟩;go_wp2;apply wp_loop_rounds 1;rw[rounds_succ];go_wp2;go_ret2;exact⟨rfl,m.1,m.2⟩
theorem aA.SS{w w':World}{B h p D N n F G u z:Nat}{H s r j:Value}{l:au}{d c:ah}(a:aA w B h p D N H s r l d n F G)(i:ax w' B p D N j c n u z)(hf:uC p w w'):aA w' B h p D N j s r l c n u z/\ku h p w w':=by
 have y:=(zza.1 a.blk).1
 have t:∀k,k<w.heap.size->(k=h\/s.ownBlock=some k\/r.ownBlock=some k)->¬rA p w k:=λk _ b o=>by
  have:=a.sep k<|(a.bq.l8 k).1 o;obtain e|e|e:=b
  .exact this.1 e
  .exact this.2.1 e
  .exact this.2.2 e
 have C:w'.heap[h]?=some (pC p s r l):=(hf.block h y<|t h y<|.inl rfl).trans a.blk;have I:∀(e:TypeId) (k m:Nat) (v:Value) (xs:List Value),(∀g,v.ownBlock=some g->g=h\/s.ownBlock=some g\/r.ownBlock=some g)->w.ownsRow B e k v m xs->w'.ownsRow B e k v m xs:=λe k m v xs E x=>by
  refine⟨x.1,?_⟩;obtain A|⟨g,cap,cur,rfl,h2,h3,h4⟩:=x.2
  .exact .inl A
  .exact .inr ⟨g,cap,cur,rfl,h2,(hf.block g (zza.1 h3).1<|t g (zza.1 h3).1<|E g rfl).trans h3,h4⟩
 have q:aA w' B h p D N j s r l c n u z:={bq:=i,blk:=C,base:=a.base,segs:=I _ _ _ _ _ (λg f=>.inr<|.inl f) a.segs,recs:=I _ _ _ _ _ (λg f=>.inr<|.inr f) a.recs,eB:=a.eB,gJ:=a.gJ,km:=a.km,iC:=a.iC,mZ:=a.mZ};refine⟨q,hf.os,hf.tape,hf.output,hf.size,λk b hn=>hf.block k b λo=>hn ?_,λk b o=>?_⟩
 .rw[a.own];have:=(a.bq.l8 k).1 o;simp at this;obtain e|e|e|e:=this<;>simp[e]
 .rw[a.own];obtain e|e|e|e|e|e|e:=(q.own k).1 o
  .exact .inl e
  .exact .inr<|.inl e
  .exact .inr<|.inr<|.inl e
  .exact .inr<|.inr<|.inr<|.inl e
  .have:=(a.bq.l8 k).1 (hf.stay k b<|(i.l8 k).2<|by simp[e]);simp at this;obtain e|e|e|e:=this<;>simp[e]
  .exact .inr<|.inr<|.inr<|.inr<|.inr<|.inl e
  .exact .inr<|.inr<|.inr<|.inr<|.inr<|.inr e
theorem Lt(B f p D N n g i b u:Nat)(v s r:Value)(l:au)(d:ah)(w:World)(h:aA w B f p D N v s r l d n g i)(a:w.heap[b]?=some (.cells #[dX p] 167))(c:w.heap[u]?=some (.cells #[.slice none 0 0] 35)):
  Calls prog 122 #[.pointer<|some ⟨b,0,none⟩,.pointer<|some ⟨u,0,none⟩] w (kb B f p D N n [] (l,d.removeAll []) w):=by
 have j:=ae a 0;have c1:=ae c 0;simp at j c1;have I:=af h;clear h a c;go_enter func122,ntmps122;go_wp2_with fail;apply(removeAll_nil B p D N n g i v d w I.out.bq).mono;rintro e k ⟨rfl,⟨j9,lC,lu,j_⟩,bh⟩;have⟨Y,E⟩:=I.out.SS j_ bh;have H:=af<|zzb Y E;clear Y E j_ bh;go_wp2;go_ret;exact⟨rfl,⟨j9,s,r,lC,lu,H.1⟩,H.2.x⟩
def au.opens(l:au)(d:ah):au × ah × Nat :=
 if (l.sync d).2.2=0 then ((l.sync d).1,(l.sync d).2.1.removeAll []) else l.sync d
theorem SU(B a p D N n k m S c u:Nat)(v s r:Value)(l:au)(d:ah)(w:World)(h:aA w B a p D N v s r l d n k m)(hn:n<=67108864)
  (G:w.heap[S]?=some (.cells #[.func (.func 121) #[.pointer<|some ⟨a,0,none⟩] #[],.func (.func 122) #[] #[.pointer<|some ⟨c,0,none⟩,.pointer<|some ⟨u,0,none⟩]] 123)) (i:w.heap[c]?=some (.cells #[dX p] 167)) (j:w.heap[u]?=some (.cells #[.slice none 0 0] 35)) :
  Calls prog 120 #[.slice (some ⟨S,0,none⟩) 2 2] w (kb B a p D N n [] (l.opens d) w):=by
 have z:=ae G 0;simp at z;have I:Hid (aA w B a p D N v s r l d n k m):=h;have y:=h.free G bM bM bM bM bM;have A:=h.free i bM bM bM bM bM;have C:=h.free j bM bM bM bM bM;clear h;go_enter func120,ntmps120;go_wp2;apply wp_loop_rounds 3;rw[rounds_succ];go_wp2_with fail;apply(qW B a p D N n k m v s r l d w I.out hn).mono;rintro e b ⟨rfl,⟨j9,qc,m_,lC,lu,dY⟩,eE⟩;have x:=(eE.block S (zza.1 G).1 y).trans G;have t:=(eE.block c (zza.1 i).1 A).trans i;have Z:=(eE.block u (zza.1 j).1 C).trans j;have F:=ae x 1;simp at F;have f:Hid (aA b B a p D N j9 qc m_ (l.sync d).1 (l.sync d).2.1 n lC lu/\ku a p w b):=⟨dY,eE⟩;have o:Hid (b.heap[c]?=some (.cells #[dX p] 167)/\b.heap[u]?=some (.cells #[.slice none 0 0] 35)):=⟨t,Z⟩;clear dY eE x t Z i j G z;by_cases g:(l.sync d).2.2=0
 .have eo:l.opens d=((l.sync d).1,(l.sync d).2.1.removeAll []):=by unfold au.opens;rw[if_pos g]
  rw[g,bK];go_wp2;rw[rounds_succ];go_wp2_with fail;apply(Lt B a p D N n lC lu c u j9 qc m_ (l.sync d).1 (l.sync d).2.1 b f.1 o.1 o.2).mono;rintro e E ⟨rfl,eh,gH⟩;have H:Hid (kb B a p D N n [] ((l.sync d).1,(l.sync d).2.1.removeAll []) w (.returned<|cf ((l.sync d).2.1.removeAll []).2) E):=⟨rfl,eh,f.2.x.trans gH⟩;clear eh gH;by_cases q:((l.sync d).2.1.removeAll []).2=0
  .rw[q,bK]at H ⊢;go_wp2;rw[rounds_succ];go_wp2;go_ret;rw[eo];exact H.out
  .rw[aG q]at H ⊢;go_wp2;go_ret;rw[eo];exact H.out
 .have eo:l.opens d=l.sync d:=by unfold au.opens;rw[if_neg g]
  have H:Hid (kb B a p D N n [] (l.sync d) w (.returned<|cf (l.sync d).2.2) b):=⟨rfl,⟨j9,qc,m_,lC,lu,f.1⟩,f.2.x⟩;rw[aG g]at H ⊢;go_wp2;go_ret;rw[eo];exact H.out
theorem vR(t:Nat)(w:World)(a:t<18446744073709551616):
  Calls prog 277 #[.int .u64 (t:Int)] w λe w'=>e=.returned (.string (str (be 8 t)))/\Below w.heap.size w w':=by
 have h:=qd w.heap.size (.slice none 0 0) [] t 0 w (zzu _ _ _ _) a (by omega) (zzc _)
 go_enter func277,ntmps277
 go_wp2_with fail;refine h.mono ?_;clear h;rintro e b ⟨v',rfl,ho,hb,_⟩;obtain⟨g,p,rfl⟩:=dZ ho (by omega);have v:=jN b g 0 (0+8) p (be 8 t) (by rw[dH]) (lA (by simpa using ho));clear ho;go_wp2;go_ret;exact⟨rfl,hb⟩
theorem tS(base:Nat)(v:Value)(xs:List Nat)(m:Nat)(s:ByteArray)(w:World)(A:w.ownsRow base 5 1 v m (bs xs))(hs:s.size<256)(t:m<=1048576)(J:base<=w.heap.size):
  Calls prog 235 #[v,.string s] w λe w'=>∃a,e=.returned a/\w'.ownsRow base 5 1 a (m+1+s.size) (bs (xs++[s.size]++bytesOf s))/\Below base w w'/\uU 5 w w':=by
 have g:=Cf base v xs s.size m w A hs (by omega) J;have u:IntKind.u8.wrap (s.size:Int)=(s.size:Int):=by rw[IntKind.wrap_u8];omega
 clear A
 go_enter func235,ntmps235
 go_wp2_with fail;refine g.mono ?_;clear g;rintro e y ⟨v1,rfl,ho,hb,ht⟩;obtain⟨o,j,k,l,n⟩:=info_parts pV;have r:=hb.size;have i:∀q,v1.ownBlock=some q->base<=q:=λq h=>(ho.lt q h).1
 go_wp2_with (first
  |(at_builtin;refine Lib.wpList_append_own_string _ rfl _ _ 88 9 rfl base 5 o underlying88 underlying9 j k l n v1 (m+1) (bs (xs++be 1 s.size)) rfl ho s rfl (by unfold maxLen;omega) (by omega) (by omega) ?_;intro x b H c _)
  |fail)
 have Z:Below base w b:=Below.grown hb c (by omega) i
 have d:be 1 s.size=[s.size]:=by
  unfold be;have:digit 1 s.size 0=s.size:=by unfold digit;simp;omega
  simp[List.range_succ,this]
 have f:Lib.strCells s=bs (bytesOf s):=by
  unfold Lib.strCells bs bytesOf;rw[List.map_map];rfl
 have p:uU 5 w b:=ht.grown c (λq h=>aq ho h);rw[d,f,<-Gk] at H;clear ho c;go_wp2;go_ret;exact⟨_,rfl,H,Z,p⟩
section
open Go.Shelf
variable{B n:Nat}{b t:TypeId}{u v:Value}{W a:World}
def ym(x:ByteArray × aK):List Nat:=[x.2.way]++[x.1.size]++bytesOf x.1++[x.2.val.size]++bytesOf x.2.val
def cF(xs:List (ByteArray × aK)):List Nat:=xs.flatMap ym
def gP(x:ByteArray × aK):Prop:=x.1.size<=16/\x.2.val.size<=32/\x.2.way<256
def cM(e:List { x:ByteArray × aK // gP x }):List Nat:=cF (e.map (·.1))
theorem A6{x:ByteArray×aK}(h:gP x):(ym x).length<=51:=by
 have⟨a,b,_⟩:=h;simp only[ym,zzi,zzr,List.length_nil,dy];omega
theorem vS(e:List {x:ByteArray×aK//gP x})(x:{x:ByteArray×aK//gP x}):cM (e++[x])=cM e++ym x.1:=by simp[cM,cF]
theorem yn:∀(e:List {x:ByteArray×aK//gP x}),(cM e).length<=e.length*51
 |[]=>by simp[cM,cF]
 |x::r=>by
  have h:=A6 x.2;have a:=yn r;simp only[cM,cF,List.map_cons,List.flatMap_cons,zzi,zzr]at *;omega
theorem be1(h:n<256):be 1 n=[n]:=by
 unfold be;have:digit 1 n 0=n:=by unfold digit;simp;omega
 simp[List.range_succ,this]
theorem uZ(h:Boxed W B t v)(hf:uU b W a)(d:t≠b):Boxed a B t v:=
 (hf.block B h.lt λc e=>by rw[show W.heap[B]?=_ from h]at e;exact d<|by simpa using (Obj.cells.inj<|Option.some.inj e).2.1).trans h
theorem xl{c:Array Value}(h:W.heap[B]?=some (.cells c t (0,0)))(hf:uU b W a)(d:t≠b):a.heap[B]?=some (.cells c t (0,0)):=
 (hf.block B (zza.1 h).1 λc' e=>by rw[h]at e;exact d<|by simpa using (Obj.cells.inj<|Option.some.inj e).2.1).trans h
theorem Cg.of{f g d:TypeId}(hb:Below n W a)(hf:uU b W a)(o:Boxed a B d v)(q:f≠b)(s:g≠b)(r:f≠d)(w:g≠d)(hn:n<=B):Cg f g n W (a.setCell ⟨B,0,none⟩ u):=
 ⟨hb.setCell hn u,λk c t j i=>by
  have l:t≠b:=by obtain rfl|rfl:=j<;>assumption
  have m:t≠d:=by obtain rfl|rfl:=j<;>assumption
  have e:=xl i hf l;refine(Below.heap_setCell _ _ _ k λh=>?_).trans<|e.trans i.symm;simp at h;subst h;rw[show a.heap[k]?=_ from o]at e
  exact m (by simpa using (Obj.cells.inj (Option.some.inj e)).2.1.symm)⟩
theorem uU.others{b:World}(h:uU t W b):KeepsOthers W b:=
 ⟨h.size,λk o a d=>(h.block k (zza.1 a).1 λc e=>by rw[a]at e;cases e;cases d).trans a⟩
theorem qj{k:Nat}{o:Obj}(h:W.heap[k]?=some o)(a:k≠B):(W.setCell ⟨B,0,none⟩ u).heap[k]?=some o:=(Below.heap_setCell _ _ _ k λe=>a<|by simpa using e).trans h
theorem Cp{base size:Nat}{e:TypeId}{x:Value}{xs:List Value}(h:W.ownsRow base e size v n xs)(a:Boxed W B t u)(b:t≠e):(W.setCell ⟨B,0,none⟩ x).ownsRow base e size v n xs:=
 h.kept (grownBy_setCell' W B x) (.inr (a.not_row b h).symm)
theorem Er(n:Nat)(hn:8<=n)(t b m:Nat)(L:List (ByteArray × aK))(hm:m<=67108864)(w:World)(hL:aO KS EG w b m L)(ht:t<18446744073709551616)(u9:∀x∈dG L,gP x)(hl:L.length<=16):
  CallsIn Fence.wide n prog 190 #[.int .u64 (t:Int),.map (some b)] w λe w'=>e=.returned (.string (str (be 8 t++cF (dG L))))/\Below w.heap.size w w':=by
 have ab:Fence.wide.round=none:=rfl;have T:1<=n:=bL;have C:=(callsIn_wide (n:=n-1)).2 (qd w.heap.size (.slice none 0 0) [] t 0 w (zzu _ _ _ _) ht bL (zzc _));have bh:Fence.wide.fn 149:=trivial;have aQ:Fence.wide.fn 236:=trivial;have dz:Fence.wide.fn 272:=trivial;have F:=af (zzb hL (zzb u9 hl));clear hL u9 hl;refine callsIn_of_wp_marks func190 rfl trivial ?_ ab;simp only[ntmps190,mB,zzr,mH,Nat.reduceAdd,Nat.reduceSub,mK,mL,nb,nU,n5,qC]
 gi_wp2_with (first
  |(gi_at_call 149;refine C.mono ?_;rintro e a ⟨v1,rfl,eE,cG,_⟩;obtain⟨g,f,rfl⟩:=dZ eE bL)
  |(gi_at_call 236;refine(G0 _ b _).mono ?_;rintro e w2 ⟨rfl,rfl⟩))
 have bO:=Boxed.new a 88 (.slice (some ⟨g,0,none⟩) 8 f);have N:=Boxed.new (a.alloc (.cells #[.slice (some ⟨g,0,none⟩) 8 f] 88)) 262 (.map (some b));rw[zzv] at N;have SJ:=bO.alloc (.cells #[.map (some b)] 262);have M:Below w.heap.size w ((a.alloc (.cells #[.slice (some ⟨g,0,none⟩) 8 f] 88)).alloc (.cells #[.map (some b)] 262)):=(cG.alloc cG.size _).alloc (by have:=cG.size;simp;omega) _;have az:((a.alloc (.cells #[.slice (some ⟨g,0,none⟩) 8 f] 88)).alloc (.cells #[.map (some b)] 262)).heap.size=a.heap.size+2:=bR
 have mY:=cG.size;have aa:=(eE.alloc (.cells #[.slice (some ⟨g,0,none⟩) 8 f] 88)).alloc (.cells #[.map (some b)] 262);obtain⟨r,eF⟩:∃r,((a.alloc (.cells #[.slice (some ⟨g,0,none⟩) 8 f] 88)).alloc (.cells #[.map (some b)] 262))=r:=⟨_,rfl⟩;rw[eF] at N SJ M az aa ⊢;clear eF bO eE C;have Cq:aO KS EG r b m L:=F.1.fr (S:=[]) ⟨M.os,M.tape,M.output,M.size,λk V _=>M.block k V⟩ bR
 refine wpIn_rangeFunc_ownH ab T (gf:=272) (lb:=#[.pointer (some ⟨a.heap.size+1,0,none⟩)]) rfl dz (enters_of func272 dJ rfl)
  (z8 (n-1) bL (a.heap.size+1) b m L gP F.2.1 hm r bL N.cell Cq (Cg 9 134 w.heap.size) (λ_ _=>True) (λ_ _ _ _ _ _=>trivial) (λk A B c t ht V hA _=>⟨V.same k c t ht hA,trivial⟩))
  (λh k=>h.trans k) (Cg.book bL) (zzD _ _) (λ_=>rfl)
  (λp W=>(∃v,Boxed W a.heap.size 88 v/\W.ownsRow w.heap.size 5 1 v (8+(cM p).length) (bs (be 8 t++cM p))/\True)/\Below w.heap.size w W)
  (λ_ _ _=>False)
  (OwnFrom.and (Own.from (holdsRow_own w.heap.size a.heap.size 88 5 1 (λp:List { x:ByteArray × aK // gP x }=>8+(cM p).length) (λp=>bs (be 8 t++cM p)) (λ_ _=>True)) _) (ownFrom_below (zzc _) bL))
  (λ_ _ _ _ _ hs _ _=>hs)
  ⟨⟨_,SJ,by simpa [cM,cF] using aa,trivial⟩,M⟩
  (λx J W=>∃d,a.heap.size<d/\W.heap[d]?=some (.cells #[.int .u8 (x.1.2.way:Int),.string x.1.2.val] 134 (0,0))/\J={ tmps:=#[.int .u64 (t:Int),.map (some b),undef,undef,.string { data:=#[] },.pointer (some ⟨a.heap.size,0,none⟩),.string x.1.1,.pointer (some ⟨d,0,none⟩),.int .u64 (t:Int),.slice (some ⟨g,0,none⟩) 8 f,.map (some b),.func (.func 272) #[] #[.pointer (some ⟨a.heap.size+1,0,none⟩)],.string x.1.1,.agg #[.int .u8 (x.1.2.way:Int),.string x.1.2.val],undef,undef,undef,undef,undef,undef,undef,undef,undef,undef,undef,undef,undef],defers:=[] })
  (λx J _ X aH row hs C hr=>by
   obtain⟨d,T,U,h3⟩:=hs
   exact⟨d,T,(C.block d (zza.1 U).1 (λe=>by obtain⟨_,o,ho,z⟩:=hr d e.symm;rw[U] at ho;cases ho;cases z)).trans U,h3⟩)
  ?assign ?body ?done ?stop
 case assign =>
  have jE:=@Oper.semAt_some;rintro l p x W aE ⟨⟨v,hv,aI,_⟩,nE⟩ hK
  gi_wp2
  exact hK _ _ ((KeepsOthers.alloc _ _).from _) (Cg.alloc _ nE.size _) ⟨⟨v,hv.alloc _,aI.alloc _,trivial⟩,nE.alloc nE.size _⟩ ⟨W.heap.size,hv.lt,World.alloc_heap_new W _,rfl⟩
 case body =>
  have jE:=@Oper.semAt_some;rintro l p x J W eh _ ⟨⟨v,hv,aI,_⟩,hB⟩ ⟨d,hBx,bX,rfl⟩ bU;have z:=hv.cell;have x0:=ay bX 0;have x1:=ay bX 1;simp at x0 x1;have h3:1<=n-1-1:=bL;have Rx:Fence.wide.fn 156:=trivial;have VV:Fence.wide.fn 235:=trivial;have hlen:=yn p;have b0:=F.2.2;obtain⟨z1,z2,z3⟩:=x.2;have c1:=(callsIn_wide (n:=n-1-1-1)).2 (Cf w.heap.size v (be 8 t++cM p) x.1.2.way (8+(cM p).length) W aI z3 bL hB.size)
  gi_wp2_with fail
  refine c1.mono ?_;clear c1;rintro e W1 ⟨v1,rfl,eE,cG,GU⟩;obtain⟨s,D,rfl⟩:=dZ eE bL;have y:=uZ hv GU bM;have aw:=xl bX GU bM;have iX:=y.cell;have bh:=y.frozen;obtain⟨Y,K⟩:∃Y,Y=W1.setCell ⟨a.heap.size,0,none⟩ (.slice (some ⟨s,0,none⟩) (8+(cM p).length+1) D):=⟨_,rfl⟩
  have H:Hid (Boxed Y a.heap.size 88 (.slice (some ⟨s,0,none⟩) (8+(cM p).length+1) D)/\Y.heap[d]?=some (.cells #[.int .u8 (x.1.2.way:Int),.string x.1.2.val] 134 (0,0))/\Y.ownsRow w.heap.size 5 1 (.slice (some ⟨s,0,none⟩) (8+(cM p).length+1) D) (8+(cM p).length+1) (bs (be 8 t++cM p++be 1 x.1.2.way))/\Cg 9 134 w.heap.size W Y/\KeepsOthers W Y):=by
   rw[K];exact⟨y.set _,qj aw bL,Cp eE y bM,Cg.of cG GU y bM bM bM bM bL,GU.others.trans (KeepsOthers.setCell _ _ _)⟩
  have a1:=ay H.2.1 1;simp at a1;have c2:=(callsIn_wide (n:=n-1-1-1)).2 (tS w.heap.size (.slice (some ⟨s,0,none⟩) (8+(cM p).length+1) D) (be 8 t++cM p++be 1 x.1.2.way) (8+(cM p).length+1) x.1.1 Y H.2.2.1 bL bL (zzk hB.size H.2.2.2.1.below.size));clear z x0 x1;rw[K] at a1
  gi_wp2_with fail
  rw[<-K];clear K;refine c2.mono ?_;clear c2;rintro e W2 ⟨v2,rfl,gH,cZ,wJ⟩;obtain⟨u,E,rfl⟩:=dZ gH bL;have j:=uZ H.1 wJ bM;have O:=xl H.2.1 wJ bM;have ef:=j.cell;have aQ:=j.frozen;have al:=ay O 0;have an:=ay O 1;simp at al an;obtain⟨Z,q⟩:∃Z,Z=W2.setCell ⟨a.heap.size,0,none⟩ (.slice (some ⟨u,0,none⟩) (8+(cM p).length+1+1+x.1.1.size) E):=⟨_,rfl⟩
  have I:Hid (Boxed Z a.heap.size 88 (.slice (some ⟨u,0,none⟩) (8+(cM p).length+1+1+x.1.1.size) E)/\Z.heap[d]?=some (.cells #[.int .u8 (x.1.2.way:Int),.string x.1.2.val] 134 (0,0))/\Z.ownsRow w.heap.size 5 1 (.slice (some ⟨u,0,none⟩) (8+(cM p).length+1+1+x.1.1.size) E) (8+(cM p).length+1+1+x.1.1.size) (bs (be 8 t++cM p++be 1 x.1.2.way++[x.1.1.size]++bytesOf x.1.1))/\Cg 9 134 w.heap.size W Z/\KeepsOthers W Z):=by
   rw[q];exact⟨j.set _,qj O bL,Cp gH j bM,H.2.2.2.1.trans (Cg.of cZ wJ j bM bM bM bM bL),H.2.2.2.2.trans (wJ.others.trans (KeepsOthers.setCell _ _ _))⟩
  have a6:=ay I.2.1 1;simp at a6;have c3:=(callsIn_wide (n:=n-1-1-1)).2 (tS w.heap.size (.slice (some ⟨u,0,none⟩) (8+(cM p).length+1+1+x.1.1.size) E) (be 8 t++cM p++be 1 x.1.2.way++[x.1.1.size]++bytesOf x.1.1) (8+(cM p).length+1+1+x.1.1.size) x.1.2.val Z I.2.2.1 bL bL (zzk hB.size I.2.2.2.1.below.size));clear iX bh a1;rw[q] at a6
  gi_wp2_with fail
  rw[<-q];clear q;refine c3.mono ?_;clear c3;rintro e W3 ⟨v3,rfl,pN,ja,UQ⟩;obtain⟨Q,k3,rfl⟩:=dZ pN bL;have i:=uZ I.1 UQ bM;have P:=xl I.2.1 UQ bM;have mQ:=i.cell;have dz:=i.frozen;have ao:=ay P 0;have av:=ay P 1;simp at ao av;obtain⟨R,G⟩:∃R,R=W3.setCell ⟨a.heap.size,0,none⟩ (.slice (some ⟨Q,0,none⟩) (8+(cM p).length+1+1+x.1.1.size+1+x.1.2.val.size) k3):=⟨_,rfl⟩
  have a8:Hid (Boxed R a.heap.size 88 (.slice (some ⟨Q,0,none⟩) (8+(cM p).length+1+1+x.1.1.size+1+x.1.2.val.size) k3)/\R.heap[d]?=some (.cells #[.int .u8 (x.1.2.way:Int),.string x.1.2.val] 134 (0,0))/\R.ownsRow w.heap.size 5 1 (.slice (some ⟨Q,0,none⟩) (8+(cM p).length+1+1+x.1.1.size+1+x.1.2.val.size) k3) (8+(cM p).length+1+1+x.1.1.size+1+x.1.2.val.size) (bs (be 8 t++cM p++be 1 x.1.2.way++[x.1.1.size]++bytesOf x.1.1++[x.1.2.val.size]++bytesOf x.1.2.val))/\Cg 9 134 w.heap.size W R/\KeepsOthers W R):=by
   rw[G];exact⟨i.set _,qj P bL,Cp pN i bM,I.2.2.2.1.trans (Cg.of ja UQ i bM bM bM bM bL),I.2.2.2.2.trans (UQ.others.trans (KeepsOthers.setCell _ _ _))⟩
  have ad:=ay a8.2.1 1;simp at ad;clear ef aQ a6 ad
  gi_wp2
  rw[<-G];clear G;have h:=a8.out
  have e1:be 8 t++cM p++be 1 x.1.2.way++[x.1.1.size]++bytesOf x.1.1++[x.1.2.val.size]++bytesOf x.1.2.val=be 8 t++cM (p++[x]):=by
   rw[vS,be1 z3];simp[ym]
  have e2:8+(cM p).length+1+1+x.1.1.size+1+x.1.2.val.size=8+(cM (p++[x])).length:=by
   rw[vS];simp only[ym,zzi,zzr,List.length_nil,dy];omega
  rw[e1,e2] at h;exact⟨h.2.2.2.2.from _,h.2.2.2.1,⟨_,h.1,h.2.2.1,trivial⟩,hB.trans h.2.2.2.1.below⟩
 case done =>
  rintro a7 ys W hD G5 ⟨⟨v,hv,aI,_⟩,hB⟩ hK;have z:=hv.cell;obtain⟨g5,k5,rfl⟩:=dZ aI bL;have b1:=jN W g5 0 (8+(cM ys).length) k5 (be 8 t++cM ys) (by rw[zzi,dH]) (lA aI)
  gi_wp2
  refine⟨bR,.inl ⟨_,_,rfl,run_takeDeferred hK,?_⟩⟩;have e:cM ys=cF (dG L):=by unfold cM;rw[G5]
  exact⟨_,results_tmp rfl _ _ _,by rw[<-e];rfl,hB.trans (belowK_b (w:=w) (zzc _) W a7 _ _ bL hK rfl rfl)⟩
 case stop =>
  rintro a7 c p W _ _ h _;exact h.elim
theorem tT(t b m:Nat)(L:List<|ByteArray×aK)(a:m<=67108864)(w:World)(h:aO KS EG w b m L)(c:t<18446744073709551616)(u:∀x∈dG L,gP x)(l:L.length<=16):
  Calls prog 190 #[.int .u64 (t:Int),.map<|some b] w λe w'=>e=.returned (.string<|str<|be 8 t++cF (dG L))/\Below w.heap.size w w':=
 (callsIn_wide).1 (Er 8 (zzc _) t b m L a w h c u l)
end
end Go.Proofs.YtcalalndmcemiaaGreatDoor
