import Derived.Test.YtlgeloebpdmnnaaGreatDoorC05
import Derived.RangeFuncNested
import Derived.Sort.MapsRangeIn
import Derived.Test.YtlgeloebpdmnnaaGreatDoorC04
set_option maxHeartbeats 4000000
set_option maxRecDepth 100000
namespace Go.Proofs.YtlgeloebpdmnnaaGreatDoor
open Go.RowKit Go.Maps Tryz Sc
variable{xs:List Value}{B k n:Nat}{e t:TypeId}{v:Value}{F:aG}{a b c w:nL}{nm:nS}
theorem bC(s a b c d e f g i j z q:Nat):lz ⟨s,[a,b,c,d,e,f,g,i,j],z,q⟩=.agg #[.int .i64 (s:Int),.int .u8 (a:Int),.int .u8 (b:Int),.int .u8 (c:Int),.int .u8 (d:Int),.int .u8 (e:Int),.int .u8 (f:Int),.int .u8 (g:Int),.int .u8 (i:Int),.int .u8 (j:Int),.int .u64 (z:Int),bB q]:=rfl
theorem vA(t:fQ)(a:t.Ok)(k:Nat)(h:k<9)(w:nL):
  Calls prog 198 #[lz t,.int .i64 (k:Int)] w λe w'=>e=.returned (.int .u8 ((t.parts.getD k 0:Nat):Int))/\Fr [] w w':=by
 have⟨s,ps,z,q⟩:=t;obtain⟨p,b,c,d,f,g,i,j,l,rfl⟩:=nine a.1;rw[bC];obtain rfl|rfl|rfl|rfl|rfl|rfl|rfl|rfl|rfl:=E8 h
 all_goals
  (go_enter func198,ntmps198
   go_wp2;go_ret;exact⟨rfl,(fU w).alloc _⟩)
theorem sG(t:fQ)(a:t.Ok)(k p:Nat)(h:k<9)(w:nL):
  Calls prog 199 #[lz t,.int .i64 (k:Int),.int .u8 (p:Int)] w λe w'=>e=.returned (lz {t with parts:=t.parts.set k p})/\Fr [] w w':=by
 have⟨s,ps,z,q⟩:=t;obtain⟨b,c,d,f,g,i,j,l,m,rfl⟩:=nine a.1;rw[bC];obtain rfl|rfl|rfl|rfl|rfl|rfl|rfl|rfl|rfl:=E8 h
 all_goals
  (simp only[List.set_cons_zero,List.set_cons_succ,bC]
   go_enter func199,ntmps199;go_wp2;exact zA (by simp[results,results199,go_sem]) rfl ⟨rfl,((fU w).alloc _).alloc _⟩)
theorem ox(v:Nat)(h:v=2\/v=3\/v=4)(w:nL):
  Calls prog 197 #[.int .i64 (v:Int)] w λe w'=>e=.returned (.int .u8 (v:Int))/\w'=w:=by
 obtain rfl|rfl|rfl:=h
 all_goals
  (go_enter func197,ntmps197
   go_wp2;go_ret;exact⟨rfl,rfl⟩)
def uQ(f:Nat)(q:Nat->Bool):Prop:=∀(p:Nat) (w:nL),p<256->Calls prog f #[.int .u8 (p:Int)] w λe w'=>e=.returned (.bool (q p))/\w'=w
def nk(p:Nat):Bool:=p==1
def kE(p:Nat):Bool:=p==2
def zW(p:Nat):Bool:=p==1||p==2
def fG(p:Nat):Bool:=p==2||p==5
theorem E':uQ 181 nk:=by
 intro p w hp;by_cases h:p=1
 .subst h;go_enter func181,ntmps181;go_wp2;go_ret;exact⟨rfl,rfl⟩
 .have i1:¬(p:Int)=1:=dp;have b:=oT.2 i1;have e:nk p=false:=by unfold nk;simpa using h
  rw[e];go_enter func181,ntmps181;go_wp2;go_ret;exact⟨dv,rfl⟩
theorem Am:uQ 182 kE:=by
 intro p w hp;by_cases h:p=2
 .subst h;go_enter func182,ntmps182;go_wp2;go_ret;exact⟨rfl,rfl⟩
 .have i1:¬(p:Int)=2:=dp;have b:=oT.2 i1;have e:kE p=false:=by unfold kE;simpa using h
  rw[e];go_enter func182,ntmps182;go_wp2;go_ret;exact⟨dv,rfl⟩
theorem aaM:uQ 243 zW:=by
 intro p w hp;by_cases h:p=1
 .subst h;go_enter func243,ntmps243;go_wp2;go_ret;exact⟨rfl,rfl⟩
 .have i1:¬(p:Int)=1:=dp;have b:=oT.2 i1;by_cases a:p=2
  .subst a;go_enter func243,ntmps243;go_wp2;go_ret;exact⟨rfl,rfl⟩
  .have i2:¬(p:Int)=2:=dp;have c:=oT.2 i2;have e:zW p=false:=by unfold zW;simp[h,a]
   rw[e];go_enter func243,ntmps243;go_wp2;go_ret;exact⟨dv,rfl⟩
theorem La:uQ 255 fG:=by
 intro p w hp;by_cases h:p=2
 .subst h;go_enter func255,ntmps255;go_wp2;go_ret;exact⟨rfl,rfl⟩
 .have i1:¬(p:Int)=2:=dp;have b:=oT.2 i1;by_cases a:p=5
  .subst a;go_enter func255,ntmps255;go_wp2;go_ret;exact⟨rfl,rfl⟩
  .have i2:¬(p:Int)=5:=dp;have c:=oT.2 i2;have e:fG p=false:=by unfold fG;simp[h,a]
   rw[e];go_enter func255,ntmps255;go_wp2;go_ret;exact⟨dv,rfl⟩
def eI.take(s:eI)(t:Nat)(k:nS)(g:zm):eI:=if (g.writes||!(s.acK t k).writes)=true then { s with holds:=dt s.holds (t,k) g } else s
theorem kc{K V:Type}[DecidableEq K]{l:List (K×V)}{k j:K}{v:V}:bJ (dt l k v) j=if j=k then some v else bJ l j:=by
 by_cases e:j=k
 .grind [bJ,dt]
 .rw[mE e];have h:=js (rem:=l) (k:=k) (j:=j);rw[mE e]at h;rw[<-h];have a:¬k=j:=λx=>e x.symm
  simp[bJ,dt,a]
theorem bj{p:Nat}{c:Array Value}(h:w.heap[p]?=some (.cells c t (0,0)))(i:Nat):w.cell? (hP p i)=c[i]?:=by simp[World.cell?,h]
theorem Bo(h:w.ownsRow B e k v n xs)(hn:0<n):∃g p,v=.slice (some<|gi g) n p:=by
 rcases h.2 with⟨_,a⟩|⟨g,p,r,rfl,_⟩
 .omega
 .grind
theorem DQ(h:w.ownsRow B e k v n xs):∃p c,v=.slice p n c:=by
 rcases h.2 with⟨rfl,rfl⟩|⟨g,c,r,rfl,_⟩<;>grind
theorem tW{a:Nat}(h:w.ownsRow B e k v n xs)(b:a<=B):w.ownsRow a e k v n xs:=by
 refine⟨h.1,?_⟩;obtain c|⟨g,cap,cur,hv,hb,r⟩:=h.2
 .grind
 .exact .inr ⟨g,cap,cur,hv,zzk b hb,r⟩
theorem fV(w:nL)(cs:Array Value)(t:TypeId):∀j u,cs.toList[j]?=some u->(w.alloc<|.cells cs t).cell? (((gi w.heap.size):Addr).add j)=some u:=by
 intro j u a;have hn:(w.alloc<|.cells cs t).heap[w.heap.size]?=some (.cells cs t (0,0)):=Cy w _;have:((⟨nF w,0,none⟩:Addr).add j)=⟨nF w,j,none⟩:=by simp[Addr.add];exact λh=>h.symm
 rw[this,bj hn];simpa using a
def aaU(s:eI)(p:(Nat × nS) × zm):Bool:=!decide ((s.eC p.1.1).state=0)
section
variable{P:Program}{K V:Type}[DecidableEq K]{E:TypeId}{KR:qN P K E}{ER:Bp V}{w w':nL}{b r n:Nat}{l rem:List (K × V)}
theorem Hl:∀{l:List (K×V)} {k:K} {v:V},fM l->(k,v)∈l->l.Perm ((k,v)::dU l k)
 |[],_,_,_,h=>by cases h
 |p::r,k,v,h1,h2=>by
  have⟨a,b⟩:=zzA.1 h1;obtain e|hm:=zzj.1 h2
  .subst e;have:dU ((k,v)::r) k=r:=by
    unfold dU;rw[List.filter_cons_of_neg dv,List.filter_eq_self];intro q c;have:=a q c;simp;exact λe=>this e.symm
   rw[this]
  .have hne:p.1≠k:=λe=>a _ hm e
   have:dU (p::r) k=p::dU r k:=by unfold dU;rw[List.filter_cons_of_pos<|by simp[hne]]
   rw[this];exact((Hl b hm).cons p).trans<|List.Perm.swap _ _ _
theorem gY.walks(h:gY KR ER w b r n l rem)(k:KeepsWalks w w'):gY KR ER w' b r n l rem/\w'.rangeLeft b r=w.rangeLeft b r:=by
 have⟨es,left,t,a,d⟩:=h;have c:=a.of_walks k;exact⟨⟨es,left,t,c,d⟩,by rw[c.left_eq,a.left_eq]⟩
theorem gY.iter(h:gY KR ER w b r n l rem):∃o:Obj,w.heap[r]?=some o/\o.isWalk=true:=by
 have⟨es,left,t,a,c⟩:=h;exact a.iter_walk
theorem gY.once(h:gY KR ER w b r n l rem):fM rem:=by
 have⟨_,_,_,_,_,_,_,a,_⟩:=h;exact a
end
section
variable{F:Fence}{I:Nat}{P:Program}{K V:Type}[DecidableEq K]{E:TypeId}{KR:qN P K E}{ER:Bp V}{w:nL}{ops:Array Oper}{rest:List Oper}{o:Oper}{a:Act}{Q:Exit->Act->nL->Prop}
theorem vu(g:o.guard=none)(m:Operand)(t e:TypeId)(N:o.op=Op.range t m)(j:P.underlying t=some (.map E e))(b n:Nat)(l:List<|K×V)(f:a.eval m=.map (some b))(M:dV KR ER w b n l)
  (c:∀w',gY KR ER w' b w.heap.size n l l->w.grownBy w' none->w'.heap.size=w.heap.size+1->wpListIn F I P ops Q rest (a.put o.dst<|gx w.heap.size) w'):wpListIn F I P ops Q (o::rest) a w:=by
 have⟨es,i,hp,h,Z⟩:=M;apply wpListIn_range_own w g m t N E e KR.law j ER.R b n _ f i;intro w' H q z;exact c w' ⟨es,_,_,H,hp,h,Z,h,λp hp=>hp,λk d=>SI hp Z d⟩ q z
theorem wN(T:o.guard=none)(t:Operand)(X:o.op=Op.next t false)(b r n:Nat)(l rem:List<|K×V)(U:a.eval t=(gx r))(S:gY KR ER w b r n l rem)
  (D:rem=[]->wpListIn F I P ops Q rest (a.put o.dst<|.tuple #[.bool false]) w)
  (G:∀(k:K) (v:V) (w':nL),(k,v)∈rem->gY KR ER w' b r n l (dU rem k)->w'.rangeLeft b r<w.rangeLeft b r->w.grownBy w' (some r)->w'.heap.size=w.heap.size ->
   (Instr.entry (gx r)).run P w'=.ok (.tuple #[KR.kv k,ER.ev v]) w'->wpListIn F I P ops Q rest (a.put o.dst (.tuple #[.bool true,KR.kv k,ER.ev v])) w'):wpListIn F I P ops Q (o::rest) a w:=by
 have⟨es,left,H,m,hp,c,Z,z,f,g⟩:=S;refine wpListIn_next_ranges w T t X E KR.law ER.R id id (λi _ _=>⟨i,rfl⟩) (λv _ _=>⟨v,rfl⟩) b r n _ left H U m ?_ ?_
 .intro _ hl;apply D;cases h:rem with
  |nil=>rfl
  |cons p q=>
   have B:(p.1,p.2)∈rem:=by rw[h];exact List.mem_cons_self
   have:=g p.1 (Z _<|f _ B).1;rw[hl,jR z B]at this;cases this
 .intro i val kl y w' ae6 OQ lJ hv fE acs bW nz hsz CH;have s:=Maps.has_true_of_atKey fE;rw[Maps.has_eq,List.any_eq_true]at s;have⟨p,C,L⟩:=s;obtain⟨q,d,rfl⟩:=zzq.1<|hp.mem_iff.1 C;have⟨k,v⟩:=q;have O:=(Z _ d).1;have W:=(Z _ d).2;have N:KR.kl k=kl:=WideAt.sameKey_eq L;subst N;have M:i=KR.kv k:=KR.law.inj OQ<|KR.key k O;have x:=fE<|ER.el v;rw[Hk hp c Z O<|jR c d]at x;have R:=ER.inv val v y.2 W<|by rw[x];exact hv
  have Y:(k,v)∈rem:=by
   have:=g k O;rw[lJ]at this;cases h:bJ rem k with
   |none=>rw[h]at this;cases this
   |some u=>
    have J:=c.same (f _<|eO h) d rfl;rw[<-J];exact eO h
  subst M R;refine G k v w' Y ⟨es,_,ae6,acs,hp,c,Z,z.del k,λp hp=>f p (zzp.1 hp).1,λj A=>?_⟩ (by rw[acs.left_eq,m.left_eq];exact bW) nz hsz CH;rw[g j A,KR.same A O,js];by_cases e:j=k<;>simp[e]
end
structure DN(t:TypeId)(w w':nL):Prop where
 os:w'.os=w.os
 tape:w'.tape=w.tape
 output:w'.output=w.output
 size:w.heap.size<=w'.heap.size
 block:∀k,k<w.heap.size->(∀c,w.heap[k]?≠some (.cells c t (0,0)))->w'.heap[k]?=w.heap[k]?
theorem DN.refl(t:TypeId)(w:nL):DN t w w:=⟨rfl,rfl,rfl,zzc _,λ_ _ _=>rfl⟩
theorem DN.trans(h:DN t a b)(k:DN t b c):DN t a c:=
 ⟨k.os.trans h.os,k.tape.trans h.tape,k.output.trans h.output,zzk h.size k.size,
  λi d hn=>(k.block i (zzl d h.size) (λc e=>hn c ((h.block i d hn).symm.trans e))).trans (h.block i d hn)⟩
theorem DN.alloc(h:DN t a w)(o:Obj):DN t a (w.alloc o):=
 ⟨h.os,h.tape,h.output,zzk h.size dv,λk b hn=>(zzf w o k<|zzl b h.size).trans<|h.block k b hn⟩
theorem DN.grown{r:Option Nat}(h:DN t a b)(g:b.grownBy c r)(f:∀q,r=some q->∃x,b.heap[q]?=some (.cells x t (0,0))):DN t a c:=
 h.trans ⟨g.os,g.tape,g.output,g.size,λk d hn=>g.block k d λe=>by have⟨x,hx⟩:=f k e.symm;exact hn x hx⟩
theorem Bm(base:Nat)(v:Value)(xs:List Nat)(n m:Nat)(w:nL)(M:w.ownsRow base 5 1 v m<|bs xs)(hn:n<2^64)(y:m<=4398046511103)(B:base<=w.heap.size):
  Calls prog 220 #[v,.int .u64 n] w λe w'=>∃a,e=.returned a/\w'.ownsRow base 5 1 a (m+8) (bs<|xs++be 8 n)/\Below base w w'/\DN 5 w w':=by
 have⟨o,d,g,k,l⟩:=tO zd;have N:=ah hn;clear hn;go_enter func220,ntmps220;go_wp2_with (go_at_call 272;apply(tL _).mono;rintro e w' ⟨rfl,hw⟩;have I:=hw.symm;subst I;clear hw);go_loopw [0,5] (λv i wr=>∃j:Nat,j<=8/\i=.int .i64 ((8:Int)-1-j)/\wr.ownsRow base 5 1 v (m+j) (bs<|xs++(List.range j).map (digit 8 n))/\Below base w wr/\DN 5 w wr) (λ_ i _=>(intOf i+1).toNat);.exact⟨0,zzs _,eR,by simpa using M,zzD _ _,DN.refl _ _⟩
 .obtain⟨j,s,rfl,W,x,f⟩:=hrel;by_cases r:j<8
  .have HD:=ah<|tJ n 8 j
   go_wp2_with (at_builtin;apply wpList_append_own _ rfl _ _ 217 rfl base 5 o (.int .u8 0) 1 1 underlying217 d g k l rfl du _ _ _ rfl (W.alloc _) ⟨nF wr,0,none⟩ 1 1 [.int .u8<|(n:Int)/2^(8*(7-j))%256] rfl rfl ?c1 ?c2 ?c3 ?c4 ?c5);case c1=>
    intro p u K;match p,K with
    |0,K=>simp at K;subst K;simp[Addr.add]
   case c2=>intro u b;simp at b;subst b;rfl
   case c3=>unfold maxLen;omega
   case c4=>omega
   case c5=>have:=x.size;simp;omega
   .intro a w1 bF bK _;have T:=x.size;have t:=Below.grown (x.alloc dp _) bK ef λq h=>(W.lt q h).1;have c:=(f.alloc _).grown bK λq h=>aL (W.alloc _) h
    have R:w1.ownsRow base 5 1 a (m+(j+1)) (bs<|xs++(List.range<|j+1).map (digit 8 n)):=by
     rw[HD.out]at bF;rw[tK,<-Nat.add_assoc];exact bF
    clear bF bK W x f;go_wp2;go_roundw;.exact⟨j+1,dp,int_eq dp,R,t,c⟩
    .simp[intOf]<;>omega
  .have ek:j=8:=dp;subst ek;go_wp2;go_ret;exact⟨_,rfl,W,x,f⟩
theorem Xk(base:Nat)(v:Value)(xs:List Nat)(n m:Nat)(w:nL)(M:w.ownsRow base 5 1 v m<|bs xs)(hn:n<256)(y:m<=4398046511103)(B:base<=w.heap.size):
  Calls prog 221 #[v,.int .u8 n] w λe w'=>∃a,e=.returned a/\w'.ownsRow base 5 1 a (m+1) (bs<|xs++be 1 n)/\Below base w w'/\DN 5 w w':=by
 have⟨o,d,g,k,l⟩:=tO zd;have N:=ah hn;go_enter func221,ntmps221;go_wp2_with (go_at_call 273;apply(wJ _).mono;rintro e w' ⟨rfl,hw⟩;have I:=hw.symm;subst I;clear hw);go_loopw [0,5] (λv i wr=>∃j:Nat,j<=1/\i=.int .i64 ((1:Int)-1-j)/\wr.ownsRow base 5 1 v (m+j) (bs<|xs++(List.range j).map (digit 1 n))/\Below base w wr/\DN 5 w wr) (λ_ i _=>(intOf i+1).toNat);.exact⟨0,zzs _,eR,by simpa using M,zzD _ _,DN.refl _ _⟩
 .obtain⟨j,s,rfl,W,x,f⟩:=hrel;by_cases r:j<1
  .have HD:Hid ((n:Int)=((digit 1 n 0:Nat):Int)):=by show _=_;unfold digit;simp;omega
   obtain rfl:j=0:=dp;rw[Nat.add_zero]at W;go_wp2_with (at_builtin;apply wpList_append_own _ rfl _ _ 217 rfl base 5 o (.int .u8 0) 1 1 underlying217 d g k l rfl du _ _ _ rfl (W.alloc _) ⟨nF wr,0,none⟩ 1 1 [.int .u8 (n:Int)] rfl rfl ?c1 ?c2 ?c3 ?c4 ?c5);case c1=>
    intro p u K;match p,K with
    |0,K=>simp at K;subst K;simp[Addr.add]
   case c2=>intro u b;simp at b;subst b;rfl
   case c3=>unfold maxLen;omega
   case c4=>omega
   case c5=>have:=x.size;simp;omega
   .intro a w1 bF bK _;have T:=x.size;have t:=Below.grown (x.alloc dp _) bK ef λq h=>(W.lt q h).1;have c:=(f.alloc _).grown bK λq h=>aL (W.alloc _) h
    have R:w1.ownsRow base 5 1 a (m+(0+1)) (bs<|xs++(List.range<|0+1).map (digit 1 n)):=by
     rw[HD.out]at bF;rw[tK,<-Nat.add_assoc];simpa using bF
    clear bF bK W x f;go_wp2;go_roundw;.exact⟨0+1,dp,int_eq dp,R,t,c⟩
    .simp[intOf]<;>omega
  .have ek:j=1:=dp;subst ek;go_wp2;go_ret;exact⟨_,rfl,W,x,f⟩
def aj.up(d:aj):aj:={ d with now:=d.ak,pending:=[],down:=false }
theorem Tl(B p b n f:Nat)(pv nv:Value)(d:aj)(w:nL)(h:w.heap[p]?=some (.cells #[.map<|some b,nv,pv,.int .i64 d.left,.int .i64 d.full,.bool d.down] 65))(J:B<=p/\B<=b/\B<=w.heap.size)(S:FileMap w b f d.ak)(hn:f<=n)(DB:n<=1000000000)(Y:d.ak.Le<|f*4096):
  Calls prog 26 #[gx p] w λe w'=>e=.returned (.tuple #[])/\aC w' B p b w.heap.size (.slice none 0 0) d.up n f f/\Fr [p] w w':=by
 have Gx:=@run_makeMap prog;have c0:=af h 0;have c1:=af h 1;have c2:=af h 2;have c5:=af h 5;have f1:=aq h 1;have f2:=aq h 2;have f5:=aq h 5;simp at c0 c1 c2 c5;have L:p<w.heap.size:=(zza.1 h).1;have lD:=S.lt;have ad:b≠p:=S.cT h;obtain⟨D,M,r⟩:=S;have H5:=ah r;clear r;have an:=M.size_le;have R:=ah h;clear h;have ae:(w.alloc<|.map #[] 0).cell? ⟨p,1,none⟩=some nv:=(zze (a:=⟨p,1,none⟩)<|zzf w _ p L).trans c1;have ag:(w.alloc<|.map #[] 0).frozen? ⟨p,1,none⟩=false:=(zzw (a:=⟨p,1,none⟩)<|zzf w _ p L).trans f1;have⟨g,P⟩:∃g,g=(w.setCell ⟨p,1,none⟩<|.map<|some w.heap.size).alloc (.map #[] 0):=⟨_,rfl⟩;have Z:(w.setCell ⟨p,1,none⟩<|.map<|some w.heap.size).heap.size=w.heap.size:=dv
 have T:g.heap[p]?=some (.cells #[.map<|some b,.map<|some w.heap.size,pv,.int .i64 d.left,.int .i64 d.full,.bool d.down] 65):=by
  have:=aF R.out 1<|.map<|some w.heap.size;rw[P,zzf _ _ p<|by rw[Z];exact L];simpa using this
 have yi:Fr [p] w g:=by rw[P];exact((Fr.refl [p] w).setCell (Or.inl dv) _).alloc _
 have dT:g.heap.size=w.heap.size+1:=by rw[P];simp
 have a8:g.ownsMap prog 9 di b f D:=by rw[P];exact(M.setCell ad _).alloc _
 have a':g.ownsMap prog 9 di w.heap.size 0 (.map []):=by
  have:=World.ownsMap_made (w.setCell ⟨p,1,none⟩<|.map<|some w.heap.size) prog 9 di;rw[Z]at this;rw[P];exact this
 have d0:=af T 0;simp at d0;go_enter func26,ntmps26;go_wp2_with (first
  |(at_range;rw[<-P];apply wpList_range_own _ rfl _ 62 rfl 9 135 xU underlying62 di b f D rfl a8;intro w0 U O ni)
  |go_in)
 go_frame;clear P;have qz:=ah T;clear T;rw[dT]at U ni ⊢;go_loopw [2] (λ_ wr=>∃(left:Lit->Bool) (u:Nat) (I:DataW Unit),wr.ranges prog 9 di b (w.heap.size+1) f D left u/\u<=Maps.size D /\
   wr.ownsMap prog 9 di w.heap.size (Maps.size D-u) I/\Agree I D left/\Fr [w.heap.size,w.heap.size+1] g wr)
  (λ_ wr=>wr.rangeLeft b<|w.heap.size+1)
 .exact⟨_,_,.map [],U,zzc _,(a'.kept O dv).mono<|zzs _,agree_start D,(Fr.cA O).mono dv⟩
 .have⟨left,u,I,E,al,s,X,C⟩:=hrel;have Q:=ah C;have ao:=C.size;have l:=(C.block p dp ef).trans qz.out;have a7:=ah l;have r1:=af l 1;have r2:=af l 2;have r5:=af l 5;have q2:=aq l 2;have q5:=aq l 5;simp at r1 r2 r5;clear C l;go_wp2_with (first
   |(at_next;refine wpList_next_ranges _ rfl _ rfl 9 xU di encStr Value.pointer (λav kl i=>by have⟨x,hx,_⟩:=Maps.keyOf_str underlying9 i;exact⟨x,hx⟩) (λv y K=>uK K) b (w.heap.size+1) f _ _ _ rfl E ?_ ?_)
   |go_in)
  .intro lx wU;go_wp2;go_end0;subst lx;have hD:=agree_end X wU (s.canon xU)<|M.canon xU;subst hD;have⟨W,G⟩:∃W,W=(wr.setCell ⟨p,2,none⟩<|.slice none 0 0).setCell ⟨p,5,none⟩ (.bool false):=⟨_,rfl⟩;rw[<-G];have F:Fr [p] wr W:=by rw[G];exact(Fr.cG dv _ _).trans<|Fr.cG dv _ _
   have N:=(yi.andThen Q.out<|by intro j hj hl;simp at hj;omega).trans F;have dy:W.heap[p]?=some (lH b w.heap.size (.slice none 0 0) d.left d.full false):=by
    have:=aF (aF a7.out 2<|.slice none 0 0) 5<|.bool false;rw[G];simpa using this
   have CK:∀(q:Nat) (t:nS),w.heap[q]?=some (gN t)->W.heap[q]?=some (gN t):=λq t A=>by
    rw[N.block q (zza.1 A).1<|by simp;intro e;subst e;rw[R.out]at A;cases A];exact A
   have gq:W.ownsMap prog 9 di b f I:=by
    have⟨es,c,m,o⟩:=E.owns;exact⟨es,c,(F.block b dp ef).trans m,o⟩
   have ik:W.ownsMap prog 9 di w.heap.size f I:=by
    obtain⟨es,c,m,o⟩:=s.mono (n':=f) dp;exact⟨es,c,(F.block w.heap.size dp ef).trans m,o⟩
   have r:∀k:nS,(d.ak k=none->Maps.has I (jh k)=false)/\(∀t,d.ak k=some t->Maps.has I (jh k)=true/\k.size<=maxLen/\∃q:Nat,(∀z,I.atKey (jh k) z=.lit (.int .i64 (q:Int)))/\W.heap[q]?=some (gN t)):=λk=>by
    have⟨m,o⟩:=H5.out k;refine⟨m,λt ht=>?_⟩;have⟨b1,b2,q,b3,b4⟩:=o t ht;exact⟨b1,b2,q,b3,CK q t b4⟩
   refine⟨rfl,?_,N⟩;exact {blk:=dy,base:=⟨J.1,J.2.1,J.2.2,by have:=N.size;omega⟩,ne:=dp,lB:=⟨_,gq,r⟩,now:=⟨_,ik,r⟩,pen:=zzu _ _ _ _,hD:=by simpa [aj.up]using hn,hN:=hn,hn:=DB,Ou:=Y,Ov:=Y,ops:=by simp[aj.up]}
  .intro x c kl yd yp w2 Pt OQ lJ K fE Ho bW fT eP CH;obtain⟨x',ex,rfl,C6⟩:=Maps.keyOf_str underlying9 OQ;obtain rfl:x=x':=encStr_inj ex;have aa:=s.kept fT dv;have s1:=(ot fT ef ef).trans r1;clear eP;go_wp2_with (first
    |(at_mapUpdate;refine wpList_mapUpdate_own _ rfl _ _ _ 62 rfl 9 135 xU underlying62 di w.heap.size _ _ rfl aa eE _ _ _ rfl rfl OQ _ _ K ?_;intro w3 ab pL;go_frame)
    |go_in)
   have V:=Ho.kept pL (λe=>by have:=Option.some.inj e;omega) λe=>by have:=Option.some.inj e;omega
   go_roundw;.exact⟨_,Pt,_,V,dp,ab.mono dp,agree_step X s.isMap trivial fE,(Q.out.trans<|(Fr.bI fT).mono<|by intro k _ i;simp at i;simp[i]).trans<|(Fr.bI pL).mono<|by intro k _ i;simp at i;simp[i]⟩
   .rw[V.left_eq,E.left_eq];exact bW
def aj.read(d:aj)(nm:nS):Option nS × Nat :=
 if d.down=true then (none,10) else match d.now nm with|none=>(none,8)|some t=>(some t,0)
def Got(t:Option nS)(v:Value)(w':nL):Prop :=
 match t with
 |none=>v=.slice none 0 0
 |some t=>Src w' v (bytesOf t)
def SR(d:aj)(nm:nS)(w:nL)(e:Ending)(w':nL):Prop :=
 ∃v,e=.returned (.tuple #[v,bB (d.read nm).2])/\Got (d.read nm).1 v w'/\Below w.heap.size w w'
theorem wO(B p f N n g i:Nat)(pv:Value)(d:aj)(nm:nS)(w:nL)(h:aC w B p f N pv d n g i)(E:nm.size<=maxLen):
  Calls prog 411 #[gx p,.string nm] w (SR d nm w):=by
 have j:=af h.blk 1;have b:=af h.blk 5;simp at j b;have I:=ah h;clear h;cases a:d.down with
 |true=>
  rw[a]at b;have D:=ah a;clear a;go_enter func411,ntmps411;go_wp2;go_ret2;have e:d.read nm=(none,10):=by unfold aj.read;rw[oo D.out]
  refine⟨.slice none 0 0,by rw[e];rfl,by rw[e];rfl,zzD _ _⟩
 |false=>
  rw[a]at b;have D:=ah a;clear a;rcases I.out.now.look nm E with⟨hN,l⟩|⟨t,q,hN,c,l⟩
  .have HN:=ah hN;clear hN;go_enter func411,ntmps411;go_wp2;go_ret2;have e:d.read nm=(none,8):=by unfold aj.read;rw[mE<|by rw[D.out];decide,HN.out]
   refine⟨.slice none 0 0,by rw[e];rfl,by rw[e];rfl,zzD _ _⟩
  .have HN:=ah hN;have r:=Dz c;have z:t.size<=maxLen:=by
    have k:=I.out.Ov nm t hN;have m:=I.out.hN;have o:=I.out.hn;unfold maxLen;omega
   have s:=DH w t;clear hN c;go_enter func411,ntmps411;go_wp2;go_ret2;have e:d.read nm=(some t,0):=by unfold aj.read;rw[mE<|by rw[D.out];decide,HN.out]
   refine⟨_,by rw[e];rfl,by rw[e];exact WR w t z,?_⟩;exact(zzD _ _).drew.alloc (zzc _) _
def eI.release(s:eI):eI:={ s with holds:=s.holds.filter (aaU s) }
abbrev ll:=nS->Bool
def ll.set(c:ll)(k:nS):ll:=λx=>if x=k then true else c x
def bS(b torn:Bool)(q:Nat)(o:km)(s:ll × aG):ll × aG :=
 if b=false then (if o.kind=2 then s.1.set o.name else s.1,s.2)
 else if o.kind=2/\s.1 o.name=true then s
 else if torn=true/\o.kind<3 then (s.1.set o.name,dD s.2 { o with data:=o.data.extract 0 q })
 else (s.1,dD s.2 o)
def jw(b:Nat->Bool)(torn q:Nat):Nat->List km->ll × aG->ll × aG
 |_,[],s=>s
 |i,o :: os,s=>jw b torn q (i+1) os (bS (b i) (decide (i=torn)) q o s)
theorem sX(b:Nat->Bool)(torn q:Nat):∀(os:List km) (i:Nat) (o:km) (s:ll×aG),
  jw b torn q i (os++[o]) s=bS (b<|i+os.length) (decide<|i+os.length=torn) q o (jw b torn q i os s)
 |[],i,o,s=>by simp[jw]
 |x::os,i,o,s=>by
  rw[List.cons_append];show jw b torn q (i+1) (os++[o]) _=_;rw[sX b torn q os (i+1) o];simp only[zzr];rw[show i+1+os.length=i+(os.length+1) by omega];rfl
def Left(F:aG)(ops:List km)(a:aG):Prop:=∃b torn q,a=(jw b torn q 0 ops (λ_=>false,F)).2
theorem BN{a:aG}(h:Left F [] a):a=F:=by
 obtain⟨b,t,q,rfl⟩:=h;rfl
theorem aG.ext{m m':aG}(h:∀k,m k=m' k):m=m':=funext h
def lX(nm x:nS):km:=⟨2,nm,gW,x⟩
def pj:List nS->nS
 |[]=>gW
 |x :: l=>x++pj l
theorem vN:∀(l:List nS) (x:nS),pj (l++[x])=pj l++x
 |[],x=>by simp[pj]
 |y::l,x=>by
  rw[List.cons_append];show y++pj (l++[x])=(y++pj l)++x;rw[vN l x,ByteArray.append_assoc]
def aG.plus(F:aG)(nm y:nS):aG:=F.set nm (some ((F nm).getD gW++y))
theorem qg(F:aG)(nm x y:nS):(F.plus nm x).plus nm y=F.plus nm (x++y):=by
 apply aG.ext;intro k;unfold aG.plus;by_cases h:k=nm
 .subst h;simp[aG.f_,ByteArray.append_assoc]
 .grind [aG.cU]
theorem qh(F:aG)(nm x:nS):dD F (lX nm x)=F.plus nm x:=rfl
def Ua(F:aG)(nm:nS)(xs:List nS)(i:Nat)(s:ll × aG):Prop :=
 (s.1 nm=false/\(i=0/\s.2=F\/0<i/\s.2=F.plus nm (pj (xs.take i)))) \/
 (s.1 nm=true/\(s.2=F\/∃k y z,xs[k]?=some z/\(∃q,y=z.extract 0 q)/\s.2=F.plus nm (pj (xs.take k)++y)))
theorem Ub{xs:List nS}{i:Nat}{s:ll×aG}{x:nS}(hx:xs[i]?=some x)(h:Ua F nm xs i s)(b t:Bool)(q:Nat):Ua F nm xs (i+1) (bS b t q (lX nm x) s):=by
 have Y:xs.take (i+1)=xs.take i++[x]:=by rw[vV,hx];rfl
 unfold bS;by_cases hb:b=false
 .rw[oo hb];right;refine⟨by simp[lX,ll.set],?_⟩;rcases h with⟨_,h⟩|⟨_,h⟩
  .rcases h with⟨_,h⟩|⟨f,h⟩
   .grind
   .right;obtain⟨j,rfl⟩:∃j,i=j+1:=⟨i-1,dp⟩;have⟨z,d⟩:∃z,xs[j]?=some z:=⟨_,zzg<|by have:=(zzd.1 hx).1;omega⟩;refine⟨j,z,z,d,⟨z.size,dv⟩,?_⟩;rw[<-vN];have:xs.take (j+1)=xs.take j++[z]:=by rw[vV,d];rfl
    rw[<-this];exact h
  .exact h
 .rw[mE hb];rcases h with⟨c,h⟩|⟨c,h⟩
  .rw[mE<|by intro e;have:=e.2;simp only[lX]at this;rw[c]at this;cases this];by_cases a:t=true
   .rw[oo ⟨a,by simp[lX]⟩];right;refine⟨by simp[lX,ll.set],.inr ⟨i,x.extract 0 q,x,hx,⟨q,rfl⟩,?_⟩⟩;show dD s.2 (lX nm<|x.extract 0 q)=_;rw[qh];rcases h with⟨rfl,h⟩|⟨_,h⟩
    .rw[h];simp[pj]
    .rw[h,qg]
   .rw[mE<|by intro e;exact a e.1];left;refine⟨c,.inr ⟨dp,?_⟩⟩;show dD s.2 (lX nm x)=_;rw[qh,Y,vN];rcases h with⟨rfl,h⟩|⟨_,h⟩
    .rw[h];simp[pj]
    .rw[h,qg]
  .rw[oo ⟨by simp[lX],c⟩];exact .inr ⟨c,h⟩
theorem NF(xs:List nS)(b:Nat->Bool)(torn q:Nat):∀i,i<=xs.length->Ua F nm xs i (jw b torn q 0 ((xs.take i).map (lX nm)) (λ_=>false,F))
 |0,_=>.inl ⟨rfl,.inl ⟨rfl,rfl⟩⟩
 |i+1,hi=>by
  obtain⟨x,hx⟩:∃x,xs[i]?=some x:=⟨_,zzg dp⟩;have Y:xs.take (i+1)=xs.take i++[x]:=by rw[vV,hx];rfl
  rw[Y,BB,List.map_cons,List.map_nil,sX];exact Ub hx (NF xs b torn q i dp) _ _ _
theorem P0{a:aG}{xs:List nS}(h:Left F (xs.map<|lX nm) a):
  a=F\/(∃k,k<=xs.length/\0<k/\a=F.plus nm (pj<|xs.take k))\/∃k z q,xs[k]?=some z/\a=F.plus nm (pj (xs.take k)++z.extract 0 q):=by
 obtain⟨b,t,q,rfl⟩:=h;have:=NF (F:=F) (nm:=nm) xs b t q xs.length<|zzc _;rw[List.take_length]at this;rcases this with⟨_,h⟩|⟨_,h⟩<;>grind
def dc(nm:nS):km:=⟨3,nm,gW,gW⟩
theorem yz:∀(ns:List nS) {F:aG} {b:Nat->Bool} {torn q i:Nat} {c:ll},∃s:List nS,(∀m∈s,m∈ns)/\∀k,(k∈s->(jw b torn q i (ns.map dc) (c,F)).2 k=none)/\(k∉s->(jw b torn q i (ns.map dc) (c,F)).2 k=F k)
 |[],F,b,torn,q,i,c=>⟨[],dv,λk=>⟨dv,λ_=>rfl⟩⟩
 |n::ns,F,b,torn,q,i,c=>by
  have e:jw b torn q i ((n::ns).map dc) (c,F)=jw b torn q (i+1) (ns.map dc) (bS (b i) (decide<|i=torn) q (dc n) (c,F)):=rfl;rw[e];unfold bS;by_cases hb:b i=false
  .rw[oo hb];obtain⟨s,f,a⟩:=yz ns (c:=if (dc n).kind=2 then ll.set c (dc n).name else c);exact⟨s,λm d=>Ds _<|f m d,a⟩
  .rw[mE hb,mE<|by simp[dc],mE<|by simp[dc]];obtain⟨s,f,a⟩:=yz ns (c:=c);refine⟨n::s,λm d=>?_,λk=>⟨λh=>?_,λh=>?_⟩⟩
   .rcases zzj.1 d with e|d
    .simp[e]
    .exact Ds _<|f m d
   .by_cases g:k∈s
    .exact(a k).1 g
    .rcases zzj.1 h with e|h
     .refine((a k).2 g).trans ?_;show(F.set n none) k=none;rw[e,aG.f_]
     .exact absurd h g
   .simp only[zzj,not_or]at h;apply((a k).2 h.2).trans;show(F.set n none) k=F k;rw[aG.cU _ _ h.1]
theorem IM{a:aG}{o:km}(h:Left F [o] a)(k:o.kind≠2):a=F\/a=dD F o\/o.kind=1/\∃q,a=dD F {o with data:=o.data.extract 0 q}:=by
 obtain⟨b,t,q,rfl⟩:=h;have e:jw b t q 0 [o] (λ_=>false,F)=bS (b 0) (decide<|0=t) q o (λ_=>false,F):=rfl;rw[e];unfold bS;by_cases hb:b 0=false
 .grind
 .grind [dD]
def acP(s:eI)(x:Xq):Bool:=!decide (x.state=3)&&decide ((16:Int)<=IntKind.u64.wrap ((s.bw:Int)-(x.last:Int)))
def acQ(s:eI)(p:Nat × Xq):Bool:=!acP s p.2
def eI.tick(s:eI):eI :=
 let s1:eI:={ s with bw:=s.bw+1 }
 eI.release { s1 with aD:=s1.aD.filter (acQ s1) }
end Go.Proofs.YtlgeloebpdmnnaaGreatDoor
