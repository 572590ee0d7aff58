import Derived.Test.YtlgeloebpdmnnaaGreatDoorC09
import Derived.Shelf.SlIter.Nil
set_option maxHeartbeats 2000000
set_option maxRecDepth 100000
namespace Go.Proofs.YtlgeloebpdmnnaaGreatDoor
open Go.RowKit Go.Maps Tryz Sc
variable{b n:Nat}{c m:ll}{w w':nL}
theorem Ay{x:Int}{r:Nat}(h:x=(r:Int)):(Ending.returned<|.int .i64 x)=.returned (.int .i64 (r:Int)):=by rw[h]
theorem Eb(c:Int)(n:Nat)(w:nL)(kn:-2^63<=c)(iy:c<=9223372036854775807)(hn:0<n)(B:n<=4398046511103):
  Calls prog 146 #[.int .i64 c,.int .i64 n] w λe w'=>∃r:Nat,r<n/\e=.returned (.int .i64 r)/\w'=w:=by
 have a:¬(n:Int)=0:=dp;by_cases h:c<0
 .go_enter func146,ntmps146;go_wp2;go_ret;have e:-(c+1).tmod (n:Int)=(-(c+1))%(n:Int):=by
   rw[<-Int.neg_tmod,Int.tmod_eq_emod_of_nonneg dp]
  have b:=Int.emod_nonneg (-(c+1)) a;have d:=Int.emod_lt_of_pos (-(c+1)) (show(0:Int)<n by omega);refine⟨((-(c+1))%(n:Int)).toNat,dp,Ay ?_,rfl⟩;rw[e];omega
 .go_enter func146,ntmps146;go_wp2;go_ret;have b:=Int.emod_nonneg c a;have d:=Int.emod_lt_of_pos c (show(0:Int)<n by omega);exact⟨(c%(n:Int)).toNat,dp,Ay dp,rfl⟩
def q_(v:Value):Option (DataW Unit × List MemPlace) :=
 match v with
 |.int k n=>some (.lit (.int k n),[])
 |_=>none
theorem zx{v:Value}{k:IntKind}{n:Int}{ps:List MemPlace}(h:q_ v=some (.lit<|.int k n,ps)):v=.int k n:=by
 unfold q_ at h;split at h
 .grind
 .cases h
theorem Yj(w:nL):(zeroValue 3).run prog w=.ok (.int .i64 0) w:=eu
def gB(w:nL)(b n:Nat)(c:ll):Prop :=
 ∃D:DataW Unit,w.ownsMap prog 9 q_ b n D/\∀k:nS,
  (c k=false->Maps.has D (jh k)=false)/\(c k=true->Maps.has D (jh k)=true/\∀z,D.atKey (jh k) z=.lit (.int .i64 1))
theorem gB.lt(h:gB w b n c):b<w.heap.size:=by
 have⟨D,h,_⟩:=h;exact h.lt
theorem gB.isMap(h:gB w b n m):∃es c,w.heap[b]?=some (.map es c):=by
 have⟨D,⟨es,c,h,_⟩,_⟩:=h;exact⟨es,c,h⟩
theorem gB.mono{n':Nat}(h:gB w b n m)(hn:n<=n'):gB w b n' m:=by
 have⟨D,h,a⟩:=h;exact⟨D,h.mono hn,a⟩
theorem gB.blk(h:gB w b n m)(hb:w'.heap[b]?=w.heap[b]?):gB w' b n m:=by
 have⟨D,⟨es,c,a,d,e,f⟩,g⟩:=h;exact⟨D,⟨es,c,hb.trans a,d,e,f⟩,g⟩
theorem gB.made(w:nL):gB (w.alloc<|.map #[] 0) w.heap.size 0 (λ_=>false):=
 ⟨.map [],World.ownsMap_made _ _ _ _,λk=>⟨λ_=>rfl,λh=>by cases h⟩⟩
theorem gB.look(h:gB w b n c)(k:nS)(j:k.size<=maxLen):
  (Instr.lookup 198 (.map<|some b) (.string k) false).run prog w=.ok (.int .i64<|if c k=true then 1 else 0) w:=by
 have⟨D,f,g⟩:=h;have⟨v,ps,r,a⟩:=f.lookup xU underlying198 (Yj w) (show q_ (.int .i64 0)=some (.lit<|.int .i64 0,[])from rfl)<|Go.WideMaps.keyOf_string_mk underlying9 j
 cases i:c k with
 |false=>
  have d:=(g k).1 i;have e:=d;rw[Maps.atKey_of_not_has e]at a;obtain rfl:=zx a;simpa using r
 |true=>grind[zx]
theorem gB.put{D:DataW Unit}(c:∀k:nS,(m k=false->Maps.has D (jh k)=false)/\(m k=true->Maps.has D (jh k)=true/\∀z,D.atKey (jh k) z=.lit (.int .i64 1)))
  (g:w.ownsMap prog 9 q_ b n D) (k:nS)
  (j:w'.ownsMap prog 9 q_ b (n+1)<|D.put (jh k)<|.lit<|.int .i64 1):gB w' b (n+1) (m.set k):=by
 have i:=g.isMap;have o:WideAt.IsKeyLit (jh k):=trivial;refine⟨_,j,λx=>?_⟩;by_cases hx:x=k
 .subst hx;have e:m.set x x=true:=by simp[ll.set]
  rw[e];exact⟨λh=>(by cases h),λ_=>⟨Maps.has_put_same i o _,λz=>Maps.atKey_put_same i o _ z⟩⟩
 .have e:m.set k x=m x:=by simp[ll.set,hx]
  rw[e];have a:jh x≠jh k:=λe=>hx<|AX e
  refine⟨λh=>by rw[Maps.has_put_other a];exact(c x).1 h,λh=>?_⟩;have⟨d,f⟩:=(c x).2 h;exact⟨by rw[Maps.has_put_other a];exact d,λz=>by rw[Maps.atKey_put_other a];exact f z⟩
theorem sZ{ops:Array Oper}{rest:List Oper}{o:Oper}{a:Act}{Q:Exit->Act->nL->Prop}(g:o.guard=none)(m x v:Operand)(N:o.op=Op.mapUpdate 198 m x v)
  (b n:Nat) (F:ll) (f:a.eval m=.map (some b)) (d:gB w b n F) (hn:n<maxLen) (k:nS) (e:k.size<=maxLen) (hx:a.eval x=.string k) (j:a.eval v=.int .i64 1)
  (K:∀w',gB w' b (n+1) (F.set k)->w.grownBy w' (some b)->wpList prog ops Q rest (a.put o.dst undef) w'):wpList prog ops Q (o::rest) a w:=by
 have⟨D,h,c⟩:=d;apply wpList_mapUpdate_own w g m x v _ N 9 3 xU underlying198 q_ b n D f h hn _ _ (jh k) hx j (Go.WideMaps.keyOf_string_mk underlying9 e) _ [] rfl;intro w' i z;exact K w' (gB.put c h k i) z
section
open Go.Shelf
theorem SM(n:Nat)(b:Nat)(w:nL):
  CallsIn Fence.wide n prog 241 #[.map<|some b] w λe w'=>e=.returned (.func (.func 284) #[] #[gx w.heap.size])/\w'=w.alloc (.cells #[.map<|some b] 192):=by
 refine callsIn_of_wp func241 rfl trivial ?_ rfl;simp only[ntmps241,ji,zzr,jn,Nat.reduceAdd,Nat.reduceSub,mK,jo,j7,j8,kV,lC];gi_wp2;go_ret;exact⟨rfl,rfl⟩
theorem SN(n:Nat)(hn:1<=n)(l B b m:Nat)(L:List<|Nat×fQ)(W:nL)(J h:List Nat->nL->Prop)(i:AbidesFrom W.heap.size J)
  (Y:∀p (x:Nat) W1,J p W1->p.length<L.length->YieldAt Fence.wide (n-1) prog l #[.int .u64 (x:Int)] W1 λe a=>
   (e=.returned (.bool true)/\J (p++[x]) a/\KeepsWalks W1 a)\/(e=.returned (.bool false)/\h (p++[x]) a))
  (K:W.cell? (gi B)=some (.map<|some b)) (o:dV KU EX W b m L) (u:J [] W) :
  CallsIn Fence.wide n prog 284 #[.func (.yield l) #[] #[],gx B] W λe a=>(∃v,e=.returned v) /\
   ((∃s,s.Perm (L.map (·.1))/\J s a)\/(∃p,True/\h p a)):=by
 have y:Fence.wide.round=none:=rfl;have M:Fence.wide.fn 284:=trivial;have t:Hid (dV KU EX W b m L):=o;have f:Hid (AbidesFrom W.heap.size J):=i;clear o i;refine callsIn_of_wp func284 rfl M ?_ y;simp only[ntmps284,List.size_toArray,zzr,List.length_nil,Nat.reduceAdd,Nat.reduceSub,Array.replicate_succ,Array.replicate_zero,List.push_toArray,List.append_toArray,List.nil_append,List.cons_append]
 gi_wp2_with (first
  |(gi_at_range;refine vu (KR:=KU) (ER:=EX) rfl _ 192 249 rfl underlying192 b m L rfl t.out ?_;intro w g E C)
  |gi_in)
 go_frame;have S:Hid (gY KU EX w b W.heap.size m L L/\J [] w):=⟨g,f.out [] W w none u E λr e=>by cases e⟩;clear g E
 gi_loopw [3] (λ_ wr=>∃rem ss,Hid<|gY KU EX wr b W.heap.size m L rem/\(ss++rem.map (·.1)).Perm (L.map (·.1))/\J ss wr)
  (λ_ wr=>wr.rangeLeft b W.heap.size)
 .exact⟨L,[],S.1,dv,S.2⟩
 .have⟨rem,ss,X⟩:=hrel;have c:=X.1;gi_wp2_with (first
   |(gi_at_next;refine wN rfl _ rfl b W.heap.size m L rem rfl c ?_ ?_)
   |gi_in)
  .intro my;gi_wp2;go_end0;exact⟨⟨_,rfl⟩,.inl ⟨ss,by have:=X.2.1;rw[my]at this;simpa using this,X.2.2⟩⟩
  .intro k v w2 hm Ho bW fT eP CH;have j:=f.out ss wr w2 (some W.heap.size) X.2.2 fT λr e=>by cases e;exact⟨zzc _,c.iter⟩
   have q:(ss++[k]++(dU rem k).map (·.1)).Perm (L.map (·.1)):=by
    refine List.Perm.trans ?_ X.2.1;rw[zzx];exact(((Hl c.once hm).map (·.1)).symm).append_left ss
   have hlen:ss.length<L.length:=by
    have:=q.length_eq;simp at this;omega
   have⟨z,tmps,assign,body,A,R⟩:=Y ss k w2 j hlen;have N:Hid (gY KU EX w2 b W.heap.size m L (dU rem k)/\(ss++[k]++(dU rem k).map (·.1)).Perm (L.map (·.1))/\w2.rangeLeft b W.heap.size<wr.rangeLeft b W.heap.size):=⟨Ho,q,bW⟩;change (Instr.entry _).run _ _=.ok (.tuple #[.int .u64 (k:Int),lz v]) _ at CH;clear eP c Ho q bW hm fT j;gi_wp2;apply R.mono;rintro e d (⟨rfl,yc,lF⟩|⟨rfl,SP⟩)
   .obtain⟨Gw,nV⟩:=N.1.walks lF;have H:Hid (gY KU EX d b W.heap.size m L (dU rem k)/\(ss++[k]++(dU rem k).map (·.1)).Perm (L.map (·.1))/\J (ss++[k]) d/\d.rangeLeft b W.heap.size<wr.rangeLeft b W.heap.size):=⟨Gw,N.2.1,yc,by rw[nV];exact N.2.2⟩;clear Gw nV lF yc
    gi_wp2;go_roundw;.exact⟨_,_,H.1,H.2.1,H.2.2.1⟩
    .exact H.2.2.2
   .gi_wp2;apply zA (xw rfl _ _ _) rfl;exact⟨⟨_,rfl⟩,.inr ⟨_,trivial,SP⟩⟩
theorem Hp(n:Nat)(hn:1<=n)(B b m:Nat)(L:List<|Nat×fQ)(w:nL)(T:B<w.heap.size)(X:w.cell? (gi B)=some (.map<|some b))(e:dV KU EX w b m L):
  SeqStopsK Fence.wide n prog 284 #[gx B] (λx:Nat=>#[.int .u64 (x:Int)]) KeepsWalks (λs=>s.Perm<|L.map (·.1)) (λ_=>True) L.length w:=λl J a W h d _ Y c=>
 SN n hn l B b m L W J a d Y ((h.cell T).trans X) (e.fr (S:=[]) ⟨h.os,h.tape,h.output,h.size,λk f _=>h.block k f⟩ (by simp)) c
theorem C4(n:Nat)(hn:3<=n)(g:Nat)(lb:Array Value)(j:Fence.wide.fn g)(q:∀args w,(callFunc g args).run prog w=.ok (.enter g args) w)(S:List Nat->Prop)(N:Nat)(hN:N<=1000000000)(w:nL)
  (Q:SeqStopsK Fence.wide (n-1) prog g lb (λx:Nat=>#[.int .u64 (x:Int)]) KeepsWalks S (λ_=>True) N w) :
  CallsIn Fence.wide n prog 312 #[.slice none 0 0,.func (.func g) #[] lb] w λe w'=>∃v ss,e=.returned v/\S ss/\w'.ownsRow w.heap.size 34 1 v ss.length (fC ss)/\(v=.slice none 0 0↔ss=[])/\Below w.heap.size w w':=by
 have t:1<=n:=dp;have o:Fence.wide.round=none:=rfl;obtain⟨M,A,E,G,J⟩:=tO wL;refine callsIn_of_wp_marks func312 rfl trivial ?_ o;simp only[ntmps312,ji,zzr,jn,Nat.reduceAdd,Nat.reduceSub,mK,jo,j7,j8,kV,lC]
 gi_wp2
 have d:=Boxed.new w 49 (.slice none 0 0);have O:Below w.heap.size w (w.alloc (.cells #[.slice none 0 0] 49)):=(zzD _ w).alloc (zzc _) _;have B:(w.alloc (.cells #[.slice none 0 0] 49)).heap.size=w.heap.size+1:=dv;obtain⟨b,Z⟩:∃b,(w.alloc (.cells #[.slice none 0 0] 49))=b:=⟨_,rfl⟩;rw[Z] at d O B ⊢;clear Z
 refine wpIn_rangeFunc_ownH o t (gf:=g) (lb:=lb) rfl j q Q walksK_t walksK_b O (λ_=>rfl)
  (λp W=>(∃v,Boxed W w.heap.size 49 v/\W.ownsRow w.heap.size 34 1 v p.length (fC p)/\(v=.slice none 0 0↔p=[]))/\Below w.heap.size w W)
  (λ_ _ _=>False)
  (OwnFrom.and (Own.from (holdsRow_own w.heap.size w.heap.size 49 34 1 (λp:List Nat=>p.length) (λp=>fC p) (λp v=>(v=.slice none 0 0↔p=[]))) _) (ownFrom_below (zzc _) dp))
  (λ_ _ _ _ _ s _ _=>s)
  ⟨⟨_,d,zzu _ _ _ _,dv⟩,O⟩
  (λx a W=>a={ tmps:=#[.slice none 0 0,.func (.func g) #[] lb,.pointer (some ⟨w.heap.size,0,none⟩),undef,.slice none 0 0,.int .u64 (x:Int),.func (.func g) #[] lb,.int .u64 (x:Int),undef,undef,undef,undef,undef],defers:=[] })
  (λx a _ X a7 row s _ _=>s)
  ?assign ?body ?done ?stop
 case assign =>
  have V:=@Bg;rintro l p x W a1 I K
  gi_wp2
  exact K _ _ (KeepsFrom.refl _ _) (KeepsWalks.refl _) I rfl
 case body =>
  have V:=@Bg;rintro l p x a W eL _ ⟨⟨v,hv,aW,my⟩,hB⟩ rfl bW;have z:=hv.cell;have L:=ah my;clear my
  gi_wp2_with (gi_at_builtin;refine wpListIn_append_own _ rfl _ _ 49 rfl w.heap.size 34 M _ 1 8 underlying49 A E G J rfl du _ _ _ rfl (aW.alloc _) ⟨W.heap.size,0,none⟩ 1 1 [.int .u64 (x:Int)] rfl rfl (fV _ #[.int .u64 (x:Int)] _) (by intro u i;simp at i;subst i;rfl) eE dp (by have:=hB.size;simp;omega) ?_;intro v' T F k _;obtain⟨r,P,rfl⟩:=ownsRow_succ F;obtain⟨f,R,Y,m,y⟩:=hv.appended du aW hB.size (zzc _) F k;have kn:=f.cell;have cY:=f.frozen;have H:Hid (KeepsWalks W (T.setCell ⟨w.heap.size,0,none⟩ (.slice (some ⟨r,0,none⟩) (p.length+1) P))):=m.walks)
  exact⟨m.from _,H.out,⟨_,R,by rw[tS];simpa using Y,dv⟩,hB.trans y⟩
 case done =>
  rintro D U W hD C ⟨⟨v,hv,aW,my⟩,hB⟩ K;have z:=hv.cell;have L:=ah my;clear my
  gi_wp2
  refine⟨dv,.inl ⟨_,_,rfl,DK K,?_⟩⟩;exact⟨_,results_tmp rfl _ _ _,v,U,rfl,C,ownsRow_putObj aW _ K rfl,L.out,hB.trans (belowK_b (w:=w) (zzc _) W D _ _ dp K rfl rfl)⟩
 case stop =>
  rintro D c p W _ _ h _;exact h.elim
theorem Hw(n:Nat)(hn:4<=n)(g:Nat)(lb:Array Value)(O:Fence.wide.fn g)(a:∀args w,(callFunc g args).run prog w=.ok (.enter g args) w)(S:List Nat->Prop)(N:Nat)(hN:N<=1000000000)(w:nL)
  (F:SeqStopsK Fence.wide (n-1-1) prog g lb (λx:Nat=>#[.int .u64 (x:Int)]) KeepsWalks S (λ_=>True) N w) :
  CallsIn Fence.wide n prog 280 #[.func (.func g) #[] lb] w λe w'=>∃v ss,e=.returned v/\S ss/\w'.ownsRow w.heap.size 34 1 v ss.length (fC ss)/\(v=.slice none 0 0↔ss=[])/\Below w.heap.size w w':=by
 have h:1<=n:=dp;have o:Fence.wide.round=none:=rfl;have Y:Fence.wide.fn 312:=trivial;have A:=C4 (n-1) dp g lb O a S N hN w F;refine callsIn_of_wp func280 rfl trivial ?_ o;simp only[ntmps280,ji,zzr,jn,Nat.reduceAdd,Nat.reduceSub,mK,jo,j7,j8,kV,lC];gi_wp2_with (gi_at_call 312;apply A.mono;rintro e b ⟨v,ss,rfl,hS⟩);go_ret;exact⟨v,ss,rfl,hS⟩
theorem K8(n:Nat)(hn:5<=n)(g:Nat)(lb:Array Value)(O:Fence.wide.fn g)(c:∀args w,(callFunc g args).run prog w=.ok (.enter g args) w)(s:List Nat)(N:Nat)(hN:N<=12)(l:s.length<=N)(w:nL)
  (F:SeqStopsK Fence.wide (n-1-1-1) prog g lb (λx:Nat=>#[.int .u64 (x:Int)]) KeepsWalks (λy=>y.Perm s) (λ_=>True) N w) :
  CallsIn Fence.wide n prog 231 #[.func (.func g) #[] lb] w λe w'=>∃v ss,e=.returned v/\ss.Perm s/\ss.Pairwise (·<=·)/\w'.ownsRow w.heap.size 34 1 v ss.length (fC ss)/\(v=.slice none 0 0↔ss=[])/\Below w.heap.size w w':=by
 have i:1<=n:=dp;have o:Fence.wide.round=none:=rfl;have f:Fence.wide.fn 280:=trivial;have H:Fence.wide.fn 260:=trivial;have A:=Hw (n-1) dp g lb O c (λy=>y.Perm s) N dp w F;clear F;refine callsIn_of_wp func231 rfl trivial ?_ o;simp only[ntmps231,ji,zzr,jn,Nat.reduceAdd,Nat.reduceSub,mK,jo,j7,j8,kV,lC];gi_wp2_with (gi_at_call 280;apply A.mono;rintro e a ⟨v,ss,rfl,hS,aW,my,hb⟩;have X:Hid (ss.Perm s/\a.ownsRow w.heap.size 34 1 v ss.length (fC ss)/\(v=.slice none 0 0↔ss=[])/\Below w.heap.size w a):=⟨hS,aW,my,hb⟩;clear hS aW my hb);by_cases h:ss=[]
 .have hv:=X.2.2.1.2 h;subst hv;apply((yY).2<|DT a).mono;rintro e w2 ⟨rfl,rfl⟩;gi_wp2;go_ret;exact⟨.slice none 0 0,ss,rfl,X.1,by rw[h];exact List.Pairwise.nil,X.2.1,⟨λ_=>h,λ_=>rfl⟩,X.2.2.2⟩
 .have zU:=zzE.2 h;obtain⟨b,p,rfl⟩:=Bo X.2.1 zU;have d:ss.length<=12:=by rw[X.1.length_eq];omega
  refine((yY).2<|O2 w.heap.size b ss.length p ss a X.2.1 rfl d).mono ?_;rintro e w2 ⟨rfl,l',eP,vw⟩;have Y:=ah<|zzb eP vw;clear eP vw
  gi_wp2
  go_ret;have z:=Y.1.perm.length_eq;have m:=(X.2.1.lt b rfl).1;refine⟨.slice (some ⟨b,0,none⟩) ss.length p,l',rfl,Y.1.perm.trans X.1,nO.pairwise<|by rw[z];exact Y.2,by rw[z];exact Y.1.row,⟨λe=>by simp at e,λe=>by rw[e]at z;simp at z;omega⟩,X.2.2.2.trans ?_⟩;have hf:=Y.1.fr;exact⟨hf.os,hf.tape,hf.output,hf.size,λk j=>hf.block k (by have:=X.2.2.2.size;omega) ef⟩
def aaR(x:nS × zm):Prop:=x.1.size<=16/\x.2.val.size<=32/\x.2.way<256
theorem be1{n:Nat}(h:n<256):be 1 n=[n]:=by grind[be,digit]
end
end Go.Proofs.YtlgeloebpdmnnaaGreatDoor
