import Derived.Test.YtcalalndmcemiaaGreatDoorC16
import Derived.Test.YtcalalndmcemiaaGreatDoorC17
set_option maxHeartbeats 4000000
set_option maxRecDepth 100000
namespace Go.Proofs.YtcalalndmcemiaaGreatDoor
open Go.RowKit Go.Maps Tryz Sc
variable{a l:List Nat}{B g j k n p:Nat}{w wr:World}
def tN(l:List Nat)(j:Nat):List Nat:=(l.set j (l.getD (j-1) 0)).set (j-1) (l.getD j 0)
theorem getD_at(h:j<l.length):l.getD j 0=l[j]:=by simp[List.getD,zzg h]
theorem G4(h:j<l.length):(tN l j).Perm l:=by
 unfold tN;rw[getD_at h,getD_at (by omega:j-1<l.length)];exact List.set_set_perm h bL
theorem Ej(h:j<l.length)(d:0<j)(a:Nat):(tN l j).getD a 0=if a=j then l.getD (j-1) 0 else if a=j-1 then l.getD j 0 else l.getD a 0:=by
 unfold tN;simp only[List.getD_eq_getElem?_getD,List.getElem?_set,List.length_set];by_cases b:a=j
 .subst b;rw[if_neg bL,if_pos rfl,if_pos h,if_pos rfl];rfl
 .by_cases c:a=j-1
  .subst c;rw[if_pos rfl,if_pos bL,if_neg b,if_pos rfl];rfl
  .rw[if_neg λe=>c e.symm,if_neg λe=>b e.symm,if_neg b,if_neg c]
def nR(l:List Nat)(k:Nat):Prop:=∀a b,a<b->b<k->l.getD a 0<=l.getD b 0
def ng(l:List Nat)(k j:Nat):Prop:=∀a b,a<b->b<k->b≠j->l.getD a 0<=l.getD b 0
theorem nR.but(h:nR l k):ng l (k+1) k:=λa b c d e=>h a b c bL
theorem ng.first(h:ng l k 0):nR l k:=λa b c d=>h a b c d bL
theorem ng.stop(h:ng l k j)(i:0<j)(c:l.getD (j-1) 0<=l.getD j 0):nR l k:=by
 intro a b f g;by_cases e:b=j
 .subst e;by_cases d:a=b-1
  .rw[d];exact c
  .exact zzk (h a (b-1) bL bL bL) c
 .exact h a b f g e
theorem ng.swap(h:ng l k j)(g:0<j)(M:j<l.length)(K:j<k)(U:l.getD j 0<l.getD (j-1) 0):ng (tN l j) k (j-1):=by
 intro a b i d m;rw[Ej M g,Ej M g];by_cases e:b=j
 .rw[if_pos e,if_neg (by omega:¬a=j)];by_cases c:a=j-1
  .rw[if_pos c];omega
  .rw[if_neg c];exact h a (j-1) bL bL bL
 .rw[if_neg e,if_neg m];by_cases c:a=j
  .rw[if_pos c];exact h (j-1) b bL d e
  .rw[if_neg c];by_cases f:a=j-1
   .rw[if_pos f];exact h j b bL d e
   .rw[if_neg f];exact h a b i d e
theorem nR.pairwise(h:nR l l.length):l.Pairwise (·<=·):=by
 rw[List.pairwise_iff_getElem];intro i j b a J;have:=h i j J a;rwa [getD_at b,getD_at a]at this
theorem acN(x:Int)(w:World):Calls prog 263 #[.int .u64 x] w λe w'=>e=.returned (.bool false)/\w'=w:=by
 go_enter func263,ntmps263;go_wp2;go_ret;exact⟨bR,rfl⟩
theorem OE(x y:Int)(w:World):Calls prog 214 #[.int .u64 x,.int .u64 y] w λe w'=>e=.returned (.bool<|decide<|x<y)/\w'=w:=by
 go_enter func214,ntmps214;go_wp2_with fail;apply(acN x w).mono;rintro e a ⟨rfl,rfl⟩;go_wp2;go_ret;exact⟨rfl,rfl⟩
theorem La(l:List Nat)(j:Nat):((eI l).set j<|.int .u64 (l.getD (j-1) 0:Nat)).set (j-1) (.int .u64 (l.getD j 0:Nat))=eI (tN l j):=by
 unfold eI tN;rw[List.map_set,List.map_set]
structure jP(w wr:World)(B g n cap:Nat)(l l':List Nat):Prop where
 perm:l'.Perm l
 row:wr.ownsRow B 43 1 (.slice (some ⟨g,0,none⟩) n cap) n (eI l')
 fr:Fr [g] w wr
theorem jP.swap(h:jP w wr B g n p l a)(c:j<a.length):
  jP w ((wr.setCell ⟨g,j,none⟩<|.int .u64 (a.getD (j-1) 0:Nat)).setCell ⟨g,j-1,none⟩<|.int .u64 (a.getD j 0:Nat)) B g n p l (tN a j) where
 perm:=(G4 c).trans h.perm
 row:=by
  have b:=((h.row.stored j<|.int .u64 (a.getD (j-1) 0:Nat)).1.stored (j-1)<|.int .u64 (a.getD j 0:Nat)).1
  rwa [La]at b
 fr:=(h.fr.setCell (.inl bR) _).setCell (.inl bR) _
theorem jP.drewN(h:jP w wr B g n p l a)(k:Nat):jP w (wr.drewN k) B g n p l a where
 perm:=h.perm
 row:=aD h.row (cw (lT wr) k) λ_ _=>bR
 fr:=cw h.fr k
theorem jP.at(h:jP w wr B g n p l a)(b:k<a.length):wr.cell? ⟨g,k,none⟩=some (.int .u64 ((a.getD k 0:Nat):Int)):=
 nP h.row k _ (by rw[getD_at b];exact zzg b)
theorem jP.free{c:List Nat}(h:jP w wr B g n p l c)(k:Nat):wr.frozen? ⟨g,k,none⟩=false:=by
 rcases h.row.2 with⟨a,_⟩|⟨d,R,r,a,hb,b,_⟩
 .simp at a
 .simp only[Value.slice.injEq,Option.some.injEq,Addr.mk.injEq,and_true,true_and]at a;obtain⟨rfl,rfl⟩:=a;exact aj b _
theorem SA(B g n p:Nat)(l:List Nat)(w:World)(h:w.ownsRow B 43 1 (.slice (some ⟨g,0,none⟩) n p) n<|eI l)(t:l.length=n)(hn:n<=67108864):
  Calls prog 294 #[.slice (some ⟨g,0,none⟩) n p,.int .i64 0,.int .i64 (n:Int)] w λe w'=>e=.returned (.tuple #[])/\∃d,jP w w' B g n p l d/\nR d n:=by
 have z:Hid (l.length=n):=t;have v:Hid (jP w w B g n p l l):=⟨List.Perm.refl _,h,Fr.refl _ _⟩;clear h t;go_enter func294,ntmps294;go_wp2;go_loopw [6] (λi wr=>∃k:Nat,i=.int .i64 k/\1<=k/\(k<=n\/k=1)/\∃d,jP w wr B g n p l d/\nR d k) (λi _=>n-(intOf i).toNat);case atStart=>exact⟨1,rfl,bL,.inr rfl,l,v.out,λa b s A=>bL⟩
 case round=>
  obtain⟨k,rfl,F,E,m,df,Z⟩:=hrel;by_cases U:k<n
  .have j1:(k:Int)<n:=bL;have C:IntKind.i64.wrap ((k:Int)+1)=(k:Int)+1:=dL;have G:Hid (jP w wr B g n p l m):=df;have H:Hid (nR m k):=Z;clear df Z;go_wp2;go_loopw [7] (λi D=>∃j:Nat,i=.int .i64 j/\j<=k/\∃d,jP w D B g n p l d/\ng d (k+1) j) (λi _=>(intOf i).toNat);case atStart=>exact⟨k,rfl,bL,m,G.out,H.out.but⟩
   case round=>
    obtain⟨j,rfl,K,c,T,O⟩:=hrel;have f:Hid (jP w wr B g n p l c):=T;have I:Hid (ng c (k+1) j):=O;have o:Hid (c.length=n):=by rw[<-z.out];exact T.perm.length_eq
    clear T O;have S:=C;cases j with
    |zero=>
     go_wp2;go_quiet (first|(go_at_call 214;refine Calls.quiet_of_same<|OE _ _ _))
     go_wp2;refine⟨⟨k+1,bR,bL,.inl bL,c,f.out.drewN _,I.out.first⟩,fQ⟩
    |succ i=>
     have c1:=f.out.at (k:=i+1) (by rw[o.out];omega);have c2:=f.out.at (k:=i) (by rw[o.out];omega);have J:wr.frozen? ⟨g,i+1,none⟩=false:=f.out.free _;have M:wr.frozen? ⟨g,i,none⟩=false:=f.out.free _;have N:(0:Int)<((i+1:Nat):Int):=bL
     have P:IntKind.i64.wrap (((i+1:Nat):Int)-1)=(i:Int):=dL;have Q:((i+1:Nat):Int)<(n:Int):=bL;have R:(i:Int)<n:=bL;have⟨x,q⟩:=gb <|c.getD (i+1) 0;have⟨y,r⟩:=gb <|c.getD i 0;rw[<-q]at c1;rw[<-r]at c2;have X:Hid (x=c.getD (i+1) 0):=q;have Y:Hid (y=c.getD i 0):=r;clear q r;by_cases L:(x:Int)<y
     .have hd:decide ((x:Int)<y)=true:=by simp[L]
      go_wp2;go_quiet (first|(go_at_call 214;refine Calls.quiet_of_same<|OE _ _ _))
      go_wp2;go_region;all_goals go_wp2
      have hlen:i+1<c.length:=by rw[o.out];omega
      have u:=(f.out.drewN<|nq+1).swap hlen;rw[show i+1-1=i from rfl,<-X.out,<-Y.out]at u;refine⟨⟨i,rfl,bL,tN c<|i+1,u,?_⟩,by simp[intOf]⟩;exact I.out.swap bL hlen bL<|by rw[show i+1-1=i from rfl,<-X.out,<-Y.out];omega
     .have hd:decide ((x:Int)<y)=false:=by simp[L]
      go_wp2
      go_quiet (first|(go_at_call 214;refine Calls.quiet_of_same<|OE _ _ _))
      go_wp2;refine⟨⟨k+1,bR,bL,.inl bL,c,f.out.drewN _,I.out.stop bL ?_⟩,fQ⟩;rw[show i+1-1=i from rfl,<-X.out,<-Y.out];omega
  .have j1:¬(k:Int)<n:=bL;have G:Hid (jP w wr B g n p l m):=df;have H:Hid (nR m k):=Z;clear df Z;go_wp2;go_end0;refine⟨rfl,m,G.out,λa b s A=>H.out a b s bL⟩
theorem OJ(B g n p:Nat)(k:Int)(l:List Nat)(w:World)(h:w.ownsRow B 43 1 (.slice (some ⟨g,0,none⟩) n p) n<|eI l)(a:l.length=n)(hn:n<=12):
  Calls prog 261 #[.slice (some ⟨g,0,none⟩) n p,.int .i64 0,.int .i64 (n:Int),.int .i64 k] w λe w'=>e=.returned (.tuple #[])/\∃b,jP w w' B g n p l b/\nR b n:=by
 have i:=SA B g n p l w h a bL;have j:(n:Int)<=12:=bL
 have c:IntKind.i64.wrap ((n:Int)-0)=(n:Int):=dL;have d:IntKind.i64.wrap (n:Int)=n:=dL;clear h a;go_enter func261,ntmps261;go_wp2;apply wp_loop_rounds 1;rw[rounds_succ];go_wp2_with fail;apply i.mono;clear i;rintro e f ⟨rfl,hp⟩;go_wp2;apply bodyPost_ret (results_none rfl _ _ _) rfl;exact⟨rfl,hp⟩
theorem Ld(B g n p:Nat)(l:List Nat)(w:World)(h:w.ownsRow B 43 1 (.slice (some ⟨g,0,none⟩) n p) n<|eI l)(a:l.length=n)(hn:n<=12):
  Calls prog 213 #[.slice (some ⟨g,0,none⟩) n p] w λe w'=>e=.returned (.tuple #[])/\∃b,jP w w' B g n p l b/\nR b n:=by
 have c:=λk=>OJ B g n p k l w h a hn
 clear h a;go_enter func213,ntmps213;go_wp2_with fail;apply(Tryz.bits_Len n w bL bL).mono;rintro e d ⟨rfl,rfl⟩;go_wp2_with fail;apply(c _).mono;rintro e d ⟨rfl,hq⟩;go_wp2;go_end0;exact⟨rfl,hq⟩
section
open Go.Shelf
theorem Ab(n:Nat)(hn:3<=n)(g:Nat)(lb:Array Value)(L:Fence.wide.fn g)(k:∀args w,(callFunc g args).run prog w=.ok (.enter g args) w)(S:List Nat->Prop)(N:Nat)(hN:N<=67108864)(w:World)
  (J:SeqStopsK Fence.wide (n-1) prog g lb (λx:Nat=>#[.int .u64 (x:Int)]) KeepsWalks S (λ_=>True) N w) :
  CallsIn Fence.wide n prog 307 #[.slice none 0 0,.func (.func g) #[] lb] w λe w'=>∃v ss,e=.returned v/\S ss/\w'.ownsRow w.heap.size 43 1 v ss.length (eI ss)/\(v=.slice none 0 0↔ss=[])/\Below w.heap.size w w':=by
 have q:1<=n:=bL;have o:Fence.wide.round=none:=rfl;obtain⟨C,s,t,A,B⟩:=info_parts xh;refine callsIn_of_wp_marks func307 rfl trivial ?_ o;simp only[ntmps307,mB,zzr,mH,Nat.reduceAdd,Nat.reduceSub,mK,mL,nb,nU,n5,qC]
 gi_wp2
 have O:=Boxed.new w 220 (.slice none 0 0);have M:Below w.heap.size w (w.alloc (.cells #[.slice none 0 0] 220)):=(zzD _ w).alloc (zzc _) _;have z:(w.alloc (.cells #[.slice none 0 0] 220)).heap.size=w.heap.size+1:=bR;obtain⟨d,F⟩:∃d,(w.alloc (.cells #[.slice none 0 0] 220))=d:=⟨_,rfl⟩;rw[F] at O M z ⊢;clear F
 refine wpIn_rangeFunc_ownH o q (gf:=g) (lb:=lb) rfl L k J walksK_t walksK_b M (λ_=>rfl)
  (λp W=>(∃v,Boxed W w.heap.size 220 v/\W.ownsRow w.heap.size 43 1 v p.length (eI p)/\(v=.slice none 0 0↔p=[]))/\Below w.heap.size w W)
  (λ_ _ _=>False)
  (OwnFrom.and (Own.from (holdsRow_own w.heap.size w.heap.size 220 43 1 (λp:List Nat=>p.length) (λp=>eI p) (λp v=>(v=.slice none 0 0↔p=[]))) _) (ownFrom_below (zzc _) bL))
  (λ_ _ _ _ _ hs _ _=>hs)
  ⟨⟨_,O,zzu _ _ _ _,bR⟩,M⟩
  (λx b W=>b={ tmps:=#[.slice none 0 0,.func (.func g) #[] lb,.pointer (some ⟨w.heap.size,0,none⟩),undef,.slice none 0 0,.int .u64 (x:Int),.func (.func g) #[] lb,.int .u64 (x:Int),undef,undef,undef,undef,undef],defers:=[] })
  (λx b _ X a1 row hs _ _=>hs)
  ?assign ?body ?done ?stop
 case assign =>
  have E:=@Oper.semAt_some;rintro l p x W K I a
  gi_wp2
  exact a _ _ (KeepsFrom.refl _ _) (KeepsWalks.refl _) I rfl
 case body =>
  have E:=@Oper.semAt_some;rintro l p x b W eh _ ⟨⟨v,hv,aI,dM⟩,hB⟩ rfl bU;have r:=hv.cell;have T:=af dM;clear dM
  gi_wp2_with (gi_at_builtin;refine wpListIn_append_own _ rfl _ _ 220 rfl w.heap.size 43 C _ 1 8 underlying220 s t A B rfl bM _ _ _ rfl (aI.alloc _) ⟨W.heap.size,0,none⟩ 1 1 [.int .u64 (x:Int)] rfl rfl (dU _ #[.int .u64 (x:Int)] _) (by intro u i;simp at i;subst i;rfl) eA bL (by have:=hB.size;simp;omega) ?_;intro v' V f j _;obtain⟨m,R,rfl⟩:=ownsRow_succ f;obtain⟨y,Q,U,P,Z⟩:=hv.appended bM aI hB.size (zzc _) f j;have iX:=y.cell;have bh:=y.frozen;have H:Hid (KeepsWalks W (V.setCell ⟨w.heap.size,0,none⟩ (.slice (some ⟨m,0,none⟩) (p.length+1) R))):=P.walks)
  exact⟨P.from _,H.out,⟨_,Q,by rw[uR];simpa using U,bR⟩,hB.trans Z⟩
 case done =>
  rintro D Y W hD G ⟨⟨v,hv,aI,dM⟩,hB⟩ a;have r:=hv.cell;have T:=af dM;clear dM
  gi_wp2
  refine⟨bR,.inl ⟨_,_,rfl,run_takeDeferred a,?_⟩⟩;exact⟨_,results_tmp rfl _ _ _,v,Y,rfl,G,ownsRow_putObj aI _ a rfl,T.out,hB.trans (belowK_b (w:=w) (zzc _) W D _ _ bL a rfl rfl)⟩
 case stop =>
  rintro D c p W _ _ h _;exact h.elim
theorem Ek(n:Nat)(hn:4<=n)(g:Nat)(lb:Array Value)(f:Fence.wide.fn g)(a:∀args w,(callFunc g args).run prog w=.ok (.enter g args) w)(S:List Nat->Prop)(N:Nat)(hN:N<=67108864)(w:World)
  (c:SeqStopsK Fence.wide (n-1-1) prog g lb (λx:Nat=>#[.int .u64 (x:Int)]) KeepsWalks S (λ_=>True) N w) :
  CallsIn Fence.wide n prog 269 #[.func (.func g) #[] lb] w λe w'=>∃v ss,e=.returned v/\S ss/\w'.ownsRow w.heap.size 43 1 v ss.length (eI ss)/\(v=.slice none 0 0↔ss=[])/\Below w.heap.size w w':=by
 have b:1<=n:=bL;have o:Fence.wide.round=none:=rfl;have h:Fence.wide.fn 307:=trivial;have A:=Ab (n-1) bL g lb f a S N hN w c;refine callsIn_of_wp func269 rfl trivial ?_ o;simp only[ntmps269,mB,zzr,mH,Nat.reduceAdd,Nat.reduceSub,mK,mL,nb,nU,n5,qC];gi_wp2_with (gi_at_call 307;apply A.mono;rintro e d ⟨v,ss,rfl,hS⟩);go_ret;exact⟨v,ss,rfl,hS⟩
theorem yh(n:Nat)(hn:5<=n)(g:Nat)(lb:Array Value)(f:Fence.wide.fn g)(d:∀args w,(callFunc g args).run prog w=.ok (.enter g args) w)(s:List Nat)(N:Nat)(hN:N<=12)(M:s.length<=N)(w:World)
  (c:SeqStopsK Fence.wide (n-1-1-1) prog g lb (λx:Nat=>#[.int .u64 (x:Int)]) KeepsWalks (λy=>y.Perm s) (λ_=>True) N w) :
  CallsIn Fence.wide n prog 227 #[.func (.func g) #[] lb] w λe w'=>∃v ss,e=.returned v/\ss.Perm s/\ss.Pairwise (·<=·)/\w'.ownsRow w.heap.size 43 1 v ss.length (eI ss)/\(v=.slice none 0 0↔ss=[])/\Below w.heap.size w w':=by
 have m:1<=n:=bL;have o:Fence.wide.round=none:=rfl;have j:Fence.wide.fn 269:=trivial;have Q:Fence.wide.fn 213:=trivial;have A:=Ek (n-1) bL g lb f d (λy=>y.Perm s) N bL w c;clear c;refine callsIn_of_wp func227 rfl trivial ?_ o;simp only[ntmps227,mB,zzr,mH,Nat.reduceAdd,Nat.reduceSub,mK,mL,nb,nU,n5,qC];gi_wp2_with (gi_at_call 269;apply A.mono;rintro e a ⟨v,ss,rfl,hS,aI,dM,hb⟩;have X:Hid (ss.Perm s/\a.ownsRow w.heap.size 43 1 v ss.length (eI ss)/\(v=.slice none 0 0↔ss=[])/\Below w.heap.size w a):=⟨hS,aI,dM,hb⟩;clear hS aI dM hb);by_cases z:ss=[]
 .have hv:=X.2.2.1.2 z;subst hv;apply((callsIn_wide).2<|AZ a).mono;rintro e i ⟨rfl,rfl⟩;gi_wp2;go_ret;exact⟨.slice none 0 0,ss,rfl,X.1,by rw[z];exact List.Pairwise.nil,X.2.1,⟨λ_=>z,λ_=>rfl⟩,X.2.2.2⟩
 .have wN:=zzE.2 z;obtain⟨b,p,rfl⟩:=jb X.2.1 wN;have h:ss.length<=12:=by rw[X.1.length_eq];omega
  apply((callsIn_wide).2<|Ld w.heap.size b ss.length p ss a X.2.1 rfl h).mono;rintro e i ⟨rfl,l',dT,OH⟩;have Y:=af<|zzb dT OH;clear dT OH
  gi_wp2;go_ret;have l:=Y.1.perm.length_eq;have G:=(X.2.1.lt b rfl).1;refine⟨.slice (some (gz b)) ss.length p,l',rfl,Y.1.perm.trans X.1,nR.pairwise<|by rw[l];exact Y.2,by rw[l];exact Y.1.row,⟨λe=>by simp at e,λe=>by rw[e]at l;simp at l;omega⟩,X.2.2.2.trans ?_⟩;have hf:=Y.1.fr;exact⟨hf.os,hf.tape,hf.output,hf.size,λk q=>hf.block k (by have:=X.2.2.2.size;omega) cE⟩
theorem El(n:Nat)(hn:5<=n)(b m:Nat)(L:List<|Nat×ft)(l:L.length<=12)(w:World)(h:aO KU ET w b m L):
  CallsIn Fence.wide n prog 227 #[.func (.func 271) #[] #[.pointer<|some ⟨w.heap.size,0,none⟩]] (w.alloc<|.cells #[.map<|some b] 136) λe w'=>∃v ss,e=.returned v/\ss.Perm (L.map (·.1))/\ss.Pairwise (·<=·)/\w'.ownsRow w.heap.size 43 1 v L.length (eI ss)/\(v=.slice none 0 0↔L.length=0)/\Below w.heap.size w w':=by
 have H:Below w.heap.size w (w.alloc<|.cells #[.map<|some b] 136):=(zzD _ w).alloc (zzc _) _;have P:aO KU ET (w.alloc<|.cells #[.map<|some b] 136) b m L:=h.fr ((lT w).alloc _) bR;have hs:=Ec (n-1-1-1) bL w.heap.size b m L _ bR (by rw[ay<|World.alloc_heap_new w<|.cells #[.map<|some b] 136];rfl) P;apply(yh n hn _ _ trivial (enters_of func271 dJ rfl) (L.map (·.1)) L.length l bR _ hs).mono;rintro e w' ⟨v,ss,rfl,h1,h2,h3,h4,h5⟩;have hlen:ss.length=L.length:=by rw[h1.length_eq,zzn]
 rw[hlen]at h3;refine⟨v,ss,rfl,h1,h2,ep h3 bR,?_,H.trans<|h5.mono bR⟩;rw[h4,<-hlen];exact List.length_eq_zero_iff.symm
abbrev elT(g:ft):List Value:=[.int .i64 (g.state:Int),.int .i64 (g.done:Int),.int .u64 (g.last:Int)]
def Cm(l:List ft):List Value:=l.flatMap elT
theorem Lg(l:List ft)(g:ft):Cm (l++[g])=Cm l++elT g:=by simp[Cm]
theorem JN:∀(l:List ft) (k:Nat) (g:ft),l[k]?=some g->(Cm l)[k*3]?=some (.int .i64 (g.state:Int))/\(Cm l)[k*3+1]?=some (.int .i64 (g.done:Int))/\(Cm l)[k*3+2]?=some (.int .u64 (g.last:Int))
 |[],k,g,h=>by simp at h
 |x::l,0,g,h=>by simp at h;subst h;simp[Cm]
 |x::l,k+1,g,h=>by
  have:=JN l k g (by simpa using h);simp only[Cm,List.flatMap_cons]at this ⊢;rw[show(k+1)*3=k*3+1+1+1 by omega]
  simpa using this
theorem WK:(Tryz.prog.info? 199).map (λi=>(i.zero,i.size,i.bytes))=some (some<|.agg #[.int .i64 0,.int .i64 0,.int .u64 0],3,24):=dJ
theorem aam(p:Option Addr)(n c:Nat)(w:World):(Builtin.len_ #[220] 3 #[.slice p n c]).run prog w=.ok (.int .i64 n) w:=by simp[Builtin.len_,run_underlying underlying220,goInt]
def yi(L:List (Nat × ft))(ss:List Nat):List (Nat × ft):=ss.map λk=>(k,(ak L k).getD ⟨0,0,0⟩)
theorem G6(n:Nat)(hn:6<=n)(l D b m:Nat)(L:List<|Nat×ft)(qh:L.length<=12)(W:World)(Kp:World->World->Prop)(P:Nat->World->Prop)
  (gl:∀k A,W.heap.size<=k->Below W.heap.size W A->P k A)
  (jo:∀k A B c t,(t=43\/t=199)->Kp A B->A.heap[k]?=some (.cells c t (0,0))->P k A->B.heap[k]?=A.heap[k]?/\P k B)
  (J Jx:List (Nat×ft)->World->Prop)
  (hJ:∀s A B,J s A->A.grownBy B none->J s B)
  (hY:∀K x W1,J K W1->K.length<L.length->x∈L->YieldAt Fence.wide (n-1) prog l #[.int .u64 (x.1:Int),.agg #[.int .i64 (x.2.state:Int),.int .i64 (x.2.done:Int),.int .u64 (x.2.last:Int)]] W1 λe F=>
   (e=.returned (.bool true)/\J (K++[x]) F/\Kp W1 F)\/(e=.returned (.bool false)/\Jx (K++[x]) F))
  (lR:W.cell? ⟨D,0,none⟩=some (.map<|some b)) (hL:aO KU ET W b m L) (h0:J [] W) :
  CallsIn Fence.wide n prog 233 #[.func (.yield l) #[] #[],.pointer<|some ⟨D,0,none⟩] W λe F=>(∃v,e=.returned v) /\
   ((∃ss,ss.Perm (L.map (·.1))/\ss.Pairwise (·<=·)/\J (yi L ss) F)\/(∃K,True/\Jx K F)):=by
 have tM:=zzF W (gz D) lR;have cK:=OA (n-1) b W;have cS:=El (n-1) bL b m L qh W hL;have⟨i0,hi,a',aa,ab⟩:=info_parts WK;have ao:Fence.wide.fn 234:=trivial;have av:Fence.wide.fn 227:=trivial;have Ox:Fence.wide.fn 233:=trivial;have a8:Fence.wide.round=none:=rfl;have h1:1<=n:=bL
 have Oy:=aam;have HL:=af hL;have HB:=af<|zzb tM lR;have⟨a,Eb⟩:=gb L.length;have HM:=af Eb;rw[<-Eb]at cS qh;have WC:a<=67108864:=bL
 clear hL Eb;refine callsIn_of_wp func233 rfl Ox ?_ a8;simp only[ntmps233,mB,zzr,mH,Nat.reduceAdd,Nat.reduceSub,mK,mL,nb,nU,n5,qC];gi_wp2_with (first
  |(gi_at_call 234;apply cK.mono;rintro e w0 ⟨rfl,rfl⟩)
  |(gi_at_call 227;apply cS.mono;rintro e w ⟨v,ss,rfl,uW,Jw,I,dM,cG⟩;obtain⟨pp,Y,rfl⟩:=hZ I;have M:Hid (w.ownsRow W.heap.size 43 1 (.slice pp a Y) a (eI ss)/\(Value.slice pp a Y=.slice none 0 0↔a=0)):=⟨I,dM⟩;have G:Hid (ss.Perm (L.map (·.1))/\ss.Pairwise (·<=·)):=⟨uW,Jw⟩;clear I dM uW Jw))
 clear cK cS;have H:=af cG;have Ry:Hid (∀A,Below W.heap.size W A->J [] A):=λA O=>hJ [] W A h0 ⟨O.os,O.tape,O.output,O.size,λk o _=>O.block k o⟩
 have E:Hid (ss.length=a):=by show _=_;rw[G.1.length_eq,zzn,HM.out]
 clear cG lR;by_cases td:a=0
 .subst td;obtain⟨rfl,rfl⟩:pp=none/\Y=0:=by simpa using M.2.2 rfl
  clear M;have HE:=af<|List.length_eq_zero_iff.1 E.out
  gi_loopw [14] (λi wr=>i=.int .i64 0/\wr=w) (λ_ _=>0);case atStart=>exact⟨rfl,rfl⟩
  case round=>
   obtain⟨rfl,rfl⟩:=hrel;gi_wp2;gi_loopw [27] (λi WD=>i=.int .i64 0/\WD=wr) (λ_ _=>0);case atStart=>exact⟨rfl,rfl⟩
   case round=>
    obtain⟨rfl,rfl⟩:=hrel;gi_wp2;go_end0;exact⟨⟨_,rfl⟩,.inl ⟨ss,G.1,G.2,by rw[HE.out];exact Ry.out _ H.out⟩⟩
 obtain⟨g,rfl⟩:∃g,pp=some ⟨g,0,none⟩:=by have⟨g,Z,e⟩:=jb M.1 bL;exact⟨g,by simp at e;exact e.1⟩
 have I:=M.1;have X:Hid (∃r,w.heap[g]?=some (.cells r 43 (0,0))/\W.heap.size<=g/\∀(k x:Nat),ss[k]?=some x->r[k]?=some (Value.int .u64 (x:Int))):=by
  rcases I.2 with⟨_,h3⟩|⟨g',Z,r,e,hb,z,_,_,a1,lK⟩
  .omega
  .obtain⟨e1,e2⟩:g=g'/\Y=Z:=by simpa using e
   subst e1;refine⟨r,z,hb,λk x o=>?_⟩;have xE:k<a:=by have:=(zzd.1 o).1;have:=E.out;omega
   have:(r.toList.take<|a*1)[k]?=some (.int .u64 (x:Int)):=by rw[lK];unfold eI;rw[zzy,o];rfl
   rw[List.getElem?_take_of_lt bL]at this;simpa using this
 clear I M;have⟨f,GX⟩:∃f:List ft,f=ss.map λk=>(ak L k).getD ⟨0,0,0⟩:=⟨_,rfl⟩
 have HV:=af GX;clear GX;have HG:Hid (g<w.heap.size):=by have⟨r,z,_⟩:=X.out;exact(zza.1 z).1
 have OK:Hid (∀k∈ss,∃v,(k,v)∈L/\k<18446744073709551616/\(ak L k).getD ⟨0,0,0⟩=v):=λk o=>by
  have⟨p,hp,e⟩:=zzq.1<|G.1.mem_iff.1 o;have⟨_,_,_,eE,bB⟩:=HL.out;have⟨p1,U⟩:=p;simp at e;subst e;exact⟨U,hp,(bB _ hp).1,by rw[cP eE hp];rfl⟩
 gi_loopw [14,4] (λi v wr=>∃k:Nat,k<=a/\i=.int .i64 k/\Hid (wr.ownsRow w.heap.size 199 3 v k (Cm<|f.take k)/\Below w.heap.size w wr))
  (λi _ _=>a-(intOf i).toNat)
 case atStart=>exact⟨0,zzs _,rfl,zzu _ _ _ _,zzD _ _⟩
 case round=>
  obtain⟨k,o,rfl,R⟩:=hrel;by_cases bU:k<a
  .obtain⟨x,hx⟩:∃x,ss[k]?=some x:=⟨_,zzg<|by have:=E.out;omega⟩;have⟨y,q⟩:∃y,y=(ak L x).getD ⟨0,0,0⟩:=⟨_,rfl⟩;have d:=H.out.trans<|R.2.mono H.out.size
   have ck:wr.cell? (hO g k)=some (.int .u64 (x:Int)):=by
    have⟨r,z,_,hc⟩:=X.out;have:=(R.2.block g HG.out).trans z;rw[ay this];exact hc k x hx
   have cB:=(d.cell HB.1).trans HB.2;have Sr:x<18446744073709551616:=by
    have⟨_,_,a7,_⟩:=OK.out x<|zzh hx;exact a7
   have my:=(HL.out.fr (S:=[]) ⟨d.os,d.tape,d.output,d.size,λk o _=>d.block k o⟩ (by simp)).look underlying136 (JG wr) trivial Sr;rw[<-q]at my;have HY:=af<|zzb q hx;clear q hx
   change (Instr.lookup _ _ (.int .u64 (x:Int)) false).run _ _=.ok (.agg #[.int .i64 (y.state:Int),.int .i64 (y.done:Int),.int .u64 (y.last:Int)]) _ at my;have a1:=R.2.size;have HT:Hid (f.take (k+1)=f.take k++[y]):=by
    show _=_;rw[HV.out,List.take_add_one,zzy,HY.2,HY.1];rfl
   gi_wp2_with (gi_at_builtin;apply wpListIn_append_own _ rfl _ _ 361 rfl w.heap.size 199 i0 _ 3 24 underlying361 hi a' aa ab rfl bM _ k _ rfl (R.1.alloc _) (gz wr.heap.size) 1 1 (elT y) rfl rfl (dU _ #[.int .i64 (y.state:Int),.int .i64 (y.done:Int),.int .u64 (y.last:Int)] _) (by intro u hu;simp[elT]at hu;obtain rfl|rfl|rfl:=hu<;>rfl) eA bL cE;intro v' w2 bw bP _);go_roundw;case rel=>
    refine⟨k+1,bL,bR,by rw[HT.out,Lg];exact bw,?_⟩;exact((R.2.alloc a1 _).grown bP cE λj T=>(R.1.lt j T).1)
   case measure=>simp[intOf];omega
  .obtain rfl:k=a:=bL;obtain⟨h,GY,rfl⟩:=jb R.1 bL;have Oz:Hid (∃C,wr.heap[h]?=some (.cells C 199 (0,0))/\W.heap.size<=h/\∀(j:Nat) (y:ft),f[j]?=some y->C[j*3]?=some (Value.int .i64 (y.state:Int))/\C[j*3+1]?=some (Value.int .i64 (y.done:Int))/\C[j*3+2]?=some (Value.int .u64 (y.last:Int))):=by
    rcases R.1.2 with⟨_,h3⟩|⟨g',Z,r,e,hb,z,_,_,a1,lK⟩
    .omega
    .obtain⟨e1,e2⟩:h=g'/\GY=Z:=by simpa using e
     subst e1;have UM:f.length=k:=by rw[HV.out,zzn,E.out]
     refine⟨r,z,zzk H.out.size hb,λj y T=>?_⟩;have K3:j<k:=by have:=(zzd.1 T).1;omega
     have e3:f.take k=f:=zzt bL;rw[e3]at lK;have eW:=JN f j y T;rw[<-lK]at eW;rw[List.getElem?_take_of_lt bL,List.getElem?_take_of_lt bL,List.getElem?_take_of_lt bL]at eW;simpa using eW
   have⟨r,JJ,Rz,a6⟩:=X.out;have⟨C,xX,GZ,xY⟩:=Oz.out;have g_:=(R.2.block g HG.out).trans JJ;have d:=H.out.trans<|R.2.mono H.out.size;have V:=af<|zzb a6 xY;have HS:=af<|zzb (Ry.out _ d)<|zzb g_<|zzb (gl _ _ Rz d)<|zzb xX<|gl _ _ GZ d;clear X Oz JJ a6 xX xY g_ d gl
   gi_wp2;gi_loopw [27] (λi wr=>∃j:Nat,j<=k/\i=.int .i64 j/\Hid (J ((yi L ss).take j) wr/\wr.heap[g]?=some (.cells r 43 (0,0))/\P g wr/\wr.heap[h]?=some (.cells C 199 (0,0))/\P h wr))
    (λi _=>k-(intOf i).toNat)
   case atStart=>exact⟨0,zzs _,rfl,by rw[List.take_zero];exact HS.out⟩
   case round=>
    obtain⟨j,T,rfl,Q⟩:=hrel;by_cases qf:j<k
    .obtain⟨x,hx⟩:∃x,ss[j]?=some x:=⟨_,zzg<|by have:=E.out;omega⟩;have⟨y,q⟩:∃y,y=(ak L x).getD ⟨0,0,0⟩:=⟨_,rfl⟩;have wK:f[j]?=some y:=by rw[HV.out,zzy,hx,q];rfl
     have Lc:(x,y)∈L:=by
      have⟨v,hv,_,e⟩:=OK.out x<|zzh hx;rw[q,e];exact hv
     have MZ:Hid ((yi L ss).take (j+1)=(yi L ss).take j++[(x,y)]):=by
      show _=_;rw[List.take_add_one];unfold yi;rw[zzy,hx,q];rfl
     have cx:wr.cell? (hO g j)=some (.int .u64 (x:Int)):=by rw[ay Q.2.1];exact V.1 j x hx
     have ad:wr.cell? (hO h (j*3))=some (.int .i64 (y.state:Int)):=by rw[ay Q.2.2.2.1];exact(V.2 j y wK).1
     have al:wr.cell? (hO h (j*3+1))=some (.int .i64 (y.done:Int)):=by rw[ay Q.2.2.2.1];exact(V.2 j y wK).2.1
     have an:wr.cell? (hO h (j*3+2))=some (.int .u64 (y.last:Int)):=by rw[ay Q.2.2.2.1];exact(V.2 j y wK).2.2
     have⟨fn,tmps,assign,body,NP,xj⟩:=hY _ (x,y) wr Q.1 (by rw[zzm,<-HM.out];omega) Lc;clear hx q wK Lc;gi_wp2;apply xj.mono;rintro e N (⟨rfl,rP,kW⟩|⟨rfl,uX⟩)
     .have p1:=jo _ _ _ _ _ (.inl rfl) kW Q.2.1 Q.2.2.1;have U:=jo _ _ _ _ _ (.inr rfl) kW Q.2.2.2.1 Q.2.2.2.2;have HN:Hid (J ((yi L ss).take<|j+1) N/\N.heap[g]?=some (.cells r 43 (0,0))/\P g N/\N.heap[h]?=some (.cells C 199 (0,0))/\P h N):=⟨by rw[MZ.out];exact rP,p1.1.trans Q.2.1,p1.2,U.1.trans Q.2.2.2.1,U.2⟩;clear p1 U rP kW
      gi_wp2;go_roundw;case rel=>exact⟨j+1,bL,bR,HN.out⟩
      case measure=>simp[intOf];omega
     .gi_wp2;apply bodyPost_ret (results_none rfl _ _ _) rfl;exact⟨⟨_,rfl⟩,.inr ⟨_,trivial,uX⟩⟩
    .obtain rfl:j=k:=bL;gi_wp2;go_end0;refine⟨⟨_,rfl⟩,.inl ⟨ss,G.1,G.2,?_⟩⟩;have e:(yi L ss).take j=yi L ss:=by
      rw[zzt];unfold yi;rw[zzn,E.out];exact zzc _
     rw[<-e];exact Q.1
theorem Ac(n:Nat)(hn:6<=n)(f b m:Nat)(L:List (Nat × ft))(Q:L.length<=12)(w:World)(T:f<w.heap.size)(O:w.cell? ⟨f,0,none⟩=some (.map (some b)))(H:aO KU ET w b m L)
  (K:World->World->Prop) (P:Nat->World->Prop)
  (E:∀W k A,Below w.heap.size w W->W.heap.size<=k->Below W.heap.size W A->P k A)
  (N:∀k A B c t,(t=43\/t=199)->K A B->A.heap[k]?=some (.cells c t (0,0))->P k A->B.heap[k]?=A.heap[k]?/\P k B) :
  SeqStopsK Fence.wide n prog 233 #[.pointer (some ⟨f,0,none⟩)] (λy:{ x:Nat × ft // x∈L }=>#[.int .u64 (y.1.1:Int),.agg #[.int .i64 (y.1.2.state:Int),.int .i64 (y.1.2.done:Int),.int .u64 (y.1.2.last:Int)]]) K (λV=>∃ss,ss.Perm (L.map (·.1))/\ss.Pairwise (·<=·)/\V.map (·.1)=yi L ss) (λ_=>True) L.length w:=λl J u W d G _ Y F=>by
 have h:=G6 n hn l f b m L Q W K P (λk A=>E W k A d) N (λi W=>∃g:List { x:Nat × ft // x∈L },g.map (·.1)=i/\J g W) (λi W=>∃g:List { x:Nat × ft // x∈L },g.map (·.1)=i/\u g W)
  (λs A B hs D=>by obtain⟨a,e,j⟩:=hs;exact⟨a,e,G a A B none j D (λr e=>by cases e)⟩)
  (λi x z j U o=>by
   obtain⟨a,e,j⟩:=j;obtain⟨C,tmps,assign,body,M,R⟩:=Y a ⟨x,o⟩ z j (by rw[<-e,zzn] at U;exact U);refine⟨C,tmps,assign,body,M,R.mono ?_⟩;rintro q v (⟨r1,r2,r3⟩|⟨r1,r2⟩)
   .exact .inl ⟨r1,⟨a++[⟨x,o⟩],by simp[e],r2⟩,r3⟩
   .exact .inr ⟨r1,⟨a++[⟨x,o⟩],by simp[e],r2⟩⟩)
  ((d.cell (p:=⟨f,0,none⟩) T).trans O) (H.fr (S:=[]) ⟨d.os,d.tape,d.output,d.size,λk I _=>d.block k I⟩ bR) ⟨[],rfl,F⟩
 refine h.mono ?_;rintro e v ⟨he,⟨ss,h1,h2,a,q,j⟩|⟨i,_,a,_,j⟩⟩
 .exact⟨he,.inl ⟨a,⟨ss,h1,h2,q⟩,j⟩⟩
 .exact⟨he,.inr ⟨a,trivial,j⟩⟩
theorem G9(n:Nat)(b:Nat)(w:World):
  CallsIn Fence.wide n prog 187 #[.map<|some b] w λe w'=>e=.returned (.func (.func 233) #[] #[.pointer<|some ⟨w.heap.size,0,none⟩])/\w'=w.alloc (.cells #[.map<|some b] 136):=by
 refine callsIn_of_wp func187 rfl trivial ?_ rfl;simp only[ntmps187,mB,zzr,mH,Nat.reduceAdd,Nat.reduceSub,mK,mL,nb,nU,n5,qC];gi_wp2;go_ret;exact⟨rfl,rfl⟩
theorem mi{F:Fence}{n:Nat}{P:Program}(w:World){ops:Array Oper}{rest:List Oper}{o:Oper}{a:Act}{Q:Exit->Act->World->Prop}
  (M:o.guard=none) (s x:Operand) (t:TypeId) (g:o.op=Op.call {callee:=Callee.builtin Builtin.append,args:=#[s,x],argTypes:=#[t,t]})
  (base:Nat) (e:TypeId) (i:TypeInfo) (z:Value) (size bytes:Nat) (q:P.underlying t=some (.slice e)) (B:P.info? e=some i) (C:i.zero=some z) (D:i.size=size) (E:i.bytes=bytes) (G:z.cells.size=size) (H:0<size)
  (v:Value) (k:Nat) (xs:List Value) (hs:a.eval s=v) (A:w.ownsRow base e size v k xs) (d:Addr) (m c:Nat) (news:List Value) (N:a.eval x=.slice (some d) m c) (hn:news.length=m*size)
  (L:∀j u,news[j]?=some u->w.cell? (d.add j)=some u) (r:∀u∈news,u.oneCell'=true) (h:k+m<=maxLen) (l:(k+m)*bytes<=140737488355328) (p:base<=w.heap.size)
  (I:∀b w',w'.ownsRow base e size b (k+m) (xs++news)->w.grownBy w' v.ownBlock->(b.ownBlock=v.ownBlock\/b.ownBlock=some w.heap.size)->wpListIn F n P ops Q rest (a.put o.dst b) w') :
  wpListIn F n P ops Q (o::rest) a w:=by
 refine wpListIn_plain M λK J=>?_
 have⟨b,w',f,O,R,_,S⟩:=run_append_own_at w base t o.type e i z size bytes q B C D E G H v k xs A d m c news hn L r h l p;unfold Oper.wpIn;refine⟨?_,?_⟩
 .simp[Oper.about,g,resolve,Target.leads,Sem.run_pure]
 .rw[Oper.semAt_plain F _ _<|by rw[g];intro c y;cases y];simp[execOp,g,resolve,invoke,builtin,hs,N,f,Result.andThen];exact J _ _<|I b w' O R S
def waits(s:List (Nat × ft)):List Nat:=(s.filter λy=>decide (y.2.state=3)).map (·.1)
def ik{L:List (Nat × ft)}(e:List { x:Nat × ft // x∈L }):List Nat:=waits (e.map (·.1))
theorem HU{L:List (Nat×ft)}(e:List {x:Nat×ft//x∈L})(x:{x:Nat×ft//x∈L})(h:x.1.2.state=3):ik (e++[x])=ik e++[x.1.1]:=by simp[ik,waits,h]
theorem LD{L:List (Nat×ft)}(e:List {x:Nat×ft//x∈L})(x:{x:Nat×ft//x∈L})(h:x.1.2.state≠3):ik (e++[x])=ik e:=by simp[ik,waits,h]
theorem H_{L:List (Nat×ft)}(e:List {x:Nat×ft//x∈L}):(ik e).length<=e.length:=by
 unfold ik waits;rw[zzn];exact zzk (List.length_filter_le _ _) bR
theorem yH(n:Nat)(hn:8<=n)(b lg bV T bH m:Nat)(s:ag)(w:World)(h:a_ w b lg bV T bH m s)(Y:s.ai.length<=12):
  CallsIn Fence.wide n prog 142 #[.pointer (some ⟨b,0,none⟩)] w λe w'=>∃v ss,e=.returned v/\ss.Perm (s.ai.map (·.1))/\ss.Pairwise (·<=·)/\w'.ownsRow w.heap.size 43 1 v (waits (yi s.ai ss)).length (eI (waits (yi s.ai ss)))/\(v=.slice none 0 0↔waits (yi s.ai ss)=[])/\Below w.heap.size w w':=by
 have a1:Fence.wide.round=none:=rfl;have i:1<=n:=bL;have aQ:Fence.wide.fn 187:=trivial;have dz:Fence.wide.fn 233:=trivial;obtain⟨i0,hi,a8,aa,ab⟩:=info_parts xh;have H:=af (zzb h.ai Y);have xo:b<w.heap.size:=(zza.1 h.blk).1
 have c2:(w.alloc (.cells #[.slice none 0 0] 220)).cell? ⟨b,2,none⟩=some (.map (some T)):=by
  rw[World.cell?_alloc_lt _ _ ⟨b,2,none⟩ xo];have:=ae h.blk 2
  simpa using this
 obtain⟨L,R⟩:∃L,L=s.ai:=⟨_,rfl⟩;rw[<-R] at H ⊢;clear h Y R;refine callsIn_of_wp_marks func142 rfl trivial ?_ a1;simp only[ntmps142,mB,zzr,mH,Nat.reduceAdd,Nat.reduceSub,mK,mL,nb,nU,n5,qC]
 gi_wp2_with (gi_at_call 187;refine(G9 _ T _).mono ?_;rintro e w2 ⟨rfl,rfl⟩)
 have O:=Boxed.new w 220 (.slice none 0 0);have z:=Boxed.new (w.alloc (.cells #[.slice none 0 0] 220)) 136 (.map (some T));rw[zzv] at z;have J:=O.alloc (.cells #[.map (some T)] 136);have M:Below w.heap.size w ((w.alloc (.cells #[.slice none 0 0] 220)).alloc (.cells #[.map (some T)] 136)):=((zzD _ w).alloc (zzc _) _).alloc bR _;have a7:((w.alloc (.cells #[.slice none 0 0] 220)).alloc (.cells #[.map (some T)] 136)).heap.size=w.heap.size+2:=bR
 obtain⟨g,N⟩:∃g,((w.alloc (.cells #[.slice none 0 0] 220)).alloc (.cells #[.map (some T)] 136))=g:=⟨_,rfl⟩;rw[N] at z J M a7 ⊢;clear N O c2;have Cq:aO KU ET g T m L:=H.1.fr (S:=[]) ⟨M.os,M.tape,M.output,M.size,λk q _=>M.block k q⟩ bR
 refine wpIn_rangeFunc_ownH a1 i (gf:=233) (lb:=#[.pointer (some ⟨w.heap.size+1,0,none⟩)]) rfl dz (enters_of func233 dJ rfl)
  (Ac (n-1) bL (w.heap.size+1) T m L H.2 g bL z.cell Cq (xU 43 199 w.heap.size w.heap.size) (λk A=>¬D9 w.heap.size A k)
   (λW k A V _ j r=>by
    obtain⟨v,K,e2⟩:=r;have i:A.cell? ⟨w.heap.size,0,none⟩=g.cell? ⟨w.heap.size,0,none⟩:=(j.cell (p:=⟨w.heap.size,0,none⟩) (by have:=V.size;show w.heap.size<_;omega)).trans (V.cell (p:=⟨w.heap.size,0,none⟩) (by show w.heap.size<_;omega));rw[i,J.cell] at K
    cases K
    cases e2)
   (λk A B c t ht q j hn=>⟨q.same k c t ht j hn,λr=>hn (q.stay k (zza.1 j).1 r)⟩))
  (λh k=>h.trans k) (xU.book bL bL) (zzD _ _) (λ_=>rfl)
  (λa W=>(∃v,Boxed W w.heap.size 220 v/\W.ownsRow w.heap.size 43 1 v (ik a).length (eI (ik a))/\(v=.slice none 0 0↔ik a=[]))/\Below w.heap.size w W)
  (λ_ _ _=>False)
  (OwnFrom.and (Own.from (holdsRow_own w.heap.size w.heap.size 220 43 1 (λa:List { x:Nat × ft // x∈L }=>(ik a).length) (λa=>eI (ik a)) (λa v=>(v=.slice none 0 0↔ik a=[]))) _) (ownFrom_below (zzc _) bL))
  (λ_ _ _ _ _ hs _ _=>hs)
  ⟨⟨_,J,zzu _ _ _ _,by simp[ik,waits]⟩,M⟩
  (λx y W=>∃d,w.heap.size<d/\W.heap[d]?=some (.cells #[.int .i64 (x.1.2.state:Int),.int .i64 (x.1.2.done:Int),.int .u64 (x.1.2.last:Int)] 199 (0,0))/\y={ tmps:=#[.pointer (some ⟨b,0,none⟩),undef,.slice none 0 0,.pointer (some ⟨w.heap.size,0,none⟩),.int .u64 (x.1.1:Int),.pointer (some ⟨d,0,none⟩),.pointer (some ⟨b,0,none⟩),.pointer (some ⟨b,0,none⟩),.pointer (some ⟨b,2,none⟩),.map (some T),.func (.func 233) #[] #[.pointer (some ⟨w.heap.size+1,0,none⟩)],.int .u64 (x.1.1:Int),.agg #[.int .i64 (x.1.2.state:Int),.int .i64 (x.1.2.done:Int),.int .u64 (x.1.2.last:Int)],undef,undef,undef,undef,undef,undef,undef,undef],defers:=[] })
  (λx y _ X al row hs hg r=>by
   obtain⟨d,i,C,f⟩:=hs
   exact⟨d,i,(hg.block d (zza.1 C).1 (λe=>by obtain⟨_,o,ho,E⟩:=r d e.symm;rw[C] at ho;cases ho;cases E)).trans C,f⟩)
  ?assign ?body ?done ?stop
 case assign =>
  have jE:=@Oper.semAt_some;rintro l a x W ad ⟨⟨v,hv,aI,dM⟩,nE⟩ hK;have U:=af dM;clear dM
  gi_wp2
  exact hK _ _ ((KeepsOthers.alloc _ _).from _) (xU.alloc _ nE.size hv.lt _) ⟨⟨v,hv.alloc _,aI.alloc _,U.out⟩,nE.alloc nE.size _⟩ ⟨W.heap.size,hv.lt,World.alloc_heap_new W _,rfl⟩
 case body =>
  have jE:=@Oper.semAt_some;rintro l a x y W eh _ ⟨⟨v,hv,aI,dM⟩,hB⟩ ⟨d,hBx,bX,rfl⟩ bU;have E:=hv.cell;have x0:=ay bX 0;simp at x0;have U:=af dM;clear dM;have Bf:=H_ a;have uP:=H.2;by_cases f:x.1.2.state=3
  .have HW:=af (HU a x f);rw[f] at x0 bX;rw[f];clear f
   gi_wp2_with (gi_at_builtin;refine mi _ rfl _ _ 220 rfl w.heap.size 43 i0 _ 1 8 underlying220 hi a8 aa ab rfl bM _ _ _ rfl (aI.alloc _) ⟨W.heap.size,0,none⟩ 1 1 [.int .u64 (x.1.1:Int)] rfl rfl (dU _ #[.int .u64 (x.1.1:Int)] _) (by intro u hu;simp at hu;subst hu;rfl) eA bL (by have:=hB.size;simp;omega) ?_;intro v' w1 I G Q;obtain⟨g',fR,rfl⟩:=ownsRow_succ I;obtain⟨yg,ot,UU,tP,Z⟩:=hv.appended bM aI hB.size (zzc _) I G;have iX:=yg.cell;have bh:=yg.frozen;have a6:Hid (xU 43 199 w.heap.size w.heap.size W (w1.setCell ⟨w.heap.size,0,none⟩ (.slice (some ⟨g',0,none⟩) ((ik a).length+1) fR))):=xU.appended hv bM bM G Q Z ot;clear Q)
   exact⟨tP.from _,a6.out,⟨_,ot,by rw[HW.out,uR];simpa using UU,by rw[HW.out];simp⟩,hB.trans Z⟩
  .have HW:=af (LD a x f);have i3:¬(x.1.2.state:Int)=3:=bL;gi_wp2
   exact⟨KeepsFrom.refl _ _,xU.refl _,⟨v,hv,by rw[HW.out];exact aI,by rw[HW.out];exact U.out⟩,hB⟩
 case done =>
  rintro D ys W hD G5 ⟨⟨v,hv,aI,dM⟩,hB⟩ hK;have E:=hv.cell;have U:=af dM;clear dM;obtain⟨ss,p1,p2,p3⟩:=G5;have e:ik ys=waits (yi L ss):=by unfold ik;rw[p3]
  have F:=af e;have P:=af (zzb p1 p2);clear e p1 p2 p3
  gi_wp2
  refine⟨bR,.inl ⟨_,_,rfl,run_takeDeferred hK,?_⟩⟩;exact⟨_,results_tmp rfl _ _ _,v,ss,rfl,P.1,P.2,by rw[<-F.out];exact ownsRow_putObj aI _ hK rfl,by rw[<-F.out];exact U.out,hB.trans (belowK_b (w:=w) (zzc _) W D _ _ bL hK rfl rfl)⟩
 case stop =>
  rintro D c a W _ _ h _;exact h.elim
theorem E3(p lg V T H m:Nat)(s:ag)(w:World)(h:a_ w p lg V T H m s)(l:s.ai.length<=12):
  Calls prog 142 #[.pointer<|some ⟨p,0,none⟩] w λe w'=>∃v ss,e=.returned v/\ss.Perm (s.ai.map (·.1))/\ss.Pairwise (·<=·)/\w'.ownsRow w.heap.size 43 1 v (waits<|yi s.ai ss).length (eI<|waits<|yi s.ai ss)/\(v=.slice none 0 0↔waits (yi s.ai ss)=[])/\Below w.heap.size w w':=
 (callsIn_wide).1 (yH 8 (zzc _) p lg V T H m s w h l)
end
end Go.Proofs.YtcalalndmcemiaaGreatDoor
