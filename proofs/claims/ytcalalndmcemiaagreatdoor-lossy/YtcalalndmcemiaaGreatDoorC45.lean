import Derived.Test.YtcalalndmcemiaaGreatDoorC44
import Derived.Test.YtcalalndmcemiaaGreatDoorC25
import Derived.Test.YtcalalndmcemiaaGreatDoorC42
set_option maxHeartbeats 8000000
set_option maxRecDepth 100000
namespace Go.Proofs.YtcalalndmcemiaaGreatDoor
open Go.RowKit Go.Maps Tryz Sc
section
open Go.Shelf
variable{W w:World}{d:ah}{l:au}
theorem abX:¬bo 57:=by simp[bo]
theorem YO:(Tryz.prog.info? 57).map (λi=>(i.zero,i.size,i.bytes))=some (some<|.agg #[.int .i64 0,.string ByteArray.empty,.string ByteArray.empty],3,40):=dJ
theorem FW{G:World}{B E n K j p:Nat}{J C bv N r v:Value}{F:Bool}{I:List Nat}{ps:List (Nat×Value×Value)}{A:aB}{x:aS}{o:Oper}{a:Act}{z:Act->World->Prop}{Q:Exit->Act->World->Prop}(y:Nat×ByteArray×ByteArray)(h:oh G w B E n K J C bv N F I ps A)(H:ps[j]?=some (p,r,v))(M:A.ds[j]?=some x)(hl:x.writes.length<=60000000)
  (s t:Operand) (V:o.op=.call {callee:=.builtin .append,args:=#[s,t],argTypes:=#[58,58]}) (hs:a.eval s=v) {b:Nat} (Y:a.eval t=.slice (some ⟨b,0,none⟩) 1 1) (hf:Fr [] w W) (hb:kX W b<|.cells #[.int .i64 (y.1:Int),.string y.2.1,.string y.2.2] 57)
  (post:∀l m q f,f.heap[p]?=some (wj r v x)->oh G (f.setCell ⟨p,2,none⟩<|.slice l m q) B E n K J C bv N F I (ps.set j (p,r,.slice l m q)) {A with ds:=A.ds.set j {x with writes:=x.writes++[y]}}->z (a.put o.dst<|.slice l m q) f):o.wp prog a W z Q:=by
 have⟨i0,U,Z,a1,a6⟩:=info_parts YO;have i:=h.law.each j _ x H M;have T:=aD i.qE hf bR;have P:=ae hb 0;have X:=ae hb 1;have D:=ae hb 2;simp at P X D;refine gO s t 58 V B 57 i0 _ 3 40 underlying58 U Z a1 a6 rfl bM v x.writes.length _ hs T (gz b) 1 1 (wrC y) Y rfl (λk u c=>?_) (by intro u L;simp at L;obtain rfl|rfl|rfl:=L<;>rfl) eA bL (zzk h.law.low.2 hf.size) ?_
 .match k,c with
  |0,c=>simp at c;subst c;simpa [Addr.add]using P
  |1,c=>simp at c;subst c;simpa [Addr.add]using X
  |2,c=>simp at c;subst c;simpa [Addr.add]using D
 .intro v' f cA d eW;obtain⟨l,m,q,rfl⟩:=ct cA;have R:=(zza.1 i.blk).1;simp only[]at R;have pz:=((Fr.bz d).block p (by have:=hf.size;omega)<|by simp;exact bj i.qE i.blk bM).trans ((hf.block p R bR).trans i.blk);have⟨q1,O⟩:=h.law.aby H M hf d cA (λg d=>eW.elim (λe=>.inl<|by rw[<-e];exact d) λe=>.inr<|by rw[e]at d;cases d;exact hf.size);have⟨S,hN⟩:=h.oZ;exact post l m q f pz ⟨q1,⟨S,O.oZ hN⟩,h.bC,h.xA.trans<|O.lg h.law.low.2⟩
theorem kX.wrote{g:Nat}{t:TypeId}{a b c x y z:Value}(hf:Fr [] w W)(h:kX W g<|.cells #[a,b,c] t)(d:w.heap.size<=g):Fr [] w (((W.setCell ⟨g,0,none⟩ x).setCell ⟨g,1,none⟩ y).setCell ⟨g,2,none⟩ z)/\kX (((W.setCell ⟨g,0,none⟩ x).setCell ⟨g,1,none⟩ y).setCell ⟨g,2,none⟩ z) g (.cells #[x,y,z] t)/\w.heap.size<=g:=by
 refine⟨((hf.setCell (.inr d) _).setCell (.inr d) _).setCell (.inr d) _,?_,d⟩;have:=ar (ar (ar h 0 x) 1 y) 2 z;simp at this;exact this
def DJ(id m:Nat):ByteArray:=(((⟨#[116]⟩:ByteArray)++str (lI id))++⟨#[46]⟩)++str (lI m)
section
variable{G w:World}{B E n K:Nat}{J:Value}{I:List Nat}{A:aB}{x:aS}{j i sq:Nat}{s s':ag}{out:List bt}
theorem sX(a b c:Int)(aa:bJ G w B E n K J I A)(hn:n=A.ss.length)(rX:n<=90)(pz:1<=n)(ha:ly a)(hb:ly b)(hc:ly c)(hj:j=A.ds.length-1-mq a A.ds.length)(hx:A.ds[j]?=some x)(hi:i=mq b n)(M:A.ds.length<=1000000)(bh:x.id<1000000000)(hB:2<=B)(bp:Met G)(aH:bI G)(h:K<=290000){er:Nat}(vH:x.asked=false)(hlen:x.seq.length=n+1)(hs:A.ss[i]?=some (s,out))(uG:x.seq[i+1]?=some sq)(gu:s.aJ x.id (sq:Int) (eV (mq c 5)) ⟨1,DJ x.id x.writes.length⟩=(s',er))(Bf:x.writes.length<=1000000)(zU:sq<=1000000):
  Calls prog 56 #[cQ E,o0 3 a b c] w λe w'=>e=.returned (.bool true)/\bJ G w' B E n (K+1) J I (Nj A j i x sq s' out [(i+1,eV (mq c 5),DJ x.id x.writes.length)] er):=by
 have I_:=ry (mq c 5) (gD c 5 (by decide));obtain⟨dv,bv,ov,fl,ps,hL⟩:=aa.l;obtain⟨gh,d_,rfl,-⟩:=hL.Dh hn;obtain⟨gd,dc,p,rfl,hp,-,-⟩:=hL.law.nz hx;obtain⟨l,sv,wv⟩:=p;obtain⟨D,hD⟩:∃D,D=A.ds.length:=⟨_,rfl⟩;rw[<-hD] at hL hj M;have nM:j<D:=by rw[hD];exact(zzd.1 hx).1
 obtain⟨q,R⟩:∃q,q=mq a D:=⟨_,rfl⟩;obtain⟨k,na⟩:∃k,k=mq c 5:=⟨_,rfl⟩;have pL:=λw'=>eU a D w' ha.1 (by have:=ha.2;omega) (by omega) (by omega)
 have su:=λw'=>eU b n w' hb.1 (by have:=hb.2;omega) (by omega) (by omega)
 have BN:=λw'=>eU c 5 w' hc.1 (by have:=hc.2;omega) (by omega) (by omega)
 rw[<-R] at pL;rw[<-hi] at su;rw[<-na] at BN;have b1:q<D:=by rw[R];exact gD _ _ (by omega)
 have je:i<n:=by rw[hi];exact gD _ _ (by omega)
 have JR:k<5:=by rw[na];exact gD _ _ (by omega)
 have aQ:j=D-1-q:=by rw[hj,R]
 obtain⟨d,nC⟩:∃d,d=i+1:=⟨_,rfl⟩;obtain⟨W,hW⟩:∃W,W=w.alloc (iV 3 a b c):=⟨_,rfl⟩;have gG:Fr [] w W:=by rw[hW];exact(Fr.refl [] w).alloc _
 have mP:W.heap[w.heap.size]?=some (iV 3 a b c):=by rw[hW];exact heap_alloc_new w _
 have iP:=hL.new gG;obtain⟨bf,bc,p1,VL,lr,Ku,-⟩:=iP.law.nz hx;rw[<-hD] at VL
 cases VL;rw[hp] at lr
 cases lr;have n1:=ae iP.law.net 1;have X:=ae mP 0;have s1:=ae mP 1;simp at n1 X s1 Ku;have DI:=af pL;have Q5:=af su;have VM:=af BN;have Dj:=af (zzb iP mP);have H:=af (zzb hn (zzb hD (zzb hx (zzb hp (zzb bp (zzb aH (zzb na nC)))))));have D0:¬(D:Int)=0:=by omega
 have D1:IntKind.i64.wrap ((D:Int)-1)=(D:Int)-1:=by rw[IntKind.wrap_i64];omega
 have D2:IntKind.i64.wrap ((D:Int)-1-(q:Int))=(j:Int):=by rw[IntKind.wrap_i64];omega
 have j0:(0:Int)<=(j:Int):=by omega
 have j1:(j:Int)<(D:Int):=by omega
 have nK:IntKind.i64.wrap (1+(i:Int))=(d:Int):=by rw[IntKind.wrap_i64];omega
 have b5:1<=d/\d<=n:=by omega
 rw[hW] at n1 X s1 Ku;rw[<-na] at gu I_ ⊢;rw[<-nC] at uG;have Z:=af (zzb uG hlen);have HA:=af vH;have av:Hid (n=(A.ss.set i (s',out)).length):=by rw[List.length_set];exact hn
 clear vH;have HO:=af (zzb hs (zzb gu I_));clear hs gu I_ uG hlen;clear aa hL hn hD hx hp hj hi R na pL su BN gG mP iP bp aH b1 aQ ha hb hc nC M nM
 go_enter func56,ntmps56
 go_wp2_with fail;rw[<-hW];rw[<-hW] at n1 X s1 Ku;clear hW X
 go_region_held3 (λw'=>w'.cell? ⟨E,1,none⟩=some (.slice (some ⟨gd,0,none⟩) D dc)/\w'.cell? ⟨w.heap.size,1,none⟩=some (.int .i64 a)/\w'.cell? ⟨gd,j,none⟩=some (.pointer (some ⟨l,0,none⟩))) (simp[*])
  (first|(go_at_call 10;refine(DI.out _).mono ?_;rintro e w3 ⟨rfl,rfl⟩))
 have ig:=af (zzb (Dj.1.new (Fr.refl [] W).drew) (show W.drew.heap[w.heap.size]?=some (iV 3 a b c) from Dj.2));generalize W.drew=W2 at ig ⊢;clear n1 s1 Ku D0 D1 D2 DI Dj;have n4:=ae ig.1.law.net 4;have s2:=ae ig.2 2;simp at n4 s2;go_wp2_with fail
 go_region_held3 (λw'=>w'.cell? ⟨w.heap.size,2,none⟩=some (.int .i64 b)/\w'.cell? ⟨E,4,none⟩=some (.int .i64 (n:Int))) (simp[*])
  (first|(go_at_call 10;refine(Q5.out _).mono ?_;rintro e w3 ⟨rfl,rfl⟩))
 have zO:=af (zzb (ig.1.new (Fr.refl [] W2).drew) (show W2.drew.heap[w.heap.size]?=some (iV 3 a b c) from ig.2));generalize W2.drew=W3 at zO ⊢;clear n4 s2 Q5 ig;have s3:=ae zO.2 3;simp at s3;go_wp2_with fail;refine(VM.out _).mono ?_;rintro e w4 ⟨rfl,e4⟩;rw[e4];clear e4 s3 VM;go_wp2_with fail;refine(iI k (by omega) W3).mono ?_;rintro e N ⟨rfl,cO⟩;have iz:N.heap[w.heap.size]?=some (iV 3 a b c):=(cO.block _ (zza.1 zO.2).1 (by simp)).trans zO.2;have lz:=af (zzb (zO.1.new cO) iz);clear cO iz zO;have Cj:(⟨#[107]⟩:ByteArray)++str (lI k)=eV k:=by unfold eV;rw[show(107 :: lI k)=[107]++lI k from rfl,xw];rfl
 have b3:(str (lI k)).size=1:=by rw[cR,mW (by omega)];rfl
 have b2:(⟨#[107]⟩:ByteArray).size=1:=rfl;have M1:¬9223372036854775807<1+(str (lI k)).size:=by omega
 have X:=ae lz.2 0;have M:=lz.1.law.each j _ x H.2.2.2.1 H.2.2.1;have d3:=ae M.blk 3;simp at X d3;rw[HA.out] at d3;obtain⟨m,a1⟩:∃m,m=x.writes.length:=⟨_,rfl⟩;have Ll:=M.qE
 obtain⟨wo,Q7,aI⟩:∃wo Q7,wv=.slice wo m Q7:=by
  rcases Ll.2 with⟨e,e2⟩|⟨g,b9,bb,e,-⟩
  .exact⟨none,0,by rw[a1,e2];exact e⟩
  .exact⟨_,_,by rw[a1];exact e⟩
 subst aI;rw[<-a1] at HO Bf;have a8:=af a1;clear M Ll a1;go_wp2_with fail;clear X d3 M1 b3 b2;have M:=lz.1.law.each j _ x H.2.2.2.1 H.2.2.1;have d0:=ae M.blk 0;have T:=ae M.blk 2;simp at d0 T;have V:l<N.heap.size:=(zza.1 M.blk).1;have aw:IntKind.i64.wrap (x.id:Int)=(x.id:Int):=by rw[IntKind.wrap_i64];omega
 have cG:x.id<=1099511627776:=by omega
 have cZ:m<=1099511627776:=by omega
 obtain⟨si,Ys⟩:∃si,(str (lI x.id)).size=si:=⟨_,rfl⟩;obtain⟨sm,u9⟩:∃sm,(str (lI m)).size=sm:=⟨_,rfl⟩;have b6:si<=1000000001:=by rw[<-Ys,cR];have:=C1 x.id;omega
 have b7:sm<=1000000001:=by rw[<-u9,cR];have:=C1 m;omega
 have b4:(⟨#[116]⟩:ByteArray).size=1:=rfl;have Ta:(⟨#[46]⟩:ByteArray).size=1:=rfl;have Rx:¬9223372036854775807<1+si:=by omega
 have VV:¬9223372036854775807<1+si+1:=by omega
 have b0:¬9223372036854775807<1+si+1+sm:=by omega
 have ZF:=af M;have ad:l≠N.heap.size:=Nat.ne_of_lt V;have az:¬N.heap.size=l:=λe=>ad e.symm
 clear M
 go_cut [12] from 179 to 196 (λv wx=>∃g,v=.pointer (some ⟨g,0,none⟩)/\Hid (Fr [] N wx/\kX wx g (.cells #[.int .i64 (d:Int),.string (eV k),.string (DJ x.id m)] 57)/\N.heap.size<=g))
 case first =>
  refine zr (S:=(λw'=>w'.cell? ⟨l,0,none⟩=some (.int .u64 (x.id:Int))/\w'.cell? ⟨l,2,none⟩=some (.slice wo m Q7))) (z:=19) (by kernel_rfl) rfl (by kernel_rfl) ((by exact⟨d0,T⟩)) (λL=>?_);refine tkH 0 ?_;refine tkH 1 ?_;refine tkH 2 ?_;refine tkH 3 ?_;refine tkH 4 ?_;refine tkH 5 ?_;refine tkH 6 ?_;refine tkH 10 ?_;refine tkH 11 ?_;refine tkH 12 ?_;refine tkH 13 ?_;refine tkH 14 ?_
  (try simp only[Act.put,List.setIfInBounds_toArray,List.set_cons_zero,List.set_cons_succ])
  refine wpAnyH_ready (rs:=[7,18]) (by kernel_rfl) (by simp) ?_;refine ryC (λK h=>?_) (ryC (λK h=>?_) (AllReadyH.nil))
  .go_simp;refine(iI _ (by assumption) _).mono ?_;rintro e w6 ⟨rfl,hf⟩;have F:Fr [] N w6:=Fr.trans (by repeat (first|with_reducible exact Fr.refl [] _|exact U.out|with_reducible refine Fr.alloc ?_ _|with_reducible refine Fr.drew ?_)) hf;have U:=af F;have f:=(F.block l V (by simp)).trans ZF.out.blk;have u:=ae f 0;have C:=ae f 2;simp at u C;clear hf F f;refine h.out _ _ ?_ (λL=>?_)
   .exact⟨u,C⟩
   clear h K
   (try simp only[Act.put,List.setIfInBounds_toArray,List.set_cons_zero,List.set_cons_succ])
   refine tkH 8 ?_;refine tkH 9 ?_
   (try simp only[Act.put,List.setIfInBounds_toArray,List.set_cons_zero,List.set_cons_succ])
   refine wpAnyH_ready (rs:=[15,18]) (by kernel_rfl) (by simp) ?_;refine ryC (λK h=>?_) (ryC (λK h=>?_) (AllReadyH.nil))
   .go_simp;refine(iI _ (by assumption) _).mono ?_;rintro e P ⟨rfl,hf⟩;have F:Fr [] N P:=Fr.trans (by repeat (first|with_reducible exact Fr.refl [] _|exact U.out|with_reducible refine Fr.alloc ?_ _|with_reducible refine Fr.drew ?_)) hf;have Un:=af F;have f:=(F.block l V (by simp)).trans ZF.out.blk;have u:=ae f 0;have C:=ae f 2;simp at u C;clear hf F f;refine h.out _ _ ?_ (λL=>?_)
    .exact⟨u,C⟩
    clear h K
    (try simp only[Act.put,List.setIfInBounds_toArray,List.set_cons_zero,List.set_cons_succ])
    refine tkH 16 ?_;refine tkH 17 ?_
    (try simp only[Act.put,List.setIfInBounds_toArray,List.set_cons_zero,List.set_cons_succ])
    refine wpAnyH_ready (rs:=[18]) (by kernel_rfl) (by simp) ?_;refine ryC (λK h=>?_) (AllReadyH.nil);go_simp;refine h.out _ _ ?_ (λL=>?_)
    . (first|exact⟨jY L.1 _,jY L.2 _⟩|(simp[*];done))
    clear h K
    (try simp only[Act.put,List.setIfInBounds_toArray,List.set_cons_zero,List.set_cons_succ])
    refine wpAnyH_done (by kernel_rfl) ?_ _;refine zq (o:=⟨none,.store 57 (.tmp 12) (.tmp 196),0,"cluster.go:187",#[⟨18,.data⟩,⟨17,.data⟩,⟨15,.chain⟩,⟨0,.phase⟩,⟨1,.phase⟩,⟨2,.phase⟩,⟨3,.phase⟩,⟨4,.phase⟩,⟨5,.phase⟩,⟨6,.phase⟩,⟨7,.phase⟩,⟨8,.phase⟩,⟨9,.phase⟩,⟨10,.phase⟩,⟨11,.phase⟩,⟨12,.phase⟩,⟨13,.phase⟩,⟨14,.phase⟩,⟨15,.phase⟩,⟨16,.phase⟩,⟨17,.phase⟩,⟨18,.phase⟩],none⟩) rfl rfl ?_;go_simp;go_wp2_with fail
    go_meet
    exact⟨P.heap.size,rfl,Un.out.alloc _,kX.new _ _ rfl,Un.out.size⟩
   .go_simp;refine h.out _ _ ?_ (λL=>?_)
    . (first|exact⟨jY L.1 _,jY L.2 _⟩|(simp[*];done))
    clear h K
    (try simp only[Act.put,List.setIfInBounds_toArray,List.set_cons_zero,List.set_cons_succ])
    refine wpAnyH_ready (rs:=[15]) (by kernel_rfl) (by simp) ?_;refine ryC (λK h=>?_) (AllReadyH.nil);go_simp;refine(iI _ (by assumption) _).mono ?_;rintro e P ⟨rfl,hf⟩;have F:Fr [] N P:=Fr.trans (by repeat (first|with_reducible exact Fr.refl [] _|exact U.out|with_reducible refine Fr.alloc ?_ _|with_reducible refine Fr.drew ?_)) hf;have r:=af (show kX P w6.heap.size (.cells #[.int .i64 0,.string ⟨#[]⟩,.string ⟨#[]⟩] 57) from kX.fr (by repeat (first|exact a6.out|with_reducible exact kX.new _ _ (by simp)|with_reducible refine kX.alloc ?_ _|with_reducible refine kX.drew ?_)) hf);have Un:=af F;have f:=(F.block l V (by simp)).trans ZF.out.blk;have u:=ae f 0;have C:=ae f 2;simp at u C;clear hf F f;refine h.out _ _ ?_ (λL=>?_)
    .exact⟨u,C⟩
    clear h K
    (try simp only[Act.put,List.setIfInBounds_toArray,List.set_cons_zero,List.set_cons_succ])
    refine tkH 16 ?_;refine tkH 17 ?_
    (try simp only[Act.put,List.setIfInBounds_toArray,List.set_cons_zero,List.set_cons_succ])
    refine wpAnyH_done (by kernel_rfl) ?_ _;refine zq (o:=⟨none,.store 57 (.tmp 12) (.tmp 196),0,"cluster.go:187",#[⟨18,.data⟩,⟨17,.data⟩,⟨15,.chain⟩,⟨0,.phase⟩,⟨1,.phase⟩,⟨2,.phase⟩,⟨3,.phase⟩,⟨4,.phase⟩,⟨5,.phase⟩,⟨6,.phase⟩,⟨7,.phase⟩,⟨8,.phase⟩,⟨9,.phase⟩,⟨10,.phase⟩,⟨11,.phase⟩,⟨12,.phase⟩,⟨13,.phase⟩,⟨14,.phase⟩,⟨15,.phase⟩,⟨16,.phase⟩,⟨17,.phase⟩,⟨18,.phase⟩],none⟩) rfl rfl ?_;have z0:=ae r.out 0;have z1:=ae r.out 1;have z2:=ae r.out 2;have y0:=aj r.out 0;have y1:=aj r.out 1;have y2:=aj r.out 2;simp at z0 z1 z2;go_simp;go_wp2_with fail
    go_meet
    exact⟨w6.heap.size,rfl,kX.wrote Un.out r.out U.out.size⟩
  .go_simp;refine h.out _ _ ?_ (λL=>?_)
   . (first|exact⟨jY L.1 _,jY L.2 _⟩|(simp[*];done))
   clear h K
   (try simp only[Act.put,List.setIfInBounds_toArray,List.set_cons_zero,List.set_cons_succ])
   refine wpAnyH_ready (rs:=[7]) (by kernel_rfl) (by simp) ?_;refine ryC (λK h=>?_) (AllReadyH.nil);go_simp;refine(iI _ (by assumption) _).mono ?_;rintro e w6 ⟨rfl,hf⟩;have F:Fr [] N w6:=Fr.trans (by repeat (first|with_reducible exact Fr.refl [] _|exact U.out|with_reducible refine Fr.alloc ?_ _|with_reducible refine Fr.drew ?_)) hf;have a6:=af (show kX w6 N.heap.size (.cells #[.int .i64 0,.string ⟨#[]⟩,.string ⟨#[]⟩] 57) from kX.fr (by repeat (first|exact a6.out|with_reducible exact kX.new _ _ (by simp)|with_reducible refine kX.alloc ?_ _|with_reducible refine kX.drew ?_)) hf);have U:=af F;have f:=(F.block l V (by simp)).trans ZF.out.blk;have u:=ae f 0;have C:=ae f 2;simp at u C;clear hf F f;refine h.out _ _ ?_ (λL=>?_)
   .exact⟨u,C⟩
   clear h K
   (try simp only[Act.put,List.setIfInBounds_toArray,List.set_cons_zero,List.set_cons_succ])
   refine tkH 8 ?_;refine tkH 9 ?_
   (try simp only[Act.put,List.setIfInBounds_toArray,List.set_cons_zero,List.set_cons_succ])
   refine wpAnyH_ready (rs:=[15]) (by kernel_rfl) (by simp) ?_;refine ryC (λK h=>?_) (AllReadyH.nil);go_simp;refine(iI _ (by assumption) _).mono ?_;rintro e P ⟨rfl,hf⟩;have F:Fr [] N P:=Fr.trans (by repeat (first|with_reducible exact Fr.refl [] _|exact U.out|with_reducible refine Fr.alloc ?_ _|with_reducible refine Fr.drew ?_)) hf;have r:=af (show kX P N.heap.size (.cells #[.int .i64 0,.string ⟨#[]⟩,.string ⟨#[]⟩] 57) from kX.fr (by repeat (first|exact a6.out|with_reducible exact kX.new _ _ (by simp)|with_reducible refine kX.alloc ?_ _|with_reducible refine kX.drew ?_)) hf);have Un:=af F;have f:=(F.block l V (by simp)).trans ZF.out.blk;have u:=ae f 0;have C:=ae f 2;simp at u C;clear hf F f;refine h.out _ _ ?_ (λL=>?_)
   .exact⟨u,C⟩
   clear h K
   (try simp only[Act.put,List.setIfInBounds_toArray,List.set_cons_zero,List.set_cons_succ])
   refine tkH 16 ?_;refine tkH 17 ?_
   (try simp only[Act.put,List.setIfInBounds_toArray,List.set_cons_zero,List.set_cons_succ])
   refine wpAnyH_done (by kernel_rfl) ?_ _;refine zq (o:=⟨none,.store 57 (.tmp 12) (.tmp 196),0,"cluster.go:187",#[⟨18,.data⟩,⟨17,.data⟩,⟨15,.chain⟩,⟨0,.phase⟩,⟨1,.phase⟩,⟨2,.phase⟩,⟨3,.phase⟩,⟨4,.phase⟩,⟨5,.phase⟩,⟨6,.phase⟩,⟨7,.phase⟩,⟨8,.phase⟩,⟨9,.phase⟩,⟨10,.phase⟩,⟨11,.phase⟩,⟨12,.phase⟩,⟨13,.phase⟩,⟨14,.phase⟩,⟨15,.phase⟩,⟨16,.phase⟩,⟨17,.phase⟩,⟨18,.phase⟩],none⟩) rfl rfl ?_;have z0:=ae r.out 0;have z1:=ae r.out 1;have z2:=ae r.out 2;have y0:=aj r.out 0;have y1:=aj r.out 1;have y2:=aj r.out 2;simp at z0 z1 z2;go_simp;go_wp2_with fail
   go_meet
   exact⟨N.heap.size,rfl,kX.wrote Un.out r.out (zzc _)⟩
 case rest =>
 obtain⟨gw,rfl,HC⟩:=hcut;have Y:=af (zzb (lz.1.new HC.1) HC.2);clear d0 T aw cG cZ Ys u9 b4 Ta Rx VV b0 ad az V ZF HC;obtain⟨R,Dl⟩:∃y,I[d]?=some y:=⟨_,zzg (by have:=Y.1.b.ln;have:=H.1;omega)⟩;obtain⟨g6,c6,Uo,eN⟩:=Y.1.Dh H.1
 cases Uo;have Q8:=eN d R Dl;have n0:=ae Y.1.law.net 0;have M:=Y.1.law.each j _ x H.2.2.2.1 H.2.2.1;have d0:=ae M.blk 0;have d1:=ae M.blk 1;obtain⟨gq,cq,Da,Up⟩:=jB M.seq Z.1;rw[Z.2] at Da;simp only[] at Da;subst Da;simp at Q8 n0 d0 d1 Up;have bl:(0:Int)<=(d:Int):=by omega
 have bn:(d:Int)<(n:Int)+1:=by omega
 obtain⟨ev,Db⟩:∃ev:Int,ev=(er:Int):=⟨_,rfl⟩;have Kw:=af Db;clear Db;have w2:=ae Y.2.1 2;simp at w2
 have Bq:∀w',Fr [] wc w'->Calls prog 15 #[.pointer (some ⟨R,0,none⟩),.int .u64 (x.id:Int),.int .i64 (sq:Int),.string (eV k),.string (DJ x.id m)] w' λe an=>e=.returned (.int .i64 ev)/\uu G wc an B E n (K+1) (.slice (some ⟨gh,0,none⟩) (n+1) d_) (.slice (some ⟨gd,0,none⟩) D dc) bv ov fl I ps { A with ss:=A.ss.set i (s',out) }:=λw' al=>by
  have hm:=Y.1.new al;obtain⟨Ls,zN⟩:=hm.oZ;obtain⟨uj,-⟩:=hm.met hB H.2.2.2.2.1 H.2.2.2.2.2.1;have hg:=adn (t:=x.id) (i:=i) (sq:Int) (eV k) (DJ x.id m) zN HO.1 (by rw[<-H.2.2.2.2.2.2.2];exact Dl) hB uj (by omega) (by omega);rw[HO.2.1,<-Kw.out] at hg;refine hg.mono ?_;rintro e an ⟨rfl,hp⟩;exact⟨rfl,(hm.call (A':={ A with ss:=A.ss.set i (s',out) }) hp rfl rfl rfl).of al⟩
 have HG:=af Bq;have HH:=af Dl;clear Bq Dl M eN;go_wp2_with fail
 go_region_held3 (λw'=>w'.cell? ⟨E,0,none⟩=some (.slice (some ⟨gh,0,none⟩) (n+1) d_)/\w'.cell? ⟨gh,d,none⟩=some (.pointer (some ⟨R,0,none⟩))/\w'.cell? ⟨l,0,none⟩=some (.int .u64 (x.id:Int))/\w'.cell? ⟨l,1,none⟩=some (.slice (some ⟨gq,0,none⟩) (n+1) cq)/\w'.cell? ⟨gq,d,none⟩=some (.int .i64 (sq:Int))/\w'.cell? ⟨gw,2,none⟩=some (.string (DJ x.id m))) (simp[*])
  (first|(go_at_call 15;refine(HG.out _ (by first|exact cw (Fr.refl [] wc) _|exact(Fr.refl [] wc).drew|exact Fr.refl [] wc)).mono ?_;rintro e P ⟨rfl,rI⟩;(obtain⟨g7,c7,Qu,qI⟩:=rI.net.Dh av.out);cases Qu;have zt:=qI d R HH.out;have Gh:=ae rI.net.law.net 0;have qJ:=rI.net.law.each j _ x H.2.2.2.1 H.2.2.1;have Q9:=ae qJ.blk 0;have a':=ae qJ.blk 1;(obtain⟨bg,ba,FX,FY⟩:=jB qJ.seq Z.1);rw[Z.2] at FX;cases FX;simp at zt Gh Q9 a' FY;have a7:=rI.own _ _ _ Y.2.1 abX;have ao:=ae a7 2;simp at ao;have O:=af (zzb rI.net a7);clear rI qJ qI a7))
 clear Q8 n0 d0 d1 Up w2 zt Gh Q9 a' FY ao;by_cases Kk:er=0
 .subst Kk;have RN:ev=0:=by rw[Kw.out];rfl
  subst RN;have M:=O.1.law.each j _ x H.2.2.2.1 H.2.2.1;have T:=ae M.blk 2;have g0:=ae O.2 0;have g1:=ae O.2 1;have g2:=ae O.2 2;simp at T g0 g1 g2;have aE:=λo=>jY T o
  have YQ:x.writes.length<=60000000:=by rw[<-a8.out];omega
  clear M;go_wp2_with fail
  go_region_law (first|(rw[if_pos (by rfl)];refine FW (y:=(d,eV k,DJ x.id m)) O.1 H.2.2.2.1 H.2.2.1 YQ _ _ rfl rfl rfl ?_ ?_ ?_;(repeat (first|with_reducible exact Fr.refl [] _|with_reducible refine Fr.alloc ?_ _|with_reducible refine Fr.drew ?_));(repeat (first|with_reducible exact kX.new _ _ (by simp)|with_reducible refine kX.alloc ?_ _|with_reducible refine kX.drew ?_));intro va vb vc w8 b8 h8;have c8:=ae b8 2;have f8:=aj b8 2;simp at c8;have Q:=af h8;clear h8 b8))
  all_goals (
   obtain⟨wy,ZG⟩:∃y,y=w8.setCell ⟨l,2,none⟩ (.slice va vb vc):=⟨_,rfl⟩;rw[<-ZG] at Q ⊢;clear ZG T g0 g1 g2 aE O c8 f8;have nM:=zzd.1 H.2.2.1;have ab:=zzd.1 H.2.2.2.1;have YR:({ A with ss:=A.ss.set i (s',out),ds:=A.ds.set j { x with writes:=x.writes++[(d,eV k,DJ x.id m)] } }:aB).ds[j]?=some { x with writes:=x.writes++[(d,eV k,DJ x.id m)] }:=List.getElem?_set_self nM.1;have YS:=List.getElem?_set_self (a:=(l,Value.slice (some ⟨gq,0,none⟩) (n+1) cq,Value.slice va vb vc)) ab.1;obtain⟨g9,c9,e9,b',bd,FZ,Dm⟩:=Q.out.law.C' (m':=sq+1) YS YR Z.1;rw[show({ x with writes:=x.writes++[(d,eV k,DJ x.id m)] }:aS).seq.length=n+1 from Z.2] at e9
   cases e9;have M:=Q.out.law.each j _ _ YS YR;have d1:=ae M.blk 1;simp at d1;have i9:(((sq+1:Nat)):Int)=(sq:Int)+1:=by omega
   rw[i9] at FZ Dm;obtain⟨VA,Mn⟩:=Q.out.oZ;have H9:=af (show bJ G (wy.setCell ⟨gq,d,none⟩ (.int .i64 ((sq:Int)+1))) B E n (K+1) (.slice (some ⟨gh,0,none⟩) (n+1) d_) I { A with ss:=A.ss.set i (s',out),ds:=A.ds.set j { x with writes:=x.writes++[(d,eV k,DJ x.id m)],seq:=x.seq.set d (sq+1) } } from ⟨_,bv,ov,fl,_,VA,by rw[List.set_set] at FZ;exact FZ,Dm.oZ Mn,Q.out.bC,Q.out.xA.trans (Dm.lg Q.out.law.low.2)⟩);have Zy:IntKind.i64.wrap ((sq:Int)+1)=(sq:Int)+1:=by rw[IntKind.wrap_i64];omega
   clear FZ Dm Mn M YR YS nM ab i9;go_wp2_with fail;go_ret
   exact⟨rfl,by rw[xB rfl,<-a8.out,<-H.2.2.2.2.2.2.2];exact H9.out⟩)
 .have RN:¬ev=0:=by rw[Kw.out];omega
  have M:=O.1.law.each j _ x H.2.2.2.1 H.2.2.1;have d4:=ae M.blk 4;have f4:=aj M.blk 4;simp at d4;obtain⟨VN,Q_⟩:=O.1.law.Fx (w':=P.setCell ⟨l,4,none⟩ (.bool true)) (x':={ x with lost:=true }) H.2.2.2.1 H.2.2.1 (Fr.cD (by simp) _ _) (by have:=ar M.blk 4 (.bool true);simp at this;exact this) rfl rfl;obtain⟨YT,zM⟩:=O.1.oZ;have Q:=af (show bJ G (P.setCell ⟨l,4,none⟩ (.bool true)) B E n (K+1) (.slice (some ⟨gh,0,none⟩) (n+1) d_) I { A with ss:=A.ss.set i (s',out),ds:=A.ds.set j { x with lost:=true } } from ⟨_,bv,ov,fl,_,YT,VN,Q_.oZ zM,O.1.bC,O.1.xA.trans (Q_.lg O.1.law.low.2)⟩);clear VN Q_ zM M;go_wp2_with fail;go_ret;exact⟨rfl,by rw[Dg Kk];exact Q.out⟩
end
section
variable{w w':World}{B E I G m J p O U n:Nat}{c:aU}{l:au}{d:ah}
theorem CL.zY(h:CL w B E I G m J p O U n c l d)(hf:ku J p w w'):bm w' B E I G m c:=by
 have i:=h.free;have⟨A,z,b,f,t,u,x⟩:=h.co.ex;have row:∀{e:TypeId} {k m:Nat} {v:Value} {xs:List Value},w.ownsRow B e k v m xs->(∀g,v.ownBlock=some g->g∈rd E w)->w'.ownsRow B e k v m xs:=λ{e k m v xs} j y=>bW j λg a=>hf.block g (j.lt g a).2 (i g<|List.mem_append_right _<|y g a).1
 have T:aO KU EX w' G m c.ai:=by
  have o:=h.co.ai.lt;have⟨s,⟨q,c2,b,f⟩,r⟩:=h.co.ai;exact⟨s,⟨q,c2,(hf.block G o (i G bR).1).trans b,f⟩,r⟩
 exact⟨⟨A,z,(hf.block E h.co.eY.1 (i E bR).1).trans b,row f λg a=>by unfold rd Fa;rw[b];simp[a],row t λg a=>by unfold rd Fa;rw[b];simp[a],u,x⟩,T,⟨h.co.low.1,h.co.low.2.1,zzk h.co.low.2.2 hf.size⟩,h.co.fB⟩
end
theorem FM(n E:Nat)(w:World):
  CallsIn Fence.wide n prog 145 #[.pointer<|some ⟨E,0,none⟩] w λe w'=>e=.returned (.func (.func 191) #[] #[.pointer<|some ⟨w.heap.size,0,none⟩])/\w'=w.alloc (.cells #[.pointer<|some ⟨E,0,none⟩] 76):=by
 refine callsIn_of_wp func145 rfl trivial ?_ rfl;simp only[ntmps145,mB,zzr,mH,Nat.reduceAdd,Nat.reduceSub,mK,mL,nb,nU,n5,qC];gi_wp2;go_ret;exact⟨rfl,rfl⟩
theorem FN{c:aU}{e:Nat×ByteArray}(h:e∈DH c):e.1<126/\e.2.size<=255:=by
 unfold DH at h;obtain rfl|h:=zzj.1 h
 .exact⟨(show 1<126 by decide),by unfold nw;rw[cR,dH];decide⟩
 .unfold lq at h;obtain⟨x,-,rfl⟩:=zzq.1 h;refine⟨(show 2<126 by decide),?_⟩;unfold enX;rw[cR,zzi,dH];have:=ib (q:=jR) (ps:=x.2.parts);omega
theorem Ui(c:aU):(DH c).length<=c.ai.length+1:=by
 unfold DH lq;rw[zzr,zzn];refine Nat.succ_le_succ<|zzk (List.length_filter_le _ _) ?_;unfold qY iw;rw[zzn,List.length_mergeSort,zzn];exact zzc _
theorem abF(B E I G m J p O U n g:Nat)(c:aU)(l:au)(d:ah)(w:World)(h:CL w B E I G m J p O U n c l d)(qh:c.ai.length<=12)(y:∀x∈c.ai,x.1<18446744073709551616)(R:l.filled<600->l.segs≠[])(hn:n+3*((DH c).length+2)+2+g<=67108864)(hcut:PG n g l d<|DH c)(t:2<=B)(N:bI w):
  Calls prog 93 #[.pointer<|some ⟨E,0,none⟩] w λe w'=>e=.returned (cf (l.kc d<|(DH c).map wQ).2.2)/\CL w' B E I G m J p O U (n+3*((DH c).length+2)+2+g) c (l.kc d<|(DH c).map wQ).1 (l.kc d<|(DH c).map wQ).2.1/\mN E G J p w w':=by
 have tj:2<=w.heap.size:=by have:=h.co.low.2.2;omega
 obtain⟨a7,a1,D,-⟩:=h.co.ex;have o:=ae D 0;simp at o;rw[dE h.oN]at o;have⟨W,a⟩:∃W,W=w.drew.alloc (.cells #[.pointer<|some ⟨E,0,none⟩] 76):=⟨_,rfl⟩;have u:Fr [] w W:=by rw[a];exact((lT w).drew).alloc _
 have⟨k,f⟩:=h.new u;have⟨Y,sv,rv,T,V,b⟩:=k.lg;have L:W.heap[w.heap.size]?=some (.cells #[.pointer<|some (gz E)] 76 (0,0)):=by rw[a];exact heap_alloc_new w.drew _
 have C:∀A,ku J p W A->bm A B E I G m c/\A.heap[w.heap.size]?=some (.cells #[.pointer<|some (gz E)] 76 (0,0)):=λA s=>⟨k.zY s,(s.kpo b).same _ _ L rfl⟩
 have Z:=(callsIn_wide).1 (Vc 16 (zzc _) B I J p O U n T V g 191 #[gx w.heap.size] Y sv rv l d (DH c) _ W k.ju b t (by have:=u.size;omega) R ((f.gF h).lh t N) (enters_of func191 dJ rfl) (λe P=>(FN P).1) C
  (λQ S K M v=>FL 15 bL Q S w.heap.size B E I G m c K M v.2 v.1 qh y) hn hcut)
 have xn:=(callsIn_wide).1<|FM 1 E w.drew;obtain⟨m_,Bm,i,-⟩:=k.co.ex;have r:=ae i 0;simp at r;rw[dE h.oN]at r;have X:Hid (CL W B E I G m J p O U n c l d/\mN E G J p w W):=⟨k,f⟩;clear h k f b L u C hcut D i y
 go_enter func93,ntmps93;go_wp2;go_region_held3 (λw'=>w'.cell? (gz E)=some (.pointer<|some (gz I))) (simp[*])
  (first
   |(go_at_call 145;apply xn.mono;rintro e w1 ⟨rfl,mY⟩;rw[<-a]at mY;subst mY;clear a)
   |(go_at_call 143;apply Z.mono;rintro e w2 ⟨rfl,eh,gH⟩;have⟨q,z⟩:=X.1.log gH eh;(obtain⟨F8,a6,j,-⟩:=q.co.ex);have F:=ae j 0;simp at F;rw[dE q.oN]at F;have H:=af (zzb q (X.2.trans z));clear q z eh gH j))
 all_goals
  (go_wp2
   go_ret;exact⟨rfl,H.1,H.2⟩)
/-! ### a checkpoint over a log that is well -/
theorem eT.notes{t:Nat}:∀(s:List<|Nat×ByteArray) {l:au} {d:ah} {a:List (List Rec)} {c:Nat},eT l d t a->d.ij c->c+2*s.length+2<1099511627776->(∀e∈s,e.2.size<=255) ->
  (l.notes d s).2.2=0/\(∃f,eT (l.notes d s).1 (l.notes d s).2.1 t f)/\(l.notes d s).2.1.ij (c+2*s.length)/\(l.notes d s).1.segs.length<=l.segs.length+s.length
 |[],l,d,a,c,h,hw,_,_=>⟨rfl,⟨a,h⟩,hw,zzc _⟩
 |e::r,l,d,a,c,h,hw,hc,hs=>by
  have j:(e::r).length=r.length+1:=rfl;rw[j]at hc ⊢;have b:=h.append hw bL e.1 e.2 (hs e bR);obtain⟨f,g,-⟩:=b.log;have z:=h.Ir hw bL e.1 e.2 (hs e bR);have i:(l.note d e.1 e.2).2.2=0:=b.ret.2;have er:l.notes d (e::r)=((l.note d e.1 e.2).1).notes (l.note d e.1 e.2).2.1 r:=by show(if _ then _ else _)=_;rw[if_pos i]
  rw[er];have⟨q,m,n,o⟩:=eT.notes r g b.well bL (λx k=>hs x<|by simp[k]);refine⟨q,m,n.mono bL,zzk o ?_⟩;have:(l.note d e.1 e.2).1.segs.length<=l.segs.length+1:=z;omega
theorem Ko(l:au)(d:ah)(r:au×ah×Nat)(h:r.1.segs=l.segs):(l.wr d r).1.segs=l.segs:=by
 unfold au.wr;split
 .exact h
 .rfl
theorem QJ{low:Nat}(h:(l.cut d low).2.2=0):(l.cut d low).1.segs=l.segs.drop (cb l.segs low):=by
 unfold au.cut at h ⊢;split at h
 .rename_i e;rw[if_pos e,e,List.drop_zero];exact Ko _ _ _<|nS l d
 .rename_i e;rw[if_neg e];simp only[]at h ⊢;split at h
  .rename_i e2;rw[if_pos e2];exact congrArg (List.drop _)<|Ko _ _ _<|A5 _ _ _ _
  .rename_i e2;exact absurd h e2
theorem mD.kc(h:mD l d)(a:List<|Nat×ByteArray)(j:∀e∈a,e.2.size<=255)(y:a.length<=100)(n:Nat)(hn:n+l.segs.length<=60000000):
  ∃g,PG n g l (d.bQ (-1)<|-1) a/\(l.kc (d.bQ (-1)<|-1)<|a.map wQ).2.2=0/\mD (l.kc (d.bQ (-1)<|-1)<|a.map wQ).1 (l.kc (d.bQ (-1)<|-1)<|a.map wQ).2.1/\g+(l.kc (d.bQ (-1)<|-1)<|a.map wQ).1.segs.length<=l.segs.length+a.length+2:=by
 have w:=vB h.2;obtain⟨⟨v,t,i⟩,-⟩:=h.bQ (-1)<|-1;have z:(e_ a).length=a.length+2:=by unfold e_;simp
 have⟨p,⟨u,q⟩,c,r⟩:=i.notes (e_ a) w (by rw[z];omega) (λe b=>by
  unfold e_ at b;obtain b|b:=zzo.1 b
  .rcases zzj.1 b with rfl|b
   .exact bM
   .obtain⟨x,hx,rfl⟩:=zzq.1 b;exact j x hx
  .simp at b;subst b;exact bM)
 rw[z]at c r;have hcut:=eT.cut q c bL l.next;rw[E8 p];obtain⟨E,f,o,-⟩:=hcut.log;have N:=QJ hcut.ret;have T:cb (l.notes (d.bQ (-1)<|-1)<|e_ a).1.segs l.next<=(l.notes (d.bQ (-1)<|-1)<|e_ a).1.segs.length:=by
  by_cases e:cb (l.notes (d.bQ (-1)<|-1)<|e_ a).1.segs l.next=0
  .rw[e];exact zzs _
  .exact Nat.le_of_lt<|oF e
 refine⟨cb (l.notes (d.bQ (-1)<|-1)<|e_ a).1.segs l.next,λ_=>⟨T,bL,λ_ _=>JQ _ _ _ _,λ_ k s m=>q.hinv k s m⟩,hcut.ret,⟨⟨E,f,o⟩,hcut.well.up⟩,?_⟩;rw[N,zzz];omega
end
end Go.Proofs.YtcalalndmcemiaaGreatDoor
