import Derived.Test.YtcalalndmcemiaaGreatDoorC05
import Derived.Test.YtcalalndmcemiaaGreatDoorC06
set_option maxHeartbeats 2000000
set_option maxRecDepth 100000
namespace Go.Proofs.YtcalalndmcemiaaGreatDoor
open Go.RowKit Go.Maps Tryz Sc
variable{S:List Nat}{xs:List Value}{B bD bN c lp n p:Nat}{o:Obj}{pv rv sv v:Value}{a w:World}{d:ah}
theorem tI(h:d.writes.2≠0):d.sync=d.writes:=by unfold ah.sync;simp[h]
theorem B_(h:d.writes.2=0):d.sync=({d.writes.1 with aZ:=d.writes.1.pending.foldl fW d.writes.1.aZ,pending:=[]},0):=by unfold ah.sync;simp[h]
theorem GI{g:Nat}{l:List mG}(h:w.ownsRow B 182 4 (.slice (some ⟨g,0,none⟩) n p) n<|opsV l)(k:Nat)(o:mG)(d:l[k]?=some o):
  w.cell? ⟨g,k*4,none⟩=some (.int .i64 (o.kind:Int))/\w.cell? ⟨g,k*4+1,none⟩=some (.string o.name)/\w.cell? ⟨g,k*4+2,none⟩=some (.string o.to)/\w.cell? ⟨g,k*4+3,none⟩=some (.string o.data):=by
 have y:∀(l:List mG) (k j:Nat),j<4->(opsV l)[k*4+j]?=(l[k]?).bind (λo=>(gN o)[j]?):=by
  intro l;induction l with
  |nil=>intro k j b;simp[opsV]
  |cons x l ih=>
   intro k j b;have e:opsV (x::l)=gN x++opsV l:=rfl;rw[e];cases k with
   |zero=>rw[List.getElem?_append_left<|by simp[gN];omega];simp
   |succ k=>
    rw[List.getElem?_append_right<|by simp[gN];omega];have:(k+1)*4+j-(gN x).length=k*4+j:=by simp[gN];omega
    rw[this,ih k j b];simp
 have a:∀j v,j<4->(gN o)[j]?=some v->w.cell? (hO g (k*4+j))=some v:=by
  intro j v b f;have c:(opsV l)[k*4+j]?=some v:=by rw[y l k j b,d];exact f
  have:=h.cells rfl (k*4+j) v c;simpa [Addr.add_lit]using this
 exact⟨a 0 _ bL rfl,a 1 _ bL rfl,a 2 _ bL rfl,a 3 _ bL rfl⟩
theorem xN:∀(l:List mG) (m:cC) (k:Nat),m.Le (k*c)->(∀o∈l,o.Ok c)->(l.foldl fW m).Le ((k+l.length)*c)
 |[],m,k,h,_=>by simpa using h
 |o::l,m,k,h,ho=>by
  have a:=Jk h (ho o bR);have b:(fW m o).Le ((k+1)*c):=by rw[Nat.add_mul];simpa using a
  have d:=xN l (fW m o) (k+1) b (λx e=>ho x<|by simp[e]);rw[List.foldl_cons,zzr,show k+(l.length+1)=k+1+l.length by omega];exact d
theorem KX(B p D N n f r g len v:Nat)(d:ah)(w:World)(h:ax w B p D N (.slice (some ⟨g,0,none⟩) len v) d n f r)(hlen:d.pending.length=len):
  Calls prog 385 #[.pointer<|some ⟨p,0,none⟩] w λe w'=>e=.returned (cf d.sync.2)/\(∃M uB,ax w' B p D N M d.sync.1 n uB r/\bS w.heap.size (.slice (some ⟨g,0,none⟩) len v) M)/\Fr [p,D] w w':=by
 have Q:=af h;have L:=af hlen;clear h hlen
 go_enter func385,ntmps385;go_wp2_with fail;apply(lM B p D N n f r _ d w Q.out).mono;rintro e G ⟨rfl,nC,bh⟩;have J:=af nC;have V:Hid (Fr [p,D] w G):=bh.mono (by intro k _ y;simp at y;simp[y]);have p2:=ae nC.blk 2;simp at p2;clear nC bh;obtain j|j|j:=iK d
 .rw[j,aG bM];go_wp2;go_ret;rw[tI<|by rw[j];decide,j];exact⟨rfl,⟨_,f,J.out,bS.refl _ _⟩,V.out⟩
 .rw[j,aG bM];go_wp2;go_ret;rw[tI<|by rw[j];decide,j];exact⟨rfl,⟨_,f,J.out,bS.refl _ _⟩,V.out⟩
 .rw[j,bK];have A:d.writes.1.pending=d.pending:=by rw[pW]
  go_wp2;go_loopw [16] (λi wr=>∃k:Nat,k<=len/\i=.int .i64 k/\FileMap wr D (f+k) ((d.writes.1.pending.take k).foldl fW d.writes.1.aZ)/\Fr [D] G wr) (λi _=>len-(intOf i).toNat);case atStart=>exact⟨0,zzs _,rfl,J.out.rz,Fr.refl _ _⟩
  case round=>
   obtain⟨k,y,rfl,F,hf⟩:=hrel;by_cases X:k<len
   .have xE:k<d.writes.1.pending.length:=by rw[A,L.out];exact X
    have⟨o,l⟩:∃o,d.writes.1.pending[k]?=some o:=⟨_,zzg xE⟩;have K:=J.out.ops o<|zzh l;have Y:=J.out.pen;rw[A,L.out]at Y;rw[<-A]at Y
    have I:=aD Y hf (λq b=>by
     simp;intro e;subst e;have⟨c,hc⟩:=aq Y b;exact J.out.rz.cH hc rfl)
    have⟨c0,c1,c2,c3⟩:=GI I k o l;have E:=ae ((hf.block p (zza.1 J.out.blk).1<|by simp;exact λe=>J.out.rz.cH J.out.blk e.symm).trans J.out.blk) 0;simp at E;have S:=zzF wr ⟨p,0,none⟩ E;have pL:∀C,(wr.alloc C).cell? ⟨p,0,none⟩=some (.map<|some D):=λC=>(zze (a:=⟨p,0,none⟩)<|zzf wr C p S).trans E
    have u:=af F;have H:=af hf;have R:=af K;have O:=af l;have Zb:f+k<n:=by have:=J.out.hD;omega
    have hn:=J.out.hn
    have U:Hid (((d.writes.1.pending.take k).foldl fW d.writes.1.aZ).Le 549755813888):=by
     intro x t z;have:=xN (d.writes.1.pending.take k) d.writes.1.aZ f J.out.MR (λo l=>J.out.ops o<|List.mem_of_mem_take l) x t z;rw[zzm]at this;have a1:min k d.writes.1.pending.length<=k:=Nat.min_le_left _ _;have h6:(f+min k d.writes.1.pending.length)*4096<=n*4096:=Nat.mul_le_mul_right _ bL;omega
    clear F hf K l I Y A;have i0:(0:Int)<=k:=bL;have i1:(k:Int)<len:=bL;go_wp2;go_region_with (first|(go_at_call 100;apply(sk D (f+k) 4096 _ o _ (u.out.new<|(((lT wr).alloc _).drew)) eA R.out bL U.out).mono;rintro e w2 ⟨rfl,zQ,fc⟩))
    all_goals (
     have hU:=H.out.trans<|(((Fr.refl [D] wr).alloc _).drew).trans<|Fr.aF fc;clear fc;go_wp2
     go_roundw;case rel=>
      refine⟨k+1,bL,eR,?_,hU⟩;rw[List.take_add_one,O.out]
      simpa [List.foldl_append,Nat.add_assoc]using zQ
     case measure=>simp[intOf];omega)
   .obtain rfl:k=len:=bL;have m:=(hf.block p (zza.1 J.out.blk).1<|by simp;exact λe=>J.out.rz.cH J.out.blk e.symm).trans J.out.blk;have W:=ae m 2;have MS:=aj m 2;simp at W;have P:=af m;have u:=af F;have H:=af hf;clear F hf m;go_wp2;go_ret;have z:d.writes.1.pending.take k=d.writes.1.pending:=zzt (by rw[A,L.out];exact zzc _);have F:=u.out;rw[z]at F;rw[B_ j];have s:Fr [p] wr (wr.setCell ⟨p,2,none⟩<|.slice none 0 0):=Fr.cD (by simp) 2 _;have a6:=s.size;have l0:=H.out.size;have T:∀q∈[p],∀t,wr.heap[q]?≠some (dV t):=by
     intro q b t;simp at b;subst b;rw[P.out];intro e;cases e
    have Z:=J.out.now.fr H.out (by simp;exact λe=>J.out.ne e.symm) (by intro q b t e;simp at b;subst b;exact J.out.rz.cH e rfl);refine⟨rfl,⟨.slice none 0 0,f+k,?_,bS.nil _ _⟩,V.out.trans<|(H.out.mono<|by intro q _ b;simp at b;simp[b]).trans<|s.mono<|by intro q _ b;simp at b;simp[b]⟩;have hD:=J.out.hD;rw[A,L.out]at hD;refine {blk:=?_,base:=⟨J.out.base.1,J.out.base.2.1,J.out.base.2.2.1,by have:=J.out.base.2.2.2;omega⟩,ne:=J.out.ne,rz:=F.fr s (by simp;exact F.cH P.out) T,now:=Z.fr s (by simp;exact Z.cH P.out) T,pen:=zzu _ _ _ _,hD:=by simpa using hD,hN:=J.out.hN,hn:=J.out.hn,MR:=?_,F6:=J.out.F6,ops:=bR}
    .have:=ar P.out 2<|.slice none 0 0;simpa using this
    .have:=xN d.writes.1.pending d.writes.1.aZ f J.out.MR J.out.ops;rw[A,L.out]at this;simp only;rw[A];exact this
theorem N0(B p D N n b f:Nat)(d:ah)(w:World)(h:ax w B p D N (.slice none 0 0) d n b f)(hlen:d.pending=[]):
  Calls prog 385 #[.pointer<|some ⟨p,0,none⟩] w λe w'=>e=.returned (cf d.sync.2)/\(∃m u,ax w' B p D N m d.sync.1 n u f/\bS w.heap.size (.slice none 0 0) m)/\Fr [p,D] w w':=by
 have I:=af h;have L:=af hlen;clear h hlen
 go_enter func385,ntmps385;go_wp2_with fail;apply(lM B p D N n b f _ d w I.out).mono;rintro e c ⟨rfl,nC,bh⟩;have J:=af nC;have V:Hid (Fr [p,D] w c):=bh.mono (by intro k _ g;simp at g;simp[g]);have j:=ae nC.blk 2;have l:=aj nC.blk 2;simp at j;clear nC bh;obtain a|a|a:=iK d
 .rw[a,aG bM];go_wp2;go_ret;rw[tI<|by rw[a];decide,a];exact⟨rfl,⟨_,b,J.out,bS.refl _ _⟩,V.out⟩
 .rw[a,aG bM];go_wp2;go_ret;rw[tI<|by rw[a];decide,a];exact⟨rfl,⟨_,b,J.out,bS.refl _ _⟩,V.out⟩
 .rw[a,bK];have A:d.writes.1.pending=[]:=by rw[pW];exact L.out
  go_wp2;apply wp_loop_rounds 1;rw[rounds_succ];go_wp2;go_ret;rw[B_ a];have H:Fr [p] c (c.setCell ⟨p,2,none⟩<|.slice none 0 0):=Fr.cD (by simp) 2 _;refine⟨rfl,⟨.slice none 0 0,b,?_,bS.nil _ _⟩,V.out.trans<|H.mono<|by intro q _ i;simp at i;simp[i]⟩;have hb:(c.setCell (hO p 2)<|.slice none 0 0).heap[p]?=some (gv D N (.slice none 0 0) d.writes.1.left d.writes.1.full d.writes.1.down):=by simpa using ar J.out.blk 2<|.slice none 0 0
  have:=J.out.ic H d.writes.1.left d.writes.1.full d.writes.1.down hb;simp only[A,List.foldl_nil];rw[<-A];exact this
theorem qa(B p D N n c a:Nat)(v:Value)(d:ah)(w:World)(h:ax w B p D N v d n c a):
  Calls prog 385 #[.pointer<|some ⟨p,0,none⟩] w λe w'=>e=.returned (cf d.sync.2)/\(∃m u,ax w' B p D N m d.sync.1 n u a/\bS w.heap.size v m)/\Fr [p,D] w w':=by
 rcases h.pen.2 with⟨b,i⟩|⟨g,f,r,b,_⟩
 .subst b;exact N0 B p D N n c a d w h<|List.length_eq_zero_iff.1 i
 .subst b;exact KX B p D N n c a g _ f d w h rfl
theorem D6{ops:Array Oper}{rest:List Oper}{o:Oper}{a:Act}{Q:Exit->Act->World->Prop}(U:o.guard=none)(s x:Operand)
  (b:o.op=.call {callee:=.builtin .append,args:=#[s,x],argTypes:=#[88,9]})
  (base g n p:Nat) (xs:List Nat) (t:ByteArray) (hs:a.eval s=.slice (some ⟨g,0,none⟩) n p) (A:w.ownsRow base 5 1 (.slice (some ⟨g,0,none⟩) n p) n<|bs xs) (d:a.eval x=.string t) (c:0<p) (hn:n+t.size<=p)
  (h:∀w',w'.ownsRow base 5 1 (.slice (some ⟨g,0,none⟩) (n+t.size) p) (n+t.size) (bs<|xs++bytesOf t)->w.grownBy w' (some g)->wpList prog ops Q rest (a.put o.dst<|.slice (some ⟨g,0,none⟩) (n+t.size) p) w'):wpList prog ops Q (o::rest) a w:=by
 have⟨f,i,k,e,l⟩:=info_parts pV;apply Lib.wpList_append_fits_string _ U s x 88 9 b base 5 f underlying88 underlying9 i e (some (gz g)) n p (bs xs) hs A t d c hn;intro w' j F;refine h w' ?_ F;rw[Gk,<-D5];exact j
theorem GJ(x k:Int)(s:ByteArray)(w:World)(hs:255<s.size):
  Calls prog 128 #[.agg #[.int .u64 x,.int .u8 k,.string s]] w λe w'=>e=.returned (.tuple #[.slice none 0 0,.iface 44<|.int .i64 1])/\Below w.heap.size w w':=by
 have h:(255:Int)<(s.size:Int):=bL;go_enter func128,ntmps128;go_wp2;go_ret2;exact⟨rfl,(zzD _ _).alloc (zzc _) _⟩
theorem GK{r:Option Nat}(h:(w.alloc o).grownBy a r)(b:r≠some w.heap.size)(i:Nat):a.cell? ⟨w.heap.size,i,none⟩=(w.alloc o).cell? ⟨w.heap.size,i,none⟩:=
 jt h bR b i
theorem Se{base:Nat}(h:a.ownsRow base 5 1 (.slice (some ⟨(w.alloc o).heap.size,0,none⟩) n p) n xs):a.ownsRow base 5 1 (.slice (some ⟨w.heap.size+1,0,none⟩) n p) n xs:=by
 rw[zzv]at h;exact h
theorem vP(x k:Nat)(s:ByteArray)(w:World)(hs:s.size<=255)(v:k<256)(d:x<18446744073709551616):
  Calls prog 128 #[.agg #[.int .u64 x,.int .u8 k,.string s]] w λe w'=>∃g,e=.returned (.tuple #[.slice (some ⟨g,0,none⟩) (11+s.size+4)<|15+s.size,.nilIface])/\w.heap.size<=g/\w'.ownsRow (w.heap.size+1) 5 1 (.slice (some ⟨g,0,none⟩) (11+s.size+4)<|15+s.size) (11+s.size+4) (bs<|bF x k<|bytesOf s)/\Below w.heap.size w w':=by
 have T:¬(255:Int)<(s.size:Int):=bL;have p:=af d;clear d;obtain⟨D,u,y,z,C⟩:=info_parts pV
 go_enter func128,ntmps128
 go_wp2_with (at_make;apply wpList_make_own _ rfl _ _ 88 rfl (w.heap.size+1) 5 D (.int .u8 0) 1 underlying88 u y z .i64 .i64 _ (15+s.size) rfl rfl bL (by rw[C];omega) eA bR;intro j E A;have X:=GK A bR;have G:=Se E;clear E);have N:(w.alloc<|Sd x k s).grownBy j none:=eC
 have M:=(kp (xs:=[]) G).2;have F:Hid (Below w.heap.size w j):=((zzD _ _).alloc (zzc _) _).grown N bR (λq h=>by cases h);clear A N;apply(RY (w.heap.size+1) _ 0 (15+s.size) [] s.size _ G bL bL).mono;rintro e l ⟨rfl,gH,fc⟩;have f:∀i,l.cell? ⟨w.heap.size,i,none⟩=(w.alloc<|Sd x k s).cell? ⟨w.heap.size,i,none⟩:=λi=>(jt fc bL bR i).trans<|X i
 have J:Hid (Below w.heap.size w l):=F.out.grown fc bL (λq h=>by cases h;omega);have P:=(kp gH).2;clear X G fc;go_wp2_with fail;apply(Jn (w.heap.size+1) _ (0+2) (15+s.size) _ x _ gH bL p.out).mono;rintro e m ⟨rfl,pN,hU⟩;have Q:∀i,m.cell? ⟨w.heap.size,i,none⟩=(w.alloc<|Sd x k s).cell? ⟨w.heap.size,i,none⟩:=λi=>(jt hU bL bR i).trans<|f i
 have r:Hid (Below w.heap.size w m):=J.out.grown hU bL (λq h=>by cases h;omega);have R:=(kp pN).2;clear f gH hU;go_wp2_with fail;apply(BV (w.heap.size+1) _ (0+2+8) (15+s.size) _ k _ pN bL bL).mono;rintro e n ⟨rfl,kq,j8⟩;have O:∀i,n.cell? ⟨w.heap.size,i,none⟩=(w.alloc<|Sd x k s).cell? ⟨w.heap.size,i,none⟩:=λi=>(jt j8 bL bR i).trans<|Q i
 have S:Hid (Below w.heap.size w n):=r.out.grown j8 bL (λq h=>by cases h;omega);have K:=(kp kq).2;clear Q pN j8;go_wp2_with (at_builtin;apply D6 rfl _ _ rfl (w.heap.size+1) _ (0+2+8+1) (15+s.size) _ s rfl kq rfl bL bL;intro a b B);have H:Hid (Below w.heap.size w a):=S.out.grown B bL (λq h=>by cases h;omega);have L:=(kp b).2;have c:a.ownsRow (w.heap.size+1) 5 1 (.slice (some ⟨w.heap.size+1,0,none⟩) (11+s.size)<|15+s.size) (11+s.size) (bs<|kF x k<|bytesOf s):=by
  have e:((([]++be 2 s.size)++be 8 x)++be 1 k)++bytesOf s=kF x k (bytesOf s):=by
   have t:be 1 k=[k]:=by simp[be,digit,List.range_succ];omega
   unfold kF;rw[dy,List.nil_append,t]
  rw[e]at b;exact b
 clear O kq B b;apply(DN (w.heap.size+1) a.heap.size (w.heap.size+1) (11+s.size) (15+s.size) false (kF x k<|bytesOf s) _ (uL a) bL (c.alloc _) (D4 x k (bytesOf s) v<|DZ s) bL bL).mono;rintro e I ⟨rfl,Z3,xO⟩;have Z:Hid (Below w.heap.size w I):=(H.out.alloc bL _).trans (xO w.heap.size bL bL);have o:=af Z3;clear Z3 xO c;go_wp2;go_ret2;exact⟨w.heap.size+1,rfl,bL,o.out,Z.out⟩
theorem KW(B p D N n a b g c base:Nat)(v:Value)(d:ah)(m:ByteArray)(l:List Nat)(w:World)(h:ax w B p D N v d n a b)(hn:n<67108864)(R:m.size<=maxLen)
  (r:w.ownsRow base 5 1 (.slice (some ⟨g,0,none⟩) l.length c) l.length (bs l)) (f:l.length<=4096) :
  Calls prog 386 #[.pointer (some ⟨p,0,none⟩),.string m,.slice (some ⟨g,0,none⟩) l.length c] w (B9 d ⟨1,m,ByteArray.empty,str l⟩ B p D N n a g v w):=by
 have I:=af h;clear h
 go_enter func386,ntmps386
 go_wp2_with fail;refine(Ju B p D N n a b 1 g c base v d m l w I.out hn (Or.inl rfl) R r f).mono ?_;rintro e i ⟨rfl,h1,h2⟩;have H:=af h1;clear h1;go_wp2;go_ret;exact⟨rfl,H.out,h2⟩
theorem GF(B p D N n a b g c base:Nat)(v:Value)(d:ah)(m:ByteArray)(l:List Nat)(w:World)(h:ax w B p D N v d n a b)(hn:n<67108864)(R:m.size<=maxLen)
  (r:w.ownsRow base 5 1 (.slice (some ⟨g,0,none⟩) l.length c) l.length (bs l)) (f:l.length<=4096) :
  Calls prog 380 #[.pointer (some ⟨p,0,none⟩),.string m,.slice (some ⟨g,0,none⟩) l.length c] w (B9 d ⟨2,m,ByteArray.empty,str l⟩ B p D N n a g v w):=by
 have I:=af h;clear h
 go_enter func380,ntmps380
 go_wp2_with fail;refine(Ju B p D N n a b 2 g c base v d m l w I.out hn (Or.inr rfl) R r f).mono ?_;rintro e i ⟨rfl,h1,h2⟩;have H:=af h1;clear h1;go_wp2;go_ret;exact⟨rfl,H.out,h2⟩
theorem GG(B p D N n a b:Nat)(v:Value)(d:ah)(m:ByteArray)(w:World)(h:ax w B p D N v d n a b)(hn:n<67108864)(R:m.size<=maxLen):
  Calls prog 383 #[.pointer (some ⟨p,0,none⟩),.string m] w (dw d ⟨3,m,ByteArray.empty,ByteArray.empty⟩ B p D N n a v w):=by
 have I:=af h;clear h
 go_enter func383,ntmps383
 go_wp2_with fail;refine(xG B p D N n a b v d ⟨3,m,ByteArray.empty,ByteArray.empty⟩ w I.out hn ⟨by simp,R,by simp,by simp⟩ (by simp)).mono ?_;rintro e c ⟨rfl,h1,h2⟩;have H:=af h1;clear h1;go_wp2;go_ret;exact⟨rfl,H.out,h2⟩
theorem GH(B p D N n a c:Nat)(v:Value)(d:ah)(m o:ByteArray)(w:World)(h:ax w B p D N v d n a c)(hn:n<67108864)(R:m.size<=maxLen)(g:o.size<=maxLen)(b:(m.toList==o.toList)=false/\m≠o):
  Calls prog 384 #[.pointer (some ⟨p,0,none⟩),.string m,.string o] w (dw d ⟨4,m,o,ByteArray.empty⟩ B p D N n a v w):=by
 have I:=af h;have f:=af b;clear h b
 go_enter func384,ntmps384
 go_wp2_with fail;refine(xG B p D N n a c v d ⟨4,m,o,ByteArray.empty⟩ w I.out hn ⟨by simp,R,g,by simp⟩ (λ_=>f.out)).mono ?_;rintro e i ⟨rfl,h1,h2⟩;have H:=af h1;clear h1;go_wp2;go_ret;exact⟨rfl,H.out,h2⟩
def gB(r:Rec):List Value:=[.int .u64 (r.oq:Int),.int .u8 (r.kind:Int),.string (str r.nH)]
def eH(rs:List Rec):List Value:=rs.flatMap gB
theorem GL(rs:List Rec)(r:Rec):eH (rs++[r])=eH rs++gB r:=by simp[eH]
theorem uQ(rs:List Rec):(eH rs).length=rs.length*3:=by
 induction rs with
 |nil=>rfl
 |cons r rs ih=>simp only[eH,List.flatMap_cons,zzi,zzr] at *;rw[ih];simp[gB];omega
theorem Jy:(Tryz.prog.info? 110).map (λi=>(i.zero,i.size,i.bytes))=some (some (.agg #[.int .u64 0,.int .u8 0,.string ByteArray.empty]),3,32):=by kernel_rfl
structure au where
 segs:List Nat
 filled:Nat
 recs:List Rec
 next:Nat
 aZ:Nat
 failed:Nat
def eI(l:List Nat):List Value:=l.map λx:Nat=>.int .u64 (x:Int)
theorem uR(l:List Nat)(x:Nat):eI (l++[x])=eI l++[.int .u64 (x:Int)]:=by simp[eI]
theorem N5(l:List Nat):(eI l).length=l.length:=by simp[eI]
abbrev dX(p:Nat):Value:=.iface 73 (.pointer (some ⟨p,0,none⟩))
abbrev pC(p:Nat)(sv rv:Value)(l:au):Obj:=.cells #[dX p,sv,.int .i64 (l.filled:Int),rv,.int .u64 (l.next:Int),.int .u64 (l.aZ:Int),cf l.failed] 222
def refs:Option Obj->List Nat
 |some (.cells c _ _)=>c.toList.filterMap λv=>match v with
  |.map r=>r
  |.slice (some a) _ _=>some a.block
  |_=>none
 |_=>[]
def Own(lp p:Nat)(w:World)(k:Nat):Prop:=k=lp\/k=p\/k∈refs w.heap[lp]?\/k∈refs w.heap[p]?
structure ku(lp p:Nat)(w w':World):Prop where
 os:w'.os=w.os
 tape:w'.tape=w.tape
 output:w'.output=w.output
 size:w.heap.size<=w'.heap.size
 block:∀k,k<w.heap.size->¬Own lp p w k->w'.heap[k]?=w.heap[k]?
 stay:∀k,k<w.heap.size->Own lp p w' k->Own lp p w k
theorem ku.refl(lp p:Nat)(w:World):ku lp p w w:=⟨rfl,rfl,rfl,zzc _,λ_ _ _=>rfl,λ_ _ h=>h⟩
theorem ku.trans{b c:World}(h:ku lp p a b)(k:ku lp p b c):ku lp p a c:=
 ⟨k.os.trans h.os,k.tape.trans h.tape,k.output.trans h.output,zzk h.size k.size,
  λi d hn=>(k.block i (zzl d h.size) λo=>hn<|h.stay i d o).trans<|h.block i d hn,
  λi d o=>h.stay i d (k.stay i (zzl d h.size) o)⟩
structure aA(w:World)(B lp p bD bN:Nat)(pv sv rv:Value)(l:au)(d:ah)(n nD nN:Nat):Prop where
 bq:ax w B p bD bN pv d n nD nN
 blk:w.heap[lp]?=some (pC p sv rv l)
 base:B<=lp
 segs:w.ownsRow B 43 1 sv l.segs.length (eI l.segs)
 recs:w.ownsRow B 110 3 rv l.recs.length (eH l.recs)
 eB:l.segs.length<=n/\∀s∈l.segs,s<18446744073709551616
 gJ:l.recs.length<=n
 km:l.filled<=4096
 iC:l.next<=n+1
 mZ:l.aZ<18446744073709551616
theorem ct{e:TypeId}{k:Nat}(h:w.ownsRow B e k v n xs):∃a m c,v=.slice a m c:=by
 rcases h.2 with⟨rfl,_⟩|⟨g,p,r,rfl,_⟩
 .exact⟨_,_,_,rfl⟩
 .exact⟨_,_,_,rfl⟩
def Wj(v:Value):Option Nat:=match v with
 |.map r=>r
 |.slice (some a) _ _=>some a.block
 |_=>none
theorem xP(c:Array Value)(t:TypeId)(fr:Nat×Nat):refs (some<|.cells c t fr)=c.toList.filterMap Wj:=rfl
theorem qV(h:∃a m c,v=.slice a m c):Wj v=v.ownBlock:=by
 obtain⟨a,m,c,rfl⟩:=h;cases a<;>rfl
theorem N6(n:Nat):Wj (cf n)=none:=by unfold cf;split<;>rfl
theorem Sf{l:au}(hs:∃a m c,sv=.slice a m c)(r:∃a m c,rv=.slice a m c)(k:Nat):k∈refs (some<|pC p sv rv l)↔sv.ownBlock=some k\/rv.ownBlock=some k:=by
 rw[xP];simp only[List.mem_filterMap,zzj,List.not_mem_nil,or_false];constructor
 .rintro⟨v,hv,hk⟩;obtain rfl|rfl|rfl|rfl|rfl|rfl|rfl:=hv
  .cases hk
  .left;rw[<-qV hs];exact hk
  .cases hk
  .right;rw[<-qV r];exact hk
  .cases hk
  .cases hk
  .rw[N6]at hk;cases hk
 .rintro (h|h)
  .exact⟨sv,bR,by rw[qV hs];exact h⟩
  .exact⟨rv,bR,by rw[qV r];exact h⟩
theorem Jz{a b:Int}{n:Bool}(p:∃a m c,pv=.slice a m c)(k:Nat):k∈refs (some<|gv bD bN pv a b n)↔k=bD\/k=bN\/pv.ownBlock=some k:=by
 rw[xP];simp only[List.mem_filterMap,zzj,List.not_mem_nil,or_false];constructor
 .rintro⟨v,hv,hk⟩;obtain rfl|rfl|rfl|rfl|rfl|rfl:=hv
  .left;cases hk;rfl
  .right;left;cases hk;rfl
  .right;right;rw[<-qV p];exact hk
  .cases hk
  .cases hk
  .cases hk
 .rintro (h|h|h)
  .exact⟨.map<|some bD,bR,by subst h;rfl⟩
  .exact⟨.map<|some bN,bR,by subst h;rfl⟩
  .exact⟨pv,bR,by rw[qV p];exact h⟩
section
variable{w w':World}{B lp p bD bN n nD nN I n' O U:Nat}{pv sv rv G Z f:Value}{l E:au}{d J:ah}
theorem aA.own(h:aA w B lp p bD bN pv sv rv l d n nD nN)(k:Nat):Own lp p w k↔k=lp\/k=p\/k=bD\/k=bN\/pv.ownBlock=some k\/sv.ownBlock=some k\/rv.ownBlock=some k:=by
 unfold Own;rw[h.blk,h.bq.blk,Sf (ct h.segs)<|ct h.recs,Jz<|ct h.bq.pen];constructor
 .rintro (h|h|(h|h)|(h|h|h))<;>simp[h]
 .rintro (h|h|h|h|h|h|h)<;>simp[h]
theorem aA.zY{S:List Nat}(h:aA w B lp p bD bN pv sv rv l d n nD nN)(b:aA w' B lp p bD I G Z f E J n' O U)(hf:Fr S w w')
  (j:∀k∈S,k<w.heap.size->k=lp\/k=p\/k=bD\/k=bN\/pv.ownBlock=some k\/sv.ownBlock=some k\/rv.ownBlock=some k)
  (hb:I=bN\/w.heap.size<=I) (c:bS w.heap.size pv G) (g:bS w.heap.size sv Z) (i:bS w.heap.size rv f):ku lp p w w':=by
 refine⟨hf.os,hf.tape,hf.output,hf.size,λk a hn=>hf.block k a λm=>hn<|(h.own k).2<|j k m a,λk a o=>?_⟩;rw[h.own];obtain e|e|e|e|e|e|e:=(b.own k).1 o
 .exact .inl e
 .exact .inr<|.inl e
 .exact .inr<|.inr<|.inl e
 .rcases hb with hb|hb
  .exact .inr<|.inr<|.inr<|.inl<|e.trans hb
  .omega
 .rcases c k e with e|e
  .exact .inr<|.inr<|.inr<|.inr<|.inl e
  .omega
 .rcases g k e with e|e
  .exact .inr<|.inr<|.inr<|.inr<|.inr<|.inl e
  .omega
 .rcases i k e with e|e
  .exact .inr<|.inr<|.inr<|.inr<|.inr<|.inr e
  .omega
theorem aA.sep(h:aA w B lp p bD bN pv sv rv l d n nD nN):∀k∈dS p bD bN pv,k≠lp/\sv.ownBlock≠some k/\rv.ownBlock≠some k:=by
 intro k a;have y:∀(c:Array Value) (t:TypeId) (q:Nat),w.heap[q]?=some (.cells c t (0,0))->t≠96->t≠182->k≠q:=by
  intro c t q b f g e;subst e;obtain e|a:=zzj.1 a
  .rw[e,h.bq.blk]at b;cases b;exact f rfl
  obtain e|a:=zzj.1 a
  .exact h.bq.rz.cH b e.symm
  obtain e|a:=zzj.1 a
  .exact h.bq.now.cH b e.symm
  .simp at a;exact bj h.bq.pen b (λe=>g e.symm) a
 refine⟨y _ _ lp h.blk bM bM,λe=>?_,λe=>?_⟩
 .obtain⟨c,hc⟩:=aq h.segs e;exact y _ _ k hc bM bM rfl
 .obtain⟨c,hc⟩:=aq h.recs e;exact y _ _ k hc bM bM rfl
theorem aA.turned{S:List Nat}(h:aA w B lp p bD bN pv sv rv l d n nD nN)(c:ax w' B p bD bN G J n' O U)(hf:Fr S w w')(b:∀k∈S,k<w.heap.size->k≠lp/\sv.ownBlock≠some k/\rv.ownBlock≠some k)(hn:n<=n'):aA w' B lp p bD bN G sv rv l J n' O U where
 bq:=c
 blk:=(hf.block lp (zza.1 h.blk).1 λm=>(b lp m (zza.1 h.blk).1).1 rfl).trans h.blk;base:=h.base;segs:=aD h.segs hf λg a m=>(b g m (h.segs.lt g a).2).2.1 a
 recs:=aD h.recs hf λg a m=>(b g m (h.recs.lt g a).2).2.2 a
 eB:=⟨by have:=h.eB.1;omega,h.eB.2⟩
 gJ:=by have:=h.gJ;omega
 km:=h.km;iC:=by have:=h.iC;omega
 mZ:=h.mZ
end
theorem aA.N9{w':World}{nD nN:Nat}{l E:au}(h:aA w B lp p bD bN pv sv rv l d n nD nN)(hf:Fr [lp] w w')(hb:w'.heap[lp]?=some (pC p sv rv E))
  (j:E.segs.length<=n/\∀s∈E.segs,s<18446744073709551616) (o:E.recs.length<=n) (r:E.filled<=4096) (u:E.next<=n+1) (v:E.aZ<18446744073709551616) (f:E.segs=l.segs) (i:E.recs=l.recs):aA w' B lp p bD bN pv sv rv E d n nD nN:=by
 have b:∀k∈dS p bD bN pv,k∉[lp]:=λk x m=>by simp at m;exact(h.sep k x).1 m
 refine {bq:=?_,blk:=hb,base:=h.base,segs:=?_,recs:=?_,eB:=j,gJ:=o,km:=r,iC:=u,mZ:=v}
 .refine h.bq.fr hf (b p bR) (b bD bR) (b bN bR) (λg a=>b g<|by simp[a]) ?_;intro q c t;simp at c;subst c;rw[h.blk];intro e;cases e
 .rw[f];exact aD h.segs hf λg a=>by simp;intro e;subst e;exact bj h.segs h.blk bM a
 .rw[i];exact aD h.recs hf λg a=>by simp;intro e;subst e;exact bj h.recs h.blk bM a
def JA(B lp p bD bN:Nat)(l:au)(d:ah)(n:Nat)(w w':World):Prop :=
 (∃pv sv rv nD nN,aA w' B lp p bD bN pv sv rv l d n nD nN)/\ku lp p w w'
theorem Sg(h:Value)(w:World):(Go.method 593 73 h "Append").run prog w=.ok (380,h) w:=dJ
theorem Wk(h:Value)(w:World):(Go.method 593 73 h "Names").run prog w=.ok (381,h) w:=dJ
theorem Z7(h:Value)(w:World):(Go.method 593 73 h "Read").run prog w=.ok (382,h) w:=dJ
theorem Sh(h:Value)(w:World):(Go.method 593 73 h "Remove").run prog w=.ok (383,h) w:=dJ
theorem Si(h:Value)(w:World):(Go.method 593 73 h "Rename").run prog w=.ok (384,h) w:=dJ
theorem JB(h:Value)(w:World):(Go.method 593 73 h "Sync").run prog w=.ok (385,h) w:=dJ
theorem Wm(h:Value)(w:World):(Go.method 593 73 h "Write").run prog w=.ok (386,h) w:=dJ
def au.sync(l:au)(d:ah):au × ah × Nat :=
 if d.sync.2=0 then ({ l with aZ:=l.next },d.sync.1,0) else (l,d.sync.1,d.sync.2)
theorem Sj(h:c≠0):∃v,cf c=.iface 44 v:=⟨_,aG h⟩
theorem qW(B lp p bD bN n nD nN:Nat)(pv sv rv:Value)(l:au)(d:ah)(w:World)(h:aA w B lp p bD bN pv sv rv l d n nD nN)(hn:n<=67108864):
  Calls prog 121 #[.pointer<|some ⟨lp,0,none⟩] w λe w'=>e=.returned (cf (l.sync d).2.2)/\JA B lp p bD bN (l.sync d).1 (l.sync d).2.1 n w w':=by
 have g:=ae h.blk 0;simp at g;have I:=af h;clear h;go_enter func121,ntmps121;have q:=JB;go_wp2_with fail;apply(qa B p bD bN n nD nN pv d w I.out.bq).mono;rintro e b ⟨rfl,⟨j9,lC,j_,lZ⟩,bh⟩;have Y:=I.out.turned j_ bh (λk a _=>I.out.sep k<|by simp at a;obtain h|h:=a<;>simp[h])<|zzc _;have E:=I.out.zY Y bh (λk a _=>by simp at a;obtain h|h:=a<;>simp[h]) (.inl rfl) lZ (bS.refl _ _)<|bS.refl _ _;have H:=af Y;have O:=af E;have j:=ae Y.blk 4;have m:=ae Y.blk 5;have o:=aj Y.blk 5;simp at j m;clear j_ lZ bh Y E g;by_cases c:d.sync.2=0
 .rw[c,bK];go_wp2;go_ret;have e:l.sync d=({l with aZ:=l.next},d.sync.1,0):=by unfold au.sync;rw[if_pos c]
  rw[e];have⟨W,f⟩:∃W,W=b.setCell ⟨lp,5,none⟩ (.int .u64 (l.next:Int)):=⟨_,rfl⟩;rw[<-f];have hf:Fr [lp] b W:=by rw[f];exact Fr.cD bR _ _
  have hb:W.heap[lp]?=some (pC p sv rv {l with aZ:=l.next}):=by rw[f];simpa using ar H.out.blk 5<|.int .u64 (l.next:Int)
  have i:=H.out.N9 hf hb H.out.eB H.out.gJ H.out.km H.out.iC (by have:=H.out.iC;simp;omega) rfl rfl;exact⟨rfl,⟨j9,sv,rv,lC,nN,i⟩,O.out.trans<|H.out.zY i hf (λk a _=>by simp at a;simp[a]) (.inl rfl) (bS.refl _ _) (bS.refl _ _)<|bS.refl _ _⟩
 .have e:l.sync d=(l,d.sync.1,d.sync.2):=by unfold au.sync;rw[if_neg c]
  rw[aG c];go_wp2;go_ret;rw[e];exact⟨by rw[aG c];rfl,⟨j9,sv,rv,lC,nN,H.out⟩,O.out⟩
section
variable{P:Program}{K V:Type}[DecidableEq K]{E:TypeId}{KR:iD P K E}{ER:kK V}{w:World}{ops:Array Oper}{rest:List Oper}{o:Oper}{a:Act}{Q:Exit->Act->World->Prop}
theorem pn(z:o.guard=none)(m x:Operand)(t e:TypeId)(u:o.op=Op.call { callee:=Callee.builtin Builtin.delete,args:=#[m,x],argTypes:=#[t,E] })(F:P.underlying t=some (.map E e))(b r n:Nat)(l rem:List (K × V))(D:a.eval m=.map (some b))(M:aY KR ER w b r n l rem)
  (k:K) (c:KR.ok k) (H:a.eval x=KR.kv k)
  (y:∀w',aY KR ER w' b r n (aT l k) (aT rem k)->w'.rangeLeft b r<=w.rangeLeft b r->w.grownBy w' (some b)->wpList P ops Q rest (a.put o.dst (.tuple #[])) w'):wpList P ops Q (o :: rest) a w:=by
 obtain⟨I,left,g,Z,h,i,B,q,s,v⟩:=M;refine wpList_delete_ranges w z m x t E u e KR.law F ER.R b r n _ left g D Z _ (KR.kl k) H (KR.key k c) ?_;intro w' O C A G;have f:w'.rangeLeft b r<=w.rangeLeft b r:=by rw[C.left_eq,Z.left_eq];exact A
 rw[DataW.del_eq] at C;refine y w' ⟨_,_,O,C,uV h B c,i.del k,λp h=>B p (zzp.1 h).1,q.del k,λp h=>?_,λj d=>?_⟩ f G.grown
 .have:=zzp.1 h;exact zzp.2 ⟨s p this.1,this.2⟩
 .rw[v j d,KR.same d c,fY];by_cases e:j=k
  .simp[e]
  .simp[e]
end
end Go.Proofs.YtcalalndmcemiaaGreatDoor
