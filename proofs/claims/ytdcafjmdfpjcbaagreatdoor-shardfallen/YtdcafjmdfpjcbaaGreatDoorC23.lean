import Derived.Test.YtdcafjmdfpjcbaaGreatDoorC22
set_option maxHeartbeats 4000000
set_option maxRecDepth 100000
namespace Go.Proofs.YtdcafjmdfpjcbaaGreatDoor
open Go.RowKit Go.Maps Tryz Sc
variable{S:List Nat}{E bH bT bV hp k lp p sp:Nat}{t:TypeId}{a b c w:World}
section
variable(E I U J O n t:Nat)(seq:Int)(k:ByteArray)(s:ag)(w:World)
theorem Yy(v:ByteArray)(h:bC w E I U J O n s)(a:t<2^64)(hn:n+2<maxLen)(m:(s.aM t).state<=3)(M:(s.aM t).done<4611686018427387904)(q:1<=I:=by first|assumption|omega):
  Calls prog 129 #[rM E,.int .u64 (t:Int),.int .i64 seq,.string k,.string v] w λe w'=>e=.returned (cj (s.aY t seq k ⟨1,v⟩).2)/\bC w' E I U J O (n+2) (s.aY t seq k ⟨1,v⟩).1/\Fr [J,O] w w':=by
 have o:=qF E I U J O n t seq k ⟨1,v⟩ s w h a hn m M;clear h;go_enter func129,ntmps129;go_wp2_with fail;apply o.mono;clear o;rintro e b ⟨rfl,h1⟩;have H:=ae h1;clear h1;go_wp2;go_ret;exact⟨rfl,H.out⟩
theorem NF(h:bC w E I U J O n s)(a:t<2^64)(hn:n+2<maxLen)(m:(s.aM t).state<=3)(M:(s.aM t).done<4611686018427387904)(q:1<=I:=by first|assumption|omega):
  Calls prog 130 #[rM E,.int .u64 (t:Int),.int .i64 seq,.string k] w λe w'=>e=.returned (cj (s.aY t seq k ⟨2,yA⟩).2)/\bC w' E I U J O (n+2) (s.aY t seq k ⟨2,yA⟩).1/\Fr [J,O] w w':=by
 have o:=qF E I U J O n t seq k ⟨2,yA⟩ s w h a hn m M;clear h;go_enter func130,ntmps130;go_wp2_with fail;apply o.mono;clear o;rintro e b ⟨rfl,h1⟩;have H:=ae h1;clear h1;go_wp2;go_ret;exact⟨rfl,H.out⟩
end
def ag.get(s:ag)(t:Nat)(seq:Int)(k:ByteArray):ag × ByteArray × Bool × Nat :=
 if (s.aY t seq k ⟨0,yA⟩).2=0 then
  if ((s.aY t seq k ⟨0,yA⟩).1.dx t k).writes=true then ((s.aY t seq k ⟨0,yA⟩).1,((s.aY t seq k ⟨0,yA⟩).1.dx t k).val,decide (((s.aY t seq k ⟨0,yA⟩).1.dx t k).way=1),0)
  else ((s.aY t seq k ⟨0,yA⟩).1,(aj (s.aY t seq k ⟨0,yA⟩).1.aS k).getD yA,(aj (s.aY t seq k ⟨0,yA⟩).1.aS k).isSome,0)
 else ((s.aY t seq k ⟨0,yA⟩).1,yA,false,(s.aY t seq k ⟨0,yA⟩).2)
theorem Yz(E I U J O n t:Nat)(seq:Int)(k:ByteArray)(s:ag)(w:World)(h:bC w E I U J O n s)(l:t<2^64)(j:k.size<=maxLen)(hn:n+2<maxLen)(u:(s.aM t).state<=3)(M:(s.aM t).done<4611686018427387904)(x:1<=I:=by first|assumption|omega):
  Calls prog 126 #[rM E,.int .u64 (t:Int),.int .i64 seq,.string k] w λe w'=>e=.returned (.tuple #[.string (s.get t seq k).2.1,.bool (s.get t seq k).2.2.1,cj (s.get t seq k).2.2.2])/\bC w' E I U J O (n+2) (s.get t seq k).1/\Fr [J,O] w w':=by
 have o:=qF E I U J O n t seq k ⟨0,yA⟩ s w h l hn u M;clear h;have H:Hid (s.get t seq k=if (s.aY t seq k ⟨0,yA⟩).2=0 then
  if ((s.aY t seq k ⟨0,yA⟩).1.dx t k).writes=true then ((s.aY t seq k ⟨0,yA⟩).1,((s.aY t seq k ⟨0,yA⟩).1.dx t k).val,decide<|((s.aY t seq k ⟨0,yA⟩).1.dx t k).way=1,0)
  else ((s.aY t seq k ⟨0,yA⟩).1,(aj (s.aY t seq k ⟨0,yA⟩).1.aS k).getD yA,(aj (s.aY t seq k ⟨0,yA⟩).1.aS k).isSome,0)
 else ((s.aY t seq k ⟨0,yA⟩).1,yA,false,(s.aY t seq k ⟨0,yA⟩).2)):=rfl
 have⟨R,f⟩:∃R,R=s.aY t seq k ⟨0,yA⟩:=⟨_,rfl⟩;rw[<-f]at o H;clear f;go_enter func126,ntmps126;go_wp2_with fail;apply o.mono;clear o;rintro e d ⟨rfl,fZ,bF⟩;have a:=ae<|zzb fZ bF;have c3:=aa fZ.blk 3;simp at c3;have r:=fZ.WC l j;have⟨G,i⟩:=xY <|R.1.dx t k;rw[<-i]at r H;clear i fZ bF;by_cases c:R.2=0
 .rw[c,bQ];cases g:G.writes with
  |true=>
   have b:Hid (s.get t seq k=(R.1,G.val,decide<|G.way=1,0)):=by show _=_;rw[H.out,if_pos c,if_pos g]
   have m:=vq G<|d.alloc<|.cells #[.int .u8 (G.way:Int),.string G.val] 287;rw[g]at m;have W:=ae g;clear H g c;go_wp2_with fail;apply m.mono;clear m;rintro e w2 ⟨rfl,rfl⟩;go_wp2
   go_quiet (fail)
   go_wp2;go_ret3;rw[b.out];have p:((G.way:Int)==1)=decide (G.way=1):=by
    by_cases e:G.way=1
    .simp[e]
    .have:¬(G.way:Int)=1:=oE;simp[e,this]
   refine⟨by rw[<-p];rfl,a.1.fr ((fR (((lE d).alloc _).alloc _) _)) sE sE sE sE,a.2.trans<|(fR (((lE d).alloc _).alloc _) _).mono sE⟩
  |false=>
   have b:Hid (s.get t seq k=(R.1,(aj R.1.aS k).getD yA,(aj R.1.aS k).isSome,0)):=by show _=_;rw[H.out,if_pos c,if_neg<|by rw[g];decide]
   have m:=vq G<|d.alloc<|.cells #[.int .u8 (G.way:Int),.string G.val] 287;rw[g]at m;clear H g c;go_wp2_with fail;apply m.mono;clear m;rintro e w2 ⟨rfl,rfl⟩;have y:=(((lE d).alloc<|.cells #[.int .u8 (G.way:Int),.string G.val] 287).alloc<|.cells #[.int .u8 (G.way:Int),.string G.val] 287);have N:=CJ E I U J O (n+2) k R.1 _ (a.1.fr y sE sE sE sE) j;have A:=ae y;clear y;go_wp2_with fail;apply N.mono;clear N;rintro e v ⟨rfl,q,rfl⟩;go_wp2;go_ret3;rw[b.out];exact⟨rfl,a.1.fr (fR A.out q) sE sE sE sE,a.2.trans<|(fR A.out q).mono sE⟩
 .have b:Hid (s.get t seq k=(R.1,yA,false,R.2)):=by show _=_;rw[H.out,if_neg c]
  clear H;rw[aG c];go_wp2;go_ret3;rw[b.out];exact⟨by rw[aG c];rfl,a.out⟩
structure wS(t:TypeId)(w w':World):Prop where
 os:w'.os=w.os
 tape:w'.tape=w.tape
 output:w'.output=w.output
 size:w.heap.size<=w'.heap.size
 block:∀k,k<w.heap.size->(∀c,w.heap[k]?≠some (.cells c t (0,0)))->w'.heap[k]?=w.heap[k]?
theorem wS.refl(t:TypeId)(w:World):wS t w w:=⟨rfl,rfl,rfl,zzc _,λ_ _ _=>rfl⟩
theorem wS.trans(h:wS t a b)(k:wS t b c):wS t a c:=
 ⟨k.os.trans h.os,k.tape.trans h.tape,k.output.trans h.output,zzk h.size k.size,
  λi d hn=>(k.block i (zzl d h.size) (λc e=>hn c ((h.block i d hn).symm.trans e))).trans (h.block i d hn)⟩
theorem wS.alloc(h:wS t a w)(o:Obj):wS t a (w.alloc o):=
 ⟨h.os,h.tape,h.output,zzk h.size sE,λk b hn=>(zzf w o k<|zzl b h.size).trans<|h.block k b hn⟩
theorem wS.grown{r:Option Nat}(h:wS t a b)(g:b.grownBy c r)(f:∀q,r=some q->∃x,b.heap[q]?=some (.cells x t (0,0))):wS t a c:=
 h.trans ⟨g.os,g.tape,g.output,g.size,λk i hn=>g.block k i λe=>by have⟨x,d⟩:=f k e.symm;exact hn x d⟩
theorem Fw(base:Nat)(v:Value)(xs:List Nat)(n m:Nat)(w:World)(N:w.ownsRow base 5 1 v m<|bs xs)(hn:n<2^64)(s:m<=4398046511103)(y:base<=w.heap.size):
  Calls prog 165 #[v,.int .u64 n] w λe w'=>∃b,e=.returned b/\w'.ownsRow base 5 1 b (m+8) (bs<|xs++be 8 n)/\Below base w w'/\wS 5 w w':=by
 have⟨k,o,r,l,p⟩:=info_parts uO;have H:=ae hn;clear hn;go_enter func165,ntmps165;go_wp2_with (go_at_call 216;apply(rz _).mono;rintro e w' ⟨rfl,hw⟩;have Q:=hw.symm;subst Q;clear hw);go_loopw [0,5] (λv i wr=>∃j:Nat,j<=8/\i=.int .i64 ((8:Int)-1-j)/\wr.ownsRow base 5 1 v (m+j) (bs<|xs++(List.range j).map (digit 8 n))/\Below base w wr/\wS 5 w wr) (λ_ i _=>(intOf i+1).toNat);case atStart=>exact⟨0,zzs _,nF,by simpa using N,zzD _ _,wS.refl _ _⟩
 case round=>
  obtain⟨j,z,rfl,a,G,f⟩:=hrel;by_cases P:j<8
  .have HD:=ae<|ru n 8 j
   go_wp2_with (at_builtin;apply wpList_append_own _ rfl _ _ 179 rfl base 5 k (.int .u8 0) 1 1 underlying179 o r l p rfl dN _ _ _ rfl (a.alloc _) (dH wr.heap.size) 1 1 [.int .u8<|(n:Int)/2^(8*(7-j))%256] rfl rfl ?c1 ?c2 ?c3 ?c4 ?c5);case c1=>
    intro g u h;match g,h with
    |0,h=>simp at h;subst h;simp[Addr.add]
   case c2=>intro u d;simp at d;subst d;rfl
   case c3=>unfold maxLen;omega
   case c4=>omega
   case c5=>have:=G.size;simp;omega
   .intro b w1 eP eK _;have x:=G.size;have t:Below base w w1:=Below.grown (G.alloc oE _) eK sC λq c=>(a.lt q c).1;have Y:wS 5 w w1:=(f.alloc _).grown eK λq c=>aF (a.alloc _) c
    have E:w1.ownsRow base 5 1 b (m+(j+1)) (bs<|xs++(List.range<|j+1).map (digit 8 n)):=by
     rw[HD.out]at eP;rw[ry,<-Nat.add_assoc];exact eP
    clear eP eK a G f;go_wp2;go_roundw;case rel=>exact⟨j+1,oE,int_eq oE,E,t,Y⟩
    case measure=>simp[intOf]<;>omega
  .have ek:j=8:=oE;subst ek;go_wp2;go_ret;exact⟨_,rfl,a,G,f⟩
theorem Lx(base:Nat)(v:Value)(xs:List Nat)(n m:Nat)(w:World)(N:w.ownsRow base 5 1 v m<|bs xs)(hn:n<256)(r:m<=4398046511103)(x:base<=w.heap.size):
  Calls prog 166 #[v,.int .u8 n] w λe w'=>∃a,e=.returned a/\w'.ownsRow base 5 1 a (m+1) (bs<|xs++be 1 n)/\Below base w w'/\wS 5 w w':=by
 have⟨g,l,p,k,o⟩:=info_parts uO;have H:=ae hn;go_enter func166,ntmps166;go_wp2_with (go_at_call 217;apply(uV _).mono;rintro e w' ⟨rfl,hw⟩;have Q:=hw.symm;subst Q;clear hw);go_loopw [0,5] (λv i wr=>∃j:Nat,j<=1/\i=.int .i64 ((1:Int)-1-j)/\wr.ownsRow base 5 1 v (m+j) (bs<|xs++(List.range j).map (digit 1 n))/\Below base w wr/\wS 5 w wr) (λ_ i _=>(intOf i+1).toNat);case atStart=>exact⟨0,zzs _,nF,by simpa using N,zzD _ _,wS.refl _ _⟩
 case round=>
  obtain⟨j,y,rfl,G,z,f⟩:=hrel;by_cases P:j<1
  .have HD:Hid ((n:Int)=((digit 1 n 0:Nat):Int)):=by show _=_;unfold digit;simp;omega
   obtain rfl:j=0:=oE;rw[Nat.add_zero]at G;go_wp2_with (at_builtin;apply wpList_append_own _ rfl _ _ 179 rfl base 5 g (.int .u8 0) 1 1 underlying179 l p k o rfl dN _ _ _ rfl (G.alloc _) (dH wr.heap.size) 1 1 [.int .u8 (n:Int)] rfl rfl ?c1 ?c2 ?c3 ?c4 ?c5);case c1=>
    intro d u h;match d,h with
    |0,h=>simp at h;subst h;simp[Addr.add]
   case c2=>intro u c;simp at c;subst c;rfl
   case c3=>unfold maxLen;omega
   case c4=>omega
   case c5=>have:=z.size;simp;omega
   .intro a w1 eP eK _;have s:=z.size;have t:Below base w w1:=Below.grown (z.alloc oE _) eK sC λq b=>(G.lt q b).1;have Y:wS 5 w w1:=(f.alloc _).grown eK λq b=>aF (G.alloc _) b
    have E:w1.ownsRow base 5 1 a (m+(0+1)) (bs<|xs++(List.range<|0+1).map (digit 1 n)):=by
     rw[HD.out]at eP;rw[ry,<-Nat.add_assoc];simpa using eP
    clear eP eK G z f;go_wp2;go_roundw;case rel=>exact⟨0+1,oE,int_eq oE,E,t,Y⟩
    case measure=>simp[intOf]<;>omega
  .have ek:j=1:=oE;subst ek;go_wp2;go_ret;exact⟨_,rfl,G,z,f⟩
theorem yh(t:Nat)(w:World)(a:t<2^64):
  Calls prog 142 #[.int .u64 (t:Int)] w λe w'=>e=.returned (.string<|str<|be 8 t)/\Below w.heap.size w w':=by
 have h:=Fw w.heap.size (.slice none 0 0) [] t 0 w (zzu _ _ _ _) a oE<|zzc _
 go_enter func142,ntmps142;go_wp2_with fail;apply h.mono;clear h;rintro e b ⟨v',rfl,ho,hb,_⟩;obtain⟨g,p,rfl⟩:=dI ho oE;have v:=oY b g 0 (0+8) p (be 8 t) (by rw[eY]) (uN<|by simpa using ho);clear ho;go_wp2;go_ret;exact⟨rfl,hb⟩
theorem vu(base:Nat)(v:Value)(xs:List Nat)(m:Nat)(s:ByteArray)(w:World)(N:w.ownsRow base 5 1 v m<|bs xs)(k:s.size<256)(o:m<=1048576)(u:base<=w.heap.size):
  Calls prog 231 #[v,.string s] w λe w'=>∃a,e=.returned a/\w'.ownsRow base 5 1 a (m+1+s.size) (bs<|xs++[s.size]++bytesOf s)/\Below base w w'/\wS 5 w w':=by
 have g:=Lx base v xs s.size m w N k oE u;have t:IntKind.u8.wrap (s.size:Int)=(s.size:Int):=by rw[IntKind.wrap_u8];omega
 clear N;go_enter func231,ntmps231;go_wp2_with fail;apply g.mono;clear g;rintro e r ⟨v1,rfl,ho,hb,ht⟩;have⟨i,d,n,b,f⟩:=info_parts uO;have p:=hb.size;have j:∀q,v1.ownBlock=some q->base<=q:=λq h=>(ho.lt q h).1
 go_wp2_with (first
  |(at_builtin;apply Lib.wpList_append_own_string _ rfl _ _ 179 9 rfl base 5 i underlying179 underlying9 d n b f v1 (m+1) (bs<|xs++be 1 s.size) rfl ho s rfl mE oE oE;intro v2 w2 H Y _)
  |fail)
 have U:Below base w w2:=Below.grown hb Y oE j;have l:be 1 s.size=[s.size]:=by
  unfold be;have:digit 1 s.size 0=s.size:=by unfold digit;simp;omega
  simp[List.range_succ,this]
 have c:Lib.strCells s=bs (bytesOf s):=by
  unfold Lib.strCells bs bytesOf;rw[List.map_map];rfl
 have S:wS 5 w w2:=ht.grown Y λq h=>aF ho h;rw[l,c,<-Iq]at H;clear ho Y;go_wp2;go_ret;exact⟨_,rfl,H,U,S⟩
structure lH(sp bV bT bH lp p:Nat)(w w':World):Prop where
 os:w'.os=w.os
 tape:w'.tape=w.tape
 output:w'.output=w.output
 size:w.heap.size<=w'.heap.size
 block:∀k,k<w.heap.size->¬Own lp p w k->k∉[sp,bV,bT,bH]->w'.heap[k]?=w.heap[k]?
 stay:∀k,k<w.heap.size->Own lp p w' k->Own lp p w k
theorem lH.trans(h:lH sp bV bT bH lp p a b)(k:lH sp bV bT bH lp p b c):lH sp bV bT bH lp p a c:=
 ⟨k.os.trans h.os,k.tape.trans h.tape,k.output.trans h.output,zzk h.size k.size,
  λi d hn m=>(k.block i (zzl d h.size) (λo=>hn<|h.stay i d o) m).trans<|h.block i d hn m,
  λi d o=>h.stay i d (k.stay i (zzl d h.size) o)⟩
theorem kI.s(h:kI lp p a b):lH sp bV bT bH lp p a b:=⟨h.os,h.tape,h.output,h.size,λi c hn _=>h.block i c hn,h.stay⟩
structure SL(w:World)(B sp gp bV bT bH m lp p bD bN n:Nat)(s:ag)(l:aq)(d:ah):Prop where
 sh:bC w sp gp bV bT bH m s
 lg:∃pv sv rv nD nN,aD w B lp p bD bN pv sv rv l d n nD nN
 ap:CK w sp gp bV bT bH bD bN lp
 CM:1<=gp
section
variable{w w':World}{B sp gp bV bT bH m m' lp p bD bN n n':Nat}{s E:ag}{l l':aq}{d d':ah}
theorem SL.gR{S:List Nat}(h:SL w B sp gp bV bT bH m lp p bD bN n s l d)(i:bC w' sp gp bV bT bH m' E)(f:Fr S w w')(c:∀k∈S,k∈[sp,bV,bT,bH]):SL w' B sp gp bV bT bH m' lp p bD bN n E l d/\lH sp bV bT bH lp p w w':=by
 have⟨v,e,r,D,N,a⟩:=h.lg;have⟨b,j⟩:=a.QS h.sh h.ap f c;refine⟨⟨i,⟨v,e,r,D,N,b⟩,j,h.CM⟩,f.os,f.tape,f.output,f.size,λk q _ g=>f.block k q λx=>g<|c k x,λk _ o=>?_⟩;rw[a.own];exact(b.own k).1 o
theorem SL.new(h:SL w B sp gp bV bT bH m lp p bD bN n s l d)(f:Fr [] w w'):SL w' B sp gp bV bT bH m lp p bD bN n s l d/\lH sp bV bT bH lp p w w':=
 h.gR (h.sh.fr f sE sE sE sE) f sE
theorem SL.log(h:SL w B sp gp bV bT bH m lp p bD bN n s l d)(f:kI lp p w w')(e:∃v c r D N,aD w' B lp p bD bN v c r l' d' n' D N):SL w' B sp gp bV bT bH m lp p bD bN n' s l' d'/\lH sp bV bT bH lp p w w':=by
 have⟨v,c,r,D,N,g⟩:=h.lg;have⟨a,b⟩:=h.sh.BG g h.ap f;exact⟨⟨a,e,b,h.CM⟩,f.s⟩
theorem SL.p6(h:SL w B sp gp bV bT bH m lp p bD bN n s l d)(f:lH sp bV bT bH lp p w w')(e:2<=B)(c:B<=sp/\B<=bV/\B<=bT/\B<=bH)(hp:dw w):dw w':=by
 have⟨v,b,r,D,N,a⟩:=h.lg;exact hp.cF<|f.block 1 (by have:=a.bE.base.2.2.2;omega) (λo=>by have:=a.ge o;omega) sC
end
theorem ke(sp g bV bT bH n t:Nat)(s:ag)(w:World)(h:bC w sp g bV bT bH n s)(b:t<2^64):
  Calls prog 76 #[rM sp,.int .u64 (t:Int)] w λe w'=>e=.returned (.int .i64 ((s.aM t).state:Int))/\w'=w:=by
 have c2:=aa h.blk 2;simp at c2;have l:=h.zR b;have U:=LL;have⟨T,a⟩:=xY <|s.aM t;rw[<-a]at l ⊢;clear h a;go_enter func76,ntmps76;go_wp2;go_ret;exact⟨rfl,rfl⟩
theorem Gc(sp gp bV bT bH m t:Nat)(s:ag)(w:World)(h:bC w sp gp bV bT bH m s)(b:t<2^64)(c:t=0\/(s.aM t).state≠3):
  Calls prog 89 #[rM sp,.int .u64 (t:Int)] w λe w'=>e=.returned (cj<|if t=0 then 7 else if (s.aM t).state=0 then 0 else 4)/\w'=w:=by
 have M:=ke sp gp bV bT bH m t s w h b;clear h;by_cases a:t=0
 .rw[if_pos a];subst a;clear c M;go_enter func89,ntmps89;go_wp2;go_ret;exact⟨by rw[aG dN];rfl,rfl⟩
 .rw[if_neg a];have i:¬(t:Int)=0:=oE;by_cases z:(s.aM t).state=0
  .rw[if_pos z];rw[z]at M;clear c;go_enter func89,ntmps89;go_wp2_with fail;apply M.mono;clear M;rintro e d ⟨rfl,rfl⟩;go_wp2;go_ret;exact⟨rfl,rfl⟩
  .rw[if_neg z];have j:¬((s.aM t).state:Int)=0:=oE;have f:(((s.aM t).state:Int) != 3)=true:=sC;clear c;go_enter func89,ntmps89;go_wp2_with fail;apply M.mono;rintro e d ⟨rfl,rfl⟩;go_wp2_with fail;apply M.mono;rintro e w2 ⟨rfl,rfl⟩;clear M;go_wp2;go_ret;exact⟨by rw[aG dN];rfl,rfl⟩
def kQ(s E:ag)(t:Nat):Prop:=∃v,E=ag.forget { s with aS:=v } t/\∀k,aj v k=iQ (aj s.holds (t,k)) (aj s.aS k)
section
variable(B sp gp bV bT bH m lp p bD bN n t c:Nat)(s:ag)(l:aq)(d:ah)(w:World)
theorem Jt(h:SL w B sp gp bV bT bH m lp p bD bN n s l d)(o:t<2^64)(h0:t≠0)(W:(s.aM t).state=3)(hn:n+3<1000000000)(hB:2<=B)(G:l.filled<600->l.segs≠[])(I:dw w)(N:m+c<maxLen)(z:s.count t<=c)(v:∀p∈s.holds,p.2.val.size<=maxLen):
  Calls prog 89 #[rM sp,.int .u64 (t:Int)] w λe w'=>e=.returned (cj (l.keep d 2<|str<|be 8 t).2.2)/\(∃E,SL w' B sp gp bV bT bH (m+c) lp p bD bN (n+3) E (l.keep d 2<|str<|be 8 t).1 (l.keep d 2<|str<|be 8 t).2.1/\(if (l.keep d 2<|str<|be 8 t).2.2=0 then kQ s E t else E=s))/\lH sp bV bT bH lp p w w':=by
 have M:=ke sp gp bV bT bH m t s w h.sh o;rw[W]at M;have i0:¬(t:Int)=0:=oE;have q:=aa h.sh.blk 0;simp at q;rw[iw h.CM]at q;have T:=h.sh.oT.1;have a1:=yh t w.drew o;have HO:Hid (aV s.holds):=by have⟨_,_,_,h3,_⟩:=h.sh.holds;exact h3
 have K:Hid (∀b,Fr [] w b->Calls prog 141 #[.pointer<|some (dH gp),.int .u8 2,.string<|str<|be 8 t] b λe w2=>e=.returned (cj (l.keep d 2<|str<|be 8 t).2.2)/\SL w2 B sp gp bV bT bH m lp p bD bN (n+3) s (l.keep d 2<|str<|be 8 t).1 (l.keep d 2<|str<|be 8 t).2.1/\lH sp bV bT bH lp p w w2):=λb F=>by
  have⟨g,S⟩:=h.new F;have⟨V,J,O,U,Y,Q⟩:=g.lg;have Z:dw b:=I.cF (F.block 1 (by have⟨_,_,_,_,_,f⟩:=h.lg;have:=f.bE.base.2.2.2;omega) sE);apply(FW B gp lp p bD bN n U Y 2 V J O l d (str<|be 8 t) b g.ap.lW Q oE hn hB G Z).mono;rintro e w2 ⟨he,eN,iH⟩;have⟨f,X⟩:=g.log iH eN;exact⟨he,f,S.trans X⟩
 have HH:=ae h;have C:=ae<|zzb z v;clear h z v G;have⟨R,x⟩:=xY <|l.keep d 2 (str<|be 8 t);rw[<-x]at K ⊢;clear x
 go_enter func89,ntmps89;go_wp2_with fail;apply M.mono;rintro e b ⟨rfl,rfl⟩;go_wp2_with fail;apply M.mono;rintro e w2 ⟨rfl,rfl⟩;clear M;go_wp2;go_region_held3 (λw'=>w'.cell? (dH sp)=some (.pointer<|some (dH gp)))
  (simp[*])
  (first
   |(go_at_call 142;apply a1.mono;rintro e j ⟨rfl,eV⟩;have D:Fr [] w2 j:=⟨eV.os,eV.tape,eV.output,eV.size,λk hk _=>eV.block k hk⟩;have p0:j.cell? (dH sp)=some (.pointer<|some (dH gp)):=(zze<|D.block sp T sE).trans q;have A:Hid (Fr [] w2 j):=D;clear eV D)
   |(go_at_call 141;apply(K.out j A.out).mono;rintro e i ⟨rfl,h4,wF⟩;have q0:i.cell? (dH sp)=some (rM gp):=(aa h4.sh.blk 0).trans (by simp[iw h4.CM]);have H:Hid (SL i B sp gp bV bT bH m lp p bD bN (n+3) s R.1 R.2.1/\lH sp bV bT bH lp p w2 i):=⟨h4,wF⟩;clear h4 wF))
 by_cases r:R.2.2=0
 .rw[r,bQ];go_wp2_with fail;apply(CL sp gp bV bT bH m t c s i H.1.sh o N (λL g f=>by rw[ag.jx HO.out g f];exact C.1) C.2).mono;rintro e w5 ⟨rfl,vs,NA,ic,kP⟩;have⟨y,P⟩:=H.1.gR NA kP sE;have u:=ae<|zzb y<|H.2.trans P;clear NA kP y P;go_wp2;go_ret;exact⟨rfl,⟨_,u.1,⟨vs,rfl,ic⟩⟩,u.2⟩
 .rw[aG r];go_wp2;go_ret;exact⟨by rw[aG r];rfl,⟨H.1.sh.mono<|Nat.le_add_right _ _,H.1.lg,H.1.ap,H.1.CM⟩,H.2⟩
theorem Ju(h:bC w sp gp bV bT bH m s)(b:t<2^64)(c:t=0\/(s.aM t).state≠3):
  Calls prog 91 #[rM sp,.int .u64 (t:Int)] w λe w'=>e=.returned (cj<|if t=0 then 7 else 0)/\bC w' sp gp bV bT bH m (if t=0 then s else s.forget t)/\Fr [bT,bH] w w':=by
 have M:=ke sp gp bV bT bH m t s w h b;by_cases a:t=0
 .rw[if_pos a,if_pos a];subst a;have I:=ae h;clear c M h;go_enter func91,ntmps91;go_wp2;go_ret;exact⟨by rw[aG dN];rfl,I.out,Fr.refl _ _⟩
 .rw[if_neg a,if_neg a];have i:¬(t:Int)=0:=oE;have j:¬((s.aM t).state:Int)=3:=oE;have E:=kO sp gp bV bT bH m t s w h b;clear c h;go_enter func91,ntmps91;go_wp2_with fail;apply M.mono;rintro e d ⟨rfl,rfl⟩;go_wp2_with fail;apply E.mono;clear M E;rintro e w2 ⟨rfl,h2,cA⟩;have H:=ae<|zzb h2 cA;clear h2 cA;go_wp2;go_ret;exact⟨rfl,H.out⟩
theorem NH(h:SL w B sp gp bV bT bH m lp p bD bN n s l d)(o:t<2^64)(h0:t≠0)(N:(s.aM t).state=3)(hn:n+3<1000000000)(S:2<=B)(G:l.filled<600->l.segs≠[])(y:dw w):
  Calls prog 91 #[rM sp,.int .u64 (t:Int)] w λe w'=>e=.returned (cj (l.note d 3<|str<|be 8 t).2.2)/\SL w' B sp gp bV bT bH m lp p bD bN (n+3) (if (l.note d 3<|str<|be 8 t).2.2=0 then s.forget t else s) (l.note d 3<|str<|be 8 t).1 (l.note d 3<|str<|be 8 t).2.1/\lH sp bV bT bH lp p w w':=by
 have M:=ke sp gp bV bT bH m t s w h.sh o;rw[N]at M;have X:¬(t:Int)=0:=oE;have i:=aa h.sh.blk 0;simp at i;rw[iw h.CM]at i;have I:=h.sh.oT.1;have V:=yh t w.drew o;have K:Hid (∀b,Fr [] w b->Calls prog 144 #[.pointer<|some (dH gp),.int .u8 3,.string<|str<|be 8 t] b λe w2=>e=.returned (cj (l.note d 3<|str<|be 8 t).2.2)/\SL w2 B sp gp bV bT bH m lp p bD bN (n+3) s (l.note d 3<|str<|be 8 t).1 (l.note d 3<|str<|be 8 t).2.1/\lH sp bV bT bH lp p w w2):=λb F=>by
  have⟨j,E⟩:=h.new F;have⟨L,z,A,J,Q,C⟩:=j.lg;have T:dw b:=y.cF (F.block 1 (by have⟨_,_,_,_,_,g⟩:=h.lg;have:=g.bE.base.2.2.2;omega) sE);apply(vp B gp lp p bD bN n J Q 3 L z A l d (str<|be 8 t) b j.ap.lW C oE hn S G T).mono;rintro e w2 ⟨he,eN,iH⟩;have⟨g,O⟩:=j.log iH eN;exact⟨he,g,E.trans O⟩
 clear h G;have⟨R,u⟩:=xY <|l.note d 3 (str<|be 8 t);rw[<-u]at K ⊢;clear u;go_enter func91,ntmps91;go_wp2_with fail;apply M.mono;rintro e w2 ⟨rfl,rfl⟩;clear M;go_wp2;go_region_held3 (λw'=>w'.cell? (dH sp)=some (.pointer<|some (dH gp)))
  (simp[*])
  (first
   |(go_at_call 142;apply V.mono;rintro e f ⟨rfl,eV⟩;have D:Fr [] w2 f:=⟨eV.os,eV.tape,eV.output,eV.size,λk U _=>eV.block k U⟩;have Z:f.cell? (dH sp)=some (.pointer<|some (dH gp)):=(zze<|D.block sp I sE).trans i;have x:Hid (Fr [] w2 f):=D;clear eV D)
   |(go_at_call 144;apply(K.out f x.out).mono;rintro e c ⟨rfl,h4,wF⟩;have W:c.cell? (dH sp)=some (rM gp):=(aa h4.sh.blk 0).trans (by simp[iw h4.CM]);have H:Hid (SL c B sp gp bV bT bH m lp p bD bN (n+3) s R.1 R.2.1/\lH sp bV bT bH lp p w2 c):=⟨h4,wF⟩;clear h4 wF))
 by_cases r:R.2.2=0
 .rw[r,bQ];go_wp2_with fail;apply(kO sp gp bV bT bH m t s c H.1.sh o).mono;rintro e Y ⟨rfl,NA,kP⟩;have⟨v,P⟩:=H.1.gR NA kP sE;have q:=ae<|zzb v<|H.2.trans P;clear NA kP v P;go_wp2;go_ret;exact⟨rfl,q.1,q.2⟩
 .rw[aG r];go_wp2;go_ret;exact⟨by rw[aG r];rfl,H.1,H.2⟩
end
abbrev nQ(kd:Int)(p:Nat)(up:Bool)(u v:Value):Obj:=.cells #[.int .i64 kd,.int .i64 0,rM p,.bool up,.pointer none,u,v,.pointer none] 64
def jL(hp p:Nat)(so:Option (Nat × List Nat))(w:World)(k:Nat):Prop:=k=hp\/lq p w k\/∃E S,so=some (E,S)/\(k=E\/k∈refs w.heap[E]?\/k∈S)
structure lA(hp p:Nat)(so iC:Option (Nat × List Nat))(w w':World):Prop where
 os:w'.os=w.os
 tape:w'.tape=w.tape
 output:w'.output=w.output
 size:w.heap.size<=w'.heap.size
 block:∀k,k<w.heap.size->¬jL hp p so w k->w'.heap[k]?=w.heap[k]?
 stay:∀k,k<w.heap.size->jL hp p iC w' k->jL hp p so w k
theorem lA.trans{x y z:Option (Nat×List Nat)}(h:lA hp p x y a b)(k:lA hp p y z b c):lA hp p x z a c:=
 ⟨k.os.trans h.os,k.tape.trans h.tape,k.output.trans h.output,zzk h.size k.size,
  λi d hn=>(k.block i (zzl d h.size) λo=>hn<|h.stay i d o).trans<|h.block i d hn,
  λi d o=>h.stay i d (k.stay i (zzl d h.size) o)⟩
structure wH(w:World)(B:Nat)(kd:Int)(hp p bD bN:Nat)(d:ah)(n:Nat):Prop where
 blk:w.heap[hp]?=some (nQ kd p false (.pointer none) (.pointer none))
 bE:∃pv nD nN,aB w B p bD bN pv d n nD nN
theorem eX:jL hp p none w k↔k=hp\/lq p w k:=by grind[jL]
theorem eM:jL hp p (some (E,S)) w k↔k=hp\/Own E p w k\/k∈S:=by grind[jL,Own,lq]
theorem lH.sL{s V T H:Nat}{w':World}(f:lH s V T H E p w w'):lA hp p (some (E,[s,V,T,H])) (some (E,[s,V,T,H])) w w':=
 ⟨f.os,f.tape,f.output,f.size,λk h hn=>f.block k h (λo=>hn (eM.2 (.inr (.inl o)))) (λm=>hn (eM.2 (.inr (.inr m)))),λk h o=>by
  obtain e|e|e:=eM.1 o
  .grind [eM]
  .exact eM.2<|.inr<|.inl<|f.stay k h e
  .exact eM.2 (.inr (.inr e))⟩
section
variable{w w':World}{B hp E p bD bN I n n' nD J nN U:Nat}{pv O:Value}{d d':ah}{up:Bool}{kd:Int}{u v:Value}{so:Option (Nat × List Nat)}
theorem aB.Su(h:aB w B p bD bN pv d n nD nN)(a:w.heap[hp]?=some (nQ kd p up u v)):¬lq p w hp:=h.iU a dN dN
theorem aB.nQ(h:aB w B p bD bN pv d n nD nN)(c:w.heap[hp]?=some (nQ kd p up u v))(f:Fr [hp] w w'):aB w' B p bD bN pv d n nD nN:=by
 have a:=h.Su c;rw[h.eO]at a;simp at a;apply h.fr f (by simp;exact λe=>a.1 e.symm) (by simp;exact λe=>a.2.1 e.symm) (by simp;exact λe=>a.2.2.1 e.symm) (λg i=>by simp;intro e;subst e;exact a.2.2.2 i);intro q b t;simp at b;subst b;rw[c];intro e;cases e
theorem aB.sL{S:List Nat}(h:aB w B p bD bN pv d n nD nN)(b:aB w' B p bD I O d' n' J U)(f:Fr S w w')(c:∀k∈S,k=hp\/k=p\/k=bD\/k=bN\/pv.ownBlock=some k)(g:I=bN\/w.heap.size<=I)(P:bn w.heap.size pv O):lA hp p so none w w':=by
 have own:∀k,(k=hp\/k=p\/k=bD\/k=bN\/pv.ownBlock=some k)->jL hp p so w k:=λk a=>by
  obtain e|e|e|e|e:=a
  .exact .inl e
  .exact .inr<|.inl<|(h.eO k).2<|by simp[e]
  .exact .inr<|.inl<|(h.eO k).2<|by simp[e]
  .exact .inr<|.inl<|(h.eO k).2<|by simp[e]
  .exact .inr<|.inl<|(h.eO k).2<|by simp[e]
 refine⟨f.os,f.tape,f.output,f.size,λk a hn=>f.block k a λm=>hn<|own k<|c k m,λk a o=>?_⟩;obtain e|e:=eX.1 o
 .grind
 .have:=(b.eO k).1 e;simp at this;obtain e|e|e|e:=this
  .grind
  .grind
  .grind
  .rcases P k e with e|e
   .grind
   .omega
theorem aB.Sv(h:aB w B p bD bN pv d n nD nN)(f:Fr [] w w')(b:∀E S,so=some (E,S)->E<w.heap.size):lA hp p so so w w':=by
 have I:=h.new f;refine⟨f.os,f.tape,f.output,f.size,λq a _=>f.block q a sE,λq a o=>?_⟩;obtain e|e|⟨E,S,e1,e2⟩:=o
 .exact .inl e
 .exact .inr<|.inl<|(h.eO q).2<|(I.eO q).1 e
 .refine .inr<|.inr ⟨E,S,e1,?_⟩;rw[f.block E (b E S e1) sE]at e2;exact e2
end
theorem Mr(kd:Int)(hp p:Nat)(up:Bool)(u v:Value)(d:∃x,u=.pointer x)(a:∃x,v=.pointer x)(w:World)(h:w.heap[hp]?=some (nQ kd p up u v)):
  Calls prog 21 #[rM hp] w λe w'=>e=.returned (.tuple #[])/\w'.heap[hp]?=some (nQ kd p false (.pointer none)<|.pointer none)/\Fr [hp] w w':=by
 obtain⟨x,rfl⟩:=d;obtain⟨y,rfl⟩:=a;have c3:=aa h 3;have c4:=aa h 4;have c5:=aa h 5;have b:=aa h 6;have c:=aa h 7;have i:=au h 3;have g:=au h 4;have j:=au h 5;have f:=au h 6;have k:=au h 7;simp at c3 c4 c5 b c;have H:=ae h;clear h;go_enter func21,ntmps21;go_wp2;go_end0;refine⟨rfl,?_,((((Fr.cH sE _ _).trans<|Fr.cH sE _ _).trans<|Fr.cH sE _ _).trans<|Fr.cH sE _ _).trans<|Fr.cH sE _ _⟩;have:=aH (aH (aH (aH (aH H.out 3<|.bool false) 4<|.pointer none) 5<|.pointer none) 6<|.pointer none) 7<|.pointer none;simp at this;exact this
theorem VI(kd:Int)(B hp p bD bN n nD nN:Nat)(pv u v:Value)(up:Bool)(d:ah)(kept part:Int)(so:Option<|Nat×List Nat)(w:World)(c:w.heap[hp]?=some (nQ kd p up u v))(q:∃x,u=.pointer x)(l:∃x,v=.pointer x)(h:aB w B p bD bN pv d n nD nN)(T:-2^63<=part)(o:part<=9223372036854775807):
  Calls prog 33 #[rM hp,.int .i64 kept,.int .i64 part] w λe w'=>e=.returned (.tuple #[])/\∃F I,Left d.ai d.pending F/\wH w' B kd hp p bD I (eI F) n/\lA hp p so none w w':=by
 have U:=Mr kd hp p up u v q l w c;have b:=ae<|zzb c h;clear c h
 go_enter func33,ntmps33;go_wp2_with fail;apply U.mono;clear U;rintro e f ⟨rfl,td,bF⟩;have m:=b.2.nQ b.1 bF;have i:lA hp p so none w f:=b.2.sL m bF (by intro k a;simp at a;simp[a]) (.inl rfl)<|bn.refl _ _;have c2:=aa td 2;simp at c2;have r:=CS B p bD bN n nD nN pv d kept part f m T o;have H:=ae<|zzb td<|zzb m i;clear td bF m i;go_wp2_with fail;apply r.mono;clear r;rintro e w2 ⟨rfl,F,I,J,hl,ow,cU,cA⟩;have s:=H.2.1.Su H.1;rw[H.2.1.eO]at s;simp at s;have g:=(cA.block hp (zza.1 H.1).1<|by simp;exact⟨s.1,s.2.1⟩).trans H.1;have Q:lA hp p none none f w2:=H.2.1.sL ow cA (by intro k a;simp at a;obtain e|e:=a<;>simp[e]) (.inr cU)<|bn.nil _ _;have j:Hid (∃F I,Left d.ai d.pending F/\wH w2 B kd hp p bD I (eI F) n/\lA hp p so none w w2):=⟨F,I,hl,⟨g,_,_,_,ow⟩,H.2.2.trans Q⟩;clear hl ow cU cA g Q s;go_wp2;go_end0;exact⟨rfl,j.out⟩
theorem vU(kd:Int)(B hp p bD bN n nD nN:Nat)(pv u v:Value)(up:Bool)(d:ah)(a b c k:Int)(so:Option<|Nat×List Nat)(w:World)(Gh:∀E S,so=some (E,S)->E<w.heap.size)(A:w.heap[hp]?=some (nQ kd p up u v))(Z:∃x,u=.pointer x)(Y:∃x,v=.pointer x)(h:aB w B p bD bN pv d n nD nN)(jM:d.down=true)(kD:-2^63<=k)(T:k<=9223372036854775807):
  Calls prog 27 #[rM hp,fY a b c k] w λe w'=>e=.returned (.tuple #[])/\∃F I,Left d.ai d.pending F/\wH w' B kd hp p bD I (eI F) n/\lA hp p so none w w':=by
 have⟨W,l⟩:=xY <|w.alloc (iV a b c k);have U:Fr [] w W:=by rw[l];exact(lE w).alloc _
 have C:=h.new U;have wy:=(zza.1 A).1;have r:W.heap[hp]?=some (nQ kd p up u v):=(U.block hp wy sE).trans A;have t:W.heap[w.heap.size]?=some (iV a b c k):=by rw[l];exact heap_alloc_new w _
 have P:lA hp p so so w W:=h.Sv U Gh;have c2:=aa r 2;have c5:=aa C.blk 5;have m:=aa t 2;have j:=aa t 3;simp at c2 c5 m j;rw[jM]at c5;have L:=Mr kd hp p up u v Z Y W r;have M:=ae t;have q:=ae<|zzb r<|zzb C P;rw[l]at c2 c5;clear A h U C r t P m j
 go_enter func27,ntmps27;go_wp2_with fail;rw[<-l];clear l c2 c5;apply L.mono;clear L;rintro e f ⟨rfl,td,bF⟩;have y:aB f B p bD bN pv d n nD nN:=q.2.1.nQ q.1 bF;have K:lA hp p so none w f:=q.2.2.trans (q.2.1.sL y bF (by intro k g;simp at g;simp[g]) (.inl rfl)<|bn.refl _ _);have Zr:w.heap.size≠hp:=oE
 have z:f.heap[w.heap.size]?=some (iV a b c k):=(bF.block _ (zza.1 M.out).1<|by simpa using Zr).trans M.out;have c2:=aa td 2;have m:=aa z 2;have j:=aa z 3;simp at c2 m j;have R:=CS B p bD bN n nD nN pv d c k f.drew (y.new (lE f).drew) kD T;have i:=ae<|zzb td<|zzb y K;clear td bF y K z;go_wp2
 go_region_with (first|(go_at_call 65;apply R.mono;rintro e w2 ⟨rfl,F,I,J,hl,ow,cU,cA⟩));all_goals (
  clear R;have s:=i.2.1.Su i.1;rw[i.2.1.eO]at s;simp at s;have G:=(cA.block hp (show hp<f.drew.heap.size from(zza.1 i.1).1)<|by simp;exact⟨s.1,s.2.1⟩).trans i.1;have Q:lA hp p none none f w2:=i.2.1.sL ow ((Fr.refl _ f).drew.trans cA) (by intro k g;simp at g;obtain e|e:=g<;>simp[e]) (.inr cU)<|bn.nil _ _;have y2:=aa G 2;have y3:=aa ow.blk 3;have y4:=aa ow.blk 4;have g3:=au ow.blk 3;have g4:=au ow.blk 4;simp at y2 y3 y4;have O:¬hp=p:=s.1;have a1:¬p=hp:=λe=>O e.symm
  have H:=ae<|zzb G<|zzb ow<|zzb (i.2.2.trans Q) hl;clear hl ow cU cA G Q s c2 m j;go_wp2
  go_region_held3 (λw'=>w'.cell? (d8 hp 2)=some (.pointer<|some (dH p))) (simp[dT, *]) (fail);go_end0;have⟨o,X⟩:∃o,o=((w2.setCell ⟨p,3,none⟩<|.int .i64<|-1).setCell ⟨p,4,none⟩<|.int .i64<|-1).drew:=⟨_,rfl⟩;rw[<-X];have D:Fr [p] w2 o:=by rw[X];exact((Fr.cH sE _ _).trans<|Fr.cH sE _ _).drew
  have V:o.heap[p]?=some (kF bD I (.slice none 0 0) (-1) (-1) (eI F).down):=by
   have:=aH (aH H.2.1.blk 3<|.int .i64<|-1) 4<|.int .i64<|-1;simp at this;rw[X];exact this
  have N:=H.2.1.gR D (-1) (-1) (eI F).down V;have De:=(D.block hp (zza.1 H.1).1<|by simpa using O).trans H.1;exact⟨rfl,F,I,H.2.2.2,⟨De,_,_,_,N⟩,H.2.2.1.trans (H.2.1.sL N D (by intro k g;simp at g;simp[g]) (.inl rfl) (bn.refl _ _))⟩)
end Go.Proofs.YtdcafjmdfpjcbaaGreatDoor
