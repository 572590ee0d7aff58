import Derived.Test.YtdcafjmdfpjcbaaGreatDoorC06
import Derived.Room.AppendFits
set_option maxHeartbeats 4000000
set_option maxRecDepth 100000
namespace Go.Proofs.YtdcafjmdfpjcbaaGreatDoor
open Go.RowKit Go.Maps Tryz
section
open Go.Lib Go.Sort
def dw(w:World):Prop:=Lib.TabIs prog w "internal/strconv.uint64pow10" .u64 Lib.pow10Tab
theorem XR(w:World)(T:TypeId)(d:Nat)(s:d<=24):Holds (λ(b:UInt8)=>Value.int .u8 (b.toNat:Int)) (w.alloc<|.cells zeros24 T) w.heap.size 0 (Array.replicate d (0:UInt8)):=λj h=>by
 have a:j<d:=by grind
 refine⟨?_,World.frozen?_alloc_new _ _ _ _⟩;rw[World.cell?_alloc_new,zeros24_at _ oE,getElem!_pos _ j h];simp
theorem uW{B:Nat}{a w:World}(h:Below B a w):∀k,Below B a<|w.drewN k
 |0=>h
 |k+1=>by
  exact (uW h k).drew
theorem M1(w:World)(o:Obj)(d:Array UInt8)(k:Nat):Below w.heap.size w ((putRow (λ(b:UInt8)=>Value.int .u8 (b.toNat:Int)) (w.alloc o) w.heap.size 0 d).drewN k):=by
 have h:Below w.heap.size w (putRow (λ(b:UInt8)=>Value.int .u8 (b.toNat:Int)) (w.alloc o) w.heap.size 0 d):=by
  refine⟨rfl,rfl,rfl,sE,λi a=>?_⟩;simp only[putRow,mapBlock,Array.getElem?_modify];rw[if_neg oE];exact zzf _ _ _ a
 exact uW h k
theorem P0(u:Nat)(w:World)(c:u<2^64)(g:dw w):
  Calls prog 220 #[.int .u64 (u:Int),.int .i64 10] w λe w'=>e=.returned (.string ⟨(Lib.decDigits u).toArray⟩)/\Below w.heap.size w w':=by
 by_cases s:u<100
 .have h1:(u:Int)<100:=oE;go_enter func220,ntmps220;go_wp2_with (first|(go_at_call 250;apply(Tryz.internal_strconv_small u s _).mono;rintro e w' ⟨rfl,rfl⟩));go_ret;exact⟨rfl,zzD _ _⟩
 .have h1:¬(u:Int)<100:=oE;have d:1<=u:=oE;have i:Lib.nDigits u<=20:=by have:=Lib.numDigits_eq u d c;split at this<;>omega
  have l:Tryz.prog.arrayLen 359=24:=by simp[Program.arrayLen,underlying359]
  have X:∀W,(Instr.sliceAt 359 (.pointer<|some (dH w.heap.size)) none (some<|.int .i64 (Lib.nDigits u:Int)) none).run prog W=.ok (.slice (some (dH w.heap.size)) (Lib.nDigits u) 24) W:=λW=>by
   rw[run_sliceAt_array_h W 359 (dH w.heap.size) (by simp[Program.arrayLen,Program.elem,underlying359]) .i64 (Lib.nDigits u:Int) oE<|by rw[l];omega];go_simp
  have Z:=XR w 359 (Lib.nDigits u) oE;have f:=Tryz.internal_strconv_formatBase10 w.heap.size 0 24 u (Array.replicate (Lib.nDigits u) 0) (w.alloc<|.cells Lib.zeros24 359) Z (by rw[Array.size_replicate];exact Lib.lt_pow_nDigits u) c (by rw[Array.size_replicate];omega);rw[Array.size_replicate]at f;have H:=Lib.hid Z;clear Z l;go_enter func220,ntmps220;go_wp2_with (first|(go_at_call 251;apply(Tryz.internal_strconv_numDigits u d c _<|Lib.tabIs_alloc g _).mono;rintro e w' ⟨rfl,rfl⟩));go_at_call 252;apply f.mono;rintro e w' ⟨rfl,k,v',dk,rfl,hF⟩;have v:(convert 179 9<|.slice (some (dH w.heap.size)) (Lib.nDigits u) 24).run prog ((putRow (λ(b:UInt8)=>Value.int .u8 (b.toNat:Int)) (w.alloc<|.cells Lib.zeros24 359) w.heap.size 0 dk).drewN k)=.ok (.string ⟨(Lib.decDigits u).toArray⟩) ((putRow (λ(b:UInt8)=>Value.int .u8 (b.toNat:Int)) (w.alloc<|.cells Lib.zeros24 359) w.heap.size 0 dk).drewN k):=by
   have h:=run_convert_bytes_back ((putRow (λ(b:UInt8)=>Value.int .u8 (b.toNat:Int)) (w.alloc (.cells Lib.zeros24 359)) w.heap.size 0 dk).drewN k) 179 9 5 (dH w.heap.size) 24 (Lib.decDigits u) underlying179 underlying5 underlying9 (λj a=>by
    rw[Lib.row_is_numeral hF j a,Lib.add_plain,World.cell?_drewN];exact cell?_putRow (λ(b:UInt8)=>Value.int .u8 (b.toNat:Int)) _ w.heap.size 0 _ dk H.out (by rw[hF.size,Array.size_replicate]) j (by rw[hF.size];rw[Lib.decDigits_length]at a;exact a))
   rw[Lib.decDigits_length]at h;exact h
  go_wp2;go_ret;exact⟨rfl,M1 w _ dk k⟩
theorem M3(u:Nat)(w:World)(h:u<2^64)(b:dw w):
  Calls prog 168 #[.int .u64 (u:Int),.int .i64 10] w λe w'=>e=.returned (.string ⟨(Lib.decDigits u).toArray⟩)/\Below w.heap.size w w':=by
 go_enter func168,ntmps168;go_wp2_with fail;apply(P0 u w h b).mono;rintro e a ⟨rfl,hb⟩;go_wp2;go_ret;exact⟨rfl,hb⟩
def ar(u:Nat):ByteArray:=⟨#[115,101,103,109,101,110,116,45]⟩++⟨(Lib.decDigits u).toArray⟩
theorem gS(u:Nat)(a:u<2^64):(ar u).size<=28:=by
 have i:(Lib.decDigits u).length<=20:=by
  rw[Lib.decDigits_length];by_cases h:1<=u
  .have:=Lib.numDigits_eq u h a;split at this<;>omega
  .obtain rfl:u=0:=oE;rw[Lib.nDigits_small oE];omega
 unfold ar;rw[ByteArray.size_append];show 8+(Lib.decDigits u).toArray.size<=28;simp;omega
theorem fP(u:Nat)(w:World)(h:u<2^64)(b:dw w):
  Calls prog 115 #[.int .u64 (u:Int)] w λe w'=>e=.returned (.string<|ar u)/\Below w.heap.size w w':=by
 go_enter func115,ntmps115;go_wp2_with fail;apply(M3 u w h b).mono;rintro e a ⟨rfl,hb⟩;have z:=gS u h;unfold ar at z;rw[ByteArray.size_append]at z;have B:¬9223372036854775807<(⟨#[115,101,103,109,101,110,116,45]⟩:ByteArray).size+(⟨(Lib.decDigits u).toArray⟩:ByteArray).size:=oE;go_wp2;all_goals first
  |(go_ret;exact⟨rfl,hb⟩)
  |(exfalso;rename_i hh;exact B hh)
end
section
open Sc
variable{a:Act}{l:List Nat}{rest:List Oper}{xs:List Value}{base f g k n:Nat}{o:Oper}{v:Value}{w:World}
def dO(x k:Nat)(l:List Nat):List Nat:=be 2 l.length++be 8 x++[k]++l
def ax(x k:Nat)(l:List Nat):List Nat:=dO x k l++be 4 (EX (dO x k l))
theorem nA(x k:Nat)(l:List Nat):(dO x k l).length=11+l.length:=by simp[dO,eY];omega
theorem fj(x k:Nat)(l:List Nat):(ax x k l).length=15+l.length:=by simp[ax,nA,eY];omega
theorem qw(x k:Nat)(l:List Nat)(c:k<256)(a:k9 l):k9 (dO x k l):=by
 intro b h;simp only[dO,zzo,List.mem_singleton]at h;obtain((h|h)|rfl)|h:=h
 .exact Fa _ _ _ h
 .exact Fa _ _ _ h
 .exact c
 .exact a _ h
theorem oZ(x k:Nat)(l:List Nat)(c:k<256)(a:k9 l):k9 (ax x k l):=by
 intro b h;simp only[ax,zzo]at h;obtain h|h:=h
 .exact qw _ _ _ c a _ h
 .exact Fa _ _ _ h
theorem Fj(s:ByteArray):Lib.strCells s=bs (bytesOf s):=by simp[Lib.strCells,bs,bytesOf]
abbrev IK(x k:Int)(s:ByteArray):Obj:=.cells #[.int .u64 x,.int .u8 k,.string s] 82
theorem Fk{ops:Array Oper}{Q:Exit->Act->World->Prop}(Y:o.guard=none)(s x:Operand)
  (f:o.op=.call {callee:=.builtin .append,args:=#[s,x],argTypes:=#[179,9]})
  (base g n p:Nat) (xs:List Nat) (t:ByteArray) (e:a.eval s=.slice (some<|dH g) n p) (N:w.ownsRow base 5 1 (.slice (some<|dH g) n p) n<|bs xs) (c:a.eval x=.string t) (j:0<p) (hn:n+t.size<=p)
  (h:∀w',w'.ownsRow base 5 1 (.slice (some<|dH g) (n+t.size) p) (n+t.size) (bs<|xs++bytesOf t)->w.grownBy w' (some g)->wpList prog ops Q rest (a.put o.dst<|.slice (some<|dH g) (n+t.size) p) w'):wpList prog ops Q (o::rest) a w:=by
 have⟨i,b,k,d,l⟩:=info_parts uO;apply Lib.wpList_append_fits_string _ Y s x 179 9 f base 5 i underlying179 underlying9 b d (some (dH g)) n p (bs xs) e N t c j hn;intro w' u C;refine h w' ?_ C;rw[Iq,<-Fj];exact u
theorem IL(x k:Int)(s:ByteArray)(w:World)(a:255<s.size):
  Calls prog 111 #[.agg #[.int .u64 x,.int .u8 k,.string s]] w λe w'=>e=.returned (.tuple #[.slice none 0 0,.iface 27<|.int .i64 1])/\Below w.heap.size w w':=by
 have h:(255:Int)<(s.size:Int):=oE;go_enter func111,ntmps111;go_wp2;go_ret2;exact⟨rfl,(zzD _ _).alloc (zzc _) _⟩
theorem IM{a:World}{o:Obj}{r:Option Nat}(h:(w.alloc o).grownBy a r)(b:r≠some w.heap.size)(i:Nat):a.cell? (d8 w.heap.size i)=(w.alloc o).cell? (d8 w.heap.size i):=
 rA h sE b i
theorem Uf{a:World}{o:Obj}{p:Nat}(h:a.ownsRow base 5 1 (.slice (some<|dH<|(w.alloc o).heap.size) n p) n xs):a.ownsRow base 5 1 (.slice (some<|dH<|w.heap.size+1) n p) n xs:=by simp_all
theorem xZ(x k:Nat)(s:ByteArray)(w:World)(O:s.size<=255)(C:k<256)(o:x<2^64):
  Calls prog 111 #[.agg #[.int .u64 x,.int .u8 k,.string s]] w λe w'=>∃g,e=.returned (.tuple #[.slice (some<|dH g) (11+s.size+4)<|15+s.size,.nilIface])/\w.heap.size<=g/\w'.ownsRow (w.heap.size+1) 5 1 (.slice (some<|dH g) (11+s.size+4)<|15+s.size) (11+s.size+4) (bs<|ax x k<|bytesOf s)/\Below w.heap.size w w':=by
 have P:¬(255:Int)<(s.size:Int):=oE;have X:=ae o;clear o;have⟨r,y,E,t,A⟩:=info_parts uO;go_enter func111,ntmps111;go_wp2_with (at_make;apply wpList_make_own _ rfl _ _ 179 rfl (w.heap.size+1) 5 r (.int .u8 0) 1 underlying179 y E t .i64 .i64 _ (15+s.size) rfl rfl oE (by rw[A];omega) mE sE;intro f j N;have om:=IM N sE;have c:=Uf j;clear j);have m:(w.alloc<|IK x k s).grownBy f none:=pE
 have L:=(ql (xs:=[]) c).2;have p:Hid (Below w.heap.size w f):=((zzD _ _).alloc (zzc _) _).grown m sE (λq h=>by cases h);clear N m;apply(TX (w.heap.size+1) _ 0 (15+s.size) [] s.size _ c oE oE).mono;rintro e w2 ⟨rfl,iH,dY⟩;have lI:∀i,w2.cell? (d8 w.heap.size i)=(w.alloc<|IK x k s).cell? (d8 w.heap.size i):=λi=>(rA dY oE sE i).trans<|om i
 have F:Hid (Below w.heap.size w w2):=p.out.grown dY oE (λq h=>by cases h;omega);have J:=(ql iH).2;clear om c dY;go_wp2_with fail;apply(T5 (w.heap.size+1) _ (0+2) (15+s.size) _ x _ iH oE X.out).mono;rintro e l ⟨rfl,wO,ko⟩;have oX:∀i,l.cell? (d8 w.heap.size i)=(w.alloc<|IK x k s).cell? (d8 w.heap.size i):=λi=>(rA ko oE sE i).trans<|lI i
 have D:Hid (Below w.heap.size w l):=F.out.grown ko oE (λq h=>by cases h;omega);have M:=(ql wO).2;clear lI iH ko;go_wp2_with fail;apply(XJ (w.heap.size+1) _ (0+2+8) (15+s.size) _ k _ wO oE oE).mono;rintro e d ⟨rfl,lh,iX⟩;have Wj:∀i,d.cell? (d8 w.heap.size i)=(w.alloc<|IK x k s).cell? (d8 w.heap.size i):=λi=>(rA iX oE sE i).trans<|oX i
 have G:Hid (Below w.heap.size w d):=D.out.grown iX oE (λq h=>by cases h;omega);have K:=(ql lh).2;clear oX wO iX;go_wp2_with (at_builtin;apply Fk rfl _ _ rfl (w.heap.size+1) _ (0+2+8+1) (15+s.size) _ s rfl lh rfl oE oE;intro a b z);have u:Hid (Below w.heap.size w a):=G.out.grown z oE (λq h=>by cases h;omega);have I:=(ql b).2;have n:a.ownsRow (w.heap.size+1) 5 1 (.slice (some (dH (w.heap.size+1))) (11+s.size)<|15+s.size) (11+s.size) (bs<|dO x k<|bytesOf s):=by
  have e:((([]++be 2 s.size)++be 8 x)++be 1 k)++bytesOf s=dO x k (bytesOf s):=by
   have B:be 1 k=[k]:=by simp[be,digit,List.range_succ];omega
   unfold dO;rw[dC,List.nil_append,B]
  rw[e]at b;exact b
 clear Wj lh z b;apply(PM (w.heap.size+1) a.heap.size (w.heap.size+1) (11+s.size) (15+s.size) false (dO x k<|bytesOf s) _ (Cy a) oE (n.alloc _) (qw x k (bytesOf s) C<|jN s) oE oE).mono;rintro e v ⟨rfl,ho6,M4⟩;have H:Hid (Below w.heap.size w v):=(u.out.alloc oE _).trans (M4 w.heap.size oE oE);have S:=ae ho6;clear ho6 M4 n;go_wp2;go_ret2;exact⟨w.heap.size+1,rfl,oE,S.out,H.out⟩
def fU(l:List Nat):Nat:=val (l.take 2)
def nW(l:List Nat):Bool:=decide (15<=l.length)&&(decide (fU l<=255)&&decide (15+fU l<=l.length))
def IP(l:List Nat):Bool:=EX (l.take (11+fU l))==val ((l.drop (11+fU l)).take 4)
def fN(l:List Nat):Bool:=nW l&&IP l
structure Rec where
 cQ:Nat
 kind:Nat
 pay:List Nat
def pL(l:List Nat):Rec:=⟨val ((l.drop 2).take 8),at_ l 10,(l.drop 11).take (fU l)⟩
def st:Nat->List Nat->List Rec × Nat
 |0,_=>([],0)
 |k+1,l=>((st k l).1++[pL (l.drop (st k l).2)],(st k l).2+15+fU (l.drop (st k l).2))
def Good(l:List Nat)(k:Nat):Prop:=∀j,j<k->fN (l.drop (st j l).2)=true
def sS(l:List Nat)(k:Nat):Prop:=Good l k/\fN (l.drop (st k l).2)=false
theorem o0{m:Nat}(h:sS l k)(g:sS l m):k=m:=by
 obtain P|heq|Tv:=Nat.lt_trichotomy k m
 .have:=g.1 k P;rw[h.2]at this;cases this
 .exact heq
 .have:=h.1 m Tv;rw[g.2]at this;cases this
theorem rB(l:List Nat):Good l 0:=λj h=>absurd h<|Nat.not_lt_zero j
theorem CC(h:Good l k)(g:fN (l.drop (st k l).2)=true):Good l (k+1):=λj a=>by
 obtain P|hge:=Nat.lt_or_ge j k
 .exact h j P
 .grind
theorem IQ(h:fN l=true):15<=l.length/\fU l<=255/\15+fU l<=l.length:=by grind[fN,nW]
theorem Wm:∀{k:Nat},Good l k->(st k l).2<=l.length
 |0,_=>zzs _
 |k+1,h=>by
  have c:=Wm (k:=k) (λj b=>h j oE);have a:=(IQ<|h k oE).2.2;rw[zzz]at a;show(st k l).2+15+fU (l.drop (st k l).2)<=_;omega
theorem Wn(l:List Nat):∀k:Nat,15*k<=(st k l).2
 |0=>zzs _
 |k+1=>by
  have h:=Wn l k;show _<=(st k l).2+15+fU (l.drop (st k l).2);omega
theorem Fl(h:15<=l.length)(a:fU l<=255)(b:15+fU l<=l.length):nW l=true:=by grind[nW]
theorem o6(h:¬15<=l.length):nW l=false:=by grind[nW]
theorem P3(h:¬fU l<=255):nW l=false:=by grind[nW]
theorem Fm(h:¬15+fU l<=l.length):nW l=false:=by grind[nW]
theorem iP(h:nW l=false):fN l=false:=by grind[fN]
theorem BL(h:IP l=false):fN l=false:=by grind[fN]
theorem x_(h:nW l=true)(g:IP l=true):fN l=true:=by grind[fN]
theorem Ug(h:k9 l):fU l<65536:=by
 have c:=oV (l.take 2) λx a=>h x<|List.mem_of_mem_take a;have b:(l.take 2).length<=2:=by grind
 have d:256^(l.take 2).length<=256^2:=Nat.pow_le_pow_right oE b;unfold fU;omega
def ffV(g f:Nat)(l:List Nat):Value:=if nW l=true then .slice (some (d8 g f)) (15+fU l) (15+fU l) else .slice none 0 0
theorem Ln(h:nW l=true):ffV g f l=.slice (some<|d8 g f) (15+fU l) (15+fU l):=by grind[ffV]
theorem IU(h:nW l=false):ffV g f l=.slice none 0 0:=by grind[ffV]
theorem kH(o:Option Addr)(n p:Nat)(w:World)(hn:n<15):
  Calls prog 233 #[.slice o n p] w λe w'=>e=.returned (.tuple #[.slice none 0 0,.bool false])/\w'=w:=by
 have h:(n:Int)<15:=oE;go_enter func233,ntmps233;go_wp2;go_ret2;exact⟨rfl,rfl⟩
theorem yJ(g f n p:Nat)(l:List Nat)(w:World)(h:l.length=n)(b:k9 l)(hn:15<=n)(t:n<=4398046511103)(o:n<=p)(D:p<=maxLen)(C:cZ w g f l):
  Calls prog 233 #[.slice (some<|d8 g f) n p] w λe w'=>e=.returned (.tuple #[ffV g f l,.bool<|nW l])/\∃q,w'=w.drewN q:=by
 have L:=ae h;have R:=ae C;have j:¬(n:Int)<15:=by omega
 clear h C;have i:=Ug b
 go_enter func233,ntmps233
 go_wp2_with fail;refine(Fb g f n p l _ b L.out (by omega) o D R.out).mono ?_;rintro e d ⟨rfl,q1,MU⟩;have Q:=ae MU;clear MU;rw[show val (l.take 2)=fU l from rfl];by_cases a:fU l<=255
 .by_cases hcut:15+fU l<=n
  .have dz:nW l=true:=Fl (by rw[L.out];omega) a (by rw[L.out];exact hcut);have O:=ae dz;clear dz;have k:¬(255:Int)<(fU l:Int):=by omega
   have c:¬(n:Int)<15+(fU l:Int):=by omega
   go_wp2_with fail;rw[show((15:Int)+(fU l:Int))=((15+fU l:Nat):Int) by omega];refine(wK g f n p (15+fU l) _ oE o D).mono ?_;rintro e w2 ⟨rfl,q2,MV⟩;have Z:=ae MV;clear MV;go_wp2;go_ret2;exact⟨by rw[Ln O.out,O.out];rfl,q1+q2,by rw[Z.out,Q.out,World.drewN_drewN]⟩
  .have O:Hid (nW l=false):=Fm (by rw[L.out];exact hcut);have k:¬(255:Int)<(fU l:Int):=oE
   have c:(n:Int)<15+(fU l:Int):=oE;go_wp2;go_ret2;exact⟨by rw[IU O.out,O.out];rfl,q1,Q.out⟩
 .have O:=ae<|P3 a;have k:(255:Int)<(fU l:Int):=oE
  go_wp2;go_ret2;exact⟨by rw[IU O.out,O.out];rfl,q1,Q.out⟩
theorem at_one(l:List Nat)(i:Nat)(h:i<l.length):val ((l.drop i).take 1)=at_ l i:=by grind[val_one,DG]
theorem DK{w2:World}(h:Below w.heap.size w w2)(a b c:Value):
  Below w.heap.size w (((w2.setCell (dH w.heap.size) a).setCell (d8 w.heap.size 1) b).setCell (d8 w.heap.size 2) c):=
 ((h.setCell (zzc _) _).setCell (zzc _) _).setCell (zzc _) _
theorem zC(g f p:Nat)(l:List Nat)(w:World)(c:l.length=11+p)(hp:p<=255)(b:k9 l)(C:cZ w g f l):
  Calls prog 235 #[.slice (some<|d8 g f) (11+p)<|11+p] w λe w'=>e=.returned (.agg #[.int .u64 (val ((l.drop 2).take 8):Nat),.int .u8 (at_ l 10:Nat),.string<|str<|l.drop 11])/\Below w.heap.size w w':=by
 have L:Hid (l.length=11+p):=c;have P:=C.lt oE;have R:Hid (cZ (w.alloc<|IK 0 0 ByteArray.empty) g f l):=(qk P).2 C;clear c C;have n:tE g f 2 (11+p)=some ⟨g,f+2,none⟩:=j_ oE;have m:tE g (f+2) 8 (11+p-2)=some ⟨g,f+2+8,none⟩:=j_ oE;go_enter func235,ntmps235;go_wp2_with fail;apply(Fb g f (11+p) (11+p) l _ b L.out oE oE mE R.out).mono;rintro e d ⟨rfl,q1,MU⟩;have Q:Hid (d=(w.alloc<|IK 0 0 ByteArray.empty).drewN q1):=MU;have T:Hid (cZ d g f l):=by rw[MU];exact R.out.drewN q1
 clear MU R;rw[n];go_wp2_with fail;apply(Fc g (f+2) (11+p-2) (11+p-2) (l.drop 2) _ (b.drop 2) (by rw[zzz,L.out]) oE oE mE<|T.out.drop 2<|by rw[L.out];omega).mono;rintro e w2 ⟨rfl,q2,MV⟩;have Z:Hid (w2=(w.alloc<|IK 0 0 ByteArray.empty).drewN (q1+q2)):=by show w2=_;rw[MV,Q.out,World.drewN_drewN]
 have M:Hid (cZ w2 g f l):=by rw[MV];exact T.out.drewN q2
 clear MV T Q;rw[m];go_wp2_with fail;apply(Lf g (f+2+8) (11+p-2-8) (11+p-2-8) (l.drop 10) _ (b.drop 10) (by rw[zzz,L.out];omega) oE oE mE<|M.out.drop 10<|by rw[L.out];omega).mono;rintro e a ⟨rfl,q3,aam⟩;have H:Hid (a=(w.alloc<|IK 0 0 ByteArray.empty).drewN (q1+q2+q3)):=by show a=_;rw[aam,Z.out,World.drewN_drewN]
 have j:Hid (cZ a g f l):=by rw[aam];exact M.out.drewN q3
 clear aam M Z;rw[at_one l 10 (by rw[L.out];omega)];have U:Below w.heap.size w a:=by rw[H.out];exact below_drewN ((zzD _ _).alloc (zzc _) _) _
 have x:Hid (Below w.heap.size w a):=U;clear U;have oX:∀i,a.cell? ⟨w.heap.size,i,none⟩=(w.alloc<|IK 0 0 ByteArray.empty).cell? ⟨w.heap.size,i,none⟩:=λi=>by rw[H.out];simp
 have D:∀i,a.frozen? ⟨w.heap.size,i,none⟩=false:=λi=>by rw[H.out];simp
 have⟨o,h,r⟩:∃o,tE g (f+2+8) 1 (11+p-2-8)=o/\(convert 179 9<|.slice o (11+p-2-8-1)<|11+p-2-8-1).run prog a=.ok (.string<|str<|l.drop 11) a:=by
  by_cases q:p=0
  .subst q;refine⟨_,oo _ _ _,?_⟩;exact oY a g (f+2+8) 0 0 (l.drop 11) (by rw[zzz,L.out]) λi k=>by rw[zzz,L.out]at k;omega
  .refine⟨_,j_ oE,?_⟩;exact oY a g (f+2+8+1) _ _ (l.drop 11) (by rw[zzz,L.out];omega)<|j.out.drop 11<|by rw[L.out];omega
 rw[h];clear h;go_wp2;exact bodyPost_ret (v:=.agg #[.int .u64 (val ((l.drop 2).take 8):Nat),.int .u8 (at_ l 10:Nat),.string<|str<|l.drop 11]) (by simp[results,results235,go_sem,oX]) rfl ⟨rfl,DK x.out _ _ _⟩
def dE(r:Rec):List Value:=[.int .u64 (r.cQ:Int),.int .u8 (r.kind:Int),.string (str r.pay)]
def cG(rs:List Rec):List Value:=rs.flatMap dE
theorem zD(rs:List Rec)(r:Rec):cG (rs++[r])=cG rs++dE r:=by simp[cG]
theorem rC(rs:List Rec):(cG rs).length=rs.length*3:=by
 induction rs with
 |nil=>rfl
 |cons r rs ih=>grind[cG,dE]
theorem yZ:(Tryz.prog.info? 82).map (λi=>(i.zero,i.size,i.bytes))=some (some<|.agg #[.int .u64 0,.int .u8 0,.string yA],3,32):=k6
theorem IV{ops:Array Oper}{Q:Exit->Act->World->Prop}(Y:o.guard=none)(s x:Operand)
  (p:o.op=.call {callee:=.builtin .append,args:=#[s,x],argTypes:=#[35,35]})
  (base:Nat) (v:Value) (n:Nat) (rs:List Rec) (r:Rec) (b:Nat) (j:a.eval s=v) (N:w.ownsRow base 82 3 v n<|cG rs) (f:a.eval x=.slice (some<|dH b) 1 1)
  (m:w.cell? (dH b)=some (.int .u64 (r.cQ:Int))) (om:w.cell? (d8 b 1)=some (.int .u8 (r.kind:Int))) (lI:w.cell? (d8 b 2)=some (.string<|str r.pay)) (hn:n<=4398046511103) (l:base<=w.heap.size)
  (h:∀c w',w'.ownsRow base 82 3 c (n+1) (cG<|rs++[r])->w.grownBy w' v.ownBlock->wpList prog ops Q rest (a.put o.dst c) w'):wpList prog ops Q (o::rest) a w:=by
 have⟨i,d,e,g,k⟩:=info_parts yZ;refine wpList_append_own _ Y s x 35 p base 82 i _ 3 32 underlying35 d e g k rfl dN v n (cG rs) j N ⟨b,0,none⟩ 1 1 (dE r) f rfl ?_ ?_ mE oE l ?_
 .intro jj u h_;match jj,h_ with
  |0,h_=>simp[dE]at h_;subst h_;simpa [Addr.add]using m
  |1,h_=>simp[dE]at h_;subst h_;simpa [Addr.add]using om
  |2,h_=>simp[dE]at h_;subst h_;simpa [Addr.add]using lI
 .intro u hu;simp[dE]at hu;obtain rfl|rfl|rfl:=hu<;>rfl
 .intro c w' wu PC _;refine h c w' ?_ PC;rw[zD];exact wu
theorem IW{w':World}(h:w.ownsRow base 82 3 v n xs)(b:Below w.heap.size w w'):w'.ownsRow base 82 3 v n xs:=
 h.kept (zy b none) (by cases v.ownBlock<;>simp)
theorem DL(l:List Nat)(f:Nat)(a:fU l=f)(h:15+f<=l.length):nV (l.take<|15+f)=IP l:=by
 unfold nV IP;rw[a,zzm,Nat.min_eq_left h,List.take_take,show min (15+f-4) (15+f)=11+f by omega,show 15+f-4=11+f by omega,List.drop_take,show 15+f-(11+f)=4 by omega]
theorem M6(l:List Nat)(f:Nat)(h:fU l=f):pL l=⟨val<|((l.take<|11+f).drop 2).take 8,at_ (l.take<|11+f) 10,(l.take<|11+f).drop 11⟩:=by
 unfold pL;rw[h,Lh _ _ _ (by omega),List.drop_take,List.drop_take,List.take_take,show min 8 (11+f-2)=8 by omega,show 11+f-11=f by omega]
theorem rD{B:Nat}(h:w.ownsRow (B+1) 82 3 v n xs):w.ownsRow B 82 3 v n xs:=by
 refine⟨h.1,?_⟩;obtain h|⟨g,cap,cur,h1,h2,h3⟩:=h.2
 .grind
 .exact .inr ⟨g,cap,cur,h1,oE,h3⟩
theorem cZ.take{b:Nat}(h:cZ w b f l)(m:Nat):cZ w b f (l.take m):=λi a=>by
 rw[zzm]at a;rw[Lh l m i oE];exact h i oE
theorem IX(h:nW l=true):15<=l.length/\fU l<=255/\15+fU l<=l.length:=by grind[nW]
theorem M8:sS [] 0:=⟨rB _,rfl⟩
theorem IY(b o p:Nat)(l:List Nat)(w:World)(hb:k9 l)(hl:l.length<=4398046511103)(aC:cZ w b o l)(bP:b<w.heap.size)(oq:l.length<=p)(mD:p<=maxLen):
  Calls prog 198 #[.slice (some<|d8 b o) l.length p] w λe w'=>∃k v,e=.returned (.tuple #[v,.int .i64 ((st k l).2:Nat)])/\sS l k/\w'.ownsRow w.heap.size 82 3 v k (cG (st k l).1)/\(k=0->v=.slice none 0 0)/\Below w.heap.size w w':=by
 have⟨n,hn⟩:=xY l.length;rw[<-hn]at hl oq ⊢;have L:=ae hn.symm;have HR:=ae aC;clear hn aC;have PO:=mD;unfold maxLen at PO;have MT:∀(x:Bool) (w:World),(Op.unary .not<|.bool x).run prog w=.ok (.bool<|!x) w:=λ_ _=>rfl
 go_enter func198,ntmps198;go_wp2;go_loopw [5,6] (λr e wr=>∃k,Good l k/\e=.int .i64 ((st k l).2:Nat)/\wr.ownsRow (w.heap.size+1) 82 3 r k (cG (st k l).1)/\(k=0->r=.slice none 0 0)/\(∃d,gq wr w.heap.size d)/\Below w.heap.size w wr) (λ_ e _=>n-(intOf e).toNat);case atStart=>exact⟨0,rB l,rfl,zzu _ _ _ _,λ_=>rfl,⟨false,Cy w⟩,(zzD _ _).alloc (zzc _) _⟩
 case round=>
  obtain⟨k,t,rfl,N,Q,⟨d,R⟩,B⟩:=hrel;have M:=Wm t;rw[L.out]at M;have G:=ae t;have⟨E,J⟩:=xY <|(st k l).2;rw[<-J]at M ⊢;have H:=ae J.symm;clear J t;have i0:(0:Int)<=E:=oE;have i1:(E:Int)<=n:=oE;have i2:(E:Int)<=p:=oE;by_cases Fo:n-E<15
  .have HO:Hid (fN (l.drop E)=false):=iP (o6<|by rw[zzz,L.out];omega);by_cases a6:p=E
   .subst a6;obtain rfl:n=p:=oE;go_wp2_with fail;apply(kH _ _ _ _ oE).mono;rintro e a ⟨rfl,sw⟩;have:=sw.symm;subst this;clear sw;go_wp2;go_ret2;exact⟨k,_,by rw[H.out];rfl,⟨G.out,by rw[H.out];exact HO.out⟩,rD N,Q,B⟩
   .go_wp2_with fail;apply(kH _ _ _ _ oE).mono;rintro e a ⟨rfl,sw⟩;have:=sw.symm;subst this;clear sw;go_wp2;go_ret2;exact⟨k,_,by rw[H.out];rfl,⟨G.out,by rw[H.out];exact HO.out⟩,rD N,Q,B⟩
  .have a6:¬p=E:=oE;have c:Hid (cZ wr b (o+E)<|l.drop E):=(HR.out.below B bP).drop E (by rw[L.out];exact M);have O:=hb.drop E;have Z:Hid ((l.drop E).length=n-E):=by show _=_;rw[zzz,L.out]
   have U:Hid (fN (l.drop E)=false->sS l k):=λh=>⟨G.out,by rw[H.out];exact h⟩
   have M_:Hid (fN (l.drop E)=true->Good l (k+1)/\(st (k+1) l).2=E+(15+fU (l.drop E))/\(st (k+1) l).1=(st k l).1++[pL<|l.drop E]):=λh=>
    ⟨CC G.out<|by rw[H.out];exact h,by show(st k l).2+15+fU (l.drop (st k l).2)=_;rw[H.out];omega,by show(st k l).1++[pL<|l.drop (st k l).2]=_;rw[H.out]⟩
   generalize l.drop E=m at c O Z U M_;have a1:=ae B;clear B;go_wp2_with fail;apply(yJ b (o+E) (n-E) (p-E) m _ Z.out O oE oE oE mE c.out).mono;rintro e a ⟨rfl,q1,sw⟩;have i:Hid (Below w.heap.size w a):=by show Below _ _ _;rw[sw];exact below_drewN a1.out _
   have A:a.ownsRow (w.heap.size+1) 82 3 u5 k (cG (st k l).1):=by rw[sw];exact N.kept (qp wr q1 none)<|by cases u5.ownBlock<;>simp
   have z:Hid (gq a w.heap.size d):=R.cF (by rw[sw,heap_drewN]);have D:Hid (cZ a b (o+E) m):=by show cZ _ _ _ _;rw[sw];exact c.out.drewN q1
   have a':=z.out.lt;clear sw N R c a1;obtain P|P:=(Bool.eq_false_or_eq_true<|nW m).symm
   .have HF:=ae<|iP P;rw[IU P,P];clear P;go_wp2;go_ret2;exact⟨k,u5,by rw[H.out];rfl,U.out HF.out,rD A,Q,i.out⟩
   .have HF:=ae P;have⟨bF,cA,dD⟩:=IX P;rw[Ln P,P];clear P;rw[Z.out]at bF dD;have⟨f,s⟩:=xY <|fU m;rw[<-s]at cA dD ⊢;have K:=ae s.symm;clear s;have W:=ae A;clear A;go_wp2_with fail;apply(IB w.heap.size b (o+E) (15+f) (15+f) d (m.take<|15+f) _ z.out oE (by rw[zzm,Z.out];omega) (O.take _) oE oE oE mE<|D.out.take _).mono;rintro e w2 ⟨rfl,nU,dY⟩;have I:Hid (w2.ownsRow (w.heap.size+1) 82 3 u5 k<|cG (st k l).1):=W.out.kept dY (Or.inr<|by intro e;have:=(W.out.lt _ e).1;omega);have u:Hid (Below w.heap.size w w2):=i.out.grown dY oE (λq g=>by cases g;exact zzc _);have S:Hid (cZ w2 b (o+E) m):=Cr D.out dY oE;have V:=ae nU;have ab:=dY.size;have F:=DL m f K.out (by rw[Z.out];omega);clear nU dY D z W i;rcases (Bool.eq_false_or_eq_true<|IP m).symm with j|j
    .have nT:=ae<|BL j;rw[j]at F;rw[Lg F,F];clear F j;go_wp2;go_ret2;exact⟨k,u5,by rw[H.out];rfl,U.out nT.out,rD I.out,Q,u.out⟩
    .have nT:=ae<|x_ HF.out j;rw[j]at F;rw[Fe F,F,show 15+f-4=11+f by omega];clear F j;go_wp2_with fail;apply(zC b (o+E) f (m.take<|11+f) _ (by rw[zzm,Z.out];omega) oE (O.take _)<|S.out.take _).mono;rintro e C ⟨rfl,eV⟩;have T:=ae<|IW I.out eV;have Hx:Hid (Below w.heap.size w C):=u.out.trans (eV.mono oE);have Z1:Hid (gq C w.heap.size true):=V.out.cF (eV.block _ oE);have IZ:=eV.size;have y:=M6 m f K.out;have Y:(pL m).cQ=val (((m.take<|11+f).drop 2).take 8):=by rw[y]
     have om:(pL m).kind=at_ (m.take<|11+f) 10:=by rw[y]
     have lI:(pL m).pay=(m.take<|11+f).drop 11:=by rw[y]
     rw[<-Y,<-om,<-lI];clear eV S I u V y Y om lI;have Hz:k<=4398046511103:=by
      have:=Wn l k;rw[H.out]at this;omega
     go_wp2_with (at_builtin;apply IV rfl _ _ rfl (w.heap.size+1) u5 k (st k l).1 (pL m) C.heap.size rfl (T.out.alloc _) rfl sE sE sE Hz sC;intro v4 w4 lh X);have⟨a8,qy,lR⟩:=M_.out nT.out;rw[K.out]at qy;have zE:Below w.heap.size w w4:=(Hx.out.alloc oE _).grown X sC (λq g=>by have:=(T.out.lt q g).1;omega);have a7:gq w4 w.heap.size true:=(Z1.out.alloc _).cF (X.block _ sC λe=>by have:=(T.out.lt _ e.symm).1;omega);clear X;go_roundw;case rel=>exact⟨k+1,a8,by rw[qy];go_num,by rw[lR];exact lh,λh=>absurd h oE,⟨true,a7⟩,zE⟩
     case measure=>simp[intOf];omega
end
end Go.Proofs.YtdcafjmdfpjcbaaGreatDoor
