import Derived.Test.YtlgeloebpdmnnaaGreatDoorProg
import Derived.RangeFuncRecord
import Derived.WalkSpells
import Derived.WalkLawsBesides
import Derived.Maps.Ext
import Derived.Sort.KeysCollected
import Derived.Deep.RegionHeld3
import Derived.Stop.Asserts
import Derived.RowKitTokens
import Derived.Lib.BufferMore
import Derived.Deep.RegionLaw
set_option maxHeartbeats 1600000
set_option maxRecDepth 100000
namespace Go.Proofs.YtlgeloebpdmnnaaGreatDoor
open Go.RowKit Go.Maps Tryz
variable{p:Prop}
theorem ah(h:p):Hid p:=h
abbrev zza:=@Array.getElem?_eq_some_iff
abbrev zzb:=@And.intro
abbrev zzc:=@Nat.le_refl
abbrev zzd:=@List.getElem?_eq_some_iff
abbrev zze:=@World.cell?_of_block
abbrev zzf:=@Below.heap_alloc
abbrev zzg:=@List.getElem?_eq_getElem
abbrev zzh:=@List.mem_of_getElem?
abbrev zzi:=@List.length_append
abbrev zzj:=@List.mem_cons
abbrev zzk:=@Nat.le_trans
abbrev zzl:=@Nat.lt_of_lt_of_le
abbrev zzm:=@List.length_take
abbrev zzn:=@List.length_map
abbrev zzo:=@List.mem_append
abbrev zzp:=@List.mem_filter
abbrev zzq:=@List.mem_map
abbrev zzr:=@List.length_cons
abbrev zzs:=@Nat.zero_le
abbrev zzt:=@List.take_of_length_le
abbrev zzu:=@World.ownsRow_nil
abbrev zzv:=@World.size_alloc
abbrev zzw:=@World.frozen?_of_block
abbrev zzx:=@List.append_assoc
abbrev zzy:=@List.getElem?_map
abbrev zzz:=@List.length_drop
abbrev zzA:=@List.pairwise_cons
abbrev zzB:=@List.mem_iff_getElem?
abbrev zzC:=@Nat.le_succ
abbrev zzD:=@Below.refl
abbrev zzE:=@List.length_pos_iff
abbrev zzF:=@World.block_lt_of_cell?
theorem dp(h:p:=by omega):p:=h
theorem du(h:p:=by decide):p:=h
theorem dv(h:p:=by simp):p:=h
theorem ef(h:p:=by simp;omega):p:=h
theorem eu(h:p:=by kernel_rfl):p:=h
theorem eD(h:p:=by rw[IntKind.wrap_i64];omega):p:=h
theorem eE(h:p:=by unfold maxLen;omega):p:=h
theorem eS(h:p:=by assumption):p:=h
theorem eR(h:p:=by go_num):p:=h
theorem fq(h:p:=by simp[intOf];omega):p:=h
theorem fD{α}{a b:α}(h:a=b:=by kernel_rfl):some a=some b:=congrArg some h
theorem gb{α}(a:α):∃x,x=a:=⟨_,rfl⟩
abbrev gx(k:Nat):Value:=.pointer (some ⟨k,0,none⟩)
abbrev gi(k:Nat):Addr:=⟨k,0,none⟩
abbrev hP(k i:Nat):Addr:=⟨k,i,none⟩
abbrev gW:=ByteArray.empty
abbrev nF(w:World):=w.heap.size
abbrev mA:=@List.setIfInBounds_toArray
abbrev hU:=@List.set_cons_zero
abbrev mI:=@List.set_cons_succ
abbrev ji:=@List.size_toArray
abbrev jn:=@List.length_nil
abbrev mK:=@Array.replicate_succ
abbrev jo:=@Array.replicate_zero
abbrev j7:=@List.push_toArray
abbrev j8:=@List.append_toArray
abbrev kV:=@List.nil_append
abbrev lC:=@List.cons_append
abbrev nL:=World
abbrev nS:=ByteArray
abbrev mf(s a b c d e f g h i z:Nat)(v:Value):Array Value:=#[.int .i64 (s:Int),.int .u8 (a:Int),.int .u8 (b:Int),.int .u8 (c:Int),.int .u8 (d:Int),.int .u8 (e:Int),.int .u8 (f:Int),.int .u8 (g:Int),.int .u8 (h:Int),.int .u8 (i:Int),.int .u64 (z:Int),v]
abbrev mE:=@if_neg
abbrev oo:=@if_pos
abbrev oz:=@heap_alloc_new
abbrev oT:=@beq_eq_false_iff_ne
abbrev qY:=@World.putObj_heap_other
abbrev sR:=@World.cell?_alloc_lt
abbrev tO:=@info_parts
abbrev ua:=@AllReadyH.nil
abbrev um:=@wpAnyH_ready
abbrev vV:=@List.take_add_one
abbrev wg:=@Below.heap_setCell
abbrev wk:=@rounds_succ
abbrev wo:=@List.append_nil
abbrev xw:=@results_none
abbrev yY:=@callsIn_wide
abbrev zv:=@List.pairwise_map
abbrev zA:=@bodyPost_ret
abbrev zI:=@decide_eq_true
abbrev zY:=@decide_eq_false
abbrev Bg:=@Oper.semAt_some
abbrev Bl:=@IntKind.wrap_u64
abbrev Bn:=@wp_loop_rounds
abbrev Bx:=@Value.slice.injEq
abbrev BB:=@List.map_append
abbrev Cj:=@wpAnyH_done
abbrev Cq:=@Array.getElem?_eq_getElem
abbrev Cy:=@World.alloc_heap_new
abbrev Ds:=@List.mem_cons_of_mem
abbrev DK:=@run_takeDeferred
abbrev DS:=@List.pairwise_iff_getElem
abbrev Ez:=@List.take_append_drop
abbrev EL:=@List.mem_append_right
abbrev FN:=@World.cell?_setCell_other
abbrev FQ:=@List.mem_of_mem_take
abbrev Hf:=@World.putObj_heap_same
abbrev Hm:=@List.length_filter_le
abbrev Hn:=@List.getElem?_append_right
abbrev Ij:=@List.getElem?_append_left
abbrev Il:=@List.getD_eq_getElem?_getD
abbrev Jc:=@AllReadyH.cons
end Go.Proofs.YtlgeloebpdmnnaaGreatDoor
namespace Go.Proofs.YtlgeloebpdmnnaaGreatDoor.Sc
def half(c:Nat):Nat:=if c%2=1 then (c/2) ^^^ 3988292384 else c/2
def eh:Nat->Nat->Nat
 |0,c=>c
 |k+1,c=>half (eh k c)
def rM(c:Nat)(l:List Nat):Nat:=l.foldl (λc b=>eh 8 (c ^^^ b)) c
def Gs(l:List Nat):Nat:=4294967295 ^^^ rM 4294967295 l
theorem RN(a b:Nat):(a^^^b)/2=a/2^^^b/2:=by
 have:=Nat.shiftRight_xor_distrib (a:=a) (b:=b) (i:=1);simpa [Nat.shiftRight_eq_div_pow]using this
theorem RO(a b:Nat):(a^^^b)%2=(a+b)%2:=by
 have h:=Nat.xor_mod_two_pow (a:=a) (b:=b) (n:=1);rw[show(2:Nat)^1=2 from rfl]at h;rw[h];obtain c|c:=Nat.mod_two_eq_zero_or_one a<;>obtain hb|hb:=Nat.mod_two_eq_zero_or_one b<;>rw[c,hb]<;>simp<;>omega
theorem RP(a b:Nat):half (a^^^b)=half a^^^half b:=by
 unfold half;have h:=RN a b;have c:=RO a b;rw[h,c];obtain d|d:=Nat.mod_two_eq_zero_or_one a<;>obtain hb|hb:=Nat.mod_two_eq_zero_or_one b<;>grind
theorem Kj(k a b:Nat):eh k (a^^^b)=eh k a^^^eh k b:=by
 induction k with
 |zero=>rfl
 |succ k ih=>grind[eh,RP]
theorem ES(k d:Nat):eh k (2^k*d)=d:=by
 induction k generalizing d with
 |zero=>simp[eh]
 |succ k ih=>
  have e:2^(k+1)*d=2^k*(2*d):=by grind
  rw[e];simp only[eh,ih];unfold half;rw[mE dp];omega
theorem Ww(c:Nat)(h:c<4294967296):half c<4294967296:=by
 unfold half;have a:c/2<2^32:=dp;split
 .exact Nat.xor_lt_two_pow a du
 .exact a
theorem tG(k c:Nat)(h:c<4294967296):eh k c<4294967296:=by
 induction k with
 |zero=>exact h
 |succ k ih=>exact Ww _ ih
theorem GU(a b:Nat)(h:a<4294967296)(hb:b<4294967296):a^^^b<4294967296:=Nat.xor_lt_two_pow (n:=32) h hb
theorem MN(a b:Nat)(h:a<256)(hb:b<256):a^^^b<256:=Nat.xor_lt_two_pow (n:=8) h hb
theorem aai(s:Nat):s=(s%256)^^^(256*(s/256)):=by
 refine Nat.eq_of_testBit_eq λi=>?_
 rw[Nat.testBit_xor,show(256:Nat)=2^8 from rfl,Nat.testBit_mod_two_pow,Nat.testBit_two_pow_mul,Nat.testBit_div_two_pow];by_cases h:i<8<;>grind
def GV(s b:Nat):Nat:=eh 8 ((s%256) ^^^ b) ^^^ (s/256)
theorem GX(s b:Nat):GV s b=eh 8 (s^^^b):=by
 have e:s^^^b=((s%256)^^^b)^^^(256*(s/256)):=by grind[aai]
 rw[e,Kj,show(256:Nat)=2^8 from rfl,ES];rfl
theorem Dw(c:Nat)(l:List Nat)(b:Nat):rM c (l++[b])=eh 8 (rM c l^^^b):=by simp[rM]
theorem ET(c:Nat)(l:List Nat)(h:c<4294967296)(a:∀b∈l,b<256):rM c l<4294967296:=by
 induction l generalizing c with
 |nil=>exact h
 |cons b l ih=>
  have hb:=a b dv;show rM (eh 8<|c^^^b) l<_;exact ih _ (tG _ _<|GU _ _ h dp) λx hx=>a x<|by simp[hx]
theorem RQ(l:List Nat)(h:∀b∈l,b<256):Gs l<4294967296:=GU _ _ du<|ET _ _ du h
def digit(k n j:Nat):Nat:=n/256 ^ (k-1-j)%256
def be(k n:Nat):List Nat:=(List.range k).map (digit k n)
def val(l:List Nat):Nat:=l.foldl (λn b=>n*256+b) 0
theorem ew(k n:Nat):(be k n).length=k:=by simp[be]
theorem za(k n:Nat):∀b∈be k n,b<256:=by grind[be,digit]
theorem rZ(l:List Nat)(b:Nat):val (l++[b])=val l*256+b:=by simp[val]
theorem Wy(l:List Nat)(n:Nat)(h:∀b∈l,b<256):l.foldl (λn b=>n*256+b) n<(n+1)*256^l.length:=by
 induction l generalizing n with
 |nil=>simp
 |cons b l ih=>
  have c:=h b dv;have a:=ih (n*256+b) (λx hx=>h x<|by simp[hx]);apply zzl a;rw[zzr,Nat.pow_succ,Nat.mul_comm (256^l.length) 256,<-Nat.mul_assoc];exact Nat.mul_le_mul_right _ dp
theorem qF(l:List Nat)(h:∀b∈l,b<256):val l<256^l.length:=by
 have:=Wy l 0 h;simpa [val]using this
theorem Kk(k n j:Nat)(h:j<=k):val ((List.range j).map<|digit k n)=n/256^(k-j)%256^j:=by
 induction j with
 |zero=>grind[val]
 |succ j ih=>
  rw[List.range_succ,BB,List.map_singleton,rZ,ih dp];unfold digit;have e:k-j=(k-(j+1))+1:=dp
  have a:k-1-j=k-(j+1):=dp;rw[e,a,Nat.pow_succ,<-Nat.div_div_eq_div_mul];generalize n/256^(k-(j+1))=m;rw[Nat.pow_succ,Nat.mul_comm (256^j) 256,Nat.mod_mul];omega
theorem py(k n:Nat)(h:n<256^k):val (be k n)=n:=by
 have:=Kk k n k<|zzc _;rw[Nat.sub_self,Nat.pow_zero,Nat.div_one,Nat.mod_eq_of_lt h]at this;exact this
end Go.Proofs.YtlgeloebpdmnnaaGreatDoor.Sc
namespace Go.Proofs.YtlgeloebpdmnnaaGreatDoor
open Go.RowKit Go.Maps Tryz
section
open Sc
variable{l xs:List Nat}{B b base f g n p:Nat}{w w' w2:nL}
def at_(l:List Nat)(i:Nat):Nat:=l.getD i 0
def mG(l:List Nat):Prop:=∀x∈l,x<256
theorem Dx(h:mG l)(i:Nat):at_ l i<256:=by
 unfold at_;by_cases a:i<l.length
 .have:=h _<|List.getElem_mem a;simpa [a]using this
 .grind
theorem mG.rB(h:mG l)(n:Nat):mG (l.take n):=λx hx=>h x<|FQ hx
theorem tH(l:List Nat)(k:Nat)(h:k<l.length):l.take (k+1)=l.take k++[at_ l k]:=by
 rw[List.take_succ_eq_append_getElem h];simp[at_,h]
def bs(l:List Nat):List Value:=l.map λx:Nat=>.int .u8 (x:Int)
theorem Kl(l:List Nat):(bs l).length=l.length:=by simp[bs]
theorem RR(a b:List Nat):bs (a++b)=bs a++bs b:=by simp[bs]
theorem Zk(l:List Nat)(i:Nat)(h:i<l.length):(bs l)[i]?=some (.int .u8 (at_ l i:Nat)):=by simp[bs,at_,h]
def cX(w:nL)(g f:Nat)(l:List Nat):Prop:=∀i,i<l.length->w.cell? (hP g (f+i))=some (.int .u8 (at_ l i:Nat))
theorem cX.below(h:cX w g f l)(hb:Below B w w')(a:g<B):cX w' g f l:=λi b=>by
 rw[hb.cell a];exact h i b
theorem r7{o:Obj}(h:b<w.heap.size):cX (w.alloc o) b f l↔cX w b f l:=by
 unfold cX;constructor
 .intro k i hi;have:=k i hi;rwa [sR _ _ (hP b (f+i)) h]at this
 .intro k i hi;rw[sR _ _ (hP b (f+i)) h];exact k i hi
theorem cX.lt(h:cX w b f l)(a:0<l.length):b<w.heap.size:=by
 exact zzF w (hP b (f+0))<|h 0 a
theorem cX.sub(h:cX w b f l)(o m:Nat)(c:o+m<=l.length):cX w b (f+o) ((l.drop o).take m):=λi a=>by
 simp only[zzm,zzz]at a;have:=h (o+i) dp;rw[show f+o+i=f+(o+i) by omega,this];congr 3;simp[at_,List.getElem?_drop,show i<m by omega]
theorem jg(w:nL)(r:Option Nat):w.grownBy w r:=⟨rfl,rfl,rfl,zzc _,λ_ _ _=>rfl⟩
theorem cI{b:nL}{r:Option Nat}(h:w.grownBy b r)(k:b.grownBy w2 r):w.grownBy w2 r:=
 ⟨k.os.trans h.os,k.tape.trans h.tape,k.output.trans h.output,zzk h.size k.size,λi a hn=>(k.block i (zzl a h.size) hn).trans<|h.block i a hn⟩
theorem tI(w:nL)(b o:Nat)(v:Value):w.grownBy (w.setCell (hP b o) v) (some b):=
 ⟨rfl,rfl,rfl,by simp[World.setCell],λk _ hn=>wg _ _ _ _ λe=>hn<|by rw[e]⟩
theorem mQ{a:nL}{r:Option Nat}(h:w.grownBy a r):w.grownBy a.drew r:=⟨h.os,h.tape,h.output,h.size,h.block⟩
theorem ot{c:nL}(h:w.grownBy c<|some b){a:Addr}(hn:a.block≠b)(l:a.block<w.heap.size):c.cell? a=w.cell? a:=
 zze (h.block a.block l λe=>hn<|Option.some.inj e)
theorem iV(w:nL)(o:Obj)(r:Option Nat):w.grownBy (w.alloc o) r:=World.grownBy_alloc w o r
theorem Wz{v:Value}(h:w.ownsRow base 5 1 v n<|bs xs):xs.length=n:=by
 have:=h.1;rw[Kl]at this;omega
theorem wC(h:w.ownsRow base 5 1 (.slice (some<|gi g) n p) n<|bs xs):cX w g 0 xs:=λi a=>by
 have:=h.cells rfl i _<|Zk xs i a
 simpa [Addr.add_lit]using this
theorem r9(h:w.ownsRow base 5 1 (.slice (some<|gi g) n p) n<|bs xs):base<=g/\g<w.heap.size:=h.lt g rfl
theorem Oj{d:nL}(h:w.grownBy d<|some b)(k:d.grownBy w2<|some g)(hb:B<=b)(e:B<=g)(c:B<=w.heap.size):Below B w w2:=
 ((zzD B w).grown h c λq a=>by cases a;exact hb).grown k (zzk c h.size) (λq a=>by cases a;exact e)
theorem Dy(h:cX w g f l)(d:w.grownBy w'<|some b)(j:g≠b):cX w' g f l:=λi e=>by
 have c:=h i e;rw[ot d j<|zzF w _ c];exact c
theorem cX.drewN(h:cX w b f l)(q:Nat):cX (w.drewN q) b f l:=λi a=>by
 simpa using h i a
theorem zd:(Tryz.prog.info? 5).map (λi=>(i.zero,i.size,i.bytes))=some (some<|.int .u8 0,1,1):=eu
end
variable{ops:Array Oper}{Q:Exit->Act->nL->Prop}{ps:List MemPlace}{S T:List Nat}{rest:List Oper}{b n q:Nat}{o:Oper}{v:Value}{a c w w':nL}
abbrev aG:=nS->Option nS
def aG.set(m:aG)(k:nS)(v:Option nS):aG:=λx=>if x=k then v else m x
theorem aG.f_(m:aG)(k:nS)(v:Option nS):m.set k v k=v:=by simp[aG.set]
theorem aG.cU(m:aG){k x:nS}(v:Option nS)(h:x≠k):m.set k v x=m x:=by simp[aG.set,h]
structure km where
 kind:Nat
 name:nS
 to:nS
 data:nS
def dD(m:aG)(o:km):aG :=
 if o.kind=1 then m.set o.name (some o.data)
 else if o.kind=2 then m.set o.name (some ((m o.name).getD gW++o.data))
 else if o.kind=3 then m.set o.name none
 else if o.kind=4 then (match m o.name with|none=>m|some s=>(m.set o.to (some s)).set o.name none)
 else m
structure aj where
 ak:aG
 now:aG
 pending:List km
 left:Int
 full:Int
 down:Bool
def aj.writes(d:aj):aj × Nat :=
 if d.down=true\/d.left=0 then ({ d with down:=true },10)
 else if d.full=0 then ({ d with left:=wrap64 (d.left-1),full:=-1 },9)
 else ({ d with left:=wrap64 (d.left-1),full:=wrap64 (d.full-1) },0)
def aj.tell(d:aj)(o:km):aj × Nat :=
 let r:=d.writes
 if r.2=10 then ({ r.1 with pending:=r.1.pending++[o] },10)
 else if r.2=9 then (r.1,9)
 else if r.1.now o.name=none/\2<o.kind then (r.1,8)
 else if o.kind=4/\o.name=o.to then (r.1,0)
 else ({ r.1 with now:=dD r.1.now o,pending:=r.1.pending++[o] },0)
def aj.sync(d:aj):aj × Nat :=
 let r:=d.writes
 if r.2=0 then ({ r.1 with ak:=r.1.pending.foldl dD r.1.ak,pending:=[] },0) else r
structure Fr(S:List Nat)(w w':nL):Prop where
 os:w'.os=w.os
 tape:w'.tape=w.tape
 output:w'.output=w.output
 size:w.heap.size<=w'.heap.size
 block:∀k,k<w.heap.size->k∉S->w'.heap[k]?=w.heap[k]?
theorem Fr.refl(S:List Nat)(w:nL):Fr S w w:=⟨rfl,rfl,rfl,zzc _,λ_ _ _=>rfl⟩
theorem fU(w:World):Fr [] w w:=Fr.refl [] w
theorem Fr.trans{b:nL}(h:Fr S a b)(k:Fr S b c):Fr S a c:=
 ⟨k.os.trans h.os,k.tape.trans h.tape,k.output.trans h.output,zzk h.size k.size,λi d hn=>(k.block i (zzl d h.size) hn).trans<|h.block i d hn⟩
theorem Fr.mono{b:nL}(h:Fr S a b)(s:∀k,k<a.heap.size->k∈S->k∈T):Fr T a b:=
 ⟨h.os,h.tape,h.output,h.size,λk c hn=>h.block k c λm=>hn<|s k c m⟩
theorem Fr.andThen{b:nL}(h:Fr S a b)(k:Fr T b c)(t:∀j,j∈T->j<a.heap.size->j∈S):Fr S a c:=
 ⟨k.os.trans h.os,k.tape.trans h.tape,k.output.trans h.output,zzk h.size k.size,λi d hn=>(k.block i (zzl d h.size) λm=>hn<|t i m d).trans<|h.block i d hn⟩
theorem Fr.cA{r:Option Nat}(h:w.grownBy w' r):Fr r.toList w w':=
 ⟨h.os,h.tape,h.output,h.size,λk a hn=>h.block k a λe=>hn<|by rw[<-e];simp⟩
theorem Fr.bI(h:w.grownBy w'<|some b):Fr [b] w w':=Fr.cA h
theorem Fr.bE(h:Below w.heap.size w w')(S:List Nat):Fr S w w':=
 ⟨h.os,h.tape,h.output,h.size,λk a _=>h.block k a⟩
theorem Fr.below{B:Nat}(h:Fr S w w')(a:B<=w.heap.size)(s:∀k,k∈S->B<=k):Below B w w':=
 ⟨h.os,h.tape,h.output,h.size,λk b=>h.block k (zzl b a) λm=>by have:=s k m;omega⟩
theorem Fr.aaj(h:Fr [b] w w'):w.grownBy w' (some b):=
 ⟨h.os,h.tape,h.output,h.size,λk a hn=>h.block k a λm=>hn<|by simp at m;rw[m]⟩
theorem Fr.alloc(h:Fr S a w)(o:Obj):Fr S a (w.alloc o):=
 h.trans ⟨rfl,rfl,rfl,dv,λk b _=>zzf _ _ _ b⟩
theorem Fr.drew(h:Fr S a w):Fr S a w.drew:=⟨h.os,h.tape,h.output,h.size,h.block⟩
theorem Fr.setCell(h:Fr S a w){p:Addr}(hp:p.block∈S\/a.heap.size<=p.block)(u:Value):Fr S a (w.setCell p u):=
 ⟨h.os,h.tape,h.output,zzk h.size<|by simp[World.setCell],λk b hn=>(wg _ _ _ _ λe=>by obtain hp|hp:=hp;exact hn<|e▸hp;omega).trans<|h.block k b hn⟩
theorem mX(h:Fr S a w):∀k,Fr S a<|w.drewN k
 |0=>h
 |k+1=>(mX h k).drew
def di(v:Value):Option (DataW Unit × List MemPlace) :=
 match v with
 |.pointer (some a)=>if a.off=0/\a.spot=none then some (.lit (.int .i64 (a.block:Int)),[]) else none
 |.pointer none=>some (.lit (.int .i64 (-1)),[])
 |_=>none
theorem Km(q:Nat):di (gx q)=some (.lit<|.int .i64 (q:Int),[]):=by simp[di]
theorem ze:di (.pointer none)=some (.lit<|.int .i64<|-1,[]):=rfl
theorem zf(h:di v=some (.lit<|.int .i64 (q:Int),ps)):v=(gx q):=by
 unfold di at h;split at h
 .rename_i a;split at h
  .rename_i hc;have⟨b,o,s⟩:=a;simp at h hc;obtain⟨rfl,rfl⟩:=hc;simp
  .cases h
 .simp at h
 .cases h
theorem zO(h:di v=some (.lit<|.int .i64<|-1,ps)):v=.pointer none:=by
 unfold di at h;split at h
 .grind
 .rfl
 .cases h
theorem uK{y:DataW Unit×List MemPlace}(h:di v=some y):∃c,v=Value.pointer c:=by
 unfold di at h;split at h
 .grind
 .grind
 .cases h
abbrev jh(k:nS):Lit:=.string k.data.toList
theorem AX{a b:nS}(h:jh a=jh b):a=b:=by
 simp only[jh,Lit.string.injEq]at h;have⟨a⟩:=a;have⟨b⟩:=b;simp at h;rw[h]
theorem xU:Keyed prog 9:=Go.Maps.string_keyed underlying9
theorem MO(w:nL):(zeroValue 135).run prog w=.ok (.pointer none) w:=eu
abbrev gN(t:nS):Obj:=.cells #[.string t] 9
def FileMap(w:nL)(b n:Nat)(m:aG):Prop :=
 ∃D:DataW Unit,w.ownsMap prog 9 di b n D/\∀k:nS,
  (m k=none->Maps.has D (jh k)=false) /\
  (∀t,m k=some t->Maps.has D (jh k)=true/\k.size<=maxLen/\∃q:Nat,(∀z,D.atKey (jh k) z=.lit (.int .i64 (q:Int)))/\w.heap[q]?=some (gN t))
theorem FileMap.lt{m:aG}(h:FileMap w b n m):b<w.heap.size:=by
 have⟨D,h,_⟩:=h;exact h.lt
theorem FileMap.mono{n':Nat}{m:aG}(h:FileMap w b n m)(hn:n<=n'):FileMap w b n' m:=by
 have⟨D,h,a⟩:=h;exact⟨D,h.mono hn,a⟩
theorem FileMap.isMap{m:aG}(h:FileMap w b n m):∃es c,w.heap[b]?=some (.map es c):=by
 have⟨D,⟨es,c,h,_⟩,_⟩:=h;exact⟨es,c,h⟩
theorem FileMap.fr{m:aG}(h:FileMap w b n m)(hf:Fr S w w')(hb:b∉S)(s:∀q∈S,∀t,w.heap[q]?≠some (gN t)):FileMap w' b n m:=by
 have W:=h.lt;have⟨D,⟨es,c,i,j,l,o⟩,d⟩:=h;refine⟨D,⟨es,c,(hf.block b W hb).trans i,j,l,o⟩,λk=>⟨(d k).1,λt r=>?_⟩⟩;have⟨e,f,q,g,a⟩:=(d k).2 t r;refine⟨e,f,q,g,?_⟩;rw[hf.block q (zza.1 a).1 λp=>s q p t a];exact a
theorem FileMap.alloc{m:aG}(h:FileMap w b n m)(o:Obj):FileMap (w.alloc o) b n m:=
 h.fr ((fU w).alloc o) dv dv
theorem FileMap.made(w:nL):FileMap (w.alloc<|.map #[] 0) w.heap.size 0 (λ_=>none):=
 ⟨.map [],World.ownsMap_made _ _ _ _,λk=>⟨λ_=>rfl,λt h=>by cases h⟩⟩
theorem FileMap.look{m:aG}(h:FileMap w b n m)(k:nS)(g:k.size<=maxLen):
  (m k=none/\(Instr.lookup 62 (.map<|some b) (.string k) true).run prog w=.ok (.tuple #[.pointer none,.bool false]) w) \/
  (∃t q,m k=some t/\w.heap[q]?=some (gN t)/\(Instr.lookup 62 (.map<|some b) (.string k) true).run prog w=.ok (.tuple #[gx q,.bool true]) w):=by
 have⟨D,e,f⟩:=h;have⟨v,ps,r,c⟩:=e.look_ok xU underlying62 (MO w) ze<|Go.WideMaps.keyOf_string_mk underlying9 g
 cases i:m k with
 |none=>
  left;have d:=(f k).1 i;have a:=d;rw[Maps.atKey_of_not_has a]at c;obtain rfl:=zO c;rw[a]at r;exact⟨rfl,r⟩
 |some t=>grind[zf]
theorem FileMap.ab5{m:aG}(h:FileMap w b n m)(k t:nS)(g:m k=some t):
  ∃q,w.heap[q]?=some (gN t)/\(Instr.lookup 62 (.map<|some b) (.string k) false).run prog w=.ok (gx q) w:=by
 have⟨D,c,f⟩:=h;have⟨i,z,q,d,e⟩:=(f k).2 t g;have⟨v,ps,r,a⟩:=c.lookup xU underlying62 (MO w) ze<|Go.WideMaps.keyOf_string_mk underlying9 z;rw[d]at a;obtain rfl:=zf a;exact⟨q,e,r⟩
theorem FileMap.put{m:aG}{D:DataW Unit}(f:∀k:nS,(m k=none->Maps.has D (jh k)=false)/\(∀t,m k=some t->Maps.has D (jh k)=true/\k.size<=maxLen/\∃q:Nat,(∀z,D.atKey (jh k) z=.lit (.int .i64 (q:Int)))/\w.heap[q]?=some (gN t)))
  (g:w.ownsMap prog 9 di b n D) (k:nS) (v:k.size<=maxLen) (q:Nat) (t:nS) (A:w.heap[q]?=some (gN t))
  (y:w'.ownsMap prog 9 di b (n+1)<|D.put (jh k)<|.lit<|.int .i64 (q:Int)) (u:w.grownBy w'<|some b):FileMap w' b (n+1) (m.set k<|some t):=by
 have i:=g.isMap;have o:WideAt.IsKeyLit (jh k):=trivial;have keep:∀(q:Nat) (t:nS),w.heap[q]?=some (gN t)->w'.heap[q]?=some (gN t):=λq t h=>by
  rw[u.block q (zza.1 h).1 λe=>by cases e;have⟨es,c,s,_⟩:=g;rw[s]at h;cases h];exact h
 refine⟨_,y,λx=>?_⟩;by_cases hx:x=k
 .subst hx;rw[aG.f_];refine⟨λh=>(by simp at h),λd h=>?_⟩;obtain rfl:t=d:=Option.some.inj h;exact⟨Maps.has_put_same i o _,v,q,λz=>Maps.atKey_put_same i o _ z,keep _ _ A⟩
 .rw[aG.cU _ _ hx];have a:jh x≠jh k:=λe=>hx<|AX e
  refine⟨λh=>by rw[Maps.has_put_other a];exact(f x).1 h,λd h=>?_⟩;have⟨j,l,B,p,r⟩:=(f x).2 d h;exact⟨by rw[Maps.has_put_other a];exact j,l,B,λz=>by rw[Maps.atKey_put_other a];exact p z,keep _ _ r⟩
theorem FileMap.del{m:aG}{D:DataW Unit}(d:∀k:nS,(m k=none->Maps.has D (jh k)=false)/\(∀t,m k=some t->Maps.has D (jh k)=true/\k.size<=maxLen/\∃q:Nat,(∀z,D.atKey (jh k) z=.lit (.int .i64 (q:Int)))/\w.heap[q]?=some (gN t)))
  (r:w.ownsMap prog 9 di b n D) (k:nS)
  (s:w'.ownsMap prog 9 di b n<|D.del<|jh k) (p:w.grownBy w'<|some b):FileMap w' b n (m.set k none):=by
 have keep:∀(q:Nat) (t:nS),w.heap[q]?=some (gN t)->w'.heap[q]?=some (gN t):=λq t h=>by
  rw[p.block q (zza.1 h).1 λe=>by cases e;have⟨es,c,o,_⟩:=r;rw[o]at h;cases h];exact h
 refine⟨_,s,λx=>?_⟩;by_cases hx:x=k
 .subst hx;rw[aG.f_];exact⟨λ_=>Maps.has_del_same,λf h=>by cases h⟩
 .rw[aG.cU _ _ hx];have a:jh x≠jh k:=λe=>hx<|AX e
  refine⟨λh=>by rw[Maps.has_del_other a];exact(d x).1 h,λf h=>?_⟩;have⟨g,i,u,j,l⟩:=(d x).2 f h;exact⟨by rw[Maps.has_del_other a];exact g,i,u,λz=>by rw[Maps.atKey_del_other a];exact j z,keep _ _ l⟩
theorem jH{a:Act}(g:o.guard=none)(m x v:Operand)(N:o.op=Op.mapUpdate 62 m x v)
  (b n:Nat) (F:aG) (f:a.eval m=.map (some b)) (e:FileMap w b n F) (hn:n<maxLen) (k:nS) (c:k.size<=maxLen) (hx:a.eval x=.string k) (q:Nat) (t:nS) (l:a.eval v=(gx q)) (j:w.heap[q]?=some (gN t))
  (K:∀w',FileMap w' b (n+1) (F.set k<|some t)->w.grownBy w' (some b)->wpList prog ops Q rest (a.put o.dst undef) w'):wpList prog ops Q (o::rest) a w:=by
 have⟨D,h,d⟩:=e;apply wpList_mapUpdate_own w g m x v _ N 9 135 xU underlying62 di b n D f h hn _ _ (jh k) hx l (Go.WideMaps.keyOf_string_mk underlying9 c) _ [] (Km q);intro w' i z;exact K w' (FileMap.put d h k c q t j i z) z
theorem rC{a:Act}(g:o.guard=none)(m x:Operand)(N:o.op=Op.call {callee:=Callee.builtin Builtin.delete,args:=#[m,x],argTypes:=#[62,9]})
  (b n:Nat) (F:aG) (f:a.eval m=.map (some b)) (d:FileMap w b n F) (k:nS) (e:k.size<=maxLen) (hx:a.eval x=.string k)
  (K:∀w',FileMap w' b n (F.set k none)->w.grownBy w' (some b)->wpList prog ops Q rest (a.put o.dst<|.tuple #[]) w'):wpList prog ops Q (o::rest) a w:=by
 have⟨D,h,c⟩:=d;apply wpList_delete_own w g m x _ _ N 135 xU underlying62 di b n D f h _ (jh k) hx (Go.WideMaps.keyOf_string_mk underlying9 e);intro w' i t;exact K w' (FileMap.del c h k i t.grown) t.grown
abbrev opV(o:km):Value:=.agg #[.int .i64 (o.kind:Int),.string o.name,.string o.to,.string o.data]
abbrev MP(o:km):Obj:=.cells #[.int .i64 (o.kind:Int),.string o.name,.string o.to,.string o.data] 200
theorem gG{a:Act}(i:o.guard=none)(m x:Operand)(N:o.op=Op.lookup 62 m x true)
  (b n:Nat) (F:aG) (e:a.eval m=.map (some b)) (g:FileMap w b n F) (k:nS) (j:k.size<=maxLen) (hx:a.eval x=.string k)
  (hN:F k=none->wpList prog ops Q rest (a.put o.dst<|.tuple #[.pointer none,.bool false]) w)
  (S:∀t q,F k=some t->w.heap[q]?=some (gN t)->wpList prog ops Q rest (a.put o.dst<|.tuple #[gx q,.bool true]) w):wpList prog ops Q (o::rest) a w:=by
 refine wpList_plain i λK d=>?_
 unfold Oper.wp;rcases g.look k j with⟨h,c⟩|⟨t,q,h,c,f⟩
 .simp[execOp,N,e,hx,c,Result.andThen];exact d _ _<|hN h
 .simp[execOp,N,e,hx,f,Result.andThen];exact d _ _<|S t q h c
theorem wD{a:Act}(g:o.guard=none)(m x:Operand)(N:o.op=Op.lookup 62 m x false)
  (b n:Nat) (F:aG) (i:a.eval m=.map (some b)) (d:FileMap w b n F) (k t:nS) (f:F k=some t) (hx:a.eval x=.string k)
  (S:∀q,w.heap[q]?=some (gN t)->wpList prog ops Q rest (a.put o.dst<|gx q) w):wpList prog ops Q (o::rest) a w:=by
 refine wpList_plain g λK e=>?_
 unfold Oper.wp;have⟨q,h,c⟩:=d.ab5 k t f;simp[execOp,N,i,hx,c,Result.andThen];exact e _ _<|S q h
abbrev doW(w:nL)(o:km):nL:=(w.alloc (MP o)).alloc (gN o.data)
theorem ig(w:nL)(o:km):Fr [] w (doW w o):=((fU w).alloc _).alloc _
theorem AY(w:nL)(o:km):(doW w o).heap[w.heap.size+1]?=some (gN o.data):=by
 have:=oz (w.alloc<|MP o)<|gN o.data;rw[zzv]at this;exact this
theorem FileMap.new{m:aG}(h:FileMap w b n m)(hf:Fr [] w w'):FileMap w' b n m:=h.fr hf dv dv
theorem iW{w2:nL}(h:Fr [] w a)(k:a.grownBy w2<|some b):w.grownBy w2 (some b):=
 Fr.aaj ((h.mono dv).trans<|Fr.bI k)
theorem Dz{t:nS}(h:w.heap[q]?=some (gN t)):w.cell? (gi q)=some (.string t):=by simp[World.cell?,h]
theorem RS(b n:Nat)(m:aG)(o:km)(w:nL)(c:FileMap w b n m)(hn:n<maxLen)(k:o.kind=1)(h:o.name.size<=maxLen):
  Calls prog 147 #[.map<|some b,opV o] w λe w'=>e=.returned (.tuple #[])/\FileMap w' b (n+1) (dD m o)/\w.grownBy w' (some b):=by
 have M:=ah c;clear c;have⟨kd,nm,to,a⟩:=o;simp only at k h;subst k;go_enter func147,ntmps147;go_wp2_with (first|(at_lookup;refine gG rfl _ _ rfl b n m rfl (M.out.new<|ig w ⟨1,nm,to,a⟩) nm h rfl ?_ ?_)|fail)
 .intro hN;go_wp2_with (first|(at_mapUpdate;apply jH rfl _ _ _ rfl b n m rfl (M.out.new<|ig w ⟨1,nm,to,a⟩) hn nm h rfl _ a rfl (AY w ⟨1,nm,to,a⟩);intro d T G)|fail);go_end0;exact⟨rfl,T,iW (ig w ⟨1,nm,to,a⟩) G⟩
 .intro t q hN hq;go_wp2_with (first|(at_mapUpdate;apply jH rfl _ _ _ rfl b n m rfl (M.out.new<|ig w ⟨1,nm,to,a⟩) hn nm h rfl _ a rfl (AY w ⟨1,nm,to,a⟩);intro d T G)|fail);go_end0;exact⟨rfl,T,iW (ig w ⟨1,nm,to,a⟩) G⟩
theorem Ol(b n:Nat)(m:aG)(o:km)(w:nL)(c:FileMap w b n m)(k:o.kind=3)(h:o.name.size<=maxLen):
  Calls prog 147 #[.map<|some b,opV o] w λe w'=>e=.returned (.tuple #[])/\FileMap w' b (n+1) (dD m o)/\w.grownBy w' (some b):=by
 have M:=ah c;clear c;have⟨kd,nm,to,a⟩:=o;simp only at k h;subst k;go_enter func147,ntmps147;go_wp2_with (first|(at_lookup;refine gG rfl _ _ rfl b n m rfl (M.out.new<|ig w ⟨3,nm,to,a⟩) nm h rfl ?_ ?_)|fail)
 .intro hN;go_wp2;apply zA (xw rfl _ _ _) rfl;refine⟨rfl,?_,iW (ig w ⟨3,nm,to,a⟩)<|jg _ _⟩
  have e:dD m ⟨3,nm,to,a⟩=m:=by
   funext x;show(if x=nm then none else m x)=m x;by_cases hx:x=nm
   .subst hx;simp[hN]
   .simp[hx]
  rw[e];exact(M.out.new<|ig w ⟨3,nm,to,a⟩).mono dp
 .intro t q hN hq;go_wp2_with (first|(at_delete;apply rC rfl _ _ rfl b n m rfl (M.out.new<|ig w ⟨3,nm,to,a⟩) nm h rfl;intro d T G)|fail);go_end0;exact⟨rfl,T.mono dp,iW (ig w ⟨3,nm,to,a⟩) G⟩
theorem Om(b n:Nat)(m:aG)(o:km)(w:nL)(f:FileMap w b n m)(hn:n<maxLen)(k:o.kind=4)(h:o.name.size<=maxLen)(c:o.to.size<=maxLen):
  Calls prog 147 #[.map<|some b,opV o] w λe w'=>e=.returned (.tuple #[])/\FileMap w' b (n+1) (dD m o)/\w.grownBy w' (some b):=by
 have M:=ah f;clear f;have⟨kd,nm,to,d⟩:=o;simp only at k h c;subst k;go_enter func147,ntmps147;go_wp2_with (first|(at_lookup;refine gG rfl _ _ rfl b n m rfl (M.out.new<|ig w ⟨4,nm,to,d⟩) nm h rfl ?_ ?_)|fail)
 .intro hN;go_wp2;apply zA (xw rfl _ _ _) rfl;refine⟨rfl,?_,iW (ig w ⟨4,nm,to,d⟩)<|jg _ _⟩;have e:dD m ⟨4,nm,to,d⟩=m:=by simp[dD,hN]
  rw[e];exact(M.out.new<|ig w ⟨4,nm,to,d⟩).mono dp
 .intro t q hN hq;go_wp2_with (first|(at_lookup;apply wD rfl _ _ rfl b n m rfl (M.out.new<|ig w ⟨4,nm,to,d⟩) nm t hN rfl;intro j l)|(at_mapUpdate;apply jH rfl _ _ _ rfl b n m rfl (M.out.new<|ig w ⟨4,nm,to,d⟩) hn to c rfl _ t rfl l;intro i R G;have kn:i.cell? ⟨w.heap.size,1,none⟩=some (.string nm):=(ot G (a:=⟨w.heap.size,1,none⟩) (by have:=M.out.lt;simp;omega) ef).trans dv)|(at_delete;refine rC rfl _ _ rfl b (n+1) _ rfl R nm h rfl ?_;intro w2 T g)|fail)
  go_end0;refine⟨rfl,?_,cI (iW (ig w ⟨4,nm,to,d⟩) G) g⟩;have e:dD m ⟨4,nm,to,d⟩=(m.set to<|some t).set nm none:=by simp[dD,hN]
  rw[e];exact T
theorem On(b n:Nat)(m:aG)(o:km)(w:nL)(d:FileMap w b n m)(hn:n<maxLen)(k:o.kind=2)(h:o.name.size<=maxLen)(c:((m o.name).getD gW).size+o.data.size<=4398046511103):
  Calls prog 147 #[.map<|some b,opV o] w λe w'=>e=.returned (.tuple #[])/\FileMap w' b (n+1) (dD m o)/\w.grownBy w' (some b):=by
 have M:=ah d;clear d;have⟨kd,nm,to,a⟩:=o;simp only at k h c;subst k;go_enter func147,ntmps147;go_wp2_with (first|(at_lookup;refine gG rfl _ _ rfl b n m rfl (M.out.new<|ig w ⟨2,nm,to,a⟩) nm h rfl ?_ ?_)|fail)
 .intro hN;have N:=ah hN;clear hN;go_wp2_with (first|(at_lookup;refine gG rfl _ _ rfl b n m rfl (M.out.new<|ig w ⟨2,nm,to,a⟩) nm h rfl ?_ ?_)|fail)
  .intro Oo;go_wp2_with (first|(at_mapUpdate;apply jH rfl _ _ _ rfl b n m rfl (M.out.new<|ig w ⟨2,nm,to,a⟩) hn nm h rfl _ a rfl (AY w ⟨2,nm,to,a⟩);intro f T G)|fail);go_end0;refine⟨rfl,?_,iW (ig w ⟨2,nm,to,a⟩) G⟩;have e:dD m ⟨2,nm,to,a⟩=m.set nm (some a):=by simp[dD,N.out]
   rw[e];exact T
  .intro t2 q2 Oo;exact absurd (N.out.symm.trans Oo) dv
 .intro t q hN hq;have N:=ah hN;clear hN hq;go_wp2_with (first|(at_lookup;refine gG rfl _ _ rfl b n m rfl (M.out.new<|ig w ⟨2,nm,to,a⟩) nm h rfl ?_ ?_)|fail)
  .intro Oo;exact absurd (N.out.symm.trans Oo) dv
  .intro t2 q2 Oo Zl;obtain rfl:t=t2:=Option.some.inj<|N.out.symm.trans Oo;have iy:=Dz Zl;have W:¬9223372036854775807<t.size+a.size:=by rw[N.out]at c;simp at c;omega
   clear Oo Zl;go_wp2;go_region
   have kO:Fr [] w ((w.alloc<|MP ⟨2,nm,to,a⟩).alloc<|gN<|t++a).drew:=(((fU w).alloc _).alloc _).drew;go_wp2_with (first|(at_mapUpdate;apply jH rfl _ _ _ rfl b n m rfl (M.out.new kO) hn nm h rfl _ (t++a) rfl (by have:=oz (w.alloc<|MP ⟨2,nm,to,a⟩)<|gN<|t++a;rw[zzv]at this;exact this);intro f T G)|fail)
   go_end0;refine⟨rfl,?_,iW kO G⟩;have e:dD m ⟨2,nm,to,a⟩=m.set nm (some<|t++a):=by simp[dD,N.out]
   rw[e];exact T
structure km.Ok(o:km)(c:Nat):Prop where
 kind:o.kind=1\/o.kind=2\/o.kind=3\/o.kind=4
 name:o.name.size<=maxLen
 to:o.to.size<=maxLen
 data:o.data.size<=c
def aG.Le(m:aG)(c:Nat):Prop:=∀k t,m k=some t->t.size<=c
theorem EU(b n c:Nat)(m:aG)(o:km)(w:nL)(d:FileMap w b n m)(hn:n<maxLen)(a:o.Ok c)(f:c<=4096)(l:m.Le 4200000000000):
  Calls prog 147 #[.map<|some b,opV o] w λe w'=>e=.returned (.tuple #[])/\FileMap w' b (n+1) (dD m o)/\w.grownBy w' (some b):=by
 obtain h|h|h|h:=a.kind
 .exact RS b n m o w d hn h a.name
 .refine On b n m o w d hn h a.name ?_;have:=a.data;cases hx:m o.name with
  |none=>simp;omega
  |some t=>have:=l _ _ hx;simp;omega
 .exact Ol b n m o w d h a.name
 .exact Om b n m o w d hn h a.name a.to
theorem Ah{m:aG}{c d:Nat}{o:km}(h:m.Le d)(f:o.Ok c):(dD m o).Le (d+c):=by
 intro k t a;have g:=f.data;obtain b|b|b|b:=f.kind<;>simp only[dD,b]at a
 .by_cases hx:k=o.name
  .grind [aG.set]
  .simp[aG.set,hx]at a;have:=h _ _ a;omega
 .by_cases hx:k=o.name
  .subst hx;simp[aG.set]at a;subst a;cases y:m o.name with
   |none=>simp;omega
   |some s=>have:=h _ _ y;simp;omega
  .simp[aG.set,hx]at a;have:=h _ _ a;omega
 .by_cases hx:k=o.name
  .grind [aG.set]
  .simp[aG.set,hx]at a;have:=h _ _ a;omega
 .cases e:m o.name with
  |none=>rw[e]at a;simp at a;have:=h _ _ a;omega
  |some s=>
   rw[e]at a;simp at a;by_cases hx:k=o.name
   .grind [aG.set]
   .by_cases y:k=o.to
    .subst y;simp[aG.set,hx]at a;subst a;have:=h _ _ e;omega
    .simp[aG.set,hx,y]at a;have:=h _ _ a;omega
section
open Go.Extern Go.Extern.Stop Go.Stop
theorem Sf(t:Addr)(w:nL):(ReflectliteValue.unpack<|.iface 141<|.pointer<|some t).run prog w
  = .ok (.agg #[.pointer<|some<|hP 6 141,gx w.heap.size,.int .u64 150]) (w.alloc<|.cells #[.pointer<|some t] 141):=eu
theorem ab'(a:Addr)(w:nL):(ReflectliteValue.methodAny (ReflectliteValue.valueError "reflectlite.Value.Type" 0) (λt _ _ _=>ReflectliteType.toType t) #[.agg #[.pointer (some (hP 6 141)),.pointer (some a),.int .u64 150]]).run prog w
  = .ok (.iface 283<|.agg #[.pointer<|some<|hP 6 141]) w:=eu
theorem Kw(h:Value)(w:nL):(Go.method 604 283 (.agg #[h]) "Kind").run prog w=.ok (404,h) w:=eu
theorem aca(w:nL):((ReflectliteType.abiMethod λt=>(λa:Nat=>Value.int IntKind.u8 (a:Int)) <$> Rtype.kind t) #[.pointer<|some<|hP 6 141]).run prog w=.ok (.int .u8 22) w:=eu
theorem acb(w:nL):((ReflectliteType.abiMethod λt=>(λa:Nat=>Value.int IntKind.u8 (a:Int)) <$> Rtype.kind t) #[.pointer<|some<|hP 6 27]).run prog w=.ok (.int .u8 2) w:=eu
theorem Sh(a:Addr)(w:nL):(ReflectliteValue.parts<|.agg #[.pointer<|some<|hP 6 141,.pointer<|some a,.int .u64 150]).run prog w=.ok (some (141,a,150)) w:=eu
theorem aao(a p:Addr)(W:nL)(h:W.cell? a=some (.pointer<|some p)):
  (ReflectliteValue.method (ReflectliteValue.valueError "reflectlite.Value.IsNil" 0) ReflectliteValue.isNil #[.agg #[.pointer (some (hP 6 141)),.pointer (some a),.int .u64 150]]).run prog W=.ok (.bool false) W:=by
 change Sem.run prog (bind (ReflectliteValue.parts<|.agg #[.pointer<|some (hP 6 141),.pointer<|some a,.int .u64 150]) _) W=_;simp only[Sem.run_bind,Sh,Result.andThen];simp[ReflectliteValue.isNil,loadVar,isAgg,underlying,underlying141,h,Result.andThen]
theorem Ky(h:Value)(w:nL):(Go.method 604 283 (.agg #[h]) "Elem").run prog w=.ok (427,.agg #[h]) w:=eu
theorem xX(h:Value)(w:nL):(Go.method 604 283 (.agg #[h]) "Implements").run prog w=.ok (428,.agg #[h]) w:=eu
theorem vq(h:Value)(w:nL):(Go.method 604 283 (.agg #[h]) "AssignableTo").run prog w=.ok (425,.agg #[h]) w:=eu
theorem xY(h:Value)(w:nL):(Go.method 604 283 (.agg #[h]) "Comparable").run prog w=.ok (426,.agg #[h]) w:=eu
theorem acd(w:nL):(ReflectliteType.method ReflectliteType.elem #[.agg #[.pointer<|some<|hP 6 141]]).run prog w=.ok (.iface 283<|.agg #[.pointer<|some<|hP 6 27]) w:=eu
theorem G6(w:nL):(ReflectliteType.relation "Implements" ReflectliteType.implements_ #[.agg #[.pointer (some (hP 6 27))],.iface 283 (.agg #[.pointer (some (hP 6 74))])]).run prog w=.ok (.bool true) w:=eu
theorem MU(v:Value)(w:nL):(ReflectliteType.typeOf #[.iface 27 v]).run prog w=.ok (.iface 283<|.agg #[.pointer<|some<|hP 6 27]) w:=eu
theorem G7(w:nL):(ReflectliteType.relation "AssignableTo" ReflectliteType.assignableTo #[.agg #[.pointer (some (hP 6 27))],.iface 283 (.agg #[.pointer (some (hP 6 27))])]).run prog w=.ok (.bool true) w:=eu
theorem Si(n:Int)(w:nL):(ReflectliteValue.unpack<|.iface 27<|.int .i64 n).run prog w
  = .ok (.agg #[.pointer<|some<|hP 6 27,gx w.heap.size,.int .u64 130]) (w.alloc<|.cells #[.int .i64 n] 27):=eu
theorem WN(w:nL):(Rtype.elem? 141).run prog w=.ok (some 27) w:=eu
theorem mkE(p:Addr)(w:nL):(ReflectliteValue.mk 27 p ReflectliteValue.flagAddr).run prog w=.ok (.agg #[.pointer<|some<|hP 6 27,.pointer<|some p,.int .u64 386]) w:=eu
theorem aap(a p:Addr)(W:nL)(h:W.cell? a=some (.pointer<|some p)):
  (ReflectliteValue.method (ReflectliteValue.valueError "reflectlite.Value.Elem" 0) ReflectliteValue.elem #[.agg #[.pointer (some (hP 6 141)),.pointer (some a),.int .u64 150]]).run prog W
   = .ok (.agg #[.pointer<|some<|hP 6 27,.pointer<|some p,.int .u64 386]) W:=by
 change Sem.run prog (bind (ReflectliteValue.parts<|.agg #[.pointer<|some (hP 6 141),.pointer<|some a,.int .u64 150]) _) W=_;simp only[Sem.run_bind,Sh,Result.andThen];simp[ReflectliteValue.elem,loadVar,isAgg,underlying,underlying141,h,Result.andThen,WN,mkE]
theorem WO(a:Addr)(w:nL):(ReflectliteValue.parts<|.agg #[.pointer<|some<|hP 6 27,.pointer<|some a,.int .u64 386]).run prog w=.ok (some (27,a,386)) w:=eu
theorem aaq(a:Addr)(w:nL):(ReflectliteValue.parts<|.agg #[.pointer<|some<|hP 6 27,.pointer<|some a,.int .u64 130]).run prog w=.ok (some (27,a,130)) w:=eu
theorem WQ(w:nL):(Rtype.directlyAssignable 27 27).run prog w=.ok true w:=eu
theorem ae0(a b:Addr)(n:Int)(d:Value)(W:nL)(hb:W.cell? b=some (.int .i64 n))(t:W.cell? a=some d)(hf:W.frozen? a=false):
  (ReflectliteValue.set #[.agg #[.pointer<|some<|hP 6 27,.pointer<|some a,.int .u64 386],.agg #[.pointer<|some<|hP 6 27,.pointer<|some b,.int .u64 130]]).run prog W
   = .ok (.tuple #[]) (W.setCell a<|.int .i64 n):=by
 change Sem.run prog (bind (ReflectliteValue.parts<|.agg #[.pointer<|some (hP 6 27),.pointer<|some a,.int .u64 386]) λ_=>bind (ReflectliteValue.parts<|.agg #[.pointer<|some (hP 6 27),.pointer<|some b,.int .u64 130]) _) W=_;simp only[Sem.run_bind,WO,aaq,Result.andThen];simp[ReflectliteValue.flagAddr,loadVar,isAgg,underlying,underlying27,hb,Result.andThen,WQ,storeVar,Value.cells,storeCells,Addr.add];rw[run_store prog W a _ _<|by rfl];simp[t,hf]
theorem G8(w:nL):(callFunc 426 #[.agg #[.pointer<|some<|hP 6 27]]).run prog w=.ok (.value<|.bool true) w:=eu
end
variable{c:Array Value}{p:Nat}{t:TypeId}{d:aj}{w:nL}
def bB(n:Nat):Value:=if n=0 then .nilIface else .iface 27 (.int .i64 (n:Int))
theorem aT:bB 0=.nilIface:=rfl
theorem aV{n:Nat}(h:n≠0):bB n=.iface 27 (.int .i64 (n:Int)):=by grind[bB]
abbrev lH(D N:Nat)(pv:Value)(l f:Int)(dn:Bool):Obj:=.cells #[.map (some D),.map (some N),pv,.int .i64 l,.int .i64 f,.bool dn] 65
theorem af(h:w.heap[p]?=some (.cells c t (0,0)))(i:Nat):w.cell? (hP p i)=c[i]?:=by simp[World.cell?,h]
theorem aq(h:w.heap[p]?=some (.cells c t (0,0)))(i:Nat):w.frozen? (hP p i)=false:=by simp[World.frozen?,h]
theorem aF(h:w.heap[p]?=some (.cells c t (0,0)))(i:Nat)(v:Value):(w.setCell (hP p i) v).heap[p]?=some (.cells (c.setIfInBounds i v) t (0,0)):=by
 simp[World.setCell,Array.getElem?_modify,h]
theorem Fr.cG{S:List Nat}(hp:p∈S)(i:Nat)(v:Value):Fr S w (w.setCell (hP p i) v):=(Fr.refl S w).setCell (Or.inl hp) v
theorem WA(h:d.down=true\/d.left=0):d.writes=({d with down:=true},10):=by grind[aj.writes]
theorem WB(h:¬(d.down=true\/d.left=0))(hf:d.full=0):d.writes=({d with left:=wrap64<|d.left-1,full:=-1},9):=by grind[aj.writes]
theorem Zm(h:¬(d.down=true\/d.left=0))(hf:¬d.full=0):d.writes=({d with left:=wrap64<|d.left-1,full:=wrap64 (d.full-1)},0):=by grind[aj.writes]
theorem Kn(p D N:Nat)(pv:Value)(d:aj)(w:nL)(h:w.heap[p]?=some (lH D N pv d.left d.full d.down)):
  Calls prog 419 #[gx p] w λe w'=>e=.returned (bB d.writes.2)/\w'.heap[p]?=some (lH D N pv d.writes.1.left d.writes.1.full d.writes.1.down)/\Fr [p] w w':=by
 have H:=ah h;have c3:=af h 3;have c4:=af h 4;have c5:=af h 5;have b:=aq h 3;have c:=aq h 4;have g:=aq h 5;simp at c3 c4 c5;clear h;have⟨u,o,i,l,f,dn⟩:=d;simp only at c3 c4 c5 H;by_cases a:dn=true\/l=0
 .rw[WA a];go_enter func419,ntmps419;obtain rfl|rfl:=a
  .go_wp2;go_ret;exact⟨rfl,by simpa using aF H.out 5<|.bool true,Fr.cG dv _ _⟩
  .cases dn<;>(go_wp2;go_ret;exact⟨rfl,by have:=aF H.out 5<|.bool true;simpa using this,Fr.cG (by simp) _ _⟩)
 .have hl:¬l=0:=λe=>a<|Or.inr e
  have q:dn=false:=by cases dn with|false=>rfl|true=>exact absurd (Or.inl rfl) a
  by_cases hf:f=0
  .rw[WB a hf];subst hf q;go_enter func419,ntmps419;go_wp2;go_ret;exact⟨rfl,by simpa using aF (aF H.out 3<|.int .i64<|wrap64<|l-1) 4<|.int .i64<|-1,(Fr.cG dv _ _).trans<|Fr.cG dv _ _⟩
  .rw[Zm a hf];subst q;go_enter func419,ntmps419;go_wp2;go_ret;exact⟨rfl,by simpa using aF (aF H.out 3<|.int .i64<|wrap64<|l-1) 4<|.int .i64<|wrap64<|f-1,(Fr.cG dv _ _).trans<|Fr.cG dv _ _⟩
section
open Sc
variable{a b:Int}{k:IntKind}
theorem aeX(X:Nat)(h:X<4294967296):bits .and .u32 (X:Int) 1=((X%2:Nat):Int):=by
 have:=u32_and_nat X 1 h dp;rw[Nat.and_one_is_mod]at this;exact this
theorem aeY(X:Nat)(h:X<4294967296):bits .xor .u32 (X:Int) 3988292384=((X^^^3988292384:Nat):Int):=u32_xor_nat X 3988292384 h dp
theorem ab_(X:Nat)(h:X<4294967296):bits .xor .u32 4294967295 (X:Int)=((4294967295^^^X:Nat):Int):=u32_xor_nat 4294967295 X dp h
theorem RZ(X:Nat)(h:X%2=1):half X=X/2^^^3988292384:=by grind[half]
theorem Oz(X:Nat)(h:¬X%2=1):half X=X/2:=by grind[half]
theorem MQ(h:a=b):Ending.returned (.int k a)=.returned (.int k b):=by rw[h]
theorem int_eq(h:a=b):Value.int k a=.int k b:=by rw[h]
theorem tJ(n k j:Nat):((n:Int)/2^(8*(k-1-j))%256)=((digit k n j:Nat):Int):=by
 unfold digit;rw[show(256:Nat)^(k-1-j)=2^(8*(k-1-j)) by rw[Nat.pow_mul]];simp
theorem disable(w:nL):(callFunc 375 #[]).run prog w=.ok (.value<|.tuple #[]) w:=run_call_mark0 func375 eu eu eu .disable eu w
theorem enable(w:nL):(callFunc 377 #[]).run prog w=.ok (.value<|.tuple #[]) w:=run_call_mark0 func377 eu eu eu .enable eu w
theorem acquire(a:Addr)(w:nL):(callFunc 378 #[.pointer<|some a]).run prog w=.ok (.value<|.tuple #[]) w:=run_call_marked func378 eu eu eu .acquire eu a w
theorem releaseMerge(a:Addr)(w:nL):(callFunc 380 #[.pointer<|some a]).run prog w=.ok (.value<|.tuple #[]) w:=run_call_marked func380 eu eu eu .releaseMerge eu a w
theorem Ba(a:Addr)(x:Value)(u:FrameMode)(w:nL)(c:w.cell? a=some x)(z:w.frozen? a=false):
  CallsD prog 360 #[.pointer<|some a,.bool true] u w λe b w'=>b=u/\(e=.returned (.tuple #[])/\w'=w.drew.setCell a (.int .u32 1)):=by
 have V:w.drew.cell? a=some x:=by go_simp
 have h:w.drew.frozen? a=false:=by go_simp
 have f:=run_call_store (P:=prog) func371 eu eu eu eu (k:=.u32) (y:=1) V h;go_enter_d func360,ntmps360;go_wp2;go_region_calls;all_goals (go_end0;exact⟨rfl,rfl⟩)
theorem zP(a:Addr)(u:FrameMode)(w:nL)(c:w.cell? a=some (.int .i32 1))(z:w.frozen? a=false):
  CallsD prog 359 #[.pointer<|some a] u w λe b w'=>b=u/\(e=.returned (.tuple #[])/\w'=w.setCell a (.int .i32 0)):=by
 have h:=disable;have f:=enable;have r:=releaseMerge;have d:=run_call_add (P:=prog) func381 eu eu eu .i32 eu (y:=-1) (s:=0) c z (by simp[go_sem];rfl);have v:=run_convert_to_unsafe underlying466 underlying202 eu c;go_enter_d func359,ntmps359;go_wp2;go_end0;go_wp2;go_end0;exact⟨rfl,rfl⟩
theorem OA(a:Addr)(w:nL)(c:w.cell? a=some (.int .i32 0))(z:w.frozen? a=false):
  Calls prog 358 #[.pointer<|some a] w λe w'=>e=.returned (.tuple #[])/\w'=w.setCell a (.int .i32 1):=by
 have d:=disable;have f:=enable;have h:=acquire;have b:=run_call_cas_hit (P:=prog) func376 eu eu eu .i32 (by kernel_rfl) (y:=1) c z;have V:(w.setCell a<|.int .i32 1).cell? a=some (.int .i32 1):=World.cell?_setCell_same w a _ c;have v:=run_convert_to_unsafe underlying466 underlying202 eu V;go_enter func358,ntmps358;go_wp2;first|go_end0|(simp only[Exit.inBlock,Exit.then];apply zA (xw rfl _ _ _) rfl)|apply zA (xw rfl _ _ _) rfl
 go_wp2;go_end0;exact⟨rfl,rfl⟩
theorem Kr(C:Nat)(w:nL)(a:C<4294967296):
  Calls prog 305 #[.int .u32 C] w λe w'=>e=.returned (.int .u32 (eh 8 C:Nat))/\w'=w:=by
 go_enter func305,ntmps305;go_wp2;go_loop [0,4] (λc j=>∃q:Nat,q<=8/\j=.int .i64 q/\c=.int .u32 (eh q C:Nat)) (λ_ j=>8-(intOf j).toNat);case atStart=>exact⟨0,zzs _,rfl,rfl⟩
 case round=>
  obtain⟨q,f,rfl,rfl⟩:=hrel;have h:=tG q C a;have H:Hid (eh (q+1) C=half (eh q C)):=rfl;by_cases g:q<8
  .generalize eh q C=X at h H;have b:=aeX X h;have Y:X/2<4294967296:=dp;have d:bits .xor .u32 ((X:Int)/2) 3988292384=((X/2^^^3988292384:Nat):Int):=by rw[show((X:Int)/2)=((X/2:Nat):Int) by omega];exact aeY (X/2) Y
   by_cases o:X%2=1
   .have HO:Hid (half X=X/2^^^3988292384):=RZ X o;go_wp2;go_round;.exact⟨q+1,dp,eR,by rw[H.out,HO.out]⟩
    case measure=>simp[intOf];omega
   .have HO:Hid (half X=X/2):=Oz X o;go_wp2;go_round;.exact⟨q+1,dp,eR,by rw[H.out,HO.out];exact int_eq dp⟩
    case measure=>simp[intOf];omega
  .have e8:q=8:=dp;subst e8;go_wp2;go_ret;exact⟨rfl,rfl⟩
end
variable{a:Act}{K:Act->nL->Prop}{Q:Exit->Act->nL->Prop}{S:List Nat}{xs:List Value}{B D N b c h j k n p q:Nat}{e:TypeId}{V pv v:Value}{d:aj}{o:km}{w w' w2:nL}
def jk(o:km):List Value:=[.int .i64 (o.kind:Int),.string o.name,.string o.to,.string o.data]
def opsV(l:List km):List Value:=l.flatMap jk
theorem Oq(l:List km)(o:km):opsV (l++[o])=opsV l++jk o:=by simp[opsV]
theorem aak:(Tryz.prog.info? 200).map (λi=>(i.zero,i.size,i.bytes))=some (some<|.agg #[.int .i64 0,.string gW,.string gW,.string gW],4,56):=eu
theorem gV{P:Program}{o:Oper}(s x:Operand)(t:TypeId)
  (A:o.op=.call {callee:=.builtin .append,args:=#[s,x],argTypes:=#[t,t]})
  (base:Nat) (e:TypeId) (i:TypeInfo) (z:Value) (size bytes:Nat) (E:P.underlying t=some (.slice e)) (r:P.info? e=some i) (F:i.zero=some z)
  (U:i.size=size) (O:i.bytes=bytes) (G:z.cells.size=size) (D:0<size)
  (v:Value) (n:Nat) (xs:List Value) (C:a.eval s=v) (M:w.ownsRow base e size v n xs)
  (d:Addr) (m c:Nat) (news:List Value) (hx:a.eval x=.slice (some d) m c) (y:news.length=m*size) (V:∀j u,news[j]?=some u->w.cell? (d.add j)=some u) (g:∀u∈news,u.oneCell'=true)
  (q:n+m<=maxLen) (f:(n+m)*bytes<=140737488355328) (H:base<=w.heap.size)
  (h:∀b w',w'.ownsRow base e size b (n+m) (xs++news)->w.grownBy w' v.ownBlock->(b.ownBlock=v.ownBlock\/b.ownBlock=some w.heap.size)->K (a.put o.dst b) w'):o.wp P a w K Q:=by
 have⟨b,w',B,k,l,_,p⟩:=run_append_own_at w base t o.type e i z size bytes E r F U O G D v n xs M d m c news y V g q f H;unfold Oper.wp execOp;simp only[A,resolve,invoke,builtin,Sem.run_bind,Sem.run_pure,Result.andThen_ok,List.map_toArray,List.map_cons,List.map_nil,C,hx,B];exact h b w' k l p
def bU(s:Nat)(v a:Value):Prop:=∀k,a.ownBlock=some k->v.ownBlock=some k\/s<=k
theorem bU.refl(s:Nat)(v:Value):bU s v v:=λ_ h=>.inl h
theorem bU.nil(s:Nat)(v:Value):bU s v (.slice none 0 0):=λk h=>by cases h
theorem bU.zg{s:Nat}{a:Value}(h:a.ownBlock=v.ownBlock\/a.ownBlock=some q)(c:s<=q):bU s v a:=λk b=>by
 obtain h|h:=h<;>grind
theorem GY{o:Oper}(s x:Operand)
  (e:o.op=.call {callee:=.builtin .append,args:=#[s,x],argTypes:=#[63,63]})
  (base:Nat) (v:Value) (n:Nat) (l:List km) (r:km) (b:Nat) (f:a.eval s=v) (M:w.ownsRow base 200 4 v n<|opsV l) (hx:a.eval x=.slice (some<|gi b) 1 1)
  (hb:w.heap[b]?=some (MP r)) (hn:n<=1073741824) (B:base<=w.heap.size)
  (h:∀c w',w'.ownsRow base 200 4 c (n+1) (opsV<|l++[r])->w.grownBy w' v.ownBlock->(c.ownBlock=v.ownBlock\/c.ownBlock=some w.heap.size)->K (a.put o.dst c) w'):o.wp prog a w K Q:=by
 have⟨m,i,g,j,k⟩:=tO aak;have d:=af hb 0;have kn:=af hb 1;have iy:=af hb 2;have mH:=af hb 3;simp at d kn iy mH;refine gV s x 63 e base 200 m _ 4 56 underlying63 i g j k rfl du v n (opsV l) f M (gi b) 1 1 (jk r) hx rfl ?_ ?_ eE dp B ?_
 .intro jj u fK;match jj,fK with
  |0,fK=>simp[jk]at fK;subst fK;simpa [Addr.add]using d
  |1,fK=>simp[jk]at fK;subst fK;simpa [Addr.add]using kn
  |2,fK=>simp[jk]at fK;subst fK;simpa [Addr.add]using iy
  |3,fK=>simp[jk]at fK;subst fK;simpa [Addr.add]using mH
 .intro u hu;simp[jk]at hu;obtain rfl|rfl|rfl|rfl:=hu<;>rfl
 .intro c w' qy EV zh;refine h c w' ?_ EV zh;rw[Oq];exact qy
structure aC(w:nL)(B p bD bN:Nat)(pv:Value)(d:aj)(n nD nN:Nat):Prop where
 blk:w.heap[p]?=some (lH bD bN pv d.left d.full d.down)
 base:B<=p/\B<=bD/\B<=bN/\B<=w.heap.size
 ne:bD≠bN
 lB:FileMap w bD nD d.ak
 now:FileMap w bN nN d.now
 pen:w.ownsRow B 200 4 pv d.pending.length (opsV d.pending)
 hD:nD+d.pending.length<=n
 hN:nN<=n
 hn:n<=1000000000
 Ou:d.ak.Le (nD*4096)
 Ov:d.now.Le (nN*4096)
 ops:∀o∈d.pending,o.Ok 4096
theorem FileMap.cT{m:aG}{c:Array Value}{t:TypeId}{fr:Nat×Nat}(h:FileMap w b n m)(a:w.heap[q]?=some (.cells c t fr)):b≠q:=by
 have⟨es,c',d⟩:=h.isMap;intro e;subst e;rw[d]at a;cases a
theorem aL{g:Nat}(h:w.ownsRow B e k v n xs)(a:v.ownBlock=some g):∃c,w.heap[g]?=some (.cells c e (0,0)):=by
 rcases h.2 with⟨rfl,_⟩|⟨d,p,r,rfl,_,b,_⟩
 .cases a
 .cases a;exact⟨r,b⟩
theorem aQ{a:TypeId}{c:Array Value}{fr:Nat×Nat}(h:w.ownsRow B e k v n xs)(d:w.heap[q]?=some (.cells c a fr))(b:e≠a):v.ownBlock≠some q:=by grind[aL]
abbrev dS(p D N:Nat)(pv:Value):List Nat:=p :: D :: N :: pv.ownBlock.toList
theorem ar(h:w.ownsRow B e k v n xs)(hf:Fr S w w')(s:∀g,v.ownBlock=some g->g∉S):w'.ownsRow B e k v n xs:=by
 refine⟨h.1,?_⟩;obtain a|⟨g,cap,cur,rfl,h2,h3,h4⟩:=h.2
 .grind
 .exact .inr ⟨g,cap,cur,rfl,h2,(hf.block g (zza.1 h3).1<|s g rfl).trans h3,h4⟩
theorem aC.fr(a:aC w B p h N pv d n D c)(hf:Fr S w w')(hp:p∉S)(e:h∉S)(f:N∉S)(i:∀g,pv.ownBlock=some g->g∉S)(b:∀q∈S,∀t,w.heap[q]?≠some (gN t)):aC w' B p h N pv d n D c where
 blk:=(hf.block p (zza.1 a.blk).1 hp).trans a.blk
 base:=⟨a.base.1,a.base.2.1,a.base.2.2.1,zzk a.base.2.2.2 hf.size⟩;ne:=a.ne;lB:=a.lB.fr hf e b;now:=a.now.fr hf f b;pen:=ar a.pen hf i;hD:=a.hD;hN:=a.hN;hn:=a.hn
 Ou:=a.Ou
 Ov:=a.Ov
 ops:=a.ops
theorem aC.new{a:Nat}(b:aC w B p h N pv d n D a)(hf:Fr [] w w'):aC w' B p h N pv d n D a:=
 b.fr hf dv dv dv dv dv
theorem aC.more(a:aC w B p h N pv d n D b)(hn:n<1000000000):aC w B p h N pv d (n+1) D b:=
 {a with hD:=by have:=a.hD;omega,hN:=by have:=a.hN;omega,hn:=dp}
theorem aC.fL(a:aC w B p h N pv d n D c)(hf:Fr [p] w w')(l f:Int)(dn:Bool)(hb:w'.heap[p]?=some (lH h N pv l f dn)):
  aC w' B p h N pv {d with left:=l,full:=f,down:=dn} n D c where
 blk:=hb
 base:=⟨a.base.1,a.base.2.1,a.base.2.2.1,zzk a.base.2.2.2 hf.size⟩;ne:=a.ne;lB:=a.lB.fr hf (by simp;exact a.lB.cT a.blk)<|by intro q b t;simp at b;subst b;rw[a.blk];intro e;cases e
 now:=a.now.fr hf (by simp;exact a.now.cT a.blk)<|by intro q b t;simp at b;subst b;rw[a.blk];intro e;cases e
 pen:=ar a.pen hf λg i=>by simp;intro e;subst e;exact aQ a.pen a.blk du i
 hD:=a.hD;hN:=a.hN;hn:=a.hn
 Ou:=a.Ou
 Ov:=a.Ov
 ops:=a.ops
theorem iX(d:aj):d.writes.1={d with left:=d.writes.1.left,full:=d.writes.1.full,down:=d.writes.1.down}:=by grind[aj.writes]
theorem xV(B p D N n a b:Nat)(pv:Value)(d:aj)(w:nL)(h:aC w B p D N pv d n a b):
  Calls prog 419 #[gx p] w λe w'=>e=.returned (bB d.writes.2)/\aC w' B p D N pv d.writes.1 n a b/\Fr [p] w w':=by
 apply(Kn p D N pv d w h.blk).mono;rintro e w' ⟨rfl,h1,h2⟩;refine⟨rfl,?_,h2⟩;rw[iX];exact h.fL h2 _ _ _ h1
def m_(d:aj)(o:km)(B p D N n a:Nat)(pv:Value)(w:nL)(e:Ending)(w':nL):Prop :=
 e=.returned (bB (d.tell o).2)/\(∃V g,aC w' B p D N V (d.tell o).1 (n+1) a g/\bU w.heap.size pv V)/\Fr (dS p D N pv) w w'
theorem Ow(h:d.writes.2=10):d.tell o=({d.writes.1 with pending:=d.writes.1.pending++[o]},10):=by grind[aj.tell]
theorem Ox(h:d.writes.2=9):d.tell o=(d.writes.1,9):=by grind[aj.tell]
theorem Oy(h:d.writes.2=0)(a:d.writes.1.now o.name=none/\2<o.kind):d.tell o=(d.writes.1,8):=by grind[aj.tell]
theorem WC(h:d.writes.2=0)(a:¬(d.writes.1.now o.name=none/\2<o.kind))(b:¬(o.kind=4/\o.name=o.to)):d.tell o=({d.writes.1 with now:=dD d.writes.1.now o,pending:=d.writes.1.pending++[o]},0):=by grind[aj.tell]
theorem qH(d:aj):d.writes.2=10\/d.writes.2=9\/d.writes.2=0:=by grind[aj.writes]
theorem aC.Zn{f:nL}(a:aC w B p h N pv d n D j)(K:o.Ok 4096)
  (l:w.grownBy f pv.ownBlock) (F:f.ownsRow B 200 4 V (d.pending.length+1)<|opsV<|d.pending++[o]) (I:w2=f.setCell (hP p 2) V) :
  (∀n',D+(d.pending++[o]).length<=n'->j<=n'->n'<=1000000000->aC w2 B p h N V {d with pending:=d.pending++[o]} n' D j)/\Fr (p::pv.ownBlock.toList) w w2:=by
 have G:=(l.block p (zza.1 a.blk).1 λe=>aQ a.pen a.blk du e.symm).trans a.blk;have Y:=Fr.cA l;have H:Fr (p::pv.ownBlock.toList) w w2:=by
  rw[I];exact(Y.mono λk _ y=>Ds _ y).setCell (Or.inl dv) _
 have A:∀q∈p::pv.ownBlock.toList,∀t,w.heap[q]?≠some (gN t):=by
  intro q i t e;obtain rfl|i:=zzj.1 i
  .rw[a.blk]at e;cases e
  .simp at i;exact aQ a.pen e du i
 have E:∀(b k:Nat) (m:aG),FileMap w b k m->b∉p::pv.ownBlock.toList:=by
  intro b k m r hb;obtain rfl|hb:=zzj.1 hb
  .exact r.cT a.blk rfl
  .simp at hb;have⟨c,u⟩:=aL a.pen hb;exact r.cT u rfl
 refine⟨λn' J s z=>?_,H⟩;subst I;have C:∀g,V.ownBlock=some g->g≠p:=by grind[aQ]
 refine {blk:=?_,base:=⟨a.base.1,a.base.2.1,a.base.2.2.1,zzk a.base.2.2.2 H.size⟩,ne:=a.ne,lB:=a.lB.fr H (E _ _ _ a.lB) A,now:=a.now.fr H (E _ _ _ a.now) A,pen:=?_,hD:=J,hN:=s,hn:=z,Ou:=a.Ou,Ov:=a.Ov,ops:=?_}
 .have:=aF G 2 V;simpa using this
 .have:=ar F (S:=[p]) (Fr.cG (w:=f) (p:=p) (by simp) 2 V) λg v=>by simp;exact C g v
  simpa using this
 .intro x hx;obtain hx|hx:=zzo.1 hx
  .exact a.ops x hx
  .grind
theorem aC.WD{b:nL}(a:aC w B p h N pv d n D c)(hn:n<1000000000)(e:o.Ok 4096)
  (g:w.grownBy b pv.ownBlock) (r:b.ownsRow B 200 4 V (d.pending.length+1)<|opsV<|d.pending++[o]) (I:w2=b.setCell (hP p 2) V) :
  aC w2 B p h N V {d with pending:=d.pending++[o]} (n+1) D c/\Fr (p::pv.ownBlock.toList) w w2:=by
 have⟨q,f⟩:=aC.Zn a e g r I;exact⟨q (n+1) (by have:=a.hD;simp;omega) (by have:=a.hN;omega) dp,f⟩
theorem aC.ab6{b:nL}{e:Nat}{N:aG}(a:aC w B p h c pv {d with now:=N} (n+1) D<|e+1)(f:o.Ok 4096)
  (g:w.grownBy b pv.ownBlock) (r:b.ownsRow B 200 4 V (d.pending.length+1)<|opsV<|d.pending++[o]) (I:w2=b.setCell (hP p 2) V) (hD:D+d.pending.length<=n) :
  aC w2 B p h c V {d with now:=N,pending:=d.pending++[o]} (n+1) D (e+1)/\Fr (p::pv.ownBlock.toList) w w2:=by
 have⟨q,i⟩:=aC.Zn a f g r I;exact⟨q (n+1) ef a.hN a.hn,i⟩
theorem wF(h:w.ownsRow B e k v (n+1) xs):∃g p,v=.slice (some<|gi g) (n+1) p:=by
 rcases h.2 with⟨_,a⟩|⟨g,p,r,rfl,_⟩
 .omega
 .grind
theorem Zo{a:nL}(b:aC a B p h N pv d n D j)(c:a.heap[q]?=some (MP o))(g:(a.alloc<|MP o).drew.grownBy w pv.ownBlock)(i:pv.ownBlock≠some q):
  w.cell? (hP p 2)=some pv/\w.frozen? (hP p 2)=false/\w.cell? (gi q)=some (.int .i64 o.kind)/\w.cell? (hP q 1)=some (.string o.name)/\w.cell? (hP q 2)=some (.string o.to)/\w.cell? (hP q 3)=some (.string o.data):=by
 have I:=(zza.1 b.blk).1;have l:=(zza.1 c).1;have f:w.heap[p]?=some (lH h N pv d.left d.full d.down):=by
  rw[g.block p ef λe=>aQ b.pen b.blk du e.symm];exact(zzf a _ p I).trans b.blk
 have k:w.heap[q]?=some (MP o):=by
  rw[g.block q ef λe=>i e.symm];exact(zzf a _ q l).trans c
 refine⟨(af f 2).trans dv,aq f 2,(af k 0).trans dv,(af k 1).trans dv,(af k 2).trans dv,(af k 3).trans dv⟩
theorem aC.done{f:Nat}(a:aC w B p h N pv d n D f)(b:w.heap[q]?=some (MP o))(F:FileMap w2 N (f+1)<|dD d.now o)(l:w.grownBy w2<|some N)(hn:n<1000000000)(m:o.Ok 4096):
  aC w2 B p h N pv {d with now:=dD d.now o} (n+1) D (f+1)/\w2.heap[q]?=some (MP o)/\Fr [N] w w2:=by
 have hf:=Fr.bI l;have U:∀r∈[N],∀t,w.heap[r]?≠some (gN t):=by
  intro r i t e;simp at i;subst i;exact a.now.cT e rfl
 refine⟨?_,(hf.block q (zza.1 b).1<|by simp;exact λe=>a.now.cT b e.symm).trans b,hf⟩;refine {blk:=(hf.block p (zza.1 a.blk).1<|by simp;exact λe=>a.now.cT a.blk e.symm).trans a.blk,base:=⟨a.base.1,a.base.2.1,a.base.2.2.1,zzk a.base.2.2.2 hf.size⟩,ne:=a.ne,lB:=a.lB.fr hf (by simp;exact a.ne) U,now:=F,pen:=ar a.pen hf λg v=>by simp;intro e;subst e;have⟨c,j⟩:=aL a.pen v;exact a.now.cT j rfl,hD:=by have:=a.hD;simp;omega,hN:=by have:=a.hN;omega,hn:=dp,Ou:=a.Ou,Ov:=?_,ops:=a.ops}
 .have:=Ah a.Ov m;intro k t s;have:=this k t s;omega
theorem aeV(w:nL):(binOp .eql 74 (.iface 27<|.int .i64 10)<|.iface 27<|.int .i64 10).run prog w=.ok (.bool true) w:=eu
theorem aeW(w:nL):(binOp .eql 74 (.iface 27<|.int .i64 9)<|.iface 27<|.int .i64 10).run prog w=.ok (.bool false) w:=eu
end Go.Proofs.YtlgeloebpdmnnaaGreatDoor
