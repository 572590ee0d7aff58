import Derived.Test.YtcalalndmcemiaaGreatDoorProg
import Derived.WalkSpells
import Derived.WalkLawsBesides
import Derived.Maps.Ext
import Derived.Sort.KeysCollected
import Derived.Deep.RegionHeld3
import Derived.BigQuiet
import Derived.Stop.Asserts
import Derived.RowKitTokens
set_option maxHeartbeats 1600000
set_option maxRecDepth 100000
namespace Go.Proofs.YtcalalndmcemiaaGreatDoor
open Go.RowKit Go.Maps Tryz
variable{p:Prop}
theorem af(h:p):Hid p:=h
abbrev zza:=@Array.getElem?_eq_some_iff
abbrev zzb:=@And.intro
abbrev zzc:=@Nat.le_refl
abbrev zzd:=@List.getElem?_eq_some_iff
abbrev zze:=@World.cell?_of_block
abbrev zzf:=@Below.heap_alloc
abbrev zzg:=@List.getElem?_eq_getElem
abbrev zzh:=@List.mem_of_getElem?
abbrev zzi:=@List.length_append
abbrev zzj:=@List.mem_cons
abbrev zzk:=@Nat.le_trans
abbrev zzl:=@Nat.lt_of_lt_of_le
abbrev zzm:=@List.length_take
abbrev zzn:=@List.length_map
abbrev zzo:=@List.mem_append
abbrev zzp:=@List.mem_filter
abbrev zzq:=@List.mem_map
abbrev zzr:=@List.length_cons
abbrev zzs:=@Nat.zero_le
abbrev zzt:=@List.take_of_length_le
abbrev zzu:=@World.ownsRow_nil
abbrev zzv:=@World.size_alloc
abbrev zzw:=@World.frozen?_of_block
abbrev zzx:=@List.append_assoc
abbrev zzy:=@List.getElem?_map
abbrev zzz:=@List.length_drop
abbrev zzA:=@List.pairwise_cons
abbrev zzB:=@List.mem_iff_getElem?
abbrev zzC:=@Nat.le_succ
abbrev zzD:=@Below.refl
abbrev zzE:=@List.length_pos_iff
abbrev zzF:=@World.block_lt_of_cell?
theorem bL(h:p:=by omega):p:=h
theorem bM(h:p:=by decide):p:=h
theorem bR(h:p:=by simp):p:=h
theorem cE(h:p:=by simp;omega):p:=h
theorem dJ(h:p:=by kernel_rfl):p:=h
theorem dL(h:p:=by rw[IntKind.wrap_i64];omega):p:=h
theorem eA(h:p:=by unfold maxLen;omega):p:=h
theorem eC(h:p:=by assumption):p:=h
theorem eR(h:p:=by go_num):p:=h
theorem fQ(h:p:=by simp[intOf];omega):p:=h
theorem fV{α}{a b:α}(h:a=b:=by kernel_rfl):some a=some b:=congrArg some h
theorem gb{α}(a:α):∃x,x=a:=⟨_,rfl⟩
abbrev gx(k:Nat):Value:=.pointer (some ⟨k,0,none⟩)
abbrev gz(k:Nat):Addr:=⟨k,0,none⟩
abbrev hO(k i:Nat):Addr:=⟨k,i,none⟩
abbrev yA:=ByteArray.empty
abbrev mA:=@List.setIfInBounds_toArray
abbrev mC:=@List.set_cons_zero
abbrev mI:=@List.set_cons_succ
abbrev mB:=@List.size_toArray
abbrev mH:=@List.length_nil
abbrev mK:=@Array.replicate_succ
abbrev mL:=@Array.replicate_zero
abbrev nb:=@List.push_toArray
abbrev nU:=@List.append_toArray
abbrev n5:=@List.nil_append
abbrev qC:=@List.cons_append
end Go.Proofs.YtcalalndmcemiaaGreatDoor
namespace Go.Proofs.YtcalalndmcemiaaGreatDoor.Sc
def half(c:Nat):Nat:=if c%2=1 then (c/2) ^^^ 3988292384 else c/2
def dt:Nat->Nat->Nat
 |0,c=>c
 |k+1,c=>half (dt k c)
def ko(c:Nat)(l:List Nat):Nat:=l.foldl (λc b=>dt 8 (c ^^^ b)) c
def zP(l:List Nat):Nat:=4294967295 ^^^ ko 4294967295 l
theorem Nl(a b:Nat):(a^^^b)/2=a/2^^^b/2:=by
 have:=Nat.shiftRight_xor_distrib (a:=a) (b:=b) (i:=1);simpa [Nat.shiftRight_eq_div_pow]using this
theorem Nn(a b:Nat):(a^^^b)%2=(a+b)%2:=by
 have h:=Nat.xor_mod_two_pow (a:=a) (b:=b) (n:=1);rw[show(2:Nat)^1=2 from rfl]at h;rw[h];obtain c|c:=Nat.mod_two_eq_zero_or_one a<;>obtain hb|hb:=Nat.mod_two_eq_zero_or_one b<;>rw[c,hb]<;>simp<;>omega
theorem Np(a b:Nat):half (a^^^b)=half a^^^half b:=by
 unfold half;have h:=Nl a b;have c:=Nn a b;rw[h,c];obtain d|d:=Nat.mod_two_eq_zero_or_one a<;>obtain hb|hb:=Nat.mod_two_eq_zero_or_one b
 .rw[if_neg bL,if_neg bL,if_neg bL]
 .rw[if_pos bL,if_neg bL,if_pos bL,Nat.xor_assoc]
 .rw[if_pos bL,if_pos bL,if_neg bL,Nat.xor_assoc,Nat.xor_assoc,Nat.xor_comm<|b/2]
 .rw[if_neg bL,if_pos bL,if_pos bL,Nat.xor_assoc,Nat.xor_comm 3988292384,Nat.xor_assoc,Nat.xor_self,Nat.xor_zero]
theorem Gi(k a b:Nat):dt k (a^^^b)=dt k a^^^dt k b:=by
 induction k with
 |zero=>rfl
 |succ k ih=>simp only[dt,ih,Np]
theorem BS(k d:Nat):dt k (2^k*d)=d:=by
 induction k generalizing d with
 |zero=>simp[dt]
 |succ k ih=>
  have e:2^(k+1)*d=2^k*(2*d):=by rw[Nat.pow_succ,Nat.mul_assoc]
  rw[e];simp only[dt,ih];unfold half;rw[if_neg bL];omega
theorem RO(c:Nat)(h:c<4294967296):half c<4294967296:=by
 unfold half;have a:c/2<2^32:=bL;split
 .exact Nat.xor_lt_two_pow a bM
 .exact a
theorem gZ(k c:Nat)(h:c<4294967296):dt k c<4294967296:=by
 induction k with
 |zero=>exact h
 |succ k ih=>exact RO _ ih
theorem iW(a b:Nat)(h:a<4294967296)(hb:b<4294967296):a^^^b<4294967296:=Nat.xor_lt_two_pow (n:=32) h hb
theorem BU(a b:Nat)(h:a<256)(hb:b<256):a^^^b<256:=Nat.xor_lt_two_pow (n:=8) h hb
theorem VS(s:Nat):s=(s%256)^^^(256*(s/256)):=by
 refine Nat.eq_of_testBit_eq λi=>?_
 rw[Nat.testBit_xor,show(256:Nat)=2^8 from rfl,Nat.testBit_mod_two_pow,Nat.testBit_two_pow_mul,Nat.testBit_div_two_pow];by_cases h:i<8
 .have:¬8<=i:=bL;simp[h,this]
 .have h2:8<=i:=bL;simp[h,h2]
def DK(s b:Nat):Nat:=dt 8 ((s%256) ^^^ b) ^^^ (s/256)
theorem DL(s b:Nat):DK s b=dt 8 (s^^^b):=by
 have e:s^^^b=((s%256)^^^b)^^^(256*(s/256)):=by
  conv=>lhs;rw[VS s]
  rw[Nat.xor_assoc,Nat.xor_comm (256*(s/256)) b,<-Nat.xor_assoc]
 rw[e,Gi,show(256:Nat)=2^8 from rfl,BS];rfl
theorem AA(c:Nat)(l:List Nat)(b:Nat):ko c (l++[b])=dt 8 (ko c l^^^b):=by simp[ko]
theorem w_(c:Nat)(l:List Nat)(h:c<4294967296)(a:∀b∈l,b<256):ko c l<4294967296:=by
 induction l generalizing c with
 |nil=>exact h
 |cons b l ih=>
  have hb:=a b bR;show ko (dt 8<|c^^^b) l<_;exact ih _ (gZ _ _<|iW _ _ h bL) λx d=>a x<|by simp[d]
theorem Nq(l:List Nat)(h:∀b∈l,b<256):zP l<4294967296:=iW _ _ bM<|w_ _ _ bM h
/-! aco as bytes,the acp first -/
def digit(k n j:Nat):Nat:=n/256 ^ (k-1-j)%256
def be(k n:Nat):List Nat:=(List.range k).map (digit k n)
def val(l:List Nat):Nat:=l.foldl (λn b=>n*256+b) 0
theorem dH(k n:Nat):(be k n).length=k:=by simp[be]
theorem Jg(k n:Nat):∀b∈be k n,b<256:=by
 intro b hb;simp only[be,zzq,digit]at hb;obtain⟨j,_,rfl⟩:=hb;omega
theorem nL(l:List Nat)(b:Nat):val (l++[b])=val l*256+b:=by simp[val]
theorem RP(l:List Nat)(n:Nat)(h:∀b∈l,b<256):l.foldl (λn b=>n*256+b) n<(n+1)*256^l.length:=by
 induction l generalizing n with
 |nil=>simp
 |cons b l ih=>
  have d:=h b bR;have a:=ih (n*256+b) (λx c=>h x<|by simp[c]);apply zzl a;rw[zzr,Nat.pow_succ,Nat.mul_comm (256^l.length) 256,<-Nat.mul_assoc];exact Nat.mul_le_mul_right _ bL
theorem pT(l:List Nat)(h:∀b∈l,b<256):val l<256^l.length:=by
 have:=RP l 0 h;simpa [val]using this
theorem Gj(k n j:Nat)(h:j<=k):val ((List.range j).map<|digit k n)=n/256^(k-j)%256^j:=by
 induction j with
 |zero=>simp[val,Nat.mod_one]
 |succ j ih=>
  rw[List.range_succ,List.map_append,List.map_singleton,nL,ih bL];unfold digit;have e:k-j=(k-(j+1))+1:=bL
  have a:k-1-j=k-(j+1):=bL;rw[e,a,Nat.pow_succ,<-Nat.div_div_eq_div_mul];generalize n/256^(k-(j+1))=m;rw[Nat.pow_succ,Nat.mul_comm (256^j) 256,Nat.mod_mul];omega
theorem sj(k n:Nat)(h:n<256^k):val (be k n)=n:=by
 have:=Gj k n k<|zzc _;rw[Nat.sub_self,Nat.pow_zero,Nat.div_one,Nat.mod_eq_of_lt h]at this;exact this
end Go.Proofs.YtcalalndmcemiaaGreatDoor.Sc
namespace Go.Proofs.YtcalalndmcemiaaGreatDoor
open Go.RowKit Go.Maps Tryz
section
open Sc
variable{a:Int}{k:IntKind}{l xs:List Nat}{b base f g n p:Nat}{v:Value}{c w:World}
def at_(l:List Nat)(i:Nat):Nat:=l.getD i 0
def kE(l:List Nat):Prop:=∀x∈l,x<256
theorem pU(h:kE l)(i:Nat):at_ l i<256:=by
 unfold at_;by_cases a:i<l.length
 .have:=h _<|List.getElem_mem a;simpa [a]using this
 .simp[Nat.le_of_not_lt a]
theorem kE.o8(h:kE l)(n:Nat):kE (l.take n):=λx a=>h x<|List.mem_of_mem_take a
theorem qK(l:List Nat)(k:Nat)(h:k<l.length):l.take (k+1)=l.take k++[at_ l k]:=by
 rw[List.take_succ_eq_append_getElem h];simp[at_,h]
def bs(l:List Nat):List Value:=l.map λx:Nat=>.int .u8 (x:Int)
theorem xD(l:List Nat):(bs l).length=l.length:=by simp[bs]
theorem Gk(a b:List Nat):bs (a++b)=bs a++bs b:=by simp[bs]
theorem Jh(l:List Nat)(i:Nat)(h:i<l.length):(bs l)[i]?=some (.int .u8 (at_ l i:Nat)):=by simp[bs,at_,h]
def cW(w:World)(g f:Nat)(l:List Nat):Prop:=∀i,i<l.length->w.cell? ⟨g,f+i,none⟩=some (.int .u8 (at_ l i:Nat))
theorem KB(h:w.ownsRow base 5 1 v n<|bs xs)(hn:0<n):
  ∃g p,v=.slice (some ⟨g,0,none⟩) n p/\base<=g/\g<w.heap.size/\n<=p/\p<=maxLen/\cW w g 0 xs:=by
 have⟨b,c⟩:=h;rcases c with⟨_,f⟩|⟨g,p,r,rfl,hb,a,Y,s,d,K⟩
 .omega
 .refine⟨g,p,rfl,hb,(zza.1 a).1,Y,s,λi e=>?_⟩;have A:w.ownsRow base 5 1 (.slice (some (gz g)) n p) n (bs xs):=⟨b,.inr ⟨g,p,r,rfl,hb,a,Y,s,d,K⟩⟩;have:=A.cells rfl i _<|Jh xs i e
  simpa [Addr.add_lit]using this
theorem jr{o:Obj}(h:b<w.heap.size):cW (w.alloc o) b f l↔cW w b f l:=by
 unfold cW;constructor
 .intro k i hi;have:=k i hi;rwa [World.cell?_alloc_lt _ _ (hO b (f+i)) h]at this
 .intro k i hi;rw[World.cell?_alloc_lt _ _ (hO b (f+i)) h];exact k i hi
theorem cW.lt(h:cW w b f l)(a:0<l.length):b<w.heap.size:=by
 exact zzF w (hO b (f+0))<|h 0 a
theorem cW.sub(h:cW w b f l)(o m:Nat)(c:o+m<=l.length):cW w b (f+o) ((l.drop o).take m):=λi a=>by
 simp only[zzm,zzz]at a;have:=h (o+i) bL;rw[show f+o+i=f+(o+i) by omega,this];congr 3;simp[at_,List.getElem?_drop,show i<m by omega]
theorem dI(w:World)(r:Option Nat):w.grownBy w r:=⟨rfl,rfl,rfl,zzc _,λ_ _ _=>rfl⟩
theorem aR{b:World}{r:Option Nat}(h:w.grownBy b r)(k:b.grownBy c r):w.grownBy c r:=
 ⟨k.os.trans h.os,k.tape.trans h.tape,k.output.trans h.output,zzk h.size k.size,λi a hn=>(k.block i (zzl a h.size) hn).trans<|h.block i a hn⟩
theorem qL(w:World)(b o:Nat)(v:Value):w.grownBy (w.setCell ⟨b,o,none⟩ v) (some b):=
 ⟨rfl,rfl,rfl,by simp[World.setCell],λk _ hn=>Below.heap_setCell _ _ _ _ λe=>hn<|by rw[e]⟩
theorem cm{a:World}{r:Option Nat}(h:w.grownBy a r):w.grownBy a.drew r:=⟨h.os,h.tape,h.output,h.size,h.block⟩
theorem lW(h:w.grownBy c<|some b){a:Addr}(hn:a.block≠b)(l:a.block<w.heap.size):c.cell? a=w.cell? a:=
 zze (h.block a.block l λe=>hn<|Option.some.inj e)
theorem cV(w:World)(o:Obj)(r:Option Nat):w.grownBy (w.alloc o) r:=World.grownBy_alloc w o r
theorem Ji(h:w.ownsRow base 5 1 v n<|bs xs):xs.length=n:=by
 have:=h.1;rw[xD]at this;omega
theorem lA(h:w.ownsRow base 5 1 (.slice (some ⟨g,0,none⟩) n p) n<|bs xs):cW w g 0 xs:=λi a=>by
 have:=h.cells rfl i _<|Jh xs i a
 simpa [Addr.add_lit]using this
theorem kp(h:w.ownsRow base 5 1 (.slice (some ⟨g,0,none⟩) n p) n<|bs xs):base<=g/\g<w.heap.size:=h.lt g rfl
theorem KC{d e:World}{B:Nat}(h:w.grownBy d<|some b)(k:d.grownBy e<|some g)(hb:B<=b)(f:B<=g)(c:B<=w.heap.size):Below B w e:=
 ((zzD B w).grown h c λq a=>by cases a;exact hb).grown k (zzk c h.size) (λq a=>by cases a;exact f)
theorem AB{w':World}(h:cW w g f l)(d:w.grownBy w'<|some b)(j:g≠b):cW w' g f l:=λi e=>by
 have c:=h i e;rw[lW d j<|zzF w _ c];exact c
theorem cW.drewN(h:cW w b f l)(q:Nat):cW (w.drewN q) b f l:=λi a=>by
 simpa using h i a
theorem pV:(Tryz.prog.info? 5).map (λi=>(i.zero,i.size,i.bytes))=some (some<|.int .u8 0,1,1):=dJ
theorem acr(X:Nat)(h:X<4294967296):bits .and .u32 (X:Int) 1=((X%2:Nat):Int):=by
 have:=u32_and_nat X 1 h (by omega);rw[Nat.and_one_is_mod] at this;exact this
theorem acs(X:Nat)(h:X<4294967296):bits .xor .u32 (X:Int) 3988292384=((X ^^^ 3988292384:Nat):Int):=u32_xor_nat X 3988292384 h (by omega)
theorem ZL(X:Nat)(h:X<4294967296):bits .xor .u32 4294967295 (X:Int)=((4294967295 ^^^ X:Nat):Int):=u32_xor_nat 4294967295 X (by omega) h
theorem Ny(X:Nat)(h:X%2=1):half X=X/2 ^^^ 3988292384:=by unfold half;rw[if_pos h]
theorem KK(X:Nat)(h:¬X%2=1):half X=X/2:=by unfold half;rw[if_neg h]
theorem Jm{b:Int}(h:a=b):Ending.returned (.int k a)=.returned (.int k b):=by rw[h]
theorem int_eq{b:Int}(h:a=b):Value.int k a=.int k b:=by rw[h]
theorem qR(n k j:Nat):((n:Int)/2 ^ (8*(k-1-j))%256)=((digit k n j:Nat):Int):=by
 unfold digit;rw[show(256:Nat) ^ (k-1-j)=2 ^ (8*(k-1-j)) by rw[Nat.pow_mul]];simp
theorem disable(w:World):(callFunc 345 #[]).run prog w=.ok (.value<|.tuple #[]) w:=run_call_mark0 func345 dJ dJ dJ .disable dJ w
theorem enable(w:World):(callFunc 347 #[]).run prog w=.ok (.value<|.tuple #[]) w:=run_call_mark0 func347 dJ dJ dJ .enable dJ w
theorem acquire(a:Addr)(w:World):(callFunc 348 #[.pointer<|some a]).run prog w=.ok (.value<|.tuple #[]) w:=run_call_marked func348 dJ dJ dJ .acquire dJ a w
theorem releaseMerge(a:Addr)(w:World):(callFunc 350 #[.pointer<|some a]).run prog w=.ok (.value<|.tuple #[]) w:=run_call_marked func350 dJ dJ dJ .releaseMerge dJ a w
theorem xH(a:Addr)(x:Value)(u:FrameMode)(w:World)(c:w.cell? a=some x)(z:w.frozen? a=false):
  CallsD prog 312 #[.pointer<|some a,.bool true] u w λe b w'=>b=u/\(e=.returned (.tuple #[])/\w'=w.drew.setCell a (.int .u32 1)):=by
 have D:w.drew.cell? a=some x:=by go_simp
 have h:w.drew.frozen? a=false:=by go_simp
 have G:=run_call_store (P:=prog) func336 dJ dJ dJ dJ (k:=.u32) (y:=1) D h;go_enter_d func312,ntmps312;go_wp2;go_region_calls;all_goals (go_end0;exact⟨rfl,rfl⟩)
theorem wD(a:Addr)(u:FrameMode)(w:World)(c:w.cell? a=some (.int .i32 1))(z:w.frozen? a=false):
  CallsD prog 311 #[.pointer<|some a] u w λe b w'=>b=u/\(e=.returned (.tuple #[])/\w'=w.setCell a (.int .i32 0)):=by
 have d:=disable;have h:=enable;have r:=releaseMerge;have X:=run_call_add (P:=prog) func351 dJ dJ dJ .i32 dJ (y:=-1) (s:=0) c z (by simp[go_sem];rfl);have v:=run_convert_to_unsafe underlying455 underlying184 dJ c;go_enter_d func311,ntmps311;go_wp2;go_end0;go_wp2;go_end0;exact⟨rfl,rfl⟩
theorem KL(a:Addr)(w:World)(c:w.cell? a=some (.int .i32 0))(z:w.frozen? a=false):
  Calls prog 310 #[.pointer<|some a] w λe w'=>e=.returned (.tuple #[])/\w'=w.setCell a (.int .i32 1):=by
 have d:=disable;have b:=enable;have h:=acquire;have Y:=run_call_cas_hit (P:=prog) func346 dJ dJ dJ .i32 (by kernel_rfl) (y:=1) c z;have D:(w.setCell a<|.int .i32 1).cell? a=some (.int .i32 1):=World.cell?_setCell_same w a _ c;have v:=run_convert_to_unsafe underlying455 underlying184 dJ D;go_enter func310,ntmps310;go_wp2;first|go_end0|(simp only[Exit.inBlock,Exit.then];apply bodyPost_ret (results_none rfl _ _ _) rfl)|apply bodyPost_ret (results_none rfl _ _ _) rfl
 go_wp2;go_end0;exact⟨rfl,rfl⟩
theorem Gp(C:Nat)(w:World)(a:C<4294967296):
  Calls prog 242 #[.int .u32 C] w λe w'=>e=.returned (.int .u32 (dt 8 C:Nat))/\w'=w:=by
 go_enter func242,ntmps242;go_wp2;go_loop [0,4] (λc j=>∃q:Nat,q<=8/\j=.int .i64 q/\c=.int .u32 (dt q C:Nat)) (λ_ j=>8-(intOf j).toNat);case atStart=>exact⟨0,zzs _,rfl,rfl⟩
 case round=>
  obtain⟨q,f,rfl,rfl⟩:=hrel;have h:=gZ q C a;have H:Hid (dt (q+1) C=half (dt q C)):=rfl;by_cases g:q<8
  .generalize dt q C=X at h H;have b:=acr X h;have L:X/2<4294967296:=bL;have d:bits .xor .u32 ((X:Int)/2) 3988292384=((X/2^^^3988292384:Nat):Int):=by rw[show((X:Int)/2)=((X/2:Nat):Int) by omega];exact acs (X/2) L
   by_cases o:X%2=1
   .have HO:Hid (half X=X/2^^^3988292384):=Ny X o;go_wp2;go_round;case rel=>exact⟨q+1,bL,eR,by rw[H.out,HO.out]⟩
    case measure=>simp[intOf];omega
   .have HO:Hid (half X=X/2):=KK X o;go_wp2;go_round;case rel=>exact⟨q+1,bL,eR,by rw[H.out,HO.out];exact int_eq bL⟩
    case measure=>simp[intOf];omega
  .have e8:q=8:=bL;subst e8;go_wp2;go_ret;exact⟨rfl,rfl⟩
def eX(k f t x:Int):Bool:=decide (x≠0/\((k=1\/k=5\/k=6)/\f=0/\1<=t/\t<=8\/(k=2\/k=3\/k=4\/k=7\/k=8)/\t=0/\1<=f/\f<=8))
theorem DR{a b:Bool}(h:a=b):Ending.returned (.bool a)=.returned (.bool b):=by rw[h]
abbrev R6(k f t x:Int):Value:=.agg #[.int .i64 k,.int .i64 f,.int .i64 t,.int .u64 x]
abbrev fk(k f t x:Int):Obj:=.cells #[.int .i64 k,.int .i64 f,.int .i64 t,.int .u64 x] 151
def jL(k f t x:Nat):List Nat:=[k,f,t]++be 8 x
def kH(k f t x:Nat):List Nat:=jL k f t x++be 4 (zP (jL k f t x))
theorem pY(k f t x:Nat):(jL k f t x).length=11:=by simp[jL,dH]
theorem BX(k f t x:Nat):(kH k f t x).length=15:=by simp[kH,pY,dH]
theorem pZ(k f t x:Nat)(h:k<256)(hf:f<256)(a:t<256):kE (jL k f t x):=by
 intro b hb;simp only[jL,zzo,zzj,List.not_mem_nil,or_false] at hb;rcases hb with (rfl|rfl|rfl)|hb
 .exact h
 .exact hf
 .exact a
 .exact Jg _ _ _ hb
theorem BZ(k f t x:Nat)(h:k<256)(hf:f<256)(a:t<256):kE (kH k f t x):=by
 intro b hb;simp only[kH,zzo] at hb;rcases hb with hb|hb
 .exact pZ _ _ _ _ h hf a _ hb
 .exact Jg _ _ _ hb
def sw(b f k p:Nat):Option Addr:=if p=k then some ⟨b,f,none⟩ else some ⟨b,f+k,none⟩
theorem jK{k:Nat}(h:k<p):sw b f k p=some ⟨b,f+k,none⟩:=by unfold sw;rw[if_neg bL]
theorem pX(b f k:Nat):sw b f k k=some ⟨b,f,none⟩:=by unfold sw;rw[if_pos rfl]
theorem qT(xs:List Nat)(k n j:Nat):bs (xs++(List.range<|j+1).map (digit k n))=bs (xs++(List.range j).map (digit k n))++[.int .u8 ((digit k n j:Nat):Int)]:=by
 rw[List.range_succ,List.map_append,<-zzx,Gk];rfl
theorem AK(w:World):Calls prog 224 #[] w λe w'=>e=.returned (.int .i64 2)/\w'=w:=by
 have N:IntKind.u16.signed=false:=rfl;have hb:bits .xor .u16 IntKind.u16.max 0=65535:=by decide +kernel
 go_enter func224,ntmps224;go_wp2;go_ret;refine⟨?_,rfl⟩;kernel_rfl
theorem RY(base g k p:Nat)(xs:List Nat)(n:Nat)(w:World)(c:w.ownsRow base 5 1 (.slice (some ⟨g,0,none⟩) k p) k<|bs xs)(r:k+2<=p)(hn:n<65536):
  Calls prog 177 #[.slice (some ⟨g,0,none⟩) k p,.int .u16 n] w λe w'=>e=.returned (.slice (some ⟨g,0,none⟩) (k+2) p)/\w'.ownsRow base 5 1 (.slice (some ⟨g,0,none⟩) (k+2) p) (k+2) (bs<|xs++be 2 n)/\w.grownBy w' (some g):=by
 have⟨f,b,q,d,s⟩:=info_parts pV;have z:=af hn;skip;go_enter func177,ntmps177;go_wp2_with (go_at_call 224;apply(AK _).mono;rintro e w' ⟨rfl,hw⟩;have m:=hw.symm;subst m;clear hw);go_loopw [0,5] (λv i wr=>∃j:Nat,j<=2/\i=.int .i64 ((2:Int)-1-j)/\v=.slice (some (gz g)) (k+j) p/\wr.ownsRow base 5 1 (.slice (some (gz g)) (k+j) p) (k+j) (bs<|xs++(List.range j).map (digit 2 n))/\w.grownBy wr (some g)) (λ_ i _=>(intOf i+1).toNat);case atStart=>exact⟨0,zzs _,eR,rfl,by simpa using c,dI _ _⟩
 case round=>
  obtain⟨j,o,rfl,rfl,Q,a⟩:=hrel;by_cases U:j<2
  .have HD:=af<|qR n 2 j
   skip;skip;go_wp2_with (at_builtin;apply wpList_append_fits _ rfl _ _ 88 rfl base 5 f 1 underlying88 b d g (k+j) p _ rfl (Q.alloc _) (gz wr.heap.size) 1 1 [.int .u8<|(n:Int)/2^(8*(1-j))%256] rfl rfl ?c1 ?c2 ?c3);case c1=>
    intro l u S;match l,S with
    |0,S=>simp at S;subst S;simp[Addr.add]
   case c2=>intro u h;simp at h;subst h;rfl
   case c3=>omega
   .intro w1 bw bP;have V:=aR a<|aR (cV _ _ _) bP
    have A:w1.ownsRow base 5 1 (.slice (some (gz g)) (k+(j+1)) p) (k+(j+1)) (bs<|xs++(List.range<|j+1).map (digit 2 n)):=by
     rw[HD.out]at bw;rw[qT,<-Nat.add_assoc];exact bw
    clear bw bP Q a;go_wp2;go_roundw;case rel=>exact⟨j+1,bL,int_eq bL,rfl,A,V⟩
    case measure=>simp[intOf]<;>omega
  .have ek:j=2:=bL;subst ek;go_wp2;go_ret;exact⟨rfl,Q,a⟩
theorem RZ(C A:Nat)(b:C<72057594037927936)(a:A<256):bits .or .u64 ((C:Int)*256) (A:Int)=((C*256+A:Nat):Int):=by
 have h:=u64_or_nat (C*256) A bL bL;rw[show((C:Int)*256)=((C*256:Nat):Int) by omega,h];congr 1;rw[show C*256=C<<<8 from(Nat.shiftLeft_eq C 8).symm,<-Nat.shiftLeft_add_eq_or_of_lt (show A<2^8 from a)]
theorem ZM(b o n p:Nat)(l:List Nat)(w:World)(g:kE l)(hn:l.length=n)(j:2<=n)(t:n<=p)(s:p<=maxLen)(f:cW w b o l):
  Calls prog 286 #[.slice (some ⟨b,o,none⟩) n p] w λe w'=>e=.returned (.tuple #[.int .u16 (val (l.take 2):Nat),.slice (sw b o 2 p) (n-2)<|p-2])/\∃q,w'=w.drewN q:=by
 have N:=af hn;clear hn;unfold maxLen at s;have y:(2:Int)<=p:=bL;have z:(2:Int)<=n:=bL;go_enter func286,ntmps286;go_wp2_with (go_at_call 224;apply(AK _).mono;rintro e w' ⟨rfl,j⟩;have r:=j.symm;subst r;clear j);go_loop [5,13] (λc i=>∃k:Nat,k<=2/\i=.int .i64 k/\c=.int .u64 (val (l.take k):Nat)) (λ_ i=>2-(intOf i).toNat);case atStart=>exact⟨0,zzs _,rfl,rfl⟩
 case round=>
  obtain⟨k,v,rfl,rfl⟩:=hrel;by_cases U:k<2
  .have Ru:=f k (by rw[N.out];omega);have V:=af f;clear f;have m:=pU g k;have B:val (l.take k)<72057594037927936:=by
    have h:=pT (l.take k)<|g.o8 k;have a:(l.take k).length<=7:=by rw[zzm,N.out];omega
    have u:256^(l.take k).length<=256^7:=Nat.pow_le_pow_right (by omega) a;omega
   have⟨C,d⟩:=gb <|val (l.take k);rw[<-d]at B ⊢;have H:Hid (val (l.take<|k+1)=C*256+at_ l k):=by
    show _=_;rw[qK l k<|by rw[N.out];omega,nL,d]
   clear d;have x:=RZ C (at_ l k) B m;go_wp2;go_round;case rel=>exact⟨k+1,bL,eR,by rw[H.out];exact int_eq bL⟩
   case measure=>simp[intOf];omega
  .have ek:k=2:=bL;subst ek;have B:val (l.take 2)<65536:=by
    have h:=pT (l.take 2)<|g.o8 2;have a:(l.take 2).length=2:=by rw[zzm,N.out];omega
    rw[a]at h;exact h
   by_cases R:p=2
   .subst R;obtain rfl:n=2:=bL;skip;go_wp2;go_quiet (fail)
    go_wp2;go_ret2;refine⟨?_,_,rfl⟩;rw[pX];rfl
   .skip;go_wp2;go_quiet (fail)
    go_wp2;go_ret2;refine⟨?_,_,rfl⟩;rw[jK bL];rfl
theorem qU(w:World):Calls prog 193 #[] w λe w'=>e=.returned (.int .i64 8)/\w'=w:=by
 have N:IntKind.u64.signed=false:=rfl;have hb:bits .xor .u64 IntKind.u64.max 0=18446744073709551615:=by decide +kernel
 go_enter func193,ntmps193;go_wp2;go_ret;refine⟨?_,rfl⟩;kernel_rfl
theorem Jn(base g k p:Nat)(xs:List Nat)(n:Nat)(w:World)(c:w.ownsRow base 5 1 (.slice (some ⟨g,0,none⟩) k p) k<|bs xs)(r:k+8<=p)(hn:n<18446744073709551616):
  Calls prog 149 #[.slice (some ⟨g,0,none⟩) k p,.int .u64 n] w λe w'=>e=.returned (.slice (some ⟨g,0,none⟩) (k+8) p)/\w'.ownsRow base 5 1 (.slice (some ⟨g,0,none⟩) (k+8) p) (k+8) (bs<|xs++be 8 n)/\w.grownBy w' (some g):=by
 have⟨f,b,q,d,s⟩:=info_parts pV;have z:=af hn;clear hn;go_enter func149,ntmps149;go_wp2_with (go_at_call 193;apply(qU _).mono;rintro e w' ⟨rfl,hw⟩;have m:=hw.symm;subst m;clear hw);go_loopw [0,5] (λv i wr=>∃j:Nat,j<=8/\i=.int .i64 ((8:Int)-1-j)/\v=.slice (some (gz g)) (k+j) p/\wr.ownsRow base 5 1 (.slice (some (gz g)) (k+j) p) (k+j) (bs<|xs++(List.range j).map (digit 8 n))/\w.grownBy wr (some g)) (λ_ i _=>(intOf i+1).toNat);case atStart=>exact⟨0,zzs _,eR,rfl,by simpa using c,dI _ _⟩
 case round=>
  obtain⟨j,o,rfl,rfl,Q,a⟩:=hrel;by_cases U:j<8
  .have HD:=af<|qR n 8 j
   skip;skip;go_wp2_with (at_builtin;apply wpList_append_fits _ rfl _ _ 88 rfl base 5 f 1 underlying88 b d g (k+j) p _ rfl (Q.alloc _) (gz wr.heap.size) 1 1 [.int .u8<|(n:Int)/2^(8*(7-j))%256] rfl rfl ?c1 ?c2 ?c3);case c1=>
    intro l u S;match l,S with
    |0,S=>simp at S;subst S;simp[Addr.add]
   case c2=>intro u h;simp at h;subst h;rfl
   case c3=>omega
   .intro w1 bw bP;have V:=aR a<|aR (cV _ _ _) bP
    have A:w1.ownsRow base 5 1 (.slice (some (gz g)) (k+(j+1)) p) (k+(j+1)) (bs<|xs++(List.range<|j+1).map (digit 8 n)):=by
     rw[HD.out]at bw;rw[qT,<-Nat.add_assoc];exact bw
    clear bw bP Q a;go_wp2;go_roundw;case rel=>exact⟨j+1,bL,int_eq bL,rfl,A,V⟩
    case measure=>simp[intOf]<;>omega
  .have ek:j=8:=bL;subst ek;go_wp2;go_ret;exact⟨rfl,Q,a⟩
theorem R1(C A:Nat)(b:C<72057594037927936)(a:A<256):bits .or .u64 ((C:Int)*256) (A:Int)=((C*256+A:Nat):Int):=by
 have h:=u64_or_nat (C*256) A bL bL;rw[show((C:Int)*256)=((C*256:Nat):Int) by omega,h];congr 1;rw[show C*256=C<<<8 from(Nat.shiftLeft_eq C 8).symm,<-Nat.shiftLeft_add_eq_or_of_lt (show A<2^8 from a)]
theorem DM(b o n p:Nat)(l:List Nat)(w:World)(g:kE l)(hn:l.length=n)(j:8<=n)(t:n<=p)(s:p<=maxLen)(f:cW w b o l):
  Calls prog 246 #[.slice (some ⟨b,o,none⟩) n p] w λe w'=>e=.returned (.tuple #[.int .u64 (val (l.take 8):Nat),.slice (sw b o 8 p) (n-8)<|p-8])/\∃q,w'=w.drewN q:=by
 have N:=af hn;clear hn;unfold maxLen at s;have y:(8:Int)<=p:=bL;have z:(8:Int)<=n:=bL;go_enter func246,ntmps246;go_wp2_with (go_at_call 193;apply(qU _).mono;rintro e w' ⟨rfl,j⟩;have r:=j.symm;subst r;clear j);go_loop [5,13] (λc i=>∃k:Nat,k<=8/\i=.int .i64 k/\c=.int .u64 (val (l.take k):Nat)) (λ_ i=>8-(intOf i).toNat);case atStart=>exact⟨0,zzs _,rfl,rfl⟩
 case round=>
  obtain⟨k,v,rfl,rfl⟩:=hrel;by_cases U:k<8
  .have Ru:=f k (by rw[N.out];omega);have V:=af f;clear f;have m:=pU g k;have B:val (l.take k)<72057594037927936:=by
    have h:=pT (l.take k)<|g.o8 k;have a:(l.take k).length<=7:=by rw[zzm,N.out];omega
    have u:256^(l.take k).length<=256^7:=Nat.pow_le_pow_right (by omega) a;omega
   have⟨C,d⟩:=gb <|val (l.take k);rw[<-d]at B ⊢;have H:Hid (val (l.take<|k+1)=C*256+at_ l k):=by
    show _=_;rw[qK l k<|by rw[N.out];omega,nL,d]
   clear d;have x:=R1 C (at_ l k) B m;go_wp2;go_round;case rel=>exact⟨k+1,bL,eR,by rw[H.out];exact int_eq bL⟩
   case measure=>simp[intOf];omega
  .have ek:k=8:=bL;subst ek;have B:val (l.take 8)<18446744073709551616:=by
    have h:=pT (l.take 8)<|g.o8 8;have a:(l.take 8).length=8:=by rw[zzm,N.out];omega
    rw[a]at h;exact h
   by_cases R:p=8
   .subst R;obtain rfl:n=8:=bL;clear B;go_wp2;go_quiet (fail)
    go_wp2;go_ret2;refine⟨?_,_,rfl⟩;rw[pX];rfl
   .clear B;go_wp2;go_quiet (fail)
    go_wp2;go_ret2;refine⟨?_,_,rfl⟩;rw[jK bL];rfl
theorem tB(w:World):Calls prog 196 #[] w λe w'=>e=.returned (.int .i64 1)/\w'=w:=by
 have N:IntKind.u8.signed=false:=rfl;have hb:bits .xor .u8 IntKind.u8.max 0=255:=by decide +kernel
 go_enter func196,ntmps196;go_wp2;go_ret;refine⟨?_,rfl⟩;kernel_rfl
theorem BV(base g k p:Nat)(xs:List Nat)(n:Nat)(w:World)(c:w.ownsRow base 5 1 (.slice (some ⟨g,0,none⟩) k p) k<|bs xs)(r:k+1<=p)(hn:n<256):
  Calls prog 156 #[.slice (some ⟨g,0,none⟩) k p,.int .u8 n] w λe w'=>e=.returned (.slice (some ⟨g,0,none⟩) (k+1) p)/\w'.ownsRow base 5 1 (.slice (some ⟨g,0,none⟩) (k+1) p) (k+1) (bs<|xs++be 1 n)/\w.grownBy w' (some g):=by
 have⟨f,b,q,d,s⟩:=info_parts pV;have z:=af hn;skip;go_enter func156,ntmps156;go_wp2_with (go_at_call 196;apply(tB _).mono;rintro e w' ⟨rfl,hw⟩;have m:=hw.symm;subst m;clear hw);go_loopw [0,5] (λv i wr=>∃j:Nat,j<=1/\i=.int .i64 ((1:Int)-1-j)/\v=.slice (some (gz g)) (k+j) p/\wr.ownsRow base 5 1 (.slice (some (gz g)) (k+j) p) (k+j) (bs<|xs++(List.range j).map (digit 1 n))/\w.grownBy wr (some g)) (λ_ i _=>(intOf i+1).toNat);case atStart=>exact⟨0,zzs _,eR,rfl,by simpa using c,dI _ _⟩
 case round=>
  obtain⟨j,o,rfl,rfl,Q,a⟩:=hrel;by_cases U:j<1
  .have HD:Hid ((n:Int)=((digit 1 n 0:Nat):Int)):=by show _=_;unfold digit;simp;omega
   obtain rfl:j=0:=bL;rw[Nat.add_zero]at Q;go_wp2_with (at_builtin;apply wpList_append_fits _ rfl _ _ 88 rfl base 5 f 1 underlying88 b d g k p _ rfl (Q.alloc _) (gz wr.heap.size) 1 1 [.int .u8 (n:Int)] rfl rfl ?c1 ?c2 ?c3);case c1=>
    intro l u S;match l,S with
    |0,S=>simp at S;subst S;simp[Addr.add]
   case c2=>intro u h;simp at h;subst h;rfl
   case c3=>omega
   .intro w1 bw bP;have V:=aR a<|aR (cV _ _ _) bP
    have A:w1.ownsRow base 5 1 (.slice (some (gz g)) (k+(0+1)) p) (k+(0+1)) (bs<|xs++(List.range<|0+1).map (digit 1 n)):=by
     have e:=HD.out;rw[qT,<-e];simpa using bw
    clear bw bP Q a;go_wp2;go_roundw;case rel=>exact⟨0+1,bL,int_eq bL,rfl,A,V⟩
    case measure=>simp[intOf]<;>omega
  .have ek:j=1:=bL;subst ek;go_wp2;go_ret;exact⟨rfl,Q,a⟩
theorem V5(C A:Nat)(b:C<72057594037927936)(a:A<256):bits .or .u64 ((C:Int)*256) (A:Int)=((C*256+A:Nat):Int):=by
 have h:=u64_or_nat (C*256) A bL bL;rw[show((C:Int)*256)=((C*256:Nat):Int) by omega,h];congr 1;rw[show C*256=C<<<8 from(Nat.shiftLeft_eq C 8).symm,<-Nat.shiftLeft_add_eq_or_of_lt (show A<2^8 from a)]
theorem xd(b o n p:Nat)(l:List Nat)(w:World)(g:kE l)(hn:l.length=n)(j:1<=n)(t:n<=p)(s:p<=maxLen)(f:cW w b o l):
  Calls prog 245 #[.slice (some ⟨b,o,none⟩) n p] w λe w'=>e=.returned (.tuple #[.int .u8 (val (l.take 1):Nat),.slice (sw b o 1 p) (n-1)<|p-1])/\∃q,w'=w.drewN q:=by
 have N:=af hn;clear hn;unfold maxLen at s;have y:(1:Int)<=p:=bL;have z:(1:Int)<=n:=bL;go_enter func245,ntmps245;go_wp2_with (go_at_call 196;apply(tB _).mono;rintro e w' ⟨rfl,j⟩;have r:=j.symm;subst r;clear j);go_loop [5,13] (λc i=>∃k:Nat,k<=1/\i=.int .i64 k/\c=.int .u64 (val (l.take k):Nat)) (λ_ i=>1-(intOf i).toNat);case atStart=>exact⟨0,zzs _,rfl,rfl⟩
 case round=>
  obtain⟨k,v,rfl,rfl⟩:=hrel;by_cases U:k<1
  .have Ru:=f k (by rw[N.out];omega);have V:=af f;clear f;have m:=pU g k;have B:val (l.take k)<72057594037927936:=by
    have h:=pT (l.take k)<|g.o8 k;have a:(l.take k).length<=7:=by rw[zzm,N.out];omega
    have u:256^(l.take k).length<=256^7:=Nat.pow_le_pow_right (by omega) a;omega
   have⟨C,d⟩:=gb <|val (l.take k);rw[<-d]at B ⊢;have H:Hid (val (l.take<|k+1)=C*256+at_ l k):=by
    show _=_;rw[qK l k<|by rw[N.out];omega,nL,d]
   clear d;have x:=V5 C (at_ l k) B m;go_wp2;go_round;case rel=>exact⟨k+1,bL,eR,by rw[H.out];exact int_eq bL⟩
   case measure=>simp[intOf];omega
  .have ek:k=1:=bL;subst ek;have B:val (l.take 1)<256:=by
    have h:=pT (l.take 1)<|g.o8 1;have a:(l.take 1).length=1:=by rw[zzm,N.out];omega
    rw[a]at h;exact h
   by_cases R:p=1
   .subst R;obtain rfl:n=1:=bL;skip;go_wp2;go_quiet (fail)
    go_wp2;go_ret2;refine⟨?_,_,rfl⟩;rw[pX];rfl
   .skip;go_wp2;go_quiet (fail)
    go_wp2;go_ret2;refine⟨?_,_,rfl⟩;rw[jK bL];rfl
theorem AL(w:World):Calls prog 239 #[] w λe w'=>e=.returned (.int .i64 4)/\w'=w:=by
 have N:IntKind.u32.signed=false:=rfl;have hb:bits .xor .u32 IntKind.u32.max 0=4294967295:=by decide +kernel
 go_enter func239,ntmps239;go_wp2;go_ret;refine⟨?_,rfl⟩;kernel_rfl
theorem R2(base g k p:Nat)(xs:List Nat)(n:Nat)(w:World)(c:w.ownsRow base 5 1 (.slice (some ⟨g,0,none⟩) k p) k<|bs xs)(r:k+4<=p)(hn:n<4294967296):
  Calls prog 197 #[.slice (some ⟨g,0,none⟩) k p,.int .u32 n] w λe w'=>e=.returned (.slice (some ⟨g,0,none⟩) (k+4) p)/\w'.ownsRow base 5 1 (.slice (some ⟨g,0,none⟩) (k+4) p) (k+4) (bs<|xs++be 4 n)/\w.grownBy w' (some g):=by
 have⟨f,b,q,d,s⟩:=info_parts pV;have z:=af hn;skip;go_enter func197,ntmps197;go_wp2_with (go_at_call 239;apply(AL _).mono;rintro e w' ⟨rfl,hw⟩;have m:=hw.symm;subst m;clear hw);go_loopw [0,5] (λv i wr=>∃j:Nat,j<=4/\i=.int .i64 ((4:Int)-1-j)/\v=.slice (some (gz g)) (k+j) p/\wr.ownsRow base 5 1 (.slice (some (gz g)) (k+j) p) (k+j) (bs<|xs++(List.range j).map (digit 4 n))/\w.grownBy wr (some g)) (λ_ i _=>(intOf i+1).toNat);case atStart=>exact⟨0,zzs _,eR,rfl,by simpa using c,dI _ _⟩
 case round=>
  obtain⟨j,o,rfl,rfl,Q,a⟩:=hrel;by_cases U:j<4
  .have HD:=af<|qR n 4 j
   skip;skip;go_wp2_with (at_builtin;apply wpList_append_fits _ rfl _ _ 88 rfl base 5 f 1 underlying88 b d g (k+j) p _ rfl (Q.alloc _) (gz wr.heap.size) 1 1 [.int .u8<|(n:Int)/2^(8*(3-j))%256] rfl rfl ?c1 ?c2 ?c3);case c1=>
    intro l u S;match l,S with
    |0,S=>simp at S;subst S;simp[Addr.add]
   case c2=>intro u h;simp at h;subst h;rfl
   case c3=>omega
   .intro w1 bw bP;have V:=aR a<|aR (cV _ _ _) bP
    have A:w1.ownsRow base 5 1 (.slice (some (gz g)) (k+(j+1)) p) (k+(j+1)) (bs<|xs++(List.range<|j+1).map (digit 4 n)):=by
     rw[HD.out]at bw;rw[qT,<-Nat.add_assoc];exact bw
    clear bw bP Q a;go_wp2;go_roundw;case rel=>exact⟨j+1,bL,int_eq bL,rfl,A,V⟩
    case measure=>simp[intOf]<;>omega
  .have ek:j=4:=bL;subst ek;go_wp2;go_ret;exact⟨rfl,Q,a⟩
theorem R3(C A:Nat)(b:C<72057594037927936)(a:A<256):bits .or .u64 ((C:Int)*256) (A:Int)=((C*256+A:Nat):Int):=by
 have h:=u64_or_nat (C*256) A bL bL;rw[show((C:Int)*256)=((C*256:Nat):Int) by omega,h];congr 1;rw[show C*256=C<<<8 from(Nat.shiftLeft_eq C 8).symm,<-Nat.shiftLeft_add_eq_or_of_lt (show A<2^8 from a)]
theorem NB(b o n p:Nat)(l:List Nat)(w:World)(g:kE l)(hn:l.length=n)(j:4<=n)(t:n<=p)(s:p<=maxLen)(f:cW w b o l):
  Calls prog 244 #[.slice (some ⟨b,o,none⟩) n p] w λe w'=>e=.returned (.tuple #[.int .u32 (val (l.take 4):Nat),.slice (sw b o 4 p) (n-4)<|p-4])/\∃q,w'=w.drewN q:=by
 have N:=af hn;clear hn;unfold maxLen at s;have y:(4:Int)<=p:=bL;have z:(4:Int)<=n:=bL;go_enter func244,ntmps244;go_wp2_with (go_at_call 239;apply(AL _).mono;rintro e w' ⟨rfl,j⟩;have r:=j.symm;subst r;clear j);go_loop [5,13] (λc i=>∃k:Nat,k<=4/\i=.int .i64 k/\c=.int .u64 (val (l.take k):Nat)) (λ_ i=>4-(intOf i).toNat);case atStart=>exact⟨0,zzs _,rfl,rfl⟩
 case round=>
  obtain⟨k,v,rfl,rfl⟩:=hrel;by_cases U:k<4
  .have Ru:=f k (by rw[N.out];omega);have V:=af f;clear f;have m:=pU g k;have B:val (l.take k)<72057594037927936:=by
    have h:=pT (l.take k)<|g.o8 k;have a:(l.take k).length<=7:=by rw[zzm,N.out];omega
    have u:256^(l.take k).length<=256^7:=Nat.pow_le_pow_right (by omega) a;omega
   have⟨C,d⟩:=gb <|val (l.take k);rw[<-d]at B ⊢;have H:Hid (val (l.take<|k+1)=C*256+at_ l k):=by
    show _=_;rw[qK l k<|by rw[N.out];omega,nL,d]
   clear d;have x:=R3 C (at_ l k) B m;go_wp2;go_round;case rel=>exact⟨k+1,bL,eR,by rw[H.out];exact int_eq bL⟩
   case measure=>simp[intOf];omega
  .have ek:k=4:=bL;subst ek;have B:val (l.take 4)<4294967296:=by
    have h:=pT (l.take 4)<|g.o8 4;have a:(l.take 4).length=4:=by rw[zzm,N.out];omega
    rw[a]at h;exact h
   by_cases R:p=4
   .subst R;obtain rfl:n=4:=bL;skip;go_wp2;go_quiet (fail)
    go_wp2;go_ret2;refine⟨?_,_,rfl⟩;rw[pX];rfl
   .skip;go_wp2;go_quiet (fail)
    go_wp2;go_ret2;refine⟨?_,_,rfl⟩;rw[jK bL];rfl
structure gy(w:World)(b:Nat)(done:Bool):Prop where
 c0:w.cell? ⟨b,0,none⟩=some (.int .u32 (if done then 1 else 0))
 c1:w.cell? ⟨b,1,none⟩=some (.int .i32 0)
 tab:done=true->∀i,i<256->w.cell? ⟨b,3+i,none⟩=some (.int .u32 (dt 8 i:Nat))
 any:∀i,i<256->∃v,w.cell? ⟨b,3+i,none⟩=some v
 free:∀i,w.frozen? ⟨b,i,none⟩=false
theorem Gq(c:Int)(C:Nat)(w:World)(a:c=C)(h:C<4294967296):
  Calls prog 242 #[.int .u32 c] w λe w'=>e=.returned (.int .u32 (dt 8 C:Nat))/\w'=w:=by subst a;exact Gp C w h
theorem NC(b:Nat)(l:Addr)(u:¬l.block=b)(w:World)(p:w.cell? l=some (.pointer<|some ⟨b,0,none⟩))
  (H:∀i,i<256->∃v,w.cell? ⟨b,3+i,none⟩=some v) (f:∀i,w.frozen? ⟨b,i,none⟩=false) :
  Calls prog 241 #[.pointer<|some l] w λe w'=>e=.returned (.tuple #[])/\w.grownBy w' (some b) /\
   (∀i,i<3->w'.cell? ⟨b,i,none⟩=w.cell? ⟨b,i,none⟩)/\(∀i,w'.frozen? ⟨b,i,none⟩=false)/\(∀i,i<256->w'.cell? ⟨b,3+i,none⟩=some (.int .u32 (dt 8 i:Nat))):=by
 go_enter func241,ntmps241;go_wp2;go_loopw [2] (λi wr=>∃k:Nat,k<=256/\i=.int .i64 k/\w.grownBy wr (some b)/\(∀i,i<3->wr.cell? (hO b i)=w.cell? (hO b i))/\(∀i,wr.frozen? (hO b i)=false)/\(∀i,i<k->wr.cell? (hO b (3+i))=some (.int .u32 (dt 8 i:Nat)))/\(∀i,i<256->∃v,wr.cell? (hO b (3+i))=some v))
  (λi _=>256-(intOf i).toNat)
 case atStart=>exact⟨0,zzs _,rfl,dI _ _,λ_ _=>rfl,f,λi a=>absurd a<|Nat.not_lt_zero i,H⟩
 case round=>
  obtain⟨k,n,rfl,g,c,gF,d,W⟩:=hrel;have r:=(lW g u<|zzF w l p).trans p;by_cases U:k<256
  .obtain⟨old,hold⟩:=W k U;have m:=gF<|3+k;have Z:¬b=l.block:=λh=>u h.symm
   have o:(0:Int)<=k:=bL;have q:(k:Int)<256:=bL;have G:=af g;have j:=af c;have F:=af gF;have T:=af d;have A:=af W;clear g c gF d W H f p;go_wp2;go_region_held3 (λw'=>w'.cell? l=some (.pointer<|some (gz b)))
    (go_keep)
    (first|(go_at_call 242;refine(Gq _ k _ ?_ bL).mono ?_;(rw[IntKind.wrap_u32'];omega);rintro e w' ⟨rfl,rfl⟩))
   go_wp2;go_roundw;case rel=>
    refine⟨k+1,bL,eR,cm<|aR G.out<|qL _ _ _ _,λi a=>?_,λi=>?_,λi a=>?_,λi a=>?_⟩
    .rw[World.cell?_drew,World.cell?_setCell_other _ _ _ _<|by simp<;>omega];exact j.out i a
    .rw[World.frozen?_drew,World.frozen?_setCell];exact F.out i
    .rw[World.cell?_drew];by_cases e:i=k
     .subst e;exact World.cell?_setCell_same _ _ _ hold
     .rw[World.cell?_setCell_other _ _ _ _<|by simp<;>omega];exact T.out i bL
    .rw[World.cell?_drew];by_cases e:i=k
     .subst e;exact⟨_,World.cell?_setCell_same _ _ _ hold⟩
     .rw[World.cell?_setCell_other _ _ _ _<|by simp<;>omega];exact A.out i a
   case measure=>simp[intOf];omega
  .have ek:k=256:=bL;subst ek;go_wp2;go_end0;exact⟨rfl,g,c,gF,d⟩
theorem Gr(w:World)(b:Nat)(k:w.cell? ⟨b,0,none⟩=some (.int .u32 0))(c:w.cell? ⟨b,1,none⟩=some (.int .i32 1))(hf:∀i,w.frozen? ⟨b,i,none⟩=false)
  (a:∀i,i<256->w.cell? ⟨b,3+i,none⟩=some (.int .u32 (dt 8 i:Nat))):gy ((w.drew.setCell ⟨b,0,none⟩<|.int .u32 1).setCell ⟨b,1,none⟩<|.int .i32 0) b true:=by
 have t:∀i,i<256->((w.drew.setCell (gz b)<|.int .u32 1).setCell (hO b 1)<|.int .i32 0).cell? (hO b (3+i))=some (.int .u32 (dt 8 i:Nat)):=λi h=>by
  rw[World.cell?_setCell_other _ _ _ _<|by simp<;>omega,World.cell?_setCell_other _ _ _ _<|by simp<;>omega,World.cell?_drew];exact a i h
 refine⟨?_,?_,λ_=>t,λi h=>⟨_,t i h⟩,λi=>?_⟩
 .rw[World.cell?_setCell_other _ _ _ _ bR];exact World.cell?_setCell_same _ _ _<|(World.cell?_drew _ _).trans k
 .refine World.cell?_setCell_same (u:=.int .i32 1) _ _ _ ?_;rw[World.cell?_setCell_other _ _ _ _ bR,World.cell?_drew];exact c
 .rw[World.frozen?_setCell,World.frozen?_setCell,World.frozen?_drew];exact hf i
theorem ND(b:Nat)(l:Addr)(u:¬l.block=b)(w:World)(r:w.cell? l=some (.pointer<|some ⟨b,0,none⟩))(m:gy w b false):
  Calls prog 275 #[.pointer<|some ⟨b,0,none⟩,.func (.func 241) #[] #[.pointer<|some l]] w λe w'=>e=.returned (.tuple #[])/\gy w' b true/\w.grownBy w' (some b):=by
 have d:=m.c0;have p:=m.c1;have z:=m.free 0;have A:=m.free 1;have M:=af m;clear m;have B:=run_call_load (P:=prog) func309 dJ dJ dJ .u32 dJ (w:=w.setCell ⟨b,1,none⟩<|.int .i32 1) (a:=⟨b,0,none⟩) (x:=0) ((World.cell?_setCell_other _ ⟨b,1,none⟩ ⟨b,0,none⟩ _ bR).trans d);have o:Hid ((w.setCell ⟨b,1,none⟩<|.int .i32 1).cell? l=some (.pointer<|some ⟨b,0,none⟩)):=(World.cell?_setCell_other _ ⟨b,1,none⟩ l _ λh=>u<|by rw[<-h]).trans r;have y:∀(x:Bool) (w:World),(Op.unary .not<|.bool x).run prog w=.ok (.bool<|!x) w:=λ_ _=>rfl
 go_enter_defers func275,ntmps275;go_wp2_with (first|(go_at_call 310;apply(KL ⟨b,1,none⟩ _ (by go_simp)<|by go_simp).mono;rintro e w' ⟨rfl,rfl⟩)|(go_at_call 274;go_in))
 refine(NC b l u _ o.out (λi q=>?_) λi=>?_).mono ?_
 .obtain⟨v,hv⟩:=M.out.any i q;exact⟨v,(World.cell?_setCell_other _ ⟨b,1,none⟩ ⟨b,3+i,none⟩ _<|by simp<;>omega).trans hv⟩
 .rw[World.frozen?_setCell];exact M.out.free i
 rintro e c ⟨rfl,g_,ei,gF,htab⟩;have k:=(ei 0 bL).trans ((World.cell?_setCell_other _ ⟨b,1,none⟩ ⟨b,0,none⟩ _ bR).trans d);have g:=(ei 1 bL).trans<|World.cell?_setCell_same _ _ _ p;have j:=gF 0;have n:=gF 1;have G:=af g_;have F:=af gF;have T:=af htab;clear g_ ei gF htab;go_wp2;apply leaves_cons (f:=312) (args:=#[.pointer<|some ⟨b,0,none⟩,.bool true]) bR (by simp[go_sem]);apply(xH ⟨b,0,none⟩ (.int .u32 0) .returning _ k j).mono;rintro e s t ⟨rfl,rfl,rfl⟩;apply leaves_cons (f:=311) (args:=#[.pointer<|some ⟨b,1,none⟩]) (by simp[settle]) (by simp[go_sem]);refine(wD ⟨b,1,none⟩ _ _ ?_<|by simp[n]).mono ?_
 .refine(World.cell?_setCell_other _ ⟨b,0,none⟩ ⟨b,1,none⟩ _ bR).trans ?_;rw[World.cell?_drew];exact g
 rintro e s t ⟨rfl,rfl,rfl⟩;simp only[Leaves,settle];refine⟨.tuple #[],by simp[results,results275],rfl,?_,?_⟩
 .exact Gr c b k g F.out T.out
 .exact aR (qL _ _ _ _)<|aR (aR (cm G.out)<|qL _ _ _ _)<|qL _ _ _ _
theorem NF(b:Nat)(l:Addr)(u:¬l.block=b)(w:World)(p:w.cell? l=some (.pointer<|some ⟨b,0,none⟩))(m:gy w b false):
  Calls prog 240 #[.pointer<|some ⟨b,0,none⟩,.func (.func 241) #[] #[.pointer<|some l]] w λe w'=>e=.returned (.tuple #[])/\gy w' b true/\w.grownBy w' (some b):=by
 have h:=m.c0;have a:=run_call_load func309 dJ dJ dJ .u32 dJ h;have s:∀(x:Bool) (w:World),(Op.unary .not<|.bool x).run prog w=.ok (.bool<|!x) w:=λ_ _=>rfl
 go_enter func240,ntmps240;go_wp2_with (first|(go_at_call 275;apply(ND b l u _ p m).mono;rintro e w' ⟨rfl,tC,g_⟩)|(go_at_call 274;go_in));go_end0;exact⟨rfl,eC,eC⟩
theorem R4(b:Nat)(v:Value)(w:World)(m:gy w b true):
  Calls prog 240 #[.pointer<|some ⟨b,0,none⟩,v] w λe w'=>e=.returned (.tuple #[])/\w'=w:=by
 have h:=m.c0;have l:=run_call_load func309 dJ dJ dJ .u32 dJ h;have s:∀(x:Bool) (w:World),(Op.unary .not<|.bool x).run prog w=.ok (.bool<|!x) w:=λ_ _=>rfl
 go_enter func240,ntmps240;go_wp2;go_end0;exact⟨rfl,rfl⟩
end
section
open Go.Extern Go.Extern.Stop Go.Stop
/-! closed facts on the model's entries for internal/reflectlite at *api.Errno and api.Errno -/
theorem NL(t:Addr)(w:World):(ReflectliteValue.unpack<|.iface 130<|.pointer<|some t).run prog w
  = .ok (.agg #[.pointer<|some ⟨6,130,none⟩,.pointer<|some ⟨w.heap.size,0,none⟩,.int .u64 150]) (w.alloc<|.cells #[.pointer<|some t] 130):=dJ
theorem ZR(a:Addr)(w:World):(ReflectliteValue.methodAny (ReflectliteValue.valueError "reflectlite.Value.Type" 0) (λt _ _ _=>ReflectliteType.toType t) #[.agg #[.pointer (some ⟨6,130,none⟩),.pointer (some a),.int .u64 150]]).run prog w
  = .ok (.iface 248<|.agg #[.pointer<|some ⟨6,130,none⟩]) w:=dJ
theorem Gy(h:Value)(w:World):(Go.method 593 248 (.agg #[h]) "Kind").run prog w=.ok (376,h) w:=dJ
theorem ZS(w:World):((ReflectliteType.abiMethod λt=>(λa:Nat=>Value.int IntKind.u8 (a:Int)) <$> Rtype.kind t) #[.pointer<|some ⟨6,130,none⟩]).run prog w=.ok (.int .u8 22) w:=dJ
theorem ZT(w:World):((ReflectliteType.abiMethod λt=>(λa:Nat=>Value.int IntKind.u8 (a:Int)) <$> Rtype.kind t) #[.pointer<|some ⟨6,44,none⟩]).run prog w=.ok (.int .u8 2) w:=dJ
theorem NM(a:Addr)(w:World):(ReflectliteValue.parts<|.agg #[.pointer<|some ⟨6,130,none⟩,.pointer<|some a,.int .u64 150]).run prog w=.ok (some (130,a,150)) w:=dJ
theorem V9(a p:Addr)(W:World)(h:W.cell? a=some (.pointer<|some p)):
  (ReflectliteValue.method (ReflectliteValue.valueError "reflectlite.Value.IsNil" 0) ReflectliteValue.isNil #[.agg #[.pointer (some ⟨6,130,none⟩),.pointer (some a),.int .u64 150]]).run prog W=.ok (.bool false) W:=by
 change Sem.run prog (bind (ReflectliteValue.parts<|.agg #[.pointer<|some (hO 6 130),.pointer<|some a,.int .u64 150]) _) W=_;simp only[Sem.run_bind,NM,Result.andThen];simp[ReflectliteValue.isNil,loadVar,isAgg,underlying,underlying130,h,Result.andThen]
theorem Gz(h:Value)(w:World):(Go.method 593 248 (.agg #[h]) "Elem").run prog w=.ok (397,.agg #[h]) w:=dJ
theorem uN(h:Value)(w:World):(Go.method 593 248 (.agg #[h]) "Implements").run prog w=.ok (398,.agg #[h]) w:=dJ
theorem sy(h:Value)(w:World):(Go.method 593 248 (.agg #[h]) "AssignableTo").run prog w=.ok (395,.agg #[h]) w:=dJ
theorem uO(h:Value)(w:World):(Go.method 593 248 (.agg #[h]) "Comparable").run prog w=.ok (396,.agg #[h]) w:=dJ
theorem ZU(w:World):(ReflectliteType.method ReflectliteType.elem #[.agg #[.pointer<|some ⟨6,130,none⟩]]).run prog w=.ok (.iface 248<|.agg #[.pointer<|some ⟨6,44,none⟩]) w:=dJ
theorem DT(w:World):(ReflectliteType.relation "Implements" ReflectliteType.implements_ #[.agg #[.pointer (some ⟨6,44,none⟩)],.iface 248 (.agg #[.pointer (some ⟨6,82,none⟩)])]).run prog w=.ok (.bool true) w:=dJ
theorem Jq(v:Value)(w:World):(ReflectliteType.typeOf #[.iface 44 v]).run prog w=.ok (.iface 248<|.agg #[.pointer<|some ⟨6,44,none⟩]) w:=dJ
theorem DU(w:World):(ReflectliteType.relation "AssignableTo" ReflectliteType.assignableTo #[.agg #[.pointer (some ⟨6,44,none⟩)],.iface 248 (.agg #[.pointer (some ⟨6,44,none⟩)])]).run prog w=.ok (.bool true) w:=dJ
theorem NN(n:Int)(w:World):(ReflectliteValue.unpack<|.iface 44<|.int .i64 n).run prog w
  = .ok (.agg #[.pointer<|some ⟨6,44,none⟩,.pointer<|some ⟨w.heap.size,0,none⟩,.int .u64 130]) (w.alloc<|.cells #[.int .i64 n] 44):=dJ
theorem R8(w:World):(Rtype.elem? 130).run prog w=.ok (some 44) w:=dJ
theorem mkE(p:Addr)(w:World):(ReflectliteValue.mk 44 p ReflectliteValue.flagAddr).run prog w=.ok (.agg #[.pointer<|some ⟨6,44,none⟩,.pointer<|some p,.int .u64 386]) w:=dJ
theorem V_(a p:Addr)(W:World)(h:W.cell? a=some (.pointer<|some p)):
  (ReflectliteValue.method (ReflectliteValue.valueError "reflectlite.Value.Elem" 0) ReflectliteValue.elem #[.agg #[.pointer (some ⟨6,130,none⟩),.pointer (some a),.int .u64 150]]).run prog W
   = .ok (.agg #[.pointer<|some ⟨6,44,none⟩,.pointer<|some p,.int .u64 386]) W:=by
 change Sem.run prog (bind (ReflectliteValue.parts<|.agg #[.pointer<|some (hO 6 130),.pointer<|some a,.int .u64 150]) _) W=_;simp only[Sem.run_bind,NM,Result.andThen];simp[ReflectliteValue.elem,loadVar,isAgg,underlying,underlying130,h,Result.andThen,R8,mkE]
theorem R9(a:Addr)(w:World):(ReflectliteValue.parts<|.agg #[.pointer<|some ⟨6,44,none⟩,.pointer<|some a,.int .u64 386]).run prog w=.ok (some (44,a,386)) w:=dJ
theorem V'(a:Addr)(w:World):(ReflectliteValue.parts<|.agg #[.pointer<|some ⟨6,44,none⟩,.pointer<|some a,.int .u64 130]).run prog w=.ok (some (44,a,130)) w:=dJ
theorem R_(w:World):(Rtype.directlyAssignable 44 44).run prog w=.ok true w:=dJ
theorem acv(a b:Addr)(n:Int)(d:Value)(W:World)(hb:W.cell? b=some (.int .i64 n))(t:W.cell? a=some d)(hf:W.frozen? a=false):
  (ReflectliteValue.set #[.agg #[.pointer<|some ⟨6,44,none⟩,.pointer<|some a,.int .u64 386],.agg #[.pointer<|some ⟨6,44,none⟩,.pointer<|some b,.int .u64 130]]).run prog W
   = .ok (.tuple #[]) (W.setCell a<|.int .i64 n):=by
 change Sem.run prog (bind (ReflectliteValue.parts<|.agg #[.pointer<|some (hO 6 44),.pointer<|some a,.int .u64 386]) λ_=>bind (ReflectliteValue.parts<|.agg #[.pointer<|some (hO 6 44),.pointer<|some b,.int .u64 130]) _) W=_;simp only[Sem.run_bind,R9,V',Result.andThen];simp[ReflectliteValue.flagAddr,loadVar,isAgg,underlying,underlying44,hb,Result.andThen,R_,storeVar,Value.cells,storeCells,Addr.add];rw[run_store prog W a _ _<|by rfl];simp[t,hf]
theorem DV(w:World):(callFunc 396 #[.agg #[.pointer<|some ⟨6,44,none⟩]]).run prog w=.ok (.value<|.bool true) w:=dJ
end
section
open Sc
variable{d:Bool}{l:List Nat}{b:Nat}{w:World}
theorem xe(l:List Nat)(n i:Nat)(h:i<n):at_ (l.take n) i=at_ l i:=by simp[at_,h]
theorem B5(l:List Nat)(n i:Nat):at_ (l.drop n) i=at_ l (n+i):=by simp[at_,List.getElem?_drop]
theorem kE.take(h:kE l)(n:Nat):kE (l.take n):=λx a=>h x (List.mem_of_mem_take a)
theorem kE.drop(h:kE l)(n:Nat):kE (l.drop n):=λx a=>h x (List.mem_of_mem_drop a)
def oA(l:List Nat):Nat:=val ((l.drop 3).take 8)
def js(l:List Nat):Bool:=eX (at_ l 0) (at_ l 1) (at_ l 2) (oA l)&&(zP (l.take 11)==val (l.drop 11))
def xI(l:List Nat):Value:=if js l=true then R6 (at_ l 0) (at_ l 1) (at_ l 2) (oA l) else R6 0 0 0 0
theorem AP(h:js l=true):xI l=.agg #[.int .i64 (at_ l 0:Nat),.int .i64 (at_ l 1:Nat),.int .i64 (at_ l 2:Nat),.int .u64 (oA l:Nat)]:=by unfold xI;rw[if_pos h]
theorem xJ(h:js l=false):xI l=.agg #[.int .i64 0,.int .i64 0,.int .i64 0,.int .u64 0]:=by unfold xI;rw[if_neg (by rw[h];decide)]
theorem gy.alloc(h:gy w b d)(o:Obj):gy (w.alloc o) b d:=by
 have hb:=zzF w (gz b) h.c0;have e:∀i,(w.alloc o).cell? (hO b i)=w.cell? (hO b i):=λi=>World.cell?_alloc_lt _ _ (hO b i) hb
 refine⟨by rw[e];exact h.c0,by rw[e];exact h.c1,λc i a=>by rw[e];exact h.tab c i a,λi a=>?_,λi=>?_⟩
 .rw[e];exact h.any i a
 .rw[World.frozen?_alloc_old _ _ (hO b i)<|Nat.ne_of_lt hb];exact h.free i
theorem gy.lt(h:gy w b d):b<w.heap.size:=zzF w (gz b) h.c0
theorem gy.cI{w':World}(h:gy w b d)(hb:w'.heap[b]?=w.heap[b]?):gy w' b d:=by
 have e:∀i,w'.cell? (hO b i)=w.cell? (hO b i):=λi=>zze hb
 refine⟨by rw[e];exact h.c0,by rw[e];exact h.c1,λf i c=>by rw[e];exact h.tab f i c,λi c=>?_,λi=>?_⟩
 .rw[e];exact h.any i c
 .rw[zzw hb];exact h.free i
theorem R5(b g f n p:Nat)(l:List Nat)(w:World)(m:gy w b true)(hn:l.length=n)(q:kE l)(hs:n<=1099511627776)(I:cW w g f l):
  Calls prog 198 #[.pointer<|some ⟨b,0,none⟩,.slice (some ⟨g,f,none⟩) n p] w λe w'=>e=.returned (.int .u32 (zP l:Nat))/\gy w' b true/\w.grownBy w' (some b):=by
 have N:=af hn;have z:∀(j:Fn) (first p:Array Value) (w:World),(Instr.makeFunc j first p).run prog w=.ok (.func j first p) w:=λ_ _ _ _=>rfl
 have v:=m.lt;have d:gy (w.alloc<|.cells #[.pointer<|some ⟨b,0,none⟩] 324) b true:=m.alloc _;have D:cW (w.alloc<|.cells #[.pointer<|some ⟨b,0,none⟩] 324) g f l:=by
  by_cases r:0<l.length
  .exact(jr<|I.lt r).2 I
  .intro i hi;omega
 clear hn I m;go_enter func198,ntmps198;go_wp2_with (go_at_call 240;apply(R4 b _ _ d).mono;rintro e w' ⟨rfl,rfl⟩);have M:=af d;have R:=af D;clear d D;go_loop [5,15] (λc i=>∃k:Nat,k<=n/\i=.int .i64 k/\c=.int .u32 (ko 4294967295 (l.take k):Nat)) (λ_ i=>n-(intOf i).toNat);case atStart=>exact⟨0,zzs _,rfl,rfl⟩
 case round=>
  obtain⟨k,y,rfl,rfl⟩:=hrel;have B:ko 4294967295 (l.take k)<4294967296:=w_ _ _ (by decide)<|q.o8 k;by_cases U:k<n
  .have Ru:=R.out k (by rw[N.out];exact U);have o:=pU q k;have⟨C,h⟩:=gb <|ko 4294967295 (l.take k);rw[<-h]at B ⊢;have H:Hid (ko 4294967295 (l.take<|k+1)=DK C (at_ l k)):=by
    show _=_;rw[qK l k<|by rw[N.out];exact U,AA,h,DL]
   clear h;have x:bits .xor .u8 ((C:Int)%256) (at_ l k:Int)=((C%256^^^at_ l k:Nat):Int):=by
    rw[show((C:Int)%256)=((C%256:Nat):Int) by omega];exact u8_xor_nat _ _ bL o
   have t:C%256^^^at_ l k<256:=BU _ _ bL o;obtain⟨T,a⟩:∃T,T=C%256^^^at_ l k:=⟨_,rfl⟩;rw[<-a]at x t;have S:Hid (DK C (at_ l k)=dt 8 T^^^C/256):=by show _=_;rw[a];rfl
   clear a;have A:=M.out.tab rfl T t;have s:=gZ 8 T bL;have L:bits .xor .u32 ((dt 8 T:Nat):Int) ((C:Int)/256)=((dt 8 T^^^C/256:Nat):Int):=by
    rw[show((C:Int)/256)=((C/256:Nat):Int) by omega];exact u32_xor_nat _ _ s bL
   have Z:(0:Int)<=T:=bL;have F:(T:Int)<256:=bL;go_wp2;go_round;case rel=>exact⟨k+1,bL,eR,by rw[H.out,S.out]⟩
   case measure=>simp[intOf];omega
  .have ek:k=n:=bL;subst ek;have u:bits .xor .u32 IntKind.u32.max (ko 4294967295 (l.take k):Int)=((4294967295^^^ko 4294967295 (l.take k):Nat):Int):=ZL _ B;have E:IntKind.u32.signed=false:=rfl;go_wp2;go_ret;refine⟨Jm ?_,M.out,cV _ _ _⟩;rw[zzt<|by rw[N.out];omega];rfl
theorem NG(b g f n p:Nat)(l:List Nat)(w:World)(m:gy w b false)(u:g≠b)(hn:l.length=n)(q:kE l)(hs:n<=1099511627776)(I:cW w g f l):
  Calls prog 198 #[.pointer<|some ⟨b,0,none⟩,.slice (some ⟨g,f,none⟩) n p] w λe w'=>e=.returned (.int .u32 (zP l:Nat))/\gy w' b true/\w.grownBy w' (some b):=by
 have N:=af hn;have J:∀(j:Fn) (first p:Array Value) (w:World),(Instr.makeFunc j first p).run prog w=.ok (.func j first p) w:=λ_ _ _ _=>rfl
 have E:=m.lt;have r:gy (w.alloc<|.cells #[.pointer<|some ⟨b,0,none⟩] 324) b false:=m.alloc _;have D:cW (w.alloc<|.cells #[.pointer<|some ⟨b,0,none⟩] 324) g f l:=by
  by_cases s:0<l.length
  .exact(jr<|I.lt s).2 I
  .intro i hi;omega
 clear hn I m;go_enter func198,ntmps198;go_wp2_with fail;apply(NF b ⟨w.heap.size,0,none⟩ cE _ bR r).mono;rintro e y ⟨rfl,wE,g_⟩;have A:y.cell? ⟨w.heap.size,0,none⟩=some (.pointer<|some ⟨b,0,none⟩):=by
  rw[lW g_ cE bR];simp
 have M:=af wE;have R:=af<|AB D g_ u;have G:=af<|aR (cV _ _ _) g_;clear r D wE g_;go_wp2
 go_loop [5,15] (λc i=>∃k:Nat,k<=n/\i=.int .i64 k/\c=.int .u32 (ko 4294967295 (l.take k):Nat)) (λ_ i=>n-(intOf i).toNat);case atStart=>exact⟨0,zzs _,rfl,rfl⟩
 case round=>
  obtain⟨k,F,rfl,rfl⟩:=hrel;have B:ko 4294967295 (l.take k)<4294967296:=w_ _ _ (by decide)<|q.o8 k;by_cases U:k<n
  .have Ru:=R.out k (by rw[N.out];exact U);have o:=pU q k;have⟨C,h⟩:=gb <|ko 4294967295 (l.take k);rw[<-h]at B ⊢;have H:Hid (ko 4294967295 (l.take<|k+1)=DK C (at_ l k)):=by
    show _=_;rw[qK l k<|by rw[N.out];exact U,AA,h,DL]
   clear h;have x:bits .xor .u8 ((C:Int)%256) (at_ l k:Int)=((C%256^^^at_ l k:Nat):Int):=by
    rw[show((C:Int)%256)=((C%256:Nat):Int) by omega];exact u8_xor_nat _ _ bL o
   have t:C%256^^^at_ l k<256:=BU _ _ bL o;obtain⟨T,d⟩:∃T,T=C%256^^^at_ l k:=⟨_,rfl⟩;rw[<-d]at x t;have S:Hid (DK C (at_ l k)=dt 8 T^^^C/256):=by show _=_;rw[d];rfl
   clear d;have K:=M.out.tab rfl T t;have v:=gZ 8 T bL;have L:bits .xor .u32 ((dt 8 T:Nat):Int) ((C:Int)/256)=((dt 8 T^^^C/256:Nat):Int):=by
    rw[show((C:Int)/256)=((C/256:Nat):Int) by omega];exact u32_xor_nat _ _ v bL
   have Z:(0:Int)<=T:=bL;have P:(T:Int)<256:=bL;go_wp2;go_round;case rel=>exact⟨k+1,bL,eR,by rw[H.out,S.out]⟩
   case measure=>simp[intOf];omega
  .have ek:k=n:=bL;subst ek;have z:bits .xor .u32 IntKind.u32.max (ko 4294967295 (l.take k):Int)=((4294967295^^^ko 4294967295 (l.take k):Nat):Int):=ZL _ B;have O:IntKind.u32.signed=false:=rfl;go_wp2;go_ret;refine⟨Jm ?_,M.out,G.out⟩;rw[zzt<|by rw[N.out];omega];rfl
theorem NH(b g f n p:Nat)(d:Bool)(l:List Nat)(w:World)(m:gy w b d)(a:g≠b)(hn:l.length=n)(h:kE l)(hs:n<=1099511627776)(I:cW w g f l):
  Calls prog 198 #[.pointer<|some ⟨b,0,none⟩,.slice (some ⟨g,f,none⟩) n p] w λe w'=>e=.returned (.int .u32 (zP l:Nat))/\gy w' b true/\w.grownBy w' (some b):=by
 cases d with
 |true=>exact R5 b g f n p l w m hn h hs I
 |false=>exact NG b g f n p l w m a hn h hs I
end
end Go.Proofs.YtcalalndmcemiaaGreatDoor
