import Derived.Test.YtdcafjmdfpjcbaaGreatDoorC04
import Derived.Shelf.Small.Bits
import Derived.Shelf.Small.Wraps
import Derived.Shelf.Strconv.Itoa3
import Derived.Shelf.Strconv.Clone
import Derived.Shelf.Pu.ParseUintPublic10
import Derived.Shelf.Sort.Plain
import Derived.Shelf.Slices.In.SortNone2
import Derived.Shelf.SlicesE.Clone
set_option maxHeartbeats 2000000
set_option maxRecDepth 100000
namespace Go.Proofs.YtdcafjmdfpjcbaaGreatDoor
open Go.RowKit Go.Maps Tryz Sc
variable{d:ah}
theorem ot(h:d.writes.2≠0):d.sync=d.writes:=by grind[ah.sync]
theorem yY(h:d.writes.2=0):d.sync=({d.writes.1 with ai:=d.writes.1.pending.foldl cV d.writes.1.ai,pending:=[]},0):=by grind[ah.sync]
theorem zA{w:World}{B g p n:Nat}{l:List iD}(h:w.ownsRow B 162 4 (.slice (some<|dH g) n p) n<|opsV l)(k:Nat)(o:iD)(f:l[k]?=some o):
  w.cell? (d8 g<|k*4)=some (.int .i64 (o.kind:Int))/\w.cell? (d8 g<|k*4+1)=some (.string o.name)/\w.cell? (d8 g<|k*4+2)=some (.string o.to)/\w.cell? (d8 g<|k*4+3)=some (.string o.data):=by
 have y:∀(l:List iD) (k j:Nat),j<4->(opsV l)[k*4+j]?=(l[k]?).bind (λo=>(gQ o)[j]?):=by
  intro l;induction l with
  |nil=>grind[opsV]
  |cons x l ih=>
   intro k j a;have e:opsV (x::l)=gQ x++opsV l:=rfl;rw[e];cases k with
   |zero=>grind[gQ]
   |succ k=>
    rw[List.getElem?_append_right<|by simp[gQ];omega];have:(k+1)*4+j-(gQ x).length=k*4+j:=by simp[gQ];omega
    rw[this,ih k j a];simp
 have c:∀j v,j<4->(gQ o)[j]?=some v->w.cell? ⟨g,k*4+j,none⟩=some v:=by
  intro j v a d;have b:(opsV l)[k*4+j]?=some v:=by grind
  have:=h.cells (g:=g) rfl (k*4+j) v b;simpa [Addr.add_lit]using this
 exact⟨c 0 _ oE rfl,c 1 _ oE rfl,c 2 _ oE rfl,c 3 _ oE rfl⟩
theorem zB{c:Nat}:∀(l:List iD) (m:az) (k:Nat),m.Le (k*c)->(∀o∈l,o.Ok c)->(l.foldl cV m).Le ((k+l.length)*c)
 |[],m,k,h,_=>by simpa using h
 |o::l,m,k,h,ho=>by
  have a:=yV h (ho o (by simp));have d:(cV m o).Le ((k+1)*c):=by rw[Nat.add_mul];simpa using a
  have e:=zB l (cV m o) (k+1) d (λx b=>ho x<|by simp[b]);rw[List.foldl_cons,zzr,show k+(l.length+1)=k+1+l.length by omega];exact e
theorem M0(B p f bN n D N g len u:Nat)(d:ah)(w:World)(h:aB w B p f bN (.slice (some<|dH g) len u) d n D N)(hlen:d.pending.length=len):
  Calls prog 358 #[rM p] w λe w'=>e=.returned (cj d.sync.2)/\(∃R qt,aB w' B p f bN R d.sync.1 n qt N/\bn w.heap.size (.slice (some<|dH g) len u) R)/\Fr [p,f] w w':=by
 have Y:=ae h;have L:=ae hlen;clear h hlen;go_enter func358,ntmps358;go_wp2_with fail;apply(l8 B p f bN n D N _ d w Y.out).mono;rintro e z ⟨rfl,yX,bF⟩;have H:=ae yX;have v:Hid (Fr [p,f] w z):=bF.mono (by intro k _ E;simp at E;simp[E]);have S:=aa yX.blk 2;simp at S;clear yX bF;obtain j|j|j:=iO d
 .rw[j,aG dN];go_wp2;go_ret;rw[ot<|by rw[j];decide,j];exact⟨rfl,⟨_,D,H.out,bn.refl _ _⟩,v.out⟩
 .rw[j,aG dN];go_wp2;go_ret;rw[ot<|by rw[j];decide,j];exact⟨rfl,⟨_,D,H.out,bn.refl _ _⟩,v.out⟩
 .rw[j,bQ];have P:d.writes.1.pending=d.pending:=by rw[gM]
  go_wp2;go_loopw [16] (λi wr=>∃k:Nat,k<=len/\i=.int .i64 k/\FileMap wr f (D+k) ((d.writes.1.pending.take k).foldl cV d.writes.1.ai)/\Fr [f] z wr) (λi _=>len-(intOf i).toNat);case atStart=>exact⟨0,zzs _,rfl,H.out.j8,Fr.refl _ _⟩
  case round=>
   obtain⟨k,E,rfl,F,l⟩:=hrel;by_cases bP:k<len
   .have mB:k<d.writes.1.pending.length:=by rw[P,L.out];exact bP
    have⟨o,m⟩:∃o,d.writes.1.pending[k]?=some o:=⟨_,zzg mB⟩;have M:o.Ok 4096:=H.out.ops o<|zzh m;have J:=H.out.pen;rw[P,L.out]at J;rw[<-P]at J
    have Q:wr.ownsRow B 162 4 (.slice (some ⟨g,0,none⟩) len u) len (opsV d.writes.1.pending):=av J l (λq b=>by
     simp;intro e;subst e;have⟨c,hc⟩:=aF J b;exact H.out.j8.cL hc rfl)
    have⟨c0,c1,c2,c3⟩:=zA Q k o m;have A:=aa ((l.block p (zza.1 H.out.blk).1<|by simp;exact λe=>H.out.j8.cL H.out.blk e.symm).trans H.out.blk) 0;simp at A;have Z:p<wr.heap.size:=zzF wr ⟨p,0,none⟩ A;have O9:∀G,(wr.alloc G).cell? ⟨p,0,none⟩=some (.map<|some f):=λG=>(zze (a:=⟨p,0,none⟩)<|zzf wr G p Z).trans A
    have y:=ae F;have r:=ae l;have T:=ae M;have W:=ae m;have a6:D+k<n:=by have:=H.out.hD;omega
    have hn:=H.out.hn;have X:Hid (((d.writes.1.pending.take k).foldl cV d.writes.1.ai).Le 4200000000000):=by
     intro x t C;have:=zB (d.writes.1.pending.take k) d.writes.1.ai D H.out.MN (λo m=>H.out.ops o<|List.mem_of_mem_take m) x t C;rw[zzm]at this;have a7:min k d.writes.1.pending.length<=k:=Nat.min_le_left _ _;have h6:(D+min k d.writes.1.pending.length)*4096<=n*4096:=Nat.mul_le_mul_right _ oE;omega
    clear F l M m Q J P;have i0:(0:Int)<=k:=oE;have i1:(k:Int)<len:=oE;go_wp2;go_region_with (first|(go_at_call 103;apply(oW f (D+k) 4096 _ o _ (y.out.new<|(((lE wr).alloc _).drew)) mE T.out oE X.out).mono;rintro e w2 ⟨rfl,uS,dY⟩))
    all_goals (
     have V:Fr [f] z w2:=r.out.trans<|(((Fr.refl [f] wr).alloc _).drew).trans<|Fr.bK dY;clear dY;go_wp2
     go_roundw;case rel=>
      refine⟨k+1,oE,nF,?_,V⟩;rw[List.take_add_one,W.out]
      simpa [List.foldl_append,Nat.add_assoc]using uS
     case measure=>simp[intOf];omega)
   .obtain rfl:k=len:=oE;have hp:=(l.block p (zza.1 H.out.blk).1<|by simp;exact λe=>H.out.j8.cL H.out.blk e.symm).trans H.out.blk;have U:=aa hp 2;have O_:=au hp 2;simp at U;have s:=ae hp;have y:=ae F;have r:=ae l;clear F l hp;go_wp2;go_ret;have C:d.writes.1.pending.take k=d.writes.1.pending:=zzt (by rw[P,L.out];exact zzc _);have F:=y.out;rw[C]at F;rw[yY j];have I:Fr [p] wr (wr.setCell ⟨p,2,none⟩<|.slice none 0 0):=Fr.cH sE 2 _;have a1:=I.size;have wN:=r.out.size;have K:∀q∈[p],∀t,wr.heap[q]?≠some (fS t):=by
     intro q b t;simp at b;subst b;rw[s.out];intro e;cases e
    have O:FileMap wr bN N d.writes.1.now:=H.out.now.fr r.out (by simp;exact λe=>H.out.ne e.symm) (by intro q b t e;simp at b;subst b;exact H.out.j8.cL e rfl);refine⟨rfl,⟨.slice none 0 0,D+k,?_,bn.nil _ _⟩,v.out.trans<|(r.out.mono<|by intro q _ b;simp at b;simp[b]).trans<|I.mono<|by intro q _ b;simp at b;simp[b]⟩;have hD:=H.out.hD;rw[P,L.out]at hD;refine {blk:=?_,base:=⟨H.out.base.1,H.out.base.2.1,H.out.base.2.2.1,by have:=H.out.base.2.2.2;omega⟩,ne:=H.out.ne,j8:=F.fr I (by simp;exact F.cL s.out) K,now:=O.fr I (by simp;exact O.cL s.out) K,pen:=zzu _ _ _ _,hD:=by simpa using hD,hN:=H.out.hN,hn:=H.out.hn,MN:=?_,Hv:=H.out.Hv,ops:=sE}
    .have:=aH s.out 2<|.slice none 0 0;simpa using this
    .have:=zB d.writes.1.pending d.writes.1.ai D H.out.MN H.out.ops;rw[P,L.out]at this;simp only;rw[P];exact this
theorem PZ(B p D bN n b N:Nat)(d:ah)(w:World)(h:aB w B p D bN (.slice none 0 0) d n b N)(hlen:d.pending=[]):
  Calls prog 358 #[rM p] w λe w'=>e=.returned (cj d.sync.2)/\(∃j t,aB w' B p D bN j d.sync.1 n t N/\bn w.heap.size (.slice none 0 0) j)/\Fr [p,D] w w':=by
 have I:=ae h;have L:=ae hlen;clear h hlen;go_enter func358,ntmps358;go_wp2_with fail;apply(l8 B p D bN n b N _ d w I.out).mono;rintro e c ⟨rfl,yX,bF⟩;have H:=ae yX;have f:Hid (Fr [p,D] w c):=bF.mono (by intro k _ i;simp at i;simp[i]);have l:=aa yX.blk 2;have o:=au yX.blk 2;simp at l;clear yX bF;obtain a|a|a:=iO d
 .rw[a,aG dN];go_wp2;go_ret;rw[ot<|by rw[a];decide,a];exact⟨rfl,⟨_,b,H.out,bn.refl _ _⟩,f.out⟩
 .rw[a,aG dN];go_wp2;go_ret;rw[ot<|by rw[a];decide,a];exact⟨rfl,⟨_,b,H.out,bn.refl _ _⟩,f.out⟩
 .rw[a,bQ];have P:d.writes.1.pending=[]:=by rw[gM];exact L.out
  go_wp2;apply wp_loop_rounds 1;rw[rounds_succ];go_wp2;go_ret;rw[yY a];have J:Fr [p] c (c.setCell ⟨p,2,none⟩<|.slice none 0 0):=Fr.cH sE 2 _;refine⟨rfl,⟨.slice none 0 0,b,?_,bn.nil _ _⟩,f.out.trans<|J.mono<|by intro q _ g;simp at g;simp[g]⟩;have m:(c.setCell ⟨p,2,none⟩<|.slice none 0 0).heap[p]?=some (kF D bN (.slice none 0 0) d.writes.1.left d.writes.1.full d.writes.1.down):=by simpa using aH H.out.blk 2<|.slice none 0 0
  have:=H.out.gR J d.writes.1.left d.writes.1.full d.writes.1.down m;simp only[P,List.foldl_nil];rw[<-P];exact this
theorem qu(B p D bN n a N:Nat)(v:Value)(d:ah)(w:World)(h:aB w B p D bN v d n a N):
  Calls prog 358 #[rM p] w λe w'=>e=.returned (cj d.sync.2)/\(∃j t,aB w' B p D bN j d.sync.1 n t N/\bn w.heap.size v j)/\Fr [p,D] w w':=by
 rcases h.pen.2 with⟨b,c⟩|⟨g,f,r,b,_⟩
 .grind [PZ]
 .grind [M0]
end Go.Proofs.YtdcafjmdfpjcbaaGreatDoor
namespace Go.Proofs
open Go.Shelf
def Tryz.lays125_ren:Go.Shelf.Ren:=⟨fun | 125=>240 | 128=>277 | 129=>245 | n=>n,fun | 46=>316 | 3=>3 | 51=>260 | 53=>34 | 4=>4 | 5=>5 | 9=>9 | n=>n,fun | n=>n⟩
theorem Tryz.lays125:Go.Proofs.Lays.n125 Tryz.prog Tryz.lays125_ren:={
 mixed:=by kernel_rfl
 f125:=Tryz.func240.trans (congrArg some (by kernel_rfl))
 f128:=Tryz.func277.trans (congrArg some (by kernel_rfl))
 f129:=Tryz.func245.trans (congrArg some (by kernel_rfl))
 t3:=Tryz.underlying3
 a3:=Tryz.isAgg3
 z3:=Tryz.sizeOf3
 v3:=Tryz.zeroValue3
 t4:=Tryz.underlying4
 a4:=Tryz.isAgg4
 z4:=Tryz.sizeOf4
 v4:=Tryz.zeroValue4
 t5:=Tryz.underlying5
 a5:=Tryz.isAgg5
 z5:=Tryz.sizeOf5
 v5:=Tryz.zeroValue5
 t9:=Tryz.underlying9
 a9:=Tryz.isAgg9
 z9:=Tryz.sizeOf9
 v9:=Tryz.zeroValue9
 t46:=Tryz.underlying316
 a46:=Tryz.isAgg316
 z46:=Tryz.sizeOf316
 v46:=Tryz.zeroValue316
 t51:=Tryz.underlying260
 a51:=Tryz.isAgg260
 z51:=Tryz.sizeOf260
 v51:=Tryz.zeroValue260
 t53:=Tryz.underlying34
 a53:=Tryz.isAgg34
 z53:=Tryz.sizeOf34
 v53:=Tryz.zeroValue34 }
theorem Tryz.bits_Len (x:Int) (w:World) (h0:0≤x) (h1:x≤18446744073709551615) :
  Calls Tryz.prog 240 #[.int .u64 x] w fun e w'=>e=.returned (.int .i64 (Lib.bitLen x.toNat))∧w'=w:=Any.bits_Len Tryz.lays125 x w h0 h1
def Tryz.lays103_ren:Go.Shelf.Ren:=⟨fun | 103=>199 | 210=>236 | 206=>262 | n=>n,fun | 9=>9 | 4=>4 | 24=>99 | 3=>3 | n=>n,fun | n=>n⟩
theorem Tryz.lays103:Go.Proofs.Lays.n103 Tryz.prog Tryz.lays103_ren:={
 mixed:=by kernel_rfl
 f103:=Tryz.func199.trans (congrArg some (by kernel_rfl))
 f206:=Tryz.func262.trans (congrArg some (by kernel_rfl))
 f210:=Tryz.func236.trans (congrArg some (by kernel_rfl))
 t3:=Tryz.underlying3
 a3:=Tryz.isAgg3
 z3:=Tryz.sizeOf3
 v3:=Tryz.zeroValue3
 t4:=Tryz.underlying4
 a4:=Tryz.isAgg4
 z4:=Tryz.sizeOf4
 v4:=Tryz.zeroValue4
 t9:=Tryz.underlying9
 a9:=Tryz.isAgg9
 z9:=Tryz.sizeOf9
 v9:=Tryz.zeroValue9
 t24:=Tryz.underlying99
 a24:=Tryz.isAgg99
 z24:=Tryz.sizeOf99
 v24:=Tryz.zeroValue99 }
open Go.RowKit in
theorem Tryz.strings_CutPrefix (s p:ByteArray) (w:World) :
  Calls Tryz.prog 199 #[.string s,.string p] w fun e w'=>e=.returned (.tuple #[.string ⟨(Lib.trimPrefix s.data.toList p.data.toList).toArray⟩,.bool (Lib.hasPrefix s.data.toList p.data.toList)])∧w'=w:=Any.strings_CutPrefix Tryz.lays103 s p w
def Tryz.lays283_ren:Go.Shelf.Ren:=⟨fun | 283=>250 | n=>n,fun | 3=>3 | 9=>9 | 4=>4 | n=>n,fun | n=>n⟩
theorem Tryz.lays283:Go.Proofs.Lays.n283 Tryz.prog Tryz.lays283_ren:={
 mixed:=by kernel_rfl
 f283:=Tryz.func250.trans (congrArg some (by kernel_rfl))
 t3:=Tryz.underlying3
 a3:=Tryz.isAgg3
 z3:=Tryz.sizeOf3
 v3:=Tryz.zeroValue3
 t4:=Tryz.underlying4
 a4:=Tryz.isAgg4
 z4:=Tryz.sizeOf4
 v4:=Tryz.zeroValue4
 t9:=Tryz.underlying9
 a9:=Tryz.isAgg9
 z9:=Tryz.sizeOf9
 v9:=Tryz.zeroValue9 }
open Go.Lib in
theorem Tryz.internal_strconv_small (i:Nat) (h:i<100) (w:World) :
  Calls Tryz.prog 250 #[.int .i64 i] w fun e w'=>e=.returned (.string ⟨(Lib.decDigits i).toArray⟩)∧w'=w:=Any.internal_strconv_small Tryz.lays283 i h w
def Tryz.laysM284_ren:Go.Shelf.Ren:=⟨fun | 284=>251 | 129=>245 | 317=>280 | 318=>281 | n=>n,fun | 53=>34 | 3=>3 | 212=>392 | 0=>0 | 4=>4 | 46=>316 | 5=>5 | 9=>9 | n=>n,fun | 17=>1 | n=>n⟩
theorem Tryz.laysM284:Go.Proofs.LaysM.n284 Tryz.prog Tryz.laysM284_ren:={
 mixed:=by kernel_rfl
 f129:=Tryz.func245.trans (congrArg some (by kernel_rfl))
 f284:=Tryz.func251.trans (congrArg some (by kernel_rfl))
 f317:=Tryz.func280.trans (congrArg some (by kernel_rfl))
 f318:=Tryz.func281.trans (congrArg some (by kernel_rfl))
 t0:=Tryz.underlying0
 a0:=Tryz.isAgg0
 z0:=Tryz.sizeOf0
 v0:=Tryz.zeroValue0
 t3:=Tryz.underlying3
 a3:=Tryz.isAgg3
 z3:=Tryz.sizeOf3
 v3:=Tryz.zeroValue3
 t4:=Tryz.underlying4
 a4:=Tryz.isAgg4
 z4:=Tryz.sizeOf4
 v4:=Tryz.zeroValue4
 t5:=Tryz.underlying5
 a5:=Tryz.isAgg5
 z5:=Tryz.sizeOf5
 v5:=Tryz.zeroValue5
 t9:=Tryz.underlying9
 a9:=Tryz.isAgg9
 z9:=Tryz.sizeOf9
 v9:=Tryz.zeroValue9
 t46:=Tryz.underlying316
 a46:=Tryz.isAgg316
 z46:=Tryz.sizeOf316
 v46:=Tryz.zeroValue316
 t53:=Tryz.underlying34
 a53:=Tryz.isAgg34
 z53:=Tryz.sizeOf34
 v53:=Tryz.zeroValue34
 t212:=Tryz.underlying392
 a212:=Tryz.isAgg392
 z212:=Tryz.sizeOf392
 v212:=Tryz.zeroValue392
 g17:=by kernel_rfl
 i0:=by kernel_rfl
 i3:=by kernel_rfl
 i4:=by kernel_rfl
 i5:=by kernel_rfl
 i9:=by kernel_rfl
 i46:=by kernel_rfl
 i53:=by kernel_rfl
 i212:=by kernel_rfl
 m17:=by kernel_rfl }
open Go.Lib in
theorem Tryz.internal_strconv_numDigits (u:Nat) (h1:1≤u) (h2:u<18446744073709551616) (w:World) (htab:Lib.TabIs Tryz.prog w "internal/strconv.uint64pow10" .u64 Lib.pow10Tab) :
  Calls Tryz.prog 251 #[.int .u64 u] w fun e w'=>e=.returned (.int .i64 (Lib.nDigits u))∧w'=w:=Any.internal_strconv_numDigits Tryz.laysM284 u h1 h2 w htab
def Tryz.lays285_ren:Go.Shelf.Ren:=⟨fun | 285=>252 | n=>n,fun | 37=>179 | 53=>34 | 3=>3 | 4=>4 | 51=>260 | 9=>9 | 5=>5 | 0=>0 | n=>n,fun | n=>n⟩
theorem Tryz.lays285:Go.Proofs.Lays.n285 Tryz.prog Tryz.lays285_ren:={
 mixed:=by kernel_rfl
 f285:=Tryz.func252.trans (congrArg some (by kernel_rfl))
 t0:=Tryz.underlying0
 a0:=Tryz.isAgg0
 z0:=Tryz.sizeOf0
 v0:=Tryz.zeroValue0
 t3:=Tryz.underlying3
 a3:=Tryz.isAgg3
 z3:=Tryz.sizeOf3
 v3:=Tryz.zeroValue3
 t4:=Tryz.underlying4
 a4:=Tryz.isAgg4
 z4:=Tryz.sizeOf4
 v4:=Tryz.zeroValue4
 t5:=Tryz.underlying5
 a5:=Tryz.isAgg5
 z5:=Tryz.sizeOf5
 v5:=Tryz.zeroValue5
 t9:=Tryz.underlying9
 a9:=Tryz.isAgg9
 z9:=Tryz.sizeOf9
 v9:=Tryz.zeroValue9
 t37:=Tryz.underlying179
 a37:=Tryz.isAgg179
 z37:=Tryz.sizeOf179
 v37:=Tryz.zeroValue179
 t51:=Tryz.underlying260
 a51:=Tryz.isAgg260
 z51:=Tryz.sizeOf260
 v51:=Tryz.zeroValue260
 t53:=Tryz.underlying34
 a53:=Tryz.isAgg34
 z53:=Tryz.sizeOf34
 v53:=Tryz.zeroValue34 }
open Go.RowKit Go.Sort Go.Lib in
theorem Tryz.internal_strconv_formatBase10 (blk off cap:Nat) (u:Nat) (d:Array UInt8) (w:World) (hH:Holds (fun (b:UInt8)=>Value.int .u8 (b.toNat:Int)) w blk off d) (hu:u<10 ^ d.size) (hu64:u<18446744073709551616) (hsz:d.size<4611686018427387904) :
  Calls Tryz.prog 252 #[.slice (some ⟨blk,off,none⟩) d.size cap,.int .u64 u] w fun e w' =>
   e=.returned (.tuple #[])∧∃ (n v':Nat) (dk:Array UInt8),w'=(putRow (fun (b:UInt8)=>Value.int .u8 (b.toNat:Int)) w blk off dk).drewN n∧FmtInv d.size u 0 v' dk:=Any.internal_strconv_formatBase10 Tryz.lays285 blk off cap u d w hH hu hu64 hsz
def Tryz.laysM316_ren:Go.Shelf.Ren:=⟨fun | 316=>169 | n=>n,fun | 9=>9 | 3=>3 | 4=>4 | 37=>179 | 0=>0 | 127=>333 | 5=>5 | n=>n,fun | n=>n⟩
theorem Tryz.laysM316:Go.Proofs.LaysM.n316 Tryz.prog Tryz.laysM316_ren:={
 mixed:=by kernel_rfl
 f316:=Tryz.func169.trans (congrArg some (by kernel_rfl))
 t0:=Tryz.underlying0
 a0:=Tryz.isAgg0
 z0:=Tryz.sizeOf0
 v0:=Tryz.zeroValue0
 t3:=Tryz.underlying3
 a3:=Tryz.isAgg3
 z3:=Tryz.sizeOf3
 v3:=Tryz.zeroValue3
 t4:=Tryz.underlying4
 a4:=Tryz.isAgg4
 z4:=Tryz.sizeOf4
 v4:=Tryz.zeroValue4
 t9:=Tryz.underlying9
 a9:=Tryz.isAgg9
 z9:=Tryz.sizeOf9
 v9:=Tryz.zeroValue9
 t37:=Tryz.underlying179
 a37:=Tryz.isAgg179
 z37:=Tryz.sizeOf179
 v37:=Tryz.zeroValue179
 t127:=Tryz.underlying333
 a127:=Tryz.isAgg333
 z127:=Tryz.sizeOf333
 v127:=Tryz.zeroValue333
 t5:=Tryz.underlying5
 a5:=Tryz.isAgg5
 z5:=Tryz.sizeOf5
 v5:=Tryz.zeroValue5
 i0:=by kernel_rfl
 i3:=by kernel_rfl
 i4:=by kernel_rfl
 i5:=by kernel_rfl
 i9:=by kernel_rfl
 i37:=by kernel_rfl
 i127:=by kernel_rfl }
open Go.RowKit in
theorem Tryz.stringslite_Clone (s:ByteArray) (w:World) (hlim:s.size≤281474976710656) :
  Calls Tryz.prog 169 #[.string s] w fun e w'=>e=.returned (.string s)∧Below w.heap.size w w':=Any.stringslite_Clone Tryz.laysM316 s w hlim
def Tryz.laysPu14_ren:Go.Shelf.Ren:=⟨fun | 14=>200 | 16=>237 | 17=>238 | 19=>263 | 20=>264 | 21=>265 | 22=>266 | 23=>267 | 24=>268 | 25=>169 | 27=>295 | 26=>294 | 28=>311 | 29=>318 | 30=>250 | 31=>251 | 32=>252 | 33=>253 | 35=>245 | 34=>280 | 36=>281 | 37=>282 | 38=>283 | 39=>305 | 40=>306 | n=>n,fun | 9=>9 | 3=>3 | 22=>34 | 24=>67 | 25=>120 | 4=>4 | 34=>376 | 5=>5 | 36=>316 | 37=>179 | 0=>0 | 39=>378 | 21=>21 | 44=>400 | 47=>333 | 50=>414 | 48=>412 | 2=>2 | 52=>359 | 55=>361 | 59=>392 | 60=>260 | 20=>20 | 61=>393 | 65=>421 | 66=>422 | 67=>325 | n=>n,fun | 0=>2 | 1=>3 | 2=>1 | 3=>4 | 4=>5 | n=>n⟩
theorem Tryz.laysPu14:Go.Proofs.LaysPu.n14 Tryz.prog Tryz.laysPu14_ren:={
 mixed:=by kernel_rfl
 f14:=Tryz.func200.trans (congrArg some (by kernel_rfl))
 f16:=Tryz.func237.trans (congrArg some (by kernel_rfl))
 f17:=Tryz.func238.trans (congrArg some (by kernel_rfl))
 f19:=Tryz.func263.trans (congrArg some (by kernel_rfl))
 f20:=Tryz.func264.trans (congrArg some (by kernel_rfl))
 f21:=Tryz.func265.trans (congrArg some (by kernel_rfl))
 f22:=Tryz.func266.trans (congrArg some (by kernel_rfl))
 f23:=Tryz.func267.trans (congrArg some (by kernel_rfl))
 f24:=Tryz.func268.trans (congrArg some (by kernel_rfl))
 f25:=Tryz.func169.trans (congrArg some (by kernel_rfl))
 f26:=Tryz.func294.trans (congrArg some (by kernel_rfl))
 f27:=Tryz.func295.trans (congrArg some (by kernel_rfl))
 f28:=Tryz.func311.trans (congrArg some (by kernel_rfl))
 f29:=Tryz.func318.trans (congrArg some (by kernel_rfl))
 f30:=Tryz.func250.trans (congrArg some (by kernel_rfl))
 f31:=Tryz.func251.trans (congrArg some (by kernel_rfl))
 f32:=Tryz.func252.trans (congrArg some (by kernel_rfl))
 f33:=Tryz.func253.trans (congrArg some (by kernel_rfl))
 f34:=Tryz.func280.trans (congrArg some (by kernel_rfl))
 f35:=Tryz.func245.trans (congrArg some (by kernel_rfl))
 f36:=Tryz.func281.trans (congrArg some (by kernel_rfl))
 f37:=Tryz.func282.trans (congrArg some (by kernel_rfl))
 f38:=Tryz.func283.trans (congrArg some (by kernel_rfl))
 f39:=Tryz.func305.trans (congrArg some (by kernel_rfl))
 f40:=Tryz.func306.trans (congrArg some (by kernel_rfl))
 t0:=Tryz.underlying0
 a0:=Tryz.isAgg0
 z0:=Tryz.sizeOf0
 v0:=Tryz.zeroValue0
 i0:=by kernel_rfl
 t2:=Tryz.underlying2
 a2:=Tryz.isAgg2
 z2:=Tryz.sizeOf2
 v2:=Tryz.zeroValue2
 i2:=by kernel_rfl
 t3:=Tryz.underlying3
 a3:=Tryz.isAgg3
 z3:=Tryz.sizeOf3
 v3:=Tryz.zeroValue3
 i3:=by kernel_rfl
 t4:=Tryz.underlying4
 a4:=Tryz.isAgg4
 z4:=Tryz.sizeOf4
 v4:=Tryz.zeroValue4
 i4:=by kernel_rfl
 t5:=Tryz.underlying5
 a5:=Tryz.isAgg5
 z5:=Tryz.sizeOf5
 v5:=Tryz.zeroValue5
 i5:=by kernel_rfl
 t9:=Tryz.underlying9
 a9:=Tryz.isAgg9
 z9:=Tryz.sizeOf9
 v9:=Tryz.zeroValue9
 i9:=by kernel_rfl
 t20:=Tryz.underlying20
 a20:=Tryz.isAgg20
 z20:=Tryz.sizeOf20
 v20:=Tryz.zeroValue20
 i20:=by kernel_rfl
 t21:=Tryz.underlying21
 a21:=Tryz.isAgg21
 z21:=Tryz.sizeOf21
 v21:=Tryz.zeroValue21
 i21:=by kernel_rfl
 t22:=Tryz.underlying34
 a22:=Tryz.isAgg34
 z22:=Tryz.sizeOf34
 v22:=Tryz.zeroValue34
 i22:=by kernel_rfl
 t24:=Tryz.underlying67
 a24:=Tryz.isAgg67
 z24:=Tryz.sizeOf67
 v24:=Tryz.zeroValue67
 i24:=by kernel_rfl
 t25:=Tryz.underlying120
 a25:=Tryz.isAgg120
 z25:=Tryz.sizeOf120
 v25:=Tryz.zeroValue120
 i25:=by kernel_rfl
 t34:=Tryz.underlying376
 a34:=Tryz.isAgg376
 z34:=Tryz.sizeOf376
 v34:=Tryz.zeroValue376
 i34:=by kernel_rfl
 c34:=by kernel_rfl
 t36:=Tryz.underlying316
 a36:=Tryz.isAgg316
 z36:=Tryz.sizeOf316
 v36:=Tryz.zeroValue316
 i36:=by kernel_rfl
 t37:=Tryz.underlying179
 a37:=Tryz.isAgg179
 z37:=Tryz.sizeOf179
 v37:=Tryz.zeroValue179
 i37:=by kernel_rfl
 t39:=Tryz.underlying378
 a39:=Tryz.isAgg378
 z39:=Tryz.sizeOf378
 v39:=Tryz.zeroValue378
 i39:=by kernel_rfl
 t44:=Tryz.underlying400
 a44:=Tryz.isAgg400
 z44:=Tryz.sizeOf400
 v44:=Tryz.zeroValue400
 i44:=by kernel_rfl
 t47:=Tryz.underlying333
 a47:=Tryz.isAgg333
 z47:=Tryz.sizeOf333
 v47:=Tryz.zeroValue333
 i47:=by kernel_rfl
 t48:=Tryz.underlying412
 a48:=Tryz.isAgg412
 z48:=Tryz.sizeOf412
 v48:=Tryz.zeroValue412
 i48:=by kernel_rfl
 t50:=Tryz.underlying414
 a50:=Tryz.isAgg414
 z50:=Tryz.sizeOf414
 v50:=Tryz.zeroValue414
 i50:=by kernel_rfl
 t52:=Tryz.underlying359
 a52:=Tryz.isAgg359
 z52:=Tryz.sizeOf359
 v52:=Tryz.zeroValue359
 i52:=by kernel_rfl
 t55:=Tryz.underlying361
 a55:=Tryz.isAgg361
 z55:=Tryz.sizeOf361
 v55:=Tryz.zeroValue361
 i55:=by kernel_rfl
 t59:=Tryz.underlying392
 a59:=Tryz.isAgg392
 z59:=Tryz.sizeOf392
 v59:=Tryz.zeroValue392
 i59:=by kernel_rfl
 t60:=Tryz.underlying260
 a60:=Tryz.isAgg260
 z60:=Tryz.sizeOf260
 v60:=Tryz.zeroValue260
 i60:=by kernel_rfl
 t61:=Tryz.underlying393
 a61:=Tryz.isAgg393
 z61:=Tryz.sizeOf393
 t65:=Tryz.underlying421
 a65:=Tryz.isAgg421
 z65:=Tryz.sizeOf421
 v65:=Tryz.zeroValue421
 i65:=by kernel_rfl
 t66:=Tryz.underlying422
 a66:=Tryz.isAgg422
 z66:=Tryz.sizeOf422
 v66:=Tryz.zeroValue422
 i66:=by kernel_rfl
 t67:=Tryz.underlying325
 a67:=Tryz.isAgg325
 z67:=Tryz.sizeOf325
 v67:=Tryz.zeroValue325
 i67:=by kernel_rfl
 g0:=by kernel_rfl
 m0:=by kernel_rfl
 g1:=by kernel_rfl
 m1:=by kernel_rfl
 g2:=by kernel_rfl
 m2:=by kernel_rfl
 g3:=by kernel_rfl
 m3:=by kernel_rfl
 g4:=by kernel_rfl
 m4:=by kernel_rfl }
open Go.RowKit in
theorem Tryz.strconv_ParseUint_10_at64_ok (s:ByteArray) (hmax:s.size≤9223372036854775806) (u:Nat) (h:Lib.parseUintB 64 s.data.toList=.ok u) (w:World) :
  Calls Tryz.prog 200 #[.string s,.int .i64 10,.int .i64 64] w fun e w'=>e=.returned (.tuple #[.int .u64 u,.nilIface])∧(w'=w∨w'=Lib.bytesWorld w 5 s):=Any.strconv_ParseUint_10_at64_ok Tryz.laysPu14 s hmax u h w
open Go.RowKit in
theorem Tryz.strconv_ParseUint_10_at64_syntax (s:ByteArray) (hlim:s.size≤281474976710656) (h:Lib.parseUintB 64 s.data.toList=.«syntax») (ev:Value) (w:World) (hv:w.cell? ⟨2,0,none⟩=some ev) (hev:ev=.nilIface∨∃ te pe,ev=.iface te pe) :
  Calls Tryz.prog 200 #[.string s,.int .i64 10,.int .i64 64] w fun e w'=>∃ N,e=.returned (.tuple #[.int .u64 0,.iface 378 (.pointer (some ⟨N,0,none⟩))])∧w.heap.size≤N∧w'.heap[N]?=some (.cells #[.string ⟨#[80,97,114,115,101,85,105,110,116]⟩,.string s,ev] 400 (0,0))∧Below w.heap.size w w':=Any.strconv_ParseUint_10_at64_syntax Tryz.laysPu14 s hlim h ev w hv hev
def Tryz.lays192_ren:Go.Shelf.Ren:=⟨fun | 192=>361 | 190=>222 | 125=>240 | 258=>255 | 128=>277 | 129=>245 | 302=>284 | 303=>285 | 304=>286 | 305=>287 | 306=>288 | 307=>289 | 308=>290 | 309=>291 | 310=>292 | 333=>307 | 329=>297 | 330=>298 | 334=>308 | 335=>309 | 336=>310 | 344=>317 | n=>n,fun | 31=>138 | 0=>0 | 9=>9 | 3=>3 | 46=>316 | 51=>260 | 53=>34 | 4=>4 | 183=>383 | 182=>382 | 131=>222 | 5=>5 | 218=>401 | 222=>404 | 228=>415 | 229=>416 | n=>n,fun | n=>n⟩
theorem Tryz.lays192:Go.Proofs.Lays.n192 Tryz.prog Tryz.lays192_ren:={
 mixed:=by kernel_rfl
 f125:=Tryz.func240.trans (congrArg some (by kernel_rfl))
 f128:=Tryz.func277.trans (congrArg some (by kernel_rfl))
 f129:=Tryz.func245.trans (congrArg some (by kernel_rfl))
 f190:=Tryz.func222.trans (congrArg some (by kernel_rfl))
 f192:=Tryz.func361.trans (congrArg some (by kernel_rfl))
 f258:=Tryz.func255.trans (congrArg some (by kernel_rfl))
 f302:=Tryz.func284.trans (congrArg some (by kernel_rfl))
 f303:=Tryz.func285.trans (congrArg some (by kernel_rfl))
 f304:=Tryz.func286.trans (congrArg some (by kernel_rfl))
 f305:=Tryz.func287.trans (congrArg some (by kernel_rfl))
 f306:=Tryz.func288.trans (congrArg some (by kernel_rfl))
 f307:=Tryz.func289.trans (congrArg some (by kernel_rfl))
 f308:=Tryz.func290.trans (congrArg some (by kernel_rfl))
 f309:=Tryz.func291.trans (congrArg some (by kernel_rfl))
 f310:=Tryz.func292.trans (congrArg some (by kernel_rfl))
 f329:=Tryz.func297.trans (congrArg some (by kernel_rfl))
 f330:=Tryz.func298.trans (congrArg some (by kernel_rfl))
 f333:=Tryz.func307.trans (congrArg some (by kernel_rfl))
 f334:=Tryz.func308.trans (congrArg some (by kernel_rfl))
 f335:=Tryz.func309.trans (congrArg some (by kernel_rfl))
 f336:=Tryz.func310.trans (congrArg some (by kernel_rfl))
 f344:=Tryz.func317.trans (congrArg some (by kernel_rfl))
 t0:=Tryz.underlying0
 a0:=Tryz.isAgg0
 z0:=Tryz.sizeOf0
 v0:=Tryz.zeroValue0
 t3:=Tryz.underlying3
 a3:=Tryz.isAgg3
 z3:=Tryz.sizeOf3
 v3:=Tryz.zeroValue3
 t4:=Tryz.underlying4
 a4:=Tryz.isAgg4
 z4:=Tryz.sizeOf4
 v4:=Tryz.zeroValue4
 t5:=Tryz.underlying5
 a5:=Tryz.isAgg5
 z5:=Tryz.sizeOf5
 v5:=Tryz.zeroValue5
 t9:=Tryz.underlying9
 a9:=Tryz.isAgg9
 z9:=Tryz.sizeOf9
 v9:=Tryz.zeroValue9
 t31:=Tryz.underlying138
 a31:=Tryz.isAgg138
 z31:=Tryz.sizeOf138
 v31:=Tryz.zeroValue138
 t46:=Tryz.underlying316
 a46:=Tryz.isAgg316
 z46:=Tryz.sizeOf316
 v46:=Tryz.zeroValue316
 t51:=Tryz.underlying260
 a51:=Tryz.isAgg260
 z51:=Tryz.sizeOf260
 v51:=Tryz.zeroValue260
 t53:=Tryz.underlying34
 a53:=Tryz.isAgg34
 z53:=Tryz.sizeOf34
 v53:=Tryz.zeroValue34
 t131:=Tryz.underlying222
 a131:=Tryz.isAgg222
 z131:=Tryz.sizeOf222
 v131:=Tryz.zeroValue222
 t182:=Tryz.underlying382
 a182:=Tryz.isAgg382
 z182:=Tryz.sizeOf382
 v182:=Tryz.zeroValue382
 t183:=Tryz.underlying383
 a183:=Tryz.isAgg383
 z183:=Tryz.sizeOf383
 v183:=Tryz.zeroValue383
 t218:=Tryz.underlying401
 a218:=Tryz.isAgg401
 z218:=Tryz.sizeOf401
 v218:=Tryz.zeroValue401
 t222:=Tryz.underlying404
 a222:=Tryz.isAgg404
 z222:=Tryz.sizeOf404
 v222:=Tryz.zeroValue404
 t228:=Tryz.underlying415
 a228:=Tryz.isAgg415
 z228:=Tryz.sizeOf415
 v228:=Tryz.zeroValue415
 t229:=Tryz.underlying416
 a229:=Tryz.isAgg416
 z229:=Tryz.sizeOf416
 v229:=Tryz.zeroValue416 }
open Go.Sort Go.RowKit in
theorem Tryz.sort_Strings (blk off cap:Nat) (ss:List (List UInt8)) (w:World) (hH:Holds encStr w blk off ss.toArray) (hblk:blk<w.heap.size) (hsz:ss.length<4611686018427387904) :
  Calls Tryz.prog 361 #[.slice (some ⟨blk,off,none⟩) ss.length cap] w fun e w' =>
   e=.returned (.tuple #[])∧∃ n os,w'=grow (putRow encStr (Sort.ahead w n) blk off (ss.mergeSort fun x y=>decide (x≤y)).toArray) os:=Any.sort_Strings Tryz.lays192 blk off cap ss w hH hblk hsz
open Go.RowKit Go.Sort in
theorem Tryz.sort_Strings_none (p:Option Addr) (cap:Nat) (w:World) :
  Calls Tryz.prog 361 #[.slice p 0 cap] w fun e w'=>e=.returned (.tuple #[])∧w'=w:=Any.sort_Strings_none Tryz.lays192 p cap w
def Tryz.laysSlE041_f123_ren:Go.Shelf.Ren:=⟨fun | 41=>123 | n=>n,fun | 22=>49 | 23=>34 | 4=>4 | n=>n,fun | n=>n⟩
theorem Tryz.laysSlE041_f123:Go.Proofs.SlLaysE0.n41 Tryz.prog Tryz.laysSlE041_f123_ren:={
 mixed:=by kernel_rfl
 f41:=⟨Tryz.f123.name,by decide,Tryz.func123.trans (congrArg some (by kernel_rfl))⟩
 t4:=Tryz.underlying4
 a4:=Tryz.isAgg4
 z4:=Tryz.sizeOf4
 v4:=Tryz.zeroValue4
 t22:=Tryz.underlying49
 a22:=Tryz.isAgg49
 z22:=Tryz.sizeOf49
 v22:=Tryz.zeroValue49 }
open Go.RowKit Go.Lib in
theorem Tryz.slices_Clone (i0:TypeInfo) (z:Value) (size bytes:Nat) (hi:Tryz.prog.info? 34=some i0) (hz0:i0.zero=some z) (hz1:i0.size=size) (hz2:i0.bytes=bytes) (hzs:z.cells.size=size) (hsz:0<size) (z23:∀ w,(Go.sizeOf 34).run Tryz.prog w=.ok size w) (b off n c:Nat) (news:List Value) (w:World) (hl:news.length=n*size) (hn:n≤maxLen) (hbig:n*bytes≤140737488355328) (hc:∀ j u,news[j]?=some u→w.cell? ⟨b,off+j,none⟩=some u) (h1:∀ u∈news,u.oneCell'=true) :
  Calls Tryz.prog 123 #[.slice (some ⟨b,off,none⟩) n c] w fun e w'=>∃ v',e=.returned v'∧w'.ownsRow w.heap.size 34 size v' n news∧v'≠.slice none 0 0∧Below w.heap.size w w':=AnyE.slices_Clone Tryz.laysSlE041_f123 i0 z size bytes hi hz0 hz1 hz2 hzs hsz z23 b off n c news w hl hn hbig hc h1
def Tryz.laysSlE041_f122_ren:Go.Shelf.Ren:=⟨fun | 41=>122 | n=>n,fun | 22=>35 | 23=>82 | 4=>4 | n=>n,fun | n=>n⟩
theorem Tryz.laysSlE041_f122:Go.Proofs.SlLaysE0.n41 Tryz.prog Tryz.laysSlE041_f122_ren:={
 mixed:=by kernel_rfl
 f41:=⟨Tryz.f122.name,by decide,Tryz.func122.trans (congrArg some (by kernel_rfl))⟩
 t4:=Tryz.underlying4
 a4:=Tryz.isAgg4
 z4:=Tryz.sizeOf4
 v4:=Tryz.zeroValue4
 t22:=Tryz.underlying35
 a22:=Tryz.isAgg35
 z22:=Tryz.sizeOf35
 v22:=Tryz.zeroValue35 }
open Go.RowKit Go.Lib in
theorem Tryz.slices_CloneR (i0:TypeInfo) (z:Value) (size bytes:Nat) (hi:Tryz.prog.info? 82=some i0) (hz0:i0.zero=some z) (hz1:i0.size=size) (hz2:i0.bytes=bytes) (hzs:z.cells.size=size) (hsz:0<size) (z23:∀ w,(Go.sizeOf 82).run Tryz.prog w=.ok size w) (b off n c:Nat) (news:List Value) (w:World) (hl:news.length=n*size) (hn:n≤maxLen) (hbig:n*bytes≤140737488355328) (hc:∀ j u,news[j]?=some u→w.cell? ⟨b,off+j,none⟩=some u) (h1:∀ u∈news,u.oneCell'=true) :
  Calls Tryz.prog 122 #[.slice (some ⟨b,off,none⟩) n c] w fun e w'=>∃ v',e=.returned v'∧w'.ownsRow w.heap.size 82 size v' n news∧v'≠.slice none 0 0∧Below w.heap.size w w':=AnyE.slices_Clone Tryz.laysSlE041_f122 i0 z size bytes hi hz0 hz1 hz2 hzs hsz z23 b off n c news w hl hn hbig hc h1
end Go.Proofs
