import Derived.Test.YtcalalndmcemiaaGreatDoorC01
import Derived.Shelf.Small.Bits
import Derived.Shelf.Small.Wraps
import Derived.Shelf.Strconv.Itoa3
import Derived.Shelf.Strconv.Clone
import Derived.Shelf.Pu.ParseUintPublic10
import Derived.Shelf.Sort.Plain
import Derived.Shelf.Slices.In.SortNone2
import Derived.Shelf.SlicesE.Clone
set_option maxHeartbeats 4000000
set_option maxRecDepth 100000
namespace Go.Proofs.YtcalalndmcemiaaGreatDoor
open Go.RowKit Go.Maps Tryz
section
open Go.Extern Go.Extern.Stop Go.Stop
variable{w:World}
def Met(w:World):Prop:=w.cell? ⟨0,0,none⟩=some (.iface 248 (.agg #[.pointer (some ⟨6,82,none⟩)]))
theorem Met.lt(h:Met w):0<w.heap.size:=zzF w ⟨0,0,none⟩ h
theorem Met.below{w':World}{B:Nat}(h:Met w)(hb:Below B w w')(a:0<B):Met w':=(hb.cell (p:=⟨0,0,none⟩) a).trans h
theorem Wc(n:Int)(t:Addr)(o:Value)(w:World)(g:Met w)(h:w.cell? t=some o)(u:w.frozen? t=false):
  Calls prog 60 #[.iface 44 (.int .i64 n),.iface 130 (.pointer (some t))] w λv w'=>v=.returned (.bool true)/\w'=((((w.alloc (.cells #[.pointer (some t)] 130)).alloc (.cells #[.pointer (some ⟨6,130,none⟩),.pointer (some ⟨w.heap.size,0,none⟩),.int .u64 150] 187)).alloc (.cells #[.pointer (some ⟨6,130,none⟩),.pointer (some ⟨w.heap.size,0,none⟩),.int .u64 150] 187)).alloc (.cells #[.int .i64 n] 44)).setCell t (.int .i64 n):=by
 have q:=@run_callFunc_extern prog 101 _ (λargs=>ReflectliteValue.unpack (args.getD 0 (.tuple #[]))) func101 (by kernel_rfl) (by kernel_rfl) (by kernel_rfl) (by kernel_rfl);have r:=@run_callFunc_extern prog 102 _ (ReflectliteValue.methodAny (ReflectliteValue.valueError "reflectlite.Value.Type" 0) (λt _ _ _=>ReflectliteType.toType t)) func102 (by kernel_rfl) (by kernel_rfl) (by kernel_rfl) (by kernel_rfl);have s:=@run_callFunc_extern prog 103 _ (ReflectliteValue.method (ReflectliteValue.valueError "reflectlite.Value.IsNil" 0) ReflectliteValue.isNil) func103 (by kernel_rfl) (by kernel_rfl) (by kernel_rfl) (by kernel_rfl);have j:=@run_callFunc_extern prog 376 _ (ReflectliteType.abiMethod λt=>do pure (.int .u8 (<-Rtype.kind t))) func376 (by kernel_rfl) (by kernel_rfl) (by kernel_rfl) (by kernel_rfl);have m:=@run_callFunc_extern prog 397 _ (ReflectliteType.method ReflectliteType.elem) func397 (by kernel_rfl) (by kernel_rfl) (by kernel_rfl) (by kernel_rfl);have p:=@run_callFunc_extern prog 398 _ (ReflectliteType.relation "Implements" ReflectliteType.implements_) func398 (by kernel_rfl) (by kernel_rfl) (by kernel_rfl) (by kernel_rfl);have V:=@run_callFunc_extern prog 105 _ ReflectliteType.typeOf func105 (by kernel_rfl) (by kernel_rfl) (by kernel_rfl) (by kernel_rfl);have k:=@run_callFunc_extern prog 395 _ (ReflectliteType.relation "AssignableTo" ReflectliteType.assignableTo) func395 (by kernel_rfl) (by kernel_rfl) (by kernel_rfl) (by kernel_rfl)
 have i:=@run_callFunc_extern prog 150 _ (ReflectliteValue.method (ReflectliteValue.valueError "reflectlite.Value.Elem" 0) ReflectliteValue.elem) func150 (by kernel_rfl) (by kernel_rfl) (by kernel_rfl) (by kernel_rfl);have P:=@run_callFunc_extern prog 151 _ ReflectliteValue.set func151 (by kernel_rfl) (by kernel_rfl) (by kernel_rfl) (by kernel_rfl);have O:=Jq;have A:=sy;have a:=DU;have C:=NN;have f:=NL;have b:=ZR;have K:=Gy;have E:=Gz;have I:=uN;have z:=ZS;have y:=ZT;have e:=ZU;have x:=DT;have B:=V9 ⟨w.heap.size,0,none⟩ t ((w.alloc (.cells #[.pointer (some t)] 130)).alloc (.cells #[.pointer (some ⟨6,130,none⟩),.pointer (some ⟨w.heap.size,0,none⟩),.int .u64 150] 187)) (by simp);have U:=g.lt;unfold Met at g
 have c:((w.alloc (.cells #[.pointer (some t)] 130)).alloc (.cells #[.pointer (some ⟨6,130,none⟩),.pointer (some ⟨w.heap.size,0,none⟩),.int .u64 150] 187)).cell? ⟨0,0,none⟩=some (.iface 248 (.agg #[.pointer (some ⟨6,82,none⟩)])):=by
  rw[World.cell?_alloc_lt _ _ ⟨0,0,none⟩ (by simp),World.cell?_alloc_lt _ _ ⟨0,0,none⟩ U];exact g
 have d:t.block<w.heap.size:=zzF w t h;have l:=V_ ⟨w.heap.size,0,none⟩ t (((w.alloc (.cells #[.pointer (some t)] 130)).alloc (.cells #[.pointer (some ⟨6,130,none⟩),.pointer (some ⟨w.heap.size,0,none⟩),.int .u64 150] 187)).alloc (.cells #[.pointer (some ⟨6,130,none⟩),.pointer (some ⟨w.heap.size,0,none⟩),.int .u64 150] 187)) (by rw[World.cell?_alloc_lt _ _ ⟨w.heap.size,0,none⟩ (by simp;omega)];simp)
 have st:=acv t ⟨w.heap.size+1+1+1,0,none⟩ n o ((((w.alloc (.cells #[.pointer (some t)] 130)).alloc (.cells #[.pointer (some ⟨6,130,none⟩),.pointer (some ⟨w.heap.size,0,none⟩),.int .u64 150] 187)).alloc (.cells #[.pointer (some ⟨6,130,none⟩),.pointer (some ⟨w.heap.size,0,none⟩),.int .u64 150] 187)).alloc (.cells #[.int .i64 n] 44))
  (by rw[World.cell?_alloc_at _ _ _ _ (by simp)];rfl)
  (by rw[World.cell?_alloc_lt _ _ t (by simp;omega),World.cell?_alloc_lt _ _ t (by simp;omega),World.cell?_alloc_lt _ _ t (by simp;omega),World.cell?_alloc_lt _ _ t d];exact h)
  (by rw[World.frozen?_alloc_old _ _ t (by simp;omega),World.frozen?_alloc_old _ _ t (by simp;omega),World.frozen?_alloc_old _ _ t (by simp;omega),World.frozen?_alloc_old _ _ t (Nat.ne_of_lt d)];exact u)
 go_enter func60,ntmps60
 go_wp2;refine wp_loop_rounds 1 ?_;rw[rounds_succ];go_wp2;go_ret;exact⟨rfl,rfl⟩
theorem zV(w:World)(d:Nat)(a b:Int):
  (Op.equalIn (d+2) 82 (.iface 44 (.int .i64 a)) (.iface 44 (.int .i64 b))).run prog w=.ok (a==b) w:=by
 have c:(Tryz.prog.info? 44).map (·.comparable)=some true:=by kernel_rfl
 obtain⟨i,h,W⟩:=Option.map_eq_some_iff.1 c;simp[Op.equalIn,run_underlying underlying82,run_underlying underlying44,typeInfo,h,W]
theorem KQ(w:World)(a b:Int):
  (binOp .eql 82 (.iface 44 (.int .i64 a)) (.iface 44 (.int .i64 b))).run prog w=.ok (.bool (a==b)) w:=by
 simp only[binOp];simp[Op.equal,Op.maxDepth,zV w 9998 a b]
theorem Jr(n:Int)(w:World):
  Calls prog 61 #[.iface 44 (.int .i64 n),.iface 44 (.int .i64 n)] w λv w'=>v=.returned (.bool true)/\w'=w:=by
 have V:=@run_callFunc_extern prog 105 _ ReflectliteType.typeOf func105 (by kernel_rfl) (by kernel_rfl) (by kernel_rfl) (by kernel_rfl);have O:=Jq;have C:=uO;have E:=DV;have e:∀w,(binOp .eql 82 (.iface 44 (.int .i64 n)) (.iface 44 (.int .i64 n))).run prog w=.ok (.bool true) w:=λw=>by rw[KQ];simp
 go_enter func61,ntmps61
 go_wp2;refine wp_loop_rounds 1 ?_;rw[rounds_succ];go_wp2;go_ret;exact⟨rfl,rfl⟩
theorem DW(w:World):
  Calls prog 30 #[.nilIface] w λe w'=>e=.returned (.int .i64 0)/\Below w.heap.size w w':=by
 go_enter func30,ntmps30
 go_wp2;go_ret;exact⟨rfl,(zzD _ _).alloc (zzc _) _⟩
theorem DX(n:Int)(w:World)(g:Met w):
  Calls prog 30 #[.iface 44 (.int .i64 n)] w λe w'=>e=.returned (.int .i64 n)/\Below w.heap.size w w':=by
 have U:=g.lt
 have G:Hid (Met (w.alloc (.cells #[.int .i64 0] 44))):=by
  show Met _;unfold Met;rw[World.cell?_alloc_lt _ _ ⟨0,0,none⟩ U];exact g
 clear g
 go_enter func30,ntmps30
 go_wp2_with fail;refine(Wc n ⟨w.heap.size,0,none⟩ (.int .i64 0) _ G.out (by simp) (by simp)).mono ?_;rintro e a ⟨rfl,mY⟩
 have E:Below w.heap.size w a:=by
  rw[mY];exact((((((zzD _ _).alloc (zzc _) _).alloc (by simp) _).alloc (by simp;omega) _).alloc (by simp;omega) _).alloc (by simp;omega) _).setCell (zzc _) _
 have X:a.cell? ⟨w.heap.size,0,none⟩=some (.int .i64 n):=by
  rw[mY];refine World.cell?_setCell_same (u:=.int .i64 0) _ _ _ ?_;rw[World.cell?_alloc_lt _ _ ⟨w.heap.size,0,none⟩ (by simp;omega),World.cell?_alloc_lt _ _ ⟨w.heap.size,0,none⟩ (by simp;omega),World.cell?_alloc_lt _ _ ⟨w.heap.size,0,none⟩ (by simp;omega),World.cell?_alloc_lt _ _ ⟨w.heap.size,0,none⟩ (by simp)];simp
 clear mY
 go_wp2_with (go_at_call 61;refine(Jr n _).mono ?_;rintro e w' ⟨rfl,rfl⟩)
 go_ret;exact⟨rfl,E⟩
end
end Go.Proofs.YtcalalndmcemiaaGreatDoor
namespace Go.Proofs
open Go.Shelf
def Tryz.lays125_ren:Go.Shelf.Ren:=⟨fun | 125=>262 | 128=>302 | 129=>238 | n=>n,fun | 46=>175 | 3=>3 | 51=>271 | 53=>43 | 4=>4 | 5=>5 | 9=>9 | n=>n,fun | n=>n⟩
theorem Tryz.lays125:Go.Proofs.Lays.n125 Tryz.prog Tryz.lays125_ren:={
 mixed:=by kernel_rfl
 f125:=Tryz.func262.trans (congrArg some (by kernel_rfl))
 f128:=Tryz.func302.trans (congrArg some (by kernel_rfl))
 f129:=Tryz.func238.trans (congrArg some (by kernel_rfl))
 t3:=Tryz.underlying3
 a3:=Tryz.isAgg3
 z3:=Tryz.sizeOf3
 v3:=Tryz.zeroValue3
 t4:=Tryz.underlying4
 a4:=Tryz.isAgg4
 z4:=Tryz.sizeOf4
 v4:=Tryz.zeroValue4
 t5:=Tryz.underlying5
 a5:=Tryz.isAgg5
 z5:=Tryz.sizeOf5
 v5:=Tryz.zeroValue5
 t9:=Tryz.underlying9
 a9:=Tryz.isAgg9
 z9:=Tryz.sizeOf9
 v9:=Tryz.zeroValue9
 t46:=Tryz.underlying175
 a46:=Tryz.isAgg175
 z46:=Tryz.sizeOf175
 v46:=Tryz.zeroValue175
 t51:=Tryz.underlying271
 a51:=Tryz.isAgg271
 z51:=Tryz.sizeOf271
 v51:=Tryz.zeroValue271
 t53:=Tryz.underlying43
 a53:=Tryz.isAgg43
 z53:=Tryz.sizeOf43
 v53:=Tryz.zeroValue43 }
theorem Tryz.bits_Len (x:Int) (w:World) (h0:0≤x) (h1:x≤18446744073709551615) :
  Calls Tryz.prog 262 #[.int .u64 x] w fun e w'=>e=.returned (.int .i64 (Lib.bitLen x.toNat))∧w'=w:=Any.bits_Len Tryz.lays125 x w h0 h1
def Tryz.lays283_ren:Go.Shelf.Ren:=⟨fun | 283=>265 | n=>n,fun | 3=>3 | 9=>9 | 4=>4 | n=>n,fun | n=>n⟩
theorem Tryz.lays283:Go.Proofs.Lays.n283 Tryz.prog Tryz.lays283_ren:={
 mixed:=by kernel_rfl
 f283:=Tryz.func265.trans (congrArg some (by kernel_rfl))
 t3:=Tryz.underlying3
 a3:=Tryz.isAgg3
 z3:=Tryz.sizeOf3
 v3:=Tryz.zeroValue3
 t4:=Tryz.underlying4
 a4:=Tryz.isAgg4
 z4:=Tryz.sizeOf4
 v4:=Tryz.zeroValue4
 t9:=Tryz.underlying9
 a9:=Tryz.isAgg9
 z9:=Tryz.sizeOf9
 v9:=Tryz.zeroValue9 }
open Go.Lib in
theorem Tryz.internal_strconv_small (i:Nat) (h:i<100) (w:World) :
  Calls Tryz.prog 265 #[.int .i64 i] w fun e w'=>e=.returned (.string ⟨(Lib.decDigits i).toArray⟩)∧w'=w:=Any.internal_strconv_small Tryz.lays283 i h w
def Tryz.laysM284_ren:Go.Shelf.Ren:=⟨fun | 284=>266 | 129=>238 | 317=>303 | 318=>304 | n=>n,fun | 53=>43 | 3=>3 | 212=>418 | 0=>0 | 4=>4 | 46=>175 | 5=>5 | 9=>9 | n=>n,fun | 17=>1 | n=>n⟩
theorem Tryz.laysM284:Go.Proofs.LaysM.n284 Tryz.prog Tryz.laysM284_ren:={
 mixed:=by kernel_rfl
 f129:=Tryz.func238.trans (congrArg some (by kernel_rfl))
 f284:=Tryz.func266.trans (congrArg some (by kernel_rfl))
 f317:=Tryz.func303.trans (congrArg some (by kernel_rfl))
 f318:=Tryz.func304.trans (congrArg some (by kernel_rfl))
 t0:=Tryz.underlying0
 a0:=Tryz.isAgg0
 z0:=Tryz.sizeOf0
 v0:=Tryz.zeroValue0
 t3:=Tryz.underlying3
 a3:=Tryz.isAgg3
 z3:=Tryz.sizeOf3
 v3:=Tryz.zeroValue3
 t4:=Tryz.underlying4
 a4:=Tryz.isAgg4
 z4:=Tryz.sizeOf4
 v4:=Tryz.zeroValue4
 t5:=Tryz.underlying5
 a5:=Tryz.isAgg5
 z5:=Tryz.sizeOf5
 v5:=Tryz.zeroValue5
 t9:=Tryz.underlying9
 a9:=Tryz.isAgg9
 z9:=Tryz.sizeOf9
 v9:=Tryz.zeroValue9
 t46:=Tryz.underlying175
 a46:=Tryz.isAgg175
 z46:=Tryz.sizeOf175
 v46:=Tryz.zeroValue175
 t53:=Tryz.underlying43
 a53:=Tryz.isAgg43
 z53:=Tryz.sizeOf43
 v53:=Tryz.zeroValue43
 t212:=Tryz.underlying418
 a212:=Tryz.isAgg418
 z212:=Tryz.sizeOf418
 v212:=Tryz.zeroValue418
 g17:=by kernel_rfl
 i0:=by kernel_rfl
 i3:=by kernel_rfl
 i4:=by kernel_rfl
 i5:=by kernel_rfl
 i9:=by kernel_rfl
 i46:=by kernel_rfl
 i53:=by kernel_rfl
 i212:=by kernel_rfl
 m17:=by kernel_rfl }
open Go.Lib in
theorem Tryz.internal_strconv_numDigits (u:Nat) (h1:1≤u) (h2:u<18446744073709551616) (w:World) (htab:Lib.TabIs Tryz.prog w "internal/strconv.uint64pow10" .u64 Lib.pow10Tab) :
  Calls Tryz.prog 266 #[.int .u64 u] w fun e w'=>e=.returned (.int .i64 (Lib.nDigits u))∧w'=w:=Any.internal_strconv_numDigits Tryz.laysM284 u h1 h2 w htab
def Tryz.lays285_ren:Go.Shelf.Ren:=⟨fun | 285=>267 | n=>n,fun | 37=>88 | 53=>43 | 3=>3 | 4=>4 | 51=>271 | 9=>9 | 5=>5 | 0=>0 | n=>n,fun | n=>n⟩
theorem Tryz.lays285:Go.Proofs.Lays.n285 Tryz.prog Tryz.lays285_ren:={
 mixed:=by kernel_rfl
 f285:=Tryz.func267.trans (congrArg some (by kernel_rfl))
 t0:=Tryz.underlying0
 a0:=Tryz.isAgg0
 z0:=Tryz.sizeOf0
 v0:=Tryz.zeroValue0
 t3:=Tryz.underlying3
 a3:=Tryz.isAgg3
 z3:=Tryz.sizeOf3
 v3:=Tryz.zeroValue3
 t4:=Tryz.underlying4
 a4:=Tryz.isAgg4
 z4:=Tryz.sizeOf4
 v4:=Tryz.zeroValue4
 t5:=Tryz.underlying5
 a5:=Tryz.isAgg5
 z5:=Tryz.sizeOf5
 v5:=Tryz.zeroValue5
 t9:=Tryz.underlying9
 a9:=Tryz.isAgg9
 z9:=Tryz.sizeOf9
 v9:=Tryz.zeroValue9
 t37:=Tryz.underlying88
 a37:=Tryz.isAgg88
 z37:=Tryz.sizeOf88
 v37:=Tryz.zeroValue88
 t51:=Tryz.underlying271
 a51:=Tryz.isAgg271
 z51:=Tryz.sizeOf271
 v51:=Tryz.zeroValue271
 t53:=Tryz.underlying43
 a53:=Tryz.isAgg43
 z53:=Tryz.sizeOf43
 v53:=Tryz.zeroValue43 }
open Go.RowKit Go.Sort Go.Lib in
theorem Tryz.internal_strconv_formatBase10 (blk off cap:Nat) (u:Nat) (d:Array UInt8) (w:World) (hH:Holds (fun (b:UInt8)=>Value.int .u8 (b.toNat:Int)) w blk off d) (hu:u<10 ^ d.size) (hu64:u<18446744073709551616) (hsz:d.size<4611686018427387904) :
  Calls Tryz.prog 267 #[.slice (some ⟨blk,off,none⟩) d.size cap,.int .u64 u] w fun e w' =>
   e=.returned (.tuple #[])∧∃ (n v':Nat) (dk:Array UInt8),w'=(putRow (fun (b:UInt8)=>Value.int .u8 (b.toNat:Int)) w blk off dk).drewN n∧FmtInv d.size u 0 v' dk:=Any.internal_strconv_formatBase10 Tryz.lays285 blk off cap u d w hH hu hu64 hsz
def Tryz.laysM316_ren:Go.Shelf.Ren:=⟨fun | 316=>153 | n=>n,fun | 9=>9 | 3=>3 | 4=>4 | 37=>88 | 0=>0 | 127=>323 | 5=>5 | n=>n,fun | n=>n⟩
theorem Tryz.laysM316:Go.Proofs.LaysM.n316 Tryz.prog Tryz.laysM316_ren:={
 mixed:=by kernel_rfl
 f316:=Tryz.func153.trans (congrArg some (by kernel_rfl))
 t0:=Tryz.underlying0
 a0:=Tryz.isAgg0
 z0:=Tryz.sizeOf0
 v0:=Tryz.zeroValue0
 t3:=Tryz.underlying3
 a3:=Tryz.isAgg3
 z3:=Tryz.sizeOf3
 v3:=Tryz.zeroValue3
 t4:=Tryz.underlying4
 a4:=Tryz.isAgg4
 z4:=Tryz.sizeOf4
 v4:=Tryz.zeroValue4
 t9:=Tryz.underlying9
 a9:=Tryz.isAgg9
 z9:=Tryz.sizeOf9
 v9:=Tryz.zeroValue9
 t37:=Tryz.underlying88
 a37:=Tryz.isAgg88
 z37:=Tryz.sizeOf88
 v37:=Tryz.zeroValue88
 t127:=Tryz.underlying323
 a127:=Tryz.isAgg323
 z127:=Tryz.sizeOf323
 v127:=Tryz.zeroValue323
 t5:=Tryz.underlying5
 a5:=Tryz.isAgg5
 z5:=Tryz.sizeOf5
 v5:=Tryz.zeroValue5
 i0:=by kernel_rfl
 i3:=by kernel_rfl
 i4:=by kernel_rfl
 i5:=by kernel_rfl
 i9:=by kernel_rfl
 i37:=by kernel_rfl
 i127:=by kernel_rfl }
open Go.RowKit in
theorem Tryz.stringslite_Clone (s:ByteArray) (w:World) (hlim:s.size≤281474976710656) :
  Calls Tryz.prog 153 #[.string s] w fun e w'=>e=.returned (.string s)∧Below w.heap.size w w':=Any.stringslite_Clone Tryz.laysM316 s w hlim
def Tryz.lays192_ren:Go.Shelf.Ren:=⟨fun | 192=>388 | 190=>254 | 125=>262 | 258=>285 | 128=>302 | 129=>238 | 302=>316 | 303=>317 | 304=>318 | 305=>319 | 306=>320 | 307=>321 | 308=>322 | 309=>323 | 310=>324 | 333=>339 | 329=>328 | 330=>329 | 334=>340 | 335=>341 | 336=>342 | 344=>353 | n=>n,fun | 31=>35 | 0=>0 | 9=>9 | 3=>3 | 46=>175 | 51=>271 | 53=>43 | 4=>4 | 183=>410 | 182=>409 | 131=>292 | 5=>5 | 218=>436 | 222=>439 | 228=>450 | 229=>451 | n=>n,fun | n=>n⟩
theorem Tryz.lays192:Go.Proofs.Lays.n192 Tryz.prog Tryz.lays192_ren:={
 mixed:=by kernel_rfl
 f125:=Tryz.func262.trans (congrArg some (by kernel_rfl))
 f128:=Tryz.func302.trans (congrArg some (by kernel_rfl))
 f129:=Tryz.func238.trans (congrArg some (by kernel_rfl))
 f190:=Tryz.func254.trans (congrArg some (by kernel_rfl))
 f192:=Tryz.func388.trans (congrArg some (by kernel_rfl))
 f258:=Tryz.func285.trans (congrArg some (by kernel_rfl))
 f302:=Tryz.func316.trans (congrArg some (by kernel_rfl))
 f303:=Tryz.func317.trans (congrArg some (by kernel_rfl))
 f304:=Tryz.func318.trans (congrArg some (by kernel_rfl))
 f305:=Tryz.func319.trans (congrArg some (by kernel_rfl))
 f306:=Tryz.func320.trans (congrArg some (by kernel_rfl))
 f307:=Tryz.func321.trans (congrArg some (by kernel_rfl))
 f308:=Tryz.func322.trans (congrArg some (by kernel_rfl))
 f309:=Tryz.func323.trans (congrArg some (by kernel_rfl))
 f310:=Tryz.func324.trans (congrArg some (by kernel_rfl))
 f329:=Tryz.func328.trans (congrArg some (by kernel_rfl))
 f330:=Tryz.func329.trans (congrArg some (by kernel_rfl))
 f333:=Tryz.func339.trans (congrArg some (by kernel_rfl))
 f334:=Tryz.func340.trans (congrArg some (by kernel_rfl))
 f335:=Tryz.func341.trans (congrArg some (by kernel_rfl))
 f336:=Tryz.func342.trans (congrArg some (by kernel_rfl))
 f344:=Tryz.func353.trans (congrArg some (by kernel_rfl))
 t0:=Tryz.underlying0
 a0:=Tryz.isAgg0
 z0:=Tryz.sizeOf0
 v0:=Tryz.zeroValue0
 t3:=Tryz.underlying3
 a3:=Tryz.isAgg3
 z3:=Tryz.sizeOf3
 v3:=Tryz.zeroValue3
 t4:=Tryz.underlying4
 a4:=Tryz.isAgg4
 z4:=Tryz.sizeOf4
 v4:=Tryz.zeroValue4
 t5:=Tryz.underlying5
 a5:=Tryz.isAgg5
 z5:=Tryz.sizeOf5
 v5:=Tryz.zeroValue5
 t9:=Tryz.underlying9
 a9:=Tryz.isAgg9
 z9:=Tryz.sizeOf9
 v9:=Tryz.zeroValue9
 t31:=Tryz.underlying35
 a31:=Tryz.isAgg35
 z31:=Tryz.sizeOf35
 v31:=Tryz.zeroValue35
 t46:=Tryz.underlying175
 a46:=Tryz.isAgg175
 z46:=Tryz.sizeOf175
 v46:=Tryz.zeroValue175
 t51:=Tryz.underlying271
 a51:=Tryz.isAgg271
 z51:=Tryz.sizeOf271
 v51:=Tryz.zeroValue271
 t53:=Tryz.underlying43
 a53:=Tryz.isAgg43
 z53:=Tryz.sizeOf43
 v53:=Tryz.zeroValue43
 t131:=Tryz.underlying292
 a131:=Tryz.isAgg292
 z131:=Tryz.sizeOf292
 v131:=Tryz.zeroValue292
 t182:=Tryz.underlying409
 a182:=Tryz.isAgg409
 z182:=Tryz.sizeOf409
 v182:=Tryz.zeroValue409
 t183:=Tryz.underlying410
 a183:=Tryz.isAgg410
 z183:=Tryz.sizeOf410
 v183:=Tryz.zeroValue410
 t218:=Tryz.underlying436
 a218:=Tryz.isAgg436
 z218:=Tryz.sizeOf436
 v218:=Tryz.zeroValue436
 t222:=Tryz.underlying439
 a222:=Tryz.isAgg439
 z222:=Tryz.sizeOf439
 v222:=Tryz.zeroValue439
 t228:=Tryz.underlying450
 a228:=Tryz.isAgg450
 z228:=Tryz.sizeOf450
 v228:=Tryz.zeroValue450
 t229:=Tryz.underlying451
 a229:=Tryz.isAgg451
 z229:=Tryz.sizeOf451
 v229:=Tryz.zeroValue451 }
open Go.RowKit Go.Sort in
theorem Tryz.sort_Strings_none (p:Option Addr) (cap:Nat) (w:World) :
  Calls Tryz.prog 388 #[.slice p 0 cap] w fun e w'=>e=.returned (.tuple #[])∧w'=w:=Any.sort_Strings_none Tryz.lays192 p cap w
def Tryz.laysSlE041_f139_ren:Go.Shelf.Ren:=⟨fun | 41=>139 | n=>n,fun | 22=>220 | 23=>43 | 4=>4 | n=>n,fun | n=>n⟩
theorem Tryz.laysSlE041_f139:Go.Proofs.SlLaysE0.n41 Tryz.prog Tryz.laysSlE041_f139_ren:={
 mixed:=by kernel_rfl
 f41:=⟨Tryz.f139.name,by decide,Tryz.func139.trans (congrArg some (by kernel_rfl))⟩
 t4:=Tryz.underlying4
 a4:=Tryz.isAgg4
 z4:=Tryz.sizeOf4
 v4:=Tryz.zeroValue4
 t22:=Tryz.underlying220
 a22:=Tryz.isAgg220
 z22:=Tryz.sizeOf220
 v22:=Tryz.zeroValue220 }
open Go.RowKit Go.Lib in
theorem Tryz.slices_Clone (i0:TypeInfo) (z:Value) (size bytes:Nat) (hi:Tryz.prog.info? 43=some i0) (hz0:i0.zero=some z) (hz1:i0.size=size) (hz2:i0.bytes=bytes) (hzs:z.cells.size=size) (hsz:0<size) (z23:∀ w,(Go.sizeOf 43).run Tryz.prog w=.ok size w) (b off n c:Nat) (news:List Value) (w:World) (hl:news.length=n*size) (hn:n≤maxLen) (hbig:n*bytes≤140737488355328) (hc:∀ j u,news[j]?=some u→w.cell? ⟨b,off+j,none⟩=some u) (h1:∀ u∈news,u.oneCell'=true) :
  Calls Tryz.prog 139 #[.slice (some ⟨b,off,none⟩) n c] w fun e w'=>∃ v',e=.returned v'∧w'.ownsRow w.heap.size 43 size v' n news∧v'≠.slice none 0 0∧Below w.heap.size w w':=AnyE.slices_Clone Tryz.laysSlE041_f139 i0 z size bytes hi hz0 hz1 hz2 hzs hsz z23 b off n c news w hl hn hbig hc h1
def Tryz.laysSlE041_f138_ren:Go.Shelf.Ren:=⟨fun | 41=>138 | n=>n,fun | 22=>64 | 23=>110 | 4=>4 | n=>n,fun | n=>n⟩
theorem Tryz.laysSlE041_f138:Go.Proofs.SlLaysE0.n41 Tryz.prog Tryz.laysSlE041_f138_ren:={
 mixed:=by kernel_rfl
 f41:=⟨Tryz.f138.name,by decide,Tryz.func138.trans (congrArg some (by kernel_rfl))⟩
 t4:=Tryz.underlying4
 a4:=Tryz.isAgg4
 z4:=Tryz.sizeOf4
 v4:=Tryz.zeroValue4
 t22:=Tryz.underlying64
 a22:=Tryz.isAgg64
 z22:=Tryz.sizeOf64
 v22:=Tryz.zeroValue64 }
open Go.RowKit Go.Lib in
theorem Tryz.slices_CloneR (i0:TypeInfo) (z:Value) (size bytes:Nat) (hi:Tryz.prog.info? 110=some i0) (hz0:i0.zero=some z) (hz1:i0.size=size) (hz2:i0.bytes=bytes) (hzs:z.cells.size=size) (hsz:0<size) (z23:∀ w,(Go.sizeOf 110).run Tryz.prog w=.ok size w) (b off n c:Nat) (news:List Value) (w:World) (hl:news.length=n*size) (hn:n≤maxLen) (hbig:n*bytes≤140737488355328) (hc:∀ j u,news[j]?=some u→w.cell? ⟨b,off+j,none⟩=some u) (h1:∀ u∈news,u.oneCell'=true) :
  Calls Tryz.prog 138 #[.slice (some ⟨b,off,none⟩) n c] w fun e w'=>∃ v',e=.returned v'∧w'.ownsRow w.heap.size 110 size v' n news∧v'≠.slice none 0 0∧Below w.heap.size w w':=AnyE.slices_Clone Tryz.laysSlE041_f138 i0 z size bytes hi hz0 hz1 hz2 hzs hsz z23 b off n c news w hl hn hbig hc h1
end Go.Proofs
namespace Go.Proofs.YtcalalndmcemiaaGreatDoor
open Go.RowKit Go.Maps Tryz
section
open Sc
def Z5(l:List Nat):Nat:=val (l.take 2)
structure Rec where
 oq:Nat
 kind:Nat
 nH:List Nat
def Z6(l:List Nat):Rec:=⟨val ((l.drop 2).take 8),at_ l 10,(l.drop 11).take (Z5 l)⟩
def st:Nat->List Nat->List Rec × Nat
 |0,_=>([],0)
 |k+1,l=>((st k l).1++[Z6 (l.drop (st k l).2)],(st k l).2+15+Z5 (l.drop (st k l).2))
end
section
open Go.Lib Go.Sort
def bI(w:World):Prop:=Lib.TabIs prog w "internal/strconv.uint64pow10" .u64 Lib.pow10Tab
theorem Wh(w:World)(T:TypeId)(d:Nat)(hs:d<=24):Holds (λ(b:UInt8)=>Value.int .u8 (b.toNat:Int)) (w.alloc<|.cells zeros24 T) w.heap.size 0 (Array.replicate d (0:UInt8)):=λj h=>by
 have c:j<d:=by simpa using h
 refine⟨?_,World.frozen?_alloc_new _ _ _ _⟩;rw[World.cell?_alloc_new,zeros24_at _ bL,getElem!_pos _ j h];simp
theorem tJ{B:Nat}{a w:World}(h:Below B a w):∀k,Below B a<|w.drewN k
 |0=>h
 |k+1=>by
  exact (tJ h k).drew
theorem KY(w:World)(o:Obj)(d:Array UInt8)(k:Nat):Below w.heap.size w ((putRow (λ(b:UInt8)=>Value.int .u8 (b.toNat:Int)) (w.alloc o) w.heap.size 0 d).drewN k):=by
 have h:Below w.heap.size w (putRow (λ(b:UInt8)=>Value.int .u8 (b.toNat:Int)) (w.alloc o) w.heap.size 0 d):=by
  refine⟨rfl,rfl,rfl,bR,λi a=>?_⟩;simp only[putRow,mapBlock,Array.getElem?_modify];rw[if_neg bL];exact zzf _ _ _ a
 exact tJ h k
theorem N2(u:Nat)(w:World)(d:u<18446744073709551616)(g:bI w):
  Calls prog 225 #[.int .u64 (u:Int),.int .i64 10] w λe w'=>e=.returned (.string ⟨(Lib.decDigits u).toArray⟩)/\Below w.heap.size w w':=by
 by_cases hs:u<100
 .have h1:(u:Int)<100:=bL;go_enter func225,ntmps225;go_wp2_with (first|(go_at_call 265;apply(Tryz.internal_strconv_small u hs _).mono;rintro e w' ⟨rfl,rfl⟩));go_ret;exact⟨rfl,zzD _ _⟩
 .have h1:¬(u:Int)<100:=bL;have Z:1<=u:=bL;have l:Lib.nDigits u<=20:=by have:=Lib.numDigits_eq u Z d;split at this<;>omega
  have i:Tryz.prog.arrayLen 387=24:=by simp[Program.arrayLen,underlying387]
  have U:∀W,(Instr.sliceAt 387 (.pointer<|some (gz w.heap.size)) none (some<|.int .i64 (Lib.nDigits u:Int)) none).run prog W=.ok (.slice (some (gz w.heap.size)) (Lib.nDigits u) 24) W:=λW=>by
   rw[run_sliceAt_array_h W 387 (gz w.heap.size) (by simp[Program.arrayLen,Program.elem,underlying387]) .i64 (Lib.nDigits u:Int) bL<|by rw[i];omega];go_simp
  have a:=Wh w 387 (Lib.nDigits u) bL;have f:=Tryz.internal_strconv_formatBase10 w.heap.size 0 24 u (Array.replicate (Lib.nDigits u) 0) (w.alloc<|.cells Lib.zeros24 387) a (by rw[Array.size_replicate];exact Lib.lt_pow_nDigits u) d (by rw[Array.size_replicate];omega);rw[Array.size_replicate]at f;have H:=Lib.hid a;clear a i;go_enter func225,ntmps225;go_wp2_with (first|(go_at_call 266;apply(Tryz.internal_strconv_numDigits u Z d _<|Lib.tabIs_alloc g _).mono;rintro e w' ⟨rfl,rfl⟩));go_at_call 267;apply f.mono;rintro e w' ⟨rfl,k,v',dk,rfl,hF⟩;have v:(convert 88 9<|.slice (some (gz w.heap.size)) (Lib.nDigits u) 24).run prog ((putRow (λ(b:UInt8)=>Value.int .u8 (b.toNat:Int)) (w.alloc<|.cells Lib.zeros24 387) w.heap.size 0 dk).drewN k)=.ok (.string ⟨(Lib.decDigits u).toArray⟩) ((putRow (λ(b:UInt8)=>Value.int .u8 (b.toNat:Int)) (w.alloc<|.cells Lib.zeros24 387) w.heap.size 0 dk).drewN k):=by
   have h:=run_convert_bytes_back ((putRow (λ(b:UInt8)=>Value.int .u8 (b.toNat:Int)) (w.alloc (.cells Lib.zeros24 387)) w.heap.size 0 dk).drewN k) 88 9 5 (gz w.heap.size) 24 (Lib.decDigits u) underlying88 underlying5 underlying9 (λj c=>by
    rw[Lib.row_is_numeral hF j c,Lib.add_plain,World.cell?_drewN];exact cell?_putRow (λ(b:UInt8)=>Value.int .u8 (b.toNat:Int)) _ w.heap.size 0 _ dk H.out (by rw[hF.size,Array.size_replicate]) j (by rw[hF.size];rw[Lib.decDigits_length]at c;exact c))
   rw[Lib.decDigits_length]at h;exact h
  go_wp2;go_ret;exact⟨rfl,KY w _ dk k⟩
theorem KZ(u:Nat)(w:World)(h:u<18446744073709551616)(b:bI w):
  Calls prog 178 #[.int .u64 (u:Int),.int .i64 10] w λe w'=>e=.returned (.string ⟨(Lib.decDigits u).toArray⟩)/\Below w.heap.size w w':=by
 go_enter func178,ntmps178;go_wp2_with fail;apply(N2 u w h b).mono;rintro e a ⟨rfl,hb⟩;go_wp2;go_ret;exact⟨rfl,hb⟩
def aN(u:Nat):ByteArray:=⟨#[115,101,103,109,101,110,116,45]⟩++⟨(Lib.decDigits u).toArray⟩
theorem oC(u:Nat)(a:u<18446744073709551616):(aN u).size<=28:=by
 have Z:(Lib.decDigits u).length<=20:=by
  rw[Lib.decDigits_length];by_cases h:1<=u
  .have:=Lib.numDigits_eq u h a;split at this<;>omega
  .obtain rfl:u=0:=bL;rw[Lib.nDigits_small bL];omega
 unfold aN;rw[ByteArray.size_append];show 8+(Lib.decDigits u).toArray.size<=28;simp;omega
theorem pj(u:Nat)(w:World)(h:u<18446744073709551616)(b:bI w):
  Calls prog 132 #[.int .u64 (u:Int)] w λe w'=>e=.returned (.string<|aN u)/\Below w.heap.size w w':=by
 go_enter func132,ntmps132;go_wp2_with fail;apply(KZ u w h b).mono;rintro e a ⟨rfl,hb⟩;have z:=oC u h;unfold aN at z;rw[ByteArray.size_append]at z;have Q:¬9223372036854775807<(⟨#[115,101,103,109,101,110,116,45]⟩:ByteArray).size+(⟨(Lib.decDigits u).toArray⟩:ByteArray).size:=bL;go_wp2;all_goals first
  |(go_ret;exact⟨rfl,hb⟩)
  |(exfalso;rename_i hh;exact Q hh)
end
end Go.Proofs.YtcalalndmcemiaaGreatDoor
