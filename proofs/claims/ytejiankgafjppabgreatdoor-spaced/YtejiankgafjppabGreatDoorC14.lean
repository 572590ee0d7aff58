import Derived.Test.YtejiankgafjppabGreatDoorProg
import Derived.Shelf.Small.Bits
import Derived.Shelf.Small.Wraps
import Derived.Shelf.Strconv.Itoa0
import Derived.Shelf.Strconv.Itoa1
import Derived.Shelf.LaysM
import Derived.Shelf.Strconv.Itoa2
import Derived.Shelf.Strconv.Itoa3
import Derived.Shelf.Strconv.Clone
import Derived.Ground.MpProg
import Derived.Shelf.Pu.ParseUintPublic10
import Derived.Shelf.Sort.Plain
import Derived.Shelf.Strings.Prefix
import Derived.Shelf.Slices.In.SortNone
import Derived.Shelf.Slices.In.SortNone2
import Derived.Ground.SlgnProg
import Derived.Shelf.SlicesE.Clone
import Derived.Test.YtejiankgafjppabGreatDoorC01
import Derived.Lib.ItoaMem
import Derived.BigCall
import Derived.BigGuard
import Derived.Test.YtejiankgafjppabGreatDoorC13
import Derived.Test.YtejiankgafjppabGreatDoorC05
namespace Go.Proofs
open Go.Shelf
def Tryz.lays125_ren : Go.Shelf.Ren := ⟨fun | 125 => 254 | 128 => 306 | 129 => 228 | n => n, fun | 46 => 254 | 3 => 3 | 51 => 329 | 53 => 28 | 4 => 4 | 5 => 5 | 9 => 9 | n => n, fun | n => n⟩
theorem Tryz.lays125 : Go.Proofs.Lays.n125 Tryz.prog Tryz.lays125_ren := {
  mixed := by kernel_rfl
  f125 := Tryz.func254.trans (congrArg some (by kernel_rfl))
  f128 := Tryz.func306.trans (congrArg some (by kernel_rfl))
  f129 := Tryz.func228.trans (congrArg some (by kernel_rfl))
  t3 := Tryz.underlying3
  a3 := Tryz.isAgg3
  z3 := Tryz.sizeOf3
  v3 := Tryz.zeroValue3
  t4 := Tryz.underlying4
  a4 := Tryz.isAgg4
  z4 := Tryz.sizeOf4
  v4 := Tryz.zeroValue4
  t5 := Tryz.underlying5
  a5 := Tryz.isAgg5
  z5 := Tryz.sizeOf5
  v5 := Tryz.zeroValue5
  t9 := Tryz.underlying9
  a9 := Tryz.isAgg9
  z9 := Tryz.sizeOf9
  v9 := Tryz.zeroValue9
  t46 := Tryz.underlying254
  a46 := Tryz.isAgg254
  z46 := Tryz.sizeOf254
  v46 := Tryz.zeroValue254
  t51 := Tryz.underlying329
  a51 := Tryz.isAgg329
  z51 := Tryz.sizeOf329
  v51 := Tryz.zeroValue329
  t53 := Tryz.underlying28
  a53 := Tryz.isAgg28
  z53 := Tryz.sizeOf28
  v53 := Tryz.zeroValue28 }
theorem Tryz.bits_Len (x : Int) (w : World) (h0 : 0 ≤ x) (h1 : x ≤ 18446744073709551615) :
    Calls Tryz.prog 254 #[.int .u64 x] w fun e w' => e = .returned (.int .i64 (Lib.bitLen x.toNat)) ∧ w' = w := Any.bits_Len Tryz.lays125 x w h0 h1
def Tryz.lays103_ren : Go.Shelf.Ren := ⟨fun | 103 => 239 | 210 => 289 | 206 => 337 | n => n, fun | 9 => 9 | 4 => 4 | 24 => 79 | 3 => 3 | n => n, fun | n => n⟩
theorem Tryz.lays103 : Go.Proofs.Lays.n103 Tryz.prog Tryz.lays103_ren := {
  mixed := by kernel_rfl
  f103 := Tryz.func239.trans (congrArg some (by kernel_rfl))
  f206 := Tryz.func337.trans (congrArg some (by kernel_rfl))
  f210 := Tryz.func289.trans (congrArg some (by kernel_rfl))
  t3 := Tryz.underlying3
  a3 := Tryz.isAgg3
  z3 := Tryz.sizeOf3
  v3 := Tryz.zeroValue3
  t4 := Tryz.underlying4
  a4 := Tryz.isAgg4
  z4 := Tryz.sizeOf4
  v4 := Tryz.zeroValue4
  t9 := Tryz.underlying9
  a9 := Tryz.isAgg9
  z9 := Tryz.sizeOf9
  v9 := Tryz.zeroValue9
  t24 := Tryz.underlying79
  a24 := Tryz.isAgg79
  z24 := Tryz.sizeOf79
  v24 := Tryz.zeroValue79 }
open Go.RowKit in
theorem Tryz.strings_CutPrefix (s p : ByteArray) (w : World) :
    Calls Tryz.prog 239 #[.string s, .string p] w fun e w' => e = .returned (.tuple #[.string ⟨(Lib.trimPrefix s.data.toList p.data.toList).toArray⟩, .bool (Lib.hasPrefix s.data.toList p.data.toList)]) ∧ w' = w := Any.strings_CutPrefix Tryz.lays103 s p w
def Tryz.lays283_ren : Go.Shelf.Ren := ⟨fun | 283 => 324 | n => n, fun | 3 => 3 | 9 => 9 | 4 => 4 | n => n, fun | n => n⟩
theorem Tryz.lays283 : Go.Proofs.Lays.n283 Tryz.prog Tryz.lays283_ren := {
  mixed := by kernel_rfl
  f283 := Tryz.func324.trans (congrArg some (by kernel_rfl))
  t3 := Tryz.underlying3
  a3 := Tryz.isAgg3
  z3 := Tryz.sizeOf3
  v3 := Tryz.zeroValue3
  t4 := Tryz.underlying4
  a4 := Tryz.isAgg4
  z4 := Tryz.sizeOf4
  v4 := Tryz.zeroValue4
  t9 := Tryz.underlying9
  a9 := Tryz.isAgg9
  z9 := Tryz.sizeOf9
  v9 := Tryz.zeroValue9 }
open Go.Lib in
theorem Tryz.internal_strconv_small (i : Nat) (h : i < 100) (w : World) :
    Calls Tryz.prog 324 #[.int .i64 i] w fun e w' => e = .returned (.string ⟨(Lib.decDigits i).toArray⟩) ∧ w' = w := Any.internal_strconv_small Tryz.lays283 i h w
def Tryz.laysM284_ren : Go.Shelf.Ren := ⟨fun | 284 => 325 | 129 => 228 | 317 => 355 | 318 => 356 | n => n, fun | 53 => 28 | 3 => 3 | 212 => 455 | 0 => 0 | 4 => 4 | 46 => 254 | 5 => 5 | 9 => 9 | n => n, fun | 17 => 1 | n => n⟩
theorem Tryz.laysM284 : Go.Proofs.LaysM.n284 Tryz.prog Tryz.laysM284_ren := {
  mixed := by kernel_rfl
  f129 := Tryz.func228.trans (congrArg some (by kernel_rfl))
  f284 := Tryz.func325.trans (congrArg some (by kernel_rfl))
  f317 := Tryz.func355.trans (congrArg some (by kernel_rfl))
  f318 := Tryz.func356.trans (congrArg some (by kernel_rfl))
  t0 := Tryz.underlying0
  a0 := Tryz.isAgg0
  z0 := Tryz.sizeOf0
  v0 := Tryz.zeroValue0
  t3 := Tryz.underlying3
  a3 := Tryz.isAgg3
  z3 := Tryz.sizeOf3
  v3 := Tryz.zeroValue3
  t4 := Tryz.underlying4
  a4 := Tryz.isAgg4
  z4 := Tryz.sizeOf4
  v4 := Tryz.zeroValue4
  t5 := Tryz.underlying5
  a5 := Tryz.isAgg5
  z5 := Tryz.sizeOf5
  v5 := Tryz.zeroValue5
  t9 := Tryz.underlying9
  a9 := Tryz.isAgg9
  z9 := Tryz.sizeOf9
  v9 := Tryz.zeroValue9
  t46 := Tryz.underlying254
  a46 := Tryz.isAgg254
  z46 := Tryz.sizeOf254
  v46 := Tryz.zeroValue254
  t53 := Tryz.underlying28
  a53 := Tryz.isAgg28
  z53 := Tryz.sizeOf28
  v53 := Tryz.zeroValue28
  t212 := Tryz.underlying455
  a212 := Tryz.isAgg455
  z212 := Tryz.sizeOf455
  v212 := Tryz.zeroValue455
  g17 := by kernel_rfl
  i0 := by kernel_rfl
  i3 := by kernel_rfl
  i4 := by kernel_rfl
  i5 := by kernel_rfl
  i9 := by kernel_rfl
  i46 := by kernel_rfl
  i53 := by kernel_rfl
  i212 := by kernel_rfl
  m17 := by kernel_rfl }
open Go.Lib in
theorem Tryz.internal_strconv_numDigits (u : Nat) (h1 : 1 ≤ u) (h2 : u < 18446744073709551616) (w : World) (htab : Lib.TabIs Tryz.prog w "internal/strconv.uint64pow10" .u64 Lib.pow10Tab) :
    Calls Tryz.prog 325 #[.int .u64 u] w fun e w' => e = .returned (.int .i64 (Lib.nDigits u)) ∧ w' = w := Any.internal_strconv_numDigits Tryz.laysM284 u h1 h2 w htab
def Tryz.lays285_ren : Go.Shelf.Ren := ⟨fun | 285 => 326 | n => n, fun | 37 => 29 | 53 => 28 | 3 => 3 | 4 => 4 | 51 => 329 | 9 => 9 | 5 => 5 | 0 => 0 | n => n, fun | n => n⟩
theorem Tryz.lays285 : Go.Proofs.Lays.n285 Tryz.prog Tryz.lays285_ren := {
  mixed := by kernel_rfl
  f285 := Tryz.func326.trans (congrArg some (by kernel_rfl))
  t0 := Tryz.underlying0
  a0 := Tryz.isAgg0
  z0 := Tryz.sizeOf0
  v0 := Tryz.zeroValue0
  t3 := Tryz.underlying3
  a3 := Tryz.isAgg3
  z3 := Tryz.sizeOf3
  v3 := Tryz.zeroValue3
  t4 := Tryz.underlying4
  a4 := Tryz.isAgg4
  z4 := Tryz.sizeOf4
  v4 := Tryz.zeroValue4
  t5 := Tryz.underlying5
  a5 := Tryz.isAgg5
  z5 := Tryz.sizeOf5
  v5 := Tryz.zeroValue5
  t9 := Tryz.underlying9
  a9 := Tryz.isAgg9
  z9 := Tryz.sizeOf9
  v9 := Tryz.zeroValue9
  t37 := Tryz.underlying29
  a37 := Tryz.isAgg29
  z37 := Tryz.sizeOf29
  v37 := Tryz.zeroValue29
  t51 := Tryz.underlying329
  a51 := Tryz.isAgg329
  z51 := Tryz.sizeOf329
  v51 := Tryz.zeroValue329
  t53 := Tryz.underlying28
  a53 := Tryz.isAgg28
  z53 := Tryz.sizeOf28
  v53 := Tryz.zeroValue28 }
open Go.RowKit Go.Sort Go.Lib in
theorem Tryz.internal_strconv_formatBase10 (blk off cap : Nat) (u : Nat) (d : Array UInt8) (w : World) (hH : Holds (fun (b : UInt8) => Value.int .u8 (b.toNat : Int)) w blk off d) (hu : u < 10 ^ d.size) (hu64 : u < 18446744073709551616) (hsz : d.size < 4611686018427387904) :
    Calls Tryz.prog 326 #[.slice (some ⟨blk, off, none⟩) d.size cap, .int .u64 u] w fun e w' =>
      e = .returned (.tuple #[]) ∧ ∃ (n v' : Nat) (dk : Array UInt8), w' = (putRow (fun (b : UInt8) => Value.int .u8 (b.toNat : Int)) w blk off dk).drewN n ∧ FmtInv d.size u 0 v' dk := Any.internal_strconv_formatBase10 Tryz.lays285 blk off cap u d w hH hu hu64 hsz
def Tryz.laysM316_ren : Go.Shelf.Ren := ⟨fun | 316 => 172 | n => n, fun | 9 => 9 | 3 => 3 | 4 => 4 | 37 => 29 | 0 => 0 | 127 => 352 | 5 => 5 | n => n, fun | n => n⟩
theorem Tryz.laysM316 : Go.Proofs.LaysM.n316 Tryz.prog Tryz.laysM316_ren := {
  mixed := by kernel_rfl
  f316 := Tryz.func172.trans (congrArg some (by kernel_rfl))
  t0 := Tryz.underlying0
  a0 := Tryz.isAgg0
  z0 := Tryz.sizeOf0
  v0 := Tryz.zeroValue0
  t3 := Tryz.underlying3
  a3 := Tryz.isAgg3
  z3 := Tryz.sizeOf3
  v3 := Tryz.zeroValue3
  t4 := Tryz.underlying4
  a4 := Tryz.isAgg4
  z4 := Tryz.sizeOf4
  v4 := Tryz.zeroValue4
  t9 := Tryz.underlying9
  a9 := Tryz.isAgg9
  z9 := Tryz.sizeOf9
  v9 := Tryz.zeroValue9
  t37 := Tryz.underlying29
  a37 := Tryz.isAgg29
  z37 := Tryz.sizeOf29
  v37 := Tryz.zeroValue29
  t127 := Tryz.underlying352
  a127 := Tryz.isAgg352
  z127 := Tryz.sizeOf352
  v127 := Tryz.zeroValue352
  t5 := Tryz.underlying5
  a5 := Tryz.isAgg5
  z5 := Tryz.sizeOf5
  v5 := Tryz.zeroValue5
  i0 := by kernel_rfl
  i3 := by kernel_rfl
  i4 := by kernel_rfl
  i5 := by kernel_rfl
  i9 := by kernel_rfl
  i37 := by kernel_rfl
  i127 := by kernel_rfl }
open Go.RowKit in
theorem Tryz.stringslite_Clone (s : ByteArray) (w : World) (hlim : s.size ≤ 281474976710656) :
    Calls Tryz.prog 172 #[.string s] w fun e w' => e = .returned (.string s) ∧ Below w.heap.size w w' := Any.stringslite_Clone Tryz.laysM316 s w hlim
def Tryz.laysPu14_ren : Go.Shelf.Ren := ⟨fun | 14 => 240 | 16 => 290 | 17 => 291 | 19 => 338 | 20 => 339 | 21 => 340 | 22 => 341 | 23 => 342 | 24 => 343 | 25 => 172 | 27 => 363 | 26 => 362 | 28 => 372 | 29 => 377 | 30 => 324 | 31 => 325 | 32 => 326 | 33 => 327 | 35 => 228 | 34 => 355 | 36 => 356 | 37 => 357 | 38 => 358 | 39 => 369 | 40 => 370 | n => n, fun | 9 => 9 | 3 => 3 | 22 => 28 | 24 => 90 | 25 => 112 | 4 => 4 | 34 => 440 | 5 => 5 | 36 => 254 | 37 => 29 | 0 => 0 | 39 => 442 | 21 => 21 | 44 => 460 | 47 => 352 | 50 => 470 | 48 => 468 | 2 => 2 | 52 => 429 | 55 => 431 | 59 => 455 | 60 => 329 | 20 => 20 | 61 => 456 | 65 => 474 | 66 => 475 | 67 => 379 | n => n, fun | 0 => 2 | 1 => 3 | 2 => 1 | 3 => 4 | 4 => 5 | n => n⟩
theorem Tryz.laysPu14 : Go.Proofs.LaysPu.n14 Tryz.prog Tryz.laysPu14_ren := {
  mixed := by kernel_rfl
  f14 := Tryz.func240.trans (congrArg some (by kernel_rfl))
  f16 := Tryz.func290.trans (congrArg some (by kernel_rfl))
  f17 := Tryz.func291.trans (congrArg some (by kernel_rfl))
  f19 := Tryz.func338.trans (congrArg some (by kernel_rfl))
  f20 := Tryz.func339.trans (congrArg some (by kernel_rfl))
  f21 := Tryz.func340.trans (congrArg some (by kernel_rfl))
  f22 := Tryz.func341.trans (congrArg some (by kernel_rfl))
  f23 := Tryz.func342.trans (congrArg some (by kernel_rfl))
  f24 := Tryz.func343.trans (congrArg some (by kernel_rfl))
  f25 := Tryz.func172.trans (congrArg some (by kernel_rfl))
  f26 := Tryz.func362.trans (congrArg some (by kernel_rfl))
  f27 := Tryz.func363.trans (congrArg some (by kernel_rfl))
  f28 := Tryz.func372.trans (congrArg some (by kernel_rfl))
  f29 := Tryz.func377.trans (congrArg some (by kernel_rfl))
  f30 := Tryz.func324.trans (congrArg some (by kernel_rfl))
  f31 := Tryz.func325.trans (congrArg some (by kernel_rfl))
  f32 := Tryz.func326.trans (congrArg some (by kernel_rfl))
  f33 := Tryz.func327.trans (congrArg some (by kernel_rfl))
  f34 := Tryz.func355.trans (congrArg some (by kernel_rfl))
  f35 := Tryz.func228.trans (congrArg some (by kernel_rfl))
  f36 := Tryz.func356.trans (congrArg some (by kernel_rfl))
  f37 := Tryz.func357.trans (congrArg some (by kernel_rfl))
  f38 := Tryz.func358.trans (congrArg some (by kernel_rfl))
  f39 := Tryz.func369.trans (congrArg some (by kernel_rfl))
  f40 := Tryz.func370.trans (congrArg some (by kernel_rfl))
  t0 := Tryz.underlying0
  a0 := Tryz.isAgg0
  z0 := Tryz.sizeOf0
  v0 := Tryz.zeroValue0
  i0 := by kernel_rfl
  t2 := Tryz.underlying2
  a2 := Tryz.isAgg2
  z2 := Tryz.sizeOf2
  v2 := Tryz.zeroValue2
  i2 := by kernel_rfl
  t3 := Tryz.underlying3
  a3 := Tryz.isAgg3
  z3 := Tryz.sizeOf3
  v3 := Tryz.zeroValue3
  i3 := by kernel_rfl
  t4 := Tryz.underlying4
  a4 := Tryz.isAgg4
  z4 := Tryz.sizeOf4
  v4 := Tryz.zeroValue4
  i4 := by kernel_rfl
  t5 := Tryz.underlying5
  a5 := Tryz.isAgg5
  z5 := Tryz.sizeOf5
  v5 := Tryz.zeroValue5
  i5 := by kernel_rfl
  t9 := Tryz.underlying9
  a9 := Tryz.isAgg9
  z9 := Tryz.sizeOf9
  v9 := Tryz.zeroValue9
  i9 := by kernel_rfl
  t20 := Tryz.underlying20
  a20 := Tryz.isAgg20
  z20 := Tryz.sizeOf20
  v20 := Tryz.zeroValue20
  i20 := by kernel_rfl
  t21 := Tryz.underlying21
  a21 := Tryz.isAgg21
  z21 := Tryz.sizeOf21
  v21 := Tryz.zeroValue21
  i21 := by kernel_rfl
  t22 := Tryz.underlying28
  a22 := Tryz.isAgg28
  z22 := Tryz.sizeOf28
  v22 := Tryz.zeroValue28
  i22 := by kernel_rfl
  t24 := Tryz.underlying90
  a24 := Tryz.isAgg90
  z24 := Tryz.sizeOf90
  v24 := Tryz.zeroValue90
  i24 := by kernel_rfl
  t25 := Tryz.underlying112
  a25 := Tryz.isAgg112
  z25 := Tryz.sizeOf112
  v25 := Tryz.zeroValue112
  i25 := by kernel_rfl
  t34 := Tryz.underlying440
  a34 := Tryz.isAgg440
  z34 := Tryz.sizeOf440
  v34 := Tryz.zeroValue440
  i34 := by kernel_rfl
  c34 := by kernel_rfl
  t36 := Tryz.underlying254
  a36 := Tryz.isAgg254
  z36 := Tryz.sizeOf254
  v36 := Tryz.zeroValue254
  i36 := by kernel_rfl
  t37 := Tryz.underlying29
  a37 := Tryz.isAgg29
  z37 := Tryz.sizeOf29
  v37 := Tryz.zeroValue29
  i37 := by kernel_rfl
  t39 := Tryz.underlying442
  a39 := Tryz.isAgg442
  z39 := Tryz.sizeOf442
  v39 := Tryz.zeroValue442
  i39 := by kernel_rfl
  t44 := Tryz.underlying460
  a44 := Tryz.isAgg460
  z44 := Tryz.sizeOf460
  v44 := Tryz.zeroValue460
  i44 := by kernel_rfl
  t47 := Tryz.underlying352
  a47 := Tryz.isAgg352
  z47 := Tryz.sizeOf352
  v47 := Tryz.zeroValue352
  i47 := by kernel_rfl
  t48 := Tryz.underlying468
  a48 := Tryz.isAgg468
  z48 := Tryz.sizeOf468
  v48 := Tryz.zeroValue468
  i48 := by kernel_rfl
  t50 := Tryz.underlying470
  a50 := Tryz.isAgg470
  z50 := Tryz.sizeOf470
  v50 := Tryz.zeroValue470
  i50 := by kernel_rfl
  t52 := Tryz.underlying429
  a52 := Tryz.isAgg429
  z52 := Tryz.sizeOf429
  v52 := Tryz.zeroValue429
  i52 := by kernel_rfl
  t55 := Tryz.underlying431
  a55 := Tryz.isAgg431
  z55 := Tryz.sizeOf431
  v55 := Tryz.zeroValue431
  i55 := by kernel_rfl
  t59 := Tryz.underlying455
  a59 := Tryz.isAgg455
  z59 := Tryz.sizeOf455
  v59 := Tryz.zeroValue455
  i59 := by kernel_rfl
  t60 := Tryz.underlying329
  a60 := Tryz.isAgg329
  z60 := Tryz.sizeOf329
  v60 := Tryz.zeroValue329
  i60 := by kernel_rfl
  t61 := Tryz.underlying456
  a61 := Tryz.isAgg456
  z61 := Tryz.sizeOf456
  t65 := Tryz.underlying474
  a65 := Tryz.isAgg474
  z65 := Tryz.sizeOf474
  v65 := Tryz.zeroValue474
  i65 := by kernel_rfl
  t66 := Tryz.underlying475
  a66 := Tryz.isAgg475
  z66 := Tryz.sizeOf475
  v66 := Tryz.zeroValue475
  i66 := by kernel_rfl
  t67 := Tryz.underlying379
  a67 := Tryz.isAgg379
  z67 := Tryz.sizeOf379
  v67 := Tryz.zeroValue379
  i67 := by kernel_rfl
  g0 := by kernel_rfl
  m0 := by kernel_rfl
  g1 := by kernel_rfl
  m1 := by kernel_rfl
  g2 := by kernel_rfl
  m2 := by kernel_rfl
  g3 := by kernel_rfl
  m3 := by kernel_rfl
  g4 := by kernel_rfl
  m4 := by kernel_rfl }
open Go.RowKit in
theorem Tryz.strconv_ParseUint_10_at64_ok (s : ByteArray) (hmax : s.size ≤ 9223372036854775806) (u : Nat) (h : Lib.parseUintB 64 s.data.toList = .ok u) (w : World) :
    Calls Tryz.prog 240 #[.string s, .int .i64 10, .int .i64 64] w fun e w' => e = .returned (.tuple #[.int .u64 u, .nilIface]) ∧ (w' = w ∨ w' = Lib.bytesWorld w 5 s) := Any.strconv_ParseUint_10_at64_ok Tryz.laysPu14 s hmax u h w
open Go.RowKit in
theorem Tryz.strconv_ParseUint_10_at64_syntax (s : ByteArray) (hlim : s.size ≤ 281474976710656) (h : Lib.parseUintB 64 s.data.toList = .«syntax») (ev : Value) (w : World) (hv : w.cell? ⟨2, 0, none⟩ = some ev) (hev : ev = .nilIface ∨ ∃ te pe, ev = .iface te pe) :
    Calls Tryz.prog 240 #[.string s, .int .i64 10, .int .i64 64] w fun e w' => ∃ N, e = .returned (.tuple #[.int .u64 0, .iface 442 (.pointer (some ⟨N, 0, none⟩))]) ∧ w.heap.size ≤ N ∧ w'.heap[N]? = some (.cells #[.string ⟨#[80, 97, 114, 115, 101, 85, 105, 110, 116]⟩, .string s, ev] 460 (0, 0)) ∧ Below w.heap.size w w' := Any.strconv_ParseUint_10_at64_syntax Tryz.laysPu14 s hlim h ev w hv hev
def Tryz.lays192_ren : Go.Shelf.Ren := ⟨fun | 192 => 416 | 190 => 210 | 125 => 254 | 258 => 253 | 128 => 306 | 129 => 228 | 302 => 297 | 303 => 298 | 304 => 299 | 305 => 300 | 306 => 301 | 307 => 302 | 308 => 303 | 309 => 304 | 310 => 305 | 333 => 344 | 329 => 345 | 330 => 346 | 334 => 347 | 335 => 348 | 336 => 349 | 344 => 364 | n => n, fun | 31 => 65 | 0 => 0 | 9 => 9 | 3 => 3 | 46 => 254 | 51 => 329 | 53 => 28 | 4 => 4 | 183 => 409 | 182 => 408 | 131 => 305 | 5 => 5 | 218 => 445 | 222 => 448 | 228 => 461 | 229 => 462 | n => n, fun | n => n⟩
theorem Tryz.lays192 : Go.Proofs.Lays.n192 Tryz.prog Tryz.lays192_ren := {
  mixed := by kernel_rfl
  f125 := Tryz.func254.trans (congrArg some (by kernel_rfl))
  f128 := Tryz.func306.trans (congrArg some (by kernel_rfl))
  f129 := Tryz.func228.trans (congrArg some (by kernel_rfl))
  f190 := Tryz.func210.trans (congrArg some (by kernel_rfl))
  f192 := Tryz.func416.trans (congrArg some (by kernel_rfl))
  f258 := Tryz.func253.trans (congrArg some (by kernel_rfl))
  f302 := Tryz.func297.trans (congrArg some (by kernel_rfl))
  f303 := Tryz.func298.trans (congrArg some (by kernel_rfl))
  f304 := Tryz.func299.trans (congrArg some (by kernel_rfl))
  f305 := Tryz.func300.trans (congrArg some (by kernel_rfl))
  f306 := Tryz.func301.trans (congrArg some (by kernel_rfl))
  f307 := Tryz.func302.trans (congrArg some (by kernel_rfl))
  f308 := Tryz.func303.trans (congrArg some (by kernel_rfl))
  f309 := Tryz.func304.trans (congrArg some (by kernel_rfl))
  f310 := Tryz.func305.trans (congrArg some (by kernel_rfl))
  f329 := Tryz.func345.trans (congrArg some (by kernel_rfl))
  f330 := Tryz.func346.trans (congrArg some (by kernel_rfl))
  f333 := Tryz.func344.trans (congrArg some (by kernel_rfl))
  f334 := Tryz.func347.trans (congrArg some (by kernel_rfl))
  f335 := Tryz.func348.trans (congrArg some (by kernel_rfl))
  f336 := Tryz.func349.trans (congrArg some (by kernel_rfl))
  f344 := Tryz.func364.trans (congrArg some (by kernel_rfl))
  t0 := Tryz.underlying0
  a0 := Tryz.isAgg0
  z0 := Tryz.sizeOf0
  v0 := Tryz.zeroValue0
  t3 := Tryz.underlying3
  a3 := Tryz.isAgg3
  z3 := Tryz.sizeOf3
  v3 := Tryz.zeroValue3
  t4 := Tryz.underlying4
  a4 := Tryz.isAgg4
  z4 := Tryz.sizeOf4
  v4 := Tryz.zeroValue4
  t5 := Tryz.underlying5
  a5 := Tryz.isAgg5
  z5 := Tryz.sizeOf5
  v5 := Tryz.zeroValue5
  t9 := Tryz.underlying9
  a9 := Tryz.isAgg9
  z9 := Tryz.sizeOf9
  v9 := Tryz.zeroValue9
  t31 := Tryz.underlying65
  a31 := Tryz.isAgg65
  z31 := Tryz.sizeOf65
  v31 := Tryz.zeroValue65
  t46 := Tryz.underlying254
  a46 := Tryz.isAgg254
  z46 := Tryz.sizeOf254
  v46 := Tryz.zeroValue254
  t51 := Tryz.underlying329
  a51 := Tryz.isAgg329
  z51 := Tryz.sizeOf329
  v51 := Tryz.zeroValue329
  t53 := Tryz.underlying28
  a53 := Tryz.isAgg28
  z53 := Tryz.sizeOf28
  v53 := Tryz.zeroValue28
  t131 := Tryz.underlying305
  a131 := Tryz.isAgg305
  z131 := Tryz.sizeOf305
  v131 := Tryz.zeroValue305
  t182 := Tryz.underlying408
  a182 := Tryz.isAgg408
  z182 := Tryz.sizeOf408
  v182 := Tryz.zeroValue408
  t183 := Tryz.underlying409
  a183 := Tryz.isAgg409
  z183 := Tryz.sizeOf409
  v183 := Tryz.zeroValue409
  t218 := Tryz.underlying445
  a218 := Tryz.isAgg445
  z218 := Tryz.sizeOf445
  v218 := Tryz.zeroValue445
  t222 := Tryz.underlying448
  a222 := Tryz.isAgg448
  z222 := Tryz.sizeOf448
  v222 := Tryz.zeroValue448
  t228 := Tryz.underlying461
  a228 := Tryz.isAgg461
  z228 := Tryz.sizeOf461
  v228 := Tryz.zeroValue461
  t229 := Tryz.underlying462
  a229 := Tryz.isAgg462
  z229 := Tryz.sizeOf462
  v229 := Tryz.zeroValue462 }
open Go.Sort Go.RowKit in
theorem Tryz.sort_Strings (blk off cap : Nat) (ss : List (List UInt8)) (w : World) (hH : Holds encStr w blk off ss.toArray) (hblk : blk < w.heap.size) (hsz : ss.length < 4611686018427387904) :
    Calls Tryz.prog 416 #[.slice (some ⟨blk, off, none⟩) ss.length cap] w fun e w' =>
      e = .returned (.tuple #[]) ∧ ∃ n os, w' = grow (putRow encStr (Sort.ahead w n) blk off (ss.mergeSort fun x y => decide (x ≤ y)).toArray) os := Any.sort_Strings Tryz.lays192 blk off cap ss w hH hblk hsz
open Go.RowKit Go.Sort in
theorem Tryz.sort_Strings_none (p : Option Addr) (cap : Nat) (w : World) :
    Calls Tryz.prog 416 #[.slice p 0 cap] w fun e w' => e = .returned (.tuple #[]) ∧ w' = w := Any.sort_Strings_none Tryz.lays192 p cap w
def Tryz.laysSlE041_f190_ren : Go.Shelf.Ren := ⟨fun | 41 => 190 | n => n, fun | 22 => 220 | 23 => 28 | 4 => 4 | n => n, fun | n => n⟩
theorem Tryz.laysSlE041_f190 : Go.Proofs.SlLaysE0.n41 Tryz.prog Tryz.laysSlE041_f190_ren := {
  mixed := by kernel_rfl
  f41 := ⟨Tryz.f190.name, by decide, Tryz.func190.trans (congrArg some (by kernel_rfl))⟩
  t4 := Tryz.underlying4
  a4 := Tryz.isAgg4
  z4 := Tryz.sizeOf4
  v4 := Tryz.zeroValue4
  t22 := Tryz.underlying220
  a22 := Tryz.isAgg220
  z22 := Tryz.sizeOf220
  v22 := Tryz.zeroValue220 }
open Go.RowKit Go.Lib in
theorem Tryz.slices_Clone (i0 : TypeInfo) (z : Value) (size bytes : Nat) (hi : Tryz.prog.info? 28 = some i0) (hz0 : i0.zero = some z) (hz1 : i0.size = size) (hz2 : i0.bytes = bytes) (hzs : z.cells.size = size) (hsz : 0 < size) (z23 : ∀ w, (Go.sizeOf 28).run Tryz.prog w = .ok size w) (b off n c : Nat) (news : List Value) (w : World) (hl : news.length = n * size) (hn : n ≤ maxLen) (hbig : n * bytes ≤ 140737488355328) (hc : ∀ j u, news[j]? = some u → w.cell? ⟨b, off + j, none⟩ = some u) (h1 : ∀ u ∈ news, u.oneCell' = true) :
    Calls Tryz.prog 190 #[.slice (some ⟨b, off, none⟩) n c] w fun e w' => ∃ v', e = .returned v' ∧ w'.ownsRow w.heap.size 28 size v' n news ∧ v' ≠ .slice none 0 0 ∧ Below w.heap.size w w' := AnyE.slices_Clone Tryz.laysSlE041_f190 i0 z size bytes hi hz0 hz1 hz2 hzs hsz z23 b off n c news w hl hn hbig hc h1
def Tryz.laysSlE041_f189_ren : Go.Shelf.Ren := ⟨fun | 41 => 189 | n => n, fun | 22 => 227 | 23 => 288 | 4 => 4 | n => n, fun | n => n⟩
theorem Tryz.laysSlE041_f189 : Go.Proofs.SlLaysE0.n41 Tryz.prog Tryz.laysSlE041_f189_ren := {
  mixed := by kernel_rfl
  f41 := ⟨Tryz.f189.name, by decide, Tryz.func189.trans (congrArg some (by kernel_rfl))⟩
  t4 := Tryz.underlying4
  a4 := Tryz.isAgg4
  z4 := Tryz.sizeOf4
  v4 := Tryz.zeroValue4
  t22 := Tryz.underlying227
  a22 := Tryz.isAgg227
  z22 := Tryz.sizeOf227
  v22 := Tryz.zeroValue227 }
open Go.RowKit Go.Lib in
theorem Tryz.slices_CloneR (i0 : TypeInfo) (z : Value) (size bytes : Nat) (hi : Tryz.prog.info? 288 = some i0) (hz0 : i0.zero = some z) (hz1 : i0.size = size) (hz2 : i0.bytes = bytes) (hzs : z.cells.size = size) (hsz : 0 < size) (z23 : ∀ w, (Go.sizeOf 288).run Tryz.prog w = .ok size w) (b off n c : Nat) (news : List Value) (w : World) (hl : news.length = n * size) (hn : n ≤ maxLen) (hbig : n * bytes ≤ 140737488355328) (hc : ∀ j u, news[j]? = some u → w.cell? ⟨b, off + j, none⟩ = some u) (h1 : ∀ u ∈ news, u.oneCell' = true) :
    Calls Tryz.prog 189 #[.slice (some ⟨b, off, none⟩) n c] w fun e w' => ∃ v', e = .returned v' ∧ w'.ownsRow w.heap.size 288 size v' n news ∧ v' ≠ .slice none 0 0 ∧ Below w.heap.size w w' := AnyE.slices_Clone Tryz.laysSlE041_f189 i0 z size bytes hi hz0 hz1 hz2 hzs hsz z23 b off n c news w hl hn hbig hc h1
end Go.Proofs
/- strconv.FormatUint at base 10; a segment's name. -/
namespace Go.Proofs.YtejiankgafjppabGreatDoor
open Go.RowKit Go.Sort Go.Lib

/-- the table of powers, in the world -/
def Pows (w : World) : Prop := Lib.TabIs Tryz.prog w "internal/strconv.uint64pow10" .u64 Lib.pow10Tab
theorem holds0 (w : World) (T : TypeId) (nd : Nat) (hs : nd ≤ 24) : Holds (fun (b : UInt8) => Value.int .u8 (b.toNat : Int)) (w.alloc (.cells zeros24 T)) w.heap.size 0 (Array.replicate nd (0 : UInt8)) := fun j hj => by
  have hj' : j < nd := by simpa using hj
  refine ⟨?_, World.frozen?_alloc_new _ _ _ _⟩
  rw [World.cell?_alloc_new, zeros24_at _ (by omega), getElem!_pos _ j hj]
  simp
theorem below_drewN' {B : Nat} {a w : World} (h : Below B a w) : ∀ k, Below B a (w.drewN k)
  | 0 => h
  | k + 1 => by
    have := (below_drewN' h k).drew
    exact this
theorem below_row (w : World) (o : Obj) (dk : Array UInt8) (k : Nat) : Below w.heap.size w ((putRow (fun (b : UInt8) => Value.int .u8 (b.toNat : Int)) (w.alloc o) w.heap.size 0 dk).drewN k) := by
  have h1 : Below w.heap.size w (putRow (fun (b : UInt8) => Value.int .u8 (b.toNat : Int)) (w.alloc o) w.heap.size 0 dk) := by
    refine ⟨rfl, rfl, rfl, by simp, fun i hi => ?_⟩
    simp only [putRow, mapBlock, Array.getElem?_modify]
    rw [if_neg (by omega)]
    exact Below.heap_alloc _ _ _ hi
  exact below_drewN' h1 k
set_option maxRecDepth 100000 in
set_option maxHeartbeats 4000000 in
theorem formatIn (u : Nat) (w : World) (hu64 : u < 18446744073709551616) (htab : Pows w) :
    Calls Tryz.prog 283 #[.int .u64 (u : Int), .int .i64 10] w fun e w' => e = .returned (.string ⟨(Lib.decDigits u).toArray⟩) ∧ Below w.heap.size w w' := by
  by_cases hs : u < 100
  · have h1 : (u : Int) < 100 := by omega
    go_enter Tryz.func283, Tryz.ntmps283
    go_wp2_with (first | (go_at_call 324; refine (Tryz.internal_strconv_small u hs _).mono ?_; rintro e w' ⟨rfl, rfl⟩))
    go_ret
    exact ⟨rfl, Below.refl _ _⟩
  · have h1 : ¬ (u : Int) < 100 := by omega
    have hu1 : 1 ≤ u := by omega
    have hnd20 : Lib.nDigits u ≤ 20 := by have := Lib.numDigits_eq u hu1 hu64; split at this <;> omega
    have hal : Tryz.prog.arrayLen 429 = 24 := by simp [Program.arrayLen, Tryz.underlying429]
    have hsl : ∀ W, (Instr.sliceAt 429 (.pointer (some ⟨w.heap.size, 0, none⟩)) none (some (.int .i64 (Lib.nDigits u : Int))) none).run Tryz.prog W = .ok (.slice (some ⟨w.heap.size, 0, none⟩) (Lib.nDigits u) 24) W := fun W => by
      rw [run_sliceAt_array_h W 429 ⟨w.heap.size, 0, none⟩ (by simp [Program.arrayLen, Program.elem, Tryz.underlying429]) .i64 (Lib.nDigits u : Int) (by omega) (by rw [hal]; omega)]
      go_simp
    have hH0 := holds0 w 429 (Lib.nDigits u) (by omega)
    have hfmt := Tryz.internal_strconv_formatBase10 w.heap.size 0 24 u (Array.replicate (Lib.nDigits u) 0) (w.alloc (.cells Lib.zeros24 429)) hH0 (by rw [Array.size_replicate]; exact Lib.lt_pow_nDigits u) hu64 (by rw [Array.size_replicate]; omega)
    rw [Array.size_replicate] at hfmt
    have HH0 := Lib.hid hH0
    clear hH0 hal
    go_enter Tryz.func283, Tryz.ntmps283
    go_wp2_with (first | (go_at_call 325; refine (Tryz.internal_strconv_numDigits u hu1 hu64 _ (Lib.tabIs_alloc htab _)).mono ?_; rintro e w' ⟨rfl, rfl⟩))
    go_at_call 326
    refine hfmt.mono ?_
    rintro e w' ⟨rfl, k, v', dk, rfl, hF⟩
    have hcv : (convert 29 9 (.slice (some ⟨w.heap.size, 0, none⟩) (Lib.nDigits u) 24)).run Tryz.prog ((putRow (fun (b : UInt8) => Value.int .u8 (b.toNat : Int)) (w.alloc (.cells Lib.zeros24 429)) w.heap.size 0 dk).drewN k) = .ok (.string ⟨(Lib.decDigits u).toArray⟩) ((putRow (fun (b : UInt8) => Value.int .u8 (b.toNat : Int)) (w.alloc (.cells Lib.zeros24 429)) w.heap.size 0 dk).drewN k) := by
      have h := run_convert_bytes_back (P := Tryz.prog) ((putRow (fun (b : UInt8) => Value.int .u8 (b.toNat : Int)) (w.alloc (.cells Lib.zeros24 429)) w.heap.size 0 dk).drewN k) 29 9 5 ⟨w.heap.size, 0, none⟩ 24 (Lib.decDigits u) Tryz.underlying29 Tryz.underlying5 Tryz.underlying9 (fun j hj => by
        rw [Lib.row_is_numeral hF j hj, Lib.add_plain, World.cell?_drewN]
        exact cell?_putRow (fun (b : UInt8) => Value.int .u8 (b.toNat : Int)) _ w.heap.size 0 _ dk HH0.out (by rw [hF.size, Array.size_replicate]) j (by rw [hF.size]; rw [Lib.decDigits_length] at hj; exact hj))
      rw [Lib.decDigits_length] at h
      exact h
    go_wp2
    go_ret
    exact ⟨rfl, below_row w _ dk k⟩
set_option maxHeartbeats 1000000 in
theorem formatPub (u : Nat) (w : World) (hu64 : u < 18446744073709551616) (htab : Pows w) :
    Calls Tryz.prog 230 #[.int .u64 (u : Int), .int .i64 10] w fun e w' => e = .returned (.string ⟨(Lib.decDigits u).toArray⟩) ∧ Below w.heap.size w w' := by
  go_enter Tryz.func230, Tryz.ntmps230
  go_wp2_with fail
  refine (formatIn u w hu64 htab).mono ?_
  rintro e w1 ⟨rfl, hb⟩
  go_wp2
  go_ret
  exact ⟨rfl, hb⟩
/-- a segment's name -/
def segName (u : Nat) : ByteArray := ⟨#[115, 101, 103, 109, 101, 110, 116, 45]⟩ ++ ⟨(Lib.decDigits u).toArray⟩
theorem segName_size (u : Nat) (hu : u < 18446744073709551616) : (segName u).size ≤ 28 := by
  have hnd20 : (Lib.decDigits u).length ≤ 20 := by
    rw [Lib.decDigits_length]
    by_cases h1 : 1 ≤ u
    · have := Lib.numDigits_eq u h1 hu; split at this <;> omega
    · obtain rfl : u = 0 := by omega
      rw [Lib.nDigits_small (by omega)]; omega
  unfold segName
  rw [ByteArray.size_append]
  show 8 + (Lib.decDigits u).toArray.size ≤ 28
  simp; omega
set_option maxHeartbeats 1000000 in
theorem segmentName_any (u : Nat) (w : World) (hu64 : u < 18446744073709551616) (htab : Pows w) :
    Calls Tryz.prog 183 #[.int .u64 (u : Int)] w fun e w' => e = .returned (.string (segName u)) ∧ Below w.heap.size w w' := by
  go_enter Tryz.func183, Tryz.ntmps183
  go_wp2_with fail
  refine (formatPub u w hu64 htab).mono ?_
  rintro e w1 ⟨rfl, hb⟩
  have hsz := segName_size u hu64
  unfold segName at hsz
  rw [ByteArray.size_append] at hsz
  have hno : ¬ 9223372036854775807 < (⟨#[115, 101, 103, 109, 101, 110, 116, 45]⟩ : ByteArray).size + (⟨(Lib.decDigits u).toArray⟩ : ByteArray).size := by omega
  go_wp2
  all_goals first
    | (go_ret; exact ⟨rfl, hb⟩)
    | (exfalso; rename_i hh; exact hno hh)
end Go.Proofs.YtejiankgafjppabGreatDoor
/- A LOG, plainly; and how it lies in memory. -/
namespace Go.Proofs.YtejiankgafjppabGreatDoor
open Go.RowKit
open Sc

structure ALog where
  segs : List Nat
  filled : Nat
  recs : List Rec
  next : Nat
  durable : Nat
  failed : Nat
/-- numbers as cells -/
def u64s (l : List Nat) : List Value := l.map fun x : Nat => .int .u64 (x : Int)
theorem u64s_snoc (l : List Nat) (x : Nat) : u64s (l ++ [x]) = u64s l ++ [.int .u64 (x : Int)] := by simp [u64s]
theorem u64s_len (l : List Nat) : (u64s l).length = l.length := by simp [u64s]
abbrev dskV (p : Nat) : Value := .iface 81 (.pointer (some ⟨p, 0, none⟩))
abbrev logO (p : Nat) (sv rv : Value) (l : ALog) : Obj := .cells #[dskV p, sv, .int .i64 (l.filled : Int), rv, .int .u64 (l.next : Int), .int .u64 (l.durable : Int), errN l.failed] 229

/-- the blocks that an object leads to by maps and slices -/
def refs : Option Obj → List Nat
  | some (.cells c _ _) => c.toList.filterMap fun v => match v with
    | .map r => r
    | .slice (some a) _ _ => some a.block
    | _ => none
  | _ => []
/-- what is the log's -/
def Own (lp p : Nat) (w : World) (k : Nat) : Prop := k = lp ∨ k = p ∨ k ∈ refs w.heap[lp]? ∨ k ∈ refs w.heap[p]?
/-- nothing has turned but what is the log's, and new blocks; what is the log's is that or new -/
structure OFr (lp p : Nat) (w w' : World) : Prop where
  os : w'.os = w.os
  tape : w'.tape = w.tape
  output : w'.output = w.output
  size : w.heap.size ≤ w'.heap.size
  block : ∀ k, k < w.heap.size → ¬ Own lp p w k → w'.heap[k]? = w.heap[k]?
  stay : ∀ k, k < w.heap.size → Own lp p w' k → Own lp p w k
theorem OFr.refl (lp p : Nat) (w : World) : OFr lp p w w := ⟨rfl, rfl, rfl, Nat.le_refl _, fun _ _ _ => rfl, fun _ _ h => h⟩
theorem OFr.trans {lp p : Nat} {a b c : World} (h : OFr lp p a b) (k : OFr lp p b c) : OFr lp p a c :=
  ⟨k.os.trans h.os, k.tape.trans h.tape, k.output.trans h.output, Nat.le_trans h.size k.size,
    fun i hi hn => (k.block i (Nat.lt_of_lt_of_le hi h.size) (fun ho => hn (h.stay i hi ho))).trans (h.block i hi hn),
    fun i hi ho => h.stay i hi (k.stay i (Nat.lt_of_lt_of_le hi h.size) ho)⟩
/-- the log in memory -/
structure LogIn (w : World) (B lp p bD bN : Nat) (pv sv rv : Value) (l : ALog) (d : ADisk) (n nD nN : Nat) : Prop where
  disk : DiskIn w B p bD bN pv d n nD nN
  blk : w.heap[lp]? = some (logO p sv rv l)
  base : B ≤ lp
  segs : w.ownsRow B 28 1 sv l.segs.length (u64s l.segs)
  recs : w.ownsRow B 288 3 rv l.recs.length (recsV l.recs)
  segsN : l.segs.length ≤ n ∧ ∀ s ∈ l.segs, s < 18446744073709551616
  recsN : l.recs.length ≤ n
  fillN : l.filled ≤ 4096
  nextN : l.next ≤ n + 1
  durN : l.durable < 18446744073709551616
theorem own_sl {w : World} {B n : Nat} {e : TypeId} {k : Nat} {v : Value} {xs : List Value} (h : w.ownsRow B e k v n xs) : ∃ a m c, v = .slice a m c := by
  rcases h.2 with ⟨rfl, _⟩ | ⟨g, cap, cur, rfl, _⟩
  · exact ⟨_, _, _, rfl⟩
  · exact ⟨_, _, _, rfl⟩
/-- a value's block, of a map or a slice -/
def ref1 (v : Value) : Option Nat := match v with
  | .map r => r
  | .slice (some a) _ _ => some a.block
  | _ => none
theorem refs_cells (c : Array Value) (t : TypeId) (fr : Nat × Nat) : refs (some (.cells c t fr)) = c.toList.filterMap ref1 := rfl
theorem ref1_sl {v : Value} (h : ∃ a m c, v = .slice a m c) : ref1 v = v.ownBlock := by
  obtain ⟨a, m, c, rfl⟩ := h
  cases a <;> rfl
theorem ref1_err (n : Nat) : ref1 (errN n) = none := by unfold errN; split <;> rfl
theorem mem_log {p : Nat} {sv rv : Value} {l : ALog} (hs : ∃ a m c, sv = .slice a m c) (hr : ∃ a m c, rv = .slice a m c) (k : Nat) : k ∈ refs (some (logO p sv rv l)) ↔ sv.ownBlock = some k ∨ rv.ownBlock = some k := by
  rw [refs_cells]
  simp only [List.mem_filterMap, List.mem_cons, List.not_mem_nil, or_false]
  constructor
  · rintro ⟨v, hv, hk⟩
    rcases hv with rfl | rfl | rfl | rfl | rfl | rfl | rfl
    · cases hk
    · left; rw [← ref1_sl hs]; exact hk
    · cases hk
    · right; rw [← ref1_sl hr]; exact hk
    · cases hk
    · cases hk
    · rw [ref1_err] at hk; cases hk
  · rintro (h | h)
    · exact ⟨sv, by simp, by rw [ref1_sl hs]; exact h⟩
    · exact ⟨rv, by simp, by rw [ref1_sl hr]; exact h⟩
theorem mem_dsk {bD bN : Nat} {pv : Value} {a b : Int} {dn : Bool} (hp : ∃ a m c, pv = .slice a m c) (k : Nat) : k ∈ refs (some (dskO bD bN pv a b dn)) ↔ k = bD ∨ k = bN ∨ pv.ownBlock = some k := by
  rw [refs_cells]
  simp only [List.mem_filterMap, List.mem_cons, List.not_mem_nil, or_false]
  constructor
  · rintro ⟨v, hv, hk⟩
    rcases hv with rfl | rfl | rfl | rfl | rfl | rfl
    · left; cases hk; rfl
    · right; left; cases hk; rfl
    · right; right; rw [← ref1_sl hp]; exact hk
    · cases hk
    · cases hk
    · cases hk
  · rintro (h | h | h)
    · exact ⟨.map (some bD), by simp, by subst h; rfl⟩
    · exact ⟨.map (some bN), by simp, by subst h; rfl⟩
    · exact ⟨pv, by simp, by rw [ref1_sl hp]; exact h⟩
section
variable {w w' : World} {B lp p bD bN n nD nN bN' n' nD' nN' : Nat} {pv sv rv pv' sv' rv' : Value} {l l' : ALog} {d d' : ADisk}
theorem LogIn.own (h : LogIn w B lp p bD bN pv sv rv l d n nD nN) (k : Nat) : Own lp p w k ↔ k = lp ∨ k = p ∨ k = bD ∨ k = bN ∨ pv.ownBlock = some k ∨ sv.ownBlock = some k ∨ rv.ownBlock = some k := by
  unfold Own
  rw [h.blk, h.disk.blk, mem_log (own_sl h.segs) (own_sl h.recs), mem_dsk (own_sl h.disk.pen)]
  constructor
  · rintro (h | h | (h | h) | (h | h | h)) <;> simp [h]
  · rintro (h | h | h | h | h | h | h) <;> simp [h]
theorem LogIn.ofr {S : List Nat} (h : LogIn w B lp p bD bN pv sv rv l d n nD nN) (h' : LogIn w' B lp p bD bN' pv' sv' rv' l' d' n' nD' nN') (hf : Fr S w w')
    (hS : ∀ k ∈ S, k < w.heap.size → k = lp ∨ k = p ∨ k = bD ∨ k = bN ∨ pv.ownBlock = some k ∨ sv.ownBlock = some k ∨ rv.ownBlock = some k)
    (hb : bN' = bN ∨ w.heap.size ≤ bN') (h1 : Near w.heap.size pv pv') (h2 : Near w.heap.size sv sv') (h3 : Near w.heap.size rv rv') : OFr lp p w w' := by
  refine ⟨hf.os, hf.tape, hf.output, hf.size, fun k hk hn => hf.block k hk (fun hm => hn ((h.own k).2 (hS k hm hk))), fun k hk ho => ?_⟩
  rw [h.own]
  rcases (h'.own k).1 ho with e | e | e | e | e | e | e
  · exact .inl e
  · exact .inr (.inl e)
  · exact .inr (.inr (.inl e))
  · rcases hb with hb | hb
    · exact .inr (.inr (.inr (.inl (e.trans hb))))
    · omega
  · rcases h1 k e with e | e
    · exact .inr (.inr (.inr (.inr (.inl e))))
    · omega
  · rcases h2 k e with e | e
    · exact .inr (.inr (.inr (.inr (.inr (.inl e)))))
    · omega
  · rcases h3 k e with e | e
    · exact .inr (.inr (.inr (.inr (.inr (.inr e)))))
    · omega
/-- the log's own block and rows are no part of the disk -/
theorem LogIn.sep (h : LogIn w B lp p bD bN pv sv rv l d n nD nN) : ∀ k ∈ dS p bD bN pv, k ≠ lp ∧ sv.ownBlock ≠ some k ∧ rv.ownBlock ≠ some k := by
  intro k hk
  have key : ∀ (c : Array Value) (t : TypeId) (q : Nat), w.heap[q]? = some (.cells c t (0, 0)) → t ≠ 100 → t ≠ 150 → k ≠ q := by
    intro c t q hq h1 h2 e
    subst e
    rcases List.mem_cons.1 hk with e | hk
    · rw [e, h.disk.blk] at hq; cases hq; exact h1 rfl
    rcases List.mem_cons.1 hk with e | hk
    · exact h.disk.dur.ne_cells hq e.symm
    rcases List.mem_cons.1 hk with e | hk
    · exact h.disk.now.ne_cells hq e.symm
    · simp at hk; exact own_ne h.disk.pen hq (fun e => h2 e.symm) hk
  refine ⟨key _ _ lp h.blk (by decide) (by decide), fun e => ?_, fun e => ?_⟩
  · obtain ⟨c, hc⟩ := own_cells h.segs e
    exact key _ _ k hc (by decide) (by decide) rfl
  · obtain ⟨c, hc⟩ := own_cells h.recs e
    exact key _ _ k hc (by decide) (by decide) rfl
/-- the disk has turned -/
theorem LogIn.turned {S : List Nat} (h : LogIn w B lp p bD bN pv sv rv l d n nD nN) (hd : DiskIn w' B p bD bN pv' d' n' nD' nN') (hf : Fr S w w') (hS : ∀ k ∈ S, k < w.heap.size → k ≠ lp ∧ sv.ownBlock ≠ some k ∧ rv.ownBlock ≠ some k) (hn : n ≤ n') : LogIn w' B lp p bD bN pv' sv rv l d' n' nD' nN' where
  disk := hd
  blk := (hf.block lp (Array.getElem?_eq_some_iff.1 h.blk).1 (fun hm => (hS lp hm (Array.getElem?_eq_some_iff.1 h.blk).1).1 rfl)).trans h.blk
  base := h.base
  segs := ownsRow_fr h.segs hf (fun g hg hm => (hS g hm (h.segs.lt g hg).2).2.1 hg)
  recs := ownsRow_fr h.recs hf (fun g hg hm => (hS g hm (h.recs.lt g hg).2).2.2 hg)
  segsN := ⟨by have := h.segsN.1; omega, h.segsN.2⟩
  recsN := by have := h.recsN; omega
  fillN := h.fillN
  nextN := by have := h.nextN; omega
  durN := h.durN
end
/-- the log's own block alone was written -/
theorem LogIn.own1 {w w' : World} {B lp p bD bN n nD nN : Nat} {pv sv rv : Value} {l l' : ALog} {d : ADisk} (h : LogIn w B lp p bD bN pv sv rv l d n nD nN) (hf : Fr [lp] w w') (hb : w'.heap[lp]? = some (logO p sv rv l'))
    (h1 : l'.segs.length ≤ n ∧ ∀ s ∈ l'.segs, s < 18446744073709551616) (h2 : l'.recs.length ≤ n) (h3 : l'.filled ≤ 4096) (h4 : l'.next ≤ n + 1) (h5 : l'.durable < 18446744073709551616) (e1 : l'.segs = l.segs) (e2 : l'.recs = l.recs) : LogIn w' B lp p bD bN pv sv rv l' d n nD nN := by
  have hne : ∀ k ∈ dS p bD bN pv, k ∉ [lp] := fun k hk hm => by simp at hm; exact (h.sep k hk).1 hm
  refine { disk := ?_, blk := hb, base := h.base, segs := ?_, recs := ?_, segsN := h1, recsN := h2, fillN := h3, nextN := h4, durN := h5 }
  · refine h.disk.fr hf (hne p (by simp)) (hne bD (by simp)) (hne bN (by simp)) (fun g hg => hne g (by simp [hg])) ?_
    intro q hq t; simp at hq; subst hq; rw [h.blk]; intro e; cases e
  · rw [e1]; exact ownsRow_fr h.segs hf (fun g hg => by simp; intro e; subst e; exact own_ne h.segs h.blk (by decide) hg)
  · rw [e2]; exact ownsRow_fr h.recs hf (fun g hg => by simp; intro e; subst e; exact own_ne h.recs h.blk (by decide) hg)
/-- what stands behind a call of the log's -/
def LogPost (B lp p bD bN : Nat) (l : ALog) (d : ADisk) (n : Nat) (w w' : World) : Prop :=
  (∃ pv sv rv nD nN, LogIn w' B lp p bD bN pv sv rv l d n nD nN) ∧ OFr lp p w w'
theorem Tryz.mAppend (h : Value) (w : World) : (Go.method 611 81 h "Append").run Tryz.prog w = .ok (408, h) w := by kernel_rfl
theorem Tryz.mNames (h : Value) (w : World) : (Go.method 611 81 h "Names").run Tryz.prog w = .ok (409, h) w := by kernel_rfl
theorem Tryz.mRead (h : Value) (w : World) : (Go.method 611 81 h "Read").run Tryz.prog w = .ok (410, h) w := by kernel_rfl
theorem Tryz.mRemove (h : Value) (w : World) : (Go.method 611 81 h "Remove").run Tryz.prog w = .ok (411, h) w := by kernel_rfl
theorem Tryz.mRename (h : Value) (w : World) : (Go.method 611 81 h "Rename").run Tryz.prog w = .ok (412, h) w := by kernel_rfl
theorem Tryz.mSync (h : Value) (w : World) : (Go.method 611 81 h "Sync").run Tryz.prog w = .ok (413, h) w := by kernel_rfl
theorem Tryz.mWrite (h : Value) (w : World) : (Go.method 611 81 h "Write").run Tryz.prog w = .ok (414, h) w := by kernel_rfl
def ALog.sync (l : ALog) (d : ADisk) : ALog × ADisk × Nat :=
  if d.sync.2 = 0 then ({ l with durable := l.next }, d.sync.1, 0) else (l, d.sync.1, d.sync.2)
set_option maxRecDepth 100000 in
set_option maxHeartbeats 1000000 in
theorem lsync_any (B lp p bD bN n nD nN : Nat) (pv sv rv : Value) (l : ALog) (d : ADisk) (w : World) (h : LogIn w B lp p bD bN pv sv rv l d n nD nN) (hn : n ≤ 67108864) :
    Calls Tryz.prog 143 #[.pointer (some ⟨lp, 0, none⟩)] w fun e w' => e = .returned (errN (l.sync d).2.2) ∧ LogPost B lp p bD bN (l.sync d).1 (l.sync d).2.1 n w w' := by
  have c0 := blk_cell h.blk 0
  simp at c0
  have HI : Hid (LogIn w B lp p bD bN pv sv rv l d n nD nN) := h
  clear h
  go_enter Tryz.func143, Tryz.ntmps143
  have hm := Tryz.mSync
  go_wp2_with fail
  refine (sync_any B p bD bN n nD nN pv d w HI.out.disk).mono ?_
  rintro e w1 ⟨rfl, ⟨pv1, nD1, hd1, hne1⟩, hf1⟩
  have hl1 : LogIn w1 B lp p bD bN pv1 sv rv l d.sync.1 n nD1 nN := HI.out.turned hd1 hf1 (fun k hk _ => HI.out.sep k (by simp at hk; rcases hk with h | h <;> simp [h])) (Nat.le_refl _)
  have ho1 : OFr lp p w w1 := HI.out.ofr hl1 hf1 (fun k hk _ => by simp at hk; rcases hk with h | h <;> simp [h]) (.inl rfl) hne1 (Near.refl _ _) (Near.refl _ _)
  have H1 : Hid (LogIn w1 B lp p bD bN pv1 sv rv l d.sync.1 n nD1 nN) := hl1
  have HO : Hid (OFr lp p w w1) := ho1
  have k4 := blk_cell hl1.blk 4
  have k5 := blk_cell hl1.blk 5
  have f5 := blk_free hl1.blk 5
  simp at k4 k5
  clear hd1 hne1 hf1 hl1 ho1 c0
  by_cases hc : d.sync.2 = 0
  · rw [hc, errN_ok]
    go_wp2
    go_ret
    have e : l.sync d = ({ l with durable := l.next }, d.sync.1, 0) := by unfold ALog.sync; rw [if_pos hc]
    rw [e]
    obtain ⟨W, hW⟩ : ∃ W, W = w1.setCell ⟨lp, 5, none⟩ (.int .u64 (l.next : Int)) := ⟨_, rfl⟩
    rw [← hW]
    have hf : Fr [lp] w1 W := by rw [hW]; exact Fr.set1 (by simp) _ _
    have hb : W.heap[lp]? = some (logO p sv rv { l with durable := l.next }) := by rw [hW]; have := blk_set H1.out.blk 5 (.int .u64 (l.next : Int)); simpa using this
    have hl2 : LogIn W B lp p bD bN pv1 sv rv { l with durable := l.next } d.sync.1 n nD1 nN := H1.out.own1 hf hb H1.out.segsN H1.out.recsN H1.out.fillN H1.out.nextN (by have := H1.out.nextN; simp; omega) rfl rfl
    exact ⟨rfl, ⟨pv1, sv, rv, nD1, nN, hl2⟩, HO.out.trans (H1.out.ofr hl2 hf (fun k hk _ => by simp at hk; simp [hk]) (.inl rfl) (Near.refl _ _) (Near.refl _ _) (Near.refl _ _))⟩
  · have e : l.sync d = (l, d.sync.1, d.sync.2) := by unfold ALog.sync; rw [if_neg hc]
    rw [errN_no hc]
    go_wp2
    go_ret
    rw [e]
    exact ⟨by rw [errN_no hc]; rfl, ⟨pv1, sv, rv, nD1, nN, H1.out⟩, HO.out⟩
end Go.Proofs.YtejiankgafjppabGreatDoor
