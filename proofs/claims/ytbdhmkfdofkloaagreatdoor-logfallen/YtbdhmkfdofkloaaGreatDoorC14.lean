import Derived.Test.YtbdhmkfdofkloaaGreatDoorProg
import Derived.Shelf.Small.Bits
import Derived.Shelf.Small.Wraps
import Derived.Shelf.Strconv.Itoa0
import Derived.Shelf.Strconv.Itoa1
import Derived.Shelf.LaysM
import Derived.Shelf.Strconv.Itoa2
import Derived.Shelf.Strconv.Itoa3
import Derived.Shelf.Strconv.Clone
import Derived.Ground.MpProg
import Derived.Shelf.Pu.ParseUintPublic10
import Derived.Shelf.Sort.Plain
import Derived.Shelf.Strings.Prefix
import Derived.Shelf.Slices.In.SortNone
import Derived.Shelf.Slices.In.SortNone2
import Derived.Ground.SlgnProg
import Derived.Shelf.SlicesE.Clone
import Derived.Test.YtbdhmkfdofkloaaGreatDoorC01
import Derived.Lib.ItoaMem
import Derived.BigCall
import Derived.BigGuard
import Derived.Test.YtbdhmkfdofkloaaGreatDoorC13
import Derived.Test.YtbdhmkfdofkloaaGreatDoorC05
namespace Go.Proofs
open Go.Shelf
def Tryz.lays125_ren : Go.Shelf.Ren := ⟨fun | 125 => 148 | 128 => 180 | 129 => 132 | n => n, fun | 46 => 39 | 3 => 3 | 51 => 153 | 53 => 34 | 4 => 4 | 5 => 5 | 9 => 9 | n => n, fun | n => n⟩
theorem Tryz.lays125 : Go.Proofs.Lays.n125 Tryz.prog Tryz.lays125_ren := {
  mixed := by kernel_rfl
  f125 := Tryz.func148.trans (congrArg some (by kernel_rfl))
  f128 := Tryz.func180.trans (congrArg some (by kernel_rfl))
  f129 := Tryz.func132.trans (congrArg some (by kernel_rfl))
  t3 := Tryz.underlying3
  a3 := Tryz.isAgg3
  z3 := Tryz.sizeOf3
  v3 := Tryz.zeroValue3
  t4 := Tryz.underlying4
  a4 := Tryz.isAgg4
  z4 := Tryz.sizeOf4
  v4 := Tryz.zeroValue4
  t5 := Tryz.underlying5
  a5 := Tryz.isAgg5
  z5 := Tryz.sizeOf5
  v5 := Tryz.zeroValue5
  t9 := Tryz.underlying9
  a9 := Tryz.isAgg9
  z9 := Tryz.sizeOf9
  v9 := Tryz.zeroValue9
  t46 := Tryz.underlying39
  a46 := Tryz.isAgg39
  z46 := Tryz.sizeOf39
  v46 := Tryz.zeroValue39
  t51 := Tryz.underlying153
  a51 := Tryz.isAgg153
  z51 := Tryz.sizeOf153
  v51 := Tryz.zeroValue153
  t53 := Tryz.underlying34
  a53 := Tryz.isAgg34
  z53 := Tryz.sizeOf34
  v53 := Tryz.zeroValue34 }
theorem Tryz.bits_Len (x : Int) (w : World) (h0 : 0 ≤ x) (h1 : x ≤ 18446744073709551615) :
    Calls Tryz.prog 148 #[.int .u64 x] w fun e w' => e = .returned (.int .i64 (Lib.bitLen x.toNat)) ∧ w' = w := Any.bits_Len Tryz.lays125 x w h0 h1
def Tryz.lays103_ren : Go.Shelf.Ren := ⟨fun | 103 => 113 | 210 => 144 | 206 => 165 | n => n, fun | 9 => 9 | 4 => 4 | 24 => 218 | 3 => 3 | n => n, fun | n => n⟩
theorem Tryz.lays103 : Go.Proofs.Lays.n103 Tryz.prog Tryz.lays103_ren := {
  mixed := by kernel_rfl
  f103 := Tryz.func113.trans (congrArg some (by kernel_rfl))
  f206 := Tryz.func165.trans (congrArg some (by kernel_rfl))
  f210 := Tryz.func144.trans (congrArg some (by kernel_rfl))
  t3 := Tryz.underlying3
  a3 := Tryz.isAgg3
  z3 := Tryz.sizeOf3
  v3 := Tryz.zeroValue3
  t4 := Tryz.underlying4
  a4 := Tryz.isAgg4
  z4 := Tryz.sizeOf4
  v4 := Tryz.zeroValue4
  t9 := Tryz.underlying9
  a9 := Tryz.isAgg9
  z9 := Tryz.sizeOf9
  v9 := Tryz.zeroValue9
  t24 := Tryz.underlying218
  a24 := Tryz.isAgg218
  z24 := Tryz.sizeOf218
  v24 := Tryz.zeroValue218 }
open Go.RowKit in
theorem Tryz.strings_CutPrefix (s p : ByteArray) (w : World) :
    Calls Tryz.prog 113 #[.string s, .string p] w fun e w' => e = .returned (.tuple #[.string ⟨(Lib.trimPrefix s.data.toList p.data.toList).toArray⟩, .bool (Lib.hasPrefix s.data.toList p.data.toList)]) ∧ w' = w := Any.strings_CutPrefix Tryz.lays103 s p w
def Tryz.lays283_ren : Go.Shelf.Ren := ⟨fun | 283 => 137 | n => n, fun | 3 => 3 | 9 => 9 | 4 => 4 | n => n, fun | n => n⟩
theorem Tryz.lays283 : Go.Proofs.Lays.n283 Tryz.prog Tryz.lays283_ren := {
  mixed := by kernel_rfl
  f283 := Tryz.func137.trans (congrArg some (by kernel_rfl))
  t3 := Tryz.underlying3
  a3 := Tryz.isAgg3
  z3 := Tryz.sizeOf3
  v3 := Tryz.zeroValue3
  t4 := Tryz.underlying4
  a4 := Tryz.isAgg4
  z4 := Tryz.sizeOf4
  v4 := Tryz.zeroValue4
  t9 := Tryz.underlying9
  a9 := Tryz.isAgg9
  z9 := Tryz.sizeOf9
  v9 := Tryz.zeroValue9 }
open Go.Lib in
theorem Tryz.internal_strconv_small (i : Nat) (h : i < 100) (w : World) :
    Calls Tryz.prog 137 #[.int .i64 i] w fun e w' => e = .returned (.string ⟨(Lib.decDigits i).toArray⟩) ∧ w' = w := Any.internal_strconv_small Tryz.lays283 i h w
def Tryz.laysM284_ren : Go.Shelf.Ren := ⟨fun | 284 => 138 | 129 => 132 | 317 => 158 | 318 => 159 | n => n, fun | 53 => 34 | 3 => 3 | 212 => 271 | 0 => 0 | 4 => 4 | 46 => 39 | 5 => 5 | 9 => 9 | n => n, fun | 17 => 1 | n => n⟩
theorem Tryz.laysM284 : Go.Proofs.LaysM.n284 Tryz.prog Tryz.laysM284_ren := {
  mixed := by kernel_rfl
  f129 := Tryz.func132.trans (congrArg some (by kernel_rfl))
  f284 := Tryz.func138.trans (congrArg some (by kernel_rfl))
  f317 := Tryz.func158.trans (congrArg some (by kernel_rfl))
  f318 := Tryz.func159.trans (congrArg some (by kernel_rfl))
  t0 := Tryz.underlying0
  a0 := Tryz.isAgg0
  z0 := Tryz.sizeOf0
  v0 := Tryz.zeroValue0
  t3 := Tryz.underlying3
  a3 := Tryz.isAgg3
  z3 := Tryz.sizeOf3
  v3 := Tryz.zeroValue3
  t4 := Tryz.underlying4
  a4 := Tryz.isAgg4
  z4 := Tryz.sizeOf4
  v4 := Tryz.zeroValue4
  t5 := Tryz.underlying5
  a5 := Tryz.isAgg5
  z5 := Tryz.sizeOf5
  v5 := Tryz.zeroValue5
  t9 := Tryz.underlying9
  a9 := Tryz.isAgg9
  z9 := Tryz.sizeOf9
  v9 := Tryz.zeroValue9
  t46 := Tryz.underlying39
  a46 := Tryz.isAgg39
  z46 := Tryz.sizeOf39
  v46 := Tryz.zeroValue39
  t53 := Tryz.underlying34
  a53 := Tryz.isAgg34
  z53 := Tryz.sizeOf34
  v53 := Tryz.zeroValue34
  t212 := Tryz.underlying271
  a212 := Tryz.isAgg271
  z212 := Tryz.sizeOf271
  v212 := Tryz.zeroValue271
  g17 := by kernel_rfl
  i0 := by kernel_rfl
  i3 := by kernel_rfl
  i4 := by kernel_rfl
  i5 := by kernel_rfl
  i9 := by kernel_rfl
  i46 := by kernel_rfl
  i53 := by kernel_rfl
  i212 := by kernel_rfl
  m17 := by kernel_rfl }
open Go.Lib in
theorem Tryz.internal_strconv_numDigits (u : Nat) (h1 : 1 ≤ u) (h2 : u < 18446744073709551616) (w : World) (htab : Lib.TabIs Tryz.prog w "internal/strconv.uint64pow10" .u64 Lib.pow10Tab) :
    Calls Tryz.prog 138 #[.int .u64 u] w fun e w' => e = .returned (.int .i64 (Lib.nDigits u)) ∧ w' = w := Any.internal_strconv_numDigits Tryz.laysM284 u h1 h2 w htab
def Tryz.lays285_ren : Go.Shelf.Ren := ⟨fun | 285 => 139 | n => n, fun | 37 => 95 | 53 => 34 | 3 => 3 | 4 => 4 | 51 => 153 | 9 => 9 | 5 => 5 | 0 => 0 | n => n, fun | n => n⟩
theorem Tryz.lays285 : Go.Proofs.Lays.n285 Tryz.prog Tryz.lays285_ren := {
  mixed := by kernel_rfl
  f285 := Tryz.func139.trans (congrArg some (by kernel_rfl))
  t0 := Tryz.underlying0
  a0 := Tryz.isAgg0
  z0 := Tryz.sizeOf0
  v0 := Tryz.zeroValue0
  t3 := Tryz.underlying3
  a3 := Tryz.isAgg3
  z3 := Tryz.sizeOf3
  v3 := Tryz.zeroValue3
  t4 := Tryz.underlying4
  a4 := Tryz.isAgg4
  z4 := Tryz.sizeOf4
  v4 := Tryz.zeroValue4
  t5 := Tryz.underlying5
  a5 := Tryz.isAgg5
  z5 := Tryz.sizeOf5
  v5 := Tryz.zeroValue5
  t9 := Tryz.underlying9
  a9 := Tryz.isAgg9
  z9 := Tryz.sizeOf9
  v9 := Tryz.zeroValue9
  t37 := Tryz.underlying95
  a37 := Tryz.isAgg95
  z37 := Tryz.sizeOf95
  v37 := Tryz.zeroValue95
  t51 := Tryz.underlying153
  a51 := Tryz.isAgg153
  z51 := Tryz.sizeOf153
  v51 := Tryz.zeroValue153
  t53 := Tryz.underlying34
  a53 := Tryz.isAgg34
  z53 := Tryz.sizeOf34
  v53 := Tryz.zeroValue34 }
open Go.RowKit Go.Sort Go.Lib in
theorem Tryz.internal_strconv_formatBase10 (blk off cap : Nat) (u : Nat) (d : Array UInt8) (w : World) (hH : Holds (fun (b : UInt8) => Value.int .u8 (b.toNat : Int)) w blk off d) (hu : u < 10 ^ d.size) (hu64 : u < 18446744073709551616) (hsz : d.size < 4611686018427387904) :
    Calls Tryz.prog 139 #[.slice (some ⟨blk, off, none⟩) d.size cap, .int .u64 u] w fun e w' =>
      e = .returned (.tuple #[]) ∧ ∃ (n v' : Nat) (dk : Array UInt8), w' = (putRow (fun (b : UInt8) => Value.int .u8 (b.toNat : Int)) w blk off dk).drewN n ∧ FmtInv d.size u 0 v' dk := Any.internal_strconv_formatBase10 Tryz.lays285 blk off cap u d w hH hu hu64 hsz
def Tryz.laysM316_ren : Go.Shelf.Ren := ⟨fun | 316 => 78 | n => n, fun | 9 => 9 | 3 => 3 | 4 => 4 | 37 => 95 | 0 => 0 | 127 => 213 | 5 => 5 | n => n, fun | n => n⟩
theorem Tryz.laysM316 : Go.Proofs.LaysM.n316 Tryz.prog Tryz.laysM316_ren := {
  mixed := by kernel_rfl
  f316 := Tryz.func78.trans (congrArg some (by kernel_rfl))
  t0 := Tryz.underlying0
  a0 := Tryz.isAgg0
  z0 := Tryz.sizeOf0
  v0 := Tryz.zeroValue0
  t3 := Tryz.underlying3
  a3 := Tryz.isAgg3
  z3 := Tryz.sizeOf3
  v3 := Tryz.zeroValue3
  t4 := Tryz.underlying4
  a4 := Tryz.isAgg4
  z4 := Tryz.sizeOf4
  v4 := Tryz.zeroValue4
  t9 := Tryz.underlying9
  a9 := Tryz.isAgg9
  z9 := Tryz.sizeOf9
  v9 := Tryz.zeroValue9
  t37 := Tryz.underlying95
  a37 := Tryz.isAgg95
  z37 := Tryz.sizeOf95
  v37 := Tryz.zeroValue95
  t127 := Tryz.underlying213
  a127 := Tryz.isAgg213
  z127 := Tryz.sizeOf213
  v127 := Tryz.zeroValue213
  t5 := Tryz.underlying5
  a5 := Tryz.isAgg5
  z5 := Tryz.sizeOf5
  v5 := Tryz.zeroValue5
  i0 := by kernel_rfl
  i3 := by kernel_rfl
  i4 := by kernel_rfl
  i5 := by kernel_rfl
  i9 := by kernel_rfl
  i37 := by kernel_rfl
  i127 := by kernel_rfl }
open Go.RowKit in
theorem Tryz.stringslite_Clone (s : ByteArray) (w : World) (hlim : s.size ≤ 281474976710656) :
    Calls Tryz.prog 78 #[.string s] w fun e w' => e = .returned (.string s) ∧ Below w.heap.size w w' := Any.stringslite_Clone Tryz.laysM316 s w hlim
def Tryz.laysPu14_ren : Go.Shelf.Ren := ⟨fun | 14 => 114 | 16 => 145 | 17 => 146 | 19 => 166 | 20 => 167 | 21 => 168 | 22 => 169 | 23 => 170 | 24 => 171 | 25 => 78 | 27 => 188 | 26 => 187 | 28 => 198 | 29 => 208 | 30 => 137 | 31 => 138 | 32 => 139 | 33 => 140 | 35 => 132 | 34 => 158 | 36 => 159 | 37 => 160 | 38 => 161 | 39 => 185 | 40 => 186 | n => n, fun | 9 => 9 | 3 => 3 | 22 => 34 | 24 => 66 | 25 => 76 | 4 => 4 | 34 => 281 | 5 => 5 | 36 => 39 | 37 => 95 | 0 => 0 | 39 => 284 | 21 => 21 | 44 => 300 | 47 => 213 | 50 => 313 | 48 => 311 | 2 => 2 | 52 => 249 | 55 => 251 | 59 => 271 | 60 => 153 | 20 => 20 | 61 => 272 | 65 => 309 | 66 => 310 | 67 => 233 | n => n, fun | 0 => 2 | 1 => 3 | 2 => 1 | 3 => 4 | 4 => 5 | n => n⟩
theorem Tryz.laysPu14 : Go.Proofs.LaysPu.n14 Tryz.prog Tryz.laysPu14_ren := {
  mixed := by kernel_rfl
  f14 := Tryz.func114.trans (congrArg some (by kernel_rfl))
  f16 := Tryz.func145.trans (congrArg some (by kernel_rfl))
  f17 := Tryz.func146.trans (congrArg some (by kernel_rfl))
  f19 := Tryz.func166.trans (congrArg some (by kernel_rfl))
  f20 := Tryz.func167.trans (congrArg some (by kernel_rfl))
  f21 := Tryz.func168.trans (congrArg some (by kernel_rfl))
  f22 := Tryz.func169.trans (congrArg some (by kernel_rfl))
  f23 := Tryz.func170.trans (congrArg some (by kernel_rfl))
  f24 := Tryz.func171.trans (congrArg some (by kernel_rfl))
  f25 := Tryz.func78.trans (congrArg some (by kernel_rfl))
  f26 := Tryz.func187.trans (congrArg some (by kernel_rfl))
  f27 := Tryz.func188.trans (congrArg some (by kernel_rfl))
  f28 := Tryz.func198.trans (congrArg some (by kernel_rfl))
  f29 := Tryz.func208.trans (congrArg some (by kernel_rfl))
  f30 := Tryz.func137.trans (congrArg some (by kernel_rfl))
  f31 := Tryz.func138.trans (congrArg some (by kernel_rfl))
  f32 := Tryz.func139.trans (congrArg some (by kernel_rfl))
  f33 := Tryz.func140.trans (congrArg some (by kernel_rfl))
  f34 := Tryz.func158.trans (congrArg some (by kernel_rfl))
  f35 := Tryz.func132.trans (congrArg some (by kernel_rfl))
  f36 := Tryz.func159.trans (congrArg some (by kernel_rfl))
  f37 := Tryz.func160.trans (congrArg some (by kernel_rfl))
  f38 := Tryz.func161.trans (congrArg some (by kernel_rfl))
  f39 := Tryz.func185.trans (congrArg some (by kernel_rfl))
  f40 := Tryz.func186.trans (congrArg some (by kernel_rfl))
  t0 := Tryz.underlying0
  a0 := Tryz.isAgg0
  z0 := Tryz.sizeOf0
  v0 := Tryz.zeroValue0
  i0 := by kernel_rfl
  t2 := Tryz.underlying2
  a2 := Tryz.isAgg2
  z2 := Tryz.sizeOf2
  v2 := Tryz.zeroValue2
  i2 := by kernel_rfl
  t3 := Tryz.underlying3
  a3 := Tryz.isAgg3
  z3 := Tryz.sizeOf3
  v3 := Tryz.zeroValue3
  i3 := by kernel_rfl
  t4 := Tryz.underlying4
  a4 := Tryz.isAgg4
  z4 := Tryz.sizeOf4
  v4 := Tryz.zeroValue4
  i4 := by kernel_rfl
  t5 := Tryz.underlying5
  a5 := Tryz.isAgg5
  z5 := Tryz.sizeOf5
  v5 := Tryz.zeroValue5
  i5 := by kernel_rfl
  t9 := Tryz.underlying9
  a9 := Tryz.isAgg9
  z9 := Tryz.sizeOf9
  v9 := Tryz.zeroValue9
  i9 := by kernel_rfl
  t20 := Tryz.underlying20
  a20 := Tryz.isAgg20
  z20 := Tryz.sizeOf20
  v20 := Tryz.zeroValue20
  i20 := by kernel_rfl
  t21 := Tryz.underlying21
  a21 := Tryz.isAgg21
  z21 := Tryz.sizeOf21
  v21 := Tryz.zeroValue21
  i21 := by kernel_rfl
  t22 := Tryz.underlying34
  a22 := Tryz.isAgg34
  z22 := Tryz.sizeOf34
  v22 := Tryz.zeroValue34
  i22 := by kernel_rfl
  t24 := Tryz.underlying66
  a24 := Tryz.isAgg66
  z24 := Tryz.sizeOf66
  v24 := Tryz.zeroValue66
  i24 := by kernel_rfl
  t25 := Tryz.underlying76
  a25 := Tryz.isAgg76
  z25 := Tryz.sizeOf76
  v25 := Tryz.zeroValue76
  i25 := by kernel_rfl
  t34 := Tryz.underlying281
  a34 := Tryz.isAgg281
  z34 := Tryz.sizeOf281
  v34 := Tryz.zeroValue281
  i34 := by kernel_rfl
  c34 := by kernel_rfl
  t36 := Tryz.underlying39
  a36 := Tryz.isAgg39
  z36 := Tryz.sizeOf39
  v36 := Tryz.zeroValue39
  i36 := by kernel_rfl
  t37 := Tryz.underlying95
  a37 := Tryz.isAgg95
  z37 := Tryz.sizeOf95
  v37 := Tryz.zeroValue95
  i37 := by kernel_rfl
  t39 := Tryz.underlying284
  a39 := Tryz.isAgg284
  z39 := Tryz.sizeOf284
  v39 := Tryz.zeroValue284
  i39 := by kernel_rfl
  t44 := Tryz.underlying300
  a44 := Tryz.isAgg300
  z44 := Tryz.sizeOf300
  v44 := Tryz.zeroValue300
  i44 := by kernel_rfl
  t47 := Tryz.underlying213
  a47 := Tryz.isAgg213
  z47 := Tryz.sizeOf213
  v47 := Tryz.zeroValue213
  i47 := by kernel_rfl
  t48 := Tryz.underlying311
  a48 := Tryz.isAgg311
  z48 := Tryz.sizeOf311
  v48 := Tryz.zeroValue311
  i48 := by kernel_rfl
  t50 := Tryz.underlying313
  a50 := Tryz.isAgg313
  z50 := Tryz.sizeOf313
  v50 := Tryz.zeroValue313
  i50 := by kernel_rfl
  t52 := Tryz.underlying249
  a52 := Tryz.isAgg249
  z52 := Tryz.sizeOf249
  v52 := Tryz.zeroValue249
  i52 := by kernel_rfl
  t55 := Tryz.underlying251
  a55 := Tryz.isAgg251
  z55 := Tryz.sizeOf251
  v55 := Tryz.zeroValue251
  i55 := by kernel_rfl
  t59 := Tryz.underlying271
  a59 := Tryz.isAgg271
  z59 := Tryz.sizeOf271
  v59 := Tryz.zeroValue271
  i59 := by kernel_rfl
  t60 := Tryz.underlying153
  a60 := Tryz.isAgg153
  z60 := Tryz.sizeOf153
  v60 := Tryz.zeroValue153
  i60 := by kernel_rfl
  t61 := Tryz.underlying272
  a61 := Tryz.isAgg272
  z61 := Tryz.sizeOf272
  t65 := Tryz.underlying309
  a65 := Tryz.isAgg309
  z65 := Tryz.sizeOf309
  v65 := Tryz.zeroValue309
  i65 := by kernel_rfl
  t66 := Tryz.underlying310
  a66 := Tryz.isAgg310
  z66 := Tryz.sizeOf310
  v66 := Tryz.zeroValue310
  i66 := by kernel_rfl
  t67 := Tryz.underlying233
  a67 := Tryz.isAgg233
  z67 := Tryz.sizeOf233
  v67 := Tryz.zeroValue233
  i67 := by kernel_rfl
  g0 := by kernel_rfl
  m0 := by kernel_rfl
  g1 := by kernel_rfl
  m1 := by kernel_rfl
  g2 := by kernel_rfl
  m2 := by kernel_rfl
  g3 := by kernel_rfl
  m3 := by kernel_rfl
  g4 := by kernel_rfl
  m4 := by kernel_rfl }
open Go.RowKit in
theorem Tryz.strconv_ParseUint_10_at64_ok (s : ByteArray) (hmax : s.size ≤ 9223372036854775806) (u : Nat) (h : Lib.parseUintB 64 s.data.toList = .ok u) (w : World) :
    Calls Tryz.prog 114 #[.string s, .int .i64 10, .int .i64 64] w fun e w' => e = .returned (.tuple #[.int .u64 u, .nilIface]) ∧ (w' = w ∨ w' = Lib.bytesWorld w 5 s) := Any.strconv_ParseUint_10_at64_ok Tryz.laysPu14 s hmax u h w
open Go.RowKit in
theorem Tryz.strconv_ParseUint_10_at64_syntax (s : ByteArray) (hlim : s.size ≤ 281474976710656) (h : Lib.parseUintB 64 s.data.toList = .«syntax») (ev : Value) (w : World) (hv : w.cell? ⟨2, 0, none⟩ = some ev) (hev : ev = .nilIface ∨ ∃ te pe, ev = .iface te pe) :
    Calls Tryz.prog 114 #[.string s, .int .i64 10, .int .i64 64] w fun e w' => ∃ N, e = .returned (.tuple #[.int .u64 0, .iface 284 (.pointer (some ⟨N, 0, none⟩))]) ∧ w.heap.size ≤ N ∧ w'.heap[N]? = some (.cells #[.string ⟨#[80, 97, 114, 115, 101, 85, 105, 110, 116]⟩, .string s, ev] 300 (0, 0)) ∧ Below w.heap.size w w' := Any.strconv_ParseUint_10_at64_syntax Tryz.laysPu14 s hlim h ev w hv hev
def Tryz.lays192_ren : Go.Shelf.Ren := ⟨fun | 192 => 243 | 190 => 246 | 125 => 148 | 258 => 247 | 128 => 180 | 129 => 132 | 302 => 248 | 303 => 249 | 304 => 250 | 305 => 251 | 306 => 252 | 307 => 253 | 308 => 254 | 309 => 255 | 310 => 256 | 333 => 257 | 329 => 190 | 330 => 191 | 334 => 258 | 335 => 259 | 336 => 260 | 344 => 261 | n => n, fun | 31 => 25 | 0 => 0 | 9 => 9 | 3 => 3 | 46 => 39 | 51 => 153 | 53 => 34 | 4 => 4 | 183 => 289 | 182 => 288 | 131 => 176 | 5 => 5 | 218 => 301 | 222 => 304 | 228 => 314 | 229 => 315 | n => n, fun | n => n⟩
theorem Tryz.lays192 : Go.Proofs.Lays.n192 Tryz.prog Tryz.lays192_ren := {
  mixed := by kernel_rfl
  f125 := Tryz.func148.trans (congrArg some (by kernel_rfl))
  f128 := Tryz.func180.trans (congrArg some (by kernel_rfl))
  f129 := Tryz.func132.trans (congrArg some (by kernel_rfl))
  f190 := Tryz.func246.trans (congrArg some (by kernel_rfl))
  f192 := Tryz.func243.trans (congrArg some (by kernel_rfl))
  f258 := Tryz.func247.trans (congrArg some (by kernel_rfl))
  f302 := Tryz.func248.trans (congrArg some (by kernel_rfl))
  f303 := Tryz.func249.trans (congrArg some (by kernel_rfl))
  f304 := Tryz.func250.trans (congrArg some (by kernel_rfl))
  f305 := Tryz.func251.trans (congrArg some (by kernel_rfl))
  f306 := Tryz.func252.trans (congrArg some (by kernel_rfl))
  f307 := Tryz.func253.trans (congrArg some (by kernel_rfl))
  f308 := Tryz.func254.trans (congrArg some (by kernel_rfl))
  f309 := Tryz.func255.trans (congrArg some (by kernel_rfl))
  f310 := Tryz.func256.trans (congrArg some (by kernel_rfl))
  f329 := Tryz.func190.trans (congrArg some (by kernel_rfl))
  f330 := Tryz.func191.trans (congrArg some (by kernel_rfl))
  f333 := Tryz.func257.trans (congrArg some (by kernel_rfl))
  f334 := Tryz.func258.trans (congrArg some (by kernel_rfl))
  f335 := Tryz.func259.trans (congrArg some (by kernel_rfl))
  f336 := Tryz.func260.trans (congrArg some (by kernel_rfl))
  f344 := Tryz.func261.trans (congrArg some (by kernel_rfl))
  t0 := Tryz.underlying0
  a0 := Tryz.isAgg0
  z0 := Tryz.sizeOf0
  v0 := Tryz.zeroValue0
  t3 := Tryz.underlying3
  a3 := Tryz.isAgg3
  z3 := Tryz.sizeOf3
  v3 := Tryz.zeroValue3
  t4 := Tryz.underlying4
  a4 := Tryz.isAgg4
  z4 := Tryz.sizeOf4
  v4 := Tryz.zeroValue4
  t5 := Tryz.underlying5
  a5 := Tryz.isAgg5
  z5 := Tryz.sizeOf5
  v5 := Tryz.zeroValue5
  t9 := Tryz.underlying9
  a9 := Tryz.isAgg9
  z9 := Tryz.sizeOf9
  v9 := Tryz.zeroValue9
  t31 := Tryz.underlying25
  a31 := Tryz.isAgg25
  z31 := Tryz.sizeOf25
  v31 := Tryz.zeroValue25
  t46 := Tryz.underlying39
  a46 := Tryz.isAgg39
  z46 := Tryz.sizeOf39
  v46 := Tryz.zeroValue39
  t51 := Tryz.underlying153
  a51 := Tryz.isAgg153
  z51 := Tryz.sizeOf153
  v51 := Tryz.zeroValue153
  t53 := Tryz.underlying34
  a53 := Tryz.isAgg34
  z53 := Tryz.sizeOf34
  v53 := Tryz.zeroValue34
  t131 := Tryz.underlying176
  a131 := Tryz.isAgg176
  z131 := Tryz.sizeOf176
  v131 := Tryz.zeroValue176
  t182 := Tryz.underlying288
  a182 := Tryz.isAgg288
  z182 := Tryz.sizeOf288
  v182 := Tryz.zeroValue288
  t183 := Tryz.underlying289
  a183 := Tryz.isAgg289
  z183 := Tryz.sizeOf289
  v183 := Tryz.zeroValue289
  t218 := Tryz.underlying301
  a218 := Tryz.isAgg301
  z218 := Tryz.sizeOf301
  v218 := Tryz.zeroValue301
  t222 := Tryz.underlying304
  a222 := Tryz.isAgg304
  z222 := Tryz.sizeOf304
  v222 := Tryz.zeroValue304
  t228 := Tryz.underlying314
  a228 := Tryz.isAgg314
  z228 := Tryz.sizeOf314
  v228 := Tryz.zeroValue314
  t229 := Tryz.underlying315
  a229 := Tryz.isAgg315
  z229 := Tryz.sizeOf315
  v229 := Tryz.zeroValue315 }
open Go.Sort Go.RowKit in
theorem Tryz.sort_Strings (blk off cap : Nat) (ss : List (List UInt8)) (w : World) (hH : Holds encStr w blk off ss.toArray) (hblk : blk < w.heap.size) (hsz : ss.length < 4611686018427387904) :
    Calls Tryz.prog 243 #[.slice (some ⟨blk, off, none⟩) ss.length cap] w fun e w' =>
      e = .returned (.tuple #[]) ∧ ∃ n os, w' = grow (putRow encStr (Sort.ahead w n) blk off (ss.mergeSort fun x y => decide (x ≤ y)).toArray) os := Any.sort_Strings Tryz.lays192 blk off cap ss w hH hblk hsz
open Go.RowKit Go.Sort in
theorem Tryz.sort_Strings_none (p : Option Addr) (cap : Nat) (w : World) :
    Calls Tryz.prog 243 #[.slice p 0 cap] w fun e w' => e = .returned (.tuple #[]) ∧ w' = w := Any.sort_Strings_none Tryz.lays192 p cap w
def Tryz.laysSlE041_f85_ren : Go.Shelf.Ren := ⟨fun | 41 => 85 | n => n, fun | 22 => 98 | 23 => 34 | 4 => 4 | n => n, fun | n => n⟩
theorem Tryz.laysSlE041_f85 : Go.Proofs.SlLaysE0.n41 Tryz.prog Tryz.laysSlE041_f85_ren := {
  mixed := by kernel_rfl
  f41 := ⟨Tryz.f85.name, by decide, Tryz.func85.trans (congrArg some (by kernel_rfl))⟩
  t4 := Tryz.underlying4
  a4 := Tryz.isAgg4
  z4 := Tryz.sizeOf4
  v4 := Tryz.zeroValue4
  t22 := Tryz.underlying98
  a22 := Tryz.isAgg98
  z22 := Tryz.sizeOf98
  v22 := Tryz.zeroValue98 }
open Go.RowKit Go.Lib in
theorem Tryz.slices_Clone (i0 : TypeInfo) (z : Value) (size bytes : Nat) (hi : Tryz.prog.info? 34 = some i0) (hz0 : i0.zero = some z) (hz1 : i0.size = size) (hz2 : i0.bytes = bytes) (hzs : z.cells.size = size) (hsz : 0 < size) (z23 : ∀ w, (Go.sizeOf 34).run Tryz.prog w = .ok size w) (b off n c : Nat) (news : List Value) (w : World) (hl : news.length = n * size) (hn : n ≤ maxLen) (hbig : n * bytes ≤ 140737488355328) (hc : ∀ j u, news[j]? = some u → w.cell? ⟨b, off + j, none⟩ = some u) (h1 : ∀ u ∈ news, u.oneCell' = true) :
    Calls Tryz.prog 85 #[.slice (some ⟨b, off, none⟩) n c] w fun e w' => ∃ v', e = .returned v' ∧ w'.ownsRow w.heap.size 34 size v' n news ∧ v' ≠ .slice none 0 0 ∧ Below w.heap.size w w' := AnyE.slices_Clone Tryz.laysSlE041_f85 i0 z size bytes hi hz0 hz1 hz2 hzs hsz z23 b off n c news w hl hn hbig hc h1
def Tryz.laysSlE041_f84_ren : Go.Shelf.Ren := ⟨fun | 41 => 84 | n => n, fun | 22 => 40 | 23 => 44 | 4 => 4 | n => n, fun | n => n⟩
theorem Tryz.laysSlE041_f84 : Go.Proofs.SlLaysE0.n41 Tryz.prog Tryz.laysSlE041_f84_ren := {
  mixed := by kernel_rfl
  f41 := ⟨Tryz.f84.name, by decide, Tryz.func84.trans (congrArg some (by kernel_rfl))⟩
  t4 := Tryz.underlying4
  a4 := Tryz.isAgg4
  z4 := Tryz.sizeOf4
  v4 := Tryz.zeroValue4
  t22 := Tryz.underlying40
  a22 := Tryz.isAgg40
  z22 := Tryz.sizeOf40
  v22 := Tryz.zeroValue40 }
open Go.RowKit Go.Lib in
theorem Tryz.slices_CloneR (i0 : TypeInfo) (z : Value) (size bytes : Nat) (hi : Tryz.prog.info? 44 = some i0) (hz0 : i0.zero = some z) (hz1 : i0.size = size) (hz2 : i0.bytes = bytes) (hzs : z.cells.size = size) (hsz : 0 < size) (z23 : ∀ w, (Go.sizeOf 44).run Tryz.prog w = .ok size w) (b off n c : Nat) (news : List Value) (w : World) (hl : news.length = n * size) (hn : n ≤ maxLen) (hbig : n * bytes ≤ 140737488355328) (hc : ∀ j u, news[j]? = some u → w.cell? ⟨b, off + j, none⟩ = some u) (h1 : ∀ u ∈ news, u.oneCell' = true) :
    Calls Tryz.prog 84 #[.slice (some ⟨b, off, none⟩) n c] w fun e w' => ∃ v', e = .returned v' ∧ w'.ownsRow w.heap.size 44 size v' n news ∧ v' ≠ .slice none 0 0 ∧ Below w.heap.size w w' := AnyE.slices_Clone Tryz.laysSlE041_f84 i0 z size bytes hi hz0 hz1 hz2 hzs hsz z23 b off n c news w hl hn hbig hc h1
end Go.Proofs
/- strconv.FormatUint at base 10; a segment's name. -/
namespace Go.Proofs.YtbdhmkfdofkloaaGreatDoor
open Go.RowKit Go.Sort Go.Lib

/-- the table of powers, in the world -/
def Pows (w : World) : Prop := Lib.TabIs Tryz.prog w "internal/strconv.uint64pow10" .u64 Lib.pow10Tab
theorem holds0 (w : World) (T : TypeId) (nd : Nat) (hs : nd ≤ 24) : Holds (fun (b : UInt8) => Value.int .u8 (b.toNat : Int)) (w.alloc (.cells zeros24 T)) w.heap.size 0 (Array.replicate nd (0 : UInt8)) := fun j hj => by
  have hj' : j < nd := by simpa using hj
  refine ⟨?_, World.frozen?_alloc_new _ _ _ _⟩
  rw [World.cell?_alloc_new, zeros24_at _ (by omega), getElem!_pos _ j hj]
  simp
theorem below_drewN' {B : Nat} {a w : World} (h : Below B a w) : ∀ k, Below B a (w.drewN k)
  | 0 => h
  | k + 1 => by
    have := (below_drewN' h k).drew
    exact this
theorem below_row (w : World) (o : Obj) (dk : Array UInt8) (k : Nat) : Below w.heap.size w ((putRow (fun (b : UInt8) => Value.int .u8 (b.toNat : Int)) (w.alloc o) w.heap.size 0 dk).drewN k) := by
  have h1 : Below w.heap.size w (putRow (fun (b : UInt8) => Value.int .u8 (b.toNat : Int)) (w.alloc o) w.heap.size 0 dk) := by
    refine ⟨rfl, rfl, rfl, by simp, fun i hi => ?_⟩
    simp only [putRow, mapBlock, Array.getElem?_modify]
    rw [if_neg (by omega)]
    exact Below.heap_alloc _ _ _ hi
  exact below_drewN' h1 k
set_option maxRecDepth 100000 in
set_option maxHeartbeats 4000000 in
theorem formatIn (u : Nat) (w : World) (hu64 : u < 18446744073709551616) (htab : Pows w) :
    Calls Tryz.prog 109 #[.int .u64 (u : Int), .int .i64 10] w fun e w' => e = .returned (.string ⟨(Lib.decDigits u).toArray⟩) ∧ Below w.heap.size w w' := by
  by_cases hs : u < 100
  · have h1 : (u : Int) < 100 := by omega
    go_enter Tryz.func109, Tryz.ntmps109
    go_wp2_with (first | (go_at_call 137; refine (Tryz.internal_strconv_small u hs _).mono ?_; rintro e w' ⟨rfl, rfl⟩))
    go_ret
    exact ⟨rfl, Below.refl _ _⟩
  · have h1 : ¬ (u : Int) < 100 := by omega
    have hu1 : 1 ≤ u := by omega
    have hnd20 : Lib.nDigits u ≤ 20 := by have := Lib.numDigits_eq u hu1 hu64; split at this <;> omega
    have hal : Tryz.prog.arrayLen 249 = 24 := by simp [Program.arrayLen, Tryz.underlying249]
    have hsl : ∀ W, (Instr.sliceAt 249 (.pointer (some ⟨w.heap.size, 0, none⟩)) none (some (.int .i64 (Lib.nDigits u : Int))) none).run Tryz.prog W = .ok (.slice (some ⟨w.heap.size, 0, none⟩) (Lib.nDigits u) 24) W := fun W => by
      rw [run_sliceAt_array_h W 249 ⟨w.heap.size, 0, none⟩ (by simp [Program.arrayLen, Program.elem, Tryz.underlying249]) .i64 (Lib.nDigits u : Int) (by omega) (by rw [hal]; omega)]
      go_simp
    have hH0 := holds0 w 249 (Lib.nDigits u) (by omega)
    have hfmt := Tryz.internal_strconv_formatBase10 w.heap.size 0 24 u (Array.replicate (Lib.nDigits u) 0) (w.alloc (.cells Lib.zeros24 249)) hH0 (by rw [Array.size_replicate]; exact Lib.lt_pow_nDigits u) hu64 (by rw [Array.size_replicate]; omega)
    rw [Array.size_replicate] at hfmt
    have HH0 := Lib.hid hH0
    clear hH0 hal
    go_enter Tryz.func109, Tryz.ntmps109
    go_wp2_with (first | (go_at_call 138; refine (Tryz.internal_strconv_numDigits u hu1 hu64 _ (Lib.tabIs_alloc htab _)).mono ?_; rintro e w' ⟨rfl, rfl⟩))
    go_at_call 139
    refine hfmt.mono ?_
    rintro e w' ⟨rfl, k, v', dk, rfl, hF⟩
    have hcv : (convert 95 9 (.slice (some ⟨w.heap.size, 0, none⟩) (Lib.nDigits u) 24)).run Tryz.prog ((putRow (fun (b : UInt8) => Value.int .u8 (b.toNat : Int)) (w.alloc (.cells Lib.zeros24 249)) w.heap.size 0 dk).drewN k) = .ok (.string ⟨(Lib.decDigits u).toArray⟩) ((putRow (fun (b : UInt8) => Value.int .u8 (b.toNat : Int)) (w.alloc (.cells Lib.zeros24 249)) w.heap.size 0 dk).drewN k) := by
      have h := run_convert_bytes_back (P := Tryz.prog) ((putRow (fun (b : UInt8) => Value.int .u8 (b.toNat : Int)) (w.alloc (.cells Lib.zeros24 249)) w.heap.size 0 dk).drewN k) 95 9 5 ⟨w.heap.size, 0, none⟩ 24 (Lib.decDigits u) Tryz.underlying95 Tryz.underlying5 Tryz.underlying9 (fun j hj => by
        rw [Lib.row_is_numeral hF j hj, Lib.add_plain, World.cell?_drewN]
        exact cell?_putRow (fun (b : UInt8) => Value.int .u8 (b.toNat : Int)) _ w.heap.size 0 _ dk HH0.out (by rw [hF.size, Array.size_replicate]) j (by rw [hF.size]; rw [Lib.decDigits_length] at hj; exact hj))
      rw [Lib.decDigits_length] at h
      exact h
    go_wp2
    go_ret
    exact ⟨rfl, below_row w _ dk k⟩
set_option maxHeartbeats 1000000 in
theorem formatPub (u : Nat) (w : World) (hu64 : u < 18446744073709551616) (htab : Pows w) :
    Calls Tryz.prog 77 #[.int .u64 (u : Int), .int .i64 10] w fun e w' => e = .returned (.string ⟨(Lib.decDigits u).toArray⟩) ∧ Below w.heap.size w w' := by
  go_enter Tryz.func77, Tryz.ntmps77
  go_wp2_with fail
  refine (formatIn u w hu64 htab).mono ?_
  rintro e w1 ⟨rfl, hb⟩
  go_wp2
  go_ret
  exact ⟨rfl, hb⟩
/-- a segment's name -/
def segName (u : Nat) : ByteArray := ⟨#[115, 101, 103, 109, 101, 110, 116, 45]⟩ ++ ⟨(Lib.decDigits u).toArray⟩
theorem segName_size (u : Nat) (hu : u < 18446744073709551616) : (segName u).size ≤ 28 := by
  have hnd20 : (Lib.decDigits u).length ≤ 20 := by
    rw [Lib.decDigits_length]
    by_cases h1 : 1 ≤ u
    · have := Lib.numDigits_eq u h1 hu; split at this <;> omega
    · obtain rfl : u = 0 := by omega
      rw [Lib.nDigits_small (by omega)]; omega
  unfold segName
  rw [ByteArray.size_append]
  show 8 + (Lib.decDigits u).toArray.size ≤ 28
  simp; omega
set_option maxHeartbeats 1000000 in
theorem segmentName_any (u : Nat) (w : World) (hu64 : u < 18446744073709551616) (htab : Pows w) :
    Calls Tryz.prog 50 #[.int .u64 (u : Int)] w fun e w' => e = .returned (.string (segName u)) ∧ Below w.heap.size w w' := by
  go_enter Tryz.func50, Tryz.ntmps50
  go_wp2_with fail
  refine (formatPub u w hu64 htab).mono ?_
  rintro e w1 ⟨rfl, hb⟩
  have hsz := segName_size u hu64
  unfold segName at hsz
  rw [ByteArray.size_append] at hsz
  have hno : ¬ 9223372036854775807 < (⟨#[115, 101, 103, 109, 101, 110, 116, 45]⟩ : ByteArray).size + (⟨(Lib.decDigits u).toArray⟩ : ByteArray).size := by omega
  go_wp2
  all_goals first
    | (go_ret; exact ⟨rfl, hb⟩)
    | (exfalso; rename_i hh; exact hno hh)
end Go.Proofs.YtbdhmkfdofkloaaGreatDoor
/- A LOG, plainly; and how it lies in memory. -/
namespace Go.Proofs.YtbdhmkfdofkloaaGreatDoor
open Go.RowKit
open Sc

structure ALog where
  segs : List Nat
  filled : Nat
  recs : List Rec
  next : Nat
  durable : Nat
  failed : Nat
/-- numbers as cells -/
def u64s (l : List Nat) : List Value := l.map fun x : Nat => .int .u64 (x : Int)
theorem u64s_snoc (l : List Nat) (x : Nat) : u64s (l ++ [x]) = u64s l ++ [.int .u64 (x : Int)] := by simp [u64s]
theorem u64s_len (l : List Nat) : (u64s l).length = l.length := by simp [u64s]
abbrev dskV (p : Nat) : Value := .iface 53 (.pointer (some ⟨p, 0, none⟩))
abbrev logO (p : Nat) (sv rv : Value) (l : ALog) : Obj := .cells #[dskV p, sv, .int .i64 (l.filled : Int), rv, .int .u64 (l.next : Int), .int .u64 (l.durable : Int), errN l.failed] 100

/-- the blocks that an object leads to by maps and slices -/
def refs : Option Obj → List Nat
  | some (.cells c _ _) => c.toList.filterMap fun v => match v with
    | .map r => r
    | .slice (some a) _ _ => some a.block
    | _ => none
  | _ => []
/-- what is the log's -/
def Own (lp p : Nat) (w : World) (k : Nat) : Prop := k = lp ∨ k = p ∨ k ∈ refs w.heap[lp]? ∨ k ∈ refs w.heap[p]?
/-- nothing has turned but what is the log's, and new blocks; what is the log's is that or new -/
structure OFr (lp p : Nat) (w w' : World) : Prop where
  os : w'.os = w.os
  tape : w'.tape = w.tape
  output : w'.output = w.output
  size : w.heap.size ≤ w'.heap.size
  block : ∀ k, k < w.heap.size → ¬ Own lp p w k → w'.heap[k]? = w.heap[k]?
  stay : ∀ k, k < w.heap.size → Own lp p w' k → Own lp p w k
theorem OFr.refl (lp p : Nat) (w : World) : OFr lp p w w := ⟨rfl, rfl, rfl, Nat.le_refl _, fun _ _ _ => rfl, fun _ _ h => h⟩
theorem OFr.trans {lp p : Nat} {a b c : World} (h : OFr lp p a b) (k : OFr lp p b c) : OFr lp p a c :=
  ⟨k.os.trans h.os, k.tape.trans h.tape, k.output.trans h.output, Nat.le_trans h.size k.size,
    fun i hi hn => (k.block i (Nat.lt_of_lt_of_le hi h.size) (fun ho => hn (h.stay i hi ho))).trans (h.block i hi hn),
    fun i hi ho => h.stay i hi (k.stay i (Nat.lt_of_lt_of_le hi h.size) ho)⟩
/-- the log in memory -/
structure LogIn (w : World) (B lp p bD bN : Nat) (pv sv rv : Value) (l : ALog) (d : ADisk) (n nD nN : Nat) : Prop where
  disk : DiskIn w B p bD bN pv d n nD nN
  blk : w.heap[lp]? = some (logO p sv rv l)
  base : B ≤ lp
  segs : w.ownsRow B 34 1 sv l.segs.length (u64s l.segs)
  recs : w.ownsRow B 44 3 rv l.recs.length (recsV l.recs)
  segsN : l.segs.length ≤ n ∧ ∀ s ∈ l.segs, s < 18446744073709551616
  recsN : l.recs.length ≤ n
  fillN : l.filled ≤ 4096
  nextN : l.next ≤ n + 1
  durN : l.durable < 18446744073709551616
theorem own_sl {w : World} {B n : Nat} {e : TypeId} {k : Nat} {v : Value} {xs : List Value} (h : w.ownsRow B e k v n xs) : ∃ a m c, v = .slice a m c := by
  rcases h.2 with ⟨rfl, _⟩ | ⟨g, cap, cur, rfl, _⟩
  · exact ⟨_, _, _, rfl⟩
  · exact ⟨_, _, _, rfl⟩
/-- a value's block, of a map or a slice -/
def ref1 (v : Value) : Option Nat := match v with
  | .map r => r
  | .slice (some a) _ _ => some a.block
  | _ => none
theorem refs_cells (c : Array Value) (t : TypeId) (fr : Nat × Nat) : refs (some (.cells c t fr)) = c.toList.filterMap ref1 := rfl
theorem ref1_sl {v : Value} (h : ∃ a m c, v = .slice a m c) : ref1 v = v.ownBlock := by
  obtain ⟨a, m, c, rfl⟩ := h
  cases a <;> rfl
theorem ref1_err (n : Nat) : ref1 (errN n) = none := by unfold errN; split <;> rfl
theorem mem_log {p : Nat} {sv rv : Value} {l : ALog} (hs : ∃ a m c, sv = .slice a m c) (hr : ∃ a m c, rv = .slice a m c) (k : Nat) : k ∈ refs (some (logO p sv rv l)) ↔ sv.ownBlock = some k ∨ rv.ownBlock = some k := by
  rw [refs_cells]
  simp only [List.mem_filterMap, List.mem_cons, List.not_mem_nil, or_false]
  constructor
  · rintro ⟨v, hv, hk⟩
    rcases hv with rfl | rfl | rfl | rfl | rfl | rfl | rfl
    · cases hk
    · left; rw [← ref1_sl hs]; exact hk
    · cases hk
    · right; rw [← ref1_sl hr]; exact hk
    · cases hk
    · cases hk
    · rw [ref1_err] at hk; cases hk
  · rintro (h | h)
    · exact ⟨sv, by simp, by rw [ref1_sl hs]; exact h⟩
    · exact ⟨rv, by simp, by rw [ref1_sl hr]; exact h⟩
theorem mem_dsk {bD bN : Nat} {pv : Value} {a b : Int} {dn : Bool} (hp : ∃ a m c, pv = .slice a m c) (k : Nat) : k ∈ refs (some (dskO bD bN pv a b dn)) ↔ k = bD ∨ k = bN ∨ pv.ownBlock = some k := by
  rw [refs_cells]
  simp only [List.mem_filterMap, List.mem_cons, List.not_mem_nil, or_false]
  constructor
  · rintro ⟨v, hv, hk⟩
    rcases hv with rfl | rfl | rfl | rfl | rfl | rfl
    · left; cases hk; rfl
    · right; left; cases hk; rfl
    · right; right; rw [← ref1_sl hp]; exact hk
    · cases hk
    · cases hk
    · cases hk
  · rintro (h | h | h)
    · exact ⟨.map (some bD), by simp, by subst h; rfl⟩
    · exact ⟨.map (some bN), by simp, by subst h; rfl⟩
    · exact ⟨pv, by simp, by rw [ref1_sl hp]; exact h⟩
section
variable {w w' : World} {B lp p bD bN n nD nN bN' n' nD' nN' : Nat} {pv sv rv pv' sv' rv' : Value} {l l' : ALog} {d d' : ADisk}
theorem LogIn.own (h : LogIn w B lp p bD bN pv sv rv l d n nD nN) (k : Nat) : Own lp p w k ↔ k = lp ∨ k = p ∨ k = bD ∨ k = bN ∨ pv.ownBlock = some k ∨ sv.ownBlock = some k ∨ rv.ownBlock = some k := by
  unfold Own
  rw [h.blk, h.disk.blk, mem_log (own_sl h.segs) (own_sl h.recs), mem_dsk (own_sl h.disk.pen)]
  constructor
  · rintro (h | h | (h | h) | (h | h | h)) <;> simp [h]
  · rintro (h | h | h | h | h | h | h) <;> simp [h]
theorem LogIn.ofr {S : List Nat} (h : LogIn w B lp p bD bN pv sv rv l d n nD nN) (h' : LogIn w' B lp p bD bN' pv' sv' rv' l' d' n' nD' nN') (hf : Fr S w w')
    (hS : ∀ k ∈ S, k < w.heap.size → k = lp ∨ k = p ∨ k = bD ∨ k = bN ∨ pv.ownBlock = some k ∨ sv.ownBlock = some k ∨ rv.ownBlock = some k)
    (hb : bN' = bN ∨ w.heap.size ≤ bN') (h1 : Near w.heap.size pv pv') (h2 : Near w.heap.size sv sv') (h3 : Near w.heap.size rv rv') : OFr lp p w w' := by
  refine ⟨hf.os, hf.tape, hf.output, hf.size, fun k hk hn => hf.block k hk (fun hm => hn ((h.own k).2 (hS k hm hk))), fun k hk ho => ?_⟩
  rw [h.own]
  rcases (h'.own k).1 ho with e | e | e | e | e | e | e
  · exact .inl e
  · exact .inr (.inl e)
  · exact .inr (.inr (.inl e))
  · rcases hb with hb | hb
    · exact .inr (.inr (.inr (.inl (e.trans hb))))
    · omega
  · rcases h1 k e with e | e
    · exact .inr (.inr (.inr (.inr (.inl e))))
    · omega
  · rcases h2 k e with e | e
    · exact .inr (.inr (.inr (.inr (.inr (.inl e)))))
    · omega
  · rcases h3 k e with e | e
    · exact .inr (.inr (.inr (.inr (.inr (.inr e)))))
    · omega
/-- the log's own block and rows are no part of the disk -/
theorem LogIn.sep (h : LogIn w B lp p bD bN pv sv rv l d n nD nN) : ∀ k ∈ dS p bD bN pv, k ≠ lp ∧ sv.ownBlock ≠ some k ∧ rv.ownBlock ≠ some k := by
  intro k hk
  have key : ∀ (c : Array Value) (t : TypeId) (q : Nat), w.heap[q]? = some (.cells c t (0, 0)) → t ≠ 57 → t ≠ 107 → k ≠ q := by
    intro c t q hq h1 h2 e
    subst e
    rcases List.mem_cons.1 hk with e | hk
    · rw [e, h.disk.blk] at hq; cases hq; exact h1 rfl
    rcases List.mem_cons.1 hk with e | hk
    · exact h.disk.dur.ne_cells hq e.symm
    rcases List.mem_cons.1 hk with e | hk
    · exact h.disk.now.ne_cells hq e.symm
    · simp at hk; exact own_ne h.disk.pen hq (fun e => h2 e.symm) hk
  refine ⟨key _ _ lp h.blk (by decide) (by decide), fun e => ?_, fun e => ?_⟩
  · obtain ⟨c, hc⟩ := own_cells h.segs e
    exact key _ _ k hc (by decide) (by decide) rfl
  · obtain ⟨c, hc⟩ := own_cells h.recs e
    exact key _ _ k hc (by decide) (by decide) rfl
/-- the disk has turned -/
theorem LogIn.turned {S : List Nat} (h : LogIn w B lp p bD bN pv sv rv l d n nD nN) (hd : DiskIn w' B p bD bN pv' d' n' nD' nN') (hf : Fr S w w') (hS : ∀ k ∈ S, k < w.heap.size → k ≠ lp ∧ sv.ownBlock ≠ some k ∧ rv.ownBlock ≠ some k) (hn : n ≤ n') : LogIn w' B lp p bD bN pv' sv rv l d' n' nD' nN' where
  disk := hd
  blk := (hf.block lp (Array.getElem?_eq_some_iff.1 h.blk).1 (fun hm => (hS lp hm (Array.getElem?_eq_some_iff.1 h.blk).1).1 rfl)).trans h.blk
  base := h.base
  segs := ownsRow_fr h.segs hf (fun g hg hm => (hS g hm (h.segs.lt g hg).2).2.1 hg)
  recs := ownsRow_fr h.recs hf (fun g hg hm => (hS g hm (h.recs.lt g hg).2).2.2 hg)
  segsN := ⟨by have := h.segsN.1; omega, h.segsN.2⟩
  recsN := by have := h.recsN; omega
  fillN := h.fillN
  nextN := by have := h.nextN; omega
  durN := h.durN
end
/-- the log's own block alone was written -/
theorem LogIn.own1 {w w' : World} {B lp p bD bN n nD nN : Nat} {pv sv rv : Value} {l l' : ALog} {d : ADisk} (h : LogIn w B lp p bD bN pv sv rv l d n nD nN) (hf : Fr [lp] w w') (hb : w'.heap[lp]? = some (logO p sv rv l'))
    (h1 : l'.segs.length ≤ n ∧ ∀ s ∈ l'.segs, s < 18446744073709551616) (h2 : l'.recs.length ≤ n) (h3 : l'.filled ≤ 4096) (h4 : l'.next ≤ n + 1) (h5 : l'.durable < 18446744073709551616) (e1 : l'.segs = l.segs) (e2 : l'.recs = l.recs) : LogIn w' B lp p bD bN pv sv rv l' d n nD nN := by
  have hne : ∀ k ∈ dS p bD bN pv, k ∉ [lp] := fun k hk hm => by simp at hm; exact (h.sep k hk).1 hm
  refine { disk := ?_, blk := hb, base := h.base, segs := ?_, recs := ?_, segsN := h1, recsN := h2, fillN := h3, nextN := h4, durN := h5 }
  · refine h.disk.fr hf (hne p (by simp)) (hne bD (by simp)) (hne bN (by simp)) (fun g hg => hne g (by simp [hg])) ?_
    intro q hq t; simp at hq; subst hq; rw [h.blk]; intro e; cases e
  · rw [e1]; exact ownsRow_fr h.segs hf (fun g hg => by simp; intro e; subst e; exact own_ne h.segs h.blk (by decide) hg)
  · rw [e2]; exact ownsRow_fr h.recs hf (fun g hg => by simp; intro e; subst e; exact own_ne h.recs h.blk (by decide) hg)
/-- what stands behind a call of the log's -/
def LogPost (B lp p bD bN : Nat) (l : ALog) (d : ADisk) (n : Nat) (w w' : World) : Prop :=
  (∃ pv sv rv nD nN, LogIn w' B lp p bD bN pv sv rv l d n nD nN) ∧ OFr lp p w w'
theorem Tryz.mAppend (h : Value) (w : World) : (Go.method 471 53 h "Append").run Tryz.prog w = .ok (235, h) w := by kernel_rfl
theorem Tryz.mNames (h : Value) (w : World) : (Go.method 471 53 h "Names").run Tryz.prog w = .ok (236, h) w := by kernel_rfl
theorem Tryz.mRead (h : Value) (w : World) : (Go.method 471 53 h "Read").run Tryz.prog w = .ok (237, h) w := by kernel_rfl
theorem Tryz.mRemove (h : Value) (w : World) : (Go.method 471 53 h "Remove").run Tryz.prog w = .ok (238, h) w := by kernel_rfl
theorem Tryz.mRename (h : Value) (w : World) : (Go.method 471 53 h "Rename").run Tryz.prog w = .ok (239, h) w := by kernel_rfl
theorem Tryz.mSync (h : Value) (w : World) : (Go.method 471 53 h "Sync").run Tryz.prog w = .ok (240, h) w := by kernel_rfl
theorem Tryz.mWrite (h : Value) (w : World) : (Go.method 471 53 h "Write").run Tryz.prog w = .ok (241, h) w := by kernel_rfl
def ALog.sync (l : ALog) (d : ADisk) : ALog × ADisk × Nat :=
  if d.sync.2 = 0 then ({ l with durable := l.next }, d.sync.1, 0) else (l, d.sync.1, d.sync.2)
set_option maxRecDepth 100000 in
set_option maxHeartbeats 1000000 in
theorem lsync_any (B lp p bD bN n nD nN : Nat) (pv sv rv : Value) (l : ALog) (d : ADisk) (w : World) (h : LogIn w B lp p bD bN pv sv rv l d n nD nN) (hn : n ≤ 1000000000) :
    Calls Tryz.prog 52 #[.pointer (some ⟨lp, 0, none⟩)] w fun e w' => e = .returned (errN (l.sync d).2.2) ∧ LogPost B lp p bD bN (l.sync d).1 (l.sync d).2.1 n w w' := by
  have c0 := blk_cell h.blk 0
  simp at c0
  have HI : Hid (LogIn w B lp p bD bN pv sv rv l d n nD nN) := h
  clear h
  go_enter Tryz.func52, Tryz.ntmps52
  have hm := Tryz.mSync
  go_wp2_with fail
  refine (sync_any B p bD bN n nD nN pv d w HI.out.disk).mono ?_
  rintro e w1 ⟨rfl, ⟨pv1, nD1, hd1, hne1⟩, hf1⟩
  have hl1 : LogIn w1 B lp p bD bN pv1 sv rv l d.sync.1 n nD1 nN := HI.out.turned hd1 hf1 (fun k hk _ => HI.out.sep k (by simp at hk; rcases hk with h | h <;> simp [h])) (Nat.le_refl _)
  have ho1 : OFr lp p w w1 := HI.out.ofr hl1 hf1 (fun k hk _ => by simp at hk; rcases hk with h | h <;> simp [h]) (.inl rfl) hne1 (Near.refl _ _) (Near.refl _ _)
  have H1 : Hid (LogIn w1 B lp p bD bN pv1 sv rv l d.sync.1 n nD1 nN) := hl1
  have HO : Hid (OFr lp p w w1) := ho1
  have k4 := blk_cell hl1.blk 4
  have k5 := blk_cell hl1.blk 5
  have f5 := blk_free hl1.blk 5
  simp at k4 k5
  clear hd1 hne1 hf1 hl1 ho1 c0
  by_cases hc : d.sync.2 = 0
  · rw [hc, errN_ok]
    go_wp2
    go_ret
    have e : l.sync d = ({ l with durable := l.next }, d.sync.1, 0) := by unfold ALog.sync; rw [if_pos hc]
    rw [e]
    obtain ⟨W, hW⟩ : ∃ W, W = w1.setCell ⟨lp, 5, none⟩ (.int .u64 (l.next : Int)) := ⟨_, rfl⟩
    rw [← hW]
    have hf : Fr [lp] w1 W := by rw [hW]; exact Fr.set1 (by simp) _ _
    have hb : W.heap[lp]? = some (logO p sv rv { l with durable := l.next }) := by rw [hW]; have := blk_set H1.out.blk 5 (.int .u64 (l.next : Int)); simpa using this
    have hl2 : LogIn W B lp p bD bN pv1 sv rv { l with durable := l.next } d.sync.1 n nD1 nN := H1.out.own1 hf hb H1.out.segsN H1.out.recsN H1.out.fillN H1.out.nextN (by have := H1.out.nextN; simp; omega) rfl rfl
    exact ⟨rfl, ⟨pv1, sv, rv, nD1, nN, hl2⟩, HO.out.trans (H1.out.ofr hl2 hf (fun k hk _ => by simp at hk; simp [hk]) (.inl rfl) (Near.refl _ _) (Near.refl _ _) (Near.refl _ _))⟩
  · have e : l.sync d = (l, d.sync.1, d.sync.2) := by unfold ALog.sync; rw [if_neg hc]
    rw [errN_no hc]
    go_wp2
    go_ret
    rw [e]
    exact ⟨by rw [errN_no hc]; rfl, ⟨pv1, sv, rv, nD1, nN, H1.out⟩, HO.out⟩
end Go.Proofs.YtbdhmkfdofkloaaGreatDoor
