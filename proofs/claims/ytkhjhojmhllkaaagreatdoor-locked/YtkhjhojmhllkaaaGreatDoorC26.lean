import Derived.Shelf.Small.Bits
import Derived.Shelf.Small.Wraps
import Derived.Shelf.Strconv.Itoa0
import Derived.Shelf.Strconv.Itoa1
import Derived.Shelf.LaysM
import Derived.Shelf.Strconv.Itoa2
import Derived.Shelf.Strconv.Itoa3
import Derived.Shelf.Strconv.Clone
import Derived.Ground.MpProg
import Derived.Shelf.Pu.ParseUintPublic10
import Derived.Shelf.Sort.Plain
import Derived.Shelf.Strings.Prefix
import Derived.Shelf.Slices.In.SortNone
import Derived.Shelf.Slices.In.SortNone2
import Derived.Ground.SlgnProg
import Derived.Shelf.SlicesE.Clone
import Derived.Test.YtkhjhojmhllkaaaGreatDoorProg
import Derived.Shelf.SlIter.Nil
import Derived.Ground.GgzProg
import Derived.Test.YtkhjhojmhllkaaaGreatDoorC20
import Derived.Shelf.AbstractIn
import Derived.RangeFuncNested
import Derived.RangeFuncBox
import Derived.RangeFuncBound
import Derived.RangeFuncCalls
import Derived.RangeFuncLeaves
import Derived.Shelf.Abstract
import Derived.Shelf.RegionOpen
import Derived.WalkKit
import Derived.OwnWalkIn
import Derived.TacticsInMore
import Derived.LoopNIn
import Derived.LoopIn
import Derived.Maps.AppendAt
import Derived.Test.YtkhjhojmhllkaaaGreatDoorC18
import Derived.Test.YtkhjhojmhllkaaaGreatDoorC25
namespace Go.Proofs
open Go.Shelf
def Tryz.lays190_ren : Go.Shelf.Ren := ⟨fun | 190 => 240 | 125 => 234 | 258 => 274 | 128 => 264 | 129 => 231 | 302 => 296 | 303 => 297 | 304 => 298 | 305 => 299 | 306 => 300 | 307 => 301 | 308 => 302 | 309 => 303 | 310 => 304 | 333 => 314 | 329 => 286 | 330 => 287 | 334 => 315 | 335 => 316 | 336 => 317 | 344 => 323 | n => n, fun | 31 => 188 | 9 => 9 | 3 => 3 | 46 => 332 | 0 => 0 | 51 => 290 | 53 => 33 | 4 => 4 | 183 => 367 | 182 => 366 | 131 => 268 | 5 => 5 | 218 => 393 | 222 => 396 | 228 => 410 | 229 => 411 | n => n, fun | n => n⟩
theorem Tryz.lays190 : Go.Proofs.Lays.n190 Tryz.prog Tryz.lays190_ren := {
  mixed := by kernel_rfl
  f125 := Tryz.func234.trans (congrArg some (by kernel_rfl))
  f128 := Tryz.func264.trans (congrArg some (by kernel_rfl))
  f129 := Tryz.func231.trans (congrArg some (by kernel_rfl))
  f190 := Tryz.func240.trans (congrArg some (by kernel_rfl))
  f258 := Tryz.func274.trans (congrArg some (by kernel_rfl))
  f302 := Tryz.func296.trans (congrArg some (by kernel_rfl))
  f303 := Tryz.func297.trans (congrArg some (by kernel_rfl))
  f304 := Tryz.func298.trans (congrArg some (by kernel_rfl))
  f305 := Tryz.func299.trans (congrArg some (by kernel_rfl))
  f306 := Tryz.func300.trans (congrArg some (by kernel_rfl))
  f307 := Tryz.func301.trans (congrArg some (by kernel_rfl))
  f308 := Tryz.func302.trans (congrArg some (by kernel_rfl))
  f309 := Tryz.func303.trans (congrArg some (by kernel_rfl))
  f310 := Tryz.func304.trans (congrArg some (by kernel_rfl))
  f329 := Tryz.func286.trans (congrArg some (by kernel_rfl))
  f330 := Tryz.func287.trans (congrArg some (by kernel_rfl))
  f333 := Tryz.func314.trans (congrArg some (by kernel_rfl))
  f334 := Tryz.func315.trans (congrArg some (by kernel_rfl))
  f335 := Tryz.func316.trans (congrArg some (by kernel_rfl))
  f336 := Tryz.func317.trans (congrArg some (by kernel_rfl))
  f344 := Tryz.func323.trans (congrArg some (by kernel_rfl))
  t0 := Tryz.underlying0
  a0 := Tryz.isAgg0
  z0 := Tryz.sizeOf0
  v0 := Tryz.zeroValue0
  t3 := Tryz.underlying3
  a3 := Tryz.isAgg3
  z3 := Tryz.sizeOf3
  v3 := Tryz.zeroValue3
  t4 := Tryz.underlying4
  a4 := Tryz.isAgg4
  z4 := Tryz.sizeOf4
  v4 := Tryz.zeroValue4
  t5 := Tryz.underlying5
  a5 := Tryz.isAgg5
  z5 := Tryz.sizeOf5
  v5 := Tryz.zeroValue5
  t9 := Tryz.underlying9
  a9 := Tryz.isAgg9
  z9 := Tryz.sizeOf9
  v9 := Tryz.zeroValue9
  t31 := Tryz.underlying188
  a31 := Tryz.isAgg188
  z31 := Tryz.sizeOf188
  v31 := Tryz.zeroValue188
  t46 := Tryz.underlying332
  a46 := Tryz.isAgg332
  z46 := Tryz.sizeOf332
  v46 := Tryz.zeroValue332
  t51 := Tryz.underlying290
  a51 := Tryz.isAgg290
  z51 := Tryz.sizeOf290
  v51 := Tryz.zeroValue290
  t53 := Tryz.underlying33
  a53 := Tryz.isAgg33
  z53 := Tryz.sizeOf33
  v53 := Tryz.zeroValue33
  t131 := Tryz.underlying268
  a131 := Tryz.isAgg268
  z131 := Tryz.sizeOf268
  v131 := Tryz.zeroValue268
  t182 := Tryz.underlying366
  a182 := Tryz.isAgg366
  z182 := Tryz.sizeOf366
  v182 := Tryz.zeroValue366
  t183 := Tryz.underlying367
  a183 := Tryz.isAgg367
  z183 := Tryz.sizeOf367
  v183 := Tryz.zeroValue367
  t218 := Tryz.underlying393
  a218 := Tryz.isAgg393
  z218 := Tryz.sizeOf393
  v218 := Tryz.zeroValue393
  t222 := Tryz.underlying396
  a222 := Tryz.isAgg396
  z222 := Tryz.sizeOf396
  v222 := Tryz.zeroValue396
  t228 := Tryz.underlying410
  a228 := Tryz.isAgg410
  z228 := Tryz.sizeOf410
  v228 := Tryz.zeroValue410
  t229 := Tryz.underlying411
  a229 := Tryz.isAgg411
  z229 := Tryz.sizeOf411
  v229 := Tryz.zeroValue411 }
open Go.Sort Go.RowKit in
theorem Tryz.slices_Sort_string (blk off cap : Nat) (ss : List (List UInt8)) (w : World) (hH : Holds encStr w blk off ss.toArray) (hblk : blk < w.heap.size) (hsz : ss.length < 4611686018427387904) :
    Calls Tryz.prog 240 #[.slice (some ⟨blk, off, none⟩) ss.length cap] w fun e w' =>
      e = .returned (.tuple #[]) ∧ ∃ n os, w' = grow (putRow encStr (Sort.ahead w n) blk off (ss.mergeSort fun x y => decide (x ≤ y)).toArray) os := Any.slices_Sort_string Tryz.lays190 blk off cap ss w hH hblk hsz
open Go.RowKit Go.Sort in
theorem Tryz.slices_Sort_string_none (p : Option Addr) (cap : Nat) (w : World) :
    Calls Tryz.prog 240 #[.slice p 0 cap] w fun e w' => e = .returned (.tuple #[]) ∧ w' = w := Any.slices_Sort_string_none Tryz.lays190 p cap w
def Tryz.keysG_ren : Go.Shelf.Ren := ⟨fun | 7 => 214 | 10 => 245 | n => n, fun | 23 => 167 | 26 => 9 | 3 => 146 | 28 => 308 | 0 => 0 | 27 => 307 | 33 => 351 | 4 => 4 | n => n, fun | n => n⟩
theorem Tryz.keysG : Go.Proofs.SlLaysZ.n7 Tryz.prog Tryz.keysG_ren := {
  mixed := by kernel_rfl
  f7 := ⟨Tryz.f214.name, by decide, Tryz.func214.trans (congrArg some (by kernel_rfl))⟩
  f10 := ⟨Tryz.f245.name, by decide, Tryz.func245.trans (congrArg some (by kernel_rfl))⟩
  t0 := Tryz.underlying0
  a0 := Tryz.isAgg0
  z0 := Tryz.sizeOf0
  v0 := Tryz.zeroValue0
  t4 := Tryz.underlying4
  a4 := Tryz.isAgg4
  z4 := Tryz.sizeOf4
  v4 := Tryz.zeroValue4
  t23 := Tryz.underlying167
  a23 := Tryz.isAgg167
  z23 := Tryz.sizeOf167
  v23 := Tryz.zeroValue167
  t26 := Tryz.underlying9
  a26 := Tryz.isAgg9
  z26 := Tryz.sizeOf9
  v26 := Tryz.zeroValue9
  t27 := Tryz.underlying307
  a27 := Tryz.isAgg307
  z27 := Tryz.sizeOf307
  v27 := Tryz.zeroValue307
  t28 := Tryz.underlying308
  a28 := Tryz.isAgg308
  z28 := Tryz.sizeOf308
  v28 := Tryz.zeroValue308
  t33 := Tryz.underlying351
  a33 := Tryz.isAgg351
  z33 := Tryz.sizeOf351
  v33 := Tryz.zeroValue351 }
def Tryz.keysV_ren : Go.Shelf.Ren := ⟨fun | 7 => 199 | 10 => 241 | n => n, fun | 23 => 137 | 26 => 9 | 3 => 9 | 28 => 308 | 0 => 0 | 27 => 307 | 33 => 351 | 4 => 4 | n => n, fun | n => n⟩
theorem Tryz.keysV : Go.Proofs.SlLaysZ.n7 Tryz.prog Tryz.keysV_ren := {
  mixed := by kernel_rfl
  f7 := ⟨Tryz.f199.name, by decide, Tryz.func199.trans (congrArg some (by kernel_rfl))⟩
  f10 := ⟨Tryz.f241.name, by decide, Tryz.func241.trans (congrArg some (by kernel_rfl))⟩
  t0 := Tryz.underlying0
  a0 := Tryz.isAgg0
  z0 := Tryz.sizeOf0
  v0 := Tryz.zeroValue0
  t4 := Tryz.underlying4
  a4 := Tryz.isAgg4
  z4 := Tryz.sizeOf4
  v4 := Tryz.zeroValue4
  t23 := Tryz.underlying137
  a23 := Tryz.isAgg137
  z23 := Tryz.sizeOf137
  v23 := Tryz.zeroValue137
  t26 := Tryz.underlying9
  a26 := Tryz.isAgg9
  z26 := Tryz.sizeOf9
  v26 := Tryz.zeroValue9
  t27 := Tryz.underlying307
  a27 := Tryz.isAgg307
  z27 := Tryz.sizeOf307
  v27 := Tryz.zeroValue307
  t28 := Tryz.underlying308
  a28 := Tryz.isAgg308
  z28 := Tryz.sizeOf308
  v28 := Tryz.zeroValue308
  t33 := Tryz.underlying351
  a33 := Tryz.isAgg351
  z33 := Tryz.sizeOf351
  v33 := Tryz.zeroValue351 }
def Tryz.sortedS_ren : Go.Shelf.Ren := ⟨fun | 6 => 198 | 8 => 239 | 9 => 240 | 11 => 273 | 13 => 234 | 12 => 274 | 23 => 264 | 24 => 231 | 14 => 296 | 15 => 297 | 16 => 298 | 17 => 299 | 18 => 300 | 19 => 301 | 20 => 302 | 21 => 303 | 22 => 304 | 25 => 314 | 26 => 286 | 27 => 287 | 28 => 315 | 29 => 316 | 30 => 317 | 31 => 323 | n => n, fun | 26 => 9 | 28 => 308 | 24 => 188 | 0 => 0 | 3 => 3 | 37 => 332 | 48 => 290 | 50 => 33 | 4 => 4 | 40 => 367 | 39 => 366 | 45 => 268 | 5 => 5 | 9 => 9 | 51 => 393 | 55 => 396 | 57 => 410 | 58 => 411 | 33 => 351 | n => n, fun | n => n⟩
theorem Tryz.sortedS : Go.Proofs.SlLaysZ.n6 Tryz.prog Tryz.sortedS_ren := {
  mixed := by kernel_rfl
  f6 := ⟨Tryz.f198.name, by decide, Tryz.func198.trans (congrArg some (by kernel_rfl))⟩
  f8 := ⟨Tryz.f239.name, by decide, Tryz.func239.trans (congrArg some (by kernel_rfl))⟩
  f11 := ⟨Tryz.f273.name, by decide, Tryz.func273.trans (congrArg some (by kernel_rfl))⟩
  t0 := Tryz.underlying0
  a0 := Tryz.isAgg0
  z0 := Tryz.sizeOf0
  v0 := Tryz.zeroValue0
  t24 := Tryz.underlying188
  a24 := Tryz.isAgg188
  z24 := Tryz.sizeOf188
  v24 := Tryz.zeroValue188
  t26 := Tryz.underlying9
  a26 := Tryz.isAgg9
  z26 := Tryz.sizeOf9
  v26 := Tryz.zeroValue9
  t28 := Tryz.underlying308
  a28 := Tryz.isAgg308
  z28 := Tryz.sizeOf308
  v28 := Tryz.zeroValue308
  i26 := by kernel_rfl }
end Go.Proofs
/- slices.Sorted(maps.Keys(m)) at maps keyed by strings. (Written by mkbyk.py.) -/
namespace Go.Proofs.YtkhjhojmhllkaaaGreatDoor
open Go.RowKit Go.Maps Go.Shelf Go.Sort
open Sc

/-- a map's keys, sorted -/
def sortK {V : Type} (L : List (ByteArray × V)) : List ByteArray := ((L.map fun p => p.1.data.toList).mergeSort leB).map fun b => ⟨b.toArray⟩
theorem sortK_len {V : Type} (L : List (ByteArray × V)) : (sortK L).length = L.length := by simp [sortK]
theorem sortK_mem {V : Type} {L : List (ByteArray × V)} {k : ByteArray} : k ∈ sortK L ↔ ∃ v, (k, v) ∈ L := by
  unfold sortK
  simp only [List.mem_map, List.mem_mergeSort]
  constructor
  · rintro ⟨x, ⟨p, hp, rfl⟩, rfl⟩
    exact ⟨p.2, by simpa using hp⟩
  · rintro ⟨v, hv⟩
    exact ⟨k.data.toList, ⟨(k, v), hv, rfl⟩, by simp⟩
theorem sortsS (m : Nat) : AnyZ.SortsIn Tryz.prog Tryz.sortedS_ren Fence.wide m :=
  ⟨fun blk off cap ss W hH hblk hsz => callsIn_wide.2 (Tryz.slices_Sort_string blk off cap ss W hH hblk hsz), fun p cap W => callsIn_wide.2 (Tryz.slices_Sort_string_none p cap W)⟩
theorem strKeys_perm {V : Type} {ER : ElRep V} {es : List (Lit × DataW Unit)} {L : List (ByteArray × V)} (h : es.Perm (L.map (litOf KS ER))) : (strKeys (DataW.map es)).Perm (L.map fun p => p.1.data.toList) := by
  show (es.map fun p => strOf p.1).Perm _
  refine (h.map _).trans ?_
  rw [List.map_map]
  exact List.Perm.refl _
set_option maxHeartbeats 1000000 in
theorem sortedKeysG (n : Nat) (hn : 5 ≤ n) (b m : Nat) (L : List (ByteArray × AGrip)) (w : World) (hL : MapAs KS EG w b m L) (hm : m ≤ 67108864) :
    (CallsIn Fence.wide n Tryz.prog 214 #[.map (some b)] w fun e w' => e = .returned (.func (.func 245) #[] #[.pointer (some ⟨w.heap.size, 0, none⟩)]) ∧ w' = w.alloc (.cells #[.map (some b)] 167)) ∧
    (CallsIn Fence.wide n Tryz.prog 198 #[.func (.func 245) #[] #[.pointer (some ⟨w.heap.size, 0, none⟩)]] (w.alloc (.cells #[.map (some b)] 167)) fun e w' => ∃ v, e = .returned v ∧ w'.ownsRow w.heap.size 9 1 v L.length ((sortK L).map Value.string) ∧ (v = .slice none 0 0 ↔ L.length = 0) ∧ Below w.heap.size w w') := by
  obtain ⟨es, hown, hp, h1, hok⟩ := hL
  have hlen : Maps.size (DataW.map es) = L.length := by rw [Maps.size_eq, hp.length_eq, List.length_map]
  have hsz := hown.size_le
  have hbl := hown.lt
  have hseq : SeqGives Fence.wide (n - 1 - 1 - 1) Tryz.prog 245 #[.pointer (some ⟨w.heap.size, 0, none⟩)] encStr (fun ss => ss.Perm (strKeys (DataW.map es))) (Maps.size (DataW.map es)) (w.alloc (.cells #[.map (some b)] 167)) :=
    AnyZ.keys_gives (ρ := Tryz.keysG_ren) { Tryz.keysG with } Fence.wide _ trivial rfl (by omega) w.heap.size b m (DataW.map es) _ (by simp) (by simp) (by
      obtain ⟨es', clock, hb, Ft, hs, hD⟩ := hown
      exact ⟨es', clock, (Below.heap_alloc _ _ b hbl).trans hb, Ft, hs, hD⟩)
  refine ⟨AnyZ.keys_in Tryz.keysG Fence.wide n trivial rfl _ w, ?_⟩
  have cS := AnyZ.sorted_in Tryz.sortedS Fence.wide n trivial trivial trivial trivial rfl (by omega) (sortsS _) (enters_of Tryz.func240 (by kernel_rfl) rfl) 245 #[.pointer (some ⟨w.heap.size, 0, none⟩)] trivial (enters_of Tryz.func245 (by kernel_rfl) rfl) _ _ (by unfold maxLen; omega) (by omega) _ hseq
  change CallsIn _ _ Tryz.prog 198 _ _ _ at cS
  refine cS.mono ?_
  rintro e w' ⟨v, ss, rfl, hS, hrow, hnil, hb⟩
  have hpm := hS.trans (strKeys_perm hp)
  have el : ss.length = L.length := by rw [hpm.length_eq, List.length_map]
  have es2 : (ss.mergeSort fun x y => decide (x ≤ y)).map encStr = (sortK L).map Value.string := by
    have := mergeSort_of_perm hpm
    unfold sortK
    rw [show (ss.mergeSort fun x y => decide (x ≤ y)) = ss.mergeSort leB from rfl, this, List.map_map]
    rfl
  rw [el, es2] at hrow
  refine ⟨v, rfl, ownsRow_base_a hrow (by simp), by rw [hnil, ← el]; exact List.length_eq_zero_iff.symm, ((Below.refl _ w).alloc (Nat.le_refl _) _).trans (hb.mono (by simp))⟩
set_option maxHeartbeats 1000000 in
theorem sortedKeysV (n : Nat) (hn : 5 ≤ n) (b m : Nat) (L : List (ByteArray × ByteArray)) (w : World) (hL : MapAs KS ES w b m L) (hm : m ≤ 67108864) :
    (CallsIn Fence.wide n Tryz.prog 199 #[.map (some b)] w fun e w' => e = .returned (.func (.func 241) #[] #[.pointer (some ⟨w.heap.size, 0, none⟩)]) ∧ w' = w.alloc (.cells #[.map (some b)] 137)) ∧
    (CallsIn Fence.wide n Tryz.prog 198 #[.func (.func 241) #[] #[.pointer (some ⟨w.heap.size, 0, none⟩)]] (w.alloc (.cells #[.map (some b)] 137)) fun e w' => ∃ v, e = .returned v ∧ w'.ownsRow w.heap.size 9 1 v L.length ((sortK L).map Value.string) ∧ (v = .slice none 0 0 ↔ L.length = 0) ∧ Below w.heap.size w w') := by
  obtain ⟨es, hown, hp, h1, hok⟩ := hL
  have hlen : Maps.size (DataW.map es) = L.length := by rw [Maps.size_eq, hp.length_eq, List.length_map]
  have hsz := hown.size_le
  have hbl := hown.lt
  have hseq : SeqGives Fence.wide (n - 1 - 1 - 1) Tryz.prog 241 #[.pointer (some ⟨w.heap.size, 0, none⟩)] encStr (fun ss => ss.Perm (strKeys (DataW.map es))) (Maps.size (DataW.map es)) (w.alloc (.cells #[.map (some b)] 137)) :=
    AnyZ.keys_gives (ρ := Tryz.keysV_ren) { Tryz.keysV with } Fence.wide _ trivial rfl (by omega) w.heap.size b m (DataW.map es) _ (by simp) (by simp) (by
      obtain ⟨es', clock, hb, Ft, hs, hD⟩ := hown
      exact ⟨es', clock, (Below.heap_alloc _ _ b hbl).trans hb, Ft, hs, hD⟩)
  refine ⟨AnyZ.keys_in Tryz.keysV Fence.wide n trivial rfl _ w, ?_⟩
  have cS := AnyZ.sorted_in Tryz.sortedS Fence.wide n trivial trivial trivial trivial rfl (by omega) (sortsS _) (enters_of Tryz.func240 (by kernel_rfl) rfl) 241 #[.pointer (some ⟨w.heap.size, 0, none⟩)] trivial (enters_of Tryz.func241 (by kernel_rfl) rfl) _ _ (by unfold maxLen; omega) (by omega) _ hseq
  change CallsIn _ _ Tryz.prog 198 _ _ _ at cS
  refine cS.mono ?_
  rintro e w' ⟨v, ss, rfl, hS, hrow, hnil, hb⟩
  have hpm := hS.trans (strKeys_perm hp)
  have el : ss.length = L.length := by rw [hpm.length_eq, List.length_map]
  have es2 : (ss.mergeSort fun x y => decide (x ≤ y)).map encStr = (sortK L).map Value.string := by
    have := mergeSort_of_perm hpm
    unfold sortK
    rw [show (ss.mergeSort fun x y => decide (x ≤ y)) = ss.mergeSort leB from rfl, this, List.map_map]
    rfl
  rw [el, es2] at hrow
  refine ⟨v, rfl, ownsRow_base_a hrow (by simp), by rw [hnil, ← el]; exact List.length_eq_zero_iff.symm, ((Below.refl _ w).alloc (Nat.le_refl _) _).trans (hb.mono (by simp))⟩
end Go.Proofs.YtkhjhojmhllkaaaGreatDoor
/- order.ByKeys at map[string]grip. (Written by mkbyk.py.) -/
namespace Go.Proofs.YtkhjhojmhllkaaaGreatDoor
open Go.RowKit Go.Maps Go.Shelf
open Sc

abbrev elG (g : AGrip) : List Value := [.int .u8 (g.way : Int), .string g.val]
def elsG (l : List AGrip) : List Value := l.flatMap elG
theorem elsG_snoc (l : List AGrip) (g : AGrip) : elsG (l ++ [g]) = elsG l ++ elG g := by simp [elsG]
theorem elsG_len (l : List AGrip) : (elsG l).length = l.length * 2 := by
  induction l with
  | nil => rfl
  | cons r l ih => simp only [elsG, List.flatMap_cons, List.length_append, List.length_cons] at *; rw [ih]; simp <;> omega
theorem elsG_at : ∀ (l : List AGrip) (k : Nat) (g : AGrip), l[k]? = some g → (elsG l)[k * 2]? = some (.int .u8 (g.way : Int)) ∧ (elsG l)[k * 2 + 1]? = some (.string g.val)
  | [], k, g, h => by simp at h
  | x :: l, 0, g, h => by simp at h; subst h; simp [elsG]
  | x :: l, k + 1, g, h => by
    have := elsG_at l k g (by simpa using h)
    simp only [elsG, List.flatMap_cons] at this ⊢
    rw [show (k + 1) * 2 = k * 2 + 1 + 1 by omega]
    simpa using this
theorem Tryz.infoBG : (Tryz.prog.info? 146).map (fun i => (i.zero, i.size, i.bytes)) = some (some (.agg #[.int .u8 0, .string ByteArray.empty]), 2, 24) := by kernel_rfl
/-- what a map holds, by its keys -/
def sortG (L : List (ByteArray × AGrip)) : List (ByteArray × AGrip) := (sortK L).map fun k => (k, (alLook L k).getD ⟨0, ByteArray.empty⟩)
theorem Tryz.lenSG (p : Option Addr) (n c : Nat) (w : World) : (Builtin.len_ #[188] 3 #[.slice p n c]).run Tryz.prog w = .ok (.int .i64 n) w := by simp [Builtin.len_, run_underlying Tryz.underlying188, goInt]
set_option maxRecDepth 100000 in
set_option maxHeartbeats 4000000 in
theorem byKeysG_in (n : Nat) (hn : 6 ≤ n) (l Bn b m : Nat) (L : List (ByteArray × AGrip)) (hm : m ≤ 67108864) (W : World) (Kp : World → World → Prop) (Pk : Nat → World → Prop)
    (hP0 : ∀ k A, W.heap.size ≤ k → Below W.heap.size W A → Pk k A)
    (hP2 : ∀ k A B c t, (t = 9 ∨ t = 146) → Kp A B → A.heap[k]? = some (.cells c t (0, 0)) → Pk k A → B.heap[k]? = A.heap[k]? ∧ Pk k B)
    (J Jx : List (ByteArray × AGrip) → World → Prop)
    (hJ : ∀ s A B, J s A → A.grownBy B none → J s B)
    (hY : ∀ pre x W1, J pre W1 → pre.length < L.length → pre ++ [x] <+: sortG L → YieldAt Fence.wide (n - 1) Tryz.prog l #[.string x.1, .agg #[.int .u8 (x.2.way : Int), .string x.2.val]] W1 fun e W' =>
      (e = .returned (.bool true) ∧ J (pre ++ [x]) W' ∧ Kp W1 W') ∨ (e = .returned (.bool false) ∧ Jx (pre ++ [x]) W'))
    (hBn : W.cell? ⟨Bn, 0, none⟩ = some (.map (some b))) (hL : MapAs KS EG W b m L) (h0 : J [] W) :
    CallsIn Fence.wide n Tryz.prog 213 #[.func (.yield l) #[] #[], .pointer (some ⟨Bn, 0, none⟩)] W fun e W' => (∃ v, e = .returned v) ∧
      ((∃ ys, ys = sortG L ∧ J ys W') ∨ (∃ pre, pre <+: sortG L ∧ Jx pre W')) := by
  have hBl : Bn < W.heap.size := World.block_lt_of_cell? W ⟨Bn, 0, none⟩ hBn
  obtain ⟨cK, cS⟩ := sortedKeysG (n - 1) (by omega) b m L W hL hm
  obtain ⟨i0, hi, hz0, hz1, hz2⟩ := info_parts Tryz.infoBG
  have hfK : Fence.wide.fn 214 := trivial
  have hfS : Fence.wide.fn 198 := trivial
  have hfM : Fence.wide.fn 213 := trivial
  have hro : Fence.wide.round = none := rfl
  have h1 : 1 ≤ n := by omega
  have hlenS := Tryz.lenSG
  have hLm := hL.len
  have HL : Hid (MapAs KS EG W b m L) := hL
  have HB : Hid (Bn < W.heap.size ∧ W.cell? ⟨Bn, 0, none⟩ = some (.map (some b))) := ⟨hBl, hBn⟩
  obtain ⟨m0, hm0⟩ : ∃ m0, m0 = L.length := ⟨_, rfl⟩
  have HM : Hid (m0 = L.length) := hm0
  rw [← hm0] at cS hLm
  have hm00 : m0 ≤ 67108864 := by omega
  clear hL hm0
  refine callsIn_of_wp Tryz.func213 rfl hfM ?_ hro
  simp only [Tryz.ntmps213, List.size_toArray, List.length_cons, List.length_nil, Nat.reduceAdd, Nat.reduceSub, Array.replicate_succ, Array.replicate_zero, List.push_toArray, List.append_toArray, List.nil_append, List.cons_append]
  gi_wp2_with (first
    | (gi_at_call 214; refine cK.mono ?_; rintro e w0 ⟨rfl, rfl⟩)
    | (gi_at_call 198; refine cS.mono ?_; rintro e w1 ⟨v, rfl, hrow, hnil, hb1⟩; obtain ⟨pp, cap, rfl⟩ := own_form0 hrow; have HR : Hid (w1.ownsRow W.heap.size 9 1 (.slice pp m0 cap) m0 ((sortK L).map Value.string) ∧ (Value.slice pp m0 cap = .slice none 0 0 ↔ m0 = 0)) := ⟨hrow, hnil⟩; clear hrow hnil))
  clear cK cS
  have HB1 : Hid (Below W.heap.size W w1) := hb1
  have HJ1 : Hid (∀ A, Below W.heap.size W A → J [] A) := fun A hA => hJ [] W A h0 ⟨hA.os, hA.tape, hA.output, hA.size, fun k hk _ => hA.block k hk⟩
  clear hb1 hBn
  by_cases hm1 : m0 = 0
  · subst hm1
    obtain ⟨rfl, rfl⟩ : pp = none ∧ cap = 0 := by have := HR.out.2.2 rfl; simpa using this
    clear HR
    have HE : Hid (sortG L = []) := by show _ = _; have := HM.out; rw [List.length_eq_zero_iff.1 this.symm]; simp [sortG, sortK]
    gi_loopw [14] (fun i wr => i = .int .i64 0 ∧ wr = w1) (fun _ _ => 0)
    case atStart => exact ⟨rfl, rfl⟩
    case round =>
      obtain ⟨rfl, rfl⟩ := hrel
      gi_wp2
      gi_loopw [27] (fun i wr2 => i = .int .i64 0 ∧ wr2 = wr) (fun _ _ => 0)
      case atStart => exact ⟨rfl, rfl⟩
      case round =>
        obtain ⟨rfl, rfl⟩ := hrel
        gi_wp2
        go_end0
        exact ⟨⟨_, rfl⟩, .inl ⟨_, rfl, by rw [HE.out]; exact HJ1.out _ HB1.out⟩⟩
  obtain ⟨g, rfl⟩ : ∃ g, pp = some ⟨g, 0, none⟩ := by obtain ⟨g, cap', e⟩ := own_pos0 HR.out.1 (by omega); exact ⟨g, by simp at e; exact e.1⟩
  have hrow := HR.out.1
  have HK : Hid (∃ cur, w1.heap[g]? = some (.cells cur 9 (0, 0)) ∧ W.heap.size ≤ g ∧ ∀ (k : Nat) (x : ByteArray), (sortK L)[k]? = some x → cur[k]? = some (Value.string x)) := by
    rcases hrow.2 with ⟨_, h3⟩ | ⟨g', cap', cur, e, hb, hg, _, _, hsz, htk⟩
    · omega
    · obtain ⟨e1, e2⟩ : g = g' ∧ cap = cap' := by simpa using e
      subst e1
      refine ⟨cur, hg, hb, fun k x hk => ?_⟩
      have hkl : k < m0 := by have := (List.getElem?_eq_some_iff.1 hk).1; rw [sortK_len] at this; have := HM.out; omega
      have : (cur.toList.take (m0 * 1))[k]? = some (.string x) := by rw [htk, List.getElem?_map, hk]; rfl
      rw [List.getElem?_take_of_lt (by omega)] at this
      simpa using this
  clear hrow HR
  obtain ⟨vs, hvs⟩ : ∃ vs : List AGrip, vs = (sortK L).map fun k => (alLook L k).getD ⟨0, ByteArray.empty⟩ := ⟨_, rfl⟩
  have HV : Hid (vs = (sortK L).map fun k => (alLook L k).getD ⟨0, ByteArray.empty⟩) := hvs
  clear hvs
  have HG : Hid (g < w1.heap.size) := by obtain ⟨cur, hg, _⟩ := HK.out; exact (Array.getElem?_eq_some_iff.1 hg).1
  gi_loopw [14, 4] (fun i v wr => ∃ k : Nat, k ≤ m0 ∧ i = .int .i64 k ∧ Hid (wr.ownsRow w1.heap.size 146 2 v k (elsG (vs.take k)) ∧ Below w1.heap.size w1 wr))
    (fun i _ _ => m0 - (intOf i).toNat)
  case atStart => exact ⟨0, Nat.zero_le _, rfl, World.ownsRow_nil _ _ _ _, Below.refl _ _⟩
  case round =>
    obtain ⟨k, hk, rfl, hR⟩ := hrel
    by_cases hlt : k < m0
    · obtain ⟨x, hx⟩ : ∃ x, (sortK L)[k]? = some x := ⟨_, List.getElem?_eq_getElem (by rw [sortK_len]; have := HM.out; omega)⟩
      obtain ⟨y, hy⟩ : ∃ y, y = (alLook L x).getD ⟨0, ByteArray.empty⟩ := ⟨_, rfl⟩
      have hbW : Below W.heap.size W wr := HB1.out.trans (hR.out.2.mono HB1.out.size)
      have ck : wr.cell? ⟨g, k, none⟩ = some (.string x) := by
        obtain ⟨cur, hg, _, hc⟩ := HK.out
        have := (hR.out.2.block g HG.out).trans hg
        rw [cell_blk0 this]
        exact hc k x hx
      have cB : wr.cell? ⟨Bn, 0, none⟩ = some (.map (some b)) := (hbW.cell (p := ⟨Bn, 0, none⟩) HB.out.1).trans HB.out.2
      have hxs : x.size ≤ maxLen := by
        obtain ⟨v', hv'⟩ := sortK_mem.1 (List.mem_of_getElem? hx)
        obtain ⟨_, _, _, _, hok⟩ := HL.out
        exact (hok _ hv').1
      have hlk := (HL.out.fr (S := []) ⟨hbW.os, hbW.tape, hbW.output, hbW.size, fun k hk _ => hbW.block k hk⟩ (by simp)).look Tryz.underlying167 (zeroGrip wr) trivial (k := x) hxs
      rw [← hy] at hlk
      have HY : Hid (y = (alLook L x).getD ⟨0, ByteArray.empty⟩ ∧ (sortK L)[k]? = some x) := ⟨hy, hx⟩
      clear hy hx
      change (Instr.lookup _ _ (.string x) false).run _ _ = .ok (.agg #[.int .u8 (y.way : Int), .string y.val]) _ at hlk
      have hsz := hR.out.2.size
      have hrk : k < ((sortK L).map fun k => (alLook L k).getD ⟨0, ByteArray.empty⟩).length := by rw [List.length_map, sortK_len]; have := HM.out; omega
      have HT : Hid (vs.take (k + 1) = vs.take k ++ [y]) := by
        show _ = _
        rw [HV.out, List.take_add_one, List.getElem?_map, HY.out.2, HY.out.1]; rfl
      clear hrk
      gi_wp2_with (gi_at_builtin; refine wpListIn_append_own _ rfl _ _ 326 rfl w1.heap.size 146 i0 _ 2 24 Tryz.underlying326 hi hz0 hz1 hz2 rfl (by decide) _ k _ rfl (hR.out.1.alloc _) ⟨wr.heap.size, 0, none⟩ 1 1 (elG y) rfl rfl (cells_new _ #[.int .u8 (y.way : Int), .string y.val] _) (by intro u hu; simp [elG] at hu; rcases hu with rfl | rfl <;> rfl) (by unfold maxLen; omega) (by omega) (by simp; omega) ?_; intro v' w2 hown' hgrow _)
      go_roundw
      case rel =>
        refine ⟨k + 1, by omega, by simp, by rw [HT.out, elsG_snoc]; exact hown', ?_⟩
        exact ((hR.out.2.alloc hsz _).grown hgrow (by simp; omega) (fun j hj => (hR.out.1.lt j hj).1))
      case measure => simp [intOf]; omega
    · obtain rfl : k = m0 := by omega
      obtain ⟨g2, cap2, rfl⟩ := own_pos0 hR.out.1 (by omega)
      have HK2 : Hid (∃ cur2, wr.heap[g2]? = some (.cells cur2 146 (0, 0)) ∧ W.heap.size ≤ g2 ∧ ∀ (j : Nat) (y : AGrip), vs[j]? = some y → cur2[j * 2]? = some (Value.int .u8 (y.way : Int)) ∧ cur2[j * 2 + 1]? = some (Value.string y.val)) := by
        rcases hR.out.1.2 with ⟨_, h3⟩ | ⟨g', cap', cur, e, hb, hg, _, _, hsz, htk⟩
        · omega
        · obtain ⟨e1, e2⟩ : g2 = g' ∧ cap2 = cap' := by simpa using e
          subst e1
          have hvl : vs.length = k := by rw [HV.out, List.length_map, sortK_len, HM.out]
          refine ⟨cur, hg, Nat.le_trans HB1.out.size hb, fun j y hj => ?_⟩
          have hjk : j < k := by have := (List.getElem?_eq_some_iff.1 hj).1; omega
          have e3 : vs.take k = vs := List.take_of_length_le (by omega)
          rw [e3] at htk
          have hat := elsG_at vs j y hj
          rw [← htk] at hat
          rw [List.getElem?_take_of_lt (by omega), List.getElem?_take_of_lt (by omega)] at hat
          simpa using hat
      obtain ⟨cur, hgc, hgW, hcs⟩ := HK.out
      obtain ⟨cur2, hgc2, hgW2, hcs2⟩ := HK2.out
      have hgr := (hR.out.2.block g HG.out).trans hgc
      have hbW : Below W.heap.size W wr := HB1.out.trans (hR.out.2.mono HB1.out.size)
      have HC : Hid ((∀ (k : Nat) (x : ByteArray), (sortK L)[k]? = some x → cur[k]? = some (Value.string x)) ∧ ∀ (j : Nat) (y : AGrip), vs[j]? = some y → cur2[j * 2]? = some (Value.int .u8 (y.way : Int)) ∧ cur2[j * 2 + 1]? = some (Value.string y.val)) := ⟨hcs, hcs2⟩
      have HS : Hid (J [] wr ∧ wr.heap[g]? = some (.cells cur 9 (0, 0)) ∧ Pk g wr ∧ wr.heap[g2]? = some (.cells cur2 146 (0, 0)) ∧ Pk g2 wr) := ⟨HJ1.out _ hbW, hgr, hP0 _ _ hgW hbW, hgc2, hP0 _ _ hgW2 hbW⟩
      clear HK HK2 hgc hcs hgc2 hcs2 hgr hbW hP0
      gi_wp2
      gi_loopw [27] (fun i wr => ∃ j : Nat, j ≤ k ∧ i = .int .i64 j ∧ Hid (J ((sortG L).take j) wr ∧ wr.heap[g]? = some (.cells cur 9 (0, 0)) ∧ Pk g wr ∧ wr.heap[g2]? = some (.cells cur2 146 (0, 0)) ∧ Pk g2 wr))
        (fun i _ => k - (intOf i).toNat)
      case atStart => exact ⟨0, Nat.zero_le _, rfl, by rw [List.take_zero]; exact HS.out⟩
      case round =>
        obtain ⟨j, hj, rfl, hQ⟩ := hrel
        by_cases hlt2 : j < k
        · obtain ⟨x, hx⟩ : ∃ x, (sortK L)[j]? = some x := ⟨_, List.getElem?_eq_getElem (by rw [sortK_len]; have := HM.out; omega)⟩
          obtain ⟨y, hy⟩ : ∃ y, y = (alLook L x).getD ⟨0, ByteArray.empty⟩ := ⟨_, rfl⟩
          have hvy : vs[j]? = some y := by rw [HV.out, List.getElem?_map, hx, hy]; rfl
          have HXY : Hid ((sortG L).take (j + 1) = (sortG L).take j ++ [(x, y)]) := by
            show _ = _
            rw [List.take_add_one]
            unfold sortG
            rw [List.getElem?_map, hx, hy]; rfl
          have cx : wr.cell? ⟨g, j, none⟩ = some (.string x) := by rw [cell_blk0 hQ.out.2.1]; exact HC.out.1 j x hx
          have cy0 : wr.cell? ⟨g2, j * 2, none⟩ = some (.int .u8 (y.way : Int)) := by rw [cell_blk0 hQ.out.2.2.2.1]; exact (HC.out.2 j y hvy).1
          have cy1 : wr.cell? ⟨g2, j * 2 + 1, none⟩ = some (.string y.val) := by rw [cell_blk0 hQ.out.2.2.2.1]; exact (HC.out.2 j y hvy).2
          obtain ⟨fn, tmps, assign, body, hy2, hRR⟩ := hY _ (x, y) wr hQ.out.1 (by rw [List.length_take, ← HM.out]; omega) (by rw [← HXY.out]; exact List.take_prefix _ _)
          clear hx hy hvy
          gi_wp2
          refine hRR.mono ?_
          rintro e W3 (⟨rfl, hJ3, hk3⟩ | ⟨rfl, hJx3⟩)
          · have p1 := hP2 _ _ _ _ _ (.inl rfl) hk3 hQ.out.2.1 hQ.out.2.2.1
            have p2 := hP2 _ _ _ _ _ (.inr rfl) hk3 hQ.out.2.2.2.1 hQ.out.2.2.2.2
            have HN : Hid (J ((sortG L).take (j + 1)) W3 ∧ W3.heap[g]? = some (.cells cur 9 (0, 0)) ∧ Pk g W3 ∧ W3.heap[g2]? = some (.cells cur2 146 (0, 0)) ∧ Pk g2 W3) := ⟨by rw [HXY.out]; exact hJ3, p1.1.trans hQ.out.2.1, p1.2, p2.1.trans hQ.out.2.2.2.1, p2.2⟩
            clear p1 p2 hJ3 hk3
            gi_wp2
            go_roundw
            case rel => exact ⟨j + 1, by omega, by simp, HN.out⟩
            case measure => simp [intOf]; omega
          · gi_wp2
            refine bodyPost_ret (results_none rfl _ _ _) rfl ?_
            exact ⟨⟨_, rfl⟩, .inr ⟨_, by rw [← HXY.out]; exact List.take_prefix _ _, hJx3⟩⟩
        · obtain rfl : j = k := by omega
          gi_wp2
          go_end0
          refine ⟨⟨_, rfl⟩, .inl ⟨_, ?_, hQ.out.1⟩⟩
          rw [List.take_of_length_le]
          unfold sortG
          rw [List.length_map, sortK_len, HM.out]
          exact Nat.le_refl _
/-- the walk, as whoever ranges over it has it; Q holds for all that the map holds -/
theorem byKeysG_stops (n : Nat) (hn : 6 ≤ n) (Bn b m : Nat) (L : List (ByteArray × AGrip)) (Q : ByteArray × AGrip → Prop) (hQ : ∀ x ∈ sortG L, Q x) (hm : m ≤ 67108864) (w : World) (hBl : Bn < w.heap.size) (hBn : w.cell? ⟨Bn, 0, none⟩ = some (.map (some b))) (hL : MapAs KS EG w b m L)
    (Kp : World → World → Prop) (Pk : Nat → World → Prop)
    (hP0 : ∀ W k A, Below w.heap.size w W → W.heap.size ≤ k → Below W.heap.size W A → Pk k A)
    (hP2 : ∀ k A B c t, (t = 9 ∨ t = 146) → Kp A B → A.heap[k]? = some (.cells c t (0, 0)) → Pk k A → B.heap[k]? = A.heap[k]? ∧ Pk k B) :
    SeqStopsK Fence.wide n Tryz.prog 213 #[.pointer (some ⟨Bn, 0, none⟩)] (fun y : { x : ByteArray × AGrip // Q x } => #[.string y.1.1, .agg #[.int .u8 (y.1.2.way : Int), .string y.1.2.val]]) Kp (fun ys => ys.map (·.1) = sortG L) (fun _ => True) L.length w := fun l J Jx W hW hJ _ hY h0 => by
  have h := byKeysG_in n hn l Bn b m L hm W Kp Pk (fun k A => hP0 W k A hW) hP2 (fun pre W => ∃ pre' : List { x : ByteArray × AGrip // Q x }, pre'.map (·.1) = pre ∧ J pre' W) (fun pre W => ∃ pre' : List { x : ByteArray × AGrip // Q x }, pre'.map (·.1) = pre ∧ Jx pre' W)
    (fun s A B hs hgr => by obtain ⟨p', e, hj⟩ := hs; exact ⟨p', e, hJ p' A B none hj hgr (fun r e => by cases e)⟩)
    (fun pre x W1 hj hlt hpre => by
      obtain ⟨p', e, hj⟩ := hj
      have hx : Q x := hQ x (hpre.subset (by simp))
      obtain ⟨fn, tmps, assign, body, hy, hR⟩ := hY p' ⟨x, hx⟩ W1 hj (by rw [← e, List.length_map] at hlt; exact hlt)
      refine ⟨fn, tmps, assign, body, hy, hR.mono ?_⟩
      rintro e2 W' (⟨r1, r2, r3⟩ | ⟨r1, r2⟩)
      · exact .inl ⟨r1, ⟨p' ++ [⟨x, hx⟩], by simp [e], r2⟩, r3⟩
      · exact .inr ⟨r1, ⟨p' ++ [⟨x, hx⟩], by simp [e], r2⟩⟩)
    ((hW.cell (p := ⟨Bn, 0, none⟩) hBl).trans hBn) (hL.fr (S := []) ⟨hW.os, hW.tape, hW.output, hW.size, fun k hk _ => hW.block k hk⟩ (by simp)) ⟨[], rfl, h0⟩
  refine h.mono ?_
  rintro e W' ⟨he, ⟨ys, rfl, p', e2, hj⟩ | ⟨pre, _, p', _, hj⟩⟩
  · exact ⟨he, .inl ⟨p', e2, hj⟩⟩
  · exact ⟨he, .inr ⟨p', trivial, hj⟩⟩
set_option maxHeartbeats 1000000 in
theorem byKeysG_fn (n : Nat) (b : Nat) (w : World) :
    CallsIn Fence.wide n Tryz.prog 166 #[.map (some b)] w fun e w' => e = .returned (.func (.func 213) #[] #[.pointer (some ⟨w.heap.size, 0, none⟩)]) ∧ w' = w.alloc (.cells #[.map (some b)] 167) := by
  refine callsIn_of_wp Tryz.func166 rfl trivial ?_ rfl
  simp only [Tryz.ntmps166, List.size_toArray, List.length_cons, List.length_nil, Nat.reduceAdd, Nat.reduceSub, Array.replicate_succ, Array.replicate_zero, List.push_toArray, List.append_toArray, List.nil_append, List.cons_append]
  gi_wp2
  go_ret
  exact ⟨rfl, rfl⟩
end Go.Proofs.YtkhjhojmhllkaaaGreatDoor
/- THE ENTRY OF ONE THAT IS PREPARED: preparedEntry. -/
namespace Go.Proofs.YtkhjhojmhllkaaaGreatDoor
open Go.RowKit Go.Maps Go.Shelf
open Sc

/-- what a hold is in an entry -/
def holdB (x : ByteArray × AGrip) : List Nat := [x.2.way] ++ [x.1.size] ++ bytesOf x.1 ++ [x.2.val.size] ++ bytesOf x.2.val
def holdsB (xs : List (ByteArray × AGrip)) : List Nat := xs.flatMap holdB
theorem holdsB_snoc (xs : List (ByteArray × AGrip)) (x : ByteArray × AGrip) : holdsB (xs ++ [x]) = holdsB xs ++ holdB x := by simp [holdsB]
def SmallH (x : ByteArray × AGrip) : Prop := x.1.size ≤ 16 ∧ x.2.val.size ≤ 32 ∧ x.2.way < 256
/-- what holds are in an entry -/
def holdsS (pre : List { x : ByteArray × AGrip // SmallH x }) : List Nat := holdsB (pre.map (·.1))
theorem holdB_len {x : ByteArray × AGrip} (h : SmallH x) : (holdB x).length ≤ 51 := by
  obtain ⟨h1, h2, _⟩ := h
  simp only [holdB, List.length_append, List.length_cons, List.length_nil, bytesOf_len]
  omega
theorem holdsS_snoc (pre : List { x : ByteArray × AGrip // SmallH x }) (x : { x : ByteArray × AGrip // SmallH x }) : holdsS (pre ++ [x]) = holdsS pre ++ holdB x.1 := by simp [holdsS, holdsB]
theorem holdsB_len : ∀ (pre : List { x : ByteArray × AGrip // SmallH x }), (holdsS pre).length ≤ pre.length * 51
  | [] => by simp [holdsS, holdsB]
  | x :: r => by
    have h1 := holdB_len x.2
    have h2 := holdsB_len r
    simp only [holdsS, holdsB, List.map_cons, List.flatMap_cons, List.length_append, List.length_cons] at *
    omega
theorem be1 {n : Nat} (h : n < 256) : be 1 n = [n] := by
  unfold be
  have : digit 1 n 0 = n := by unfold digit; simp; omega
  simp [List.range_succ, this]
/-- a box of another type stays -/
theorem boxed_tfr {W W' : World} {B : Nat} {t t2 : TypeId} {v : Value} (h : Boxed W B t v) (hf : TFr t2 W W') (ht : t ≠ t2) : Boxed W' B t v :=
  (hf.block B h.lt (fun c e => by rw [show W.heap[B]? = _ from h] at e; exact ht (by simpa using (Obj.cells.inj (Option.some.inj e)).2.1))).trans h
theorem blk_tfr {W W' : World} {B : Nat} {t t2 : TypeId} {c : Array Value} (h : W.heap[B]? = some (.cells c t (0, 0))) (hf : TFr t2 W W') (ht : t ≠ t2) : W'.heap[B]? = some (.cells c t (0, 0)) :=
  (hf.block B (Array.getElem?_eq_some_iff.1 h).1 (fun c' e => by rw [h] at e; exact ht (by simpa using (Obj.cells.inj (Option.some.inj e)).2.1))).trans h
/-- only blocks of uint8, a box, and new ones have turned: what is needed of a round -/
theorem KpT.of {t1 t2 t3 t4 : TypeId} {n₀ B : Nat} {W W' : World} {v u : Value} (hb : Below n₀ W W') (hf : TFr t3 W W') (hB : Boxed W' B t4 v) (h13 : t1 ≠ t3) (h23 : t2 ≠ t3) (h14 : t1 ≠ t4) (h24 : t2 ≠ t4) (hn : n₀ ≤ B) : KpT t1 t2 n₀ W (W'.setCell ⟨B, 0, none⟩ u) :=
  ⟨hb.setCell (p := ⟨B, 0, none⟩) hn u, fun k c t ht hk => by
    have h1 : t ≠ t3 := by rcases ht with rfl | rfl <;> assumption
    have h2 : t ≠ t4 := by rcases ht with rfl | rfl <;> assumption
    have e := blk_tfr hk hf h1
    refine (Below.heap_setCell _ _ _ k (fun ek => ?_)).trans (e.trans hk.symm)
    simp at ek
    subst ek
    rw [show W'.heap[k]? = _ from hB] at e
    exact h2 (by simpa using (Obj.cells.inj (Option.some.inj e)).2.1.symm)⟩
theorem TFr.others {t : TypeId} {W W' : World} (h : TFr t W W') : KeepsOthers W W' :=
  ⟨h.size, fun k o hk ho => (h.block k (Array.getElem?_eq_some_iff.1 hk).1 (fun c e => by rw [hk] at e; cases e; cases ho)).trans hk⟩
theorem setCell_blk {W : World} {B k : Nat} {o : Obj} {u : Value} (h : W.heap[k]? = some o) (hne : k ≠ B) : (W.setCell ⟨B, 0, none⟩ u).heap[k]? = some o := (Below.heap_setCell _ _ _ k (fun e => hne (by simpa using e))).trans h
theorem own_set {W : World} {base size n B : Nat} {e t : TypeId} {v u x : Value} {xs : List Value} (h : W.ownsRow base e size v n xs) (hB : Boxed W B t u) (hte : t ≠ e) : (W.setCell ⟨B, 0, none⟩ x).ownsRow base e size v n xs :=
  h.kept (grownBy_setCell' W B x) (.inr (hB.not_row hte h).symm)
set_option maxRecDepth 100000 in
set_option maxHeartbeats 4000000 in
theorem prepared_in (n : Nat) (hn : 8 ≤ n) (t b m : Nat) (L : List (ByteArray × AGrip)) (hm : m ≤ 67108864) (w : World) (hL : MapAs KS EG w b m L) (ht : t < 18446744073709551616) (hsm : ∀ x ∈ sortG L, SmallH x) (hl : L.length ≤ 16) :
    CallsIn Fence.wide n Tryz.prog 116 #[.int .u64 (t : Int), .map (some b)] w fun e w' => e = .returned (.string (str (be 8 t ++ holdsB (sortG L)))) ∧ Below w.heap.size w w' := by
  have hro : Fence.wide.round = none := rfl
  have h1 : 1 ≤ n := by omega
  have hg := (callsIn_wide (n := n - 1)).2 (grow_u64 w.heap.size (.slice none 0 0) [] t 0 w (World.ownsRow_nil _ _ _ _) ht (by omega) (Nat.le_refl _))
  have hf1 : Fence.wide.fn 132 := trivial
  have hf2 : Fence.wide.fn 166 := trivial
  have hf3 : Fence.wide.fn 213 := trivial
  have HL : Hid (MapAs KS EG w b m L ∧ (∀ x ∈ sortG L, SmallH x) ∧ L.length ≤ 16) := ⟨hL, hsm, hl⟩
  clear hL hsm hl
  refine callsIn_of_wp_marks Tryz.func116 rfl trivial ?_ hro
  simp only [Tryz.ntmps116, List.size_toArray, List.length_cons, List.length_nil, Nat.reduceAdd, Nat.reduceSub, Array.replicate_succ, Array.replicate_zero, List.push_toArray, List.append_toArray, List.nil_append, List.cons_append]
  gi_wp2_with (first
    | (gi_at_call 132; refine hg.mono ?_; rintro e w1 ⟨v1, rfl, ho1, hb1, _⟩; obtain ⟨g, cap, rfl⟩ := own_pos ho1 (by omega))
    | (gi_at_call 166; refine (byKeysG_fn _ b _).mono ?_; rintro e w2 ⟨rfl, rfl⟩))
  have bO := Boxed.new w1 206 (.slice (some ⟨g, 0, none⟩) 8 cap)
  have bA := Boxed.new (w1.alloc (.cells #[.slice (some ⟨g, 0, none⟩) 8 cap] 206)) 167 (.map (some b))
  rw [World.size_alloc] at bA
  have bO1 := bO.alloc (.cells #[.map (some b)] 167)
  have hB0 : Below w.heap.size w ((w1.alloc (.cells #[.slice (some ⟨g, 0, none⟩) 8 cap] 206)).alloc (.cells #[.map (some b)] 167)) := (hb1.alloc hb1.size _).alloc (by have := hb1.size; simp; omega) _
  have hsz : ((w1.alloc (.cells #[.slice (some ⟨g, 0, none⟩) 8 cap] 206)).alloc (.cells #[.map (some b)] 167)).heap.size = w1.heap.size + 2 := by simp
  have hw1 := hb1.size
  have hoO := (ho1.alloc (.cells #[.slice (some ⟨g, 0, none⟩) 8 cap] 206)).alloc (.cells #[.map (some b)] 167)
  obtain ⟨W0, hW0⟩ : ∃ W0, ((w1.alloc (.cells #[.slice (some ⟨g, 0, none⟩) 8 cap] 206)).alloc (.cells #[.map (some b)] 167)) = W0 := ⟨_, rfl⟩
  rw [hW0] at bA bO1 hB0 hsz hoO ⊢
  clear hW0 bO ho1 hg
  have hL0 : MapAs KS EG W0 b m L := HL.out.1.fr (S := []) ⟨hB0.os, hB0.tape, hB0.output, hB0.size, fun k hk _ => hB0.block k hk⟩ (by simp)
  refine wpIn_rangeFunc_ownH hro h1 (gf := 213) (lb := #[.pointer (some ⟨w1.heap.size + 1, 0, none⟩)]) rfl hf3 (enters_of Tryz.func213 (by kernel_rfl) rfl)
    (byKeysG_stops (n - 1) (by omega) (w1.heap.size + 1) b m L SmallH HL.out.2.1 hm W0 (by omega) bA.cell hL0 (KpT 9 146 w.heap.size) (fun _ _ => True) (fun _ _ _ _ _ _ => trivial) (fun k A B c t ht hk hA _ => ⟨hk.same k c t ht hA, trivial⟩))
    (fun h k => h.trans k) (KpT.book (by omega)) (Below.refl _ _) (fun _ => rfl)
    (fun pre W => (∃ v, Boxed W w1.heap.size 206 v ∧ W.ownsRow w.heap.size 5 1 v (8 + (holdsS pre).length) (bs (be 8 t ++ holdsS pre)) ∧ True) ∧ Below w.heap.size w W)
    (fun _ _ _ => False)
    (OwnFrom.and (Own.from (holdsRow_own w.heap.size w1.heap.size 206 5 1 (fun pre : List { x : ByteArray × AGrip // SmallH x } => 8 + (holdsS pre).length) (fun pre => bs (be 8 t ++ holdsS pre)) (fun _ _ => True)) _) (ownFrom_below (Nat.le_refl _) (by omega)))
    (fun _ _ _ _ _ hs _ _ => hs)
    ⟨⟨_, bO1, by simpa [holdsS, holdsB] using hoO, trivial⟩, hB0⟩
    (fun x a' W => ∃ Bx, w1.heap.size < Bx ∧ W.heap[Bx]? = some (.cells #[.int .u8 (x.1.2.way : Int), .string x.1.2.val] 146 (0, 0)) ∧ a' = { tmps := #[.int .u64 (t : Int), .map (some b), undef, undef, .string { data := #[] }, .pointer (some ⟨w1.heap.size, 0, none⟩), .string x.1.1, .pointer (some ⟨Bx, 0, none⟩), .int .u64 (t : Int), .slice (some ⟨g, 0, none⟩) 8 cap, .map (some b), .func (.func 213) #[] #[.pointer (some ⟨w1.heap.size + 1, 0, none⟩)], .string x.1.1, .agg #[.int .u8 (x.1.2.way : Int), .string x.1.2.val], undef, undef, undef, undef, undef, undef, undef, undef, undef, undef, undef, undef, undef], defers := [] })
    (fun x a' _ X Y row hs hg hr => by
      obtain ⟨Bx, h1, h2, h3⟩ := hs
      exact ⟨Bx, h1, (hg.block Bx (Array.getElem?_eq_some_iff.1 h2).1 (fun e => by obtain ⟨_, o, ho, hc⟩ := hr Bx e.symm; rw [h2] at ho; cases ho; cases hc)).trans h2, h3⟩)
    ?assign ?body ?done ?stop
  case assign =>
    have hsem := @Oper.semAt_some
    rintro l pre x W K ⟨⟨v, hv, hrow, _⟩, hB1⟩ hK
    gi_wp2
    exact hK _ _ ((KeepsOthers.alloc _ _).from _) (KpT.alloc _ hB1.size _) ⟨⟨v, hv.alloc _, hrow.alloc _, trivial⟩, hB1.alloc hB1.size _⟩ ⟨W.heap.size, hv.lt, World.alloc_heap_new W _, rfl⟩
  case body =>
    have hsem := @Oper.semAt_some
    rintro l pre x a' W hl2 _ ⟨⟨v, hv, hrow, _⟩, hB⟩ ⟨Bx, hBx, bX, rfl⟩ hlt
    have hc := hv.cell
    have x0 := cell_blk0 bX 0
    have x1 := cell_blk0 bX 1
    simp at x0 x1
    have h3 : 1 ≤ n - 1 - 1 := by omega
    have hq1 : Fence.wide.fn 167 := trivial
    have hq2 : Fence.wide.fn 168 := trivial
    have hlen := holdsB_len pre
    have hL16 := HL.out.2.2
    obtain ⟨z1, z2, z3⟩ := x.2
    have c1 := (callsIn_wide (n := n - 1 - 1 - 1)).2 (grow_u8 w.heap.size v (be 8 t ++ holdsS pre) x.1.2.way (8 + (holdsS pre).length) W hrow z3 (by omega) hB.size)
    gi_wp2_with fail
    refine c1.mono ?_
    clear c1
    rintro e W1 ⟨v1, rfl, ho1, hb1, ht1⟩
    obtain ⟨g1, k1, rfl⟩ := own_pos ho1 (by omega)
    have hv1 := boxed_tfr hv ht1 (by decide)
    have bX1 := blk_tfr bX ht1 (by decide)
    have hc1 := hv1.cell
    have hf1 := hv1.frozen
    obtain ⟨W1', hW1'⟩ : ∃ W1', W1' = W1.setCell ⟨w1.heap.size, 0, none⟩ (.slice (some ⟨g1, 0, none⟩) (8 + (holdsS pre).length + 1) k1) := ⟨_, rfl⟩
    have HA : Hid (Boxed W1' w1.heap.size 206 (.slice (some ⟨g1, 0, none⟩) (8 + (holdsS pre).length + 1) k1) ∧ W1'.heap[Bx]? = some (.cells #[.int .u8 (x.1.2.way : Int), .string x.1.2.val] 146 (0, 0)) ∧ W1'.ownsRow w.heap.size 5 1 (.slice (some ⟨g1, 0, none⟩) (8 + (holdsS pre).length + 1) k1) (8 + (holdsS pre).length + 1) (bs (be 8 t ++ holdsS pre ++ be 1 x.1.2.way)) ∧ KpT 9 146 w.heap.size W W1' ∧ KeepsOthers W W1') := by
      rw [hW1']
      exact ⟨hv1.set _, setCell_blk bX1 (by omega), own_set ho1 hv1 (by decide), KpT.of hb1 ht1 hv1 (by decide) (by decide) (by decide) (by decide) (by omega), ht1.others.trans (KeepsOthers.setCell _ _ _)⟩
    have yc1 := cell_blk0 HA.out.2.1 1
    simp at yc1
    have c2 := (callsIn_wide (n := n - 1 - 1 - 1)).2 (text_any w.heap.size (.slice (some ⟨g1, 0, none⟩) (8 + (holdsS pre).length + 1) k1) (be 8 t ++ holdsS pre ++ be 1 x.1.2.way) (8 + (holdsS pre).length + 1) x.1.1 W1' HA.out.2.2.1 (by omega) (by omega) (Nat.le_trans hB.size HA.out.2.2.2.1.below.size))
    clear hc x0 x1
    rw [hW1'] at yc1
    gi_wp2_with fail
    rw [← hW1']
    clear hW1'
    refine c2.mono ?_
    clear c2
    rintro e W2 ⟨v2, rfl, ho2, hb2, ht2⟩
    obtain ⟨g2, k2, rfl⟩ := own_pos ho2 (by omega)
    have hv2 := boxed_tfr HA.out.1 ht2 (by decide)
    have bX2 := blk_tfr HA.out.2.1 ht2 (by decide)
    have hc2 := hv2.cell
    have hf2 := hv2.frozen
    have y0_2 := cell_blk0 bX2 0
    have y1_2 := cell_blk0 bX2 1
    simp at y0_2 y1_2
    obtain ⟨W2', hW2'⟩ : ∃ W2', W2' = W2.setCell ⟨w1.heap.size, 0, none⟩ (.slice (some ⟨g2, 0, none⟩) (8 + (holdsS pre).length + 1 + 1 + x.1.1.size) k2) := ⟨_, rfl⟩
    have HA2 : Hid (Boxed W2' w1.heap.size 206 (.slice (some ⟨g2, 0, none⟩) (8 + (holdsS pre).length + 1 + 1 + x.1.1.size) k2) ∧ W2'.heap[Bx]? = some (.cells #[.int .u8 (x.1.2.way : Int), .string x.1.2.val] 146 (0, 0)) ∧ W2'.ownsRow w.heap.size 5 1 (.slice (some ⟨g2, 0, none⟩) (8 + (holdsS pre).length + 1 + 1 + x.1.1.size) k2) (8 + (holdsS pre).length + 1 + 1 + x.1.1.size) (bs (be 8 t ++ holdsS pre ++ be 1 x.1.2.way ++ [x.1.1.size] ++ bytesOf x.1.1)) ∧ KpT 9 146 w.heap.size W W2' ∧ KeepsOthers W W2') := by
      rw [hW2']
      exact ⟨hv2.set _, setCell_blk bX2 (by omega), own_set ho2 hv2 (by decide), HA.out.2.2.2.1.trans (KpT.of hb2 ht2 hv2 (by decide) (by decide) (by decide) (by decide) (by omega)), HA.out.2.2.2.2.trans (ht2.others.trans (KeepsOthers.setCell _ _ _))⟩
    have yc2 := cell_blk0 HA2.out.2.1 1
    simp at yc2
    have c3 := (callsIn_wide (n := n - 1 - 1 - 1)).2 (text_any w.heap.size (.slice (some ⟨g2, 0, none⟩) (8 + (holdsS pre).length + 1 + 1 + x.1.1.size) k2) (be 8 t ++ holdsS pre ++ be 1 x.1.2.way ++ [x.1.1.size] ++ bytesOf x.1.1) (8 + (holdsS pre).length + 1 + 1 + x.1.1.size) x.1.2.val W2' HA2.out.2.2.1 (by omega) (by omega) (Nat.le_trans hB.size HA2.out.2.2.2.1.below.size))
    clear hc1 hf1 yc1
    rw [hW2'] at yc2
    gi_wp2_with fail
    rw [← hW2']
    clear hW2'
    refine c3.mono ?_
    clear c3
    rintro e W3 ⟨v3, rfl, ho3, hb3, ht3⟩
    obtain ⟨g3, k3, rfl⟩ := own_pos ho3 (by omega)
    have hv3 := boxed_tfr HA2.out.1 ht3 (by decide)
    have bX3 := blk_tfr HA2.out.2.1 ht3 (by decide)
    have hc3 := hv3.cell
    have hf3 := hv3.frozen
    have y0_3 := cell_blk0 bX3 0
    have y1_3 := cell_blk0 bX3 1
    simp at y0_3 y1_3
    obtain ⟨W3', hW3'⟩ : ∃ W3', W3' = W3.setCell ⟨w1.heap.size, 0, none⟩ (.slice (some ⟨g3, 0, none⟩) (8 + (holdsS pre).length + 1 + 1 + x.1.1.size + 1 + x.1.2.val.size) k3) := ⟨_, rfl⟩
    have HA3 : Hid (Boxed W3' w1.heap.size 206 (.slice (some ⟨g3, 0, none⟩) (8 + (holdsS pre).length + 1 + 1 + x.1.1.size + 1 + x.1.2.val.size) k3) ∧ W3'.heap[Bx]? = some (.cells #[.int .u8 (x.1.2.way : Int), .string x.1.2.val] 146 (0, 0)) ∧ W3'.ownsRow w.heap.size 5 1 (.slice (some ⟨g3, 0, none⟩) (8 + (holdsS pre).length + 1 + 1 + x.1.1.size + 1 + x.1.2.val.size) k3) (8 + (holdsS pre).length + 1 + 1 + x.1.1.size + 1 + x.1.2.val.size) (bs (be 8 t ++ holdsS pre ++ be 1 x.1.2.way ++ [x.1.1.size] ++ bytesOf x.1.1 ++ [x.1.2.val.size] ++ bytesOf x.1.2.val)) ∧ KpT 9 146 w.heap.size W W3' ∧ KeepsOthers W W3') := by
      rw [hW3']
      exact ⟨hv3.set _, setCell_blk bX3 (by omega), own_set ho3 hv3 (by decide), HA2.out.2.2.2.1.trans (KpT.of hb3 ht3 hv3 (by decide) (by decide) (by decide) (by decide) (by omega)), HA2.out.2.2.2.2.trans (ht3.others.trans (KeepsOthers.setCell _ _ _))⟩
    have yc3 := cell_blk0 HA3.out.2.1 1
    simp at yc3
    clear hc2 hf2 yc2 yc3
    gi_wp2
    rw [← hW3']
    clear hW3'
    have h := HA3.out
    have e1 : be 8 t ++ holdsS pre ++ be 1 x.1.2.way ++ [x.1.1.size] ++ bytesOf x.1.1 ++ [x.1.2.val.size] ++ bytesOf x.1.2.val = be 8 t ++ holdsS (pre ++ [x]) := by
      rw [holdsS_snoc, be1 z3]; simp [holdB]
    have e2 : 8 + (holdsS pre).length + 1 + 1 + x.1.1.size + 1 + x.1.2.val.size = 8 + (holdsS (pre ++ [x])).length := by
      rw [holdsS_snoc]; simp only [holdB, List.length_append, List.length_cons, List.length_nil, bytesOf_len]; omega
    rw [e1, e2] at h
    exact ⟨h.2.2.2.2.from _, h.2.2.2.1, ⟨_, h.1, h.2.2.1, trivial⟩, hB.trans h.2.2.2.1.below⟩
  case done =>
    rintro D ys W hD hys ⟨⟨v, hv, hrow, _⟩, hB⟩ hK
    have hc := hv.cell
    obtain ⟨g5, k5, rfl⟩ := own_pos hrow (by omega)
    have hcv := run_str W g5 0 (8 + (holdsS ys).length) k5 (be 8 t ++ holdsS ys) (by rw [List.length_append, be_len]) (own_row hrow)
    gi_wp2
    refine ⟨by simp, .inl ⟨_, _, rfl, run_takeDeferred hK, ?_⟩⟩
    have e : holdsS ys = holdsB (sortG L) := by unfold holdsS; rw [hys]
    exact ⟨_, results_tmp rfl _ _ _, by rw [← e]; rfl, hB.trans (belowK_b (w := w) (Nat.le_refl _) W D _ _ (by omega) hK rfl rfl)⟩
  case stop =>
    rintro D c pre W _ _ h _
    exact h.elim
theorem prepared_any (t b m : Nat) (L : List (ByteArray × AGrip)) (hm : m ≤ 67108864) (w : World) (hL : MapAs KS EG w b m L) (ht : t < 18446744073709551616) (hsm : ∀ x ∈ sortG L, SmallH x) (hl : L.length ≤ 16) :
    Calls Tryz.prog 116 #[.int .u64 (t : Int), .map (some b)] w fun e w' => e = .returned (.string (str (be 8 t ++ holdsB (sortG L)))) ∧ Below w.heap.size w w' :=
  (callsIn_wide (n := 8)).1 (prepared_in 8 (Nat.le_refl _) t b m L hm w hL ht hsm hl)
end Go.Proofs.YtkhjhojmhllkaaaGreatDoor
