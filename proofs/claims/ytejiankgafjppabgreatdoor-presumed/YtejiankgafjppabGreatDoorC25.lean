import Derived.Test.YtejiankgafjppabGreatDoorProg
import Derived.Shelf.Small.Bits
import Derived.Shelf.Small.Wraps
import Derived.Shelf.Strconv.Itoa0
import Derived.Shelf.Strconv.Itoa1
import Derived.Shelf.LaysM
import Derived.Shelf.Strconv.Itoa2
import Derived.Shelf.Strconv.Itoa3
import Derived.Shelf.Strconv.Clone
import Derived.Ground.MpProg
import Derived.Shelf.Pu.ParseUintPublic10
import Derived.Shelf.Sort.Plain
import Derived.Shelf.Strings.Prefix
import Derived.Shelf.Slices.In.SortNone
import Derived.Shelf.Slices.In.SortNone2
import Derived.Ground.SlgnProg
import Derived.Shelf.SlicesE.Clone
import Derived.Shelf.SlIter.Nil
import Derived.Ground.GgzProg
import Derived.Test.YtejiankgafjppabGreatDoorC23
import Derived.Shelf.AbstractIn
import Derived.Test.YtejiankgafjppabGreatDoorC21
import Derived.RangeFuncNested
import Derived.RangeFuncBox
import Derived.RangeFuncBound
import Derived.RangeFuncCalls
import Derived.RangeFuncLeaves
import Derived.Shelf.Abstract
import Derived.Shelf.RegionOpen
import Derived.WalkKit
import Derived.OwnWalkIn
import Derived.TacticsInMore
import Derived.LoopNIn
import Derived.LoopIn
import Derived.Maps.AppendAt
import Derived.Test.YtejiankgafjppabGreatDoorC24
import Derived.Test.YtejiankgafjppabGreatDoorC06
import Derived.Test.YtejiankgafjppabGreatDoorC19
import Derived.Lib.AppendStr
import Derived.Test.YtejiankgafjppabGreatDoorC03
import Derived.Test.YtejiankgafjppabGreatDoorC09
import Derived.Test.YtejiankgafjppabGreatDoorC07
namespace Go.Proofs
open Go.Shelf
def Tryz.lays190_ren : Go.Shelf.Ren := ⟨fun | 190 => 210 | 125 => 254 | 258 => 253 | 128 => 306 | 129 => 228 | 302 => 297 | 303 => 298 | 304 => 299 | 305 => 300 | 306 => 301 | 307 => 302 | 308 => 303 | 309 => 304 | 310 => 305 | 333 => 344 | 329 => 345 | 330 => 346 | 334 => 347 | 335 => 348 | 336 => 349 | 344 => 364 | n => n, fun | 31 => 65 | 9 => 9 | 3 => 3 | 46 => 254 | 0 => 0 | 51 => 329 | 53 => 28 | 4 => 4 | 183 => 409 | 182 => 408 | 131 => 305 | 5 => 5 | 218 => 445 | 222 => 448 | 228 => 461 | 229 => 462 | n => n, fun | n => n⟩
def Tryz.keysG_ren : Go.Shelf.Ren := ⟨fun | 7 => 226 | 10 => 281 | n => n, fun | 23 => 210 | 26 => 9 | 3 => 129 | 28 => 243 | 0 => 0 | 27 => 242 | 33 => 319 | 4 => 4 | n => n, fun | n => n⟩
def Tryz.keysV_ren : Go.Shelf.Ren := ⟨fun | 7 => 151 | 10 => 211 | n => n, fun | 23 => 132 | 26 => 9 | 3 => 9 | 28 => 243 | 0 => 0 | 27 => 242 | 33 => 319 | 4 => 4 | n => n, fun | n => n⟩
def Tryz.sortedS_ren : Go.Shelf.Ren := ⟨fun | 6 => 150 | 8 => 209 | 9 => 210 | 11 => 252 | 13 => 254 | 12 => 253 | 23 => 306 | 24 => 228 | 14 => 297 | 15 => 298 | 16 => 299 | 17 => 300 | 18 => 301 | 19 => 302 | 20 => 303 | 21 => 304 | 22 => 305 | 25 => 344 | 26 => 345 | 27 => 346 | 28 => 347 | 29 => 348 | 30 => 349 | 31 => 364 | n => n, fun | 26 => 9 | 28 => 243 | 24 => 65 | 0 => 0 | 3 => 3 | 37 => 254 | 48 => 329 | 50 => 28 | 4 => 4 | 40 => 409 | 39 => 408 | 45 => 305 | 5 => 5 | 9 => 9 | 51 => 445 | 55 => 448 | 57 => 461 | 58 => 462 | 33 => 319 | n => n, fun | n => n⟩
end Go.Proofs
/- slices.Sorted(maps.Keys(m)) at maps keyed by strings. (Written by mkbyk.py.) -/
namespace Go.Proofs.YtejiankgafjppabGreatDoor
open Go.RowKit Go.Maps Go.Shelf Go.Sort
open Sc

/-- a map's keys, sorted -/
def sortK {V : Type} (L : List (ByteArray × V)) : List ByteArray := ((L.map fun p => p.1.data.toList).mergeSort leB).map fun b => ⟨b.toArray⟩
end Go.Proofs.YtejiankgafjppabGreatDoor
/- order.ByKeys at map[string]grip. (Written by mkbyk.py.) -/
namespace Go.Proofs.YtejiankgafjppabGreatDoor
open Go.RowKit Go.Maps Go.Shelf
open Sc

abbrev elG (g : AGrip) : List Value := [.int .u8 (g.way : Int), .string g.val]
def elsG (l : List AGrip) : List Value := l.flatMap elG
/-- what a map holds, by its keys -/
def sortG (L : List (ByteArray × AGrip)) : List (ByteArray × AGrip) := (sortK L).map fun k => (k, (alLook L k).getD ⟨0, ByteArray.empty⟩)
end Go.Proofs.YtejiankgafjppabGreatDoor
/- THE ENTRY OF ONE THAT IS PREPARED: preparedEntry. -/
namespace Go.Proofs.YtejiankgafjppabGreatDoor
open Go.RowKit Go.Maps Go.Shelf
open Sc

/-- what a hold is in an entry -/
def holdB (x : ByteArray × AGrip) : List Nat := [x.2.way] ++ [x.1.size] ++ bytesOf x.1 ++ [x.2.val.size] ++ bytesOf x.2.val
def holdsB (xs : List (ByteArray × AGrip)) : List Nat := xs.flatMap holdB
def SmallH (x : ByteArray × AGrip) : Prop := x.1.size ≤ 16 ∧ x.2.val.size ≤ 32 ∧ x.2.way < 256
/-- what holds are in an entry -/
def holdsS (pre : List { x : ByteArray × AGrip // SmallH x }) : List Nat := holdsB (pre.map (·.1))
theorem be1 {n : Nat} (h : n < 256) : be 1 n = [n] := by
  unfold be
  have : digit 1 n 0 = n := by unfold digit; simp; omega
  simp [List.range_succ, this]
end Go.Proofs.YtejiankgafjppabGreatDoor
/- A SHARD AND ITS LEDGER: prepare, Prepare. -/
namespace Go.Proofs.YtejiankgafjppabGreatDoor
open Go.RowKit Go.Maps
open Sc

/-- all that is held is small -/
def AShard.Small (s : AShard) : Prop := ∀ p ∈ s.holds, SmallH (p.1.2, p.2)
/-- what Prepare of one that is working leaves, and says -/
def AShard.prep (s : AShard) (l : ALog) (d : ADisk) (t : Nat) (L : List (ByteArray × AGrip)) : AShard × ALog × ADisk × Nat × Nat :=
  if anyW L = true then
    if (l.keep d 1 (str (be 8 t ++ holdsB (sortG L)))).2.2 = 0 then ({ s with txns := alPut s.txns t ⟨3, 0, 0⟩ }, (l.keep d 1 (str (be 8 t ++ holdsB (sortG L)))).1, (l.keep d 1 (str (be 8 t ++ holdsB (sortG L)))).2.1, 2, 0)
    else (s, (l.keep d 1 (str (be 8 t ++ holdsB (sortG L)))).1, (l.keep d 1 (str (be 8 t ++ holdsB (sortG L)))).2.1, 0, (l.keep d 1 (str (be 8 t ++ holdsB (sortG L)))).2.2)
  else (s.forget t, l, d, 4, 0)
section
variable (B sp gp bV bT bH m lp p bD bN n t : Nat) (s : AShard) (l : ALog) (d : ADisk) (w : World)
/-- what Prepare leaves, and says -/
def AShard.prepare (s : AShard) (l : ALog) (d : ADisk) (t : Nat) (L : List (ByteArray × AGrip)) : AShard × ALog × ADisk × Nat × Nat :=
  if t = 0 then (s, l, d, 0, 7) else if (s.txn t).state = 3 then (s, l, d, 2, 0) else if (s.txn t).state = 1 then s.prep l d t L else (s.forget t, l, d, 3, 0)
end
end Go.Proofs.YtejiankgafjppabGreatDoor
/- FIELDS of a payload: FieldsOf, take, NumberOf, Text, More, Right, where all that is taken is there. -/
namespace Go.Proofs.YtejiankgafjppabGreatDoor
open Go.RowKit
open Sc

theorem str_data0 (l : List Nat) : (str l).data = (l.map fun x => UInt8.ofNat x).toArray := by
  have aux : ∀ (l : List Nat) (r : ByteArray), ((l.map fun x : Nat => (x : Int)).foldl (fun r n => r.push (UInt8.ofNat n.toNat)) r).data = r.data ++ (l.map fun x => UInt8.ofNat x).toArray := by
    intro l
    induction l with
    | nil => intro r; simp
    | cons x l ih =>
      intro r
      rw [List.map_cons, List.foldl_cons, ih]
      simp [ByteArray.push]
  unfold str
  rw [aux]
  simp
theorem bytesOf_str0 {l : List Nat} (h : Byt l) : bytesOf (str l) = l := by
  unfold bytesOf
  rw [str_data0]
  simp only [List.map_map]
  have : ∀ (m : List Nat), Byt m → m.map (UInt8.toNat ∘ fun x => UInt8.ofNat x) = m := by
    intro m
    induction m with
    | nil => intro _; rfl
    | cons x m ih =>
      intro hb
      have hx : x < 256 := hb x (by simp)
      rw [List.map_cons, ih (fun y hy => hb y (by simp [hy]))]
      congr 1
      simp
      omega
  exact this l h
abbrev fldO (b off n cap : Nat) : Obj := .cells #[.slice (some ⟨b, off, none⟩) n cap, .bool false] 376
/-- what is left to be taken -/
def FldIn (w : World) (fp : Nat) (rest : List Nat) : Prop :=
  ∃ b off cap, w.heap[fp]? = some (fldO b off rest.length cap) ∧ RowAt w b off rest ∧ b < w.heap.size ∧ rest.length ≤ cap ∧ cap ≤ maxLen ∧ b ≠ fp ∧ Byt rest
theorem FldIn.lt {w : World} {fp : Nat} {rest : List Nat} (h : FldIn w fp rest) : fp < w.heap.size := by obtain ⟨_, _, _, h1, _⟩ := h; exact (Array.getElem?_eq_some_iff.1 h1).1
/-- its two blocks are as they were -/
theorem FldIn.keep {w w' : World} {fp : Nat} {rest : List Nat} (h : FldIn w fp rest) {n : Nat} (hf : ∀ k, n ≤ k → k < w.heap.size → w'.heap[k]? = w.heap[k]?) (hs : w.heap.size ≤ w'.heap.size) (hb : ∀ b off cap, w.heap[fp]? = some (fldO b off rest.length cap) → n ≤ b) (hn : n ≤ fp) : FldIn w' fp rest := by
  have hfp := h.lt
  obtain ⟨b, off, cap, h1, h2, h3, h4⟩ := h
  refine ⟨b, off, cap, (hf fp hn hfp).trans h1, fun i hi => ?_, by omega, h4⟩
  exact (World.cell?_of_block (a := ⟨b, off + i, none⟩) (hf b (hb b off cap h1) h3)).trans (h2 i hi)
/-- fields that lie from n on -/
structure FldAt (n : Nat) (w : World) (fp : Nat) (rest : List Nat) : Prop where
  fld : FldIn w fp rest
  low : n ≤ fp
  row : ∀ b off cap, w.heap[fp]? = some (fldO b off rest.length cap) → n ≤ b
  typ : ∀ b off cap, w.heap[fp]? = some (fldO b off rest.length cap) → ∃ c fr, w.heap[b]? = some (.cells c 5 fr)
theorem FldAt.keep {n : Nat} {w w' : World} {fp : Nat} {rest : List Nat} (h : FldAt n w fp rest) (hf : ∀ k, n ≤ k → k < w.heap.size → w'.heap[k]? = w.heap[k]?) (hs : w.heap.size ≤ w'.heap.size) : FldAt n w' fp rest := by
  have hfp := h.fld.lt
  refine ⟨h.fld.keep hf hs h.row h.low, h.low, fun b off cap hb => ?_, fun b off cap hb => ?_⟩
  · rw [hf fp h.low hfp] at hb
    exact h.row b off cap hb
  · rw [hf fp h.low hfp] at hb
    obtain ⟨c, fr, hc⟩ := h.typ b off cap hb
    exact ⟨c, fr, (hf b (h.row b off cap hb) (Array.getElem?_eq_some_iff.1 hc).1).trans hc⟩
/-- what is no field's has turned -/
theorem FldAt.apart {n : Nat} {S : List Nat} {w w' : World} {fp : Nat} {rest : List Nat} (h : FldAt n w fp rest) (hf : Fr S w w') (hS : ∀ k ∈ S, k ≠ fp ∧ ∀ c fr, w.heap[k]? ≠ some (.cells c 5 fr)) : FldAt n w' fp rest := by
  have hfp := h.fld.lt
  have e0 := hf.block fp hfp (fun e => (hS fp e).1 rfl)
  have eb : ∀ b off cap, w.heap[fp]? = some (fldO b off rest.length cap) → w'.heap[b]? = w.heap[b]? := fun b off cap hb => by
    obtain ⟨c, fr, hc⟩ := h.typ b off cap hb
    exact hf.block b (Array.getElem?_eq_some_iff.1 hc).1 (fun e => (hS b e).2 c fr hc)
  refine ⟨?_, h.low, fun b off cap hb => h.row b off cap (by rw [← e0]; exact hb), fun b off cap hb => ?_⟩
  · obtain ⟨b, off, cap, h1, h2, h3, h4⟩ := h.fld
    refine ⟨b, off, cap, e0.trans h1, fun i hi => ?_, by have := hf.size; omega, h4⟩
    exact (World.cell?_of_block (a := ⟨b, off + i, none⟩) (eb b off cap h1)).trans (h2 i hi)
  · rw [e0] at hb
    rw [eb b off cap hb]
    exact h.typ b off cap hb
theorem FldAt.fr {n : Nat} {S : List Nat} {w w' : World} {fp : Nat} {rest : List Nat} (h : FldAt n w fp rest) (hf : Fr S w w') (hS : ∀ k ∈ S, k < n) : FldAt n w' fp rest :=
  h.keep (fun k hk hl => hf.block k hl (fun hm => by have := hS k hm; omega)) hf.size
set_option maxRecDepth 100000 in
set_option maxHeartbeats 1000000 in
theorem fieldsOf_any (l : List Nat) (hl : Byt l) (hs : l.length ≤ 4096) (w : World) :
    Calls Tryz.prog 202 #[.string (str l)] w fun e w' => ∃ fp, e = .returned (.pointer (some ⟨fp, 0, none⟩)) ∧ FldAt w.heap.size w' fp l ∧ Fr [] w w' := by
  have hrb := run_bytes w (str l)
  have hsz : (str l).size = l.length := by rw [← bytesOf_len, bytesOf_str0 hl]
  have hrow := row_str w (str l) (grownCap w (str l).size 0 5)
  have hty : (w.drew.alloc (strO (str l) (grownCap w (str l).size 0 5))).heap[w.heap.size]? = some (strO (str l) (grownCap w (str l).size 0 5)) := heap_alloc_new w.drew _
  have hge := grownCap_ge w (str l).size 0 5
  have hle := grownCap_le_maxLen w (str l).size 0 5 (by rw [hsz]; unfold maxLen; omega)
  rw [bytesOf_str0 hl] at hrow
  obtain ⟨W, hW⟩ : ∃ W, W = w.drew.alloc (strO (str l) (grownCap w (str l).size 0 5)) := ⟨_, rfl⟩
  have hf : Fr [] w W := by rw [hW]; exact (Fr.refl [] w).drew.alloc _
  have hs1 : W.heap.size = w.heap.size + 1 := by rw [hW]; simp
  rw [← hW] at hrb hrow hty
  rw [hsz] at hrb hge hle
  obtain ⟨cap, hcap⟩ : ∃ cap, cap = grownCap w l.length 0 5 := ⟨_, rfl⟩
  rw [← hcap] at hrb hge hle
  clear hW hcap hsz
  go_enter Tryz.func202, Tryz.ntmps202
  go_wp2
  go_ret
  have hn := heap_alloc_new W (fldO w.heap.size 0 l.length cap)
  refine ⟨W.heap.size, by rw [hs1]; rfl, ⟨⟨w.heap.size, 0, cap, hn, fun i hi => ?_, by simp; omega, hge, hle, by omega, hl⟩, by omega, fun b off c hb => ?_, fun b off c hb => ?_⟩, hf.alloc _⟩
  · rw [World.cell?_alloc_lt _ _ ⟨w.heap.size, 0 + i, none⟩ (by show w.heap.size < _; omega)]
    exact hrow i hi
  · rw [hn] at hb
    cases hb
    exact Nat.le_refl _
  · rw [hn] at hb
    cases hb
    exact ⟨_, _, (Below.heap_alloc _ _ _ (by omega)).trans hty⟩
theorem RowAt.fr {w w' : World} {b off : Nat} {l : List Nat} (h : RowAt w b off l) (hb : w'.heap[b]? = w.heap[b]?) : RowAt w' b off l := fun i hi =>
  (World.cell?_of_block (a := ⟨b, off + i, none⟩) hb).trans (h i hi)
/-- what was taken -/
def Taken (n fp : Nat) (rest : List Nat) (k : Nat) (w : World) (e : Ending) (w' : World) : Prop :=
  ∃ b off, e = .returned (.slice (some ⟨b, off, none⟩) k k) ∧ RowAt w' b off (rest.take k) ∧ FldAt n w' fp (rest.drop k) ∧ Fr [fp] w w'
set_option maxRecDepth 100000 in
set_option maxHeartbeats 1000000 in
theorem ftake_any (n fp k : Nat) (rest : List Nat) (w : World) (h : FldAt n w fp rest) (hk : k ≤ rest.length) (hk2 : k ≤ 4096) :
    Calls Tryz.prog 295 #[.pointer (some ⟨fp, 0, none⟩), .int .i64 (k : Int)] w (Taken n fp rest k w) := by
  obtain ⟨⟨b, off, cap, h1, h2, h3, h4, h5, h6, h7⟩, hlow, hrow, htyp⟩ := h
  have hty := htyp b off cap h1
  have c0 := blk_cell h1 0
  have f0 := blk_free h1 0
  simp at c0
  have hnb := hrow b off cap h1
  have HH : Hid (w.heap[fp]? = some (fldO b off rest.length cap) ∧ RowAt w b off rest) := ⟨h1, h2⟩
  have hfp : fp < w.heap.size := (Array.getElem?_eq_some_iff.1 h1).1
  obtain ⟨m, hm⟩ : ∃ m, m = rest.length := ⟨_, rfl⟩
  rw [← hm] at c0 hk h4 HH
  have HM : Hid (m = rest.length) := hm
  have i1 : ¬ (m : Int) < (k : Int) := by omega
  have hsp := split_any b off m cap k w hk h4 h5
  have HTY : Hid (∃ c fr, w.heap[b]? = some (.cells c 5 fr)) := hty
  clear h1 h2 hm hrow htyp hty
  go_enter Tryz.func295, Tryz.ntmps295
  go_wp2_with fail
  refine hsp.mono ?_
  clear hsp
  rintro e w1 ⟨rfl, q, rfl⟩
  obtain ⟨off', hcut⟩ : ∃ off', cutA b off k cap = some ⟨b, off', none⟩ ∧ (k < cap → off' = off + k) := by
    unfold cutA
    by_cases hc : cap = k
    · rw [if_pos hc]; exact ⟨off, rfl, fun h => by omega⟩
    · rw [if_neg hc]; exact ⟨off + k, rfl, fun _ => rfl⟩
  obtain ⟨hcut1, hcut2⟩ := hcut
  rw [hcut1]
  have d0 : (w.drewN q).cell? ⟨fp, 0, none⟩ = some (.slice (some ⟨b, off, none⟩) m cap) := by rw [World.cell?_of_block (a := ⟨fp, 0, none⟩) (show (w.drewN q).heap[fp]? = w.heap[fp]? by rw [heap_drewN])]; exact c0
  have g0 : (w.drewN q).frozen? ⟨fp, 0, none⟩ = false := by rw [World.frozen?_of_block (a := ⟨fp, 0, none⟩) (show (w.drewN q).heap[fp]? = w.heap[fp]? by rw [heap_drewN])]; exact f0
  clear c0 f0 hcut1
  go_wp2
  go_ret
  obtain ⟨W, hW⟩ : ∃ W, W = (w.drewN q).setCell ⟨fp, 0, none⟩ (.slice (some ⟨b, off', none⟩) (m - k) (cap - k)) := ⟨_, rfl⟩
  rw [← hW]
  have hf : Fr [fp] w W := by rw [hW]; exact (frDrewN (Fr.refl [fp] w) q).setCell (.inl (by simp)) _
  have hbb : W.heap[b]? = w.heap[b]? := hf.block b h3 (by simpa using h6)
  have hbk : W.heap[fp]? = some (fldO b off' (m - k) (cap - k)) := by
    have : (w.drewN q).heap[fp]? = some (fldO b off m cap) := by rw [heap_drewN]; exact HH.out.1
    have := blk_set this 0 (.slice (some ⟨b, off', none⟩) (m - k) (cap - k))
    rw [hW]; simpa using this
  have hdl : (rest.drop k).length = m - k := by rw [List.length_drop, HM.out]
  refine ⟨b, off, rfl, fun i hi => ?_, ⟨⟨b, off', cap - k, by rw [hdl]; exact hbk, fun i hi => ?_, by have := hf.size; omega, by rw [hdl]; omega, by omega, h6, h7.drop k⟩, hlow, fun b' o' c' hb' => ?_, fun b' o' c' hb' => ?_⟩, hf⟩
  · have hi2 : i < rest.length := by rw [List.length_take] at hi; omega
    have hik : i < k := by rw [List.length_take] at hi; omega
    rw [(HH.out.2.fr hbb) i hi2]
    simp [at_, List.getElem?_take_of_lt hik]
  · rw [hdl] at hi
    have ho : off' = off + k := hcut2 (by omega)
    have hi2 : k + i < rest.length := by rw [← HM.out]; omega
    have := (HH.out.2.fr hbb) (k + i) hi2
    rw [ho, Nat.add_assoc]
    rw [this]
    simp [at_, List.getElem?_drop]
  · rw [hdl, hbk] at hb'
    cases hb'
    exact hnb
  · rw [hdl, hbk] at hb'
    cases hb'
    rw [hbb]
    exact HTY.out
set_option maxRecDepth 100000 in
set_option maxHeartbeats 1000000 in
theorem num64_any (n fp : Nat) (rest : List Nat) (w : World) (h : FldAt n w fp rest) (hk : 8 ≤ rest.length) :
    Calls Tryz.prog 247 #[.pointer (some ⟨fp, 0, none⟩)] w fun e w' => e = .returned (.int .u64 ((val (rest.take 8) : Nat) : Int)) ∧ FldAt n w' fp (rest.drop 8) ∧ Fr [fp] w w' := by
  have hb : Byt rest := by obtain ⟨_, _, _, _, _, _, _, _, _, h⟩ := h.fld; exact h
  have ht := ftake_any n fp 8 rest w h hk (by omega)
  clear h
  go_enter Tryz.func247, Tryz.ntmps247
  go_wp2_with fail
  refine (width_u64 w).mono ?_
  rintro e w1 ⟨rfl, rfl⟩
  go_wp2_with fail
  refine ht.mono ?_
  clear ht
  rintro e w2 ⟨b, off, rfl, hrow, hf2, hfr⟩
  have HF : Hid (FldAt n w2 fp (rest.drop 8) ∧ Fr [fp] w1 w2) := ⟨hf2, hfr⟩
  have hl8 : (rest.take 8).length = 8 := by rw [List.length_take]; omega
  have htn := take_u64 b off 8 8 (rest.take 8) w2 (hb.take 8) hl8 (by omega) (by omega) (by unfold maxLen; omega) hrow
  rw [List.take_take, Nat.min_self] at htn
  clear hf2 hfr hrow
  go_wp2_with fail
  refine htn.mono ?_
  clear htn
  rintro e w3 ⟨rfl, q, rfl⟩
  go_wp2
  go_ret
  exact ⟨rfl, HF.out.1.fr (frDrewN (Fr.refl [] w2) q) (by simp), frDrewN HF.out.2 q⟩
set_option maxRecDepth 100000 in
set_option maxHeartbeats 1000000 in
theorem num8_any (n fp : Nat) (rest : List Nat) (w : World) (h : FldAt n w fp rest) (hk : 1 ≤ rest.length) :
    Calls Tryz.prog 249 #[.pointer (some ⟨fp, 0, none⟩)] w fun e w' => e = .returned (.int .u8 ((val (rest.take 1) : Nat) : Int)) ∧ FldAt n w' fp (rest.drop 1) ∧ Fr [fp] w w' := by
  have hb : Byt rest := by obtain ⟨_, _, _, _, _, _, _, _, _, h⟩ := h.fld; exact h
  have ht := ftake_any n fp 1 rest w h hk (by omega)
  clear h
  go_enter Tryz.func249, Tryz.ntmps249
  go_wp2_with fail
  refine (width_u8 w).mono ?_
  rintro e w1 ⟨rfl, rfl⟩
  go_wp2_with fail
  refine ht.mono ?_
  clear ht
  rintro e w2 ⟨b, off, rfl, hrow, hf2, hfr⟩
  have HF : Hid (FldAt n w2 fp (rest.drop 1) ∧ Fr [fp] w1 w2) := ⟨hf2, hfr⟩
  have hl8 : (rest.take 1).length = 1 := by rw [List.length_take]; omega
  have htn := take_u8 b off 1 1 (rest.take 1) w2 (hb.take 1) hl8 (by omega) (by omega) (by unfold maxLen; omega) hrow
  rw [List.take_take, Nat.min_self] at htn
  clear hf2 hfr hrow
  go_wp2_with fail
  refine htn.mono ?_
  clear htn
  rintro e w3 ⟨rfl, q, rfl⟩
  go_wp2
  go_ret
  exact ⟨rfl, HF.out.1.fr (frDrewN (Fr.refl [] w2) q) (by simp), frDrewN HF.out.2 q⟩
set_option maxHeartbeats 1000000 in
theorem more_any (n fp : Nat) (rest : List Nat) (w : World) (h : FldAt n w fp rest) :
    Calls Tryz.prog 248 #[.pointer (some ⟨fp, 0, none⟩)] w fun e w' => e = .returned (.bool (decide (0 < rest.length))) ∧ w' = w := by
  obtain ⟨⟨b, off, cap, h1, _⟩, _, _⟩ := h
  have c0 := blk_cell h1 0
  simp at c0
  clear h1
  obtain ⟨m, hm⟩ : ∃ m, m = rest.length := ⟨_, rfl⟩
  rw [← hm] at c0 ⊢
  clear hm
  go_enter Tryz.func248, Tryz.ntmps248
  go_wp2
  go_ret
  refine ⟨?_, rfl⟩
  simp
set_option maxHeartbeats 1000000 in
theorem right_any (n fp : Nat) (rest : List Nat) (w : World) (h : FldAt n w fp rest) :
    Calls Tryz.prog 251 #[.pointer (some ⟨fp, 0, none⟩)] w fun e w' => e = .returned (.bool (!decide (0 < rest.length))) ∧ w' = w := by
  have hm := more_any n fp rest w h
  obtain ⟨⟨b, off, cap, h1, _⟩, _, _⟩ := h
  have c1 := blk_cell h1 1
  simp at c1
  clear h1
  go_enter Tryz.func251, Tryz.ntmps251
  go_wp2_with fail
  refine hm.mono ?_
  rintro e w1 ⟨rfl, rfl⟩
  go_wp2
  go_ret
  exact ⟨rfl, rfl⟩
end Go.Proofs.YtejiankgafjppabGreatDoor
/- A SHARD READS ITS ENTRIES: readPrepared, readDecided, read. -/
namespace Go.Proofs.YtejiankgafjppabGreatDoor
open Go.RowKit Go.Maps
open Sc

/-- the holds of an entry are taken -/
def AShard.takes (s : AShard) (t : Nat) : List (ByteArray × AGrip) → AShard
  | [] => s
  | x :: r => (s.take t x.1 x.2).takes t r
/-- how much is left -/
def fldLen (w : World) (fp : Nat) : Nat := match w.cell? ⟨fp, 0, none⟩ with
  | some (.slice _ n _) => n
  | _ => 0
theorem FldIn.len {w : World} {fp : Nat} {rest : List Nat} (h : FldIn w fp rest) : fldLen w fp = rest.length := by
  obtain ⟨b, off, cap, h1, _⟩ := h
  have c0 := blk_cell h1 0
  simp at c0
  unfold fldLen
  rw [c0]
/-- one that is prepared -/
def AShard.prepd (s : AShard) (t : Nat) (xs : List (ByteArray × AGrip)) : AShard := ({ s with txns := alPut s.txns t ⟨3, 0, 0⟩ } : AShard).takes t xs
theorem holdB_cons (x : ByteArray × AGrip) (xs : List (ByteArray × AGrip)) : holdsB (x :: xs) = x.2.way :: (x.1.size :: bytesOf x.1 ++ (x.2.val.size :: bytesOf x.2.val ++ holdsB xs)) := by
  simp [holdsB, holdB]
theorem FldAt.more {n : Nat} {w : World} {fp : Nat} {x : ByteArray × AGrip} {xs : List (ByteArray × AGrip)} (_h : FldAt n w fp (holdsB (x :: xs))) : 0 < (holdsB (x :: xs)).length := by rw [holdB_cons]; simp
section
variable (n sp lg bV bT bH m fp t c : Nat) (s : AShard) (w : World)
end
/-- an entry that can be read, and what stands behind it -/
inductive Entr (K : AShard → Prop) (s : AShard) : Rec → Prop
  | prep (i t : Nat) (xs : List (ByteArray × AGrip)) (ht : t < 18446744073709551616) (h0 : t ≠ 0) (hst : (s.txn t).state = 0) (hsm : ∀ x ∈ xs, SmallH x ∧ x.2.way ≤ 2) (hl : xs.length ≤ 16) (hK : K (s.prepd t xs)) : Entr K s ⟨i, 1, be 8 t ++ holdsB xs⟩
  | comm (i t : Nat) (ht : t < 18446744073709551616) (hst : (s.txn t).state = 3) (hc : s.count t ≤ 16) (hv : s.Small) (hK : ∀ s', Committed s s' t → K s') : Entr K s ⟨i, 2, be 8 t⟩
  | abrt (i t : Nat) (ht : t < 18446744073709551616) (hst : (s.txn t).state = 3) (hK : K (s.forget t)) : Entr K s ⟨i, 3, be 8 t⟩
end Go.Proofs.YtejiankgafjppabGreatDoor
/- Scan through shardcommit and plain. -/
namespace Go.Proofs.YtejiankgafjppabGreatDoor
open Go.RowKit
open Sc

/-- what a scan of the bytes l answers -/
def Scanned (l : List Nat) (w : World) (e : Ending) (w' : World) : Prop :=
  ∃ k v', e = .returned (.tuple #[v', .int .i64 ((st k l).2 : Nat)]) ∧ Ended l k ∧ w'.ownsRow w.heap.size 288 3 v' k (recsV (st k l).1) ∧ (k = 0 → v' = .slice none 0 0) ∧ Below w.heap.size w w'

set_option maxHeartbeats 400000 in
theorem scanW_nil (w : World) : Calls Tryz.prog 238 #[.slice none 0 0] w (Scanned [] w) := by
  have hnot : ∀ (x : Bool) (w : World), (Op.unary .not (.bool x)).run Tryz.prog w = .ok (.bool (!x)) w := fun _ _ => rfl
  go_enter Tryz.func238, Tryz.ntmps238
  go_wp2
  refine wp_loop_rounds 1 ?_
  rw [rounds_succ]
  go_wp2_with fail
  refine (firstFrame_short _ _ _ _ (by omega)).mono ?_
  rintro e w1 ⟨rfl, rfl⟩
  go_wp2
  go_ret2
  exact ⟨0, _, rfl, ended_nil, World.ownsRow_nil _ _ _ _, fun _ => rfl, (Below.refl _ _).alloc (Nat.le_refl _) _⟩

theorem scanW (v : Value) (l : List Nat) (w : World) (hs : Src w v l) (hb : Byt l) (hl : l.length ≤ 1099511627776) : Calls Tryz.prog 238 #[v] w (Scanned l w) := by
  rcases hs with ⟨rfl, rfl⟩ | ⟨b, off, cap, rfl, hrow, hlt, hc, hc2⟩
  · exact scanW_nil w
  · exact scanW_some b off cap l w hb hl hrow hlt hc hc2

end Go.Proofs.YtejiankgafjppabGreatDoor
/- sameRecords; what both scans answer, compared. -/
namespace Go.Proofs.YtejiankgafjppabGreatDoor
open Go.RowKit
open Sc

theorem recsV_at : ∀ (rs : List Rec) (i : Nat) (h : i < rs.length), (recsV rs)[i * 3]? = some (.int .u64 (rs[i].lsn : Int)) ∧ (recsV rs)[i * 3 + 1]? = some (.int .u8 (rs[i].kind : Int)) ∧ (recsV rs)[i * 3 + 2]? = some (.string (str rs[i].pay))
  | [], i, h => absurd h (Nat.not_lt_zero _)
  | r :: rs, 0, _ => ⟨rfl, rfl, rfl⟩
  | r :: rs, i + 1, h => by
    have ih := recsV_at rs i (by simpa using h)
    have e : ∀ j, (recsV (r :: rs))[(i + 1) * 3 + j]? = (recsV rs)[i * 3 + j]? := fun j => by
      show (recCells r ++ recsV rs)[(i + 1) * 3 + j]? = _
      rw [List.getElem?_append_right (by simp [recCells]; omega)]
      congr 1
      simp [recCells]; omega
    exact ⟨(e 0).trans ih.1, (e 1).trans ih.2.1, (e 2).trans ih.2.2⟩
/-- the records rs, as a slice value holds them -/
def RecsAt (w : World) (v : Value) (rs : List Rec) : Prop :=
  ∃ ao cap, v = .slice ao rs.length cap ∧ ∀ i (h : i < rs.length), ∃ g, ao = some ⟨g, 0, none⟩ ∧ w.cell? ⟨g, i * 3, none⟩ = some (.int .u64 (rs[i].lsn : Int)) ∧ w.cell? ⟨g, i * 3 + 1, none⟩ = some (.int .u8 (rs[i].kind : Int)) ∧ w.cell? ⟨g, i * 3 + 2, none⟩ = some (.string (str rs[i].pay))
theorem recsAt_own {w : World} {base n : Nat} {v : Value} {rs : List Rec} (h : w.ownsRow base 288 3 v n (recsV rs)) : RecsAt w v rs := by
  have hl : rs.length = n := by have := h.1; rw [recsV_len] at this; omega
  rcases h.2 with ⟨rfl, h0⟩ | ⟨g, cap, cur, rfl, hb, hg, rest⟩
  · exact ⟨none, 0, by rw [hl, h0], fun i hi => by omega⟩
  · refine ⟨_, cap, by rw [hl], fun i hi => ⟨g, rfl, ?_⟩⟩
    have hc : ∀ j u, (recsV rs)[j]? = some u → w.cell? ⟨g, j, none⟩ = some u := fun j u hu => by
      have := h.cells (g := g) rfl j u hu
      simpa [Addr.add_lit] using this
    obtain ⟨h1, h2, h3⟩ := recsV_at rs i hi
    exact ⟨hc _ _ h1, hc _ _ h2, hc _ _ h3⟩

end Go.Proofs.YtejiankgafjppabGreatDoor
