import Derived.Test.YtejiankgafjppabGreatDoorC23
import Derived.Test.YtejiankgafjppabGreatDoorC21
import Derived.Sort.OwnSorted
import Derived.Test.YtejiankgafjppabGreatDoorC15
import Derived.BigQuiet
import Derived.Test.YtejiankgafjppabGreatDoorC16
import Derived.Test.YtejiankgafjppabGreatDoorC05
import Derived.Test.YtejiankgafjppabGreatDoorC29
import Derived.Test.YtejiankgafjppabGreatDoorC24
import Derived.Test.YtejiankgafjppabGreatDoorC19
import Derived.Test.YtejiankgafjppabGreatDoorC22
import Derived.Sort.MapsRangeIn
import Derived.RangeFuncSeq
import Derived.RangeFuncKeeps
import Derived.Shelf.Abstract
import Derived.Shelf.AbstractIn
import Derived.WalkKit
import Derived.OwnWalkIn
import Derived.TacticsInMore
import Derived.LoopNIn
import Derived.LoopIn
/- RECOVERY: (*disk).Names. -/
namespace Go.Proofs.YtejiankgafjppabGreatDoor
open Go.RowKit Go.Maps Go.Sort
open Sc

/-- the names of the files, each once -/
def NamesOk (m : Files) (ns : List ByteArray) : Prop := ns.Nodup ∧ ∀ k, k ∈ ns ↔ m k ≠ none
set_option maxRecDepth 100000 in
set_option maxHeartbeats 2000000 in
theorem names_any (B p bD bN n nD nN : Nat) (pv : Value) (d : ADisk) (w : World) (h : DiskIn w B p bD bN pv d n nD nN) (hdn : d.down = false) :
    Calls Tryz.prog 409 #[.pointer (some ⟨p, 0, none⟩)] w fun e w' => ∃ v ns, e = .returned (.tuple #[v, .nilIface]) ∧ NamesOk d.now ns ∧ w'.ownsRow w.heap.size 9 1 v ns.length (ns.map Value.string) ∧ Below w.heap.size w w' := by
  have c1 := blk_cell h.blk 1
  have c5 := blk_cell h.blk 5
  simp at c1 c5
  rw [hdn] at c5
  have hN := h.hN
  have hn := h.hn
  obtain ⟨D, hown, h5⟩ := h.now
  have hsz := hown.size_le
  have H5 : Hid (∀ k : ByteArray, (d.now k = none → Maps.has D (keyL k) = false) ∧ (∀ t, d.now k = some t → Maps.has D (keyL k) = true)) := fun k => ⟨(h5 k).1, fun t ht => ((h5 k).2 t ht).1⟩
  have HO : Hid (w.ownsMap Tryz.prog 9 ptrElem bN nN D) := hown
  clear h h5
  obtain ⟨i0, hi, hz0, hz1, hz2⟩ := info_parts Tryz.infoStr
  go_enter Tryz.func409, Tryz.ntmps409
  go_wp2_with (first
    | (at_range; refine wpList_range_own _ rfl _ 97 rfl 9 101 Tryz.lawS Tryz.underlying97 ptrElem bN nN D rfl hown ?_; intro w0 hrg0 hg0 hs0)
    | go_in)
  go_frame
  have hbl : Below w.heap.size w w0 := ⟨hg0.os, hg0.tape, hg0.output, hg0.size, fun k hk => hg0.block k hk (by simp)⟩
  have HS : Hid (w0.ranges Tryz.prog 9 ptrElem bN w.heap.size nN D (Maps.has D) (Maps.size D) ∧ Below w.heap.size w w0) := ⟨hrg0, hbl⟩
  clear hrg0 hg0 hbl hown
  go_loopw [4] (fun v wr => ∃ (left : Lit → Bool) (cnt : Nat) (ss : List (List UInt8)), Hid (wr.ranges Tryz.prog 9 ptrElem bN w.heap.size nN D left cnt ∧ ss.length + cnt ≤ Maps.size D ∧ Collected D left ss ∧ wr.ownsRow (w.heap.size + 1) 9 1 v ss.length (ss.map encStr) ∧ Below w.heap.size w wr ∧ w.heap.size + 1 ≤ wr.heap.size))
    (fun _ wr => wr.rangeLeft bN w.heap.size)
  case atStart => exact ⟨_, _, [], HS.out.1, by simp, Collected.start D, World.ownsRow_nil _ _ _ _, HS.out.2, by omega⟩
  case round =>
    obtain ⟨left, cnt, ss, HX⟩ := hrel
    have hrg := HX.out.1
    go_wp2_with (first
      | (at_next; refine wpList_next_ranges _ rfl _ rfl 9 Tryz.lawS ptrElem encStr Value.pointer (fun key kl hk => by obtain ⟨x, hx, _⟩ := Maps.keyOf_str Tryz.underlying9 hk; exact ⟨x, hx⟩) (fun v y hv => ptrElem_shape hv) bN w.heap.size nN _ _ _ rfl hrg ?_ ?_)
      | go_in)
    · intro hc0 hl0
      have hC := HX.out.2.2.1
      have hNames : ∀ ts : List (List UInt8), ts.Perm ss → NamesOk d.now (ts.map fun x => ⟨x.toArray⟩) := fun ts hp => by
        refine ⟨?_, fun k => ?_⟩
        · refine List.Pairwise.map _ (fun a b hab e => hab ?_) (hp.nodup_iff.2 hC.1)
          have := congrArg (fun x : ByteArray => x.data.toList) e
          simpa using this
        · have e1 : k ∈ (ts.map fun x => (⟨x.toArray⟩ : ByteArray)) ↔ k.data.toList ∈ ss := by
            rw [← hp.mem_iff, List.mem_map]
            constructor
            · rintro ⟨x, hx, rfl⟩; simpa using hx
            · intro hk; exact ⟨_, hk, by simp⟩
          rw [e1, hC.2]
          have := H5.out k
          cases hk : d.now k with
          | none => rw [show Lit.string k.data.toList = keyL k from rfl, this.1 hk]; simp
          | some t => rw [show Lit.string k.data.toList = keyL k from rfl, this.2 t hk]; simp [hl0]
      have HNM : Hid (∀ ts : List (List UInt8), ts.Perm ss → NamesOk d.now (ts.map fun x => ⟨x.toArray⟩)) := hNames
      clear hNames hC
      rcases HX.out.2.2.2.1.2 with ⟨rfl, hz⟩ | ⟨gb, cap, cur, rfl, hbase, hgb, r1, r2, r3, r4⟩
      · have hss : ss = [] := List.eq_nil_of_length_eq_zero hz
        subst hss
        go_wp2_with fail
        refine (Tryz.sort_Strings_none none 0 wr).mono ?_
        rintro e w1 ⟨rfl, rfl⟩
        go_wp2
        go_ret2
        exact ⟨.slice none 0 0, [], rfl, HNM.out [] (List.Perm.refl _), World.ownsRow_nil _ _ _ _, HX.out.2.2.2.2.1⟩
      · have hH : Holds encStr wr gb 0 ss.toArray := holds_of_block hgb (by simpa using r4)
        have hgl : gb < wr.heap.size := (Array.getElem?_eq_some_iff.1 hgb).1
        have hlen : ss.length < 4611686018427387904 := by have := HX.out.2.1; omega
        have HG : Hid (wr.heap[gb]? = some (.cells cur 9 (0, 0)) ∧ ss.length ≤ cap ∧ cap ≤ maxLen ∧ cur.size = cap * 1) := ⟨hgb, r1, r2, r3⟩
        clear hgb r1 r2 r3 r4
        go_wp2_with fail
        refine (Tryz.sort_Strings gb 0 cap ss wr hH hgl hlen).mono ?_
        rintro e w1 ⟨rfl, nn, os, rfl⟩
        have hrow := ownsRow_sorted (n := nn) (os := os) (ts := ss.mergeSort fun x y => decide (x ≤ y)) (by simp) hbase HG.out.1 HG.out.2.1 HG.out.2.2.1 HG.out.2.2.2
        have hgr := grownBy_sorted (w := wr) (g := gb) (n := nn) (os := os) (ss.mergeSort fun x y => decide (x ≤ y)).toArray
        obtain ⟨W2, hW2⟩ : ∃ W2, W2 = grow (putRow encStr (Sort.ahead wr nn) gb 0 (ss.mergeSort fun x y => decide (x ≤ y)).toArray) os := ⟨_, rfl⟩
        rw [← hW2] at hrow hgr ⊢
        clear hW2
        go_wp2
        go_ret2
        refine ⟨.slice (some ⟨gb, 0, none⟩) ss.length cap, (ss.mergeSort fun x y => decide (x ≤ y)).map fun x => ⟨x.toArray⟩, rfl, HNM.out _ (List.mergeSort_perm _ _), ?_, HX.out.2.2.2.2.1.grown hgr (by omega) (fun j hj => by cases hj; omega)⟩
        rw [List.map_map]
        have e : (ss.mergeSort fun x y => decide (x ≤ y)).length = ss.length := by simp
        rw [List.length_map, e]
        exact own_base0 hrow (by omega)
    · intro x c kl yd yp w2 cnt2 hkey hlk hv hat hrg2 hlt hg2 hs2 hen
      obtain ⟨x', ex, rfl, hxl⟩ := Maps.keyOf_str Tryz.underlying9 hkey
      obtain rfl : x = x' := encStr_inj ex
      have hrow2 : w2.ownsRow (w.heap.size + 1) 9 1 _ ss.length (ss.map encStr) := HX.out.2.2.2.1.kept hg2 (by
        rcases HX.out.2.2.2.1.2 with ⟨rfl, _⟩ | ⟨gb, cap, cur, rfl, hbase, _⟩
        · exact .inl rfl
        · exact .inr (by simp [Value.ownBlock]; omega))
      have HN2 : Hid (w2.ranges Tryz.prog 9 ptrElem bN w.heap.size nN D (fun z => left z && !z.sameKey (.string x)) cnt2 ∧ ss.length + 1 + cnt2 ≤ Maps.size D ∧ Collected D (fun z => left z && !z.sameKey (.string x)) (ss ++ [x]) ∧ Below w.heap.size w w2 ∧ w.heap.size + 1 ≤ w2.heap.size ∧ w2.rangeLeft bN w.heap.size < wr.rangeLeft bN w.heap.size) := by
        refine ⟨hrg2, by have := HX.out.2.1; omega, HX.out.2.2.1.step hlk hat, HX.out.2.2.2.2.1.grown hg2 (by have := HX.out.2.2.2.2.2; omega) (fun j hj => by cases hj; omega), by rw [hs2]; exact HX.out.2.2.2.2.2, by rw [hrg2.left_eq, hrg.left_eq]; exact hlt⟩
      have hsm : ss.length + 1 ≤ 67108864 := by have := HN2.out.2.1; omega
      clear hs2 hrg hrg2 hlt
      go_wp2_with (first
        | (at_builtin; refine wpList_append_own _ rfl _ _ 65 rfl (w.heap.size + 1) 9 i0 _ 1 16 Tryz.underlying65 hi hz0 hz1 hz2 rfl (by decide) _ ss.length _ rfl (hrow2.alloc _) ⟨w2.heap.size, 0, none⟩ 1 1 [encStr x] rfl rfl (cells_new _ #[encStr x] _) (by intro u hu; simp at hu; subst hu; rfl) (by unfold maxLen; omega) (by omega) (by simp; have := HN2.out.2.2.2.2.1; omega) ?_; intro v' w3 hown' hgrow _)
        | fail)
      have hfr3 : ∀ k, k < w2.heap.size → k < w.heap.size + 1 → w3.heap[k]? = w2.heap[k]? := fun k hk hk2 => (hgrow.block k (by simp; omega) (fun e => by have := (hrow2.lt k e.symm).1; omega)).trans (Below.heap_alloc _ _ k hk)
      have hbN : bN < w.heap.size := HO.out.lt
      have hw2s := HN2.out.2.2.2.2.1
      have hrg3 : w3.ranges Tryz.prog 9 ptrElem bN w.heap.size nN D (fun z => left z && !z.sameKey (.string x)) cnt2 := by
        have := HN2.out.1
        unfold World.ranges at this ⊢
        rw [hfr3 bN (by omega) (by omega), hfr3 w.heap.size (by omega) (by omega)]
        exact this
      go_roundw
      case rel =>
        refine ⟨_, cnt2, ss ++ [x], hrg3, by simp; have := HN2.out.2.1; omega, HN2.out.2.2.1, by simpa using hown', ?_, by have := hgrow.size; simp at this; omega⟩
        exact ⟨hgrow.os.trans HN2.out.2.2.2.1.os, hgrow.tape.trans HN2.out.2.2.2.1.tape, hgrow.output.trans HN2.out.2.2.2.1.output, by have := hgrow.size; simp at this; omega, fun k hk => (hfr3 k (by omega) (by omega)).trans (HN2.out.2.2.2.1.block k hk)⟩
      case measure => rw [hrg3.left_eq, ← HN2.out.1.left_eq]; exact HN2.out.2.2.2.2.2
end Go.Proofs.YtejiankgafjppabGreatDoor
/- SORTING NUMBERS (uint64), few of them: cmp.Less, slices.insertionSortOrdered. -/
namespace Go.Proofs.YtejiankgafjppabGreatDoor
open Go.RowKit Go.Maps
open Sc

/-- two neighbours are exchanged -/
def swapN (l : List Nat) (j : Nat) : List Nat := (l.set j (l.getD (j - 1) 0)).set (j - 1) (l.getD j 0)
theorem getD_at {l : List Nat} {j : Nat} (h : j < l.length) : l.getD j 0 = l[j] := by simp [List.getD, List.getElem?_eq_getElem h]
theorem swapN_perm {l : List Nat} {j : Nat} (h : j < l.length) : (swapN l j).Perm l := by
  unfold swapN
  rw [getD_at h, getD_at (by omega : j - 1 < l.length)]
  exact List.set_set_perm h (by omega)
theorem swapN_at {l : List Nat} {j : Nat} (h : j < l.length) (hj : 0 < j) (a : Nat) : (swapN l j).getD a 0 = if a = j then l.getD (j - 1) 0 else if a = j - 1 then l.getD j 0 else l.getD a 0 := by
  unfold swapN
  simp only [List.getD_eq_getElem?_getD, List.getElem?_set, List.length_set]
  by_cases h1 : a = j
  · subst h1
    rw [if_neg (by omega), if_pos rfl, if_pos h, if_pos rfl]
    rfl
  · by_cases h2 : a = j - 1
    · subst h2
      rw [if_pos rfl, if_pos (by omega), if_neg h1, if_pos rfl]
      rfl
    · rw [if_neg (fun e => h2 e.symm), if_neg (fun e => h1 e.symm), if_neg h1, if_neg h2]

/-- the first k in order -/
def AscTo (l : List Nat) (k : Nat) : Prop := ∀ a b, a < b → b < k → l.getD a 0 ≤ l.getD b 0
/-- the first k in order, but that the one at j is looked for its place -/
def AscBut (l : List Nat) (k j : Nat) : Prop := ∀ a b, a < b → b < k → b ≠ j → l.getD a 0 ≤ l.getD b 0
theorem AscTo.but {l : List Nat} {k : Nat} (h : AscTo l k) : AscBut l (k + 1) k := fun a b h1 h2 h3 => h a b h1 (by omega)
theorem AscBut.first {l : List Nat} {k : Nat} (h : AscBut l k 0) : AscTo l k := fun a b h1 h2 => h a b h1 h2 (by omega)
theorem AscBut.stop {l : List Nat} {k j : Nat} (h : AscBut l k j) (hj : 0 < j) (hle : l.getD (j - 1) 0 ≤ l.getD j 0) : AscTo l k := by
  intro a b h1 h2
  by_cases e : b = j
  · subst e
    by_cases e2 : a = b - 1
    · rw [e2]; exact hle
    · exact Nat.le_trans (h a (b - 1) (by omega) (by omega) (by omega)) hle
  · exact h a b h1 h2 e
theorem AscBut.swap {l : List Nat} {k j : Nat} (h : AscBut l k j) (hj : 0 < j) (hjl : j < l.length) (hjk : j < k) (hlt : l.getD j 0 < l.getD (j - 1) 0) : AscBut (swapN l j) k (j - 1) := by
  intro a b h1 h2 h3
  rw [swapN_at hjl hj, swapN_at hjl hj]
  by_cases e : b = j
  · rw [if_pos e, if_neg (by omega : ¬ a = j)]
    by_cases e2 : a = j - 1
    · rw [if_pos e2]; omega
    · rw [if_neg e2]; exact h a (j - 1) (by omega) (by omega) (by omega)
  · rw [if_neg e, if_neg h3]
    by_cases e2 : a = j
    · rw [if_pos e2]; exact h (j - 1) b (by omega) h2 e
    · rw [if_neg e2]
      by_cases e3 : a = j - 1
      · rw [if_pos e3]; exact h j b (by omega) h2 e
      · rw [if_neg e3]; exact h a b h1 h2 e
theorem AscTo.pairwise {l : List Nat} (h : AscTo l l.length) : l.Pairwise (· ≤ ·) := by
  rw [List.pairwise_iff_getElem]
  intro i j hi hj hij
  have := h i j hij hj
  rwa [getD_at hi, getD_at hj] at this

set_option maxRecDepth 100000 in
set_option maxHeartbeats 2000000 in
theorem nanU (x : Int) (w : World) : Calls Tryz.prog 292 #[.int .u64 x] w fun e w' => e = .returned (.bool false) ∧ w' = w := by
  go_enter Tryz.func292, Tryz.ntmps292
  go_wp2
  go_ret
  exact ⟨by simp, rfl⟩
set_option maxRecDepth 100000 in
set_option maxHeartbeats 2000000 in
theorem lessU (x y : Int) (w : World) : Calls Tryz.prog 241 #[.int .u64 x, .int .u64 y] w fun e w' => e = .returned (.bool (decide (x < y))) ∧ w' = w := by
  go_enter Tryz.func241, Tryz.ntmps241
  go_wp2_with fail
  refine (nanU x w).mono ?_
  rintro e w1 ⟨rfl, rfl⟩
  go_wp2
  go_ret
  exact ⟨rfl, rfl⟩
theorem u64s_swap (l : List Nat) (j : Nat) : ((u64s l).set j (.int .u64 (l.getD (j - 1) 0 : Nat))).set (j - 1) (.int .u64 (l.getD j 0 : Nat)) = u64s (swapN l j) := by
  unfold u64s swapN
  rw [List.map_set, List.map_set]
/-- how the row lies while it is sorted -/
structure SrtIn (w wr : World) (B g n cap : Nat) (l l' : List Nat) : Prop where
  perm : l'.Perm l
  row : wr.ownsRow B 28 1 (.slice (some ⟨g, 0, none⟩) n cap) n (u64s l')
  fr : Fr [g] w wr
theorem SrtIn.swap {w wr : World} {B g n cap j : Nat} {l l' : List Nat} (h : SrtIn w wr B g n cap l l') (hj : j < l'.length) :
    SrtIn w ((wr.setCell ⟨g, j, none⟩ (.int .u64 (l'.getD (j - 1) 0 : Nat))).setCell ⟨g, j - 1, none⟩ (.int .u64 (l'.getD j 0 : Nat))) B g n cap l (swapN l' j) where
  perm := (swapN_perm hj).trans h.perm
  row := by
    have h1 := ((h.row.stored j (.int .u64 (l'.getD (j - 1) 0 : Nat))).1.stored (j - 1) (.int .u64 (l'.getD j 0 : Nat))).1
    rwa [u64s_swap] at h1
  fr := (h.fr.setCell (.inl (by simp)) _).setCell (.inl (by simp)) _
theorem SrtIn.drewN {w wr : World} {B g n cap : Nat} {l l' : List Nat} (h : SrtIn w wr B g n cap l l') (k : Nat) : SrtIn w (wr.drewN k) B g n cap l l' where
  perm := h.perm
  row := ownsRow_fr h.row (frDrewN (Fr.refl [] wr) k) (fun _ _ => by simp)
  fr := frDrewN h.fr k
theorem SrtIn.at {w wr : World} {B g n cap : Nat} {l l' : List Nat} (h : SrtIn w wr B g n cap l l') {k : Nat} (hk : k < l'.length) : wr.cell? ⟨g, k, none⟩ = some (.int .u64 ((l'.getD k 0 : Nat) : Int)) :=
  segs_cell h.row k _ (by rw [getD_at hk]; exact List.getElem?_eq_getElem hk)
theorem SrtIn.free {w wr : World} {B g n cap : Nat} {l l' : List Nat} (h : SrtIn w wr B g n cap l l') (k : Nat) : wr.frozen? ⟨g, k, none⟩ = false := by
  rcases h.row.2 with ⟨h', _⟩ | ⟨g', cap', cur, h', hb, hg, _⟩
  · simp at h'
  · simp only [Value.slice.injEq, Option.some.injEq, Addr.mk.injEq, and_true, true_and] at h'
    obtain ⟨rfl, rfl⟩ := h'
    exact blk_free hg _
set_option maxRecDepth 100000 in
set_option maxHeartbeats 4000000 in
theorem insertU (B g n cap : Nat) (l : List Nat) (w : World) (h : w.ownsRow B 28 1 (.slice (some ⟨g, 0, none⟩) n cap) n (u64s l)) (hl : l.length = n) (hn : n ≤ 67108864) :
    Calls Tryz.prog 328 #[.slice (some ⟨g, 0, none⟩) n cap, .int .i64 0, .int .i64 (n : Int)] w fun e w' => e = .returned (.tuple #[]) ∧ ∃ l', SrtIn w w' B g n cap l l' ∧ AscTo l' n := by
  have HL : Hid (l.length = n) := hl
  have H0 : Hid (SrtIn w w B g n cap l l) := ⟨List.Perm.refl _, h, Fr.refl _ _⟩
  clear h hl
  go_enter Tryz.func328, Tryz.ntmps328
  go_wp2
  go_loopw [6] (fun i wr => ∃ k : Nat, i = .int .i64 k ∧ 1 ≤ k ∧ (k ≤ n ∨ k = 1) ∧ ∃ l', SrtIn w wr B g n cap l l' ∧ AscTo l' k) (fun i _ => n - (intOf i).toNat)
  case atStart => exact ⟨1, rfl, by omega, .inr rfl, l, H0.out, fun a b h1 h2 => by omega⟩
  case round =>
    obtain ⟨k, rfl, hk1, hkn, l1, hs1, ha1⟩ := hrel
    by_cases hlt : k < n
    · have j1 : (k : Int) < (n : Int) := by omega
      have j2 : IntKind.i64.wrap ((k : Int) + 1) = (k : Int) + 1 := by rw [IntKind.wrap_i64]; omega
      have HS1 : Hid (SrtIn w wr B g n cap l l1) := hs1
      have HA1 : Hid (AscTo l1 k) := ha1
      clear hs1 ha1
      go_wp2
      go_loopw [7] (fun i wq => ∃ j : Nat, i = .int .i64 j ∧ j ≤ k ∧ ∃ l', SrtIn w wq B g n cap l l' ∧ AscBut l' (k + 1) j) (fun i _ => (intOf i).toNat)
      case atStart => exact ⟨k, rfl, by omega, l1, HS1.out, HA1.out.but⟩
      case round =>
        obtain ⟨j, rfl, hjk, l2, hs2, ha2⟩ := hrel
        have HS2 : Hid (SrtIn w wr B g n cap l l2) := hs2
        have HA2 : Hid (AscBut l2 (k + 1) j) := ha2
        have HLn : Hid (l2.length = n) := by rw [← HL.out]; exact hs2.perm.length_eq
        clear hs2 ha2
        have j7 : IntKind.i64.wrap ((k : Int) + 1) = (k : Int) + 1 := j2
        cases j with
        | zero =>
          go_wp2
          go_quiet (first | (go_at_call 241; refine Calls.quiet_of_same (lessU _ _ _)))
          go_wp2
          refine ⟨⟨k + 1, by simp, by omega, .inl (by omega), l2, HS2.out.drewN _, HA2.out.first⟩, by simp [intOf]; omega⟩
        | succ i =>
          have c1 := HS2.out.at (k := i + 1) (by rw [HLn.out]; omega)
          have c2 := HS2.out.at (k := i) (by rw [HLn.out]; omega)
          have f1 : wr.frozen? ⟨g, i + 1, none⟩ = false := HS2.out.free _
          have f2 : wr.frozen? ⟨g, i, none⟩ = false := HS2.out.free _
          have j3 : (0 : Int) < ((i + 1 : Nat) : Int) := by omega
          have j4 : IntKind.i64.wrap (((i + 1 : Nat) : Int) - 1) = (i : Int) := by rw [IntKind.wrap_i64]; omega
          have j5 : ((i + 1 : Nat) : Int) < (n : Int) := by omega
          have j6 : (i : Int) < (n : Int) := by omega
          obtain ⟨x, hx⟩ : ∃ x, x = l2.getD (i + 1) 0 := ⟨_, rfl⟩
          obtain ⟨y, hy⟩ : ∃ y, y = l2.getD i 0 := ⟨_, rfl⟩
          rw [← hx] at c1
          rw [← hy] at c2
          have HX : Hid (x = l2.getD (i + 1) 0) := hx
          have HY : Hid (y = l2.getD i 0) := hy
          clear hx hy
          by_cases hxy : (x : Int) < (y : Int)
          · have hd : decide ((x : Int) < (y : Int)) = true := by simp [hxy]
            go_wp2
            go_quiet (first | (go_at_call 241; refine Calls.quiet_of_same (lessU _ _ _)))
            go_wp2
            go_region
            all_goals go_wp2
            have hlen : i + 1 < l2.length := by rw [HLn.out]; omega
            have hsw := (HS2.out.drewN (nq + 1)).swap hlen
            rw [show i + 1 - 1 = i from rfl, ← HX.out, ← HY.out] at hsw
            refine ⟨⟨i, rfl, by omega, swapN l2 (i + 1), hsw, ?_⟩, by simp [intOf]⟩
            exact HA2.out.swap (by omega) hlen (by omega) (by rw [show i + 1 - 1 = i from rfl, ← HX.out, ← HY.out]; omega)
          · have hd : decide ((x : Int) < (y : Int)) = false := by simp [hxy]
            go_wp2
            go_quiet (first | (go_at_call 241; refine Calls.quiet_of_same (lessU _ _ _)))
            go_wp2
            refine ⟨⟨k + 1, by simp, by omega, .inl (by omega), l2, HS2.out.drewN _, HA2.out.stop (by omega) ?_⟩, by simp [intOf]; omega⟩
            rw [show i + 1 - 1 = i from rfl, ← HX.out, ← HY.out]; omega
    · have j1 : ¬ (k : Int) < (n : Int) := by omega
      have HS1 : Hid (SrtIn w wr B g n cap l l1) := hs1
      have HA1 : Hid (AscTo l1 k) := ha1
      clear hs1 ha1
      go_wp2
      go_end0
      refine ⟨rfl, l1, HS1.out, fun a b h1 h2 => HA1.out a b h1 (by omega)⟩
set_option maxRecDepth 100000 in
set_option maxHeartbeats 2000000 in
theorem pdqU_few (B g n cap : Nat) (k : Int) (l : List Nat) (w : World) (h : w.ownsRow B 28 1 (.slice (some ⟨g, 0, none⟩) n cap) n (u64s l)) (hl : l.length = n) (hn : n ≤ 12) :
    Calls Tryz.prog 286 #[.slice (some ⟨g, 0, none⟩) n cap, .int .i64 0, .int .i64 (n : Int), .int .i64 k] w fun e w' => e = .returned (.tuple #[]) ∧ ∃ l', SrtIn w w' B g n cap l l' ∧ AscTo l' n := by
  have hi := insertU B g n cap l w h hl (by omega)
  have j1 : (n : Int) ≤ 12 := by omega
  have j2 : IntKind.i64.wrap ((n : Int) - 0) = (n : Int) := by rw [IntKind.wrap_i64]; omega
  have j3 : IntKind.i64.wrap (n : Int) = (n : Int) := by rw [IntKind.wrap_i64]; omega
  clear h hl
  go_enter Tryz.func286, Tryz.ntmps286
  go_wp2
  refine wp_loop_rounds 1 ?_
  rw [rounds_succ]
  go_wp2_with fail
  refine hi.mono ?_
  clear hi
  rintro e w1 ⟨rfl, hp⟩
  go_wp2
  refine bodyPost_ret (results_none rfl _ _ _) rfl ?_
  exact ⟨rfl, hp⟩
set_option maxRecDepth 100000 in
set_option maxHeartbeats 2000000 in
/-- slices.Sort of at most twelve numbers -/
theorem sortU_few (B g n cap : Nat) (l : List Nat) (w : World) (h : w.ownsRow B 28 1 (.slice (some ⟨g, 0, none⟩) n cap) n (u64s l)) (hl : l.length = n) (hn : n ≤ 12) :
    Calls Tryz.prog 236 #[.slice (some ⟨g, 0, none⟩) n cap] w fun e w' => e = .returned (.tuple #[]) ∧ ∃ l', SrtIn w w' B g n cap l l' ∧ AscTo l' n := by
  have hp := fun k => pdqU_few B g n cap k l w h hl hn
  clear h hl
  go_enter Tryz.func236, Tryz.ntmps236
  go_wp2_with fail
  refine (Tryz.bits_Len n w (by omega) (by omega)).mono ?_
  rintro e w1 ⟨rfl, rfl⟩
  go_wp2_with fail
  refine (hp _).mono ?_
  rintro e w1 ⟨rfl, hq⟩
  go_wp2
  go_end0
  exact ⟨rfl, hq⟩
end Go.Proofs.YtejiankgafjppabGreatDoor
/- RECOVERY: segmentsAmong, BinarySearch. -/
namespace Go.Proofs.YtejiankgafjppabGreatDoor
open Go.RowKit Go.Maps
open Sc

theorem trim_seg (u : Nat) : (⟨(Lib.trimPrefix (segName u).data.toList [115, 101, 103, 109, 101, 110, 116, 45]).toArray⟩ : ByteArray) = ⟨(Lib.decDigits u).toArray⟩ := by
  have e : (segName u).data.toList = [115, 101, 103, 109, 101, 110, 116, 45] ++ Lib.decDigits u := by unfold segName; rw [ByteArray.data_append]; simp
  rw [e]
  unfold Lib.trimPrefix Lib.hasPrefix
  rw [if_pos (by simp [List.isPrefixOf])]
  simp
theorem Tryz.lenStr (p : Option Addr) (n c : Nat) (w : World) : (Builtin.len_ #[65] 3 #[.slice p n c]).run Tryz.prog w = .ok (.int .i64 n) w := by simp [Builtin.len_, run_underlying Tryz.underlying65, goInt]
theorem below_bytes (w : World) (s : ByteArray) : Below w.heap.size w (Lib.bytesWorld w 5 s) :=
  ⟨rfl, rfl, rfl, by rw [Lib.bytesWorld_size]; omega, fun k hk => Lib.bytesWorld_at_old w _ s k hk⟩
theorem own_grow0 {w w' : World} {B n : Nat} {e : TypeId} {k : Nat} {v : Value} {xs : List Value} (h : w.ownsRow B e k v n xs) (hb : Below w.heap.size w w') : w'.ownsRow B e k v n xs := by
  refine h.kept (row := none) ⟨hb.os, hb.tape, hb.output, hb.size, fun j hj _ => hb.block j hj⟩ ?_
  cases hv : v.ownBlock with
  | none => exact .inl rfl
  | some q => exact .inr (by simp)
/-- the cells of names -/
def SegNames (w : World) (g : Nat) (us : List Nat) : Prop := ∀ (k u : Nat), us[k]? = some u → w.cell? ⟨g, k, none⟩ = some (.string (segName u))
end Go.Proofs.YtejiankgafjppabGreatDoor
/- TORN RECORDS, the plain mathematics: what a bit that is turned does to a sum; what is read of records of which the end is cut off, or that are turned in a byte. -/
namespace Go.Proofs.YtejiankgafjppabGreatDoor
open Go.RowKit
open Sc

/-! One bit of the reckoning can be taken back. -/
/-! A record that is whole, behind it whatever. -/
theorem take_app (a b : List Nat) (n : Nat) (h : a.length = n) : (a ++ b).take n = a := by subst h; simp
theorem drop_app (a b : List Nat) (n : Nat) (h : a.length = n) : (a ++ b).drop n = b := by subst h; simp
theorem head_2 (x k : Nat) (l r : List Nat) : (recHead x k l ++ r).take 2 = be 2 l.length := by
  unfold recHead; rw [List.append_assoc, List.append_assoc, List.append_assoc]; exact take_app _ _ _ (be_len _ _)
theorem fLen_head (x k : Nat) (l r : List Nat) (hl : l.length ≤ 255) : fLen (recHead x k l ++ r) = l.length := by
  unfold fLen; rw [head_2]; exact val_be 2 _ (by omega)
theorem frame_yes (x k : Nat) (l r : List Nat) (hl : l.length ≤ 255) (hk : k < 256) (hb : Byt l) : frameOk (recBytes x k l ++ r) = true := by
  have e : recBytes x k l ++ r = recHead x k l ++ (be 4 (crc (recHead x k l)) ++ r) := by unfold recBytes; rw [List.append_assoc]
  have hlen : (recHead x k l ++ (be 4 (crc (recHead x k l)) ++ r)).length = 15 + l.length + r.length := by simp [recHead_len, be_len]; omega
  rw [e]
  have hf := fLen_head x k l (be 4 (crc (recHead x k l)) ++ r) hl
  refine frameOk_yes (ffOk_yes (by omega) (by omega) (by omega)) ?_
  unfold fSum
  rw [hf, take_app _ _ _ (recHead_len x k l), drop_app _ _ _ (recHead_len x k l), take_app _ _ _ (be_len _ _), val_be 4 _ (crc_lt _ (recHead_byt x k l hk hb))]
  simp
theorem frame_rec (x k : Nat) (l r : List Nat) (hl : l.length ≤ 255) (hx : x < 18446744073709551616) : recOf (recBytes x k l ++ r) = ⟨x, k, l⟩ := by
  have e : recBytes x k l ++ r = recHead x k l ++ (be 4 (crc (recHead x k l)) ++ r) := by unfold recBytes; rw [List.append_assoc]
  have hf := fLen_head x k l (be 4 (crc (recHead x k l)) ++ r) hl
  rw [e]
  unfold recOf
  rw [hf]
  unfold recHead
  generalize be 4 _ ++ r = q
  have h2 : (be 2 l.length ++ be 8 x ++ [k] ++ l ++ q).drop 2 = be 8 x ++ ([k] ++ (l ++ q)) := by
    simp only [List.append_assoc]; exact drop_app _ _ _ (be_len _ _)
  have h11 : (be 2 l.length ++ be 8 x ++ [k] ++ l ++ q).drop 11 = l ++ q := by
    rw [List.append_assoc (be 2 l.length ++ be 8 x ++ [k])]; exact drop_app _ _ _ (by simp [be_len])
  have h10 : (be 2 l.length ++ be 8 x ++ [k] ++ l ++ q).drop 10 = k :: (l ++ q) := by
    rw [show be 2 l.length ++ be 8 x ++ [k] ++ l ++ q = (be 2 l.length ++ be 8 x) ++ (k :: (l ++ q)) by simp]; exact drop_app _ _ _ (by simp [be_len])
  have a10 : at_ (be 2 l.length ++ be 8 x ++ [k] ++ l ++ q) 10 = k := by
    have := at_drop (be 2 l.length ++ be 8 x ++ [k] ++ l ++ q) 10 0
    rw [h10] at this
    rw [show (10 : Nat) = 10 + 0 from rfl, ← this]; simp [at_]
  rw [h2, h11, a10, take_app _ _ _ (be_len _ _), take_app _ _ _ rfl, val_be 8 _ hx]
theorem frame_len (x k : Nat) (l r : List Nat) (hl : l.length ≤ 255) : fLen (recBytes x k l ++ r) = l.length := by
  have e : recBytes x k l ++ r = recHead x k l ++ (be 4 (crc (recHead x k l)) ++ r) := by unfold recBytes; rw [List.append_assoc]
  rw [e]; exact fLen_head x k l _ hl
end Go.Proofs.YtejiankgafjppabGreatDoor
/- TORN RECORDS, the plain mathematics: records one behind the other, the end cut off, or turned in a byte. -/
namespace Go.Proofs.YtejiankgafjppabGreatDoor
open Go.RowKit
open Sc

/-- the j-th record's bytes; the first j of them, one behind the other; what they are -/
def rb (S : Nat → ByteArray) (j : Nat) : List Nat := recBytes j j (bytesOf (S j))
def cat (S : Nat → ByteArray) : Nat → List Nat
  | 0 => []
  | j + 1 => cat S j ++ rb S j
def recs (S : Nat → ByteArray) (j : Nat) : List Rec := (List.range j).map fun q => ⟨q, q, bytesOf (S q)⟩
end Go.Proofs.YtejiankgafjppabGreatDoor
/- RECOVERY: readSegment, of the segment of record 1. -/
namespace Go.Proofs.YtejiankgafjppabGreatDoor
open Go.RowKit Go.Maps
open Sc

theorem str_data (l : List Nat) : (str l).data = (l.map fun x => UInt8.ofNat x).toArray := by
  have aux : ∀ (l : List Nat) (r : ByteArray), ((l.map fun x : Nat => (x : Int)).foldl (fun r n => r.push (UInt8.ofNat n.toNat)) r).data = r.data ++ (l.map fun x => UInt8.ofNat x).toArray := by
    intro l
    induction l with
    | nil => intro r; simp
    | cons x l ih =>
      intro r
      rw [List.map_cons, List.foldl_cons, ih]
      simp [ByteArray.push]
  unfold str
  rw [aux]
  simp
theorem bytesOf_str {l : List Nat} (h : Byt l) : bytesOf (str l) = l := by
  unfold bytesOf
  rw [str_data]
  simp only [List.map_map]
  have : ∀ (m : List Nat), Byt m → m.map (UInt8.toNat ∘ fun x => UInt8.ofNat x) = m := by
    intro m
    induction m with
    | nil => intro _; rfl
    | cons x m ih =>
      intro hb
      have hx : x < 256 := hb x (by simp)
      rw [List.map_cons, ih (fun y hy => hb y (by simp [hy]))]
      congr 1
      simp
      omega
  exact this l h
/-- records as they lie on the disk -/
def encR (rs : List Rec) : List Nat := rs.flatMap fun r => recBytes r.lsn r.kind r.pay
/-- records that a log can have -/
def FineR (rs : List Rec) : Prop := ∀ (k : Nat) (r : Rec), rs[k]? = some r → r.lsn = 1 + k ∧ r.kind < 256 ∧ r.pay.length ≤ 255 ∧ Byt r.pay ∧ r.lsn < 18446744073709551616
theorem encR_snoc (rs : List Rec) (r : Rec) : encR (rs ++ [r]) = encR rs ++ recBytes r.lsn r.kind r.pay := by simp [encR]
theorem FineR.last {rs : List Rec} {r : Rec} (h : FineR (rs ++ [r])) : r.kind < 256 ∧ r.pay.length ≤ 255 ∧ Byt r.pay ∧ r.lsn < 18446744073709551616 := (h rs.length r (by simp)).2
def bytesR0 : List Rec → Nat
  | [] => 0
  | r :: l => 15 + r.pay.length + bytesR0 l
theorem encR_len (rs : List Rec) : (encR rs).length = bytesR0 rs := by
  induction rs with
  | nil => rfl
  | cons r rs ih => simp only [encR, List.flatMap_cons, List.length_append, recBytes_len] at *; rw [ih]; simp [bytesR0]
theorem List.reverseRecOn0 {α : Type} {motive : List α → Prop} (l : List α) (h0 : motive []) (h1 : ∀ l x, motive l → motive (l ++ [x])) : motive l := by
  have : ∀ n (l : List α), l.length = n → motive l := by
    intro n
    induction n with
    | zero => intro l hl; rw [List.length_eq_zero_iff.1 hl]; exact h0
    | succ n ih =>
      intro l hl
      rcases List.eq_nil_or_concat l with e | ⟨a, x, e⟩
      · subst e; simp at hl
      · subst e; simp at hl
        rw [List.concat_eq_append]
        exact h1 a x (ih a hl)
  exact this _ l rfl
theorem Tryz.nilRead (p : Nat) (w : World) : (nilAhead 611 81 (.pointer (some ⟨p, 0, none⟩)) "Read").run Tryz.prog w = .ok (some false) w := by kernel_rfl
end Go.Proofs.YtejiankgafjppabGreatDoor
/- RECOVERY: readOn, read, of a log of one segment. -/
namespace Go.Proofs.YtejiankgafjppabGreatDoor
open Go.RowKit Go.Maps
open Sc

/-- a log that was read -/
def logR (rs : List Rec) (nx : Nat) : ALog := ⟨[1], (encR rs).length, rs, nx, 0, 0⟩
theorem recsV_one (rs : List Rec) : ∀ u ∈ recsV rs, u.oneCell' = true := by
  intro u hu
  obtain ⟨r, _, hr⟩ := List.mem_flatMap.1 hu
  simp [recCells] at hr
  rcases hr with rfl | rfl | rfl <;> rfl
end Go.Proofs.YtejiankgafjppabGreatDoor
/- MAPS, BY LISTS OF WHAT THEY HOLD: to range over them within a walk of one's own (CallsIn). -/
namespace Go.Proofs.YtejiankgafjppabGreatDoor
open Go.RowKit Go.Maps
open Sc

section
variable {P : Program} {K V : Type} [DecidableEq K] {kt : TypeId} {KR : KeyRep P K kt} {ER : ElRep V} {w w' : World} {b r n : Nat} {l rem : List (K × V)}
theorem del_perm : ∀ {l : List (K × V)} {k : K} {v : V}, Once1 l → (k, v) ∈ l → l.Perm ((k, v) :: alDel l k)
  | [], _, _, _, h => by cases h
  | p :: r, k, v, h1, h2 => by
    obtain ⟨h3, h4⟩ := List.pairwise_cons.1 h1
    rcases List.mem_cons.1 h2 with e | hm
    · subst e
      have : alDel ((k, v) :: r) k = r := by
        unfold alDel
        rw [List.filter_cons_of_neg (by simp), List.filter_eq_self]
        intro q hq
        have := h3 q hq
        simp; exact fun e => this e.symm
      rw [this]
    · have hne : p.1 ≠ k := fun e => h3 _ hm e
      have : alDel (p :: r) k = p :: alDel r k := by unfold alDel; rw [List.filter_cons_of_pos (by simp [hne])]
      rw [this]
      exact ((del_perm h4 hm).cons p).trans (List.Perm.swap _ _ _)
theorem RangesAs.walks (h : RangesAs KR ER w b r n l rem) (hk : KeepsWalks w w') : RangesAs KR ER w' b r n l rem ∧ w'.rangeLeft b r = w.rangeLeft b r := by
  obtain ⟨es, left, cnt, h1, h2⟩ := h
  have h1' := h1.of_walks hk
  exact ⟨⟨es, left, cnt, h1', h2⟩, by rw [h1'.left_eq, h1.left_eq]⟩
theorem RangesAs.iter (h : RangesAs KR ER w b r n l rem) : ∃ o : Obj, w.heap[r]? = some o ∧ o.isWalk = true := by
  obtain ⟨es, left, cnt, h1, h2⟩ := h
  exact h1.iter_walk
theorem RangesAs.once (h : RangesAs KR ER w b r n l rem) : Once1 rem := by
  obtain ⟨_, _, _, _, _, _, _, h5, _⟩ := h
  exact h5
end
section
variable {F : Fence} {nF : Nat} {P : Program} {K V : Type} [DecidableEq K] {kt : TypeId} {KR : KeyRep P K kt} {ER : ElRep V} {w : World} {ops : Array Oper} {rest : List Oper} {o : Oper} {a : Act} {Q : Exit → Act → World → Prop}
theorem wpListIn_map_range (hg : o.guard = none) (m : Operand) (t e : TypeId) (hop : o.op = Op.range t m) (ht : P.underlying t = some (.map kt e)) (b n : Nat) (l : List (K × V)) (hm : a.eval m = .map (some b)) (hM : MapAs KR ER w b n l)
    (hK : ∀ w', RangesAs KR ER w' b w.heap.size n l l → w.grownBy w' none → w'.heap.size = w.heap.size + 1 → wpListIn F nF P ops Q rest (a.put o.dst (.pointer (some ⟨w.heap.size, 0, none⟩))) w') : wpListIn F nF P ops Q (o :: rest) a w := by
  obtain ⟨es, ho, hp, h1, hok⟩ := hM
  refine wpListIn_range_own w hg m t hop kt e KR.law ht ER.R b n _ hm ho ?_
  intro w' hrg hgr hsz
  exact hK w' ⟨es, _, _, hrg, hp, h1, hok, h1, fun p hp => hp, fun k hk => has_of hp hok hk⟩ hgr hsz
theorem wpListIn_map_next (hg : o.guard = none) (it : Operand) (hop : o.op = Op.next it false) (b r n : Nat) (l rem : List (K × V)) (hit : a.eval it = .pointer (some ⟨r, 0, none⟩)) (hM : RangesAs KR ER w b r n l rem)
    (hDone : rem = [] → wpListIn F nF P ops Q rest (a.put o.dst (.tuple #[.bool false])) w)
    (hMore : ∀ (k : K) (v : V) (w' : World), (k, v) ∈ rem → RangesAs KR ER w' b r n l (alDel rem k) → w'.rangeLeft b r < w.rangeLeft b r → w.grownBy w' (some r) → w'.heap.size = w.heap.size →
      (Instr.entry (.pointer (some ⟨r, 0, none⟩))).run P w' = .ok (.tuple #[KR.kv k, ER.ev v]) w' → wpListIn F nF P ops Q rest (a.put o.dst (.tuple #[.bool true, KR.kv k, ER.ev v])) w') : wpListIn F nF P ops Q (o :: rest) a w := by
  obtain ⟨es, left, cnt, hrg, hp, h1, hok, h5, h6, h7⟩ := hM
  refine wpListIn_next_ranges (α := Value) (β := Value) w hg it hop kt KR.law ER.R id id (fun key _ _ => ⟨key, rfl⟩) (fun v _ _ => ⟨v, rfl⟩) b r n _ left cnt hit hrg ?_ ?_
  · intro _ hl
    refine hDone ?_
    cases hr : rem with
    | nil => rfl
    | cons p q =>
      have hm : (p.1, p.2) ∈ rem := by rw [hr]; exact List.mem_cons_self
      have := h7 p.1 (hok _ (h6 _ hm)).1
      rw [hl, alLook_of h5 hm] at this
      cases this
  · intro key val kl y w' cnt' hkey hlk hv hat hrg' hlt hgr hsz hen
    have hhas : Maps.has (.map es) kl = true := Maps.has_true_of_atKey hat
    rw [Maps.has_eq, List.any_eq_true] at hhas
    obtain ⟨p, hpm, hps⟩ := hhas
    obtain ⟨q, hq, rfl⟩ := List.mem_map.1 (hp.mem_iff.1 hpm)
    obtain ⟨k, v⟩ := q
    have hkk := (hok _ hq).1
    have hvk := (hok _ hq).2
    have ekl : KR.kl k = kl := WideAt.sameKey_eq hps
    subst ekl
    have ek : key = KR.kv k := KR.law.inj hkey (KR.key k hkk)
    have ey := hat (ER.el v)
    rw [atKey_of hp h1 hok hkk (alLook_of h1 hq)] at ey
    have ev : val = ER.ev v := ER.inv val v y.2 hvk (by rw [ey]; exact hv)
    have hmem : (k, v) ∈ rem := by
      have := h7 k hkk
      rw [hlk] at this
      cases hr : alLook rem k with
      | none => rw [hr] at this; cases this
      | some u =>
        have e2 := h1.same (h6 _ (alLook_mem hr)) hq rfl
        rw [← e2]; exact alLook_mem hr
    subst ek ev
    refine hMore k v w' hmem ⟨es, _, cnt', hrg', hp, h1, hok, h5.del k, fun p hp => h6 p (List.mem_filter.1 hp).1, fun j hj => ?_⟩ (by rw [hrg'.left_eq, hrg.left_eq]; exact hlt) hgr hsz hen
    rw [h7 j hj, KR.same hj hkk, alLook_del]
    by_cases e : j = k
    · simp [e]
    · simp [e]
end
end Go.Proofs.YtejiankgafjppabGreatDoor
/- maps.Keys at map[uint64]shard.transaction. (Written by mkbyu.py.) -/
namespace Go.Proofs.YtejiankgafjppabGreatDoor
open Go.RowKit Go.Maps Go.Shelf
open Sc

set_option maxHeartbeats 1000000 in
theorem keysT_fn (n : Nat) (b : Nat) (w : World) :
    CallsIn Fence.wide n Tryz.prog 234 #[.map (some b)] w fun e w' => e = .returned (.func (.func 284) #[] #[.pointer (some ⟨w.heap.size, 0, none⟩)]) ∧ w' = w.alloc (.cells #[.map (some b)] 133) := by
  refine callsIn_of_wp Tryz.func234 rfl trivial ?_ rfl
  simp only [Tryz.ntmps234, List.size_toArray, List.length_cons, List.length_nil, Nat.reduceAdd, Nat.reduceSub, Array.replicate_succ, Array.replicate_zero, List.push_toArray, List.append_toArray, List.nil_append, List.cons_append]
  gi_wp2
  go_ret
  exact ⟨rfl, rfl⟩
set_option maxRecDepth 100000 in
set_option maxHeartbeats 2000000 in
theorem keysT_in (n : Nat) (hn : 1 ≤ n) (l Bn b m : Nat) (L : List (Nat × ATxn)) (W : World) (J Jx : List Nat → World → Prop) (hJ : AbidesFrom W.heap.size J)
    (hY : ∀ pre (x : Nat) W1, J pre W1 → pre.length < L.length → YieldAt Fence.wide (n - 1) Tryz.prog l #[.int .u64 (x : Int)] W1 fun e W' =>
      (e = .returned (.bool true) ∧ J (pre ++ [x]) W' ∧ KeepsWalks W1 W') ∨ (e = .returned (.bool false) ∧ Jx (pre ++ [x]) W'))
    (hBn : W.cell? ⟨Bn, 0, none⟩ = some (.map (some b))) (hL : MapAs KU ET W b m L) (h0 : J [] W) :
    CallsIn Fence.wide n Tryz.prog 284 #[.func (.yield l) #[] #[], .pointer (some ⟨Bn, 0, none⟩)] W fun e W' => (∃ v, e = .returned v) ∧
      ((∃ ys, ys.Perm (L.map (·.1)) ∧ J ys W') ∨ (∃ pre, True ∧ Jx pre W')) := by
  have hro : Fence.wide.round = none := rfl
  have hfM : Fence.wide.fn 284 := trivial
  have HL : Hid (MapAs KU ET W b m L) := hL
  have HJ : Hid (AbidesFrom W.heap.size J) := hJ
  clear hL hJ
  refine callsIn_of_wp Tryz.func284 rfl hfM ?_ hro
  simp only [Tryz.ntmps284, List.size_toArray, List.length_cons, List.length_nil, Nat.reduceAdd, Nat.reduceSub, Array.replicate_succ, Array.replicate_zero, List.push_toArray, List.append_toArray, List.nil_append, List.cons_append]
  gi_wp2_with (first
    | (gi_at_range; refine wpListIn_map_range (KR := KU) (ER := ET) rfl _ 133 206 rfl Tryz.underlying133 b m L rfl HL.out ?_; intro w0 hrg0 hg0 hs0)
    | gi_in)
  go_frame
  have HS : Hid (RangesAs KU ET w0 b W.heap.size m L L ∧ J [] w0) := ⟨hrg0, HJ.out [] W w0 none h0 hg0 (fun r e => by cases e)⟩
  clear hrg0 hg0
  gi_loopw [3] (fun _ wr => ∃ rem ss, Hid (RangesAs KU ET wr b W.heap.size m L rem ∧ (ss ++ rem.map (·.1)).Perm (L.map (·.1)) ∧ J ss wr))
    (fun _ wr => wr.rangeLeft b W.heap.size)
  case atStart => exact ⟨L, [], HS.out.1, by simp, HS.out.2⟩
  case round =>
    obtain ⟨rem, ss, HX⟩ := hrel
    have hrg := HX.out.1
    gi_wp2_with (first
      | (gi_at_next; refine wpListIn_map_next (KR := KU) (ER := ET) rfl _ rfl b W.heap.size m L rem rfl hrg ?_ ?_)
      | gi_in)
    · intro hnil
      gi_wp2
      go_end0
      exact ⟨⟨_, rfl⟩, .inl ⟨ss, by have := HX.out.2.1; rw [hnil] at this; simpa using this, HX.out.2.2⟩⟩
    · intro k v w2 hm hrg2 hlt hg2 hs2 hen
      have hJ2 : J ss w2 := HJ.out ss wr w2 (some W.heap.size) HX.out.2.2 hg2 (fun r e => by cases e; exact ⟨Nat.le_refl _, hrg.iter⟩)
      have hpm : (ss ++ [k] ++ (alDel rem k).map (·.1)).Perm (L.map (·.1)) := by
        refine List.Perm.trans ?_ HX.out.2.1
        rw [List.append_assoc]
        exact (((del_perm hrg.once hm).map (·.1)).symm).append_left ss
      have hlen : ss.length < L.length := by
        have := hpm.length_eq
        simp at this
        omega
      obtain ⟨fn, tmps, assign, body, hy, hR⟩ := hY ss k w2 hJ2 hlen
      have HN : Hid (RangesAs KU ET w2 b W.heap.size m L (alDel rem k) ∧ (ss ++ [k] ++ (alDel rem k).map (·.1)).Perm (L.map (·.1)) ∧ w2.rangeLeft b W.heap.size < wr.rangeLeft b W.heap.size) := ⟨hrg2, hpm, hlt⟩
      change (Instr.entry _).run _ _ = .ok (.tuple #[.int .u64 (k : Int), .agg #[.int .i64 (v.state : Int), .int .i64 (v.done : Int), .int .u64 (v.last : Int)]]) _ at hen
      clear hs2 hrg hrg2 hpm hlt hm hg2 hJ2
      gi_wp2
      refine hR.mono ?_
      rintro e W3 (⟨rfl, hJ3, hk3⟩ | ⟨rfl, hJx3⟩)
      · obtain ⟨hr3, hl3⟩ := HN.out.1.walks hk3
        have HN3 : Hid (RangesAs KU ET W3 b W.heap.size m L (alDel rem k) ∧ (ss ++ [k] ++ (alDel rem k).map (·.1)).Perm (L.map (·.1)) ∧ J (ss ++ [k]) W3 ∧ W3.rangeLeft b W.heap.size < wr.rangeLeft b W.heap.size) := ⟨hr3, HN.out.2.1, hJ3, by rw [hl3]; exact HN.out.2.2⟩
        clear hr3 hl3 hk3 hJ3
        gi_wp2
        go_roundw
        case rel => exact ⟨_, _, HN3.out.1, HN3.out.2.1, HN3.out.2.2.1⟩
        case measure => exact HN3.out.2.2.2
      · gi_wp2
        refine bodyPost_ret (results_none rfl _ _ _) rfl ?_
        exact ⟨⟨_, rfl⟩, .inr ⟨_, trivial, hJx3⟩⟩
theorem keysT_stops (n : Nat) (hn : 1 ≤ n) (Bn b m : Nat) (L : List (Nat × ATxn)) (w : World) (hBl : Bn < w.heap.size) (hBn : w.cell? ⟨Bn, 0, none⟩ = some (.map (some b))) (hL : MapAs KU ET w b m L) :
    SeqStopsK Fence.wide n Tryz.prog 284 #[.pointer (some ⟨Bn, 0, none⟩)] (fun x : Nat => #[.int .u64 (x : Int)]) KeepsWalks (fun ys => ys.Perm (L.map (·.1))) (fun _ => True) L.length w := fun l J Jx W hW hJ _ hY h0 =>
  keysT_in n hn l Bn b m L W J Jx hJ hY ((hW.cell (p := ⟨Bn, 0, none⟩) hBl).trans hBn) (hL.fr (S := []) ⟨hW.os, hW.tape, hW.output, hW.size, fun k hk _ => hW.block k hk⟩ (by simp)) h0
end Go.Proofs.YtejiankgafjppabGreatDoor
