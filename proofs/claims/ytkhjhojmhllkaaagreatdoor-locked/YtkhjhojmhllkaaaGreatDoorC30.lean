import Derived.Test.YtkhjhojmhllkaaaGreatDoorC21
import Derived.Sort.OwnSorted
import Derived.Test.YtkhjhojmhllkaaaGreatDoorC18
import Derived.Test.YtkhjhojmhllkaaaGreatDoorC11
import Derived.BigQuiet
import Derived.Test.YtkhjhojmhllkaaaGreatDoorC14
import Derived.Test.YtkhjhojmhllkaaaGreatDoorC05
import Derived.Test.YtkhjhojmhllkaaaGreatDoorC22
/- RECOVERY: (*disk).Names. -/
namespace Go.Proofs.YtkhjhojmhllkaaaGreatDoor
open Go.RowKit Go.Maps Go.Sort
open Sc

/-- the names of the files, each once -/
def NamesOk (m : Files) (ns : List ByteArray) : Prop := ns.Nodup ∧ ∀ k, k ∈ ns ↔ m k ≠ none
theorem encStr_eq (x : List UInt8) : encStr x = Value.string ⟨x.toArray⟩ := rfl
set_option maxRecDepth 100000 in
set_option maxHeartbeats 2000000 in
theorem names_any (B p bD bN n nD nN : Nat) (pv : Value) (d : ADisk) (w : World) (h : DiskIn w B p bD bN pv d n nD nN) (hdn : d.down = false) :
    Calls Tryz.prog 360 #[.pointer (some ⟨p, 0, none⟩)] w fun e w' => ∃ v ns, e = .returned (.tuple #[v, .nilIface]) ∧ NamesOk d.now ns ∧ w'.ownsRow w.heap.size 9 1 v ns.length (ns.map Value.string) ∧ Below w.heap.size w w' := by
  have c1 := blk_cell h.blk 1
  have c5 := blk_cell h.blk 5
  simp at c1 c5
  rw [hdn] at c5
  have hN := h.hN
  have hn := h.hn
  obtain ⟨D, hown, h5⟩ := h.now
  have hsz := hown.size_le
  have H5 : Hid (∀ k : ByteArray, (d.now k = none → Maps.has D (keyL k) = false) ∧ (∀ t, d.now k = some t → Maps.has D (keyL k) = true)) := fun k => ⟨(h5 k).1, fun t ht => ((h5 k).2 t ht).1⟩
  have HO : Hid (w.ownsMap Tryz.prog 9 ptrElem bN nN D) := hown
  clear h h5
  obtain ⟨i0, hi, hz0, hz1, hz2⟩ := info_parts Tryz.infoStr
  go_enter Tryz.func360, Tryz.ntmps360
  go_wp2_with (first
    | (at_range; refine wpList_range_own _ rfl _ 94 rfl 9 154 Tryz.lawS Tryz.underlying94 ptrElem bN nN D rfl hown ?_; intro w0 hrg0 hg0 hs0)
    | go_in)
  go_frame
  have hbl : Below w.heap.size w w0 := ⟨hg0.os, hg0.tape, hg0.output, hg0.size, fun k hk => hg0.block k hk (by simp)⟩
  have HS : Hid (w0.ranges Tryz.prog 9 ptrElem bN w.heap.size nN D (Maps.has D) (Maps.size D) ∧ Below w.heap.size w w0) := ⟨hrg0, hbl⟩
  clear hrg0 hg0 hbl hown
  go_loopw [4] (fun v wr => ∃ (left : Lit → Bool) (cnt : Nat) (ss : List (List UInt8)), Hid (wr.ranges Tryz.prog 9 ptrElem bN w.heap.size nN D left cnt ∧ ss.length + cnt ≤ Maps.size D ∧ Collected D left ss ∧ wr.ownsRow (w.heap.size + 1) 9 1 v ss.length (ss.map encStr) ∧ Below w.heap.size w wr ∧ w.heap.size + 1 ≤ wr.heap.size))
    (fun _ wr => wr.rangeLeft bN w.heap.size)
  case atStart => exact ⟨_, _, [], HS.out.1, by simp, Collected.start D, World.ownsRow_nil _ _ _ _, HS.out.2, by omega⟩
  case round =>
    obtain ⟨left, cnt, ss, HX⟩ := hrel
    have hrg := HX.out.1
    go_wp2_with (first
      | (at_next; refine wpList_next_ranges _ rfl _ rfl 9 Tryz.lawS ptrElem encStr Value.pointer (fun key kl hk => by obtain ⟨x, hx, _⟩ := Maps.keyOf_str Tryz.underlying9 hk; exact ⟨x, hx⟩) (fun v y hv => ptrElem_shape hv) bN w.heap.size nN _ _ _ rfl hrg ?_ ?_)
      | go_in)
    · intro hc0 hl0
      have hC := HX.out.2.2.1
      have hNames : ∀ ts : List (List UInt8), ts.Perm ss → NamesOk d.now (ts.map fun x => ⟨x.toArray⟩) := fun ts hp => by
        refine ⟨?_, fun k => ?_⟩
        · refine List.Pairwise.map _ (fun a b hab e => hab ?_) (hp.nodup_iff.2 hC.1)
          have := congrArg (fun x : ByteArray => x.data.toList) e
          simpa using this
        · have e1 : k ∈ (ts.map fun x => (⟨x.toArray⟩ : ByteArray)) ↔ k.data.toList ∈ ss := by
            rw [← hp.mem_iff, List.mem_map]
            constructor
            · rintro ⟨x, hx, rfl⟩; simpa using hx
            · intro hk; exact ⟨_, hk, by simp⟩
          rw [e1, hC.2]
          have := H5.out k
          cases hk : d.now k with
          | none => rw [show Lit.string k.data.toList = keyL k from rfl, this.1 hk]; simp
          | some t => rw [show Lit.string k.data.toList = keyL k from rfl, this.2 t hk]; simp [hl0]
      have HNM : Hid (∀ ts : List (List UInt8), ts.Perm ss → NamesOk d.now (ts.map fun x => ⟨x.toArray⟩)) := hNames
      clear hNames hC
      rcases HX.out.2.2.2.1.2 with ⟨rfl, hz⟩ | ⟨gb, cap, cur, rfl, hbase, hgb, r1, r2, r3, r4⟩
      · have hss : ss = [] := List.eq_nil_of_length_eq_zero hz
        subst hss
        go_wp2_with fail
        refine (Tryz.sort_Strings_none none 0 wr).mono ?_
        rintro e w1 ⟨rfl, rfl⟩
        go_wp2
        go_ret2
        exact ⟨.slice none 0 0, [], rfl, HNM.out [] (List.Perm.refl _), World.ownsRow_nil _ _ _ _, HX.out.2.2.2.2.1⟩
      · have hH : Holds encStr wr gb 0 ss.toArray := holds_of_block hgb (by simpa using r4)
        have hgl : gb < wr.heap.size := (Array.getElem?_eq_some_iff.1 hgb).1
        have hlen : ss.length < 4611686018427387904 := by have := HX.out.2.1; omega
        have HG : Hid (wr.heap[gb]? = some (.cells cur 9 (0, 0)) ∧ ss.length ≤ cap ∧ cap ≤ maxLen ∧ cur.size = cap * 1) := ⟨hgb, r1, r2, r3⟩
        clear hgb r1 r2 r3 r4
        go_wp2_with fail
        refine (Tryz.sort_Strings gb 0 cap ss wr hH hgl hlen).mono ?_
        rintro e w1 ⟨rfl, nn, os, rfl⟩
        have hrow := ownsRow_sorted (n := nn) (os := os) (ts := ss.mergeSort fun x y => decide (x ≤ y)) (by simp) hbase HG.out.1 HG.out.2.1 HG.out.2.2.1 HG.out.2.2.2
        have hgr := grownBy_sorted (w := wr) (g := gb) (n := nn) (os := os) (ss.mergeSort fun x y => decide (x ≤ y)).toArray
        obtain ⟨W2, hW2⟩ : ∃ W2, W2 = grow (putRow encStr (Sort.ahead wr nn) gb 0 (ss.mergeSort fun x y => decide (x ≤ y)).toArray) os := ⟨_, rfl⟩
        rw [← hW2] at hrow hgr ⊢
        clear hW2
        go_wp2
        go_ret2
        refine ⟨.slice (some ⟨gb, 0, none⟩) ss.length cap, (ss.mergeSort fun x y => decide (x ≤ y)).map fun x => ⟨x.toArray⟩, rfl, HNM.out _ (List.mergeSort_perm _ _), ?_, HX.out.2.2.2.2.1.grown hgr (by omega) (fun j hj => by cases hj; omega)⟩
        rw [List.map_map]
        have e : (ss.mergeSort fun x y => decide (x ≤ y)).length = ss.length := by simp
        rw [List.length_map, e]
        exact own_base0 hrow (by omega)
    · intro x c kl yd yp w2 cnt2 hkey hlk hv hat hrg2 hlt hg2 hs2 hen
      obtain ⟨x', ex, rfl, hxl⟩ := Maps.keyOf_str Tryz.underlying9 hkey
      obtain rfl : x = x' := encStr_inj ex
      have hrow2 : w2.ownsRow (w.heap.size + 1) 9 1 _ ss.length (ss.map encStr) := HX.out.2.2.2.1.kept hg2 (by
        rcases HX.out.2.2.2.1.2 with ⟨rfl, _⟩ | ⟨gb, cap, cur, rfl, hbase, _⟩
        · exact .inl rfl
        · exact .inr (by simp [Value.ownBlock]; omega))
      have HN2 : Hid (w2.ranges Tryz.prog 9 ptrElem bN w.heap.size nN D (fun z => left z && !z.sameKey (.string x)) cnt2 ∧ ss.length + 1 + cnt2 ≤ Maps.size D ∧ Collected D (fun z => left z && !z.sameKey (.string x)) (ss ++ [x]) ∧ Below w.heap.size w w2 ∧ w.heap.size + 1 ≤ w2.heap.size ∧ w2.rangeLeft bN w.heap.size < wr.rangeLeft bN w.heap.size) := by
        refine ⟨hrg2, by have := HX.out.2.1; omega, HX.out.2.2.1.step hlk hat, HX.out.2.2.2.2.1.grown hg2 (by have := HX.out.2.2.2.2.2; omega) (fun j hj => by cases hj; omega), by rw [hs2]; exact HX.out.2.2.2.2.2, by rw [hrg2.left_eq, hrg.left_eq]; exact hlt⟩
      have hsm : ss.length + 1 ≤ 67108864 := by have := HN2.out.2.1; omega
      clear hs2 hrg hrg2 hlt
      go_wp2_with (first
        | (at_builtin; refine wpList_append_own _ rfl _ _ 188 rfl (w.heap.size + 1) 9 i0 _ 1 16 Tryz.underlying188 hi hz0 hz1 hz2 rfl (by decide) _ ss.length _ rfl (hrow2.alloc _) ⟨w2.heap.size, 0, none⟩ 1 1 [encStr x] rfl rfl (cells_new _ #[encStr x] _) (by intro u hu; simp at hu; subst hu; rfl) (by unfold maxLen; omega) (by omega) (by simp; have := HN2.out.2.2.2.2.1; omega) ?_; intro v' w3 hown' hgrow _)
        | fail)
      have hfr3 : ∀ k, k < w2.heap.size → k < w.heap.size + 1 → w3.heap[k]? = w2.heap[k]? := fun k hk hk2 => (hgrow.block k (by simp; omega) (fun e => by have := (hrow2.lt k e.symm).1; omega)).trans (Below.heap_alloc _ _ k hk)
      have hbN : bN < w.heap.size := HO.out.lt
      have hw2s := HN2.out.2.2.2.2.1
      have hrg3 : w3.ranges Tryz.prog 9 ptrElem bN w.heap.size nN D (fun z => left z && !z.sameKey (.string x)) cnt2 := by
        have := HN2.out.1
        unfold World.ranges at this ⊢
        rw [hfr3 bN (by omega) (by omega), hfr3 w.heap.size (by omega) (by omega)]
        exact this
      go_roundw
      case rel =>
        refine ⟨_, cnt2, ss ++ [x], hrg3, by simp; have := HN2.out.2.1; omega, HN2.out.2.2.1, by simpa using hown', ?_, by have := hgrow.size; simp at this; omega⟩
        exact ⟨hgrow.os.trans HN2.out.2.2.2.1.os, hgrow.tape.trans HN2.out.2.2.2.1.tape, hgrow.output.trans HN2.out.2.2.2.1.output, by have := hgrow.size; simp at this; omega, fun k hk => (hfr3 k (by omega) (by omega)).trans (HN2.out.2.2.2.1.block k hk)⟩
      case measure => rw [hrg3.left_eq, ← HN2.out.1.left_eq]; exact HN2.out.2.2.2.2.2
end Go.Proofs.YtkhjhojmhllkaaaGreatDoor
/- SORTING NUMBERS (uint64), few of them: cmp.Less, slices.insertionSortOrdered. -/
namespace Go.Proofs.YtkhjhojmhllkaaaGreatDoor
open Go.RowKit Go.Maps
open Sc

/-- two neighbours are exchanged -/
def swapN (l : List Nat) (j : Nat) : List Nat := (l.set j (l.getD (j - 1) 0)).set (j - 1) (l.getD j 0)
theorem swapN_len (l : List Nat) (j : Nat) : (swapN l j).length = l.length := by simp [swapN]
theorem getD_at {l : List Nat} {j : Nat} (h : j < l.length) : l.getD j 0 = l[j] := by simp [List.getD, List.getElem?_eq_getElem h]
theorem swapN_perm {l : List Nat} {j : Nat} (h : j < l.length) : (swapN l j).Perm l := by
  unfold swapN
  rw [getD_at h, getD_at (by omega : j - 1 < l.length)]
  exact List.set_set_perm h (by omega)
theorem swapN_at {l : List Nat} {j : Nat} (h : j < l.length) (hj : 0 < j) (a : Nat) : (swapN l j).getD a 0 = if a = j then l.getD (j - 1) 0 else if a = j - 1 then l.getD j 0 else l.getD a 0 := by
  unfold swapN
  simp only [List.getD_eq_getElem?_getD, List.getElem?_set, List.length_set]
  by_cases h1 : a = j
  · subst h1
    rw [if_neg (by omega), if_pos rfl, if_pos h, if_pos rfl]
    rfl
  · by_cases h2 : a = j - 1
    · subst h2
      rw [if_pos rfl, if_pos (by omega), if_neg h1, if_pos rfl]
      rfl
    · rw [if_neg (fun e => h2 e.symm), if_neg (fun e => h1 e.symm), if_neg h1, if_neg h2]

/-- the first k in order -/
def AscTo (l : List Nat) (k : Nat) : Prop := ∀ a b, a < b → b < k → l.getD a 0 ≤ l.getD b 0
/-- the first k in order, but that the one at j is looked for its place -/
def AscBut (l : List Nat) (k j : Nat) : Prop := ∀ a b, a < b → b < k → b ≠ j → l.getD a 0 ≤ l.getD b 0
theorem AscTo.but {l : List Nat} {k : Nat} (h : AscTo l k) : AscBut l (k + 1) k := fun a b h1 h2 h3 => h a b h1 (by omega)
theorem AscBut.first {l : List Nat} {k : Nat} (h : AscBut l k 0) : AscTo l k := fun a b h1 h2 => h a b h1 h2 (by omega)
theorem AscBut.stop {l : List Nat} {k j : Nat} (h : AscBut l k j) (hj : 0 < j) (hle : l.getD (j - 1) 0 ≤ l.getD j 0) : AscTo l k := by
  intro a b h1 h2
  by_cases e : b = j
  · subst e
    by_cases e2 : a = b - 1
    · rw [e2]; exact hle
    · exact Nat.le_trans (h a (b - 1) (by omega) (by omega) (by omega)) hle
  · exact h a b h1 h2 e
theorem AscBut.swap {l : List Nat} {k j : Nat} (h : AscBut l k j) (hj : 0 < j) (hjl : j < l.length) (hjk : j < k) (hlt : l.getD j 0 < l.getD (j - 1) 0) : AscBut (swapN l j) k (j - 1) := by
  intro a b h1 h2 h3
  rw [swapN_at hjl hj, swapN_at hjl hj]
  by_cases e : b = j
  · rw [if_pos e, if_neg (by omega : ¬ a = j)]
    by_cases e2 : a = j - 1
    · rw [if_pos e2]; omega
    · rw [if_neg e2]; exact h a (j - 1) (by omega) (by omega) (by omega)
  · rw [if_neg e, if_neg h3]
    by_cases e2 : a = j
    · rw [if_pos e2]; exact h (j - 1) b (by omega) h2 e
    · rw [if_neg e2]
      by_cases e3 : a = j - 1
      · rw [if_pos e3]; exact h j b (by omega) h2 e
      · rw [if_neg e3]; exact h a b h1 h2 e
theorem AscTo.pairwise {l : List Nat} (h : AscTo l l.length) : l.Pairwise (· ≤ ·) := by
  rw [List.pairwise_iff_getElem]
  intro i j hi hj hij
  have := h i j hij hj
  rwa [getD_at hi, getD_at hj] at this

set_option maxRecDepth 100000 in
set_option maxHeartbeats 2000000 in
theorem nanU (x : Int) (w : World) : Calls Tryz.prog 252 #[.int .u64 x] w fun e w' => e = .returned (.bool false) ∧ w' = w := by
  go_enter Tryz.func252, Tryz.ntmps252
  go_wp2
  go_ret
  exact ⟨by simp, rfl⟩
set_option maxRecDepth 100000 in
set_option maxHeartbeats 2000000 in
theorem lessU (x y : Int) (w : World) : Calls Tryz.prog 219 #[.int .u64 x, .int .u64 y] w fun e w' => e = .returned (.bool (decide (x < y))) ∧ w' = w := by
  go_enter Tryz.func219, Tryz.ntmps219
  go_wp2_with fail
  refine (nanU x w).mono ?_
  rintro e w1 ⟨rfl, rfl⟩
  go_wp2
  go_ret
  exact ⟨rfl, rfl⟩
theorem u64s_swap (l : List Nat) (j : Nat) : ((u64s l).set j (.int .u64 (l.getD (j - 1) 0 : Nat))).set (j - 1) (.int .u64 (l.getD j 0 : Nat)) = u64s (swapN l j) := by
  unfold u64s swapN
  rw [List.map_set, List.map_set]
/-- how the row lies while it is sorted -/
structure SrtIn (w wr : World) (B g n cap : Nat) (l l' : List Nat) : Prop where
  perm : l'.Perm l
  row : wr.ownsRow B 33 1 (.slice (some ⟨g, 0, none⟩) n cap) n (u64s l')
  fr : Fr [g] w wr
theorem SrtIn.swap {w wr : World} {B g n cap j : Nat} {l l' : List Nat} (h : SrtIn w wr B g n cap l l') (hj : j < l'.length) :
    SrtIn w ((wr.setCell ⟨g, j, none⟩ (.int .u64 (l'.getD (j - 1) 0 : Nat))).setCell ⟨g, j - 1, none⟩ (.int .u64 (l'.getD j 0 : Nat))) B g n cap l (swapN l' j) where
  perm := (swapN_perm hj).trans h.perm
  row := by
    have h1 := ((h.row.stored j (.int .u64 (l'.getD (j - 1) 0 : Nat))).1.stored (j - 1) (.int .u64 (l'.getD j 0 : Nat))).1
    rwa [u64s_swap] at h1
  fr := (h.fr.setCell (.inl (by simp)) _).setCell (.inl (by simp)) _
theorem SrtIn.drewN {w wr : World} {B g n cap : Nat} {l l' : List Nat} (h : SrtIn w wr B g n cap l l') (k : Nat) : SrtIn w (wr.drewN k) B g n cap l l' where
  perm := h.perm
  row := ownsRow_fr h.row (frDrewN (Fr.refl [] wr) k) (fun _ _ => by simp)
  fr := frDrewN h.fr k
theorem SrtIn.at {w wr : World} {B g n cap : Nat} {l l' : List Nat} (h : SrtIn w wr B g n cap l l') {k : Nat} (hk : k < l'.length) : wr.cell? ⟨g, k, none⟩ = some (.int .u64 ((l'.getD k 0 : Nat) : Int)) :=
  segs_cell h.row k _ (by rw [getD_at hk]; exact List.getElem?_eq_getElem hk)
theorem SrtIn.free {w wr : World} {B g n cap : Nat} {l l' : List Nat} (h : SrtIn w wr B g n cap l l') (k : Nat) : wr.frozen? ⟨g, k, none⟩ = false := by
  rcases h.row.2 with ⟨h', _⟩ | ⟨g', cap', cur, h', hb, hg, _⟩
  · simp at h'
  · simp only [Value.slice.injEq, Option.some.injEq, Addr.mk.injEq, and_true, true_and] at h'
    obtain ⟨rfl, rfl⟩ := h'
    exact blk_free hg _
set_option maxRecDepth 100000 in
set_option maxHeartbeats 4000000 in
theorem insertU (B g n cap : Nat) (l : List Nat) (w : World) (h : w.ownsRow B 33 1 (.slice (some ⟨g, 0, none⟩) n cap) n (u64s l)) (hl : l.length = n) (hn : n ≤ 67108864) :
    Calls Tryz.prog 256 #[.slice (some ⟨g, 0, none⟩) n cap, .int .i64 0, .int .i64 (n : Int)] w fun e w' => e = .returned (.tuple #[]) ∧ ∃ l', SrtIn w w' B g n cap l l' ∧ AscTo l' n := by
  have HL : Hid (l.length = n) := hl
  have H0 : Hid (SrtIn w w B g n cap l l) := ⟨List.Perm.refl _, h, Fr.refl _ _⟩
  clear h hl
  go_enter Tryz.func256, Tryz.ntmps256
  go_wp2
  go_loopw [6] (fun i wr => ∃ k : Nat, i = .int .i64 k ∧ 1 ≤ k ∧ (k ≤ n ∨ k = 1) ∧ ∃ l', SrtIn w wr B g n cap l l' ∧ AscTo l' k) (fun i _ => n - (intOf i).toNat)
  case atStart => exact ⟨1, rfl, by omega, .inr rfl, l, H0.out, fun a b h1 h2 => by omega⟩
  case round =>
    obtain ⟨k, rfl, hk1, hkn, l1, hs1, ha1⟩ := hrel
    by_cases hlt : k < n
    · have j1 : (k : Int) < (n : Int) := by omega
      have j2 : IntKind.i64.wrap ((k : Int) + 1) = (k : Int) + 1 := by rw [IntKind.wrap_i64]; omega
      have HS1 : Hid (SrtIn w wr B g n cap l l1) := hs1
      have HA1 : Hid (AscTo l1 k) := ha1
      clear hs1 ha1
      go_wp2
      go_loopw [7] (fun i wq => ∃ j : Nat, i = .int .i64 j ∧ j ≤ k ∧ ∃ l', SrtIn w wq B g n cap l l' ∧ AscBut l' (k + 1) j) (fun i _ => (intOf i).toNat)
      case atStart => exact ⟨k, rfl, by omega, l1, HS1.out, HA1.out.but⟩
      case round =>
        obtain ⟨j, rfl, hjk, l2, hs2, ha2⟩ := hrel
        have HS2 : Hid (SrtIn w wr B g n cap l l2) := hs2
        have HA2 : Hid (AscBut l2 (k + 1) j) := ha2
        have HLn : Hid (l2.length = n) := by rw [← HL.out]; exact hs2.perm.length_eq
        clear hs2 ha2
        have j7 : IntKind.i64.wrap ((k : Int) + 1) = (k : Int) + 1 := j2
        cases j with
        | zero =>
          go_wp2
          go_quiet (first | (go_at_call 219; refine Calls.quiet_of_same (lessU _ _ _)))
          go_wp2
          refine ⟨⟨k + 1, by simp, by omega, .inl (by omega), l2, HS2.out.drewN _, HA2.out.first⟩, by simp [intOf]; omega⟩
        | succ i =>
          have c1 := HS2.out.at (k := i + 1) (by rw [HLn.out]; omega)
          have c2 := HS2.out.at (k := i) (by rw [HLn.out]; omega)
          have f1 : wr.frozen? ⟨g, i + 1, none⟩ = false := HS2.out.free _
          have f2 : wr.frozen? ⟨g, i, none⟩ = false := HS2.out.free _
          have j3 : (0 : Int) < ((i + 1 : Nat) : Int) := by omega
          have j4 : IntKind.i64.wrap (((i + 1 : Nat) : Int) - 1) = (i : Int) := by rw [IntKind.wrap_i64]; omega
          have j5 : ((i + 1 : Nat) : Int) < (n : Int) := by omega
          have j6 : (i : Int) < (n : Int) := by omega
          obtain ⟨x, hx⟩ : ∃ x, x = l2.getD (i + 1) 0 := ⟨_, rfl⟩
          obtain ⟨y, hy⟩ : ∃ y, y = l2.getD i 0 := ⟨_, rfl⟩
          rw [← hx] at c1
          rw [← hy] at c2
          have HX : Hid (x = l2.getD (i + 1) 0) := hx
          have HY : Hid (y = l2.getD i 0) := hy
          clear hx hy
          by_cases hxy : (x : Int) < (y : Int)
          · have hd : decide ((x : Int) < (y : Int)) = true := by simp [hxy]
            go_wp2
            go_quiet (first | (go_at_call 219; refine Calls.quiet_of_same (lessU _ _ _)))
            go_wp2
            go_region
            all_goals go_wp2
            have hlen : i + 1 < l2.length := by rw [HLn.out]; omega
            have hsw := (HS2.out.drewN (nq + 1)).swap hlen
            rw [show i + 1 - 1 = i from rfl, ← HX.out, ← HY.out] at hsw
            refine ⟨⟨i, rfl, by omega, swapN l2 (i + 1), hsw, ?_⟩, by simp [intOf]⟩
            exact HA2.out.swap (by omega) hlen (by omega) (by rw [show i + 1 - 1 = i from rfl, ← HX.out, ← HY.out]; omega)
          · have hd : decide ((x : Int) < (y : Int)) = false := by simp [hxy]
            go_wp2
            go_quiet (first | (go_at_call 219; refine Calls.quiet_of_same (lessU _ _ _)))
            go_wp2
            refine ⟨⟨k + 1, by simp, by omega, .inl (by omega), l2, HS2.out.drewN _, HA2.out.stop (by omega) ?_⟩, by simp [intOf]; omega⟩
            rw [show i + 1 - 1 = i from rfl, ← HX.out, ← HY.out]; omega
    · have j1 : ¬ (k : Int) < (n : Int) := by omega
      have HS1 : Hid (SrtIn w wr B g n cap l l1) := hs1
      have HA1 : Hid (AscTo l1 k) := ha1
      clear hs1 ha1
      go_wp2
      go_end0
      refine ⟨rfl, l1, HS1.out, fun a b h1 h2 => HA1.out a b h1 (by omega)⟩
set_option maxRecDepth 100000 in
set_option maxHeartbeats 2000000 in
theorem pdqU_few (B g n cap : Nat) (k : Int) (l : List Nat) (w : World) (h : w.ownsRow B 33 1 (.slice (some ⟨g, 0, none⟩) n cap) n (u64s l)) (hl : l.length = n) (hn : n ≤ 12) :
    Calls Tryz.prog 233 #[.slice (some ⟨g, 0, none⟩) n cap, .int .i64 0, .int .i64 (n : Int), .int .i64 k] w fun e w' => e = .returned (.tuple #[]) ∧ ∃ l', SrtIn w w' B g n cap l l' ∧ AscTo l' n := by
  have hi := insertU B g n cap l w h hl (by omega)
  have j1 : (n : Int) ≤ 12 := by omega
  have j2 : IntKind.i64.wrap ((n : Int) - 0) = (n : Int) := by rw [IntKind.wrap_i64]; omega
  have j3 : IntKind.i64.wrap (n : Int) = (n : Int) := by rw [IntKind.wrap_i64]; omega
  clear h hl
  go_enter Tryz.func233, Tryz.ntmps233
  go_wp2
  refine wp_loop_rounds 1 ?_
  rw [rounds_succ]
  go_wp2_with fail
  refine hi.mono ?_
  clear hi
  rintro e w1 ⟨rfl, hp⟩
  go_wp2
  refine bodyPost_ret (results_none rfl _ _ _) rfl ?_
  exact ⟨rfl, hp⟩
set_option maxRecDepth 100000 in
set_option maxHeartbeats 2000000 in
/-- slices.Sort of at most twelve numbers -/
theorem sortU_few (B g n cap : Nat) (l : List Nat) (w : World) (h : w.ownsRow B 33 1 (.slice (some ⟨g, 0, none⟩) n cap) n (u64s l)) (hl : l.length = n) (hn : n ≤ 12) :
    Calls Tryz.prog 190 #[.slice (some ⟨g, 0, none⟩) n cap] w fun e w' => e = .returned (.tuple #[]) ∧ ∃ l', SrtIn w w' B g n cap l l' ∧ AscTo l' n := by
  have hp := fun k => pdqU_few B g n cap k l w h hl hn
  clear h hl
  go_enter Tryz.func190, Tryz.ntmps190
  go_wp2_with fail
  refine (Tryz.bits_Len n w (by omega) (by omega)).mono ?_
  rintro e w1 ⟨rfl, rfl⟩
  go_wp2_with fail
  refine (hp _).mono ?_
  rintro e w1 ⟨rfl, hq⟩
  go_wp2
  go_end0
  exact ⟨rfl, hq⟩
end Go.Proofs.YtkhjhojmhllkaaaGreatDoor
/- RECOVERY: segmentsAmong, BinarySearch. -/
namespace Go.Proofs.YtkhjhojmhllkaaaGreatDoor
open Go.RowKit Go.Maps
open Sc

theorem trim_seg (u : Nat) : (⟨(Lib.trimPrefix (segName u).data.toList [115, 101, 103, 109, 101, 110, 116, 45]).toArray⟩ : ByteArray) = ⟨(Lib.decDigits u).toArray⟩ := by
  have e : (segName u).data.toList = [115, 101, 103, 109, 101, 110, 116, 45] ++ Lib.decDigits u := by unfold segName; rw [ByteArray.data_append]; simp
  rw [e]
  unfold Lib.trimPrefix Lib.hasPrefix
  rw [if_pos (by simp [List.isPrefixOf])]
  simp
theorem Tryz.lenStr (p : Option Addr) (n c : Nat) (w : World) : (Builtin.len_ #[188] 3 #[.slice p n c]).run Tryz.prog w = .ok (.int .i64 n) w := by simp [Builtin.len_, run_underlying Tryz.underlying188, goInt]
theorem below_bytes (w : World) (s : ByteArray) : Below w.heap.size w (Lib.bytesWorld w 5 s) :=
  ⟨rfl, rfl, rfl, by rw [Lib.bytesWorld_size]; omega, fun k hk => Lib.bytesWorld_at_old w _ s k hk⟩
theorem own_grow0 {w w' : World} {B n : Nat} {e : TypeId} {k : Nat} {v : Value} {xs : List Value} (h : w.ownsRow B e k v n xs) (hb : Below w.heap.size w w') : w'.ownsRow B e k v n xs := by
  refine h.kept (row := none) ⟨hb.os, hb.tape, hb.output, hb.size, fun j hj _ => hb.block j hj⟩ ?_
  cases hv : v.ownBlock with
  | none => exact .inl rfl
  | some q => exact .inr (by simp)
/-- the cells of names -/
def SegNames (w : World) (g : Nat) (us : List Nat) : Prop := ∀ (k u : Nat), us[k]? = some u → w.cell? ⟨g, k, none⟩ = some (.string (segName u))
set_option maxRecDepth 100000 in
set_option maxHeartbeats 4000000 in
theorem among_seg (g cap : Nat) (us : List Nat) (w : World) (hg : g < w.heap.size) (hc : SegNames w g us) (hu : ∀ u ∈ us, u < 18446744073709551616 ∧ Lib.parseUintB 64 (Lib.decDigits u) = .ok u) (h0 : us ≠ []) (hl : us.length ≤ 12) (hpow : Pows w) (h1 : 1 < w.heap.size) :
    Calls Tryz.prog 174 #[.slice (some ⟨g, 0, none⟩) us.length cap] w fun e w' => ∃ g' cap' l', e = .returned (.slice (some ⟨g', 0, none⟩) us.length cap') ∧ l'.Perm us ∧ AscTo l' us.length ∧ w'.ownsRow w.heap.size 33 1 (.slice (some ⟨g', 0, none⟩) us.length cap') us.length (u64s l') ∧ Below w.heap.size w w' := by
  obtain ⟨m, hm⟩ : ∃ m, m = us.length := ⟨_, rfl⟩
  rw [← hm] at hl ⊢
  have HM : Hid (m = us.length) := hm
  have HU : Hid ((∀ u ∈ us, u < 18446744073709551616 ∧ Lib.parseUintB 64 (Lib.decDigits u) = .ok u) ∧ SegNames w g us ∧ Pows w) := ⟨hu, hc, hpow⟩
  have hmp : 0 < m := by rw [hm]; exact List.length_pos_iff.2 h0
  obtain ⟨i0, hi, hz0, hz1, hz2⟩ := info_parts Tryz.infoU64
  have hlen := Tryz.lenStr
  clear hm hc hu hpow h0
  go_enter Tryz.func174, Tryz.ntmps174
  go_wp2
  go_loopw [12, 3] (fun i v wr => ∃ k : Nat, k ≤ m ∧ i = .int .i64 k ∧ Hid (wr.ownsRow w.heap.size 33 1 v k (u64s (us.take k)) ∧ Below w.heap.size w wr)) (fun i _ _ => m - (intOf i).toNat)
  case atStart => exact ⟨0, Nat.zero_le _, rfl, World.ownsRow_nil _ _ _ _, Below.refl _ _⟩
  case round =>
    obtain ⟨k, hk, rfl, hR⟩ := hrel
    by_cases hlt : k < m
    · obtain ⟨u, hu⟩ : ∃ u, us[k]? = some u := ⟨_, List.getElem?_eq_getElem (by have := HM.out; omega)⟩
      have hum := HU.out.1 u (List.mem_of_getElem? hu)
      have ck : wr.cell? ⟨g, k, none⟩ = some (.string (segName u)) := (hR.out.2.cell (p := ⟨g, k, none⟩) hg).trans (HU.out.2.1 k u hu)
      have HT : Hid (us.take (k + 1) = us.take k ++ [u]) := by show _ = _; rw [List.take_add_one, hu]; rfl
      have hu64 := hum.1
      have hpa := hum.2
      have hsz := segName_size u hu64
      have hds : (Lib.decDigits u).length ≤ 28 := by
        have : (segName u).size = 8 + (Lib.decDigits u).length := by unfold segName; simp [ByteArray.size]; omega
        omega
      clear hu hum
      go_wp2_with fail
      refine (Tryz.strings_CutPrefix _ _ wr).mono ?_
      rintro e w1 ⟨rfl, rfl⟩
      simp only [trim_seg]
      go_wp2_with fail
      refine (Tryz.strconv_ParseUint_10_at64_ok ⟨(Lib.decDigits u).toArray⟩ (by simp [ByteArray.size]; omega) u (by simpa using hpa) w1).mono ?_
      rintro e w2 ⟨rfl, hw2⟩
      have hb2 : Below w1.heap.size w1 w2 := by
        rcases hw2 with rfl | rfl
        · exact Below.refl _ _
        · exact below_bytes _ _
      clear hw2
      have hs1 := hR.out.2.size
      have hp2 : Pows w2 := HU.out.2.2.of_block ((hb2.block 1 (by omega)).trans (hR.out.2.block 1 h1))
      go_wp2_with fail
      refine (segmentName_any u w2 hu64 hp2).mono ?_
      rintro e w3 ⟨rfl, hb3⟩
      have hb13 : Below w1.heap.size w1 w3 := hb2.trans (hb3.mono hb2.size)
      have hrow3 := own_grow0 hR.out.1 hb13
      have HB3 : Hid (Below w.heap.size w w3) := hR.out.2.trans (hb13.mono hs1)
      have hs3 := HB3.out.size
      clear hb2 hb3 hb13 hp2 hpa
      go_wp2_with (first
        | (at_builtin; refine wpList_append_own _ rfl _ _ 44 rfl w.heap.size 33 i0 _ 1 8 Tryz.underlying44 hi hz0 hz1 hz2 rfl (by decide) _ k _ rfl (hrow3.alloc _) ⟨w3.heap.size, 0, none⟩ 1 1 [.int .u64 (u : Int)] rfl rfl (cells_new _ #[.int .u64 (u : Int)] _) (by intro x hx; simp at hx; subst hx; rfl) (by unfold maxLen; omega) (by omega) (by simp; omega) ?_; intro v' w4 hown' hgrow _)
        | fail)
      go_roundw
      case rel =>
        refine ⟨k + 1, by omega, by simp, by rw [HT.out, u64s_snoc]; exact hown', ?_⟩
        exact (HB3.out.alloc hs3 _).grown hgrow (by simp; omega) (fun j hj => (hrow3.lt j hj).1)
      case measure => simp [intOf]; omega
    · obtain rfl : k = m := by omega
      obtain ⟨gg, cc, rfl⟩ := own_pos hR.out.1 hmp
      have e : us.take k = us := List.take_of_length_le (by rw [HM.out]; exact Nat.le_refl _)
      rw [e] at hR
      go_wp2_with fail
      refine (sortU_few w.heap.size gg k cc us wr hR.out.1 HM.out.symm hl).mono ?_
      rintro e w2 ⟨rfl, l', hs2, ha2⟩
      have HY : Hid (SrtIn wr w2 w.heap.size gg k cc us l' ∧ AscTo l' k) := ⟨hs2, ha2⟩
      clear hs2 ha2
      go_wp2
      go_ret
      have hgl := (hR.out.1.lt gg rfl).1
      refine ⟨gg, cc, l', rfl, HY.out.1.perm, HY.out.2, HY.out.1.row, hR.out.2.trans ?_⟩
      have hf := HY.out.1.fr
      exact ⟨hf.os, hf.tape, hf.output, hf.size, fun k hk => hf.block k (by have := hR.out.2.size; omega) (by simp; omega)⟩
set_option maxRecDepth 100000 in
set_option maxHeartbeats 2000000 in
theorem search_one (g cap : Nat) (w : World) (h : w.cell? ⟨g, 0, none⟩ = some (.int .u64 1)) :
    Calls Tryz.prog 175 #[.slice (some ⟨g, 0, none⟩) 1 cap, .int .u64 1] w fun e w' => e = .returned (.tuple #[.int .i64 0, .bool true]) ∧ w' = w := by
  go_enter Tryz.func175, Tryz.ntmps175
  go_wp2
  refine wp_loop_rounds 2 ?_
  rw [rounds_succ]
  go_wp2_with fail
  refine (lessU 1 1 w).mono ?_
  rintro e w1 ⟨rfl, rfl⟩
  go_wp2
  rw [rounds_succ]
  go_wp2
  go_ret2
  exact ⟨rfl, rfl⟩
end Go.Proofs.YtkhjhojmhllkaaaGreatDoor
/- TORN RECORDS, the plain mathematics: what a bit that is turned does to a sum; what is read of records of which the end is cut off, or that are turned in a byte. -/
namespace Go.Proofs.YtkhjhojmhllkaaaGreatDoor
open Go.RowKit
open Sc

theorem xorR (c a b : Nat) (h : c ^^^ a = c ^^^ b) : a = b := by
  have h1 : c ^^^ (c ^^^ a) = c ^^^ (c ^^^ b) := by rw [h]
  rw [← Nat.xor_assoc, ← Nat.xor_assoc, Nat.xor_self, Nat.zero_xor, Nat.zero_xor] at h1; exact h1
theorem xorL (c a b : Nat) (h : a ^^^ c = b ^^^ c) : a = b := xorR c a b (by rw [Nat.xor_comm c a, h, Nat.xor_comm])
/-! One bit of the reckoning can be taken back. -/
theorem half_inj (a b : Nat) (ha : a < 4294967296) (hb : b < 4294967296) (h : half a = half b) : a = b := by
  have top : ∀ x : Nat, x < 2147483648 → (x ^^^ 3988292384).testBit 31 = true := fun x hx => by
    rw [Nat.testBit_xor, Nat.testBit_lt_two_pow (show x < 2 ^ 31 from hx)]; decide
  have low : ∀ x : Nat, x < 2147483648 → x.testBit 31 = false := fun x hx => Nat.testBit_lt_two_pow (show x < 2 ^ 31 from hx)
  unfold half at h
  rcases Nat.mod_two_eq_zero_or_one a with h1 | h1 <;> rcases Nat.mod_two_eq_zero_or_one b with h2 | h2
  · rw [if_neg (by omega), if_neg (by omega)] at h; omega
  · rw [if_neg (by omega), if_pos (by omega)] at h
    have := low (a / 2) (by omega)
    rw [h, top (b / 2) (by omega)] at this; cases this
  · rw [if_pos (by omega), if_neg (by omega)] at h
    have := low (b / 2) (by omega)
    rw [← h, top (a / 2) (by omega)] at this; cases this
  · rw [if_pos (by omega), if_pos (by omega)] at h
    have := xorL _ _ _ h
    omega
theorem halves_inj (k a b : Nat) (ha : a < 4294967296) (hb : b < 4294967296) (h : halves k a = halves k b) : a = b := by
  induction k with
  | zero => exact h
  | succ k ih => exact ih (half_inj _ _ (halves_lt k a ha) (halves_lt k b hb) h)
theorem crcS_inj (l : List Nat) (hl : Byt l) : ∀ (c d : Nat), c < 4294967296 → d < 4294967296 → crcS c l = crcS d l → c = d := by
  induction l with
  | nil => intro c d _ _ h; exact h
  | cons y l ih =>
    intro c d hc hd h
    have hy : y < 256 := hl y (by simp)
    have h1 := ih (fun x hx => hl x (by simp [hx])) _ _ (halves_lt 8 _ (xor_lt32 c y hc (by omega))) (halves_lt 8 _ (xor_lt32 d y hd (by omega))) h
    have h2 := halves_inj 8 _ _ (xor_lt32 c y hc (by omega)) (xor_lt32 d y hd (by omega)) h1
    exact xorL _ _ _ h2
theorem crcS_app (c : Nat) (a b : List Nat) : crcS c (a ++ b) = crcS (crcS c a) b := by simp [crcS]
/-- a byte that is turned turns the sum -/
theorem crc_turn (a z : List Nat) (y y' : Nat) (ha : Byt a) (hz : Byt z) (hy : y < 256) (hy' : y' < 256) (h : crc (a ++ y :: z) = crc (a ++ y' :: z)) : y = y' := by
  unfold crc at h
  have h1 := xorR _ _ _ h
  rw [crcS_app, crcS_app] at h1
  have hc : crcS 4294967295 a < 4294967296 := crcS_lt _ _ (by decide) ha
  have h2 : halves 8 (crcS 4294967295 a ^^^ y) = halves 8 (crcS 4294967295 a ^^^ y') := crcS_inj z hz _ _ (halves_lt 8 _ (xor_lt32 _ _ hc (by omega))) (halves_lt 8 _ (xor_lt32 _ _ hc (by omega))) h1
  exact xorR _ _ _ (halves_inj 8 _ _ (xor_lt32 _ _ hc (by omega)) (xor_lt32 _ _ hc (by omega)) h2)
theorem val_app (a b : List Nat) : val (a ++ b) = val a * 256 ^ b.length + val b := by
  have aux : ∀ (l : List Nat) (n : Nat), l.foldl (fun n b => n * 256 + b) n = n * 256 ^ l.length + l.foldl (fun n b => n * 256 + b) 0 := by
    intro l
    induction l with
    | nil => intro n; simp
    | cons y l ih =>
      intro n
      rw [List.foldl_cons, ih, List.foldl_cons, ih (0 * 256 + y), List.length_cons, Nat.pow_succ, Nat.add_mul, Nat.zero_mul, Nat.zero_add, Nat.mul_comm (256 ^ l.length) 256, ← Nat.mul_assoc]
      omega
  unfold val
  rw [List.foldl_append, aux]
/-- a byte that is turned turns the number -/
theorem val_turn (a z : List Nat) (y y' : Nat) (h : val (a ++ y :: z) = val (a ++ y' :: z)) : y = y' := by
  have e : ∀ y, val (a ++ y :: z) = (val a * 256 + y) * 256 ^ z.length + val z := fun y => by
    rw [show a ++ y :: z = (a ++ [y]) ++ z by simp, val_app, val_snoc]
  rw [e, e] at h
  have h1 : (val a * 256 + y) * 256 ^ z.length = (val a * 256 + y') * 256 ^ z.length := by omega
  have h2 := Nat.eq_of_mul_eq_mul_right (Nat.pow_pos (by omega)) h1
  omega
theorem set_parts (l : List Nat) (i y : Nat) (h : i < l.length) : l.set i y = l.take i ++ y :: l.drop (i + 1) := by
  rw [List.set_eq_take_append_cons_drop, if_pos h]
theorem self_parts (l : List Nat) (i : Nat) (h : i < l.length) : l = l.take i ++ at_ l i :: l.drop (i + 1) := by
  conv => lhs; rw [← List.take_append_drop i l]
  rw [List.drop_eq_getElem_cons h]
  simp [at_, h]
theorem crc_set (l : List Nat) (i y : Nat) (hi : i < l.length) (hl : Byt l) (hy : y < 256) (h : crc (l.set i y) = crc l) : y = at_ l i := by
  rw [set_parts l i y hi] at h
  conv at h => rhs; rw [self_parts l i hi]
  exact crc_turn _ _ _ _ (hl.take i) (hl.drop (i + 1)) hy (at_lt hl i) h
theorem val_set (l : List Nat) (i y : Nat) (hi : i < l.length) (h : val (l.set i y) = val l) : y = at_ l i := by
  rw [set_parts l i y hi] at h
  conv at h => rhs; rw [self_parts l i hi]
  exact val_turn _ _ _ _ h

theorem pow_lt8 (r : Nat) (h : r < 8) : 2 ^ r < 256 := by
  have : 2 ^ r ≤ 2 ^ 7 := Nat.pow_le_pow_right (by omega) (by omega)
  omega
theorem xor_bit (Y r : Nat) (hY : Y < 256) (hr : r < 8) : bits .xor .u8 (Y : Int) (IntKind.u8.wrap (2 ^ min (IntKind.u64.wrap (r : Int)).toNat 8)) = ((Y ^^^ 2 ^ r : Nat) : Int) := by
  have e1 : IntKind.u64.wrap (r : Int) = (r : Int) := by rw [IntKind.wrap_u64]; omega
  have e2 : min ((r : Int)).toNat 8 = r := by omega
  have e3 : IntKind.u8.wrap (2 ^ r) = ((2 ^ r : Nat) : Int) := by
    have h8 := pow_lt8 r hr
    have e : (2 : Int) ^ r = ((2 ^ r : Nat) : Int) := by simp
    rw [e, IntKind.wrap_u8]
    generalize (2 : Nat) ^ r = p at h8
    omega
  rw [e1, e2, e3]
  exact u8_xor_nat Y (2 ^ r) hY (pow_lt8 r hr)
/-! A record that is whole, behind it whatever. -/
theorem take_app (a b : List Nat) (n : Nat) (h : a.length = n) : (a ++ b).take n = a := by subst h; simp
theorem drop_app (a b : List Nat) (n : Nat) (h : a.length = n) : (a ++ b).drop n = b := by subst h; simp
theorem head_2 (x k : Nat) (l r : List Nat) : (recHead x k l ++ r).take 2 = be 2 l.length := by
  unfold recHead; rw [List.append_assoc, List.append_assoc, List.append_assoc]; exact take_app _ _ _ (be_len _ _)
theorem fLen_head (x k : Nat) (l r : List Nat) (hl : l.length ≤ 255) : fLen (recHead x k l ++ r) = l.length := by
  unfold fLen; rw [head_2]; exact val_be 2 _ (by omega)
theorem frame_yes (x k : Nat) (l r : List Nat) (hl : l.length ≤ 255) (hk : k < 256) (hb : Byt l) : frameOk (recBytes x k l ++ r) = true := by
  have e : recBytes x k l ++ r = recHead x k l ++ (be 4 (crc (recHead x k l)) ++ r) := by unfold recBytes; rw [List.append_assoc]
  have hlen : (recHead x k l ++ (be 4 (crc (recHead x k l)) ++ r)).length = 15 + l.length + r.length := by simp [recHead_len, be_len]; omega
  rw [e]
  have hf := fLen_head x k l (be 4 (crc (recHead x k l)) ++ r) hl
  refine frameOk_yes (ffOk_yes (by omega) (by omega) (by omega)) ?_
  unfold fSum
  rw [hf, take_app _ _ _ (recHead_len x k l), drop_app _ _ _ (recHead_len x k l), take_app _ _ _ (be_len _ _), val_be 4 _ (crc_lt _ (recHead_byt x k l hk hb))]
  simp
theorem frame_rec (x k : Nat) (l r : List Nat) (hl : l.length ≤ 255) (hx : x < 18446744073709551616) : recOf (recBytes x k l ++ r) = ⟨x, k, l⟩ := by
  have e : recBytes x k l ++ r = recHead x k l ++ (be 4 (crc (recHead x k l)) ++ r) := by unfold recBytes; rw [List.append_assoc]
  have hf := fLen_head x k l (be 4 (crc (recHead x k l)) ++ r) hl
  rw [e]
  unfold recOf
  rw [hf]
  unfold recHead
  generalize be 4 _ ++ r = q
  have h2 : (be 2 l.length ++ be 8 x ++ [k] ++ l ++ q).drop 2 = be 8 x ++ ([k] ++ (l ++ q)) := by
    simp only [List.append_assoc]; exact drop_app _ _ _ (be_len _ _)
  have h11 : (be 2 l.length ++ be 8 x ++ [k] ++ l ++ q).drop 11 = l ++ q := by
    rw [List.append_assoc (be 2 l.length ++ be 8 x ++ [k])]; exact drop_app _ _ _ (by simp [be_len])
  have h10 : (be 2 l.length ++ be 8 x ++ [k] ++ l ++ q).drop 10 = k :: (l ++ q) := by
    rw [show be 2 l.length ++ be 8 x ++ [k] ++ l ++ q = (be 2 l.length ++ be 8 x) ++ (k :: (l ++ q)) by simp]; exact drop_app _ _ _ (by simp [be_len])
  have a10 : at_ (be 2 l.length ++ be 8 x ++ [k] ++ l ++ q) 10 = k := by
    have := at_drop (be 2 l.length ++ be 8 x ++ [k] ++ l ++ q) 10 0
    rw [h10] at this
    rw [show (10 : Nat) = 10 + 0 from rfl, ← this]; simp [at_]
  rw [h2, h11, a10, take_app _ _ _ (be_len _ _), take_app _ _ _ rfl, val_be 8 _ hx]
theorem frame_len (x k : Nat) (l r : List Nat) (hl : l.length ≤ 255) : fLen (recBytes x k l ++ r) = l.length := by
  have e : recBytes x k l ++ r = recHead x k l ++ (be 4 (crc (recHead x k l)) ++ r) := by unfold recBytes; rw [List.append_assoc]
  rw [e]; exact fLen_head x k l _ hl
/-- its end is cut off -/
theorem frame_cut (x k : Nat) (l : List Nat) (hl : l.length ≤ 255) (p : Nat) (hp : p < 15 + l.length) : frameOk ((recBytes x k l).take p) = false := by
  have hlen := recBytes_len x k l
  by_cases h15 : p < 15
  · exact frameOk_ffno (ffOk_short (by rw [List.length_take]; omega))
  · refine frameOk_ffno (ffOk_cut ?_)
    have hf : fLen ((recBytes x k l).take p) = l.length := by
      unfold fLen
      rw [List.take_take, show min 2 p = 2 by omega]
      have := frame_len x k l [] hl
      rw [List.append_nil] at this; exact this
    rw [hf, List.length_take]; omega
/-- a byte behind its length is turned -/
theorem frame_turn (x k : Nat) (l r : List Nat) (hl : l.length ≤ 255) (hk : k < 256) (hb : Byt l) (p y : Nat) (hp : 2 ≤ p) (hp2 : p < 15 + l.length) (hy : y < 256) (hne : y ≠ at_ (recBytes x k l) p) :
    frameOk ((recBytes x k l).set p y ++ r) = false := by
  have hH := recHead_len x k l
  have hB := recHead_byt x k l hk hb
  have hf : fLen ((recBytes x k l).set p y ++ r) = l.length := by
    have h0 := frame_len x k l r hl
    unfold fLen at h0 ⊢
    rw [List.take_append_of_le_length (by rw [List.length_set, recBytes_len]; omega)]
    rw [List.take_append_of_le_length (by rw [recBytes_len]; omega)] at h0
    rw [List.take_set_of_le hp]; exact h0
  refine frameOk_sumno ?_
  unfold fSum
  rw [hf]
  have hcv := val_be 4 _ (crc_lt _ hB)
  by_cases hin : p < 11 + l.length
  · have e : (recBytes x k l).set p y ++ r = (recHead x k l).set p y ++ (be 4 (crc (recHead x k l)) ++ r) := by
      unfold recBytes; rw [List.set_append_left _ _ (by omega), List.append_assoc]
    rw [e, take_app _ _ _ (by rw [List.length_set]; exact hH), drop_app _ _ _ (by rw [List.length_set]; exact hH), take_app _ _ _ (be_len _ _), hcv]
    have ha : at_ (recBytes x k l) p = at_ (recHead x k l) p := by unfold recBytes at_; simp [List.getElem?_append_left (show p < (recHead x k l).length by omega)]
    have : crc ((recHead x k l).set p y) ≠ crc (recHead x k l) := fun h => hne (by rw [ha]; exact crc_set _ _ _ (by omega) hB hy h)
    simp [this]
  · have e : (recBytes x k l).set p y ++ r = recHead x k l ++ ((be 4 (crc (recHead x k l))).set (p - (11 + l.length)) y ++ r) := by
      unfold recBytes; rw [List.set_append_right _ _ (by omega), hH, List.append_assoc]
    rw [e, take_app _ _ _ hH, drop_app _ _ _ hH, take_app _ _ _ (by rw [List.length_set]; exact be_len _ _)]
    have ha : at_ (recBytes x k l) p = at_ (be 4 (crc (recHead x k l))) (p - (11 + l.length)) := by unfold recBytes at_; simp [List.getElem?_append_right (show (recHead x k l).length ≤ p by omega), hH]
    have : crc (recHead x k l) ≠ val ((be 4 (crc (recHead x k l))).set (p - (11 + l.length)) y) := fun h => hne (by
      rw [ha]; exact val_set _ _ _ (by rw [be_len]; omega) (by rw [← h, hcv]))
    simp [this]
end Go.Proofs.YtkhjhojmhllkaaaGreatDoor
/- TORN RECORDS, the plain mathematics: records one behind the other, the end cut off, or turned in a byte. -/
namespace Go.Proofs.YtkhjhojmhllkaaaGreatDoor
open Go.RowKit
open Sc

/-- the j-th record's bytes; the first j of them, one behind the other; what they are -/
def rb (S : Nat → ByteArray) (j : Nat) : List Nat := recBytes j j (bytesOf (S j))
def cat (S : Nat → ByteArray) : Nat → List Nat
  | 0 => []
  | j + 1 => cat S j ++ rb S j
def recs (S : Nat → ByteArray) (j : Nat) : List Rec := (List.range j).map fun q => ⟨q, q, bytesOf (S q)⟩
theorem rb_len (S : Nat → ByteArray) (j : Nat) : (rb S j).length = 15 + (S j).size := by unfold rb; rw [recBytes_len, bytesOf_len]
theorem cat_succ (S : Nat → ByteArray) (j : Nat) : (cat S (j + 1)).length = (cat S j).length + (15 + (S j).size) := by
  show (cat S j ++ rb S j).length = _; rw [List.length_append, rb_len]
theorem cat_byt (S : Nat → ByteArray) : ∀ j, j ≤ 256 → Byt (cat S j)
  | 0, _ => fun x hx => by cases hx
  | j + 1, h => fun x hx => by
    rcases List.mem_append.1 (show x ∈ cat S j ++ rb S j from hx) with h1 | h1
    · exact cat_byt S j (by omega) x h1
    · exact recBytes_byt j j (bytesOf (S j)) (by omega) (bytesOf_byt _) x h1
theorem cat_le (S : Nat → ByteArray) : ∀ j, (∀ q, q < j → (S q).size ≤ 255) → (cat S j).length ≤ 270 * j
  | 0, _ => Nat.le_refl _
  | j + 1, h => by
    rw [cat_succ]
    have h1 := cat_le S j (fun q hq => h q (by omega))
    have h2 := h j (by omega)
    omega
theorem cat_mono (S : Nat → ByteArray) (i j : Nat) (h : i ≤ j) : ∃ r, cat S j = cat S i ++ r := by
  induction j with
  | zero => obtain rfl : i = 0 := by omega
            exact ⟨[], rfl⟩
  | succ j ih =>
    by_cases he : i = j + 1
    · subst he; exact ⟨[], by simp⟩
    · obtain ⟨r, hr⟩ := ih (by omega)
      exact ⟨r ++ rb S j, by show cat S j ++ rb S j = _; rw [hr, List.append_assoc]⟩
theorem recs_succ (S : Nat → ByteArray) (j : Nat) : recs S (j + 1) = recs S j ++ [⟨j, j, bytesOf (S j)⟩] := by unfold recs; rw [List.range_succ, List.map_append]; rfl
theorem recs_at (S : Nat → ByteArray) (j i : Nat) (h : i < j) : (recs S j)[i]? = some ⟨i, i, bytesOf (S i)⟩ := by unfold recs; simp [h]

/-- whatever lies behind them, they are read -/
theorem cat_good (S : Nat → ByteArray) : ∀ j, j ≤ 256 → (∀ q, q < j → (S q).size ≤ 255) → ∀ r, Good (cat S j ++ r) j ∧ (st j (cat S j ++ r)).1 = recs S j ∧ (st j (cat S j ++ r)).2 = (cat S j).length
  | 0, _, _ => fun r => ⟨good_zero _, rfl, rfl⟩
  | j + 1, hj, hS => fun r => by
    have e : cat S (j + 1) ++ r = cat S j ++ (rb S j ++ r) := by show (cat S j ++ rb S j) ++ r = _; rw [List.append_assoc]
    rw [e]
    obtain ⟨h1, h2, h3⟩ := cat_good S j (by omega) (fun q hq => hS q (by omega)) (rb S j ++ r)
    have hd : (cat S j ++ (rb S j ++ r)).drop (st j (cat S j ++ (rb S j ++ r))).2 = rb S j ++ r := by rw [h3]; exact drop_app _ _ _ rfl
    have hl : (bytesOf (S j)).length ≤ 255 := by rw [bytesOf_len]; exact hS j (by omega)
    refine ⟨good_succ h1 (by rw [hd]; exact frame_yes j j _ r hl (by omega) (bytesOf_byt _)), ?_, ?_⟩
    · show (st j (cat S j ++ (rb S j ++ r))).1 ++ [recOf ((cat S j ++ (rb S j ++ r)).drop (st j (cat S j ++ (rb S j ++ r))).2)] = _
      rw [hd, h2, recs_succ]
      unfold rb
      rw [frame_rec j j _ r hl (by omega)]
    · show (st j (cat S j ++ (rb S j ++ r))).2 + 15 + fLen ((cat S j ++ (rb S j ++ r)).drop (st j (cat S j ++ (rb S j ++ r))).2) = _
      rw [hd, h3, cat_succ]
      unfold rb
      rw [frame_len j j _ r hl, bytesOf_len]
      omega
theorem st_grow (m : List Nat) (i : Nat) : ∀ k, i ≤ k → (st i m).2 ≤ (st k m).2 ∧ ∀ q, q < i → (st k m).1[q]? = (st i m).1[q]? := by
  intro k hk
  induction k with
  | zero => obtain rfl : i = 0 := by omega
            exact ⟨Nat.le_refl _, fun _ _ => rfl⟩
  | succ k ih =>
    by_cases he : i = k + 1
    · subst he; exact ⟨Nat.le_refl _, fun _ _ => rfl⟩
    · obtain ⟨h1, h2⟩ := ih (by omega)
      refine ⟨?_, fun q hq => ?_⟩
      · show _ ≤ (st k m).2 + 15 + fLen (m.drop (st k m).2); omega
      · show ((st k m).1 ++ [recOf (m.drop (st k m).2)])[q]? = _
        rw [List.getElem?_append_left (by rw [st_len]; omega)]; exact h2 q hq

/-- THE LAW's HEART: of the bytes m, made of the records' by a cut at a (t false), or by turning the byte there (t true), those K are read: all that lie ahead of a, and no other, or the length was turned. -/
theorem torn_read (S : Nat → ByteArray) (n W a K : Nat) (t : Bool) (m : List Nat) (hn : n ≤ 20) (hS : ∀ q, q < n → (S q).size ≤ 255) (hW : W < n) (h1 : (cat S W).length ≤ a) (h2 : a < (cat S (W + 1)).length)
    (hm : (t = false ∧ m = (cat S n).take a) ∨ (t = true ∧ ∃ y, y < 256 ∧ y ≠ at_ (cat S n) a ∧ m = (cat S n).set a y)) (hE : Ended m K) :
    W ≤ K ∧ (cat S W).length ≤ (st K m).2 ∧ (st K m).2 ≤ m.length ∧ (∀ i, i < W → (st K m).1[i]? = some ⟨i, i, bytesOf (S i)⟩) ∧ (K = W ∨ (t = true ∧ a < (cat S W).length + 2)) := by
  obtain ⟨r, hr⟩ := cat_mono S (W + 1) n (by omega)
  have hcn : cat S n = cat S W ++ (rb S W ++ r) := by rw [hr]; show (cat S W ++ rb S W) ++ r = _; rw [List.append_assoc]
  rw [cat_succ] at h2
  have hl : (bytesOf (S W)).length ≤ 255 := by rw [bytesOf_len]; exact hS W hW
  have hrl := rb_len S W
  have key : ∃ rest, m = cat S W ++ rest ∧ (frameOk rest = false ∨ (t = true ∧ a < (cat S W).length + 2)) := by
    rcases hm with ⟨_, rfl⟩ | ⟨ht, y, hy, hne, rfl⟩
    · refine ⟨(rb S W ++ r).take (a - (cat S W).length), ?_, .inl ?_⟩
      · rw [hcn, List.take_append, List.take_of_length_le h1]
      · rw [List.take_append_of_le_length (by omega)]
        exact frame_cut W W _ hl _ (by rw [bytesOf_len]; omega)
    · refine ⟨(rb S W).set (a - (cat S W).length) y ++ r, ?_, ?_⟩
      · rw [hcn, List.set_append_right _ _ h1, List.set_append_left _ _ (by omega)]
      · by_cases hh : a < (cat S W).length + 2
        · exact .inr ⟨ht, hh⟩
        · refine .inl (frame_turn W W _ r hl (by omega) (bytesOf_byt _) _ y (by omega) (by rw [bytesOf_len]; omega) hy ?_)
          intro e
          refine hne (e.trans ?_)
          rw [hcn]
          show at_ (rb S W) _ = _
          unfold at_
          rw [List.getD_eq_getElem?_getD, List.getD_eq_getElem?_getD, List.getElem?_append_right h1, List.getElem?_append_left (by omega)]
  obtain ⟨rest, rfl, hrest⟩ := key
  obtain ⟨hg, hs1, hs2⟩ := cat_good S W (by omega) (fun q hq => hS q (by omega)) rest
  have hd : (cat S W ++ rest).drop (st W (cat S W ++ rest)).2 = rest := by rw [hs2]; exact drop_app _ _ _ rfl
  have hKW : W ≤ K := by
    rcases Nat.lt_or_ge K W with h | h
    · have := hg K h; rw [hE.2] at this; cases this
    · exact h
  obtain ⟨g1, g2⟩ := st_grow (cat S W ++ rest) W K hKW
  refine ⟨hKW, by rw [← hs2]; exact g1, st_le hE.1, fun i hi => ?_, ?_⟩
  · rw [g2 i hi, hs1]; exact recs_at S W i hi
  · rcases hrest with h | h
    · refine .inl ?_
      rcases Nat.lt_or_ge W K with hlt | hge
      · have := hE.1 W hlt; rw [hd, h] at this; cases this
      · omega
    · exact .inr h
theorem str_bytesOf (s : ByteArray) : str (bytesOf s) = s := by
  have aux : ∀ (l : List UInt8) (r : ByteArray), ((l.map UInt8.toNat).map fun x : Nat => (x : Int)).foldl (fun r n => r.push (UInt8.ofNat n.toNat)) r = ⟨r.data ++ l.toArray⟩ := by
    intro l
    induction l with
    | nil => intro r; simp
    | cons x l ih =>
      intro r
      rw [List.map_cons, List.map_cons, List.foldl_cons, ih]
      simp [ByteArray.push]
  unfold str bytesOf
  rw [aux]
  simp
end Go.Proofs.YtkhjhojmhllkaaaGreatDoor
/- RECOVERY: readSegment, of the segment of record 1. -/
namespace Go.Proofs.YtkhjhojmhllkaaaGreatDoor
open Go.RowKit Go.Maps
open Sc

theorem str_data (l : List Nat) : (str l).data = (l.map fun x => UInt8.ofNat x).toArray := by
  have aux : ∀ (l : List Nat) (r : ByteArray), ((l.map fun x : Nat => (x : Int)).foldl (fun r n => r.push (UInt8.ofNat n.toNat)) r).data = r.data ++ (l.map fun x => UInt8.ofNat x).toArray := by
    intro l
    induction l with
    | nil => intro r; simp
    | cons x l ih =>
      intro r
      rw [List.map_cons, List.foldl_cons, ih]
      simp [ByteArray.push]
  unfold str
  rw [aux]
  simp
theorem bytesOf_str {l : List Nat} (h : Byt l) : bytesOf (str l) = l := by
  unfold bytesOf
  rw [str_data]
  simp only [List.map_map]
  have : ∀ (m : List Nat), Byt m → m.map (UInt8.toNat ∘ fun x => UInt8.ofNat x) = m := by
    intro m
    induction m with
    | nil => intro _; rfl
    | cons x m ih =>
      intro hb
      have hx : x < 256 := hb x (by simp)
      rw [List.map_cons, ih (fun y hy => hb y (by simp [hy]))]
      congr 1
      simp
      omega
  exact this l h
/-- records as they lie on the disk -/
def encR (rs : List Rec) : List Nat := rs.flatMap fun r => recBytes r.lsn r.kind r.pay
/-- records that a log can have -/
def FineR (rs : List Rec) : Prop := ∀ (k : Nat) (r : Rec), rs[k]? = some r → r.lsn = 1 + k ∧ r.kind < 256 ∧ r.pay.length ≤ 255 ∧ Byt r.pay ∧ r.lsn < 18446744073709551616
theorem encR_snoc (rs : List Rec) (r : Rec) : encR (rs ++ [r]) = encR rs ++ recBytes r.lsn r.kind r.pay := by simp [encR]
theorem FineR.init {rs : List Rec} {r : Rec} (h : FineR (rs ++ [r])) : FineR rs := fun k x hk => h k x (by rw [List.getElem?_append_left (List.getElem?_eq_some_iff.1 hk).1]; exact hk)
theorem FineR.last {rs : List Rec} {r : Rec} (h : FineR (rs ++ [r])) : r.kind < 256 ∧ r.pay.length ≤ 255 ∧ Byt r.pay ∧ r.lsn < 18446744073709551616 := (h rs.length r (by simp)).2
theorem encR_byt {rs : List Rec} (h : FineR rs) : Byt (encR rs) := by
  intro b hb
  obtain ⟨r, hr, hbr⟩ := List.mem_flatMap.1 hb
  obtain ⟨k, hk⟩ := List.mem_iff_getElem?.1 hr
  obtain ⟨_, h1, _, h3, _⟩ := h k r hk
  exact recBytes_byt r.lsn r.kind r.pay h1 h3 b hbr
def bytesR0 : List Rec → Nat
  | [] => 0
  | r :: l => 15 + r.pay.length + bytesR0 l
theorem encR_len (rs : List Rec) : (encR rs).length = bytesR0 rs := by
  induction rs with
  | nil => rfl
  | cons r rs ih => simp only [encR, List.flatMap_cons, List.length_append, recBytes_len] at *; rw [ih]; simp [bytesR0]
theorem List.reverseRecOn0 {α : Type} {motive : List α → Prop} (l : List α) (h0 : motive []) (h1 : ∀ l x, motive l → motive (l ++ [x])) : motive l := by
  have : ∀ n (l : List α), l.length = n → motive l := by
    intro n
    induction n with
    | zero => intro l hl; rw [List.length_eq_zero_iff.1 hl]; exact h0
    | succ n ih =>
      intro l hl
      rcases List.eq_nil_or_concat l with e | ⟨a, x, e⟩
      · subst e; simp at hl
      · subst e; simp at hl
        rw [List.concat_eq_append]
        exact h1 a x (ih a hl)
  exact this _ l rfl
theorem encR_good : ∀ (rs : List Rec), FineR rs → ∀ t, Good (encR rs ++ t) rs.length ∧ (st rs.length (encR rs ++ t)).1 = rs ∧ (st rs.length (encR rs ++ t)).2 = (encR rs).length := by
  intro rs
  refine List.reverseRecOn0 (motive := fun rs => FineR rs → ∀ t, Good (encR rs ++ t) rs.length ∧ (st rs.length (encR rs ++ t)).1 = rs ∧ (st rs.length (encR rs ++ t)).2 = (encR rs).length) rs ?_ ?_
  · intro _ t; exact ⟨good_zero _, rfl, rfl⟩
  · intro rs r ih hf t
    obtain ⟨k1, k2, k3, k4⟩ := hf.last
    have e : encR (rs ++ [r]) ++ t = encR rs ++ (recBytes r.lsn r.kind r.pay ++ t) := by rw [encR_snoc, List.append_assoc]
    rw [e]
    obtain ⟨h1, h2, h3⟩ := ih hf.init (recBytes r.lsn r.kind r.pay ++ t)
    have hd : (encR rs ++ (recBytes r.lsn r.kind r.pay ++ t)).drop (st rs.length (encR rs ++ (recBytes r.lsn r.kind r.pay ++ t))).2 = recBytes r.lsn r.kind r.pay ++ t := by rw [h3]; exact drop_app _ _ _ rfl
    have el : (rs ++ [r]).length = rs.length + 1 := by simp
    rw [el]
    refine ⟨good_succ h1 (by rw [hd]; exact frame_yes _ _ _ t k2 k1 k3), ?_, ?_⟩
    · show (st rs.length (encR rs ++ (recBytes r.lsn r.kind r.pay ++ t))).1 ++ [recOf ((encR rs ++ (recBytes r.lsn r.kind r.pay ++ t)).drop (st rs.length (encR rs ++ (recBytes r.lsn r.kind r.pay ++ t))).2)] = _
      rw [hd, h2, frame_rec _ _ _ t k2 k4]
    · show (st rs.length (encR rs ++ (recBytes r.lsn r.kind r.pay ++ t))).2 + 15 + fLen ((encR rs ++ (recBytes r.lsn r.kind r.pay ++ t)).drop (st rs.length (encR rs ++ (recBytes r.lsn r.kind r.pay ++ t))).2) = _
      rw [hd, h3, encR_snoc, List.length_append, frame_len _ _ _ t k2, recBytes_len]
      omega
theorem encR_ended {rs : List Rec} (h : FineR rs) : Ended (encR rs) rs.length ∧ (st rs.length (encR rs)).1 = rs ∧ (st rs.length (encR rs)).2 = (encR rs).length := by
  obtain ⟨h1, h2, h3⟩ := encR_good rs h []
  rw [List.append_nil] at h1 h2 h3
  exact ⟨⟨h1, by rw [h3, List.drop_length]; exact frameOk_ffno (ffOk_short (by simp))⟩, h2, h3⟩
theorem Tryz.nilRead (p : Nat) (w : World) : (nilAhead 568 70 (.pointer (some ⟨p, 0, none⟩)) "Read").run Tryz.prog w = .ok (some false) w := by kernel_rfl
set_option maxRecDepth 100000 in
set_option maxHeartbeats 4000000 in
theorem readSeg (B p bD bN n nD nN : Nat) (pv : Value) (d : ADisk) (rs : List Rec) (w : World) (h : DiskIn w B p bD bN pv d n nD nN) (hdn : d.down = false) (hrs : FineR rs) (hne : rs ≠ []) (hnow : d.now (segName 1) = some (str (encR rs))) (hpow : Pows w) (hlen : rs.length ≤ 67108864) (hby : (encR rs).length ≤ 4096) :
    Calls Tryz.prog 221 #[dskV p, .int .u64 1] w fun e w' => ∃ v, e = .returned (.tuple #[v, .int .i64 ((encR rs).length : Int), .nilIface]) ∧ w'.ownsRow w.heap.size 103 3 v rs.length (recsV rs) ∧ Below w.heap.size w w' := by
  have hm := Tryz.mRead
  have hna := Tryz.nilRead p
  have HI : Hid (DiskIn w B p bD bN pv d n nD nN ∧ d.read (segName 1) = (some (str (encR rs)), 0)) := ⟨h, by unfold ADisk.read; rw [if_neg (by rw [hdn]; decide), hnow]⟩
  have HF : Hid (FineR rs) := hrs
  clear h hnow hrs
  go_enter Tryz.func221, Tryz.ntmps221
  go_wp2
  go_region_held3 (fun _ => True)
    (trivial)
    (first
      | (go_at_call 145; refine (segmentName_any 1 w.drew (by omega) (show Pows w.drew from hpow)).mono ?_; rintro e w1 ⟨rfl, hb0⟩; have HB1 : Hid (Below w.heap.size w w1) := ⟨hb0.os, hb0.tape, hb0.output, hb0.size, hb0.block⟩; clear hb0)
      | (go_at_call 361; refine (read_any B p bD bN n nD nN pv d (segName 1) w1 (HI.out.1.new (Fr.of_below HB1.out [])) (by have := segName_size 1 (by omega); unfold maxLen; omega)).mono ?_; rintro e w2 ⟨v2, rfl, hg2, hb2⟩))
  all_goals clear hm hna
  all_goals rw [HI.out.2] at hg2 ⊢
  all_goals rw [errN_ok]
  all_goals
    have hsrc : Src w2 v2 (encR rs) := by
      have : Src w2 v2 (bytesOf (str (encR rs))) := hg2
      rwa [bytesOf_str (encR_byt HF.out)] at this
    have hpos : 0 < (encR rs).length := by
      cases hr : rs with
      | nil => exact absurd hr hne
      | cons r l => simp [encR, recBytes_len]; omega
    have hrp : 0 < rs.length := List.length_pos_iff.2 hne
    have hsc := scanW v2 (encR rs) w2 hsrc (encR_byt HF.out) (by omega)
    have HB2 : Hid (Below w.heap.size w w2) := HB1.out.trans (hb2.mono HB1.out.size)
    obtain ⟨b2, o2, c2, rfl⟩ : ∃ b2 o2 c2, v2 = .slice (some ⟨b2, o2, none⟩) (encR rs).length c2 := by
      rcases hsrc with ⟨_, e⟩ | ⟨b, off, cap, e, _⟩
      · rw [e] at hpos; simp at hpos
      · exact ⟨b, off, cap, e⟩
    clear hg2 hb2 hsrc
    go_wp2_with fail
    refine hsc.mono ?_
    clear hsc
    rintro e w3 ⟨k, v3, rfl, hE, hrow, _, hb3⟩
    obtain ⟨z1, z2, z3⟩ := encR_ended HF.out
    obtain rfl := ended_unique hE z1
    rw [z2] at hrow
    rw [z3]
    obtain ⟨g3, c3, rfl⟩ := own_pos hrow hrp
    have HB3 : Hid (Below w.heap.size w w3) := HB2.out.trans (hb3.mono HB2.out.size)
    have HR3 : Hid (w3.ownsRow w2.heap.size 103 3 (.slice (some ⟨g3, 0, none⟩) rs.length c3) rs.length (recsV rs)) := hrow
    have hg3 := (hrow.lt g3 rfl).2
    have HC : Hid (∀ (k : Nat) (r : Rec), rs[k]? = some r → w3.cell? ⟨g3, k * 3, none⟩ = some (.int .u64 (r.lsn : Int)) ∧ w3.cell? ⟨g3, k * 3 + 1, none⟩ = some (.int .u8 (r.kind : Int)) ∧ w3.cell? ⟨g3, k * 3 + 2, none⟩ = some (.string (str r.pay))) := fun k r hk => by
      obtain ⟨hk1, rfl⟩ := List.getElem?_eq_some_iff.1 hk
      obtain ⟨a1, a2, a3⟩ := recsV_at rs k hk1
      have q1 := hrow.cells (g := g3) rfl _ _ a1
      have q2 := hrow.cells (g := g3) rfl _ _ a2
      have q3 := hrow.cells (g := g3) rfl _ _ a3
      simp only [Addr.add_lit, Nat.zero_add] at q1 q2 q3
      exact ⟨q1, q2, q3⟩
    clear hE z1 z2 z3 hrow hb3
    obtain ⟨m, hm0⟩ : ∃ m, m = rs.length := ⟨_, rfl⟩
    have HM : Hid (m = rs.length) := hm0
    rw [← hm0] at HR3 hlen hrp ⊢
    clear hm0
    obtain ⟨eb, heb⟩ : ∃ eb, eb = (encR rs).length := ⟨_, rfl⟩
    rw [← heb] at hby hpos ⊢
    have HE : Hid (eb = (encR rs).length) := heb
    clear heb
    go_wp2
    go_loopw [33] (fun i wr => ∃ k : Nat, k ≤ m ∧ i = .int .i64 k ∧ Hid (Below w3.heap.size w3 wr)) (fun i _ => m - (intOf i).toNat)
    case atStart => exact ⟨0, Nat.zero_le _, rfl, Below.refl _ _⟩
    case round =>
      obtain ⟨k, hk, rfl, hR⟩ := hrel
      by_cases hlt : k < m
      · obtain ⟨r, hr⟩ : ∃ r, rs[k]? = some r := ⟨_, List.getElem?_eq_getElem (by have := HM.out; omega)⟩
        obtain ⟨q1, q2, q3⟩ := HC.out k r hr
        obtain ⟨y1, _⟩ := HF.out k r hr
        rw [y1] at q1
        have r1 := (hR.out.cell (p := ⟨g3, k * 3, none⟩) hg3).trans q1
        have r2 := (hR.out.cell (p := ⟨g3, k * 3 + 1, none⟩) hg3).trans q2
        have r3 := (hR.out.cell (p := ⟨g3, k * 3 + 2, none⟩) hg3).trans q3
        have j1 : IntKind.u64.wrap (k : Int) = (k : Int) := by rw [IntKind.wrap_u64]; omega
        have j2 : IntKind.u64.wrap (1 + (k : Int)) = 1 + (k : Int) := by rw [IntKind.wrap_u64]; omega
        have hrs := hR.out.size
        clear q1 q2 q3 y1 hr
        go_wp2
        go_roundw
        case rel => exact ⟨k + 1, by omega, by simp, hR.out.alloc hrs _⟩
        case measure => simp [intOf]; omega
      · obtain rfl : k = m := by omega
        go_wp2
        go_ret3
        refine ⟨.slice (some ⟨g3, 0, none⟩) k c3, by rw [← HE.out]; rfl, ?_, HB3.out.trans (hR.out.mono HB3.out.size)⟩
        rw [← HM.out]
        exact own_grow0 (own_base0 HR3.out HB2.out.size) hR.out
end Go.Proofs.YtkhjhojmhllkaaaGreatDoor
