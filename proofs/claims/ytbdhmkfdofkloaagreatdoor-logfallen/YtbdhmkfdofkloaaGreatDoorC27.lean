import Derived.Test.YtbdhmkfdofkloaaGreatDoorC26
import Derived.Test.YtbdhmkfdofkloaaGreatDoorC07
import Derived.RangeFuncNested
import Derived.Test.YtbdhmkfdofkloaaGreatDoorC21
import Derived.Sort.OwnSorted
import Derived.Test.YtbdhmkfdofkloaaGreatDoorC22
import Derived.Test.YtbdhmkfdofkloaaGreatDoorC17
import Derived.Test.YtbdhmkfdofkloaaGreatDoorC05
import Derived.Test.YtbdhmkfdofkloaaGreatDoorC19
/- SORTING NUMBERS (uint64), many of them: slices.Sort; slices.BinarySearch. -/
namespace Go.Proofs.YtbdhmkfdofkloaaGreatDoor
open Go.RowKit Go.Maps
open Sc

theorem bitLen_le (n : Nat) : Lib.bitLen n ≤ 1000 := by
  have := (bitLen_pow 64 n).2
  unfold Lib.bitLen
  omega
set_option maxRecDepth 100000 in
set_option maxHeartbeats 2000000 in
/-- whatever is sorted: no two being the same -/
theorem sortU_all (B g n cap : Nat) (l : List Nat) (w : World) (h : w.ownsRow B 34 1 (.slice (some ⟨g, 0, none⟩) n cap) n (u64s l)) (hl : l.length = n) (hn : n ≤ 1000000000) (hnd : l.Nodup) :
    Calls Tryz.prog 115 #[.slice (some ⟨g, 0, none⟩) n cap] w fun e w' => e = .returned (.tuple #[]) ∧ ∃ l', SrtIn w w' B g n cap l l' ∧ AscTo l' n := by
  have hs : SU w w B g n cap l.toArray := ⟨by simpa using hl, by simpa using h, Fr.refl _ _⟩
  have hp := pdqU B g n cap hn (n + 1) 0 n (Lib.bitLen n) l.toArray w w (by omega) hs (Nat.zero_le _) (Nat.le_refl _) (bitLen_le n) (.inl rfl) ((ndN_iff _).2 (by simpa using hnd))
  have HL : Hid (l.length = n) := hl
  clear h hl hnd hs
  go_enter Tryz.func115, Tryz.ntmps115
  have jn : IntKind.u64.wrap (n : Int) = (n : Int) := by rw [IntKind.wrap_u64]; omega
  go_wp2_with fail
  refine (Tryz.bits_Len n w (by omega) (by omega)).mono ?_
  rintro e w1 ⟨rfl, rfl⟩
  go_wp2_with fail
  refine hp.mono ?_
  rintro e w2 ⟨rfl, d', hs2, hp2, ho2⟩
  have HQ : Hid (SU w1 w2 B g n cap d' ∧ Go.Sort.PermIn 0 n l.toArray d' ∧ SortN 0 n d') := ⟨hs2, hp2, ho2⟩
  clear hs2 hp2 ho2 hp
  go_wp2
  go_end0
  obtain ⟨q1, q2, q3⟩ := HQ.out
  have hle : n ≤ l.toArray.size := by have := HL.out; simp; omega
  refine ⟨rfl, d'.toList, ⟨by have := permIn_list hle q2; simpa using this, q1.row, q1.fr⟩, fun a b hab hb => ?_⟩
  have hz := q1.sz
  have h1 := q3 a b (Nat.zero_le _) hab hb
  rw [at_bang (by omega), at_bang (by omega)] at h1
  simp only [List.getD_eq_getElem?_getD]
  rw [List.getElem?_eq_getElem (by simp; omega), List.getElem?_eq_getElem (by simp; omega)]
  simp only [Option.getD_some, Array.getElem_toList]
  omega
set_option maxHeartbeats 1000000 in
theorem nanS (x : Int) (w : World) : Calls Tryz.prog 117 #[.int .u64 x] w fun e w' => e = .returned (.bool false) ∧ w' = w := by
  go_enter Tryz.func117, Tryz.ntmps117
  go_wp2
  go_ret
  exact ⟨rfl, rfl⟩
theorem asc_at {us : List Nat} (hp : us.Pairwise (· < ·)) {i j u v : Nat} (hij : i < j) (hi : us[i]? = some u) (hj : us[j]? = some v) : u < v := by
  rw [List.pairwise_iff_getElem] at hp
  obtain ⟨h1, rfl⟩ := List.getElem?_eq_some_iff.1 hi
  obtain ⟨h2, rfl⟩ := List.getElem?_eq_some_iff.1 hj
  exact hp i j h1 h2 hij
/-- what a search tells -/
def SrPost (us : List Nat) (n t : Nat) (w : World) (e : Ending) (w' : World) : Prop :=
  ∃ (k : Nat) (b : Bool), e = .returned (.tuple #[.int .i64 (k : Int), .bool b]) ∧ k ≤ n ∧ (∀ (j u : Nat), us[j]? = some u → (j < k → u < t) ∧ (k ≤ j → t ≤ u)) ∧ w' = w
set_option maxRecDepth 100000 in
set_option maxHeartbeats 4000000 in
theorem search_all (g cap n t : Nat) (us : List Nat) (w : World) (hc : ∀ (k u : Nat), us[k]? = some u → w.cell? ⟨g, k, none⟩ = some (.int .u64 (u : Int))) (hl : us.length = n) (hp : us.Pairwise (· < ·)) (hn : n ≤ 1000000000) :
    Calls Tryz.prog 88 #[.slice (some ⟨g, 0, none⟩) n cap, .int .u64 (t : Int)] w (SrPost us n t w) := by
  have HC : Hid ((∀ (k u : Nat), us[k]? = some u → w.cell? ⟨g, k, none⟩ = some (.int .u64 (u : Int))) ∧ us.length = n ∧ us.Pairwise (· < ·)) := ⟨hc, hl, hp⟩
  clear hc hl hp
  go_enter Tryz.func88, Tryz.ntmps88
  go_wp2
  go_loopw [7, 8] (fun i j wr => ∃ I J : Nat, i = .int .i64 I ∧ j = .int .i64 J ∧ I ≤ J ∧ J ≤ n ∧ Hid (wr = w ∧ ∀ (k u : Nat), us[k]? = some u → (k < I → u < t) ∧ (J ≤ k → t ≤ u))) (fun i j _ => (intOf j).toNat - (intOf i).toNat)
  case atStart => exact ⟨0, n, rfl, rfl, Nat.zero_le _, Nat.le_refl _, rfl, fun k u hk => ⟨fun h => by omega, fun h => by have := (List.getElem?_eq_some_iff.1 hk).1; have := HC.out.2.1; omega⟩⟩
  case round =>
    obtain ⟨I, J, rfl, rfl, hIJ, hJn, hR0⟩ := hrel
    obtain ⟨rfl, hR1⟩ := hR0.out
    have hR : Hid (∀ (k u : Nat), us[k]? = some u → (k < I → u < t) ∧ (J ≤ k → t ≤ u)) := hR1
    clear hR0 hR1
    by_cases hlt : I < J
    · have l1 : (I : Int) < (J : Int) := by omega
      have k1 : IntKind.i64.wrap ((I : Int) + (J : Int)) = (I : Int) + (J : Int) := by rw [IntKind.wrap_i64]; omega
      have k2 : IntKind.u64.wrap ((I : Int) + (J : Int)) = (I : Int) + (J : Int) := by rw [IntKind.wrap_u64]; omega
      have k3 : IntKind.i64.wrap (((I : Int) + (J : Int)) / 2 + 1) = (((I + J) / 2 + 1 : Nat) : Int) := by rw [IntKind.wrap_i64]; omega
      obtain ⟨u, hu⟩ : ∃ u, us[(I + J) / 2]? = some u := ⟨_, List.getElem?_eq_getElem (by have := HC.out.2.1; omega)⟩
      have cu := HC.out.1 _ u hu
      have HU : Hid (us[(I + J) / 2]? = some u) := hu
      clear hu
      go_wp2_with fail
      refine (lessU _ _ _).mono ?_
      rintro e w1 ⟨rfl, rfl⟩
      by_cases hx : (u : Int) < (t : Int)
      · rw [decide_eq_true hx]
        have HN : Hid (∀ (k u : Nat), us[k]? = some u → (k < (I + J) / 2 + 1 → u < t) ∧ (J ≤ k → t ≤ u)) := fun k v hk => ⟨fun hlt2 => by
          rcases Nat.lt_or_ge k ((I + J) / 2) with h1 | h1
          · have := asc_at HC.out.2.2 h1 hk HU.out; omega
          · obtain rfl : k = (I + J) / 2 := by omega
            have := HU.out; rw [hk] at this; cases this; omega, (hR.out k v hk).2⟩
        go_wp2
        go_roundw
        case rel => exact ⟨(I + J) / 2 + 1, J, by simp, rfl, by omega, hJn, by first | trivial | rfl, HN.out⟩
        case measure => simp [intOf]; omega
      · rw [decide_eq_false hx]
        have HN : Hid (∀ (k u : Nat), us[k]? = some u → (k < I → u < t) ∧ ((I + J) / 2 ≤ k → t ≤ u)) := fun k v hk => ⟨(hR.out k v hk).1, fun hlt2 => by
          rcases Nat.lt_or_ge ((I + J) / 2) k with h1 | h1
          · have := asc_at HC.out.2.2 h1 HU.out hk; omega
          · obtain rfl : k = (I + J) / 2 := by omega
            have := HU.out; rw [hk] at this; cases this; omega⟩
        go_wp2
        go_roundw
        case rel => exact ⟨I, (I + J) / 2, rfl, by simp, by omega, by omega, by first | trivial | rfl, HN.out⟩
        case measure => simp [intOf]; omega
    · have l1 : ¬ (I : Int) < (J : Int) := by omega
      obtain rfl : I = J := by omega
      by_cases hIn : I < n
      · have l2 : (I : Int) < (n : Int) := by omega
        obtain ⟨u, hu⟩ : ∃ u, us[I]? = some u := ⟨_, List.getElem?_eq_getElem (by have := HC.out.2.1; omega)⟩
        have cu := HC.out.1 _ u hu
        by_cases hq : (u : Int) = (t : Int)
        · go_wp2
          go_ret2
          exact ⟨I, _, rfl, hJn, hR.out, rfl⟩
        · go_wp2_with fail
          refine (nanS _ _).mono ?_
          rintro e w1 ⟨rfl, rfl⟩
          go_wp2
          go_ret2
          exact ⟨I, _, rfl, hJn, hR.out, rfl⟩
      · have l2 : ¬ (I : Int) < (n : Int) := by omega
        go_wp2
        go_ret2
        exact ⟨I, _, rfl, hJn, hR.out, rfl⟩
end Go.Proofs.YtbdhmkfdofkloaaGreatDoor
/- WALKS THROUGH MAPS BY THEIR KEYS: small facts. -/
namespace Go.Proofs.YtbdhmkfdofkloaaGreatDoor
open Go.RowKit Go.Maps
open Sc

theorem cell_blk0 {w : World} {p : Nat} {c : Array Value} {t : TypeId} (h : w.heap[p]? = some (.cells c t (0, 0))) (i : Nat) : w.cell? ⟨p, i, none⟩ = c[i]? := by simp [World.cell?, h]
theorem own_base0 {w : World} {B B' n : Nat} {e : TypeId} {k : Nat} {v : Value} {xs : List Value} (h : w.ownsRow B e k v n xs) (hB : B' ≤ B) : w.ownsRow B' e k v n xs := by
  refine ⟨h.1, ?_⟩
  rcases h.2 with h2 | ⟨g, cap, cur, hv, hb, r⟩
  · exact .inl h2
  · exact .inr ⟨g, cap, cur, hv, Nat.le_trans hB hb, r⟩
theorem cells_new (w : World) (cs : Array Value) (t : TypeId) : ∀ j u, cs.toList[j]? = some u → (w.alloc (.cells cs t)).cell? ((⟨w.heap.size, 0, none⟩ : Addr).add j) = some u := by
  intro j u hj
  have hn : (w.alloc (.cells cs t)).heap[w.heap.size]? = some (.cells cs t (0, 0)) := World.alloc_heap_new w _
  have : ((⟨w.heap.size, 0, none⟩ : Addr).add j) = ⟨w.heap.size, j, none⟩ := by simp [Addr.add]; exact fun h => h.symm
  rw [this, cell_blk0 hn]
  simpa using hj
end Go.Proofs.YtbdhmkfdofkloaaGreatDoor
/- RECOVERY: (*disk).Names. -/
namespace Go.Proofs.YtbdhmkfdofkloaaGreatDoor
open Go.RowKit Go.Maps Go.Sort
open Sc

/-- the names of the files, each once -/
def NamesOk (m : Files) (ns : List ByteArray) : Prop := ns.Nodup ∧ ∀ k, k ∈ ns ↔ m k ≠ none
set_option maxRecDepth 100000 in
set_option maxHeartbeats 2000000 in
theorem names_any (B p bD bN n nD nN : Nat) (pv : Value) (d : ADisk) (w : World) (h : DiskIn w B p bD bN pv d n nD nN) (hdn : d.down = false) :
    Calls Tryz.prog 236 #[.pointer (some ⟨p, 0, none⟩)] w fun e w' => ∃ v ns, e = .returned (.tuple #[v, .nilIface]) ∧ NamesOk d.now ns ∧ w'.ownsRow w.heap.size 9 1 v ns.length (ns.map Value.string) ∧ Below w.heap.size w w' := by
  have c1 := blk_cell h.blk 1
  have c5 := blk_cell h.blk 5
  simp at c1 c5
  rw [hdn] at c5
  have hN := h.hN
  have hn := h.hn
  obtain ⟨D, hown, h5⟩ := h.now
  have hsz := hown.size_le
  have H5 : Hid (∀ k : ByteArray, (d.now k = none → Maps.has D (keyL k) = false) ∧ (∀ t, d.now k = some t → Maps.has D (keyL k) = true)) := fun k => ⟨(h5 k).1, fun t ht => ((h5 k).2 t ht).1⟩
  have HO : Hid (w.ownsMap Tryz.prog 9 ptrElem bN nN D) := hown
  clear h h5
  obtain ⟨i0, hi, hz0, hz1, hz2⟩ := info_parts Tryz.infoStr
  go_enter Tryz.func236, Tryz.ntmps236
  go_wp2_with (first
    | (at_range; refine wpList_range_own _ rfl _ 54 rfl 9 87 Tryz.lawS Tryz.underlying54 ptrElem bN nN D rfl hown ?_; intro w0 hrg0 hg0 hs0)
    | go_in)
  go_frame
  have hbl : Below w.heap.size w w0 := ⟨hg0.os, hg0.tape, hg0.output, hg0.size, fun k hk => hg0.block k hk (by simp)⟩
  have HS : Hid (w0.ranges Tryz.prog 9 ptrElem bN w.heap.size nN D (Maps.has D) (Maps.size D) ∧ Below w.heap.size w w0) := ⟨hrg0, hbl⟩
  clear hrg0 hg0 hbl hown
  go_loopw [4] (fun v wr => ∃ (left : Lit → Bool) (cnt : Nat) (ss : List (List UInt8)), Hid (wr.ranges Tryz.prog 9 ptrElem bN w.heap.size nN D left cnt ∧ ss.length + cnt ≤ Maps.size D ∧ Collected D left ss ∧ wr.ownsRow (w.heap.size + 1) 9 1 v ss.length (ss.map encStr) ∧ Below w.heap.size w wr ∧ w.heap.size + 1 ≤ wr.heap.size))
    (fun _ wr => wr.rangeLeft bN w.heap.size)
  case atStart => exact ⟨_, _, [], HS.out.1, by simp, Collected.start D, World.ownsRow_nil _ _ _ _, HS.out.2, by omega⟩
  case round =>
    obtain ⟨left, cnt, ss, HX⟩ := hrel
    have hrg := HX.out.1
    go_wp2_with (first
      | (at_next; refine wpList_next_ranges _ rfl _ rfl 9 Tryz.lawS ptrElem encStr Value.pointer (fun key kl hk => by obtain ⟨x, hx, _⟩ := Maps.keyOf_str Tryz.underlying9 hk; exact ⟨x, hx⟩) (fun v y hv => ptrElem_shape hv) bN w.heap.size nN _ _ _ rfl hrg ?_ ?_)
      | go_in)
    · intro hc0 hl0
      have hC := HX.out.2.2.1
      have hNames : ∀ ts : List (List UInt8), ts.Perm ss → NamesOk d.now (ts.map fun x => ⟨x.toArray⟩) := fun ts hp => by
        refine ⟨?_, fun k => ?_⟩
        · refine List.Pairwise.map _ (fun a b hab e => hab ?_) (hp.nodup_iff.2 hC.1)
          have := congrArg (fun x : ByteArray => x.data.toList) e
          simpa using this
        · have e1 : k ∈ (ts.map fun x => (⟨x.toArray⟩ : ByteArray)) ↔ k.data.toList ∈ ss := by
            rw [← hp.mem_iff, List.mem_map]
            constructor
            · rintro ⟨x, hx, rfl⟩; simpa using hx
            · intro hk; exact ⟨_, hk, by simp⟩
          rw [e1, hC.2]
          have := H5.out k
          cases hk : d.now k with
          | none => rw [show Lit.string k.data.toList = keyL k from rfl, this.1 hk]; simp
          | some t => rw [show Lit.string k.data.toList = keyL k from rfl, this.2 t hk]; simp [hl0]
      have HNM : Hid (∀ ts : List (List UInt8), ts.Perm ss → NamesOk d.now (ts.map fun x => ⟨x.toArray⟩)) := hNames
      clear hNames hC
      rcases HX.out.2.2.2.1.2 with ⟨rfl, hz⟩ | ⟨gb, cap, cur, rfl, hbase, hgb, r1, r2, r3, r4⟩
      · have hss : ss = [] := List.eq_nil_of_length_eq_zero hz
        subst hss
        go_wp2_with fail
        refine (Tryz.sort_Strings_none none 0 wr).mono ?_
        rintro e w1 ⟨rfl, rfl⟩
        go_wp2
        go_ret2
        exact ⟨.slice none 0 0, [], rfl, HNM.out [] (List.Perm.refl _), World.ownsRow_nil _ _ _ _, HX.out.2.2.2.2.1⟩
      · have hH : Holds encStr wr gb 0 ss.toArray := holds_of_block hgb (by simpa using r4)
        have hgl : gb < wr.heap.size := (Array.getElem?_eq_some_iff.1 hgb).1
        have hlen : ss.length < 4611686018427387904 := by have := HX.out.2.1; omega
        have HG : Hid (wr.heap[gb]? = some (.cells cur 9 (0, 0)) ∧ ss.length ≤ cap ∧ cap ≤ maxLen ∧ cur.size = cap * 1) := ⟨hgb, r1, r2, r3⟩
        clear hgb r1 r2 r3 r4
        go_wp2_with fail
        refine (Tryz.sort_Strings gb 0 cap ss wr hH hgl hlen).mono ?_
        rintro e w1 ⟨rfl, nn, os, rfl⟩
        have hrow := ownsRow_sorted (n := nn) (os := os) (ts := ss.mergeSort fun x y => decide (x ≤ y)) (by simp) hbase HG.out.1 HG.out.2.1 HG.out.2.2.1 HG.out.2.2.2
        have hgr := grownBy_sorted (w := wr) (g := gb) (n := nn) (os := os) (ss.mergeSort fun x y => decide (x ≤ y)).toArray
        obtain ⟨W2, hW2⟩ : ∃ W2, W2 = grow (putRow encStr (Sort.ahead wr nn) gb 0 (ss.mergeSort fun x y => decide (x ≤ y)).toArray) os := ⟨_, rfl⟩
        rw [← hW2] at hrow hgr ⊢
        clear hW2
        go_wp2
        go_ret2
        refine ⟨.slice (some ⟨gb, 0, none⟩) ss.length cap, (ss.mergeSort fun x y => decide (x ≤ y)).map fun x => ⟨x.toArray⟩, rfl, HNM.out _ (List.mergeSort_perm _ _), ?_, HX.out.2.2.2.2.1.grown hgr (by omega) (fun j hj => by cases hj; omega)⟩
        rw [List.map_map]
        have e : (ss.mergeSort fun x y => decide (x ≤ y)).length = ss.length := by simp
        rw [List.length_map, e]
        exact own_base0 hrow (by omega)
    · intro x c kl yd yp w2 cnt2 hkey hlk hv hat hrg2 hlt hg2 hs2 hen
      obtain ⟨x', ex, rfl, hxl⟩ := Maps.keyOf_str Tryz.underlying9 hkey
      obtain rfl : x = x' := encStr_inj ex
      have hrow2 : w2.ownsRow (w.heap.size + 1) 9 1 _ ss.length (ss.map encStr) := HX.out.2.2.2.1.kept hg2 (by
        rcases HX.out.2.2.2.1.2 with ⟨rfl, _⟩ | ⟨gb, cap, cur, rfl, hbase, _⟩
        · exact .inl rfl
        · exact .inr (by simp [Value.ownBlock]; omega))
      have HN2 : Hid (w2.ranges Tryz.prog 9 ptrElem bN w.heap.size nN D (fun z => left z && !z.sameKey (.string x)) cnt2 ∧ ss.length + 1 + cnt2 ≤ Maps.size D ∧ Collected D (fun z => left z && !z.sameKey (.string x)) (ss ++ [x]) ∧ Below w.heap.size w w2 ∧ w.heap.size + 1 ≤ w2.heap.size ∧ w2.rangeLeft bN w.heap.size < wr.rangeLeft bN w.heap.size) := by
        refine ⟨hrg2, by have := HX.out.2.1; omega, HX.out.2.2.1.step hlk hat, HX.out.2.2.2.2.1.grown hg2 (by have := HX.out.2.2.2.2.2; omega) (fun j hj => by cases hj; omega), by rw [hs2]; exact HX.out.2.2.2.2.2, by rw [hrg2.left_eq, hrg.left_eq]; exact hlt⟩
      have hsm : ss.length + 1 ≤ 1000000000 := by have := HN2.out.2.1; omega
      clear hs2 hrg hrg2 hlt
      go_wp2_with (first
        | (at_builtin; refine wpList_append_own _ rfl _ _ 25 rfl (w.heap.size + 1) 9 i0 _ 1 16 Tryz.underlying25 hi hz0 hz1 hz2 rfl (by decide) _ ss.length _ rfl (hrow2.alloc _) ⟨w2.heap.size, 0, none⟩ 1 1 [encStr x] rfl rfl (cells_new _ #[encStr x] _) (by intro u hu; simp at hu; subst hu; rfl) (by unfold maxLen; omega) (by omega) (by simp; have := HN2.out.2.2.2.2.1; omega) ?_; intro v' w3 hown' hgrow _)
        | fail)
      have hfr3 : ∀ k, k < w2.heap.size → k < w.heap.size + 1 → w3.heap[k]? = w2.heap[k]? := fun k hk hk2 => (hgrow.block k (by simp; omega) (fun e => by have := (hrow2.lt k e.symm).1; omega)).trans (Below.heap_alloc _ _ k hk)
      have hbN : bN < w.heap.size := HO.out.lt
      have hw2s := HN2.out.2.2.2.2.1
      have hrg3 : w3.ranges Tryz.prog 9 ptrElem bN w.heap.size nN D (fun z => left z && !z.sameKey (.string x)) cnt2 := by
        have := HN2.out.1
        unfold World.ranges at this ⊢
        rw [hfr3 bN (by omega) (by omega), hfr3 w.heap.size (by omega) (by omega)]
        exact this
      go_roundw
      case rel =>
        refine ⟨_, cnt2, ss ++ [x], hrg3, by simp; have := HN2.out.2.1; omega, HN2.out.2.2.1, by simpa using hown', ?_, by have := hgrow.size; simp at this; omega⟩
        exact ⟨hgrow.os.trans HN2.out.2.2.2.1.os, hgrow.tape.trans HN2.out.2.2.2.1.tape, hgrow.output.trans HN2.out.2.2.2.1.output, by have := hgrow.size; simp at this; omega, fun k hk => (hfr3 k (by omega) (by omega)).trans (HN2.out.2.2.2.1.block k hk)⟩
      case measure => rw [hrg3.left_eq, ← HN2.out.1.left_eq]; exact HN2.out.2.2.2.2.2
end Go.Proofs.YtbdhmkfdofkloaaGreatDoor
/- RECOVERY: segmentsAmong, BinarySearch. -/
namespace Go.Proofs.YtbdhmkfdofkloaaGreatDoor
open Go.RowKit Go.Maps
open Sc

theorem trim_seg (u : Nat) : (⟨(Lib.trimPrefix (segName u).data.toList [115, 101, 103, 109, 101, 110, 116, 45]).toArray⟩ : ByteArray) = ⟨(Lib.decDigits u).toArray⟩ := by
  have e : (segName u).data.toList = [115, 101, 103, 109, 101, 110, 116, 45] ++ Lib.decDigits u := by unfold segName; rw [ByteArray.data_append]; simp
  rw [e]
  unfold Lib.trimPrefix Lib.hasPrefix
  rw [if_pos (by simp [List.isPrefixOf])]
  simp
theorem Tryz.lenStr (p : Option Addr) (n c : Nat) (w : World) : (Builtin.len_ #[25] 3 #[.slice p n c]).run Tryz.prog w = .ok (.int .i64 n) w := by simp [Builtin.len_, run_underlying Tryz.underlying25, goInt]
theorem below_bytes (w : World) (s : ByteArray) : Below w.heap.size w (Lib.bytesWorld w 5 s) :=
  ⟨rfl, rfl, rfl, by rw [Lib.bytesWorld_size]; omega, fun k hk => Lib.bytesWorld_at_old w _ s k hk⟩
theorem own_grow0 {w w' : World} {B n : Nat} {e : TypeId} {k : Nat} {v : Value} {xs : List Value} (h : w.ownsRow B e k v n xs) (hb : Below w.heap.size w w') : w'.ownsRow B e k v n xs := by
  refine h.kept (row := none) ⟨hb.os, hb.tape, hb.output, hb.size, fun j hj _ => hb.block j hj⟩ ?_
  cases hv : v.ownBlock with
  | none => exact .inl rfl
  | some q => exact .inr (by simp)
end Go.Proofs.YtbdhmkfdofkloaaGreatDoor
/- TORN RECORDS, the plain mathematics: what a bit that is turned does to a sum; what is read of records of which the end is cut off, or that are turned in a byte. -/
namespace Go.Proofs.YtbdhmkfdofkloaaGreatDoor
open Go.RowKit
open Sc

/-! One bit of the reckoning can be taken back. -/
/-! A record that is whole, behind it whatever. -/
theorem take_app (a b : List Nat) (n : Nat) (h : a.length = n) : (a ++ b).take n = a := by subst h; simp
theorem drop_app (a b : List Nat) (n : Nat) (h : a.length = n) : (a ++ b).drop n = b := by subst h; simp
theorem head_2 (x k : Nat) (l r : List Nat) : (recHead x k l ++ r).take 2 = be 2 l.length := by
  unfold recHead; rw [List.append_assoc, List.append_assoc, List.append_assoc]; exact take_app _ _ _ (be_len _ _)
theorem fLen_head (x k : Nat) (l r : List Nat) (hl : l.length ≤ 255) : fLen (recHead x k l ++ r) = l.length := by
  unfold fLen; rw [head_2]; exact val_be 2 _ (by omega)
theorem frame_yes (x k : Nat) (l r : List Nat) (hl : l.length ≤ 255) (hk : k < 256) (hb : Byt l) : frameOk (recBytes x k l ++ r) = true := by
  have e : recBytes x k l ++ r = recHead x k l ++ (be 4 (crc (recHead x k l)) ++ r) := by unfold recBytes; rw [List.append_assoc]
  have hlen : (recHead x k l ++ (be 4 (crc (recHead x k l)) ++ r)).length = 15 + l.length + r.length := by simp [recHead_len, be_len]; omega
  rw [e]
  have hf := fLen_head x k l (be 4 (crc (recHead x k l)) ++ r) hl
  refine frameOk_yes (ffOk_yes (by omega) (by omega) (by omega)) ?_
  unfold fSum
  rw [hf, take_app _ _ _ (recHead_len x k l), drop_app _ _ _ (recHead_len x k l), take_app _ _ _ (be_len _ _), val_be 4 _ (crc_lt _ (recHead_byt x k l hk hb))]
  simp
theorem frame_rec (x k : Nat) (l r : List Nat) (hl : l.length ≤ 255) (hx : x < 18446744073709551616) : recOf (recBytes x k l ++ r) = ⟨x, k, l⟩ := by
  have e : recBytes x k l ++ r = recHead x k l ++ (be 4 (crc (recHead x k l)) ++ r) := by unfold recBytes; rw [List.append_assoc]
  have hf := fLen_head x k l (be 4 (crc (recHead x k l)) ++ r) hl
  rw [e]
  unfold recOf
  rw [hf]
  unfold recHead
  generalize be 4 _ ++ r = q
  have h2 : (be 2 l.length ++ be 8 x ++ [k] ++ l ++ q).drop 2 = be 8 x ++ ([k] ++ (l ++ q)) := by
    simp only [List.append_assoc]; exact drop_app _ _ _ (be_len _ _)
  have h11 : (be 2 l.length ++ be 8 x ++ [k] ++ l ++ q).drop 11 = l ++ q := by
    rw [List.append_assoc (be 2 l.length ++ be 8 x ++ [k])]; exact drop_app _ _ _ (by simp [be_len])
  have h10 : (be 2 l.length ++ be 8 x ++ [k] ++ l ++ q).drop 10 = k :: (l ++ q) := by
    rw [show be 2 l.length ++ be 8 x ++ [k] ++ l ++ q = (be 2 l.length ++ be 8 x) ++ (k :: (l ++ q)) by simp]; exact drop_app _ _ _ (by simp [be_len])
  have a10 : at_ (be 2 l.length ++ be 8 x ++ [k] ++ l ++ q) 10 = k := by
    have := at_drop (be 2 l.length ++ be 8 x ++ [k] ++ l ++ q) 10 0
    rw [h10] at this
    rw [show (10 : Nat) = 10 + 0 from rfl, ← this]; simp [at_]
  rw [h2, h11, a10, take_app _ _ _ (be_len _ _), take_app _ _ _ rfl, val_be 8 _ hx]
theorem frame_len (x k : Nat) (l r : List Nat) (hl : l.length ≤ 255) : fLen (recBytes x k l ++ r) = l.length := by
  have e : recBytes x k l ++ r = recHead x k l ++ (be 4 (crc (recHead x k l)) ++ r) := by unfold recBytes; rw [List.append_assoc]
  rw [e]; exact fLen_head x k l _ hl
/-- its end is cut off -/
theorem frame_cut (x k : Nat) (l : List Nat) (hl : l.length ≤ 255) (p : Nat) (hp : p < 15 + l.length) : frameOk ((recBytes x k l).take p) = false := by
  have hlen := recBytes_len x k l
  by_cases h15 : p < 15
  · exact frameOk_ffno (ffOk_short (by rw [List.length_take]; omega))
  · refine frameOk_ffno (ffOk_cut ?_)
    have hf : fLen ((recBytes x k l).take p) = l.length := by
      unfold fLen
      rw [List.take_take, show min 2 p = 2 by omega]
      have := frame_len x k l [] hl
      rw [List.append_nil] at this; exact this
    rw [hf, List.length_take]; omega
end Go.Proofs.YtbdhmkfdofkloaaGreatDoor
/- TORN RECORDS, the plain mathematics: records one behind the other, the end cut off, or turned in a byte. -/
namespace Go.Proofs.YtbdhmkfdofkloaaGreatDoor
open Go.RowKit
open Sc

/-- the j-th record's bytes; the first j of them, one behind the other; what they are -/
def rb (S : Nat → ByteArray) (j : Nat) : List Nat := recBytes j j (bytesOf (S j))
def recs (S : Nat → ByteArray) (j : Nat) : List Rec := (List.range j).map fun q => ⟨q, q, bytesOf (S q)⟩
end Go.Proofs.YtbdhmkfdofkloaaGreatDoor
/- RECOVERY: readSegment, of the segment of record 1. -/
namespace Go.Proofs.YtbdhmkfdofkloaaGreatDoor
open Go.RowKit Go.Maps
open Sc

theorem str_data (l : List Nat) : (str l).data = (l.map fun x => UInt8.ofNat x).toArray := by
  have aux : ∀ (l : List Nat) (r : ByteArray), ((l.map fun x : Nat => (x : Int)).foldl (fun r n => r.push (UInt8.ofNat n.toNat)) r).data = r.data ++ (l.map fun x => UInt8.ofNat x).toArray := by
    intro l
    induction l with
    | nil => intro r; simp
    | cons x l ih =>
      intro r
      rw [List.map_cons, List.foldl_cons, ih]
      simp [ByteArray.push]
  unfold str
  rw [aux]
  simp
theorem bytesOf_str {l : List Nat} (h : Byt l) : bytesOf (str l) = l := by
  unfold bytesOf
  rw [str_data]
  simp only [List.map_map]
  have : ∀ (m : List Nat), Byt m → m.map (UInt8.toNat ∘ fun x => UInt8.ofNat x) = m := by
    intro m
    induction m with
    | nil => intro _; rfl
    | cons x m ih =>
      intro hb
      have hx : x < 256 := hb x (by simp)
      rw [List.map_cons, ih (fun y hy => hb y (by simp [hy]))]
      congr 1
      simp
      omega
  exact this l h
/-- records as they lie on the disk -/
def encR (rs : List Rec) : List Nat := rs.flatMap fun r => recBytes r.lsn r.kind r.pay
theorem encR_snoc (rs : List Rec) (r : Rec) : encR (rs ++ [r]) = encR rs ++ recBytes r.lsn r.kind r.pay := by simp [encR]
theorem List.reverseRecOn0 {α : Type} {motive : List α → Prop} (l : List α) (h0 : motive []) (h1 : ∀ l x, motive l → motive (l ++ [x])) : motive l := by
  have : ∀ n (l : List α), l.length = n → motive l := by
    intro n
    induction n with
    | zero => intro l hl; rw [List.length_eq_zero_iff.1 hl]; exact h0
    | succ n ih =>
      intro l hl
      rcases List.eq_nil_or_concat l with e | ⟨a, x, e⟩
      · subst e; simp at hl
      · subst e; simp at hl
        rw [List.concat_eq_append]
        exact h1 a x (ih a hl)
  exact this _ l rfl
theorem Tryz.nilRead (p : Nat) (w : World) : (nilAhead 471 53 (.pointer (some ⟨p, 0, none⟩)) "Read").run Tryz.prog w = .ok (some false) w := by kernel_rfl
end Go.Proofs.YtbdhmkfdofkloaaGreatDoor
/- RECOVERY: readOn, read, of a log of one segment. -/
namespace Go.Proofs.YtbdhmkfdofkloaaGreatDoor
open Go.RowKit Go.Maps
open Sc

theorem recsV_one (rs : List Rec) : ∀ u ∈ recsV rs, u.oneCell' = true := by
  intro u hu
  obtain ⟨r, _, hr⟩ := List.mem_flatMap.1 hu
  simp [recCells] at hr
  rcases hr with rfl | rfl | rfl <;> rfl
end Go.Proofs.YtbdhmkfdofkloaaGreatDoor
/- RECOVERY: what logs of one, of few and of many segments share. -/
namespace Go.Proofs.YtbdhmkfdofkloaaGreatDoor
open Go.RowKit Go.Maps
open Sc

theorem parse_snoc (M : Nat) (c : UInt8) (v : Nat) : ∀ (a : List UInt8) (acc : Nat), Lib.parseUintM M acc a = .ok v → Lib.parseUintM M acc (a ++ [c]) = Lib.parseUintM M v [c]
  | [], acc, h => by
    have e : acc = v := by simpa [Lib.parseUintM] using h
    rw [e]; rfl
  | x :: a, acc, h => by
    rw [List.cons_append]
    unfold Lib.parseUintM at h ⊢
    split at h
    · rename_i h1
      rw [if_pos h1]
      split at h
      · cases h
      · rename_i h2
        rw [if_neg h2]
        split at h
        · cases h
        · rename_i h3
          rw [if_neg h3]
          exact parse_snoc M c v a _ h
    · cases h
theorem parse_decM : ∀ (n u : Nat), u < n → u < 18446744073709551616 → Lib.parseUintM 18446744073709551615 0 (Lib.decDigits u) = .ok u := by
  intro n
  induction n with
  | zero => intro u h; omega
  | succ n ih =>
    intro u hn hu
    rw [Lib.decDigits]
    split
    · rename_i h
      obtain rfl | rfl | rfl | rfl | rfl | rfl | rfl | rfl | rfl | rfl : u = 0 ∨ u = 1 ∨ u = 2 ∨ u = 3 ∨ u = 4 ∨ u = 5 ∨ u = 6 ∨ u = 7 ∨ u = 8 ∨ u = 9 := by omega
      all_goals rfl
    · rename_i h
      rw [parse_snoc _ _ (u / 10) _ _ (ih (u / 10) (by omega) (by omega))]
      have e : (UInt8.ofNat (48 + u % 10)).toNat = 48 + u % 10 := by simp; omega
      unfold Lib.parseUintM
      rw [e, if_pos (by omega), if_neg (by omega), if_neg (by omega)]
      unfold Lib.parseUintM
      congr 1
      omega
theorem parse_dec (u : Nat) (hu : u < 18446744073709551616) : Lib.parseUintB 64 (Lib.decDigits u) = .ok u := by
  unfold Lib.parseUintB
  rw [if_neg (dec_ne u)]
  exact parse_decM (u + 1) u (by omega) hu
/-- what the variable of strconv's error holds -/
def ErrS (w : World) : Prop := ∃ ev, w.cell? ⟨2, 0, none⟩ = some ev ∧ (ev = .nilIface ∨ ∃ te pe, ev = .iface te pe)
theorem ErrS.below {n : Nat} {w w' : World} (h : ErrS w) (hb : Below n w w') (hn : 2 < n) : ErrS w' := by
  obtain ⟨ev, h1, h2⟩ := h
  exact ⟨ev, (hb.cell (p := ⟨2, 0, none⟩) hn).trans h1, h2⟩
theorem encR_bytes (rs : List Rec) : (encR rs).length = bytesR rs := by
  induction rs with
  | nil => rfl
  | cons r rs ih => simp only [encR, List.flatMap_cons, List.length_append, recBytes_len] at *; rw [ih]; simp [bytesR]
/-! ### few segments, few bytes -/
theorem starts_lt : ∀ (a : List (List Rec)) (n : Nat), (∀ b ∈ a, b ≠ []) → ∀ x ∈ starts n a, x < n + a.flatten.length := by
  intro a
  induction a with
  | nil => intro n _ x hx; simp [starts] at hx
  | cons b a ih =>
    intro n hb x hx
    have h0 : 0 < b.length := List.length_pos_iff.2 (hb b (by simp))
    simp only [starts, List.mem_cons] at hx
    rcases hx with rfl | hx
    · simp; omega
    · have := ih (n + b.length) (fun y hy => hb y (by simp [hy])) x hx
      simp; simp at this; omega
theorem str_app (a b : List Nat) : str (a ++ b) = str a ++ str b := by
  apply ByteArray.ext
  rw [ByteArray.data_append, str_data, str_data, str_data]
  simp
theorem takeC_at {cs : List (List Rec)} {k : Nat} {c : List Rec} (h : cs[k]? = some c) : cs.take (k + 1) = cs.take k ++ [c] := by rw [List.take_add_one, h]; rfl
/-! ### records that lie in a file -/
def FineX (rs : List Rec) : Prop := ∀ r ∈ rs, r.kind < 256 ∧ r.pay.length ≤ 255 ∧ Byt r.pay ∧ r.lsn < 18446744073709551616
theorem fx_byt {rs : List Rec} (h : FineX rs) : Byt (encR rs) := by
  intro b hb
  obtain ⟨r, hr, hbr⟩ := List.mem_flatMap.1 hb
  obtain ⟨h1, _, h3, _⟩ := h r hr
  exact recBytes_byt r.lsn r.kind r.pay h1 h3 b hbr
theorem fx_good : ∀ (rs : List Rec), FineX rs → ∀ t, Good (encR rs ++ t) rs.length ∧ (st rs.length (encR rs ++ t)).1 = rs ∧ (st rs.length (encR rs ++ t)).2 = (encR rs).length := by
  intro rs
  refine List.reverseRecOn0 (motive := fun rs => FineX rs → ∀ t, Good (encR rs ++ t) rs.length ∧ (st rs.length (encR rs ++ t)).1 = rs ∧ (st rs.length (encR rs ++ t)).2 = (encR rs).length) rs ?_ ?_
  · intro _ t; exact ⟨good_zero _, rfl, rfl⟩
  · intro rs r ih hf t
    obtain ⟨k1, k2, k3, k4⟩ := hf r (by simp)
    have e : encR (rs ++ [r]) ++ t = encR rs ++ (recBytes r.lsn r.kind r.pay ++ t) := by rw [encR_snoc, List.append_assoc]
    rw [e]
    obtain ⟨h1, h2, h3⟩ := ih (fun x hx => hf x (by simp [hx])) (recBytes r.lsn r.kind r.pay ++ t)
    have hd : (encR rs ++ (recBytes r.lsn r.kind r.pay ++ t)).drop (st rs.length (encR rs ++ (recBytes r.lsn r.kind r.pay ++ t))).2 = recBytes r.lsn r.kind r.pay ++ t := by rw [h3]; exact drop_app _ _ _ rfl
    have el : (rs ++ [r]).length = rs.length + 1 := by simp
    rw [el]
    refine ⟨good_succ h1 (by rw [hd]; exact frame_yes _ _ _ t k2 k1 k3), ?_, ?_⟩
    · show (st rs.length (encR rs ++ (recBytes r.lsn r.kind r.pay ++ t))).1 ++ [recOf ((encR rs ++ (recBytes r.lsn r.kind r.pay ++ t)).drop (st rs.length (encR rs ++ (recBytes r.lsn r.kind r.pay ++ t))).2)] = _
      rw [hd, h2, frame_rec _ _ _ t k2 k4]
    · show (st rs.length (encR rs ++ (recBytes r.lsn r.kind r.pay ++ t))).2 + 15 + fLen ((encR rs ++ (recBytes r.lsn r.kind r.pay ++ t)).drop (st rs.length (encR rs ++ (recBytes r.lsn r.kind r.pay ++ t))).2) = _
      rw [hd, h3, encR_snoc, List.length_append, frame_len _ _ _ t k2, recBytes_len]
      omega
theorem fx_ended {rs : List Rec} (h : FineX rs) : Ended (encR rs) rs.length ∧ (st rs.length (encR rs)).1 = rs ∧ (st rs.length (encR rs)).2 = (encR rs).length := by
  obtain ⟨h1, h2, h3⟩ := fx_good rs h []
  rw [List.append_nil] at h1 h2 h3
  exact ⟨⟨h1, by rw [h3, List.drop_length]; exact frameOk_ffno (ffOk_short (by simp))⟩, h2, h3⟩
theorem equalIn_nilE (w : World) (d : Nat) (b : Int) :
    (Op.equalIn (d + 2) 66 .nilIface (.iface 32 (.int .i64 b))).run Tryz.prog w = .ok false w := by
  simp [Op.equalIn, run_underlying Tryz.underlying66]
theorem eql_nilE (w : World) (b : Int) :
    (binOp .eql 66 .nilIface (.iface 32 (.int .i64 b))).run Tryz.prog w = .ok (.bool false) w := by
  simp only [binOp]
  simp [Op.equal, Op.maxDepth, equalIn_nilE w 9998 b]
set_option maxRecDepth 100000 in
set_option maxHeartbeats 2000000 in
theorem is_nil (n : Int) (w : World) :
    Calls Tryz.prog 45 #[.nilIface, .iface 32 (.int .i64 n)] w fun ev w' => ev = .returned (.bool false) ∧ w' = w := by
  have he : ∀ w, (binOp .eql 66 .nilIface (.iface 32 (.int .i64 n))).run Tryz.prog w = .ok (.bool false) w := fun w => eql_nilE w n
  go_enter Tryz.func45, Tryz.ntmps45
  go_wp2
  go_ret
  exact ⟨rfl, rfl⟩
set_option maxRecDepth 100000 in
set_option maxHeartbeats 2000000 in
theorem readMark_some (B p bD bN n nD nN f : Nat) (pv : Value) (d : ADisk) (w : World) (h : DiskIn w B p bD bN pv d n nD nN) (hdn : d.down = false) (hno : d.now markNm = some (str (recBytes f 0 []))) (hf : f < 18446744073709551616) :
    Calls Tryz.prog 86 #[dskV p] w fun e w' => e = .returned (.tuple #[.int .u64 (f : Int), .nilIface]) ∧ Below w.heap.size w w' := by
  have hm := Tryz.mRead
  have hr := read_any B p bD bN n nD nN pv d markNm w h (by decide)
  have hfx : FineX [⟨f, 0, []⟩] := by intro r hr; simp at hr; subst hr; exact ⟨show 0 < 256 by decide, show 0 ≤ 255 by decide, by intro x hx; simp at hx, hf⟩
  have henc : encR [⟨f, 0, []⟩] = recBytes f 0 [] := by simp [encR]
  have e : d.read markNm = (some (str (encR [⟨f, 0, []⟩])), 0) := by unfold ADisk.read; rw [if_neg (by rw [hdn]; decide), hno, henc]
  have hel : (encR [⟨f, 0, []⟩]).length = 15 := by rw [henc, recBytes_len]; rfl
  clear h hno
  go_enter Tryz.func86, Tryz.ntmps86
  go_wp2_with fail
  refine hr.mono ?_
  clear hr
  rintro e1 w1 ⟨v, rfl, hgot, hb⟩
  rw [e] at hgot ⊢
  rw [errN_ok]
  have hsrc : Src w1 v (encR [⟨f, 0, []⟩]) := by
    have : Src w1 v (bytesOf (str (encR [⟨f, 0, []⟩]))) := hgot
    rwa [bytesOf_str (fx_byt hfx)] at this
  have hsc := scanW v (encR [⟨f, 0, []⟩]) w1 hsrc (fx_byt hfx) (by omega)
  obtain ⟨b2, o2, c2, rfl⟩ : ∃ b2 o2 c2, v = .slice (some ⟨b2, o2, none⟩) 15 c2 := by
    rcases hsrc with ⟨_, e⟩ | ⟨b, off, cap, e, _⟩
    · rw [e] at hel; simp at hel
    · exact ⟨b, off, cap, by rw [e, hel]⟩
  have HB : Hid (Below w.heap.size w w1) := hb
  clear hgot hsrc hb
  go_wp2_with fail
  refine (is_nil 8 w1).mono ?_
  rintro e2 w2 ⟨rfl, rfl⟩
  go_wp2_with fail
  refine hsc.mono ?_
  clear hsc
  rintro e3 w3 ⟨k, v3, rfl, hE, hrow, _, hb3⟩
  obtain ⟨z1, z2, z3⟩ := fx_ended hfx
  obtain rfl := ended_unique hE z1
  rw [z2] at hrow
  rw [z3, hel]
  obtain ⟨g3, c3, rfl⟩ := own_pos hrow (by simp)
  have q1 := hrow.cells (g := g3) rfl 0 (.int .u64 (f : Int)) (by simp [recsV, recCells])
  have q2 := hrow.cells (g := g3) rfl 1 (.int .u8 0) (by simp [recsV, recCells])
  have q3 := hrow.cells (g := g3) rfl 2 (.string (str [])) (by simp [recsV, recCells])
  simp only [Addr.add_lit, Nat.zero_add] at q1 q2 q3
  have HB3 : Hid (Below w.heap.size w w3) := HB.out.trans (hb3.mono HB.out.size)
  clear hE hrow hb3 z1 z2 z3
  go_wp2
  go_ret2
  exact ⟨rfl, HB3.out⟩
section
variable {w w5 : World} {B lp p bD bN n nD nN : Nat} {pv sv rv v : Value} {l : ALog} {d : ADisk}
theorem LogIn.segsAt {ss : List Nat} (h : LogIn w B lp p bD bN pv sv rv l d n nD nN) (h5 : Fr sv.ownBlock.toList w w5) (ho : w5.ownsRow B 34 1 v ss.length (u64s ss)) (hnr : Near w.heap.size sv v) (hl : ss.length ≤ n ∧ ∀ s ∈ ss, s < 18446744073709551616) :
    LogIn (w5.setCell ⟨lp, 1, none⟩ v) B lp p bD bN pv v rv { l with segs := ss } d n nD nN ∧ OFr lp p w (w5.setCell ⟨lp, 1, none⟩ v) := by
  have hlp := (Array.getElem?_eq_some_iff.1 h.blk).1
  have hne : lp ∉ sv.ownBlock.toList := by simp; exact own_ne h.segs h.blk (by decide)
  have hb4 : w5.heap[lp]? = some (logO p sv rv l) := (h5.block lp hlp hne).trans h.blk
  obtain ⟨W, hW⟩ : ∃ W, W = w5.setCell ⟨lp, 1, none⟩ v := ⟨_, rfl⟩
  rw [← hW]
  have hfw : Fr [lp] w5 W := by rw [hW]; exact Fr.set1 (by simp) _ _
  have hf : Fr (lp :: sv.ownBlock.toList) w W := (h5.mono (fun k _ hk => List.mem_cons_of_mem _ hk)).trans (hfw.mono (by intro k _ hk; simp at hk; simp [hk]))
  have hb : W.heap[lp]? = some (logO p v rv { l with segs := ss }) := by
    rw [hW]
    have := blk_set hb4 1 v
    simpa using this
  have hs : W.ownsRow B 34 1 v ss.length (u64s ss) := ownsRow_fr ho hfw (fun g hg => by simp; intro e; subst e; exact own_ne ho hb4 (by decide) hg)
  have hr : W.ownsRow B 44 3 rv l.recs.length (recsV l.recs) := ownsRow_fr h.recs hf (fun g hg hm => by
    rcases List.mem_cons.1 hm with e | hm
    · subst e; exact own_ne h.recs h.blk (by decide) hg
    · simp at hm; obtain ⟨c, hcc⟩ := own_cells h.segs hm; exact own_ne h.recs hcc (by decide) hg)
  have hl2 : LogIn W B lp p bD bN pv v rv { l with segs := ss } d n nD nN := h.rows (n' := n) hf (by intro k hk _; rcases List.mem_cons.1 hk with e | hk; exact .inl e; simp at hk; exact .inr (.inl hk)) hb hs hr (Nat.le_refl _) h.disk.hn hl h.recsN h.fillN h.nextN h.durN
  exact ⟨hl2, h.ofr hl2 hf (by intro k hk _; rcases List.mem_cons.1 hk with e | hk; simp [e]; simp at hk; simp [hk]) (.inl rfl) (Near.refl _ _) hnr (Near.refl _ _)⟩
theorem LogIn.recsAt {rs : List Rec} (h : LogIn w B lp p bD bN pv sv rv l d n nD nN) (h5 : Fr rv.ownBlock.toList w w5) (ho : w5.ownsRow B 44 3 v rs.length (recsV rs)) (hnr : Near w.heap.size rv v) (hl : rs.length ≤ n) :
    LogIn (w5.setCell ⟨lp, 3, none⟩ v) B lp p bD bN pv sv v { l with recs := rs } d n nD nN ∧ OFr lp p w (w5.setCell ⟨lp, 3, none⟩ v) := by
  have hlp := (Array.getElem?_eq_some_iff.1 h.blk).1
  have hne : lp ∉ rv.ownBlock.toList := by simp; exact own_ne h.recs h.blk (by decide)
  have hb4 : w5.heap[lp]? = some (logO p sv rv l) := (h5.block lp hlp hne).trans h.blk
  obtain ⟨W, hW⟩ : ∃ W, W = w5.setCell ⟨lp, 3, none⟩ v := ⟨_, rfl⟩
  rw [← hW]
  have hfw : Fr [lp] w5 W := by rw [hW]; exact Fr.set1 (by simp) _ _
  have hf : Fr (lp :: rv.ownBlock.toList) w W := (h5.mono (fun k _ hk => List.mem_cons_of_mem _ hk)).trans (hfw.mono (by intro k _ hk; simp at hk; simp [hk]))
  have hb : W.heap[lp]? = some (logO p sv v { l with recs := rs }) := by
    rw [hW]
    have := blk_set hb4 3 v
    simpa using this
  have hr : W.ownsRow B 44 3 v rs.length (recsV rs) := ownsRow_fr ho hfw (fun g hg => by simp; intro e; subst e; exact own_ne ho hb4 (by decide) hg)
  have hs : W.ownsRow B 34 1 sv l.segs.length (u64s l.segs) := ownsRow_fr h.segs hf (fun g hg hm => by
    rcases List.mem_cons.1 hm with e | hm
    · subst e; exact own_ne h.segs h.blk (by decide) hg
    · simp at hm; obtain ⟨c, hcc⟩ := own_cells h.recs hm; exact own_ne h.segs hcc (by decide) hg)
  have hl2 : LogIn W B lp p bD bN pv sv v { l with recs := rs } d n nD nN := h.rows (n' := n) hf (by intro k hk _; rcases List.mem_cons.1 hk with e | hk; exact .inl e; simp at hk; exact .inr (.inr hk)) hb hs hr (Nat.le_refl _) h.disk.hn h.segsN hl h.fillN h.nextN h.durN
  exact ⟨hl2, h.ofr hl2 hf (by intro k hk _; rcases List.mem_cons.1 hk with e | hk; simp [e]; simp at hk; simp [hk]) (.inl rfl) (Near.refl _ _) (Near.refl _ _) hnr⟩
end
theorem recsV_app (a b : List Rec) : recsV (a ++ b) = recsV a ++ recsV b := by simp [recsV]
end Go.Proofs.YtbdhmkfdofkloaaGreatDoor
