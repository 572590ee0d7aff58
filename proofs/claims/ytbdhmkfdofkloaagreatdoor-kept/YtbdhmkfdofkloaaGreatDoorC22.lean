import Derived.Test.YtbdhmkfdofkloaaGreatDoorC21
import Derived.Test.YtbdhmkfdofkloaaGreatDoorC02
import Derived.RangeFuncNested
import Derived.Test.YtbdhmkfdofkloaaGreatDoorC16
import Derived.Sort.OwnSorted
import Derived.BigQuiet
import Derived.Test.YtbdhmkfdofkloaaGreatDoorC13
import Derived.Test.YtbdhmkfdofkloaaGreatDoorC14
/- SORTING NUMBERS (uint64), many of them: slices.Sort; slices.BinarySearch. -/
namespace Go.Proofs.YtbdhmkfdofkloaaGreatDoor
open Go.RowKit Go.Maps
open Sc

theorem bitLen_le (n : Nat) : Lib.bitLen n ≤ 1000 := by
  have := (bitLen_pow 64 n).2
  unfold Lib.bitLen
  omega
set_option maxRecDepth 100000 in
set_option maxHeartbeats 2000000 in
/-- whatever is sorted: no two being the same -/
theorem sortU_all (B g n cap : Nat) (l : List Nat) (w : World) (h : w.ownsRow B 34 1 (.slice (some ⟨g, 0, none⟩) n cap) n (u64s l)) (hl : l.length = n) (hn : n ≤ 67108864) (hnd : l.Nodup) :
    Calls Tryz.prog 115 #[.slice (some ⟨g, 0, none⟩) n cap] w fun e w' => e = .returned (.tuple #[]) ∧ ∃ l', SrtIn w w' B g n cap l l' ∧ AscTo l' n := by
  have hs : SU w w B g n cap l.toArray := ⟨by simpa using hl, by simpa using h, Fr.refl _ _⟩
  have hp := pdqU B g n cap hn (n + 1) 0 n (Lib.bitLen n) l.toArray w w (by omega) hs (Nat.zero_le _) (Nat.le_refl _) (bitLen_le n) (.inl rfl) ((ndN_iff _).2 (by simpa using hnd))
  have HL : Hid (l.length = n) := hl
  clear h hl hnd hs
  go_enter Tryz.func115, Tryz.ntmps115
  have jn : IntKind.u64.wrap (n : Int) = (n : Int) := by rw [IntKind.wrap_u64]; omega
  go_wp2_with fail
  refine (Tryz.bits_Len n w (by omega) (by omega)).mono ?_
  rintro e w1 ⟨rfl, rfl⟩
  go_wp2_with fail
  refine hp.mono ?_
  rintro e w2 ⟨rfl, d', hs2, hp2, ho2⟩
  have HQ : Hid (SU w1 w2 B g n cap d' ∧ Go.Sort.PermIn 0 n l.toArray d' ∧ SortN 0 n d') := ⟨hs2, hp2, ho2⟩
  clear hs2 hp2 ho2 hp
  go_wp2
  go_end0
  obtain ⟨q1, q2, q3⟩ := HQ.out
  have hle : n ≤ l.toArray.size := by have := HL.out; simp; omega
  refine ⟨rfl, d'.toList, ⟨by have := permIn_list hle q2; simpa using this, q1.row, q1.fr⟩, fun a b hab hb => ?_⟩
  have hz := q1.sz
  have h1 := q3 a b (Nat.zero_le _) hab hb
  rw [at_bang (by omega), at_bang (by omega)] at h1
  simp only [List.getD_eq_getElem?_getD]
  rw [List.getElem?_eq_getElem (by simp; omega), List.getElem?_eq_getElem (by simp; omega)]
  simp only [Option.getD_some, Array.getElem_toList]
  omega
set_option maxHeartbeats 1000000 in
theorem nanS (x : Int) (w : World) : Calls Tryz.prog 117 #[.int .u64 x] w fun e w' => e = .returned (.bool false) ∧ w' = w := by
  go_enter Tryz.func117, Tryz.ntmps117
  go_wp2
  go_ret
  exact ⟨rfl, rfl⟩
theorem asc_at {us : List Nat} (hp : us.Pairwise (· < ·)) {i j u v : Nat} (hij : i < j) (hi : us[i]? = some u) (hj : us[j]? = some v) : u < v := by
  rw [List.pairwise_iff_getElem] at hp
  obtain ⟨h1, rfl⟩ := List.getElem?_eq_some_iff.1 hi
  obtain ⟨h2, rfl⟩ := List.getElem?_eq_some_iff.1 hj
  exact hp i j h1 h2 hij
/-- what a search tells -/
def SrPost (us : List Nat) (n t : Nat) (w : World) (e : Ending) (w' : World) : Prop :=
  ∃ (k : Nat) (b : Bool), e = .returned (.tuple #[.int .i64 (k : Int), .bool b]) ∧ k ≤ n ∧ (∀ (j u : Nat), us[j]? = some u → (j < k → u < t) ∧ (k ≤ j → t ≤ u)) ∧ w' = w
set_option maxRecDepth 100000 in
set_option maxHeartbeats 4000000 in
theorem search_all (g cap n t : Nat) (us : List Nat) (w : World) (hc : ∀ (k u : Nat), us[k]? = some u → w.cell? ⟨g, k, none⟩ = some (.int .u64 (u : Int))) (hl : us.length = n) (hp : us.Pairwise (· < ·)) (hn : n ≤ 67108864) :
    Calls Tryz.prog 88 #[.slice (some ⟨g, 0, none⟩) n cap, .int .u64 (t : Int)] w (SrPost us n t w) := by
  have HC : Hid ((∀ (k u : Nat), us[k]? = some u → w.cell? ⟨g, k, none⟩ = some (.int .u64 (u : Int))) ∧ us.length = n ∧ us.Pairwise (· < ·)) := ⟨hc, hl, hp⟩
  clear hc hl hp
  go_enter Tryz.func88, Tryz.ntmps88
  go_wp2
  go_loopw [7, 8] (fun i j wr => ∃ I J : Nat, i = .int .i64 I ∧ j = .int .i64 J ∧ I ≤ J ∧ J ≤ n ∧ Hid (wr = w ∧ ∀ (k u : Nat), us[k]? = some u → (k < I → u < t) ∧ (J ≤ k → t ≤ u))) (fun i j _ => (intOf j).toNat - (intOf i).toNat)
  case atStart => exact ⟨0, n, rfl, rfl, Nat.zero_le _, Nat.le_refl _, rfl, fun k u hk => ⟨fun h => by omega, fun h => by have := (List.getElem?_eq_some_iff.1 hk).1; have := HC.out.2.1; omega⟩⟩
  case round =>
    obtain ⟨I, J, rfl, rfl, hIJ, hJn, hR0⟩ := hrel
    obtain ⟨rfl, hR1⟩ := hR0.out
    have hR : Hid (∀ (k u : Nat), us[k]? = some u → (k < I → u < t) ∧ (J ≤ k → t ≤ u)) := hR1
    clear hR0 hR1
    by_cases hlt : I < J
    · have l1 : (I : Int) < (J : Int) := by omega
      have k1 : IntKind.i64.wrap ((I : Int) + (J : Int)) = (I : Int) + (J : Int) := by rw [IntKind.wrap_i64]; omega
      have k2 : IntKind.u64.wrap ((I : Int) + (J : Int)) = (I : Int) + (J : Int) := by rw [IntKind.wrap_u64]; omega
      have k3 : IntKind.i64.wrap (((I : Int) + (J : Int)) / 2 + 1) = (((I + J) / 2 + 1 : Nat) : Int) := by rw [IntKind.wrap_i64]; omega
      obtain ⟨u, hu⟩ : ∃ u, us[(I + J) / 2]? = some u := ⟨_, List.getElem?_eq_getElem (by have := HC.out.2.1; omega)⟩
      have cu := HC.out.1 _ u hu
      have HU : Hid (us[(I + J) / 2]? = some u) := hu
      clear hu
      go_wp2_with fail
      refine (lessU _ _ _).mono ?_
      rintro e w1 ⟨rfl, rfl⟩
      by_cases hx : (u : Int) < (t : Int)
      · rw [decide_eq_true hx]
        have HN : Hid (∀ (k u : Nat), us[k]? = some u → (k < (I + J) / 2 + 1 → u < t) ∧ (J ≤ k → t ≤ u)) := fun k v hk => ⟨fun hlt2 => by
          rcases Nat.lt_or_ge k ((I + J) / 2) with h1 | h1
          · have := asc_at HC.out.2.2 h1 hk HU.out; omega
          · obtain rfl : k = (I + J) / 2 := by omega
            have := HU.out; rw [hk] at this; cases this; omega, (hR.out k v hk).2⟩
        go_wp2
        go_roundw
        case rel => exact ⟨(I + J) / 2 + 1, J, by simp, rfl, by omega, hJn, by first | trivial | rfl, HN.out⟩
        case measure => simp [intOf]; omega
      · rw [decide_eq_false hx]
        have HN : Hid (∀ (k u : Nat), us[k]? = some u → (k < I → u < t) ∧ ((I + J) / 2 ≤ k → t ≤ u)) := fun k v hk => ⟨(hR.out k v hk).1, fun hlt2 => by
          rcases Nat.lt_or_ge ((I + J) / 2) k with h1 | h1
          · have := asc_at HC.out.2.2 h1 HU.out hk; omega
          · obtain rfl : k = (I + J) / 2 := by omega
            have := HU.out; rw [hk] at this; cases this; omega⟩
        go_wp2
        go_roundw
        case rel => exact ⟨I, (I + J) / 2, rfl, by simp, by omega, by omega, by first | trivial | rfl, HN.out⟩
        case measure => simp [intOf]; omega
    · have l1 : ¬ (I : Int) < (J : Int) := by omega
      obtain rfl : I = J := by omega
      by_cases hIn : I < n
      · have l2 : (I : Int) < (n : Int) := by omega
        obtain ⟨u, hu⟩ : ∃ u, us[I]? = some u := ⟨_, List.getElem?_eq_getElem (by have := HC.out.2.1; omega)⟩
        have cu := HC.out.1 _ u hu
        by_cases hq : (u : Int) = (t : Int)
        · go_wp2
          go_ret2
          exact ⟨I, _, rfl, hJn, hR.out, rfl⟩
        · go_wp2_with fail
          refine (nanS _ _).mono ?_
          rintro e w1 ⟨rfl, rfl⟩
          go_wp2
          go_ret2
          exact ⟨I, _, rfl, hJn, hR.out, rfl⟩
      · have l2 : ¬ (I : Int) < (n : Int) := by omega
        go_wp2
        go_ret2
        exact ⟨I, _, rfl, hJn, hR.out, rfl⟩
end Go.Proofs.YtbdhmkfdofkloaaGreatDoor
/- WALKS THROUGH MAPS BY THEIR KEYS: small facts. -/
namespace Go.Proofs.YtbdhmkfdofkloaaGreatDoor
open Go.RowKit Go.Maps
open Sc

theorem cell_blk0 {w : World} {p : Nat} {c : Array Value} {t : TypeId} (h : w.heap[p]? = some (.cells c t (0, 0))) (i : Nat) : w.cell? ⟨p, i, none⟩ = c[i]? := by simp [World.cell?, h]
theorem own_base0 {w : World} {B B' n : Nat} {e : TypeId} {k : Nat} {v : Value} {xs : List Value} (h : w.ownsRow B e k v n xs) (hB : B' ≤ B) : w.ownsRow B' e k v n xs := by
  refine ⟨h.1, ?_⟩
  rcases h.2 with h2 | ⟨g, cap, cur, hv, hb, r⟩
  · exact .inl h2
  · exact .inr ⟨g, cap, cur, hv, Nat.le_trans hB hb, r⟩
theorem cells_new (w : World) (cs : Array Value) (t : TypeId) : ∀ j u, cs.toList[j]? = some u → (w.alloc (.cells cs t)).cell? ((⟨w.heap.size, 0, none⟩ : Addr).add j) = some u := by
  intro j u hj
  have hn : (w.alloc (.cells cs t)).heap[w.heap.size]? = some (.cells cs t (0, 0)) := World.alloc_heap_new w _
  have : ((⟨w.heap.size, 0, none⟩ : Addr).add j) = ⟨w.heap.size, j, none⟩ := by simp [Addr.add]; exact fun h => h.symm
  rw [this, cell_blk0 hn]
  simpa using hj
end Go.Proofs.YtbdhmkfdofkloaaGreatDoor
/- RECOVERY: (*disk).Names. -/
namespace Go.Proofs.YtbdhmkfdofkloaaGreatDoor
open Go.RowKit Go.Maps Go.Sort
open Sc

/-- the names of the files, each once -/
def NamesOk (m : Files) (ns : List ByteArray) : Prop := ns.Nodup ∧ ∀ k, k ∈ ns ↔ m k ≠ none
set_option maxRecDepth 100000 in
set_option maxHeartbeats 2000000 in
theorem names_any (B p bD bN n nD nN : Nat) (pv : Value) (d : ADisk) (w : World) (h : DiskIn w B p bD bN pv d n nD nN) (hdn : d.down = false) :
    Calls Tryz.prog 236 #[.pointer (some ⟨p, 0, none⟩)] w fun e w' => ∃ v ns, e = .returned (.tuple #[v, .nilIface]) ∧ NamesOk d.now ns ∧ w'.ownsRow w.heap.size 9 1 v ns.length (ns.map Value.string) ∧ Below w.heap.size w w' := by
  have c1 := blk_cell h.blk 1
  have c5 := blk_cell h.blk 5
  simp at c1 c5
  rw [hdn] at c5
  have hN := h.hN
  have hn := h.hn
  obtain ⟨D, hown, h5⟩ := h.now
  have hsz := hown.size_le
  have H5 : Hid (∀ k : ByteArray, (d.now k = none → Maps.has D (keyL k) = false) ∧ (∀ t, d.now k = some t → Maps.has D (keyL k) = true)) := fun k => ⟨(h5 k).1, fun t ht => ((h5 k).2 t ht).1⟩
  have HO : Hid (w.ownsMap Tryz.prog 9 ptrElem bN nN D) := hown
  clear h h5
  obtain ⟨i0, hi, hz0, hz1, hz2⟩ := info_parts Tryz.infoStr
  go_enter Tryz.func236, Tryz.ntmps236
  go_wp2_with (first
    | (at_range; refine wpList_range_own _ rfl _ 54 rfl 9 87 Tryz.lawS Tryz.underlying54 ptrElem bN nN D rfl hown ?_; intro w0 hrg0 hg0 hs0)
    | go_in)
  go_frame
  have hbl : Below w.heap.size w w0 := ⟨hg0.os, hg0.tape, hg0.output, hg0.size, fun k hk => hg0.block k hk (by simp)⟩
  have HS : Hid (w0.ranges Tryz.prog 9 ptrElem bN w.heap.size nN D (Maps.has D) (Maps.size D) ∧ Below w.heap.size w w0) := ⟨hrg0, hbl⟩
  clear hrg0 hg0 hbl hown
  go_loopw [4] (fun v wr => ∃ (left : Lit → Bool) (cnt : Nat) (ss : List (List UInt8)), Hid (wr.ranges Tryz.prog 9 ptrElem bN w.heap.size nN D left cnt ∧ ss.length + cnt ≤ Maps.size D ∧ Collected D left ss ∧ wr.ownsRow (w.heap.size + 1) 9 1 v ss.length (ss.map encStr) ∧ Below w.heap.size w wr ∧ w.heap.size + 1 ≤ wr.heap.size))
    (fun _ wr => wr.rangeLeft bN w.heap.size)
  case atStart => exact ⟨_, _, [], HS.out.1, by simp, Collected.start D, World.ownsRow_nil _ _ _ _, HS.out.2, by omega⟩
  case round =>
    obtain ⟨left, cnt, ss, HX⟩ := hrel
    have hrg := HX.out.1
    go_wp2_with (first
      | (at_next; refine wpList_next_ranges _ rfl _ rfl 9 Tryz.lawS ptrElem encStr Value.pointer (fun key kl hk => by obtain ⟨x, hx, _⟩ := Maps.keyOf_str Tryz.underlying9 hk; exact ⟨x, hx⟩) (fun v y hv => ptrElem_shape hv) bN w.heap.size nN _ _ _ rfl hrg ?_ ?_)
      | go_in)
    · intro hc0 hl0
      have hC := HX.out.2.2.1
      have hNames : ∀ ts : List (List UInt8), ts.Perm ss → NamesOk d.now (ts.map fun x => ⟨x.toArray⟩) := fun ts hp => by
        refine ⟨?_, fun k => ?_⟩
        · refine List.Pairwise.map _ (fun a b hab e => hab ?_) (hp.nodup_iff.2 hC.1)
          have := congrArg (fun x : ByteArray => x.data.toList) e
          simpa using this
        · have e1 : k ∈ (ts.map fun x => (⟨x.toArray⟩ : ByteArray)) ↔ k.data.toList ∈ ss := by
            rw [← hp.mem_iff, List.mem_map]
            constructor
            · rintro ⟨x, hx, rfl⟩; simpa using hx
            · intro hk; exact ⟨_, hk, by simp⟩
          rw [e1, hC.2]
          have := H5.out k
          cases hk : d.now k with
          | none => rw [show Lit.string k.data.toList = keyL k from rfl, this.1 hk]; simp
          | some t => rw [show Lit.string k.data.toList = keyL k from rfl, this.2 t hk]; simp [hl0]
      have HNM : Hid (∀ ts : List (List UInt8), ts.Perm ss → NamesOk d.now (ts.map fun x => ⟨x.toArray⟩)) := hNames
      clear hNames hC
      rcases HX.out.2.2.2.1.2 with ⟨rfl, hz⟩ | ⟨gb, cap, cur, rfl, hbase, hgb, r1, r2, r3, r4⟩
      · have hss : ss = [] := List.eq_nil_of_length_eq_zero hz
        subst hss
        go_wp2_with fail
        refine (Tryz.sort_Strings_none none 0 wr).mono ?_
        rintro e w1 ⟨rfl, rfl⟩
        go_wp2
        go_ret2
        exact ⟨.slice none 0 0, [], rfl, HNM.out [] (List.Perm.refl _), World.ownsRow_nil _ _ _ _, HX.out.2.2.2.2.1⟩
      · have hH : Holds encStr wr gb 0 ss.toArray := holds_of_block hgb (by simpa using r4)
        have hgl : gb < wr.heap.size := (Array.getElem?_eq_some_iff.1 hgb).1
        have hlen : ss.length < 4611686018427387904 := by have := HX.out.2.1; omega
        have HG : Hid (wr.heap[gb]? = some (.cells cur 9 (0, 0)) ∧ ss.length ≤ cap ∧ cap ≤ maxLen ∧ cur.size = cap * 1) := ⟨hgb, r1, r2, r3⟩
        clear hgb r1 r2 r3 r4
        go_wp2_with fail
        refine (Tryz.sort_Strings gb 0 cap ss wr hH hgl hlen).mono ?_
        rintro e w1 ⟨rfl, nn, os, rfl⟩
        have hrow := ownsRow_sorted (n := nn) (os := os) (ts := ss.mergeSort fun x y => decide (x ≤ y)) (by simp) hbase HG.out.1 HG.out.2.1 HG.out.2.2.1 HG.out.2.2.2
        have hgr := grownBy_sorted (w := wr) (g := gb) (n := nn) (os := os) (ss.mergeSort fun x y => decide (x ≤ y)).toArray
        obtain ⟨W2, hW2⟩ : ∃ W2, W2 = grow (putRow encStr (Sort.ahead wr nn) gb 0 (ss.mergeSort fun x y => decide (x ≤ y)).toArray) os := ⟨_, rfl⟩
        rw [← hW2] at hrow hgr ⊢
        clear hW2
        go_wp2
        go_ret2
        refine ⟨.slice (some ⟨gb, 0, none⟩) ss.length cap, (ss.mergeSort fun x y => decide (x ≤ y)).map fun x => ⟨x.toArray⟩, rfl, HNM.out _ (List.mergeSort_perm _ _), ?_, HX.out.2.2.2.2.1.grown hgr (by omega) (fun j hj => by cases hj; omega)⟩
        rw [List.map_map]
        have e : (ss.mergeSort fun x y => decide (x ≤ y)).length = ss.length := by simp
        rw [List.length_map, e]
        exact own_base0 hrow (by omega)
    · intro x c kl yd yp w2 cnt2 hkey hlk hv hat hrg2 hlt hg2 hs2 hen
      obtain ⟨x', ex, rfl, hxl⟩ := Maps.keyOf_str Tryz.underlying9 hkey
      obtain rfl : x = x' := encStr_inj ex
      have hrow2 : w2.ownsRow (w.heap.size + 1) 9 1 _ ss.length (ss.map encStr) := HX.out.2.2.2.1.kept hg2 (by
        rcases HX.out.2.2.2.1.2 with ⟨rfl, _⟩ | ⟨gb, cap, cur, rfl, hbase, _⟩
        · exact .inl rfl
        · exact .inr (by simp [Value.ownBlock]; omega))
      have HN2 : Hid (w2.ranges Tryz.prog 9 ptrElem bN w.heap.size nN D (fun z => left z && !z.sameKey (.string x)) cnt2 ∧ ss.length + 1 + cnt2 ≤ Maps.size D ∧ Collected D (fun z => left z && !z.sameKey (.string x)) (ss ++ [x]) ∧ Below w.heap.size w w2 ∧ w.heap.size + 1 ≤ w2.heap.size ∧ w2.rangeLeft bN w.heap.size < wr.rangeLeft bN w.heap.size) := by
        refine ⟨hrg2, by have := HX.out.2.1; omega, HX.out.2.2.1.step hlk hat, HX.out.2.2.2.2.1.grown hg2 (by have := HX.out.2.2.2.2.2; omega) (fun j hj => by cases hj; omega), by rw [hs2]; exact HX.out.2.2.2.2.2, by rw [hrg2.left_eq, hrg.left_eq]; exact hlt⟩
      have hsm : ss.length + 1 ≤ 67108864 := by have := HN2.out.2.1; omega
      clear hs2 hrg hrg2 hlt
      go_wp2_with (first
        | (at_builtin; refine wpList_append_own _ rfl _ _ 25 rfl (w.heap.size + 1) 9 i0 _ 1 16 Tryz.underlying25 hi hz0 hz1 hz2 rfl (by decide) _ ss.length _ rfl (hrow2.alloc _) ⟨w2.heap.size, 0, none⟩ 1 1 [encStr x] rfl rfl (cells_new _ #[encStr x] _) (by intro u hu; simp at hu; subst hu; rfl) (by unfold maxLen; omega) (by omega) (by simp; have := HN2.out.2.2.2.2.1; omega) ?_; intro v' w3 hown' hgrow _)
        | fail)
      have hfr3 : ∀ k, k < w2.heap.size → k < w.heap.size + 1 → w3.heap[k]? = w2.heap[k]? := fun k hk hk2 => (hgrow.block k (by simp; omega) (fun e => by have := (hrow2.lt k e.symm).1; omega)).trans (Below.heap_alloc _ _ k hk)
      have hbN : bN < w.heap.size := HO.out.lt
      have hw2s := HN2.out.2.2.2.2.1
      have hrg3 : w3.ranges Tryz.prog 9 ptrElem bN w.heap.size nN D (fun z => left z && !z.sameKey (.string x)) cnt2 := by
        have := HN2.out.1
        unfold World.ranges at this ⊢
        rw [hfr3 bN (by omega) (by omega), hfr3 w.heap.size (by omega) (by omega)]
        exact this
      go_roundw
      case rel =>
        refine ⟨_, cnt2, ss ++ [x], hrg3, by simp; have := HN2.out.2.1; omega, HN2.out.2.2.1, by simpa using hown', ?_, by have := hgrow.size; simp at this; omega⟩
        exact ⟨hgrow.os.trans HN2.out.2.2.2.1.os, hgrow.tape.trans HN2.out.2.2.2.1.tape, hgrow.output.trans HN2.out.2.2.2.1.output, by have := hgrow.size; simp at this; omega, fun k hk => (hfr3 k (by omega) (by omega)).trans (HN2.out.2.2.2.1.block k hk)⟩
      case measure => rw [hrg3.left_eq, ← HN2.out.1.left_eq]; exact HN2.out.2.2.2.2.2
end Go.Proofs.YtbdhmkfdofkloaaGreatDoor
/- write over Append's steps. -/
namespace Go.Proofs.YtbdhmkfdofkloaaGreatDoor
open Go.RowKit
open Sc

/-- write, when the steps come to r -/
def ALog.wr (l : ALog) (d : ADisk) (r : ALog × ADisk × Nat) : ALog × ADisk × Nat :=
  if l.failed = 0 then ({ r.1 with failed := r.2.2 }, r.2.1, r.2.2) else (l, d, l.failed)
theorem Tryz.eqNil (p : Nat) (w : World) : (binOp .eql 89 (dskV p) .nilIface).run Tryz.prog w = .ok (.bool false) w := by kernel_rfl
theorem LogIn.fail {w w' : World} {B lp p bD bN n nD nN c : Nat} {pv sv rv : Value} {l : ALog} {d : ADisk} (h : LogIn w B lp p bD bN pv sv rv l d n nD nN) (hw : w' = w.setCell ⟨lp, 6, none⟩ (errN c)) : LogIn w' B lp p bD bN pv sv rv { l with failed := c } d n nD nN ∧ Fr [lp] w w' := by
  subst hw
  have hf : Fr [lp] w (w.setCell ⟨lp, 6, none⟩ (errN c)) := Fr.set1 (by simp) _ _
  refine ⟨h.own1 hf ?_ h.segsN h.recsN h.fillN h.nextN h.durN rfl rfl, hf⟩
  have := blk_set h.blk 6 (errN c); simpa using this
set_option maxRecDepth 100000 in
set_option maxHeartbeats 4000000 in
theorem writeA (B lp p bD bN n nD nN bl bb g cap base gst : Nat) (pv sv rv : Value) (l : ALog) (d : ADisk) (by_ : List Nat) (w : World) (h : LogIn w B lp p bD bN pv sv rv l d n nD nN) (hn : n + 1 < 67108864) (hB : 2 ≤ B) (hsg : l.filled < 600 → l.segs ≠ [])
    (hst : w.heap[gst]? = some (.cells #[.func (.func 48) #[.pointer (some ⟨lp, 0, none⟩)] #[], .func (.func 49) #[] #[.pointer (some ⟨bl, 0, none⟩), .pointer (some ⟨bb, 0, none⟩)]] 78))
    (hbl : w.heap[bl]? = some (.cells #[.pointer (some ⟨lp, 0, none⟩)] 58)) (hbb : w.heap[bb]? = some (.cells #[.slice (some ⟨g, 0, none⟩) by_.length cap] 95))
    (hr : w.ownsRow base 5 1 (.slice (some ⟨g, 0, none⟩) by_.length cap) by_.length (bs by_)) (hm2 : by_.length ≤ 4096) (hpow : Pows w) :
    Calls Tryz.prog 47 #[.pointer (some ⟨lp, 0, none⟩), .slice (some ⟨gst, 0, none⟩) 2 2] w (PutL B lp p bD bN (n + 2) [g] (l.wr d (l.put d by_)) w) := by
  have c0 := blk_cell h.blk 0
  have c6 := blk_cell h.blk 6
  simp at c0 c6
  have HI : Hid (LogIn w B lp p bD bN pv sv rv l d n nD nN) := h
  have hnil := Tryz.eqNil p
  by_cases hf : l.failed = 0
  · rw [hf, errN_ok] at c6
    have e : l.wr d (l.put d by_) = ({ (l.put d by_).1 with failed := (l.put d by_).2.2 }, (l.put d by_).2.1, (l.put d by_).2.2) := by unfold ALog.wr; rw [if_pos hf]
    rw [e]
    clear e
    go_enter Tryz.func47, Tryz.ntmps47
    go_wp2_with fail
    refine (inTurnA B lp p bD bN n nD nN bl bb g cap base gst pv sv rv l d by_ w HI.out hn hB hsg hst hbl hbb hr hm2 hpow).mono ?_
    rintro e w1 ⟨rfl, ⟨pv1, sv1, rv1, nD1, nN1, hl1⟩, ho1⟩
    have H1 : Hid (LogIn w1 B lp p bD bN pv1 sv1 rv1 (l.put d by_).1 (l.put d by_).2.1 (n + 2) nD1 nN1) := hl1
    have HO : Hid (OFx [g] lp p w w1) := ho1
    have k6 := blk_cell hl1.blk 6
    have f6 := blk_free hl1.blk 6
    simp at k6
    clear hl1 ho1 hst hbl hbb hr h
    by_cases hc : (l.put d by_).2.2 = 0
    · rw [hc, errN_ok]
      go_wp2
      go_ret
      obtain ⟨hl2, hf2⟩ := H1.out.fail (c := 0) rfl
      unfold PutL
      simp only
      rw [hc]
      exact ⟨rfl, ⟨pv1, sv1, rv1, nD1, nN1, hl2⟩, HO.out.trans (H1.out.ofx hl2 hf2 (by intro k hk _; simp at hk; simp [hk]) (Near.refl _ _) (Near.refl _ _) (Near.refl _ _))⟩
    · have he := errN_no hc
      obtain ⟨hl2, hf2⟩ := H1.out.fail (c := (l.put d by_).2.2) rfl
      rw [he] at hl2 hf2 ⊢
      have H2 : Hid (LogIn (w1.setCell ⟨lp, 6, none⟩ (.iface 32 (.int .i64 ((l.put d by_).2.2 : Int)))) B lp p bD bN pv1 sv1 rv1 { (l.put d by_).1 with failed := (l.put d by_).2.2 } (l.put d by_).2.1 (n + 2) nD1 nN1) := hl2
      clear hl2
      go_wp2
      go_ret
      exact ⟨by simp only; rw [he]; rfl, ⟨pv1, sv1, rv1, nD1, nN1, H2.out⟩, HO.out.trans (H1.out.ofx H2.out hf2 (by intro k hk _; simp at hk; simp [hk]) (Near.refl _ _) (Near.refl _ _) (Near.refl _ _))⟩
  · rw [errN_no hf] at c6
    have e : l.wr d (l.put d by_) = (l, d, l.failed) := by unfold ALog.wr; rw [if_neg hf]
    rw [e]
    go_enter Tryz.func47, Tryz.ntmps47
    go_wp2
    go_ret
    exact ⟨by simp only; rw [errN_no hf]; rfl, ⟨pv, sv, rv, nD, nN, (HI.out.more (by omega)).more (by omega)⟩, (OFr.refl _ _ _).x⟩
end Go.Proofs.YtbdhmkfdofkloaaGreatDoor
/- (*Log).Append. -/
namespace Go.Proofs.YtbdhmkfdofkloaaGreatDoor
open Go.RowKit
open Sc

theorem foldl_push (l : List UInt8) (a : ByteArray) : (l.foldl (fun r n => r.push n) a).data.toList = a.data.toList ++ l := by
  induction l generalizing a with
  | nil => simp
  | cons x l ih => rw [List.foldl_cons, ih]; simp [ByteArray.push]
theorem strOf_bytes (s : ByteArray) : str (bytesOf s) = s := by
  have h : str (bytesOf s) = s.data.toList.foldl (fun r n => r.push n) ByteArray.empty := by
    unfold str bytesOf
    rw [List.map_map, List.foldl_map]
    congr 1
    funext r n
    simp
  have h2 := foldl_push s.data.toList ByteArray.empty
  rw [← h] at h2
  have h3 : (str (bytesOf s)).data = s.data := by
    apply Array.toList_inj.1
    rw [h2]; simp
  cases hs : str (bytesOf s)
  cases s
  rw [hs] at h3
  simp at h3
  rw [h3]
def ALog.append (l : ALog) (d : ADisk) (kind : Nat) (s : ByteArray) : ALog × ADisk × Nat × Nat :=
  if 255 < s.size then (l, d, 0, 1)
  else if (l.wr d (l.put d (recBytes l.next kind (bytesOf s)))).2.2 = 0 then
    ({ (l.wr d (l.put d (recBytes l.next kind (bytesOf s)))).1 with filled := (l.wr d (l.put d (recBytes l.next kind (bytesOf s)))).1.filled + (15 + s.size), recs := (l.wr d (l.put d (recBytes l.next kind (bytesOf s)))).1.recs ++ [⟨(l.wr d (l.put d (recBytes l.next kind (bytesOf s)))).1.next, kind, bytesOf s⟩], next := (l.wr d (l.put d (recBytes l.next kind (bytesOf s)))).1.next + 1 },
      (l.wr d (l.put d (recBytes l.next kind (bytesOf s)))).2.1, (l.wr d (l.put d (recBytes l.next kind (bytesOf s)))).1.next, 0)
  else ((l.wr d (l.put d (recBytes l.next kind (bytesOf s)))).1, (l.wr d (l.put d (recBytes l.next kind (bytesOf s)))).2.1, 0, (l.wr d (l.put d (recBytes l.next kind (bytesOf s)))).2.2)
theorem put_filled {l : ALog} {d : ADisk} {by_ : List Nat} (h : (l.put d by_).2.2 = 0) : (l.put d by_).1.filled < 600 := by
  unfold ALog.put at *
  by_cases hr : (l.room d).2.2 = 0
  · rw [if_pos hr]
    show (l.room d).1.filled < 600
    unfold ALog.room at *
    by_cases hf : l.filled < 600
    · rw [if_pos hf]; exact hf
    · rw [if_neg hf] at hr ⊢
      by_cases hs : (l.sync d).2.2 = 0
      · rw [if_pos hs]; show 0 < 600; omega
      · rw [if_neg hs] at hr; exact absurd hr hs
  · rw [if_neg hr] at h; exact absurd h hr
theorem wr_filled {l : ALog} {d : ADisk} {by_ : List Nat} (h : (l.wr d (l.put d by_)).2.2 = 0) : (l.wr d (l.put d by_)).1.filled < 600 := by
  unfold ALog.wr at *
  by_cases hf : l.failed = 0
  · rw [if_pos hf] at h ⊢; exact put_filled h
  · rw [if_neg hf] at h; exact absurd h hf
def AppPost (B lp p bD bN n : Nat) (r : ALog × ADisk × Nat × Nat) (w : World) (e : Ending) (w' : World) : Prop :=
  e = .returned (.tuple #[.int .u64 (r.2.2.1 : Int), errN r.2.2.2]) ∧ (∃ pv sv rv nD nN, LogIn w' B lp p bD bN pv sv rv r.1 r.2.1 n nD nN) ∧ OFr lp p w w'
theorem LogIn.new {w w' : World} {B lp p bD bN n nD nN : Nat} {pv sv rv : Value} {l : ALog} {d : ADisk} (h : LogIn w B lp p bD bN pv sv rv l d n nD nN) (hf : Fr [] w w') : LogIn w' B lp p bD bN pv sv rv l d n nD nN :=
  h.turned (h.disk.new hf) hf (by simp) (Nat.le_refl _)
theorem LogIn.newO {w w' : World} {B lp p bD bN n nD nN : Nat} {pv sv rv : Value} {l : ALog} {d : ADisk} (h : LogIn w B lp p bD bN pv sv rv l d n nD nN) (hf : Fr [] w w') : OFr lp p w w' :=
  h.ofr (h.new hf) hf (by simp) (.inl rfl) (Near.refl _ _) (Near.refl _ _) (Near.refl _ _)
set_option maxRecDepth 100000 in
set_option maxHeartbeats 4000000 in
theorem lappend_no (B lp p bD bN n nD nN kind : Nat) (pv sv rv : Value) (l : ALog) (d : ADisk) (s : ByteArray) (w : World) (h : LogIn w B lp p bD bN pv sv rv l d n nD nN) (hs : 255 < s.size) (hn : n + 1 < 67108864) :
    Calls Tryz.prog 29 #[.pointer (some ⟨lp, 0, none⟩), .int .u8 (kind : Int), .string s] w (AppPost B lp p bD bN (n + 2) (l.append d kind s) w) := by
  have e : l.append d kind s = (l, d, 0, 1) := by unfold ALog.append; rw [if_pos hs]
  rw [e]
  have hlp := (Array.getElem?_eq_some_iff.1 h.blk).1
  have c4 := blk_cell h.blk 4
  simp at c4
  have c4' : ∀ ob, (w.alloc ob).cell? ⟨lp, 4, none⟩ = some (.int .u64 (l.next : Int)) := fun ob => (World.cell?_of_block (a := ⟨lp, 4, none⟩) (Below.heap_alloc w ob lp hlp)).trans c4
  have HI : Hid (LogIn w B lp p bD bN pv sv rv l d n nD nN) := h
  clear h e
  go_enter Tryz.func29, Tryz.ntmps29
  go_wp2_with fail
  refine (encodeR_no (l.next : Int) (kind : Int) s _ hs).mono ?_
  rintro e w1 ⟨rfl, hb1⟩
  have hf1 : Fr [] w w1 := ((Fr.refl [] w).alloc _).trans (Fr.of_below hb1 [])
  clear hb1
  go_wp2
  go_ret2
  have hf2 : Fr [] w (w1.alloc (.cells #[.slice none 0 0] 95)) := hf1.alloc _
  exact ⟨rfl, ⟨pv, sv, rv, nD, nN, ((HI.out.new hf2).more (by omega)).more (by omega)⟩, HI.out.newO hf2⟩
end Go.Proofs.YtbdhmkfdofkloaaGreatDoor
/- (*Log).segmentsBelow. -/
namespace Go.Proofs.YtbdhmkfdofkloaaGreatDoor
open Go.RowKit
open Sc

/-- how many segments lie below low whole, from k on -/
def belowFrom (segs : List Nat) (low : Nat) : Nat → Nat → Nat
  | 0, k => k
  | f + 1, k => match segs[k + 1]? with
    | none => k
    | some s => if s ≤ low then belowFrom segs low f (k + 1) else k
def segsBelow (segs : List Nat) (low : Nat) : Nat := belowFrom segs low segs.length 0
end Go.Proofs.YtbdhmkfdofkloaaGreatDoor
/- (*Log).Cut's steps. -/
namespace Go.Proofs.YtbdhmkfdofkloaaGreatDoor
open Go.RowKit
open Sc

theorem own_pos {w : World} {B n : Nat} {e : TypeId} {k : Nat} {v : Value} {xs : List Value} (h : w.ownsRow B e k v n xs) (hn : 0 < n) : ∃ g cap, v = .slice (some ⟨g, 0, none⟩) n cap := by
  rcases h.2 with ⟨_, h3⟩ | ⟨g, cap, cur, rfl, _⟩
  · omega
  · exact ⟨g, cap, rfl⟩
end Go.Proofs.YtbdhmkfdofkloaaGreatDoor
/- RECOVERY: segmentsAmong, BinarySearch. -/
namespace Go.Proofs.YtbdhmkfdofkloaaGreatDoor
open Go.RowKit Go.Maps
open Sc

theorem trim_seg (u : Nat) : (⟨(Lib.trimPrefix (segName u).data.toList [115, 101, 103, 109, 101, 110, 116, 45]).toArray⟩ : ByteArray) = ⟨(Lib.decDigits u).toArray⟩ := by
  have e : (segName u).data.toList = [115, 101, 103, 109, 101, 110, 116, 45] ++ Lib.decDigits u := by unfold segName; rw [ByteArray.data_append]; simp
  rw [e]
  unfold Lib.trimPrefix Lib.hasPrefix
  rw [if_pos (by simp [List.isPrefixOf])]
  simp
theorem Tryz.lenStr (p : Option Addr) (n c : Nat) (w : World) : (Builtin.len_ #[25] 3 #[.slice p n c]).run Tryz.prog w = .ok (.int .i64 n) w := by simp [Builtin.len_, run_underlying Tryz.underlying25, goInt]
theorem below_bytes (w : World) (s : ByteArray) : Below w.heap.size w (Lib.bytesWorld w 5 s) :=
  ⟨rfl, rfl, rfl, by rw [Lib.bytesWorld_size]; omega, fun k hk => Lib.bytesWorld_at_old w _ s k hk⟩
theorem own_grow0 {w w' : World} {B n : Nat} {e : TypeId} {k : Nat} {v : Value} {xs : List Value} (h : w.ownsRow B e k v n xs) (hb : Below w.heap.size w w') : w'.ownsRow B e k v n xs := by
  refine h.kept (row := none) ⟨hb.os, hb.tape, hb.output, hb.size, fun j hj _ => hb.block j hj⟩ ?_
  cases hv : v.ownBlock with
  | none => exact .inl rfl
  | some q => exact .inr (by simp)
end Go.Proofs.YtbdhmkfdofkloaaGreatDoor
/- TORN RECORDS, the plain mathematics: what a bit that is turned does to a sum; what is read of records of which the end is cut off, or that are turned in a byte. -/
namespace Go.Proofs.YtbdhmkfdofkloaaGreatDoor
open Go.RowKit
open Sc

/-! One bit of the reckoning can be taken back. -/
/-! A record that is whole, behind it whatever. -/
theorem take_app (a b : List Nat) (n : Nat) (h : a.length = n) : (a ++ b).take n = a := by subst h; simp
theorem drop_app (a b : List Nat) (n : Nat) (h : a.length = n) : (a ++ b).drop n = b := by subst h; simp
theorem head_2 (x k : Nat) (l r : List Nat) : (recHead x k l ++ r).take 2 = be 2 l.length := by
  unfold recHead; rw [List.append_assoc, List.append_assoc, List.append_assoc]; exact take_app _ _ _ (be_len _ _)
theorem fLen_head (x k : Nat) (l r : List Nat) (hl : l.length ≤ 255) : fLen (recHead x k l ++ r) = l.length := by
  unfold fLen; rw [head_2]; exact val_be 2 _ (by omega)
theorem frame_yes (x k : Nat) (l r : List Nat) (hl : l.length ≤ 255) (hk : k < 256) (hb : Byt l) : frameOk (recBytes x k l ++ r) = true := by
  have e : recBytes x k l ++ r = recHead x k l ++ (be 4 (crc (recHead x k l)) ++ r) := by unfold recBytes; rw [List.append_assoc]
  have hlen : (recHead x k l ++ (be 4 (crc (recHead x k l)) ++ r)).length = 15 + l.length + r.length := by simp [recHead_len, be_len]; omega
  rw [e]
  have hf := fLen_head x k l (be 4 (crc (recHead x k l)) ++ r) hl
  refine frameOk_yes (ffOk_yes (by omega) (by omega) (by omega)) ?_
  unfold fSum
  rw [hf, take_app _ _ _ (recHead_len x k l), drop_app _ _ _ (recHead_len x k l), take_app _ _ _ (be_len _ _), val_be 4 _ (crc_lt _ (recHead_byt x k l hk hb))]
  simp
theorem frame_rec (x k : Nat) (l r : List Nat) (hl : l.length ≤ 255) (hx : x < 18446744073709551616) : recOf (recBytes x k l ++ r) = ⟨x, k, l⟩ := by
  have e : recBytes x k l ++ r = recHead x k l ++ (be 4 (crc (recHead x k l)) ++ r) := by unfold recBytes; rw [List.append_assoc]
  have hf := fLen_head x k l (be 4 (crc (recHead x k l)) ++ r) hl
  rw [e]
  unfold recOf
  rw [hf]
  unfold recHead
  generalize be 4 _ ++ r = q
  have h2 : (be 2 l.length ++ be 8 x ++ [k] ++ l ++ q).drop 2 = be 8 x ++ ([k] ++ (l ++ q)) := by
    simp only [List.append_assoc]; exact drop_app _ _ _ (be_len _ _)
  have h11 : (be 2 l.length ++ be 8 x ++ [k] ++ l ++ q).drop 11 = l ++ q := by
    rw [List.append_assoc (be 2 l.length ++ be 8 x ++ [k])]; exact drop_app _ _ _ (by simp [be_len])
  have h10 : (be 2 l.length ++ be 8 x ++ [k] ++ l ++ q).drop 10 = k :: (l ++ q) := by
    rw [show be 2 l.length ++ be 8 x ++ [k] ++ l ++ q = (be 2 l.length ++ be 8 x) ++ (k :: (l ++ q)) by simp]; exact drop_app _ _ _ (by simp [be_len])
  have a10 : at_ (be 2 l.length ++ be 8 x ++ [k] ++ l ++ q) 10 = k := by
    have := at_drop (be 2 l.length ++ be 8 x ++ [k] ++ l ++ q) 10 0
    rw [h10] at this
    rw [show (10 : Nat) = 10 + 0 from rfl, ← this]; simp [at_]
  rw [h2, h11, a10, take_app _ _ _ (be_len _ _), take_app _ _ _ rfl, val_be 8 _ hx]
theorem frame_len (x k : Nat) (l r : List Nat) (hl : l.length ≤ 255) : fLen (recBytes x k l ++ r) = l.length := by
  have e : recBytes x k l ++ r = recHead x k l ++ (be 4 (crc (recHead x k l)) ++ r) := by unfold recBytes; rw [List.append_assoc]
  rw [e]; exact fLen_head x k l _ hl
/-- its end is cut off -/
theorem frame_cut (x k : Nat) (l : List Nat) (hl : l.length ≤ 255) (p : Nat) (hp : p < 15 + l.length) : frameOk ((recBytes x k l).take p) = false := by
  have hlen := recBytes_len x k l
  by_cases h15 : p < 15
  · exact frameOk_ffno (ffOk_short (by rw [List.length_take]; omega))
  · refine frameOk_ffno (ffOk_cut ?_)
    have hf : fLen ((recBytes x k l).take p) = l.length := by
      unfold fLen
      rw [List.take_take, show min 2 p = 2 by omega]
      have := frame_len x k l [] hl
      rw [List.append_nil] at this; exact this
    rw [hf, List.length_take]; omega
end Go.Proofs.YtbdhmkfdofkloaaGreatDoor
/- TORN RECORDS, the plain mathematics: records one behind the other, the end cut off, or turned in a byte. -/
namespace Go.Proofs.YtbdhmkfdofkloaaGreatDoor
open Go.RowKit
open Sc

/-- the j-th record's bytes; the first j of them, one behind the other; what they are -/
def rb (S : Nat → ByteArray) (j : Nat) : List Nat := recBytes j j (bytesOf (S j))
def recs (S : Nat → ByteArray) (j : Nat) : List Rec := (List.range j).map fun q => ⟨q, q, bytesOf (S q)⟩
end Go.Proofs.YtbdhmkfdofkloaaGreatDoor
/- Scan through shardcommit and plain. -/
namespace Go.Proofs.YtbdhmkfdofkloaaGreatDoor
open Go.RowKit
open Sc

/-- what a scan of the bytes l answers -/
def Scanned (l : List Nat) (w : World) (e : Ending) (w' : World) : Prop :=
  ∃ k v', e = .returned (.tuple #[v', .int .i64 ((st k l).2 : Nat)]) ∧ Ended l k ∧ w'.ownsRow w.heap.size 44 3 v' k (recsV (st k l).1) ∧ (k = 0 → v' = .slice none 0 0) ∧ Below w.heap.size w w'

set_option maxHeartbeats 400000 in
theorem scanW_nil (w : World) : Calls Tryz.prog 112 #[.slice none 0 0] w (Scanned [] w) := by
  have hnot : ∀ (x : Bool) (w : World), (Op.unary .not (.bool x)).run Tryz.prog w = .ok (.bool (!x)) w := fun _ _ => rfl
  go_enter Tryz.func112, Tryz.ntmps112
  go_wp2
  refine wp_loop_rounds 1 ?_
  rw [rounds_succ]
  go_wp2_with fail
  refine (firstFrame_short _ _ _ _ (by omega)).mono ?_
  rintro e w1 ⟨rfl, rfl⟩
  go_wp2
  go_ret2
  exact ⟨0, _, rfl, ended_nil, World.ownsRow_nil _ _ _ _, fun _ => rfl, (Below.refl _ _).alloc (Nat.le_refl _) _⟩

theorem scanW (v : Value) (l : List Nat) (w : World) (hs : Src w v l) (hb : Byt l) (hl : l.length ≤ 1099511627776) : Calls Tryz.prog 112 #[v] w (Scanned l w) := by
  rcases hs with ⟨rfl, rfl⟩ | ⟨b, off, cap, rfl, hrow, hlt, hc, hc2⟩
  · exact scanW_nil w
  · exact scanW_some b off cap l w hb hl hrow hlt hc hc2

end Go.Proofs.YtbdhmkfdofkloaaGreatDoor
