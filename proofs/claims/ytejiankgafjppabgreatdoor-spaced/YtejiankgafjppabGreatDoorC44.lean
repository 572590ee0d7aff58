import Derived.Test.YtejiankgafjppabGreatDoorC43
/- THE LAW Spaced: the walk. -/
namespace Go.Proofs.YtejiankgafjppabGreatDoor
open Go.RowKit Go.Maps
open Sc

/-- what is committed behind so many rounds -/
def vAt : Nat → ByteArray
  | 0 => vOld
  | k + 1 => (⟨#[118, 97, 108, 117, 101, 32]⟩ : ByteArray) ++ str [97 + k % 26]
theorem vAt_size (k : Nat) : (vAt k).size ≤ 32 := by
  cases k with
  | zero => decide
  | succ k =>
    show ((⟨#[118, 97, 108, 117, 101, 32]⟩ : ByteArray) ++ str [97 + k % 26]).size ≤ 32
    rw [ByteArray.size_append, str_size]
    show 6 + 1 ≤ 32
    decide
theorem row_new (w : World) (b : Nat) : RowAt (w.alloc (.cells #[.int .u8 (b : Int)] 5)) w.heap.size 0 [b] := by
  intro i hi
  have h0 : i = 0 := by simpa using hi
  subst h0
  simp [at_]
theorem Lx.new {w w' : World} {B hp M G : Nat} {s : AShard} (h : Lx w B hp M G s) (hf : Fr [] w w') : Lx w' B hp M G s ∧ HFr B w w' := by
  obtain ⟨m, nn, l, d, fst, cs, k1, k2, ⟨p, sp, gp, bV, bT, bH, lp, bD, bN, hh, hs, hb⟩, k4⟩ := h
  obtain ⟨j1, j2⟩ := hs.new hf
  exact ⟨⟨m, nn, l, d, fst, cs, k1, k2, ⟨p, sp, gp, bV, bT, bH, lp, bD, bN, j2.cells hs hh (by decide) (by decide) (by decide) (by decide) (by decide) (by decide), j1, hb⟩, k4⟩, j2.hfr hs hb⟩
/-- what stands at the loop's head -/
def SpI (w W : World) (q hp : Nat) (k : Nat) (wr : World) : Prop := Lx wr w.heap.size hp (100 + 1000 * k) (3 + 2 * k) (sV (vAt k)) ∧ wr.heap[q]? = some (fallO (-1) (-1) 0 0) ∧ HFr w.heap.size W wr
set_option maxRecDepth 100000 in
set_option maxHeartbeats 8000000 in
theorem spaced_any (rounds every kept : Int) (w : World) (hmet : Met w) (hpow : Pows w) (herr : ErrS w) (hB : 3 ≤ w.heap.size) (hr1 : -9223372036854775808 ≤ rounds) (hr2 : rounds ≤ 9223372036854775807) (he1 : -9223372036854775808 ≤ every) (he2 : every ≤ 9223372036854775807) :
    Calls Tryz.prog 3 #[.int .i64 rounds, .int .i64 every, .int .i64 kept] w fun e w' => e = .returned (.bool true) ∧ Below w.heap.size w w' := by
  have hsf := shard_fn2 w hmet hpow (by omega)
  go_enter Tryz.func3, Tryz.ntmps3
  go_wp2_with fail
  refine hsf.mono ?_
  clear hsf
  rintro e w1 ⟨hp, rfl, hhp, hl1, hf1⟩
  have H1 := toHid (show Lx w1 w.heap.size hp 100 1 (sV vOld) ∧ HFr w.heap.size w w1 from ⟨hl1, hf1⟩)
  clear hl1 hf1
  go_wp2_with fail
  refine (well_fn w1).mono ?_
  rintro e w2 ⟨rfl, hf2⟩
  obtain ⟨W, hW⟩ : ∃ W, W = w2.alloc (fallO (-1) (-1) 0 0) := ⟨_, rfl⟩
  have hfW : Fr [] w1 W := by rw [hW]; exact hf2.alloc _
  have hx : W.heap[w2.heap.size]? = some (fallO (-1) (-1) 0 0) := by rw [hW]; exact heap_alloc_new w2 _
  have hpk := pick_fn rounds 60 W hr1 hr2 (by decide) (by decide)
  have hnl := pk_lt rounds 60 (by decide)
  obtain ⟨n, hn⟩ : ∃ n, n = pk rounds 60 := ⟨_, rfl⟩
  rw [← hn] at hpk hnl
  clear hn
  obtain ⟨hlW, hfw⟩ := H1.out.1.new hfW
  have HW := toHid (show Lx W w.heap.size hp 100 1 (sV vOld) ∧ W.heap[w2.heap.size]? = some (fallO (-1) (-1) 0 0) ∧ HFr w.heap.size w W from ⟨hlW, hx, H1.out.2.trans hfw⟩)
  have hmW : Met W := HW.out.2.2.met (by omega) hmet
  have hpW : Pows W := HW.out.2.2.pows (by omega) hpow
  clear hf2 hfW hx hlW hfw
  go_wp2_with fail
  have hW' : W = w2.alloc (.cells #[.int .i64 (-1), .int .i64 (-1), .int .i64 0, .int .i64 0] 25) := hW
  rw [← hW']
  refine hpk.mono ?_
  clear hpk hW hW'
  rintro e w3 ⟨rfl, rfl⟩
  go_wp2
  go_loopw [12, 10, 11] (fun i t la wr => ∃ k : Nat, k ≤ n ∧ i = .int .i64 k ∧ t = .int .u64 ((1 + k : Nat) : Int) ∧ la = .string (vAt k) ∧ Hid (SpI w w3 w2.heap.size hp k wr)) (fun i _ _ _ => n - (intOf i).toNat)
  case atStart => exact ⟨0, Nat.zero_le _, rfl, rfl, rfl, HW.out.1.mono (by omega) (by omega), HW.out.2.1, HFr.new (Fr.refl [] _) (by have := HW.out.2.2.below.size; exact this)⟩
  case round =>
    obtain ⟨k, hk, rfl, rfl, rfl, HK⟩ := hrel
    by_cases hlt : k < n
    · have hkn : (k : Int) < (n : Int) := by omega
      obtain ⟨c, hc⟩ : ∃ c, c = k % 26 := ⟨_, rfl⟩
      obtain ⟨b, hb⟩ : ∃ b, b = 97 + c := ⟨_, rfl⟩
      have hb2 : b < 256 := by omega
      have r1 : Int.tmod (k : Int) 26 = (c : Int) := by rw [Int.tmod_eq_emod_of_nonneg (by omega)]; omega
      have r2 : (97 : Int) + (c : Int) = (b : Int) := by omega
      have HBV : Hid (vAt (k + 1) = (⟨#[118, 97, 108, 117, 101, 32]⟩ : ByteArray) ++ str [b]) := by show _ = _; rw [hb, hc]; rfl
      clear hb hc
      have r3 : IntKind.u8.wrap (b : Int) = (b : Int) := by rw [IntKind.wrap_u8]; omega
      have hcv : ∀ W : World, (convert 29 9 (.slice (some ⟨W.heap.size, 0, none⟩) 1 1)).run Tryz.prog (W.alloc (.cells #[.int .u8 (b : Int)] 5)) = .ok (.string (str [b])) (W.alloc (.cells #[.int .u8 (b : Int)] 5)) := fun W => run_str _ _ 0 1 1 [b] rfl (row_new W b)
      obtain ⟨T, hT⟩ : ∃ T, T = 1 + k := ⟨_, rfl⟩
      rw [← hT]
      have r4 : IntKind.u64.wrap ((T : Int) + 1) = (T : Int) + 1 := by rw [IntKind.wrap_u64]; omega
      have hT2 : T < 100 := by omega
      have HT : Hid (T = 1 + k) := hT
      clear hT
      go_wp2_with fail
      obtain ⟨v, hv⟩ : ∃ v, v = (⟨#[118, 97, 108, 117, 101, 32]⟩ : ByteArray) ++ str [b] := ⟨_, rfl⟩
      rw [← hv] at HBV ⊢
      clear hv
      have hvz : v.size ≤ 32 := by have := vAt_size (k + 1); rwa [HBV.out] at this
      obtain ⟨hl4, hf4⟩ := HK.out.1.new (show Fr [] wr (wr.alloc (.cells #[.int .u8 (b : Int)] 5)) from (Fr.refl [] wr).alloc _)
      obtain ⟨W4, hW4⟩ : ∃ W4, W4 = wr.alloc (.cells #[.int .u8 (b : Int)] 5) := ⟨_, rfl⟩
      rw [← hW4] at hl4 hf4 ⊢
      clear hW4
      have hF4 := HK.out.2.2.trans hf4
      have hm4 : Met W4 := hF4.met (by omega) hmW
      have hp4 : Pows W4 := hF4.pows (by omega) hpW
      have hx4 := hf4.fall _ _ _ _ _ HK.out.2.1
      have eT : ((T + 1 : Nat) : Int) = (T : Int) + 1 := by omega
      have hpu := lxPut w.heap.size hp (100 + 1000 * k) (3 + 2 * k) (T + 1) (vAt k) v W4 hl4 (by omega) hm4 (by omega) (by omega) (by omega) hvz
      rw [eT] at hpu
      have H4 := toHid (show W4.heap[w2.heap.size]? = some (fallO (-1) (-1) 0 0) ∧ HFr w.heap.size w3 W4 from ⟨hx4, hF4⟩)
      clear hl4 hf4 hF4 hx4 HK hcv r1 r2 r3
      refine hpu.mono ?_
      clear hpu
      rintro e w5 ⟨rfl, hl5, hf5⟩
      have hm5 : Met w5 := hf5.met (by omega) hm4
      have hp5 : Pows w5 := hf5.pows (by omega) hp4
      have hx5 := hf5.fall _ _ _ _ _ H4.out.1
      obtain ⟨y0, y1, y2, y3⟩ := fall_cells hx5
      have hpr := lxPrep w.heap.size hp (100 + 1000 * k + 3) (3 + 2 * k) (T + 1) (vAt k) v w5 hl5 (by omega) hm5 hp5 (by omega) (by omega) (by omega) hvz
      rw [eT] at hpr
      have H5 := toHid (show w5.heap[w2.heap.size]? = some (fallO (-1) (-1) 0 0) ∧ HFr w.heap.size w3 w5 from ⟨hx5, H4.out.2.trans hf5⟩)
      clear hl5 hf5 hx5 H4
      go_wp2_with fail
      refine hpr.mono ?_
      clear hpr y0 y1 y2 y3
      rintro e w6 ⟨rfl, hl6, hf6⟩
      have hm6 : Met w6 := hf6.met (by omega) hm5
      have hp6 : Pows w6 := hf6.pows (by omega) hp5
      have hx6 := hf6.fall _ _ _ _ _ H5.out.1
      obtain ⟨y0, y1, y2, y3⟩ := fall_cells hx6
      have hco := lxComm w.heap.size hp (100 + 1000 * k + 3 + 3) (3 + 2 * k + 1) (T + 1) (vAt k) v w6 hl6 (by omega) hm6 hp6 (by omega) (by omega) (by omega) hvz
      rw [eT] at hco
      have H6 := toHid (show w6.heap[w2.heap.size]? = some (fallO (-1) (-1) 0 0) ∧ HFr w.heap.size w3 w6 from ⟨hx6, H5.out.2.trans hf6⟩)
      clear hl6 hf6 hx6 H5
      go_wp2_with fail
      refine hco.mono ?_
      clear hco y0 y1 y2 y3
      rintro e w7 ⟨rfl, hl7, hf7⟩
      have hm7 : Met w7 := hf7.met (by omega) hm6
      have hp7 : Pows w7 := hf7.pows (by omega) hp6
      have hx7 := hf7.fall _ _ _ _ _ H6.out.1
      have hpe := pick_fn every 9 w7 he1 he2 (by decide) (by decide)
      have hpl := pk_lt every 9 (by decide)
      obtain ⟨pe, hpe0⟩ : ∃ pe, pe = pk every 9 := ⟨_, rfl⟩
      rw [← hpe0] at hpe hpl
      clear hpe0
      have H7 := toHid (show Lx w7 w.heap.size hp (100 + 1000 * k + 3 + 3 + 20) (3 + 2 * k + 1 + 1) (sV v) ∧ w7.heap[w2.heap.size]? = some (fallO (-1) (-1) 0 0) ∧ HFr w.heap.size w3 w7 from ⟨hl7, hx7, H6.out.2.trans hf7⟩)
      clear hl7 hf7 hx7 H6
      go_wp2_with fail
      refine hpe.mono ?_
      clear hpe
      rintro e w8 ⟨rfl, rfl⟩
      have n0 : ¬ (1 : Int) + (pe : Int) = 0 := by omega
      by_cases hz : (k : Int) % (1 + (pe : Int)) = 0
      · have hz2 : ((k : Int) % (1 + (pe : Int)) == 0) = true := beq_iff_eq.2 hz
        obtain ⟨y0, y1, y2, y3⟩ := fall_cells H7.out.2.1
        have hck := lxCk w.heap.size hp (100 + 1000 * k + 3 + 3 + 20) (3 + 2 * k + 1 + 1) v w8 H7.out.1 (by omega) hm7 hp7 (by omega) (by omega) hvz
        go_wp2_with fail
        refine hck.mono ?_
        clear hck y0 y1 y2 y3
        rintro e w9 ⟨rfl, hl9, hf9⟩
        have hsi := lzSize w.heap.size hp _ v w9 hl9 (by omega)
        have hx9 := hf9.fall _ _ _ _ _ H7.out.2.1
        have H9 := toHid (show w9.heap[w2.heap.size]? = some (fallO (-1) (-1) 0 0) ∧ HFr w.heap.size w3 w9 from ⟨hx9, H7.out.2.2.trans hf9⟩)
        clear hl9 hf9 hx9
        go_wp2_with fail
        refine hsi.mono ?_
        clear hsi
        rintro e w10 ⟨z, hz3, rfl, hl10, hf10⟩
        have iz : ¬ (3000 : Int) < (z : Int) := by omega
        have H10 := toHid (show SpI w w3 w2.heap.size hp (k + 1) w10 from ⟨by rw [HBV.out]; exact (hl10.x).mono (by omega) (by omega), hf10.fall _ _ _ _ _ H9.out.1, H9.out.2.trans hf10⟩)
        clear hl10 hf10 H9
        go_wp2
        exact ⟨⟨k + 1, by omega, by simp, by rw [show ((1 + (k + 1) : Nat) : Int) = (T : Int) + 1 by have := HT.out; omega], by rw [HBV.out], H10.out⟩, by simp [intOf]; omega⟩
      · have hz2 : ((k : Int) % (1 + (pe : Int)) == 0) = false := beq_eq_false_iff_ne.2 hz
        go_wp2
        exact ⟨⟨k + 1, by omega, by simp, by rw [show ((1 + (k + 1) : Nat) : Int) = (T : Int) + 1 by have := HT.out; omega], by rw [HBV.out], ⟨by rw [HBV.out]; exact H7.out.1.mono (by omega) (by omega), H7.out.2.1, H7.out.2.2⟩⟩, by simp [intOf]; omega⟩
    · have hkn : ¬ (k : Int) < (n : Int) := by omega
      have hmr : Met wr := HK.out.2.2.met (by omega) hmW
      have hpr : Pows wr := HK.out.2.2.pows (by omega) hpW
      obtain ⟨y0, y1, y2, y3⟩ := fall_cells HK.out.2.1
      obtain ⟨v, hv⟩ : ∃ v, v = vAt k := ⟨_, rfl⟩
      have hvz : v.size ≤ 32 := by rw [hv]; exact vAt_size k
      have hl0 := HK.out.1
      rw [← hv] at hl0 ⊢
      clear hv
      have hck := lxCk w.heap.size hp (100 + 1000 * k) (3 + 2 * k) v wr hl0 (by omega) hmr hpr (by omega) (by omega) hvz
      go_wp2_with fail
      refine hck.mono ?_
      clear hck y0 y1 y2 y3
      rintro e w5 ⟨rfl, hl5, hf5⟩
      have hsi := lzSize w.heap.size hp _ v w5 hl5 (by omega)
      have H5 := toHid (show w5.heap[w2.heap.size]? = some (fallO (-1) (-1) 0 0) ∧ HFr w.heap.size w3 w5 from ⟨hf5.fall _ _ _ _ _ HK.out.2.1, HK.out.2.2.trans hf5⟩)
      clear hl5 hf5 hl0 HK
      go_wp2_with fail
      refine hsi.mono ?_
      clear hsi
      rintro e w6 ⟨z, hz3, rfl, hl6, hf6⟩
      have iz : (z : Int) ≤ 3000 := by omega
      have hlo := lxLose w.heap.size hp _ v w6 kept hl6 hhp (by omega)
      have H6 := toHid (show w6.heap[w2.heap.size]? = some (fallO (-1) (-1) 0 0) ∧ HFr w.heap.size w3 w6 from ⟨hf6.fall _ _ _ _ _ H5.out.1, H5.out.2.trans hf6⟩)
      clear hl6 hf6 H5
      go_wp2_with fail
      refine hlo.mono ?_
      clear hlo
      rintro e w7 ⟨rfl, hl7, hf7⟩
      have hx7 := hf7.fall _ _ _ _ _ H6.out.1
      obtain ⟨y0, y1, y2, y3⟩ := fall_cells hx7
      have hF7 := H6.out.2.trans hf7
      have hw7 : HFr w.heap.size w w7 := HW.out.2.2.trans hF7
      have hop := lxOpen w.heap.size hp _ v w7 hl7 hB hhp (hF7.met (by omega) hmW) (hF7.pows (by omega) hpW) (herr.below hw7.below (by omega)) (by omega) hvz
      have H7 := toHid hw7
      clear hl7 hf7 hx7 hF7 hw7 H6
      go_wp2_with fail
      refine hop.mono ?_
      clear hop y0 y1 y2 y3
      rintro e w8 ⟨rfl, ⟨m8, n8, l8, d8, hm8, hl8⟩, hf8⟩
      have hpa := hPairs_s w.heap.size hp m8 n8 (sV v) l8 d8 w8 hl8 hm8
      have H8 := toHid (H7.out.trans hf8)
      clear hl8 hf8 H7
      go_wp2_with fail
      refine hpa.mono ?_
      clear hpa
      rintro e w9 ⟨vv, rfl, hrow, _, hf9⟩
      have esv : sortV (sV v).vals = [(kk, v)] := sortV_one v
      rw [esv] at hrow
      obtain ⟨g9, c9, rfl⟩ := own_pos hrow (by simp)
      have q0 := hrow.cells (g := g9) rfl 0 (.string kk) (by simp [pairsV])
      have q1 := hrow.cells (g := g9) rfl 1 (.string v) (by simp [pairsV])
      simp only [Addr.add_lit, Nat.zero_add] at q0 q1
      have hlenP := Tryz.lenPair
      have H9 := toHid (H8.out.trans hf9)
      clear hrow hf9 H8 esv
      simp only [List.length_cons, List.length_nil, Nat.zero_add]
      go_wp2
      go_ret
      exact ⟨rfl, H9.out.below⟩
end Go.Proofs.YtejiankgafjppabGreatDoor
