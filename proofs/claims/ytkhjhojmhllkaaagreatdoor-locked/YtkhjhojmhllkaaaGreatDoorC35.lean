import Derived.Test.YtkhjhojmhllkaaaGreatDoorC34
/- THE LAW Locked, one of its ways. (Written by mklock.py.) -/
namespace Go.Proofs.YtkhjhojmhllkaaaGreatDoor
open Go.RowKit Go.Maps
open Sc

set_option maxRecDepth 100000 in
set_option maxHeartbeats 8000000 in
theorem lockA (one two how kept : Int) (commits : Bool) (w : World) (hmet : Met w) (hpow : Pows w) (hB : 2 ≤ w.heap.size) (b1 : -9223372036854775808 ≤ one ∧ one ≤ 9223372036854775807) (b2 : -9223372036854775808 ≤ two ∧ two ≤ 9223372036854775807) (b3 : -9223372036854775808 ≤ how ∧ how ≤ 9223372036854775807) (a : Nat) (ha : a < 3) (ha0 : 0 < a) (ea : pk one 3 = a) (b : Nat) (hb : b < 3) (eb : pk two 3 = b) (ec : pk how 3 = 0) :
    Calls Tryz.prog 6 #[.int .i64 one, .int .i64 two, .int .i64 how, .bool commits, .int .i64 kept] w fun e w' => e = .returned (.bool true) ∧ Below w.heap.size w w' := by
  have ia : (0 : Int) < (a : Int) := by omega
  go_enter Tryz.func6, Tryz.ntmps6
  go_wp2_with fail
  refine (shard_fn w hmet hpow hB).mono ?_
  rintro e w1 ⟨hp, vs, rfl, hhp, hl1, hvs, hf1⟩
  have H1 := toHid (show Lv w1 w.heap.size hp 100 ⟨vs, [], [], 0⟩ [eP1, eC1] ∧ HFs w.heap.size w w1 ∧ alLook vs kk = some vOld from ⟨hl1, hf1, hvs⟩)
  clear hl1 hf1 hvs
  go_wp2_with fail
  refine (well_fn w1).mono ?_
  rintro e w2 ⟨rfl, hf2⟩
  obtain ⟨w0, hW⟩ : ∃ W, W = w2.alloc (fallO (-1) (-1) 0 0) := ⟨_, rfl⟩
  have hfW : Fr [] w1 w0 := by rw [hW]; exact hf2.alloc _
  have HX0 := toHid (show w0.heap[w2.heap.size]? = some (fallO (-1) (-1) 0 0) by rw [hW]; exact heap_alloc_new w2 _)
  obtain ⟨x0, x1, x2, x3⟩ := fall_cells HX0.out
  obtain ⟨hl0, hr0⟩ := H1.out.1.new hfW
  have HF0 := toHid (H1.out.2.1.trans hr0)
  have hm0 := HF0.out.met hB hmet
  have hp0 := HF0.out.pows hB hpow
  have HL0 := toHid hl0
  clear hf2 hfW hl0 hr0
  go_wp2_with fail
  refine (pick_fn one 3 _ b1.1 b1.2 (by decide) (by decide)).mono ?_
  rintro e wz ⟨rfl, hwz⟩
  rw [hwz, ea]
  clear hwz
  have hW' : w0 = w2.alloc (.cells #[.int .i64 (-1), .int .i64 (-1), .int .i64 0, .int .i64 0] 28) := hW
  rw [← hW']
  clear hW hW'
  go_wp2_with fail
  refine (pick_fn two 3 _ b2.1 b2.2 (by decide) (by decide)).mono ?_
  rintro e wz ⟨rfl, hwz⟩
  rw [hwz, eb]
  clear hwz
  have hl0 := HL0.out
  have hc := does_v w.heap.size hp 100 2 ⟨vs, [], [], 0⟩ [eP1, eC1] w0 a (by omega) hl0 hB hm0 (by decide) (by decide) (by first | decide | exact Nat.le_refl 0 | (show (0 : Nat) ≤ 3; decide)) (by first | decide | (show (0 : Nat) < 4611686018427387904; decide))
  rw [opFirst vs 2 a (.inl rfl) (by omega)] at hc
  clear hl0
  go_wp2_with fail
  refine hc.mono ?_
  clear hc x0 x1 x2 x3
  rintro e w1 ⟨rfl, hl1, hf⟩
  have hm1 := hf.met hB hm0
  have hp1 := hf.pows hB hp0
  have HF1 := toHid (HF0.out.trans hf)
  have HX1 := toHid (hf.fall _ _ _ _ _ HX0.out)
  obtain ⟨x0, x1, x2, x3⟩ := fall_cells HX1.out
  clear hf HF0 HX0 hm0 hp0
  go_wp2_with fail
  refine (pick_fn how 3 _ b3.1 b3.2 (by decide) (by decide)).mono ?_
  rintro e wz ⟨rfl, hwz⟩
  rw [hwz, ec]
  clear hwz
  go_wp2_with fail
  refine (pick_fn how 3 _ b3.1 b3.2 (by decide) (by decide)).mono ?_
  rintro e wz ⟨rfl, hwz⟩
  rw [hwz, ec]
  clear hwz
  have hc := does_v w.heap.size hp 103 3 ⟨vs, [(2, ⟨1, 1, 0⟩)], [((2, kk), gW a)], 0⟩ [eP1, eC1] w1 b (by omega) hl1 hB hm1 (by decide) (by decide) (by first | decide | exact Nat.le_refl 0 | (show (0 : Nat) ≤ 3; decide)) (by first | decide | (show (0 : Nat) < 4611686018427387904; decide))
  rw [opClash vs ⟨1, 1, 0⟩ (.inl rfl) a b (by omega) (by omega) (.inl ha0)] at hc
  clear hl1
  go_wp2_with fail
  refine hc.mono ?_
  clear hc x0 x1 x2 x3
  rintro e w2 ⟨rfl, hl2, hf⟩
  have hm2 := hf.met hB hm1
  have hp2 := hf.pows hB hp1
  have HF2 := toHid (HF1.out.trans hf)
  have HX2 := toHid (hf.fall _ _ _ _ _ HX1.out)
  obtain ⟨x0, x1, x2, x3⟩ := fall_cells HX2.out
  clear hf HF1 HX1 hm1 hp1
  have hc := lvPrepN w.heap.size hp 106 3 ⟨vs, [(3, ⟨2, 0, 0⟩), (2, ⟨1, 1, 0⟩)], [((2, kk), gW a)], 0⟩ [eP1, eC1] w2 3 hl2 hB hm2 hp2 (by decide) (by decide) (by simp [AShard.count]) (small1 _ _ _ _ (gW_small a)) (fun l d L h1 h2 => rfl)
  clear hl2
  go_wp2_with fail
  refine hc.mono ?_
  clear hc x0 x1 x2 x3
  rintro e w3 ⟨rfl, hl3, hf⟩
  have hm3 := hf.met hB hm2
  have hp3 := hf.pows hB hp2
  have HF3 := toHid (HF2.out.trans hf)
  have HX3 := toHid (hf.fall _ _ _ _ _ HX2.out)
  obtain ⟨x0, x1, x2, x3⟩ := fall_cells HX3.out
  rw [forgetD vs ⟨1, 1, 0⟩ (.inl rfl)] at hl3
  clear hf HF2 HX2 hm2 hp2
  have hc := lvAbrtN w.heap.size hp 109 2 ⟨vs, [(2, ⟨1, 1, 0⟩)], [((2, kk), gW a)], 0⟩ [eP1, eC1] w3 hl3 hB hm3 (by decide) (by decide) (by first | decide | (show (1 : Nat) ≠ 3; decide) | (show (0 : Nat) ≠ 3; decide))
  clear hl3
  go_wp2_with fail
  refine hc.mono ?_
  clear hc x0 x1 x2 x3
  rintro e w4 ⟨rfl, hl4, hf⟩
  have hm4 := hf.met hB hm3
  have hp4 := hf.pows hB hp3
  have HF4 := toHid (HF3.out.trans hf)
  have HX4 := toHid (hf.fall _ _ _ _ _ HX3.out)
  obtain ⟨x0, x1, x2, x3⟩ := fall_cells HX4.out
  rw [forgetT] at hl4
  clear hf HF3 HX3 hm3 hp3
  have hc := does_v w.heap.size hp 109 4 ⟨vs, [], [], 0⟩ [eP1, eC1] w4 b (by omega) hl4 hB hm4 (by decide) (by decide) (by first | decide | exact Nat.le_refl 0 | (show (0 : Nat) ≤ 3; decide)) (by first | decide | (show (0 : Nat) < 4611686018427387904; decide))
  rw [opFirst vs 4 b (.inr rfl) (by omega)] at hc
  clear hl4
  go_wp2_with fail
  refine hc.mono ?_
  clear hc x0 x1 x2 x3
  rintro e w5 ⟨rfl, hl5, hf⟩
  have hm5 := hf.met hB hm4
  have hp5 := hf.pows hB hp4
  have HF5 := toHid (HF4.out.trans hf)
  have HX5 := toHid (hf.fall _ _ _ _ _ HX4.out)
  obtain ⟨x0, x1, x2, x3⟩ := fall_cells HX5.out
  clear hf HF4 HX4 hm4 hp4
  clear hl5 x0 x1 x2 x3
  go_wp2
  go_ret
  exact ⟨rfl, HF5.out.below⟩
end Go.Proofs.YtkhjhojmhllkaaaGreatDoor
/- THE LAW Locked, one of its ways. (Written by mklock.py.) -/
namespace Go.Proofs.YtkhjhojmhllkaaaGreatDoor
open Go.RowKit Go.Maps
open Sc

set_option maxRecDepth 100000 in
set_option maxHeartbeats 8000000 in
theorem lockB (one two how kept : Int) (commits : Bool) (w : World) (hmet : Met w) (hpow : Pows w) (hB : 2 ≤ w.heap.size) (b1 : -9223372036854775808 ≤ one ∧ one ≤ 9223372036854775807) (b2 : -9223372036854775808 ≤ two ∧ two ≤ 9223372036854775807) (b3 : -9223372036854775808 ≤ how ∧ how ≤ 9223372036854775807) (ea : pk one 3 = 0) (b : Nat) (hb : b < 3) (hb0 : 0 < b) (eb : pk two 3 = b) (ec : pk how 3 = 0) :
    Calls Tryz.prog 6 #[.int .i64 one, .int .i64 two, .int .i64 how, .bool commits, .int .i64 kept] w fun e w' => e = .returned (.bool true) ∧ Below w.heap.size w w' := by
  have ib : (0 : Int) < (b : Int) := by omega
  go_enter Tryz.func6, Tryz.ntmps6
  go_wp2_with fail
  refine (shard_fn w hmet hpow hB).mono ?_
  rintro e w1 ⟨hp, vs, rfl, hhp, hl1, hvs, hf1⟩
  have H1 := toHid (show Lv w1 w.heap.size hp 100 ⟨vs, [], [], 0⟩ [eP1, eC1] ∧ HFs w.heap.size w w1 ∧ alLook vs kk = some vOld from ⟨hl1, hf1, hvs⟩)
  clear hl1 hf1 hvs
  go_wp2_with fail
  refine (well_fn w1).mono ?_
  rintro e w2 ⟨rfl, hf2⟩
  obtain ⟨w0, hW⟩ : ∃ W, W = w2.alloc (fallO (-1) (-1) 0 0) := ⟨_, rfl⟩
  have hfW : Fr [] w1 w0 := by rw [hW]; exact hf2.alloc _
  have HX0 := toHid (show w0.heap[w2.heap.size]? = some (fallO (-1) (-1) 0 0) by rw [hW]; exact heap_alloc_new w2 _)
  obtain ⟨x0, x1, x2, x3⟩ := fall_cells HX0.out
  obtain ⟨hl0, hr0⟩ := H1.out.1.new hfW
  have HF0 := toHid (H1.out.2.1.trans hr0)
  have hm0 := HF0.out.met hB hmet
  have hp0 := HF0.out.pows hB hpow
  have HL0 := toHid hl0
  clear hf2 hfW hl0 hr0
  go_wp2_with fail
  refine (pick_fn one 3 _ b1.1 b1.2 (by decide) (by decide)).mono ?_
  rintro e wz ⟨rfl, hwz⟩
  rw [hwz, ea]
  clear hwz
  have hW' : w0 = w2.alloc (.cells #[.int .i64 (-1), .int .i64 (-1), .int .i64 0, .int .i64 0] 28) := hW
  rw [← hW']
  clear hW hW'
  go_wp2_with fail
  refine (pick_fn two 3 _ b2.1 b2.2 (by decide) (by decide)).mono ?_
  rintro e wz ⟨rfl, hwz⟩
  rw [hwz, eb]
  clear hwz
  have hl0 := HL0.out
  have hc := does_v w.heap.size hp 100 2 ⟨vs, [], [], 0⟩ [eP1, eC1] w0 0 (by omega) hl0 hB hm0 (by decide) (by decide) (by first | decide | exact Nat.le_refl 0 | (show (0 : Nat) ≤ 3; decide)) (by first | decide | (show (0 : Nat) < 4611686018427387904; decide))
  rw [opFirst vs 2 0 (.inl rfl) (by omega)] at hc
  clear hl0
  go_wp2_with fail
  refine hc.mono ?_
  clear hc x0 x1 x2 x3
  rintro e w1 ⟨rfl, hl1, hf⟩
  have hm1 := hf.met hB hm0
  have hp1 := hf.pows hB hp0
  have HF1 := toHid (HF0.out.trans hf)
  have HX1 := toHid (hf.fall _ _ _ _ _ HX0.out)
  obtain ⟨x0, x1, x2, x3⟩ := fall_cells HX1.out
  clear hf HF0 HX0 hm0 hp0
  go_wp2_with fail
  refine (pick_fn how 3 _ b3.1 b3.2 (by decide) (by decide)).mono ?_
  rintro e wz ⟨rfl, hwz⟩
  rw [hwz, ec]
  clear hwz
  go_wp2_with fail
  refine (pick_fn how 3 _ b3.1 b3.2 (by decide) (by decide)).mono ?_
  rintro e wz ⟨rfl, hwz⟩
  rw [hwz, ec]
  clear hwz
  have hc := does_v w.heap.size hp 103 3 ⟨vs, [(2, ⟨1, 1, 0⟩)], [((2, kk), gW 0)], 0⟩ [eP1, eC1] w1 b (by omega) hl1 hB hm1 (by decide) (by decide) (by first | decide | exact Nat.le_refl 0 | (show (0 : Nat) ≤ 3; decide)) (by first | decide | (show (0 : Nat) < 4611686018427387904; decide))
  rw [opClash vs ⟨1, 1, 0⟩ (.inl rfl) 0 b (by omega) (by omega) (.inr hb0)] at hc
  clear hl1
  go_wp2_with fail
  refine hc.mono ?_
  clear hc x0 x1 x2 x3
  rintro e w2 ⟨rfl, hl2, hf⟩
  have hm2 := hf.met hB hm1
  have hp2 := hf.pows hB hp1
  have HF2 := toHid (HF1.out.trans hf)
  have HX2 := toHid (hf.fall _ _ _ _ _ HX1.out)
  obtain ⟨x0, x1, x2, x3⟩ := fall_cells HX2.out
  clear hf HF1 HX1 hm1 hp1
  have hc := lvPrepN w.heap.size hp 106 3 ⟨vs, [(3, ⟨2, 0, 0⟩), (2, ⟨1, 1, 0⟩)], [((2, kk), gW 0)], 0⟩ [eP1, eC1] w2 3 hl2 hB hm2 hp2 (by decide) (by decide) (by simp [AShard.count]) (small1 _ _ _ _ (gW_small 0)) (fun l d L h1 h2 => rfl)
  clear hl2
  go_wp2_with fail
  refine hc.mono ?_
  clear hc x0 x1 x2 x3
  rintro e w3 ⟨rfl, hl3, hf⟩
  have hm3 := hf.met hB hm2
  have hp3 := hf.pows hB hp2
  have HF3 := toHid (HF2.out.trans hf)
  have HX3 := toHid (hf.fall _ _ _ _ _ HX2.out)
  obtain ⟨x0, x1, x2, x3⟩ := fall_cells HX3.out
  rw [forgetD vs ⟨1, 1, 0⟩ (.inl rfl)] at hl3
  clear hf HF2 HX2 hm2 hp2
  have hc := lvAbrtN w.heap.size hp 109 2 ⟨vs, [(2, ⟨1, 1, 0⟩)], [((2, kk), gW 0)], 0⟩ [eP1, eC1] w3 hl3 hB hm3 (by decide) (by decide) (by first | decide | (show (1 : Nat) ≠ 3; decide) | (show (0 : Nat) ≠ 3; decide))
  clear hl3
  go_wp2_with fail
  refine hc.mono ?_
  clear hc x0 x1 x2 x3
  rintro e w4 ⟨rfl, hl4, hf⟩
  have hm4 := hf.met hB hm3
  have hp4 := hf.pows hB hp3
  have HF4 := toHid (HF3.out.trans hf)
  have HX4 := toHid (hf.fall _ _ _ _ _ HX3.out)
  obtain ⟨x0, x1, x2, x3⟩ := fall_cells HX4.out
  rw [forgetT] at hl4
  clear hf HF3 HX3 hm3 hp3
  have hc := does_v w.heap.size hp 109 4 ⟨vs, [], [], 0⟩ [eP1, eC1] w4 b (by omega) hl4 hB hm4 (by decide) (by decide) (by first | decide | exact Nat.le_refl 0 | (show (0 : Nat) ≤ 3; decide)) (by first | decide | (show (0 : Nat) < 4611686018427387904; decide))
  rw [opFirst vs 4 b (.inr rfl) (by omega)] at hc
  clear hl4
  go_wp2_with fail
  refine hc.mono ?_
  clear hc x0 x1 x2 x3
  rintro e w5 ⟨rfl, hl5, hf⟩
  have hm5 := hf.met hB hm4
  have hp5 := hf.pows hB hp4
  have HF5 := toHid (HF4.out.trans hf)
  have HX5 := toHid (hf.fall _ _ _ _ _ HX4.out)
  obtain ⟨x0, x1, x2, x3⟩ := fall_cells HX5.out
  clear hf HF4 HX4 hm4 hp4
  clear hl5 x0 x1 x2 x3
  go_wp2
  go_ret
  exact ⟨rfl, HF5.out.below⟩
end Go.Proofs.YtkhjhojmhllkaaaGreatDoor
/- THE LAW Locked, one of its ways. (Written by mklock.py.) -/
namespace Go.Proofs.YtkhjhojmhllkaaaGreatDoor
open Go.RowKit Go.Maps
open Sc

set_option maxRecDepth 100000 in
set_option maxHeartbeats 8000000 in
theorem lockC (one two how kept : Int) (commits : Bool) (w : World) (hmet : Met w) (hpow : Pows w) (hB : 2 ≤ w.heap.size) (b1 : -9223372036854775808 ≤ one ∧ one ≤ 9223372036854775807) (b2 : -9223372036854775808 ≤ two ∧ two ≤ 9223372036854775807) (b3 : -9223372036854775808 ≤ how ∧ how ≤ 9223372036854775807) (ea : pk one 3 = 0) (eb : pk two 3 = 0) (ec : pk how 3 = 0) :
    Calls Tryz.prog 6 #[.int .i64 one, .int .i64 two, .int .i64 how, .bool commits, .int .i64 kept] w fun e w' => e = .returned (.bool true) ∧ Below w.heap.size w w' := by
  go_enter Tryz.func6, Tryz.ntmps6
  go_wp2_with fail
  refine (shard_fn w hmet hpow hB).mono ?_
  rintro e w1 ⟨hp, vs, rfl, hhp, hl1, hvs, hf1⟩
  have H1 := toHid (show Lv w1 w.heap.size hp 100 ⟨vs, [], [], 0⟩ [eP1, eC1] ∧ HFs w.heap.size w w1 ∧ alLook vs kk = some vOld from ⟨hl1, hf1, hvs⟩)
  clear hl1 hf1 hvs
  go_wp2_with fail
  refine (well_fn w1).mono ?_
  rintro e w2 ⟨rfl, hf2⟩
  obtain ⟨w0, hW⟩ : ∃ W, W = w2.alloc (fallO (-1) (-1) 0 0) := ⟨_, rfl⟩
  have hfW : Fr [] w1 w0 := by rw [hW]; exact hf2.alloc _
  have HX0 := toHid (show w0.heap[w2.heap.size]? = some (fallO (-1) (-1) 0 0) by rw [hW]; exact heap_alloc_new w2 _)
  obtain ⟨x0, x1, x2, x3⟩ := fall_cells HX0.out
  obtain ⟨hl0, hr0⟩ := H1.out.1.new hfW
  have HF0 := toHid (H1.out.2.1.trans hr0)
  have hm0 := HF0.out.met hB hmet
  have hp0 := HF0.out.pows hB hpow
  have HL0 := toHid hl0
  clear hf2 hfW hl0 hr0
  go_wp2_with fail
  refine (pick_fn one 3 _ b1.1 b1.2 (by decide) (by decide)).mono ?_
  rintro e wz ⟨rfl, hwz⟩
  rw [hwz, ea]
  clear hwz
  have hW' : w0 = w2.alloc (.cells #[.int .i64 (-1), .int .i64 (-1), .int .i64 0, .int .i64 0] 28) := hW
  rw [← hW']
  clear hW hW'
  go_wp2_with fail
  refine (pick_fn two 3 _ b2.1 b2.2 (by decide) (by decide)).mono ?_
  rintro e wz ⟨rfl, hwz⟩
  rw [hwz, eb]
  clear hwz
  have hl0 := HL0.out
  have hc := does_v w.heap.size hp 100 2 ⟨vs, [], [], 0⟩ [eP1, eC1] w0 0 (by omega) hl0 hB hm0 (by decide) (by decide) (by first | decide | exact Nat.le_refl 0 | (show (0 : Nat) ≤ 3; decide)) (by first | decide | (show (0 : Nat) < 4611686018427387904; decide))
  rw [opFirst vs 2 0 (.inl rfl) (by omega)] at hc
  clear hl0
  go_wp2_with fail
  refine hc.mono ?_
  clear hc x0 x1 x2 x3
  rintro e w1 ⟨rfl, hl1, hf⟩
  have hm1 := hf.met hB hm0
  have hp1 := hf.pows hB hp0
  have HF1 := toHid (HF0.out.trans hf)
  have HX1 := toHid (hf.fall _ _ _ _ _ HX0.out)
  obtain ⟨x0, x1, x2, x3⟩ := fall_cells HX1.out
  clear hf HF0 HX0 hm0 hp0
  go_wp2_with fail
  refine (pick_fn how 3 _ b3.1 b3.2 (by decide) (by decide)).mono ?_
  rintro e wz ⟨rfl, hwz⟩
  rw [hwz, ec]
  clear hwz
  go_wp2_with fail
  refine (pick_fn how 3 _ b3.1 b3.2 (by decide) (by decide)).mono ?_
  rintro e wz ⟨rfl, hwz⟩
  rw [hwz, ec]
  clear hwz
  have hc := does_v w.heap.size hp 103 3 ⟨vs, [(2, ⟨1, 1, 0⟩)], [((2, kk), gW 0)], 0⟩ [eP1, eC1] w1 0 (by omega) hl1 hB hm1 (by decide) (by decide) (by first | decide | exact Nat.le_refl 0 | (show (0 : Nat) ≤ 3; decide)) (by first | decide | (show (0 : Nat) < 4611686018427387904; decide))
  rw [opBoth vs ⟨1, 1, 0⟩ (.inl rfl)] at hc
  clear hl1
  go_wp2_with fail
  refine hc.mono ?_
  clear hc x0 x1 x2 x3
  rintro e w2 ⟨rfl, hl2, hf⟩
  have hm2 := hf.met hB hm1
  have hp2 := hf.pows hB hp1
  have HF2 := toHid (HF1.out.trans hf)
  have HX2 := toHid (hf.fall _ _ _ _ _ HX1.out)
  obtain ⟨x0, x1, x2, x3⟩ := fall_cells HX2.out
  clear hf HF1 HX1 hm1 hp1
  have hc := lvAbrtN w.heap.size hp 106 3 ⟨vs, [(3, ⟨1, 1, 0⟩), (2, ⟨1, 1, 0⟩)], [((3, kk), gW 0), ((2, kk), gW 0)], 0⟩ [eP1, eC1] w2 hl2 hB hm2 (by decide) (by decide) (by show (1 : Nat) ≠ 3; decide)
  clear hl2
  go_wp2_with fail
  refine hc.mono ?_
  clear hc x0 x1 x2 x3
  rintro e w3 ⟨rfl, hl3, hf⟩
  have hm3 := hf.met hB hm2
  have hp3 := hf.pows hB hp2
  have HF3 := toHid (HF2.out.trans hf)
  have HX3 := toHid (hf.fall _ _ _ _ _ HX2.out)
  obtain ⟨x0, x1, x2, x3⟩ := fall_cells HX3.out
  rw [forgetB vs ⟨1, 1, 0⟩ (.inl rfl)] at hl3
  clear hf HF2 HX2 hm2 hp2
  have hc := lvAbrtN w.heap.size hp 106 2 ⟨vs, [(2, ⟨1, 1, 0⟩)], [((2, kk), gW 0)], 0⟩ [eP1, eC1] w3 hl3 hB hm3 (by decide) (by decide) (by first | decide | (show (1 : Nat) ≠ 3; decide) | (show (0 : Nat) ≠ 3; decide))
  clear hl3
  go_wp2_with fail
  refine hc.mono ?_
  clear hc x0 x1 x2 x3
  rintro e w4 ⟨rfl, hl4, hf⟩
  have hm4 := hf.met hB hm3
  have hp4 := hf.pows hB hp3
  have HF4 := toHid (HF3.out.trans hf)
  have HX4 := toHid (hf.fall _ _ _ _ _ HX3.out)
  obtain ⟨x0, x1, x2, x3⟩ := fall_cells HX4.out
  rw [forgetT] at hl4
  clear hf HF3 HX3 hm3 hp3
  have hc := does_v w.heap.size hp 106 4 ⟨vs, [], [], 0⟩ [eP1, eC1] w4 0 (by omega) hl4 hB hm4 (by decide) (by decide) (by first | decide | exact Nat.le_refl 0 | (show (0 : Nat) ≤ 3; decide)) (by first | decide | (show (0 : Nat) < 4611686018427387904; decide))
  rw [opFirst vs 4 0 (.inr rfl) (by omega)] at hc
  clear hl4
  go_wp2_with fail
  refine hc.mono ?_
  clear hc x0 x1 x2 x3
  rintro e w5 ⟨rfl, hl5, hf⟩
  have hm5 := hf.met hB hm4
  have hp5 := hf.pows hB hp4
  have HF5 := toHid (HF4.out.trans hf)
  have HX5 := toHid (hf.fall _ _ _ _ _ HX4.out)
  obtain ⟨x0, x1, x2, x3⟩ := fall_cells HX5.out
  clear hf HF4 HX4 hm4 hp4
  clear hl5 x0 x1 x2 x3
  go_wp2
  go_ret
  exact ⟨rfl, HF5.out.below⟩
end Go.Proofs.YtkhjhojmhllkaaaGreatDoor
/- THE LAW Locked, one of its ways. (Written by mklock.py.) -/
namespace Go.Proofs.YtkhjhojmhllkaaaGreatDoor
open Go.RowKit Go.Maps
open Sc

set_option maxRecDepth 100000 in
set_option maxHeartbeats 8000000 in
theorem lockD (one two how kept : Int) (w : World) (hmet : Met w) (hpow : Pows w) (hB : 2 ≤ w.heap.size) (b1 : -9223372036854775808 ≤ one ∧ one ≤ 9223372036854775807) (b2 : -9223372036854775808 ≤ two ∧ two ≤ 9223372036854775807) (b3 : -9223372036854775808 ≤ how ∧ how ≤ 9223372036854775807) (a : Nat) (ha : a < 3) (ha0 : 0 < a) (ea : pk one 3 = a) (b : Nat) (hb : b < 3) (eb : pk two 3 = b) (ec : pk how 3 = 1) :
    Calls Tryz.prog 6 #[.int .i64 one, .int .i64 two, .int .i64 how, .bool true, .int .i64 kept] w fun e w' => e = .returned (.bool true) ∧ Below w.heap.size w w' := by
  have ia : (0 : Int) < (a : Int) := by omega
  go_enter Tryz.func6, Tryz.ntmps6
  go_wp2_with fail
  refine (shard_fn w hmet hpow hB).mono ?_
  rintro e w1 ⟨hp, vs, rfl, hhp, hl1, hvs, hf1⟩
  have H1 := toHid (show Lv w1 w.heap.size hp 100 ⟨vs, [], [], 0⟩ [eP1, eC1] ∧ HFs w.heap.size w w1 ∧ alLook vs kk = some vOld from ⟨hl1, hf1, hvs⟩)
  clear hl1 hf1 hvs
  go_wp2_with fail
  refine (well_fn w1).mono ?_
  rintro e w2 ⟨rfl, hf2⟩
  obtain ⟨w0, hW⟩ : ∃ W, W = w2.alloc (fallO (-1) (-1) 0 0) := ⟨_, rfl⟩
  have hfW : Fr [] w1 w0 := by rw [hW]; exact hf2.alloc _
  have HX0 := toHid (show w0.heap[w2.heap.size]? = some (fallO (-1) (-1) 0 0) by rw [hW]; exact heap_alloc_new w2 _)
  obtain ⟨x0, x1, x2, x3⟩ := fall_cells HX0.out
  obtain ⟨hl0, hr0⟩ := H1.out.1.new hfW
  have HF0 := toHid (H1.out.2.1.trans hr0)
  have hm0 := HF0.out.met hB hmet
  have hp0 := HF0.out.pows hB hpow
  have HL0 := toHid hl0
  clear hf2 hfW hl0 hr0
  go_wp2_with fail
  refine (pick_fn one 3 _ b1.1 b1.2 (by decide) (by decide)).mono ?_
  rintro e wz ⟨rfl, hwz⟩
  rw [hwz, ea]
  clear hwz
  have hW' : w0 = w2.alloc (.cells #[.int .i64 (-1), .int .i64 (-1), .int .i64 0, .int .i64 0] 28) := hW
  rw [← hW']
  clear hW hW'
  go_wp2_with fail
  refine (pick_fn two 3 _ b2.1 b2.2 (by decide) (by decide)).mono ?_
  rintro e wz ⟨rfl, hwz⟩
  rw [hwz, eb]
  clear hwz
  have hl0 := HL0.out
  have hc := does_v w.heap.size hp 100 2 ⟨vs, [], [], 0⟩ [eP1, eC1] w0 a (by omega) hl0 hB hm0 (by decide) (by decide) (by first | decide | exact Nat.le_refl 0 | (show (0 : Nat) ≤ 3; decide)) (by first | decide | (show (0 : Nat) < 4611686018427387904; decide))
  rw [opFirst vs 2 a (.inl rfl) (by omega)] at hc
  clear hl0
  go_wp2_with fail
  refine hc.mono ?_
  clear hc x0 x1 x2 x3
  rintro e w1 ⟨rfl, hl1, hf⟩
  have hm1 := hf.met hB hm0
  have hp1 := hf.pows hB hp0
  have HF1 := toHid (HF0.out.trans hf)
  have HX1 := toHid (hf.fall _ _ _ _ _ HX0.out)
  obtain ⟨x0, x1, x2, x3⟩ := fall_cells HX1.out
  clear hf HF0 HX0 hm0 hp0
  go_wp2_with fail
  refine (pick_fn how 3 _ b3.1 b3.2 (by decide) (by decide)).mono ?_
  rintro e wz ⟨rfl, hwz⟩
  rw [hwz, ec]
  clear hwz
  have hc := lvPrepW w.heap.size hp 103 2 kk ⟨vs, [(2, ⟨1, 1, 0⟩)], [((2, kk), gW a)], 0⟩ [eP1, eC1] w1 (gW a) hl1 hB hm1 hp1 (by decide) (by decide) (by decide) rfl (by simp [AShard.count]) (small1 _ _ _ _ (gW_small a)) (fun L h1 h2 => one_list h1 h2) (gW_writes ha0) (byt_app (be_byt0 _ _) (bytG a ha).1) (by have := (bytG a ha).2; simp only [List.length_append, be_len]; omega) (pre_few (show [eP1, eC1, eP2 a] <+: fullE a from ⟨_, rfl⟩) (fullFew a ha)) (pre_fine (show [eP1, eC1, eP2 a] <+: fullE a from ⟨_, rfl⟩) (fullFine a ha))
  clear hl1
  go_wp2_with fail
  refine hc.mono ?_
  clear hc x0 x1 x2 x3
  rintro e w2 ⟨rfl, hl2', hf⟩
  have hm2 := hf.met hB hm1
  have hp2 := hf.pows hB hp1
  have HF2 := toHid (HF1.out.trans hf)
  have HX2 := toHid (hf.fall _ _ _ _ _ HX1.out)
  obtain ⟨x0, x1, x2, x3⟩ := fall_cells HX2.out
  have hl2 : Lv w2 w.heap.size hp 300 ⟨vs, [(2, ⟨3, 0, 0⟩)], [((2, kk), gW a)], 0⟩ [eP1, eC1, eP2 a] := hl2'.mono (by decide)
  clear hl2'
  clear hf HF1 HX1 hm1 hp1
  go_wp2_with fail
  refine (pick_fn how 3 _ b3.1 b3.2 (by decide) (by decide)).mono ?_
  rintro e wz ⟨rfl, hwz⟩
  rw [hwz, ec]
  clear hwz
  have hc := does_v w.heap.size hp 300 3 ⟨vs, [(2, ⟨3, 0, 0⟩)], [((2, kk), gW a)], 0⟩ [eP1, eC1, eP2 a] w2 b (by omega) hl2 hB hm2 (by decide) (by decide) (by first | decide | exact Nat.le_refl 0 | (show (0 : Nat) ≤ 3; decide)) (by first | decide | (show (0 : Nat) < 4611686018427387904; decide))
  rw [opClash vs ⟨3, 0, 0⟩ (.inr rfl) a b (by omega) (by omega) (.inl ha0)] at hc
  clear hl2
  go_wp2_with fail
  refine hc.mono ?_
  clear hc x0 x1 x2 x3
  rintro e w3 ⟨rfl, hl3, hf⟩
  have hm3 := hf.met hB hm2
  have hp3 := hf.pows hB hp2
  have HF3 := toHid (HF2.out.trans hf)
  have HX3 := toHid (hf.fall _ _ _ _ _ HX2.out)
  obtain ⟨x0, x1, x2, x3⟩ := fall_cells HX3.out
  clear hf HF2 HX2 hm2 hp2
  have hc := lvPrepN w.heap.size hp 303 3 ⟨vs, [(3, ⟨2, 0, 0⟩), (2, ⟨3, 0, 0⟩)], [((2, kk), gW a)], 0⟩ [eP1, eC1, eP2 a] w3 3 hl3 hB hm3 hp3 (by decide) (by decide) (by simp [AShard.count]) (small1 _ _ _ _ (gW_small a)) (fun l d L h1 h2 => rfl)
  clear hl3
  go_wp2_with fail
  refine hc.mono ?_
  clear hc x0 x1 x2 x3
  rintro e w4 ⟨rfl, hl4, hf⟩
  have hm4 := hf.met hB hm3
  have hp4 := hf.pows hB hp3
  have HF4 := toHid (HF3.out.trans hf)
  have HX4 := toHid (hf.fall _ _ _ _ _ HX3.out)
  obtain ⟨x0, x1, x2, x3⟩ := fall_cells HX4.out
  rw [forgetD vs ⟨3, 0, 0⟩ (.inr rfl)] at hl4
  clear hf HF3 HX3 hm3 hp3
  have hc := lvComm w.heap.size hp 306 2 ⟨vs, [(2, ⟨3, 0, 0⟩)], [((2, kk), gW a)], 0⟩ [eP1, eC1, eP2 a] w4 hl4 hB hm4 hp4 (by decide) (by decide) (by decide) rfl (by simp [AShard.count]) (by intro p hp; simp at hp; subst hp; have := (gW_small a).1; exact show (gW a).val.size ≤ maxLen by unfold maxLen; omega) (pre_few (show [eP1, eC1, eP2 a, eC2] <+: fullE a from ⟨_, rfl⟩) (fullFew a ha)) (pre_fine (show [eP1, eC1, eP2 a, eC2] <+: fullE a from ⟨_, rfl⟩) (fullFine a ha))
  clear hl4
  go_wp2_with fail
  refine hc.mono ?_
  clear hc x0 x1 x2 x3
  rintro e w5 ⟨rfl, ⟨sc, hcm, hl5⟩, hf⟩
  have hm5 := hf.met hB hm4
  have hp5 := hf.pows hB hp4
  have HF5 := toHid (HF4.out.trans hf)
  have HX5 := toHid (hf.fall _ _ _ _ _ HX4.out)
  obtain ⟨x0, x1, x2, x3⟩ := fall_cells HX5.out
  obtain ⟨vc, rfl, _⟩ := commT vs hcm
  clear hf HF4 HX4 hm4 hp4
  have hc := does_v w.heap.size hp 326 4 ⟨vc, [], [], 0⟩ _ w5 b (by omega) hl5 hB hm5 (by decide) (by decide) (by first | decide | exact Nat.le_refl 0 | (show (0 : Nat) ≤ 3; decide)) (by first | decide | (show (0 : Nat) < 4611686018427387904; decide))
  rw [opFirst vc 4 b (.inr rfl) (by omega)] at hc
  clear hl5
  go_wp2_with fail
  refine hc.mono ?_
  clear hc x0 x1 x2 x3
  rintro e w6 ⟨rfl, hl6, hf⟩
  have hm6 := hf.met hB hm5
  have hp6 := hf.pows hB hp5
  have HF6 := toHid (HF5.out.trans hf)
  have HX6 := toHid (hf.fall _ _ _ _ _ HX5.out)
  obtain ⟨x0, x1, x2, x3⟩ := fall_cells HX6.out
  clear hf HF5 HX5 hm5 hp5
  clear hl6 x0 x1 x2 x3
  go_wp2
  go_ret
  exact ⟨rfl, HF6.out.below⟩
end Go.Proofs.YtkhjhojmhllkaaaGreatDoor
/- THE LAW Locked, one of its ways. (Written by mklock.py.) -/
namespace Go.Proofs.YtkhjhojmhllkaaaGreatDoor
open Go.RowKit Go.Maps
open Sc

set_option maxRecDepth 100000 in
set_option maxHeartbeats 8000000 in
theorem lockE (one two how kept : Int) (w : World) (hmet : Met w) (hpow : Pows w) (hB : 2 ≤ w.heap.size) (b1 : -9223372036854775808 ≤ one ∧ one ≤ 9223372036854775807) (b2 : -9223372036854775808 ≤ two ∧ two ≤ 9223372036854775807) (b3 : -9223372036854775808 ≤ how ∧ how ≤ 9223372036854775807) (a : Nat) (ha : a < 3) (ha0 : 0 < a) (ea : pk one 3 = a) (b : Nat) (hb : b < 3) (eb : pk two 3 = b) (ec : pk how 3 = 1) :
    Calls Tryz.prog 6 #[.int .i64 one, .int .i64 two, .int .i64 how, .bool false, .int .i64 kept] w fun e w' => e = .returned (.bool true) ∧ Below w.heap.size w w' := by
  have ia : (0 : Int) < (a : Int) := by omega
  go_enter Tryz.func6, Tryz.ntmps6
  go_wp2_with fail
  refine (shard_fn w hmet hpow hB).mono ?_
  rintro e w1 ⟨hp, vs, rfl, hhp, hl1, hvs, hf1⟩
  have H1 := toHid (show Lv w1 w.heap.size hp 100 ⟨vs, [], [], 0⟩ [eP1, eC1] ∧ HFs w.heap.size w w1 ∧ alLook vs kk = some vOld from ⟨hl1, hf1, hvs⟩)
  clear hl1 hf1 hvs
  go_wp2_with fail
  refine (well_fn w1).mono ?_
  rintro e w2 ⟨rfl, hf2⟩
  obtain ⟨w0, hW⟩ : ∃ W, W = w2.alloc (fallO (-1) (-1) 0 0) := ⟨_, rfl⟩
  have hfW : Fr [] w1 w0 := by rw [hW]; exact hf2.alloc _
  have HX0 := toHid (show w0.heap[w2.heap.size]? = some (fallO (-1) (-1) 0 0) by rw [hW]; exact heap_alloc_new w2 _)
  obtain ⟨x0, x1, x2, x3⟩ := fall_cells HX0.out
  obtain ⟨hl0, hr0⟩ := H1.out.1.new hfW
  have HF0 := toHid (H1.out.2.1.trans hr0)
  have hm0 := HF0.out.met hB hmet
  have hp0 := HF0.out.pows hB hpow
  have HL0 := toHid hl0
  clear hf2 hfW hl0 hr0
  go_wp2_with fail
  refine (pick_fn one 3 _ b1.1 b1.2 (by decide) (by decide)).mono ?_
  rintro e wz ⟨rfl, hwz⟩
  rw [hwz, ea]
  clear hwz
  have hW' : w0 = w2.alloc (.cells #[.int .i64 (-1), .int .i64 (-1), .int .i64 0, .int .i64 0] 28) := hW
  rw [← hW']
  clear hW hW'
  go_wp2_with fail
  refine (pick_fn two 3 _ b2.1 b2.2 (by decide) (by decide)).mono ?_
  rintro e wz ⟨rfl, hwz⟩
  rw [hwz, eb]
  clear hwz
  have hl0 := HL0.out
  have hc := does_v w.heap.size hp 100 2 ⟨vs, [], [], 0⟩ [eP1, eC1] w0 a (by omega) hl0 hB hm0 (by decide) (by decide) (by first | decide | exact Nat.le_refl 0 | (show (0 : Nat) ≤ 3; decide)) (by first | decide | (show (0 : Nat) < 4611686018427387904; decide))
  rw [opFirst vs 2 a (.inl rfl) (by omega)] at hc
  clear hl0
  go_wp2_with fail
  refine hc.mono ?_
  clear hc x0 x1 x2 x3
  rintro e w1 ⟨rfl, hl1, hf⟩
  have hm1 := hf.met hB hm0
  have hp1 := hf.pows hB hp0
  have HF1 := toHid (HF0.out.trans hf)
  have HX1 := toHid (hf.fall _ _ _ _ _ HX0.out)
  obtain ⟨x0, x1, x2, x3⟩ := fall_cells HX1.out
  clear hf HF0 HX0 hm0 hp0
  go_wp2_with fail
  refine (pick_fn how 3 _ b3.1 b3.2 (by decide) (by decide)).mono ?_
  rintro e wz ⟨rfl, hwz⟩
  rw [hwz, ec]
  clear hwz
  have hc := lvPrepW w.heap.size hp 103 2 kk ⟨vs, [(2, ⟨1, 1, 0⟩)], [((2, kk), gW a)], 0⟩ [eP1, eC1] w1 (gW a) hl1 hB hm1 hp1 (by decide) (by decide) (by decide) rfl (by simp [AShard.count]) (small1 _ _ _ _ (gW_small a)) (fun L h1 h2 => one_list h1 h2) (gW_writes ha0) (byt_app (be_byt0 _ _) (bytG a ha).1) (by have := (bytG a ha).2; simp only [List.length_append, be_len]; omega) (pre_few (show [eP1, eC1, eP2 a] <+: fullE a from ⟨_, rfl⟩) (fullFew a ha)) (pre_fine (show [eP1, eC1, eP2 a] <+: fullE a from ⟨_, rfl⟩) (fullFine a ha))
  clear hl1
  go_wp2_with fail
  refine hc.mono ?_
  clear hc x0 x1 x2 x3
  rintro e w2 ⟨rfl, hl2', hf⟩
  have hm2 := hf.met hB hm1
  have hp2 := hf.pows hB hp1
  have HF2 := toHid (HF1.out.trans hf)
  have HX2 := toHid (hf.fall _ _ _ _ _ HX1.out)
  obtain ⟨x0, x1, x2, x3⟩ := fall_cells HX2.out
  have hl2 : Lv w2 w.heap.size hp 300 ⟨vs, [(2, ⟨3, 0, 0⟩)], [((2, kk), gW a)], 0⟩ [eP1, eC1, eP2 a] := hl2'.mono (by decide)
  clear hl2'
  clear hf HF1 HX1 hm1 hp1
  go_wp2_with fail
  refine (pick_fn how 3 _ b3.1 b3.2 (by decide) (by decide)).mono ?_
  rintro e wz ⟨rfl, hwz⟩
  rw [hwz, ec]
  clear hwz
  have hc := does_v w.heap.size hp 300 3 ⟨vs, [(2, ⟨3, 0, 0⟩)], [((2, kk), gW a)], 0⟩ [eP1, eC1, eP2 a] w2 b (by omega) hl2 hB hm2 (by decide) (by decide) (by first | decide | exact Nat.le_refl 0 | (show (0 : Nat) ≤ 3; decide)) (by first | decide | (show (0 : Nat) < 4611686018427387904; decide))
  rw [opClash vs ⟨3, 0, 0⟩ (.inr rfl) a b (by omega) (by omega) (.inl ha0)] at hc
  clear hl2
  go_wp2_with fail
  refine hc.mono ?_
  clear hc x0 x1 x2 x3
  rintro e w3 ⟨rfl, hl3, hf⟩
  have hm3 := hf.met hB hm2
  have hp3 := hf.pows hB hp2
  have HF3 := toHid (HF2.out.trans hf)
  have HX3 := toHid (hf.fall _ _ _ _ _ HX2.out)
  obtain ⟨x0, x1, x2, x3⟩ := fall_cells HX3.out
  clear hf HF2 HX2 hm2 hp2
  have hc := lvPrepN w.heap.size hp 303 3 ⟨vs, [(3, ⟨2, 0, 0⟩), (2, ⟨3, 0, 0⟩)], [((2, kk), gW a)], 0⟩ [eP1, eC1, eP2 a] w3 3 hl3 hB hm3 hp3 (by decide) (by decide) (by simp [AShard.count]) (small1 _ _ _ _ (gW_small a)) (fun l d L h1 h2 => rfl)
  clear hl3
  go_wp2_with fail
  refine hc.mono ?_
  clear hc x0 x1 x2 x3
  rintro e w4 ⟨rfl, hl4, hf⟩
  have hm4 := hf.met hB hm3
  have hp4 := hf.pows hB hp3
  have HF4 := toHid (HF3.out.trans hf)
  have HX4 := toHid (hf.fall _ _ _ _ _ HX3.out)
  obtain ⟨x0, x1, x2, x3⟩ := fall_cells HX4.out
  rw [forgetD vs ⟨3, 0, 0⟩ (.inr rfl)] at hl4
  clear hf HF3 HX3 hm3 hp3
  have hc := lvAbrtP w.heap.size hp 306 2 ⟨vs, [(2, ⟨3, 0, 0⟩)], [((2, kk), gW a)], 0⟩ [eP1, eC1, eP2 a] w4 hl4 hB hm4 hp4 (by decide) (by decide) (by decide) rfl
  clear hl4
  go_wp2_with fail
  refine hc.mono ?_
  clear hc x0 x1 x2 x3
  rintro e w5 ⟨rfl, hl5, hf⟩
  have hm5 := hf.met hB hm4
  have hp5 := hf.pows hB hp4
  have HF5 := toHid (HF4.out.trans hf)
  have HX5 := toHid (hf.fall _ _ _ _ _ HX4.out)
  obtain ⟨x0, x1, x2, x3⟩ := fall_cells HX5.out
  rw [forgetT] at hl5
  clear hf HF4 HX4 hm4 hp4
  have hc := does_w w.heap.size hp 309 4 ⟨vs, [], [], 0⟩ w5 b (by omega) hl5 hB hm5 (by decide) (by decide) (by first | decide | exact Nat.le_refl 0 | (show (0 : Nat) ≤ 3; decide)) (by first | decide | (show (0 : Nat) < 4611686018427387904; decide))
  rw [opFirst vs 4 b (.inr rfl) (by omega)] at hc
  clear hl5
  go_wp2_with fail
  refine hc.mono ?_
  clear hc x0 x1 x2 x3
  rintro e w6 ⟨rfl, hl6, hf⟩
  have hm6 := hf.met hB hm5
  have hp6 := hf.pows hB hp5
  have HF6 := toHid (HF5.out.trans hf)
  have HX6 := toHid (hf.fall _ _ _ _ _ HX5.out)
  obtain ⟨x0, x1, x2, x3⟩ := fall_cells HX6.out
  clear hf HF5 HX5 hm5 hp5
  clear hl6 x0 x1 x2 x3
  go_wp2
  go_ret
  exact ⟨rfl, HF6.out.below⟩
end Go.Proofs.YtkhjhojmhllkaaaGreatDoor
/- THE LAW Locked, one of its ways. (Written by mklock.py.) -/
namespace Go.Proofs.YtkhjhojmhllkaaaGreatDoor
open Go.RowKit Go.Maps
open Sc

set_option maxRecDepth 100000 in
set_option maxHeartbeats 8000000 in
theorem lockF (one two how kept : Int) (w : World) (hmet : Met w) (hpow : Pows w) (hB : 2 ≤ w.heap.size) (b1 : -9223372036854775808 ≤ one ∧ one ≤ 9223372036854775807) (b2 : -9223372036854775808 ≤ two ∧ two ≤ 9223372036854775807) (b3 : -9223372036854775808 ≤ how ∧ how ≤ 9223372036854775807) (a : Nat) (ha : a < 3) (ha0 : 0 < a) (ea : pk one 3 = a) (b : Nat) (hb : b < 3) (eb : pk two 3 = b) (ec : pk how 3 = 2) :
    Calls Tryz.prog 6 #[.int .i64 one, .int .i64 two, .int .i64 how, .bool true, .int .i64 kept] w fun e w' => e = .returned (.bool true) ∧ Below w.heap.size w w' := by
  have ia : (0 : Int) < (a : Int) := by omega
  go_enter Tryz.func6, Tryz.ntmps6
  go_wp2_with fail
  refine (shard_fn w hmet hpow hB).mono ?_
  rintro e w1 ⟨hp, vs, rfl, hhp, hl1, hvs, hf1⟩
  have H1 := toHid (show Lv w1 w.heap.size hp 100 ⟨vs, [], [], 0⟩ [eP1, eC1] ∧ HFs w.heap.size w w1 ∧ alLook vs kk = some vOld from ⟨hl1, hf1, hvs⟩)
  clear hl1 hf1 hvs
  go_wp2_with fail
  refine (well_fn w1).mono ?_
  rintro e w2 ⟨rfl, hf2⟩
  obtain ⟨w0, hW⟩ : ∃ W, W = w2.alloc (fallO (-1) (-1) 0 0) := ⟨_, rfl⟩
  have hfW : Fr [] w1 w0 := by rw [hW]; exact hf2.alloc _
  have HX0 := toHid (show w0.heap[w2.heap.size]? = some (fallO (-1) (-1) 0 0) by rw [hW]; exact heap_alloc_new w2 _)
  obtain ⟨x0, x1, x2, x3⟩ := fall_cells HX0.out
  obtain ⟨hl0, hr0⟩ := H1.out.1.new hfW
  have HF0 := toHid (H1.out.2.1.trans hr0)
  have hm0 := HF0.out.met hB hmet
  have hp0 := HF0.out.pows hB hpow
  have HL0 := toHid hl0
  clear hf2 hfW hl0 hr0
  go_wp2_with fail
  refine (pick_fn one 3 _ b1.1 b1.2 (by decide) (by decide)).mono ?_
  rintro e wz ⟨rfl, hwz⟩
  rw [hwz, ea]
  clear hwz
  have hW' : w0 = w2.alloc (.cells #[.int .i64 (-1), .int .i64 (-1), .int .i64 0, .int .i64 0] 28) := hW
  rw [← hW']
  clear hW hW'
  go_wp2_with fail
  refine (pick_fn two 3 _ b2.1 b2.2 (by decide) (by decide)).mono ?_
  rintro e wz ⟨rfl, hwz⟩
  rw [hwz, eb]
  clear hwz
  have hl0 := HL0.out
  have hc := does_v w.heap.size hp 100 2 ⟨vs, [], [], 0⟩ [eP1, eC1] w0 a (by omega) hl0 hB hm0 (by decide) (by decide) (by first | decide | exact Nat.le_refl 0 | (show (0 : Nat) ≤ 3; decide)) (by first | decide | (show (0 : Nat) < 4611686018427387904; decide))
  rw [opFirst vs 2 a (.inl rfl) (by omega)] at hc
  clear hl0
  go_wp2_with fail
  refine hc.mono ?_
  clear hc x0 x1 x2 x3
  rintro e w1 ⟨rfl, hl1, hf⟩
  have hm1 := hf.met hB hm0
  have hp1 := hf.pows hB hp0
  have HF1 := toHid (HF0.out.trans hf)
  have HX1 := toHid (hf.fall _ _ _ _ _ HX0.out)
  obtain ⟨x0, x1, x2, x3⟩ := fall_cells HX1.out
  clear hf HF0 HX0 hm0 hp0
  go_wp2_with fail
  refine (pick_fn how 3 _ b3.1 b3.2 (by decide) (by decide)).mono ?_
  rintro e wz ⟨rfl, hwz⟩
  rw [hwz, ec]
  clear hwz
  have hc := lvPrepW w.heap.size hp 103 2 kk ⟨vs, [(2, ⟨1, 1, 0⟩)], [((2, kk), gW a)], 0⟩ [eP1, eC1] w1 (gW a) hl1 hB hm1 hp1 (by decide) (by decide) (by decide) rfl (by simp [AShard.count]) (small1 _ _ _ _ (gW_small a)) (fun L h1 h2 => one_list h1 h2) (gW_writes ha0) (byt_app (be_byt0 _ _) (bytG a ha).1) (by have := (bytG a ha).2; simp only [List.length_append, be_len]; omega) (pre_few (show [eP1, eC1, eP2 a] <+: fullE a from ⟨_, rfl⟩) (fullFew a ha)) (pre_fine (show [eP1, eC1, eP2 a] <+: fullE a from ⟨_, rfl⟩) (fullFine a ha))
  clear hl1
  go_wp2_with fail
  refine hc.mono ?_
  clear hc x0 x1 x2 x3
  rintro e w2 ⟨rfl, hl2', hf⟩
  have hm2 := hf.met hB hm1
  have hp2 := hf.pows hB hp1
  have HF2 := toHid (HF1.out.trans hf)
  have HX2 := toHid (hf.fall _ _ _ _ _ HX1.out)
  obtain ⟨x0, x1, x2, x3⟩ := fall_cells HX2.out
  have hl2 : Lv w2 w.heap.size hp 300 ⟨vs, [(2, ⟨3, 0, 0⟩)], [((2, kk), gW a)], 0⟩ [eP1, eC1, eP2 a] := hl2'.mono (by decide)
  clear hl2'
  clear hf HF1 HX1 hm1 hp1
  go_wp2_with fail
  refine (pick_fn how 3 _ b3.1 b3.2 (by decide) (by decide)).mono ?_
  rintro e wz ⟨rfl, hwz⟩
  rw [hwz, ec]
  clear hwz
  have hc := lvLose w.heap.size hp 300 ⟨vs, [(2, ⟨3, 0, 0⟩)], [((2, kk), gW a)], 0⟩ [eP1, eC1, eP2 a] w2 kept hl2 hhp (by simp)
  clear hl2
  go_wp2_with fail
  refine hc.mono ?_
  clear hc x0 x1 x2 x3
  rintro e w3 ⟨rfl, hl3, hf⟩
  have hm3 := hf.met hB hm2
  have hp3 := hf.pows hB hp2
  have HF3 := toHid (HF2.out.trans hf)
  have HX3 := toHid (hf.fall _ _ _ _ _ HX2.out)
  obtain ⟨x0, x1, x2, x3⟩ := fall_cells HX3.out
  clear hf HF2 HX2 hm2 hp2
  have hc := lvOpen1 w.heap.size hp 300 [eP1, eC1, eP2 a] w3 (Jr a) hl3 hB hhp hm3 hp3 (notedE a ha0 ha (show [eP1, eC1, eP2 a] <+: fullE a from ⟨_, rfl⟩)) (by decide)
  clear hl3
  go_wp2_with fail
  refine hc.mono ?_
  clear hc x0 x1 x2 x3
  rintro e w4 ⟨rfl, ⟨sx, hJ, hl4'⟩, hf⟩
  have hm4 := hf.met hB hm3
  have hp4 := hf.pows hB hp3
  have HF4 := toHid (HF3.out.trans hf)
  have HX4 := toHid (hf.fall _ _ _ _ _ HX3.out)
  obtain ⟨x0, x1, x2, x3⟩ := fall_cells HX4.out
  obtain ⟨vt, rfl, _⟩ : ∃ vt, sx = ⟨vt, [(2, ⟨3, 0, 0⟩)], [((2, kk), gW a)], 0⟩ ∧ alLook vt kk = some vOld := hJ
  have hl4 : Lv w4 w.heap.size hp 300 ⟨vt, [(2, ⟨3, 0, 0⟩)], [((2, kk), gW a)], 0⟩ [eP1, eC1, eP2 a] := hl4'
  clear hl4'
  clear hf HF3 HX3 hm3 hp3
  have hc := does_v w.heap.size hp 300 3 ⟨vt, [(2, ⟨3, 0, 0⟩)], [((2, kk), gW a)], 0⟩ [eP1, eC1, eP2 a] w4 b (by omega) hl4 hB hm4 (by decide) (by decide) (by first | decide | exact Nat.le_refl 0 | (show (0 : Nat) ≤ 3; decide)) (by first | decide | (show (0 : Nat) < 4611686018427387904; decide))
  rw [opClash vt ⟨3, 0, 0⟩ (.inr rfl) a b (by omega) (by omega) (.inl ha0)] at hc
  clear hl4
  go_wp2_with fail
  refine hc.mono ?_
  clear hc x0 x1 x2 x3
  rintro e w5 ⟨rfl, hl5, hf⟩
  have hm5 := hf.met hB hm4
  have hp5 := hf.pows hB hp4
  have HF5 := toHid (HF4.out.trans hf)
  have HX5 := toHid (hf.fall _ _ _ _ _ HX4.out)
  obtain ⟨x0, x1, x2, x3⟩ := fall_cells HX5.out
  clear hf HF4 HX4 hm4 hp4
  have hc := lvPrepN w.heap.size hp 303 3 ⟨vt, [(3, ⟨2, 0, 0⟩), (2, ⟨3, 0, 0⟩)], [((2, kk), gW a)], 0⟩ [eP1, eC1, eP2 a] w5 3 hl5 hB hm5 hp5 (by decide) (by decide) (by simp [AShard.count]) (small1 _ _ _ _ (gW_small a)) (fun l d L h1 h2 => rfl)
  clear hl5
  go_wp2_with fail
  refine hc.mono ?_
  clear hc x0 x1 x2 x3
  rintro e w6 ⟨rfl, hl6, hf⟩
  have hm6 := hf.met hB hm5
  have hp6 := hf.pows hB hp5
  have HF6 := toHid (HF5.out.trans hf)
  have HX6 := toHid (hf.fall _ _ _ _ _ HX5.out)
  obtain ⟨x0, x1, x2, x3⟩ := fall_cells HX6.out
  rw [forgetD vt ⟨3, 0, 0⟩ (.inr rfl)] at hl6
  clear hf HF5 HX5 hm5 hp5
  have hc := lvComm w.heap.size hp 306 2 ⟨vt, [(2, ⟨3, 0, 0⟩)], [((2, kk), gW a)], 0⟩ [eP1, eC1, eP2 a] w6 hl6 hB hm6 hp6 (by decide) (by decide) (by decide) rfl (by simp [AShard.count]) (by intro p hp; simp at hp; subst hp; have := (gW_small a).1; exact show (gW a).val.size ≤ maxLen by unfold maxLen; omega) (pre_few (show [eP1, eC1, eP2 a, eC2] <+: fullE a from ⟨_, rfl⟩) (fullFew a ha)) (pre_fine (show [eP1, eC1, eP2 a, eC2] <+: fullE a from ⟨_, rfl⟩) (fullFine a ha))
  clear hl6
  go_wp2_with fail
  refine hc.mono ?_
  clear hc x0 x1 x2 x3
  rintro e w7 ⟨rfl, ⟨sc, hcm, hl7⟩, hf⟩
  have hm7 := hf.met hB hm6
  have hp7 := hf.pows hB hp6
  have HF7 := toHid (HF6.out.trans hf)
  have HX7 := toHid (hf.fall _ _ _ _ _ HX6.out)
  obtain ⟨x0, x1, x2, x3⟩ := fall_cells HX7.out
  obtain ⟨vc, rfl, _⟩ := commT vt hcm
  clear hf HF6 HX6 hm6 hp6
  have hc := does_v w.heap.size hp 326 4 ⟨vc, [], [], 0⟩ _ w7 b (by omega) hl7 hB hm7 (by decide) (by decide) (by first | decide | exact Nat.le_refl 0 | (show (0 : Nat) ≤ 3; decide)) (by first | decide | (show (0 : Nat) < 4611686018427387904; decide))
  rw [opFirst vc 4 b (.inr rfl) (by omega)] at hc
  clear hl7
  go_wp2_with fail
  refine hc.mono ?_
  clear hc x0 x1 x2 x3
  rintro e w8 ⟨rfl, hl8, hf⟩
  have hm8 := hf.met hB hm7
  have hp8 := hf.pows hB hp7
  have HF8 := toHid (HF7.out.trans hf)
  have HX8 := toHid (hf.fall _ _ _ _ _ HX7.out)
  obtain ⟨x0, x1, x2, x3⟩ := fall_cells HX8.out
  clear hf HF7 HX7 hm7 hp7
  clear hl8 x0 x1 x2 x3
  go_wp2
  go_ret
  exact ⟨rfl, HF8.out.below⟩
end Go.Proofs.YtkhjhojmhllkaaaGreatDoor
/- THE LAW Locked, one of its ways. (Written by mklock.py.) -/
namespace Go.Proofs.YtkhjhojmhllkaaaGreatDoor
open Go.RowKit Go.Maps
open Sc

set_option maxRecDepth 100000 in
set_option maxHeartbeats 8000000 in
theorem lockG (one two how kept : Int) (w : World) (hmet : Met w) (hpow : Pows w) (hB : 2 ≤ w.heap.size) (b1 : -9223372036854775808 ≤ one ∧ one ≤ 9223372036854775807) (b2 : -9223372036854775808 ≤ two ∧ two ≤ 9223372036854775807) (b3 : -9223372036854775808 ≤ how ∧ how ≤ 9223372036854775807) (a : Nat) (ha : a < 3) (ha0 : 0 < a) (ea : pk one 3 = a) (b : Nat) (hb : b < 3) (eb : pk two 3 = b) (ec : pk how 3 = 2) :
    Calls Tryz.prog 6 #[.int .i64 one, .int .i64 two, .int .i64 how, .bool false, .int .i64 kept] w fun e w' => e = .returned (.bool true) ∧ Below w.heap.size w w' := by
  have ia : (0 : Int) < (a : Int) := by omega
  go_enter Tryz.func6, Tryz.ntmps6
  go_wp2_with fail
  refine (shard_fn w hmet hpow hB).mono ?_
  rintro e w1 ⟨hp, vs, rfl, hhp, hl1, hvs, hf1⟩
  have H1 := toHid (show Lv w1 w.heap.size hp 100 ⟨vs, [], [], 0⟩ [eP1, eC1] ∧ HFs w.heap.size w w1 ∧ alLook vs kk = some vOld from ⟨hl1, hf1, hvs⟩)
  clear hl1 hf1 hvs
  go_wp2_with fail
  refine (well_fn w1).mono ?_
  rintro e w2 ⟨rfl, hf2⟩
  obtain ⟨w0, hW⟩ : ∃ W, W = w2.alloc (fallO (-1) (-1) 0 0) := ⟨_, rfl⟩
  have hfW : Fr [] w1 w0 := by rw [hW]; exact hf2.alloc _
  have HX0 := toHid (show w0.heap[w2.heap.size]? = some (fallO (-1) (-1) 0 0) by rw [hW]; exact heap_alloc_new w2 _)
  obtain ⟨x0, x1, x2, x3⟩ := fall_cells HX0.out
  obtain ⟨hl0, hr0⟩ := H1.out.1.new hfW
  have HF0 := toHid (H1.out.2.1.trans hr0)
  have hm0 := HF0.out.met hB hmet
  have hp0 := HF0.out.pows hB hpow
  have HL0 := toHid hl0
  clear hf2 hfW hl0 hr0
  go_wp2_with fail
  refine (pick_fn one 3 _ b1.1 b1.2 (by decide) (by decide)).mono ?_
  rintro e wz ⟨rfl, hwz⟩
  rw [hwz, ea]
  clear hwz
  have hW' : w0 = w2.alloc (.cells #[.int .i64 (-1), .int .i64 (-1), .int .i64 0, .int .i64 0] 28) := hW
  rw [← hW']
  clear hW hW'
  go_wp2_with fail
  refine (pick_fn two 3 _ b2.1 b2.2 (by decide) (by decide)).mono ?_
  rintro e wz ⟨rfl, hwz⟩
  rw [hwz, eb]
  clear hwz
  have hl0 := HL0.out
  have hc := does_v w.heap.size hp 100 2 ⟨vs, [], [], 0⟩ [eP1, eC1] w0 a (by omega) hl0 hB hm0 (by decide) (by decide) (by first | decide | exact Nat.le_refl 0 | (show (0 : Nat) ≤ 3; decide)) (by first | decide | (show (0 : Nat) < 4611686018427387904; decide))
  rw [opFirst vs 2 a (.inl rfl) (by omega)] at hc
  clear hl0
  go_wp2_with fail
  refine hc.mono ?_
  clear hc x0 x1 x2 x3
  rintro e w1 ⟨rfl, hl1, hf⟩
  have hm1 := hf.met hB hm0
  have hp1 := hf.pows hB hp0
  have HF1 := toHid (HF0.out.trans hf)
  have HX1 := toHid (hf.fall _ _ _ _ _ HX0.out)
  obtain ⟨x0, x1, x2, x3⟩ := fall_cells HX1.out
  clear hf HF0 HX0 hm0 hp0
  go_wp2_with fail
  refine (pick_fn how 3 _ b3.1 b3.2 (by decide) (by decide)).mono ?_
  rintro e wz ⟨rfl, hwz⟩
  rw [hwz, ec]
  clear hwz
  have hc := lvPrepW w.heap.size hp 103 2 kk ⟨vs, [(2, ⟨1, 1, 0⟩)], [((2, kk), gW a)], 0⟩ [eP1, eC1] w1 (gW a) hl1 hB hm1 hp1 (by decide) (by decide) (by decide) rfl (by simp [AShard.count]) (small1 _ _ _ _ (gW_small a)) (fun L h1 h2 => one_list h1 h2) (gW_writes ha0) (byt_app (be_byt0 _ _) (bytG a ha).1) (by have := (bytG a ha).2; simp only [List.length_append, be_len]; omega) (pre_few (show [eP1, eC1, eP2 a] <+: fullE a from ⟨_, rfl⟩) (fullFew a ha)) (pre_fine (show [eP1, eC1, eP2 a] <+: fullE a from ⟨_, rfl⟩) (fullFine a ha))
  clear hl1
  go_wp2_with fail
  refine hc.mono ?_
  clear hc x0 x1 x2 x3
  rintro e w2 ⟨rfl, hl2', hf⟩
  have hm2 := hf.met hB hm1
  have hp2 := hf.pows hB hp1
  have HF2 := toHid (HF1.out.trans hf)
  have HX2 := toHid (hf.fall _ _ _ _ _ HX1.out)
  obtain ⟨x0, x1, x2, x3⟩ := fall_cells HX2.out
  have hl2 : Lv w2 w.heap.size hp 300 ⟨vs, [(2, ⟨3, 0, 0⟩)], [((2, kk), gW a)], 0⟩ [eP1, eC1, eP2 a] := hl2'.mono (by decide)
  clear hl2'
  clear hf HF1 HX1 hm1 hp1
  go_wp2_with fail
  refine (pick_fn how 3 _ b3.1 b3.2 (by decide) (by decide)).mono ?_
  rintro e wz ⟨rfl, hwz⟩
  rw [hwz, ec]
  clear hwz
  have hc := lvLose w.heap.size hp 300 ⟨vs, [(2, ⟨3, 0, 0⟩)], [((2, kk), gW a)], 0⟩ [eP1, eC1, eP2 a] w2 kept hl2 hhp (by simp)
  clear hl2
  go_wp2_with fail
  refine hc.mono ?_
  clear hc x0 x1 x2 x3
  rintro e w3 ⟨rfl, hl3, hf⟩
  have hm3 := hf.met hB hm2
  have hp3 := hf.pows hB hp2
  have HF3 := toHid (HF2.out.trans hf)
  have HX3 := toHid (hf.fall _ _ _ _ _ HX2.out)
  obtain ⟨x0, x1, x2, x3⟩ := fall_cells HX3.out
  clear hf HF2 HX2 hm2 hp2
  have hc := lvOpen1 w.heap.size hp 300 [eP1, eC1, eP2 a] w3 (Jr a) hl3 hB hhp hm3 hp3 (notedE a ha0 ha (show [eP1, eC1, eP2 a] <+: fullE a from ⟨_, rfl⟩)) (by decide)
  clear hl3
  go_wp2_with fail
  refine hc.mono ?_
  clear hc x0 x1 x2 x3
  rintro e w4 ⟨rfl, ⟨sx, hJ, hl4'⟩, hf⟩
  have hm4 := hf.met hB hm3
  have hp4 := hf.pows hB hp3
  have HF4 := toHid (HF3.out.trans hf)
  have HX4 := toHid (hf.fall _ _ _ _ _ HX3.out)
  obtain ⟨x0, x1, x2, x3⟩ := fall_cells HX4.out
  obtain ⟨vt, rfl, _⟩ : ∃ vt, sx = ⟨vt, [(2, ⟨3, 0, 0⟩)], [((2, kk), gW a)], 0⟩ ∧ alLook vt kk = some vOld := hJ
  have hl4 : Lv w4 w.heap.size hp 300 ⟨vt, [(2, ⟨3, 0, 0⟩)], [((2, kk), gW a)], 0⟩ [eP1, eC1, eP2 a] := hl4'
  clear hl4'
  clear hf HF3 HX3 hm3 hp3
  have hc := does_v w.heap.size hp 300 3 ⟨vt, [(2, ⟨3, 0, 0⟩)], [((2, kk), gW a)], 0⟩ [eP1, eC1, eP2 a] w4 b (by omega) hl4 hB hm4 (by decide) (by decide) (by first | decide | exact Nat.le_refl 0 | (show (0 : Nat) ≤ 3; decide)) (by first | decide | (show (0 : Nat) < 4611686018427387904; decide))
  rw [opClash vt ⟨3, 0, 0⟩ (.inr rfl) a b (by omega) (by omega) (.inl ha0)] at hc
  clear hl4
  go_wp2_with fail
  refine hc.mono ?_
  clear hc x0 x1 x2 x3
  rintro e w5 ⟨rfl, hl5, hf⟩
  have hm5 := hf.met hB hm4
  have hp5 := hf.pows hB hp4
  have HF5 := toHid (HF4.out.trans hf)
  have HX5 := toHid (hf.fall _ _ _ _ _ HX4.out)
  obtain ⟨x0, x1, x2, x3⟩ := fall_cells HX5.out
  clear hf HF4 HX4 hm4 hp4
  have hc := lvPrepN w.heap.size hp 303 3 ⟨vt, [(3, ⟨2, 0, 0⟩), (2, ⟨3, 0, 0⟩)], [((2, kk), gW a)], 0⟩ [eP1, eC1, eP2 a] w5 3 hl5 hB hm5 hp5 (by decide) (by decide) (by simp [AShard.count]) (small1 _ _ _ _ (gW_small a)) (fun l d L h1 h2 => rfl)
  clear hl5
  go_wp2_with fail
  refine hc.mono ?_
  clear hc x0 x1 x2 x3
  rintro e w6 ⟨rfl, hl6, hf⟩
  have hm6 := hf.met hB hm5
  have hp6 := hf.pows hB hp5
  have HF6 := toHid (HF5.out.trans hf)
  have HX6 := toHid (hf.fall _ _ _ _ _ HX5.out)
  obtain ⟨x0, x1, x2, x3⟩ := fall_cells HX6.out
  rw [forgetD vt ⟨3, 0, 0⟩ (.inr rfl)] at hl6
  clear hf HF5 HX5 hm5 hp5
  have hc := lvAbrtP w.heap.size hp 306 2 ⟨vt, [(2, ⟨3, 0, 0⟩)], [((2, kk), gW a)], 0⟩ [eP1, eC1, eP2 a] w6 hl6 hB hm6 hp6 (by decide) (by decide) (by decide) rfl
  clear hl6
  go_wp2_with fail
  refine hc.mono ?_
  clear hc x0 x1 x2 x3
  rintro e w7 ⟨rfl, hl7, hf⟩
  have hm7 := hf.met hB hm6
  have hp7 := hf.pows hB hp6
  have HF7 := toHid (HF6.out.trans hf)
  have HX7 := toHid (hf.fall _ _ _ _ _ HX6.out)
  obtain ⟨x0, x1, x2, x3⟩ := fall_cells HX7.out
  rw [forgetT] at hl7
  clear hf HF6 HX6 hm6 hp6
  have hc := does_w w.heap.size hp 309 4 ⟨vt, [], [], 0⟩ w7 b (by omega) hl7 hB hm7 (by decide) (by decide) (by first | decide | exact Nat.le_refl 0 | (show (0 : Nat) ≤ 3; decide)) (by first | decide | (show (0 : Nat) < 4611686018427387904; decide))
  rw [opFirst vt 4 b (.inr rfl) (by omega)] at hc
  clear hl7
  go_wp2_with fail
  refine hc.mono ?_
  clear hc x0 x1 x2 x3
  rintro e w8 ⟨rfl, hl8, hf⟩
  have hm8 := hf.met hB hm7
  have hp8 := hf.pows hB hp7
  have HF8 := toHid (HF7.out.trans hf)
  have HX8 := toHid (hf.fall _ _ _ _ _ HX7.out)
  obtain ⟨x0, x1, x2, x3⟩ := fall_cells HX8.out
  clear hf HF7 HX7 hm7 hp7
  clear hl8 x0 x1 x2 x3
  go_wp2
  go_ret
  exact ⟨rfl, HF8.out.below⟩
end Go.Proofs.YtkhjhojmhllkaaaGreatDoor
/- THE LAW Locked, one of its ways. (Written by mklock.py.) -/
namespace Go.Proofs.YtkhjhojmhllkaaaGreatDoor
open Go.RowKit Go.Maps
open Sc

set_option maxRecDepth 100000 in
set_option maxHeartbeats 8000000 in
theorem lockH (one two how kept : Int) (commits : Bool) (w : World) (hmet : Met w) (hpow : Pows w) (hB : 2 ≤ w.heap.size) (b1 : -9223372036854775808 ≤ one ∧ one ≤ 9223372036854775807) (b2 : -9223372036854775808 ≤ two ∧ two ≤ 9223372036854775807) (b3 : -9223372036854775808 ≤ how ∧ how ≤ 9223372036854775807) (ea : pk one 3 = 0) (b : Nat) (hb : b < 3) (eb : pk two 3 = b) (ec : pk how 3 = 1) :
    Calls Tryz.prog 6 #[.int .i64 one, .int .i64 two, .int .i64 how, .bool commits, .int .i64 kept] w fun e w' => e = .returned (.bool true) ∧ Below w.heap.size w w' := by
  go_enter Tryz.func6, Tryz.ntmps6
  go_wp2_with fail
  refine (shard_fn w hmet hpow hB).mono ?_
  rintro e w1 ⟨hp, vs, rfl, hhp, hl1, hvs, hf1⟩
  have H1 := toHid (show Lv w1 w.heap.size hp 100 ⟨vs, [], [], 0⟩ [eP1, eC1] ∧ HFs w.heap.size w w1 ∧ alLook vs kk = some vOld from ⟨hl1, hf1, hvs⟩)
  clear hl1 hf1 hvs
  go_wp2_with fail
  refine (well_fn w1).mono ?_
  rintro e w2 ⟨rfl, hf2⟩
  obtain ⟨w0, hW⟩ : ∃ W, W = w2.alloc (fallO (-1) (-1) 0 0) := ⟨_, rfl⟩
  have hfW : Fr [] w1 w0 := by rw [hW]; exact hf2.alloc _
  have HX0 := toHid (show w0.heap[w2.heap.size]? = some (fallO (-1) (-1) 0 0) by rw [hW]; exact heap_alloc_new w2 _)
  obtain ⟨x0, x1, x2, x3⟩ := fall_cells HX0.out
  obtain ⟨hl0, hr0⟩ := H1.out.1.new hfW
  have HF0 := toHid (H1.out.2.1.trans hr0)
  have hm0 := HF0.out.met hB hmet
  have hp0 := HF0.out.pows hB hpow
  have HL0 := toHid hl0
  clear hf2 hfW hl0 hr0
  go_wp2_with fail
  refine (pick_fn one 3 _ b1.1 b1.2 (by decide) (by decide)).mono ?_
  rintro e wz ⟨rfl, hwz⟩
  rw [hwz, ea]
  clear hwz
  have hW' : w0 = w2.alloc (.cells #[.int .i64 (-1), .int .i64 (-1), .int .i64 0, .int .i64 0] 28) := hW
  rw [← hW']
  clear hW hW'
  go_wp2_with fail
  refine (pick_fn two 3 _ b2.1 b2.2 (by decide) (by decide)).mono ?_
  rintro e wz ⟨rfl, hwz⟩
  rw [hwz, eb]
  clear hwz
  have hl0 := HL0.out
  have hc := does_v w.heap.size hp 100 2 ⟨vs, [], [], 0⟩ [eP1, eC1] w0 0 (by omega) hl0 hB hm0 (by decide) (by decide) (by first | decide | exact Nat.le_refl 0 | (show (0 : Nat) ≤ 3; decide)) (by first | decide | (show (0 : Nat) < 4611686018427387904; decide))
  rw [opFirst vs 2 0 (.inl rfl) (by omega)] at hc
  clear hl0
  go_wp2_with fail
  refine hc.mono ?_
  clear hc x0 x1 x2 x3
  rintro e w1 ⟨rfl, hl1, hf⟩
  have hm1 := hf.met hB hm0
  have hp1 := hf.pows hB hp0
  have HF1 := toHid (HF0.out.trans hf)
  have HX1 := toHid (hf.fall _ _ _ _ _ HX0.out)
  obtain ⟨x0, x1, x2, x3⟩ := fall_cells HX1.out
  clear hf HF0 HX0 hm0 hp0
  go_wp2_with fail
  refine (pick_fn how 3 _ b3.1 b3.2 (by decide) (by decide)).mono ?_
  rintro e wz ⟨rfl, hwz⟩
  rw [hwz, ec]
  clear hwz
  have hc := lvPrepN w.heap.size hp 103 2 ⟨vs, [(2, ⟨1, 1, 0⟩)], [((2, kk), gW 0)], 0⟩ [eP1, eC1] w1 4 hl1 hB hm1 hp1 (by decide) (by decide) (by simp [AShard.count]) (small1 _ _ _ _ (gW_small 0)) (fun l d L h1 h2 => by rw [one_list h1 h2]; rfl)
  clear hl1
  go_wp2_with fail
  refine hc.mono ?_
  clear hc x0 x1 x2 x3
  rintro e w2 ⟨rfl, hl2', hf⟩
  have hm2 := hf.met hB hm1
  have hp2 := hf.pows hB hp1
  have HF2 := toHid (HF1.out.trans hf)
  have HX2 := toHid (hf.fall _ _ _ _ _ HX1.out)
  obtain ⟨x0, x1, x2, x3⟩ := fall_cells HX2.out
  have hl2 : Lv w2 w.heap.size hp 300 ⟨vs, [], [], 0⟩ [eP1, eC1] := hl2'.mono (by decide)
  clear hl2'
  clear hf HF1 HX1 hm1 hp1
  go_wp2_with fail
  refine (pick_fn how 3 _ b3.1 b3.2 (by decide) (by decide)).mono ?_
  rintro e wz ⟨rfl, hwz⟩
  rw [hwz, ec]
  clear hwz
  have hc := does_v w.heap.size hp 300 3 ⟨vs, [], [], 0⟩ [eP1, eC1] w2 b (by omega) hl2 hB hm2 (by decide) (by decide) (by first | decide | exact Nat.le_refl 0 | (show (0 : Nat) ≤ 3; decide)) (by first | decide | (show (0 : Nat) < 4611686018427387904; decide))
  rw [opThird vs b (by omega)] at hc
  clear hl2
  go_wp2_with fail
  refine hc.mono ?_
  clear hc x0 x1 x2 x3
  rintro e w3 ⟨rfl, hl3, hf⟩
  have hm3 := hf.met hB hm2
  have hp3 := hf.pows hB hp2
  have HF3 := toHid (HF2.out.trans hf)
  have HX3 := toHid (hf.fall _ _ _ _ _ HX2.out)
  obtain ⟨x0, x1, x2, x3⟩ := fall_cells HX3.out
  clear hf HF2 HX2 hm2 hp2
  have hc := lvAbrtN w.heap.size hp 303 3 ⟨vs, [(3, ⟨1, 1, 0⟩)], [((3, kk), gW b)], 0⟩ [eP1, eC1] w3 hl3 hB hm3 (by decide) (by decide) (by show (1 : Nat) ≠ 3; decide)
  clear hl3
  go_wp2_with fail
  refine hc.mono ?_
  clear hc x0 x1 x2 x3
  rintro e w4 ⟨rfl, hl4, hf⟩
  have hm4 := hf.met hB hm3
  have hp4 := hf.pows hB hp3
  have HF4 := toHid (HF3.out.trans hf)
  have HX4 := toHid (hf.fall _ _ _ _ _ HX3.out)
  obtain ⟨x0, x1, x2, x3⟩ := fall_cells HX4.out
  rw [forgetT] at hl4
  clear hf HF3 HX3 hm3 hp3
  have hc := lvAbrtN w.heap.size hp 303 2 ⟨vs, [], [], 0⟩ [eP1, eC1] w4 hl4 hB hm4 (by decide) (by decide) (by first | decide | (show (1 : Nat) ≠ 3; decide) | (show (0 : Nat) ≠ 3; decide))
  clear hl4
  go_wp2_with fail
  refine hc.mono ?_
  clear hc x0 x1 x2 x3
  rintro e w5 ⟨rfl, hl5, hf⟩
  have hm5 := hf.met hB hm4
  have hp5 := hf.pows hB hp4
  have HF5 := toHid (HF4.out.trans hf)
  have HX5 := toHid (hf.fall _ _ _ _ _ HX4.out)
  obtain ⟨x0, x1, x2, x3⟩ := fall_cells HX5.out
  rw [forgetN] at hl5
  clear hf HF4 HX4 hm4 hp4
  have hc := does_v w.heap.size hp 303 4 ⟨vs, [], [], 0⟩ [eP1, eC1] w5 b (by omega) hl5 hB hm5 (by decide) (by decide) (by first | decide | exact Nat.le_refl 0 | (show (0 : Nat) ≤ 3; decide)) (by first | decide | (show (0 : Nat) < 4611686018427387904; decide))
  rw [opFirst vs 4 b (.inr rfl) (by omega)] at hc
  clear hl5
  go_wp2_with fail
  refine hc.mono ?_
  clear hc x0 x1 x2 x3
  rintro e w6 ⟨rfl, hl6, hf⟩
  have hm6 := hf.met hB hm5
  have hp6 := hf.pows hB hp5
  have HF6 := toHid (HF5.out.trans hf)
  have HX6 := toHid (hf.fall _ _ _ _ _ HX5.out)
  obtain ⟨x0, x1, x2, x3⟩ := fall_cells HX6.out
  clear hf HF5 HX5 hm5 hp5
  clear hl6 x0 x1 x2 x3
  go_wp2
  go_ret
  exact ⟨rfl, HF6.out.below⟩
end Go.Proofs.YtkhjhojmhllkaaaGreatDoor
