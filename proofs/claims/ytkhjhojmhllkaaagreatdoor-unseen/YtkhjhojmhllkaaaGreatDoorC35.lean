import Derived.Test.YtkhjhojmhllkaaaGreatDoorC33
import Derived.Test.YtkhjhojmhllkaaaGreatDoorC34
/- THE LAW Unseen, one of its ways. (Written by mkuns.py.) -/
namespace Go.Proofs.YtkhjhojmhllkaaaGreatDoor
open Go.RowKit Go.Maps
open Sc

set_option maxRecDepth 100000 in
set_option maxHeartbeats 8000000 in
theorem unsH (what lose kept : Int) (w : World) (hmet : Met w) (hpow : Pows w) (hB : 2 ≤ w.heap.size) (b1 : -9223372036854775808 ≤ what ∧ what ≤ 9223372036854775807) (b2 : -9223372036854775808 ≤ lose ∧ lose ≤ 9223372036854775807) (ea : pk what 2 = 1) (e2 : pk lose 2 = 0) (j4 : ¬ (1 : Int) < (pk lose 4 : Int)) :
    Calls Tryz.prog 7 #[.int .i64 what, .bool true, .int .i64 lose, .int .i64 kept] w fun e w' => e = .returned (.bool true) ∧ Below w.heap.size w w' := by
  go_enter Tryz.func7, Tryz.ntmps7
  go_wp2_with fail
  refine (shard_fn w hmet hpow hB).mono ?_
  rintro e w1 ⟨hp, vs, rfl, hhp, hl1, hvs, hf1⟩
  have H1 := toHid (show Lv w1 w.heap.size hp 100 ⟨vs, [], [], 0⟩ [eP1, eC1] ∧ HFs w.heap.size w w1 ∧ alLook vs kk = some vOld from ⟨hl1, hf1, hvs⟩)
  clear hl1 hf1 hvs
  go_wp2_with fail
  refine (well_fn w1).mono ?_
  rintro e w2 ⟨rfl, hf2⟩
  obtain ⟨w0, hW⟩ : ∃ W, W = w2.alloc (fallO (-1) (-1) 0 0) := ⟨_, rfl⟩
  have hfW : Fr [] w1 w0 := by rw [hW]; exact hf2.alloc _
  have HX0 := toHid (show w0.heap[w2.heap.size]? = some (fallO (-1) (-1) 0 0) by rw [hW]; exact heap_alloc_new w2 _)
  obtain ⟨x0, x1, x2, x3⟩ := fall_cells HX0.out
  obtain ⟨hl0, hr0⟩ := H1.out.1.new hfW
  have HF0 := toHid (H1.out.2.1.trans hr0)
  have hm0 := HF0.out.met hB hmet
  have hp0 := HF0.out.pows hB hpow
  have HL0 := toHid hl0
  have HV := toHid H1.out.2.2
  clear hf2 hfW hl0 hr0
  go_wp2_with fail
  refine (pick_fn what 2 _ b1.1 b1.2 (by decide) (by decide)).mono ?_
  rintro e wz ⟨rfl, hwz⟩
  rw [hwz, ea]
  clear hwz
  have hW' : w0 = w2.alloc (.cells #[.int .i64 (-1), .int .i64 (-1), .int .i64 0, .int .i64 0] 28) := hW
  rw [← hW']
  clear hW hW'
  have hl0 := HL0.out
  have hc := does_v w.heap.size hp 100 2 ⟨vs, [], [], 0⟩ [eP1, eC1] w0 2 (by decide) hl0 hB hm0 (by decide) (by decide) (by show (0 : Nat) ≤ 3; decide) (by show (0 : Nat) < 4611686018427387904; decide)
  rw [opFirst vs 2 2 (.inl rfl) (by decide)] at hc
  clear hl0
  go_wp2_with fail
  refine hc.mono ?_
  clear hc x0 x1 x2 x3
  rintro e w1 ⟨rfl, hl1, hf⟩
  have hm1 := hf.met hB hm0
  have hp1 := hf.pows hB hp0
  have HF1 := toHid (HF0.out.trans hf)
  have HX1 := toHid (hf.fall _ _ _ _ _ HX0.out)
  obtain ⟨x0, x1, x2, x3⟩ := fall_cells HX1.out
  clear hf HF0 HX0 hm0 hp0
  have hc := lvGet w.heap.size hp 103 2 kk ⟨vs, [(2, ⟨1, 1, 0⟩)], [((2, kk), gW 2)], 0⟩ [eP1, eC1] w1 hl1 hB hm1 (by decide) (by decide) (by decide) (by show (1 : Nat) ≤ 3; decide) (by show (1 : Nat) < 4611686018427387904; decide) 1
  rw [show AShard.get ⟨vs, [(2, ⟨1, 1, 0⟩)], [((2, kk), gW 2)], 0⟩ 2 1 kk = (⟨vs, [(2, ⟨1, 2, 0⟩)], [((2, kk), gW 2)], 0⟩, ByteArray.empty, false, 0) from rfl] at hc
  clear hl1
  go_wp2_with fail
  refine hc.mono ?_
  clear hc x0 x1 x2 x3
  rintro e w2 ⟨rfl, hl2, hf⟩
  have hm2 := hf.met hB hm1
  have hp2 := hf.pows hB hp1
  have HF2 := toHid (HF1.out.trans hf)
  have HX2 := toHid (hf.fall _ _ _ _ _ HX1.out)
  obtain ⟨x0, x1, x2, x3⟩ := fall_cells HX2.out
  clear hf HF1 HX1 hm1 hp1
  have hc := lvValue w.heap.size hp 106 kk ⟨vs, [(2, ⟨1, 2, 0⟩)], [((2, kk), gW 2)], 0⟩ [eP1, eC1] w2 hl2 (by decide)
  rw [show alLook (AShard.vals ⟨vs, [(2, ⟨1, 2, 0⟩)], [((2, kk), gW 2)], 0⟩) kk = some vOld from HV.out] at hc
  clear hl2
  go_wp2_with fail
  refine hc.mono ?_
  clear hc x0 x1 x2 x3
  rintro e w3 ⟨rfl, hl3, hf⟩
  have hm3 := hf.met hB hm2
  have hp3 := hf.pows hB hp2
  have HF3 := toHid (HF2.out.trans hf)
  have HX3 := toHid (hf.fall _ _ _ _ _ HX2.out)
  obtain ⟨x0, x1, x2, x3⟩ := fall_cells HX3.out
  clear hf HF2 HX2 hm2 hp2
  have hc := lvPrepW w.heap.size hp 106 2 kk ⟨vs, [(2, ⟨1, 2, 0⟩)], [((2, kk), gW 2)], 0⟩ [eP1, eC1] w3 (gW 2) hl3 hB hm3 hp3 (by decide) (by decide) (by decide) rfl (by simp [AShard.count]) (small1 _ _ _ _ (gW_small 2)) (fun L h1 h2 => one_list h1 h2) rfl (byt_app (be_byt0 _ _) (bytG 2 (by decide)).1) (by have := (bytG 2 (by decide)).2; simp only [List.length_append, be_len]; omega) (pre_few (show [eP1, eC1, eP2 2] <+: fullE 2 from ⟨_, rfl⟩) (fullFew 2 (by decide))) (pre_fine (show [eP1, eC1, eP2 2] <+: fullE 2 from ⟨_, rfl⟩) (fullFine 2 (by decide)))
  clear hl3
  go_wp2_with fail
  refine hc.mono ?_
  clear hc x0 x1 x2 x3
  rintro e w4 ⟨rfl, hl4', hf⟩
  have hm4 := hf.met hB hm3
  have hp4 := hf.pows hB hp3
  have HF4 := toHid (HF3.out.trans hf)
  have HX4 := toHid (hf.fall _ _ _ _ _ HX3.out)
  obtain ⟨x0, x1, x2, x3⟩ := fall_cells HX4.out
  have hl4 : Lv w4 w.heap.size hp 300 ⟨vs, [(2, ⟨3, 0, 0⟩)], [((2, kk), gW 2)], 0⟩ [eP1, eC1, eP2 2] := hl4'.mono (by decide)
  clear hl4'
  clear hf HF3 HX3 hm3 hp3
  have HL4 := toHid hl4
  clear hl4
  go_wp2_with fail
  refine (pick_fn lose 2 _ b2.1 b2.2 (by decide) (by decide)).mono ?_
  rintro e wz ⟨rfl, hwz⟩
  rw [hwz, e2]
  clear hwz
  have hl4 := HL4.out
  clear HL4
  have hc := lvValue w.heap.size hp 300 kk ⟨vs, [(2, ⟨3, 0, 0⟩)], [((2, kk), gW 2)], 0⟩ [eP1, eC1, eP2 2] w4 hl4 (by decide)
  rw [show alLook (AShard.vals ⟨vs, [(2, ⟨3, 0, 0⟩)], [((2, kk), gW 2)], 0⟩) kk = some vOld from HV.out] at hc
  clear hl4
  go_wp2_with fail
  refine hc.mono ?_
  clear hc x0 x1 x2 x3
  rintro e w5 ⟨rfl, hl5, hf⟩
  have hm5 := hf.met hB hm4
  have hp5 := hf.pows hB hp4
  have HF5 := toHid (HF4.out.trans hf)
  have HX5 := toHid (hf.fall _ _ _ _ _ HX4.out)
  obtain ⟨x0, x1, x2, x3⟩ := fall_cells HX5.out
  clear hf HF4 HX4 hm4 hp4
  have hc := waits_one w.heap.size hp 300 vs (gW 2) [eP1, eC1, eP2 2] w5 hl5
  clear hl5
  go_wp2_with fail
  refine hc.mono ?_
  clear hc x0 x1 x2 x3
  rintro e w6 ⟨g, cap, rfl, hcell, hl6, hf⟩
  have hm6 := hf.met hB hm5
  have hp6 := hf.pows hB hp5
  have HF6 := toHid (HF5.out.trans hf)
  have HX6 := toHid (hf.fall _ _ _ _ _ HX5.out)
  obtain ⟨x0, x1, x2, x3⟩ := fall_cells HX6.out
  clear hf HF5 HX5 hm5 hp5
  have hlen : ∀ (ty : TypeId) (W : World), (Builtin.len_ #[44] ty #[.slice (some ⟨g, 0, none⟩) 1 cap]).run Tryz.prog W = .ok (.int .i64 1) W := fun ty W => by simp [go_sem]
  have hc := lvComm w.heap.size hp 300 2 ⟨vs, [(2, ⟨3, 0, 0⟩)], [((2, kk), gW 2)], 0⟩ [eP1, eC1, eP2 2] w6 hl6 hB hm6 hp6 (by decide) (by decide) (by decide) rfl (by simp [AShard.count]) (by intro p hp; simp at hp; subst hp; have := (gW_small 2).1; exact show (gW 2).val.size ≤ maxLen by unfold maxLen; omega) (pre_few (show fullE 2 <+: fullE 2 from ⟨[], by simp⟩) (fullFew 2 (by decide))) (pre_fine (show fullE 2 <+: fullE 2 from ⟨[], by simp⟩) (fullFine 2 (by decide)))
  clear hl6
  go_wp2_with fail
  refine hc.mono ?_
  clear hc x0 x1 x2 x3
  rintro e w7 ⟨rfl, ⟨sc, hcm, hl7'⟩, hf⟩
  have hm7 := hf.met hB hm6
  have hp7 := hf.pows hB hp6
  have HF7 := toHid (HF6.out.trans hf)
  have HX7 := toHid (hf.fall _ _ _ _ _ HX6.out)
  obtain ⟨x0, x1, x2, x3⟩ := fall_cells HX7.out
  obtain ⟨vc, rfl, hvc⟩ := commT vs hcm
  have HVc := toHid (show alLook vc kk = none by rw [hvc, HV.out]; rfl)
  have hl7 : Lv w7 w.heap.size hp 400 ⟨vc, [], [], 0⟩ (fullE 2) := hl7'.mono (by decide)
  clear hl7' hvc hcm hcell hlen
  clear hf HF6 HX6 hm6 hp6
  have HL7 := toHid hl7
  clear hl7
  go_wp2_with fail
  refine (pick_fn lose 4 _ b2.1 b2.2 (by decide) (by decide)).mono ?_
  rintro e wz ⟨rfl, hwz⟩
  rw [hwz]
  clear hwz
  have hl7 := HL7.out
  clear HL7
  have hc := lvValue w.heap.size hp 400 kk ⟨vc, [], [], 0⟩ (fullE 2) w7 hl7 (by decide)
  rw [show alLook (AShard.vals ⟨vc, [], [], 0⟩) kk = none from HVc.out] at hc
  clear hl7
  go_wp2_with fail
  refine hc.mono ?_
  clear hc x0 x1 x2 x3
  rintro e w8 ⟨rfl, hl8, hf⟩
  have hm8 := hf.met hB hm7
  have hp8 := hf.pows hB hp7
  have HF8 := toHid (HF7.out.trans hf)
  have HX8 := toHid (hf.fall _ _ _ _ _ HX7.out)
  obtain ⟨x0, x1, x2, x3⟩ := fall_cells HX8.out
  clear hf HF7 HX7 hm7 hp7
  clear hl8 x0 x1 x2 x3
  go_wp2
  go_ret
  exact ⟨rfl, HF8.out.below⟩
end Go.Proofs.YtkhjhojmhllkaaaGreatDoor
/- THE LAW Unseen, one of its ways. (Written by mkuns.py.) -/
namespace Go.Proofs.YtkhjhojmhllkaaaGreatDoor
open Go.RowKit Go.Maps
open Sc

set_option maxRecDepth 100000 in
set_option maxHeartbeats 8000000 in
theorem unsI (what lose kept : Int) (w : World) (hmet : Met w) (hpow : Pows w) (hB : 2 ≤ w.heap.size) (b1 : -9223372036854775808 ≤ what ∧ what ≤ 9223372036854775807) (b2 : -9223372036854775808 ≤ lose ∧ lose ≤ 9223372036854775807) (ea : pk what 2 = 1) (e2 : pk lose 2 = 0) (j4 : (1 : Int) < (pk lose 4 : Int)) :
    Calls Tryz.prog 7 #[.int .i64 what, .bool true, .int .i64 lose, .int .i64 kept] w fun e w' => e = .returned (.bool true) ∧ Below w.heap.size w w' := by
  go_enter Tryz.func7, Tryz.ntmps7
  go_wp2_with fail
  refine (shard_fn w hmet hpow hB).mono ?_
  rintro e w1 ⟨hp, vs, rfl, hhp, hl1, hvs, hf1⟩
  have H1 := toHid (show Lv w1 w.heap.size hp 100 ⟨vs, [], [], 0⟩ [eP1, eC1] ∧ HFs w.heap.size w w1 ∧ alLook vs kk = some vOld from ⟨hl1, hf1, hvs⟩)
  clear hl1 hf1 hvs
  go_wp2_with fail
  refine (well_fn w1).mono ?_
  rintro e w2 ⟨rfl, hf2⟩
  obtain ⟨w0, hW⟩ : ∃ W, W = w2.alloc (fallO (-1) (-1) 0 0) := ⟨_, rfl⟩
  have hfW : Fr [] w1 w0 := by rw [hW]; exact hf2.alloc _
  have HX0 := toHid (show w0.heap[w2.heap.size]? = some (fallO (-1) (-1) 0 0) by rw [hW]; exact heap_alloc_new w2 _)
  obtain ⟨x0, x1, x2, x3⟩ := fall_cells HX0.out
  obtain ⟨hl0, hr0⟩ := H1.out.1.new hfW
  have HF0 := toHid (H1.out.2.1.trans hr0)
  have hm0 := HF0.out.met hB hmet
  have hp0 := HF0.out.pows hB hpow
  have HL0 := toHid hl0
  have HV := toHid H1.out.2.2
  clear hf2 hfW hl0 hr0
  go_wp2_with fail
  refine (pick_fn what 2 _ b1.1 b1.2 (by decide) (by decide)).mono ?_
  rintro e wz ⟨rfl, hwz⟩
  rw [hwz, ea]
  clear hwz
  have hW' : w0 = w2.alloc (.cells #[.int .i64 (-1), .int .i64 (-1), .int .i64 0, .int .i64 0] 28) := hW
  rw [← hW']
  clear hW hW'
  have hl0 := HL0.out
  have hc := does_v w.heap.size hp 100 2 ⟨vs, [], [], 0⟩ [eP1, eC1] w0 2 (by decide) hl0 hB hm0 (by decide) (by decide) (by show (0 : Nat) ≤ 3; decide) (by show (0 : Nat) < 4611686018427387904; decide)
  rw [opFirst vs 2 2 (.inl rfl) (by decide)] at hc
  clear hl0
  go_wp2_with fail
  refine hc.mono ?_
  clear hc x0 x1 x2 x3
  rintro e w1 ⟨rfl, hl1, hf⟩
  have hm1 := hf.met hB hm0
  have hp1 := hf.pows hB hp0
  have HF1 := toHid (HF0.out.trans hf)
  have HX1 := toHid (hf.fall _ _ _ _ _ HX0.out)
  obtain ⟨x0, x1, x2, x3⟩ := fall_cells HX1.out
  clear hf HF0 HX0 hm0 hp0
  have hc := lvGet w.heap.size hp 103 2 kk ⟨vs, [(2, ⟨1, 1, 0⟩)], [((2, kk), gW 2)], 0⟩ [eP1, eC1] w1 hl1 hB hm1 (by decide) (by decide) (by decide) (by show (1 : Nat) ≤ 3; decide) (by show (1 : Nat) < 4611686018427387904; decide) 1
  rw [show AShard.get ⟨vs, [(2, ⟨1, 1, 0⟩)], [((2, kk), gW 2)], 0⟩ 2 1 kk = (⟨vs, [(2, ⟨1, 2, 0⟩)], [((2, kk), gW 2)], 0⟩, ByteArray.empty, false, 0) from rfl] at hc
  clear hl1
  go_wp2_with fail
  refine hc.mono ?_
  clear hc x0 x1 x2 x3
  rintro e w2 ⟨rfl, hl2, hf⟩
  have hm2 := hf.met hB hm1
  have hp2 := hf.pows hB hp1
  have HF2 := toHid (HF1.out.trans hf)
  have HX2 := toHid (hf.fall _ _ _ _ _ HX1.out)
  obtain ⟨x0, x1, x2, x3⟩ := fall_cells HX2.out
  clear hf HF1 HX1 hm1 hp1
  have hc := lvValue w.heap.size hp 106 kk ⟨vs, [(2, ⟨1, 2, 0⟩)], [((2, kk), gW 2)], 0⟩ [eP1, eC1] w2 hl2 (by decide)
  rw [show alLook (AShard.vals ⟨vs, [(2, ⟨1, 2, 0⟩)], [((2, kk), gW 2)], 0⟩) kk = some vOld from HV.out] at hc
  clear hl2
  go_wp2_with fail
  refine hc.mono ?_
  clear hc x0 x1 x2 x3
  rintro e w3 ⟨rfl, hl3, hf⟩
  have hm3 := hf.met hB hm2
  have hp3 := hf.pows hB hp2
  have HF3 := toHid (HF2.out.trans hf)
  have HX3 := toHid (hf.fall _ _ _ _ _ HX2.out)
  obtain ⟨x0, x1, x2, x3⟩ := fall_cells HX3.out
  clear hf HF2 HX2 hm2 hp2
  have hc := lvPrepW w.heap.size hp 106 2 kk ⟨vs, [(2, ⟨1, 2, 0⟩)], [((2, kk), gW 2)], 0⟩ [eP1, eC1] w3 (gW 2) hl3 hB hm3 hp3 (by decide) (by decide) (by decide) rfl (by simp [AShard.count]) (small1 _ _ _ _ (gW_small 2)) (fun L h1 h2 => one_list h1 h2) rfl (byt_app (be_byt0 _ _) (bytG 2 (by decide)).1) (by have := (bytG 2 (by decide)).2; simp only [List.length_append, be_len]; omega) (pre_few (show [eP1, eC1, eP2 2] <+: fullE 2 from ⟨_, rfl⟩) (fullFew 2 (by decide))) (pre_fine (show [eP1, eC1, eP2 2] <+: fullE 2 from ⟨_, rfl⟩) (fullFine 2 (by decide)))
  clear hl3
  go_wp2_with fail
  refine hc.mono ?_
  clear hc x0 x1 x2 x3
  rintro e w4 ⟨rfl, hl4', hf⟩
  have hm4 := hf.met hB hm3
  have hp4 := hf.pows hB hp3
  have HF4 := toHid (HF3.out.trans hf)
  have HX4 := toHid (hf.fall _ _ _ _ _ HX3.out)
  obtain ⟨x0, x1, x2, x3⟩ := fall_cells HX4.out
  have hl4 : Lv w4 w.heap.size hp 300 ⟨vs, [(2, ⟨3, 0, 0⟩)], [((2, kk), gW 2)], 0⟩ [eP1, eC1, eP2 2] := hl4'.mono (by decide)
  clear hl4'
  clear hf HF3 HX3 hm3 hp3
  have HL4 := toHid hl4
  clear hl4
  go_wp2_with fail
  refine (pick_fn lose 2 _ b2.1 b2.2 (by decide) (by decide)).mono ?_
  rintro e wz ⟨rfl, hwz⟩
  rw [hwz, e2]
  clear hwz
  have hl4 := HL4.out
  clear HL4
  have hc := lvValue w.heap.size hp 300 kk ⟨vs, [(2, ⟨3, 0, 0⟩)], [((2, kk), gW 2)], 0⟩ [eP1, eC1, eP2 2] w4 hl4 (by decide)
  rw [show alLook (AShard.vals ⟨vs, [(2, ⟨3, 0, 0⟩)], [((2, kk), gW 2)], 0⟩) kk = some vOld from HV.out] at hc
  clear hl4
  go_wp2_with fail
  refine hc.mono ?_
  clear hc x0 x1 x2 x3
  rintro e w5 ⟨rfl, hl5, hf⟩
  have hm5 := hf.met hB hm4
  have hp5 := hf.pows hB hp4
  have HF5 := toHid (HF4.out.trans hf)
  have HX5 := toHid (hf.fall _ _ _ _ _ HX4.out)
  obtain ⟨x0, x1, x2, x3⟩ := fall_cells HX5.out
  clear hf HF4 HX4 hm4 hp4
  have hc := waits_one w.heap.size hp 300 vs (gW 2) [eP1, eC1, eP2 2] w5 hl5
  clear hl5
  go_wp2_with fail
  refine hc.mono ?_
  clear hc x0 x1 x2 x3
  rintro e w6 ⟨g, cap, rfl, hcell, hl6, hf⟩
  have hm6 := hf.met hB hm5
  have hp6 := hf.pows hB hp5
  have HF6 := toHid (HF5.out.trans hf)
  have HX6 := toHid (hf.fall _ _ _ _ _ HX5.out)
  obtain ⟨x0, x1, x2, x3⟩ := fall_cells HX6.out
  clear hf HF5 HX5 hm5 hp5
  have hlen : ∀ (ty : TypeId) (W : World), (Builtin.len_ #[44] ty #[.slice (some ⟨g, 0, none⟩) 1 cap]).run Tryz.prog W = .ok (.int .i64 1) W := fun ty W => by simp [go_sem]
  have hc := lvComm w.heap.size hp 300 2 ⟨vs, [(2, ⟨3, 0, 0⟩)], [((2, kk), gW 2)], 0⟩ [eP1, eC1, eP2 2] w6 hl6 hB hm6 hp6 (by decide) (by decide) (by decide) rfl (by simp [AShard.count]) (by intro p hp; simp at hp; subst hp; have := (gW_small 2).1; exact show (gW 2).val.size ≤ maxLen by unfold maxLen; omega) (pre_few (show fullE 2 <+: fullE 2 from ⟨[], by simp⟩) (fullFew 2 (by decide))) (pre_fine (show fullE 2 <+: fullE 2 from ⟨[], by simp⟩) (fullFine 2 (by decide)))
  clear hl6
  go_wp2_with fail
  refine hc.mono ?_
  clear hc x0 x1 x2 x3
  rintro e w7 ⟨rfl, ⟨sc, hcm, hl7'⟩, hf⟩
  have hm7 := hf.met hB hm6
  have hp7 := hf.pows hB hp6
  have HF7 := toHid (HF6.out.trans hf)
  have HX7 := toHid (hf.fall _ _ _ _ _ HX6.out)
  obtain ⟨x0, x1, x2, x3⟩ := fall_cells HX7.out
  obtain ⟨vc, rfl, hvc⟩ := commT vs hcm
  have HVc := toHid (show alLook vc kk = none by rw [hvc, HV.out]; rfl)
  have hl7 : Lv w7 w.heap.size hp 400 ⟨vc, [], [], 0⟩ (fullE 2) := hl7'.mono (by decide)
  clear hl7' hvc hcm hcell hlen
  clear hf HF6 HX6 hm6 hp6
  have HL7 := toHid hl7
  clear hl7
  go_wp2_with fail
  refine (pick_fn lose 4 _ b2.1 b2.2 (by decide) (by decide)).mono ?_
  rintro e wz ⟨rfl, hwz⟩
  rw [hwz]
  clear hwz
  have hl7 := HL7.out
  clear HL7
  have hc := lvLose w.heap.size hp 400 ⟨vc, [], [], 0⟩ (fullE 2) w7 kept hl7 hhp (by simp [fullE])
  clear hl7
  go_wp2_with fail
  refine hc.mono ?_
  clear hc x0 x1 x2 x3
  rintro e w8 ⟨rfl, hl8, hf⟩
  have hm8 := hf.met hB hm7
  have hp8 := hf.pows hB hp7
  have HF8 := toHid (HF7.out.trans hf)
  have HX8 := toHid (hf.fall _ _ _ _ _ HX7.out)
  obtain ⟨x0, x1, x2, x3⟩ := fall_cells HX8.out
  clear hf HF7 HX7 hm7 hp7
  have hc := lvOpen1 w.heap.size hp 400 (fullE 2) w8 (Jr 2) hl8 hB hhp hm8 hp8 (notedE 2 (by decide) (by decide) ⟨[], by simp⟩) (by decide)
  clear hl8
  go_wp2_with fail
  refine hc.mono ?_
  clear hc x0 x1 x2 x3
  rintro e w9 ⟨rfl, ⟨sx, hJ, hl9⟩, hf⟩
  have hm9 := hf.met hB hm8
  have hp9 := hf.pows hB hp8
  have HF9 := toHid (HF8.out.trans hf)
  have HX9 := toHid (hf.fall _ _ _ _ _ HX8.out)
  obtain ⟨x0, x1, x2, x3⟩ := fall_cells HX9.out
  obtain ⟨vd, rfl, hvd⟩ : ∃ vd, sx = ⟨vd, [], [], 0⟩ ∧ alLook vd kk = gripped (some (gW 2)) (some vOld) := hJ
  have HVc := toHid (show alLook vd kk = none from hvd)
  clear hvd
  clear hf HF8 HX8 hm8 hp8
  have hc := lvValue w.heap.size hp 400 kk ⟨vd, [], [], 0⟩ (fullE 2) w9 hl9 (by decide)
  rw [show alLook (AShard.vals ⟨vd, [], [], 0⟩) kk = none from HVc.out] at hc
  clear hl9
  go_wp2_with fail
  refine hc.mono ?_
  clear hc x0 x1 x2 x3
  rintro e w10 ⟨rfl, hl10, hf⟩
  have hm10 := hf.met hB hm9
  have hp10 := hf.pows hB hp9
  have HF10 := toHid (HF9.out.trans hf)
  have HX10 := toHid (hf.fall _ _ _ _ _ HX9.out)
  obtain ⟨x0, x1, x2, x3⟩ := fall_cells HX10.out
  clear hf HF9 HX9 hm9 hp9
  clear hl10 x0 x1 x2 x3
  go_wp2
  go_ret
  exact ⟨rfl, HF10.out.below⟩
end Go.Proofs.YtkhjhojmhllkaaaGreatDoor
/- THE LAW Unseen, one of its ways. (Written by mkuns.py.) -/
namespace Go.Proofs.YtkhjhojmhllkaaaGreatDoor
open Go.RowKit Go.Maps
open Sc

set_option maxRecDepth 100000 in
set_option maxHeartbeats 8000000 in
theorem unsJ (what lose kept : Int) (w : World) (hmet : Met w) (hpow : Pows w) (hB : 2 ≤ w.heap.size) (b1 : -9223372036854775808 ≤ what ∧ what ≤ 9223372036854775807) (b2 : -9223372036854775808 ≤ lose ∧ lose ≤ 9223372036854775807) (ea : pk what 2 = 1) (e2 : pk lose 2 = 1) :
    Calls Tryz.prog 7 #[.int .i64 what, .bool false, .int .i64 lose, .int .i64 kept] w fun e w' => e = .returned (.bool true) ∧ Below w.heap.size w w' := by
  go_enter Tryz.func7, Tryz.ntmps7
  go_wp2_with fail
  refine (shard_fn w hmet hpow hB).mono ?_
  rintro e w1 ⟨hp, vs, rfl, hhp, hl1, hvs, hf1⟩
  have H1 := toHid (show Lv w1 w.heap.size hp 100 ⟨vs, [], [], 0⟩ [eP1, eC1] ∧ HFs w.heap.size w w1 ∧ alLook vs kk = some vOld from ⟨hl1, hf1, hvs⟩)
  clear hl1 hf1 hvs
  go_wp2_with fail
  refine (well_fn w1).mono ?_
  rintro e w2 ⟨rfl, hf2⟩
  obtain ⟨w0, hW⟩ : ∃ W, W = w2.alloc (fallO (-1) (-1) 0 0) := ⟨_, rfl⟩
  have hfW : Fr [] w1 w0 := by rw [hW]; exact hf2.alloc _
  have HX0 := toHid (show w0.heap[w2.heap.size]? = some (fallO (-1) (-1) 0 0) by rw [hW]; exact heap_alloc_new w2 _)
  obtain ⟨x0, x1, x2, x3⟩ := fall_cells HX0.out
  obtain ⟨hl0, hr0⟩ := H1.out.1.new hfW
  have HF0 := toHid (H1.out.2.1.trans hr0)
  have hm0 := HF0.out.met hB hmet
  have hp0 := HF0.out.pows hB hpow
  have HL0 := toHid hl0
  have HV := toHid H1.out.2.2
  clear hf2 hfW hl0 hr0
  go_wp2_with fail
  refine (pick_fn what 2 _ b1.1 b1.2 (by decide) (by decide)).mono ?_
  rintro e wz ⟨rfl, hwz⟩
  rw [hwz, ea]
  clear hwz
  have hW' : w0 = w2.alloc (.cells #[.int .i64 (-1), .int .i64 (-1), .int .i64 0, .int .i64 0] 28) := hW
  rw [← hW']
  clear hW hW'
  have hl0 := HL0.out
  have hc := does_v w.heap.size hp 100 2 ⟨vs, [], [], 0⟩ [eP1, eC1] w0 2 (by decide) hl0 hB hm0 (by decide) (by decide) (by show (0 : Nat) ≤ 3; decide) (by show (0 : Nat) < 4611686018427387904; decide)
  rw [opFirst vs 2 2 (.inl rfl) (by decide)] at hc
  clear hl0
  go_wp2_with fail
  refine hc.mono ?_
  clear hc x0 x1 x2 x3
  rintro e w1 ⟨rfl, hl1, hf⟩
  have hm1 := hf.met hB hm0
  have hp1 := hf.pows hB hp0
  have HF1 := toHid (HF0.out.trans hf)
  have HX1 := toHid (hf.fall _ _ _ _ _ HX0.out)
  obtain ⟨x0, x1, x2, x3⟩ := fall_cells HX1.out
  clear hf HF0 HX0 hm0 hp0
  have hc := lvGet w.heap.size hp 103 2 kk ⟨vs, [(2, ⟨1, 1, 0⟩)], [((2, kk), gW 2)], 0⟩ [eP1, eC1] w1 hl1 hB hm1 (by decide) (by decide) (by decide) (by show (1 : Nat) ≤ 3; decide) (by show (1 : Nat) < 4611686018427387904; decide) 1
  rw [show AShard.get ⟨vs, [(2, ⟨1, 1, 0⟩)], [((2, kk), gW 2)], 0⟩ 2 1 kk = (⟨vs, [(2, ⟨1, 2, 0⟩)], [((2, kk), gW 2)], 0⟩, ByteArray.empty, false, 0) from rfl] at hc
  clear hl1
  go_wp2_with fail
  refine hc.mono ?_
  clear hc x0 x1 x2 x3
  rintro e w2 ⟨rfl, hl2, hf⟩
  have hm2 := hf.met hB hm1
  have hp2 := hf.pows hB hp1
  have HF2 := toHid (HF1.out.trans hf)
  have HX2 := toHid (hf.fall _ _ _ _ _ HX1.out)
  obtain ⟨x0, x1, x2, x3⟩ := fall_cells HX2.out
  clear hf HF1 HX1 hm1 hp1
  have hc := lvValue w.heap.size hp 106 kk ⟨vs, [(2, ⟨1, 2, 0⟩)], [((2, kk), gW 2)], 0⟩ [eP1, eC1] w2 hl2 (by decide)
  rw [show alLook (AShard.vals ⟨vs, [(2, ⟨1, 2, 0⟩)], [((2, kk), gW 2)], 0⟩) kk = some vOld from HV.out] at hc
  clear hl2
  go_wp2_with fail
  refine hc.mono ?_
  clear hc x0 x1 x2 x3
  rintro e w3 ⟨rfl, hl3, hf⟩
  have hm3 := hf.met hB hm2
  have hp3 := hf.pows hB hp2
  have HF3 := toHid (HF2.out.trans hf)
  have HX3 := toHid (hf.fall _ _ _ _ _ HX2.out)
  obtain ⟨x0, x1, x2, x3⟩ := fall_cells HX3.out
  clear hf HF2 HX2 hm2 hp2
  have hc := lvPrepW w.heap.size hp 106 2 kk ⟨vs, [(2, ⟨1, 2, 0⟩)], [((2, kk), gW 2)], 0⟩ [eP1, eC1] w3 (gW 2) hl3 hB hm3 hp3 (by decide) (by decide) (by decide) rfl (by simp [AShard.count]) (small1 _ _ _ _ (gW_small 2)) (fun L h1 h2 => one_list h1 h2) rfl (byt_app (be_byt0 _ _) (bytG 2 (by decide)).1) (by have := (bytG 2 (by decide)).2; simp only [List.length_append, be_len]; omega) (pre_few (show [eP1, eC1, eP2 2] <+: fullE 2 from ⟨_, rfl⟩) (fullFew 2 (by decide))) (pre_fine (show [eP1, eC1, eP2 2] <+: fullE 2 from ⟨_, rfl⟩) (fullFine 2 (by decide)))
  clear hl3
  go_wp2_with fail
  refine hc.mono ?_
  clear hc x0 x1 x2 x3
  rintro e w4 ⟨rfl, hl4', hf⟩
  have hm4 := hf.met hB hm3
  have hp4 := hf.pows hB hp3
  have HF4 := toHid (HF3.out.trans hf)
  have HX4 := toHid (hf.fall _ _ _ _ _ HX3.out)
  obtain ⟨x0, x1, x2, x3⟩ := fall_cells HX4.out
  have hl4 : Lv w4 w.heap.size hp 300 ⟨vs, [(2, ⟨3, 0, 0⟩)], [((2, kk), gW 2)], 0⟩ [eP1, eC1, eP2 2] := hl4'.mono (by decide)
  clear hl4'
  clear hf HF3 HX3 hm3 hp3
  have HL4 := toHid hl4
  clear hl4
  go_wp2_with fail
  refine (pick_fn lose 2 _ b2.1 b2.2 (by decide) (by decide)).mono ?_
  rintro e wz ⟨rfl, hwz⟩
  rw [hwz, e2]
  clear hwz
  have hl4 := HL4.out
  clear HL4
  have hc := lvLose w.heap.size hp 300 ⟨vs, [(2, ⟨3, 0, 0⟩)], [((2, kk), gW 2)], 0⟩ [eP1, eC1, eP2 2] w4 kept hl4 hhp (by simp)
  clear hl4
  go_wp2_with fail
  refine hc.mono ?_
  clear hc x0 x1 x2 x3
  rintro e w5 ⟨rfl, hl5, hf⟩
  have hm5 := hf.met hB hm4
  have hp5 := hf.pows hB hp4
  have HF5 := toHid (HF4.out.trans hf)
  have HX5 := toHid (hf.fall _ _ _ _ _ HX4.out)
  obtain ⟨x0, x1, x2, x3⟩ := fall_cells HX5.out
  clear hf HF4 HX4 hm4 hp4
  have hc := lvOpen1 w.heap.size hp 300 [eP1, eC1, eP2 2] w5 (Jr 2) hl5 hB hhp hm5 hp5 (notedE 2 (by decide) (by decide) (show [eP1, eC1, eP2 2] <+: fullE 2 from ⟨_, rfl⟩)) (by decide)
  clear hl5
  go_wp2_with fail
  refine hc.mono ?_
  clear hc x0 x1 x2 x3
  rintro e w6 ⟨rfl, ⟨sx, hJ, hl6'⟩, hf⟩
  have hm6 := hf.met hB hm5
  have hp6 := hf.pows hB hp5
  have HF6 := toHid (HF5.out.trans hf)
  have HX6 := toHid (hf.fall _ _ _ _ _ HX5.out)
  obtain ⟨x0, x1, x2, x3⟩ := fall_cells HX6.out
  obtain ⟨vt, rfl, hvt⟩ : ∃ vt, sx = ⟨vt, [(2, ⟨3, 0, 0⟩)], [((2, kk), gW 2)], 0⟩ ∧ alLook vt kk = some vOld := hJ
  have HV := toHid hvt
  have hl6 : Lv w6 w.heap.size hp 300 ⟨vt, [(2, ⟨3, 0, 0⟩)], [((2, kk), gW 2)], 0⟩ [eP1, eC1, eP2 2] := hl6'
  clear hl6' hvt
  clear hf HF5 HX5 hm5 hp5
  have hc := lvValue w.heap.size hp 300 kk ⟨vt, [(2, ⟨3, 0, 0⟩)], [((2, kk), gW 2)], 0⟩ [eP1, eC1, eP2 2] w6 hl6 (by decide)
  rw [show alLook (AShard.vals ⟨vt, [(2, ⟨3, 0, 0⟩)], [((2, kk), gW 2)], 0⟩) kk = some vOld from HV.out] at hc
  clear hl6
  go_wp2_with fail
  refine hc.mono ?_
  clear hc x0 x1 x2 x3
  rintro e w7 ⟨rfl, hl7, hf⟩
  have hm7 := hf.met hB hm6
  have hp7 := hf.pows hB hp6
  have HF7 := toHid (HF6.out.trans hf)
  have HX7 := toHid (hf.fall _ _ _ _ _ HX6.out)
  obtain ⟨x0, x1, x2, x3⟩ := fall_cells HX7.out
  clear hf HF6 HX6 hm6 hp6
  have hc := waits_one w.heap.size hp 300 vt (gW 2) [eP1, eC1, eP2 2] w7 hl7
  clear hl7
  go_wp2_with fail
  refine hc.mono ?_
  clear hc x0 x1 x2 x3
  rintro e w8 ⟨g, cap, rfl, hcell, hl8, hf⟩
  have hm8 := hf.met hB hm7
  have hp8 := hf.pows hB hp7
  have HF8 := toHid (HF7.out.trans hf)
  have HX8 := toHid (hf.fall _ _ _ _ _ HX7.out)
  obtain ⟨x0, x1, x2, x3⟩ := fall_cells HX8.out
  clear hf HF7 HX7 hm7 hp7
  have hlen : ∀ (ty : TypeId) (W : World), (Builtin.len_ #[44] ty #[.slice (some ⟨g, 0, none⟩) 1 cap]).run Tryz.prog W = .ok (.int .i64 1) W := fun ty W => by simp [go_sem]
  have hc := lvAbrtP w.heap.size hp 300 2 ⟨vt, [(2, ⟨3, 0, 0⟩)], [((2, kk), gW 2)], 0⟩ [eP1, eC1, eP2 2] w8 hl8 hB hm8 hp8 (by decide) (by decide) (by decide) rfl
  clear hl8
  go_wp2_with fail
  refine hc.mono ?_
  clear hc x0 x1 x2 x3
  rintro e w9 ⟨rfl, hl9, hf⟩
  have hm9 := hf.met hB hm8
  have hp9 := hf.pows hB hp8
  have HF9 := toHid (HF8.out.trans hf)
  have HX9 := toHid (hf.fall _ _ _ _ _ HX8.out)
  obtain ⟨x0, x1, x2, x3⟩ := fall_cells HX9.out
  rw [forgetT] at hl9
  clear hcell hlen
  clear hf HF8 HX8 hm8 hp8
  have hc := lwValue w.heap.size hp 303 kk ⟨vt, [], [], 0⟩ w9 hl9 (by decide)
  rw [show alLook (AShard.vals ⟨vt, [], [], 0⟩) kk = some vOld from HV.out] at hc
  clear hl9
  go_wp2_with fail
  refine hc.mono ?_
  clear hc x0 x1 x2 x3
  rintro e w10 ⟨rfl, hl10, hf⟩
  have hm10 := hf.met hB hm9
  have hp10 := hf.pows hB hp9
  have HF10 := toHid (HF9.out.trans hf)
  have HX10 := toHid (hf.fall _ _ _ _ _ HX9.out)
  obtain ⟨x0, x1, x2, x3⟩ := fall_cells HX10.out
  clear hf HF9 HX9 hm9 hp9
  clear hl10 x0 x1 x2 x3
  go_wp2
  go_ret
  exact ⟨rfl, HF10.out.below⟩
end Go.Proofs.YtkhjhojmhllkaaaGreatDoor
/- THE LAW Unseen, one of its ways. (Written by mkuns.py.) -/
namespace Go.Proofs.YtkhjhojmhllkaaaGreatDoor
open Go.RowKit Go.Maps
open Sc

set_option maxRecDepth 100000 in
set_option maxHeartbeats 8000000 in
theorem unsK (what lose kept : Int) (w : World) (hmet : Met w) (hpow : Pows w) (hB : 2 ≤ w.heap.size) (b1 : -9223372036854775808 ≤ what ∧ what ≤ 9223372036854775807) (b2 : -9223372036854775808 ≤ lose ∧ lose ≤ 9223372036854775807) (ea : pk what 2 = 1) (e2 : pk lose 2 = 1) (j4 : ¬ (1 : Int) < (pk lose 4 : Int)) :
    Calls Tryz.prog 7 #[.int .i64 what, .bool true, .int .i64 lose, .int .i64 kept] w fun e w' => e = .returned (.bool true) ∧ Below w.heap.size w w' := by
  go_enter Tryz.func7, Tryz.ntmps7
  go_wp2_with fail
  refine (shard_fn w hmet hpow hB).mono ?_
  rintro e w1 ⟨hp, vs, rfl, hhp, hl1, hvs, hf1⟩
  have H1 := toHid (show Lv w1 w.heap.size hp 100 ⟨vs, [], [], 0⟩ [eP1, eC1] ∧ HFs w.heap.size w w1 ∧ alLook vs kk = some vOld from ⟨hl1, hf1, hvs⟩)
  clear hl1 hf1 hvs
  go_wp2_with fail
  refine (well_fn w1).mono ?_
  rintro e w2 ⟨rfl, hf2⟩
  obtain ⟨w0, hW⟩ : ∃ W, W = w2.alloc (fallO (-1) (-1) 0 0) := ⟨_, rfl⟩
  have hfW : Fr [] w1 w0 := by rw [hW]; exact hf2.alloc _
  have HX0 := toHid (show w0.heap[w2.heap.size]? = some (fallO (-1) (-1) 0 0) by rw [hW]; exact heap_alloc_new w2 _)
  obtain ⟨x0, x1, x2, x3⟩ := fall_cells HX0.out
  obtain ⟨hl0, hr0⟩ := H1.out.1.new hfW
  have HF0 := toHid (H1.out.2.1.trans hr0)
  have hm0 := HF0.out.met hB hmet
  have hp0 := HF0.out.pows hB hpow
  have HL0 := toHid hl0
  have HV := toHid H1.out.2.2
  clear hf2 hfW hl0 hr0
  go_wp2_with fail
  refine (pick_fn what 2 _ b1.1 b1.2 (by decide) (by decide)).mono ?_
  rintro e wz ⟨rfl, hwz⟩
  rw [hwz, ea]
  clear hwz
  have hW' : w0 = w2.alloc (.cells #[.int .i64 (-1), .int .i64 (-1), .int .i64 0, .int .i64 0] 28) := hW
  rw [← hW']
  clear hW hW'
  have hl0 := HL0.out
  have hc := does_v w.heap.size hp 100 2 ⟨vs, [], [], 0⟩ [eP1, eC1] w0 2 (by decide) hl0 hB hm0 (by decide) (by decide) (by show (0 : Nat) ≤ 3; decide) (by show (0 : Nat) < 4611686018427387904; decide)
  rw [opFirst vs 2 2 (.inl rfl) (by decide)] at hc
  clear hl0
  go_wp2_with fail
  refine hc.mono ?_
  clear hc x0 x1 x2 x3
  rintro e w1 ⟨rfl, hl1, hf⟩
  have hm1 := hf.met hB hm0
  have hp1 := hf.pows hB hp0
  have HF1 := toHid (HF0.out.trans hf)
  have HX1 := toHid (hf.fall _ _ _ _ _ HX0.out)
  obtain ⟨x0, x1, x2, x3⟩ := fall_cells HX1.out
  clear hf HF0 HX0 hm0 hp0
  have hc := lvGet w.heap.size hp 103 2 kk ⟨vs, [(2, ⟨1, 1, 0⟩)], [((2, kk), gW 2)], 0⟩ [eP1, eC1] w1 hl1 hB hm1 (by decide) (by decide) (by decide) (by show (1 : Nat) ≤ 3; decide) (by show (1 : Nat) < 4611686018427387904; decide) 1
  rw [show AShard.get ⟨vs, [(2, ⟨1, 1, 0⟩)], [((2, kk), gW 2)], 0⟩ 2 1 kk = (⟨vs, [(2, ⟨1, 2, 0⟩)], [((2, kk), gW 2)], 0⟩, ByteArray.empty, false, 0) from rfl] at hc
  clear hl1
  go_wp2_with fail
  refine hc.mono ?_
  clear hc x0 x1 x2 x3
  rintro e w2 ⟨rfl, hl2, hf⟩
  have hm2 := hf.met hB hm1
  have hp2 := hf.pows hB hp1
  have HF2 := toHid (HF1.out.trans hf)
  have HX2 := toHid (hf.fall _ _ _ _ _ HX1.out)
  obtain ⟨x0, x1, x2, x3⟩ := fall_cells HX2.out
  clear hf HF1 HX1 hm1 hp1
  have hc := lvValue w.heap.size hp 106 kk ⟨vs, [(2, ⟨1, 2, 0⟩)], [((2, kk), gW 2)], 0⟩ [eP1, eC1] w2 hl2 (by decide)
  rw [show alLook (AShard.vals ⟨vs, [(2, ⟨1, 2, 0⟩)], [((2, kk), gW 2)], 0⟩) kk = some vOld from HV.out] at hc
  clear hl2
  go_wp2_with fail
  refine hc.mono ?_
  clear hc x0 x1 x2 x3
  rintro e w3 ⟨rfl, hl3, hf⟩
  have hm3 := hf.met hB hm2
  have hp3 := hf.pows hB hp2
  have HF3 := toHid (HF2.out.trans hf)
  have HX3 := toHid (hf.fall _ _ _ _ _ HX2.out)
  obtain ⟨x0, x1, x2, x3⟩ := fall_cells HX3.out
  clear hf HF2 HX2 hm2 hp2
  have hc := lvPrepW w.heap.size hp 106 2 kk ⟨vs, [(2, ⟨1, 2, 0⟩)], [((2, kk), gW 2)], 0⟩ [eP1, eC1] w3 (gW 2) hl3 hB hm3 hp3 (by decide) (by decide) (by decide) rfl (by simp [AShard.count]) (small1 _ _ _ _ (gW_small 2)) (fun L h1 h2 => one_list h1 h2) rfl (byt_app (be_byt0 _ _) (bytG 2 (by decide)).1) (by have := (bytG 2 (by decide)).2; simp only [List.length_append, be_len]; omega) (pre_few (show [eP1, eC1, eP2 2] <+: fullE 2 from ⟨_, rfl⟩) (fullFew 2 (by decide))) (pre_fine (show [eP1, eC1, eP2 2] <+: fullE 2 from ⟨_, rfl⟩) (fullFine 2 (by decide)))
  clear hl3
  go_wp2_with fail
  refine hc.mono ?_
  clear hc x0 x1 x2 x3
  rintro e w4 ⟨rfl, hl4', hf⟩
  have hm4 := hf.met hB hm3
  have hp4 := hf.pows hB hp3
  have HF4 := toHid (HF3.out.trans hf)
  have HX4 := toHid (hf.fall _ _ _ _ _ HX3.out)
  obtain ⟨x0, x1, x2, x3⟩ := fall_cells HX4.out
  have hl4 : Lv w4 w.heap.size hp 300 ⟨vs, [(2, ⟨3, 0, 0⟩)], [((2, kk), gW 2)], 0⟩ [eP1, eC1, eP2 2] := hl4'.mono (by decide)
  clear hl4'
  clear hf HF3 HX3 hm3 hp3
  have HL4 := toHid hl4
  clear hl4
  go_wp2_with fail
  refine (pick_fn lose 2 _ b2.1 b2.2 (by decide) (by decide)).mono ?_
  rintro e wz ⟨rfl, hwz⟩
  rw [hwz, e2]
  clear hwz
  have hl4 := HL4.out
  clear HL4
  have hc := lvLose w.heap.size hp 300 ⟨vs, [(2, ⟨3, 0, 0⟩)], [((2, kk), gW 2)], 0⟩ [eP1, eC1, eP2 2] w4 kept hl4 hhp (by simp)
  clear hl4
  go_wp2_with fail
  refine hc.mono ?_
  clear hc x0 x1 x2 x3
  rintro e w5 ⟨rfl, hl5, hf⟩
  have hm5 := hf.met hB hm4
  have hp5 := hf.pows hB hp4
  have HF5 := toHid (HF4.out.trans hf)
  have HX5 := toHid (hf.fall _ _ _ _ _ HX4.out)
  obtain ⟨x0, x1, x2, x3⟩ := fall_cells HX5.out
  clear hf HF4 HX4 hm4 hp4
  have hc := lvOpen1 w.heap.size hp 300 [eP1, eC1, eP2 2] w5 (Jr 2) hl5 hB hhp hm5 hp5 (notedE 2 (by decide) (by decide) (show [eP1, eC1, eP2 2] <+: fullE 2 from ⟨_, rfl⟩)) (by decide)
  clear hl5
  go_wp2_with fail
  refine hc.mono ?_
  clear hc x0 x1 x2 x3
  rintro e w6 ⟨rfl, ⟨sx, hJ, hl6'⟩, hf⟩
  have hm6 := hf.met hB hm5
  have hp6 := hf.pows hB hp5
  have HF6 := toHid (HF5.out.trans hf)
  have HX6 := toHid (hf.fall _ _ _ _ _ HX5.out)
  obtain ⟨x0, x1, x2, x3⟩ := fall_cells HX6.out
  obtain ⟨vt, rfl, hvt⟩ : ∃ vt, sx = ⟨vt, [(2, ⟨3, 0, 0⟩)], [((2, kk), gW 2)], 0⟩ ∧ alLook vt kk = some vOld := hJ
  have HV := toHid hvt
  have hl6 : Lv w6 w.heap.size hp 300 ⟨vt, [(2, ⟨3, 0, 0⟩)], [((2, kk), gW 2)], 0⟩ [eP1, eC1, eP2 2] := hl6'
  clear hl6' hvt
  clear hf HF5 HX5 hm5 hp5
  have hc := lvValue w.heap.size hp 300 kk ⟨vt, [(2, ⟨3, 0, 0⟩)], [((2, kk), gW 2)], 0⟩ [eP1, eC1, eP2 2] w6 hl6 (by decide)
  rw [show alLook (AShard.vals ⟨vt, [(2, ⟨3, 0, 0⟩)], [((2, kk), gW 2)], 0⟩) kk = some vOld from HV.out] at hc
  clear hl6
  go_wp2_with fail
  refine hc.mono ?_
  clear hc x0 x1 x2 x3
  rintro e w7 ⟨rfl, hl7, hf⟩
  have hm7 := hf.met hB hm6
  have hp7 := hf.pows hB hp6
  have HF7 := toHid (HF6.out.trans hf)
  have HX7 := toHid (hf.fall _ _ _ _ _ HX6.out)
  obtain ⟨x0, x1, x2, x3⟩ := fall_cells HX7.out
  clear hf HF6 HX6 hm6 hp6
  have hc := waits_one w.heap.size hp 300 vt (gW 2) [eP1, eC1, eP2 2] w7 hl7
  clear hl7
  go_wp2_with fail
  refine hc.mono ?_
  clear hc x0 x1 x2 x3
  rintro e w8 ⟨g, cap, rfl, hcell, hl8, hf⟩
  have hm8 := hf.met hB hm7
  have hp8 := hf.pows hB hp7
  have HF8 := toHid (HF7.out.trans hf)
  have HX8 := toHid (hf.fall _ _ _ _ _ HX7.out)
  obtain ⟨x0, x1, x2, x3⟩ := fall_cells HX8.out
  clear hf HF7 HX7 hm7 hp7
  have hlen : ∀ (ty : TypeId) (W : World), (Builtin.len_ #[44] ty #[.slice (some ⟨g, 0, none⟩) 1 cap]).run Tryz.prog W = .ok (.int .i64 1) W := fun ty W => by simp [go_sem]
  have hc := lvComm w.heap.size hp 300 2 ⟨vt, [(2, ⟨3, 0, 0⟩)], [((2, kk), gW 2)], 0⟩ [eP1, eC1, eP2 2] w8 hl8 hB hm8 hp8 (by decide) (by decide) (by decide) rfl (by simp [AShard.count]) (by intro p hp; simp at hp; subst hp; have := (gW_small 2).1; exact show (gW 2).val.size ≤ maxLen by unfold maxLen; omega) (pre_few (show fullE 2 <+: fullE 2 from ⟨[], by simp⟩) (fullFew 2 (by decide))) (pre_fine (show fullE 2 <+: fullE 2 from ⟨[], by simp⟩) (fullFine 2 (by decide)))
  clear hl8
  go_wp2_with fail
  refine hc.mono ?_
  clear hc x0 x1 x2 x3
  rintro e w9 ⟨rfl, ⟨sc, hcm, hl9'⟩, hf⟩
  have hm9 := hf.met hB hm8
  have hp9 := hf.pows hB hp8
  have HF9 := toHid (HF8.out.trans hf)
  have HX9 := toHid (hf.fall _ _ _ _ _ HX8.out)
  obtain ⟨x0, x1, x2, x3⟩ := fall_cells HX9.out
  obtain ⟨vc, rfl, hvc⟩ := commT vt hcm
  have HVc := toHid (show alLook vc kk = none by rw [hvc, HV.out]; rfl)
  have hl9 : Lv w9 w.heap.size hp 400 ⟨vc, [], [], 0⟩ (fullE 2) := hl9'.mono (by decide)
  clear hl9' hvc hcm hcell hlen
  clear hf HF8 HX8 hm8 hp8
  have HL9 := toHid hl9
  clear hl9
  go_wp2_with fail
  refine (pick_fn lose 4 _ b2.1 b2.2 (by decide) (by decide)).mono ?_
  rintro e wz ⟨rfl, hwz⟩
  rw [hwz]
  clear hwz
  have hl9 := HL9.out
  clear HL9
  have hc := lvValue w.heap.size hp 400 kk ⟨vc, [], [], 0⟩ (fullE 2) w9 hl9 (by decide)
  rw [show alLook (AShard.vals ⟨vc, [], [], 0⟩) kk = none from HVc.out] at hc
  clear hl9
  go_wp2_with fail
  refine hc.mono ?_
  clear hc x0 x1 x2 x3
  rintro e w10 ⟨rfl, hl10, hf⟩
  have hm10 := hf.met hB hm9
  have hp10 := hf.pows hB hp9
  have HF10 := toHid (HF9.out.trans hf)
  have HX10 := toHid (hf.fall _ _ _ _ _ HX9.out)
  obtain ⟨x0, x1, x2, x3⟩ := fall_cells HX10.out
  clear hf HF9 HX9 hm9 hp9
  clear hl10 x0 x1 x2 x3
  go_wp2
  go_ret
  exact ⟨rfl, HF10.out.below⟩
end Go.Proofs.YtkhjhojmhllkaaaGreatDoor
/- THE LAW Unseen, one of its ways. (Written by mkuns.py.) -/
namespace Go.Proofs.YtkhjhojmhllkaaaGreatDoor
open Go.RowKit Go.Maps
open Sc

set_option maxRecDepth 100000 in
set_option maxHeartbeats 8000000 in
theorem unsL (what lose kept : Int) (w : World) (hmet : Met w) (hpow : Pows w) (hB : 2 ≤ w.heap.size) (b1 : -9223372036854775808 ≤ what ∧ what ≤ 9223372036854775807) (b2 : -9223372036854775808 ≤ lose ∧ lose ≤ 9223372036854775807) (ea : pk what 2 = 1) (e2 : pk lose 2 = 1) (j4 : (1 : Int) < (pk lose 4 : Int)) :
    Calls Tryz.prog 7 #[.int .i64 what, .bool true, .int .i64 lose, .int .i64 kept] w fun e w' => e = .returned (.bool true) ∧ Below w.heap.size w w' := by
  go_enter Tryz.func7, Tryz.ntmps7
  go_wp2_with fail
  refine (shard_fn w hmet hpow hB).mono ?_
  rintro e w1 ⟨hp, vs, rfl, hhp, hl1, hvs, hf1⟩
  have H1 := toHid (show Lv w1 w.heap.size hp 100 ⟨vs, [], [], 0⟩ [eP1, eC1] ∧ HFs w.heap.size w w1 ∧ alLook vs kk = some vOld from ⟨hl1, hf1, hvs⟩)
  clear hl1 hf1 hvs
  go_wp2_with fail
  refine (well_fn w1).mono ?_
  rintro e w2 ⟨rfl, hf2⟩
  obtain ⟨w0, hW⟩ : ∃ W, W = w2.alloc (fallO (-1) (-1) 0 0) := ⟨_, rfl⟩
  have hfW : Fr [] w1 w0 := by rw [hW]; exact hf2.alloc _
  have HX0 := toHid (show w0.heap[w2.heap.size]? = some (fallO (-1) (-1) 0 0) by rw [hW]; exact heap_alloc_new w2 _)
  obtain ⟨x0, x1, x2, x3⟩ := fall_cells HX0.out
  obtain ⟨hl0, hr0⟩ := H1.out.1.new hfW
  have HF0 := toHid (H1.out.2.1.trans hr0)
  have hm0 := HF0.out.met hB hmet
  have hp0 := HF0.out.pows hB hpow
  have HL0 := toHid hl0
  have HV := toHid H1.out.2.2
  clear hf2 hfW hl0 hr0
  go_wp2_with fail
  refine (pick_fn what 2 _ b1.1 b1.2 (by decide) (by decide)).mono ?_
  rintro e wz ⟨rfl, hwz⟩
  rw [hwz, ea]
  clear hwz
  have hW' : w0 = w2.alloc (.cells #[.int .i64 (-1), .int .i64 (-1), .int .i64 0, .int .i64 0] 28) := hW
  rw [← hW']
  clear hW hW'
  have hl0 := HL0.out
  have hc := does_v w.heap.size hp 100 2 ⟨vs, [], [], 0⟩ [eP1, eC1] w0 2 (by decide) hl0 hB hm0 (by decide) (by decide) (by show (0 : Nat) ≤ 3; decide) (by show (0 : Nat) < 4611686018427387904; decide)
  rw [opFirst vs 2 2 (.inl rfl) (by decide)] at hc
  clear hl0
  go_wp2_with fail
  refine hc.mono ?_
  clear hc x0 x1 x2 x3
  rintro e w1 ⟨rfl, hl1, hf⟩
  have hm1 := hf.met hB hm0
  have hp1 := hf.pows hB hp0
  have HF1 := toHid (HF0.out.trans hf)
  have HX1 := toHid (hf.fall _ _ _ _ _ HX0.out)
  obtain ⟨x0, x1, x2, x3⟩ := fall_cells HX1.out
  clear hf HF0 HX0 hm0 hp0
  have hc := lvGet w.heap.size hp 103 2 kk ⟨vs, [(2, ⟨1, 1, 0⟩)], [((2, kk), gW 2)], 0⟩ [eP1, eC1] w1 hl1 hB hm1 (by decide) (by decide) (by decide) (by show (1 : Nat) ≤ 3; decide) (by show (1 : Nat) < 4611686018427387904; decide) 1
  rw [show AShard.get ⟨vs, [(2, ⟨1, 1, 0⟩)], [((2, kk), gW 2)], 0⟩ 2 1 kk = (⟨vs, [(2, ⟨1, 2, 0⟩)], [((2, kk), gW 2)], 0⟩, ByteArray.empty, false, 0) from rfl] at hc
  clear hl1
  go_wp2_with fail
  refine hc.mono ?_
  clear hc x0 x1 x2 x3
  rintro e w2 ⟨rfl, hl2, hf⟩
  have hm2 := hf.met hB hm1
  have hp2 := hf.pows hB hp1
  have HF2 := toHid (HF1.out.trans hf)
  have HX2 := toHid (hf.fall _ _ _ _ _ HX1.out)
  obtain ⟨x0, x1, x2, x3⟩ := fall_cells HX2.out
  clear hf HF1 HX1 hm1 hp1
  have hc := lvValue w.heap.size hp 106 kk ⟨vs, [(2, ⟨1, 2, 0⟩)], [((2, kk), gW 2)], 0⟩ [eP1, eC1] w2 hl2 (by decide)
  rw [show alLook (AShard.vals ⟨vs, [(2, ⟨1, 2, 0⟩)], [((2, kk), gW 2)], 0⟩) kk = some vOld from HV.out] at hc
  clear hl2
  go_wp2_with fail
  refine hc.mono ?_
  clear hc x0 x1 x2 x3
  rintro e w3 ⟨rfl, hl3, hf⟩
  have hm3 := hf.met hB hm2
  have hp3 := hf.pows hB hp2
  have HF3 := toHid (HF2.out.trans hf)
  have HX3 := toHid (hf.fall _ _ _ _ _ HX2.out)
  obtain ⟨x0, x1, x2, x3⟩ := fall_cells HX3.out
  clear hf HF2 HX2 hm2 hp2
  have hc := lvPrepW w.heap.size hp 106 2 kk ⟨vs, [(2, ⟨1, 2, 0⟩)], [((2, kk), gW 2)], 0⟩ [eP1, eC1] w3 (gW 2) hl3 hB hm3 hp3 (by decide) (by decide) (by decide) rfl (by simp [AShard.count]) (small1 _ _ _ _ (gW_small 2)) (fun L h1 h2 => one_list h1 h2) rfl (byt_app (be_byt0 _ _) (bytG 2 (by decide)).1) (by have := (bytG 2 (by decide)).2; simp only [List.length_append, be_len]; omega) (pre_few (show [eP1, eC1, eP2 2] <+: fullE 2 from ⟨_, rfl⟩) (fullFew 2 (by decide))) (pre_fine (show [eP1, eC1, eP2 2] <+: fullE 2 from ⟨_, rfl⟩) (fullFine 2 (by decide)))
  clear hl3
  go_wp2_with fail
  refine hc.mono ?_
  clear hc x0 x1 x2 x3
  rintro e w4 ⟨rfl, hl4', hf⟩
  have hm4 := hf.met hB hm3
  have hp4 := hf.pows hB hp3
  have HF4 := toHid (HF3.out.trans hf)
  have HX4 := toHid (hf.fall _ _ _ _ _ HX3.out)
  obtain ⟨x0, x1, x2, x3⟩ := fall_cells HX4.out
  have hl4 : Lv w4 w.heap.size hp 300 ⟨vs, [(2, ⟨3, 0, 0⟩)], [((2, kk), gW 2)], 0⟩ [eP1, eC1, eP2 2] := hl4'.mono (by decide)
  clear hl4'
  clear hf HF3 HX3 hm3 hp3
  have HL4 := toHid hl4
  clear hl4
  go_wp2_with fail
  refine (pick_fn lose 2 _ b2.1 b2.2 (by decide) (by decide)).mono ?_
  rintro e wz ⟨rfl, hwz⟩
  rw [hwz, e2]
  clear hwz
  have hl4 := HL4.out
  clear HL4
  have hc := lvLose w.heap.size hp 300 ⟨vs, [(2, ⟨3, 0, 0⟩)], [((2, kk), gW 2)], 0⟩ [eP1, eC1, eP2 2] w4 kept hl4 hhp (by simp)
  clear hl4
  go_wp2_with fail
  refine hc.mono ?_
  clear hc x0 x1 x2 x3
  rintro e w5 ⟨rfl, hl5, hf⟩
  have hm5 := hf.met hB hm4
  have hp5 := hf.pows hB hp4
  have HF5 := toHid (HF4.out.trans hf)
  have HX5 := toHid (hf.fall _ _ _ _ _ HX4.out)
  obtain ⟨x0, x1, x2, x3⟩ := fall_cells HX5.out
  clear hf HF4 HX4 hm4 hp4
  have hc := lvOpen1 w.heap.size hp 300 [eP1, eC1, eP2 2] w5 (Jr 2) hl5 hB hhp hm5 hp5 (notedE 2 (by decide) (by decide) (show [eP1, eC1, eP2 2] <+: fullE 2 from ⟨_, rfl⟩)) (by decide)
  clear hl5
  go_wp2_with fail
  refine hc.mono ?_
  clear hc x0 x1 x2 x3
  rintro e w6 ⟨rfl, ⟨sx, hJ, hl6'⟩, hf⟩
  have hm6 := hf.met hB hm5
  have hp6 := hf.pows hB hp5
  have HF6 := toHid (HF5.out.trans hf)
  have HX6 := toHid (hf.fall _ _ _ _ _ HX5.out)
  obtain ⟨x0, x1, x2, x3⟩ := fall_cells HX6.out
  obtain ⟨vt, rfl, hvt⟩ : ∃ vt, sx = ⟨vt, [(2, ⟨3, 0, 0⟩)], [((2, kk), gW 2)], 0⟩ ∧ alLook vt kk = some vOld := hJ
  have HV := toHid hvt
  have hl6 : Lv w6 w.heap.size hp 300 ⟨vt, [(2, ⟨3, 0, 0⟩)], [((2, kk), gW 2)], 0⟩ [eP1, eC1, eP2 2] := hl6'
  clear hl6' hvt
  clear hf HF5 HX5 hm5 hp5
  have hc := lvValue w.heap.size hp 300 kk ⟨vt, [(2, ⟨3, 0, 0⟩)], [((2, kk), gW 2)], 0⟩ [eP1, eC1, eP2 2] w6 hl6 (by decide)
  rw [show alLook (AShard.vals ⟨vt, [(2, ⟨3, 0, 0⟩)], [((2, kk), gW 2)], 0⟩) kk = some vOld from HV.out] at hc
  clear hl6
  go_wp2_with fail
  refine hc.mono ?_
  clear hc x0 x1 x2 x3
  rintro e w7 ⟨rfl, hl7, hf⟩
  have hm7 := hf.met hB hm6
  have hp7 := hf.pows hB hp6
  have HF7 := toHid (HF6.out.trans hf)
  have HX7 := toHid (hf.fall _ _ _ _ _ HX6.out)
  obtain ⟨x0, x1, x2, x3⟩ := fall_cells HX7.out
  clear hf HF6 HX6 hm6 hp6
  have hc := waits_one w.heap.size hp 300 vt (gW 2) [eP1, eC1, eP2 2] w7 hl7
  clear hl7
  go_wp2_with fail
  refine hc.mono ?_
  clear hc x0 x1 x2 x3
  rintro e w8 ⟨g, cap, rfl, hcell, hl8, hf⟩
  have hm8 := hf.met hB hm7
  have hp8 := hf.pows hB hp7
  have HF8 := toHid (HF7.out.trans hf)
  have HX8 := toHid (hf.fall _ _ _ _ _ HX7.out)
  obtain ⟨x0, x1, x2, x3⟩ := fall_cells HX8.out
  clear hf HF7 HX7 hm7 hp7
  have hlen : ∀ (ty : TypeId) (W : World), (Builtin.len_ #[44] ty #[.slice (some ⟨g, 0, none⟩) 1 cap]).run Tryz.prog W = .ok (.int .i64 1) W := fun ty W => by simp [go_sem]
  have hc := lvComm w.heap.size hp 300 2 ⟨vt, [(2, ⟨3, 0, 0⟩)], [((2, kk), gW 2)], 0⟩ [eP1, eC1, eP2 2] w8 hl8 hB hm8 hp8 (by decide) (by decide) (by decide) rfl (by simp [AShard.count]) (by intro p hp; simp at hp; subst hp; have := (gW_small 2).1; exact show (gW 2).val.size ≤ maxLen by unfold maxLen; omega) (pre_few (show fullE 2 <+: fullE 2 from ⟨[], by simp⟩) (fullFew 2 (by decide))) (pre_fine (show fullE 2 <+: fullE 2 from ⟨[], by simp⟩) (fullFine 2 (by decide)))
  clear hl8
  go_wp2_with fail
  refine hc.mono ?_
  clear hc x0 x1 x2 x3
  rintro e w9 ⟨rfl, ⟨sc, hcm, hl9'⟩, hf⟩
  have hm9 := hf.met hB hm8
  have hp9 := hf.pows hB hp8
  have HF9 := toHid (HF8.out.trans hf)
  have HX9 := toHid (hf.fall _ _ _ _ _ HX8.out)
  obtain ⟨x0, x1, x2, x3⟩ := fall_cells HX9.out
  obtain ⟨vc, rfl, hvc⟩ := commT vt hcm
  have HVc := toHid (show alLook vc kk = none by rw [hvc, HV.out]; rfl)
  have hl9 : Lv w9 w.heap.size hp 400 ⟨vc, [], [], 0⟩ (fullE 2) := hl9'.mono (by decide)
  clear hl9' hvc hcm hcell hlen
  clear hf HF8 HX8 hm8 hp8
  have HL9 := toHid hl9
  clear hl9
  go_wp2_with fail
  refine (pick_fn lose 4 _ b2.1 b2.2 (by decide) (by decide)).mono ?_
  rintro e wz ⟨rfl, hwz⟩
  rw [hwz]
  clear hwz
  have hl9 := HL9.out
  clear HL9
  have hc := lvLose w.heap.size hp 400 ⟨vc, [], [], 0⟩ (fullE 2) w9 kept hl9 hhp (by simp [fullE])
  clear hl9
  go_wp2_with fail
  refine hc.mono ?_
  clear hc x0 x1 x2 x3
  rintro e w10 ⟨rfl, hl10, hf⟩
  have hm10 := hf.met hB hm9
  have hp10 := hf.pows hB hp9
  have HF10 := toHid (HF9.out.trans hf)
  have HX10 := toHid (hf.fall _ _ _ _ _ HX9.out)
  obtain ⟨x0, x1, x2, x3⟩ := fall_cells HX10.out
  clear hf HF9 HX9 hm9 hp9
  have hc := lvOpen1 w.heap.size hp 400 (fullE 2) w10 (Jr 2) hl10 hB hhp hm10 hp10 (notedE 2 (by decide) (by decide) ⟨[], by simp⟩) (by decide)
  clear hl10
  go_wp2_with fail
  refine hc.mono ?_
  clear hc x0 x1 x2 x3
  rintro e w11 ⟨rfl, ⟨sx, hJ, hl11⟩, hf⟩
  have hm11 := hf.met hB hm10
  have hp11 := hf.pows hB hp10
  have HF11 := toHid (HF10.out.trans hf)
  have HX11 := toHid (hf.fall _ _ _ _ _ HX10.out)
  obtain ⟨x0, x1, x2, x3⟩ := fall_cells HX11.out
  obtain ⟨vd, rfl, hvd⟩ : ∃ vd, sx = ⟨vd, [], [], 0⟩ ∧ alLook vd kk = gripped (some (gW 2)) (some vOld) := hJ
  have HVc := toHid (show alLook vd kk = none from hvd)
  clear hvd
  clear hf HF10 HX10 hm10 hp10
  have hc := lvValue w.heap.size hp 400 kk ⟨vd, [], [], 0⟩ (fullE 2) w11 hl11 (by decide)
  rw [show alLook (AShard.vals ⟨vd, [], [], 0⟩) kk = none from HVc.out] at hc
  clear hl11
  go_wp2_with fail
  refine hc.mono ?_
  clear hc x0 x1 x2 x3
  rintro e w12 ⟨rfl, hl12, hf⟩
  have hm12 := hf.met hB hm11
  have hp12 := hf.pows hB hp11
  have HF12 := toHid (HF11.out.trans hf)
  have HX12 := toHid (hf.fall _ _ _ _ _ HX11.out)
  obtain ⟨x0, x1, x2, x3⟩ := fall_cells HX12.out
  clear hf HF11 HX11 hm11 hp11
  clear hl12 x0 x1 x2 x3
  go_wp2
  go_ret
  exact ⟨rfl, HF12.out.below⟩
end Go.Proofs.YtkhjhojmhllkaaaGreatDoor
/- THE LAW Unseen, walked. (Written by mkuns.py.) -/
namespace Go.Proofs.YtkhjhojmhllkaaaGreatDoor
open Go.RowKit Go.Maps
open Sc

theorem unseen_any (what lose kept : Int) (commits : Bool) (w : World) (hmet : Met w) (hpow : Pows w) (hB : 2 ≤ w.heap.size) (b1 : -9223372036854775808 ≤ what ∧ what ≤ 9223372036854775807) (b2 : -9223372036854775808 ≤ lose ∧ lose ≤ 9223372036854775807) :
    Calls Tryz.prog 7 #[.int .i64 what, .bool commits, .int .i64 lose, .int .i64 kept] w fun e w' => e = .returned (.bool true) ∧ Below w.heap.size w w' := by
  have ha := pk_lt what 2 (by decide)
  have hb := pk_lt lose 2 (by decide)
  rcases (show pk what 2 = 0 ∨ pk what 2 = 1 by omega) with ea | ea <;> rcases (show pk lose 2 = 0 ∨ pk lose 2 = 1 by omega) with e2 | e2
  · cases commits
    · exact unsA what lose kept w hmet hpow hB b1 b2 ea e2
    · by_cases j4 : (1 : Int) < (pk lose 4 : Int)
      · exact unsC what lose kept w hmet hpow hB b1 b2 ea e2 j4
      · exact unsB what lose kept w hmet hpow hB b1 b2 ea e2 j4
  · cases commits
    · exact unsD what lose kept w hmet hpow hB b1 b2 ea e2
    · by_cases j4 : (1 : Int) < (pk lose 4 : Int)
      · exact unsF what lose kept w hmet hpow hB b1 b2 ea e2 j4
      · exact unsE what lose kept w hmet hpow hB b1 b2 ea e2 j4
  · cases commits
    · exact unsG what lose kept w hmet hpow hB b1 b2 ea e2
    · by_cases j4 : (1 : Int) < (pk lose 4 : Int)
      · exact unsI what lose kept w hmet hpow hB b1 b2 ea e2 j4
      · exact unsH what lose kept w hmet hpow hB b1 b2 ea e2 j4
  · cases commits
    · exact unsJ what lose kept w hmet hpow hB b1 b2 ea e2
    · by_cases j4 : (1 : Int) < (pk lose 4 : Int)
      · exact unsL what lose kept w hmet hpow hB b1 b2 ea e2 j4
      · exact unsK what lose kept w hmet hpow hB b1 b2 ea e2 j4
end Go.Proofs.YtkhjhojmhllkaaaGreatDoor
