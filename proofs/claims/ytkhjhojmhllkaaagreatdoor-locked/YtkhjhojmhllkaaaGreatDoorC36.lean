import Derived.Test.YtkhjhojmhllkaaaGreatDoorC34
import Derived.Test.YtkhjhojmhllkaaaGreatDoorC35
/- THE LAW Locked, one of its ways. (Written by mklock.py.) -/
namespace Go.Proofs.YtkhjhojmhllkaaaGreatDoor
open Go.RowKit Go.Maps
open Sc

set_option maxRecDepth 100000 in
set_option maxHeartbeats 8000000 in
theorem lockI (one two how kept : Int) (commits : Bool) (w : World) (hmet : Met w) (hpow : Pows w) (hB : 2 ≤ w.heap.size) (b1 : -9223372036854775808 ≤ one ∧ one ≤ 9223372036854775807) (b2 : -9223372036854775808 ≤ two ∧ two ≤ 9223372036854775807) (b3 : -9223372036854775808 ≤ how ∧ how ≤ 9223372036854775807) (ea : pk one 3 = 0) (b : Nat) (hb : b < 3) (eb : pk two 3 = b) (ec : pk how 3 = 2) :
    Calls Tryz.prog 6 #[.int .i64 one, .int .i64 two, .int .i64 how, .bool commits, .int .i64 kept] w fun e w' => e = .returned (.bool true) ∧ Below w.heap.size w w' := by
  go_enter Tryz.func6, Tryz.ntmps6
  go_wp2_with fail
  refine (shard_fn w hmet hpow hB).mono ?_
  rintro e w1 ⟨hp, vs, rfl, hhp, hl1, hvs, hf1⟩
  have H1 := toHid (show Lv w1 w.heap.size hp 100 ⟨vs, [], [], 0⟩ [eP1, eC1] ∧ HFs w.heap.size w w1 ∧ alLook vs kk = some vOld from ⟨hl1, hf1, hvs⟩)
  clear hl1 hf1 hvs
  go_wp2_with fail
  refine (well_fn w1).mono ?_
  rintro e w2 ⟨rfl, hf2⟩
  obtain ⟨w0, hW⟩ : ∃ W, W = w2.alloc (fallO (-1) (-1) 0 0) := ⟨_, rfl⟩
  have hfW : Fr [] w1 w0 := by rw [hW]; exact hf2.alloc _
  have HX0 := toHid (show w0.heap[w2.heap.size]? = some (fallO (-1) (-1) 0 0) by rw [hW]; exact heap_alloc_new w2 _)
  obtain ⟨x0, x1, x2, x3⟩ := fall_cells HX0.out
  obtain ⟨hl0, hr0⟩ := H1.out.1.new hfW
  have HF0 := toHid (H1.out.2.1.trans hr0)
  have hm0 := HF0.out.met hB hmet
  have hp0 := HF0.out.pows hB hpow
  have HL0 := toHid hl0
  clear hf2 hfW hl0 hr0
  go_wp2_with fail
  refine (pick_fn one 3 _ b1.1 b1.2 (by decide) (by decide)).mono ?_
  rintro e wz ⟨rfl, hwz⟩
  rw [hwz, ea]
  clear hwz
  have hW' : w0 = w2.alloc (.cells #[.int .i64 (-1), .int .i64 (-1), .int .i64 0, .int .i64 0] 28) := hW
  rw [← hW']
  clear hW hW'
  go_wp2_with fail
  refine (pick_fn two 3 _ b2.1 b2.2 (by decide) (by decide)).mono ?_
  rintro e wz ⟨rfl, hwz⟩
  rw [hwz, eb]
  clear hwz
  have hl0 := HL0.out
  have hc := does_v w.heap.size hp 100 2 ⟨vs, [], [], 0⟩ [eP1, eC1] w0 0 (by omega) hl0 hB hm0 (by decide) (by decide) (by first | decide | exact Nat.le_refl 0 | (show (0 : Nat) ≤ 3; decide)) (by first | decide | (show (0 : Nat) < 4611686018427387904; decide))
  rw [opFirst vs 2 0 (.inl rfl) (by omega)] at hc
  clear hl0
  go_wp2_with fail
  refine hc.mono ?_
  clear hc x0 x1 x2 x3
  rintro e w1 ⟨rfl, hl1, hf⟩
  have hm1 := hf.met hB hm0
  have hp1 := hf.pows hB hp0
  have HF1 := toHid (HF0.out.trans hf)
  have HX1 := toHid (hf.fall _ _ _ _ _ HX0.out)
  obtain ⟨x0, x1, x2, x3⟩ := fall_cells HX1.out
  clear hf HF0 HX0 hm0 hp0
  go_wp2_with fail
  refine (pick_fn how 3 _ b3.1 b3.2 (by decide) (by decide)).mono ?_
  rintro e wz ⟨rfl, hwz⟩
  rw [hwz, ec]
  clear hwz
  have hc := lvPrepN w.heap.size hp 103 2 ⟨vs, [(2, ⟨1, 1, 0⟩)], [((2, kk), gW 0)], 0⟩ [eP1, eC1] w1 4 hl1 hB hm1 hp1 (by decide) (by decide) (by simp [AShard.count]) (small1 _ _ _ _ (gW_small 0)) (fun l d L h1 h2 => by rw [one_list h1 h2]; rfl)
  clear hl1
  go_wp2_with fail
  refine hc.mono ?_
  clear hc x0 x1 x2 x3
  rintro e w2 ⟨rfl, hl2', hf⟩
  have hm2 := hf.met hB hm1
  have hp2 := hf.pows hB hp1
  have HF2 := toHid (HF1.out.trans hf)
  have HX2 := toHid (hf.fall _ _ _ _ _ HX1.out)
  obtain ⟨x0, x1, x2, x3⟩ := fall_cells HX2.out
  have hl2 : Lv w2 w.heap.size hp 300 ⟨vs, [], [], 0⟩ [eP1, eC1] := hl2'.mono (by decide)
  clear hl2'
  clear hf HF1 HX1 hm1 hp1
  go_wp2_with fail
  refine (pick_fn how 3 _ b3.1 b3.2 (by decide) (by decide)).mono ?_
  rintro e wz ⟨rfl, hwz⟩
  rw [hwz, ec]
  clear hwz
  have hc := lvLose w.heap.size hp 300 ⟨vs, [], [], 0⟩ [eP1, eC1] w2 kept hl2 hhp (by simp)
  clear hl2
  go_wp2_with fail
  refine hc.mono ?_
  clear hc x0 x1 x2 x3
  rintro e w3 ⟨rfl, hl3, hf⟩
  have hm3 := hf.met hB hm2
  have hp3 := hf.pows hB hp2
  have HF3 := toHid (HF2.out.trans hf)
  have HX3 := toHid (hf.fall _ _ _ _ _ HX2.out)
  obtain ⟨x0, x1, x2, x3⟩ := fall_cells HX3.out
  clear hf HF2 HX2 hm2 hp2
  have hc := lvOpen1 w.heap.size hp 300 [eP1, eC1] w3 (Jr 1) hl3 hB hhp hm3 hp3 (notedE 1 (by decide) (by decide) (show [eP1, eC1] <+: fullE 1 from ⟨_, rfl⟩)) (by decide)
  clear hl3
  go_wp2_with fail
  refine hc.mono ?_
  clear hc x0 x1 x2 x3
  rintro e w4 ⟨rfl, ⟨sx, hJ, hl4'⟩, hf⟩
  have hm4 := hf.met hB hm3
  have hp4 := hf.pows hB hp3
  have HF4 := toHid (HF3.out.trans hf)
  have HX4 := toHid (hf.fall _ _ _ _ _ HX3.out)
  obtain ⟨x0, x1, x2, x3⟩ := fall_cells HX4.out
  obtain ⟨vt, rfl, _⟩ : ∃ vt, sx = ⟨vt, [], [], 0⟩ ∧ alLook vt kk = some vOld := hJ
  have hl4 : Lv w4 w.heap.size hp 300 ⟨vt, [], [], 0⟩ [eP1, eC1] := hl4'
  clear hl4'
  clear hf HF3 HX3 hm3 hp3
  have hc := does_v w.heap.size hp 300 3 ⟨vt, [], [], 0⟩ [eP1, eC1] w4 b (by omega) hl4 hB hm4 (by decide) (by decide) (by first | decide | exact Nat.le_refl 0 | (show (0 : Nat) ≤ 3; decide)) (by first | decide | (show (0 : Nat) < 4611686018427387904; decide))
  rw [opThird vt b (by omega)] at hc
  clear hl4
  go_wp2_with fail
  refine hc.mono ?_
  clear hc x0 x1 x2 x3
  rintro e w5 ⟨rfl, hl5, hf⟩
  have hm5 := hf.met hB hm4
  have hp5 := hf.pows hB hp4
  have HF5 := toHid (HF4.out.trans hf)
  have HX5 := toHid (hf.fall _ _ _ _ _ HX4.out)
  obtain ⟨x0, x1, x2, x3⟩ := fall_cells HX5.out
  clear hf HF4 HX4 hm4 hp4
  have hc := lvAbrtN w.heap.size hp 303 3 ⟨vt, [(3, ⟨1, 1, 0⟩)], [((3, kk), gW b)], 0⟩ [eP1, eC1] w5 hl5 hB hm5 (by decide) (by decide) (by show (1 : Nat) ≠ 3; decide)
  clear hl5
  go_wp2_with fail
  refine hc.mono ?_
  clear hc x0 x1 x2 x3
  rintro e w6 ⟨rfl, hl6, hf⟩
  have hm6 := hf.met hB hm5
  have hp6 := hf.pows hB hp5
  have HF6 := toHid (HF5.out.trans hf)
  have HX6 := toHid (hf.fall _ _ _ _ _ HX5.out)
  obtain ⟨x0, x1, x2, x3⟩ := fall_cells HX6.out
  rw [forgetT] at hl6
  clear hf HF5 HX5 hm5 hp5
  have hc := lvAbrtN w.heap.size hp 303 2 ⟨vt, [], [], 0⟩ [eP1, eC1] w6 hl6 hB hm6 (by decide) (by decide) (by first | decide | (show (1 : Nat) ≠ 3; decide) | (show (0 : Nat) ≠ 3; decide))
  clear hl6
  go_wp2_with fail
  refine hc.mono ?_
  clear hc x0 x1 x2 x3
  rintro e w7 ⟨rfl, hl7, hf⟩
  have hm7 := hf.met hB hm6
  have hp7 := hf.pows hB hp6
  have HF7 := toHid (HF6.out.trans hf)
  have HX7 := toHid (hf.fall _ _ _ _ _ HX6.out)
  obtain ⟨x0, x1, x2, x3⟩ := fall_cells HX7.out
  rw [forgetN] at hl7
  clear hf HF6 HX6 hm6 hp6
  have hc := does_v w.heap.size hp 303 4 ⟨vt, [], [], 0⟩ [eP1, eC1] w7 b (by omega) hl7 hB hm7 (by decide) (by decide) (by first | decide | exact Nat.le_refl 0 | (show (0 : Nat) ≤ 3; decide)) (by first | decide | (show (0 : Nat) < 4611686018427387904; decide))
  rw [opFirst vt 4 b (.inr rfl) (by omega)] at hc
  clear hl7
  go_wp2_with fail
  refine hc.mono ?_
  clear hc x0 x1 x2 x3
  rintro e w8 ⟨rfl, hl8, hf⟩
  have hm8 := hf.met hB hm7
  have hp8 := hf.pows hB hp7
  have HF8 := toHid (HF7.out.trans hf)
  have HX8 := toHid (hf.fall _ _ _ _ _ HX7.out)
  obtain ⟨x0, x1, x2, x3⟩ := fall_cells HX8.out
  clear hf HF7 HX7 hm7 hp7
  clear hl8 x0 x1 x2 x3
  go_wp2
  go_ret
  exact ⟨rfl, HF8.out.below⟩
end Go.Proofs.YtkhjhojmhllkaaaGreatDoor
/- THE LAW Locked, WALKED. (Written by mklock.py.) -/
namespace Go.Proofs.YtkhjhojmhllkaaaGreatDoor
open Go.RowKit Go.Maps
open Sc

theorem locked_any (one two how kept : Int) (commits : Bool) (w : World) (hmet : Met w) (hpow : Pows w) (hB : 2 ≤ w.heap.size) (b1 : -9223372036854775808 ≤ one ∧ one ≤ 9223372036854775807) (b2 : -9223372036854775808 ≤ two ∧ two ≤ 9223372036854775807) (b3 : -9223372036854775808 ≤ how ∧ how ≤ 9223372036854775807) :
    Calls Tryz.prog 6 #[.int .i64 one, .int .i64 two, .int .i64 how, .bool commits, .int .i64 kept] w fun e w' => e = .returned (.bool true) ∧ Below w.heap.size w w' := by
  have ha := pk_lt one 3 (by decide)
  have hb := pk_lt two 3 (by decide)
  have hc := pk_lt how 3 (by decide)
  rcases (show pk how 3 = 0 ∨ pk how 3 = 1 ∨ pk how 3 = 2 by omega) with ec | ec | ec
  · by_cases h0 : 0 < pk one 3
    · exact lockA one two how kept commits w hmet hpow hB b1 b2 b3 _ ha h0 rfl _ hb rfl ec
    · by_cases h1 : 0 < pk two 3
      · exact lockB one two how kept commits w hmet hpow hB b1 b2 b3 (by omega) _ hb h1 rfl ec
      · exact lockC one two how kept commits w hmet hpow hB b1 b2 b3 (by omega) (by omega) ec
  · by_cases h0 : 0 < pk one 3
    · cases commits
      · exact lockE one two how kept w hmet hpow hB b1 b2 b3 _ ha h0 rfl _ hb rfl ec
      · exact lockD one two how kept w hmet hpow hB b1 b2 b3 _ ha h0 rfl _ hb rfl ec
    · exact lockH one two how kept commits w hmet hpow hB b1 b2 b3 (by omega) _ hb rfl ec
  · by_cases h0 : 0 < pk one 3
    · cases commits
      · exact lockG one two how kept w hmet hpow hB b1 b2 b3 _ ha h0 rfl _ hb rfl ec
      · exact lockF one two how kept w hmet hpow hB b1 b2 b3 _ ha h0 rfl _ hb rfl ec
    · exact lockI one two how kept commits w hmet hpow hB b1 b2 b3 (by omega) _ hb rfl ec
end Go.Proofs.YtkhjhojmhllkaaaGreatDoor
