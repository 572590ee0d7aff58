import Derived.Test.YtfkoflldjnlhaaaDoorStr
/- THE LAW ON MESSAGES, walked. (Made by mkmsg.py: one text for both ways.) -/
namespace Go.Proofs.YtfkoflldjnlhaaaDoor
open Go.RowKit
open Sc

set_option maxHeartbeats 400000 in
theorem messaged_long (k f t x : Int) (s : ByteArray) (w : World) (hs : 16384 < s.size) :
    Calls Tryd.prog 4 #[.agg #[.int .i64 k, .int .i64 f, .int .i64 t, .int .u64 x], .string s] w fun e w' => e = .returned (.bool true) ∧ Below w.heap.size w w' := by
  have h1 : (16384 : Int) < (s.size : Int) := by omega
  go_enter Tryd.func4, Tryd.ntmps4
  go_wp2
  go_ret
  exact ⟨rfl, (Below.refl _ _).alloc (Nat.le_refl _) _⟩
theorem four_set (w : World) (B : Nat) (k f t x k1 f1 t1 x1 : Int) (h : Four w B k1 f1 t1 x1) : Four ((((w.setCell ⟨B, 0, none⟩ (.int .i64 k)).setCell ⟨B, 1, none⟩ (.int .i64 f)).setCell ⟨B, 2, none⟩ (.int .i64 t)).setCell ⟨B, 3, none⟩ (.int .u64 x)) B k f t x := by
  obtain ⟨h0, h1, h2, h3⟩ := h
  refine ⟨?_, ?_, ?_, ?_⟩
  · rw [World.cell?_setCell_other _ _ _ _ (by simp), World.cell?_setCell_other _ _ _ _ (by simp), World.cell?_setCell_other _ _ _ _ (by simp)]; exact World.cell?_setCell_same _ _ _ h0
  · rw [World.cell?_setCell_other _ _ _ _ (by simp), World.cell?_setCell_other _ _ _ _ (by simp)]
    refine World.cell?_setCell_same (u := .int .i64 f1) _ _ _ ?_
    rw [World.cell?_setCell_other _ _ _ _ (by simp)]; exact h1
  · rw [World.cell?_setCell_other _ _ _ _ (by simp)]
    refine World.cell?_setCell_same (u := .int .i64 t1) _ _ _ ?_
    rw [World.cell?_setCell_other _ _ _ _ (by simp), World.cell?_setCell_other _ _ _ _ (by simp)]; exact h2
  · refine World.cell?_setCell_same (u := .int .u64 x1) _ _ _ ?_
    rw [World.cell?_setCell_other _ _ _ _ (by simp), World.cell?_setCell_other _ _ _ _ (by simp), World.cell?_setCell_other _ _ _ _ (by simp)]; exact h3
theorem src_set4 {w : World} {v : Value} {l : List Nat} (h : Src w v l) (B : Nat) (hB : ∀ b off n cap, v = .slice (some ⟨b, off, none⟩) n cap → ¬ B = b) (p q r u : Value) :
    Src ((((w.setCell ⟨B, 0, none⟩ p).setCell ⟨B, 1, none⟩ q).setCell ⟨B, 2, none⟩ r).setCell ⟨B, 3, none⟩ u) v l := by
  rcases h with h | ⟨b, off, cap, h1, h2, h3, h4⟩
  · exact Or.inl h
  · have hne := hB _ _ _ _ h1
    exact Or.inr ⟨b, off, cap, h1, (RowAt_setCell hne).2 ((RowAt_setCell hne).2 ((RowAt_setCell hne).2 ((RowAt_setCell hne).2 h2))), by simpa [World.setCell] using h3, h4⟩
theorem below_new {w w1 : World} (h : Below w.heap.size w w1) (o : Obj) : Below w.heap.size w (w1.alloc o) := h.alloc h.size o
theorem below_str {w w1 : World} (h : Below w.heap.size w w1) (o : Obj) : Below w.heap.size w (w1.drew.alloc o) := h.drew.alloc h.size o

set_option maxRecDepth 100000 in
set_option maxHeartbeats 2000000 in
theorem messaged_yes (k f t x : Nat) (s : ByteArray) (w : World) (hs : soundB k f t x = true) (hk : k ≤ 8) (hf : f ≤ 8) (ht : t ≤ 8) (hx : x < 18446744073709551616) (hlen : s.size ≤ 16384) (hg : Met w) :
    Calls Tryd.prog 4 #[.agg #[.int .i64 k, .int .i64 f, .int .i64 t, .int .u64 x], .string s] w fun e w' => e = .returned (.bool true) ∧ Below w.heap.size w w' := by
  have h1 : ¬ (16384 : Int) < (s.size : Int) := by omega
  have HX : Hid (x < 18446744073709551616) := hx
  clear hx
  have HG : Hid (Met w) := hg
  have h0 := hg.lt
  clear hg
  obtain ⟨k2, f2, t2, x2, hV2⟩ := decV_form (msgBytes k f t x)
  have HV2 : Hid (decV (msgBytes k f t x) = .agg #[.int .i64 k2, .int .i64 f2, .int .i64 t2, .int .u64 x2]) := hV2
  generalize hE2 : decE (msgBytes k f t x) = E2
  have HE2 : Hid (decE (msgBytes k f t x) = E2) := hE2
  clear hV2 hE2
  obtain ⟨k1, f1, t1, x1, hV⟩ := decV_form (bytesOf s)
  have HV : Hid (decV (bytesOf s) = .agg #[.int .i64 k1, .int .i64 f1, .int .i64 t1, .int .u64 x1]) := hV
  clear hV
  generalize hE1 : decE (bytesOf s) = E1
  have HE : Hid (decE (bytesOf s) = E1) := hE1
  clear hE1
  have hcv := fun w => run_bytes w s
  go_enter Tryd.func4, Tryd.ntmps4
  go_wp2_with fail
  refine (encP_yes k f t x _ hs hk hf ht HX.out).mono ?_
  rintro e w1 ⟨g1, rfl, hg1, hr1, hb1⟩
  rw [World.size_alloc] at hg1 hb1
  have HR1 : Hid (RowAt w1 g1 0 (msgBytes k f t x)) := hr1
  have hgl1 : g1 < w1.heap.size := hr1.lt (by rw [msgBytes_len]; omega)
  clear hr1
  have HB1 : Hid (Below w.heap.size w w1) := ((Below.refl _ _).alloc (Nat.le_refl _) _).trans (hb1.mono (by omega))
  have hm1 : ∀ i, w1.cell? ⟨w.heap.size, i, none⟩ = (w.alloc (msgO k f t x)).cell? ⟨w.heap.size, i, none⟩ := fun i => hb1.cell (p := ⟨w.heap.size, i, none⟩) (by simp)
  clear hb1
  have hz1 := HB1.out.size
  go_wp2_with fail
  refine (message_yes k f t x _ hs hk hf ht HX.out).mono ?_
  rintro e w2 ⟨g2, cap2, rfl, hg2, ⟨hcp2, hcm2⟩, hr2, hb2⟩
  have HR1' : Hid (RowAt w2 g1 0 (msgBytes k f t x)) := HR1.out.below hb2 hgl1
  have HR2 : Hid (RowAt w2 g2 0 (msgBytes k f t x)) := hr2
  have hgl2 : g2 < w2.heap.size := hr2.lt (by rw [msgBytes_len]; omega)
  clear hr2 HR1
  have HB2 : Hid (Below w.heap.size w w2) := HB1.out.trans (hb2.mono hz1)
  have hz12 := hb2.size
  clear hb2 hm1
  go_wp2_with fail
  have HB3 : Hid (Below w.heap.size w (w2.alloc (strO s (grownCap w2 s.size 0 5))).drew) := (below_new HB2.out _).drew
  refine (decP _ (bytesOf s) _ (src_str w2 s (by unfold maxLen; omega)) (bytesOf_byt s) (by rw [bytesOf_len]; omega) (HG.out.below HB3.out h0)).mono ?_
  rintro e w4 ⟨rfl, hb4'⟩
  have hb4 : Below (w2.heap.size + 1) (w2.alloc (strO s (grownCap w2 s.size 0 5))).drew w4 := by
    have h : Below (w2.alloc (strO s (grownCap w2 s.size 0 5))).heap.size (w2.alloc (strO s (grownCap w2 s.size 0 5))).drew w4 := hb4'
    rwa [World.size_alloc] at h
  have HB24 : Hid (Below w2.heap.size w2 w4) := ((Below.refl _ _).alloc (Nat.le_refl _) _).drew.trans (hb4.mono (by omega))
  clear hb4 hb4'
  have HB4 : Hid (Below w.heap.size w w4) := HB2.out.trans (HB24.out.mono (by omega))
  have hz24 := HB24.out.size
  rw [HV.out, HE.out]
  go_wp2_with fail
  have HB5 : Hid (Below w.heap.size w ((w4.alloc (msgO k1 f1 t1 x1)).alloc (strO s (grownCap (w4.alloc (msgO k1 f1 t1 x1)) s.size 0 5))).drew) := ((below_new HB4.out _).alloc (by simp; omega) _).drew
  refine (readR _ (bytesOf s) _ (by have h := src_str (w4.alloc (msgO k1 f1 t1 x1)) s (by unfold maxLen; omega); rw [World.size_alloc] at h; exact h) (bytesOf_byt s)).mono ?_
  rintro e w6 ⟨rfl, hb6'⟩
  have hb6 : Below (w4.heap.size + 1) (w4.alloc (msgO k1 f1 t1 x1)) w6 := by
    have h : Below (w4.heap.size + 1 + 1) ((w4.alloc (msgO k1 f1 t1 x1)).alloc (strO s (grownCap (w4.alloc (msgO k1 f1 t1 x1)) s.size 0 5))).drew w6 := by
      have h2 := hb6'
      rw [show ((w4.alloc (msgO k1 f1 t1 x1)).alloc (strO s (grownCap (w4.alloc (msgO k1 f1 t1 x1)) s.size 0 5))).drew.heap.size = w4.heap.size + 1 + 1 by show ((w4.alloc (msgO k1 f1 t1 x1)).alloc _).heap.size = _; rw [World.size_alloc, World.size_alloc]] at h2
      exact h2
    exact ((Below.refl _ _).alloc (by simp) _).drew.trans (h.mono (by omega))
  have HB46 : Hid (Below w4.heap.size w4 w6) := ((Below.refl _ _).alloc (Nat.le_refl _) _).trans (hb6.mono (by omega))
  have hp6 : ∀ i, w6.cell? ⟨w4.heap.size, i, none⟩ = (w4.alloc (msgO k1 f1 t1 x1)).cell? ⟨w4.heap.size, i, none⟩ := fun i => hb6.cell (p := ⟨w4.heap.size, i, none⟩) (by simp)
  have hpf6 : ∀ i, w6.frozen? ⟨w4.heap.size, i, none⟩ = false := fun i => by rw [hb6.frozen (p := ⟨w4.heap.size, i, none⟩) (by simp)]; simp
  have hz46 : w4.heap.size < w6.heap.size := by have := hb6.size; simp at this; omega
  have HB6 : Hid (Below w.heap.size w w6) := HB4.out.trans (HB46.out.mono (by omega))
  clear hb6 hb6' HB5
  rw [HV.out, HE.out]
  have HR6 : Hid (RowAt (w6.alloc (msgO k1 f1 t1 x1)) g1 0 (msgBytes k f t x)) := (RowAt_alloc (by omega)).2 ((HR1'.out.below HB24.out (by omega)).below HB46.out (by omega))
  have HR7 : Hid (RowAt (w6.alloc (msgO k1 f1 t1 x1)) g2 0 (msgBytes k f t x)) := (RowAt_alloc (by omega)).2 ((HR2.out.below HB24.out (by omega)).below HB46.out (by omega))
  have hs1 := run_str _ g1 0 15 15 _ (msgBytes_len k f t x) HR6.out
  have hs2 := run_str _ g2 0 15 cap2 _ (msgBytes_len k f t x) HR7.out
  generalize str (msgBytes k f t x) = S at hs1 hs2
  go_wp2_with fail
  have hS7 : Src (w6.alloc (msgO k1 f1 t1 x1)) (.slice (some ⟨g2, 0, none⟩) 15 cap2) (msgBytes k f t x) := Or.inr ⟨g2, 0, cap2, by rw [msgBytes_len], HR7.out, by simp; omega, by rw [msgBytes_len]; exact hcp2, hcm2⟩
  have HB7 : Hid (Below w.heap.size w (w6.alloc (msgO k1 f1 t1 x1))) := below_new HB6.out _
  refine (decP (.slice (some ⟨g2, 0, none⟩) 15 cap2) (msgBytes k f t x) _ hS7 (msgBytes_byt k f t x (by omega) (by omega) (by omega)) (by rw [msgBytes_len]; omega) (HG.out.below HB7.out h0)).mono ?_
  rintro e w8 ⟨rfl, hb8⟩
  rw [World.size_alloc] at hb8
  have hp8 : ∀ i, w8.cell? ⟨w4.heap.size, i, none⟩ = (w4.alloc (msgO k1 f1 t1 x1)).cell? ⟨w4.heap.size, i, none⟩ := fun i => by
    rw [hb8.cell (p := ⟨w4.heap.size, i, none⟩) (by show w4.heap.size < _; omega), World.cell?_alloc_lt _ _ ⟨w4.heap.size, i, none⟩ hz46]; exact hp6 i
  have hpf8 : ∀ i, w8.frozen? ⟨w4.heap.size, i, none⟩ = false := fun i => by
    rw [hb8.frozen (p := ⟨w4.heap.size, i, none⟩) (by show w4.heap.size < _; omega), World.frozen?_alloc_old _ _ ⟨w4.heap.size, i, none⟩ (Nat.ne_of_lt hz46)]; exact hpf6 i
  have hq8 : ∀ i, w8.cell? ⟨w6.heap.size, i, none⟩ = (w6.alloc (msgO k1 f1 t1 x1)).cell? ⟨w6.heap.size, i, none⟩ := fun i => hb8.cell (p := ⟨w6.heap.size, i, none⟩) (by simp)
  have hqf8 : ∀ i, w8.frozen? ⟨w6.heap.size, i, none⟩ = false := fun i => by rw [hb8.frozen (p := ⟨w6.heap.size, i, none⟩) (by simp)]; simp
  have hz68 : w6.heap.size < w8.heap.size := by have := hb8.size; simp at this; omega
  have HB8 : Hid (Below w.heap.size w w8) := HB7.out.trans (hb8.mono (by omega))
  have HS8 : Hid (Src w8 (.slice (some ⟨g2, 0, none⟩) 15 cap2) (msgBytes k f t x)) := hS7.below (by rw [World.size_alloc]; exact hb8)
  clear hb8 hS7 hp6 hpf6 hs1 hs2
  rw [HV2.out, HE2.out]
  go_wp2_with fail
  have hZ8 : ((((w8.setCell ⟨w4.heap.size, 0, none⟩ (.int .i64 k2)).setCell ⟨w4.heap.size, 1, none⟩ (.int .i64 f2)).setCell ⟨w4.heap.size, 2, none⟩ (.int .i64 t2)).setCell ⟨w4.heap.size, 3, none⟩ (.int .u64 x2)).heap.size = w8.heap.size := by simp [World.setCell]
  have HB8' : Hid (Below w.heap.size w ((((w8.setCell ⟨w4.heap.size, 0, none⟩ (.int .i64 k2)).setCell ⟨w4.heap.size, 1, none⟩ (.int .i64 f2)).setCell ⟨w4.heap.size, 2, none⟩ (.int .i64 t2)).setCell ⟨w4.heap.size, 3, none⟩ (.int .u64 x2))) :=
    (((HB8.out.setCell (by show _ ≤ w4.heap.size; omega) _).setCell (by show _ ≤ w4.heap.size; omega) _).setCell (by show _ ≤ w4.heap.size; omega) _).setCell (by show _ ≤ w4.heap.size; omega) _
  refine (readR (.slice (some ⟨g2, 0, none⟩) 15 cap2) (msgBytes k f t x) _ (src_set4 HS8.out w4.heap.size (fun b off n cap h => by cases h; omega) _ _ _ _) (msgBytes_byt k f t x (by omega) (by omega) (by omega))).mono ?_
  rintro e w9 ⟨rfl, hb9⟩
  rw [hZ8] at hb9
  have hz89 : w8.heap.size ≤ w9.heap.size := by have := hb9.size; rw [hZ8] at this; exact this
  have HB9 : Hid (Below w.heap.size w w9) := HB8'.out.trans (hb9.mono (by omega))
  have hq9 : ∀ i, w9.cell? ⟨w6.heap.size, i, none⟩ = (w6.alloc (msgO k1 f1 t1 x1)).cell? ⟨w6.heap.size, i, none⟩ := fun i => by
    rw [hb9.cell (p := ⟨w6.heap.size, i, none⟩) hz68, World.cell?_setCell_far _ _ _ _ (by show w4.heap.size ≠ w6.heap.size; omega), World.cell?_setCell_far _ _ _ _ (by show w4.heap.size ≠ w6.heap.size; omega), World.cell?_setCell_far _ _ _ _ (by show w4.heap.size ≠ w6.heap.size; omega), World.cell?_setCell_far _ _ _ _ (by show w4.heap.size ≠ w6.heap.size; omega)]; exact hq8 i
  have hqf9 : ∀ i, w9.frozen? ⟨w6.heap.size, i, none⟩ = false := fun i => by
    rw [hb9.frozen (p := ⟨w6.heap.size, i, none⟩) hz68, World.frozen?_setCell, World.frozen?_setCell, World.frozen?_setCell, World.frozen?_setCell]; exact hqf8 i
  have hfour : Four ((((w8.setCell ⟨w4.heap.size, 0, none⟩ (.int .i64 k2)).setCell ⟨w4.heap.size, 1, none⟩ (.int .i64 f2)).setCell ⟨w4.heap.size, 2, none⟩ (.int .i64 t2)).setCell ⟨w4.heap.size, 3, none⟩ (.int .u64 x2)) w4.heap.size k2 f2 t2 x2 := four_set w8 w4.heap.size k2 f2 t2 x2 k1 f1 t1 x1 ⟨(hp8 0).trans (by simp), (hp8 1).trans (by simp), (hp8 2).trans (by simp), (hp8 3).trans (by simp)⟩
  have hfour9 : Four w9 w4.heap.size k2 f2 t2 x2 := hfour.of_block (hb9.block _ (by omega))
  obtain ⟨d0, d1, d2, d3⟩ := hfour9
  have hne : ¬ w6.heap.size = w4.heap.size := by omega
  have hne' : ¬ w4.heap.size = w6.heap.size := by omega
  clear hb9 hfour hp8 hpf8 hq8 hqf8
  rw [HV2.out, HE2.out]
  go_wp2
  go_ret
  exact ⟨rfl, (((HB9.out.setCell (by show _ ≤ w6.heap.size; omega) _).setCell (by show _ ≤ w6.heap.size; omega) _).setCell (by show _ ≤ w6.heap.size; omega) _).setCell (by show _ ≤ w6.heap.size; omega) _⟩

set_option maxRecDepth 100000 in
set_option maxHeartbeats 2000000 in
theorem messaged_no (k f t x : Int) (s : ByteArray) (w : World) (hs : soundB k f t x = false) (hlen : s.size ≤ 16384) (hg : Met w) :
    Calls Tryd.prog 4 #[.agg #[.int .i64 k, .int .i64 f, .int .i64 t, .int .u64 x], .string s] w fun e w' => e = .returned (.bool true) ∧ Below w.heap.size w w' := by
  have h1 : ¬ (16384 : Int) < (s.size : Int) := by omega
  have HG : Hid (Met w) := hg
  have h0 := hg.lt
  clear hg
  obtain ⟨k2, f2, t2, x2, hV2⟩ := decV_form ([] : List Nat)
  have HV2 : Hid (decV ([] : List Nat) = .agg #[.int .i64 k2, .int .i64 f2, .int .i64 t2, .int .u64 x2]) := hV2
  generalize hE2 : decE ([] : List Nat) = E2
  have HE2 : Hid (decE ([] : List Nat) = E2) := hE2
  clear hV2 hE2
  obtain ⟨k1, f1, t1, x1, hV⟩ := decV_form (bytesOf s)
  have HV : Hid (decV (bytesOf s) = .agg #[.int .i64 k1, .int .i64 f1, .int .i64 t1, .int .u64 x1]) := hV
  clear hV
  generalize hE1 : decE (bytesOf s) = E1
  have HE : Hid (decE (bytesOf s) = E1) := hE1
  clear hE1
  have hcv := fun w => run_bytes w s
  go_enter Tryd.func4, Tryd.ntmps4
  go_wp2_with fail
  refine (encP_no k f t x _ hs (HG.out.below (((Below.refl _ _).alloc (Nat.le_refl _) _)) h0)).mono ?_
  rintro e w1 ⟨rfl, hb1⟩
  rw [World.size_alloc] at hb1
  have HB1 : Hid (Below w.heap.size w w1) := ((Below.refl _ _).alloc (Nat.le_refl _) _).trans (hb1.mono (by omega))
  have hm1 : ∀ i, w1.cell? ⟨w.heap.size, i, none⟩ = (w.alloc (msgO k f t x)).cell? ⟨w.heap.size, i, none⟩ := fun i => hb1.cell (p := ⟨w.heap.size, i, none⟩) (by simp)
  clear hb1
  have hz1 := HB1.out.size
  go_wp2_with fail
  refine (message_no k f t x _ hs).mono ?_
  rintro e w2 ⟨rfl, hb2⟩
  have HB2 : Hid (Below w.heap.size w w2) := HB1.out.trans (hb2.mono hz1)
  have hz12 := hb2.size
  clear hb2 hm1
  go_wp2_with fail
  have HB3 : Hid (Below w.heap.size w (w2.alloc (strO s (grownCap w2 s.size 0 5))).drew) := (below_new HB2.out _).drew
  refine (decP _ (bytesOf s) _ (src_str w2 s (by unfold maxLen; omega)) (bytesOf_byt s) (by rw [bytesOf_len]; omega) (HG.out.below HB3.out h0)).mono ?_
  rintro e w4 ⟨rfl, hb4'⟩
  have hb4 : Below (w2.heap.size + 1) (w2.alloc (strO s (grownCap w2 s.size 0 5))).drew w4 := by
    have h : Below (w2.alloc (strO s (grownCap w2 s.size 0 5))).heap.size (w2.alloc (strO s (grownCap w2 s.size 0 5))).drew w4 := hb4'
    rwa [World.size_alloc] at h
  have HB24 : Hid (Below w2.heap.size w2 w4) := ((Below.refl _ _).alloc (Nat.le_refl _) _).drew.trans (hb4.mono (by omega))
  clear hb4 hb4'
  have HB4 : Hid (Below w.heap.size w w4) := HB2.out.trans (HB24.out.mono (by omega))
  have hz24 := HB24.out.size
  rw [HV.out, HE.out]
  go_wp2_with fail
  have HB5 : Hid (Below w.heap.size w ((w4.alloc (msgO k1 f1 t1 x1)).alloc (strO s (grownCap (w4.alloc (msgO k1 f1 t1 x1)) s.size 0 5))).drew) := ((below_new HB4.out _).alloc (by simp; omega) _).drew
  refine (readR _ (bytesOf s) _ (by have h := src_str (w4.alloc (msgO k1 f1 t1 x1)) s (by unfold maxLen; omega); rw [World.size_alloc] at h; exact h) (bytesOf_byt s)).mono ?_
  rintro e w6 ⟨rfl, hb6'⟩
  have hb6 : Below (w4.heap.size + 1) (w4.alloc (msgO k1 f1 t1 x1)) w6 := by
    have h : Below (w4.heap.size + 1 + 1) ((w4.alloc (msgO k1 f1 t1 x1)).alloc (strO s (grownCap (w4.alloc (msgO k1 f1 t1 x1)) s.size 0 5))).drew w6 := by
      have h2 := hb6'
      rw [show ((w4.alloc (msgO k1 f1 t1 x1)).alloc (strO s (grownCap (w4.alloc (msgO k1 f1 t1 x1)) s.size 0 5))).drew.heap.size = w4.heap.size + 1 + 1 by show ((w4.alloc (msgO k1 f1 t1 x1)).alloc _).heap.size = _; rw [World.size_alloc, World.size_alloc]] at h2
      exact h2
    exact ((Below.refl _ _).alloc (by simp) _).drew.trans (h.mono (by omega))
  have HB46 : Hid (Below w4.heap.size w4 w6) := ((Below.refl _ _).alloc (Nat.le_refl _) _).trans (hb6.mono (by omega))
  have hp6 : ∀ i, w6.cell? ⟨w4.heap.size, i, none⟩ = (w4.alloc (msgO k1 f1 t1 x1)).cell? ⟨w4.heap.size, i, none⟩ := fun i => hb6.cell (p := ⟨w4.heap.size, i, none⟩) (by simp)
  have hpf6 : ∀ i, w6.frozen? ⟨w4.heap.size, i, none⟩ = false := fun i => by rw [hb6.frozen (p := ⟨w4.heap.size, i, none⟩) (by simp)]; simp
  have hz46 : w4.heap.size < w6.heap.size := by have := hb6.size; simp at this; omega
  have HB6 : Hid (Below w.heap.size w w6) := HB4.out.trans (HB46.out.mono (by omega))
  clear hb6 hb6' HB5
  rw [HV.out, HE.out]
  have hs1 := run_str_nil
  go_wp2_with fail
  have hS7 : Src (w6.alloc (msgO k1 f1 t1 x1)) (.slice none 0 0) ([] : List Nat) := Or.inl ⟨rfl, rfl⟩
  have HB7 : Hid (Below w.heap.size w (w6.alloc (msgO k1 f1 t1 x1))) := below_new HB6.out _
  refine (decP (.slice none 0 0) ([] : List Nat) _ hS7 (fun x hx => by cases hx) (by simp) (HG.out.below HB7.out h0)).mono ?_
  rintro e w8 ⟨rfl, hb8⟩
  rw [World.size_alloc] at hb8
  have hp8 : ∀ i, w8.cell? ⟨w4.heap.size, i, none⟩ = (w4.alloc (msgO k1 f1 t1 x1)).cell? ⟨w4.heap.size, i, none⟩ := fun i => by
    rw [hb8.cell (p := ⟨w4.heap.size, i, none⟩) (by show w4.heap.size < _; omega), World.cell?_alloc_lt _ _ ⟨w4.heap.size, i, none⟩ hz46]; exact hp6 i
  have hpf8 : ∀ i, w8.frozen? ⟨w4.heap.size, i, none⟩ = false := fun i => by
    rw [hb8.frozen (p := ⟨w4.heap.size, i, none⟩) (by show w4.heap.size < _; omega), World.frozen?_alloc_old _ _ ⟨w4.heap.size, i, none⟩ (Nat.ne_of_lt hz46)]; exact hpf6 i
  have hq8 : ∀ i, w8.cell? ⟨w6.heap.size, i, none⟩ = (w6.alloc (msgO k1 f1 t1 x1)).cell? ⟨w6.heap.size, i, none⟩ := fun i => hb8.cell (p := ⟨w6.heap.size, i, none⟩) (by simp)
  have hqf8 : ∀ i, w8.frozen? ⟨w6.heap.size, i, none⟩ = false := fun i => by rw [hb8.frozen (p := ⟨w6.heap.size, i, none⟩) (by simp)]; simp
  have hz68 : w6.heap.size < w8.heap.size := by have := hb8.size; simp at this; omega
  have HB8 : Hid (Below w.heap.size w w8) := HB7.out.trans (hb8.mono (by omega))
  have HS8 : Hid (Src w8 (.slice none 0 0) ([] : List Nat)) := hS7.below (by rw [World.size_alloc]; exact hb8)
  clear hb8 hS7 hp6 hpf6 hs1
  rw [HV2.out, HE2.out]
  go_wp2_with fail
  have hZ8 : ((((w8.setCell ⟨w4.heap.size, 0, none⟩ (.int .i64 k2)).setCell ⟨w4.heap.size, 1, none⟩ (.int .i64 f2)).setCell ⟨w4.heap.size, 2, none⟩ (.int .i64 t2)).setCell ⟨w4.heap.size, 3, none⟩ (.int .u64 x2)).heap.size = w8.heap.size := by simp [World.setCell]
  have HB8' : Hid (Below w.heap.size w ((((w8.setCell ⟨w4.heap.size, 0, none⟩ (.int .i64 k2)).setCell ⟨w4.heap.size, 1, none⟩ (.int .i64 f2)).setCell ⟨w4.heap.size, 2, none⟩ (.int .i64 t2)).setCell ⟨w4.heap.size, 3, none⟩ (.int .u64 x2))) :=
    (((HB8.out.setCell (by show _ ≤ w4.heap.size; omega) _).setCell (by show _ ≤ w4.heap.size; omega) _).setCell (by show _ ≤ w4.heap.size; omega) _).setCell (by show _ ≤ w4.heap.size; omega) _
  refine (readR (.slice none 0 0) ([] : List Nat) _ (Or.inl ⟨rfl, rfl⟩) (fun x hx => by cases hx)).mono ?_
  rintro e w9 ⟨rfl, hb9⟩
  rw [hZ8] at hb9
  have hz89 : w8.heap.size ≤ w9.heap.size := by have := hb9.size; rw [hZ8] at this; exact this
  have HB9 : Hid (Below w.heap.size w w9) := HB8'.out.trans (hb9.mono (by omega))
  have hq9 : ∀ i, w9.cell? ⟨w6.heap.size, i, none⟩ = (w6.alloc (msgO k1 f1 t1 x1)).cell? ⟨w6.heap.size, i, none⟩ := fun i => by
    rw [hb9.cell (p := ⟨w6.heap.size, i, none⟩) hz68, World.cell?_setCell_far _ _ _ _ (by show w4.heap.size ≠ w6.heap.size; omega), World.cell?_setCell_far _ _ _ _ (by show w4.heap.size ≠ w6.heap.size; omega), World.cell?_setCell_far _ _ _ _ (by show w4.heap.size ≠ w6.heap.size; omega), World.cell?_setCell_far _ _ _ _ (by show w4.heap.size ≠ w6.heap.size; omega)]; exact hq8 i
  have hqf9 : ∀ i, w9.frozen? ⟨w6.heap.size, i, none⟩ = false := fun i => by
    rw [hb9.frozen (p := ⟨w6.heap.size, i, none⟩) hz68, World.frozen?_setCell, World.frozen?_setCell, World.frozen?_setCell, World.frozen?_setCell]; exact hqf8 i
  have hfour : Four ((((w8.setCell ⟨w4.heap.size, 0, none⟩ (.int .i64 k2)).setCell ⟨w4.heap.size, 1, none⟩ (.int .i64 f2)).setCell ⟨w4.heap.size, 2, none⟩ (.int .i64 t2)).setCell ⟨w4.heap.size, 3, none⟩ (.int .u64 x2)) w4.heap.size k2 f2 t2 x2 := four_set w8 w4.heap.size k2 f2 t2 x2 k1 f1 t1 x1 ⟨(hp8 0).trans (by simp), (hp8 1).trans (by simp), (hp8 2).trans (by simp), (hp8 3).trans (by simp)⟩
  have hfour9 : Four w9 w4.heap.size k2 f2 t2 x2 := hfour.of_block (hb9.block _ (by omega))
  obtain ⟨d0, d1, d2, d3⟩ := hfour9
  have hne : ¬ w6.heap.size = w4.heap.size := by omega
  have hne' : ¬ w4.heap.size = w6.heap.size := by omega
  clear hb9 hfour hp8 hpf8 hq8 hqf8
  rw [HV2.out, HE2.out]
  go_wp2
  go_ret
  exact ⟨rfl, (((HB9.out.setCell (by show _ ≤ w6.heap.size; omega) _).setCell (by show _ ≤ w6.heap.size; omega) _).setCell (by show _ ≤ w6.heap.size; omega) _).setCell (by show _ ≤ w6.heap.size; omega) _⟩
end Go.Proofs.YtfkoflldjnlhaaaDoor
