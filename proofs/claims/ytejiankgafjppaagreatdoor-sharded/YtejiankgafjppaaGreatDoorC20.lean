import Derived.Test.YtejiankgafjppaaGreatDoorC19
import Derived.Deep.RegionHeld3
/- SHARDS: take. -/
namespace Go.Proofs.YtejiankgafjppaaGreatDoor
open Go.RowKit Go.Maps
open Sc

set_option maxRecDepth 100000 in
set_option maxHeartbeats 4000000 in
theorem take_any (sp lg bV bT bH n t : Nat) (k : ByteArray) (g : AGrip) (s : AShard) (w : World) (h : ShIn w sp lg bV bT bH n s) (ht : t < 18446744073709551616) (hk : k.size ≤ maxLen) (hn : n < maxLen) :
    Calls Tryz.prog 194 #[.pointer (some ⟨sp, 0, none⟩), .int .u64 (t : Int), .string k, .agg #[.int .u8 (g.way : Int), .string g.val]] w fun e w' => e = .returned (.tuple #[]) ∧ ShIn w' sp lg bV bT bH (n + 1) (s.take t k g) ∧ Fr [bH] w w' := by
  have hsp := h.lts
  obtain ⟨W, hW⟩ : ∃ W, W = (w.alloc (.cells #[.int .u8 (g.way : Int), .string g.val] 189)).alloc (.cells #[.int .u64 (t : Int), .string k] 191) := ⟨_, rfl⟩
  have hfW : Fr [] w W := by rw [hW]; exact ((Fr.refl [] w).alloc _).alloc _
  have hsW : W.heap.size = w.heap.size + 2 := by rw [hW]; simp
  have b1 : W.heap[w.heap.size]? = some (.cells #[.int .u8 (g.way : Int), .string g.val] 189) := by
    rw [hW]; exact (Below.heap_alloc _ _ _ (by simp)).trans (heap_alloc_new w _)
  have b2 : W.heap[w.heap.size + 1]? = some (.cells #[.int .u64 (t : Int), .string k] 191) := by
    rw [hW]; have := heap_alloc_new (w.alloc (.cells #[.int .u8 (g.way : Int), .string g.val] 189)) (.cells #[.int .u64 (t : Int), .string k] 191); rwa [World.size_alloc] at this
  have HIN : Hid (ShIn W sp lg bV bT bH n s) := h.fr hfW (by simp) (by simp) (by simp) (by simp)
  have HFW : Hid (Fr [] w W) := hfW
  have HS : Hid (∀ W', Fr [] W W' → W'.cell? ⟨w.heap.size, 0, none⟩ = some (.int .u8 (g.way : Int)) ∧ W'.cell? ⟨w.heap.size, 1, none⟩ = some (.string g.val) ∧ W'.cell? ⟨w.heap.size + 1, 0, none⟩ = some (.int .u64 (t : Int)) ∧ W'.cell? ⟨w.heap.size + 1, 1, none⟩ = some (.string k) ∧ W'.cell? ⟨sp, 3, none⟩ = some (.map (some bH)) ∧ (Instr.lookup 183 (.map (some bH)) (.agg #[.int .u64 (t : Int), .string k]) false).run Tryz.prog W' = .ok (.agg #[.int .u8 ((s.grip t k).way : Int), .string (s.grip t k).val]) W') := fun W' hf => by
    have e1 := (hf.block _ (by omega) (by simp)).trans b1
    have e2 := (hf.block _ (by omega) (by simp)).trans b2
    have hi := HIN.out.fr hf (by simp) (by simp) (by simp) (by simp)
    have x0 := blk_cell e1 0
    have x1 := blk_cell e1 1
    have y0 := blk_cell e2 0
    have y1 := blk_cell e2 1
    have z3 := blk_cell hi.blk 3
    simp at x0 x1 y0 y1 z3
    exact ⟨x0, x1, y0, y1, z3, hi.lookH ht hk⟩
  clear h b1 b2 hfW
  go_enter Tryz.func194, Tryz.ntmps194
  go_wp2
  rw [← hW]
  clear hW
  refine wp_region_held_drew (S := (fun w' => w'.cell? ⟨w.heap.size, 0, none⟩ = some (.int .u8 (g.way : Int)) ∧ w'.cell? ⟨w.heap.size, 1, none⟩ = some (.string g.val) ∧ w'.cell? ⟨w.heap.size + 1, 0, none⟩ = some (.int .u64 (t : Int)) ∧ w'.cell? ⟨w.heap.size + 1, 1, none⟩ = some (.string k) ∧ w'.cell? ⟨sp, 3, none⟩ = some (.map (some bH)) ∧ (Instr.lookup 183 (.map (some bH)) (.agg #[.int .u64 (t : Int), .string k]) false).run Tryz.prog w' = .ok (.agg #[.int .u8 ((s.grip t k).way : Int), .string (s.grip t k).val]) w')) (by kernel_rfl) (HS.out _ (Fr.refl [] W).drew) (fun hHeld => ?_)
  refine wpAnyH_take (i := 0) (oi := { dst := some 12, op := _, type := _, pos := _, after := _, guard := _ }) (v := .agg #[.int .u8 (g.way : Int), .string g.val]) rfl (by kernel_rfl) (by kernel_rfl) (by kernel_rfl) (fun _ _ _ h => h) (Or.inl ⟨by rfl, ?_⟩) (by assumption) ?_
  · intro w' hSw; (try dsimp only at hSw); go_simp
  (try simp only [Act.put, List.setIfInBounds_toArray, List.set_cons_zero, List.set_cons_succ])
  cases hg : g.writes with
  | false =>
    have hgw := gwrites g W.drew
    rw [hg] at hgw
    refine wpAnyH_ready (rs := [1]) (by kernel_rfl) (by simp) ?_
    refine AllReadyH.cons (o := { dst := some 13, op := _, type := _, pos := _, after := _, guard := _ }) rfl (fun K hK => ?_) AllReadyH.nil
    go_simp
    refine (hgw).mono ?_
    rintro e w1 ⟨rfl, rfl⟩
    go_wp2_with fail
    refine hK.out _ _ (HS.out _ ((Fr.refl [] W).drew.alloc _)) (fun hHeld => ?_)
    clear hK K
    (try simp only [Act.put, List.setIfInBounds_toArray, List.set_cons_zero, List.set_cons_succ])
    refine wpAnyH_take (i := 2) (oi := { dst := some 14, op := _, type := _, pos := _, after := _, guard := _ }) (v := .bool false) rfl (by kernel_rfl) (by kernel_rfl) (by kernel_rfl) (fun _ _ _ h => h) (Or.inl ⟨by rfl, ?_⟩) (by assumption) ?_
    · intro w' hSw; (try dsimp only at hSw); go_simp
    (try simp only [Act.put, List.setIfInBounds_toArray, List.set_cons_zero, List.set_cons_succ])
    refine wpAnyH_take (i := 3) (oi := { dst := some 15, op := _, type := _, pos := _, after := _, guard := _ }) (v := .pointer (some ⟨sp, 0, none⟩)) rfl (by kernel_rfl) (by kernel_rfl) (by kernel_rfl) (fun _ _ _ h => h) (Or.inl ⟨by rfl, ?_⟩) (by assumption) ?_
    · intro w' hSw; (try dsimp only at hSw); go_simp
    (try simp only [Act.put, List.setIfInBounds_toArray, List.set_cons_zero, List.set_cons_succ])
    refine wpAnyH_take (i := 4) (oi := { dst := some 16, op := _, type := _, pos := _, after := _, guard := _ }) (v := .pointer (some ⟨sp, 0, none⟩)) rfl (by kernel_rfl) (by kernel_rfl) (by kernel_rfl) (fun _ _ _ h => h) (Or.inl ⟨by rfl, ?_⟩) (by assumption) ?_
    · intro w' hSw; (try dsimp only at hSw); go_simp
    (try simp only [Act.put, List.setIfInBounds_toArray, List.set_cons_zero, List.set_cons_succ])
    refine wpAnyH_take (i := 5) (oi := { dst := some 17, op := _, type := _, pos := _, after := _, guard := _ }) (v := .pointer (some ⟨sp, 3, none⟩)) rfl (by kernel_rfl) (by kernel_rfl) (by kernel_rfl) (fun _ _ _ h => h) (Or.inl ⟨by rfl, ?_⟩) (by assumption) ?_
    · intro w' hSw; (try dsimp only at hSw); go_simp
    (try simp only [Act.put, List.setIfInBounds_toArray, List.set_cons_zero, List.set_cons_succ])
    refine wpAnyH_take (i := 6) (oi := { dst := some 18, op := _, type := _, pos := _, after := _, guard := _ }) (v := .map (some bH)) rfl (by kernel_rfl) (by kernel_rfl) (by kernel_rfl) (fun _ _ _ h => h) (Or.inl ⟨by rfl, ?_⟩) (by assumption) ?_
    · intro w' hSw; (try dsimp only at hSw); go_simp
    (try simp only [Act.put, List.setIfInBounds_toArray, List.set_cons_zero, List.set_cons_succ])
    refine wpAnyH_take (i := 7) (oi := { dst := some 19, op := _, type := _, pos := _, after := _, guard := _ }) (v := .agg #[.int .u64 (t : Int), .string k]) rfl (by kernel_rfl) (by kernel_rfl) (by kernel_rfl) (fun _ _ _ h => h) (Or.inl ⟨by rfl, ?_⟩) (by assumption) ?_
    · intro w' hSw; (try dsimp only at hSw); go_simp
    (try simp only [Act.put, List.setIfInBounds_toArray, List.set_cons_zero, List.set_cons_succ])
    refine wpAnyH_take (i := 8) (oi := { dst := some 20, op := _, type := _, pos := _, after := _, guard := _ }) (v := .agg #[.int .u8 ((s.grip t k).way : Int), .string (s.grip t k).val]) rfl (by kernel_rfl) (by kernel_rfl) (by kernel_rfl) (fun _ _ _ h => h) (Or.inl ⟨by rfl, ?_⟩) (by assumption) ?_
    · intro w' hSw; (try dsimp only at hSw); go_simp
    (try simp only [Act.put, List.setIfInBounds_toArray, List.set_cons_zero, List.set_cons_succ])
    have hgw2 := gwrites (s.grip t k) (W.drew.alloc (.cells #[.int .u8 (g.way : Int), .string g.val] 189))
    cases hg2 : (s.grip t k).writes with
    | true =>
      rw [hg2] at hgw2
      refine wpAnyH_ready (rs := [9]) (by kernel_rfl) (by simp) ?_
      refine AllReadyH.cons (o := { dst := some 21, op := _, type := _, pos := _, after := _, guard := _ }) rfl (fun K hK => ?_) AllReadyH.nil
      go_simp
      refine (hgw2).mono ?_
      rintro e w2 ⟨rfl, rfl⟩
      go_wp2_with fail
      refine hK.out _ _ (HS.out _ (((Fr.refl [] W).drew.alloc _).alloc _)) (fun hHeld => ?_)
      clear hK K
      (try simp only [Act.put, List.setIfInBounds_toArray, List.set_cons_zero, List.set_cons_succ])
      refine wpAnyH_take (i := 10) (oi := { dst := some 22, op := _, type := _, pos := _, after := _, guard := _ }) (v := .bool false) rfl (by kernel_rfl) (by kernel_rfl) (by kernel_rfl) (fun _ _ _ h => h) (Or.inl ⟨by rfl, ?_⟩) (by assumption) ?_
      · intro w' hSw; (try dsimp only at hSw); go_simp
      (try simp only [Act.put, List.setIfInBounds_toArray, List.set_cons_zero, List.set_cons_succ])
      refine wpAnyH_take (i := 11) (oi := { dst := some 23, op := _, type := _, pos := _, after := _, guard := _ }) (v := .bool false) rfl (by kernel_rfl) (by kernel_rfl) (by kernel_rfl) (fun _ _ _ h => h) (Or.inl ⟨by rfl, ?_⟩) (by assumption) ?_
      · intro w' hSw; (try dsimp only at hSw); go_simp
      (try simp only [Act.put, List.setIfInBounds_toArray, List.set_cons_zero, List.set_cons_succ])
      refine wpAnyH_done (by kernel_rfl) ?_ _
      have HX : Hid (s.take t k g = s) := by show _ = _; unfold AShard.take; rw [if_neg (by simp [hg, hg2])]
      clear hHeld
      go_wp2
      go_end0
      rw [HX.out]
      refine ⟨rfl, (HIN.out.fr (((Fr.refl [] W).drew.alloc _).alloc _) (by simp) (by simp) (by simp) (by simp)).mono (by omega), ?_⟩
      exact (HFW.out.trans (((Fr.refl [] W).drew.alloc _).alloc _)).mono (by simp)
    | false =>
      rw [hg2] at hgw2
      refine wpAnyH_ready (rs := [9]) (by kernel_rfl) (by simp) ?_
      refine AllReadyH.cons (o := { dst := some 21, op := _, type := _, pos := _, after := _, guard := _ }) rfl (fun K hK => ?_) AllReadyH.nil
      go_simp
      refine (hgw2).mono ?_
      rintro e w2 ⟨rfl, rfl⟩
      go_wp2_with fail
      refine hK.out _ _ (HS.out _ (((Fr.refl [] W).drew.alloc _).alloc _)) (fun hHeld => ?_)
      clear hK K
      (try simp only [Act.put, List.setIfInBounds_toArray, List.set_cons_zero, List.set_cons_succ])
      refine wpAnyH_take (i := 10) (oi := { dst := some 22, op := _, type := _, pos := _, after := _, guard := _ }) (v := .bool true) rfl (by kernel_rfl) (by kernel_rfl) (by kernel_rfl) (fun _ _ _ h => h) (Or.inl ⟨by rfl, ?_⟩) (by assumption) ?_
      · intro w' hSw; (try dsimp only at hSw); go_simp
      (try simp only [Act.put, List.setIfInBounds_toArray, List.set_cons_zero, List.set_cons_succ])
      refine wpAnyH_take (i := 11) (oi := { dst := some 23, op := _, type := _, pos := _, after := _, guard := _ }) (v := .bool true) rfl (by kernel_rfl) (by kernel_rfl) (by kernel_rfl) (fun _ _ _ h => h) (Or.inl ⟨by rfl, ?_⟩) (by assumption) ?_
      · intro w' hSw; (try dsimp only at hSw); go_simp
      (try simp only [Act.put, List.setIfInBounds_toArray, List.set_cons_zero, List.set_cons_succ])
      refine wpAnyH_done (by kernel_rfl) ?_ _
      have HX : Hid (s.take t k g = { s with holds := alPut s.holds (t, k) g }) := by show _ = _; unfold AShard.take; rw [if_pos (by simp [hg, hg2])]
      obtain ⟨W3, hW3⟩ : ∃ W3, W3 = ((W.alloc (.cells #[.int .u8 (g.way : Int), .string g.val] 189)).alloc (.cells #[.int .u8 ((s.grip t k).way : Int), .string (s.grip t k).val] 189)).drew := ⟨_, rfl⟩
      have hf3 : Fr [] W W3 := by rw [hW3]; exact (((Fr.refl [] W).alloc _).alloc _).drew
      obtain ⟨z0, z1, z2, z3, z4, z5⟩ := HS.out W3 hf3
      have hin3 := HIN.out.fr hf3 (by simp) (by simp) (by simp) (by simp)
      have HF3 : Hid (Fr [] W W3) := hf3
      rw [← hW3]
      clear hW3 hf3 hHeld z5
      obtain ⟨w5, hr5, hm5, hg5⟩ := (hin3.holds.fr (Fr.refl [] W3).drew (by simp)).putRun Tryz.underlying183 hn (k := (t, k)) ⟨ht, hk⟩ (v := g) trivial
      have hr5' : (Instr.mapUpdate 183 (.map (some bH)) (.agg #[.int .u64 (t : Int), .string k]) (.agg #[.int .u8 (g.way : Int), .string g.val])).run Tryz.prog W3.drew = .ok () w5 := hr5
      have hf5 : Fr [bH] W3 w5 := ((Fr.refl [bH] W3).drew).trans (Fr.of_grown1 hg5)
      have H5 : Hid (ShIn w5 sp lg bV bT bH (n + 1) { s with holds := alPut s.holds (t, k) g } ∧ Fr [bH] w w5) := ⟨hin3.setHolds hf5 hm5 (by omega), ((HFW.out.mono (by simp)).trans (HF3.out.mono (by simp))).trans hf5⟩
      clear hr5 hm5 hg5 hf5 hin3
      go_wp2
      go_region
      go_end0
      rw [HX.out]
      exact ⟨rfl, H5.out⟩
  | true =>
    have hgw := gwrites g W.drew
    rw [hg] at hgw
    refine wpAnyH_ready (rs := [1]) (by kernel_rfl) (by simp) ?_
    refine AllReadyH.cons (o := { dst := some 13, op := _, type := _, pos := _, after := _, guard := _ }) rfl (fun K hK => ?_) AllReadyH.nil
    go_simp
    refine (hgw).mono ?_
    rintro e w1 ⟨rfl, rfl⟩
    go_wp2_with fail
    refine hK.out _ _ (HS.out _ ((Fr.refl [] W).drew.alloc _)) (fun hHeld => ?_)
    clear hK K
    (try simp only [Act.put, List.setIfInBounds_toArray, List.set_cons_zero, List.set_cons_succ])
    refine wpAnyH_take (i := 2) (oi := { dst := some 14, op := _, type := _, pos := _, after := _, guard := _ }) (v := .bool true) rfl (by kernel_rfl) (by kernel_rfl) (by kernel_rfl) (fun _ _ _ h => h) (Or.inl ⟨by rfl, ?_⟩) (by assumption) ?_
    · intro w' hSw; (try dsimp only at hSw); go_simp
    (try simp only [Act.put, List.setIfInBounds_toArray, List.set_cons_zero, List.set_cons_succ])
    refine wpAnyH_take (i := 3) (oi := { dst := some 15, op := _, type := _, pos := _, after := _, guard := _ }) (v := undef) rfl (by kernel_rfl) (by kernel_rfl) (by kernel_rfl) (fun _ _ _ h => h) (Or.inr ⟨by rfl, rfl⟩) (by assumption) ?_
    (try simp only [Act.put, List.setIfInBounds_toArray, List.set_cons_zero, List.set_cons_succ])
    refine wpAnyH_take (i := 4) (oi := { dst := some 16, op := _, type := _, pos := _, after := _, guard := _ }) (v := undef) rfl (by kernel_rfl) (by kernel_rfl) (by kernel_rfl) (fun _ _ _ h => h) (Or.inr ⟨by rfl, rfl⟩) (by assumption) ?_
    (try simp only [Act.put, List.setIfInBounds_toArray, List.set_cons_zero, List.set_cons_succ])
    refine wpAnyH_take (i := 5) (oi := { dst := some 17, op := _, type := _, pos := _, after := _, guard := _ }) (v := undef) rfl (by kernel_rfl) (by kernel_rfl) (by kernel_rfl) (fun _ _ _ h => h) (Or.inr ⟨by rfl, rfl⟩) (by assumption) ?_
    (try simp only [Act.put, List.setIfInBounds_toArray, List.set_cons_zero, List.set_cons_succ])
    refine wpAnyH_take (i := 6) (oi := { dst := some 18, op := _, type := _, pos := _, after := _, guard := _ }) (v := undef) rfl (by kernel_rfl) (by kernel_rfl) (by kernel_rfl) (fun _ _ _ h => h) (Or.inr ⟨by rfl, rfl⟩) (by assumption) ?_
    (try simp only [Act.put, List.setIfInBounds_toArray, List.set_cons_zero, List.set_cons_succ])
    refine wpAnyH_take (i := 7) (oi := { dst := some 19, op := _, type := _, pos := _, after := _, guard := _ }) (v := undef) rfl (by kernel_rfl) (by kernel_rfl) (by kernel_rfl) (fun _ _ _ h => h) (Or.inr ⟨by rfl, rfl⟩) (by assumption) ?_
    (try simp only [Act.put, List.setIfInBounds_toArray, List.set_cons_zero, List.set_cons_succ])
    refine wpAnyH_take (i := 8) (oi := { dst := some 20, op := _, type := _, pos := _, after := _, guard := _ }) (v := undef) rfl (by kernel_rfl) (by kernel_rfl) (by kernel_rfl) (fun _ _ _ h => h) (Or.inr ⟨by rfl, rfl⟩) (by assumption) ?_
    (try simp only [Act.put, List.setIfInBounds_toArray, List.set_cons_zero, List.set_cons_succ])
    refine wpAnyH_take (i := 9) (oi := { dst := some 21, op := _, type := _, pos := _, after := _, guard := _ }) (v := undef) rfl (by kernel_rfl) (by kernel_rfl) (by kernel_rfl) (fun _ _ _ h => h) (Or.inr ⟨by rfl, rfl⟩) (by assumption) ?_
    (try simp only [Act.put, List.setIfInBounds_toArray, List.set_cons_zero, List.set_cons_succ])
    refine wpAnyH_take (i := 10) (oi := { dst := some 22, op := _, type := _, pos := _, after := _, guard := _ }) (v := undef) rfl (by kernel_rfl) (by kernel_rfl) (by kernel_rfl) (fun _ _ _ h => h) (Or.inr ⟨by rfl, rfl⟩) (by assumption) ?_
    (try simp only [Act.put, List.setIfInBounds_toArray, List.set_cons_zero, List.set_cons_succ])
    refine wpAnyH_take (i := 11) (oi := { dst := some 23, op := _, type := _, pos := _, after := _, guard := _ }) (v := .bool true) rfl (by kernel_rfl) (by kernel_rfl) (by kernel_rfl) (fun _ _ _ h => h) (Or.inl ⟨by rfl, ?_⟩) (by assumption) ?_
    · intro w' hSw; (try dsimp only at hSw); go_simp
    (try simp only [Act.put, List.setIfInBounds_toArray, List.set_cons_zero, List.set_cons_succ])
    refine wpAnyH_done (by kernel_rfl) ?_ _
    have HX : Hid (s.take t k g = { s with holds := alPut s.holds (t, k) g }) := by show _ = _; unfold AShard.take; rw [if_pos (by simp [hg])]
    obtain ⟨W3, hW3⟩ : ∃ W3, W3 = (W.alloc (.cells #[.int .u8 (g.way : Int), .string g.val] 189)).drew := ⟨_, rfl⟩
    have hf3 : Fr [] W W3 := by rw [hW3]; exact ((Fr.refl [] W).alloc _).drew
    obtain ⟨z0, z1, z2, z3, z4, z5⟩ := HS.out W3 hf3
    have hin3 := HIN.out.fr hf3 (by simp) (by simp) (by simp) (by simp)
    have HF3 : Hid (Fr [] W W3) := hf3
    rw [← hW3]
    clear hW3 hf3 hHeld z5
    obtain ⟨w5, hr5, hm5, hg5⟩ := (hin3.holds.fr (Fr.refl [] W3).drew (by simp)).putRun Tryz.underlying183 hn (k := (t, k)) ⟨ht, hk⟩ (v := g) trivial
    have hr5' : (Instr.mapUpdate 183 (.map (some bH)) (.agg #[.int .u64 (t : Int), .string k]) (.agg #[.int .u8 (g.way : Int), .string g.val])).run Tryz.prog W3.drew = .ok () w5 := hr5
    have hf5 : Fr [bH] W3 w5 := ((Fr.refl [bH] W3).drew).trans (Fr.of_grown1 hg5)
    have H5 : Hid (ShIn w5 sp lg bV bT bH (n + 1) { s with holds := alPut s.holds (t, k) g } ∧ Fr [bH] w w5) := ⟨hin3.setHolds hf5 hm5 (by omega), ((HFW.out.mono (by simp)).trans (HF3.out.mono (by simp))).trans hf5⟩
    clear hr5 hm5 hg5 hf5 hin3
    go_wp2
    go_region
    go_end0
    rw [HX.out]
    exact ⟨rfl, H5.out⟩
end Go.Proofs.YtejiankgafjppaaGreatDoor
/- SHARDS: refusal. -/
namespace Go.Proofs.YtejiankgafjppaaGreatDoor
open Go.RowKit Go.Maps
open Sc

theorem ShIn.lenT {w : World} {sp lg bV bT bH n : Nat} {s : AShard} (h : ShIn w sp lg bV bT bH n s) (ty : TypeId) : (Builtin.len_ #[182] ty #[.map (some bT)]).run Tryz.prog w = .ok (.int .i64 (s.txns.length : Int)) w :=
  h.txns.lenRun Tryz.underlying182 ty
/-- the first errors, those that need not look at what is held -/
def AShard.refuse1 (s : AShard) (t : Nat) (seq : Int) (k v : ByteArray) : Nat :=
  if t = 0 then 7 else if k.size < 1 ∨ 16 < k.size ∨ 32 < v.size then 1 else if (s.txn t).state = 3 ∨ seq ≠ ((s.txn t).done : Int) then 4 else if (s.txn t).state = 2 then 3 else if (s.txn t).state = 0 ∧ 12 ≤ s.txns.length then 5 else 0
set_option maxRecDepth 100000 in
set_option maxHeartbeats 4000000 in
theorem refusal_zero (sp lg bV bT bH n : Nat) (seq : Int) (k : ByteArray) (g : AGrip) (s : AShard) (w : World) (h : ShIn w sp lg bV bT bH n s) (hlg : 1 ≤ lg := by first | assumption | omega) :
    Calls Tryz.prog 192 #[.pointer (some ⟨sp, 0, none⟩), .int .u64 0, .int .i64 seq, .string k, .agg #[.int .u8 (g.way : Int), .string g.val]] w fun e w' => e = .returned (errN 7) ∧ Fr [] w w' := by
  have hl : ∀ W, Fr [] w W → (Instr.lookup 182 (.map (some bT)) (.int .u64 0) false).run Tryz.prog W = .ok (.agg #[.int .i64 ((s.txn 0).state : Int), .int .i64 ((s.txn 0).done : Int), .int .u64 ((s.txn 0).last : Int)]) W := fun W hW => (h.fr hW (by simp) (by simp) (by simp) (by simp)).lookT (t := 0) (by decide)
  have l1 := hl _ ((Fr.refl [] w).alloc (.cells #[.int .u8 (g.way : Int), .string g.val] 189))
  have c0 := blk_cell h.blk 0
  have c2 := blk_cell h.blk 2
  simp at c0 c2
  rw [lgP_pos hlg] at c0
  clear hlg
  have hsp := h.lts.1
  have z1 : ¬ sp = w.heap.size := by omega
  clear h hl
  go_enter Tryz.func192, Tryz.ntmps192
  go_wp2
  go_ret
  exact ⟨by rw [errN_no (by decide)]; rfl, ((Fr.refl [] w).alloc _).alloc _⟩
set_option maxRecDepth 100000 in
set_option maxHeartbeats 8000000 in
theorem refusal_first (sp lg bV bT bH n t : Nat) (seq : Int) (k : ByteArray) (g : AGrip) (s : AShard) (w : World) (h : ShIn w sp lg bV bT bH n s) (ht : t < 18446744073709551616) (h0 : t ≠ 0) (h5 : s.refuse1 t seq k g.val ≠ 5) (hr : s.refuse1 t seq k g.val ≠ 0) (hlg : 1 ≤ lg := by first | assumption | omega) :
    Calls Tryz.prog 192 #[.pointer (some ⟨sp, 0, none⟩), .int .u64 (t : Int), .int .i64 seq, .string k, .agg #[.int .u8 (g.way : Int), .string g.val]] w fun e w' => e = .returned (errN (s.refuse1 t seq k g.val)) ∧ Fr [] w w' := by
  have hl : ∀ W, Fr [] w W → (Instr.lookup 182 (.map (some bT)) (.int .u64 (t : Int)) false).run Tryz.prog W = .ok (.agg #[.int .i64 ((s.txn t).state : Int), .int .i64 ((s.txn t).done : Int), .int .u64 ((s.txn t).last : Int)]) W := fun W hW => (h.fr hW (by simp) (by simp) (by simp) (by simp)).lookT ht
  have l1 := hl _ ((Fr.refl [] w).alloc (.cells #[.int .u8 (g.way : Int), .string g.val] 189))
  have c0 := blk_cell h.blk 0
  have c2 := blk_cell h.blk 2
  simp at c0 c2
  rw [lgP_pos hlg] at c0
  clear hlg
  have hsp := h.lts.1
  have z1 : ¬ sp = w.heap.size := by omega
  have i0 : ¬ (t : Int) = 0 := by omega
  clear h hl
  have H5 : Hid (s.refuse1 t seq k g.val ≠ 5) := h5
  clear h5
  unfold AShard.refuse1 at hr ⊢
  rw [if_neg h0] at hr ⊢
  by_cases b1 : k.size < 1
  · rw [if_pos (.inl b1)]
    have j1 : (k.size : Int) < 1 := by omega
    clear hr
    go_enter Tryz.func192, Tryz.ntmps192
    go_wp2
    go_ret
    exact ⟨by rw [errN_no (by decide)]; rfl, ((Fr.refl [] w).alloc _).alloc _⟩
  · have j1 : ¬ (k.size : Int) < 1 := by omega
    by_cases b2 : 16 < k.size
    · rw [if_pos (.inr (.inl b2))]
      have j2 : (16 : Int) < (k.size : Int) := by omega
      clear hr
      go_enter Tryz.func192, Tryz.ntmps192
      go_wp2
      go_ret
      exact ⟨by rw [errN_no (by decide)]; rfl, ((Fr.refl [] w).alloc _).alloc _⟩
    · have j2 : ¬ (16 : Int) < (k.size : Int) := by omega
      by_cases b3 : 32 < g.val.size
      · rw [if_pos (.inr (.inr b3))]
        have j3 : (32 : Int) < (g.val.size : Int) := by omega
        clear hr
        go_enter Tryz.func192, Tryz.ntmps192
        go_wp2
        go_ret
        exact ⟨by rw [errN_no (by decide)]; rfl, ((Fr.refl [] w).alloc _).alloc _⟩
      · have j3 : ¬ (32 : Int) < (g.val.size : Int) := by omega
        have nb : ¬ (k.size < 1 ∨ 16 < k.size ∨ 32 < g.val.size) := by omega
        rw [if_neg nb] at hr ⊢
        have E5 : Hid ((s.txn t).state ≠ 3 → seq = ((s.txn t).done : Int) → (s.txn t).state ≠ 2 → ((s.txn t).state = 0 ∧ 12 ≤ s.txns.length) → False) := fun a b c d => H5.out (by unfold AShard.refuse1; rw [if_neg h0, if_neg nb, if_neg (by omega), if_neg c, if_pos d])
        clear b1 b2 b3 nb
        by_cases d1 : (s.txn t).state = 3
        · rw [if_pos (.inl d1)]
          have j4 : ((s.txn t).state : Int) = 3 := by omega
          clear hr d1
          go_enter Tryz.func192, Tryz.ntmps192
          go_wp2
          go_ret
          exact ⟨by rw [errN_no (by decide)]; rfl, ((Fr.refl [] w).alloc _).alloc _⟩
        · have j4 : ¬ ((s.txn t).state : Int) = 3 := by omega
          by_cases d2 : seq = ((s.txn t).done : Int)
          · rw [if_neg (by omega)] at hr ⊢
            by_cases d3 : (s.txn t).state = 2
            · rw [if_pos d3]
              have j5 : ((s.txn t).state : Int) = 2 := by omega
              clear hr d1 d3
              go_enter Tryz.func192, Tryz.ntmps192
              go_wp2
              go_ret
              exact ⟨by rw [errN_no (by decide)]; rfl, ((Fr.refl [] w).alloc _).alloc _⟩
            · rw [if_neg d3] at hr ⊢
              rw [if_neg (E5.out d1 d2 d3)] at hr
              exact absurd rfl hr
          · rw [if_pos (.inr d2)]
            have j5 : (seq != ((s.txn t).done : Int)) = true := by simp [d2]
            clear hr d1 d2
            go_enter Tryz.func192, Tryz.ntmps192
            go_wp2
            go_ret
            exact ⟨by rw [errN_no (by decide)]; rfl, ((Fr.refl [] w).alloc _).alloc _⟩
end Go.Proofs.YtejiankgafjppaaGreatDoor
/- SHARDS: refusal, whole. -/
namespace Go.Proofs.YtejiankgafjppaaGreatDoor
open Go.RowKit Go.Maps
open Sc

set_option maxRecDepth 100000 in
set_option maxHeartbeats 8000000 in
theorem refusal_many (sp lg bV bT bH n t : Nat) (seq : Int) (k : ByteArray) (g : AGrip) (s : AShard) (w : World) (h : ShIn w sp lg bV bT bH n s) (ht : t < 18446744073709551616) (h0 : t ≠ 0) (hb : ¬ (k.size < 1 ∨ 16 < k.size ∨ 32 < g.val.size)) (hst : (s.txn t).state = 0) (hsq : seq = ((s.txn t).done : Int)) (h12 : 12 ≤ s.txns.length) (hlg : 1 ≤ lg := by first | assumption | omega) :
    Calls Tryz.prog 192 #[.pointer (some ⟨sp, 0, none⟩), .int .u64 (t : Int), .int .i64 seq, .string k, .agg #[.int .u8 (g.way : Int), .string g.val]] w fun e w' => e = .returned (errN 5) ∧ Fr [] w w' := by
  have hl : ∀ W, Fr [] w W → (Instr.lookup 182 (.map (some bT)) (.int .u64 (t : Int)) false).run Tryz.prog W = .ok (.agg #[.int .i64 ((s.txn t).state : Int), .int .i64 ((s.txn t).done : Int), .int .u64 ((s.txn t).last : Int)]) W := fun W hW => (h.fr hW (by simp) (by simp) (by simp) (by simp)).lookT ht
  have l1 := hl _ ((Fr.refl [] w).alloc (.cells #[.int .u8 (g.way : Int), .string g.val] 189))
  have hn : ∀ W, Fr [] w W → ∀ ty, (Builtin.len_ #[182] ty #[.map (some bT)]).run Tryz.prog W = .ok (.int .i64 (s.txns.length : Int)) W := fun W hW ty => (h.fr hW (by simp) (by simp) (by simp) (by simp)).lenT ty
  have l2 := hn _ (((Fr.refl [] w).alloc (.cells #[.int .u8 (g.way : Int), .string g.val] 189)).alloc (.cells #[.int .i64 ((s.txn t).state : Int), .int .i64 ((s.txn t).done : Int), .int .u64 ((s.txn t).last : Int)] 196))
  have c0 := blk_cell h.blk 0
  have c2 := blk_cell h.blk 2
  simp at c0 c2
  rw [lgP_pos hlg] at c0
  clear hlg
  have hsp := h.lts.1
  have z1 : ¬ sp = w.heap.size := by omega
  have i0 : ¬ (t : Int) = 0 := by omega
  have j1 : ¬ (k.size : Int) < 1 := by omega
  have j2 : ¬ (16 : Int) < (k.size : Int) := by omega
  have j3 : ¬ (32 : Int) < (g.val.size : Int) := by omega
  have j4 : ((s.txn t).state : Int) = 0 := by omega
  have j6 : (12 : Int) ≤ (s.txns.length : Int) := by omega
  rw [j4] at l1 l2
  subst hsq
  clear h hl hn hb hst h12 j4
  go_enter Tryz.func192, Tryz.ntmps192
  go_wp2
  go_ret
  exact ⟨by rw [errN_no (by decide)]; rfl, ((Fr.refl [] w).alloc _).alloc _⟩

/-- how many keys a transaction holds -/
def AShard.count (s : AShard) (t : Nat) : Nat := (s.holds.filter fun p => decide (p.1.1 = t)).length
theorem once_keys {K V : Type} [DecidableEq K] {l : List (K × V)} (h : Once1 l) : (l.map (·.1)).Nodup := by
  unfold List.Nodup
  rw [List.pairwise_map]
  exact h
theorem AShard.count_of {s : AShard} {t : Nat} {L : List (ByteArray × AGrip)} (hs : Once1 s.holds) (hL : Once1 L) (h : ∀ k, alLook L k = alLook s.holds (t, k)) : L.length = s.count t := by
  have n1 := once_keys hL
  have n2 : ((s.holds.filter fun p => decide (p.1.1 = t)).map (·.1.2)).Nodup := by
    unfold List.Nodup
    rw [List.pairwise_map]
    refine (hs.filter _).imp_of_mem ?_
    intro a b ha hb hne e
    have ha2 := (List.mem_filter.1 ha).2
    have hb2 := (List.mem_filter.1 hb).2
    simp at ha2 hb2
    exact hne (Prod.ext (ha2.trans hb2.symm) e)
  have hp : (L.map (·.1)).Perm ((s.holds.filter fun p => decide (p.1.1 = t)).map (·.1.2)) := by
    rw [List.perm_ext_iff_of_nodup n1 n2]
    intro k
    constructor
    · intro hk
      obtain ⟨p, hp, rfl⟩ := List.mem_map.1 hk
      have := alLook_of hL (k := p.1) (v := p.2) hp
      rw [h] at this
      exact List.mem_map.2 ⟨_, List.mem_filter.2 ⟨alLook_mem this, by simp⟩, rfl⟩
    · intro hk
      obtain ⟨p, hp, rfl⟩ := List.mem_map.1 hk
      obtain ⟨hp1, hp2⟩ := List.mem_filter.1 hp
      simp at hp2
      have : alLook s.holds (t, p.1.2) = some p.2 := alLook_of hs (by rw [← hp2]; exact hp1)
      rw [← h] at this
      exact List.mem_map.2 ⟨_, alLook_mem this, rfl⟩
  have := hp.length_eq
  simpa [AShard.count] using this
/-- the last error: a fifth key -/
def AShard.refuse2 (s : AShard) (t : Nat) (k : ByteArray) : Nat := if (alLook s.holds (t, k)).isSome = false ∧ 4 ≤ s.count t then 5 else 0
set_option maxRecDepth 100000 in
set_option maxHeartbeats 8000000 in
theorem refusal_rest (sp lg bV bT bH n t : Nat) (seq : Int) (k : ByteArray) (g : AGrip) (s : AShard) (w : World) (h : ShIn w sp lg bV bT bH n s) (ht : t < 18446744073709551616) (h0 : t ≠ 0) (hb : ¬ (k.size < 1 ∨ 16 < k.size ∨ 32 < g.val.size)) (hst : (s.txn t).state = 0 ∨ (s.txn t).state = 1) (hsq : seq = ((s.txn t).done : Int)) (h12 : (s.txn t).state = 0 → s.txns.length < 12) (hn : n < maxLen) (hlg : 1 ≤ lg := by first | assumption | omega) :
    Calls Tryz.prog 192 #[.pointer (some ⟨sp, 0, none⟩), .int .u64 (t : Int), .int .i64 seq, .string k, .agg #[.int .u8 (g.way : Int), .string g.val]] w fun e w' => e = .returned (errN (s.refuse2 t k)) ∧ Fr [] w w' := by
  have hkm : k.size ≤ maxLen := by unfold maxLen; omega
  obtain ⟨W, hW⟩ : ∃ W, W = (w.alloc (.cells #[.int .u8 (g.way : Int), .string g.val] 189)).alloc (.cells #[.int .i64 ((s.txn t).state : Int), .int .i64 ((s.txn t).done : Int), .int .u64 ((s.txn t).last : Int)] 196) := ⟨_, rfl⟩
  have hfW : Fr [] w W := by rw [hW]; exact ((Fr.refl [] w).alloc _).alloc _
  have hinW := h.fr hfW (by simp) (by simp) (by simp) (by simp)
  have hl : ∀ W, Fr [] w W → (Instr.lookup 182 (.map (some bT)) (.int .u64 (t : Int)) false).run Tryz.prog W = .ok (.agg #[.int .i64 ((s.txn t).state : Int), .int .i64 ((s.txn t).done : Int), .int .u64 ((s.txn t).last : Int)]) W := fun W hW => (h.fr hW (by simp) (by simp) (by simp) (by simp)).lookT ht
  have l1 := hl _ ((Fr.refl [] w).alloc (.cells #[.int .u8 (g.way : Int), .string g.val] 189))
  have l2 := hinW.lenT
  have hho := holdsOf_any sp lg bV bT bH n t s W hinW ht hn
  have HO : Hid (Once1 s.holds) := by obtain ⟨_, _, _, h3, _⟩ := h.holds; exact h3
  rw [hW] at l2 hho
  have HFW : Hid (Fr [] w ((w.alloc (.cells #[.int .u8 (g.way : Int), .string g.val] 189)).alloc (.cells #[.int .i64 ((s.txn t).state : Int), .int .i64 ((s.txn t).done : Int), .int .u64 ((s.txn t).last : Int)] 196))) := by rw [← hW]; exact hfW
  have c0 := blk_cell h.blk 0
  have c2 := blk_cell h.blk 2
  simp at c0 c2
  rw [lgP_pos hlg] at c0
  clear hlg
  have hsp := h.lts.1
  have z1 : ¬ sp = w.heap.size := by omega
  have i0 : ¬ (t : Int) = 0 := by omega
  have j1 : ¬ (k.size : Int) < 1 := by omega
  have j2 : ¬ (16 : Int) < (k.size : Int) := by omega
  have j3 : ¬ (32 : Int) < (g.val.size : Int) := by omega
  subst hsq
  clear h hl hb hinW hfW hW
  rcases hst with hst | hst
  · have j4 : ((s.txn t).state : Int) = 0 := by omega
    have j6 : ¬ (12 : Int) ≤ (s.txns.length : Int) := by have := h12 hst; omega
    rw [j4] at l1 l2 hho HFW
    clear hst h12 j4
    go_enter Tryz.func192, Tryz.ntmps192
    go_wp2_with fail
    refine hho.mono ?_
    clear hho
    rintro e w1 ⟨b, L, rfl, hb, hL, hlk, hf1⟩
    have HC : Hid (L.length = s.count t) := AShard.count_of HO.out (by obtain ⟨_, _, _, h3, _⟩ := hL; exact h3) hlk
    have q1 := hL.lookOk Tryz.underlying267 (zeroGrip w1) trivial (k := k) hkm
    rw [hlk k] at q1
    have HF : Hid (Fr [] w w1) := HFW.out.trans hf1
    have HM : Hid (MapAs KS EG w1 b n L) := hL
    obtain ⟨G, hG⟩ : ∃ G, G = (alLook s.holds (t, k)).getD ⟨0, ByteArray.empty⟩ := ⟨_, rfl⟩
    rw [← hG] at q1
    have q1' : (Instr.lookup 267 (.map (some b)) (.string k) true).run Tryz.prog w1 = .ok (.tuple #[.agg #[.int .u8 (G.way : Int), .string G.val], .bool (alLook s.holds (t, k)).isSome]) w1 := q1
    have q2 : ∀ ty, (Builtin.len_ #[267] ty #[.map (some b)]).run Tryz.prog (w1.alloc (.cells #[.int .u8 (G.way : Int), .string G.val] 189)) = .ok (.int .i64 (s.count t : Int)) (w1.alloc (.cells #[.int .u8 (G.way : Int), .string G.val] 189)) := fun ty => by
      rw [← HC.out]; exact (HM.out.fr ((Fr.refl [] w1).alloc _) (by simp)).lenRun Tryz.underlying267 ty
    clear hL hlk hf1 q1 hG l1 l2 c0 c2
    cases hO : (alLook s.holds (t, k)).isSome with
    | true =>
      rw [hO] at q1'
      have HR : Hid (s.refuse2 t k = 0) := by show _ = _; unfold AShard.refuse2; rw [if_neg (by simp [hO])]
      clear hO
      go_wp2
      go_ret
      rw [HR.out]
      exact ⟨rfl, HF.out.alloc _⟩
    | false =>
      rw [hO] at q1'
      by_cases h4 : 4 ≤ s.count t
      · have HR : Hid (s.refuse2 t k = 5) := by show _ = _; unfold AShard.refuse2; rw [if_pos ⟨hO, h4⟩]
        have j7 : (4 : Int) ≤ (s.count t : Int) := by omega
        clear hO h4
        go_wp2
        go_ret
        rw [HR.out]
        exact ⟨by rw [errN_no (by decide)]; rfl, HF.out.alloc _⟩
      · have HR : Hid (s.refuse2 t k = 0) := by show _ = _; unfold AShard.refuse2; rw [if_neg (by omega)]
        have j7 : ¬ (4 : Int) ≤ (s.count t : Int) := by omega
        clear hO h4
        go_wp2
        go_ret
        rw [HR.out]
        exact ⟨rfl, HF.out.alloc _⟩
  · have j4 : ((s.txn t).state : Int) = 1 := by omega
    rw [j4] at l1 l2 hho HFW
    clear hst h12 j4
    go_enter Tryz.func192, Tryz.ntmps192
    go_wp2_with fail
    refine hho.mono ?_
    clear hho
    rintro e w1 ⟨b, L, rfl, hb, hL, hlk, hf1⟩
    have HC : Hid (L.length = s.count t) := AShard.count_of HO.out (by obtain ⟨_, _, _, h3, _⟩ := hL; exact h3) hlk
    have q1 := hL.lookOk Tryz.underlying267 (zeroGrip w1) trivial (k := k) hkm
    rw [hlk k] at q1
    have HF : Hid (Fr [] w w1) := HFW.out.trans hf1
    have HM : Hid (MapAs KS EG w1 b n L) := hL
    obtain ⟨G, hG⟩ : ∃ G, G = (alLook s.holds (t, k)).getD ⟨0, ByteArray.empty⟩ := ⟨_, rfl⟩
    rw [← hG] at q1
    have q1' : (Instr.lookup 267 (.map (some b)) (.string k) true).run Tryz.prog w1 = .ok (.tuple #[.agg #[.int .u8 (G.way : Int), .string G.val], .bool (alLook s.holds (t, k)).isSome]) w1 := q1
    have q2 : ∀ ty, (Builtin.len_ #[267] ty #[.map (some b)]).run Tryz.prog (w1.alloc (.cells #[.int .u8 (G.way : Int), .string G.val] 189)) = .ok (.int .i64 (s.count t : Int)) (w1.alloc (.cells #[.int .u8 (G.way : Int), .string G.val] 189)) := fun ty => by
      rw [← HC.out]; exact (HM.out.fr ((Fr.refl [] w1).alloc _) (by simp)).lenRun Tryz.underlying267 ty
    clear hL hlk hf1 q1 hG l1 l2 c0 c2
    cases hO : (alLook s.holds (t, k)).isSome with
    | true =>
      rw [hO] at q1'
      have HR : Hid (s.refuse2 t k = 0) := by show _ = _; unfold AShard.refuse2; rw [if_neg (by simp [hO])]
      clear hO
      go_wp2
      go_ret
      rw [HR.out]
      exact ⟨rfl, HF.out.alloc _⟩
    | false =>
      rw [hO] at q1'
      by_cases h4 : 4 ≤ s.count t
      · have HR : Hid (s.refuse2 t k = 5) := by show _ = _; unfold AShard.refuse2; rw [if_pos ⟨hO, h4⟩]
        have j7 : (4 : Int) ≤ (s.count t : Int) := by omega
        clear hO h4
        go_wp2
        go_ret
        rw [HR.out]
        exact ⟨by rw [errN_no (by decide)]; rfl, HF.out.alloc _⟩
      · have HR : Hid (s.refuse2 t k = 0) := by show _ = _; unfold AShard.refuse2; rw [if_neg (by omega)]
        have j7 : ¬ (4 : Int) ≤ (s.count t : Int) := by omega
        clear hO h4
        go_wp2
        go_ret
        rw [HR.out]
        exact ⟨rfl, HF.out.alloc _⟩
end Go.Proofs.YtejiankgafjppaaGreatDoor
