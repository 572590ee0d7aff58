import Derived.Test.YtfkoflldjnlhaaaDoorOnce
/- THE CLOSURE THAT FILLS THE TABLE; sync.Once.Do with it. -/
namespace Go.Proofs.YtfkoflldjnlhaaaDoor
open Go.RowKit
open Sc

/-- a sum maker in block b: its Once free, done or not; its table filled, if it is done -/
structure Maker (w : World) (b : Nat) (done : Bool) : Prop where
  c0 : w.cell? ⟨b, 0, none⟩ = some (.int .u32 (if done then 1 else 0))
  c1 : w.cell? ⟨b, 1, none⟩ = some (.int .i32 0)
  tab : done = true → ∀ i, i < 256 → w.cell? ⟨b, 3 + i, none⟩ = some (.int .u32 (halves 8 i : Nat))
  any : ∀ i, i < 256 → ∃ v, w.cell? ⟨b, 3 + i, none⟩ = some v
  free : ∀ i, w.frozen? ⟨b, i, none⟩ = false

theorem turned_int (c : Int) (C : Nat) (w : World) (hc : c = C) (hC : C < 4294967296) :
    Calls Tryd.prog 66 #[.int .u32 c] w fun e w' => e = .returned (.int .u32 (halves 8 C : Nat)) ∧ w' = w := by subst hc; exact turned_any C w hC

set_option maxRecDepth 100000 in
set_option maxHeartbeats 1600000 in
theorem fill_any (b : Nat) (pl : Addr) (hpb : ¬ pl.block = b) (w : World) (hp : w.cell? pl = some (.pointer (some ⟨b, 0, none⟩)))
    (hany : ∀ i, i < 256 → ∃ v, w.cell? ⟨b, 3 + i, none⟩ = some v) (hfree : ∀ i, w.frozen? ⟨b, i, none⟩ = false) :
    Calls Tryd.prog 65 #[.pointer (some pl)] w fun e w' => e = .returned (.tuple #[]) ∧ w.grownBy w' (some b) ∧
      (∀ i, i < 3 → w'.cell? ⟨b, i, none⟩ = w.cell? ⟨b, i, none⟩) ∧ (∀ i, w'.frozen? ⟨b, i, none⟩ = false) ∧ (∀ i, i < 256 → w'.cell? ⟨b, 3 + i, none⟩ = some (.int .u32 (halves 8 i : Nat))) := by
  go_enter Tryd.func65, Tryd.ntmps65
  go_wp2
  go_loopw [2] (fun i wr => ∃ k : Nat, k ≤ 256 ∧ i = .int .i64 k ∧ w.grownBy wr (some b) ∧ (∀ i, i < 3 → wr.cell? ⟨b, i, none⟩ = w.cell? ⟨b, i, none⟩) ∧ (∀ i, wr.frozen? ⟨b, i, none⟩ = false) ∧ (∀ i, i < k → wr.cell? ⟨b, 3 + i, none⟩ = some (.int .u32 (halves 8 i : Nat))) ∧ (∀ i, i < 256 → ∃ v, wr.cell? ⟨b, 3 + i, none⟩ = some v))
    (fun i _ => 256 - (intOf i).toNat)
  case atStart => exact ⟨0, Nat.zero_le _, rfl, grown_refl _ _, fun _ _ => rfl, hfree, fun i hi => absurd hi (Nat.not_lt_zero i), hany⟩
  case round =>
    obtain ⟨k, hk, rfl, hgr, hlow, hfr, htab, hall⟩ := hrel
    have hpr : wr.cell? pl = some (.pointer (some ⟨b, 0, none⟩)) := (grown_cell hgr hpb (World.block_lt_of_cell? w pl hp)).trans hp
    by_cases hlt : k < 256
    · obtain ⟨old, hold⟩ := hall k hlt
      have hfk := hfr (3 + k)
      have hpb' : ¬ b = pl.block := fun h => hpb h.symm
      have i1 : (0 : Int) ≤ (k : Int) := by omega
      have i2 : (k : Int) < 256 := by omega
      have HG : Hid (w.grownBy wr (some b)) := hgr
      have HLow : Hid (∀ i, i < 3 → wr.cell? ⟨b, i, none⟩ = w.cell? ⟨b, i, none⟩) := hlow
      have HF : Hid (∀ i, wr.frozen? ⟨b, i, none⟩ = false) := hfr
      have HT : Hid (∀ i, i < k → wr.cell? ⟨b, 3 + i, none⟩ = some (.int .u32 (halves 8 i : Nat))) := htab
      have HA : Hid (∀ i, i < 256 → ∃ v, wr.cell? ⟨b, 3 + i, none⟩ = some v) := hall
      clear hgr hlow hfr htab hall hany hfree hp
      go_wp2
      go_region_held3 (fun w' => w'.cell? pl = some (.pointer (some ⟨b, 0, none⟩)))
        (go_keep)
        (first | (go_at_call 66; refine (turned_int _ k _ ?_ (by omega)).mono ?_; (rw [IntKind.wrap_u32']; omega); rintro e w' ⟨rfl, rfl⟩))
      go_wp2
      go_roundw
      case rel =>
        refine ⟨k + 1, by omega, by go_num, grown_drew (grown_trans HG.out (grown_set _ _ _ _)), fun i hi => ?_, fun i => ?_, fun i hi => ?_, fun i hi => ?_⟩
        · rw [World.cell?_drew, World.cell?_setCell_other _ _ _ _ (by simp <;> omega)]; exact HLow.out i hi
        · rw [World.frozen?_drew, World.frozen?_setCell]; exact HF.out i
        · rw [World.cell?_drew]
          by_cases e : i = k
          · subst e; exact World.cell?_setCell_same _ _ _ hold
          · rw [World.cell?_setCell_other _ _ _ _ (by simp <;> omega)]; exact HT.out i (by omega)
        · rw [World.cell?_drew]
          by_cases e : i = k
          · subst e; exact ⟨_, World.cell?_setCell_same _ _ _ hold⟩
          · rw [World.cell?_setCell_other _ _ _ _ (by simp <;> omega)]; exact HA.out i hi
      case measure => simp [intOf]; omega
    · have ek : k = 256 := by omega
      subst ek
      go_wp2
      go_end0
      exact ⟨rfl, hgr, hlow, hfr, htab⟩

theorem maker_done (w : World) (b : Nat) (k0 : w.cell? ⟨b, 0, none⟩ = some (.int .u32 0)) (k1 : w.cell? ⟨b, 1, none⟩ = some (.int .i32 1)) (hf : ∀ i, w.frozen? ⟨b, i, none⟩ = false)
    (ht : ∀ i, i < 256 → w.cell? ⟨b, 3 + i, none⟩ = some (.int .u32 (halves 8 i : Nat))) : Maker ((w.drew.setCell ⟨b, 0, none⟩ (.int .u32 1)).setCell ⟨b, 1, none⟩ (.int .i32 0)) b true := by
  have tb : ∀ i, i < 256 → ((w.drew.setCell ⟨b, 0, none⟩ (.int .u32 1)).setCell ⟨b, 1, none⟩ (.int .i32 0)).cell? ⟨b, 3 + i, none⟩ = some (.int .u32 (halves 8 i : Nat)) := fun i hi => by
    rw [World.cell?_setCell_other _ _ _ _ (by simp <;> omega), World.cell?_setCell_other _ _ _ _ (by simp <;> omega), World.cell?_drew]; exact ht i hi
  refine ⟨?_, ?_, fun _ => tb, fun i hi => ⟨_, tb i hi⟩, fun i => ?_⟩
  · rw [World.cell?_setCell_other _ _ _ _ (by simp)]
    exact World.cell?_setCell_same _ _ _ ((World.cell?_drew _ _).trans k0)
  · refine World.cell?_setCell_same (u := .int .i32 1) _ _ _ ?_
    rw [World.cell?_setCell_other _ _ _ _ (by simp), World.cell?_drew]; exact k1
  · rw [World.frozen?_setCell, World.frozen?_setCell, World.frozen?_drew]; exact hf i

set_option maxRecDepth 100000 in
set_option maxHeartbeats 1600000 in
theorem slow_any (b : Nat) (pl : Addr) (hpb : ¬ pl.block = b) (w : World) (hp : w.cell? pl = some (.pointer (some ⟨b, 0, none⟩))) (hm : Maker w b false) :
    Calls Tryd.prog 68 #[.pointer (some ⟨b, 0, none⟩), .func (.func 65) #[] #[.pointer (some pl)]] w fun e w' => e = .returned (.tuple #[]) ∧ Maker w' b true ∧ w.grownBy w' (some b) := by
  have h0 : w.cell? ⟨b, 0, none⟩ = some (.int .u32 0) := hm.c0
  have h1 := hm.c1
  have f0 := hm.free 0
  have f1 := hm.free 1
  have HM : Hid (Maker w b false) := hm
  clear hm
  have hl := run_call_load (P := Tryd.prog) Tryd.func69 (by kernel_rfl) (by kernel_rfl) (by kernel_rfl) .u32 (by kernel_rfl) (w := w.setCell ⟨b, 1, none⟩ (.int .i32 1)) (a := ⟨b, 0, none⟩) (x := 0) ((World.cell?_setCell_other _ ⟨b, 1, none⟩ ⟨b, 0, none⟩ _ (by simp)).trans h0)
  have HP1 : Hid ((w.setCell ⟨b, 1, none⟩ (.int .i32 1)).cell? pl = some (.pointer (some ⟨b, 0, none⟩))) := (World.cell?_setCell_other _ ⟨b, 1, none⟩ pl _ (fun h => hpb (by rw [← h]))).trans hp
  have hnot : ∀ (x : Bool) (w : World), (Op.unary .not (.bool x)).run Tryd.prog w = .ok (.bool (!x)) w := fun _ _ => rfl
  go_enter_defers Tryd.func68, Tryd.ntmps68
  go_wp2_with (first | (go_at_call 70; refine (lock_free ⟨b, 1, none⟩ _ (by go_simp) (by go_simp)).mono ?_; rintro e w' ⟨rfl, rfl⟩) | (go_at_call 67; go_in))
  refine (fill_any b pl hpb _ HP1.out (fun i hi => ?_) (fun i => ?_)).mono ?_
  · obtain ⟨v, hv⟩ := HM.out.any i hi
    exact ⟨v, (World.cell?_setCell_other _ ⟨b, 1, none⟩ ⟨b, 3 + i, none⟩ _ (by simp <;> omega)).trans hv⟩
  · rw [World.frozen?_setCell]; exact HM.out.free i
  rintro e w1 ⟨rfl, hgr, hlow, hfr, htab⟩
  have k0 : w1.cell? ⟨b, 0, none⟩ = some (.int .u32 0) := (hlow 0 (by omega)).trans ((World.cell?_setCell_other _ ⟨b, 1, none⟩ ⟨b, 0, none⟩ _ (by simp)).trans h0)
  have k1 : w1.cell? ⟨b, 1, none⟩ = some (.int .i32 1) := (hlow 1 (by omega)).trans (World.cell?_setCell_same _ _ _ h1)
  have g0 := hfr 0
  have g1 := hfr 1
  have HG : Hid ((w.setCell ⟨b, 1, none⟩ (.int .i32 1)).grownBy w1 (some b)) := hgr
  have HF : Hid (∀ i, w1.frozen? ⟨b, i, none⟩ = false) := hfr
  have HT : Hid (∀ i, i < 256 → w1.cell? ⟨b, 3 + i, none⟩ = some (.int .u32 (halves 8 i : Nat))) := htab
  clear hgr hlow hfr htab
  go_wp2
  refine leaves_cons (f := 72) (args := #[.pointer (some ⟨b, 0, none⟩), .bool true]) (by simp) (by simp [go_sem]) ?_
  refine (store_deferred ⟨b, 0, none⟩ (.int .u32 0) .returning _ k0 g0).mono ?_
  rintro e u' w'' ⟨rfl, rfl, rfl⟩
  refine leaves_cons (f := 71) (args := #[.pointer (some ⟨b, 1, none⟩)]) (by simp [settle]) (by simp [go_sem]) ?_
  refine (unlock_deferred ⟨b, 1, none⟩ _ _ ?_ (by simp [g1])).mono ?_
  · refine (World.cell?_setCell_other _ ⟨b, 0, none⟩ ⟨b, 1, none⟩ _ (by simp)).trans ?_
    rw [World.cell?_drew]
    exact k1
  rintro e u' w'' ⟨rfl, rfl, rfl⟩
  simp only [Leaves, settle]
  refine ⟨.tuple #[], by simp [results, Tryd.results68], rfl, ?_, ?_⟩
  · exact maker_done w1 b k0 k1 HF.out HT.out
  · exact grown_trans (grown_set _ _ _ _) (grown_trans (grown_trans (grown_drew HG.out) (grown_set _ _ _ _)) (grown_set _ _ _ _))

set_option maxRecDepth 100000 in
set_option maxHeartbeats 1600000 in
theorem do_first (b : Nat) (pl : Addr) (hpb : ¬ pl.block = b) (w : World) (hp : w.cell? pl = some (.pointer (some ⟨b, 0, none⟩))) (hm : Maker w b false) :
    Calls Tryd.prog 64 #[.pointer (some ⟨b, 0, none⟩), .func (.func 65) #[] #[.pointer (some pl)]] w fun e w' => e = .returned (.tuple #[]) ∧ Maker w' b true ∧ w.grownBy w' (some b) := by
  have h0 : w.cell? ⟨b, 0, none⟩ = some (.int .u32 0) := hm.c0
  have hl := run_call_load (P := Tryd.prog) Tryd.func69 (by kernel_rfl) (by kernel_rfl) (by kernel_rfl) .u32 (by kernel_rfl) h0
  have hnot : ∀ (x : Bool) (w : World), (Op.unary .not (.bool x)).run Tryd.prog w = .ok (.bool (!x)) w := fun _ _ => rfl
  go_enter Tryd.func64, Tryd.ntmps64
  go_wp2_with (first | (go_at_call 68; refine (slow_any b pl hpb _ hp hm).mono ?_; rintro e w' ⟨rfl, hm', hgr⟩) | (go_at_call 67; go_in))
  go_end0
  exact ⟨rfl, by assumption, by assumption⟩

theorem do_done (b : Nat) (fv : Value) (w : World) (hm : Maker w b true) :
    Calls Tryd.prog 64 #[.pointer (some ⟨b, 0, none⟩), fv] w fun e w' => e = .returned (.tuple #[]) ∧ w' = w := by
  have h0 : w.cell? ⟨b, 0, none⟩ = some (.int .u32 1) := hm.c0
  have hl := run_call_load (P := Tryd.prog) Tryd.func69 (by kernel_rfl) (by kernel_rfl) (by kernel_rfl) .u32 (by kernel_rfl) h0
  have hnot : ∀ (x : Bool) (w : World), (Op.unary .not (.bool x)).run Tryd.prog w = .ok (.bool (!x)) w := fun _ _ => rfl
  go_enter Tryd.func64, Tryd.ntmps64
  go_wp2
  go_end0
  exact ⟨rfl, rfl⟩
end Go.Proofs.YtfkoflldjnlhaaaDoor
