import Derived.Test.YtfkoflldjnlhaaaDoorWireMsg2
/- DecodeMessage in package wire. -/
namespace Go.Proofs.YtfkoflldjnlhaaaDoor
open Go.RowKit
open Sc

set_option maxHeartbeats 400000 in
theorem decode_len (ao : Option Addr) (n cap : Nat) (w : World) (hn : n ≠ 15) :
    Calls Tryd.prog 31 #[.slice ao n cap] w fun e w' => e = .returned (.tuple #[.agg #[.int .i64 0, .int .i64 0, .int .i64 0, .int .u64 0], .iface 24 (.int .i64 2)]) ∧ Below w.heap.size w w' := by
  have hn' : (((n : Int)) != 15) = true := by simp; omega
  go_enter Tryd.func31, Tryd.ntmps31
  go_wp2
  exact bodyPost_ret (v := .tuple #[.agg #[.int .i64 0, .int .i64 0, .int .i64 0, .int .u64 0], .iface 24 (.int .i64 2)]) (by simp [results, Tryd.results31, go_sem]) rfl ⟨rfl, (Below.refl _ _).alloc (Nat.le_refl _) _⟩

theorem maker_new (w : World) : Maker (w.alloc (.cells Tryd.zeroCells80 80)) w.heap.size false := by
  have e : ∀ i, (w.alloc (.cells Tryd.zeroCells80 80)).cell? ⟨w.heap.size, i, none⟩ = Tryd.zeroCells80[i]? := fun i => World.cell?_alloc_new w _ _ i
  have hs : Tryd.zeroCells80.size = 259 := by kernel_rfl
  refine ⟨?_, ?_, fun h => absurd h (by decide), fun i hi => ?_, fun i => ?_⟩
  · rw [e]; kernel_rfl
  · rw [e]; kernel_rfl
  · rw [e]; exact ⟨_, Array.getElem?_eq_getElem (by rw [hs]; omega)⟩
  · exact World.frozen?_alloc_new w _ _ i

theorem below4 {w w2 : World} (h : Below w.heap.size w w2) (hz : w.heap.size < w2.heap.size) (a b c d : Value) (o p : Obj) :
    Below w.heap.size w ((((((w2.setCell ⟨w.heap.size, 0, none⟩ a).setCell ⟨w.heap.size, 1, none⟩ b).setCell ⟨w.heap.size, 2, none⟩ c).setCell ⟨w.heap.size, 3, none⟩ d).alloc o).alloc p) := by
  refine Below.alloc (Below.alloc ((((h.setCell (Nat.le_refl _) _).setCell (Nat.le_refl _) _).setCell (Nat.le_refl _) _).setCell (Nat.le_refl _) _) ?_ _) ?_ _
  · simp [World.setCell]; omega
  · simp [World.setCell]; omega
/-- the error that stands beside what is read -/
def errV (b : Bool) : Value := if b = true then .nilIface else .iface 24 (.int .i64 2)
theorem errV_yes : errV true = .nilIface := rfl
theorem errV_no : errV false = .iface 24 (.int .i64 2) := rfl
theorem sealed_15 {l : List Nat} (hl : l.length = 15) : sealed l = (crc (l.take 11) == val (l.drop 11)) := by unfold sealed; rw [hl]

set_option maxRecDepth 100000 in
set_option maxHeartbeats 1000000 in
theorem decode_15 (g off cap : Nat) (l : List Nat) (w : World) (hl : l.length = 15) (hb : Byt l) (hcap : 15 ≤ cap) (hcap2 : cap ≤ maxLen) (hrow : RowAt w g off l) :
    Calls Tryd.prog 31 #[.slice (some ⟨g, off, none⟩) 15 cap] w fun e w' => e = .returned (.tuple #[readV l, errV (msgOk l)]) ∧ Below w.heap.size w w' := by
  have hnot : ∀ (x : Bool) (w : World), (Op.unary .not (.bool x)).run Tryd.prog w = .ok (.bool (!x)) w := fun _ _ => rfl
  have hlt := hrow.lt (by omega)
  have HL : Hid (l.length = 15) := hl
  have HR0 : Hid (RowAt w g off l) := hrow
  have HR : Hid (RowAt ((w.alloc (msgO 0 0 0 0)).alloc (.cells Tryd.zeroCells80 80)) g off l) := (RowAt_alloc (by simp; omega)).2 ((RowAt_alloc hlt).2 hrow)
  have HM : Hid (Maker ((w.alloc (msgO 0 0 0 0)).alloc (.cells Tryd.zeroCells80 80)) (w.heap.size + 1) false) := by
    have := maker_new (w.alloc (msgO 0 0 0 0)); rw [World.size_alloc] at this; exact this
  clear hl hrow
  go_enter Tryd.func31, Tryd.ntmps31
  go_wp2_with fail
  refine (unseal_any (w.heap.size + 1) g off 15 cap false l _ HM.out (by omega) HL.out hb (by omega) (by omega) hcap hcap2 HR.out).mono ?_
  rintro e w1 ⟨rfl, hm1, hg1⟩
  have hB1 : Below (w.heap.size + 1) (w.alloc (msgO 0 0 0 0)) w1 := ((Below.refl _ _).alloc (by simp) _).grown hg1 (by simp) (fun q hq => by cases hq; exact Nat.le_refl _)
  have HB1 : Hid (Below w.heap.size w w1) := ((Below.refl _ _).alloc (Nat.le_refl _) _).trans (hB1.mono (by omega))
  have hc1 : ∀ i, w1.cell? ⟨w.heap.size, i, none⟩ = (w.alloc (msgO 0 0 0 0)).cell? ⟨w.heap.size, i, none⟩ := fun i => hB1.cell (p := ⟨w.heap.size, i, none⟩) (by simp)
  have hf1 : ∀ i, w1.frozen? ⟨w.heap.size, i, none⟩ = false := fun i => by rw [hB1.frozen (p := ⟨w.heap.size, i, none⟩) (by simp)]; simp
  have hz1 : w.heap.size < w1.heap.size := by have := hB1.size; simp at this; omega
  have HR1 : Hid (RowAt w1 g off l) := row_grown HR.out hg1 (by omega)
  clear hm1 hg1 hB1
  have hsl : sealed l = (crc (l.take 11) == val (l.drop 11)) := sealed_15 HL.out
  rcases Bool.eq_false_or_eq_true (sealed l) with hs | hs
  · rw [unsV_yes hs, hs]
    have HS : Hid (sealed l = true) := hs
    rw [hsl] at hs
    have HS2 : Hid ((crc (l.take 11) == val (l.drop 11)) = true) := hs
    clear hs hsl
    go_wp2_with fail
    refine (readMessage_any g off (l.take 11) _ (by rw [List.length_take, HL.out]; rfl) (hb.take_ 11) (fun i hi => ?_)).mono ?_
    · rw [List.length_take, HL.out] at hi
      rw [at_take l 11 i (by omega)]; exact HR1.out i (by rw [HL.out]; omega)
    rintro e w2 ⟨rfl, hb2⟩
    rw [at_take l 11 0 (by omega), at_take l 11 1 (by omega), at_take l 11 2 (by omega), show (l.take 11).drop 3 = (l.drop 3).take 8 by rw [List.drop_take]]
    rw [show val ((l.drop 3).take 8) = msgTxn l from rfl]
    have hc2 : ∀ i, w2.cell? ⟨w.heap.size, i, none⟩ = (w.alloc (msgO 0 0 0 0)).cell? ⟨w.heap.size, i, none⟩ := fun i => (hb2.cell (p := ⟨w.heap.size, i, none⟩) hz1).trans (hc1 i)
    have hf2 : ∀ i, w2.frozen? ⟨w.heap.size, i, none⟩ = false := fun i => (hb2.frozen (p := ⟨w.heap.size, i, none⟩) hz1).trans (hf1 i)
    have hz2 : w.heap.size < w2.heap.size := Nat.lt_of_lt_of_le hz1 hb2.size
    have HB2 : Hid (Below w.heap.size w w2) := HB1.out.trans (hb2.mono (by omega))
    clear hb2 hc1 hf1
    go_wp2_with fail
    refine (isMessage_any _ _ _ _ _).mono ?_
    rintro e w3 ⟨rfl, rfl⟩
    rcases Bool.eq_false_or_eq_true (soundB (at_ l 0) (at_ l 1) (at_ l 2) (msgTxn l)) with hsn | hsn
    · have ho : msgOk l = true := by unfold msgOk; rw [hsn, HS2.out]; rfl
      have HO : Hid (msgOk l = true) := ho
      clear ho
      go_wp2
      rw [readV_yes HO.out, HO.out, errV_yes]
      exact bodyPost_ret (v := .tuple #[.agg #[.int .i64 (at_ l 0 : Nat), .int .i64 (at_ l 1 : Nat), .int .i64 (at_ l 2 : Nat), .int .u64 (msgTxn l : Nat)], .nilIface]) (by simp [results, Tryd.results31, go_sem, hc2, hz2]) rfl ⟨rfl, below4 HB2.out hz2 _ _ _ _ _ _⟩
    · have ho : msgOk l = false := by unfold msgOk; rw [hsn]; rfl
      have HO : Hid (msgOk l = false) := ho
      clear ho
      go_wp2
      rw [readV_no HO.out, HO.out, errV_no]
      exact bodyPost_ret (v := .tuple #[.agg #[.int .i64 0, .int .i64 0, .int .i64 0, .int .u64 0], .iface 24 (.int .i64 2)]) (by simp [results, Tryd.results31, go_sem, hc2, hz2]) rfl ⟨rfl, below4 HB2.out hz2 _ _ _ _ _ _⟩
  · rw [unsV_no hs, hs]
    have ho : msgOk l = false := by unfold msgOk; rw [hsl] at hs; rw [hs]; simp
    have HO : Hid (msgOk l = false) := ho
    clear hs hsl ho
    go_wp2
    rw [readV_no HO.out, HO.out, errV_no]
    exact bodyPost_ret (v := .tuple #[.agg #[.int .i64 0, .int .i64 0, .int .i64 0, .int .u64 0], .iface 24 (.int .i64 2)]) (by simp [results, Tryd.results31, go_sem, hc1]) rfl ⟨rfl, ((((HB1.out.setCell (Nat.le_refl _) _).setCell (Nat.le_refl _) _).setCell (Nat.le_refl _) _).setCell (Nat.le_refl _) _)⟩
end Go.Proofs.YtfkoflldjnlhaaaDoor
