import Derived.Test.YtfkoflldjnlhaaaDoorOnce2
/- THE SUM BY THE TABLE: (*sums).of. -/
namespace Go.Proofs.YtfkoflldjnlhaaaDoor
open Go.RowKit
open Sc

theorem Maker.alloc {w : World} {b : Nat} {d : Bool} (h : Maker w b d) (o : Obj) : Maker (w.alloc o) b d := by
  have hb : b < w.heap.size := World.block_lt_of_cell? w ⟨b, 0, none⟩ h.c0
  have e : ∀ i, (w.alloc o).cell? ⟨b, i, none⟩ = w.cell? ⟨b, i, none⟩ := fun i => World.cell?_alloc_lt _ _ ⟨b, i, none⟩ hb
  refine ⟨by rw [e]; exact h.c0, by rw [e]; exact h.c1, fun hd i hi => by rw [e]; exact h.tab hd i hi, fun i hi => ?_, fun i => ?_⟩
  · rw [e]; exact h.any i hi
  · rw [World.frozen?_alloc_old _ _ ⟨b, i, none⟩ (Nat.ne_of_lt hb)]; exact h.free i
theorem Maker.lt {w : World} {b : Nat} {d : Bool} (h : Maker w b d) : b < w.heap.size := World.block_lt_of_cell? w ⟨b, 0, none⟩ h.c0
theorem Maker.of_block {w w' : World} {b : Nat} {d : Bool} (h : Maker w b d) (hb : w'.heap[b]? = w.heap[b]?) : Maker w' b d := by
  have e : ∀ i, w'.cell? ⟨b, i, none⟩ = w.cell? ⟨b, i, none⟩ := fun i => World.cell?_of_block (a := ⟨b, i, none⟩) hb
  refine ⟨by rw [e]; exact h.c0, by rw [e]; exact h.c1, fun hd i hi => by rw [e]; exact h.tab hd i hi, fun i hi => ?_, fun i => ?_⟩
  · rw [e]; exact h.any i hi
  · rw [World.frozen?_of_block (a := ⟨b, i, none⟩) hb]; exact h.free i
set_option maxRecDepth 100000 in
set_option maxHeartbeats 1600000 in
/-- behind the Once: the loop over the bytes -/
theorem of_done (b g off n cap : Nat) (l : List Nat) (w : World) (hm : Maker w b true) (hn : l.length = n) (hl : Byt l) (hs : n ≤ 1099511627776) (hrow : RowAt w g off l) :
    Calls Tryd.prog 52 #[.pointer (some ⟨b, 0, none⟩), .slice (some ⟨g, off, none⟩) n cap] w fun e w' => e = .returned (.int .u32 (crc l : Nat)) ∧ Maker w' b true ∧ w.grownBy w' (some b) := by
  have HN : Hid (l.length = n) := hn
  have hmf : ∀ (fn : Fn) (first cap : Array Value) (w : World), (Instr.makeFunc fn first cap).run Tryd.prog w = .ok (.func fn first cap) w := fun _ _ _ _ => rfl
  have hbl := hm.lt
  have hm1 : Maker (w.alloc (.cells #[.pointer (some ⟨b, 0, none⟩)] 102)) b true := hm.alloc _
  have hrow1 : RowAt (w.alloc (.cells #[.pointer (some ⟨b, 0, none⟩)] 102)) g off l := by
    by_cases h0 : 0 < l.length
    · exact (RowAt_alloc (hrow.lt h0)).2 hrow
    · intro i hi; omega
  clear hn hrow hm
  go_enter Tryd.func52, Tryd.ntmps52
  go_wp2_with (go_at_call 64; refine (do_done b _ _ hm1).mono ?_; rintro e w' ⟨rfl, rfl⟩)
  have HM : Hid (Maker (w.alloc (.cells #[.pointer (some ⟨b, 0, none⟩)] 102)) b true) := hm1
  have HR : Hid (RowAt (w.alloc (.cells #[.pointer (some ⟨b, 0, none⟩)] 102)) g off l) := hrow1
  clear hm1 hrow1
  go_loop [5, 15] (fun c i => ∃ k : Nat, k ≤ n ∧ i = .int .i64 k ∧ c = .int .u32 (crcS 4294967295 (l.take k) : Nat)) (fun _ i => n - (intOf i).toNat)
  case atStart => exact ⟨0, Nat.zero_le _, rfl, rfl⟩
  case round =>
    obtain ⟨k, hk, rfl, rfl⟩ := hrel
    have hB : crcS 4294967295 (l.take k) < 4294967296 := crcS_lt _ _ (by decide) (hl.take_ k)
    by_cases hlt : k < n
    · have hcx := HR.out k (by rw [HN.out]; exact hlt)
      have ha := at_lt hl k
      obtain ⟨C, hC⟩ : ∃ C, C = crcS 4294967295 (l.take k) := ⟨_, rfl⟩
      rw [← hC] at hB ⊢
      have HC : Hid (crcS 4294967295 (l.take (k + 1)) = tstep C (at_ l k)) := by
        show _ = _
        rw [take_at l k (by rw [HN.out]; exact hlt), crcS_snoc, hC, tstep_eq]
      clear hC
      have hx : bits .xor .u8 ((C : Int) % 256) (at_ l k : Int) = ((C % 256 ^^^ at_ l k : Nat) : Int) := by
        rw [show ((C : Int) % 256) = ((C % 256 : Nat) : Int) by omega]; exact u8_xor_nat _ _ (by omega) ha
      have ht : C % 256 ^^^ at_ l k < 256 := xor_lt8 _ _ (by omega) ha
      obtain ⟨T, hT⟩ : ∃ T, T = C % 256 ^^^ at_ l k := ⟨_, rfl⟩
      rw [← hT] at hx ht
      have HTS : Hid (tstep C (at_ l k) = halves 8 T ^^^ C / 256) := by show _ = _; rw [hT]; rfl
      clear hT
      have htab := HM.out.tab rfl T ht
      have hh := halves_lt 8 T (by omega)
      have hx2 : bits .xor .u32 ((halves 8 T : Nat) : Int) ((C : Int) / 256) = ((halves 8 T ^^^ C / 256 : Nat) : Int) := by
        rw [show ((C : Int) / 256) = ((C / 256 : Nat) : Int) by omega]; exact u32_xor_nat _ _ hh (by omega)
      have hT1 : (0 : Int) ≤ (T : Int) := by omega
      have hT2 : (T : Int) < 256 := by omega
      go_wp2
      go_round
      case rel => exact ⟨k + 1, by omega, by go_num, by rw [HC.out, HTS.out]⟩
      case measure => simp [intOf]; omega
    · have ek : k = n := by omega
      subst ek
      have a3 : bits .xor .u32 IntKind.u32.max (crcS 4294967295 (l.take k) : Int) = ((4294967295 ^^^ crcS 4294967295 (l.take k) : Nat) : Int) := notU _ hB
      have hsg : IntKind.u32.signed = false := rfl
      go_wp2
      go_ret
      refine ⟨ret_int ?_, HM.out, grown_alloc _ _ _⟩
      rw [List.take_of_length_le (by rw [HN.out]; omega)]
      rfl
set_option maxRecDepth 100000 in
set_option maxHeartbeats 1600000 in
/-- the first sum: the table is filled -/
theorem of_first (b g off n cap : Nat) (l : List Nat) (w : World) (hm : Maker w b false) (hgb : g ≠ b) (hn : l.length = n) (hl : Byt l) (hs : n ≤ 1099511627776) (hrow : RowAt w g off l) :
    Calls Tryd.prog 52 #[.pointer (some ⟨b, 0, none⟩), .slice (some ⟨g, off, none⟩) n cap] w fun e w' => e = .returned (.int .u32 (crc l : Nat)) ∧ Maker w' b true ∧ w.grownBy w' (some b) := by
  have HN : Hid (l.length = n) := hn
  have hmf : ∀ (fn : Fn) (first cap : Array Value) (w : World), (Instr.makeFunc fn first cap).run Tryd.prog w = .ok (.func fn first cap) w := fun _ _ _ _ => rfl
  have hbl := hm.lt
  have hm1 : Maker (w.alloc (.cells #[.pointer (some ⟨b, 0, none⟩)] 102)) b false := hm.alloc _
  have hrow1 : RowAt (w.alloc (.cells #[.pointer (some ⟨b, 0, none⟩)] 102)) g off l := by
    by_cases h0 : 0 < l.length
    · exact (RowAt_alloc (hrow.lt h0)).2 hrow
    · intro i hi; omega
  clear hn hrow hm
  go_enter Tryd.func52, Tryd.ntmps52
  go_wp2_with fail
  refine (do_first b ⟨w.heap.size, 0, none⟩ (by simp; omega) _ (by simp) hm1).mono ?_
  rintro e w1 ⟨rfl, hm2, hgr⟩
  have hbox : w1.cell? ⟨w.heap.size, 0, none⟩ = some (.pointer (some ⟨b, 0, none⟩)) := by
    rw [grown_cell hgr (a := ⟨w.heap.size, 0, none⟩) (by simp; omega) (by simp)]; simp
  have HM : Hid (Maker w1 b true) := hm2
  have HR : Hid (RowAt w1 g off l) := row_grown hrow1 hgr hgb
  have HG : Hid (w.grownBy w1 (some b)) := grown_trans (grown_alloc _ _ _) hgr
  clear hm1 hrow1 hm2 hgr
  go_wp2
  go_loop [5, 15] (fun c i => ∃ k : Nat, k ≤ n ∧ i = .int .i64 k ∧ c = .int .u32 (crcS 4294967295 (l.take k) : Nat)) (fun _ i => n - (intOf i).toNat)
  case atStart => exact ⟨0, Nat.zero_le _, rfl, rfl⟩
  case round =>
    obtain ⟨k, hk, rfl, rfl⟩ := hrel
    have hB : crcS 4294967295 (l.take k) < 4294967296 := crcS_lt _ _ (by decide) (hl.take_ k)
    by_cases hlt : k < n
    · have hcx := HR.out k (by rw [HN.out]; exact hlt)
      have ha := at_lt hl k
      obtain ⟨C, hC⟩ : ∃ C, C = crcS 4294967295 (l.take k) := ⟨_, rfl⟩
      rw [← hC] at hB ⊢
      have HC : Hid (crcS 4294967295 (l.take (k + 1)) = tstep C (at_ l k)) := by
        show _ = _
        rw [take_at l k (by rw [HN.out]; exact hlt), crcS_snoc, hC, tstep_eq]
      clear hC
      have hx : bits .xor .u8 ((C : Int) % 256) (at_ l k : Int) = ((C % 256 ^^^ at_ l k : Nat) : Int) := by
        rw [show ((C : Int) % 256) = ((C % 256 : Nat) : Int) by omega]; exact u8_xor_nat _ _ (by omega) ha
      have ht : C % 256 ^^^ at_ l k < 256 := xor_lt8 _ _ (by omega) ha
      obtain ⟨T, hT⟩ : ∃ T, T = C % 256 ^^^ at_ l k := ⟨_, rfl⟩
      rw [← hT] at hx ht
      have HTS : Hid (tstep C (at_ l k) = halves 8 T ^^^ C / 256) := by show _ = _; rw [hT]; rfl
      clear hT
      have htab := HM.out.tab rfl T ht
      have hh := halves_lt 8 T (by omega)
      have hx2 : bits .xor .u32 ((halves 8 T : Nat) : Int) ((C : Int) / 256) = ((halves 8 T ^^^ C / 256 : Nat) : Int) := by
        rw [show ((C : Int) / 256) = ((C / 256 : Nat) : Int) by omega]; exact u32_xor_nat _ _ hh (by omega)
      have hT1 : (0 : Int) ≤ (T : Int) := by omega
      have hT2 : (T : Int) < 256 := by omega
      go_wp2
      go_round
      case rel => exact ⟨k + 1, by omega, by go_num, by rw [HC.out, HTS.out]⟩
      case measure => simp [intOf]; omega
    · have ek : k = n := by omega
      subst ek
      have a3 : bits .xor .u32 IntKind.u32.max (crcS 4294967295 (l.take k) : Int) = ((4294967295 ^^^ crcS 4294967295 (l.take k) : Nat) : Int) := notU _ hB
      have hsg : IntKind.u32.signed = false := rfl
      go_wp2
      go_ret
      refine ⟨ret_int ?_, HM.out, HG.out⟩
      rw [List.take_of_length_le (by rw [HN.out]; omega)]
      rfl

theorem of_any (b g off n cap : Nat) (d : Bool) (l : List Nat) (w : World) (hm : Maker w b d) (hgb : g ≠ b) (hn : l.length = n) (hl : Byt l) (hs : n ≤ 1099511627776) (hrow : RowAt w g off l) :
    Calls Tryd.prog 52 #[.pointer (some ⟨b, 0, none⟩), .slice (some ⟨g, off, none⟩) n cap] w fun e w' => e = .returned (.int .u32 (crc l : Nat)) ∧ Maker w' b true ∧ w.grownBy w' (some b) := by
  cases d with
  | true => exact of_done b g off n cap l w hm hn hl hs hrow
  | false => exact of_first b g off n cap l w hm hgb hn hl hs hrow
end Go.Proofs.YtfkoflldjnlhaaaDoor
