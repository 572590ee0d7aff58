import Derived.Test.YtkhjhojmhllkaaaGreatDoorC01
import Derived.Deep.RegionHeld3
/- THE SUM BY THE TABLE: (*sums).of. -/
namespace Go.Proofs.YtkhjhojmhllkaaaGreatDoor
open Go.RowKit
open Sc

theorem Maker.alloc {w : World} {b : Nat} {d : Bool} (h : Maker w b d) (o : Obj) : Maker (w.alloc o) b d := by
  have hb : b < w.heap.size := World.block_lt_of_cell? w ⟨b, 0, none⟩ h.c0
  have e : ∀ i, (w.alloc o).cell? ⟨b, i, none⟩ = w.cell? ⟨b, i, none⟩ := fun i => World.cell?_alloc_lt _ _ ⟨b, i, none⟩ hb
  refine ⟨by rw [e]; exact h.c0, by rw [e]; exact h.c1, fun hd i hi => by rw [e]; exact h.tab hd i hi, fun i hi => ?_, fun i => ?_⟩
  · rw [e]; exact h.any i hi
  · rw [World.frozen?_alloc_old _ _ ⟨b, i, none⟩ (Nat.ne_of_lt hb)]; exact h.free i
theorem Maker.lt {w : World} {b : Nat} {d : Bool} (h : Maker w b d) : b < w.heap.size := World.block_lt_of_cell? w ⟨b, 0, none⟩ h.c0
theorem Maker.of_block {w w' : World} {b : Nat} {d : Bool} (h : Maker w b d) (hb : w'.heap[b]? = w.heap[b]?) : Maker w' b d := by
  have e : ∀ i, w'.cell? ⟨b, i, none⟩ = w.cell? ⟨b, i, none⟩ := fun i => World.cell?_of_block (a := ⟨b, i, none⟩) hb
  refine ⟨by rw [e]; exact h.c0, by rw [e]; exact h.c1, fun hd i hi => by rw [e]; exact h.tab hd i hi, fun i hi => ?_, fun i => ?_⟩
  · rw [e]; exact h.any i hi
  · rw [World.frozen?_of_block (a := ⟨b, i, none⟩) hb]; exact h.free i
set_option maxRecDepth 100000 in
set_option maxHeartbeats 1600000 in
/-- behind the Once: the loop over the bytes -/
theorem of_done (b g off n cap : Nat) (l : List Nat) (w : World) (hm : Maker w b true) (hn : l.length = n) (hl : Byt l) (hs : n ≤ 1099511627776) (hrow : RowAt w g off l) :
    Calls Tryz.prog 237 #[.pointer (some ⟨b, 0, none⟩), .slice (some ⟨g, off, none⟩) n cap] w fun e w' => e = .returned (.int .u32 (crc l : Nat)) ∧ Maker w' b true ∧ w.grownBy w' (some b) := by
  have HN : Hid (l.length = n) := hn
  have hmf : ∀ (fn : Fn) (first cap : Array Value) (w : World), (Instr.makeFunc fn first cap).run Tryz.prog w = .ok (.func fn first cap) w := fun _ _ _ _ => rfl
  have hbl := hm.lt
  have hm1 : Maker (w.alloc (.cells #[.pointer (some ⟨b, 0, none⟩)] 347)) b true := hm.alloc _
  have hrow1 : RowAt (w.alloc (.cells #[.pointer (some ⟨b, 0, none⟩)] 347)) g off l := by
    by_cases h0 : 0 < l.length
    · exact (RowAt_alloc (hrow.lt h0)).2 hrow
    · intro i hi; omega
  clear hn hrow hm
  go_enter Tryz.func237, Tryz.ntmps237
  go_wp2_with (go_at_call 266; refine (do_done b _ _ hm1).mono ?_; rintro e w' ⟨rfl, rfl⟩)
  have HM : Hid (Maker (w.alloc (.cells #[.pointer (some ⟨b, 0, none⟩)] 347)) b true) := hm1
  have HR : Hid (RowAt (w.alloc (.cells #[.pointer (some ⟨b, 0, none⟩)] 347)) g off l) := hrow1
  clear hm1 hrow1
  go_loop [5, 15] (fun c i => ∃ k : Nat, k ≤ n ∧ i = .int .i64 k ∧ c = .int .u32 (crcS 4294967295 (l.take k) : Nat)) (fun _ i => n - (intOf i).toNat)
  case atStart => exact ⟨0, Nat.zero_le _, rfl, rfl⟩
  case round =>
    obtain ⟨k, hk, rfl, rfl⟩ := hrel
    have hB : crcS 4294967295 (l.take k) < 4294967296 := crcS_lt _ _ (by decide) (hl.take_ k)
    by_cases hlt : k < n
    · have hcx := HR.out k (by rw [HN.out]; exact hlt)
      have ha := at_lt hl k
      obtain ⟨C, hC⟩ : ∃ C, C = crcS 4294967295 (l.take k) := ⟨_, rfl⟩
      rw [← hC] at hB ⊢
      have HC : Hid (crcS 4294967295 (l.take (k + 1)) = tstep C (at_ l k)) := by
        show _ = _
        rw [take_at l k (by rw [HN.out]; exact hlt), crcS_snoc, hC, tstep_eq]
      clear hC
      have hx : bits .xor .u8 ((C : Int) % 256) (at_ l k : Int) = ((C % 256 ^^^ at_ l k : Nat) : Int) := by
        rw [show ((C : Int) % 256) = ((C % 256 : Nat) : Int) by omega]; exact u8_xor_nat _ _ (by omega) ha
      have ht : C % 256 ^^^ at_ l k < 256 := xor_lt8 _ _ (by omega) ha
      obtain ⟨T, hT⟩ : ∃ T, T = C % 256 ^^^ at_ l k := ⟨_, rfl⟩
      rw [← hT] at hx ht
      have HTS : Hid (tstep C (at_ l k) = halves 8 T ^^^ C / 256) := by show _ = _; rw [hT]; rfl
      clear hT
      have htab := HM.out.tab rfl T ht
      have hh := halves_lt 8 T (by omega)
      have hx2 : bits .xor .u32 ((halves 8 T : Nat) : Int) ((C : Int) / 256) = ((halves 8 T ^^^ C / 256 : Nat) : Int) := by
        rw [show ((C : Int) / 256) = ((C / 256 : Nat) : Int) by omega]; exact u32_xor_nat _ _ hh (by omega)
      have hT1 : (0 : Int) ≤ (T : Int) := by omega
      have hT2 : (T : Int) < 256 := by omega
      go_wp2
      go_round
      case rel => exact ⟨k + 1, by omega, by go_num, by rw [HC.out, HTS.out]⟩
      case measure => simp [intOf]; omega
    · have ek : k = n := by omega
      subst ek
      have a3 : bits .xor .u32 IntKind.u32.max (crcS 4294967295 (l.take k) : Int) = ((4294967295 ^^^ crcS 4294967295 (l.take k) : Nat) : Int) := notU _ hB
      have hsg : IntKind.u32.signed = false := rfl
      go_wp2
      go_ret
      refine ⟨ret_int ?_, HM.out, grown_alloc _ _ _⟩
      rw [List.take_of_length_le (by rw [HN.out]; omega)]
      rfl
set_option maxRecDepth 100000 in
set_option maxHeartbeats 1600000 in
/-- the first sum: the table is filled -/
theorem of_first (b g off n cap : Nat) (l : List Nat) (w : World) (hm : Maker w b false) (hgb : g ≠ b) (hn : l.length = n) (hl : Byt l) (hs : n ≤ 1099511627776) (hrow : RowAt w g off l) :
    Calls Tryz.prog 237 #[.pointer (some ⟨b, 0, none⟩), .slice (some ⟨g, off, none⟩) n cap] w fun e w' => e = .returned (.int .u32 (crc l : Nat)) ∧ Maker w' b true ∧ w.grownBy w' (some b) := by
  have HN : Hid (l.length = n) := hn
  have hmf : ∀ (fn : Fn) (first cap : Array Value) (w : World), (Instr.makeFunc fn first cap).run Tryz.prog w = .ok (.func fn first cap) w := fun _ _ _ _ => rfl
  have hbl := hm.lt
  have hm1 : Maker (w.alloc (.cells #[.pointer (some ⟨b, 0, none⟩)] 347)) b false := hm.alloc _
  have hrow1 : RowAt (w.alloc (.cells #[.pointer (some ⟨b, 0, none⟩)] 347)) g off l := by
    by_cases h0 : 0 < l.length
    · exact (RowAt_alloc (hrow.lt h0)).2 hrow
    · intro i hi; omega
  clear hn hrow hm
  go_enter Tryz.func237, Tryz.ntmps237
  go_wp2_with fail
  refine (do_first b ⟨w.heap.size, 0, none⟩ (by simp; omega) _ (by simp) hm1).mono ?_
  rintro e w1 ⟨rfl, hm2, hgr⟩
  have hbox : w1.cell? ⟨w.heap.size, 0, none⟩ = some (.pointer (some ⟨b, 0, none⟩)) := by
    rw [grown_cell hgr (a := ⟨w.heap.size, 0, none⟩) (by simp; omega) (by simp)]; simp
  have HM : Hid (Maker w1 b true) := hm2
  have HR : Hid (RowAt w1 g off l) := row_grown hrow1 hgr hgb
  have HG : Hid (w.grownBy w1 (some b)) := grown_trans (grown_alloc _ _ _) hgr
  clear hm1 hrow1 hm2 hgr
  go_wp2
  go_loop [5, 15] (fun c i => ∃ k : Nat, k ≤ n ∧ i = .int .i64 k ∧ c = .int .u32 (crcS 4294967295 (l.take k) : Nat)) (fun _ i => n - (intOf i).toNat)
  case atStart => exact ⟨0, Nat.zero_le _, rfl, rfl⟩
  case round =>
    obtain ⟨k, hk, rfl, rfl⟩ := hrel
    have hB : crcS 4294967295 (l.take k) < 4294967296 := crcS_lt _ _ (by decide) (hl.take_ k)
    by_cases hlt : k < n
    · have hcx := HR.out k (by rw [HN.out]; exact hlt)
      have ha := at_lt hl k
      obtain ⟨C, hC⟩ : ∃ C, C = crcS 4294967295 (l.take k) := ⟨_, rfl⟩
      rw [← hC] at hB ⊢
      have HC : Hid (crcS 4294967295 (l.take (k + 1)) = tstep C (at_ l k)) := by
        show _ = _
        rw [take_at l k (by rw [HN.out]; exact hlt), crcS_snoc, hC, tstep_eq]
      clear hC
      have hx : bits .xor .u8 ((C : Int) % 256) (at_ l k : Int) = ((C % 256 ^^^ at_ l k : Nat) : Int) := by
        rw [show ((C : Int) % 256) = ((C % 256 : Nat) : Int) by omega]; exact u8_xor_nat _ _ (by omega) ha
      have ht : C % 256 ^^^ at_ l k < 256 := xor_lt8 _ _ (by omega) ha
      obtain ⟨T, hT⟩ : ∃ T, T = C % 256 ^^^ at_ l k := ⟨_, rfl⟩
      rw [← hT] at hx ht
      have HTS : Hid (tstep C (at_ l k) = halves 8 T ^^^ C / 256) := by show _ = _; rw [hT]; rfl
      clear hT
      have htab := HM.out.tab rfl T ht
      have hh := halves_lt 8 T (by omega)
      have hx2 : bits .xor .u32 ((halves 8 T : Nat) : Int) ((C : Int) / 256) = ((halves 8 T ^^^ C / 256 : Nat) : Int) := by
        rw [show ((C : Int) / 256) = ((C / 256 : Nat) : Int) by omega]; exact u32_xor_nat _ _ hh (by omega)
      have hT1 : (0 : Int) ≤ (T : Int) := by omega
      have hT2 : (T : Int) < 256 := by omega
      go_wp2
      go_round
      case rel => exact ⟨k + 1, by omega, by go_num, by rw [HC.out, HTS.out]⟩
      case measure => simp [intOf]; omega
    · have ek : k = n := by omega
      subst ek
      have a3 : bits .xor .u32 IntKind.u32.max (crcS 4294967295 (l.take k) : Int) = ((4294967295 ^^^ crcS 4294967295 (l.take k) : Nat) : Int) := notU _ hB
      have hsg : IntKind.u32.signed = false := rfl
      go_wp2
      go_ret
      refine ⟨ret_int ?_, HM.out, HG.out⟩
      rw [List.take_of_length_le (by rw [HN.out]; omega)]
      rfl

theorem of_any (b g off n cap : Nat) (d : Bool) (l : List Nat) (w : World) (hm : Maker w b d) (hgb : g ≠ b) (hn : l.length = n) (hl : Byt l) (hs : n ≤ 1099511627776) (hrow : RowAt w g off l) :
    Calls Tryz.prog 237 #[.pointer (some ⟨b, 0, none⟩), .slice (some ⟨g, off, none⟩) n cap] w fun e w' => e = .returned (.int .u32 (crc l : Nat)) ∧ Maker w' b true ∧ w.grownBy w' (some b) := by
  cases d with
  | true => exact of_done b g off n cap l w hm hn hl hs hrow
  | false => exact of_first b g off n cap l w hm hgb hn hl hs hrow
end Go.Proofs.YtkhjhojmhllkaaaGreatDoor
/- split, seal, unseal. -/
namespace Go.Proofs.YtkhjhojmhllkaaaGreatDoor
open Go.RowKit
open Sc

set_option maxHeartbeats 400000 in
theorem split_any (b off n cap k : Nat) (w : World) (hk : k ≤ n) (hn : n ≤ cap) (hcap : cap ≤ maxLen) :
    Calls Tryz.prog 276 #[.slice (some ⟨b, off, none⟩) n cap, .int .i64 k] w fun e w' => e = .returned (.tuple #[.slice (some ⟨b, off, none⟩) k k, .slice (cutA b off k cap) (n - k) (cap - k)]) ∧ ∃ q, w' = w.drewN q := by
  unfold maxLen at hcap
  have i0 : (0 : Int) ≤ (k : Int) := by omega
  have i1 : (k : Int) ≤ (cap : Int) := by omega
  have i2 : (k : Int) ≤ (n : Int) := by omega
  by_cases hck : cap = k
  · subst hck
    obtain rfl : n = cap := by omega
    go_enter Tryz.func276, Tryz.ntmps276
    go_wp2
    go_quiet (fail)
    go_wp2
    go_ret2
    refine ⟨?_, _, rfl⟩
    rw [cutA_end, Nat.sub_self]
    rfl
  · go_enter Tryz.func276, Tryz.ntmps276
    go_wp2
    go_quiet (fail)
    go_wp2
    go_ret2
    refine ⟨?_, _, rfl⟩
    rw [cutA_far (by omega)]
    rfl

set_option maxHeartbeats 400000 in
theorem seal_any (base b g k cap : Nat) (d : Bool) (xs : List Nat) (w : World) (hm : Maker w b d) (hne : g ≠ b) (hown : w.ownsRow base 5 1 (.slice (some ⟨g, 0, none⟩) k cap) k (bs xs)) (hb : Byt xs) (hk : k ≤ 1099511627776) (hr : k + 4 ≤ cap) :
    Calls Tryz.prog 193 #[.pointer (some ⟨b, 0, none⟩), .slice (some ⟨g, 0, none⟩) k cap] w fun e w' => e = .returned (.slice (some ⟨g, 0, none⟩) (k + 4) cap) ∧
      w'.ownsRow base 5 1 (.slice (some ⟨g, 0, none⟩) (k + 4) cap) (k + 4) (bs (xs ++ be 4 (crc xs))) ∧ (∀ B, B ≤ b → B ≤ g → Below B w w') := by
  have hlen := own_len hown
  have hlt := hm.lt
  have hcl := crc_lt xs hb
  have HL : Hid (xs.length = k) := hlen
  clear hlen
  go_enter Tryz.func193, Tryz.ntmps193
  go_wp2_with fail
  refine (of_any b g 0 k cap d xs _ hm hne HL.out hb hk (own_row hown)).mono ?_
  rintro e w1 ⟨rfl, hm1, hg1⟩
  have ho1 := hown.kept hg1 (Or.inr (by simp [Value.ownBlock, hne]))
  go_wp2_with fail
  refine (app_u32 base g k cap xs (crc xs) _ ho1 hr hcl).mono ?_
  rintro e w2 ⟨rfl, ho2, hg2⟩
  go_wp2
  go_ret
  exact ⟨rfl, ho2, fun B h1 h2 => below_two hg1 hg2 h1 h2 (by omega)⟩

theorem heap_drewN (w : World) (q : Nat) : (w.drewN q).heap = w.heap := by simp
theorem grown_drewN (w : World) (q : Nat) (r : Option Nat) : w.grownBy (w.drewN q) r := ⟨rfl, rfl, rfl, by simp, fun k _ _ => by simp⟩
/-- has b its right sum at its end? -/
def sealed (l : List Nat) : Bool := crc (l.take (l.length - 4)) == val (l.drop (l.length - 4))
def unsV (g off n : Nat) (l : List Nat) : Value := if sealed l = true then .slice (some ⟨g, off, none⟩) (n - 4) (n - 4) else .slice none 0 0
theorem unsV_yes {g off n : Nat} {l : List Nat} (h : sealed l = true) : unsV g off n l = .slice (some ⟨g, off, none⟩) (n - 4) (n - 4) := by unfold unsV; rw [if_pos h]
theorem unsV_no {g off n : Nat} {l : List Nat} (h : sealed l = false) : unsV g off n l = .slice none 0 0 := by unfold unsV; rw [if_neg (by rw [h]; decide)]
set_option maxHeartbeats 1000000 in
theorem unseal_any (b g off n cap : Nat) (d : Bool) (l : List Nat) (w : World) (hm : Maker w b d) (hne : g ≠ b) (hl : l.length = n) (hb : Byt l) (hn : 5 ≤ n) (hn2 : n ≤ 1099511627776) (hcap : n ≤ cap) (hcap2 : cap ≤ maxLen) (hrow : RowAt w g off l) :
    Calls Tryz.prog 247 #[.pointer (some ⟨b, 0, none⟩), .slice (some ⟨g, off, none⟩) n cap] w fun e w' =>
      e = .returned (.tuple #[unsV g off n l, .bool (sealed l)]) ∧ Maker w' b true ∧ w.grownBy w' (some b) := by
  have HL : Hid (l.length = n) := hl
  have HM : Hid (Maker w b d) := hm
  have HR : Hid (RowAt w g off l) := hrow
  have hcap3 := hcap2
  unfold maxLen at hcap3
  clear hl hm hrow
  go_enter Tryz.func247, Tryz.ntmps247
  go_wp2_with fail
  rw [show ((n : Int) - 4) = ((n - 4 : Nat) : Int) by omega]
  refine (split_any g off n cap (n - 4) _ (by omega) hcap hcap2).mono ?_
  rintro e w1 ⟨rfl, q1, hw1'⟩
  have HW1 : Hid (w1 = w.drewN q1) := hw1'
  clear hw1'
  have hc4 : cutA g off (n - 4) cap = some ⟨g, off + (n - 4), none⟩ := cutA_far (by omega)
  rw [hc4]
  have hn4 : n - (n - 4) = 4 := by omega
  rw [hn4]
  go_wp2_with fail
  have hr1 : RowAt w1 g (off + (n - 4)) (l.drop (n - 4)) := by
    have h := (HR.out.drewN q1).sub (n - 4) 4 (by rw [HL.out]; omega)
    rw [List.take_of_length_le (by rw [List.length_drop, HL.out]; omega)] at h
    rw [HW1.out]; exact h
  refine (take_u32 g (off + (n - 4)) 4 (cap - (n - 4)) (l.drop (n - 4)) _ (fun x hx => hb x (List.mem_of_mem_drop hx)) (by rw [List.length_drop, HL.out]; omega) (by omega) (by omega) (by unfold maxLen; omega) hr1).mono ?_
  rintro e w2 ⟨rfl, q2, hw2'⟩
  have HW2 : Hid (w2 = w1.drewN q2) := hw2'
  clear hw2'
  rw [List.take_of_length_le (l := l.drop (n - 4)) (by rw [List.length_drop, HL.out]; omega)]
  go_wp2_with fail
  have hh2 : w2.heap = w.heap := by rw [HW2.out, HW1.out, heap_drewN, heap_drewN]
  have hg2 : w.grownBy w2 (some b) := by rw [HW2.out, HW1.out]; exact grown_trans (grown_drewN _ _ _) (grown_drewN _ _ _)
  clear hr1 hc4
  refine (of_any b g off (n - 4) (n - 4) d (l.take (n - 4)) _ (HM.out.of_block (by rw [hh2])) hne (by rw [List.length_take, HL.out]; omega) (hb.take_ _) (by omega) ?_).mono ?_
  · intro i hi
    rw [List.length_take, HL.out] at hi
    have h := HR.out i (by rw [HL.out]; omega)
    rw [show at_ (l.take (n - 4)) i = at_ l i by simp [at_, show i < n - 4 by omega]]
    rw [World.cell?_of_block (w := w) (w' := w2) (a := ⟨g, off + i, none⟩) (by rw [hh2])]; exact h
  rintro e w3 ⟨rfl, hm3, hg3⟩
  have HM3 : Hid (Maker w3 b true) := hm3
  have HG3 : Hid (w.grownBy w3 (some b)) := grown_trans hg2 hg3
  clear hm3 hg3 hg2 hh2
  by_cases hs : crc (l.take (n - 4)) = val (l.drop (n - 4))
  · have hse : sealed l = true := by unfold sealed; rw [HL.out, hs]; simp
    have ht : ((val (l.drop (n - 4)) : Int) != (crc (l.take (n - 4)) : Int)) = false := by rw [hs]; simp
    have HS : Hid (sealed l = true) := hse
    clear hs hse
    go_wp2
    go_ret2
    exact ⟨by rw [unsV_yes HS.out, HS.out]; rfl, HM3.out, HG3.out⟩
  · have hse : sealed l = false := by unfold sealed; rw [HL.out]; simp [hs]
    have ht : ((val (l.drop (n - 4)) : Int) != (crc (l.take (n - 4)) : Int)) = true := by simp; omega
    have HS : Hid (sealed l = false) := hse
    clear hs hse
    go_wp2
    go_ret2
    exact ⟨by rw [unsV_no HS.out, HS.out]; rfl, HM3.out, HG3.out⟩
end Go.Proofs.YtkhjhojmhllkaaaGreatDoor
/- CONTRACTS of the document's own answer: messages. -/
namespace Go.Proofs.YtkhjhojmhllkaaaGreatDoor
open Go.RowKit
open Sc

/-- Can the message be written? -/
def soundB (k f t x : Int) : Bool := decide (x ≠ 0 ∧ ((k = 1 ∨ k = 5 ∨ k = 6) ∧ f = 0 ∧ 1 ≤ t ∧ t ≤ 8 ∨ (k = 2 ∨ k = 3 ∨ k = 4 ∨ k = 7 ∨ k = 8) ∧ t = 0 ∧ 1 ≤ f ∧ f ≤ 8))
theorem ret_bool {a b : Bool} (h : a = b) : Ending.returned (.bool a) = .returned (.bool b) := by rw [h]
/-- a message as a value; its box -/
abbrev msgV (k f t x : Int) : Value := .agg #[.int .i64 k, .int .i64 f, .int .i64 t, .int .u64 x]
abbrev msgO (k f t x : Int) : Obj := .cells #[.int .i64 k, .int .i64 f, .int .i64 t, .int .u64 x] 455

/-- a message's bytes, without its sum -/
def msgHead (k f t x : Nat) : List Nat := [k, f, t] ++ be 8 x
def msgBytes (k f t x : Nat) : List Nat := msgHead k f t x ++ be 4 (crc (msgHead k f t x))
theorem msgHead_len (k f t x : Nat) : (msgHead k f t x).length = 11 := by simp [msgHead, be_len]
theorem msgBytes_len (k f t x : Nat) : (msgBytes k f t x).length = 15 := by simp [msgBytes, msgHead_len, be_len]
theorem msgHead_byt (k f t x : Nat) (hk : k < 256) (hf : f < 256) (ht : t < 256) : Byt (msgHead k f t x) := by
  intro b hb
  simp only [msgHead, List.mem_append, List.mem_cons, List.not_mem_nil, or_false] at hb
  rcases hb with (rfl | rfl | rfl) | hb
  · exact hk
  · exact hf
  · exact ht
  · exact be_lt _ _ _ hb
theorem msgBytes_byt (k f t x : Nat) (hk : k < 256) (hf : f < 256) (ht : t < 256) : Byt (msgBytes k f t x) := by
  intro b hb
  simp only [msgBytes, List.mem_append] at hb
  rcases hb with hb | hb
  · exact msgHead_byt _ _ _ _ hk hf ht _ hb
  · exact be_lt _ _ _ hb

end Go.Proofs.YtkhjhojmhllkaaaGreatDoor
/- CONTRACTS of the document's own answer: a message that is read. -/
namespace Go.Proofs.YtkhjhojmhllkaaaGreatDoor
open Go.RowKit
open Sc

theorem at_take (l : List Nat) (n i : Nat) (h : i < n) : at_ (l.take n) i = at_ l i := by simp [at_, h]
theorem at_drop (l : List Nat) (n i : Nat) : at_ (l.drop n) i = at_ l (n + i) := by simp [at_, List.getElem?_drop]
theorem Byt.take {l : List Nat} (h : Byt l) (n : Nat) : Byt (l.take n) := fun x hx => h x (List.mem_of_mem_take hx)
theorem Byt.drop {l : List Nat} (h : Byt l) (n : Nat) : Byt (l.drop n) := fun x hx => h x (List.mem_of_mem_drop hx)

def msgTxn (l : List Nat) : Nat := val ((l.drop 3).take 8)
def msgOk (l : List Nat) : Bool := soundB (at_ l 0) (at_ l 1) (at_ l 2) (msgTxn l) && (crc (l.take 11) == val (l.drop 11))

/-- what is read of 15 bytes -/
def readV (l : List Nat) : Value := if msgOk l = true then msgV (at_ l 0) (at_ l 1) (at_ l 2) (msgTxn l) else msgV 0 0 0 0
def readE (l : List Nat) : Int := if msgOk l = true then 0 else 2
theorem readV_yes {l : List Nat} (h : msgOk l = true) : readV l = .agg #[.int .i64 (at_ l 0 : Nat), .int .i64 (at_ l 1 : Nat), .int .i64 (at_ l 2 : Nat), .int .u64 (msgTxn l : Nat)] := by unfold readV; rw [if_pos h]
theorem readE_yes {l : List Nat} (h : msgOk l = true) : readE l = 0 := by unfold readE; rw [if_pos h]
theorem readV_no {l : List Nat} (h : msgOk l = false) : readV l = .agg #[.int .i64 0, .int .i64 0, .int .i64 0, .int .u64 0] := by unfold readV; rw [if_neg (by rw [h]; decide)]
theorem readE_no {l : List Nat} (h : msgOk l = false) : readE l = 2 := by unfold readE; rw [if_neg (by rw [h]; decide)]

end Go.Proofs.YtkhjhojmhllkaaaGreatDoor
/- MESSAGES in package wire. -/
namespace Go.Proofs.YtkhjhojmhllkaaaGreatDoor
open Go.RowKit
open Sc

def shardB (x : Int) : Bool := decide (1 ≤ x ∧ x ≤ 8)
end Go.Proofs.YtkhjhojmhllkaaaGreatDoor
/- MESSAGES in package wire: readMessage. -/
namespace Go.Proofs.YtkhjhojmhllkaaaGreatDoor
open Go.RowKit
open Sc

theorem val_one (l : List Nat) (h : 0 < l.length) : val (l.take 1) = at_ l 0 := by
  cases l with
  | nil => simp at h
  | cons a l => simp [val, at_]
theorem RowAt.drop {w : World} {b off : Nat} {l : List Nat} (h : RowAt w b off l) (o : Nat) (hl : o ≤ l.length) : RowAt w b (off + o) (l.drop o) := fun i hi => by
  rw [List.length_drop] at hi
  have := h (o + i) (by omega)
  rw [show off + o + i = off + (o + i) by omega, this, at_drop]
theorem below_drewN {B : Nat} {a w : World} (h : Below B a w) (q : Nat) : Below B a (w.drewN q) := ⟨h.os, h.tape, h.output, h.size, h.block⟩

end Go.Proofs.YtkhjhojmhllkaaaGreatDoor
/- DecodeMessage in package wire. -/
namespace Go.Proofs.YtkhjhojmhllkaaaGreatDoor
open Go.RowKit
open Sc

theorem maker_new (w : World) : Maker (w.alloc (.cells Tryz.zeroCells301 301)) w.heap.size false := by
  have e : ∀ i, (w.alloc (.cells Tryz.zeroCells301 301)).cell? ⟨w.heap.size, i, none⟩ = Tryz.zeroCells301[i]? := fun i => World.cell?_alloc_new w _ _ i
  have hs : Tryz.zeroCells301.size = 259 := by kernel_rfl
  refine ⟨?_, ?_, fun h => absurd h (by decide), fun i hi => ?_, fun i => ?_⟩
  · rw [e]; kernel_rfl
  · rw [e]; kernel_rfl
  · rw [e]; exact ⟨_, Array.getElem?_eq_getElem (by rw [hs]; omega)⟩
  · exact World.frozen?_alloc_new w _ _ i

theorem below4 {w w2 : World} (h : Below w.heap.size w w2) (hz : w.heap.size < w2.heap.size) (a b c d : Value) (o p : Obj) :
    Below w.heap.size w ((((((w2.setCell ⟨w.heap.size, 0, none⟩ a).setCell ⟨w.heap.size, 1, none⟩ b).setCell ⟨w.heap.size, 2, none⟩ c).setCell ⟨w.heap.size, 3, none⟩ d).alloc o).alloc p) := by
  refine Below.alloc (Below.alloc ((((h.setCell (Nat.le_refl _) _).setCell (Nat.le_refl _) _).setCell (Nat.le_refl _) _).setCell (Nat.le_refl _) _) ?_ _) ?_ _
  · simp [World.setCell]; omega
  · simp [World.setCell]; omega
/-- the error that stands beside what is read -/
def errV (b : Bool) : Value := if b = true then .nilIface else .iface 31 (.int .i64 2)
theorem errV_yes : errV true = .nilIface := rfl
theorem errV_no : errV false = .iface 31 (.int .i64 2) := rfl
theorem sealed_15 {l : List Nat} (hl : l.length = 15) : sealed l = (crc (l.take 11) == val (l.drop 11)) := by unfold sealed; rw [hl]

end Go.Proofs.YtkhjhojmhllkaaaGreatDoor
/- EncodeMessage in package wire. -/
namespace Go.Proofs.YtkhjhojmhllkaaaGreatDoor
open Go.RowKit
open Sc

theorem grown_row {w w1 : World} {r : Option Nat} (h : w.grownBy w1 r) {B : Nat} (hB : B < w.heap.size) (hr : r ≠ some B) (i : Nat) : w1.cell? ⟨B, i, none⟩ = w.cell? ⟨B, i, none⟩ :=
  World.cell?_of_block (a := ⟨B, i, none⟩) (h.block B hB (fun e => hr e.symm))

theorem box_grown {w w1 : World} {o p : Obj} {r : Option Nat} (h : ((w.alloc o).alloc p).grownBy w1 r) (hr : r ≠ some w.heap.size) (i : Nat) : w1.cell? ⟨w.heap.size, i, none⟩ = (w.alloc o).cell? ⟨w.heap.size, i, none⟩ := by
  rw [grown_row h (B := w.heap.size) (by simp; omega) hr i, World.cell?_alloc_lt _ _ ⟨w.heap.size, i, none⟩ (by simp)]
theorem own_at {w w1 : World} {o p : Obj} {base n cap : Nat} {xs : List Value} (h : w1.ownsRow base 5 1 (.slice (some ⟨((w.alloc o).alloc p).heap.size, 0, none⟩) n cap) n xs) : w1.ownsRow base 5 1 (.slice (some ⟨w.heap.size + 1 + 1, 0, none⟩) n cap) n xs := by
  rw [World.size_alloc, World.size_alloc] at h; exact h

end Go.Proofs.YtkhjhojmhllkaaaGreatDoor
