import Derived.Test.YtfkoflldjnlhaaaDoorNum
import Derived.Test.YtfkoflldjnlhaaaDoorOf
/- split, seal, unseal. -/
namespace Go.Proofs.YtfkoflldjnlhaaaDoor
open Go.RowKit
open Sc

set_option maxHeartbeats 400000 in
theorem split_any (b off n cap k : Nat) (w : World) (hk : k ≤ n) (hn : n ≤ cap) (hcap : cap ≤ maxLen) :
    Calls Tryd.prog 57 #[.slice (some ⟨b, off, none⟩) n cap, .int .i64 k] w fun e w' => e = .returned (.tuple #[.slice (some ⟨b, off, none⟩) k k, .slice (cutA b off k cap) (n - k) (cap - k)]) ∧ ∃ q, w' = w.drewN q := by
  unfold maxLen at hcap
  have i0 : (0 : Int) ≤ (k : Int) := by omega
  have i1 : (k : Int) ≤ (cap : Int) := by omega
  have i2 : (k : Int) ≤ (n : Int) := by omega
  by_cases hck : cap = k
  · subst hck
    obtain rfl : n = cap := by omega
    go_enter Tryd.func57, Tryd.ntmps57
    go_wp2
    go_quiet (fail)
    go_wp2
    go_ret2
    refine ⟨?_, _, rfl⟩
    rw [cutA_end, Nat.sub_self]
    rfl
  · go_enter Tryd.func57, Tryd.ntmps57
    go_wp2
    go_quiet (fail)
    go_wp2
    go_ret2
    refine ⟨?_, _, rfl⟩
    rw [cutA_far (by omega)]
    rfl

set_option maxHeartbeats 400000 in
theorem seal_any (base b g k cap : Nat) (d : Bool) (xs : List Nat) (w : World) (hm : Maker w b d) (hne : g ≠ b) (hown : w.ownsRow base 5 1 (.slice (some ⟨g, 0, none⟩) k cap) k (bs xs)) (hb : Byt xs) (hk : k ≤ 1099511627776) (hr : k + 4 ≤ cap) :
    Calls Tryd.prog 36 #[.pointer (some ⟨b, 0, none⟩), .slice (some ⟨g, 0, none⟩) k cap] w fun e w' => e = .returned (.slice (some ⟨g, 0, none⟩) (k + 4) cap) ∧
      w'.ownsRow base 5 1 (.slice (some ⟨g, 0, none⟩) (k + 4) cap) (k + 4) (bs (xs ++ be 4 (crc xs))) ∧ (∀ B, B ≤ b → B ≤ g → Below B w w') := by
  have hlen := own_len hown
  have hlt := hm.lt
  have hcl := crc_lt xs hb
  have HL : Hid (xs.length = k) := hlen
  clear hlen
  go_enter Tryd.func36, Tryd.ntmps36
  go_wp2_with fail
  refine (of_any b g 0 k cap d xs _ hm hne HL.out hb hk (own_row hown)).mono ?_
  rintro e w1 ⟨rfl, hm1, hg1⟩
  have ho1 := hown.kept hg1 (Or.inr (by simp [Value.ownBlock, hne]))
  go_wp2_with fail
  refine (app_u32 base g k cap xs (crc xs) _ ho1 hr hcl).mono ?_
  rintro e w2 ⟨rfl, ho2, hg2⟩
  go_wp2
  go_ret
  exact ⟨rfl, ho2, fun B h1 h2 => below_two hg1 hg2 h1 h2 (by omega)⟩

theorem heap_drewN (w : World) (q : Nat) : (w.drewN q).heap = w.heap := by simp
theorem grown_drewN (w : World) (q : Nat) (r : Option Nat) : w.grownBy (w.drewN q) r := ⟨rfl, rfl, rfl, by simp, fun k _ _ => by simp⟩
/-- has b its right sum at its end? -/
def sealed (l : List Nat) : Bool := crc (l.take (l.length - 4)) == val (l.drop (l.length - 4))
def unsV (g off n : Nat) (l : List Nat) : Value := if sealed l = true then .slice (some ⟨g, off, none⟩) (n - 4) (n - 4) else .slice none 0 0
theorem unsV_yes {g off n : Nat} {l : List Nat} (h : sealed l = true) : unsV g off n l = .slice (some ⟨g, off, none⟩) (n - 4) (n - 4) := by unfold unsV; rw [if_pos h]
theorem unsV_no {g off n : Nat} {l : List Nat} (h : sealed l = false) : unsV g off n l = .slice none 0 0 := by unfold unsV; rw [if_neg (by rw [h]; decide)]
set_option maxHeartbeats 1000000 in
theorem unseal_any (b g off n cap : Nat) (d : Bool) (l : List Nat) (w : World) (hm : Maker w b d) (hne : g ≠ b) (hl : l.length = n) (hb : Byt l) (hn : 5 ≤ n) (hn2 : n ≤ 1099511627776) (hcap : n ≤ cap) (hcap2 : cap ≤ maxLen) (hrow : RowAt w g off l) :
    Calls Tryd.prog 44 #[.pointer (some ⟨b, 0, none⟩), .slice (some ⟨g, off, none⟩) n cap] w fun e w' =>
      e = .returned (.tuple #[unsV g off n l, .bool (sealed l)]) ∧ Maker w' b true ∧ w.grownBy w' (some b) := by
  have HL : Hid (l.length = n) := hl
  have HM : Hid (Maker w b d) := hm
  have HR : Hid (RowAt w g off l) := hrow
  have hcap3 := hcap2
  unfold maxLen at hcap3
  clear hl hm hrow
  go_enter Tryd.func44, Tryd.ntmps44
  go_wp2_with fail
  rw [show ((n : Int) - 4) = ((n - 4 : Nat) : Int) by omega]
  refine (split_any g off n cap (n - 4) _ (by omega) hcap hcap2).mono ?_
  rintro e w1 ⟨rfl, q1, hw1'⟩
  have HW1 : Hid (w1 = w.drewN q1) := hw1'
  clear hw1'
  have hc4 : cutA g off (n - 4) cap = some ⟨g, off + (n - 4), none⟩ := cutA_far (by omega)
  rw [hc4]
  have hn4 : n - (n - 4) = 4 := by omega
  rw [hn4]
  go_wp2_with fail
  have hr1 : RowAt w1 g (off + (n - 4)) (l.drop (n - 4)) := by
    have h := (HR.out.drewN q1).sub (n - 4) 4 (by rw [HL.out]; omega)
    rw [List.take_of_length_le (by rw [List.length_drop, HL.out]; omega)] at h
    rw [HW1.out]; exact h
  refine (take_u32 g (off + (n - 4)) 4 (cap - (n - 4)) (l.drop (n - 4)) _ (fun x hx => hb x (List.mem_of_mem_drop hx)) (by rw [List.length_drop, HL.out]; omega) (by omega) (by omega) (by unfold maxLen; omega) hr1).mono ?_
  rintro e w2 ⟨rfl, q2, hw2'⟩
  have HW2 : Hid (w2 = w1.drewN q2) := hw2'
  clear hw2'
  rw [List.take_of_length_le (l := l.drop (n - 4)) (by rw [List.length_drop, HL.out]; omega)]
  go_wp2_with fail
  have hh2 : w2.heap = w.heap := by rw [HW2.out, HW1.out, heap_drewN, heap_drewN]
  have hg2 : w.grownBy w2 (some b) := by rw [HW2.out, HW1.out]; exact grown_trans (grown_drewN _ _ _) (grown_drewN _ _ _)
  clear hr1 hc4
  refine (of_any b g off (n - 4) (n - 4) d (l.take (n - 4)) _ (HM.out.of_block (by rw [hh2])) hne (by rw [List.length_take, HL.out]; omega) (hb.take_ _) (by omega) ?_).mono ?_
  · intro i hi
    rw [List.length_take, HL.out] at hi
    have h := HR.out i (by rw [HL.out]; omega)
    rw [show at_ (l.take (n - 4)) i = at_ l i by simp [at_, show i < n - 4 by omega]]
    rw [World.cell?_of_block (w := w) (w' := w2) (a := ⟨g, off + i, none⟩) (by rw [hh2])]; exact h
  rintro e w3 ⟨rfl, hm3, hg3⟩
  have HM3 : Hid (Maker w3 b true) := hm3
  have HG3 : Hid (w.grownBy w3 (some b)) := grown_trans hg2 hg3
  clear hm3 hg3 hg2 hh2
  by_cases hs : crc (l.take (n - 4)) = val (l.drop (n - 4))
  · have hse : sealed l = true := by unfold sealed; rw [HL.out, hs]; simp
    have ht : ((val (l.drop (n - 4)) : Int) != (crc (l.take (n - 4)) : Int)) = false := by rw [hs]; simp
    have HS : Hid (sealed l = true) := hse
    clear hs hse
    go_wp2
    go_ret2
    exact ⟨by rw [unsV_yes HS.out, HS.out]; rfl, HM3.out, HG3.out⟩
  · have hse : sealed l = false := by unfold sealed; rw [HL.out]; simp [hs]
    have ht : ((val (l.drop (n - 4)) : Int) != (crc (l.take (n - 4)) : Int)) = true := by simp; omega
    have HS : Hid (sealed l = false) := hse
    clear hs hse
    go_wp2
    go_ret2
    exact ⟨by rw [unsV_no HS.out, HS.out]; rfl, HM3.out, HG3.out⟩
end Go.Proofs.YtfkoflldjnlhaaaDoor
