import Derived.Test.YtnnhihkeffljbaaGreatDoorC07
import Derived.Test.YtnnhihkeffljbaaGreatDoorC08
import Derived.Test.YtnnhihkeffljbaaGreatDoorC22
import Derived.Test.YtnnhihkeffljbaaGreatDoorC23
/- sameRecords, the second list a piece of a longer one. -/
namespace Go.Proofs.YtnnhihkeffljbaaGreatDoor
open Go.RowKit
open Sc

/-- the records rs, as a slice value holds them, from the cell o on -/
def RecsAtO (w : World) (v : Value) (o : Nat) (rs : List Rec) : Prop :=
  ∃ ao cap, v = .slice ao rs.length cap ∧ ∀ i (h : i < rs.length), ∃ g, ao = some ⟨g, o, none⟩ ∧ w.cell? ⟨g, o + i * 3, none⟩ = some (.int .u64 (rs[i].lsn : Int)) ∧ w.cell? ⟨g, o + i * 3 + 1, none⟩ = some (.int .u8 (rs[i].kind : Int)) ∧ w.cell? ⟨g, o + i * 3 + 2, none⟩ = some (.string (str rs[i].pay))
set_option maxHeartbeats 1000000 in
theorem same_piece (v1 v2 : Value) (o : Nat) (rs : List Rec) (w : World) (h1 : RecsAt w v1 rs) (h2 : RecsAtO w v2 o rs) (hn : rs.length ≤ 1099511627776) :
    Calls Tryz.prog 47 #[v1, v2] w fun e w' => e = .returned (.bool true) ∧ ∃ q, w' = w.drewN q := by
  obtain ⟨a1, c1, rfl, H1⟩ := h1
  obtain ⟨a2, c2, rfl, H2⟩ := h2
  have G1 : Hid (∀ i (h : i < rs.length), ∃ g, a1 = some ⟨g, 0, none⟩ ∧ w.cell? ⟨g, i * 3, none⟩ = some (.int .u64 (rs[i].lsn : Int)) ∧ w.cell? ⟨g, i * 3 + 1, none⟩ = some (.int .u8 (rs[i].kind : Int)) ∧ w.cell? ⟨g, i * 3 + 2, none⟩ = some (.string (str rs[i].pay))) := H1
  have G2 : Hid (∀ i (h : i < rs.length), ∃ g, a2 = some ⟨g, o, none⟩ ∧ w.cell? ⟨g, o + i * 3, none⟩ = some (.int .u64 (rs[i].lsn : Int)) ∧ w.cell? ⟨g, o + i * 3 + 1, none⟩ = some (.int .u8 (rs[i].kind : Int)) ∧ w.cell? ⟨g, o + i * 3 + 2, none⟩ = some (.string (str rs[i].pay))) := H2
  clear H1 H2
  obtain ⟨n, hnn⟩ : ∃ n, n = rs.length := ⟨_, rfl⟩
  rw [← hnn] at hn ⊢
  have HN : Hid (rs.length = n) := hnn.symm
  clear hnn
  go_enter Tryz.func47, Tryz.ntmps47
  go_wp2
  go_loopw [5] (fun i wr => ∃ k : Nat, k ≤ n ∧ i = .int .i64 k ∧ ∃ q, wr = w.drewN q) (fun i _ => n - (intOf i).toNat)
  case atStart => exact ⟨0, Nat.zero_le _, rfl, 0, rfl⟩
  case round =>
    obtain ⟨k, hk, rfl, q, rfl⟩ := hrel
    by_cases hlt : k < n
    · obtain ⟨g1, rfl, x0, x1, x2⟩ := G1.out k (by rw [HN.out]; exact hlt)
      obtain ⟨g2, rfl, y0, y1, y2⟩ := G2.out k (by rw [HN.out]; exact hlt)
      have i0 : (0 : Int) ≤ (k : Int) := by omega
      have i1 : (k : Int) < (n : Int) := by omega
      generalize rs[k]'(by rw [HN.out]; exact hlt) = r at x0 x1 x2 y0 y1 y2
      generalize str r.pay = sp at x2 y2
      go_wp2
      go_quiet (fail)
      go_wp2
      go_roundw
      case rel => exact ⟨k + 1, by omega, by go_num, _, rfl⟩
      case measure => simp [intOf]; omega
    · go_wp2
      go_ret
      exact ⟨rfl, q, rfl⟩
/-- a row of records, cut at its beginning -/
theorem recsAtO_own {w : World} {base n : Nat} {g cap : Nat} {all : List Rec} (h : w.ownsRow base 92 3 (.slice (some ⟨g, 0, none⟩) n cap) n (recsV all)) (f c : Nat) (hf : f ≤ all.length) : RecsAtO w (.slice (some ⟨g, f * 3, none⟩) (all.length - f) c) (f * 3) (all.drop f) := by
  have hall := recsAt_own h
  obtain ⟨ao, cap2, e, H⟩ := hall
  refine ⟨_, c, by rw [List.length_drop], fun i hi => ⟨g, rfl, ?_⟩⟩
  rw [List.length_drop] at hi
  obtain ⟨g', e2, a1, a2, a3⟩ := H (f + i) (by omega)
  cases e
  cases e2
  rw [List.getElem_drop]
  have h1 : (f + i) * 3 = f * 3 + i * 3 := by omega
  rw [h1] at a1 a2 a3
  exact ⟨a1, a2, a3⟩
theorem recsSl_own {w : World} {base n : Nat} {v : Value} {rs : List Rec} (h : w.ownsRow base 92 3 v n (recsV rs)) : RecsSl w.heap.size w v rs := by
  have hl : rs.length = n := by have := h.1; rw [recsV_len] at this; omega
  have hlt := h.lt
  obtain ⟨ao, cap, e, H⟩ := recsAt_own h
  rcases h.2 with ⟨e1, h0⟩ | ⟨g, cap', cur, e1, hb, hg, rest⟩
  · left
    exact ⟨e1, List.eq_nil_of_length_eq_zero (by omega)⟩
  · right
    refine ⟨g, cap', by rw [e1, hl], (hlt g (by rw [e1]; rfl)).2, fun k r hk => ?_⟩
    obtain ⟨hk1, hk2⟩ := List.getElem?_eq_some_iff.1 hk
    obtain ⟨g2, e2, a1, a2, a3⟩ := H k hk1
    rw [e1] at e
    cases e
    cases e2
    rw [hk2] at a1 a2 a3
    exact ⟨a1, a2, a3⟩
end Go.Proofs.YtnnhihkeffljbaaGreatDoor
