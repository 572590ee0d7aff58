import Derived.Test.YtfkoflldjnlhaaaDoorEnc
import Derived.Test.YtfkoflldjnlhaaaDoorTold2
/- package plain: what it does to bytes that are handed in; DecodeMessage, EncodeMessage through it. -/
namespace Go.Proofs.YtfkoflldjnlhaaaDoor
open Go.RowKit
open Sc

set_option maxHeartbeats 400000 in
theorem scribble_some (base g n cap : Nat) (xs : List Value) (w : World) (hown : w.ownsRow base 5 1 (.slice (some ⟨g, 0, none⟩) n cap) n xs) (hn : n ≤ 1099511627776) :
    Calls Tryd.prog 24 #[.slice (some ⟨g, 0, none⟩) n cap] w fun e w' => e = .returned (.tuple #[]) ∧ w.grownBy w' (some g) := by
  go_enter Tryd.func24, Tryd.ntmps24
  go_wp2
  go_loopw [5] (fun i wr => ∃ k : Nat, k ≤ n ∧ i = .int .i64 k ∧ (∃ ys, wr.ownsRow base 5 1 (.slice (some ⟨g, 0, none⟩) n cap) n ys) ∧ w.grownBy wr (some g)) (fun i _ => n - (intOf i).toNat)
  case atStart => exact ⟨0, Nat.zero_le _, rfl, ⟨xs, hown⟩, grown_refl _ _⟩
  case round =>
    obtain ⟨k, hk, rfl, ⟨ys, hy⟩, hgr⟩ := hrel
    by_cases hlt : k < n
    · have hcx := hy.cellAt k (by omega)
      have hlen : k < ys.length := by have := hy.1; omega
      rw [List.getElem?_eq_getElem hlen] at hcx
      have hfx := hy.frozenAt k
      obtain ⟨hy2, hg2⟩ := hy.stored k (.int .u8 33)
      have HY : Hid ((wr.setCell ⟨g, k, none⟩ (.int .u8 33)).ownsRow base 5 1 (.slice (some ⟨g, 0, none⟩) n cap) n (ys.set k (.int .u8 33))) := hy2
      have HG : Hid (w.grownBy (wr.setCell ⟨g, k, none⟩ (.int .u8 33)) (some g)) := grown_trans hgr hg2
      clear hy hy2 hg2 hgr
      go_wp2
      go_roundw
      case rel => exact ⟨k + 1, by omega, by go_num, ⟨_, HY.out⟩, HG.out⟩
      case measure => simp [intOf]; omega
    · go_wp2
      go_end0
      exact ⟨rfl, hgr⟩
theorem scribble_nil (w : World) : Calls Tryd.prog 24 #[.slice none 0 0] w fun e w' => e = .returned (.tuple #[]) ∧ w' = w := by
  go_enter Tryd.func24, Tryd.ntmps24
  go_wp2
  refine wp_loop_rounds 1 ?_
  rw [rounds_succ]
  go_wp2
  go_end0
  exact ⟨rfl, rfl⟩
theorem scribble_own (base n : Nat) (v : Value) (xs : List Value) (w : World) (hown : w.ownsRow base 5 1 v n xs) (hn : n ≤ 1099511627776) (hb : base ≤ w.heap.size) :
    Calls Tryd.prog 24 #[v] w fun e w' => e = .returned (.tuple #[]) ∧ Below base w w' := by
  have h2 := hown.2
  rcases h2 with ⟨rfl, rfl⟩ | ⟨g, cap, cur, rfl, hg, _⟩
  · refine (scribble_nil w).mono ?_
    rintro e w' ⟨rfl, rfl⟩
    exact ⟨rfl, Below.refl _ _⟩
  · refine (scribble_some base g n cap xs w hown hn).mono ?_
    rintro e w' ⟨rfl, hgr⟩
    exact ⟨rfl, (Below.refl _ _).grown hgr hb (fun q hq => by cases hq; exact hg)⟩

/-- are these bytes just one message? what is read -/
def decOk (l : List Nat) : Bool := (l.length == 15) && msgOk l
def decV (l : List Nat) : Value := if decOk l = true then msgV (at_ l 0) (at_ l 1) (at_ l 2) (msgTxn l) else msgV 0 0 0 0
def decE (l : List Nat) : Int := if decOk l = true then 0 else 2
theorem decOk_len {l : List Nat} (h : l.length ≠ 15) : decOk l = false := by unfold decOk; simp [h]
theorem decOk_15 {l : List Nat} (h : l.length = 15) : decOk l = msgOk l := by unfold decOk; simp [h]
theorem decV_15 {l : List Nat} (h : l.length = 15) : decV l = readV l := by unfold decV readV; rw [decOk_15 h]
theorem decE_15 {l : List Nat} (h : l.length = 15) : decE l = readE l := by unfold decE readE; rw [decOk_15 h]
theorem decV_len {l : List Nat} (h : l.length ≠ 15) : decV l = .agg #[.int .i64 0, .int .i64 0, .int .i64 0, .int .u64 0] := by unfold decV; rw [decOk_len h]; rfl
theorem decE_len {l : List Nat} (h : l.length ≠ 15) : decE l = 2 := by unfold decE; rw [decOk_len h]; rfl

/-- wire.DecodeMessage at bytes of the call's own -/
theorem decode_own (base n : Nat) (v : Value) (l : List Nat) (w : World) (hown : w.ownsRow base 5 1 v n (bs l)) (hb : Byt l) :
    Calls Tryd.prog 31 #[v] w fun e w' => e = .returned (.tuple #[decV l, errV (decOk l)]) ∧ Below w.heap.size w w' := by
  have hlen := own_len hown
  by_cases h15 : n = 15
  · obtain ⟨g, cap, rfl, _, _, hc, hc2, hrow⟩ := own_shape hown (by omega)
    subst h15
    rw [decV_15 hlen, decOk_15 hlen]
    exact decode_15 g 0 cap l w hlen hb hc hc2 hrow
  · rw [decV_len (by omega), decOk_len (by omega), errV_no]
    have h2 := hown.2
    rcases h2 with ⟨rfl, rfl⟩ | ⟨g, cap, cur, rfl, hg, _⟩
    · exact decode_len none 0 0 w (by omega)
    · exact decode_len _ n cap w h15

end Go.Proofs.YtfkoflldjnlhaaaDoor
