import Derived.RangeFuncNested
import Derived.RangeFuncBox
import Derived.RangeFuncBound
import Derived.RangeFuncCalls
import Derived.RangeFuncLeaves
import Derived.Shelf.Abstract
import Derived.Shelf.RegionOpen
import Derived.WalkKit
import Derived.OwnWalkIn
import Derived.TacticsInMore
import Derived.LoopNIn
import Derived.LoopIn
import Derived.Maps.AppendAt
import Derived.Test.YtejiankgafjppabGreatDoorC05
/- (*Log).All and its walk; (*Host).Records. -/
namespace Go.Proofs.YtejiankgafjppabGreatDoor
open Go.RowKit Go.Shelf
open Sc

abbrev recA (r : Rec) : Value := .agg #[.int .u64 (r.lsn : Int), .int .u8 (r.kind : Int), .string (str r.pay)]
/-- the records in memory, in a block below n₀ -/
def RecsIn (W : World) (g : Nat) (rs : List Rec) : Prop :=
  ∀ k r, rs[k]? = some r → W.cell? ⟨g, k * 3, none⟩ = some (.int .u64 (r.lsn : Int)) ∧ W.cell? ⟨g, k * 3 + 1, none⟩ = some (.int .u8 (r.kind : Int)) ∧ W.cell? ⟨g, k * 3 + 2, none⟩ = some (.string (str r.pay))
theorem RecsIn.below {n₀ g : Nat} {A B : World} {rs : List Rec} (h : Below n₀ A B) (hg : g < n₀) (hr : RecsIn A g rs) : RecsIn B g rs := fun k r hk =>
  ⟨(h.cell (p := ⟨g, k * 3, none⟩) hg).trans (hr k r hk).1, (h.cell (p := ⟨g, k * 3 + 1, none⟩) hg).trans (hr k r hk).2.1, (h.cell (p := ⟨g, k * 3 + 2, none⟩) hg).trans (hr k r hk).2.2⟩
theorem take_succ_at {rs : List Rec} {k : Nat} {r : Rec} (h : rs[k]? = some r) : rs.take (k + 1) = rs.take k ++ [r] := by
  rw [List.take_add_one, h]; rfl
set_option maxRecDepth 100000 in
set_option maxHeartbeats 2000000 in
theorem all1_in (F : Fence) (n : Nat) (hF : F.fn 293) (hro : F.round = none) (hn : 1 ≤ n) (l Bn n₀ lp g cap : Nat) (rs : List Rec) (hg : g < n₀) (hlen : rs.length ≤ 67108864) (J Jx : List Rec → World → Prop)
    (hJ : ∀ s W W', J s W → W.grownBy W' none → J s W')
    (hY : ∀ pre x W, J pre W → pre.length < rs.length → YieldAt F (n - 1) Tryz.prog l #[recA x] W fun e W' =>
      (e = .returned (.bool true) ∧ J (pre ++ [x]) W' ∧ Below n₀ W W') ∨ (e = .returned (.bool false) ∧ Jx (pre ++ [x]) W'))
    (W : World) (hn0 : n₀ ≤ W.heap.size) (hBn : W.cell? ⟨Bn, 0, none⟩ = some (.pointer (some ⟨lp, 0, none⟩))) (h3 : W.cell? ⟨lp, 3, none⟩ = some (.slice (some ⟨g, 0, none⟩) rs.length cap)) (hR : RecsIn W g rs) (h0 : J [] W) :
    CallsIn F n Tryz.prog 293 #[.func (.yield l) #[] #[], .pointer (some ⟨Bn, 0, none⟩)] W fun e W' => (∃ v, e = .returned v) ∧
      ((∃ ys, ys = rs ∧ J ys W') ∨ (∃ pre, pre <+: rs ∧ Jx pre W')) := by
  obtain ⟨m, hm⟩ : ∃ m, m = rs.length := ⟨_, rfl⟩
  rw [← hm] at h3 hlen
  have HM : Hid (m = rs.length) := hm
  clear hm
  refine callsIn_of_wp Tryz.func293 rfl hF ?_ hro
  simp only [Tryz.ntmps293, List.size_toArray, List.length_cons, List.length_nil, Nat.reduceAdd, Nat.reduceSub, Array.replicate_succ, Array.replicate_zero, List.push_toArray, List.append_toArray, List.nil_append, List.cons_append]
  gi_wp2
  gi_loopw [10] (fun i wr => ∃ k : Nat, k ≤ m ∧ i = .int .i64 k ∧ J (rs.take k) wr ∧ Below n₀ W wr)
    (fun i _ => m - (intOf i).toNat)
  case atStart => exact ⟨0, Nat.zero_le _, rfl, by simpa using h0, Below.refl _ _⟩
  case round =>
    obtain ⟨k, hk, rfl, hJs, hnx⟩ := hrel
    by_cases hlt : k < m
    · obtain ⟨r, hr⟩ : ∃ r, rs[k]? = some r := ⟨_, List.getElem?_eq_getElem (by have := HM.out; omega)⟩
      obtain ⟨r1, r2, r3⟩ := hR.below hnx hg k r hr
      obtain ⟨W2, hW2⟩ : ∃ W2, W2 = wr.alloc (.cells #[.int .u64 (r.lsn : Int), .int .u8 (r.kind : Int), .string (str r.pay)] 288) := ⟨_, rfl⟩
      have hg2 : wr.grownBy W2 none := by rw [hW2]; exact World.grownBy_alloc wr _ none
      have hJ2 := hJ _ _ _ hJs hg2
      have hb2 : Below n₀ W W2 := by rw [hW2]; exact hnx.alloc (by have := hnx.size; omega) _
      obtain ⟨fn, tmps, assign, body, hy, hRR⟩ := hY _ r W2 hJ2 (by rw [List.length_take]; have := HM.out; omega)
      subst hW2
      gi_wp2
      refine hRR.mono ?_
      rintro e W3 (⟨rfl, hJ3, hk3⟩ | ⟨rfl, hJx3⟩)
      · gi_wp2
        go_roundw
        case rel => exact ⟨k + 1, by omega, by simp, by rw [take_succ_at hr]; exact hJ3, hb2.trans hk3⟩
        case measure => simp [intOf]; omega
      · gi_wp2
        refine bodyPost_ret (results_none rfl _ _ _) rfl ?_
        exact ⟨⟨_, rfl⟩, .inr ⟨_, by rw [← take_succ_at hr]; exact List.take_prefix _ _, hJx3⟩⟩
    · obtain rfl : k = m := by omega
      gi_wp2
      go_end0
      exact ⟨⟨_, rfl⟩, .inl ⟨_, by rw [HM.out, List.take_length], hJs⟩⟩
set_option maxRecDepth 100000 in
set_option maxHeartbeats 1000000 in
theorem all1_nil (F : Fence) (n : Nat) (hF : F.fn 293) (hro : F.round = none) (l Bn lp : Nat) (J : List Rec → World → Prop)
    (W : World) (hBn : W.cell? ⟨Bn, 0, none⟩ = some (.pointer (some ⟨lp, 0, none⟩))) (h3 : W.cell? ⟨lp, 3, none⟩ = some (.slice none 0 0)) (h0 : J [] W) :
    CallsIn F n Tryz.prog 293 #[.func (.yield l) #[] #[], .pointer (some ⟨Bn, 0, none⟩)] W fun e W' => (∃ v, e = .returned v) ∧ J [] W' := by
  refine callsIn_of_wp Tryz.func293 rfl hF ?_ hro
  simp only [Tryz.ntmps293, List.size_toArray, List.length_cons, List.length_nil, Nat.reduceAdd, Nat.reduceSub, Array.replicate_succ, Array.replicate_zero, List.push_toArray, List.append_toArray, List.nil_append, List.cons_append]
  gi_wp2
  gi_loopw [10] (fun i wr => i = .int .i64 0 ∧ J [] wr) (fun _ _ => 0)
  case atStart => exact ⟨rfl, h0⟩
  case round =>
    obtain ⟨rfl, hJs⟩ := hrel
    gi_wp2
    go_end0
    exact ⟨⟨_, rfl⟩, hJs⟩
set_option maxHeartbeats 1000000 in
theorem all_in (F : Fence) (n : Nat) (hF : F.fn 244) (hro : F.round = none) (p0 : Option Addr) (w : World) :
    CallsIn F n Tryz.prog 244 #[.pointer p0] w fun e w' => e = .returned (.func (.func 293) #[] #[.pointer (some ⟨w.heap.size, 0, none⟩)]) ∧ w' = w.alloc (.cells #[.pointer p0] 82) := by
  refine callsIn_of_wp Tryz.func244 rfl hF ?_ hro
  simp only [Tryz.ntmps244, List.size_toArray, List.length_cons, List.length_nil, Nat.reduceAdd, Nat.reduceSub, Array.replicate_succ, Array.replicate_zero, List.push_toArray, List.append_toArray, List.nil_append, List.cons_append]
  gi_wp2
  go_ret
  exact ⟨rfl, rfl⟩
/-- a slice value holds the records, in a block below n₀, or it is nil and there are none -/
def RecsSl (n₀ : Nat) (W : World) (v : Value) (rs : List Rec) : Prop :=
  (v = .slice none 0 0 ∧ rs = []) ∨ ∃ g cap, v = .slice (some ⟨g, 0, none⟩) rs.length cap ∧ g < n₀ ∧ RecsIn W g rs
theorem RecsSl.below {n₀ : Nat} {A B : World} {v : Value} {rs : List Rec} (h : Below n₀ A B) (hr : RecsSl n₀ A v rs) : RecsSl n₀ B v rs := by
  rcases hr with e | ⟨g, cap, e, hg, hr⟩
  · exact .inl e
  · exact .inr ⟨g, cap, e, hg, hr.below h hg⟩
theorem all_stops (F : Fence) (n : Nat) (hF : F.fn 293) (hro : F.round = none) (hn : 1 ≤ n) (Bn n₀ lp : Nat) (rv : Value) (rs : List Rec) (w : World) (hlen : rs.length ≤ 67108864) (hBl : Bn < w.heap.size) (hn₀ : n₀ ≤ w.heap.size) (hlp : lp < n₀)
    (hc : w.cell? ⟨Bn, 0, none⟩ = some (.pointer (some ⟨lp, 0, none⟩))) (h3 : w.cell? ⟨lp, 3, none⟩ = some rv) (hL : RecsSl n₀ w rv rs) :
    SeqStopsK F n Tryz.prog 293 #[.pointer (some ⟨Bn, 0, none⟩)] (fun x : Rec => #[recA x]) (Below n₀) (fun ys => ys = rs) (fun pre => pre <+: rs) rs.length w := fun l J Jx W hW hJ _ hY h0 => by
  have c1 := (hW.cell (p := ⟨Bn, 0, none⟩) hBl).trans hc
  have c2 := (hW.cell (p := ⟨lp, 3, none⟩) (by show lp < _; omega)).trans h3
  rcases hL.below (hW.mono hn₀) with ⟨rfl, rfl⟩ | ⟨g, cap, rfl, hg, hr⟩
  · refine (all1_nil F n hF hro l Bn lp J W c1 c2 h0).mono ?_
    rintro e W' ⟨he, hj⟩
    exact ⟨he, .inl ⟨[], rfl, hj⟩⟩
  · exact all1_in F n hF hro hn l Bn n₀ lp g cap rs hg hlen J Jx (fun s A B hs hgr => hJ s A B none hs hgr (fun r e => by cases e)) hY W (Nat.le_trans hn₀ hW.size) c1 c2 hr h0
theorem blk_cell' {w : World} {p : Nat} {c : Array Value} {t : TypeId} (h : w.heap[p]? = some (.cells c t (0, 0))) (i : Nat) : w.cell? ⟨p, i, none⟩ = c[i]? := by simp [World.cell?, h]
theorem Tryz.eqNilF (v : Array Value) (w : World) : (binOp .eql 372 (.func (.func 293) #[] v) .nilFunc).run Tryz.prog w = .ok (.bool false) w := by kernel_rfl
theorem cell_rec_new (w : World) (r : Rec) (t : TypeId) : ∀ j u, (recCells r)[j]? = some u → (w.alloc (.cells #[.int .u64 (r.lsn : Int), .int .u8 (r.kind : Int), .string (str r.pay)] t)).cell? ((⟨w.heap.size, 0, none⟩ : Addr).add j) = some u := by
  intro j u hj
  have hn : (w.alloc (.cells #[.int .u64 (r.lsn : Int), .int .u8 (r.kind : Int), .string (str r.pay)] t)).heap[w.heap.size]? = some (.cells #[.int .u64 (r.lsn : Int), .int .u8 (r.kind : Int), .string (str r.pay)] t (0, 0)) := World.alloc_heap_new w _
  match j, hj with
  | 0, hj => simp [recCells] at hj; subst hj; simp [Addr.add, blk_cell' hn]
  | 1, hj => simp [recCells] at hj; subst hj; simp [Addr.add, blk_cell' hn]
  | 2, hj => simp [recCells] at hj; subst hj; simp [Addr.add, blk_cell' hn]
theorem recCells_one (r : Rec) : ∀ u ∈ recCells r, u.oneCell' = true := by
  intro u hu; simp [recCells] at hu; rcases hu with rfl | rfl | rfl <;> rfl
end Go.Proofs.YtejiankgafjppabGreatDoor
