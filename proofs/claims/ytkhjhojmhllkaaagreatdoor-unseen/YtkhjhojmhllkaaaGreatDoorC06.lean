import Derived.RangeFuncNested
import Derived.RangeFuncBox
import Derived.RangeFuncBound
import Derived.RangeFuncCalls
import Derived.RangeFuncLeaves
import Derived.Shelf.Abstract
import Derived.Shelf.RegionOpen
import Derived.WalkKit
import Derived.OwnWalkIn
import Derived.TacticsInMore
import Derived.LoopNIn
import Derived.LoopIn
import Derived.Maps.AppendAt
import Derived.Test.YtkhjhojmhllkaaaGreatDoorC05
/- (*Log).All and its walk; (*Host).Records. -/
namespace Go.Proofs.YtkhjhojmhllkaaaGreatDoor
open Go.RowKit Go.Shelf
open Sc

abbrev recA (r : Rec) : Value := .agg #[.int .u64 (r.lsn : Int), .int .u8 (r.kind : Int), .string (str r.pay)]
/-- the records in memory, in a block below n₀ -/
def RecsIn (W : World) (g : Nat) (rs : List Rec) : Prop :=
  ∀ k r, rs[k]? = some r → W.cell? ⟨g, k * 3, none⟩ = some (.int .u64 (r.lsn : Int)) ∧ W.cell? ⟨g, k * 3 + 1, none⟩ = some (.int .u8 (r.kind : Int)) ∧ W.cell? ⟨g, k * 3 + 2, none⟩ = some (.string (str r.pay))
theorem RecsIn.below {n₀ g : Nat} {A B : World} {rs : List Rec} (h : Below n₀ A B) (hg : g < n₀) (hr : RecsIn A g rs) : RecsIn B g rs := fun k r hk =>
  ⟨(h.cell (p := ⟨g, k * 3, none⟩) hg).trans (hr k r hk).1, (h.cell (p := ⟨g, k * 3 + 1, none⟩) hg).trans (hr k r hk).2.1, (h.cell (p := ⟨g, k * 3 + 2, none⟩) hg).trans (hr k r hk).2.2⟩
theorem take_succ_at {rs : List Rec} {k : Nat} {r : Rec} (h : rs[k]? = some r) : rs.take (k + 1) = rs.take k ++ [r] := by
  rw [List.take_add_one, h]; rfl
set_option maxRecDepth 100000 in
set_option maxHeartbeats 2000000 in
theorem all1_in (F : Fence) (n : Nat) (hF : F.fn 140) (hro : F.round = none) (hn : 1 ≤ n) (l Bn n₀ lp g cap : Nat) (rs : List Rec) (hg : g < n₀) (hlen : rs.length ≤ 67108864) (J Jx : List Rec → World → Prop)
    (hJ : ∀ s W W', J s W → W.grownBy W' none → J s W')
    (hY : ∀ pre x W, J pre W → pre.length < rs.length → YieldAt F (n - 1) Tryz.prog l #[recA x] W fun e W' =>
      (e = .returned (.bool true) ∧ J (pre ++ [x]) W' ∧ Below n₀ W W') ∨ (e = .returned (.bool false) ∧ Jx (pre ++ [x]) W'))
    (W : World) (hn0 : n₀ ≤ W.heap.size) (hBn : W.cell? ⟨Bn, 0, none⟩ = some (.pointer (some ⟨lp, 0, none⟩))) (h3 : W.cell? ⟨lp, 3, none⟩ = some (.slice (some ⟨g, 0, none⟩) rs.length cap)) (hR : RecsIn W g rs) (h0 : J [] W) :
    CallsIn F n Tryz.prog 140 #[.func (.yield l) #[] #[], .pointer (some ⟨Bn, 0, none⟩)] W fun e W' => (∃ v, e = .returned v) ∧
      ((∃ ys, ys = rs ∧ J ys W') ∨ (∃ pre, pre <+: rs ∧ Jx pre W')) := by
  obtain ⟨m, hm⟩ : ∃ m, m = rs.length := ⟨_, rfl⟩
  rw [← hm] at h3 hlen
  have HM : Hid (m = rs.length) := hm
  clear hm
  refine callsIn_of_wp Tryz.func140 rfl hF ?_ hro
  simp only [Tryz.ntmps140, List.size_toArray, List.length_cons, List.length_nil, Nat.reduceAdd, Nat.reduceSub, Array.replicate_succ, Array.replicate_zero, List.push_toArray, List.append_toArray, List.nil_append, List.cons_append]
  gi_wp2
  gi_loopw [10] (fun i wr => ∃ k : Nat, k ≤ m ∧ i = .int .i64 k ∧ J (rs.take k) wr ∧ Below n₀ W wr)
    (fun i _ => m - (intOf i).toNat)
  case atStart => exact ⟨0, Nat.zero_le _, rfl, by simpa using h0, Below.refl _ _⟩
  case round =>
    obtain ⟨k, hk, rfl, hJs, hnx⟩ := hrel
    by_cases hlt : k < m
    · obtain ⟨r, hr⟩ : ∃ r, rs[k]? = some r := ⟨_, List.getElem?_eq_getElem (by have := HM.out; omega)⟩
      obtain ⟨r1, r2, r3⟩ := hR.below hnx hg k r hr
      obtain ⟨W2, hW2⟩ : ∃ W2, W2 = wr.alloc (.cells #[.int .u64 (r.lsn : Int), .int .u8 (r.kind : Int), .string (str r.pay)] 103) := ⟨_, rfl⟩
      have hg2 : wr.grownBy W2 none := by rw [hW2]; exact World.grownBy_alloc wr _ none
      have hJ2 := hJ _ _ _ hJs hg2
      have hb2 : Below n₀ W W2 := by rw [hW2]; exact hnx.alloc (by have := hnx.size; omega) _
      obtain ⟨fn, tmps, assign, body, hy, hRR⟩ := hY _ r W2 hJ2 (by rw [List.length_take]; have := HM.out; omega)
      subst hW2
      gi_wp2
      refine hRR.mono ?_
      rintro e W3 (⟨rfl, hJ3, hk3⟩ | ⟨rfl, hJx3⟩)
      · gi_wp2
        go_roundw
        case rel => exact ⟨k + 1, by omega, by simp, by rw [take_succ_at hr]; exact hJ3, hb2.trans hk3⟩
        case measure => simp [intOf]; omega
      · gi_wp2
        refine bodyPost_ret (results_none rfl _ _ _) rfl ?_
        exact ⟨⟨_, rfl⟩, .inr ⟨_, by rw [← take_succ_at hr]; exact List.take_prefix _ _, hJx3⟩⟩
    · obtain rfl : k = m := by omega
      gi_wp2
      go_end0
      exact ⟨⟨_, rfl⟩, .inl ⟨_, by rw [HM.out, List.take_length], hJs⟩⟩
set_option maxRecDepth 100000 in
set_option maxHeartbeats 1000000 in
theorem all1_nil (F : Fence) (n : Nat) (hF : F.fn 140) (hro : F.round = none) (l Bn lp : Nat) (J : List Rec → World → Prop)
    (W : World) (hBn : W.cell? ⟨Bn, 0, none⟩ = some (.pointer (some ⟨lp, 0, none⟩))) (h3 : W.cell? ⟨lp, 3, none⟩ = some (.slice none 0 0)) (h0 : J [] W) :
    CallsIn F n Tryz.prog 140 #[.func (.yield l) #[] #[], .pointer (some ⟨Bn, 0, none⟩)] W fun e W' => (∃ v, e = .returned v) ∧ J [] W' := by
  refine callsIn_of_wp Tryz.func140 rfl hF ?_ hro
  simp only [Tryz.ntmps140, List.size_toArray, List.length_cons, List.length_nil, Nat.reduceAdd, Nat.reduceSub, Array.replicate_succ, Array.replicate_zero, List.push_toArray, List.append_toArray, List.nil_append, List.cons_append]
  gi_wp2
  gi_loopw [10] (fun i wr => i = .int .i64 0 ∧ J [] wr) (fun _ _ => 0)
  case atStart => exact ⟨rfl, h0⟩
  case round =>
    obtain ⟨rfl, hJs⟩ := hrel
    gi_wp2
    go_end0
    exact ⟨⟨_, rfl⟩, hJs⟩
set_option maxHeartbeats 1000000 in
theorem all_in (F : Fence) (n : Nat) (hF : F.fn 98) (hro : F.round = none) (p0 : Option Addr) (w : World) :
    CallsIn F n Tryz.prog 98 #[.pointer p0] w fun e w' => e = .returned (.func (.func 140) #[] #[.pointer (some ⟨w.heap.size, 0, none⟩)]) ∧ w' = w.alloc (.cells #[.pointer p0] 71) := by
  refine callsIn_of_wp Tryz.func98 rfl hF ?_ hro
  simp only [Tryz.ntmps98, List.size_toArray, List.length_cons, List.length_nil, Nat.reduceAdd, Nat.reduceSub, Array.replicate_succ, Array.replicate_zero, List.push_toArray, List.append_toArray, List.nil_append, List.cons_append]
  gi_wp2
  go_ret
  exact ⟨rfl, rfl⟩
/-- a slice value holds the records, in a block below n₀, or it is nil and there are none -/
def RecsSl (n₀ : Nat) (W : World) (v : Value) (rs : List Rec) : Prop :=
  (v = .slice none 0 0 ∧ rs = []) ∨ ∃ g cap, v = .slice (some ⟨g, 0, none⟩) rs.length cap ∧ g < n₀ ∧ RecsIn W g rs
theorem RecsSl.below {n₀ : Nat} {A B : World} {v : Value} {rs : List Rec} (h : Below n₀ A B) (hr : RecsSl n₀ A v rs) : RecsSl n₀ B v rs := by
  rcases hr with e | ⟨g, cap, e, hg, hr⟩
  · exact .inl e
  · exact .inr ⟨g, cap, e, hg, hr.below h hg⟩
theorem all_stops (F : Fence) (n : Nat) (hF : F.fn 140) (hro : F.round = none) (hn : 1 ≤ n) (Bn n₀ lp : Nat) (rv : Value) (rs : List Rec) (w : World) (hlen : rs.length ≤ 67108864) (hBl : Bn < w.heap.size) (hn₀ : n₀ ≤ w.heap.size) (hlp : lp < n₀)
    (hc : w.cell? ⟨Bn, 0, none⟩ = some (.pointer (some ⟨lp, 0, none⟩))) (h3 : w.cell? ⟨lp, 3, none⟩ = some rv) (hL : RecsSl n₀ w rv rs) :
    SeqStopsK F n Tryz.prog 140 #[.pointer (some ⟨Bn, 0, none⟩)] (fun x : Rec => #[recA x]) (Below n₀) (fun ys => ys = rs) (fun pre => pre <+: rs) rs.length w := fun l J Jx W hW hJ _ hY h0 => by
  have c1 := (hW.cell (p := ⟨Bn, 0, none⟩) hBl).trans hc
  have c2 := (hW.cell (p := ⟨lp, 3, none⟩) (by show lp < _; omega)).trans h3
  rcases hL.below (hW.mono hn₀) with ⟨rfl, rfl⟩ | ⟨g, cap, rfl, hg, hr⟩
  · refine (all1_nil F n hF hro l Bn lp J W c1 c2 h0).mono ?_
    rintro e W' ⟨he, hj⟩
    exact ⟨he, .inl ⟨[], rfl, hj⟩⟩
  · exact all1_in F n hF hro hn l Bn n₀ lp g cap rs hg hlen J Jx (fun s A B hs hgr => hJ s A B none hs hgr (fun r e => by cases e)) hY W (Nat.le_trans hn₀ hW.size) c1 c2 hr h0
theorem blk_cell' {w : World} {p : Nat} {c : Array Value} {t : TypeId} (h : w.heap[p]? = some (.cells c t (0, 0))) (i : Nat) : w.cell? ⟨p, i, none⟩ = c[i]? := by simp [World.cell?, h]
theorem Tryz.eqNilF (v : Array Value) (w : World) : (binOp .eql 155 (.func (.func 140) #[] v) .nilFunc).run Tryz.prog w = .ok (.bool false) w := by kernel_rfl
theorem cell_rec_new (w : World) (r : Rec) (t : TypeId) : ∀ j u, (recCells r)[j]? = some u → (w.alloc (.cells #[.int .u64 (r.lsn : Int), .int .u8 (r.kind : Int), .string (str r.pay)] t)).cell? ((⟨w.heap.size, 0, none⟩ : Addr).add j) = some u := by
  intro j u hj
  have hn : (w.alloc (.cells #[.int .u64 (r.lsn : Int), .int .u8 (r.kind : Int), .string (str r.pay)] t)).heap[w.heap.size]? = some (.cells #[.int .u64 (r.lsn : Int), .int .u8 (r.kind : Int), .string (str r.pay)] t (0, 0)) := World.alloc_heap_new w _
  match j, hj with
  | 0, hj => simp [recCells] at hj; subst hj; simp [Addr.add, blk_cell' hn]
  | 1, hj => simp [recCells] at hj; subst hj; simp [Addr.add, blk_cell' hn]
  | 2, hj => simp [recCells] at hj; subst hj; simp [Addr.add, blk_cell' hn]
theorem recCells_one (r : Rec) : ∀ u ∈ recCells r, u.oneCell' = true := by
  intro u hu; simp [recCells] at hu; rcases hu with rfl | rfl | rfl <;> rfl
set_option maxRecDepth 100000 in
set_option maxHeartbeats 2000000 in
theorem records_in (F : Fence) (n : Nat) (h1f : F.fn 52) (h2f : F.fn 98) (h3f : F.fn 140) (hro : F.round = none) (hn : 3 ≤ n) (hp lp : Nat) (rv : Value) (rs : List Rec) (hlen : rs.length ≤ 67108864) (w : World)
    (hh : w.cell? ⟨hp, 4, none⟩ = some (.pointer (some ⟨lp, 0, none⟩))) (hl : w.cell? ⟨lp, 3, none⟩ = some rv) (hlp : lp < w.heap.size) (hL : RecsSl w.heap.size w rv rs) :
    CallsIn F n Tryz.prog 52 #[.pointer (some ⟨hp, 0, none⟩), .int .i64 0] w fun e W' => ∃ v, e = .returned (.tuple #[v, .bool true]) ∧ W'.ownsRow w.heap.size 103 3 v rs.length (recsV rs) ∧ Below w.heap.size w W' := by
  have h1 : 1 ≤ n := by omega
  obtain ⟨i0, hi, hz0, hz1, hz2⟩ := info_parts Tryz.infoRec
  refine callsIn_of_wp_marks Tryz.func52 rfl h1f ?_ hro
  simp only [Tryz.ntmps52, List.size_toArray, List.length_cons, List.length_nil, Nat.reduceAdd, Nat.reduceSub, Array.replicate_succ, Array.replicate_zero, List.push_toArray, List.append_toArray, List.nil_append, List.cons_append]
  have hhp : hp < w.heap.size := World.block_lt_of_cell? w ⟨hp, 4, none⟩ hh
  have hh2 : (w.alloc (.cells #[.int .i64 0] 3)).cell? ⟨hp, 4, none⟩ = some (.pointer (some ⟨lp, 0, none⟩)) := by rw [World.cell?_alloc_lt _ _ ⟨hp, 4, none⟩ hhp]; exact hh
  have hnf := Tryz.eqNilF
  gi_wp2_with (gi_at_call 98; refine (all_in F (n - 1) h2f hro _ _).mono ?_; rintro e w' ⟨rfl, rfl⟩)
  have bL := Boxed.new w 3 (.int .i64 0)
  have bA := Boxed.new (w.alloc (.cells #[.int .i64 0] 3)) 71 (.pointer (some ⟨lp, 0, none⟩))
  rw [World.size_alloc] at bA
  have bO := Boxed.new ((w.alloc (.cells #[.int .i64 0] 3)).alloc (.cells #[.pointer (some ⟨lp, 0, none⟩)] 71)) 50 (.slice none 0 0)
  rw [World.size_alloc, World.size_alloc] at bO
  have bA1 := bA.alloc (.cells #[.slice none 0 0] 50)
  have bL1 := (bL.alloc (.cells #[.pointer (some ⟨lp, 0, none⟩)] 71)).alloc (.cells #[.slice none 0 0] 50)
  have hB0 : Below w.heap.size w (((w.alloc (.cells #[.int .i64 0] 3)).alloc (.cells #[.pointer (some ⟨lp, 0, none⟩)] 71)).alloc (.cells #[.slice none 0 0] 50)) := (((Below.refl _ w).alloc (Nat.le_refl _) _).alloc (by simp) _).alloc (by simp; omega) _
  have hsz : (((w.alloc (.cells #[.int .i64 0] 3)).alloc (.cells #[.pointer (some ⟨lp, 0, none⟩)] 71)).alloc (.cells #[.slice none 0 0] 50)).heap.size = w.heap.size + 3 := by simp
  obtain ⟨W0, hW0⟩ : ∃ W0, (((w.alloc (.cells #[.int .i64 0] 3)).alloc (.cells #[.pointer (some ⟨lp, 0, none⟩)] 71)).alloc (.cells #[.slice none 0 0] 50)) = W0 := ⟨_, rfl⟩
  rw [hW0] at bO bA1 bL1 hB0 hsz ⊢
  clear hW0 bL bA hh2
  refine wpIn_rangeFunc_ownH hro h1 (gf := 140) (lb := #[.pointer (some ⟨w.heap.size + 1, 0, none⟩)]) rfl h3f (enters_of Tryz.func140 (by kernel_rfl) rfl)
    (all_stops F (n - 1) h3f hro (by omega) (w.heap.size + 1) w.heap.size lp rv rs W0 hlen (by omega) (by omega) hlp bA1.cell ((hB0.cell (p := ⟨lp, 3, none⟩) hlp).trans hl) (hL.below hB0)) belowK_t (belowK_b (by omega)) (Below.refl _ _) (fun _ => rfl)
    (fun pre W => ((∃ v, Boxed W (w.heap.size + 1 + 1) 50 v ∧ W.ownsRow w.heap.size 103 3 v pre.length (recsV pre) ∧ True) ∧ Boxed W w.heap.size 3 (.int .i64 0)) ∧ Below w.heap.size w W)
    (fun _ _ _ => False)
    (OwnFrom.and (OwnFrom.and (Own.from (holdsRow_own w.heap.size (w.heap.size + 1 + 1) 50 103 3 (fun pre => pre.length) (fun pre => recsV pre) (fun _ _ => True)) _) (Own.from (boxed_own _ _ _) _)) (ownFrom_below (Nat.le_refl _) (by omega)))
    (fun _ _ _ _ _ hs _ _ => hs)
    ⟨⟨⟨_, bO, World.ownsRow_nil _ _ _ _, trivial⟩, bL1⟩, hB0⟩
    (fun x a' W => ∃ Bx, w.heap.size + 1 + 1 < Bx ∧ W.heap[Bx]? = some (.cells #[.int .u64 (x.lsn : Int), .int .u8 (x.kind : Int), .string (str x.pay)] 103 (0, 0)) ∧ a' = { tmps := #[.pointer (some ⟨hp, 0, none⟩), .int .i64 0, undef, .pointer (some ⟨w.heap.size, 0, none⟩), .slice none 0 0, .bool false, .func (.func 140) #[] #[.pointer (some ⟨w.heap.size + 1, 0, none⟩)], .pointer (some ⟨w.heap.size + 1 + 1, 0, none⟩), .pointer (some ⟨Bx, 0, none⟩), .pointer (some ⟨hp, 0, none⟩), .pointer (some ⟨hp, 0, none⟩), .pointer (some ⟨hp, 4, none⟩), .pointer (some ⟨lp, 0, none⟩), .bool false, .pointer (some ⟨hp, 0, none⟩), .pointer (some ⟨hp, 0, none⟩), .pointer (some ⟨hp, 4, none⟩), .pointer (some ⟨lp, 0, none⟩), .func (.func 140) #[] #[.pointer (some ⟨w.heap.size + 1, 0, none⟩)], .func (.func 140) #[] #[.pointer (some ⟨w.heap.size + 1, 0, none⟩)], .bool false, .func (.func 140) #[] #[.pointer (some ⟨w.heap.size + 1, 0, none⟩)], recA x, undef, undef, undef, undef, undef, undef, undef, undef, undef], defers := [] })
    (fun x a' _ X Y row hs hg hr => by
      obtain ⟨Bx, h1, h2, h3⟩ := hs
      exact ⟨Bx, h1, (hg.block Bx (Array.getElem?_eq_some_iff.1 h2).1 (fun e => by obtain ⟨_, o, ho, hc⟩ := hr Bx e.symm; rw [h2] at ho; cases ho; cases hc)).trans h2, h3⟩)
    ?assign ?body ?done ?stop
  case assign =>
    have hsem := @Oper.semAt_some
    rintro l pre x W K ⟨⟨⟨v, hv, hrow, _⟩, hb⟩, hB1⟩ hK
    gi_wp2
    exact hK _ _ ((KeepsOthers.alloc _ _).from _) ((Below.refl _ W).alloc hB1.size _) ⟨⟨⟨v, hv.alloc _, hrow.alloc _, trivial⟩, hb.alloc _⟩, hB1.alloc hB1.size _⟩ ⟨W.heap.size, hv.lt, World.alloc_heap_new W _, rfl⟩
  case body =>
    have hsem := @Oper.semAt_some
    rintro l pre x a' W hl2 _ ⟨⟨⟨v, hv, hrow, _⟩, hb⟩, hB⟩ ⟨Bx, hBx, bX, rfl⟩ hlt
    have hc := hv.cell
    have hcL := hb.cell
    have x0 := blk_cell' bX 0
    have x1 := blk_cell' bX 1
    have x2 := blk_cell' bX 2
    simp at x0 x1 x2
    gi_wp2_with (gi_at_builtin; refine wpListIn_append_own _ rfl _ _ 50 rfl w.heap.size 103 i0 _ 3 32 Tryz.underlying50 hi hz0 hz1 hz2 rfl (by decide) _ _ _ rfl (hrow.alloc _) ⟨W.heap.size, 0, none⟩ 1 1 (recCells x) rfl rfl (cell_rec_new _ _ _) (recCells_one x) (by unfold maxLen; omega) (by omega) (by have := hB.size; simp; omega) ?_; intro v' w1 hown' hgrow _; obtain ⟨g', cap', rfl⟩ := ownsRow_succ hown'; obtain ⟨hv1, hv2, hr2, hk2, hb2⟩ := hv.appended (by decide) hrow hB.size (by omega) hown' hgrow; have hc1 := hv1.cell; have hf1 := hv1.frozen; have hb3 := ((hb.alloc _).kept hgrow (hb.not_row (by decide) hrow)).other (B' := w.heap.size + 1 + 1) (by omega) (.slice (some ⟨g', 0, none⟩) (pre.length + 1) cap'); have hcl := hb3.cell; have hne : ¬ ((pre.length : Int) + 1 = 0) := by omega)
    exact ⟨hk2.from _, hb2, ⟨⟨_, hv2, by rw [recsV_snoc]; simpa using hr2, trivial⟩, hb3⟩, hB.trans hb2⟩
  case done =>
    rintro D ys W hD rfl ⟨⟨⟨v, hv, hrow, _⟩, _⟩, hB⟩ hK
    have hc := hv.cell
    gi_wp2
    refine ⟨by simp, .inl ⟨_, _, rfl, run_takeDeferred hK, ?_⟩⟩
    exact ⟨_, results_tmp2 rfl _ _ _, v, rfl, ownsRow_putObj hrow _ hK rfl, hB.trans (belowK_b (w := w) (Nat.le_refl _) W D _ _ (by omega) hK rfl rfl)⟩
  case stop =>
    rintro D c pre W _ _ h _
    exact h.elim
theorem records_any (hp lp : Nat) (rv : Value) (rs : List Rec) (hlen : rs.length ≤ 67108864) (w : World)
    (hh : w.cell? ⟨hp, 4, none⟩ = some (.pointer (some ⟨lp, 0, none⟩))) (hl : w.cell? ⟨lp, 3, none⟩ = some rv) (hlp : lp < w.heap.size) (hL : RecsSl w.heap.size w rv rs) :
    Calls Tryz.prog 52 #[.pointer (some ⟨hp, 0, none⟩), .int .i64 0] w fun e W' => ∃ v, e = .returned (.tuple #[v, .bool true]) ∧ W'.ownsRow w.heap.size 103 3 v rs.length (recsV rs) ∧ Below w.heap.size w W' :=
  (callsIn_wide (n := 3)).1 (records_in _ 3 trivial trivial trivial rfl (Nat.le_refl _) hp lp rv rs hlen w hh hl hlp hL)
end Go.Proofs.YtkhjhojmhllkaaaGreatDoor
