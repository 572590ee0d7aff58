import Derived.Test.YtejiankgafjppabGreatDoorC33
import Derived.Test.YtejiankgafjppabGreatDoorC21
import Derived.Test.YtejiankgafjppabGreatDoorC16
import Derived.RangeFuncKeeps
import Derived.RangeFuncBound
import Derived.Shelf.Abstract
import Derived.Shelf.AbstractIn
import Derived.WalkKit
import Derived.OwnWalkIn
import Derived.TacticsInMore
import Derived.LoopNIn
import Derived.LoopIn
import Derived.RangeFuncNested
import Derived.RangeFuncBox
import Derived.RangeFuncCalls
import Derived.RangeFuncLeaves
import Derived.Shelf.RegionOpen
import Derived.Maps.AppendAt
import Derived.Test.YtejiankgafjppabGreatDoorC30
import Derived.Test.YtejiankgafjppabGreatDoorC32
/- slices.AppendSeq, Collect, Sorted at uint64. -/
namespace Go.Proofs.YtejiankgafjppabGreatDoor
open Go.RowKit Go.Maps Go.Shelf
open Sc

set_option maxRecDepth 100000 in
set_option maxHeartbeats 2000000 in
theorem appendSeqU_in (n : Nat) (hn : 3 ≤ n) (g : Nat) (lb : Array Value) (hFg : Fence.wide.fn g) (eg : ∀ args w, (callFunc g args).run Tryz.prog w = .ok (.enter g args) w) (S : List Nat → Prop) (N : Nat) (hN : N ≤ 67108864) (w : World)
    (hseq : SeqStopsK Fence.wide (n - 1) Tryz.prog g lb (fun x : Nat => #[.int .u64 (x : Int)]) KeepsWalks S (fun _ => True) N w) :
    CallsIn Fence.wide n Tryz.prog 285 #[.slice none 0 0, .func (.func g) #[] lb] w fun e w' => ∃ v ss, e = .returned v ∧ S ss ∧ w'.ownsRow w.heap.size 28 1 v ss.length (u64s ss) ∧ (v = .slice none 0 0 ↔ ss = []) ∧ Below w.heap.size w w' := by
  have h1 : 1 ≤ n := by omega
  have hro : Fence.wide.round = none := rfl
  obtain ⟨i0, hi, hz0, hz1, hz2⟩ := info_parts Tryz.infoU64
  refine callsIn_of_wp_marks Tryz.func285 rfl trivial ?_ hro
  simp only [Tryz.ntmps285, List.size_toArray, List.length_cons, List.length_nil, Nat.reduceAdd, Nat.reduceSub, Array.replicate_succ, Array.replicate_zero, List.push_toArray, List.append_toArray, List.nil_append, List.cons_append]
  gi_wp2
  have bO := Boxed.new w 220 (.slice none 0 0)
  have hB0 : Below w.heap.size w (w.alloc (.cells #[.slice none 0 0] 220)) := (Below.refl _ w).alloc (Nat.le_refl _) _
  have hsz : (w.alloc (.cells #[.slice none 0 0] 220)).heap.size = w.heap.size + 1 := by simp
  obtain ⟨W0, hW0⟩ : ∃ W0, (w.alloc (.cells #[.slice none 0 0] 220)) = W0 := ⟨_, rfl⟩
  rw [hW0] at bO hB0 hsz ⊢
  clear hW0
  refine wpIn_rangeFunc_ownH hro h1 (gf := g) (lb := lb) rfl hFg eg hseq walksK_t walksK_b hB0 (fun _ => rfl)
    (fun pre W => (∃ v, Boxed W w.heap.size 220 v ∧ W.ownsRow w.heap.size 28 1 v pre.length (u64s pre) ∧ (v = .slice none 0 0 ↔ pre = [])) ∧ Below w.heap.size w W)
    (fun _ _ _ => False)
    (OwnFrom.and (Own.from (holdsRow_own w.heap.size w.heap.size 220 28 1 (fun pre : List Nat => pre.length) (fun pre => u64s pre) (fun pre v => (v = .slice none 0 0 ↔ pre = []))) _) (ownFrom_below (Nat.le_refl _) (by omega)))
    (fun _ _ _ _ _ hs _ _ => hs)
    ⟨⟨_, bO, World.ownsRow_nil _ _ _ _, by simp⟩, hB0⟩
    (fun x a' W => a' = { tmps := #[.slice none 0 0, .func (.func g) #[] lb, .pointer (some ⟨w.heap.size, 0, none⟩), undef, .slice none 0 0, .int .u64 (x : Int), .func (.func g) #[] lb, .int .u64 (x : Int), undef, undef, undef, undef, undef], defers := [] })
    (fun x a' _ X Y row hs _ _ => hs)
    ?assign ?body ?done ?stop
  case assign =>
    have hsem := @Oper.semAt_some
    rintro l pre x W K hI hK
    gi_wp2
    exact hK _ _ (KeepsFrom.refl _ _) (KeepsWalks.refl _) hI rfl
  case body =>
    have hsem := @Oper.semAt_some
    rintro l pre x a' W hl2 _ ⟨⟨v, hv, hrow, hnil⟩, hB⟩ rfl hlt
    have hc := hv.cell
    have HNL : Hid (v = .slice none 0 0 ↔ pre = []) := hnil
    clear hnil
    gi_wp2_with (gi_at_builtin; refine wpListIn_append_own _ rfl _ _ 220 rfl w.heap.size 28 i0 _ 1 8 Tryz.underlying220 hi hz0 hz1 hz2 rfl (by decide) _ _ _ rfl (hrow.alloc _) ⟨W.heap.size, 0, none⟩ 1 1 [.int .u64 (x : Int)] rfl rfl (cells_new _ #[.int .u64 (x : Int)] _) (by intro u hu; simp at hu; subst hu; rfl) (by unfold maxLen; omega) (by omega) (by have := hB.size; simp; omega) ?_; intro v' w1 hown' hgrow _; obtain ⟨g', cap', rfl⟩ := ownsRow_succ hown'; obtain ⟨hv1, hv2, hr2, hk2, hb2⟩ := hv.appended (by decide) hrow hB.size (Nat.le_refl _) hown' hgrow; have hc1 := hv1.cell; have hf1 := hv1.frozen; have HW : Hid (KeepsWalks W (w1.setCell ⟨w.heap.size, 0, none⟩ (.slice (some ⟨g', 0, none⟩) (pre.length + 1) cap'))) := hk2.walks)
    exact ⟨hk2.from _, HW.out, ⟨_, hv2, by rw [u64s_snoc]; simpa using hr2, by simp⟩, hB.trans hb2⟩
  case done =>
    rintro D ys W hD hys ⟨⟨v, hv, hrow, hnil⟩, hB⟩ hK
    have hc := hv.cell
    have HNL : Hid (v = .slice none 0 0 ↔ ys = []) := hnil
    clear hnil
    gi_wp2
    refine ⟨by simp, .inl ⟨_, _, rfl, run_takeDeferred hK, ?_⟩⟩
    exact ⟨_, results_tmp rfl _ _ _, v, ys, rfl, hys, ownsRow_putObj hrow _ hK rfl, HNL.out, hB.trans (belowK_b (w := w) (Nat.le_refl _) W D _ _ (by omega) hK rfl rfl)⟩
  case stop =>
    rintro D c pre W _ _ h _
    exact h.elim
set_option maxHeartbeats 1000000 in
theorem collectU_in (n : Nat) (hn : 4 ≤ n) (g : Nat) (lb : Array Value) (hFg : Fence.wide.fn g) (eg : ∀ args w, (callFunc g args).run Tryz.prog w = .ok (.enter g args) w) (S : List Nat → Prop) (N : Nat) (hN : N ≤ 67108864) (w : World)
    (hseq : SeqStopsK Fence.wide (n - 1 - 1) Tryz.prog g lb (fun x : Nat => #[.int .u64 (x : Int)]) KeepsWalks S (fun _ => True) N w) :
    CallsIn Fence.wide n Tryz.prog 235 #[.func (.func g) #[] lb] w fun e w' => ∃ v ss, e = .returned v ∧ S ss ∧ w'.ownsRow w.heap.size 28 1 v ss.length (u64s ss) ∧ (v = .slice none 0 0 ↔ ss = []) ∧ Below w.heap.size w w' := by
  have h1 : 1 ≤ n := by omega
  have hro : Fence.wide.round = none := rfl
  have hf1 : Fence.wide.fn 285 := trivial
  have hA := appendSeqU_in (n - 1) (by omega) g lb hFg eg S N hN w hseq
  refine callsIn_of_wp Tryz.func235 rfl trivial ?_ hro
  simp only [Tryz.ntmps235, List.size_toArray, List.length_cons, List.length_nil, Nat.reduceAdd, Nat.reduceSub, Array.replicate_succ, Array.replicate_zero, List.push_toArray, List.append_toArray, List.nil_append, List.cons_append]
  gi_wp2_with (gi_at_call 285; refine hA.mono ?_; rintro e w1 ⟨v, ss, rfl, hS⟩)
  go_ret
  exact ⟨v, ss, rfl, hS⟩
set_option maxHeartbeats 2000000 in
theorem sortedU_in (n : Nat) (hn : 5 ≤ n) (g : Nat) (lb : Array Value) (hFg : Fence.wide.fn g) (eg : ∀ args w, (callFunc g args).run Tryz.prog w = .ok (.enter g args) w) (ks : List Nat) (N : Nat) (hN : N ≤ 12) (hks : ks.length ≤ N) (w : World)
    (hseq : SeqStopsK Fence.wide (n - 1 - 1 - 1) Tryz.prog g lb (fun x : Nat => #[.int .u64 (x : Int)]) KeepsWalks (fun ys => ys.Perm ks) (fun _ => True) N w) :
    CallsIn Fence.wide n Tryz.prog 193 #[.func (.func g) #[] lb] w fun e w' => ∃ v ss, e = .returned v ∧ ss.Perm ks ∧ ss.Pairwise (· ≤ ·) ∧ w'.ownsRow w.heap.size 28 1 v ss.length (u64s ss) ∧ (v = .slice none 0 0 ↔ ss = []) ∧ Below w.heap.size w w' := by
  have h1 : 1 ≤ n := by omega
  have hro : Fence.wide.round = none := rfl
  have hf1 : Fence.wide.fn 235 := trivial
  have hf2 : Fence.wide.fn 236 := trivial
  have hA := collectU_in (n - 1) (by omega) g lb hFg eg (fun ys => ys.Perm ks) N (by omega) w hseq
  clear hseq
  refine callsIn_of_wp Tryz.func193 rfl trivial ?_ hro
  simp only [Tryz.ntmps193, List.size_toArray, List.length_cons, List.length_nil, Nat.reduceAdd, Nat.reduceSub, Array.replicate_succ, Array.replicate_zero, List.push_toArray, List.append_toArray, List.nil_append, List.cons_append]
  gi_wp2_with (gi_at_call 235; refine hA.mono ?_; rintro e w1 ⟨v, ss, rfl, hS, hrow, hnil, hb⟩; have HX : Hid (ss.Perm ks ∧ w1.ownsRow w.heap.size 28 1 v ss.length (u64s ss) ∧ (v = .slice none 0 0 ↔ ss = []) ∧ Below w.heap.size w w1) := ⟨hS, hrow, hnil, hb⟩; clear hS hrow hnil hb)
  by_cases hz : ss = []
  · have hv := HX.out.2.2.1.2 hz
    subst hv
    refine ((callsIn_wide (n := n - 1)).2 (sortU_nil w1)).mono ?_
    rintro e w2 ⟨rfl, rfl⟩
    gi_wp2
    go_ret
    exact ⟨.slice none 0 0, ss, rfl, HX.out.1, by rw [hz]; exact List.Pairwise.nil, HX.out.2.1, ⟨fun _ => hz, fun _ => rfl⟩, HX.out.2.2.2⟩
  · have hpos : 0 < ss.length := List.length_pos_iff.2 hz
    obtain ⟨gg, cap, rfl⟩ := own_pos0 HX.out.2.1 hpos
    have hle : ss.length ≤ 12 := by rw [HX.out.1.length_eq]; omega
    refine ((callsIn_wide (n := n - 1)).2 (sortU_few w.heap.size gg ss.length cap ss w1 HX.out.2.1 rfl hle)).mono ?_
    rintro e w2 ⟨rfl, l', hs2, ha2⟩
    have HY : Hid (SrtIn w1 w2 w.heap.size gg ss.length cap ss l' ∧ AscTo l' ss.length) := ⟨hs2, ha2⟩
    clear hs2 ha2
    gi_wp2
    go_ret
    have hll : l'.length = ss.length := HY.out.1.perm.length_eq
    have hgl := (HX.out.2.1.lt gg rfl).1
    refine ⟨.slice (some ⟨gg, 0, none⟩) ss.length cap, l', rfl, HY.out.1.perm.trans HX.out.1, AscTo.pairwise (by rw [hll]; exact HY.out.2), by rw [hll]; exact HY.out.1.row, ⟨fun e => by simp at e, fun e => by rw [e] at hll; simp at hll; omega⟩, HX.out.2.2.2.trans ?_⟩
    have hf := HY.out.1.fr
    exact ⟨hf.os, hf.tape, hf.output, hf.size, fun k hk => hf.block k (by have := HX.out.2.2.2.size; omega) (by simp; omega)⟩
end Go.Proofs.YtejiankgafjppabGreatDoor
/- order.ByKeys at map[uint64]shard.transaction. (Written by mkbyu.py.) -/
namespace Go.Proofs.YtejiankgafjppabGreatDoor
open Go.RowKit Go.Maps Go.Shelf
open Sc

theorem sortedKeysT (n : Nat) (hn : 5 ≤ n) (b m : Nat) (L : List (Nat × ATxn)) (hl : L.length ≤ 12) (w : World) (hL : MapAs KU ET w b m L) :
    CallsIn Fence.wide n Tryz.prog 193 #[.func (.func 284) #[] #[.pointer (some ⟨w.heap.size, 0, none⟩)]] (w.alloc (.cells #[.map (some b)] 133)) fun e w' => ∃ v ss, e = .returned v ∧ ss.Perm (L.map (·.1)) ∧ ss.Pairwise (· ≤ ·) ∧ w'.ownsRow w.heap.size 28 1 v L.length (u64s ss) ∧ (v = .slice none 0 0 ↔ L.length = 0) ∧ Below w.heap.size w w' := by
  have hb0 : Below w.heap.size w (w.alloc (.cells #[.map (some b)] 133)) := (Below.refl _ w).alloc (Nat.le_refl _) _
  have hL1 : MapAs KU ET (w.alloc (.cells #[.map (some b)] 133)) b m L := hL.fr ((Fr.refl [] w).alloc _) (by simp)
  have hs := keysT_stops (n - 1 - 1 - 1) (by omega) w.heap.size b m L _ (by simp) (by rw [cell_blk0 (World.alloc_heap_new w (.cells #[.map (some b)] 133))]; rfl) hL1
  refine (sortedU_in n hn _ _ trivial (enters_of Tryz.func284 (by kernel_rfl) rfl) (L.map (·.1)) L.length hl (by simp) _ hs).mono ?_
  rintro e w' ⟨v, ss, rfl, h1, h2, h3, h4, h5⟩
  have hlen : ss.length = L.length := by rw [h1.length_eq, List.length_map]
  rw [hlen] at h3
  refine ⟨v, ss, rfl, h1, h2, own_base0 h3 (by simp), ?_, hb0.trans (h5.mono (by simp))⟩
  rw [h4, ← hlen]; exact List.length_eq_zero_iff.symm
abbrev elT (g : ATxn) : List Value := [.int .i64 (g.state : Int), .int .i64 (g.done : Int), .int .u64 (g.last : Int)]
def elsT (l : List ATxn) : List Value := l.flatMap elT
theorem elsT_snoc (l : List ATxn) (g : ATxn) : elsT (l ++ [g]) = elsT l ++ elT g := by simp [elsT]
theorem elsT_at : ∀ (l : List ATxn) (k : Nat) (g : ATxn), l[k]? = some g → (elsT l)[k * 3]? = some (.int .i64 (g.state : Int)) ∧ (elsT l)[k * 3 + 1]? = some (.int .i64 (g.done : Int)) ∧ (elsT l)[k * 3 + 2]? = some (.int .u64 (g.last : Int))
  | [], k, g, h => by simp at h
  | x :: l, 0, g, h => by simp at h; subst h; simp [elsT]
  | x :: l, k + 1, g, h => by
    have := elsT_at l k g (by simpa using h)
    simp only [elsT, List.flatMap_cons] at this ⊢
    rw [show (k + 1) * 3 = k * 3 + 1 + 1 + 1 by omega]
    simpa using this
theorem Tryz.infoBT : (Tryz.prog.info? 206).map (fun i => (i.zero, i.size, i.bytes)) = some (some (.agg #[.int .i64 0, .int .i64 0, .int .u64 0]), 3, 24) := by kernel_rfl
theorem Tryz.lenUT (p : Option Addr) (n c : Nat) (w : World) : (Builtin.len_ #[220] 3 #[.slice p n c]).run Tryz.prog w = .ok (.int .i64 n) w := by simp [Builtin.len_, run_underlying Tryz.underlying220, goInt]
/-- what a map holds, by these keys -/
def atT (L : List (Nat × ATxn)) (ss : List Nat) : List (Nat × ATxn) := ss.map fun k => (k, (alLook L k).getD ⟨0, 0, 0⟩)
set_option maxRecDepth 100000 in
set_option maxHeartbeats 4000000 in
theorem byKeysT_in (n : Nat) (hn : 6 ≤ n) (l Bn b m : Nat) (L : List (Nat × ATxn)) (hl12 : L.length ≤ 12) (W : World) (Kp : World → World → Prop) (Pk : Nat → World → Prop)
    (hP0 : ∀ k A, W.heap.size ≤ k → Below W.heap.size W A → Pk k A)
    (hP2 : ∀ k A B c t, (t = 28 ∨ t = 206) → Kp A B → A.heap[k]? = some (.cells c t (0, 0)) → Pk k A → B.heap[k]? = A.heap[k]? ∧ Pk k B)
    (J Jx : List (Nat × ATxn) → World → Prop)
    (hJ : ∀ s A B, J s A → A.grownBy B none → J s B)
    (hY : ∀ pre x W1, J pre W1 → pre.length < L.length → x ∈ L → YieldAt Fence.wide (n - 1) Tryz.prog l #[.int .u64 (x.1 : Int), .agg #[.int .i64 (x.2.state : Int), .int .i64 (x.2.done : Int), .int .u64 (x.2.last : Int)]] W1 fun e W' =>
      (e = .returned (.bool true) ∧ J (pre ++ [x]) W' ∧ Kp W1 W') ∨ (e = .returned (.bool false) ∧ Jx (pre ++ [x]) W'))
    (hBn : W.cell? ⟨Bn, 0, none⟩ = some (.map (some b))) (hL : MapAs KU ET W b m L) (h0 : J [] W) :
    CallsIn Fence.wide n Tryz.prog 233 #[.func (.yield l) #[] #[], .pointer (some ⟨Bn, 0, none⟩)] W fun e W' => (∃ v, e = .returned v) ∧
      ((∃ ss, ss.Perm (L.map (·.1)) ∧ ss.Pairwise (· ≤ ·) ∧ J (atT L ss) W') ∨ (∃ pre, True ∧ Jx pre W')) := by
  have hBl : Bn < W.heap.size := World.block_lt_of_cell? W ⟨Bn, 0, none⟩ hBn
  have cK := keysT_fn (n - 1) b W
  have cS := sortedKeysT (n - 1) (by omega) b m L hl12 W hL
  obtain ⟨i0, hi, hz0, hz1, hz2⟩ := info_parts Tryz.infoBT
  have hfK : Fence.wide.fn 234 := trivial
  have hfS : Fence.wide.fn 193 := trivial
  have hfM : Fence.wide.fn 233 := trivial
  have hro : Fence.wide.round = none := rfl
  have h1 : 1 ≤ n := by omega
  have hlenS := Tryz.lenUT
  have HL : Hid (MapAs KU ET W b m L) := hL
  have HB : Hid (Bn < W.heap.size ∧ W.cell? ⟨Bn, 0, none⟩ = some (.map (some b))) := ⟨hBl, hBn⟩
  obtain ⟨m0, hm0⟩ : ∃ m0, m0 = L.length := ⟨_, rfl⟩
  have HM : Hid (m0 = L.length) := hm0
  rw [← hm0] at cS hl12
  have hm00 : m0 ≤ 67108864 := by omega
  clear hL hm0
  refine callsIn_of_wp Tryz.func233 rfl hfM ?_ hro
  simp only [Tryz.ntmps233, List.size_toArray, List.length_cons, List.length_nil, Nat.reduceAdd, Nat.reduceSub, Array.replicate_succ, Array.replicate_zero, List.push_toArray, List.append_toArray, List.nil_append, List.cons_append]
  gi_wp2_with (first
    | (gi_at_call 234; refine cK.mono ?_; rintro e w0 ⟨rfl, rfl⟩)
    | (gi_at_call 193; refine cS.mono ?_; rintro e w1 ⟨v, ss, rfl, hpm, hpw, hrow, hnil, hb1⟩; obtain ⟨pp, cap, rfl⟩ := own_form0 hrow; have HR : Hid (w1.ownsRow W.heap.size 28 1 (.slice pp m0 cap) m0 (u64s ss) ∧ (Value.slice pp m0 cap = .slice none 0 0 ↔ m0 = 0)) := ⟨hrow, hnil⟩; have HPM : Hid (ss.Perm (L.map (·.1)) ∧ ss.Pairwise (· ≤ ·)) := ⟨hpm, hpw⟩; clear hrow hnil hpm hpw))
  clear cK cS
  have HB1 : Hid (Below W.heap.size W w1) := hb1
  have HJ1 : Hid (∀ A, Below W.heap.size W A → J [] A) := fun A hA => hJ [] W A h0 ⟨hA.os, hA.tape, hA.output, hA.size, fun k hk _ => hA.block k hk⟩
  have HSL : Hid (ss.length = m0) := by show _ = _; rw [HPM.out.1.length_eq, List.length_map, HM.out]
  clear hb1 hBn
  by_cases hm1 : m0 = 0
  · subst hm1
    obtain ⟨rfl, rfl⟩ : pp = none ∧ cap = 0 := by have := HR.out.2.2 rfl; simpa using this
    clear HR
    have HE : Hid (ss = []) := List.length_eq_zero_iff.1 HSL.out
    gi_loopw [14] (fun i wr => i = .int .i64 0 ∧ wr = w1) (fun _ _ => 0)
    case atStart => exact ⟨rfl, rfl⟩
    case round =>
      obtain ⟨rfl, rfl⟩ := hrel
      gi_wp2
      gi_loopw [27] (fun i wr2 => i = .int .i64 0 ∧ wr2 = wr) (fun _ _ => 0)
      case atStart => exact ⟨rfl, rfl⟩
      case round =>
        obtain ⟨rfl, rfl⟩ := hrel
        gi_wp2
        go_end0
        exact ⟨⟨_, rfl⟩, .inl ⟨ss, HPM.out.1, HPM.out.2, by rw [HE.out]; exact HJ1.out _ HB1.out⟩⟩
  obtain ⟨g, rfl⟩ : ∃ g, pp = some ⟨g, 0, none⟩ := by obtain ⟨g, cap', e⟩ := own_pos0 HR.out.1 (by omega); exact ⟨g, by simp at e; exact e.1⟩
  have hrow := HR.out.1
  have HK : Hid (∃ cur, w1.heap[g]? = some (.cells cur 28 (0, 0)) ∧ W.heap.size ≤ g ∧ ∀ (k x : Nat), ss[k]? = some x → cur[k]? = some (Value.int .u64 (x : Int))) := by
    rcases hrow.2 with ⟨_, h3⟩ | ⟨g', cap', cur, e, hb, hg, _, _, hsz, htk⟩
    · omega
    · obtain ⟨e1, e2⟩ : g = g' ∧ cap = cap' := by simpa using e
      subst e1
      refine ⟨cur, hg, hb, fun k x hk => ?_⟩
      have hkl : k < m0 := by have := (List.getElem?_eq_some_iff.1 hk).1; have := HSL.out; omega
      have : (cur.toList.take (m0 * 1))[k]? = some (.int .u64 (x : Int)) := by rw [htk]; unfold u64s; rw [List.getElem?_map, hk]; rfl
      rw [List.getElem?_take_of_lt (by omega)] at this
      simpa using this
  clear hrow HR
  obtain ⟨vs, hvs⟩ : ∃ vs : List ATxn, vs = ss.map fun k => (alLook L k).getD ⟨0, 0, 0⟩ := ⟨_, rfl⟩
  have HV : Hid (vs = ss.map fun k => (alLook L k).getD ⟨0, 0, 0⟩) := hvs
  clear hvs
  have HG : Hid (g < w1.heap.size) := by obtain ⟨cur, hg, _⟩ := HK.out; exact (Array.getElem?_eq_some_iff.1 hg).1
  have HIN : Hid (∀ k ∈ ss, ∃ v, (k, v) ∈ L ∧ k < 18446744073709551616 ∧ (alLook L k).getD ⟨0, 0, 0⟩ = v) := fun k hk => by
    obtain ⟨p, hp, e⟩ := List.mem_map.1 (HPM.out.1.mem_iff.1 hk)
    obtain ⟨_, _, _, ho1, hok⟩ := HL.out
    obtain ⟨p1, p2⟩ := p
    simp at e
    subst e
    exact ⟨p2, hp, (hok _ hp).1, by rw [alLook_of ho1 hp]; rfl⟩
  gi_loopw [14, 4] (fun i v wr => ∃ k : Nat, k ≤ m0 ∧ i = .int .i64 k ∧ Hid (wr.ownsRow w1.heap.size 206 3 v k (elsT (vs.take k)) ∧ Below w1.heap.size w1 wr))
    (fun i _ _ => m0 - (intOf i).toNat)
  case atStart => exact ⟨0, Nat.zero_le _, rfl, World.ownsRow_nil _ _ _ _, Below.refl _ _⟩
  case round =>
    obtain ⟨k, hk, rfl, hR⟩ := hrel
    by_cases hlt : k < m0
    · obtain ⟨x, hx⟩ : ∃ x, ss[k]? = some x := ⟨_, List.getElem?_eq_getElem (by have := HSL.out; omega)⟩
      obtain ⟨y, hy⟩ : ∃ y, y = (alLook L x).getD ⟨0, 0, 0⟩ := ⟨_, rfl⟩
      have hbW : Below W.heap.size W wr := HB1.out.trans (hR.out.2.mono HB1.out.size)
      have ck : wr.cell? ⟨g, k, none⟩ = some (.int .u64 (x : Int)) := by
        obtain ⟨cur, hg, _, hc⟩ := HK.out
        have := (hR.out.2.block g HG.out).trans hg
        rw [cell_blk0 this]
        exact hc k x hx
      have cB : wr.cell? ⟨Bn, 0, none⟩ = some (.map (some b)) := (hbW.cell (p := ⟨Bn, 0, none⟩) HB.out.1).trans HB.out.2
      have hxs : x < 18446744073709551616 := by
        obtain ⟨_, _, h, _⟩ := HIN.out x (List.mem_of_getElem? hx)
        exact h
      have hlk := (HL.out.fr (S := []) ⟨hbW.os, hbW.tape, hbW.output, hbW.size, fun k hk _ => hbW.block k hk⟩ (by simp)).look Tryz.underlying133 (zeroTxn wr) trivial (k := x) hxs
      rw [← hy] at hlk
      have HY : Hid (y = (alLook L x).getD ⟨0, 0, 0⟩ ∧ ss[k]? = some x) := ⟨hy, hx⟩
      clear hy hx
      change (Instr.lookup _ _ (.int .u64 (x : Int)) false).run _ _ = .ok (.agg #[.int .i64 (y.state : Int), .int .i64 (y.done : Int), .int .u64 (y.last : Int)]) _ at hlk
      have hsz := hR.out.2.size
      have HT : Hid (vs.take (k + 1) = vs.take k ++ [y]) := by
        show _ = _
        rw [HV.out, List.take_add_one, List.getElem?_map, HY.out.2, HY.out.1]; rfl
      gi_wp2_with (gi_at_builtin; refine wpListIn_append_own _ rfl _ _ 361 rfl w1.heap.size 206 i0 _ 3 24 Tryz.underlying361 hi hz0 hz1 hz2 rfl (by decide) _ k _ rfl (hR.out.1.alloc _) ⟨wr.heap.size, 0, none⟩ 1 1 (elT y) rfl rfl (cells_new _ #[.int .i64 (y.state : Int), .int .i64 (y.done : Int), .int .u64 (y.last : Int)] _) (by intro u hu; simp [elT] at hu; rcases hu with rfl | rfl | rfl <;> rfl) (by unfold maxLen; omega) (by omega) (by simp; omega) ?_; intro v' w2 hown' hgrow _)
      go_roundw
      case rel =>
        refine ⟨k + 1, by omega, by simp, by rw [HT.out, elsT_snoc]; exact hown', ?_⟩
        exact ((hR.out.2.alloc hsz _).grown hgrow (by simp; omega) (fun j hj => (hR.out.1.lt j hj).1))
      case measure => simp [intOf]; omega
    · obtain rfl : k = m0 := by omega
      obtain ⟨g2, cap2, rfl⟩ := own_pos0 hR.out.1 (by omega)
      have HK2 : Hid (∃ cur2, wr.heap[g2]? = some (.cells cur2 206 (0, 0)) ∧ W.heap.size ≤ g2 ∧ ∀ (j : Nat) (y : ATxn), vs[j]? = some y → cur2[j * 3]? = some (Value.int .i64 (y.state : Int)) ∧ cur2[j * 3 + 1]? = some (Value.int .i64 (y.done : Int)) ∧ cur2[j * 3 + 2]? = some (Value.int .u64 (y.last : Int))) := by
        rcases hR.out.1.2 with ⟨_, h3⟩ | ⟨g', cap', cur, e, hb, hg, _, _, hsz, htk⟩
        · omega
        · obtain ⟨e1, e2⟩ : g2 = g' ∧ cap2 = cap' := by simpa using e
          subst e1
          have hvl : vs.length = k := by rw [HV.out, List.length_map, HSL.out]
          refine ⟨cur, hg, Nat.le_trans HB1.out.size hb, fun j y hj => ?_⟩
          have hjk : j < k := by have := (List.getElem?_eq_some_iff.1 hj).1; omega
          have e3 : vs.take k = vs := List.take_of_length_le (by omega)
          rw [e3] at htk
          have hat := elsT_at vs j y hj
          rw [← htk] at hat
          rw [List.getElem?_take_of_lt (by omega), List.getElem?_take_of_lt (by omega), List.getElem?_take_of_lt (by omega)] at hat
          simpa using hat
      obtain ⟨cur, hgc, hgW, hcs⟩ := HK.out
      obtain ⟨cur2, hgc2, hgW2, hcs2⟩ := HK2.out
      have hgr := (hR.out.2.block g HG.out).trans hgc
      have hbW : Below W.heap.size W wr := HB1.out.trans (hR.out.2.mono HB1.out.size)
      have HC : Hid ((∀ (k x : Nat), ss[k]? = some x → cur[k]? = some (Value.int .u64 (x : Int))) ∧ ∀ (j : Nat) (y : ATxn), vs[j]? = some y → cur2[j * 3]? = some (Value.int .i64 (y.state : Int)) ∧ cur2[j * 3 + 1]? = some (Value.int .i64 (y.done : Int)) ∧ cur2[j * 3 + 2]? = some (Value.int .u64 (y.last : Int))) := ⟨hcs, hcs2⟩
      have HS : Hid (J [] wr ∧ wr.heap[g]? = some (.cells cur 28 (0, 0)) ∧ Pk g wr ∧ wr.heap[g2]? = some (.cells cur2 206 (0, 0)) ∧ Pk g2 wr) := ⟨HJ1.out _ hbW, hgr, hP0 _ _ hgW hbW, hgc2, hP0 _ _ hgW2 hbW⟩
      clear HK HK2 hgc hcs hgc2 hcs2 hgr hbW hP0
      gi_wp2
      gi_loopw [27] (fun i wr => ∃ j : Nat, j ≤ k ∧ i = .int .i64 j ∧ Hid (J ((atT L ss).take j) wr ∧ wr.heap[g]? = some (.cells cur 28 (0, 0)) ∧ Pk g wr ∧ wr.heap[g2]? = some (.cells cur2 206 (0, 0)) ∧ Pk g2 wr))
        (fun i _ => k - (intOf i).toNat)
      case atStart => exact ⟨0, Nat.zero_le _, rfl, by rw [List.take_zero]; exact HS.out⟩
      case round =>
        obtain ⟨j, hj, rfl, hQ⟩ := hrel
        by_cases hlt2 : j < k
        · obtain ⟨x, hx⟩ : ∃ x, ss[j]? = some x := ⟨_, List.getElem?_eq_getElem (by have := HSL.out; omega)⟩
          obtain ⟨y, hy⟩ : ∃ y, y = (alLook L x).getD ⟨0, 0, 0⟩ := ⟨_, rfl⟩
          have hvy : vs[j]? = some y := by rw [HV.out, List.getElem?_map, hx, hy]; rfl
          have hxy : (x, y) ∈ L := by
            obtain ⟨v, hv, _, e⟩ := HIN.out x (List.mem_of_getElem? hx)
            rw [hy, e]; exact hv
          have HXY : Hid ((atT L ss).take (j + 1) = (atT L ss).take j ++ [(x, y)]) := by
            show _ = _
            rw [List.take_add_one]
            unfold atT
            rw [List.getElem?_map, hx, hy]; rfl
          have cx : wr.cell? ⟨g, j, none⟩ = some (.int .u64 (x : Int)) := by rw [cell_blk0 hQ.out.2.1]; exact HC.out.1 j x hx
          have cy0 : wr.cell? ⟨g2, j * 3, none⟩ = some (.int .i64 (y.state : Int)) := by rw [cell_blk0 hQ.out.2.2.2.1]; exact (HC.out.2 j y hvy).1
          have cy1 : wr.cell? ⟨g2, j * 3 + 1, none⟩ = some (.int .i64 (y.done : Int)) := by rw [cell_blk0 hQ.out.2.2.2.1]; exact (HC.out.2 j y hvy).2.1
          have cy2 : wr.cell? ⟨g2, j * 3 + 2, none⟩ = some (.int .u64 (y.last : Int)) := by rw [cell_blk0 hQ.out.2.2.2.1]; exact (HC.out.2 j y hvy).2.2
          obtain ⟨fn, tmps, assign, body, hy2, hRR⟩ := hY _ (x, y) wr hQ.out.1 (by rw [List.length_take, ← HM.out]; omega) hxy
          clear hx hy hvy hxy
          gi_wp2
          refine hRR.mono ?_
          rintro e W3 (⟨rfl, hJ3, hk3⟩ | ⟨rfl, hJx3⟩)
          · have p1 := hP2 _ _ _ _ _ (.inl rfl) hk3 hQ.out.2.1 hQ.out.2.2.1
            have p2 := hP2 _ _ _ _ _ (.inr rfl) hk3 hQ.out.2.2.2.1 hQ.out.2.2.2.2
            have HN : Hid (J ((atT L ss).take (j + 1)) W3 ∧ W3.heap[g]? = some (.cells cur 28 (0, 0)) ∧ Pk g W3 ∧ W3.heap[g2]? = some (.cells cur2 206 (0, 0)) ∧ Pk g2 W3) := ⟨by rw [HXY.out]; exact hJ3, p1.1.trans hQ.out.2.1, p1.2, p2.1.trans hQ.out.2.2.2.1, p2.2⟩
            clear p1 p2 hJ3 hk3
            gi_wp2
            go_roundw
            case rel => exact ⟨j + 1, by omega, by simp, HN.out⟩
            case measure => simp [intOf]; omega
          · gi_wp2
            refine bodyPost_ret (results_none rfl _ _ _) rfl ?_
            exact ⟨⟨_, rfl⟩, .inr ⟨_, trivial, hJx3⟩⟩
        · obtain rfl : j = k := by omega
          gi_wp2
          go_end0
          refine ⟨⟨_, rfl⟩, .inl ⟨ss, HPM.out.1, HPM.out.2, ?_⟩⟩
          have e : (atT L ss).take j = atT L ss := by
            rw [List.take_of_length_le]
            unfold atT
            rw [List.length_map, HSL.out]
            exact Nat.le_refl _
          rw [← e]
          exact hQ.out.1
/-- the walk, as whoever ranges over it has it -/
theorem byKeysT_stops (n : Nat) (hn : 6 ≤ n) (Bn b m : Nat) (L : List (Nat × ATxn)) (hl12 : L.length ≤ 12) (w : World) (hBl : Bn < w.heap.size) (hBn : w.cell? ⟨Bn, 0, none⟩ = some (.map (some b))) (hL : MapAs KU ET w b m L)
    (Kp : World → World → Prop) (Pk : Nat → World → Prop)
    (hP0 : ∀ W k A, Below w.heap.size w W → W.heap.size ≤ k → Below W.heap.size W A → Pk k A)
    (hP2 : ∀ k A B c t, (t = 28 ∨ t = 206) → Kp A B → A.heap[k]? = some (.cells c t (0, 0)) → Pk k A → B.heap[k]? = A.heap[k]? ∧ Pk k B) :
    SeqStopsK Fence.wide n Tryz.prog 233 #[.pointer (some ⟨Bn, 0, none⟩)] (fun y : { x : Nat × ATxn // x ∈ L } => #[.int .u64 (y.1.1 : Int), .agg #[.int .i64 (y.1.2.state : Int), .int .i64 (y.1.2.done : Int), .int .u64 (y.1.2.last : Int)]]) Kp (fun ys => ∃ ss, ss.Perm (L.map (·.1)) ∧ ss.Pairwise (· ≤ ·) ∧ ys.map (·.1) = atT L ss) (fun _ => True) L.length w := fun l J Jx W hW hJ _ hY h0 => by
  have h := byKeysT_in n hn l Bn b m L hl12 W Kp Pk (fun k A => hP0 W k A hW) hP2 (fun pre W => ∃ pre' : List { x : Nat × ATxn // x ∈ L }, pre'.map (·.1) = pre ∧ J pre' W) (fun pre W => ∃ pre' : List { x : Nat × ATxn // x ∈ L }, pre'.map (·.1) = pre ∧ Jx pre' W)
    (fun s A B hs hgr => by obtain ⟨p', e, hj⟩ := hs; exact ⟨p', e, hJ p' A B none hj hgr (fun r e => by cases e)⟩)
    (fun pre x W1 hj hlt hx => by
      obtain ⟨p', e, hj⟩ := hj
      obtain ⟨fn, tmps, assign, body, hy, hR⟩ := hY p' ⟨x, hx⟩ W1 hj (by rw [← e, List.length_map] at hlt; exact hlt)
      refine ⟨fn, tmps, assign, body, hy, hR.mono ?_⟩
      rintro e2 W' (⟨r1, r2, r3⟩ | ⟨r1, r2⟩)
      · exact .inl ⟨r1, ⟨p' ++ [⟨x, hx⟩], by simp [e], r2⟩, r3⟩
      · exact .inr ⟨r1, ⟨p' ++ [⟨x, hx⟩], by simp [e], r2⟩⟩)
    ((hW.cell (p := ⟨Bn, 0, none⟩) hBl).trans hBn) (hL.fr (S := []) ⟨hW.os, hW.tape, hW.output, hW.size, fun k hk _ => hW.block k hk⟩ (by simp)) ⟨[], rfl, h0⟩
  refine h.mono ?_
  rintro e W' ⟨he, ⟨ss, h1, h2, p', e2, hj⟩ | ⟨pre, _, p', _, hj⟩⟩
  · exact ⟨he, .inl ⟨p', ⟨ss, h1, h2, e2⟩, hj⟩⟩
  · exact ⟨he, .inr ⟨p', trivial, hj⟩⟩
set_option maxHeartbeats 1000000 in
theorem byKeysT_fn (n : Nat) (b : Nat) (w : World) :
    CallsIn Fence.wide n Tryz.prog 191 #[.map (some b)] w fun e w' => e = .returned (.func (.func 233) #[] #[.pointer (some ⟨w.heap.size, 0, none⟩)]) ∧ w' = w.alloc (.cells #[.map (some b)] 133) := by
  refine callsIn_of_wp Tryz.func191 rfl trivial ?_ rfl
  simp only [Tryz.ntmps191, List.size_toArray, List.length_cons, List.length_nil, Nat.reduceAdd, Nat.reduceSub, Array.replicate_succ, Array.replicate_zero, List.push_toArray, List.append_toArray, List.nil_append, List.cons_append]
  gi_wp2
  go_ret
  exact ⟨rfl, rfl⟩
end Go.Proofs.YtejiankgafjppabGreatDoor
/- RECOVERY: (*Log).read, journal.Open, of a log of one segment. -/
namespace Go.Proofs.YtejiankgafjppabGreatDoor
open Go.RowKit Go.Maps
open Sc

/-- a disk with the segment of record 1 alone -/
def SoleD (d : ADisk) (t : ByteArray) : Prop := ∀ k, d.now k = if k = segName 1 then some t else none
set_option maxRecDepth 100000 in
set_option maxHeartbeats 1000000 in
theorem namesOf_zero (g cap : Nat) (w : World) : Calls Tryz.prog 188 #[.slice (some ⟨g, 0, none⟩) 0 cap] w fun e w' => e = .returned (.slice none 0 0) ∧ w' = w := by
  go_enter Tryz.func188, Tryz.ntmps188
  go_wp2
  refine wp_loop_rounds 1 ?_
  rw [rounds_succ]
  go_wp2
  go_ret
  exact ⟨rfl, rfl⟩
end Go.Proofs.YtejiankgafjppabGreatDoor
/- A LOG OF ONE SEGMENT, ALL OF IT DURABLE: what Keep leaves; the power fails; it is opened again. -/
namespace Go.Proofs.YtejiankgafjppabGreatDoor
open Go.RowKit Go.Maps
open Sc

theorem writesE {d : ADisk} {c : Nat} (h : d.Well c) (hc : c < 1099511627776) : d.writes = ({ d with left := d.left - 1, full := d.full - 1 }, 0) := by
  have h1 := h.left
  have h2 := h.full
  have e := wr_ok (d := d) (by rw [h.up]; simp; omega) (by omega)
  have e1 : wrap64 (d.left - 1) = d.left - 1 := by unfold wrap64; omega
  have e2 : wrap64 (d.full - 1) = d.full - 1 := by unfold wrap64; omega
  rw [e1, e2] at e
  exact e
theorem syncE {d : ADisk} {c : Nat} (h : d.Well c) (hc : c < 1099511627776) : d.sync = ({ d with left := d.left - 1, full := d.full - 1, durable := d.pending.foldl doOp d.durable, pending := [] }, 0) := by
  unfold ADisk.sync
  simp only [writesE h hc, if_true]
theorem tellE {d : ADisk} {c : Nat} {o : AOp} (h : d.Well c) (hc : c < 1099511627776) (h1 : o.kind = 2) : d.tell o = ({ d with left := d.left - 1, full := d.full - 1, now := doOp d.now o, pending := d.pending ++ [o] }, 0) := by
  unfold ADisk.tell
  simp only [writesE h hc]
  rw [if_neg (by omega), if_neg (by omega), if_neg (by omega), if_neg (by omega)]
theorem str_app (a b : List Nat) : str (a ++ b) = str a ++ str b := by
  apply ByteArray.ext
  rw [ByteArray.data_append, str_data0, str_data0, str_data0]
  simp
theorem doOp_app (m : Files) (nm t : ByteArray) : doOp m ⟨2, nm, ByteArray.empty, t⟩ = m.set nm (some ((m nm).getD ByteArray.empty ++ t)) := rfl
/-- a log whose records fill one segment at most, all durable, between calls -/
structure One (l : ALog) (d : ADisk) (rs : List Rec) : Prop where
  next : l.next = 1 + rs.length
  recs : l.recs = rs
  failed : l.failed = 0
  file : (rs = [] ∧ l.segs = [] ∧ l.filled = 600 ∧ ∀ k, d.now k = none) ∨ (rs ≠ [] ∧ l.segs = [1] ∧ l.filled = (encR rs).length ∧ SoleD d (str (encR rs)))
  dur : d.durable = d.now
  pen : d.pending = []
  fine : FineR rs
  few : (encR rs).length < 600
  durN : l.durable = l.next
  well : d.Well 0
theorem One.sg {l : ALog} {d : ADisk} {rs : List Rec} (h : One l d rs) : l.filled < 600 → l.segs ≠ [] := by
  intro hf
  rcases h.file with ⟨_, _, e, _⟩ | ⟨_, e, _⟩
  · omega
  · rw [e]; simp
theorem One.knob {l : ALog} {d : ADisk} {rs : List Rec} (h : One l d rs) : One l (d.knob (-1) (-1)) rs := { h with well := ⟨h.well.up, by simp [ADisk.knob], by simp [ADisk.knob]⟩ }
theorem well_dec {d : ADisk} {c : Nat} (h : d.Well c) (f g : Files) (p : List AOp) : ADisk.Well ⟨f, g, p, d.left - 1, d.full - 1, d.down⟩ (c + 1) := ⟨h.up, by have := h.left; simp; omega, by have := h.full; simp; omega⟩
theorem sole_set {m : Files} {t : ByteArray} (h : ∀ k, k ≠ segName 1 → m k = none) : ∀ k, m.set (segName 1) (some t) k = if k = segName 1 then some t else none := by
  intro k
  unfold Files.set
  by_cases e : k = segName 1
  · simp [e]
  · simp [e, h k e]
/-- what Keep leaves, between calls -/
theorem One.keep {l : ALog} {d : ADisk} {rs : List Rec} (h : One l d rs) {kind : Nat} {s : ByteArray} (hs : s.size ≤ 255) (hf : FineR (rs ++ [⟨1 + rs.length, kind, bytesOf s⟩])) (h6 : (encR (rs ++ [⟨1 + rs.length, kind, bytesOf s⟩])).length < 600) :
    (l.keep d kind s).2.2 = 0 ∧ (l.keep d kind s).2.1.down = false ∧ One (l.keep d kind s).1 ((l.keep d kind s).2.1.knob (-1) (-1)) (rs ++ [⟨1 + rs.length, kind, bytesOf s⟩]) := by
  have hnx := h.next
  have hw := h.well
  obtain ⟨o, ho⟩ : ∃ o : AOp, o = ⟨2, segName 1, ByteArray.empty, str (recBytes l.next kind (bytesOf s))⟩ := ⟨_, rfl⟩
  -- what the room gives
  obtain ⟨d1, hd1, w1, e1, p1⟩ : ∃ d1 : ADisk, l.room d = ({ l with segs := [1], filled := (encR rs).length, durable := l.durable }, d1, 0) ∧ d1.Well 1 ∧ d1.now = d.now ∧ d1.pending = [] ∧ d1.durable = d.durable := by
    rcases h.file with ⟨r0, sg, fi, _⟩ | ⟨_, sg, fi, _⟩
    · refine ⟨{ d with left := d.left - 1, full := d.full - 1 }, ?_, well_dec hw _ _ _, rfl, h.pen, rfl⟩
      unfold ALog.room
      have es : l.sync d = ({ l with durable := l.next }, { d with left := d.left - 1, full := d.full - 1, durable := d.pending.foldl doOp d.durable, pending := [] }, 0) := by
        unfold ALog.sync; rw [syncE hw (by omega)]; rfl
      rw [if_neg (by omega), es]
      simp only [if_true]
      rw [h.pen, sg, hnx, h.durN, hnx, r0]
      have : d.pending = [] := h.pen
      obtain ⟨a, b, c, e, f, g⟩ := d
      simp at this
      subst this
      rfl
    · refine ⟨d, ?_, hw.mono (by omega), rfl, h.pen, rfl⟩
      unfold ALog.room
      rw [if_pos (by rw [fi]; exact h.few)]
      obtain ⟨a, b, c, e, f, g⟩ := l
      simp at sg fi
      subst sg fi
      rfl
  obtain ⟨d2, hd2⟩ : ∃ d2 : ADisk, d2 = { d1 with left := d1.left - 1, full := d1.full - 1, now := doOp d1.now o, pending := d1.pending ++ [o] } := ⟨_, rfl⟩
  have w2 : d2.Well 2 := by rw [hd2]; exact well_dec w1 _ _ _
  have hput : l.put d (recBytes l.next kind (bytesOf s)) = ({ l with segs := [1], filled := (encR rs).length, durable := l.durable }, d2, 0) := by
    unfold ALog.put
    rw [hd1]
    simp only [if_true, List.getLastD_cons, List.getLastD_nil]
    rw [tellE w1 (by omega) rfl]
    rw [hd2, ho]
  have hwr : l.wr d (l.put d (recBytes l.next kind (bytesOf s))) = ({ l with segs := [1], filled := (encR rs).length, durable := l.durable, failed := 0 }, d2, 0) := by
    unfold ALog.wr
    rw [if_pos h.failed, hput]
  have hap : l.note d kind s = ({ l with segs := [1], filled := (encR rs).length + (15 + s.size), durable := l.durable, failed := 0, recs := rs ++ [⟨1 + rs.length, kind, bytesOf s⟩], next := l.next + 1 }, d2, 0) := by
    unfold ALog.note ALog.append
    rw [if_neg (by omega), hwr]
    simp only [if_true, h.recs, hnx]
  obtain ⟨d3, hd3⟩ : ∃ d3 : ADisk, d3 = { d2 with left := d2.left - 1, full := d2.full - 1, durable := d2.pending.foldl doOp d2.durable, pending := [] } := ⟨_, rfl⟩
  have w3 : d3.Well 3 := by rw [hd3]; exact well_dec w2 _ _ _
  have hkp : l.keep d kind s = ({ l with segs := [1], filled := (encR rs).length + (15 + s.size), durable := l.next + 1, failed := 0, recs := rs ++ [⟨1 + rs.length, kind, bytesOf s⟩], next := l.next + 1 }, d3, 0) := by
    unfold ALog.keep
    rw [hap]
    simp only [if_true]
    unfold ALog.force
    rw [if_neg (by simp; have := h.durN; omega)]
    unfold ALog.wr ALog.sync
    simp only [if_true]
    rw [syncE w2 (by omega)]
    simp only [if_true]
    rw [← hd3]
  have hno3 : d3.now = doOp d.now o := by rw [hd3, hd2]; simp only; rw [e1]
  have hdu3 : d3.durable = doOp d.now o := by
    rw [hd3, hd2]
    simp only [p1.1, p1.2, List.nil_append, List.foldl_cons, List.foldl_nil, h.dur]
  have hre : str (encR (rs ++ [⟨1 + rs.length, kind, bytesOf s⟩])) = str (encR rs) ++ str (recBytes l.next kind (bytesOf s)) := by rw [encR_snoc, str_app, hnx]
  have hso : ∀ k, doOp d.now o k = if k = segName 1 then some (str (encR (rs ++ [⟨1 + rs.length, kind, bytesOf s⟩]))) else none := by
    rw [ho, doOp_app, hre]
    rcases h.file with ⟨r0, _, _, hn⟩ | ⟨_, _, _, hn⟩
    · have e0 : (d.now (segName 1)).getD ByteArray.empty = str (encR rs) := by rw [hn, r0]; rfl
      rw [e0]
      exact sole_set (fun k _ => hn k)
    · have e0 : (d.now (segName 1)).getD ByteArray.empty = str (encR rs) := by rw [hn, if_pos rfl]; rfl
      rw [e0]
      exact sole_set (fun k hk => by rw [hn, if_neg hk])
  rw [hkp]
  refine ⟨rfl, w3.up, { next := by simp [hnx]; omega, recs := rfl, failed := rfl, file := .inr ⟨by simp, rfl, ?_, fun k => ?_⟩, dur := ?_, pen := by show d3.pending = []; rw [hd3], fine := hf, few := h6, durN := rfl, well := ⟨w3.up, by simp [ADisk.knob], by simp [ADisk.knob]⟩ }⟩
  · simp only
    rw [encR_snoc, List.length_append, recBytes_len, bytesOf_len]
  · show d3.now k = _
    rw [hno3]
    exact hso k
  · show d3.durable = d3.now
    rw [hno3, hdu3]
/-- a disk that has such a log, nothing being open -/
structure OneD (d : ADisk) (rs : List Rec) : Prop where
  sole : SoleD d (str (encR rs))
  dur : d.durable = d.now
  pen : d.pending = []
  fine : FineR rs
  few : (encR rs).length < 600
  ne : rs ≠ []
  well : d.Well 0
theorem opensE {d : ADisk} (l : ALog) (h : d.Well 0) : l.opens d = ({ l with durable := l.next }, { d with left := d.left - 1 - 1, full := d.full - 1 - 1, durable := d.pending.foldl doOp d.durable, pending := [] }, 0) := by
  have es : l.sync d = ({ l with durable := l.next }, { d with left := d.left - 1, full := d.full - 1, durable := d.pending.foldl doOp d.durable, pending := [] }, 0) := by
    unfold ALog.sync; rw [syncE h (by omega)]; rfl
  unfold ALog.opens
  rw [es]
  simp only [if_true]
  have w1 : ADisk.Well { d with left := d.left - 1, full := d.full - 1, durable := d.pending.foldl doOp d.durable, pending := [] } 1 := well_dec h _ _ _
  unfold ADisk.removeAll
  rw [syncE w1 (by omega)]
  rfl
theorem One.first {d : ADisk} (hno : ∀ k, d.now k = none) (hdu : d.durable = d.now) (hpe : d.pending = []) (hw : d.Well 0) : ((log0 1).opens d).2.2 = 0 ∧ ((log0 1).opens d).2.1.down = false ∧ ((log0 1).opens d).1.recs = [] ∧ ((log0 1).opens d).1.next = 1 ∧ One ((log0 1).opens d).1 (((log0 1).opens d).2.1.knob (-1) (-1)) [] := by
  rw [opensE _ hw]
  refine ⟨rfl, hw.up, rfl, rfl, { next := rfl, recs := rfl, failed := rfl, file := .inl ⟨rfl, rfl, rfl, hno⟩, dur := ?_, pen := rfl, fine := fun k r hk => by simp at hk, few := by decide, durN := rfl, well := ⟨hw.up, by simp [ADisk.knob], by simp [ADisk.knob]⟩ }⟩
  show d.pending.foldl doOp d.durable = d.now
  rw [hpe, hdu]; rfl
/-- records that a ledger noted -/
def Noted (J : List Rec → AShard → Prop) (rs : List Rec) : Prop := (∀ r ∈ rs, r.kind < 128) ∧ rs.length ≤ 10 ∧ J [] sh0 ∧ ∀ pre x s', pre ++ [x] <+: rs → J pre s' → Entr (J (pre ++ [x])) s' x
theorem shPre_none {B p bD bN n nD : Nat} {pv : Value} {d : ADisk} {w : World} (hd : DiskIn w B p bD bN pv d n nD 0) (hno : ∀ k, d.now k = none) (hdu : d.durable = d.now) (hpe : d.pending = []) (hw : d.Well 0) : ShPre (fun _ s => s = sh0) B p bD bN n ((log0 1).opens d) w := by
  obtain ⟨o1, o2, o3, o4, o5⟩ := One.first hno hdu hpe hw
  refine { disk := ⟨_, _, _, _, hd⟩, jop := fun W hW => jopen_empty B p bD bN n nD pv d W (hd.new hW) hw.up (hno _) o1, plain := ?_, first := ?_, byt := ?_, none := rfl, ents := ?_, few := ?_, num := hd.hn }
  · rw [o3]; intro r hr; cases hr
  · rw [o3, o4]; rfl
  · rw [o3]; intro r hr; cases hr
  · rw [o3]; intro pre x s' hp; have := hp.length_le; simp at this
  · rw [o3]; decide
end Go.Proofs.YtejiankgafjppabGreatDoor
