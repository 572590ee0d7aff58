import Derived.Test.YtejiankgafjppaaGreatDoorC26
import Derived.RangeFuncNested
import Derived.RangeFuncBox
import Derived.RangeFuncBound
import Derived.RangeFuncCalls
import Derived.RangeFuncLeaves
import Derived.Shelf.Abstract
import Derived.Shelf.AbstractIn
import Derived.Shelf.RegionOpen
import Derived.WalkKit
import Derived.OwnWalkIn
import Derived.TacticsInMore
import Derived.LoopNIn
import Derived.LoopIn
import Derived.Maps.AppendAt
import Derived.Test.YtejiankgafjppaaGreatDoorC02
/- order.ByKeys at map[uint64]shard.transaction. (Written by mkbyu.py.) -/
namespace Go.Proofs.YtejiankgafjppaaGreatDoor
open Go.RowKit Go.Maps Go.Shelf
open Sc

theorem sortedKeysT (n : Nat) (hn : 5 ≤ n) (b m : Nat) (L : List (Nat × ATxn)) (hl : L.length ≤ 12) (w : World) (hL : MapAs KU ET w b m L) :
    CallsIn Fence.wide n Tryz.prog 196 #[.func (.func 257) #[] #[.pointer (some ⟨w.heap.size, 0, none⟩)]] (w.alloc (.cells #[.map (some b)] 182)) fun e w' => ∃ v ss, e = .returned v ∧ ss.Perm (L.map (·.1)) ∧ ss.Pairwise (· ≤ ·) ∧ w'.ownsRow w.heap.size 34 1 v L.length (u64s ss) ∧ (v = .slice none 0 0 ↔ L.length = 0) ∧ Below w.heap.size w w' := by
  have hb0 : Below w.heap.size w (w.alloc (.cells #[.map (some b)] 182)) := (Below.refl _ w).alloc (Nat.le_refl _) _
  have hL1 : MapAs KU ET (w.alloc (.cells #[.map (some b)] 182)) b m L := hL.fr ((Fr.refl [] w).alloc _) (by simp)
  have hs := keysT_stops (n - 1 - 1 - 1) (by omega) w.heap.size b m L _ (by simp) (by rw [cell_blk0 (World.alloc_heap_new w (.cells #[.map (some b)] 182))]; rfl) hL1
  refine (sortedU_in n hn _ _ trivial (enters_of Tryz.func257 (by kernel_rfl) rfl) (L.map (·.1)) L.length hl (by simp) _ hs).mono ?_
  rintro e w' ⟨v, ss, rfl, h1, h2, h3, h4, h5⟩
  have hlen : ss.length = L.length := by rw [h1.length_eq, List.length_map]
  rw [hlen] at h3
  refine ⟨v, ss, rfl, h1, h2, own_base0 h3 (by simp), ?_, hb0.trans (h5.mono (by simp))⟩
  rw [h4, ← hlen]; exact List.length_eq_zero_iff.symm
abbrev elT (g : ATxn) : List Value := [.int .i64 (g.state : Int), .int .i64 (g.done : Int), .int .u64 (g.last : Int)]
def elsT (l : List ATxn) : List Value := l.flatMap elT
theorem elsT_snoc (l : List ATxn) (g : ATxn) : elsT (l ++ [g]) = elsT l ++ elT g := by simp [elsT]
theorem elsT_at : ∀ (l : List ATxn) (k : Nat) (g : ATxn), l[k]? = some g → (elsT l)[k * 3]? = some (.int .i64 (g.state : Int)) ∧ (elsT l)[k * 3 + 1]? = some (.int .i64 (g.done : Int)) ∧ (elsT l)[k * 3 + 2]? = some (.int .u64 (g.last : Int))
  | [], k, g, h => by simp at h
  | x :: l, 0, g, h => by simp at h; subst h; simp [elsT]
  | x :: l, k + 1, g, h => by
    have := elsT_at l k g (by simpa using h)
    simp only [elsT, List.flatMap_cons] at this ⊢
    rw [show (k + 1) * 3 = k * 3 + 1 + 1 + 1 by omega]
    simpa using this
theorem Tryz.infoBT : (Tryz.prog.info? 196).map (fun i => (i.zero, i.size, i.bytes)) = some (some (.agg #[.int .i64 0, .int .i64 0, .int .u64 0]), 3, 24) := by kernel_rfl
theorem Tryz.lenUT (p : Option Addr) (n c : Nat) (w : World) : (Builtin.len_ #[56] 3 #[.slice p n c]).run Tryz.prog w = .ok (.int .i64 n) w := by simp [Builtin.len_, run_underlying Tryz.underlying56, goInt]
/-- what a map holds, by these keys -/
def atT (L : List (Nat × ATxn)) (ss : List Nat) : List (Nat × ATxn) := ss.map fun k => (k, (alLook L k).getD ⟨0, 0, 0⟩)
set_option maxRecDepth 100000 in
set_option maxHeartbeats 4000000 in
theorem byKeysT_in (n : Nat) (hn : 6 ≤ n) (l Bn b m : Nat) (L : List (Nat × ATxn)) (hl12 : L.length ≤ 12) (W : World) (Kp : World → World → Prop) (Pk : Nat → World → Prop)
    (hP0 : ∀ k A, W.heap.size ≤ k → Below W.heap.size W A → Pk k A)
    (hP2 : ∀ k A B c t, (t = 34 ∨ t = 196) → Kp A B → A.heap[k]? = some (.cells c t (0, 0)) → Pk k A → B.heap[k]? = A.heap[k]? ∧ Pk k B)
    (J Jx : List (Nat × ATxn) → World → Prop)
    (hJ : ∀ s A B, J s A → A.grownBy B none → J s B)
    (hY : ∀ pre x W1, J pre W1 → pre.length < L.length → x ∈ L → YieldAt Fence.wide (n - 1) Tryz.prog l #[.int .u64 (x.1 : Int), .agg #[.int .i64 (x.2.state : Int), .int .i64 (x.2.done : Int), .int .u64 (x.2.last : Int)]] W1 fun e W' =>
      (e = .returned (.bool true) ∧ J (pre ++ [x]) W' ∧ Kp W1 W') ∨ (e = .returned (.bool false) ∧ Jx (pre ++ [x]) W'))
    (hBn : W.cell? ⟨Bn, 0, none⟩ = some (.map (some b))) (hL : MapAs KU ET W b m L) (h0 : J [] W) :
    CallsIn Fence.wide n Tryz.prog 195 #[.func (.yield l) #[] #[], .pointer (some ⟨Bn, 0, none⟩)] W fun e W' => (∃ v, e = .returned v) ∧
      ((∃ ss, ss.Perm (L.map (·.1)) ∧ ss.Pairwise (· ≤ ·) ∧ J (atT L ss) W') ∨ (∃ pre, True ∧ Jx pre W')) := by
  have hBl : Bn < W.heap.size := World.block_lt_of_cell? W ⟨Bn, 0, none⟩ hBn
  have cK := keysT_fn (n - 1) b W
  have cS := sortedKeysT (n - 1) (by omega) b m L hl12 W hL
  obtain ⟨i0, hi, hz0, hz1, hz2⟩ := info_parts Tryz.infoBT
  have hfK : Fence.wide.fn 197 := trivial
  have hfS : Fence.wide.fn 196 := trivial
  have hfM : Fence.wide.fn 195 := trivial
  have hro : Fence.wide.round = none := rfl
  have h1 : 1 ≤ n := by omega
  have hlenS := Tryz.lenUT
  have HL : Hid (MapAs KU ET W b m L) := hL
  have HB : Hid (Bn < W.heap.size ∧ W.cell? ⟨Bn, 0, none⟩ = some (.map (some b))) := ⟨hBl, hBn⟩
  obtain ⟨m0, hm0⟩ : ∃ m0, m0 = L.length := ⟨_, rfl⟩
  have HM : Hid (m0 = L.length) := hm0
  rw [← hm0] at cS hl12
  have hm00 : m0 ≤ 67108864 := by omega
  clear hL hm0
  refine callsIn_of_wp Tryz.func195 rfl hfM ?_ hro
  simp only [Tryz.ntmps195, List.size_toArray, List.length_cons, List.length_nil, Nat.reduceAdd, Nat.reduceSub, Array.replicate_succ, Array.replicate_zero, List.push_toArray, List.append_toArray, List.nil_append, List.cons_append]
  gi_wp2_with (first
    | (gi_at_call 197; refine cK.mono ?_; rintro e w0 ⟨rfl, rfl⟩)
    | (gi_at_call 196; refine cS.mono ?_; rintro e w1 ⟨v, ss, rfl, hpm, hpw, hrow, hnil, hb1⟩; obtain ⟨pp, cap, rfl⟩ := own_form0 hrow; have HR : Hid (w1.ownsRow W.heap.size 34 1 (.slice pp m0 cap) m0 (u64s ss) ∧ (Value.slice pp m0 cap = .slice none 0 0 ↔ m0 = 0)) := ⟨hrow, hnil⟩; have HPM : Hid (ss.Perm (L.map (·.1)) ∧ ss.Pairwise (· ≤ ·)) := ⟨hpm, hpw⟩; clear hrow hnil hpm hpw))
  clear cK cS
  have HB1 : Hid (Below W.heap.size W w1) := hb1
  have HJ1 : Hid (∀ A, Below W.heap.size W A → J [] A) := fun A hA => hJ [] W A h0 ⟨hA.os, hA.tape, hA.output, hA.size, fun k hk _ => hA.block k hk⟩
  have HSL : Hid (ss.length = m0) := by show _ = _; rw [HPM.out.1.length_eq, List.length_map, HM.out]
  clear hb1 hBn
  by_cases hm1 : m0 = 0
  · subst hm1
    obtain ⟨rfl, rfl⟩ : pp = none ∧ cap = 0 := by have := HR.out.2.2 rfl; simpa using this
    clear HR
    have HE : Hid (ss = []) := List.length_eq_zero_iff.1 HSL.out
    gi_loopw [14] (fun i wr => i = .int .i64 0 ∧ wr = w1) (fun _ _ => 0)
    case atStart => exact ⟨rfl, rfl⟩
    case round =>
      obtain ⟨rfl, rfl⟩ := hrel
      gi_wp2
      gi_loopw [27] (fun i wr2 => i = .int .i64 0 ∧ wr2 = wr) (fun _ _ => 0)
      case atStart => exact ⟨rfl, rfl⟩
      case round =>
        obtain ⟨rfl, rfl⟩ := hrel
        gi_wp2
        go_end0
        exact ⟨⟨_, rfl⟩, .inl ⟨ss, HPM.out.1, HPM.out.2, by rw [HE.out]; exact HJ1.out _ HB1.out⟩⟩
  obtain ⟨g, rfl⟩ : ∃ g, pp = some ⟨g, 0, none⟩ := by obtain ⟨g, cap', e⟩ := own_pos0 HR.out.1 (by omega); exact ⟨g, by simp at e; exact e.1⟩
  have hrow := HR.out.1
  have HK : Hid (∃ cur, w1.heap[g]? = some (.cells cur 34 (0, 0)) ∧ W.heap.size ≤ g ∧ ∀ (k x : Nat), ss[k]? = some x → cur[k]? = some (Value.int .u64 (x : Int))) := by
    rcases hrow.2 with ⟨_, h3⟩ | ⟨g', cap', cur, e, hb, hg, _, _, hsz, htk⟩
    · omega
    · obtain ⟨e1, e2⟩ : g = g' ∧ cap = cap' := by simpa using e
      subst e1
      refine ⟨cur, hg, hb, fun k x hk => ?_⟩
      have hkl : k < m0 := by have := (List.getElem?_eq_some_iff.1 hk).1; have := HSL.out; omega
      have : (cur.toList.take (m0 * 1))[k]? = some (.int .u64 (x : Int)) := by rw [htk]; unfold u64s; rw [List.getElem?_map, hk]; rfl
      rw [List.getElem?_take_of_lt (by omega)] at this
      simpa using this
  clear hrow HR
  obtain ⟨vs, hvs⟩ : ∃ vs : List ATxn, vs = ss.map fun k => (alLook L k).getD ⟨0, 0, 0⟩ := ⟨_, rfl⟩
  have HV : Hid (vs = ss.map fun k => (alLook L k).getD ⟨0, 0, 0⟩) := hvs
  clear hvs
  have HG : Hid (g < w1.heap.size) := by obtain ⟨cur, hg, _⟩ := HK.out; exact (Array.getElem?_eq_some_iff.1 hg).1
  have HIN : Hid (∀ k ∈ ss, ∃ v, (k, v) ∈ L ∧ k < 18446744073709551616 ∧ (alLook L k).getD ⟨0, 0, 0⟩ = v) := fun k hk => by
    obtain ⟨p, hp, e⟩ := List.mem_map.1 (HPM.out.1.mem_iff.1 hk)
    obtain ⟨_, _, _, ho1, hok⟩ := HL.out
    obtain ⟨p1, p2⟩ := p
    simp at e
    subst e
    exact ⟨p2, hp, (hok _ hp).1, by rw [alLook_of ho1 hp]; rfl⟩
  gi_loopw [14, 4] (fun i v wr => ∃ k : Nat, k ≤ m0 ∧ i = .int .i64 k ∧ Hid (wr.ownsRow w1.heap.size 196 3 v k (elsT (vs.take k)) ∧ Below w1.heap.size w1 wr))
    (fun i _ _ => m0 - (intOf i).toNat)
  case atStart => exact ⟨0, Nat.zero_le _, rfl, World.ownsRow_nil _ _ _ _, Below.refl _ _⟩
  case round =>
    obtain ⟨k, hk, rfl, hR⟩ := hrel
    by_cases hlt : k < m0
    · obtain ⟨x, hx⟩ : ∃ x, ss[k]? = some x := ⟨_, List.getElem?_eq_getElem (by have := HSL.out; omega)⟩
      obtain ⟨y, hy⟩ : ∃ y, y = (alLook L x).getD ⟨0, 0, 0⟩ := ⟨_, rfl⟩
      have hbW : Below W.heap.size W wr := HB1.out.trans (hR.out.2.mono HB1.out.size)
      have ck : wr.cell? ⟨g, k, none⟩ = some (.int .u64 (x : Int)) := by
        obtain ⟨cur, hg, _, hc⟩ := HK.out
        have := (hR.out.2.block g HG.out).trans hg
        rw [cell_blk0 this]
        exact hc k x hx
      have cB : wr.cell? ⟨Bn, 0, none⟩ = some (.map (some b)) := (hbW.cell (p := ⟨Bn, 0, none⟩) HB.out.1).trans HB.out.2
      have hxs : x < 18446744073709551616 := by
        obtain ⟨_, _, h, _⟩ := HIN.out x (List.mem_of_getElem? hx)
        exact h
      have hlk := (HL.out.fr (S := []) ⟨hbW.os, hbW.tape, hbW.output, hbW.size, fun k hk _ => hbW.block k hk⟩ (by simp)).look Tryz.underlying182 (zeroTxn wr) trivial (k := x) hxs
      rw [← hy] at hlk
      have HY : Hid (y = (alLook L x).getD ⟨0, 0, 0⟩ ∧ ss[k]? = some x) := ⟨hy, hx⟩
      clear hy hx
      change (Instr.lookup _ _ (.int .u64 (x : Int)) false).run _ _ = .ok (.agg #[.int .i64 (y.state : Int), .int .i64 (y.done : Int), .int .u64 (y.last : Int)]) _ at hlk
      have hsz := hR.out.2.size
      have HT : Hid (vs.take (k + 1) = vs.take k ++ [y]) := by
        show _ = _
        rw [HV.out, List.take_add_one, List.getElem?_map, HY.out.2, HY.out.1]; rfl
      gi_wp2_with (gi_at_builtin; refine wpListIn_append_own _ rfl _ _ 280 rfl w1.heap.size 196 i0 _ 3 24 Tryz.underlying280 hi hz0 hz1 hz2 rfl (by decide) _ k _ rfl (hR.out.1.alloc _) ⟨wr.heap.size, 0, none⟩ 1 1 (elT y) rfl rfl (cells_new _ #[.int .i64 (y.state : Int), .int .i64 (y.done : Int), .int .u64 (y.last : Int)] _) (by intro u hu; simp [elT] at hu; rcases hu with rfl | rfl | rfl <;> rfl) (by unfold maxLen; omega) (by omega) (by simp; omega) ?_; intro v' w2 hown' hgrow _)
      go_roundw
      case rel =>
        refine ⟨k + 1, by omega, by simp, by rw [HT.out, elsT_snoc]; exact hown', ?_⟩
        exact ((hR.out.2.alloc hsz _).grown hgrow (by simp; omega) (fun j hj => (hR.out.1.lt j hj).1))
      case measure => simp [intOf]; omega
    · obtain rfl : k = m0 := by omega
      obtain ⟨g2, cap2, rfl⟩ := own_pos0 hR.out.1 (by omega)
      have HK2 : Hid (∃ cur2, wr.heap[g2]? = some (.cells cur2 196 (0, 0)) ∧ W.heap.size ≤ g2 ∧ ∀ (j : Nat) (y : ATxn), vs[j]? = some y → cur2[j * 3]? = some (Value.int .i64 (y.state : Int)) ∧ cur2[j * 3 + 1]? = some (Value.int .i64 (y.done : Int)) ∧ cur2[j * 3 + 2]? = some (Value.int .u64 (y.last : Int))) := by
        rcases hR.out.1.2 with ⟨_, h3⟩ | ⟨g', cap', cur, e, hb, hg, _, _, hsz, htk⟩
        · omega
        · obtain ⟨e1, e2⟩ : g2 = g' ∧ cap2 = cap' := by simpa using e
          subst e1
          have hvl : vs.length = k := by rw [HV.out, List.length_map, HSL.out]
          refine ⟨cur, hg, Nat.le_trans HB1.out.size hb, fun j y hj => ?_⟩
          have hjk : j < k := by have := (List.getElem?_eq_some_iff.1 hj).1; omega
          have e3 : vs.take k = vs := List.take_of_length_le (by omega)
          rw [e3] at htk
          have hat := elsT_at vs j y hj
          rw [← htk] at hat
          rw [List.getElem?_take_of_lt (by omega), List.getElem?_take_of_lt (by omega), List.getElem?_take_of_lt (by omega)] at hat
          simpa using hat
      obtain ⟨cur, hgc, hgW, hcs⟩ := HK.out
      obtain ⟨cur2, hgc2, hgW2, hcs2⟩ := HK2.out
      have hgr := (hR.out.2.block g HG.out).trans hgc
      have hbW : Below W.heap.size W wr := HB1.out.trans (hR.out.2.mono HB1.out.size)
      have HC : Hid ((∀ (k x : Nat), ss[k]? = some x → cur[k]? = some (Value.int .u64 (x : Int))) ∧ ∀ (j : Nat) (y : ATxn), vs[j]? = some y → cur2[j * 3]? = some (Value.int .i64 (y.state : Int)) ∧ cur2[j * 3 + 1]? = some (Value.int .i64 (y.done : Int)) ∧ cur2[j * 3 + 2]? = some (Value.int .u64 (y.last : Int))) := ⟨hcs, hcs2⟩
      have HS : Hid (J [] wr ∧ wr.heap[g]? = some (.cells cur 34 (0, 0)) ∧ Pk g wr ∧ wr.heap[g2]? = some (.cells cur2 196 (0, 0)) ∧ Pk g2 wr) := ⟨HJ1.out _ hbW, hgr, hP0 _ _ hgW hbW, hgc2, hP0 _ _ hgW2 hbW⟩
      clear HK HK2 hgc hcs hgc2 hcs2 hgr hbW hP0
      gi_wp2
      gi_loopw [27] (fun i wr => ∃ j : Nat, j ≤ k ∧ i = .int .i64 j ∧ Hid (J ((atT L ss).take j) wr ∧ wr.heap[g]? = some (.cells cur 34 (0, 0)) ∧ Pk g wr ∧ wr.heap[g2]? = some (.cells cur2 196 (0, 0)) ∧ Pk g2 wr))
        (fun i _ => k - (intOf i).toNat)
      case atStart => exact ⟨0, Nat.zero_le _, rfl, by rw [List.take_zero]; exact HS.out⟩
      case round =>
        obtain ⟨j, hj, rfl, hQ⟩ := hrel
        by_cases hlt2 : j < k
        · obtain ⟨x, hx⟩ : ∃ x, ss[j]? = some x := ⟨_, List.getElem?_eq_getElem (by have := HSL.out; omega)⟩
          obtain ⟨y, hy⟩ : ∃ y, y = (alLook L x).getD ⟨0, 0, 0⟩ := ⟨_, rfl⟩
          have hvy : vs[j]? = some y := by rw [HV.out, List.getElem?_map, hx, hy]; rfl
          have hxy : (x, y) ∈ L := by
            obtain ⟨v, hv, _, e⟩ := HIN.out x (List.mem_of_getElem? hx)
            rw [hy, e]; exact hv
          have HXY : Hid ((atT L ss).take (j + 1) = (atT L ss).take j ++ [(x, y)]) := by
            show _ = _
            rw [List.take_add_one]
            unfold atT
            rw [List.getElem?_map, hx, hy]; rfl
          have cx : wr.cell? ⟨g, j, none⟩ = some (.int .u64 (x : Int)) := by rw [cell_blk0 hQ.out.2.1]; exact HC.out.1 j x hx
          have cy0 : wr.cell? ⟨g2, j * 3, none⟩ = some (.int .i64 (y.state : Int)) := by rw [cell_blk0 hQ.out.2.2.2.1]; exact (HC.out.2 j y hvy).1
          have cy1 : wr.cell? ⟨g2, j * 3 + 1, none⟩ = some (.int .i64 (y.done : Int)) := by rw [cell_blk0 hQ.out.2.2.2.1]; exact (HC.out.2 j y hvy).2.1
          have cy2 : wr.cell? ⟨g2, j * 3 + 2, none⟩ = some (.int .u64 (y.last : Int)) := by rw [cell_blk0 hQ.out.2.2.2.1]; exact (HC.out.2 j y hvy).2.2
          obtain ⟨fn, tmps, assign, body, hy2, hRR⟩ := hY _ (x, y) wr hQ.out.1 (by rw [List.length_take, ← HM.out]; omega) hxy
          clear hx hy hvy hxy
          gi_wp2
          refine hRR.mono ?_
          rintro e W3 (⟨rfl, hJ3, hk3⟩ | ⟨rfl, hJx3⟩)
          · have p1 := hP2 _ _ _ _ _ (.inl rfl) hk3 hQ.out.2.1 hQ.out.2.2.1
            have p2 := hP2 _ _ _ _ _ (.inr rfl) hk3 hQ.out.2.2.2.1 hQ.out.2.2.2.2
            have HN : Hid (J ((atT L ss).take (j + 1)) W3 ∧ W3.heap[g]? = some (.cells cur 34 (0, 0)) ∧ Pk g W3 ∧ W3.heap[g2]? = some (.cells cur2 196 (0, 0)) ∧ Pk g2 W3) := ⟨by rw [HXY.out]; exact hJ3, p1.1.trans hQ.out.2.1, p1.2, p2.1.trans hQ.out.2.2.2.1, p2.2⟩
            clear p1 p2 hJ3 hk3
            gi_wp2
            go_roundw
            case rel => exact ⟨j + 1, by omega, by simp, HN.out⟩
            case measure => simp [intOf]; omega
          · gi_wp2
            refine bodyPost_ret (results_none rfl _ _ _) rfl ?_
            exact ⟨⟨_, rfl⟩, .inr ⟨_, trivial, hJx3⟩⟩
        · obtain rfl : j = k := by omega
          gi_wp2
          go_end0
          refine ⟨⟨_, rfl⟩, .inl ⟨ss, HPM.out.1, HPM.out.2, ?_⟩⟩
          have e : (atT L ss).take j = atT L ss := by
            rw [List.take_of_length_le]
            unfold atT
            rw [List.length_map, HSL.out]
            exact Nat.le_refl _
          rw [← e]
          exact hQ.out.1
/-- the walk, as whoever ranges over it has it -/
theorem byKeysT_stops (n : Nat) (hn : 6 ≤ n) (Bn b m : Nat) (L : List (Nat × ATxn)) (hl12 : L.length ≤ 12) (w : World) (hBl : Bn < w.heap.size) (hBn : w.cell? ⟨Bn, 0, none⟩ = some (.map (some b))) (hL : MapAs KU ET w b m L)
    (Kp : World → World → Prop) (Pk : Nat → World → Prop)
    (hP0 : ∀ W k A, Below w.heap.size w W → W.heap.size ≤ k → Below W.heap.size W A → Pk k A)
    (hP2 : ∀ k A B c t, (t = 34 ∨ t = 196) → Kp A B → A.heap[k]? = some (.cells c t (0, 0)) → Pk k A → B.heap[k]? = A.heap[k]? ∧ Pk k B) :
    SeqStopsK Fence.wide n Tryz.prog 195 #[.pointer (some ⟨Bn, 0, none⟩)] (fun y : { x : Nat × ATxn // x ∈ L } => #[.int .u64 (y.1.1 : Int), .agg #[.int .i64 (y.1.2.state : Int), .int .i64 (y.1.2.done : Int), .int .u64 (y.1.2.last : Int)]]) Kp (fun ys => ∃ ss, ss.Perm (L.map (·.1)) ∧ ss.Pairwise (· ≤ ·) ∧ ys.map (·.1) = atT L ss) (fun _ => True) L.length w := fun l J Jx W hW hJ _ hY h0 => by
  have h := byKeysT_in n hn l Bn b m L hl12 W Kp Pk (fun k A => hP0 W k A hW) hP2 (fun pre W => ∃ pre' : List { x : Nat × ATxn // x ∈ L }, pre'.map (·.1) = pre ∧ J pre' W) (fun pre W => ∃ pre' : List { x : Nat × ATxn // x ∈ L }, pre'.map (·.1) = pre ∧ Jx pre' W)
    (fun s A B hs hgr => by obtain ⟨p', e, hj⟩ := hs; exact ⟨p', e, hJ p' A B none hj hgr (fun r e => by cases e)⟩)
    (fun pre x W1 hj hlt hx => by
      obtain ⟨p', e, hj⟩ := hj
      obtain ⟨fn, tmps, assign, body, hy, hR⟩ := hY p' ⟨x, hx⟩ W1 hj (by rw [← e, List.length_map] at hlt; exact hlt)
      refine ⟨fn, tmps, assign, body, hy, hR.mono ?_⟩
      rintro e2 W' (⟨r1, r2, r3⟩ | ⟨r1, r2⟩)
      · exact .inl ⟨r1, ⟨p' ++ [⟨x, hx⟩], by simp [e], r2⟩, r3⟩
      · exact .inr ⟨r1, ⟨p' ++ [⟨x, hx⟩], by simp [e], r2⟩⟩)
    ((hW.cell (p := ⟨Bn, 0, none⟩) hBl).trans hBn) (hL.fr (S := []) ⟨hW.os, hW.tape, hW.output, hW.size, fun k hk _ => hW.block k hk⟩ (by simp)) ⟨[], rfl, h0⟩
  refine h.mono ?_
  rintro e W' ⟨he, ⟨ss, h1, h2, p', e2, hj⟩ | ⟨pre, _, p', _, hj⟩⟩
  · exact ⟨he, .inl ⟨p', ⟨ss, h1, h2, e2⟩, hj⟩⟩
  · exact ⟨he, .inr ⟨p', trivial, hj⟩⟩
set_option maxHeartbeats 1000000 in
theorem byKeysT_fn (n : Nat) (b : Nat) (w : World) :
    CallsIn Fence.wide n Tryz.prog 138 #[.map (some b)] w fun e w' => e = .returned (.func (.func 195) #[] #[.pointer (some ⟨w.heap.size, 0, none⟩)]) ∧ w' = w.alloc (.cells #[.map (some b)] 182) := by
  refine callsIn_of_wp Tryz.func138 rfl trivial ?_ rfl
  simp only [Tryz.ntmps138, List.size_toArray, List.length_cons, List.length_nil, Nat.reduceAdd, Nat.reduceSub, Array.replicate_succ, Array.replicate_zero, List.push_toArray, List.append_toArray, List.nil_append, List.cons_append]
  gi_wp2
  go_ret
  exact ⟨rfl, rfl⟩
end Go.Proofs.YtejiankgafjppaaGreatDoor
/- SHARDS: Waiting. -/
namespace Go.Proofs.YtejiankgafjppaaGreatDoor
open Go.RowKit Go.Maps Go.Shelf
open Sc

theorem wpListIn_append_at {F : Fence} {n : Nat} {P : Program} (w : World) {ops : Array Oper} {rest : List Oper} {o : Oper} {a : Act} {Q : Exit → Act → World → Prop}
    (hg : o.guard = none) (s x : Operand) (t : TypeId) (hop : o.op = Op.call { callee := Callee.builtin Builtin.append, args := #[s, x], argTypes := #[t, t] })
    (base : Nat) (e : TypeId) (i : TypeInfo) (z : Value) (size bytes : Nat) (h1 : P.underlying t = some (.slice e)) (h2 : P.info? e = some i) (h3 : i.zero = some z) (h4 : i.size = size) (h5 : i.bytes = bytes) (h6 : z.cells.size = size) (h7 : 0 < size)
    (v : Value) (k : Nat) (xs : List Value) (hs : a.eval s = v) (hown : w.ownsRow base e size v k xs) (ad : Addr) (m c : Nat) (news : List Value) (hx : a.eval x = .slice (some ad) m c) (hn : news.length = m * size)
    (hc : ∀ j u, news[j]? = some u → w.cell? (ad.add j) = some u) (h1c : ∀ u ∈ news, u.oneCell' = true) (b1 : k + m ≤ maxLen) (b2 : (k + m) * bytes ≤ 140737488355328) (b3 : base ≤ w.heap.size)
    (hK : ∀ v' w', w'.ownsRow base e size v' (k + m) (xs ++ news) → w.grownBy w' v.ownBlock → (v'.ownBlock = v.ownBlock ∨ v'.ownBlock = some w.heap.size) → wpListIn F n P ops Q rest (a.put o.dst v') w') :
    wpListIn F n P ops Q (o :: rest) a w := by
  refine wpListIn_plain hg fun K hK' => ?_
  obtain ⟨v', w', hrun, r1, r2, _, r3⟩ := run_append_own_at (P := P) w base t o.type e i z size bytes h1 h2 h3 h4 h5 h6 h7 v k xs hown ad m c news hn hc h1c b1 b2 b3
  unfold Oper.wpIn
  refine ⟨?_, ?_⟩
  · simp [Oper.about, hop, resolve, Target.leads, Sem.run_pure]
  · rw [Oper.semAt_plain F _ _ (by rw [hop]; intro c hc'; cases hc')]
    simp [execOp, hop, resolve, invoke, builtin, hs, hx, hrun, Result.andThen]
    exact hK' _ _ (hK v' w' r1 r2 r3)
/-- those that are prepared -/
def waits (ys : List (Nat × ATxn)) : List Nat := (ys.filter fun y => decide (y.2.state = 3)).map (·.1)
def waitsS {L : List (Nat × ATxn)} (pre : List { x : Nat × ATxn // x ∈ L }) : List Nat := waits (pre.map (·.1))
theorem waitsS_yes {L : List (Nat × ATxn)} (pre : List { x : Nat × ATxn // x ∈ L }) (x : { x : Nat × ATxn // x ∈ L }) (h : x.1.2.state = 3) : waitsS (pre ++ [x]) = waitsS pre ++ [x.1.1] := by simp [waitsS, waits, h]
theorem waitsS_no {L : List (Nat × ATxn)} (pre : List { x : Nat × ATxn // x ∈ L }) (x : { x : Nat × ATxn // x ∈ L }) (h : x.1.2.state ≠ 3) : waitsS (pre ++ [x]) = waitsS pre := by simp [waitsS, waits, h]
theorem waitsS_len {L : List (Nat × ATxn)} (pre : List { x : Nat × ATxn // x ∈ L }) : (waitsS pre).length ≤ pre.length := by
  unfold waitsS waits
  rw [List.length_map]
  exact Nat.le_trans (List.length_filter_le _ _) (by simp)
set_option maxRecDepth 100000 in
set_option maxHeartbeats 4000000 in
theorem waiting_in (n : Nat) (hn : 8 ≤ n) (sp lg bV bT bH m : Nat) (s : AShard) (w : World) (h : ShIn w sp lg bV bT bH m s) (hl : s.txns.length ≤ 12) :
    CallsIn Fence.wide n Tryz.prog 66 #[.pointer (some ⟨sp, 0, none⟩)] w fun e w' => ∃ v ss, e = .returned v ∧ ss.Perm (s.txns.map (·.1)) ∧ ss.Pairwise (· ≤ ·) ∧ w'.ownsRow w.heap.size 34 1 v (waits (atT s.txns ss)).length (u64s (waits (atT s.txns ss))) ∧ (v = .slice none 0 0 ↔ waits (atT s.txns ss) = []) ∧ Below w.heap.size w w' := by
  have hro : Fence.wide.round = none := rfl
  have h1 : 1 ≤ n := by omega
  have hf2 : Fence.wide.fn 138 := trivial
  have hf3 : Fence.wide.fn 195 := trivial
  obtain ⟨i0, hi, hz0, hz1, hz2⟩ := info_parts Tryz.infoU64
  have HL : Hid (MapAs KU ET w bT m s.txns ∧ s.txns.length ≤ 12) := ⟨h.txns, hl⟩
  have hsp : sp < w.heap.size := (Array.getElem?_eq_some_iff.1 h.blk).1
  have c2 : (w.alloc (.cells #[.slice none 0 0] 56)).cell? ⟨sp, 2, none⟩ = some (.map (some bT)) := by
    rw [World.cell?_alloc_lt _ _ ⟨sp, 2, none⟩ hsp]
    have := blk_cell h.blk 2
    simpa using this
  obtain ⟨L, hLL⟩ : ∃ L, L = s.txns := ⟨_, rfl⟩
  rw [← hLL] at HL ⊢
  clear h hl hLL
  refine callsIn_of_wp_marks Tryz.func66 rfl trivial ?_ hro
  simp only [Tryz.ntmps66, List.size_toArray, List.length_cons, List.length_nil, Nat.reduceAdd, Nat.reduceSub, Array.replicate_succ, Array.replicate_zero, List.push_toArray, List.append_toArray, List.nil_append, List.cons_append]
  gi_wp2_with (gi_at_call 138; refine (byKeysT_fn _ bT _).mono ?_; rintro e w2 ⟨rfl, rfl⟩)
  have bO := Boxed.new w 56 (.slice none 0 0)
  have bA := Boxed.new (w.alloc (.cells #[.slice none 0 0] 56)) 182 (.map (some bT))
  rw [World.size_alloc] at bA
  have bO1 := bO.alloc (.cells #[.map (some bT)] 182)
  have hB0 : Below w.heap.size w ((w.alloc (.cells #[.slice none 0 0] 56)).alloc (.cells #[.map (some bT)] 182)) := ((Below.refl _ w).alloc (Nat.le_refl _) _).alloc (by simp) _
  have hsz : ((w.alloc (.cells #[.slice none 0 0] 56)).alloc (.cells #[.map (some bT)] 182)).heap.size = w.heap.size + 2 := by simp
  obtain ⟨W0, hW0⟩ : ∃ W0, ((w.alloc (.cells #[.slice none 0 0] 56)).alloc (.cells #[.map (some bT)] 182)) = W0 := ⟨_, rfl⟩
  rw [hW0] at bA bO1 hB0 hsz ⊢
  clear hW0 bO c2
  have hL0 : MapAs KU ET W0 bT m L := HL.out.1.fr (S := []) ⟨hB0.os, hB0.tape, hB0.output, hB0.size, fun k hk _ => hB0.block k hk⟩ (by simp)
  refine wpIn_rangeFunc_ownH hro h1 (gf := 195) (lb := #[.pointer (some ⟨w.heap.size + 1, 0, none⟩)]) rfl hf3 (enters_of Tryz.func195 (by kernel_rfl) rfl)
    (byKeysT_stops (n - 1) (by omega) (w.heap.size + 1) bT m L HL.out.2 W0 (by omega) bA.cell hL0 (KpB 34 196 w.heap.size w.heap.size) (fun k A => ¬ RowOf w.heap.size A k)
      (fun W k A hW _ hA hr => by
        obtain ⟨v, e1, e2⟩ := hr
        have h1 : A.cell? ⟨w.heap.size, 0, none⟩ = W0.cell? ⟨w.heap.size, 0, none⟩ := (hA.cell (p := ⟨w.heap.size, 0, none⟩) (by have := hW.size; show w.heap.size < _; omega)).trans (hW.cell (p := ⟨w.heap.size, 0, none⟩) (by show w.heap.size < _; omega))
        rw [h1, bO1.cell] at e1
        cases e1
        cases e2)
      (fun k A B c t ht hk hA hn => ⟨hk.same k c t ht hA hn, fun hr => hn (hk.stay k (Array.getElem?_eq_some_iff.1 hA).1 hr)⟩))
    (fun h k => h.trans k) (KpB.book (by omega) (by omega)) (Below.refl _ _) (fun _ => rfl)
    (fun pre W => (∃ v, Boxed W w.heap.size 56 v ∧ W.ownsRow w.heap.size 34 1 v (waitsS pre).length (u64s (waitsS pre)) ∧ (v = .slice none 0 0 ↔ waitsS pre = [])) ∧ Below w.heap.size w W)
    (fun _ _ _ => False)
    (OwnFrom.and (Own.from (holdsRow_own w.heap.size w.heap.size 56 34 1 (fun pre : List { x : Nat × ATxn // x ∈ L } => (waitsS pre).length) (fun pre => u64s (waitsS pre)) (fun pre v => (v = .slice none 0 0 ↔ waitsS pre = []))) _) (ownFrom_below (Nat.le_refl _) (by omega)))
    (fun _ _ _ _ _ hs _ _ => hs)
    ⟨⟨_, bO1, World.ownsRow_nil _ _ _ _, by simp [waitsS, waits]⟩, hB0⟩
    (fun x a' W => ∃ Bx, w.heap.size < Bx ∧ W.heap[Bx]? = some (.cells #[.int .i64 (x.1.2.state : Int), .int .i64 (x.1.2.done : Int), .int .u64 (x.1.2.last : Int)] 196 (0, 0)) ∧ a' = { tmps := #[.pointer (some ⟨sp, 0, none⟩), undef, .slice none 0 0, .pointer (some ⟨w.heap.size, 0, none⟩), .int .u64 (x.1.1 : Int), .pointer (some ⟨Bx, 0, none⟩), .pointer (some ⟨sp, 0, none⟩), .pointer (some ⟨sp, 0, none⟩), .pointer (some ⟨sp, 2, none⟩), .map (some bT), .func (.func 195) #[] #[.pointer (some ⟨w.heap.size + 1, 0, none⟩)], .int .u64 (x.1.1 : Int), .agg #[.int .i64 (x.1.2.state : Int), .int .i64 (x.1.2.done : Int), .int .u64 (x.1.2.last : Int)], undef, undef, undef, undef, undef, undef, undef, undef], defers := [] })
    (fun x a' _ X Y row hs hg hr => by
      obtain ⟨Bx, h1, h2, h3⟩ := hs
      exact ⟨Bx, h1, (hg.block Bx (Array.getElem?_eq_some_iff.1 h2).1 (fun e => by obtain ⟨_, o, ho, hc⟩ := hr Bx e.symm; rw [h2] at ho; cases ho; cases hc)).trans h2, h3⟩)
    ?assign ?body ?done ?stop
  case assign =>
    have hsem := @Oper.semAt_some
    rintro l pre x W K ⟨⟨v, hv, hrow, hnil⟩, hB1⟩ hK
    have HNL : Hid (v = .slice none 0 0 ↔ waitsS pre = []) := hnil
    clear hnil
    gi_wp2
    exact hK _ _ ((KeepsOthers.alloc _ _).from _) (KpB.alloc _ hB1.size hv.lt _) ⟨⟨v, hv.alloc _, hrow.alloc _, HNL.out⟩, hB1.alloc hB1.size _⟩ ⟨W.heap.size, hv.lt, World.alloc_heap_new W _, rfl⟩
  case body =>
    have hsem := @Oper.semAt_some
    rintro l pre x a' W hl2 _ ⟨⟨v, hv, hrow, hnil⟩, hB⟩ ⟨Bx, hBx, bX, rfl⟩ hlt
    have hc := hv.cell
    have x0 := cell_blk0 bX 0
    simp at x0
    have HNL : Hid (v = .slice none 0 0 ↔ waitsS pre = []) := hnil
    clear hnil
    have hwl := waitsS_len pre
    have h12 := HL.out.2
    by_cases h3 : x.1.2.state = 3
    · have HW : Hid (waitsS (pre ++ [x]) = waitsS pre ++ [x.1.1]) := waitsS_yes pre x h3
      rw [h3] at x0 bX
      rw [h3]
      clear h3
      gi_wp2_with (gi_at_builtin; refine wpListIn_append_at _ rfl _ _ 56 rfl w.heap.size 34 i0 _ 1 8 Tryz.underlying56 hi hz0 hz1 hz2 rfl (by decide) _ _ _ rfl (hrow.alloc _) ⟨W.heap.size, 0, none⟩ 1 1 [.int .u64 (x.1.1 : Int)] rfl rfl (cells_new _ #[.int .u64 (x.1.1 : Int)] _) (by intro u hu; simp at hu; subst hu; rfl) (by unfold maxLen; omega) (by omega) (by have := hB.size; simp; omega) ?_; intro v' w1 hown' hgrow hat; obtain ⟨g', cap', rfl⟩ := ownsRow_succ hown'; obtain ⟨hv1, hv2, hr2, hk2, hb2⟩ := hv.appended (by decide) hrow hB.size (Nat.le_refl _) hown' hgrow; have hc1 := hv1.cell; have hf1 := hv1.frozen; have HKP : Hid (KpB 34 196 w.heap.size w.heap.size W (w1.setCell ⟨w.heap.size, 0, none⟩ (.slice (some ⟨g', 0, none⟩) ((waitsS pre).length + 1) cap'))) := KpB.appended hv (by decide) (by decide) hgrow hat hb2 hv2; clear hat)
      exact ⟨hk2.from _, HKP.out, ⟨_, hv2, by rw [HW.out, u64s_snoc]; simpa using hr2, by rw [HW.out]; simp⟩, hB.trans hb2⟩
    · have HW : Hid (waitsS (pre ++ [x]) = waitsS pre) := waitsS_no pre x h3
      have i3 : ¬ (x.1.2.state : Int) = 3 := by omega
      gi_wp2
      exact ⟨KeepsFrom.refl _ _, KpB.refl _, ⟨v, hv, by rw [HW.out]; exact hrow, by rw [HW.out]; exact HNL.out⟩, hB⟩
  case done =>
    rintro D ys W hD hys ⟨⟨v, hv, hrow, hnil⟩, hB⟩ hK
    have hc := hv.cell
    have HNL : Hid (v = .slice none 0 0 ↔ waitsS ys = []) := hnil
    clear hnil
    obtain ⟨ss, p1, p2, p3⟩ := hys
    have e : waitsS ys = waits (atT L ss) := by unfold waitsS; rw [p3]
    have HE : Hid (waitsS ys = waits (atT L ss)) := e
    have HP : Hid (ss.Perm (L.map (·.1)) ∧ ss.Pairwise (· ≤ ·)) := ⟨p1, p2⟩
    clear e p1 p2 p3
    gi_wp2
    refine ⟨by simp, .inl ⟨_, _, rfl, run_takeDeferred hK, ?_⟩⟩
    exact ⟨_, results_tmp rfl _ _ _, v, ss, rfl, HP.out.1, HP.out.2, by rw [← HE.out]; exact ownsRow_putObj hrow _ hK rfl, by rw [← HE.out]; exact HNL.out, hB.trans (belowK_b (w := w) (Nat.le_refl _) W D _ _ (by omega) hK rfl rfl)⟩
  case stop =>
    rintro D c pre W _ _ h _
    exact h.elim
theorem waiting_any (sp lg bV bT bH m : Nat) (s : AShard) (w : World) (h : ShIn w sp lg bV bT bH m s) (hl : s.txns.length ≤ 12) :
    Calls Tryz.prog 66 #[.pointer (some ⟨sp, 0, none⟩)] w fun e w' => ∃ v ss, e = .returned v ∧ ss.Perm (s.txns.map (·.1)) ∧ ss.Pairwise (· ≤ ·) ∧ w'.ownsRow w.heap.size 34 1 v (waits (atT s.txns ss)).length (u64s (waits (atT s.txns ss))) ∧ (v = .slice none 0 0 ↔ waits (atT s.txns ss) = []) ∧ Below w.heap.size w w' :=
  (callsIn_wide (n := 8)).1 (waiting_in 8 (Nat.le_refl _) sp lg bV bT bH m s w h hl)
end Go.Proofs.YtejiankgafjppaaGreatDoor
