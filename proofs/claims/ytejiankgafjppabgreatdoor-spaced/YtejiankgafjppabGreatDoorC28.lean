import Derived.Test.YtejiankgafjppabGreatDoorC27
import Derived.Test.YtejiankgafjppabGreatDoorC26
/- THE ENTRY OF ONE THAT IS PREPARED: preparedEntry. -/
namespace Go.Proofs.YtejiankgafjppabGreatDoor
open Go.RowKit Go.Maps Go.Shelf
open Sc

/-- what a hold is in an entry -/
def holdB (x : ByteArray × AGrip) : List Nat := [x.2.way] ++ [x.1.size] ++ bytesOf x.1 ++ [x.2.val.size] ++ bytesOf x.2.val
def holdsB (xs : List (ByteArray × AGrip)) : List Nat := xs.flatMap holdB
def SmallH (x : ByteArray × AGrip) : Prop := x.1.size ≤ 16 ∧ x.2.val.size ≤ 32 ∧ x.2.way < 256
/-- what holds are in an entry -/
def holdsS (pre : List { x : ByteArray × AGrip // SmallH x }) : List Nat := holdsB (pre.map (·.1))
theorem holdB_len {x : ByteArray × AGrip} (h : SmallH x) : (holdB x).length ≤ 51 := by
  obtain ⟨h1, h2, _⟩ := h
  simp only [holdB, List.length_append, List.length_cons, List.length_nil, bytesOf_len]
  omega
theorem holdsS_snoc (pre : List { x : ByteArray × AGrip // SmallH x }) (x : { x : ByteArray × AGrip // SmallH x }) : holdsS (pre ++ [x]) = holdsS pre ++ holdB x.1 := by simp [holdsS, holdsB]
theorem holdsB_len : ∀ (pre : List { x : ByteArray × AGrip // SmallH x }), (holdsS pre).length ≤ pre.length * 51
  | [] => by simp [holdsS, holdsB]
  | x :: r => by
    have h1 := holdB_len x.2
    have h2 := holdsB_len r
    simp only [holdsS, holdsB, List.map_cons, List.flatMap_cons, List.length_append, List.length_cons] at *
    omega
theorem be1 {n : Nat} (h : n < 256) : be 1 n = [n] := by
  unfold be
  have : digit 1 n 0 = n := by unfold digit; simp; omega
  simp [List.range_succ, this]
/-- a box of another type stays -/
theorem boxed_tfr {W W' : World} {B : Nat} {t t2 : TypeId} {v : Value} (h : Boxed W B t v) (hf : TFr t2 W W') (ht : t ≠ t2) : Boxed W' B t v :=
  (hf.block B h.lt (fun c e => by rw [show W.heap[B]? = _ from h] at e; exact ht (by simpa using (Obj.cells.inj (Option.some.inj e)).2.1))).trans h
theorem blk_tfr {W W' : World} {B : Nat} {t t2 : TypeId} {c : Array Value} (h : W.heap[B]? = some (.cells c t (0, 0))) (hf : TFr t2 W W') (ht : t ≠ t2) : W'.heap[B]? = some (.cells c t (0, 0)) :=
  (hf.block B (Array.getElem?_eq_some_iff.1 h).1 (fun c' e => by rw [h] at e; exact ht (by simpa using (Obj.cells.inj (Option.some.inj e)).2.1))).trans h
/-- only blocks of uint8, a box, and new ones have turned: what is needed of a round -/
theorem KpT.of {t1 t2 t3 t4 : TypeId} {n₀ B : Nat} {W W' : World} {v u : Value} (hb : Below n₀ W W') (hf : TFr t3 W W') (hB : Boxed W' B t4 v) (h13 : t1 ≠ t3) (h23 : t2 ≠ t3) (h14 : t1 ≠ t4) (h24 : t2 ≠ t4) (hn : n₀ ≤ B) : KpT t1 t2 n₀ W (W'.setCell ⟨B, 0, none⟩ u) :=
  ⟨hb.setCell (p := ⟨B, 0, none⟩) hn u, fun k c t ht hk => by
    have h1 : t ≠ t3 := by rcases ht with rfl | rfl <;> assumption
    have h2 : t ≠ t4 := by rcases ht with rfl | rfl <;> assumption
    have e := blk_tfr hk hf h1
    refine (Below.heap_setCell _ _ _ k (fun ek => ?_)).trans (e.trans hk.symm)
    simp at ek
    subst ek
    rw [show W'.heap[k]? = _ from hB] at e
    exact h2 (by simpa using (Obj.cells.inj (Option.some.inj e)).2.1.symm)⟩
theorem TFr.others {t : TypeId} {W W' : World} (h : TFr t W W') : KeepsOthers W W' :=
  ⟨h.size, fun k o hk ho => (h.block k (Array.getElem?_eq_some_iff.1 hk).1 (fun c e => by rw [hk] at e; cases e; cases ho)).trans hk⟩
theorem setCell_blk {W : World} {B k : Nat} {o : Obj} {u : Value} (h : W.heap[k]? = some o) (hne : k ≠ B) : (W.setCell ⟨B, 0, none⟩ u).heap[k]? = some o := (Below.heap_setCell _ _ _ k (fun e => hne (by simpa using e))).trans h
theorem own_set {W : World} {base size n B : Nat} {e t : TypeId} {v u x : Value} {xs : List Value} (h : W.ownsRow base e size v n xs) (hB : Boxed W B t u) (hte : t ≠ e) : (W.setCell ⟨B, 0, none⟩ x).ownsRow base e size v n xs :=
  h.kept (grownBy_setCell' W B x) (.inr (hB.not_row hte h).symm)
set_option maxRecDepth 100000 in
set_option maxHeartbeats 4000000 in
theorem prepared_in (n : Nat) (hn : 8 ≤ n) (t b m : Nat) (L : List (ByteArray × AGrip)) (hm : m ≤ 67108864) (w : World) (hL : MapAs KS EG w b m L) (ht : t < 18446744073709551616) (hsm : ∀ x ∈ sortG L, SmallH x) (hl : L.length ≤ 16) :
    CallsIn Fence.wide n Tryz.prog 128 #[.int .u64 (t : Int), .map (some b)] w fun e w' => e = .returned (.string (str (be 8 t ++ holdsB (sortG L)))) ∧ Below w.heap.size w w' := by
  have hro : Fence.wide.round = none := rfl
  have h1 : 1 ≤ n := by omega
  have hg := (callsIn_wide (n := n - 1)).2 (grow_u64 w.heap.size (.slice none 0 0) [] t 0 w (World.ownsRow_nil _ _ _ _) ht (by omega) (Nat.le_refl _))
  have hf1 : Fence.wide.fn 131 := trivial
  have hf2 : Fence.wide.fn 173 := trivial
  have hf3 : Fence.wide.fn 225 := trivial
  have HL : Hid (MapAs KS EG w b m L ∧ (∀ x ∈ sortG L, SmallH x) ∧ L.length ≤ 16) := ⟨hL, hsm, hl⟩
  clear hL hsm hl
  refine callsIn_of_wp_marks Tryz.func128 rfl trivial ?_ hro
  simp only [Tryz.ntmps128, List.size_toArray, List.length_cons, List.length_nil, Nat.reduceAdd, Nat.reduceSub, Array.replicate_succ, Array.replicate_zero, List.push_toArray, List.append_toArray, List.nil_append, List.cons_append]
  gi_wp2_with (first
    | (gi_at_call 131; refine hg.mono ?_; rintro e w1 ⟨v1, rfl, ho1, hb1, _⟩; obtain ⟨g, cap, rfl⟩ := own_pos ho1 (by omega))
    | (gi_at_call 173; refine (byKeysG_fn _ b _).mono ?_; rintro e w2 ⟨rfl, rfl⟩))
  have bO := Boxed.new w1 29 (.slice (some ⟨g, 0, none⟩) 8 cap)
  have bA := Boxed.new (w1.alloc (.cells #[.slice (some ⟨g, 0, none⟩) 8 cap] 29)) 210 (.map (some b))
  rw [World.size_alloc] at bA
  have bO1 := bO.alloc (.cells #[.map (some b)] 210)
  have hB0 : Below w.heap.size w ((w1.alloc (.cells #[.slice (some ⟨g, 0, none⟩) 8 cap] 29)).alloc (.cells #[.map (some b)] 210)) := (hb1.alloc hb1.size _).alloc (by have := hb1.size; simp; omega) _
  have hsz : ((w1.alloc (.cells #[.slice (some ⟨g, 0, none⟩) 8 cap] 29)).alloc (.cells #[.map (some b)] 210)).heap.size = w1.heap.size + 2 := by simp
  have hw1 := hb1.size
  have hoO := (ho1.alloc (.cells #[.slice (some ⟨g, 0, none⟩) 8 cap] 29)).alloc (.cells #[.map (some b)] 210)
  obtain ⟨W0, hW0⟩ : ∃ W0, ((w1.alloc (.cells #[.slice (some ⟨g, 0, none⟩) 8 cap] 29)).alloc (.cells #[.map (some b)] 210)) = W0 := ⟨_, rfl⟩
  rw [hW0] at bA bO1 hB0 hsz hoO ⊢
  clear hW0 bO ho1 hg
  have hL0 : MapAs KS EG W0 b m L := HL.out.1.fr (S := []) ⟨hB0.os, hB0.tape, hB0.output, hB0.size, fun k hk _ => hB0.block k hk⟩ (by simp)
  refine wpIn_rangeFunc_ownH hro h1 (gf := 225) (lb := #[.pointer (some ⟨w1.heap.size + 1, 0, none⟩)]) rfl hf3 (enters_of Tryz.func225 (by kernel_rfl) rfl)
    (byKeysG_stops (n - 1) (by omega) (w1.heap.size + 1) b m L SmallH HL.out.2.1 hm W0 (by omega) bA.cell hL0 (KpT 9 129 w.heap.size) (fun _ _ => True) (fun _ _ _ _ _ _ => trivial) (fun k A B c t ht hk hA _ => ⟨hk.same k c t ht hA, trivial⟩))
    (fun h k => h.trans k) (KpT.book (by omega)) (Below.refl _ _) (fun _ => rfl)
    (fun pre W => (∃ v, Boxed W w1.heap.size 29 v ∧ W.ownsRow w.heap.size 5 1 v (8 + (holdsS pre).length) (bs (be 8 t ++ holdsS pre)) ∧ True) ∧ Below w.heap.size w W)
    (fun _ _ _ => False)
    (OwnFrom.and (Own.from (holdsRow_own w.heap.size w1.heap.size 29 5 1 (fun pre : List { x : ByteArray × AGrip // SmallH x } => 8 + (holdsS pre).length) (fun pre => bs (be 8 t ++ holdsS pre)) (fun _ _ => True)) _) (ownFrom_below (Nat.le_refl _) (by omega)))
    (fun _ _ _ _ _ hs _ _ => hs)
    ⟨⟨_, bO1, by simpa [holdsS, holdsB] using hoO, trivial⟩, hB0⟩
    (fun x a' W => ∃ Bx, w1.heap.size < Bx ∧ W.heap[Bx]? = some (.cells #[.int .u8 (x.1.2.way : Int), .string x.1.2.val] 129 (0, 0)) ∧ a' = { tmps := #[.int .u64 (t : Int), .map (some b), undef, undef, .string { data := #[] }, .pointer (some ⟨w1.heap.size, 0, none⟩), .string x.1.1, .pointer (some ⟨Bx, 0, none⟩), .int .u64 (t : Int), .slice (some ⟨g, 0, none⟩) 8 cap, .map (some b), .func (.func 225) #[] #[.pointer (some ⟨w1.heap.size + 1, 0, none⟩)], .string x.1.1, .agg #[.int .u8 (x.1.2.way : Int), .string x.1.2.val], undef, undef, undef, undef, undef, undef, undef, undef, undef, undef, undef, undef, undef], defers := [] })
    (fun x a' _ X Y row hs hg hr => by
      obtain ⟨Bx, h1, h2, h3⟩ := hs
      exact ⟨Bx, h1, (hg.block Bx (Array.getElem?_eq_some_iff.1 h2).1 (fun e => by obtain ⟨_, o, ho, hc⟩ := hr Bx e.symm; rw [h2] at ho; cases ho; cases hc)).trans h2, h3⟩)
    ?assign ?body ?done ?stop
  case assign =>
    have hsem := @Oper.semAt_some
    rintro l pre x W K ⟨⟨v, hv, hrow, _⟩, hB1⟩ hK
    gi_wp2
    exact hK _ _ ((KeepsOthers.alloc _ _).from _) (KpT.alloc _ hB1.size _) ⟨⟨v, hv.alloc _, hrow.alloc _, trivial⟩, hB1.alloc hB1.size _⟩ ⟨W.heap.size, hv.lt, World.alloc_heap_new W _, rfl⟩
  case body =>
    have hsem := @Oper.semAt_some
    rintro l pre x a' W hl2 _ ⟨⟨v, hv, hrow, _⟩, hB⟩ ⟨Bx, hBx, bX, rfl⟩ hlt
    have hc := hv.cell
    have x0 := cell_blk0 bX 0
    have x1 := cell_blk0 bX 1
    simp at x0 x1
    have h3 : 1 ≤ n - 1 - 1 := by omega
    have hq1 : Fence.wide.fn 174 := trivial
    have hq2 : Fence.wide.fn 175 := trivial
    have hlen := holdsB_len pre
    have hL16 := HL.out.2.2
    obtain ⟨z1, z2, z3⟩ := x.2
    have c1 := (callsIn_wide (n := n - 1 - 1 - 1)).2 (grow_u8 w.heap.size v (be 8 t ++ holdsS pre) x.1.2.way (8 + (holdsS pre).length) W hrow z3 (by omega) hB.size)
    gi_wp2_with fail
    refine c1.mono ?_
    clear c1
    rintro e W1 ⟨v1, rfl, ho1, hb1, ht1⟩
    obtain ⟨g1, k1, rfl⟩ := own_pos ho1 (by omega)
    have hv1 := boxed_tfr hv ht1 (by decide)
    have bX1 := blk_tfr bX ht1 (by decide)
    have hc1 := hv1.cell
    have hf1 := hv1.frozen
    obtain ⟨W1', hW1'⟩ : ∃ W1', W1' = W1.setCell ⟨w1.heap.size, 0, none⟩ (.slice (some ⟨g1, 0, none⟩) (8 + (holdsS pre).length + 1) k1) := ⟨_, rfl⟩
    have HA : Hid (Boxed W1' w1.heap.size 29 (.slice (some ⟨g1, 0, none⟩) (8 + (holdsS pre).length + 1) k1) ∧ W1'.heap[Bx]? = some (.cells #[.int .u8 (x.1.2.way : Int), .string x.1.2.val] 129 (0, 0)) ∧ W1'.ownsRow w.heap.size 5 1 (.slice (some ⟨g1, 0, none⟩) (8 + (holdsS pre).length + 1) k1) (8 + (holdsS pre).length + 1) (bs (be 8 t ++ holdsS pre ++ be 1 x.1.2.way)) ∧ KpT 9 129 w.heap.size W W1' ∧ KeepsOthers W W1') := by
      rw [hW1']
      exact ⟨hv1.set _, setCell_blk bX1 (by omega), own_set ho1 hv1 (by decide), KpT.of hb1 ht1 hv1 (by decide) (by decide) (by decide) (by decide) (by omega), ht1.others.trans (KeepsOthers.setCell _ _ _)⟩
    have yc1 := cell_blk0 HA.out.2.1 1
    simp at yc1
    have c2 := (callsIn_wide (n := n - 1 - 1 - 1)).2 (text_any w.heap.size (.slice (some ⟨g1, 0, none⟩) (8 + (holdsS pre).length + 1) k1) (be 8 t ++ holdsS pre ++ be 1 x.1.2.way) (8 + (holdsS pre).length + 1) x.1.1 W1' HA.out.2.2.1 (by omega) (by omega) (Nat.le_trans hB.size HA.out.2.2.2.1.below.size))
    clear hc x0 x1
    rw [hW1'] at yc1
    gi_wp2_with fail
    rw [← hW1']
    clear hW1'
    refine c2.mono ?_
    clear c2
    rintro e W2 ⟨v2, rfl, ho2, hb2, ht2⟩
    obtain ⟨g2, k2, rfl⟩ := own_pos ho2 (by omega)
    have hv2 := boxed_tfr HA.out.1 ht2 (by decide)
    have bX2 := blk_tfr HA.out.2.1 ht2 (by decide)
    have hc2 := hv2.cell
    have hf2 := hv2.frozen
    have y0_2 := cell_blk0 bX2 0
    have y1_2 := cell_blk0 bX2 1
    simp at y0_2 y1_2
    obtain ⟨W2', hW2'⟩ : ∃ W2', W2' = W2.setCell ⟨w1.heap.size, 0, none⟩ (.slice (some ⟨g2, 0, none⟩) (8 + (holdsS pre).length + 1 + 1 + x.1.1.size) k2) := ⟨_, rfl⟩
    have HA2 : Hid (Boxed W2' w1.heap.size 29 (.slice (some ⟨g2, 0, none⟩) (8 + (holdsS pre).length + 1 + 1 + x.1.1.size) k2) ∧ W2'.heap[Bx]? = some (.cells #[.int .u8 (x.1.2.way : Int), .string x.1.2.val] 129 (0, 0)) ∧ W2'.ownsRow w.heap.size 5 1 (.slice (some ⟨g2, 0, none⟩) (8 + (holdsS pre).length + 1 + 1 + x.1.1.size) k2) (8 + (holdsS pre).length + 1 + 1 + x.1.1.size) (bs (be 8 t ++ holdsS pre ++ be 1 x.1.2.way ++ [x.1.1.size] ++ bytesOf x.1.1)) ∧ KpT 9 129 w.heap.size W W2' ∧ KeepsOthers W W2') := by
      rw [hW2']
      exact ⟨hv2.set _, setCell_blk bX2 (by omega), own_set ho2 hv2 (by decide), HA.out.2.2.2.1.trans (KpT.of hb2 ht2 hv2 (by decide) (by decide) (by decide) (by decide) (by omega)), HA.out.2.2.2.2.trans (ht2.others.trans (KeepsOthers.setCell _ _ _))⟩
    have yc2 := cell_blk0 HA2.out.2.1 1
    simp at yc2
    have c3 := (callsIn_wide (n := n - 1 - 1 - 1)).2 (text_any w.heap.size (.slice (some ⟨g2, 0, none⟩) (8 + (holdsS pre).length + 1 + 1 + x.1.1.size) k2) (be 8 t ++ holdsS pre ++ be 1 x.1.2.way ++ [x.1.1.size] ++ bytesOf x.1.1) (8 + (holdsS pre).length + 1 + 1 + x.1.1.size) x.1.2.val W2' HA2.out.2.2.1 (by omega) (by omega) (Nat.le_trans hB.size HA2.out.2.2.2.1.below.size))
    clear hc1 hf1 yc1
    rw [hW2'] at yc2
    gi_wp2_with fail
    rw [← hW2']
    clear hW2'
    refine c3.mono ?_
    clear c3
    rintro e W3 ⟨v3, rfl, ho3, hb3, ht3⟩
    obtain ⟨g3, k3, rfl⟩ := own_pos ho3 (by omega)
    have hv3 := boxed_tfr HA2.out.1 ht3 (by decide)
    have bX3 := blk_tfr HA2.out.2.1 ht3 (by decide)
    have hc3 := hv3.cell
    have hf3 := hv3.frozen
    have y0_3 := cell_blk0 bX3 0
    have y1_3 := cell_blk0 bX3 1
    simp at y0_3 y1_3
    obtain ⟨W3', hW3'⟩ : ∃ W3', W3' = W3.setCell ⟨w1.heap.size, 0, none⟩ (.slice (some ⟨g3, 0, none⟩) (8 + (holdsS pre).length + 1 + 1 + x.1.1.size + 1 + x.1.2.val.size) k3) := ⟨_, rfl⟩
    have HA3 : Hid (Boxed W3' w1.heap.size 29 (.slice (some ⟨g3, 0, none⟩) (8 + (holdsS pre).length + 1 + 1 + x.1.1.size + 1 + x.1.2.val.size) k3) ∧ W3'.heap[Bx]? = some (.cells #[.int .u8 (x.1.2.way : Int), .string x.1.2.val] 129 (0, 0)) ∧ W3'.ownsRow w.heap.size 5 1 (.slice (some ⟨g3, 0, none⟩) (8 + (holdsS pre).length + 1 + 1 + x.1.1.size + 1 + x.1.2.val.size) k3) (8 + (holdsS pre).length + 1 + 1 + x.1.1.size + 1 + x.1.2.val.size) (bs (be 8 t ++ holdsS pre ++ be 1 x.1.2.way ++ [x.1.1.size] ++ bytesOf x.1.1 ++ [x.1.2.val.size] ++ bytesOf x.1.2.val)) ∧ KpT 9 129 w.heap.size W W3' ∧ KeepsOthers W W3') := by
      rw [hW3']
      exact ⟨hv3.set _, setCell_blk bX3 (by omega), own_set ho3 hv3 (by decide), HA2.out.2.2.2.1.trans (KpT.of hb3 ht3 hv3 (by decide) (by decide) (by decide) (by decide) (by omega)), HA2.out.2.2.2.2.trans (ht3.others.trans (KeepsOthers.setCell _ _ _))⟩
    have yc3 := cell_blk0 HA3.out.2.1 1
    simp at yc3
    clear hc2 hf2 yc2 yc3
    gi_wp2
    rw [← hW3']
    clear hW3'
    have h := HA3.out
    have e1 : be 8 t ++ holdsS pre ++ be 1 x.1.2.way ++ [x.1.1.size] ++ bytesOf x.1.1 ++ [x.1.2.val.size] ++ bytesOf x.1.2.val = be 8 t ++ holdsS (pre ++ [x]) := by
      rw [holdsS_snoc, be1 z3]; simp [holdB]
    have e2 : 8 + (holdsS pre).length + 1 + 1 + x.1.1.size + 1 + x.1.2.val.size = 8 + (holdsS (pre ++ [x])).length := by
      rw [holdsS_snoc]; simp only [holdB, List.length_append, List.length_cons, List.length_nil, bytesOf_len]; omega
    rw [e1, e2] at h
    exact ⟨h.2.2.2.2.from _, h.2.2.2.1, ⟨_, h.1, h.2.2.1, trivial⟩, hB.trans h.2.2.2.1.below⟩
  case done =>
    rintro D ys W hD hys ⟨⟨v, hv, hrow, _⟩, hB⟩ hK
    have hc := hv.cell
    obtain ⟨g5, k5, rfl⟩ := own_pos hrow (by omega)
    have hcv := run_str W g5 0 (8 + (holdsS ys).length) k5 (be 8 t ++ holdsS ys) (by rw [List.length_append, be_len]) (own_row hrow)
    gi_wp2
    refine ⟨by simp, .inl ⟨_, _, rfl, run_takeDeferred hK, ?_⟩⟩
    have e : holdsS ys = holdsB (sortG L) := by unfold holdsS; rw [hys]
    exact ⟨_, results_tmp rfl _ _ _, by rw [← e]; rfl, hB.trans (belowK_b (w := w) (Nat.le_refl _) W D _ _ (by omega) hK rfl rfl)⟩
  case stop =>
    rintro D c pre W _ _ h _
    exact h.elim
theorem prepared_any (t b m : Nat) (L : List (ByteArray × AGrip)) (hm : m ≤ 67108864) (w : World) (hL : MapAs KS EG w b m L) (ht : t < 18446744073709551616) (hsm : ∀ x ∈ sortG L, SmallH x) (hl : L.length ≤ 16) :
    Calls Tryz.prog 128 #[.int .u64 (t : Int), .map (some b)] w fun e w' => e = .returned (.string (str (be 8 t ++ holdsB (sortG L)))) ∧ Below w.heap.size w w' :=
  (callsIn_wide (n := 8)).1 (prepared_in 8 (Nat.le_refl _) t b m L hm w hL ht hsm hl)
end Go.Proofs.YtejiankgafjppabGreatDoor
/- A SHARD AND ITS LEDGER: prepare, Prepare. -/
namespace Go.Proofs.YtejiankgafjppabGreatDoor
open Go.RowKit Go.Maps
open Sc

theorem sortG_mem {L : List (ByteArray × AGrip)} (h1 : Once1 L) {x : ByteArray × AGrip} (hx : x ∈ sortG L) : x ∈ L := by
  unfold sortG at hx
  obtain ⟨k, hk, rfl⟩ := List.mem_map.1 hx
  obtain ⟨v, hv⟩ := sortK_mem.1 hk
  rw [alLook_of h1 hv]
  exact hv
theorem held_exists {hs : List ((Nat × ByteArray) × AGrip)} (h : Once1 hs) (t : Nat) : ∃ L : List (ByteArray × AGrip), Once1 L ∧ ∀ k, alLook L k = alLook hs (t, k) := by
  refine ⟨(hs.filter fun p => decide (p.1.1 = t)).map fun p => (p.1.2, p.2), ?_, fun k => ?_⟩
  · unfold Once1
    rw [List.pairwise_map]
    refine (List.Pairwise.filter _ h).imp_of_mem ?_
    intro a b ha hb hne e
    have h1 := (List.mem_filter.1 ha).2
    have h2 := (List.mem_filter.1 hb).2
    simp at h1 h2
    exact hne (Prod.ext (h1.trans h2.symm) e)
  · unfold alLook
    rw [List.find?_map, List.find?_filter, Option.map_map]
    have hp : ∀ (p q : (Nat × ByteArray) × AGrip → Bool), (∀ a, p a = q a) → hs.find? p = hs.find? q := fun p q e => by rw [funext e]
    rw [hp _ (fun p => decide (p.1 = (t, k))) fun a => by obtain ⟨⟨a1, a2⟩, a3⟩ := a; simp [Prod.ext_iff]]
    rfl
/-- all that is held is small -/
def AShard.Small (s : AShard) : Prop := ∀ p ∈ s.holds, SmallH (p.1.2, p.2)
/-- what Prepare of one that is working leaves, and says -/
def AShard.prep (s : AShard) (l : ALog) (d : ADisk) (t : Nat) (L : List (ByteArray × AGrip)) : AShard × ALog × ADisk × Nat × Nat :=
  if anyW L = true then
    if (l.keep d 1 (str (be 8 t ++ holdsB (sortG L)))).2.2 = 0 then ({ s with txns := alPut s.txns t ⟨3, 0, 0⟩ }, (l.keep d 1 (str (be 8 t ++ holdsB (sortG L)))).1, (l.keep d 1 (str (be 8 t ++ holdsB (sortG L)))).2.1, 2, 0)
    else (s, (l.keep d 1 (str (be 8 t ++ holdsB (sortG L)))).1, (l.keep d 1 (str (be 8 t ++ holdsB (sortG L)))).2.1, 0, (l.keep d 1 (str (be 8 t ++ holdsB (sortG L)))).2.2)
  else (s.forget t, l, d, 4, 0)
section
variable (B sp gp bV bT bH m lp p bD bN n t : Nat) (s : AShard) (l : ALog) (d : ADisk) (w : World)
set_option maxRecDepth 100000 in
set_option maxHeartbeats 4000000 in
theorem prep_any (h : SL w B sp gp bV bT bH m lp p bD bN n s l d) (ht : t < 18446744073709551616) (hn : n + 3 < 67108864) (hB : 2 ≤ B) (hsg : l.filled < 600 → l.segs ≠ []) (hpow : Pows w) (hm : m < 67108864) (hc : s.count t ≤ 16) (hv : s.Small) :
    Calls Tryz.prog 72 #[.pointer (some ⟨sp, 0, none⟩), .int .u64 (t : Int)] w fun e w' => ∃ L, Once1 L ∧ (∀ k, alLook L k = alLook s.holds (t, k)) ∧ e = .returned (.tuple #[.int .i64 ((s.prep l d t L).2.2.2.1 : Int), errN (s.prep l d t L).2.2.2.2]) ∧ SL w' B sp gp bV bT bH (m + 1) lp p bD bN (n + 3) (s.prep l d t L).1 (s.prep l d t L).2.1 (s.prep l d t L).2.2.1 ∧ SFr sp bV bT bH lp p w w' := by
  have hho := holdsOf_any sp gp bV bT bH m t s w h.sh ht (by unfold maxLen; omega)
  have HH : Hid (SL w B sp gp bV bT bH m lp p bD bN n s l d ∧ Pows w ∧ s.count t ≤ 16 ∧ s.Small ∧ (l.filled < 600 → l.segs ≠ [])) := ⟨h, hpow, hc, hv, hsg⟩
  have hsp := h.sh.lts.1
  clear h hc hv hsg hpow
  go_enter Tryz.func72, Tryz.ntmps72
  go_wp2_with fail
  refine hho.mono ?_
  clear hho
  rintro e w1 ⟨b, L, rfl, hb, hL, hlk, hf1⟩
  have haw := anyWrites_any b m L w1 hL
  have HL : Hid (MapAs KS EG w1 b m L ∧ (∀ k, alLook L k = alLook s.holds (t, k)) ∧ Fr [] w w1) := ⟨hL, hlk, hf1⟩
  have HO : Hid (Once1 L) := by obtain ⟨_, _, _, h3, _⟩ := hL; exact h3
  have hbl := hL.lt
  clear hL hlk hf1
  go_wp2_with fail
  refine haw.mono ?_
  clear haw
  rintro e w2 ⟨rfl, hf2⟩
  have HF2 : Hid (Fr [] w w2) := HL.out.2.2.trans hf2
  have HL2 : Hid (MapAs KS EG w2 b m L) := HL.out.1.fr hf2 (by simp)
  obtain ⟨h2, hs2⟩ := HH.out.1.new HF2.out
  have H2 : Hid (SL w2 B sp gp bV bT bH m lp p bD bN n s l d ∧ SFr sp bV bT bH lp p w w2) := ⟨h2, hs2⟩
  clear hf2 h2 hs2
  cases hw : anyW L with
  | false =>
    have HP : Hid (s.prep l d t L = (s.forget t, l, d, 4, 0)) := by show _ = _; unfold AShard.prep; rw [if_neg (by rw [hw]; decide)]
    clear hw
    go_wp2_with fail
    refine (forget_any sp gp bV bT bH m t s w2 H2.out.1.sh ht).mono ?_
    rintro e w3 ⟨rfl, hs3, hf3⟩
    obtain ⟨h3, hx3⟩ := H2.out.1.turn hs3 hf3 (by simp)
    have H3 : Hid (SL w3 B sp gp bV bT bH m lp p bD bN n (s.forget t) l d ∧ SFr sp bV bT bH lp p w w3) := ⟨h3, H2.out.2.trans hx3⟩
    clear hs3 hf3 h3 hx3
    go_wp2
    go_ret2
    obtain ⟨pv, sv, rv, nD, nN, hl⟩ := H3.out.1.lg
    refine ⟨L, HO.out, HL.out.2.1, ?_, ?_, H3.out.2⟩
    · rw [HP.out]; rfl
    · rw [HP.out]; exact ⟨H3.out.1.sh.mono (by omega), ⟨pv, sv, rv, nD, nN, hl.mores (by omega) (by omega)⟩, H3.out.1.ap, H3.out.1.gp1⟩
  | true =>
    have hsmall : ∀ x ∈ sortG L, SmallH x := fun x hx => by
      have h1 := alLook_of HO.out (sortG_mem HO.out hx)
      rw [HL.out.2.1] at h1
      exact HH.out.2.2.2.1 _ (alLook_mem h1)
    have hlen : L.length ≤ 16 := by
      have hso : Once1 s.holds := by obtain ⟨_, _, _, h3, _⟩ := H2.out.1.sh.holds; exact h3
      rw [AShard.count_of hso HO.out HL.out.2.1]
      exact HH.out.2.2.1
    have hpe := prepared_any t b m L (by omega) w2.drew (HL2.out.fr (Fr.refl [] w2).drew (by simp)) ht hsmall hlen
    obtain ⟨X, hX⟩ : ∃ X, X = str (be 8 t ++ holdsB (sortG L)) := ⟨_, rfl⟩
    rw [← hX] at hpe
    have HK : Hid (∀ w1, Fr [] w2 w1 → Calls Tryz.prog 74 #[.pointer (some ⟨gp, 0, none⟩), .int .u8 1, .string X] w1 fun e w2 => e = .returned (errN (l.keep d 1 X).2.2) ∧ SL w2 B sp gp bV bT bH m lp p bD bN (n + 3) s (l.keep d 1 X).1 (l.keep d 1 X).2.1 ∧ SFr sp bV bT bH lp p w w2) := fun w1 hf1 => by
      obtain ⟨h1, hs1⟩ := H2.out.1.new hf1
      obtain ⟨pv, sv, rv, nD, nN, hl⟩ := h1.lg
      have hp1 : Pows w1 := HH.out.2.1.of_block ((HF2.out.trans hf1).block 1 (by obtain ⟨_, _, _, _, _, h2⟩ := HH.out.1.lg; have := h2.disk.base.2.2.2; omega) (by simp))
      refine (keep_any B gp lp p bD bN n nD nN 1 pv sv rv l d X w1 h1.ap.led hl (by omega) hn hB HH.out.2.2.2.2 hp1).mono ?_
      rintro e w2 ⟨he, hl2, ho2⟩
      obtain ⟨h2, hs2⟩ := h1.log ho2 hl2
      exact ⟨he, h2, H2.out.2.trans (hs1.trans hs2)⟩
    obtain ⟨R, hR⟩ : ∃ R, R = l.keep d 1 X := ⟨_, rfl⟩
    have HP : Hid (s.prep l d t L = if R.2.2 = 0 then ({ s with txns := alPut s.txns t ⟨3, 0, 0⟩ }, R.1, R.2.1, 2, 0) else (s, R.1, R.2.1, 0, R.2.2)) := by show _ = _; unfold AShard.prep; rw [if_pos hw, ← hX, ← hR]
    rw [← hR] at HK
    clear hR hX hw hsmall hlen
    have c0 := blk_cell H2.out.1.sh.blk 0
    simp at c0
    rw [lgP_pos H2.out.1.gp1] at c0
    have hsp2 := H2.out.1.sh.lts.1
    go_wp2
    go_region_held3 (fun w' => w'.cell? ⟨sp, 0, none⟩ = some (.pointer (some ⟨gp, 0, none⟩)))
      (simp [*])
      (first
        | (go_at_call 128; refine hpe.mono ?_; rintro e w3 ⟨rfl, hb3⟩; have hf3 : Fr [] w2 w3 := ⟨hb3.os, hb3.tape, hb3.output, hb3.size, fun k hk _ => hb3.block k hk⟩; have p0 : w3.cell? ⟨sp, 0, none⟩ = some (.pointer (some ⟨gp, 0, none⟩)) := (World.cell?_of_block (a := ⟨sp, 0, none⟩) (hf3.block sp hsp2 (by simp))).trans c0; have H3 : Hid (Fr [] w2 w3) := hf3; clear hb3 hf3)
        | (go_at_call 74; refine (HK.out w3 H3.out).mono ?_; rintro e w4 ⟨rfl, h4, hs4⟩; have q0 : w4.cell? ⟨sp, 0, none⟩ = some (.pointer (some ⟨gp, 0, none⟩)) := (blk_cell h4.sh.blk 0).trans (by simp [lgP_pos h4.gp1]); have H4 : Hid (SL w4 B sp gp bV bT bH m lp p bD bN (n + 3) s R.1 R.2.1 ∧ SFr sp bV bT bH lp p w w4) := ⟨h4, hs4⟩; clear h4 hs4))
    by_cases hr : R.2.2 = 0
    · rw [hr, errN_ok]
      have HP2 : Hid (s.prep l d t L = ({ s with txns := alPut s.txns t ⟨3, 0, 0⟩ }, R.1, R.2.1, 2, 0)) := by show _ = _; rw [HP.out, if_pos hr]
      have c2 := blk_cell H4.out.1.sh.blk 2
      simp at c2
      obtain ⟨w5, hr5, hm5, hg5⟩ := H4.out.1.sh.txns.putRun Tryz.underlying133 (by unfold maxLen; omega) (k := t) ht (v := (⟨3, 0, 0⟩ : ATxn)) trivial
      change (Instr.mapUpdate _ _ (.int .u64 (t : Int)) (.agg #[.int .i64 3, .int .i64 0, .int .u64 0])).run _ _ = _ at hr5
      have hf5 : Fr [bT] w4 w5 := Fr.of_grown1 hg5
      obtain ⟨h5, hx5⟩ := H4.out.1.turn (H4.out.1.sh.setTxns hf5 hm5 (by omega)) hf5 (by simp)
      have H5 : Hid (SL w5 B sp gp bV bT bH (m + 1) lp p bD bN (n + 3) { s with txns := alPut s.txns t ⟨3, 0, 0⟩ } R.1 R.2.1 ∧ SFr sp bV bT bH lp p w w5) := ⟨h5, H4.out.2.trans hx5⟩
      clear hr HP hm5 hg5 hf5 h5 hx5
      go_wp2
      go_ret2
      refine ⟨L, HO.out, HL.out.2.1, ?_, ?_, H5.out.2⟩
      · rw [HP2.out]; rfl
      · rw [HP2.out]; exact H5.out.1
    · have HP2 : Hid (s.prep l d t L = (s, R.1, R.2.1, 0, R.2.2)) := by show _ = _; rw [HP.out, if_neg hr]
      rw [errN_no hr]
      go_wp2
      go_ret2
      refine ⟨L, HO.out, HL.out.2.1, ?_, ?_, H4.out.2⟩
      · rw [HP2.out, errN_no hr]; rfl
      · rw [HP2.out]; exact ⟨H4.out.1.sh.mono (by omega), H4.out.1.lg, H4.out.1.ap, H4.out.1.gp1⟩
/-- what Prepare leaves, and says -/
def AShard.prepare (s : AShard) (l : ALog) (d : ADisk) (t : Nat) (L : List (ByteArray × AGrip)) : AShard × ALog × ADisk × Nat × Nat :=
  if t = 0 then (s, l, d, 0, 7) else if (s.txn t).state = 3 then (s, l, d, 2, 0) else if (s.txn t).state = 1 then s.prep l d t L else (s.forget t, l, d, 3, 0)
set_option maxRecDepth 100000 in
set_option maxHeartbeats 4000000 in
theorem prepare_any (h : SL w B sp gp bV bT bH m lp p bD bN n s l d) (ht : t < 18446744073709551616) (hn : n + 3 < 67108864) (hB : 2 ≤ B) (hsg : l.filled < 600 → l.segs ≠ []) (hpow : Pows w) (hm : m < 67108864) (hc : s.count t ≤ 16) (hv : s.Small) :
    Calls Tryz.prog 38 #[.pointer (some ⟨sp, 0, none⟩), .int .u64 (t : Int)] w fun e w' => ∃ L, Once1 L ∧ (∀ k, alLook L k = alLook s.holds (t, k)) ∧ e = .returned (.tuple #[.int .i64 ((s.prepare l d t L).2.2.2.1 : Int), errN (s.prepare l d t L).2.2.2.2]) ∧ SL w' B sp gp bV bT bH (m + 1) lp p bD bN (n + 3) (s.prepare l d t L).1 (s.prepare l d t L).2.1 (s.prepare l d t L).2.2.1 ∧ SFr sp bV bT bH lp p w w' := by
  have hso : Once1 s.holds := by obtain ⟨_, _, _, h3, _⟩ := h.sh.holds; exact h3
  obtain ⟨L0, hL0, hL1⟩ : ∃ L, Once1 L ∧ ∀ k, alLook L k = alLook s.holds (t, k) := held_exists hso t
  have HL0 : Hid (Once1 L0 ∧ ∀ k, alLook L0 k = alLook s.holds (t, k)) := ⟨hL0, hL1⟩
  have hmore : Hid (∀ {w' : World} {s' : AShard}, SL w' B sp gp bV bT bH m lp p bD bN n s' l d → SL w' B sp gp bV bT bH (m + 1) lp p bD bN (n + 3) s' l d) := fun {w' s'} h' => by
    obtain ⟨pv, sv, rv, nD, nN, hl⟩ := h'.lg
    exact ⟨h'.sh.mono (by omega), ⟨pv, sv, rv, nD, nN, hl.mores (by omega) (by omega)⟩, h'.ap, h'.gp1⟩
  have HH : Hid (SL w B sp gp bV bT bH m lp p bD bN n s l d) := h
  have HS : Hid (SFr sp bV bT bH lp p w w) := (h.new (Fr.refl [] w)).2
  have hsa := state_eq sp gp bV bT bH m t s w h.sh ht
  have hpr := prep_any B sp gp bV bT bH m lp p bD bN n t s l d w h ht hn hB hsg hpow hm hc hv
  have hfo := forget_any sp gp bV bT bH m t s w h.sh ht
  clear hL0 hL1 hso h hsg hpow hc hv
  by_cases h0 : t = 0
  · have HP : Hid (∀ L, s.prepare l d t L = (s, l, d, 0, 7)) := fun L => by unfold AShard.prepare; rw [if_pos h0]
    subst h0
    clear hsa hpr hfo
    go_enter Tryz.func38, Tryz.ntmps38
    go_wp2
    go_ret2
    refine ⟨L0, HL0.out.1, HL0.out.2, ?_, ?_, HS.out⟩
    · rw [HP.out]; show _ = Ending.returned (.tuple #[.int .i64 0, errN 7]); rw [errN_no (by decide)]; rfl
    · rw [HP.out]; exact hmore.out HH.out
  have i0 : ¬ (t : Int) = 0 := by omega
  by_cases h3 : (s.txn t).state = 3
  · have HP : Hid (∀ L, s.prepare l d t L = (s, l, d, 2, 0)) := fun L => by unfold AShard.prepare; rw [if_neg h0, if_pos h3]
    rw [h3] at hsa
    clear hpr hfo h3
    go_enter Tryz.func38, Tryz.ntmps38
    go_wp2_with fail
    refine hsa.mono ?_
    clear hsa
    rintro e w1 ⟨rfl, rfl⟩
    go_wp2
    go_ret2
    refine ⟨L0, HL0.out.1, HL0.out.2, ?_, ?_, HS.out⟩
    · rw [HP.out]; rfl
    · rw [HP.out]; exact hmore.out HH.out
  have i3 : ¬ ((s.txn t).state : Int) = 3 := by omega
  by_cases h1 : (s.txn t).state = 1
  · have HP : Hid (∀ L, s.prepare l d t L = s.prep l d t L) := fun L => by unfold AShard.prepare; rw [if_neg h0, if_neg h3, if_pos h1]
    rw [h1] at hsa
    clear hfo h1 h3 i3
    go_enter Tryz.func38, Tryz.ntmps38
    go_wp2_with fail
    refine hsa.mono ?_
    clear hsa
    rintro e w1 ⟨rfl, rfl⟩
    go_wp2_with fail
    refine hpr.mono ?_
    clear hpr
    rintro e w2 ⟨L, a1, a2, rfl, a3, a4⟩
    have H2 : Hid (Once1 L ∧ (∀ k, alLook L k = alLook s.holds (t, k)) ∧ SL w2 B sp gp bV bT bH (m + 1) lp p bD bN (n + 3) (s.prep l d t L).1 (s.prep l d t L).2.1 (s.prep l d t L).2.2.1 ∧ SFr sp bV bT bH lp p w1 w2) := ⟨a1, a2, a3, a4⟩
    clear a1 a2 a3 a4
    go_wp2
    go_ret2
    refine ⟨L, H2.out.1, H2.out.2.1, ?_, ?_, H2.out.2.2.2⟩
    · rw [HP.out]; rfl
    · rw [HP.out]; exact H2.out.2.2.1
  · have i1 : ¬ ((s.txn t).state : Int) = 1 := by omega
    have HP : Hid (∀ L, s.prepare l d t L = (s.forget t, l, d, 3, 0)) := fun L => by unfold AShard.prepare; rw [if_neg h0, if_neg h3, if_neg h1]
    clear hpr h1 h3
    go_enter Tryz.func38, Tryz.ntmps38
    go_wp2_with fail
    refine hsa.mono ?_
    clear hsa
    rintro e w1 ⟨rfl, rfl⟩
    go_wp2_with fail
    refine hfo.mono ?_
    clear hfo
    rintro e w2 ⟨rfl, hs2, hf2⟩
    obtain ⟨h2, hx2⟩ := HH.out.turn hs2 hf2 (by simp)
    have H2 : Hid (SL w2 B sp gp bV bT bH m lp p bD bN n (s.forget t) l d ∧ SFr sp bV bT bH lp p w1 w2) := ⟨h2, hx2⟩
    clear hs2 hf2 h2 hx2
    go_wp2
    go_ret2
    refine ⟨L0, HL0.out.1, HL0.out.2, ?_, ?_, H2.out.2⟩
    · rw [HP.out]; rfl
    · rw [HP.out]; exact hmore.out H2.out.1
end
end Go.Proofs.YtejiankgafjppabGreatDoor
