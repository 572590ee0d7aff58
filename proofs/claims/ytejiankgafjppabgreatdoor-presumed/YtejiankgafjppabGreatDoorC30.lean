import Derived.Test.YtejiankgafjppabGreatDoorC28
import Derived.Test.YtejiankgafjppabGreatDoorC22
/- THE COORDINATOR: at, with, partOf; the parts that are meant; has. -/
namespace Go.Proofs.YtejiankgafjppabGreatDoor
open Go.RowKit Go.Maps
open Sc

theorem txV_lit (s a b c d e f g i j z : Nat) : txV ⟨s, [a, b, c, d, e, f, g, i, j], z⟩ = .agg #[.int .i64 (s : Int), .int .u8 (a : Int), .int .u8 (b : Int), .int .u8 (c : Int), .int .u8 (d : Int), .int .u8 (e : Int), .int .u8 (f : Int), .int .u8 (g : Int), .int .u8 (i : Int), .int .u8 (j : Int), .int .u64 (z : Int), .nilIface] := rfl
set_option maxRecDepth 100000 in
set_option maxHeartbeats 4000000 in
theorem at_any (t : ATx) (ht : t.Ok) (k : Nat) (hk : k < 9) (w : World) :
    Calls Tryz.prog 96 #[txV t, .int .i64 (k : Int)] w fun e w' => e = .returned (.int .u8 ((t.parts.getD k 0 : Nat) : Int)) ∧ Fr [] w w' := by
  obtain ⟨s, ps, z⟩ := t
  obtain ⟨p0, p1, p2, p3, p4, p5, p6, p7, p8, rfl⟩ := nine ht.1
  rw [txV_lit]
  rcases below9 hk with rfl | rfl | rfl | rfl | rfl | rfl | rfl | rfl | rfl
  all_goals
    (go_enter Tryz.func96, Tryz.ntmps96
     go_wp2
     go_ret
     exact ⟨rfl, (Fr.refl [] w).alloc _⟩)
set_option maxRecDepth 100000 in
set_option maxHeartbeats 4000000 in
theorem with_any (t : ATx) (ht : t.Ok) (k p : Nat) (hk : k < 9) (w : World) :
    Calls Tryz.prog 97 #[txV t, .int .i64 (k : Int), .int .u8 (p : Int)] w fun e w' => e = .returned (txV { t with parts := t.parts.set k p }) ∧ Fr [] w w' := by
  obtain ⟨s, ps, z⟩ := t
  obtain ⟨p0, p1, p2, p3, p4, p5, p6, p7, p8, rfl⟩ := nine ht.1
  rw [txV_lit]
  rcases below9 hk with rfl | rfl | rfl | rfl | rfl | rfl | rfl | rfl | rfl
  all_goals
    (simp only [List.set_cons_zero, List.set_cons_succ, txV_lit]
     go_enter Tryz.func97, Tryz.ntmps97
     go_wp2
     exact bodyPost_ret (by simp [results, Tryz.results97, go_sem]) rfl ⟨rfl, ((Fr.refl [] w).alloc _).alloc _⟩)
set_option maxRecDepth 100000 in
set_option maxHeartbeats 1000000 in
theorem partOf_any (v : Nat) (hv : v = 2 ∨ v = 3 ∨ v = 4) (w : World) :
    Calls Tryz.prog 95 #[.int .i64 (v : Int)] w fun e w' => e = .returned (.int .u8 (v : Int)) ∧ w' = w := by
  rcases hv with rfl | rfl | rfl
  all_goals
    (go_enter Tryz.func95, Tryz.ntmps95
     go_wp2
     go_ret
     exact ⟨rfl, rfl⟩)
/-- a function on parts -/
def Means (mf : Nat) (q : Nat → Bool) : Prop := ∀ (p : Nat) (w : World), p < 256 → Calls Tryz.prog mf #[.int .u8 (p : Int)] w fun e w' => e = .returned (.bool (q p)) ∧ w' = w
def isAw (p : Nat) : Bool := p == 1
def isToC (p : Nat) : Bool := p == 2
def mayP (p : Nat) : Bool := p == 1 || p == 2
def hasY (p : Nat) : Bool := p == 2 || p == 5
set_option maxHeartbeats 1000000 in
theorem isAw_m : Means 94 isAw := by
  intro p w hp
  by_cases h : p = 1
  · subst h
    go_enter Tryz.func94, Tryz.ntmps94
    go_wp2
    go_ret
    exact ⟨rfl, rfl⟩
  · have i1 : ¬ (p : Int) = 1 := by omega
    have b1 : ((p : Int) == 1) = false := beq_eq_false_iff_ne.2 i1
    have e1 : isAw p = false := by unfold isAw; simpa using h
    rw [e1]
    go_enter Tryz.func94, Tryz.ntmps94
    go_wp2
    go_ret
    exact ⟨by simp, rfl⟩
set_option maxHeartbeats 1000000 in
theorem isToC_m : Means 101 isToC := by
  intro p w hp
  by_cases h : p = 2
  · subst h
    go_enter Tryz.func101, Tryz.ntmps101
    go_wp2
    go_ret
    exact ⟨rfl, rfl⟩
  · have i1 : ¬ (p : Int) = 2 := by omega
    have b1 : ((p : Int) == 2) = false := beq_eq_false_iff_ne.2 i1
    have e1 : isToC p = false := by unfold isToC; simpa using h
    rw [e1]
    go_enter Tryz.func101, Tryz.ntmps101
    go_wp2
    go_ret
    exact ⟨by simp, rfl⟩
set_option maxHeartbeats 1000000 in
theorem mayP_m : Means 157 mayP := by
  intro p w hp
  by_cases h : p = 1
  · subst h
    go_enter Tryz.func157, Tryz.ntmps157
    go_wp2
    go_ret
    exact ⟨rfl, rfl⟩
  · have i1 : ¬ (p : Int) = 1 := by omega
    have b1 : ((p : Int) == 1) = false := beq_eq_false_iff_ne.2 i1
    by_cases h2 : p = 2
    · subst h2
      go_enter Tryz.func157, Tryz.ntmps157
      go_wp2
      go_ret
      exact ⟨rfl, rfl⟩
    · have i2 : ¬ (p : Int) = 2 := by omega
      have b2 : ((p : Int) == 2) = false := beq_eq_false_iff_ne.2 i2
      have e1 : mayP p = false := by unfold mayP; simp [h, h2]
      rw [e1]
      go_enter Tryz.func157, Tryz.ntmps157
      go_wp2
      go_ret
      exact ⟨by simp, rfl⟩
set_option maxHeartbeats 1000000 in
theorem hasY_m : Means 154 hasY := by
  intro p w hp
  by_cases h : p = 2
  · subst h
    go_enter Tryz.func154, Tryz.ntmps154
    go_wp2
    go_ret
    exact ⟨rfl, rfl⟩
  · have i1 : ¬ (p : Int) = 2 := by omega
    have b1 : ((p : Int) == 2) = false := beq_eq_false_iff_ne.2 i1
    by_cases h2 : p = 5
    · subst h2
      go_enter Tryz.func154, Tryz.ntmps154
      go_wp2
      go_ret
      exact ⟨rfl, rfl⟩
    · have i2 : ¬ (p : Int) = 5 := by omega
      have b2 : ((p : Int) == 5) = false := beq_eq_false_iff_ne.2 i2
      have e1 : hasY p = false := by unfold hasY; simp [h, h2]
      rw [e1]
      go_enter Tryz.func154, Tryz.ntmps154
      go_wp2
      go_ret
      exact ⟨by simp, rfl⟩
end Go.Proofs.YtejiankgafjppabGreatDoor
/- THE COORDINATOR: rise, partsOf. -/
namespace Go.Proofs.YtejiankgafjppabGreatDoor
open Go.RowKit Go.Maps
open Sc

/-- numbers in a row -/
def IntsAt (w : World) (g : Nat) (xs : List Nat) : Prop := ∀ (k x : Nat), xs[k]? = some x → w.cell? ⟨g, k, none⟩ = some (.int .i64 (x : Int))
/-- these are shards, some at least, each above the one ahead of it -/
structure Rising (xs : List Nat) : Prop where
  ne : xs ≠ []
  up : xs.Pairwise (· < ·)
  b : ∀ x ∈ xs, 1 ≤ x ∧ x ≤ 8
theorem Rising.len {xs : List Nat} (h : Rising xs) : xs.length ≤ 8 := by
  have key : ∀ (l : List Nat) (lo : Nat), l.Pairwise (· < ·) → (∀ x ∈ l, lo < x ∧ x ≤ 8) → l.length + lo ≤ 8 ∨ l = [] := by
    intro l
    induction l with
    | nil => intro lo _ _; exact .inr rfl
    | cons a r ih =>
      intro lo hp hb
      obtain ⟨h1, h2⟩ := List.pairwise_cons.1 hp
      have ha := hb a (by simp)
      left
      rcases ih a h2 (fun x hx => ⟨h1 x hx, (hb x (by simp [hx])).2⟩) with h | h
      · simp; omega
      · subst h; simp; omega
  rcases key xs 0 h.up (fun x hx => ⟨(h.b x hx).1, (h.b x hx).2⟩) with e | e
  · omega
  · subst e; simp
set_option maxRecDepth 100000 in
set_option maxHeartbeats 2000000 in
theorem rise_any (g cap : Nat) (xs : List Nat) (hr : Rising xs) (w : World) (hx : IntsAt w g xs) :
    Calls Tryz.prog 91 #[.slice (some ⟨g, 0, none⟩) xs.length cap] w fun e w' => e = .returned (.bool true) ∧ w' = w := by
  have HR : Hid (Rising xs) := hr
  have HX : Hid (IntsAt w g xs) := hx
  obtain ⟨m, hm⟩ : ∃ m, m = xs.length := ⟨_, rfl⟩
  have HM : Hid (m = xs.length) := hm
  have hm8 : m ≤ 8 := by rw [hm]; exact hr.len
  have hm0 : 0 < m := by rw [hm]; exact List.length_pos_iff.2 hr.ne
  rw [← hm]
  clear hr hx hm
  go_enter Tryz.func91, Tryz.ntmps91
  go_wp2
  go_loopw [3, 8] (fun L i wr => ∃ k y : Nat, k ≤ m ∧ i = .int .i64 k ∧ L = .int .i64 y ∧ wr = w ∧ Hid ((k = 0 → y = 0) ∧ (∀ j, k = j + 1 → xs[j]? = some y))) (fun _ i _ => m - (intOf i).toNat)
  case atStart => exact ⟨0, 0, Nat.zero_le _, rfl, rfl, rfl, fun _ => rfl, fun j hj => by omega⟩
  case round =>
    obtain ⟨k, y, hk, rfl, rfl, rfl, H⟩ := hrel
    by_cases hlt : k < m
    · obtain ⟨x, hxk⟩ : ∃ x, xs[k]? = some x := ⟨_, List.getElem?_eq_getElem (by have := HM.out; omega)⟩
      have ck := HX.out k x hxk
      have hb := HR.out.b x (List.mem_of_getElem? hxk)
      have hyx : y < x := by
        rcases Nat.eq_zero_or_pos k with e | e
        · rw [H.out.1 e]; omega
        · obtain ⟨j, rfl⟩ : ∃ j, k = j + 1 := ⟨k - 1, by omega⟩
          have h1 := H.out.2 j rfl
          obtain ⟨a1, a2⟩ := List.getElem?_eq_some_iff.1 h1
          obtain ⟨b1, b2⟩ := List.getElem?_eq_some_iff.1 hxk
          have := List.pairwise_iff_getElem.1 HR.out.up j (j + 1) a1 b1 (by omega)
          rw [a2, b2] at this
          exact this
      have i1 : ¬ (x : Int) ≤ (y : Int) := by omega
      have i2 : ¬ (8 : Int) < (x : Int) := by omega
      have i3 : (k : Int) < (m : Int) := by omega
      have HK : Hid (xs[k]? = some x) := hxk
      clear hxk
      go_wp2
      go_roundw
      case rel =>
        have HJ : ∀ j, k + 1 = j + 1 → xs[j]? = some x := fun j hj => by
          have e : j = k := by omega
          rw [e]; exact HK.out
        exact ⟨k + 1, x, by omega, by simp, rfl, by simp, fun e => by omega, HJ⟩
      case measure => simp [intOf]; omega
    · obtain rfl : k = m := by omega
      have hy : 0 < y := by
        obtain ⟨j, hj⟩ : ∃ j, k = j + 1 := ⟨k - 1, by omega⟩
        have := HR.out.b y (List.mem_of_getElem? (H.out.2 j hj))
        omega
      have i1 : (0 : Int) < (y : Int) := by omega
      have i3 : ¬ (k : Int) < (k : Int) := by omega
      go_wp2
      go_ret
      exact ⟨by simp, rfl⟩
/-- each of these shards has this part -/
def partsL (xs : List Nat) (e : Nat) : List Nat := xs.foldl (fun ps x => ps.set x e) [0, 0, 0, 0, 0, 0, 0, 0, 0]
theorem partsL_snoc (xs : List Nat) (x e : Nat) : partsL (xs ++ [x]) e = (partsL xs e).set x e := by simp [partsL]
theorem partsL_len (xs : List Nat) (e : Nat) : (partsL xs e).length = 9 := by
  unfold partsL
  have : ∀ (l : List Nat) (ps : List Nat), (l.foldl (fun ps x => ps.set x e) ps).length = ps.length := by
    intro l
    induction l with
    | nil => intro ps; rfl
    | cons a r ih => intro ps; rw [List.foldl_cons, ih]; simp
  rw [this]; rfl
abbrev u8s (ps : List Nat) : Array Value := (ps.map fun p : Nat => Value.int .u8 (p : Int)).toArray
set_option maxRecDepth 100000 in
set_option maxHeartbeats 4000000 in
theorem partsOf_any (g cap e0 : Nat) (xs : List Nat) (hr : Rising xs) (w : World) (hx : IntsAt w g xs) :
    Calls Tryz.prog 92 #[.slice (some ⟨g, 0, none⟩) xs.length cap, .int .u8 (e0 : Int)] w fun e w' => e = .returned (psV (partsL xs e0)) ∧ Fr [] w w' := by
  have HR : Hid (Rising xs) := hr
  have hgl : ∀ x, xs[0]? = some x → g < w.heap.size := fun x h0 => World.block_lt_of_cell? w _ (hx 0 x h0)
  have HX : Hid (IntsAt w g xs) := hx
  obtain ⟨m, hm⟩ : ∃ m, m = xs.length := ⟨_, rfl⟩
  have HM : Hid (m = xs.length) := hm
  have hm8 : m ≤ 8 := by rw [hm]; exact hr.len
  have hg : g < w.heap.size := by
    obtain ⟨x, h0⟩ : ∃ x, xs[0]? = some x := ⟨_, List.getElem?_eq_getElem (List.length_pos_iff.2 hr.ne)⟩
    exact hgl x h0
  rw [← hm]
  clear hr hx hm hgl
  go_enter Tryz.func92, Tryz.ntmps92
  go_wp2
  obtain ⟨W0, hW0⟩ : ∃ W0, W0 = (w.alloc (.cells #[.int .u8 0, .int .u8 0, .int .u8 0, .int .u8 0, .int .u8 0, .int .u8 0, .int .u8 0, .int .u8 0, .int .u8 0] 160)).alloc (.cells #[.int .u8 0, .int .u8 0, .int .u8 0, .int .u8 0, .int .u8 0, .int .u8 0, .int .u8 0, .int .u8 0, .int .u8 0] 160) := ⟨_, rfl⟩
  rw [← hW0]
  have hf0 : Fr [] w W0 := by rw [hW0]; exact ((Fr.refl [] w).alloc _).alloc _
  have ha0 : W0.heap[w.heap.size]? = some (.cells (u8s [0, 0, 0, 0, 0, 0, 0, 0, 0]) 160 (0, 0)) := by rw [hW0, Below.heap_alloc _ _ w.heap.size (by simp)]; exact heap_alloc_new w _
  have hb0 : W0.heap[w.heap.size + 1]? = some (.cells (u8s [0, 0, 0, 0, 0, 0, 0, 0, 0]) 160 (0, 0)) := by
    rw [hW0]
    have := heap_alloc_new (w.alloc (.cells #[.int .u8 0, .int .u8 0, .int .u8 0, .int .u8 0, .int .u8 0, .int .u8 0, .int .u8 0, .int .u8 0, .int .u8 0] 160)) (.cells #[.int .u8 0, .int .u8 0, .int .u8 0, .int .u8 0, .int .u8 0, .int .u8 0, .int .u8 0, .int .u8 0, .int .u8 0] 160)
    rwa [World.size_alloc] at this
  have HS : Hid (Fr [] w W0 ∧ W0.heap[w.heap.size]? = some (.cells (u8s [0, 0, 0, 0, 0, 0, 0, 0, 0]) 160 (0, 0)) ∧ W0.heap[w.heap.size + 1]? = some (.cells (u8s [0, 0, 0, 0, 0, 0, 0, 0, 0]) 160 (0, 0))) := ⟨hf0, ha0, hb0⟩
  clear hW0 hf0 ha0 hb0
  go_loopw [10] (fun i wr => ∃ k : Nat, k ≤ m ∧ i = .int .i64 k ∧ Hid (Fr [] w wr ∧ wr.heap[w.heap.size]? = some (.cells (u8s [0, 0, 0, 0, 0, 0, 0, 0, 0]) 160 (0, 0)) ∧ wr.heap[w.heap.size + 1]? = some (.cells (u8s (partsL (xs.take k) e0)) 160 (0, 0)))) (fun i _ => m - (intOf i).toNat)
  case atStart => exact ⟨0, Nat.zero_le _, rfl, HS.out⟩
  case round =>
    obtain ⟨k, hk, rfl, H⟩ := hrel
    by_cases hlt : k < m
    · obtain ⟨x, hxk⟩ : ∃ x, xs[k]? = some x := ⟨_, List.getElem?_eq_getElem (by have := HM.out; omega)⟩
      have ck := (World.cell?_of_block (a := ⟨g, k, none⟩) (H.out.1.block g hg (by simp))).trans (HX.out k x hxk)
      have hb := HR.out.b x (List.mem_of_getElem? hxk)
      have hps := partsL_len (xs.take k) e0
      have dx := blk_cell H.out.2.2 x
      have fx := blk_free H.out.2.2 x
      have gx : (u8s (partsL (xs.take k) e0))[x]? = some (.int .u8 (((partsL (xs.take k) e0).getD x 0 : Nat) : Int)) := by
        have e : (partsL (xs.take k) e0)[x]? = some ((partsL (xs.take k) e0).getD x 0) := by
          rw [List.getD_eq_getElem?_getD, List.getElem?_eq_getElem (by omega)]; rfl
        rw [List.getElem?_toArray, List.getElem?_map, e]; rfl
      rw [gx] at dx
      have i3 : (k : Int) < (m : Int) := by omega
      have i8 : (x : Int) < 9 := by omega
      have i0 : (0 : Int) ≤ (x : Int) := by omega
      obtain ⟨V, hV⟩ : ∃ V, V = (partsL (xs.take k) e0).getD x 0 := ⟨_, rfl⟩
      rw [← hV] at dx
      have HN : Hid (Fr [] w (wr.setCell ⟨w.heap.size + 1, x, none⟩ (.int .u8 (e0 : Int))) ∧ (wr.setCell ⟨w.heap.size + 1, x, none⟩ (.int .u8 (e0 : Int))).heap[w.heap.size]? = some (.cells (u8s [0, 0, 0, 0, 0, 0, 0, 0, 0]) 160 (0, 0)) ∧ (wr.setCell ⟨w.heap.size + 1, x, none⟩ (.int .u8 (e0 : Int))).heap[w.heap.size + 1]? = some (.cells (u8s (partsL (xs.take (k + 1)) e0)) 160 (0, 0))) := by
        refine ⟨H.out.1.setCell (.inr (by simp)) _, (Below.heap_setCell _ _ _ _ (by show w.heap.size ≠ w.heap.size + 1; omega)).trans H.out.2.1, ?_⟩
        have := blk_set H.out.2.2 x (.int .u8 (e0 : Int))
        rw [this]
        have e : xs.take (k + 1) = xs.take k ++ [x] := by rw [List.take_add_one, hxk]; rfl
        rw [e, partsL_snoc]
        simp [u8s, List.map_set]
      clear hxk hps gx hV
      go_wp2
      go_roundw
      case rel => exact ⟨k + 1, by omega, by simp, HN.out⟩
      case measure => simp [intOf]; omega
    · obtain rfl : k = m := by omega
      have i3 : ¬ (k : Int) < (k : Int) := by omega
      have hfin := H.out.2.2
      rw [HM.out, List.take_length] at hfin
      obtain ⟨q0, q1, q2, q3, q4, q5, q6, q7, q8, hq⟩ := nine (partsL_len xs e0)
      have HQ : Hid (partsL xs e0 = [q0, q1, q2, q3, q4, q5, q6, q7, q8]) := hq
      rw [hq] at hfin
      have c0 := blk_cell hfin 0
      have c1 := blk_cell hfin 1
      have c2 := blk_cell hfin 2
      have c3 := blk_cell hfin 3
      have c4 := blk_cell hfin 4
      have c5 := blk_cell hfin 5
      have c6 := blk_cell hfin 6
      have c7 := blk_cell hfin 7
      have c8 := blk_cell hfin 8
      have ha := H.out.2.1
      have a0 := blk_cell ha 0
      have a1 := blk_cell ha 1
      have a2 := blk_cell ha 2
      have a3 := blk_cell ha 3
      have a4 := blk_cell ha 4
      have a5 := blk_cell ha 5
      have a6 := blk_cell ha 6
      have a7 := blk_cell ha 7
      have a8 := blk_cell ha 8
      simp [u8s] at c0 c1 c2 c3 c4 c5 c6 c7 c8 a0 a1 a2 a3 a4 a5 a6 a7 a8
      have f0 := blk_free ha 0
      have f1 := blk_free ha 1
      have f2 := blk_free ha 2
      have f3 := blk_free ha 3
      have f4 := blk_free ha 4
      have f5 := blk_free ha 5
      have f6 := blk_free ha 6
      have f7 := blk_free ha 7
      have f8 := blk_free ha 8
      have HFB : Hid (wr.heap[w.heap.size]? = some (.cells (u8s [0, 0, 0, 0, 0, 0, 0, 0, 0]) 160 (0, 0))) := ha
      clear hfin hq ha
      go_wp2
      obtain ⟨W9, hW9⟩ : ∃ W9, W9 = (((((((((wr.setCell ⟨w.heap.size, 0, none⟩ (.int .u8 (q0 : Int))).setCell ⟨w.heap.size, 1, none⟩ (.int .u8 (q1 : Int))).setCell ⟨w.heap.size, 2, none⟩ (.int .u8 (q2 : Int))).setCell ⟨w.heap.size, 3, none⟩ (.int .u8 (q3 : Int))).setCell ⟨w.heap.size, 4, none⟩ (.int .u8 (q4 : Int))).setCell ⟨w.heap.size, 5, none⟩ (.int .u8 (q5 : Int))).setCell ⟨w.heap.size, 6, none⟩ (.int .u8 (q6 : Int))).setCell ⟨w.heap.size, 7, none⟩ (.int .u8 (q7 : Int))).setCell ⟨w.heap.size, 8, none⟩ (.int .u8 (q8 : Int))) := ⟨_, rfl⟩
      rw [← hW9]
      have hb9 : W9.heap[w.heap.size]? = some (.cells #[.int .u8 (q0 : Int), .int .u8 (q1 : Int), .int .u8 (q2 : Int), .int .u8 (q3 : Int), .int .u8 (q4 : Int), .int .u8 (q5 : Int), .int .u8 (q6 : Int), .int .u8 (q7 : Int), .int .u8 (q8 : Int)] 160 (0, 0)) := by
        have := (blk_set (blk_set (blk_set (blk_set (blk_set (blk_set (blk_set (blk_set (blk_set H.out.2.1 0 (.int .u8 (q0 : Int))) 1 (.int .u8 (q1 : Int))) 2 (.int .u8 (q2 : Int))) 3 (.int .u8 (q3 : Int))) 4 (.int .u8 (q4 : Int))) 5 (.int .u8 (q5 : Int))) 6 (.int .u8 (q6 : Int))) 7 (.int .u8 (q7 : Int))) 8 (.int .u8 (q8 : Int)))
        simp [u8s] at this
        rw [hW9]; exact this
      have e0 := blk_cell hb9 0
      have e1 := blk_cell hb9 1
      have e2 := blk_cell hb9 2
      have e3 := blk_cell hb9 3
      have e4 := blk_cell hb9 4
      have e5 := blk_cell hb9 5
      have e6 := blk_cell hb9 6
      have e7 := blk_cell hb9 7
      have e8 := blk_cell hb9 8
      simp at e0 e1 e2 e3 e4 e5 e6 e7 e8
      have hf9 : Fr [] w W9 := by rw [hW9]; exact (((((((((H.out.1.setCell (.inr (Nat.le_refl _)) _).setCell (.inr (Nat.le_refl _)) _).setCell (.inr (Nat.le_refl _)) _).setCell (.inr (Nat.le_refl _)) _).setCell (.inr (Nat.le_refl _)) _).setCell (.inr (Nat.le_refl _)) _).setCell (.inr (Nat.le_refl _)) _).setCell (.inr (Nat.le_refl _)) _).setCell (.inr (Nat.le_refl _)) _)
      exact bodyPost_ret (v := .agg #[.int .u8 (q0 : Int), .int .u8 (q1 : Int), .int .u8 (q2 : Int), .int .u8 (q3 : Int), .int .u8 (q4 : Int), .int .u8 (q5 : Int), .int .u8 (q6 : Int), .int .u8 (q7 : Int), .int .u8 (q8 : Int)]) (by simp [results, Tryz.results92, go_sem, e0, e1, e2, e3, e4, e5, e6, e7, e8]) rfl ⟨by rw [HQ.out]; rfl, hf9⟩
end Go.Proofs.YtejiankgafjppabGreatDoor
/- THE COORDINATOR: has: is any of its shards meant? -/
namespace Go.Proofs.YtejiankgafjppabGreatDoor
open Go.RowKit Go.Maps
open Sc

/-- the place of the first that is meant; -1: there is none -/
def idxOf (q : Nat → Bool) (ps : List Nat) : Int := if ps.any q then (ps.findIdx q : Int) else -1
theorem any_getD {q : Nat → Bool} {ps : List Nat} (h : ps.length = 9) : ps.any q = false ↔ ∀ k, k < 9 → q (ps.getD k 0) = false := by
  rw [List.any_eq_false]
  constructor
  · intro hx k hk
    have e : ps.getD k 0 = ps[k]'(by omega) := by simp [h, hk]
    rw [e]
    simpa using hx _ (List.getElem_mem (by omega))
  · intro hx x hm
    obtain ⟨k, hk, rfl⟩ := List.mem_iff_getElem.1 hm
    have := hx k (by omega)
    have e : ps.getD k 0 = ps[k] := by simp [hk]
    rw [e] at this
    simp [this]
theorem findIdx_getD {q : Nat → Bool} {ps : List Nat} (h : ps.length = 9) {k : Nat} (hk : k < 9) (h1 : q (ps.getD k 0) = true) (h0 : ∀ j, j < k → q (ps.getD j 0) = false) : idxOf q ps = (k : Int) := by
  have e : ∀ j, (hj : j < ps.length) → ps.getD j 0 = ps[j] := fun j hj => by simp [hj]
  have ha : ps.any q = true := by
    rw [List.any_eq_true]
    exact ⟨ps[k]'(by omega), List.getElem_mem (by omega), by rw [← e k (by omega)]; exact h1⟩
  unfold idxOf
  rw [if_pos ha]
  congr 1
  rw [List.findIdx_eq (by omega)]
  exact ⟨by rw [← e k (by omega)]; exact h1, fun j hj => by rw [← e j (by omega)]; exact h0 j hj⟩
abbrev fnV (mf : Nat) : Value := .func (.func mf) #[] #[]
def Enters (mf : Nat) : Prop := ∀ args w, (callFunc mf args).run Tryz.prog w = .ok (.enter mf args) w
set_option maxRecDepth 100000 in
set_option maxHeartbeats 2000000 in
theorem idx_any (mf : Nat) (q : Nat → Bool) (hm : Means mf q) (hen : Enters mf) (b : Nat) (ps : List Nat) (hl : ps.length = 9) (hp : ∀ p ∈ ps, p < 256) (w : World) (hc : ∀ k, k < 9 → w.cell? ⟨b, 1 + k, none⟩ = some (.int .u8 ((ps.getD k 0 : Nat) : Int))) :
    Calls Tryz.prog 213 #[.slice (some ⟨b, 1, none⟩) 9 9, fnV mf] w fun e w' => e = .returned (.int .i64 (idxOf q ps)) ∧ w' = w := by
  have HC : Hid (∀ k, k < 9 → w.cell? ⟨b, 1 + k, none⟩ = some (.int .u8 ((ps.getD k 0 : Nat) : Int))) := hc
  clear hc
  go_enter Tryz.func213, Tryz.ntmps213
  go_wp2
  go_loopw [8] (fun i wr => ∃ k : Nat, k ≤ 9 ∧ i = .int .i64 k ∧ wr = w ∧ Hid (∀ j, j < k → q (ps.getD j 0) = false)) (fun i _ => 9 - (intOf i).toNat)
  case atStart => exact ⟨0, Nat.zero_le _, rfl, rfl, fun j hj => by omega⟩
  case round =>
    obtain ⟨k, hk, rfl, rfl, H⟩ := hrel
    by_cases hlt : k < 9
    · have i9 : (k : Int) < 9 := by omega
      have i0 : (0 : Int) ≤ (k : Int) := by omega
      have ck := HC.out k hlt
      have hmk := hm (ps.getD k 0) wr (by
        by_cases hx : ps.getD k 0 ∈ ps
        · exact hp _ hx
        · exact absurd (by simp [hl, hlt] : ps.getD k 0 ∈ ps) hx)
      obtain ⟨P, hP⟩ : ∃ P, P = ps.getD k 0 := ⟨_, rfl⟩
      rw [← hP] at ck hmk
      have HP : Hid (P = ps.getD k 0) := hP
      clear hP
      unfold Enters at hen
      go_wp2_with fail
      refine hmk.mono ?_
      rintro e w2 ⟨rfl, rfl⟩
      cases hq : q P with
      | true =>
        go_wp2
        go_ret
        exact ⟨by rw [findIdx_getD hl hlt (by rw [← HP.out]; exact hq) H.out]; rfl, rfl⟩
      | false =>
        go_wp2
        go_roundw
        case rel => exact ⟨k + 1, by omega, by simp, by simp, fun j hj => by
          by_cases e : j = k
          · rw [e, ← HP.out]; exact hq
          · exact H.out j (by omega)⟩
        case measure => simp [intOf]; omega
    · obtain rfl : k = 9 := by omega
      go_wp2
      go_ret
      refine ⟨?_, rfl⟩
      unfold idxOf
      rw [if_neg (by rw [(any_getD hl).2 H.out]; decide)]
      rfl
set_option maxRecDepth 100000 in
set_option maxHeartbeats 2000000 in
theorem contains_any (mf : Nat) (q : Nat → Bool) (hm : Means mf q) (hen : Enters mf) (b : Nat) (ps : List Nat) (hl : ps.length = 9) (hp : ∀ p ∈ ps, p < 256) (w : World) (hc : ∀ k, k < 9 → w.cell? ⟨b, 1 + k, none⟩ = some (.int .u8 ((ps.getD k 0 : Nat) : Int))) :
    Calls Tryz.prog 153 #[.slice (some ⟨b, 1, none⟩) 9 9, fnV mf] w fun e w' => e = .returned (.bool (ps.any q)) ∧ w' = w := by
  have hi := idx_any mf q hm hen b ps hl hp w hc
  clear hc hp hm hen
  by_cases h : ps.any q = true
  · have e : idxOf q ps = (ps.findIdx q : Int) := by unfold idxOf; rw [if_pos h]
    rw [e] at hi
    rw [h]
    clear e h
    have i0 : (0 : Int) ≤ (ps.findIdx q : Int) := by omega
    obtain ⟨I, hI⟩ : ∃ I : Int, I = (ps.findIdx q : Int) := ⟨_, rfl⟩
    rw [← hI] at hi i0
    clear hI
    go_enter Tryz.func153, Tryz.ntmps153
    go_wp2_with fail
    refine hi.mono ?_
    rintro e w2 ⟨rfl, rfl⟩
    go_wp2
    go_ret
    exact ⟨by simp, rfl⟩
  · have e : idxOf q ps = -1 := by unfold idxOf; rw [if_neg h]
    rw [e] at hi
    have hf : ps.any q = false := by simpa using h
    rw [hf]
    clear e h hf
    go_enter Tryz.func153, Tryz.ntmps153
    go_wp2_with fail
    refine hi.mono ?_
    rintro e w2 ⟨rfl, rfl⟩
    go_wp2
    go_ret
    exact ⟨rfl, rfl⟩
/-- the cells of a transaction in a block -/
theorem tx_cells {w : World} {b : Nat} {t : ATx} (h : w.heap[b]? = some (.cells (txC t).toArray 162 (0, 0))) (ht : t.Ok) : ∀ k, k < 9 → w.cell? ⟨b, 1 + k, none⟩ = some (.int .u8 ((t.parts.getD k 0 : Nat) : Int)) := by
  intro k hk
  have := blk_cell h (1 + k)
  rw [this]
  obtain ⟨s, ps, z⟩ := t
  obtain ⟨p0, p1, p2, p3, p4, p5, p6, p7, p8, rfl⟩ := nine ht.1
  rcases below9 hk with rfl | rfl | rfl | rfl | rfl | rfl | rfl | rfl | rfl <;> rfl
set_option maxRecDepth 100000 in
set_option maxHeartbeats 2000000 in
theorem has_any (mf : Nat) (q : Nat → Bool) (hm : Means mf q) (hen : Enters mf) (t : ATx) (ht : t.Ok) (w : World) :
    Calls Tryz.prog 98 #[txV t, fnV mf] w fun e w' => e = .returned (.bool (t.parts.any q)) ∧ Fr [] w w' := by
  obtain ⟨W, hW⟩ : ∃ W, W = w.alloc (.cells (txC t).toArray 162) := ⟨_, rfl⟩
  have hb : W.heap[w.heap.size]? = some (.cells (txC t).toArray 162 (0, 0)) := by rw [hW]; exact heap_alloc_new w _
  have hi := contains_any mf q hm hen w.heap.size t.parts ht.1 ht.2 W (tx_cells hb ht)
  have HF : Hid (Fr [] w W) := by rw [hW]; exact (Fr.refl [] w).alloc _
  clear hm hen hb
  obtain ⟨A, hA⟩ : ∃ A, A = t.parts.any q := ⟨_, rfl⟩
  rw [← hA] at hi ⊢
  clear hA
  obtain ⟨s, ps, z⟩ := t
  obtain ⟨p0, p1, p2, p3, p4, p5, p6, p7, p8, rfl⟩ := nine ht.1
  rw [txV_lit]
  go_enter Tryz.func98, Tryz.ntmps98
  go_wp2_with fail
  have hW2 : W = w.alloc (.cells #[.int .i64 (s : Int), .int .u8 (p0 : Int), .int .u8 (p1 : Int), .int .u8 (p2 : Int), .int .u8 (p3 : Int), .int .u8 (p4 : Int), .int .u8 (p5 : Int), .int .u8 (p6 : Int), .int .u8 (p7 : Int), .int .u8 (p8 : Int), .int .u64 (z : Int), .nilIface] 162) := hW
  rw [← hW2]
  clear hW hW2
  refine hi.mono ?_
  rintro e w2 ⟨rfl, rfl⟩
  go_wp2
  go_ret
  exact ⟨rfl, HF.out⟩
end Go.Proofs.YtejiankgafjppabGreatDoor
/- RANGING OVER A FUNCTION WHOSE WALK IS KNOWN: these alone stay. (From LawR.) -/
namespace Go.Proofs.YtejiankgafjppabGreatDoor
open Go.RowKit Go.Shelf
open Sc

/-- the walk of a function: it goes through rs -/
def SeqQ {α : Type} (F : Fence) (n : Nat) (P : Program) (gf : Nat) (lb : Array Value) (encs : α → Array Value) (rs : List α) (S : List Nat) (l : Nat) (W : World) : Prop :=
  ∀ J : List α → World → Prop,
    (∀ pre x W1, J pre W1 → W.heap.size ≤ W1.heap.size → pre ++ [x] <+: rs → YieldAt F (n - 1) P l (encs x) W1 fun e W' => e = .returned (.bool true) ∧ J (pre ++ [x]) W' ∧ KpS S W1 W') →
    J [] W → CallsIn F n P gf (#[.func (.yield l) #[] #[]] ++ lb) W fun e W' => (∃ v, e = .returned v) ∧ J rs W'
section
variable {F : Fence} {n : Nat} {P : Program}
theorem wpIn_range_s {α : Type} {g : Operand} {ps : Array Tmp} {assign body : Code} {Q : Exit → Act → World → Prop} {a : Act} {w : World}
    (hro : F.round = none) (h1 : 1 ≤ n) {gf : Nat} {lb : Array Value} (hg : a.eval g = .func (.func gf) #[] lb) (hFg : F.fn gf) (eg : ∀ args w, (callFunc gf args).run P w = .ok (.enter gf args) w)
    {encs : α → Array Value} {rs : List α} {S : List Nat} (hps : ∀ x, (encs x).size = ps.size) (hS : ∀ k ∈ S, k < w.heap.size)
    (hseq : ∀ W1, Below w.heap.size w W1 → W1.heap.size = w.heap.size + 2 → SeqQ F (n - 1) P gf lb encs rs S (w.heap.size + 1) W1)
    (I : List α → World → Prop) (hI0 : ∀ W1, Below w.heap.size w W1 → I [] W1) (hIl : ∀ s A r, I s A → w.heap.size + 2 ≤ A.heap.size → (∃ r0, A.heap[w.heap.size + 1]? = some (.loop r0)) → I s (A.putObj (w.heap.size + 1) (.loop r)))
    (Ax : α → Act → World → Prop) (hAx : ∀ x a' A r, Ax x a' A → Ax x a' (A.putObj (w.heap.size + 1) (.loop r)))
    (hassign : ∀ (pre : List α) (x : α) (W : World) (K : Act → World → Prop), I pre W → w.heap.size + 2 ≤ W.heap.size → pre ++ [x] <+: rs → (∀ a' W', I pre W' → KpS (w.heap.size :: (w.heap.size + 1) :: S) W W' → Ax x a' W' → K a' W') →
      assign.wpIn (F.inRound (w.heap.size + 1)) (n - 1 - 1) P (Exit.then K (fun _ _ _ => False)) { tmps := (ps.zip (encs x)).foldl (fun t (p, v) => t.setIfInBounds p v) a.tmps, defers := [] } W)
    (hbody : ∀ (pre : List α) (x : α) (a' : Act) (W : World), I pre W → w.heap.size + 2 ≤ W.heap.size → Ax x a' W → pre ++ [x] <+: rs → W.heap[w.heap.size]? = some (.deferred (some [])) → (∃ r, W.heap[w.heap.size + 1]? = some (.loop r)) → body.wpIn (F.inRound (w.heap.size + 1)) (n - 1 - 1) P (fun e _ W' => e = .normal ∧ I (pre ++ [x]) W' ∧ KpS (w.heap.size :: (w.heap.size + 1) :: S) W W') a' W)
    (hdone : ∀ (W : World), I rs W → w.heap.size + 2 ≤ W.heap.size → W.heap[w.heap.size]? = some (.deferred (some [])) → Q .normal { a with defers := { target := .collected w.heap.size, args := #[] } :: a.defers } W) :
    (Code.rangeFunc g ps assign body).wpIn F n P Q a w := by
  refine wpIn_rangeFunc fun fn hfn => ?_
  rw [hro]
  obtain ⟨L, hL⟩ : ∃ L : LoopState → Loop, L = fun st => { state := st, pending := none, fn, tmps := a.tmps, params := ps, assign, body, defers := w.heap.size } := ⟨_, rfl⟩
  obtain ⟨W1, hW1⟩ : ∃ W1, W1 = (w.alloc (.deferred (some []))).alloc (.loop (L .ready)) := ⟨_, rfl⟩
  have hb1 : Below w.heap.size w W1 := by rw [hW1]; exact ((Below.refl _ w).alloc (Nat.le_refl _) _).alloc (by simp) _
  have hs1 : W1.heap.size = w.heap.size + 2 := by rw [hW1]; simp
  have hl1 : W1.heap[w.heap.size + 1]? = some (.loop (L .ready)) := by
    rw [hW1]; have := World.alloc_heap_new (w.alloc (.deferred (some []))) (.loop (L .ready)); rwa [World.size_alloc] at this
  have hd1 : W1.heap[w.heap.size]? = some (.deferred (some [])) := by
    rw [hW1]; exact (Below.heap_alloc _ _ _ (by simp)).trans (World.alloc_heap_new w _)
  refine ⟨w.heap.size + 1, [{ target := .collected w.heap.size, args := #[] }], W1, { target := .fn (.func gf) lb, args := #[.func (.yield (w.heap.size + 1)) #[] #[]] }, W1, gf, #[.func (.yield (w.heap.size + 1)) #[] #[]] ++ lb, W1, ?_, ?_, ?_, ?_, fun _ => h1, ?_⟩
  · rw [hW1, hL]; exact run_enterLoop_outer _ _ _ _ _
  · simp only [resolve, hg]; simp [go_sem]
  · intro f' hf'; simp [Target.leads] at hf'; subst hf'; exact hFg
  · simp [invoke, go_sem, eg]
  refine (hseq W1 hb1 hs1 (fun s A => I s A ∧ A.heap[w.heap.size + 1]? = some (.loop (L .ready)) ∧ A.heap[w.heap.size]? = some (.deferred (some [])) ∧ w.heap.size + 2 ≤ A.heap.size) ?_ ⟨hI0 W1 hb1, hl1, hd1, by omega⟩).mono ?_
  · rintro pre x W ⟨i1, i2, i3, i4⟩ _ hpre
    have hy := run_yield (P := P) (args := encs x) i2 (by rw [hL]; exact hps x)
    rw [hL] at hy
    refine ⟨fn, _, assign, body, hy, roundIn_of_wpIn hfn (hassign pre x W _ i1 i4 hpre fun a' Wa ia ka xa => ?_)⟩
    have la : Wa.heap[w.heap.size + 1]? = some (.loop (L .ready)) := (ka.same _ (by simp) (by omega)).trans i2
    have da : Wa.heap[w.heap.size]? = some (.deferred (some [])) := (ka.same _ (by simp) (by omega)).trans i3
    have lta : w.heap.size + 1 < Wa.heap.size := (Array.getElem?_eq_some_iff.1 la).1
    obtain ⟨Wb, hWb⟩ : ∃ Wb, Wb = Wa.putObj (w.heap.size + 1) (.loop (L .busy)) := ⟨_, rfl⟩
    have lb' : Wb.heap[w.heap.size + 1]? = some (.loop (L .busy)) := by rw [hWb]; exact World.putObj_heap_same lta
    have db : Wb.heap[w.heap.size]? = some (.deferred (some [])) := by rw [hWb]; exact (World.putObj_heap_other (by omega)).trans da
    have sb : Wb.heap.size = Wa.heap.size := by rw [hWb]; simp
    refine ⟨Wb, by rw [hWb]; have := run_beginRound (P := P) la (by rw [hL]); rw [hL] at this ⊢; exact this, ?_⟩
    refine wpIn_mono (hbody pre x a' Wb (by rw [hWb]; exact hIl _ _ _ ia (by have := ka.size; omega) ⟨_, la⟩) (by rw [sb]; omega) (by rw [hWb]; exact hAx _ _ _ _ xa) hpre db ⟨_, lb'⟩) ?_
    rintro e a3 W3 ⟨rfl, i3', k3⟩
    have l3 : W3.heap[w.heap.size + 1]? = some (.loop (L .busy)) := (k3.same _ (by simp) (by omega)).trans lb'
    have d3 : W3.heap[w.heap.size]? = some (.deferred (some [])) := (k3.same _ (by simp) (by omega)).trans db
    have lt3 : w.heap.size + 1 < W3.heap.size := (Array.getElem?_eq_some_iff.1 l3).1
    have hend := run_endRound (P := P) none l3
    refine ⟨_, _, hend, rfl, ⟨hIl _ _ _ i3' (by have := k3.size; have := ka.size; omega) ⟨_, l3⟩, ?_, (World.putObj_heap_other (by omega)).trans d3, by rw [size_put0]; omega⟩, ?_, ?_⟩
    · rw [World.putObj_heap_same lt3, hL]; rfl
    · rw [size_put0]; have := ka.size; have := k3.size; omega
    · intro k hk hlt
      have hkw := hS k hk
      rw [World.putObj_heap_other (by omega), k3.same k (by simp [hk]) (by have := ka.size; omega), hWb, World.putObj_heap_other (by omega), ka.same k (by simp [hk]) hlt]
  · rintro e W2 ⟨⟨v, rfl⟩, i1, i2, i3, i4⟩
    have hend := run_endLoop (P := P) i2 (by rw [hL]; simp)
    have hp : (L .ready).pending = none := by rw [hL]
    rw [hp] at hend
    refine ⟨none, _, hend, ?_⟩
    exact hdone _ (hIl _ _ _ i1 i4 ⟨_, i2⟩) (by rw [size_put0]; exact i4) ((World.putObj_heap_other (by omega)).trans i3)
end
end Go.Proofs.YtejiankgafjppabGreatDoor
