import Derived.Test.YtbdhmkfdofkloaaGreatDoorC22
import Derived.RangeFuncRecord
/- SORTING NUMBERS (uint64), many of them: choosePivot, breakPatterns. -/
namespace Go.Proofs.YtbdhmkfdofkloaaGreatDoor
open Go.RowKit Go.Maps
open Sc

theorem SU.lt {w wr : World} {B g n cap : Nat} {d : Array Nat} (h : SU w wr B g n cap d) : g < wr.heap.size := by
  rcases h.row.2 with ⟨h', _⟩ | ⟨g', cap', cur, h', hb, hg, _⟩
  · simp at h'
  · simp only [Value.slice.injEq, Option.some.injEq, Addr.mk.injEq, and_true, true_and] at h'
    obtain ⟨rfl, rfl⟩ := h'
    exact (Array.getElem?_eq_some_iff.mp hg).1
theorem SU.count {w0 w : World} {B g n cap : Nat} {d : Array Nat} (h : SU w0 w B g n cap d) : SwIn w0 (w.alloc (.cells #[.int .i64 0] 3)) B g n cap d w.heap.size 0 where
  su := h.on ((Fr.refl [] w).alloc _)
  ne := fun e => by have := h.lt; omega
  new := h.fr.size
  blk := World.alloc_heap_new w _
set_option maxRecDepth 100000 in
set_option maxHeartbeats 4000000 in
theorem chooseU (B g n cap a b : Nat) (d : Array Nat) (w0 w : World) (h : SU w0 w B g n cap d) (hab : a + 12 < b) (hb : b ≤ n) (hn : n ≤ 1000000000) :
    Calls Tryz.prog 175 #[.slice (some ⟨g, 0, none⟩) n cap, .int .i64 (a : Int), .int .i64 (b : Int)] w fun e w' => ∃ p t : Nat, e = .returned (.tuple #[.int .i64 (p : Int), .int .i64 (t : Int)]) ∧ a ≤ p ∧ p < b ∧ t ≤ 2 ∧ SU w0 w' B g n cap d := by
  have H0 : Hid (SwIn w0 (w.alloc (.cells #[.int .i64 0] 3)) B g n cap d w.heap.size 0) := h.count
  have j1 : IntKind.i64.wrap ((b : Int) - (a : Int)) = ((b - a : Nat) : Int) := by rw [IntKind.wrap_i64]; omega
  clear h
  go_enter Tryz.func175, Tryz.ntmps175
  obtain ⟨x, hx⟩ : ∃ x, x = a + (b - a) / 4 := ⟨_, rfl⟩
  obtain ⟨y, hy⟩ : ∃ y, y = a + (b - a) / 4 * 2 := ⟨_, rfl⟩
  obtain ⟨z, hz⟩ : ∃ z, z = a + (b - a) / 4 * 3 := ⟨_, rfl⟩
  have m1 : Hid ((a : Int) + ((b - a : Nat) : Int) / 4 = (x : Int)) := show _ = _ by omega
  have m2 : Hid ((a : Int) + ((b - a : Nat) : Int) / 4 * 2 = (y : Int)) := show _ = _ by omega
  have m3 : Hid ((a : Int) + ((b - a : Nat) : Int) / 4 * 3 = (z : Int)) := show _ = _ by omega
  have l1 : (8 : Int) ≤ ((b - a : Nat) : Int) := by omega
  by_cases h50 : b - a < 50
  · have l2 : ((b - a : Nat) : Int) < 50 := by omega
    go_wp2_with fail
    rw [m1.out, m2.out, m3.out]
    refine (medianU B g n cap x y z _ 0 d w0 _ H0.out (by omega) (by omega) (by omega) (by omega)).mono ?_
    rintro e W1 ⟨x1, t1, rfl, h1, ht1, hw1⟩
    have H1 : Hid (SwIn w0 W1 B g n cap d w.heap.size t1) := hw1
    have c1 : W1.cell? ⟨w.heap.size, 0, none⟩ = some (.int .i64 (t1 : Int)) := blk_cell hw1.blk 0
    clear hw1
    by_cases e0 : t1 = 0
    · subst e0
      go_wp2
      go_ret2
      exact ⟨x1, 1, rfl, by omega, by omega, by omega, H1.out.su⟩
    · have k0 : ¬ (t1 : Int) = 0 := by omega
      by_cases e1 : t1 = 12
      · subst e1
        go_wp2
        go_ret2
        exact ⟨x1, 2, rfl, by omega, by omega, by omega, H1.out.su⟩
      · have k1 : ¬ (t1 : Int) = 12 := by omega
        go_wp2
        go_ret2
        exact ⟨x1, 0, rfl, by omega, by omega, by omega, H1.out.su⟩
  · have l2 : ¬ ((b - a : Nat) : Int) < 50 := by omega
    go_wp2_with fail
    rw [m1.out]
    refine (medAdjU B g n cap x _ 0 d w0 _ H0.out (by omega) (by omega) hn (by omega)).mono ?_
    rintro e W2 ⟨x2, t2, rfl, h2, ht2, hw2⟩
    have H2 : Hid (SwIn w0 W2 B g n cap d w.heap.size t2) := hw2
    clear hw2
    go_wp2_with fail
    rw [m2.out]
    refine (medAdjU B g n cap y _ t2 d w0 _ H2.out (by omega) (by omega) hn (by omega)).mono ?_
    rintro e W3 ⟨x3, t3, rfl, h3, ht3, hw3⟩
    have H3 : Hid (SwIn w0 W3 B g n cap d w.heap.size t3) := hw3
    clear hw3
    go_wp2_with fail
    rw [m3.out]
    refine (medAdjU B g n cap z _ t3 d w0 _ H3.out (by omega) (by omega) hn (by omega)).mono ?_
    rintro e W4 ⟨x4, t4, rfl, h4, ht4, hw4⟩
    have H4 : Hid (SwIn w0 W4 B g n cap d w.heap.size t4) := hw4
    clear hw4
    go_wp2_with fail
    refine (medianU B g n cap x2 x3 x4 _ t4 d w0 _ H4.out (by omega) (by omega) (by omega) (by omega)).mono ?_
    rintro e W1 ⟨x1, t1, rfl, h1, ht1, hw1⟩
    have H1 : Hid (SwIn w0 W1 B g n cap d w.heap.size t1) := hw1
    have c1 : W1.cell? ⟨w.heap.size, 0, none⟩ = some (.int .i64 (t1 : Int)) := blk_cell hw1.blk 0
    clear hw1
    by_cases e0 : t1 = 0
    · subst e0
      go_wp2
      go_ret2
      exact ⟨x1, 1, rfl, by omega, by omega, by omega, H1.out.su⟩
    · have k0 : ¬ (t1 : Int) = 0 := by omega
      by_cases e1 : t1 = 12
      · subst e1
        go_wp2
        go_ret2
        exact ⟨x1, 2, rfl, by omega, by omega, by omega, H1.out.su⟩
      · have k1 : ¬ (t1 : Int) = 12 := by omega
        go_wp2
        go_ret2
        exact ⟨x1, 0, rfl, by omega, by omega, by omega, H1.out.su⟩
end Go.Proofs.YtbdhmkfdofkloaaGreatDoor
/- SORTING NUMBERS (uint64), many of them: breakPatterns. -/
namespace Go.Proofs.YtbdhmkfdofkloaaGreatDoor
open Go.RowKit Go.Maps
open Sc

theorem xor_any (x y : Int) (hx : 0 ≤ x) (hy : 0 ≤ y) (hx2 : x < 18446744073709551616) (hy2 : y < 18446744073709551616) : ∃ u : Nat, u < 18446744073709551616 ∧ bits .xor .u64 x y = (u : Int) := by
  obtain ⟨a, rfl⟩ := Int.eq_ofNat_of_zero_le hx
  obtain ⟨b, rfl⟩ := Int.eq_ofNat_of_zero_le hy
  exact ⟨a ^^^ b, Nat.xor_lt_two_pow (n := 64) (by omega) (by omega), bits_xor_u64_nat a b (by omega) (by omega)⟩
theorem wrap_rng (x : Int) : 0 ≤ IntKind.u64.wrap x ∧ IntKind.u64.wrap x < 18446744073709551616 := by rw [IntKind.wrap_u64]; omega
set_option maxRecDepth 100000 in
set_option maxHeartbeats 4000000 in
theorem nextU (rp : Nat) (v : Nat) (t : TypeId) (w : World) (h : w.heap[rp]? = some (.cells #[.int .u64 (v : Int)] t (0, 0))) (hv : v < 18446744073709551616) :
    Calls Tryz.prog 191 #[.pointer (some ⟨rp, 0, none⟩)] w fun e w' => ∃ u : Nat, u < 18446744073709551616 ∧ e = .returned (.int .u64 (u : Int)) ∧ w'.heap[rp]? = some (.cells #[.int .u64 (u : Int)] t (0, 0)) ∧ Fr [rp] w w' := by
  have c1 : w.cell? ⟨rp, 0, none⟩ = some (.int .u64 (v : Int)) := blk_cell h 0
  have f1 : w.frozen? ⟨rp, 0, none⟩ = false := blk_free h 0
  have H0 : Hid (w.heap[rp]? = some (.cells #[.int .u64 (v : Int)] t (0, 0))) := h
  clear h
  go_enter Tryz.func191, Tryz.ntmps191
  go_wp2
  go_region
  all_goals go_wp2
  obtain ⟨u1, hu1, e1⟩ := xor_any (v : Int) (IntKind.u64.wrap ((v : Int) * 8192)) (by omega) (wrap_rng _).1 (by omega) (wrap_rng _).2
  rw [e1]
  obtain ⟨W1, hW1⟩ : ∃ W, W = (w.setCell ⟨rp, 0, none⟩ (.int .u64 (u1 : Int))).drew := ⟨_, rfl⟩
  have b1 : W1.heap[rp]? = some (.cells #[.int .u64 (u1 : Int)] t (0, 0)) := by rw [hW1]; exact (blk_set H0.out 0 _)
  have g1 : Hid (Fr [rp] w W1) := by rw [hW1]; exact (Fr.set1 (by simp) 0 _).drew
  rw [← hW1]
  have c2 : W1.cell? ⟨rp, 0, none⟩ = some (.int .u64 (u1 : Int)) := blk_cell b1 0
  have f2 : W1.frozen? ⟨rp, 0, none⟩ = false := blk_free b1 0
  have H1 : Hid (W1.heap[rp]? = some (.cells #[.int .u64 (u1 : Int)] t (0, 0))) := b1
  clear hW1 b1 c1 f1 e1
  go_region
  all_goals go_wp2
  obtain ⟨u2, hu2, e2⟩ := xor_any (u1 : Int) ((u1 : Int) / 128) (by omega) (by omega) (by omega) (by omega)
  rw [e2]
  obtain ⟨W2, hW2⟩ : ∃ W, W = (W1.setCell ⟨rp, 0, none⟩ (.int .u64 (u2 : Int))).drew := ⟨_, rfl⟩
  have b2 : W2.heap[rp]? = some (.cells #[.int .u64 (u2 : Int)] t (0, 0)) := by rw [hW2]; exact (blk_set H1.out 0 _)
  have g2 : Hid (Fr [rp] w W2) := by rw [hW2]; exact (g1.out.setCell (.inl (by simp)) _).drew
  rw [← hW2]
  have c3 : W2.cell? ⟨rp, 0, none⟩ = some (.int .u64 (u2 : Int)) := blk_cell b2 0
  have f3 : W2.frozen? ⟨rp, 0, none⟩ = false := blk_free b2 0
  have H2 : Hid (W2.heap[rp]? = some (.cells #[.int .u64 (u2 : Int)] t (0, 0))) := b2
  clear hW2 b2 c2 f2 e2
  go_region
  all_goals go_wp2
  obtain ⟨u3, hu3, e3⟩ := xor_any (u2 : Int) (IntKind.u64.wrap ((u2 : Int) * 131072)) (by omega) (wrap_rng _).1 (by omega) (wrap_rng _).2
  rw [e3]
  obtain ⟨W3, hW3⟩ : ∃ W, W = (W2.setCell ⟨rp, 0, none⟩ (.int .u64 (u3 : Int))).drew := ⟨_, rfl⟩
  have b3 : W3.heap[rp]? = some (.cells #[.int .u64 (u3 : Int)] t (0, 0)) := by rw [hW3]; exact (blk_set H2.out 0 _)
  have g3 : Hid (Fr [rp] w W3) := by rw [hW3]; exact (g2.out.setCell (.inl (by simp)) _).drew
  rw [← hW3]
  have c4 : W3.cell? ⟨rp, 0, none⟩ = some (.int .u64 (u3 : Int)) := blk_cell b3 0
  have f4 : W3.frozen? ⟨rp, 0, none⟩ = false := blk_free b3 0
  have H3 : Hid (W3.heap[rp]? = some (.cells #[.int .u64 (u3 : Int)] t (0, 0))) := b3
  clear hW3 b3 c3 f3 e3
  go_wp2
  go_ret
  exact ⟨u3, hu3, rfl, H3.out, g3.out⟩
theorem bitLen_pow : ∀ f x : Nat, 2 ^ (Lib.bitLenAux f x) ≤ (if x = 0 then 1 else 2 * x) ∧ Lib.bitLenAux f x ≤ f
  | 0, x => by simp [Lib.bitLenAux]; split <;> omega
  | f + 1, x => by
    have h := bitLen_pow f (x / 2)
    unfold Lib.bitLenAux
    by_cases hx : x = 0
    · simp [hx]
    · rw [if_neg hx, if_neg hx, Nat.pow_add]
      refine ⟨?_, by omega⟩
      have h1 := h.1
      by_cases h2 : x / 2 = 0
      · rw [if_pos h2] at h1; omega
      · rw [if_neg h2] at h1; omega
set_option maxRecDepth 100000 in
set_option maxHeartbeats 4000000 in
theorem powU (l : Nat) (w : World) (hl : l < 1000000001) (h1 : 1 ≤ l) :
    Calls Tryz.prog 190 #[.int .i64 (l : Int)] w fun e w' => ∃ m : Nat, 1 ≤ m ∧ m ≤ 2 * l ∧ e = .returned (.int .u64 (m : Int)) ∧ w' = w := by
  go_enter Tryz.func190, Tryz.ntmps190
  go_wp2_with fail
  refine (Tryz.bits_Len l w (by omega) (by omega)).mono ?_
  rintro e w1 ⟨rfl, rfl⟩
  go_wp2
  go_ret
  have hb := bitLen_pow 64 l
  refine ⟨2 ^ Lib.bitLen l, Nat.one_le_two_pow, ?_, ?_, rfl⟩
  · show 2 ^ Lib.bitLenAux 64 l ≤ _
    have h1 := hb.1
    split at h1 <;> omega
  · have h1 := hb.1
    have e1 : min (Lib.bitLen l) 64 = Lib.bitLen l := Nat.min_eq_left hb.2
    have e2 : 2 ^ Lib.bitLen l < 18446744073709551616 := by
      show 2 ^ Lib.bitLenAux 64 l < _
      split at h1 <;> omega
    have e3 : IntKind.u64.wrap (2 ^ Lib.bitLen l) = ((2 ^ Lib.bitLen l : Nat) : Int) := by
      rw [IntKind.wrap_u64, show (2 : Int) ^ Lib.bitLen l = ((2 ^ Lib.bitLen l : Nat) : Int) by simp]
      generalize 2 ^ Lib.bitLen l = q at e2
      omega
    simp [e1, e3]

/-- where numbers are drawn -/
structure RnIn (w0 w : World) (B g n cap : Nat) (d : Array Nat) (rp v : Nat) : Prop where
  su : SU w0 w B g n cap d
  ne : rp ≠ g
  new : w0.heap.size ≤ rp
  blk : w.heap[rp]? = some (.cells #[.int .u64 (v : Int)] 301 (0, 0))
  lt : v < 18446744073709551616
section
variable {w0 w w' : World} {B g n cap rp v u : Nat} {d : Array Nat}
theorem RnIn.next (h : RnIn w0 w B g n cap d rp v) (hu : u < 18446744073709551616) (hb : w'.heap[rp]? = some (.cells #[.int .u64 (u : Int)] 301 (0, 0))) (hf : Fr [rp] w w') : RnIn w0 w' B g n cap d rp u where
  su := ⟨h.su.sz, ownsRow_fr h.su.row hf (fun q hq => by simp [Value.ownBlock] at hq; subst hq; simp; exact fun e => h.ne e.symm), h.su.fr.andThen hf (fun j hj hl => by simp at hj; subst hj; have := h.new; omega)⟩
  ne := h.ne
  new := h.new
  blk := hb
  lt := hu
theorem RnIn.swp (h : RnIn w0 w B g n cap d rp v) (i j : Nat) : RnIn w0 ((w.setCell ⟨g, i, none⟩ (.int .u64 (d[j]! : Nat))).setCell ⟨g, j, none⟩ (.int .u64 (d[i]! : Nat))).drew B g n cap (Go.Sort.swp d i j) rp v where
  su := (h.su.swp i j).drew
  ne := h.ne
  new := h.new
  blk := by
    have hl : rp < w.heap.size := (Array.getElem?_eq_some_iff.mp h.blk).1
    rw [(((Fr.refl [g] w).setCell (p := ⟨g, i, none⟩) (.inl (by simp)) (.int .u64 (d[j]! : Nat))).setCell (p := ⟨g, j, none⟩) (.inl (by simp)) (.int .u64 (d[i]! : Nat))).drew.block rp hl (by simp; exact h.ne)]
    exact h.blk
  lt := h.lt
end
theorem SU.draws {w0 w : World} {B g n cap : Nat} {d : Array Nat} (h : SU w0 w B g n cap d) (v : Nat) (hv : v < 18446744073709551616) : RnIn w0 (w.alloc (.cells #[.int .u64 (v : Int)] 301)) B g n cap d w.heap.size v where
  su := h.on ((Fr.refl [] w).alloc _)
  ne := fun e => by have := h.lt; omega
  new := h.fr.size
  blk := World.alloc_heap_new w _
  lt := hv
set_option maxRecDepth 100000 in
set_option maxHeartbeats 4000000 in
theorem breakU (B g n cap a b : Nat) (d : Array Nat) (w0 w : World) (h : SU w0 w B g n cap d) (hab : a + 12 < b) (hb : b ≤ n) (hn : n ≤ 1000000000) :
    Calls Tryz.prog 174 #[.slice (some ⟨g, 0, none⟩) n cap, .int .i64 (a : Int), .int .i64 (b : Int)] w fun e w' => e = .returned (.tuple #[]) ∧ ∃ d', SU w0 w' B g n cap d' ∧ Go.Sort.PermIn a b d d' := by
  have H0 : Hid (RnIn w0 (w.alloc (.cells #[.int .u64 ((b - a : Nat) : Int)] 301)) B g n cap d w.heap.size (b - a)) := h.draws _ (by omega)
  have HZ : Hid (d.size = n) := h.sz
  have j1 : IntKind.i64.wrap ((b : Int) - (a : Int)) = ((b - a : Nat) : Int) := by rw [IntKind.wrap_i64]; omega
  have l1 : (8 : Int) ≤ ((b - a : Nat) : Int) := by omega
  clear h
  go_enter Tryz.func174, Tryz.ntmps174
  go_wp2_with fail
  refine (powU (b - a) _ (by omega) (by omega)).mono ?_
  rintro e w1 ⟨m, hm1, hm2, rfl, rfl⟩
  have jm : IntKind.u64.wrap ((m : Int) - 1) = ((m - 1 : Nat) : Int) := by rw [IntKind.wrap_u64]; omega
  go_wp2
  go_loopw [9] (fun i wr => ∃ k : Nat, i = .int .i64 k ∧ a + (b - a) / 4 * 2 - 1 ≤ k ∧ k ≤ a + (b - a) / 4 * 2 + 2 ∧ ∃ d' v, RnIn w0 wr B g n cap d' w.heap.size v ∧ Go.Sort.PermIn a b d d') (fun i _ => n + 5 - (intOf i).toNat)
  case atStart =>
    refine ⟨a + (b - a) / 4 * 2 - 1, ?_, by omega, by omega, d, _, H0.out, Go.Sort.permIn_refl d a b⟩
    congr 1; omega
  case round =>
    obtain ⟨k, rfl, hk1, hk2, d1, v, hr1, hp1⟩ := hrel
    have HR : Hid (RnIn w0 wr B g n cap d1 w.heap.size v) := hr1
    have HP : Hid (Go.Sort.PermIn a b d d1) := hp1
    clear hr1 hp1
    by_cases hlt : k ≤ a + (b - a) / 4 * 2 + 1
    · have hlt' : (k : Int) ≤ (a : Int) + ((b - a : Nat) : Int) / 4 * 2 + 1 := by omega
      go_wp2_with fail
      refine (nextU _ v _ wr HR.out.blk HR.out.lt).mono ?_
      rintro e w2 ⟨u, hu, rfl, hb2, hf2⟩
      have HR2 : Hid (RnIn w0 w2 B g n cap d1 w.heap.size u) := HR.out.next hu hb2 hf2
      clear hb2 hf2
      obtain ⟨o, ho⟩ : ∃ o : Nat, o = u &&& (m - 1) := ⟨_, rfl⟩
      have hom : o ≤ m - 1 := by rw [ho]; exact Nat.and_le_right
      have eAnd : bits .and .u64 (u : Int) ((m - 1 : Nat) : Int) = (o : Int) := by rw [bits_and_u64_nat _ _ hu (by omega), ho]
      have jo : IntKind.i64.wrap (o : Int) = (o : Int) := by rw [IntKind.wrap_i64]; omega
      clear ho
      by_cases hob : o < b - a
      · have hob' : (o : Int) < ((b - a : Nat) : Int) := by omega
        obtain ⟨q, hq⟩ : ∃ q : Nat, q = o := ⟨_, rfl⟩
        have hqb : q < b - a := by omega
        subst hq
        have j6 : (a : Int) + (q : Int) < (n : Int) := by omega
        have c2 := HR2.out.su.at (k := a + q) (by omega)
        have f2 : w2.frozen? ⟨g, a + q, none⟩ = false := HR2.out.su.free _
        by_cases hkq : k = a + q
        · subst hkq
          go_wp2
          go_region
          all_goals go_wp2
          refine ⟨⟨(a + q) + 1, by simp, by omega, by omega, _, u, HR2.out.swp (a + q) (a + q), Go.Sort.permIn_trans _ _ _ _ _ HP.out (Go.Sort.swp_permIn _ _ _ _ _ (by omega) (by omega) (by omega) (by omega) (by rw [HR2.out.su.sz]; exact hb))⟩, by simp [intOf]; omega⟩
        · have c1 := HR2.out.su.at (k := k) (by omega)
          have f1 : w2.frozen? ⟨g, k, none⟩ = false := HR2.out.su.free _
          have j5 : (k : Int) < (n : Int) := by omega
          have hkq' : ¬ a + q = k := fun e => hkq e.symm
          go_wp2
          go_region
          all_goals go_wp2
          refine ⟨⟨k + 1, by simp, by omega, by omega, _, u, HR2.out.swp k (a + q), Go.Sort.permIn_trans _ _ _ _ _ HP.out (Go.Sort.swp_permIn _ _ _ _ _ (by omega) (by omega) (by omega) (by omega) (by rw [HR2.out.su.sz]; exact hb))⟩, by simp [intOf]; omega⟩
      · have hob' : ¬ (o : Int) < ((b - a : Nat) : Int) := by omega
        obtain ⟨q, hq⟩ : ∃ q : Nat, q = o - (b - a) := ⟨_, rfl⟩
        have hqb : q < b - a := by omega
        have jq : IntKind.i64.wrap ((o : Int) - ((b - a : Nat) : Int)) = (q : Int) := by rw [IntKind.wrap_i64]; omega
        clear hq
        have j6 : (a : Int) + (q : Int) < (n : Int) := by omega
        have c2 := HR2.out.su.at (k := a + q) (by omega)
        have f2 : w2.frozen? ⟨g, a + q, none⟩ = false := HR2.out.su.free _
        by_cases hkq : k = a + q
        · subst hkq
          go_wp2
          go_region
          all_goals go_wp2
          refine ⟨⟨(a + q) + 1, by simp, by omega, by omega, _, u, HR2.out.swp (a + q) (a + q), Go.Sort.permIn_trans _ _ _ _ _ HP.out (Go.Sort.swp_permIn _ _ _ _ _ (by omega) (by omega) (by omega) (by omega) (by rw [HR2.out.su.sz]; exact hb))⟩, by simp [intOf]; omega⟩
        · have c1 := HR2.out.su.at (k := k) (by omega)
          have f1 : w2.frozen? ⟨g, k, none⟩ = false := HR2.out.su.free _
          have j5 : (k : Int) < (n : Int) := by omega
          have hkq' : ¬ a + q = k := fun e => hkq e.symm
          go_wp2
          go_region
          all_goals go_wp2
          refine ⟨⟨k + 1, by simp, by omega, by omega, _, u, HR2.out.swp k (a + q), Go.Sort.permIn_trans _ _ _ _ _ HP.out (Go.Sort.swp_permIn _ _ _ _ _ (by omega) (by omega) (by omega) (by omega) (by rw [HR2.out.su.sz]; exact hb))⟩, by simp [intOf]; omega⟩
    · have hlt' : ¬ (k : Int) ≤ (a : Int) + ((b - a : Nat) : Int) / 4 * 2 + 1 := by omega
      go_wp2
      go_end0
      exact ⟨rfl, d1, HR.out.su, HP.out⟩
end Go.Proofs.YtbdhmkfdofkloaaGreatDoor
/- SORTING NUMBERS (uint64), many of them: insertionSort, siftDown, heapSort. -/
namespace Go.Proofs.YtbdhmkfdofkloaaGreatDoor
open Go.RowKit Go.Maps
open Sc

set_option maxRecDepth 100000 in
set_option maxHeartbeats 4000000 in
theorem insU (B g n cap a b : Nat) (d : Array Nat) (w0 w : World) (h : SU w0 w B g n cap d) (hb : b ≤ n) (ha : a ≤ n) (hn : n ≤ 1000000000) :
    Calls Tryz.prog 172 #[.slice (some ⟨g, 0, none⟩) n cap, .int .i64 (a : Int), .int .i64 (b : Int)] w fun e w' => e = .returned (.tuple #[]) ∧ SU w0 w' B g n cap (Go.Sort.insertionSort ltN d a b) := by
  have H0 : Hid (SU w0 w B g n cap d) := h
  have j0 : IntKind.i64.wrap ((a : Int) + 1) = ((a + 1 : Nat) : Int) := by rw [IntKind.wrap_i64]; omega
  clear h
  go_enter Tryz.func172, Tryz.ntmps172
  go_wp2
  go_loopw [6] (fun i wr => ∃ k : Nat, i = .int .i64 k ∧ a + 1 ≤ k ∧ (k ≤ b ∨ k = a + 1) ∧ ∃ d', SU w0 wr B g n cap d' ∧ Go.Sort.insOuter ltN a b k d' = Go.Sort.insertionSort ltN d a b) (fun i _ => n + 5 - (intOf i).toNat)
  case atStart => exact ⟨a + 1, by simp, by omega, .inr rfl, d, H0.out, rfl⟩
  case round =>
    obtain ⟨k, rfl, hk1, hkn, d1, hs1, he1⟩ := hrel
    have HS1 : Hid (SU w0 wr B g n cap d1) := hs1
    have HE1 : Hid (Go.Sort.insOuter ltN a b k d1 = Go.Sort.insertionSort ltN d a b) := he1
    clear hs1 he1
    by_cases hlt : k < b
    · have j1 : (k : Int) < (b : Int) := by omega
      have j2 : IntKind.i64.wrap ((k : Int) + 1) = (k : Int) + 1 := by rw [IntKind.wrap_i64]; omega
      have HE2 : Hid (Go.Sort.insOuter ltN a b (k + 1) (Go.Sort.insInner ltN a k d1) = Go.Sort.insertionSort ltN d a b) := by
        have := HE1.out
        rw [Go.Sort.insOuter, if_pos hlt] at this
        exact this
      clear HE1
      go_wp2
      go_loopw [7] (fun i wq => ∃ j : Nat, i = .int .i64 j ∧ j ≤ k ∧ ∃ d', SU w0 wq B g n cap d' ∧ Go.Sort.insOuter ltN a b (k + 1) (Go.Sort.insInner ltN a j d') = Go.Sort.insertionSort ltN d a b) (fun i _ => (intOf i).toNat)
      case atStart => exact ⟨k, rfl, by omega, d1, HS1.out, HE2.out⟩
      case round =>
        obtain ⟨j, rfl, hjk, d2, hs2, he2⟩ := hrel
        have HS2 : Hid (SU w0 wr B g n cap d2) := hs2
        have HE3 : Hid (Go.Sort.insOuter ltN a b (k + 1) (Go.Sort.insInner ltN a j d2) = Go.Sort.insertionSort ltN d a b) := he2
        clear hs2 he2
        by_cases hja : a < j
        · obtain ⟨i, hi⟩ : ∃ i, j = i + 1 := ⟨j - 1, by omega⟩
          have c1 := HS2.out.at (k := j) (by omega)
          have c2 := HS2.out.at (k := i) (by omega)
          have f1 : wr.frozen? ⟨g, j, none⟩ = false := HS2.out.free _
          have f2 : wr.frozen? ⟨g, i, none⟩ = false := HS2.out.free _
          have j3 : (a : Int) < (j : Int) := by omega
          have j4 : IntKind.i64.wrap ((j : Int) - 1) = (i : Int) := by rw [IntKind.wrap_i64]; omega
          have j5 : (j : Int) < (n : Int) := by omega
          have j6 : (i : Int) < (n : Int) := by omega
          have hij : i ≠ j := by omega
          have HI : Hid (j = i + 1) := hi
          clear hi
          by_cases hxy : ((d2[j]! : Nat) : Int) < ((d2[i]! : Nat) : Int)
          · have hd : decide (((d2[j]! : Nat) : Int) < ((d2[i]! : Nat) : Int)) = true := by simp only [hxy, decide_true]
            have HQ : Hid (d2[j]! < d2[i]!) := by show _ < _; omega
            have HF : Hid (Go.Sort.insInner ltN a j d2 = Go.Sort.insInner ltN a i (Go.Sort.swp d2 j i)) := by
              show _ = _
              have hq := HQ.out
              rw [HI.out] at hq ⊢
              rw [Go.Sort.insInner, if_pos (by have := HI.out; simp [ltN, hq]; omega)]
            go_wp2
            go_quiet (first | (go_at_call 116; refine Calls.quiet_of_same (lessU _ _ _)))
            go_wp2
            go_region
            all_goals go_wp2
            refine ⟨⟨i, rfl, by have := HI.out; omega, _, ((HS2.out.drewN nq).swp j i).drew, ?_⟩, by have := HI.out; simp [intOf]; omega⟩
            rw [← HE3.out, HF.out]
          · have hd : decide (((d2[j]! : Nat) : Int) < ((d2[i]! : Nat) : Int)) = false := by simp only [hxy, decide_false]
            have HF : Hid (Go.Sort.insInner ltN a j d2 = d2) := by
              show _ = _
              rw [HI.out] at hxy ⊢
              rw [Go.Sort.insInner, if_neg (by simp [ltN]; omega)]
            go_wp2
            go_quiet (first | (go_at_call 116; refine Calls.quiet_of_same (lessU _ _ _)))
            go_wp2
            refine ⟨⟨k + 1, by simp, by omega, .inl (by omega), d2, HS2.out.drewN _, ?_⟩, by simp [intOf]; omega⟩
            rw [← HE3.out, HF.out]
        · have j3 : ¬ (a : Int) < (j : Int) := by omega
          have HF : Hid (Go.Sort.insInner ltN a j d2 = d2) := by
            show _ = _
            cases j with
            | zero => rfl
            | succ i => rw [Go.Sort.insInner, if_neg (by simp; omega)]
          go_wp2
          go_quiet (first | (go_at_call 116; refine Calls.quiet_of_same (lessU _ _ _)))
          go_wp2
          refine ⟨⟨k + 1, by simp, by omega, .inl (by omega), d2, HS2.out.drewN _, ?_⟩, by simp [intOf]; omega⟩
          rw [← HE3.out, HF.out]
    · have j1 : ¬ (k : Int) < (b : Int) := by omega
      go_wp2
      go_end0
      refine ⟨rfl, ?_⟩
      rw [← HE1.out, Go.Sort.insOuter, if_neg hlt]
      exact HS1.out
end Go.Proofs.YtbdhmkfdofkloaaGreatDoor
/- SORTING NUMBERS (uint64), many of them: siftDown, heapSort. -/
namespace Go.Proofs.YtbdhmkfdofkloaaGreatDoor
open Go.RowKit Go.Maps
open Sc

theorem sift_end {hi f r : Nat} {d : Array Nat} (h : hi ≤ 2 * r + 1) : Go.Sort.siftDown ltN hi f r d = d := by
  rw [Go.Sort.siftDown, dif_pos (by omega)]
theorem sift_b {hi f r c e p p1 q : Nat} {d : Array Nat} (hc : c = 2 * r + 1) (he : e = c + 1) (hp : p = f + c) (hp1 : p1 = p + 1) (hq : q = f + r) (h1 : e < hi) (h2 : d[p]! < d[p1]!) :
    Go.Sort.siftDown ltN hi f r d = if d[q]! < d[p1]! then Go.Sort.siftDown ltN hi f e (Go.Sort.swp d q p1) else d := by
  subst hc he hp hp1 hq
  rw [Go.Sort.siftDown, dif_neg (by omega), if_pos (by simp [ltN]; exact ⟨h1, h2⟩)]
  simp only [show f + (2 * r + 2) = f + (2 * r + 1) + 1 by omega]
  by_cases h3 : d[f + r]! < d[f + (2 * r + 1) + 1]!
  · rw [if_neg (by simp [ltN, h3]), dif_pos (by omega), if_pos h3]
  · rw [if_pos (by simp [ltN]; omega), if_neg h3]
theorem sift_a {hi f r c e p p1 q : Nat} {d : Array Nat} (hc : c = 2 * r + 1) (he : e = c + 1) (hp : p = f + c) (hp1 : p1 = p + 1) (hq : q = f + r) (h0 : c < hi) (h2 : ¬ (e < hi ∧ d[p]! < d[p1]!)) :
    Go.Sort.siftDown ltN hi f r d = if d[q]! < d[p]! then Go.Sort.siftDown ltN hi f c (Go.Sort.swp d q p) else d := by
  subst hc he hp hp1 hq
  rw [Go.Sort.siftDown, dif_neg (by omega), if_neg (by simp [ltN]; intro h; have := fun h' => h2 ⟨h, h'⟩; omega)]
  by_cases h3 : d[f + r]! < d[f + (2 * r + 1)]!
  · rw [if_neg (by simp [ltN, h3]), if_pos h3]
  · rw [if_pos (by simp [ltN]; omega), if_neg h3]
set_option maxRecDepth 100000 in
set_option maxHeartbeats 4000000 in
theorem siftU (B g n cap lo hi f : Nat) (d : Array Nat) (w0 w : World) (h : SU w0 w B g n cap d) (hl : lo ≤ hi) (hb : f + hi ≤ n) (hn : n ≤ 1000000000) :
    Calls Tryz.prog 189 #[.slice (some ⟨g, 0, none⟩) n cap, .int .i64 (lo : Int), .int .i64 (hi : Int), .int .i64 (f : Int)] w fun e w' => e = .returned (.tuple #[]) ∧ SU w0 w' B g n cap (Go.Sort.siftDown ltN hi f lo d) := by
  have H0 : Hid (SU w0 w B g n cap d) := h
  clear h
  go_enter Tryz.func189, Tryz.ntmps189
  go_wp2
  go_loopw [8] (fun i wr => ∃ r : Nat, i = .int .i64 r ∧ r ≤ hi ∧ ∃ d', SU w0 wr B g n cap d' ∧ Go.Sort.siftDown ltN hi f r d' = Go.Sort.siftDown ltN hi f lo d) (fun i _ => n + 5 - (intOf i).toNat)
  case atStart => exact ⟨lo, rfl, hl, d, H0.out, rfl⟩
  case round =>
    obtain ⟨r, rfl, hr, d1, hs1, he1⟩ := hrel
    have HS : Hid (SU w0 wr B g n cap d1) := hs1
    have HE : Hid (Go.Sort.siftDown ltN hi f r d1 = Go.Sort.siftDown ltN hi f lo d) := he1
    clear hs1 he1
    obtain ⟨c, hc⟩ : ∃ c, c = 2 * r + 1 := ⟨_, rfl⟩
    have jc0 : IntKind.i64.wrap (2 * (r : Int)) = 2 * (r : Int) := by rw [IntKind.wrap_i64]; omega
    have jc1 : IntKind.i64.wrap (2 * (r : Int) + 1) = (c : Int) := by rw [IntKind.wrap_i64]; omega
    have hcr : r < c := by omega
    have HC : Hid (c = 2 * r + 1) := hc
    clear hc
    by_cases hlt : c < hi
    · have j1 : (c : Int) < (hi : Int) := by omega
      obtain ⟨e, he⟩ : ∃ e, e = c + 1 := ⟨_, rfl⟩
      obtain ⟨p, hp⟩ : ∃ p, p = f + c := ⟨_, rfl⟩
      obtain ⟨p1, hp1⟩ : ∃ p1, p1 = p + 1 := ⟨_, rfl⟩
      obtain ⟨q, hq⟩ : ∃ q, q = f + r := ⟨_, rfl⟩
      have je : IntKind.i64.wrap ((c : Int) + 1) = (e : Int) := by rw [IntKind.wrap_i64]; omega
      have jp : IntKind.i64.wrap ((f : Int) + (c : Int)) = (p : Int) := by rw [IntKind.wrap_i64]; omega
      have jp1 : IntKind.i64.wrap ((p : Int) + 1) = (p1 : Int) := by rw [IntKind.wrap_i64]; omega
      have jp2 : IntKind.i64.wrap ((f : Int) + (e : Int)) = (p1 : Int) := by rw [IntKind.wrap_i64]; omega
      have jq : IntKind.i64.wrap ((f : Int) + (r : Int)) = (q : Int) := by rw [IntKind.wrap_i64]; omega
      have HQ : Hid (e = c + 1 ∧ p = f + c ∧ p1 = p + 1 ∧ q = f + r) := ⟨he, hp, hp1, hq⟩
      have cq := HS.out.at (k := q) (by omega)
      have cp := HS.out.at (k := p) (by omega)
      have fq : wr.frozen? ⟨g, q, none⟩ = false := HS.out.free _
      have fp : wr.frozen? ⟨g, p, none⟩ = false := HS.out.free _
      have bq : (q : Int) < (n : Int) := by omega
      have bp : (p : Int) < (n : Int) := by omega
      have nqp : q ≠ p := by omega
      have npq : p ≠ q := by omega
      by_cases heh : e < hi
      · have j2 : (e : Int) < (hi : Int) := by omega
        have cp1 := HS.out.at (k := p1) (by omega)
        have fp1 : wr.frozen? ⟨g, p1, none⟩ = false := HS.out.free _
        have bp1 : (p1 : Int) < (n : Int) := by omega
        have nqp1 : q ≠ p1 := by omega
        have npq1 : p1 ≠ q := by omega
        clear he hp hp1 hq
        by_cases hxy : ((d1[p]! : Nat) : Int) < ((d1[p1]! : Nat) : Int)
        · have hd : decide (((d1[p]! : Nat) : Int) < ((d1[p1]! : Nat) : Int)) = true := by simp only [hxy, decide_true]
          have HF : Hid (Go.Sort.siftDown ltN hi f r d1 = if d1[q]! < d1[p1]! then Go.Sort.siftDown ltN hi f e (Go.Sort.swp d1 q p1) else d1) := sift_b HC.out HQ.out.1 HQ.out.2.1 HQ.out.2.2.1 HQ.out.2.2.2 heh (by omega)
          go_wp2
          go_quiet (first | (go_at_call 116; refine Calls.quiet_of_same (lessU _ _ _)))
          obtain ⟨W1, hW1⟩ : ∃ W, W = wr.drewN nq := ⟨_, rfl⟩
          rw [← hW1]
          have HS1 : Hid (SU w0 W1 B g n cap d1) := by rw [hW1]; exact HS.out.drewN nq
          clear hW1 cq cp fq fp cp1 fp1
          have dq := HS1.out.at (k := q) (by omega)
          have dp := HS1.out.at (k := p1) (by omega)
          have fq : W1.frozen? ⟨g, q, none⟩ = false := HS1.out.free _
          have fp : W1.frozen? ⟨g, p1, none⟩ = false := HS1.out.free _
          by_cases hz : ((d1[q]! : Nat) : Int) < ((d1[p1]! : Nat) : Int)
          · have hzd : decide (((d1[q]! : Nat) : Int) < ((d1[p1]! : Nat) : Int)) = true := by simp only [hz, decide_true]
            go_wp2
            go_quiet (first | (go_at_call 116; refine Calls.quiet_of_same (lessU _ _ _)))
            go_wp2
            go_region
            all_goals go_wp2
            have hqq := HQ.out
            refine ⟨⟨e, rfl, by omega, _, ((HS1.out.drewN nq).swp q p1).drew, ?_⟩, by simp [intOf]; omega⟩
            rw [← HE.out, HF.out, if_pos (by omega)]
          · have hzd : decide (((d1[q]! : Nat) : Int) < ((d1[p1]! : Nat) : Int)) = false := by simp only [hz, decide_false]
            go_wp2
            go_quiet (first | (go_at_call 116; refine Calls.quiet_of_same (lessU _ _ _)))
            go_wp2
            · refine bodyPost_ret (results_none rfl _ _ _) rfl ?_
              refine ⟨rfl, ?_⟩
              rw [← HE.out, HF.out, if_neg (by omega)]
              exact HS1.out.drewN _
            · exfalso
              have hx : (!decide (d1[q]! < d1[p1]!)) = false := by assumption
              simp at hx
              omega
        · have hd : decide (((d1[p]! : Nat) : Int) < ((d1[p1]! : Nat) : Int)) = false := by simp only [hxy, decide_false]
          have HF : Hid (Go.Sort.siftDown ltN hi f r d1 = if d1[q]! < d1[p]! then Go.Sort.siftDown ltN hi f c (Go.Sort.swp d1 q p) else d1) := sift_a HC.out HQ.out.1 HQ.out.2.1 HQ.out.2.2.1 HQ.out.2.2.2 hlt (by omega)
          go_wp2
          go_quiet (first | (go_at_call 116; refine Calls.quiet_of_same (lessU _ _ _)))
          obtain ⟨W1, hW1⟩ : ∃ W, W = wr.drewN nq := ⟨_, rfl⟩
          rw [← hW1]
          have HS1 : Hid (SU w0 W1 B g n cap d1) := by rw [hW1]; exact HS.out.drewN nq
          clear hW1 cq cp fq fp cp1 fp1
          have dq := HS1.out.at (k := q) (by omega)
          have dp := HS1.out.at (k := p) (by omega)
          have fq : W1.frozen? ⟨g, q, none⟩ = false := HS1.out.free _
          have fp : W1.frozen? ⟨g, p, none⟩ = false := HS1.out.free _
          by_cases hz : ((d1[q]! : Nat) : Int) < ((d1[p]! : Nat) : Int)
          · have hzd : decide (((d1[q]! : Nat) : Int) < ((d1[p]! : Nat) : Int)) = true := by simp only [hz, decide_true]
            go_wp2
            go_quiet (first | (go_at_call 116; refine Calls.quiet_of_same (lessU _ _ _)))
            go_wp2
            go_region
            all_goals go_wp2
            have hqq := HQ.out
            refine ⟨⟨c, rfl, by omega, _, ((HS1.out.drewN nq).swp q p).drew, ?_⟩, by simp [intOf]; omega⟩
            rw [← HE.out, HF.out, if_pos (by omega)]
          · have hzd : decide (((d1[q]! : Nat) : Int) < ((d1[p]! : Nat) : Int)) = false := by simp only [hz, decide_false]
            go_wp2
            go_quiet (first | (go_at_call 116; refine Calls.quiet_of_same (lessU _ _ _)))
            go_wp2
            · refine bodyPost_ret (results_none rfl _ _ _) rfl ?_
              refine ⟨rfl, ?_⟩
              rw [← HE.out, HF.out, if_neg (by omega)]
              exact HS1.out.drewN _
            · exfalso
              have hx : (!decide (d1[q]! < d1[p]!)) = false := by assumption
              simp at hx
              omega
      · have j2 : ¬ (e : Int) < (hi : Int) := by omega
        clear he hp hp1 hq
        have HF : Hid (Go.Sort.siftDown ltN hi f r d1 = if d1[q]! < d1[p]! then Go.Sort.siftDown ltN hi f c (Go.Sort.swp d1 q p) else d1) := sift_a HC.out HQ.out.1 HQ.out.2.1 HQ.out.2.2.1 HQ.out.2.2.2 hlt (by omega)
        go_wp2
        go_quiet (first | (go_at_call 116; refine Calls.quiet_of_same (lessU _ _ _)))
        obtain ⟨W1, hW1⟩ : ∃ W, W = wr.drewN nq := ⟨_, rfl⟩
        rw [← hW1]
        have HS1 : Hid (SU w0 W1 B g n cap d1) := by rw [hW1]; exact HS.out.drewN nq
        clear hW1 cq cp fq fp
        have dq := HS1.out.at (k := q) (by omega)
        have dp := HS1.out.at (k := p) (by omega)
        have fq : W1.frozen? ⟨g, q, none⟩ = false := HS1.out.free _
        have fp : W1.frozen? ⟨g, p, none⟩ = false := HS1.out.free _
        by_cases hz : ((d1[q]! : Nat) : Int) < ((d1[p]! : Nat) : Int)
        · have hzd : decide (((d1[q]! : Nat) : Int) < ((d1[p]! : Nat) : Int)) = true := by simp only [hz, decide_true]
          go_wp2
          go_quiet (first | (go_at_call 116; refine Calls.quiet_of_same (lessU _ _ _)))
          go_wp2
          go_region
          all_goals go_wp2
          have hqq := HQ.out
          refine ⟨⟨c, rfl, by omega, _, ((HS1.out.drewN nq).swp q p).drew, ?_⟩, by simp [intOf]; omega⟩
          rw [← HE.out, HF.out, if_pos (by omega)]
        · have hzd : decide (((d1[q]! : Nat) : Int) < ((d1[p]! : Nat) : Int)) = false := by simp only [hz, decide_false]
          go_wp2
          go_quiet (first | (go_at_call 116; refine Calls.quiet_of_same (lessU _ _ _)))
          go_wp2
          · refine bodyPost_ret (results_none rfl _ _ _) rfl ?_
            refine ⟨rfl, ?_⟩
            rw [← HE.out, HF.out, if_neg (by omega)]
            exact HS1.out.drewN _
          · exfalso
            have hx : (!decide (d1[q]! < d1[p]!)) = false := by assumption
            simp at hx
            omega
    · have j1 : ¬ (c : Int) < (hi : Int) := by omega
      go_wp2
      go_end0
      refine ⟨rfl, ?_⟩
      have hc := HC.out
      rw [← HE.out, sift_end (by omega)]
      exact HS.out

end Go.Proofs.YtbdhmkfdofkloaaGreatDoor
/- SORTING NUMBERS (uint64), many of them: heapSort. -/
namespace Go.Proofs.YtbdhmkfdofkloaaGreatDoor
open Go.RowKit Go.Maps
open Sc

set_option maxRecDepth 100000 in
set_option maxHeartbeats 4000000 in
theorem heapU (B g n cap a b : Nat) (d : Array Nat) (w0 w : World) (h : SU w0 w B g n cap d) (hab : a < b) (hb : b ≤ n) (hn : n ≤ 1000000000) :
    Calls Tryz.prog 173 #[.slice (some ⟨g, 0, none⟩) n cap, .int .i64 (a : Int), .int .i64 (b : Int)] w fun e w' => e = .returned (.tuple #[]) ∧ SU w0 w' B g n cap (Go.Sort.heapSort ltN d a b) := by
  have H0 : Hid (SU w0 w B g n cap d) := h
  obtain ⟨m, hm⟩ : ∃ m, m = b - a := ⟨_, rfl⟩
  have j1 : IntKind.i64.wrap ((b : Int) - (a : Int)) = (m : Int) := by rw [IntKind.wrap_i64]; omega
  have HM : Hid (m = b - a) := hm
  have hm1 : 1 ≤ m := by omega
  have hmn : a + m ≤ n := by omega
  clear h hm
  go_enter Tryz.func173, Tryz.ntmps173
  go_wp2
  go_loopw [9] (fun i wr => ∃ k : Nat, i = .int .i64 ((k : Int) - 1) ∧ k ≤ (m - 1) / 2 + 1 ∧ ∃ d', SU w0 wr B g n cap d' ∧ Go.Sort.heapBuild ltN m a k d' = Go.Sort.heapBuild ltN m a ((m - 1) / 2 + 1) d) (fun i _ => (intOf i + 1).toNat)
  case atStart =>
    refine ⟨(m - 1) / 2 + 1, ?_, by omega, d, H0.out, rfl⟩
    congr 1; omega
  case round =>
    obtain ⟨k, rfl, hk, d1, hs1, he1⟩ := hrel
    have HS : Hid (SU w0 wr B g n cap d1) := hs1
    have HE : Hid (Go.Sort.heapBuild ltN m a k d1 = Go.Sort.heapBuild ltN m a ((m - 1) / 2 + 1) d) := he1
    clear hs1 he1
    cases k with
    | zero =>
      rw [show (((0 : Nat) : Int) - 1) = -1 by omega]
      go_wp2
      go_loopw [10] (fun i wr => ∃ k : Nat, i = .int .i64 ((k : Int) - 1) ∧ k ≤ m ∧ ∃ d', SU w0 wr B g n cap d' ∧ Go.Sort.heapPop ltN a k d' = Go.Sort.heapSort ltN d a b) (fun i _ => (intOf i + 1).toNat)
      case atStart =>
        refine ⟨m, by first | rfl | (congr 1; omega), by omega, d1, HS.out, ?_⟩
        · have he := HE.out
          have hm := HM.out
          rw [Go.Sort.heapBuild] at he
          rw [Go.Sort.heapSort, ← hm, he]
      case round =>
        obtain ⟨k, rfl, hk2, d2, hs2, he2⟩ := hrel
        have HS2 : Hid (SU w0 wr B g n cap d2) := hs2
        have HE2 : Hid (Go.Sort.heapPop ltN a k d2 = Go.Sort.heapSort ltN d a b) := he2
        clear hs2 he2
        cases k with
        | zero =>
          go_wp2
          go_end0
          refine ⟨rfl, ?_⟩
          rw [← HE2.out]
          exact HS2.out
        | succ i =>
          have j3 : (((i + 1 : Nat) : Int) - 1) = (i : Int) := by omega
          rw [j3]
          have j2 : (0 : Int) ≤ (i : Int) := by omega
          by_cases hi0 : i = 0
          · subst hi0
            have c1 := HS2.out.at (k := a) (by omega)
            have f1 : wr.frozen? ⟨g, a, none⟩ = false := HS2.out.free _
            have b1 : (a : Int) < (n : Int) := by omega
            have j4 : IntKind.i64.wrap (a : Int) = (a : Int) := by rw [IntKind.wrap_i64]; omega
            have HF : Hid (Go.Sort.heapPop ltN a 0 (Go.Sort.siftDown ltN 0 a 0 (Go.Sort.swp d2 a a)) = Go.Sort.heapSort ltN d a b) := HE2.out
            go_wp2
            go_region
            all_goals go_wp2_with fail
            all_goals
              obtain ⟨W1, hW1⟩ : ∃ W, W = ((wr.setCell ⟨g, a, none⟩ (.int .u64 (d2[a]! : Nat))).setCell ⟨g, a, none⟩ (.int .u64 (d2[a]! : Nat))).drew := ⟨_, rfl⟩
              rw [← hW1]
              have hs3 : SU w0 W1 B g n cap (Go.Sort.swp d2 a a) := by rw [hW1]; exact (HS2.out.swp a a).drew
              refine (siftU B g n cap 0 0 a _ w0 W1 hs3 (Nat.zero_le _) (by omega) hn).mono ?_
              rintro e W2 ⟨rfl, hs4⟩
              have HS4 : Hid (SU w0 W2 B g n cap _) := hs4
              clear hs3 hs4 hW1
              go_wp2
              refine ⟨⟨0, by simp, by omega, _, HS4.out, HF.out⟩, by simp [intOf]⟩
          · obtain ⟨p, hp⟩ : ∃ p, p = a + i := ⟨_, rfl⟩
            have j4 : IntKind.i64.wrap ((a : Int) + (i : Int)) = (p : Int) := by rw [IntKind.wrap_i64]; omega
            have j5 : IntKind.i64.wrap ((i : Int) - 1) = (i : Int) - 1 := by rw [IntKind.wrap_i64]; omega
            have c1 := HS2.out.at (k := a) (by omega)
            have c2 := HS2.out.at (k := p) (by omega)
            have f1 : wr.frozen? ⟨g, a, none⟩ = false := HS2.out.free _
            have f2 : wr.frozen? ⟨g, p, none⟩ = false := HS2.out.free _
            have b1 : (a : Int) < (n : Int) := by omega
            have b2 : (p : Int) < (n : Int) := by omega
            have HF : Hid (Go.Sort.heapPop ltN a i (Go.Sort.siftDown ltN i a 0 (Go.Sort.swp d2 a p)) = Go.Sort.heapSort ltN d a b) := by rw [hp]; exact HE2.out
            have hpn : a + i ≤ n := by omega
            have nap : a ≠ p := by omega
            have npa : p ≠ a := by omega
            clear hp
            go_wp2
            go_region
            all_goals go_wp2_with fail
            all_goals
              obtain ⟨W1, hW1⟩ : ∃ W, W = ((wr.setCell ⟨g, a, none⟩ (.int .u64 (d2[p]! : Nat))).setCell ⟨g, p, none⟩ (.int .u64 (d2[a]! : Nat))).drew := ⟨_, rfl⟩
              rw [← hW1]
              have hs3 : SU w0 W1 B g n cap (Go.Sort.swp d2 a p) := by rw [hW1]; exact (HS2.out.swp a p).drew
              refine (siftU B g n cap 0 i a _ w0 W1 hs3 (Nat.zero_le _) hpn hn).mono ?_
              rintro e W2 ⟨rfl, hs4⟩
              have HS4 : Hid (SU w0 W2 B g n cap _) := hs4
              clear hs3 hs4 hW1
              go_wp2
              refine ⟨⟨i, by simp, by omega, _, HS4.out, HF.out⟩, by simp [intOf]⟩
    | succ i =>
      have j2 : (0 : Int) ≤ (i : Int) := by omega
      have j3 : (((i + 1 : Nat) : Int) - 1) = (i : Int) := by omega
      rw [j3]
      have j5 : IntKind.i64.wrap ((i : Int) - 1) = (i : Int) - 1 := by rw [IntKind.wrap_i64]; omega
      have HF : Hid (Go.Sort.heapBuild ltN m a i (Go.Sort.siftDown ltN m a i d1) = Go.Sort.heapBuild ltN m a ((m - 1) / 2 + 1) d) := HE.out
      go_wp2_with fail
      refine (siftU B g n cap i m a d1 w0 wr HS.out (by omega) hmn hn).mono ?_
      rintro e W2 ⟨rfl, hs4⟩
      have HS4 : Hid (SU w0 W2 B g n cap _) := hs4
      clear hs4
      go_wp2
      go_roundw
      case rel => exact ⟨i, by simp, by omega, _, HS4.out, HF.out⟩
      case measure => simp [intOf]
end Go.Proofs.YtbdhmkfdofkloaaGreatDoor
