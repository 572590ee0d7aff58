import Derived.Test.YtbdhmkfdofkloaaGreatDoorC16
import Derived.Sort.AssemblyPlain
import Derived.RangeFuncRecord
/- SORTING NUMBERS (uint64), many of them: a row that is sorted; reverseRange; order2, median, choosePivot. -/
namespace Go.Proofs.YtbdhmkfdofkloaaGreatDoor
open Go.RowKit Go.Maps
open Sc

abbrev ltN (x y : Nat) : Bool := decide (x < y)
theorem swoN : Go.Sort.SWO ltN where
  irrefl := fun x => by simp [ltN]
  trans := fun x y z h1 h2 => by simp [ltN] at *; omega
  ntrans := fun x y z h1 h2 => by simp [ltN] at *; omega
/-- how the row lies while it is sorted -/
structure SU (w wr : World) (B g n cap : Nat) (d : Array Nat) : Prop where
  sz : d.size = n
  row : wr.ownsRow B 34 1 (.slice (some ⟨g, 0, none⟩) n cap) n (u64s d.toList)
  fr : Fr [g] w wr
theorem at_bang {d : Array Nat} {i : Nat} (h : i < d.size) : d[i]! = d[i] := by simp [h]
theorem u64s_swp (d : Array Nat) (i j : Nat) : ((u64s d.toList).set i (.int .u64 (d[j]! : Nat))).set j (.int .u64 (d[i]! : Nat)) = u64s (Go.Sort.swp d i j).toList := by
  unfold u64s Go.Sort.swp
  simp [List.map_set]
theorem size_swpN (d : Array Nat) (i j : Nat) : (Go.Sort.swp d i j).size = d.size := by simp [Go.Sort.swp]
section
variable {w wr : World} {B g n cap : Nat} {d : Array Nat}
theorem SU.on (h : SU w wr B g n cap d) {wq : World} (hf : Fr [] wr wq) : SU w wq B g n cap d := ⟨h.sz, ownsRow_fr h.row hf (fun _ _ => by simp), h.fr.trans (hf.mono (by simp))⟩
theorem SU.drewN (h : SU w wr B g n cap d) (k : Nat) : SU w (wr.drewN k) B g n cap d := h.on (frDrewN (Fr.refl [] wr) k)
theorem SU.drew (h : SU w wr B g n cap d) : SU w wr.drew B g n cap d := h.on (Fr.refl [] wr).drew
theorem SU.at (h : SU w wr B g n cap d) {k : Nat} (hk : k < n) : wr.cell? ⟨g, k, none⟩ = some (.int .u64 ((d[k]! : Nat) : Int)) :=
  segs_cell h.row k _ (by rw [at_bang (by rw [h.sz]; exact hk)]; simp [h.sz, hk])
theorem SU.free (h : SU w wr B g n cap d) (k : Nat) : wr.frozen? ⟨g, k, none⟩ = false := by
  rcases h.row.2 with ⟨h', _⟩ | ⟨g', cap', cur, h', hb, hg, _⟩
  · simp at h'
  · simp only [Value.slice.injEq, Option.some.injEq, Addr.mk.injEq, and_true, true_and] at h'
    obtain ⟨rfl, rfl⟩ := h'
    exact blk_free hg _
theorem SU.swp (h : SU w wr B g n cap d) (i j : Nat) :
    SU w ((wr.setCell ⟨g, i, none⟩ (.int .u64 (d[j]! : Nat))).setCell ⟨g, j, none⟩ (.int .u64 (d[i]! : Nat))) B g n cap (Go.Sort.swp d i j) where
  sz := by rw [size_swpN]; exact h.sz
  row := by
    have h1 := ((h.row.stored i (.int .u64 (d[j]! : Nat))).1.stored j (.int .u64 (d[i]! : Nat))).1
    rwa [u64s_swp] at h1
  fr := (h.fr.setCell (.inl (by simp)) _).setCell (.inl (by simp)) _
end

set_option maxRecDepth 100000 in
set_option maxHeartbeats 4000000 in
theorem revU (B g n cap a b : Nat) (d : Array Nat) (w0 w : World) (h : SU w0 w B g n cap d) (hab : a < b) (hb : b ≤ n) (hn : n ≤ 67108864) :
    Calls Tryz.prog 176 #[.slice (some ⟨g, 0, none⟩) n cap, .int .i64 (a : Int), .int .i64 (b : Int)] w fun e w' => e = .returned (.tuple #[]) ∧ SU w0 w' B g n cap (Go.Sort.reverseRange d a b) := by
  have H0 : Hid (SU w0 w B g n cap d) := h
  have j0 : IntKind.i64.wrap ((b : Int) - 1) = ((b - 1 : Nat) : Int) := by rw [IntKind.wrap_i64]; omega
  clear h
  go_enter Tryz.func176, Tryz.ntmps176
  go_wp2
  go_loopw [6, 7] (fun i j wr => ∃ x y : Nat, i = .int .i64 x ∧ j = .int .i64 y ∧ a ≤ x ∧ y < b ∧ x ≤ y + 1 ∧ ∃ d', SU w0 wr B g n cap d' ∧ Go.Sort.reverseLoop x y d' = Go.Sort.reverseRange d a b) (fun i j _ => (intOf j).toNat + 1 - (intOf i).toNat)
  case atStart => exact ⟨a, b - 1, rfl, rfl, by omega, by omega, by omega, d, H0.out, rfl⟩
  case round =>
    obtain ⟨x, y, rfl, rfl, hx, hy, hxy, d1, hs1, he1⟩ := hrel
    have HS : Hid (SU w0 wr B g n cap d1) := hs1
    have HE : Hid (Go.Sort.reverseLoop x y d1 = Go.Sort.reverseRange d a b) := he1
    clear hs1 he1
    by_cases hlt : x < y
    · have j1 : (x : Int) < (y : Int) := by omega
      have c1 := HS.out.at (k := x) (by omega)
      have c2 := HS.out.at (k := y) (by omega)
      have f1 : wr.frozen? ⟨g, x, none⟩ = false := HS.out.free _
      have f2 : wr.frozen? ⟨g, y, none⟩ = false := HS.out.free _
      have j2 : IntKind.i64.wrap ((x : Int) + 1) = ((x + 1 : Nat) : Int) := by rw [IntKind.wrap_i64]; omega
      have j3 : IntKind.i64.wrap ((y : Int) - 1) = ((y - 1 : Nat) : Int) := by rw [IntKind.wrap_i64]; omega
      have j5 : (x : Int) < (n : Int) := by omega
      have j6 : (y : Int) < (n : Int) := by omega
      go_wp2
      go_region
      all_goals go_wp2
      refine ⟨⟨x + 1, y - 1, by simp, rfl, by omega, by omega, by omega, _, (HS.out.swp x y).drew, ?_⟩, by simp [intOf]; omega⟩
      rw [← HE.out]
      conv => rhs; rw [Go.Sort.reverseLoop, if_pos hlt]
    · have j1 : ¬ (x : Int) < (y : Int) := by omega
      go_wp2
      go_end0
      refine ⟨rfl, ?_⟩
      rw [← HE.out, Go.Sort.reverseLoop, if_neg hlt]
      exact HS.out

/-- where exchanges are counted -/
structure SwIn (w0 w : World) (B g n cap : Nat) (d : Array Nat) (sp s : Nat) : Prop where
  su : SU w0 w B g n cap d
  ne : sp ≠ g
  new : w0.heap.size ≤ sp
  blk : w.heap[sp]? = some (.cells #[.int .i64 (s : Int)] 3 (0, 0))
section
variable {w0 w : World} {B g n cap sp s : Nat} {d : Array Nat}
theorem SwIn.drewN (h : SwIn w0 w B g n cap d sp s) (k : Nat) : SwIn w0 (w.drewN k) B g n cap d sp s := ⟨h.su.drewN k, h.ne, h.new, by rw [(frDrewN (Fr.refl [] w) k).block sp (by have := h.blk; exact (Array.getElem?_eq_some_iff.mp this).1) (by simp)]; exact h.blk⟩
theorem SwIn.count (h : SwIn w0 w B g n cap d sp s) : SwIn w0 (w.setCell ⟨sp, 0, none⟩ (.int .i64 ((s : Int) + 1))) B g n cap d sp (s + 1) where
  su := ⟨h.su.sz, ownsRow_fr h.su.row (Fr.set1 (S := [sp]) (by simp) 0 _) (fun q hq => by simp [Value.ownBlock] at hq; subst hq; simp; exact fun e => h.ne e.symm), h.su.fr.setCell (.inr h.new) _⟩
  ne := h.ne
  new := h.new
  blk := by rw [blk_set h.blk]; simp
end
set_option maxRecDepth 100000 in
set_option maxHeartbeats 4000000 in
theorem order2U (B g n cap a b sp s : Nat) (d : Array Nat) (w0 w : World) (h : SwIn w0 w B g n cap d sp s) (ha : a < n) (hb : b < n) (hs : s ≤ 1000) :
    Calls Tryz.prog 199 #[.slice (some ⟨g, 0, none⟩) n cap, .int .i64 (a : Int), .int .i64 (b : Int), .pointer (some ⟨sp, 0, none⟩)] w fun e w' => ∃ x y t : Nat, e = .returned (.tuple #[.int .i64 (x : Int), .int .i64 (y : Int)]) ∧ (x = a ∧ y = b ∨ x = b ∧ y = a) ∧ t ≤ s + 1 ∧ SwIn w0 w' B g n cap d sp t := by
  have H0 : Hid (SwIn w0 w B g n cap d sp s) := h
  have c1 := h.su.at ha
  have c2 := h.su.at hb
  have f1 : w.frozen? ⟨g, a, none⟩ = false := h.su.free _
  have f2 : w.frozen? ⟨g, b, none⟩ = false := h.su.free _
  have c3 : w.cell? ⟨sp, 0, none⟩ = some (.int .i64 (s : Int)) := blk_cell h.blk 0
  have f3 : w.frozen? ⟨sp, 0, none⟩ = false := blk_free h.blk 0
  have j5 : (a : Int) < (n : Int) := by omega
  have j6 : (b : Int) < (n : Int) := by omega
  have j7 : IntKind.i64.wrap ((s : Int) + 1) = (s : Int) + 1 := by rw [IntKind.wrap_i64]; omega
  obtain ⟨x, hx⟩ : ∃ x, x = d[a]! := ⟨_, rfl⟩
  obtain ⟨y, hy⟩ : ∃ y, y = d[b]! := ⟨_, rfl⟩
  rw [← hx] at c1
  rw [← hy] at c2
  clear h hx hy
  go_enter Tryz.func199, Tryz.ntmps199
  by_cases hxy : (y : Int) < (x : Int)
  · have hd : decide ((y : Int) < (x : Int)) = true := by simp [hxy]
    go_wp2
    go_quiet (first | (go_at_call 116; refine Calls.quiet_of_same (lessU _ _ _)))
    go_wp2
    go_ret2
    refine ⟨b, a, s + 1, rfl, .inr ⟨rfl, rfl⟩, by omega, (H0.out.drewN nq).count⟩
  · have hd : decide ((y : Int) < (x : Int)) = false := by simp [hxy]
    go_wp2
    go_quiet (first | (go_at_call 116; refine Calls.quiet_of_same (lessU _ _ _)))
    go_wp2
    go_ret2
    refine ⟨a, b, s, rfl, .inl ⟨rfl, rfl⟩, by omega, H0.out.drewN nq⟩

set_option maxRecDepth 100000 in
set_option maxHeartbeats 4000000 in
theorem medianU (B g n cap a b c sp s : Nat) (d : Array Nat) (w0 w : World) (h : SwIn w0 w B g n cap d sp s) (ha : a < n) (hb : b < n) (hc : c < n) (hs : s ≤ 900) :
    Calls Tryz.prog 193 #[.slice (some ⟨g, 0, none⟩) n cap, .int .i64 (a : Int), .int .i64 (b : Int), .int .i64 (c : Int), .pointer (some ⟨sp, 0, none⟩)] w fun e w' => ∃ x t : Nat, e = .returned (.int .i64 (x : Int)) ∧ (x = a ∨ x = b ∨ x = c) ∧ t ≤ s + 3 ∧ SwIn w0 w' B g n cap d sp t := by
  have H0 : Hid (SwIn w0 w B g n cap d sp s) := h
  clear h
  go_enter Tryz.func193, Tryz.ntmps193
  go_wp2_with fail
  refine (order2U B g n cap a b sp s d w0 w H0.out ha hb (by omega)).mono ?_
  rintro e w1 ⟨x1, y1, t1, rfl, h1, ht1, hw1⟩
  have H1 : Hid (SwIn w0 w1 B g n cap d sp t1) := hw1
  clear hw1
  go_wp2_with fail
  refine (order2U B g n cap y1 c sp t1 d w0 w1 H1.out (by omega) hc (by omega)).mono ?_
  rintro e w2 ⟨x2, y2, t2, rfl, h2, ht2, hw2⟩
  have H2 : Hid (SwIn w0 w2 B g n cap d sp t2) := hw2
  clear hw2
  go_wp2_with fail
  refine (order2U B g n cap x1 x2 sp t2 d w0 w2 H2.out (by omega) (by omega) (by omega)).mono ?_
  rintro e w3 ⟨x3, y3, t3, rfl, h3, ht3, hw3⟩
  have H3 : Hid (SwIn w0 w3 B g n cap d sp t3) := hw3
  clear hw3
  go_wp2
  go_ret
  exact ⟨y3, t3, rfl, by omega, by omega, H3.out⟩
set_option maxRecDepth 100000 in
set_option maxHeartbeats 4000000 in
theorem medAdjU (B g n cap a sp s : Nat) (d : Array Nat) (w0 w : World) (h : SwIn w0 w B g n cap d sp s) (ha1 : 1 ≤ a) (ha : a + 1 < n) (hn : n ≤ 67108864) (hs : s ≤ 900) :
    Calls Tryz.prog 192 #[.slice (some ⟨g, 0, none⟩) n cap, .int .i64 (a : Int), .pointer (some ⟨sp, 0, none⟩)] w fun e w' => ∃ x t : Nat, e = .returned (.int .i64 (x : Int)) ∧ (x = a - 1 ∨ x = a ∨ x = a + 1) ∧ t ≤ s + 3 ∧ SwIn w0 w' B g n cap d sp t := by
  have H0 : Hid (SwIn w0 w B g n cap d sp s) := h
  have j1 : IntKind.i64.wrap ((a : Int) - 1) = ((a - 1 : Nat) : Int) := by rw [IntKind.wrap_i64]; omega
  have j2 : IntKind.i64.wrap ((a : Int) + 1) = ((a + 1 : Nat) : Int) := by rw [IntKind.wrap_i64]; omega
  clear h
  go_enter Tryz.func192, Tryz.ntmps192
  go_wp2_with fail
  refine (medianU B g n cap (a - 1) a (a + 1) sp s d w0 w H0.out (by omega) (by omega) ha hs).mono ?_
  rintro e w1 ⟨x1, t1, rfl, h1, ht1, hw1⟩
  have H1 : Hid (SwIn w0 w1 B g n cap d sp t1) := hw1
  clear hw1
  go_wp2
  go_ret
  exact ⟨x1, t1, rfl, h1, ht1, H1.out⟩
end Go.Proofs.YtbdhmkfdofkloaaGreatDoor
/- SORTING NUMBERS (uint64), many of them: choosePivot, breakPatterns. -/
namespace Go.Proofs.YtbdhmkfdofkloaaGreatDoor
open Go.RowKit Go.Maps
open Sc

theorem SU.lt {w wr : World} {B g n cap : Nat} {d : Array Nat} (h : SU w wr B g n cap d) : g < wr.heap.size := by
  rcases h.row.2 with ⟨h', _⟩ | ⟨g', cap', cur, h', hb, hg, _⟩
  · simp at h'
  · simp only [Value.slice.injEq, Option.some.injEq, Addr.mk.injEq, and_true, true_and] at h'
    obtain ⟨rfl, rfl⟩ := h'
    exact (Array.getElem?_eq_some_iff.mp hg).1
theorem SU.count {w0 w : World} {B g n cap : Nat} {d : Array Nat} (h : SU w0 w B g n cap d) : SwIn w0 (w.alloc (.cells #[.int .i64 0] 3)) B g n cap d w.heap.size 0 where
  su := h.on ((Fr.refl [] w).alloc _)
  ne := fun e => by have := h.lt; omega
  new := h.fr.size
  blk := World.alloc_heap_new w _
set_option maxRecDepth 100000 in
set_option maxHeartbeats 4000000 in
theorem chooseU (B g n cap a b : Nat) (d : Array Nat) (w0 w : World) (h : SU w0 w B g n cap d) (hab : a + 12 < b) (hb : b ≤ n) (hn : n ≤ 67108864) :
    Calls Tryz.prog 175 #[.slice (some ⟨g, 0, none⟩) n cap, .int .i64 (a : Int), .int .i64 (b : Int)] w fun e w' => ∃ p t : Nat, e = .returned (.tuple #[.int .i64 (p : Int), .int .i64 (t : Int)]) ∧ a ≤ p ∧ p < b ∧ t ≤ 2 ∧ SU w0 w' B g n cap d := by
  have H0 : Hid (SwIn w0 (w.alloc (.cells #[.int .i64 0] 3)) B g n cap d w.heap.size 0) := h.count
  have j1 : IntKind.i64.wrap ((b : Int) - (a : Int)) = ((b - a : Nat) : Int) := by rw [IntKind.wrap_i64]; omega
  clear h
  go_enter Tryz.func175, Tryz.ntmps175
  obtain ⟨x, hx⟩ : ∃ x, x = a + (b - a) / 4 := ⟨_, rfl⟩
  obtain ⟨y, hy⟩ : ∃ y, y = a + (b - a) / 4 * 2 := ⟨_, rfl⟩
  obtain ⟨z, hz⟩ : ∃ z, z = a + (b - a) / 4 * 3 := ⟨_, rfl⟩
  have m1 : Hid ((a : Int) + ((b - a : Nat) : Int) / 4 = (x : Int)) := show _ = _ by omega
  have m2 : Hid ((a : Int) + ((b - a : Nat) : Int) / 4 * 2 = (y : Int)) := show _ = _ by omega
  have m3 : Hid ((a : Int) + ((b - a : Nat) : Int) / 4 * 3 = (z : Int)) := show _ = _ by omega
  have l1 : (8 : Int) ≤ ((b - a : Nat) : Int) := by omega
  by_cases h50 : b - a < 50
  · have l2 : ((b - a : Nat) : Int) < 50 := by omega
    go_wp2_with fail
    rw [m1.out, m2.out, m3.out]
    refine (medianU B g n cap x y z _ 0 d w0 _ H0.out (by omega) (by omega) (by omega) (by omega)).mono ?_
    rintro e W1 ⟨x1, t1, rfl, h1, ht1, hw1⟩
    have H1 : Hid (SwIn w0 W1 B g n cap d w.heap.size t1) := hw1
    have c1 : W1.cell? ⟨w.heap.size, 0, none⟩ = some (.int .i64 (t1 : Int)) := blk_cell hw1.blk 0
    clear hw1
    by_cases e0 : t1 = 0
    · subst e0
      go_wp2
      go_ret2
      exact ⟨x1, 1, rfl, by omega, by omega, by omega, H1.out.su⟩
    · have k0 : ¬ (t1 : Int) = 0 := by omega
      by_cases e1 : t1 = 12
      · subst e1
        go_wp2
        go_ret2
        exact ⟨x1, 2, rfl, by omega, by omega, by omega, H1.out.su⟩
      · have k1 : ¬ (t1 : Int) = 12 := by omega
        go_wp2
        go_ret2
        exact ⟨x1, 0, rfl, by omega, by omega, by omega, H1.out.su⟩
  · have l2 : ¬ ((b - a : Nat) : Int) < 50 := by omega
    go_wp2_with fail
    rw [m1.out]
    refine (medAdjU B g n cap x _ 0 d w0 _ H0.out (by omega) (by omega) hn (by omega)).mono ?_
    rintro e W2 ⟨x2, t2, rfl, h2, ht2, hw2⟩
    have H2 : Hid (SwIn w0 W2 B g n cap d w.heap.size t2) := hw2
    clear hw2
    go_wp2_with fail
    rw [m2.out]
    refine (medAdjU B g n cap y _ t2 d w0 _ H2.out (by omega) (by omega) hn (by omega)).mono ?_
    rintro e W3 ⟨x3, t3, rfl, h3, ht3, hw3⟩
    have H3 : Hid (SwIn w0 W3 B g n cap d w.heap.size t3) := hw3
    clear hw3
    go_wp2_with fail
    rw [m3.out]
    refine (medAdjU B g n cap z _ t3 d w0 _ H3.out (by omega) (by omega) hn (by omega)).mono ?_
    rintro e W4 ⟨x4, t4, rfl, h4, ht4, hw4⟩
    have H4 : Hid (SwIn w0 W4 B g n cap d w.heap.size t4) := hw4
    clear hw4
    go_wp2_with fail
    refine (medianU B g n cap x2 x3 x4 _ t4 d w0 _ H4.out (by omega) (by omega) (by omega) (by omega)).mono ?_
    rintro e W1 ⟨x1, t1, rfl, h1, ht1, hw1⟩
    have H1 : Hid (SwIn w0 W1 B g n cap d w.heap.size t1) := hw1
    have c1 : W1.cell? ⟨w.heap.size, 0, none⟩ = some (.int .i64 (t1 : Int)) := blk_cell hw1.blk 0
    clear hw1
    by_cases e0 : t1 = 0
    · subst e0
      go_wp2
      go_ret2
      exact ⟨x1, 1, rfl, by omega, by omega, by omega, H1.out.su⟩
    · have k0 : ¬ (t1 : Int) = 0 := by omega
      by_cases e1 : t1 = 12
      · subst e1
        go_wp2
        go_ret2
        exact ⟨x1, 2, rfl, by omega, by omega, by omega, H1.out.su⟩
      · have k1 : ¬ (t1 : Int) = 12 := by omega
        go_wp2
        go_ret2
        exact ⟨x1, 0, rfl, by omega, by omega, by omega, H1.out.su⟩
end Go.Proofs.YtbdhmkfdofkloaaGreatDoor
/- SORTING NUMBERS (uint64), many of them: breakPatterns. -/
namespace Go.Proofs.YtbdhmkfdofkloaaGreatDoor
open Go.RowKit Go.Maps
open Sc

theorem xor_any (x y : Int) (hx : 0 ≤ x) (hy : 0 ≤ y) (hx2 : x < 18446744073709551616) (hy2 : y < 18446744073709551616) : ∃ u : Nat, u < 18446744073709551616 ∧ bits .xor .u64 x y = (u : Int) := by
  obtain ⟨a, rfl⟩ := Int.eq_ofNat_of_zero_le hx
  obtain ⟨b, rfl⟩ := Int.eq_ofNat_of_zero_le hy
  exact ⟨a ^^^ b, Nat.xor_lt_two_pow (n := 64) (by omega) (by omega), bits_xor_u64_nat a b (by omega) (by omega)⟩
theorem wrap_rng (x : Int) : 0 ≤ IntKind.u64.wrap x ∧ IntKind.u64.wrap x < 18446744073709551616 := by rw [IntKind.wrap_u64]; omega
set_option maxRecDepth 100000 in
set_option maxHeartbeats 4000000 in
theorem nextU (rp : Nat) (v : Nat) (t : TypeId) (w : World) (h : w.heap[rp]? = some (.cells #[.int .u64 (v : Int)] t (0, 0))) (hv : v < 18446744073709551616) :
    Calls Tryz.prog 191 #[.pointer (some ⟨rp, 0, none⟩)] w fun e w' => ∃ u : Nat, u < 18446744073709551616 ∧ e = .returned (.int .u64 (u : Int)) ∧ w'.heap[rp]? = some (.cells #[.int .u64 (u : Int)] t (0, 0)) ∧ Fr [rp] w w' := by
  have c1 : w.cell? ⟨rp, 0, none⟩ = some (.int .u64 (v : Int)) := blk_cell h 0
  have f1 : w.frozen? ⟨rp, 0, none⟩ = false := blk_free h 0
  have H0 : Hid (w.heap[rp]? = some (.cells #[.int .u64 (v : Int)] t (0, 0))) := h
  clear h
  go_enter Tryz.func191, Tryz.ntmps191
  go_wp2
  go_region
  all_goals go_wp2
  obtain ⟨u1, hu1, e1⟩ := xor_any (v : Int) (IntKind.u64.wrap ((v : Int) * 8192)) (by omega) (wrap_rng _).1 (by omega) (wrap_rng _).2
  rw [e1]
  obtain ⟨W1, hW1⟩ : ∃ W, W = (w.setCell ⟨rp, 0, none⟩ (.int .u64 (u1 : Int))).drew := ⟨_, rfl⟩
  have b1 : W1.heap[rp]? = some (.cells #[.int .u64 (u1 : Int)] t (0, 0)) := by rw [hW1]; exact (blk_set H0.out 0 _)
  have g1 : Hid (Fr [rp] w W1) := by rw [hW1]; exact (Fr.set1 (by simp) 0 _).drew
  rw [← hW1]
  have c2 : W1.cell? ⟨rp, 0, none⟩ = some (.int .u64 (u1 : Int)) := blk_cell b1 0
  have f2 : W1.frozen? ⟨rp, 0, none⟩ = false := blk_free b1 0
  have H1 : Hid (W1.heap[rp]? = some (.cells #[.int .u64 (u1 : Int)] t (0, 0))) := b1
  clear hW1 b1 c1 f1 e1
  go_region
  all_goals go_wp2
  obtain ⟨u2, hu2, e2⟩ := xor_any (u1 : Int) ((u1 : Int) / 128) (by omega) (by omega) (by omega) (by omega)
  rw [e2]
  obtain ⟨W2, hW2⟩ : ∃ W, W = (W1.setCell ⟨rp, 0, none⟩ (.int .u64 (u2 : Int))).drew := ⟨_, rfl⟩
  have b2 : W2.heap[rp]? = some (.cells #[.int .u64 (u2 : Int)] t (0, 0)) := by rw [hW2]; exact (blk_set H1.out 0 _)
  have g2 : Hid (Fr [rp] w W2) := by rw [hW2]; exact (g1.out.setCell (.inl (by simp)) _).drew
  rw [← hW2]
  have c3 : W2.cell? ⟨rp, 0, none⟩ = some (.int .u64 (u2 : Int)) := blk_cell b2 0
  have f3 : W2.frozen? ⟨rp, 0, none⟩ = false := blk_free b2 0
  have H2 : Hid (W2.heap[rp]? = some (.cells #[.int .u64 (u2 : Int)] t (0, 0))) := b2
  clear hW2 b2 c2 f2 e2
  go_region
  all_goals go_wp2
  obtain ⟨u3, hu3, e3⟩ := xor_any (u2 : Int) (IntKind.u64.wrap ((u2 : Int) * 131072)) (by omega) (wrap_rng _).1 (by omega) (wrap_rng _).2
  rw [e3]
  obtain ⟨W3, hW3⟩ : ∃ W, W = (W2.setCell ⟨rp, 0, none⟩ (.int .u64 (u3 : Int))).drew := ⟨_, rfl⟩
  have b3 : W3.heap[rp]? = some (.cells #[.int .u64 (u3 : Int)] t (0, 0)) := by rw [hW3]; exact (blk_set H2.out 0 _)
  have g3 : Hid (Fr [rp] w W3) := by rw [hW3]; exact (g2.out.setCell (.inl (by simp)) _).drew
  rw [← hW3]
  have c4 : W3.cell? ⟨rp, 0, none⟩ = some (.int .u64 (u3 : Int)) := blk_cell b3 0
  have f4 : W3.frozen? ⟨rp, 0, none⟩ = false := blk_free b3 0
  have H3 : Hid (W3.heap[rp]? = some (.cells #[.int .u64 (u3 : Int)] t (0, 0))) := b3
  clear hW3 b3 c3 f3 e3
  go_wp2
  go_ret
  exact ⟨u3, hu3, rfl, H3.out, g3.out⟩
theorem bitLen_pow : ∀ f x : Nat, 2 ^ (Lib.bitLenAux f x) ≤ (if x = 0 then 1 else 2 * x) ∧ Lib.bitLenAux f x ≤ f
  | 0, x => by simp [Lib.bitLenAux]; split <;> omega
  | f + 1, x => by
    have h := bitLen_pow f (x / 2)
    unfold Lib.bitLenAux
    by_cases hx : x = 0
    · simp [hx]
    · rw [if_neg hx, if_neg hx, Nat.pow_add]
      refine ⟨?_, by omega⟩
      have h1 := h.1
      by_cases h2 : x / 2 = 0
      · rw [if_pos h2] at h1; omega
      · rw [if_neg h2] at h1; omega
set_option maxRecDepth 100000 in
set_option maxHeartbeats 4000000 in
theorem powU (l : Nat) (w : World) (hl : l < 67108865) (h1 : 1 ≤ l) :
    Calls Tryz.prog 190 #[.int .i64 (l : Int)] w fun e w' => ∃ m : Nat, 1 ≤ m ∧ m ≤ 2 * l ∧ e = .returned (.int .u64 (m : Int)) ∧ w' = w := by
  go_enter Tryz.func190, Tryz.ntmps190
  go_wp2_with fail
  refine (Tryz.bits_Len l w (by omega) (by omega)).mono ?_
  rintro e w1 ⟨rfl, rfl⟩
  go_wp2
  go_ret
  have hb := bitLen_pow 64 l
  refine ⟨2 ^ Lib.bitLen l, Nat.one_le_two_pow, ?_, ?_, rfl⟩
  · show 2 ^ Lib.bitLenAux 64 l ≤ _
    have h1 := hb.1
    split at h1 <;> omega
  · have h1 := hb.1
    have e1 : min (Lib.bitLen l) 64 = Lib.bitLen l := Nat.min_eq_left hb.2
    have e2 : 2 ^ Lib.bitLen l < 18446744073709551616 := by
      show 2 ^ Lib.bitLenAux 64 l < _
      split at h1 <;> omega
    have e3 : IntKind.u64.wrap (2 ^ Lib.bitLen l) = ((2 ^ Lib.bitLen l : Nat) : Int) := by
      rw [IntKind.wrap_u64, show (2 : Int) ^ Lib.bitLen l = ((2 ^ Lib.bitLen l : Nat) : Int) by simp]
      generalize 2 ^ Lib.bitLen l = q at e2
      omega
    simp [e1, e3]

/-- where numbers are drawn -/
structure RnIn (w0 w : World) (B g n cap : Nat) (d : Array Nat) (rp v : Nat) : Prop where
  su : SU w0 w B g n cap d
  ne : rp ≠ g
  new : w0.heap.size ≤ rp
  blk : w.heap[rp]? = some (.cells #[.int .u64 (v : Int)] 301 (0, 0))
  lt : v < 18446744073709551616
section
variable {w0 w w' : World} {B g n cap rp v u : Nat} {d : Array Nat}
theorem RnIn.next (h : RnIn w0 w B g n cap d rp v) (hu : u < 18446744073709551616) (hb : w'.heap[rp]? = some (.cells #[.int .u64 (u : Int)] 301 (0, 0))) (hf : Fr [rp] w w') : RnIn w0 w' B g n cap d rp u where
  su := ⟨h.su.sz, ownsRow_fr h.su.row hf (fun q hq => by simp [Value.ownBlock] at hq; subst hq; simp; exact fun e => h.ne e.symm), h.su.fr.andThen hf (fun j hj hl => by simp at hj; subst hj; have := h.new; omega)⟩
  ne := h.ne
  new := h.new
  blk := hb
  lt := hu
theorem RnIn.swp (h : RnIn w0 w B g n cap d rp v) (i j : Nat) : RnIn w0 ((w.setCell ⟨g, i, none⟩ (.int .u64 (d[j]! : Nat))).setCell ⟨g, j, none⟩ (.int .u64 (d[i]! : Nat))).drew B g n cap (Go.Sort.swp d i j) rp v where
  su := (h.su.swp i j).drew
  ne := h.ne
  new := h.new
  blk := by
    have hl : rp < w.heap.size := (Array.getElem?_eq_some_iff.mp h.blk).1
    rw [(((Fr.refl [g] w).setCell (p := ⟨g, i, none⟩) (.inl (by simp)) (.int .u64 (d[j]! : Nat))).setCell (p := ⟨g, j, none⟩) (.inl (by simp)) (.int .u64 (d[i]! : Nat))).drew.block rp hl (by simp; exact h.ne)]
    exact h.blk
  lt := h.lt
end
theorem SU.draws {w0 w : World} {B g n cap : Nat} {d : Array Nat} (h : SU w0 w B g n cap d) (v : Nat) (hv : v < 18446744073709551616) : RnIn w0 (w.alloc (.cells #[.int .u64 (v : Int)] 301)) B g n cap d w.heap.size v where
  su := h.on ((Fr.refl [] w).alloc _)
  ne := fun e => by have := h.lt; omega
  new := h.fr.size
  blk := World.alloc_heap_new w _
  lt := hv
set_option maxRecDepth 100000 in
set_option maxHeartbeats 4000000 in
theorem breakU (B g n cap a b : Nat) (d : Array Nat) (w0 w : World) (h : SU w0 w B g n cap d) (hab : a + 12 < b) (hb : b ≤ n) (hn : n ≤ 67108864) :
    Calls Tryz.prog 174 #[.slice (some ⟨g, 0, none⟩) n cap, .int .i64 (a : Int), .int .i64 (b : Int)] w fun e w' => e = .returned (.tuple #[]) ∧ ∃ d', SU w0 w' B g n cap d' ∧ Go.Sort.PermIn a b d d' := by
  have H0 : Hid (RnIn w0 (w.alloc (.cells #[.int .u64 ((b - a : Nat) : Int)] 301)) B g n cap d w.heap.size (b - a)) := h.draws _ (by omega)
  have HZ : Hid (d.size = n) := h.sz
  have j1 : IntKind.i64.wrap ((b : Int) - (a : Int)) = ((b - a : Nat) : Int) := by rw [IntKind.wrap_i64]; omega
  have l1 : (8 : Int) ≤ ((b - a : Nat) : Int) := by omega
  clear h
  go_enter Tryz.func174, Tryz.ntmps174
  go_wp2_with fail
  refine (powU (b - a) _ (by omega) (by omega)).mono ?_
  rintro e w1 ⟨m, hm1, hm2, rfl, rfl⟩
  have jm : IntKind.u64.wrap ((m : Int) - 1) = ((m - 1 : Nat) : Int) := by rw [IntKind.wrap_u64]; omega
  go_wp2
  go_loopw [9] (fun i wr => ∃ k : Nat, i = .int .i64 k ∧ a + (b - a) / 4 * 2 - 1 ≤ k ∧ k ≤ a + (b - a) / 4 * 2 + 2 ∧ ∃ d' v, RnIn w0 wr B g n cap d' w.heap.size v ∧ Go.Sort.PermIn a b d d') (fun i _ => n + 5 - (intOf i).toNat)
  case atStart =>
    refine ⟨a + (b - a) / 4 * 2 - 1, ?_, by omega, by omega, d, _, H0.out, Go.Sort.permIn_refl d a b⟩
    congr 1; omega
  case round =>
    obtain ⟨k, rfl, hk1, hk2, d1, v, hr1, hp1⟩ := hrel
    have HR : Hid (RnIn w0 wr B g n cap d1 w.heap.size v) := hr1
    have HP : Hid (Go.Sort.PermIn a b d d1) := hp1
    clear hr1 hp1
    by_cases hlt : k ≤ a + (b - a) / 4 * 2 + 1
    · have hlt' : (k : Int) ≤ (a : Int) + ((b - a : Nat) : Int) / 4 * 2 + 1 := by omega
      go_wp2_with fail
      refine (nextU _ v _ wr HR.out.blk HR.out.lt).mono ?_
      rintro e w2 ⟨u, hu, rfl, hb2, hf2⟩
      have HR2 : Hid (RnIn w0 w2 B g n cap d1 w.heap.size u) := HR.out.next hu hb2 hf2
      clear hb2 hf2
      obtain ⟨o, ho⟩ : ∃ o : Nat, o = u &&& (m - 1) := ⟨_, rfl⟩
      have hom : o ≤ m - 1 := by rw [ho]; exact Nat.and_le_right
      have eAnd : bits .and .u64 (u : Int) ((m - 1 : Nat) : Int) = (o : Int) := by rw [bits_and_u64_nat _ _ hu (by omega), ho]
      have jo : IntKind.i64.wrap (o : Int) = (o : Int) := by rw [IntKind.wrap_i64]; omega
      clear ho
      by_cases hob : o < b - a
      · have hob' : (o : Int) < ((b - a : Nat) : Int) := by omega
        obtain ⟨q, hq⟩ : ∃ q : Nat, q = o := ⟨_, rfl⟩
        have hqb : q < b - a := by omega
        subst hq
        have j6 : (a : Int) + (q : Int) < (n : Int) := by omega
        have c2 := HR2.out.su.at (k := a + q) (by omega)
        have f2 : w2.frozen? ⟨g, a + q, none⟩ = false := HR2.out.su.free _
        by_cases hkq : k = a + q
        · subst hkq
          go_wp2
          go_region
          all_goals go_wp2
          refine ⟨⟨(a + q) + 1, by simp, by omega, by omega, _, u, HR2.out.swp (a + q) (a + q), Go.Sort.permIn_trans _ _ _ _ _ HP.out (Go.Sort.swp_permIn _ _ _ _ _ (by omega) (by omega) (by omega) (by omega) (by rw [HR2.out.su.sz]; exact hb))⟩, by simp [intOf]; omega⟩
        · have c1 := HR2.out.su.at (k := k) (by omega)
          have f1 : w2.frozen? ⟨g, k, none⟩ = false := HR2.out.su.free _
          have j5 : (k : Int) < (n : Int) := by omega
          have hkq' : ¬ a + q = k := fun e => hkq e.symm
          go_wp2
          go_region
          all_goals go_wp2
          refine ⟨⟨k + 1, by simp, by omega, by omega, _, u, HR2.out.swp k (a + q), Go.Sort.permIn_trans _ _ _ _ _ HP.out (Go.Sort.swp_permIn _ _ _ _ _ (by omega) (by omega) (by omega) (by omega) (by rw [HR2.out.su.sz]; exact hb))⟩, by simp [intOf]; omega⟩
      · have hob' : ¬ (o : Int) < ((b - a : Nat) : Int) := by omega
        obtain ⟨q, hq⟩ : ∃ q : Nat, q = o - (b - a) := ⟨_, rfl⟩
        have hqb : q < b - a := by omega
        have jq : IntKind.i64.wrap ((o : Int) - ((b - a : Nat) : Int)) = (q : Int) := by rw [IntKind.wrap_i64]; omega
        clear hq
        have j6 : (a : Int) + (q : Int) < (n : Int) := by omega
        have c2 := HR2.out.su.at (k := a + q) (by omega)
        have f2 : w2.frozen? ⟨g, a + q, none⟩ = false := HR2.out.su.free _
        by_cases hkq : k = a + q
        · subst hkq
          go_wp2
          go_region
          all_goals go_wp2
          refine ⟨⟨(a + q) + 1, by simp, by omega, by omega, _, u, HR2.out.swp (a + q) (a + q), Go.Sort.permIn_trans _ _ _ _ _ HP.out (Go.Sort.swp_permIn _ _ _ _ _ (by omega) (by omega) (by omega) (by omega) (by rw [HR2.out.su.sz]; exact hb))⟩, by simp [intOf]; omega⟩
        · have c1 := HR2.out.su.at (k := k) (by omega)
          have f1 : w2.frozen? ⟨g, k, none⟩ = false := HR2.out.su.free _
          have j5 : (k : Int) < (n : Int) := by omega
          have hkq' : ¬ a + q = k := fun e => hkq e.symm
          go_wp2
          go_region
          all_goals go_wp2
          refine ⟨⟨k + 1, by simp, by omega, by omega, _, u, HR2.out.swp k (a + q), Go.Sort.permIn_trans _ _ _ _ _ HP.out (Go.Sort.swp_permIn _ _ _ _ _ (by omega) (by omega) (by omega) (by omega) (by rw [HR2.out.su.sz]; exact hb))⟩, by simp [intOf]; omega⟩
    · have hlt' : ¬ (k : Int) ≤ (a : Int) + ((b - a : Nat) : Int) / 4 * 2 + 1 := by omega
      go_wp2
      go_end0
      exact ⟨rfl, d1, HR.out.su, HP.out⟩
end Go.Proofs.YtbdhmkfdofkloaaGreatDoor
/- SORTING NUMBERS (uint64), many of them: insertionSort, siftDown, heapSort. -/
namespace Go.Proofs.YtbdhmkfdofkloaaGreatDoor
open Go.RowKit Go.Maps
open Sc

set_option maxRecDepth 100000 in
set_option maxHeartbeats 4000000 in
theorem insU (B g n cap a b : Nat) (d : Array Nat) (w0 w : World) (h : SU w0 w B g n cap d) (hb : b ≤ n) (ha : a ≤ n) (hn : n ≤ 67108864) :
    Calls Tryz.prog 172 #[.slice (some ⟨g, 0, none⟩) n cap, .int .i64 (a : Int), .int .i64 (b : Int)] w fun e w' => e = .returned (.tuple #[]) ∧ SU w0 w' B g n cap (Go.Sort.insertionSort ltN d a b) := by
  have H0 : Hid (SU w0 w B g n cap d) := h
  have j0 : IntKind.i64.wrap ((a : Int) + 1) = ((a + 1 : Nat) : Int) := by rw [IntKind.wrap_i64]; omega
  clear h
  go_enter Tryz.func172, Tryz.ntmps172
  go_wp2
  go_loopw [6] (fun i wr => ∃ k : Nat, i = .int .i64 k ∧ a + 1 ≤ k ∧ (k ≤ b ∨ k = a + 1) ∧ ∃ d', SU w0 wr B g n cap d' ∧ Go.Sort.insOuter ltN a b k d' = Go.Sort.insertionSort ltN d a b) (fun i _ => n + 5 - (intOf i).toNat)
  case atStart => exact ⟨a + 1, by simp, by omega, .inr rfl, d, H0.out, rfl⟩
  case round =>
    obtain ⟨k, rfl, hk1, hkn, d1, hs1, he1⟩ := hrel
    have HS1 : Hid (SU w0 wr B g n cap d1) := hs1
    have HE1 : Hid (Go.Sort.insOuter ltN a b k d1 = Go.Sort.insertionSort ltN d a b) := he1
    clear hs1 he1
    by_cases hlt : k < b
    · have j1 : (k : Int) < (b : Int) := by omega
      have j2 : IntKind.i64.wrap ((k : Int) + 1) = (k : Int) + 1 := by rw [IntKind.wrap_i64]; omega
      have HE2 : Hid (Go.Sort.insOuter ltN a b (k + 1) (Go.Sort.insInner ltN a k d1) = Go.Sort.insertionSort ltN d a b) := by
        have := HE1.out
        rw [Go.Sort.insOuter, if_pos hlt] at this
        exact this
      clear HE1
      go_wp2
      go_loopw [7] (fun i wq => ∃ j : Nat, i = .int .i64 j ∧ j ≤ k ∧ ∃ d', SU w0 wq B g n cap d' ∧ Go.Sort.insOuter ltN a b (k + 1) (Go.Sort.insInner ltN a j d') = Go.Sort.insertionSort ltN d a b) (fun i _ => (intOf i).toNat)
      case atStart => exact ⟨k, rfl, by omega, d1, HS1.out, HE2.out⟩
      case round =>
        obtain ⟨j, rfl, hjk, d2, hs2, he2⟩ := hrel
        have HS2 : Hid (SU w0 wr B g n cap d2) := hs2
        have HE3 : Hid (Go.Sort.insOuter ltN a b (k + 1) (Go.Sort.insInner ltN a j d2) = Go.Sort.insertionSort ltN d a b) := he2
        clear hs2 he2
        by_cases hja : a < j
        · obtain ⟨i, hi⟩ : ∃ i, j = i + 1 := ⟨j - 1, by omega⟩
          have c1 := HS2.out.at (k := j) (by omega)
          have c2 := HS2.out.at (k := i) (by omega)
          have f1 : wr.frozen? ⟨g, j, none⟩ = false := HS2.out.free _
          have f2 : wr.frozen? ⟨g, i, none⟩ = false := HS2.out.free _
          have j3 : (a : Int) < (j : Int) := by omega
          have j4 : IntKind.i64.wrap ((j : Int) - 1) = (i : Int) := by rw [IntKind.wrap_i64]; omega
          have j5 : (j : Int) < (n : Int) := by omega
          have j6 : (i : Int) < (n : Int) := by omega
          have hij : i ≠ j := by omega
          have HI : Hid (j = i + 1) := hi
          clear hi
          by_cases hxy : ((d2[j]! : Nat) : Int) < ((d2[i]! : Nat) : Int)
          · have hd : decide (((d2[j]! : Nat) : Int) < ((d2[i]! : Nat) : Int)) = true := by simp only [hxy, decide_true]
            have HQ : Hid (d2[j]! < d2[i]!) := by show _ < _; omega
            have HF : Hid (Go.Sort.insInner ltN a j d2 = Go.Sort.insInner ltN a i (Go.Sort.swp d2 j i)) := by
              show _ = _
              have hq := HQ.out
              rw [HI.out] at hq ⊢
              rw [Go.Sort.insInner, if_pos (by have := HI.out; simp [ltN, hq]; omega)]
            go_wp2
            go_quiet (first | (go_at_call 116; refine Calls.quiet_of_same (lessU _ _ _)))
            go_wp2
            go_region
            all_goals go_wp2
            refine ⟨⟨i, rfl, by have := HI.out; omega, _, ((HS2.out.drewN nq).swp j i).drew, ?_⟩, by have := HI.out; simp [intOf]; omega⟩
            rw [← HE3.out, HF.out]
          · have hd : decide (((d2[j]! : Nat) : Int) < ((d2[i]! : Nat) : Int)) = false := by simp only [hxy, decide_false]
            have HF : Hid (Go.Sort.insInner ltN a j d2 = d2) := by
              show _ = _
              rw [HI.out] at hxy ⊢
              rw [Go.Sort.insInner, if_neg (by simp [ltN]; omega)]
            go_wp2
            go_quiet (first | (go_at_call 116; refine Calls.quiet_of_same (lessU _ _ _)))
            go_wp2
            refine ⟨⟨k + 1, by simp, by omega, .inl (by omega), d2, HS2.out.drewN _, ?_⟩, by simp [intOf]; omega⟩
            rw [← HE3.out, HF.out]
        · have j3 : ¬ (a : Int) < (j : Int) := by omega
          have HF : Hid (Go.Sort.insInner ltN a j d2 = d2) := by
            show _ = _
            cases j with
            | zero => rfl
            | succ i => rw [Go.Sort.insInner, if_neg (by simp; omega)]
          go_wp2
          go_quiet (first | (go_at_call 116; refine Calls.quiet_of_same (lessU _ _ _)))
          go_wp2
          refine ⟨⟨k + 1, by simp, by omega, .inl (by omega), d2, HS2.out.drewN _, ?_⟩, by simp [intOf]; omega⟩
          rw [← HE3.out, HF.out]
    · have j1 : ¬ (k : Int) < (b : Int) := by omega
      go_wp2
      go_end0
      refine ⟨rfl, ?_⟩
      rw [← HE1.out, Go.Sort.insOuter, if_neg hlt]
      exact HS1.out
end Go.Proofs.YtbdhmkfdofkloaaGreatDoor
