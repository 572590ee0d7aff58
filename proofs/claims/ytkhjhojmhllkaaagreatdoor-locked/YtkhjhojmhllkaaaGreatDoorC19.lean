import Derived.Test.YtkhjhojmhllkaaaGreatDoorC18
import Derived.Laws.BitsAllLaws
import Derived.Test.YtkhjhojmhllkaaaGreatDoorC07
import Derived.Maps.RangeWalk
/- LEDGERS: all: a walk over a log's walk. -/
namespace Go.Proofs.YtkhjhojmhllkaaaGreatDoor
open Go.RowKit Go.Shelf
open Sc

theorem yield_wide {m m' l : Nat} {P : Program} {args : Array Value} {W : World} {R : Ending → World → Prop} (h : YieldAt Fence.wide m P l args W R) : YieldAt Fence.wide m' P l args W R := by
  obtain ⟨fn, tmps, assign, body, hy, h1, h2⟩ := h
  exact ⟨fn, tmps, assign, body, hy, h1, fun c cs _ => h2 c cs (by intro d hd; cases hd)⟩
set_option maxRecDepth 100000 in
set_option maxHeartbeats 2000000 in
theorem all1P_some (n : Nat) (hn : 1 ≤ n) (l Bn lp g cap : Nat) (rs : List Rec) (hlen : rs.length ≤ 67108864) (J : List Rec → World → Prop) (W : World)
    (hJ : ∀ s A B, J s A → Below W.heap.size A B → J s B)
    (hY : ∀ pre x W1, J pre W1 → W.heap.size ≤ W1.heap.size → pre ++ [x] <+: rs → YieldAt Fence.wide (n - 1) Tryz.prog l #[recA x] W1 fun e W' => e = .returned (.bool true) ∧ J (pre ++ [x]) W' ∧ Keep W.heap.size [g] W1 W')
    (hgl : g < W.heap.size) (hBn : W.cell? ⟨Bn, 0, none⟩ = some (.pointer (some ⟨lp, 0, none⟩))) (h3 : W.cell? ⟨lp, 3, none⟩ = some (.slice (some ⟨g, 0, none⟩) rs.length cap)) (hR : RecsIn W g rs) (h0 : J [] W) :
    CallsIn Fence.wide n Tryz.prog 140 #[.func (.yield l) #[] #[], .pointer (some ⟨Bn, 0, none⟩)] W fun e W' => (∃ v, e = .returned v) ∧ J rs W' := by
  obtain ⟨m, hm⟩ : ∃ m, m = rs.length := ⟨_, rfl⟩
  rw [← hm] at h3 hlen
  have HM : Hid (m = rs.length) := hm
  have hro : Fence.wide.round = none := rfl
  clear hm
  refine callsIn_of_wp Tryz.func140 rfl trivial ?_ hro
  simp only [Tryz.ntmps140, List.size_toArray, List.length_cons, List.length_nil, Nat.reduceAdd, Nat.reduceSub, Array.replicate_succ, Array.replicate_zero, List.push_toArray, List.append_toArray, List.nil_append, List.cons_append]
  gi_wp2
  gi_loopw [10] (fun i wr => ∃ k : Nat, k ≤ m ∧ i = .int .i64 k ∧ Hid (J (rs.take k) wr ∧ KpS [g] W wr))
    (fun i _ => m - (intOf i).toNat)
  case atStart => exact ⟨0, Nat.zero_le _, rfl, by simpa using h0, KpS.refl _⟩
  case round =>
    obtain ⟨k, hk, rfl, hQ⟩ := hrel
    by_cases hlt : k < m
    · obtain ⟨r, hr⟩ : ∃ r, rs[k]? = some r := ⟨_, List.getElem?_eq_getElem (by have := HM.out; omega)⟩
      have hbg := hQ.out.2.same g (by simp) hgl
      obtain ⟨q1, q2, q3⟩ := hR k r hr
      have r1 := (World.cell?_of_block (a := ⟨g, k * 3, none⟩) hbg).trans q1
      have r2 := (World.cell?_of_block (a := ⟨g, k * 3 + 1, none⟩) hbg).trans q2
      have r3 := (World.cell?_of_block (a := ⟨g, k * 3 + 2, none⟩) hbg).trans q3
      obtain ⟨W2, hW2⟩ : ∃ W2, W2 = wr.alloc (.cells #[.int .u64 (r.lsn : Int), .int .u8 (r.kind : Int), .string (str r.pay)] 103) := ⟨_, rfl⟩
      have hb2 : Below W.heap.size wr W2 := by rw [hW2]; exact (Below.refl _ wr).alloc hQ.out.2.size _
      have hJ2 := hJ _ _ _ hQ.out.1 hb2
      have hk2 : KpS [g] W W2 := hQ.out.2.trans (KpS.below hb2 (by simp; omega))
      obtain ⟨fn, tmps, assign, body, hy, hRR⟩ := hY _ r W2 hJ2 (Nat.le_trans hQ.out.2.size hb2.size) (by rw [← take_succ_at hr]; exact List.take_prefix _ _)
      subst hW2
      clear q1 q2 q3 hbg
      gi_wp2
      refine hRR.mono ?_
      rintro e W3 ⟨rfl, hJ3, hk3⟩
      have HN : Hid (J (rs.take (k + 1)) W3 ∧ KpS [g] W W3) := ⟨by rw [take_succ_at hr]; exact hJ3, hk2.trans ⟨hk3.size, hk3.same⟩⟩
      clear hJ3 hk3
      gi_wp2
      go_roundw
      case rel => exact ⟨k + 1, by omega, by simp, HN.out⟩
      case measure => simp [intOf]; omega
    · obtain rfl : k = m := by omega
      gi_wp2
      go_end0
      refine ⟨⟨_, rfl⟩, ?_⟩
      have := hQ.out.1
      rwa [HM.out, List.take_length] at this
theorem all1P (n : Nat) (hn : 1 ≤ n) (l Bn lp : Nat) (rv : Value) (rs : List Rec) (hlen : rs.length ≤ 67108864) (W : World) (hc : W.cell? ⟨Bn, 0, none⟩ = some (.pointer (some ⟨lp, 0, none⟩))) (hL : LogRecs W lp rv rs) :
    SeqP Fence.wide n Tryz.prog 140 #[.pointer (some ⟨Bn, 0, none⟩)] (fun x : Rec => #[recA x]) rs (rowsOf rv) l W := fun J hJ hY h0 => by
  have h3 := hL.cell
  rcases hL.recs with ⟨rfl, rfl⟩ | ⟨g, cap, rfl, hg, hr⟩
  · exact all1_nil Fence.wide n trivial rfl l Bn lp J W hc h3 h0
  · exact all1P_some n hn l Bn lp g cap rs hlen J W hJ hY hg hc h3 hr h0
theorem andNot128 {k : Nat} (h : k < 128) : bits .andNot .u8 (k : Int) 128 = (k : Int) := by
  have := u8_andNot_nat k 128 (by omega) (by omega)
  rw [show ((128 : Nat) : Int) = 128 from rfl] at this
  rw [this]
  congr 1
  have : k &&& (2 ^ 7 - 1) = k % 2 ^ 7 := Nat.and_two_pow_sub_one_eq_mod k 7
  simpa [Nat.mod_eq_of_lt h] using this
set_option maxHeartbeats 1000000 in
theorem ledAll_fn (n : Nat) (gp : Nat) (w : World) :
    CallsIn Fence.wide n Tryz.prog 179 #[.pointer (some ⟨gp, 0, none⟩)] w fun e w' => e = .returned (.func (.func 222) #[] #[.pointer (some ⟨w.heap.size, 0, none⟩)]) ∧ w' = w.alloc (.cells #[.pointer (some ⟨gp, 0, none⟩)] 136) := by
  refine callsIn_of_wp Tryz.func179 rfl trivial ?_ rfl
  simp only [Tryz.ntmps179, List.size_toArray, List.length_cons, List.length_nil, Nat.reduceAdd, Nat.reduceSub, Array.replicate_succ, Array.replicate_zero, List.push_toArray, List.append_toArray, List.nil_append, List.cons_append]
  gi_wp2
  go_ret
  exact ⟨rfl, rfl⟩
set_option maxRecDepth 100000 in
set_option maxHeartbeats 4000000 in
theorem ledAll_in (n : Nat) (hn : 7 ≤ n) (m l Bl gp lp : Nat) (rv : Value) (rs : List Rec) (hlen : rs.length ≤ 67108864) (hpl : PlainR rs) (W : World) (J : List Rec → World → Prop)
    (hJ : ∀ s A B, J s A → Below W.heap.size A B → J s B)
    (hY : ∀ pre x W1, J pre W1 → W.heap.size ≤ W1.heap.size → pre ++ [x] <+: rs → YieldAt Fence.wide m Tryz.prog l #[.int .u8 (x.kind : Int), .string (str x.pay)] W1 fun e W' =>
      e = .returned (.bool true) ∧ J (pre ++ [x]) W' ∧ Keep W.heap.size (rowsOf rv) W1 W')
    (hBl : W.cell? ⟨Bl, 0, none⟩ = some (.pointer (some ⟨gp, 0, none⟩))) (hg : W.cell? ⟨gp, 0, none⟩ = some (.pointer (some ⟨lp, 0, none⟩))) (hL : LogRecs W lp rv rs) (h0 : J [] W) :
    CallsIn Fence.wide n Tryz.prog 222 #[.func (.yield l) #[] #[], .pointer (some ⟨Bl, 0, none⟩)] W fun e W' => (∃ v, e = .returned v) ∧ J rs W' := by
  have hro : Fence.wide.round = none := rfl
  have h1 : 1 ≤ n := by omega
  have hf1 : Fence.wide.fn 177 := trivial
  have hf2 : Fence.wide.fn 98 := trivial
  have hf3 : Fence.wide.fn 140 := trivial
  have hBll : Bl < W.heap.size := World.block_lt_of_cell? W ⟨Bl, 0, none⟩ hBl
  have hgl : gp < W.heap.size := World.block_lt_of_cell? W ⟨gp, 0, none⟩ hg
  obtain ⟨W1, hW1⟩ : ∃ W1, W1 = W.alloc (.cells #[.func (.yield l) #[] #[]] 321) := ⟨_, rfl⟩
  have hB1 : Below W.heap.size W W1 := by rw [hW1]; exact (Below.refl _ W).alloc (Nat.le_refl _) _
  have bY : Boxed W1 W.heap.size 321 (.func (.yield l) #[] #[]) := by rw [hW1]; exact Boxed.new W _ _
  have hs1 : W1.heap.size = W.heap.size + 1 := by rw [hW1]; simp
  have c0 : W1.cell? ⟨Bl, 0, none⟩ = some (.pointer (some ⟨gp, 0, none⟩)) := (hB1.cell (p := ⟨Bl, 0, none⟩) hBll).trans hBl
  have cg : W1.cell? ⟨gp, 0, none⟩ = some (.pointer (some ⟨lp, 0, none⟩)) := (hB1.cell (p := ⟨gp, 0, none⟩) hgl).trans hg
  have hcp := lastCp_in (n - 1) (by omega) gp lp rv rs hlen hpl W1 cg (hL.below hB1)
  rw [hW1] at c0
  refine callsIn_of_wp_marks Tryz.func222 rfl trivial ?_ hro
  simp only [Tryz.ntmps222, List.size_toArray, List.length_cons, List.length_nil, Nat.reduceAdd, Nat.reduceSub, Array.replicate_succ, Array.replicate_zero, List.push_toArray, List.append_toArray, List.nil_append, List.cons_append]
  gi_wp2_with fail
  rw [← hW1]
  refine hcp.mono ?_
  clear hcp c0 hW1
  rintro e w2 ⟨rfl, hb2⟩
  have hB2 : Below W.heap.size W w2 := hB1.trans (hb2.mono (by omega))
  have bY2 : Boxed w2 W.heap.size 321 (.func (.yield l) #[] #[]) := (hb2.block W.heap.size (by omega)).trans bY
  obtain ⟨W4, hW4⟩ : ∃ W4, W4 = (w2.alloc (.cells #[.int .u64 0] 33)).alloc (.cells #[.int .u64 0] 33) := ⟨_, rfl⟩
  have hs2 := hb2.size
  have hs4 : W4.heap.size = w2.heap.size + 2 := by rw [hW4]; simp
  have hB4 : Below W.heap.size W W4 := by rw [hW4]; exact (hB2.alloc (by omega) _).alloc (by simp; omega) _
  have c4 : W4.cell? ⟨Bl, 0, none⟩ = some (.pointer (some ⟨gp, 0, none⟩)) := (hB4.cell (p := ⟨Bl, 0, none⟩) hBll).trans hBl
  have d4 : W4.cell? ⟨gp, 0, none⟩ = some (.pointer (some ⟨lp, 0, none⟩)) := (hB4.cell (p := ⟨gp, 0, none⟩) hgl).trans hg
  have bY4 : Boxed W4 W.heap.size 321 (.func (.yield l) #[] #[]) := by rw [hW4]; exact (bY2.alloc _).alloc _
  have e3 : Boxed W4 w2.heap.size 33 (.int .u64 0) := by rw [hW4]; exact (Boxed.new w2 _ _).alloc _
  have e4 : Boxed W4 (w2.heap.size + 1) 33 (.int .u64 0) := by
    have := Boxed.new (w2.alloc (.cells #[.int .u64 0] 33)) 33 (.int .u64 0)
    rw [World.size_alloc, ← hW4] at this
    exact this
  rw [hW4] at c4 d4
  gi_wp2_with (gi_at_call 98; refine (all_in Fence.wide (n - 1) hf2 hro _ _).mono ?_; rintro e w' ⟨rfl, rfl⟩)
  rw [← hW4]
  have bA : Boxed (W4.alloc (.cells #[.pointer (some ⟨lp, 0, none⟩)] 71)) (w2.heap.size + 1 + 1) 71 (.pointer (some ⟨lp, 0, none⟩)) := by
    have := Boxed.new W4 71 (.pointer (some ⟨lp, 0, none⟩))
    rwa [hs4] at this
  have bY5 := bY4.alloc (.cells #[.pointer (some ⟨lp, 0, none⟩)] 71)
  have f3 := e3.alloc (.cells #[.pointer (some ⟨lp, 0, none⟩)] 71)
  have f4 := e4.alloc (.cells #[.pointer (some ⟨lp, 0, none⟩)] 71)
  have hB5 : Below W.heap.size W (W4.alloc (.cells #[.pointer (some ⟨lp, 0, none⟩)] 71)) := hB4.alloc (by omega) _
  have hs5 : (W4.alloc (.cells #[.pointer (some ⟨lp, 0, none⟩)] 71)).heap.size = w2.heap.size + 3 := by rw [World.size_alloc, hs4]
  obtain ⟨W0, hW0⟩ : ∃ W0, W0 = W4.alloc (.cells #[.pointer (some ⟨lp, 0, none⟩)] 71) := ⟨_, rfl⟩
  rw [← hW0] at bA bY5 f3 f4 hB5 hs5 ⊢
  clear hW4 hW0 bY bY2 bY4 e3 e4 c4 d4 hB4 hB1 hB2 cg
  have hL0 := hL.below hB5
  refine wpIn_range_mine hro h1 (gf := 140) (lb := #[.pointer (some ⟨w2.heap.size + 1 + 1, 0, none⟩)]) rfl hf3 (enters_of Tryz.func140 (by kernel_rfl) rfl)
    (encs := fun x : Rec => #[recA x]) (rs := rs) (S := rowsOf rv) (fun _ => rfl) hL0.rows
    (fun Wx hbx _ => all1P (n - 1) (by omega) _ (w2.heap.size + 1 + 1) lp rv rs hlen Wx ((hbx.cell (p := ⟨w2.heap.size + 1 + 1, 0, none⟩) (by show w2.heap.size + 1 + 1 < _; omega)).trans bA.cell) (hL0.below hbx))
    (fun pre A => (Boxed A W.heap.size 321 (.func (.yield l) #[] #[]) ∧ Boxed A w2.heap.size 33 (.int .u64 0) ∧ Boxed A (w2.heap.size + 1) 33 (.int .u64 0)) ∧ J pre A)
    (fun Wx hbx => ⟨⟨(hbx.block _ (by omega)).trans bY5, (hbx.block _ (by omega)).trans f3, (hbx.block _ (by omega)).trans f4⟩, hJ _ _ _ h0 (hB5.trans (hbx.mono (by omega)))⟩)
    (fun s A B hs hb => ⟨⟨(hb.block _ (by omega)).trans hs.1.1, (hb.block _ (by omega)).trans hs.1.2.1, (hb.block _ (by omega)).trans hs.1.2.2⟩, hJ _ _ _ hs.2 (hb.mono (by omega))⟩)
    (fun s A r hs => ⟨⟨(World.putObj_heap_other (by omega)).trans hs.1.1, (World.putObj_heap_other (by omega)).trans hs.1.2.1, (World.putObj_heap_other (by omega)).trans hs.1.2.2⟩, hJ _ _ _ hs.2 ⟨rfl, rfl, rfl, by rw [size_put0]; exact Nat.le_refl _, fun k hk => World.putObj_heap_other (by omega)⟩⟩)
    (fun x a' A => ∃ Bx, W0.heap.size + 2 ≤ Bx ∧ A.heap[Bx]? = some (.cells #[.int .u64 (x.lsn : Int), .int .u8 (x.kind : Int), .string (str x.pay)] 103 (0, 0)) ∧ a' = { tmps := #[.func (.yield l) #[] #[], .pointer (some ⟨Bl, 0, none⟩), .pointer (some ⟨W.heap.size, 0, none⟩), .pointer (some ⟨w2.heap.size, 0, none⟩), .pointer (some ⟨w2.heap.size + 1, 0, none⟩), .pointer (some ⟨Bx, 0, none⟩), undef, undef, .tuple #[.int .u64 0, .int .u64 0], .pointer (some ⟨gp, 0, none⟩), .tuple #[.int .u64 0, .int .u64 0], .int .u64 0, .int .u64 0, .pointer (some ⟨gp, 0, none⟩), .pointer (some ⟨gp, 0, none⟩), .pointer (some ⟨gp, 0, none⟩), .pointer (some ⟨lp, 0, none⟩), .func (.func 140) #[] #[.pointer (some ⟨w2.heap.size + 1 + 1, 0, none⟩)], recA x, undef, undef, undef, undef, undef, undef, undef, undef, undef, undef, undef, undef, undef, undef, undef, undef, undef, undef, undef, undef, undef, undef, undef, undef, undef, undef, undef, undef, undef, undef, undef, undef, undef], defers := [] })
    (fun x a' A r hs => by obtain ⟨Bx, g1, g2, g3⟩ := hs; exact ⟨Bx, g1, (World.putObj_heap_other (by omega)).trans g2, g3⟩)
    ?assign ?body ?done
  case assign =>
    have hsem := @Oper.semAt_some
    rintro pre x A K ⟨⟨y1, y2, y3⟩, hj⟩ hsA hpre hK
    gi_wp2
    exact hK _ _ ⟨⟨y1.alloc _, y2.alloc _, y3.alloc _⟩, hJ _ _ _ hj ((Below.refl _ A).alloc (by omega) _)⟩ (Keep.alloc _ _ _ _) ⟨A.heap.size, hsA, World.alloc_heap_new A _, rfl⟩
  case body =>
    have hsem := @Oper.semAt_some
    rintro pre x a' A ⟨⟨y1, y2, y3⟩, hj⟩ hsA ⟨Bx, hBx, bX, rfl⟩ hpre
    have x0 := cell_blk0 bX 0
    have x1 := cell_blk0 bX 1
    have x2 := cell_blk0 bX 2
    simp at x0 x1 x2
    have v1 := y1.cell
    have v2 := y2.cell
    have v3 := y3.cell
    obtain ⟨hk, hl1⟩ := hpl x (hpre.subset (by simp))
    have k1 : (x.kind : Int) < 128 := by omega
    have k2 : (0 : Int) < (x.lsn : Int) := by omega
    have k3 : ¬ (x.lsn : Int) < 0 := by omega
    have k4 := andNot128 hk
    have h3 : 1 ≤ n - 1 - 1 := by omega
    obtain ⟨fn, tmps, assign, body, hy, hRR⟩ := yield_wide (m' := n - 1 - 1 - 1) (hY pre x A hj (by omega) hpre)
    gi_wp2
    refine hRR.mono ?_
    rintro e W3 ⟨rfl, hJ3, hk3⟩
    have HN : Hid (J (pre ++ [x]) W3 ∧ Keep W.heap.size (rowsOf rv) A W3) := ⟨hJ3, hk3⟩
    clear hJ3 hk3
    gi_wp2
    have hk3 := HN.out.2
    refine ⟨⟨⟨(hk3.high _ (by omega) (by omega)).trans y1, (hk3.high _ (by omega) (by omega)).trans y2, (hk3.high _ (by omega) (by omega)).trans y3⟩, HN.out.1⟩, hk3.mono (by omega)⟩
  case done =>
    rintro A ⟨⟨y1, y2, y3⟩, hj⟩ hsA hK
    gi_wp2
    refine ⟨by simp, .inl ⟨_, _, rfl, run_takeDeferred hK, ?_⟩⟩
    exact ⟨_, results_none rfl _ _ _, ⟨_, rfl⟩, hJ _ _ _ hj ⟨rfl, rfl, rfl, by rw [size_put0]; exact Nat.le_refl _, fun k hk => World.putObj_heap_other (by omega)⟩⟩
theorem ledAllP (n : Nat) (hn : 7 ≤ n) (l Bl gp lp : Nat) (rv : Value) (rs : List Rec) (hlen : rs.length ≤ 67108864) (hpl : PlainR rs) (W : World) (hBl : W.cell? ⟨Bl, 0, none⟩ = some (.pointer (some ⟨gp, 0, none⟩))) (hg : W.cell? ⟨gp, 0, none⟩ = some (.pointer (some ⟨lp, 0, none⟩))) (hL : LogRecs W lp rv rs) :
    SeqP Fence.wide n Tryz.prog 222 #[.pointer (some ⟨Bl, 0, none⟩)] (fun x : Rec => #[.int .u8 (x.kind : Int), .string (str x.pay)]) rs (rowsOf rv) l W := fun J hJ hY h0 =>
  ledAll_in n hn (n - 1) l Bl gp lp rv rs hlen hpl W J hJ hY hBl hg hL h0
end Go.Proofs.YtkhjhojmhllkaaaGreatDoor
/- MAPS, BY LISTS OF WHAT THEY HOLD: whatever the keys and the elements are. -/
namespace Go.Proofs.YtkhjhojmhllkaaaGreatDoor
open Go.RowKit Go.Maps
open Sc

section
variable {K V : Type} [DecidableEq K]
def alLook (l : List (K × V)) (k : K) : Option V := (l.find? fun p => decide (p.1 = k)).map (·.2)
def alDel (l : List (K × V)) (k : K) : List (K × V) := l.filter fun p => !decide (p.1 = k)
def alPut (l : List (K × V)) (k : K) (v : V) : List (K × V) := (k, v) :: alDel l k
/-- no key twice -/
def Once1 (l : List (K × V)) : Prop := l.Pairwise fun p q => p.1 ≠ q.1
omit [DecidableEq K] in
theorem Once1.same {l : List (K × V)} (h : Once1 l) {p q : K × V} (hp : p ∈ l) (hq : q ∈ l) (e : p.1 = q.1) : p = q := by
  induction l with
  | nil => cases hp
  | cons x r ih =>
    obtain ⟨h1, h2⟩ := List.pairwise_cons.1 h
    rcases List.mem_cons.1 hp with hp1 | hp1
    · rcases List.mem_cons.1 hq with hq1 | hq1
      · rw [hp1, hq1]
      · rw [hp1] at e; exact absurd e (h1 q hq1)
    · rcases List.mem_cons.1 hq with hq1 | hq1
      · rw [hq1] at e; exact absurd e.symm (h1 p hp1)
      · exact ih h2 hp1 hq1
theorem alLook_mem {l : List (K × V)} {k : K} {v : V} (h : alLook l k = some v) : (k, v) ∈ l := by
  unfold alLook at h
  cases hf : l.find? (fun p => decide (p.1 = k)) with
  | none => rw [hf] at h; cases h
  | some p =>
    rw [hf] at h
    have h1 := List.mem_of_find?_eq_some hf
    have h2 := List.find?_some hf
    simp at h h2
    obtain ⟨a, b⟩ := p
    simp at h h2
    subst h h2
    exact h1
theorem alLook_none {l : List (K × V)} {k : K} : alLook l k = none ↔ ∀ p ∈ l, p.1 ≠ k := by
  unfold alLook
  simp [List.find?_eq_none]
theorem alLook_of {l : List (K × V)} (h : Once1 l) {k : K} {v : V} (hm : (k, v) ∈ l) : alLook l k = some v := by
  cases hl : alLook l k with
  | none => exact absurd rfl (alLook_none.1 hl _ hm)
  | some u => have := h.same hm (alLook_mem hl) rfl; simp at this; rw [this]
theorem Once1.del {l : List (K × V)} (h : Once1 l) (k : K) : Once1 (alDel l k) := List.Pairwise.filter _ h
theorem Once1.put {l : List (K × V)} (h : Once1 l) (k : K) (v : V) : Once1 (alPut l k v) :=
  List.pairwise_cons.2 ⟨fun q hq e => by have := (List.mem_filter.1 hq).2; simp at this; exact this e.symm, h.del k⟩
end

/-- how keys are written -/
structure KeyRep (P : Program) (K : Type) (kt : TypeId) where
  kv : K → Value
  kl : K → Lit
  ok : K → Prop
  law : Keyed P kt
  key : ∀ k, ok k → keyOf P kt (kv k) = some (kl k)
  inj : ∀ a b, kv a = kv b → a = b
/-- how elements are written -/
structure ElRep (V : Type) where
  R : Value → Option (DataW Unit × List MemPlace)
  ev : V → Value
  el : V → DataW Unit
  ok : V → Prop
  made : ∀ v, ok v → R (ev v) = some (el v, [])
  inv : ∀ x v ps, ok v → R x = some (el v, ps) → x = ev v

section
variable {P : Program} {K V : Type} [DecidableEq K] {kt : TypeId} (KR : KeyRep P K kt) (ER : ElRep V)
omit [DecidableEq K] in
theorem KeyRep.lit_inj {a b : K} (ha : KR.ok a) (hb : KR.ok b) (h : KR.kl a = KR.kl b) : a = b :=
  KR.inj a b (KR.law.inj (KR.key a ha) (by rw [h]; exact KR.key b hb))
theorem KeyRep.same {a b : K} (ha : KR.ok a) (hb : KR.ok b) : (KR.kl a).sameKey (KR.kl b) = decide (a = b) := by
  by_cases e : a = b
  · subst e; rw [WideAt.sameKey_self (KR.law.key (KR.key a ha))]; simp
  · rw [Maps.sameKey_ne (fun h => e (KR.lit_inj ha hb h))]; simp [e]
def litOf (p : K × V) : Lit × DataW Unit := (KR.kl p.1, ER.el p.2)
/-- block b is a map that holds what l lists -/
def MapAs (w : World) (b n : Nat) (l : List (K × V)) : Prop :=
  ∃ es, w.ownsMap P kt ER.R b n (.map es) ∧ es.Perm (l.map (litOf KR ER)) ∧ Once1 l ∧ ∀ p ∈ l, KR.ok p.1 ∧ ER.ok p.2
variable {KR ER} {w w' : World} {b n : Nat} {l : List (K × V)} {es : List (Lit × DataW Unit)}
theorem has_of (hp : es.Perm (l.map (litOf KR ER))) (hok : ∀ p ∈ l, KR.ok p.1 ∧ ER.ok p.2) {k : K} (hk : KR.ok k) : Maps.has (.map es) (KR.kl k) = (alLook l k).isSome := by
  rw [Maps.has_eq, hp.any_eq, List.any_map]
  cases hl : alLook l k with
  | none =>
    rw [Option.isSome_none, List.any_eq_false]
    intro p hm
    have := alLook_none.1 hl p hm
    simp only [Function.comp, litOf]
    rw [KR.same (hok p hm).1 hk]
    simp [this]
  | some v =>
    rw [Option.isSome_some, List.any_eq_true]
    refine ⟨(k, v), alLook_mem hl, ?_⟩
    simp only [Function.comp, litOf]
    rw [KR.same hk hk]
    simp
theorem atKey_of (hp : es.Perm (l.map (litOf KR ER))) (h1 : Once1 l) (hok : ∀ p ∈ l, KR.ok p.1 ∧ ER.ok p.2) {k : K} (hk : KR.ok k) {v : V} (hl : alLook l k = some v) (z : DataW Unit) : (DataW.map es).atKey (KR.kl k) z = ER.el v := by
  have hm : litOf KR ER (k, v) ∈ es := hp.mem_iff.2 (List.mem_map.2 ⟨(k, v), alLook_mem hl, rfl⟩)
  simp only [DataW.atKey]
  cases hf : es.find? (fun p => p.1.sameKey (KR.kl k)) with
  | none =>
    have := List.find?_eq_none.1 hf _ hm
    simp only [litOf] at this
    rw [KR.same hk hk] at this
    simp at this
  | some q =>
    have q1 := hp.mem_iff.1 (List.mem_of_find?_eq_some hf)
    have q2 := List.find?_some hf
    obtain ⟨p, hp1, rfl⟩ := List.mem_map.1 q1
    simp only [litOf] at q2 ⊢
    rw [KR.same (hok p hp1).1 hk] at q2
    have q3 : p.1 = k := by simpa using q2
    have := h1.same hp1 (alLook_mem hl) q3
    rw [this]
omit [DecidableEq K] in
theorem MapAs.made (w : World) : MapAs KR ER (w.alloc (.map #[] 0)) w.heap.size 0 [] :=
  ⟨[], World.ownsMap_made _ _ _ _, List.Perm.refl _, List.Pairwise.nil, by simp⟩
omit [DecidableEq K] in
theorem MapAs.lt (h : MapAs KR ER w b n l) : b < w.heap.size := by obtain ⟨es, h, _⟩ := h; exact h.lt
omit [DecidableEq K] in
theorem MapAs.isMap (h : MapAs KR ER w b n l) : ∃ es c, w.heap[b]? = some (.map es c) := by obtain ⟨_, ⟨es, c, h, _⟩, _⟩ := h; exact ⟨es, c, h⟩
omit [DecidableEq K] in
theorem MapAs.mono (h : MapAs KR ER w b n l) {n' : Nat} (hn : n ≤ n') : MapAs KR ER w b n' l := by obtain ⟨es, h, r⟩ := h; exact ⟨es, h.mono hn, r⟩
omit [DecidableEq K] in
theorem MapAs.fr {S : List Nat} (h : MapAs KR ER w b n l) (hf : Fr S w w') (hb : b ∉ S) : MapAs KR ER w' b n l := by
  have hlt := h.lt
  obtain ⟨es, ⟨es', c, h1, h2⟩, r⟩ := h
  exact ⟨es, ⟨es', c, (hf.block b hlt hb).trans h1, h2⟩, r⟩
omit [DecidableEq K] in
theorem MapAs.len (h : MapAs KR ER w b n l) : l.length ≤ n := by
  obtain ⟨es, h, hp, _⟩ := h
  have := h.size_le
  rw [Maps.size_eq, hp.length_eq, List.length_map] at this
  exact this
theorem filter_of (hp : es.Perm (l.map (litOf KR ER))) (hok : ∀ p ∈ l, KR.ok p.1 ∧ ER.ok p.2) {k : K} (hk : KR.ok k) : (es.filter (ChangeMaps.notKey (KR.kl k))).Perm ((alDel l k).map (litOf KR ER)) := by
  refine (hp.filter _).trans ?_
  rw [List.filter_map]
  unfold alDel
  rw [List.filter_congr (q := fun p => !decide (p.1 = k)) fun p hm => ?_]
  simp only [Function.comp, litOf, ChangeMaps.notKey]
  rw [KR.same (hok p hm).1 hk]
theorem MapAs.ofPut {k : K} {v : V} (hp : es.Perm (l.map (litOf KR ER))) (h1 : Once1 l) (hok : ∀ p ∈ l, KR.ok p.1 ∧ ER.ok p.2) (hk : KR.ok k) (hv : ER.ok v) (ho : w'.ownsMap P kt ER.R b n ((DataW.map es).put (KR.kl k) (ER.el v))) : MapAs KR ER w' b n (alPut l k v) := by
  rw [DataW.put_eq] at ho
  refine ⟨_, ho, ?_, h1.put k v, fun p hm => ?_⟩
  · unfold ChangeMaps.putKey
    exact (WideShapes.insert_perm _ _).trans ((filter_of hp hok hk).cons _)
  · rcases List.mem_cons.1 hm with rfl | hm
    · exact ⟨hk, hv⟩
    · exact hok p (List.mem_filter.1 hm).1
theorem MapAs.ofDel {k : K} (hp : es.Perm (l.map (litOf KR ER))) (h1 : Once1 l) (hok : ∀ p ∈ l, KR.ok p.1 ∧ ER.ok p.2) (hk : KR.ok k) (ho : w'.ownsMap P kt ER.R b n ((DataW.map es).del (KR.kl k))) : MapAs KR ER w' b n (alDel l k) := by
  rw [DataW.del_eq] at ho
  exact ⟨_, ho, filter_of hp hok hk, h1.del k, fun p hm => hok p (List.mem_filter.1 hm).1⟩
/-- v, ok := m[k] -/
theorem MapAs.lookOk {t e : TypeId} (h : MapAs KR ER w b n l) (ht : P.underlying t = some (.map kt e)) {zv : V} (hz : (zeroValue e).run P w = .ok (ER.ev zv) w) (hzk : ER.ok zv) {k : K} (hk : KR.ok k) :
    (Instr.lookup t (.map (some b)) (KR.kv k) true).run P w = .ok (.tuple #[ER.ev ((alLook l k).getD zv), .bool (alLook l k).isSome]) w := by
  obtain ⟨es, ho, hp, h1, hok⟩ := h
  obtain ⟨v, ps, hr, hv⟩ := ho.look_ok KR.law ht hz (ER.made zv hzk) (KR.key k hk)
  rw [has_of hp hok hk] at hr
  cases hl : alLook l k with
  | none =>
    rw [hl] at hr
    have hno : Maps.has (.map es) (KR.kl k) = false := by rw [has_of hp hok hk, hl]; rfl
    rw [Maps.atKey_of_not_has hno] at hv
    rw [ER.inv v zv ps hzk hv] at hr
    exact hr
  | some u =>
    rw [hl] at hr
    rw [atKey_of hp h1 hok hk hl] at hv
    rw [ER.inv v u ps (hok _ (alLook_mem hl)).2 hv] at hr
    exact hr
/-- v := m[k] -/
theorem MapAs.look {t e : TypeId} (h : MapAs KR ER w b n l) (ht : P.underlying t = some (.map kt e)) {zv : V} (hz : (zeroValue e).run P w = .ok (ER.ev zv) w) (hzk : ER.ok zv) {k : K} (hk : KR.ok k) :
    (Instr.lookup t (.map (some b)) (KR.kv k) false).run P w = .ok (ER.ev ((alLook l k).getD zv)) w := by
  obtain ⟨es, ho, hp, h1, hok⟩ := h
  obtain ⟨v, ps, hr, hv⟩ := ho.lookup KR.law ht hz (ER.made zv hzk) (KR.key k hk)
  cases hl : alLook l k with
  | none =>
    have hno : Maps.has (.map es) (KR.kl k) = false := by rw [has_of hp hok hk, hl]; rfl
    rw [Maps.atKey_of_not_has hno] at hv
    rw [ER.inv v zv ps hzk hv] at hr
    exact hr
  | some u =>
    rw [atKey_of hp h1 hok hk hl] at hv
    rw [ER.inv v u ps (hok _ (alLook_mem hl)).2 hv] at hr
    exact hr
omit [DecidableEq K] in
/-- len(m) -/
theorem MapAs.lenRun {t e : TypeId} (h : MapAs KR ER w b n l) (ht : P.underlying t = some (.map kt e)) (ty : TypeId) : (Builtin.len_ #[t] ty #[.map (some b)]).run P w = .ok (.int .i64 (l.length : Int)) w := by
  obtain ⟨es, ho, hp, _⟩ := h
  have := ho.len ht ty
  rwa [Maps.size_eq, hp.length_eq, List.length_map] at this
end

section
variable {P : Program} {K V : Type} [DecidableEq K] {kt : TypeId} {KR : KeyRep P K kt} {ER : ElRep V} {w : World} {ops : Array Oper} {rest : List Oper} {o : Oper} {a : Act} {Q : Exit → Act → World → Prop}
/-- m[k] = v, at the operation -/
theorem wpList_map_put (hg : o.guard = none) (m x v : Operand) (t e : TypeId) (hop : o.op = Op.mapUpdate t m x v) (ht : P.underlying t = some (.map kt e)) (b n : Nat) (l : List (K × V)) (hm : a.eval m = .map (some b)) (hM : MapAs KR ER w b n l) (hn : n < maxLen)
    (k : K) (hk : KR.ok k) (hx : a.eval x = KR.kv k) (u : V) (hu : ER.ok u) (hv : a.eval v = ER.ev u)
    (hK : ∀ w', MapAs KR ER w' b (n + 1) (alPut l k u) → w.grownBy w' (some b) → wpList P ops Q rest (a.put o.dst undef) w') : wpList P ops Q (o :: rest) a w := by
  obtain ⟨es, ho, hp, h1, hok⟩ := hM
  refine wpList_mapUpdate_own w hg m x v t hop kt e KR.law ht ER.R b n _ hm ho hn _ _ (KR.kl k) hx hv (KR.key k hk) _ [] (ER.made u hu) ?_
  intro w' ho' hgr
  exact hK w' (MapAs.ofPut hp h1 hok hk hu ho') hgr
/-- delete(m, k), at the operation -/
theorem wpList_map_del (hg : o.guard = none) (m x : Operand) (t e : TypeId) (hop : o.op = Op.call { callee := Callee.builtin Builtin.delete, args := #[m, x], argTypes := #[t, kt] }) (ht : P.underlying t = some (.map kt e)) (b n : Nat) (l : List (K × V)) (hm : a.eval m = .map (some b)) (hM : MapAs KR ER w b n l)
    (k : K) (hk : KR.ok k) (hx : a.eval x = KR.kv k)
    (hK : ∀ w', MapAs KR ER w' b n (alDel l k) → w.grownBy w' (some b) → wpList P ops Q rest (a.put o.dst (.tuple #[])) w') : wpList P ops Q (o :: rest) a w := by
  obtain ⟨es, ho, hp, h1, hok⟩ := hM
  refine wpList_delete_own w hg m x _ _ hop e KR.law ht ER.R b n _ hm ho _ (KR.kl k) hx (KR.key k hk) ?_
  intro w' ho' htr
  exact hK w' (MapAs.ofDel hp h1 hok hk ho') htr.grown
end
end Go.Proofs.YtkhjhojmhllkaaaGreatDoor
/- MAPS, BY LISTS OF WHAT THEY HOLD: to range over them. -/
namespace Go.Proofs.YtkhjhojmhllkaaaGreatDoor
open Go.RowKit Go.Maps
open Sc

section
variable {P : Program} {K V : Type} [DecidableEq K] {kt : TypeId} (KR : KeyRep P K kt) (ER : ElRep V)
/-- block r is a walk through the map of block b, which holds what l lists; what rem lists is still to come -/
def RangesAs (w : World) (b r n : Nat) (l rem : List (K × V)) : Prop :=
  ∃ es left cnt, w.ranges P kt ER.R b r n (.map es) left cnt ∧ es.Perm (l.map (litOf KR ER)) ∧ Once1 l ∧ (∀ p ∈ l, KR.ok p.1 ∧ ER.ok p.2) ∧ Once1 rem ∧ (∀ p ∈ rem, p ∈ l) ∧ ∀ k, KR.ok k → left (KR.kl k) = (alLook rem k).isSome
variable {KR ER} {w w' : World} {b r n : Nat} {l rem : List (K × V)}
theorem alLook_del {k j : K} : alLook (alDel rem k) j = if j = k then none else alLook rem j := by
  by_cases e : j = k
  · subst e
    rw [if_pos rfl, alLook_none]
    intro p hp
    have := (List.mem_filter.1 hp).2
    simpa using this
  · rw [if_neg e]
    unfold alLook alDel
    congr 1
    rw [List.find?_filter]
    congr 1
    funext p
    by_cases h : p.1 = j
    · simp [h, e]
    · simp [h]
theorem RangesAs.owns (h : RangesAs KR ER w b r n l rem) : MapAs KR ER w b n l := by
  obtain ⟨es, left, cnt, h1, h2, h3, h4, _⟩ := h
  exact ⟨es, h1.owns, h2, h3, h4⟩
theorem RangesAs.ne (h : RangesAs KR ER w b r n l rem) : r ≠ b := by obtain ⟨_, _, _, h1, _⟩ := h; exact h1.ne
theorem RangesAs.lt (h : RangesAs KR ER w b r n l rem) : r < w.heap.size := by obtain ⟨_, _, _, h1, _⟩ := h; exact h1.lt
theorem RangesAs.fr {S : List Nat} (h : RangesAs KR ER w b r n l rem) (hf : Fr S w w') (hb : b ∉ S) (hr : r ∉ S) : RangesAs KR ER w' b r n l rem ∧ w'.rangeLeft b r = w.rangeLeft b r := by
  have hlb := h.owns.lt
  have hlr := h.lt
  obtain ⟨es, left, cnt, h1, h2⟩ := h
  have h1' : w'.ranges P kt ER.R b r n (.map es) left cnt := by
    unfold World.ranges at h1 ⊢
    rw [hf.block b hlb hb, hf.block r hlr hr]
    exact h1
  exact ⟨⟨es, left, cnt, h1', h2⟩, by rw [h1'.left_eq, h1.left_eq]⟩
theorem RangesAs.mem_of (h : RangesAs KR ER w b r n l rem) {k : K} {v : V} (hr : alLook rem k = some v) : (k, v) ∈ l := by
  obtain ⟨_, _, _, _, _, _, _, _, h6, _⟩ := h
  exact h6 _ (alLook_mem hr)
end
section
variable {P : Program} {K V : Type} [DecidableEq K] {kt : TypeId} {KR : KeyRep P K kt} {ER : ElRep V} {w : World} {ops : Array Oper} {rest : List Oper} {o : Oper} {a : Act} {Q : Exit → Act → World → Prop}
/-- range m, at the operation -/
theorem wpList_map_range (hg : o.guard = none) (m : Operand) (t e : TypeId) (hop : o.op = Op.range t m) (ht : P.underlying t = some (.map kt e)) (b n : Nat) (l : List (K × V)) (hm : a.eval m = .map (some b)) (hM : MapAs KR ER w b n l)
    (hK : ∀ w', RangesAs KR ER w' b w.heap.size n l l → w.grownBy w' none → w'.heap.size = w.heap.size + 1 → wpList P ops Q rest (a.put o.dst (.pointer (some ⟨w.heap.size, 0, none⟩))) w') : wpList P ops Q (o :: rest) a w := by
  obtain ⟨es, ho, hp, h1, hok⟩ := hM
  refine wpList_range_own w hg m t hop kt e KR.law ht ER.R b n _ hm ho ?_
  intro w' hrg hgr hsz
  exact hK w' ⟨es, _, _, hrg, hp, h1, hok, h1, fun p hp => hp, fun k hk => has_of hp hok hk⟩ hgr hsz
/-- the step, at the operation -/
theorem wpList_map_next (hg : o.guard = none) (it : Operand) (hop : o.op = Op.next it false) (b r n : Nat) (l rem : List (K × V)) (hit : a.eval it = .pointer (some ⟨r, 0, none⟩)) (hM : RangesAs KR ER w b r n l rem)
    (hDone : rem = [] → wpList P ops Q rest (a.put o.dst (.tuple #[.bool false])) w)
    (hMore : ∀ (k : K) (v : V) (w' : World), (k, v) ∈ rem → RangesAs KR ER w' b r n l (alDel rem k) → w'.rangeLeft b r < w.rangeLeft b r → w.grownBy w' (some r) → w'.heap.size = w.heap.size →
      (Instr.entry (.pointer (some ⟨r, 0, none⟩))).run P w' = .ok (.tuple #[KR.kv k, ER.ev v]) w' → wpList P ops Q rest (a.put o.dst (.tuple #[.bool true, KR.kv k, ER.ev v])) w') : wpList P ops Q (o :: rest) a w := by
  obtain ⟨es, left, cnt, hrg, hp, h1, hok, h5, h6, h7⟩ := hM
  refine wpList_next_ranges (α := Value) (β := Value) w hg it hop kt KR.law ER.R id id (fun key _ _ => ⟨key, rfl⟩) (fun v _ _ => ⟨v, rfl⟩) b r n _ left cnt hit hrg ?_ ?_
  · intro _ hl
    refine hDone ?_
    cases hr : rem with
    | nil => rfl
    | cons p q =>
      have hm : (p.1, p.2) ∈ rem := by rw [hr]; exact List.mem_cons_self
      have := h7 p.1 (hok _ (h6 _ hm)).1
      rw [hl, alLook_of h5 hm] at this
      cases this
  · intro key val kl y w' cnt' hkey hlk hv hat hrg' hlt hgr hsz hen
    have hhas : Maps.has (.map es) kl = true := Maps.has_true_of_atKey hat
    rw [Maps.has_eq, List.any_eq_true] at hhas
    obtain ⟨p, hpm, hps⟩ := hhas
    obtain ⟨q, hq, rfl⟩ := List.mem_map.1 (hp.mem_iff.1 hpm)
    obtain ⟨k, v⟩ := q
    have hkk := (hok _ hq).1
    have hvk := (hok _ hq).2
    have ekl : KR.kl k = kl := WideAt.sameKey_eq hps
    subst ekl
    have ek : key = KR.kv k := KR.law.inj hkey (KR.key k hkk)
    have ey := hat (ER.el v)
    rw [atKey_of hp h1 hok hkk (alLook_of h1 hq)] at ey
    have ev : val = ER.ev v := ER.inv val v y.2 hvk (by rw [ey]; exact hv)
    have hmem : (k, v) ∈ rem := by
      have := h7 k hkk
      rw [hlk] at this
      cases hr : alLook rem k with
      | none => rw [hr] at this; cases this
      | some u =>
        have e2 := h1.same (h6 _ (alLook_mem hr)) hq rfl
        rw [← e2]; exact alLook_mem hr
    subst ek ev
    refine hMore k v w' hmem ⟨es, _, cnt', hrg', hp, h1, hok, h5.del k, fun p hp => h6 p (List.mem_filter.1 hp).1, fun j hj => ?_⟩ (by rw [hrg'.left_eq, hrg.left_eq]; exact hlt) hgr hsz hen
    rw [h7 j hj, KR.same hj hkk, alLook_del]
    by_cases e : j = k
    · simp [e]
    · simp [e]
end
end Go.Proofs.YtkhjhojmhllkaaaGreatDoor
