import Derived.Test.YtejiankgafjppaaGreatDoorC30
import Derived.Laws.BitsAllLaws
import Derived.Test.YtejiankgafjppaaGreatDoorC04
import Derived.Test.YtejiankgafjppaaGreatDoorC07
import Derived.Test.YtejiankgafjppaaGreatDoorC02
import Derived.Test.YtejiankgafjppaaGreatDoorC03
/- LEDGERS: all: a walk over a log's walk. -/
namespace Go.Proofs.YtejiankgafjppaaGreatDoor
open Go.RowKit Go.Shelf
open Sc

theorem yield_wide {m m' l : Nat} {P : Program} {args : Array Value} {W : World} {R : Ending → World → Prop} (h : YieldAt Fence.wide m P l args W R) : YieldAt Fence.wide m' P l args W R := by
  obtain ⟨fn, tmps, assign, body, hy, h1, h2⟩ := h
  exact ⟨fn, tmps, assign, body, hy, h1, fun c cs _ => h2 c cs (by intro d hd; cases hd)⟩
set_option maxRecDepth 100000 in
set_option maxHeartbeats 2000000 in
theorem all1P_some (n : Nat) (hn : 1 ≤ n) (l Bn lp g cap : Nat) (rs : List Rec) (hlen : rs.length ≤ 67108864) (J : List Rec → World → Prop) (W : World)
    (hJ : ∀ s A B, J s A → Below W.heap.size A B → J s B)
    (hY : ∀ pre x W1, J pre W1 → W.heap.size ≤ W1.heap.size → pre ++ [x] <+: rs → YieldAt Fence.wide (n - 1) Tryz.prog l #[recA x] W1 fun e W' => e = .returned (.bool true) ∧ J (pre ++ [x]) W' ∧ Keep W.heap.size [g] W1 W')
    (hgl : g < W.heap.size) (hBn : W.cell? ⟨Bn, 0, none⟩ = some (.pointer (some ⟨lp, 0, none⟩))) (h3 : W.cell? ⟨lp, 3, none⟩ = some (.slice (some ⟨g, 0, none⟩) rs.length cap)) (hR : RecsIn W g rs) (h0 : J [] W) :
    CallsIn Fence.wide n Tryz.prog 126 #[.func (.yield l) #[] #[], .pointer (some ⟨Bn, 0, none⟩)] W fun e W' => (∃ v, e = .returned v) ∧ J rs W' := by
  obtain ⟨m, hm⟩ : ∃ m, m = rs.length := ⟨_, rfl⟩
  rw [← hm] at h3 hlen
  have HM : Hid (m = rs.length) := hm
  have hro : Fence.wide.round = none := rfl
  clear hm
  refine callsIn_of_wp Tryz.func126 rfl trivial ?_ hro
  simp only [Tryz.ntmps126, List.size_toArray, List.length_cons, List.length_nil, Nat.reduceAdd, Nat.reduceSub, Array.replicate_succ, Array.replicate_zero, List.push_toArray, List.append_toArray, List.nil_append, List.cons_append]
  gi_wp2
  gi_loopw [10] (fun i wr => ∃ k : Nat, k ≤ m ∧ i = .int .i64 k ∧ Hid (J (rs.take k) wr ∧ KpS [g] W wr))
    (fun i _ => m - (intOf i).toNat)
  case atStart => exact ⟨0, Nat.zero_le _, rfl, by simpa using h0, KpS.refl _⟩
  case round =>
    obtain ⟨k, hk, rfl, hQ⟩ := hrel
    by_cases hlt : k < m
    · obtain ⟨r, hr⟩ : ∃ r, rs[k]? = some r := ⟨_, List.getElem?_eq_getElem (by have := HM.out; omega)⟩
      have hbg := hQ.out.2.same g (by simp) hgl
      obtain ⟨q1, q2, q3⟩ := hR k r hr
      have r1 := (World.cell?_of_block (a := ⟨g, k * 3, none⟩) hbg).trans q1
      have r2 := (World.cell?_of_block (a := ⟨g, k * 3 + 1, none⟩) hbg).trans q2
      have r3 := (World.cell?_of_block (a := ⟨g, k * 3 + 2, none⟩) hbg).trans q3
      obtain ⟨W2, hW2⟩ : ∃ W2, W2 = wr.alloc (.cells #[.int .u64 (r.lsn : Int), .int .u8 (r.kind : Int), .string (str r.pay)] 44) := ⟨_, rfl⟩
      have hb2 : Below W.heap.size wr W2 := by rw [hW2]; exact (Below.refl _ wr).alloc hQ.out.2.size _
      have hJ2 := hJ _ _ _ hQ.out.1 hb2
      have hk2 : KpS [g] W W2 := hQ.out.2.trans (KpS.below hb2 (by simp; omega))
      obtain ⟨fn, tmps, assign, body, hy, hRR⟩ := hY _ r W2 hJ2 (Nat.le_trans hQ.out.2.size hb2.size) (by rw [← take_succ_at hr]; exact List.take_prefix _ _)
      subst hW2
      clear q1 q2 q3 hbg
      gi_wp2
      refine hRR.mono ?_
      rintro e W3 ⟨rfl, hJ3, hk3⟩
      have HN : Hid (J (rs.take (k + 1)) W3 ∧ KpS [g] W W3) := ⟨by rw [take_succ_at hr]; exact hJ3, hk2.trans ⟨hk3.size, hk3.same⟩⟩
      clear hJ3 hk3
      gi_wp2
      go_roundw
      case rel => exact ⟨k + 1, by omega, by simp, HN.out⟩
      case measure => simp [intOf]; omega
    · obtain rfl : k = m := by omega
      gi_wp2
      go_end0
      refine ⟨⟨_, rfl⟩, ?_⟩
      have := hQ.out.1
      rwa [HM.out, List.take_length] at this
theorem all1P (n : Nat) (hn : 1 ≤ n) (l Bn lp : Nat) (rv : Value) (rs : List Rec) (hlen : rs.length ≤ 67108864) (W : World) (hc : W.cell? ⟨Bn, 0, none⟩ = some (.pointer (some ⟨lp, 0, none⟩))) (hL : LogRecs W lp rv rs) :
    SeqP Fence.wide n Tryz.prog 126 #[.pointer (some ⟨Bn, 0, none⟩)] (fun x : Rec => #[recA x]) rs (rowsOf rv) l W := fun J hJ hY h0 => by
  have h3 := hL.cell
  rcases hL.recs with ⟨rfl, rfl⟩ | ⟨g, cap, rfl, hg, hr⟩
  · exact all1_nil Fence.wide n trivial rfl l Bn lp J W hc h3 h0
  · exact all1P_some n hn l Bn lp g cap rs hlen J W hJ hY hg hc h3 hr h0
theorem andNot128 {k : Nat} (h : k < 128) : bits .andNot .u8 (k : Int) 128 = (k : Int) := by
  have := u8_andNot_nat k 128 (by omega) (by omega)
  rw [show ((128 : Nat) : Int) = 128 from rfl] at this
  rw [this]
  congr 1
  have : k &&& (2 ^ 7 - 1) = k % 2 ^ 7 := Nat.and_two_pow_sub_one_eq_mod k 7
  simpa [Nat.mod_eq_of_lt h] using this
set_option maxHeartbeats 1000000 in
theorem ledAll_fn (n : Nat) (gp : Nat) (w : World) :
    CallsIn Fence.wide n Tryz.prog 235 #[.pointer (some ⟨gp, 0, none⟩)] w fun e w' => e = .returned (.func (.func 286) #[] #[.pointer (some ⟨w.heap.size, 0, none⟩)]) ∧ w' = w.alloc (.cells #[.pointer (some ⟨gp, 0, none⟩)] 180) := by
  refine callsIn_of_wp Tryz.func235 rfl trivial ?_ rfl
  simp only [Tryz.ntmps235, List.size_toArray, List.length_cons, List.length_nil, Nat.reduceAdd, Nat.reduceSub, Array.replicate_succ, Array.replicate_zero, List.push_toArray, List.append_toArray, List.nil_append, List.cons_append]
  gi_wp2
  go_ret
  exact ⟨rfl, rfl⟩
set_option maxRecDepth 100000 in
set_option maxHeartbeats 4000000 in
theorem ledAll_in (n : Nat) (hn : 7 ≤ n) (m l Bl gp lp : Nat) (rv : Value) (rs : List Rec) (hlen : rs.length ≤ 67108864) (hpl : PlainR rs) (W : World) (J : List Rec → World → Prop)
    (hJ : ∀ s A B, J s A → Below W.heap.size A B → J s B)
    (hY : ∀ pre x W1, J pre W1 → W.heap.size ≤ W1.heap.size → pre ++ [x] <+: rs → YieldAt Fence.wide m Tryz.prog l #[.int .u8 (x.kind : Int), .string (str x.pay)] W1 fun e W' =>
      e = .returned (.bool true) ∧ J (pre ++ [x]) W' ∧ Keep W.heap.size (rowsOf rv) W1 W')
    (hBl : W.cell? ⟨Bl, 0, none⟩ = some (.pointer (some ⟨gp, 0, none⟩))) (hg : W.cell? ⟨gp, 0, none⟩ = some (.pointer (some ⟨lp, 0, none⟩))) (hL : LogRecs W lp rv rs) (h0 : J [] W) :
    CallsIn Fence.wide n Tryz.prog 286 #[.func (.yield l) #[] #[], .pointer (some ⟨Bl, 0, none⟩)] W fun e W' => (∃ v, e = .returned v) ∧ J rs W' := by
  have hro : Fence.wide.round = none := rfl
  have h1 : 1 ≤ n := by omega
  have hf1 : Fence.wide.fn 233 := trivial
  have hf2 : Fence.wide.fn 58 := trivial
  have hf3 : Fence.wide.fn 126 := trivial
  have hBll : Bl < W.heap.size := World.block_lt_of_cell? W ⟨Bl, 0, none⟩ hBl
  have hgl : gp < W.heap.size := World.block_lt_of_cell? W ⟨gp, 0, none⟩ hg
  obtain ⟨W1, hW1⟩ : ∃ W1, W1 = W.alloc (.cells #[.func (.yield l) #[] #[]] 368) := ⟨_, rfl⟩
  have hB1 : Below W.heap.size W W1 := by rw [hW1]; exact (Below.refl _ W).alloc (Nat.le_refl _) _
  have bY : Boxed W1 W.heap.size 368 (.func (.yield l) #[] #[]) := by rw [hW1]; exact Boxed.new W _ _
  have hs1 : W1.heap.size = W.heap.size + 1 := by rw [hW1]; simp
  have c0 : W1.cell? ⟨Bl, 0, none⟩ = some (.pointer (some ⟨gp, 0, none⟩)) := (hB1.cell (p := ⟨Bl, 0, none⟩) hBll).trans hBl
  have cg : W1.cell? ⟨gp, 0, none⟩ = some (.pointer (some ⟨lp, 0, none⟩)) := (hB1.cell (p := ⟨gp, 0, none⟩) hgl).trans hg
  have hcp := lastCp_in (n - 1) (by omega) gp lp rv rs hlen hpl W1 cg (hL.below hB1)
  rw [hW1] at c0
  refine callsIn_of_wp_marks Tryz.func286 rfl trivial ?_ hro
  simp only [Tryz.ntmps286, List.size_toArray, List.length_cons, List.length_nil, Nat.reduceAdd, Nat.reduceSub, Array.replicate_succ, Array.replicate_zero, List.push_toArray, List.append_toArray, List.nil_append, List.cons_append]
  gi_wp2_with fail
  rw [← hW1]
  refine hcp.mono ?_
  clear hcp c0 hW1
  rintro e w2 ⟨rfl, hb2⟩
  have hB2 : Below W.heap.size W w2 := hB1.trans (hb2.mono (by omega))
  have bY2 : Boxed w2 W.heap.size 368 (.func (.yield l) #[] #[]) := (hb2.block W.heap.size (by omega)).trans bY
  obtain ⟨W4, hW4⟩ : ∃ W4, W4 = (w2.alloc (.cells #[.int .u64 0] 34)).alloc (.cells #[.int .u64 0] 34) := ⟨_, rfl⟩
  have hs2 := hb2.size
  have hs4 : W4.heap.size = w2.heap.size + 2 := by rw [hW4]; simp
  have hB4 : Below W.heap.size W W4 := by rw [hW4]; exact (hB2.alloc (by omega) _).alloc (by simp; omega) _
  have c4 : W4.cell? ⟨Bl, 0, none⟩ = some (.pointer (some ⟨gp, 0, none⟩)) := (hB4.cell (p := ⟨Bl, 0, none⟩) hBll).trans hBl
  have d4 : W4.cell? ⟨gp, 0, none⟩ = some (.pointer (some ⟨lp, 0, none⟩)) := (hB4.cell (p := ⟨gp, 0, none⟩) hgl).trans hg
  have bY4 : Boxed W4 W.heap.size 368 (.func (.yield l) #[] #[]) := by rw [hW4]; exact (bY2.alloc _).alloc _
  have e3 : Boxed W4 w2.heap.size 34 (.int .u64 0) := by rw [hW4]; exact (Boxed.new w2 _ _).alloc _
  have e4 : Boxed W4 (w2.heap.size + 1) 34 (.int .u64 0) := by
    have := Boxed.new (w2.alloc (.cells #[.int .u64 0] 34)) 34 (.int .u64 0)
    rw [World.size_alloc, ← hW4] at this
    exact this
  rw [hW4] at c4 d4
  gi_wp2_with (gi_at_call 58; refine (all_in Fence.wide (n - 1) hf2 hro _ _).mono ?_; rintro e w' ⟨rfl, rfl⟩)
  rw [← hW4]
  have bA : Boxed (W4.alloc (.cells #[.pointer (some ⟨lp, 0, none⟩)] 89)) (w2.heap.size + 1 + 1) 89 (.pointer (some ⟨lp, 0, none⟩)) := by
    have := Boxed.new W4 89 (.pointer (some ⟨lp, 0, none⟩))
    rwa [hs4] at this
  have bY5 := bY4.alloc (.cells #[.pointer (some ⟨lp, 0, none⟩)] 89)
  have f3 := e3.alloc (.cells #[.pointer (some ⟨lp, 0, none⟩)] 89)
  have f4 := e4.alloc (.cells #[.pointer (some ⟨lp, 0, none⟩)] 89)
  have hB5 : Below W.heap.size W (W4.alloc (.cells #[.pointer (some ⟨lp, 0, none⟩)] 89)) := hB4.alloc (by omega) _
  have hs5 : (W4.alloc (.cells #[.pointer (some ⟨lp, 0, none⟩)] 89)).heap.size = w2.heap.size + 3 := by rw [World.size_alloc, hs4]
  obtain ⟨W0, hW0⟩ : ∃ W0, W0 = W4.alloc (.cells #[.pointer (some ⟨lp, 0, none⟩)] 89) := ⟨_, rfl⟩
  rw [← hW0] at bA bY5 f3 f4 hB5 hs5 ⊢
  clear hW4 hW0 bY bY2 bY4 e3 e4 c4 d4 hB4 hB1 hB2 cg
  have hL0 := hL.below hB5
  refine wpIn_range_mine hro h1 (gf := 126) (lb := #[.pointer (some ⟨w2.heap.size + 1 + 1, 0, none⟩)]) rfl hf3 (enters_of Tryz.func126 (by kernel_rfl) rfl)
    (encs := fun x : Rec => #[recA x]) (rs := rs) (S := rowsOf rv) (fun _ => rfl) hL0.rows
    (fun Wx hbx _ => all1P (n - 1) (by omega) _ (w2.heap.size + 1 + 1) lp rv rs hlen Wx ((hbx.cell (p := ⟨w2.heap.size + 1 + 1, 0, none⟩) (by show w2.heap.size + 1 + 1 < _; omega)).trans bA.cell) (hL0.below hbx))
    (fun pre A => (Boxed A W.heap.size 368 (.func (.yield l) #[] #[]) ∧ Boxed A w2.heap.size 34 (.int .u64 0) ∧ Boxed A (w2.heap.size + 1) 34 (.int .u64 0)) ∧ J pre A)
    (fun Wx hbx => ⟨⟨(hbx.block _ (by omega)).trans bY5, (hbx.block _ (by omega)).trans f3, (hbx.block _ (by omega)).trans f4⟩, hJ _ _ _ h0 (hB5.trans (hbx.mono (by omega)))⟩)
    (fun s A B hs hb => ⟨⟨(hb.block _ (by omega)).trans hs.1.1, (hb.block _ (by omega)).trans hs.1.2.1, (hb.block _ (by omega)).trans hs.1.2.2⟩, hJ _ _ _ hs.2 (hb.mono (by omega))⟩)
    (fun s A r hs => ⟨⟨(World.putObj_heap_other (by omega)).trans hs.1.1, (World.putObj_heap_other (by omega)).trans hs.1.2.1, (World.putObj_heap_other (by omega)).trans hs.1.2.2⟩, hJ _ _ _ hs.2 ⟨rfl, rfl, rfl, by rw [size_put0]; exact Nat.le_refl _, fun k hk => World.putObj_heap_other (by omega)⟩⟩)
    (fun x a' A => ∃ Bx, W0.heap.size + 2 ≤ Bx ∧ A.heap[Bx]? = some (.cells #[.int .u64 (x.lsn : Int), .int .u8 (x.kind : Int), .string (str x.pay)] 44 (0, 0)) ∧ a' = { tmps := #[.func (.yield l) #[] #[], .pointer (some ⟨Bl, 0, none⟩), .pointer (some ⟨W.heap.size, 0, none⟩), .pointer (some ⟨w2.heap.size, 0, none⟩), .pointer (some ⟨w2.heap.size + 1, 0, none⟩), .pointer (some ⟨Bx, 0, none⟩), undef, undef, .tuple #[.int .u64 0, .int .u64 0], .pointer (some ⟨gp, 0, none⟩), .tuple #[.int .u64 0, .int .u64 0], .int .u64 0, .int .u64 0, .pointer (some ⟨gp, 0, none⟩), .pointer (some ⟨gp, 0, none⟩), .pointer (some ⟨gp, 0, none⟩), .pointer (some ⟨lp, 0, none⟩), .func (.func 126) #[] #[.pointer (some ⟨w2.heap.size + 1 + 1, 0, none⟩)], recA x, undef, undef, undef, undef, undef, undef, undef, undef, undef, undef, undef, undef, undef, undef, undef, undef, undef, undef, undef, undef, undef, undef, undef, undef, undef, undef, undef, undef, undef, undef, undef, undef, undef], defers := [] })
    (fun x a' A r hs => by obtain ⟨Bx, g1, g2, g3⟩ := hs; exact ⟨Bx, g1, (World.putObj_heap_other (by omega)).trans g2, g3⟩)
    ?assign ?body ?done
  case assign =>
    have hsem := @Oper.semAt_some
    rintro pre x A K ⟨⟨y1, y2, y3⟩, hj⟩ hsA hpre hK
    gi_wp2
    exact hK _ _ ⟨⟨y1.alloc _, y2.alloc _, y3.alloc _⟩, hJ _ _ _ hj ((Below.refl _ A).alloc (by omega) _)⟩ (Keep.alloc _ _ _ _) ⟨A.heap.size, hsA, World.alloc_heap_new A _, rfl⟩
  case body =>
    have hsem := @Oper.semAt_some
    rintro pre x a' A ⟨⟨y1, y2, y3⟩, hj⟩ hsA ⟨Bx, hBx, bX, rfl⟩ hpre
    have x0 := cell_blk0 bX 0
    have x1 := cell_blk0 bX 1
    have x2 := cell_blk0 bX 2
    simp at x0 x1 x2
    have v1 := y1.cell
    have v2 := y2.cell
    have v3 := y3.cell
    obtain ⟨hk, hl1⟩ := hpl x (hpre.subset (by simp))
    have k1 : (x.kind : Int) < 128 := by omega
    have k2 : (0 : Int) < (x.lsn : Int) := by omega
    have k3 : ¬ (x.lsn : Int) < 0 := by omega
    have k4 := andNot128 hk
    have h3 : 1 ≤ n - 1 - 1 := by omega
    obtain ⟨fn, tmps, assign, body, hy, hRR⟩ := yield_wide (m' := n - 1 - 1 - 1) (hY pre x A hj (by omega) hpre)
    gi_wp2
    refine hRR.mono ?_
    rintro e W3 ⟨rfl, hJ3, hk3⟩
    have HN : Hid (J (pre ++ [x]) W3 ∧ Keep W.heap.size (rowsOf rv) A W3) := ⟨hJ3, hk3⟩
    clear hJ3 hk3
    gi_wp2
    have hk3 := HN.out.2
    refine ⟨⟨⟨(hk3.high _ (by omega) (by omega)).trans y1, (hk3.high _ (by omega) (by omega)).trans y2, (hk3.high _ (by omega) (by omega)).trans y3⟩, HN.out.1⟩, hk3.mono (by omega)⟩
  case done =>
    rintro A ⟨⟨y1, y2, y3⟩, hj⟩ hsA hK
    gi_wp2
    refine ⟨by simp, .inl ⟨_, _, rfl, run_takeDeferred hK, ?_⟩⟩
    exact ⟨_, results_none rfl _ _ _, ⟨_, rfl⟩, hJ _ _ _ hj ⟨rfl, rfl, rfl, by rw [size_put0]; exact Nat.le_refl _, fun k hk => World.putObj_heap_other (by omega)⟩⟩
theorem ledAllP (n : Nat) (hn : 7 ≤ n) (l Bl gp lp : Nat) (rv : Value) (rs : List Rec) (hlen : rs.length ≤ 67108864) (hpl : PlainR rs) (W : World) (hBl : W.cell? ⟨Bl, 0, none⟩ = some (.pointer (some ⟨gp, 0, none⟩))) (hg : W.cell? ⟨gp, 0, none⟩ = some (.pointer (some ⟨lp, 0, none⟩))) (hL : LogRecs W lp rv rs) :
    SeqP Fence.wide n Tryz.prog 286 #[.pointer (some ⟨Bl, 0, none⟩)] (fun x : Rec => #[.int .u8 (x.kind : Int), .string (str x.pay)]) rs (rowsOf rv) l W := fun J hJ hY h0 =>
  ledAll_in n hn (n - 1) l Bl gp lp rv rs hlen hpl W J hJ hY hBl hg hL h0
end Go.Proofs.YtejiankgafjppaaGreatDoor
/- FIELDS of a payload: FieldsOf, take, NumberOf, Text, More, Right, where all that is taken is there. -/
namespace Go.Proofs.YtejiankgafjppaaGreatDoor
open Go.RowKit
open Sc

theorem str_data0 (l : List Nat) : (str l).data = (l.map fun x => UInt8.ofNat x).toArray := by
  have aux : ∀ (l : List Nat) (r : ByteArray), ((l.map fun x : Nat => (x : Int)).foldl (fun r n => r.push (UInt8.ofNat n.toNat)) r).data = r.data ++ (l.map fun x => UInt8.ofNat x).toArray := by
    intro l
    induction l with
    | nil => intro r; simp
    | cons x l ih =>
      intro r
      rw [List.map_cons, List.foldl_cons, ih]
      simp [ByteArray.push]
  unfold str
  rw [aux]
  simp
theorem bytesOf_str0 {l : List Nat} (h : Byt l) : bytesOf (str l) = l := by
  unfold bytesOf
  rw [str_data0]
  simp only [List.map_map]
  have : ∀ (m : List Nat), Byt m → m.map (UInt8.toNat ∘ fun x => UInt8.ofNat x) = m := by
    intro m
    induction m with
    | nil => intro _; rfl
    | cons x m ih =>
      intro hb
      have hx : x < 256 := hb x (by simp)
      rw [List.map_cons, ih (fun y hy => hb y (by simp [hy]))]
      congr 1
      simp
      omega
  exact this l h
abbrev fldO (b off n cap : Nat) : Obj := .cells #[.slice (some ⟨b, off, none⟩) n cap, .bool false] 383
/-- what is left to be taken -/
def FldIn (w : World) (fp : Nat) (rest : List Nat) : Prop :=
  ∃ b off cap, w.heap[fp]? = some (fldO b off rest.length cap) ∧ RowAt w b off rest ∧ b < w.heap.size ∧ rest.length ≤ cap ∧ cap ≤ maxLen ∧ b ≠ fp ∧ Byt rest
theorem FldIn.lt {w : World} {fp : Nat} {rest : List Nat} (h : FldIn w fp rest) : fp < w.heap.size := by obtain ⟨_, _, _, h1, _⟩ := h; exact (Array.getElem?_eq_some_iff.1 h1).1
/-- its two blocks are as they were -/
theorem FldIn.keep {w w' : World} {fp : Nat} {rest : List Nat} (h : FldIn w fp rest) {n : Nat} (hf : ∀ k, n ≤ k → k < w.heap.size → w'.heap[k]? = w.heap[k]?) (hs : w.heap.size ≤ w'.heap.size) (hb : ∀ b off cap, w.heap[fp]? = some (fldO b off rest.length cap) → n ≤ b) (hn : n ≤ fp) : FldIn w' fp rest := by
  have hfp := h.lt
  obtain ⟨b, off, cap, h1, h2, h3, h4⟩ := h
  refine ⟨b, off, cap, (hf fp hn hfp).trans h1, fun i hi => ?_, by omega, h4⟩
  exact (World.cell?_of_block (a := ⟨b, off + i, none⟩) (hf b (hb b off cap h1) h3)).trans (h2 i hi)
/-- fields that lie from n on -/
structure FldAt (n : Nat) (w : World) (fp : Nat) (rest : List Nat) : Prop where
  fld : FldIn w fp rest
  low : n ≤ fp
  row : ∀ b off cap, w.heap[fp]? = some (fldO b off rest.length cap) → n ≤ b
  typ : ∀ b off cap, w.heap[fp]? = some (fldO b off rest.length cap) → ∃ c fr, w.heap[b]? = some (.cells c 5 fr)
theorem FldAt.keep {n : Nat} {w w' : World} {fp : Nat} {rest : List Nat} (h : FldAt n w fp rest) (hf : ∀ k, n ≤ k → k < w.heap.size → w'.heap[k]? = w.heap[k]?) (hs : w.heap.size ≤ w'.heap.size) : FldAt n w' fp rest := by
  have hfp := h.fld.lt
  refine ⟨h.fld.keep hf hs h.row h.low, h.low, fun b off cap hb => ?_, fun b off cap hb => ?_⟩
  · rw [hf fp h.low hfp] at hb
    exact h.row b off cap hb
  · rw [hf fp h.low hfp] at hb
    obtain ⟨c, fr, hc⟩ := h.typ b off cap hb
    exact ⟨c, fr, (hf b (h.row b off cap hb) (Array.getElem?_eq_some_iff.1 hc).1).trans hc⟩
theorem FldAt.fr {n : Nat} {S : List Nat} {w w' : World} {fp : Nat} {rest : List Nat} (h : FldAt n w fp rest) (hf : Fr S w w') (hS : ∀ k ∈ S, k < n) : FldAt n w' fp rest :=
  h.keep (fun k hk hl => hf.block k hl (fun hm => by have := hS k hm; omega)) hf.size
set_option maxRecDepth 100000 in
set_option maxHeartbeats 1000000 in
theorem fieldsOf_any (l : List Nat) (hl : Byt l) (hs : l.length ≤ 4096) (w : World) :
    Calls Tryz.prog 236 #[.string (str l)] w fun e w' => ∃ fp, e = .returned (.pointer (some ⟨fp, 0, none⟩)) ∧ FldAt w.heap.size w' fp l ∧ Fr [] w w' := by
  have hrb := run_bytes w (str l)
  have hsz : (str l).size = l.length := by rw [← bytesOf_len, bytesOf_str0 hl]
  have hrow := row_str w (str l) (grownCap w (str l).size 0 5)
  have hty : (w.drew.alloc (strO (str l) (grownCap w (str l).size 0 5))).heap[w.heap.size]? = some (strO (str l) (grownCap w (str l).size 0 5)) := heap_alloc_new w.drew _
  have hge := grownCap_ge w (str l).size 0 5
  have hle := grownCap_le_maxLen w (str l).size 0 5 (by rw [hsz]; unfold maxLen; omega)
  rw [bytesOf_str0 hl] at hrow
  obtain ⟨W, hW⟩ : ∃ W, W = w.drew.alloc (strO (str l) (grownCap w (str l).size 0 5)) := ⟨_, rfl⟩
  have hf : Fr [] w W := by rw [hW]; exact (Fr.refl [] w).drew.alloc _
  have hs1 : W.heap.size = w.heap.size + 1 := by rw [hW]; simp
  rw [← hW] at hrb hrow hty
  rw [hsz] at hrb hge hle
  obtain ⟨cap, hcap⟩ : ∃ cap, cap = grownCap w l.length 0 5 := ⟨_, rfl⟩
  rw [← hcap] at hrb hge hle
  clear hW hcap hsz
  go_enter Tryz.func236, Tryz.ntmps236
  go_wp2
  go_ret
  have hn := heap_alloc_new W (fldO w.heap.size 0 l.length cap)
  refine ⟨W.heap.size, by rw [hs1]; rfl, ⟨⟨w.heap.size, 0, cap, hn, fun i hi => ?_, by simp; omega, hge, hle, by omega, hl⟩, by omega, fun b off c hb => ?_, fun b off c hb => ?_⟩, hf.alloc _⟩
  · rw [World.cell?_alloc_lt _ _ ⟨w.heap.size, 0 + i, none⟩ (by show w.heap.size < _; omega)]
    exact hrow i hi
  · rw [hn] at hb
    cases hb
    exact Nat.le_refl _
  · rw [hn] at hb
    cases hb
    exact ⟨_, _, (Below.heap_alloc _ _ _ (by omega)).trans hty⟩
theorem RowAt.fr {w w' : World} {b off : Nat} {l : List Nat} (h : RowAt w b off l) (hb : w'.heap[b]? = w.heap[b]?) : RowAt w' b off l := fun i hi =>
  (World.cell?_of_block (a := ⟨b, off + i, none⟩) hb).trans (h i hi)
/-- what was taken -/
def Taken (n fp : Nat) (rest : List Nat) (k : Nat) (w : World) (e : Ending) (w' : World) : Prop :=
  ∃ b off, e = .returned (.slice (some ⟨b, off, none⟩) k k) ∧ RowAt w' b off (rest.take k) ∧ FldAt n w' fp (rest.drop k) ∧ Fr [fp] w w'
set_option maxRecDepth 100000 in
set_option maxHeartbeats 1000000 in
theorem ftake_any (n fp k : Nat) (rest : List Nat) (w : World) (h : FldAt n w fp rest) (hk : k ≤ rest.length) (hk2 : k ≤ 4096) :
    Calls Tryz.prog 320 #[.pointer (some ⟨fp, 0, none⟩), .int .i64 (k : Int)] w (Taken n fp rest k w) := by
  obtain ⟨⟨b, off, cap, h1, h2, h3, h4, h5, h6, h7⟩, hlow, hrow, htyp⟩ := h
  have hty := htyp b off cap h1
  have c0 := blk_cell h1 0
  have f0 := blk_free h1 0
  simp at c0
  have hnb := hrow b off cap h1
  have HH : Hid (w.heap[fp]? = some (fldO b off rest.length cap) ∧ RowAt w b off rest) := ⟨h1, h2⟩
  have hfp : fp < w.heap.size := (Array.getElem?_eq_some_iff.1 h1).1
  obtain ⟨m, hm⟩ : ∃ m, m = rest.length := ⟨_, rfl⟩
  rw [← hm] at c0 hk h4 HH
  have HM : Hid (m = rest.length) := hm
  have i1 : ¬ (m : Int) < (k : Int) := by omega
  have hsp := split_any b off m cap k w hk h4 h5
  have HTY : Hid (∃ c fr, w.heap[b]? = some (.cells c 5 fr)) := hty
  clear h1 h2 hm hrow htyp hty
  go_enter Tryz.func320, Tryz.ntmps320
  go_wp2_with fail
  refine hsp.mono ?_
  clear hsp
  rintro e w1 ⟨rfl, q, rfl⟩
  obtain ⟨off', hcut⟩ : ∃ off', cutA b off k cap = some ⟨b, off', none⟩ ∧ (k < cap → off' = off + k) := by
    unfold cutA
    by_cases hc : cap = k
    · rw [if_pos hc]; exact ⟨off, rfl, fun h => by omega⟩
    · rw [if_neg hc]; exact ⟨off + k, rfl, fun _ => rfl⟩
  obtain ⟨hcut1, hcut2⟩ := hcut
  rw [hcut1]
  have d0 : (w.drewN q).cell? ⟨fp, 0, none⟩ = some (.slice (some ⟨b, off, none⟩) m cap) := by rw [World.cell?_of_block (a := ⟨fp, 0, none⟩) (show (w.drewN q).heap[fp]? = w.heap[fp]? by rw [heap_drewN])]; exact c0
  have g0 : (w.drewN q).frozen? ⟨fp, 0, none⟩ = false := by rw [World.frozen?_of_block (a := ⟨fp, 0, none⟩) (show (w.drewN q).heap[fp]? = w.heap[fp]? by rw [heap_drewN])]; exact f0
  clear c0 f0 hcut1
  go_wp2
  go_ret
  obtain ⟨W, hW⟩ : ∃ W, W = (w.drewN q).setCell ⟨fp, 0, none⟩ (.slice (some ⟨b, off', none⟩) (m - k) (cap - k)) := ⟨_, rfl⟩
  rw [← hW]
  have hf : Fr [fp] w W := by rw [hW]; exact (frDrewN (Fr.refl [fp] w) q).setCell (.inl (by simp)) _
  have hbb : W.heap[b]? = w.heap[b]? := hf.block b h3 (by simpa using h6)
  have hbk : W.heap[fp]? = some (fldO b off' (m - k) (cap - k)) := by
    have : (w.drewN q).heap[fp]? = some (fldO b off m cap) := by rw [heap_drewN]; exact HH.out.1
    have := blk_set this 0 (.slice (some ⟨b, off', none⟩) (m - k) (cap - k))
    rw [hW]; simpa using this
  have hdl : (rest.drop k).length = m - k := by rw [List.length_drop, HM.out]
  refine ⟨b, off, rfl, fun i hi => ?_, ⟨⟨b, off', cap - k, by rw [hdl]; exact hbk, fun i hi => ?_, by have := hf.size; omega, by rw [hdl]; omega, by omega, h6, h7.drop k⟩, hlow, fun b' o' c' hb' => ?_, fun b' o' c' hb' => ?_⟩, hf⟩
  · have hi2 : i < rest.length := by rw [List.length_take] at hi; omega
    have hik : i < k := by rw [List.length_take] at hi; omega
    rw [(HH.out.2.fr hbb) i hi2]
    simp [at_, List.getElem?_take_of_lt hik]
  · rw [hdl] at hi
    have ho : off' = off + k := hcut2 (by omega)
    have hi2 : k + i < rest.length := by rw [← HM.out]; omega
    have := (HH.out.2.fr hbb) (k + i) hi2
    rw [ho, Nat.add_assoc]
    rw [this]
    simp [at_, List.getElem?_drop]
  · rw [hdl, hbk] at hb'
    cases hb'
    exact hnb
  · rw [hdl, hbk] at hb'
    cases hb'
    rw [hbb]
    exact HTY.out
set_option maxRecDepth 100000 in
set_option maxHeartbeats 1000000 in
theorem num64_any (n fp : Nat) (rest : List Nat) (w : World) (h : FldAt n w fp rest) (hk : 8 ≤ rest.length) :
    Calls Tryz.prog 287 #[.pointer (some ⟨fp, 0, none⟩)] w fun e w' => e = .returned (.int .u64 ((val (rest.take 8) : Nat) : Int)) ∧ FldAt n w' fp (rest.drop 8) ∧ Fr [fp] w w' := by
  have hb : Byt rest := by obtain ⟨_, _, _, _, _, _, _, _, _, h⟩ := h.fld; exact h
  have ht := ftake_any n fp 8 rest w h hk (by omega)
  clear h
  go_enter Tryz.func287, Tryz.ntmps287
  go_wp2_with fail
  refine (width_u64 w).mono ?_
  rintro e w1 ⟨rfl, rfl⟩
  go_wp2_with fail
  refine ht.mono ?_
  clear ht
  rintro e w2 ⟨b, off, rfl, hrow, hf2, hfr⟩
  have HF : Hid (FldAt n w2 fp (rest.drop 8) ∧ Fr [fp] w1 w2) := ⟨hf2, hfr⟩
  have hl8 : (rest.take 8).length = 8 := by rw [List.length_take]; omega
  have htn := take_u64 b off 8 8 (rest.take 8) w2 (hb.take 8) hl8 (by omega) (by omega) (by unfold maxLen; omega) hrow
  rw [List.take_take, Nat.min_self] at htn
  clear hf2 hfr hrow
  go_wp2_with fail
  refine htn.mono ?_
  clear htn
  rintro e w3 ⟨rfl, q, rfl⟩
  go_wp2
  go_ret
  exact ⟨rfl, HF.out.1.fr (frDrewN (Fr.refl [] w2) q) (by simp), frDrewN HF.out.2 q⟩
set_option maxRecDepth 100000 in
set_option maxHeartbeats 1000000 in
theorem num8_any (n fp : Nat) (rest : List Nat) (w : World) (h : FldAt n w fp rest) (hk : 1 ≤ rest.length) :
    Calls Tryz.prog 289 #[.pointer (some ⟨fp, 0, none⟩)] w fun e w' => e = .returned (.int .u8 ((val (rest.take 1) : Nat) : Int)) ∧ FldAt n w' fp (rest.drop 1) ∧ Fr [fp] w w' := by
  have hb : Byt rest := by obtain ⟨_, _, _, _, _, _, _, _, _, h⟩ := h.fld; exact h
  have ht := ftake_any n fp 1 rest w h hk (by omega)
  clear h
  go_enter Tryz.func289, Tryz.ntmps289
  go_wp2_with fail
  refine (width_u8 w).mono ?_
  rintro e w1 ⟨rfl, rfl⟩
  go_wp2_with fail
  refine ht.mono ?_
  clear ht
  rintro e w2 ⟨b, off, rfl, hrow, hf2, hfr⟩
  have HF : Hid (FldAt n w2 fp (rest.drop 1) ∧ Fr [fp] w1 w2) := ⟨hf2, hfr⟩
  have hl8 : (rest.take 1).length = 1 := by rw [List.length_take]; omega
  have htn := take_u8 b off 1 1 (rest.take 1) w2 (hb.take 1) hl8 (by omega) (by omega) (by unfold maxLen; omega) hrow
  rw [List.take_take, Nat.min_self] at htn
  clear hf2 hfr hrow
  go_wp2_with fail
  refine htn.mono ?_
  clear htn
  rintro e w3 ⟨rfl, q, rfl⟩
  go_wp2
  go_ret
  exact ⟨rfl, HF.out.1.fr (frDrewN (Fr.refl [] w2) q) (by simp), frDrewN HF.out.2 q⟩
set_option maxRecDepth 100000 in
set_option maxHeartbeats 1000000 in
theorem text_fld (n fp k : Nat) (t rest : List Nat) (w : World) (h : FldAt n w fp (k :: t ++ rest)) (hk : t.length = k) (hk2 : k < 256) :
    Calls Tryz.prog 290 #[.pointer (some ⟨fp, 0, none⟩)] w fun e w' => e = .returned (.string (str t)) ∧ FldAt n w' fp rest ∧ Fr [fp] w w' := by
  have hn := num8_any n fp (k :: t ++ rest) w h (by simp)
  have e1 : val ((k :: t ++ rest).take 1) = k := by simp [val]
  have e2 : (k :: t ++ rest).drop 1 = t ++ rest := by simp
  rw [e1, e2] at hn
  clear h e1 e2
  go_enter Tryz.func290, Tryz.ntmps290
  go_wp2_with fail
  refine hn.mono ?_
  clear hn
  rintro e w1 ⟨rfl, hf1, hfr1⟩
  have ht := ftake_any n fp k (t ++ rest) w1 hf1 (by simp; omega) (by omega)
  have e3 : (t ++ rest).take k = t := by rw [← hk]; simp
  have e4 : (t ++ rest).drop k = rest := by rw [← hk]; simp
  unfold Taken at ht
  rw [e3, e4] at ht
  have HF : Hid (Fr [fp] w w1) := hfr1
  clear hf1 hfr1 e3 e4
  have j1 : IntKind.i64.wrap (k : Int) = (k : Int) := by rw [IntKind.wrap_i64]; omega
  go_wp2_with fail
  refine ht.mono ?_
  clear ht
  rintro e w2 ⟨b, off, rfl, hrow, hf2, hfr2⟩
  have hcv := run_str w2 b off k k t hk hrow
  have H2 : Hid (FldAt n w2 fp rest ∧ Fr [fp] w w2) := ⟨hf2, HF.out.trans hfr2⟩
  clear hf2 hfr2 hrow
  go_wp2
  go_ret
  exact ⟨rfl, H2.out⟩
set_option maxHeartbeats 1000000 in
theorem more_any (n fp : Nat) (rest : List Nat) (w : World) (h : FldAt n w fp rest) :
    Calls Tryz.prog 288 #[.pointer (some ⟨fp, 0, none⟩)] w fun e w' => e = .returned (.bool (decide (0 < rest.length))) ∧ w' = w := by
  obtain ⟨⟨b, off, cap, h1, _⟩, _, _⟩ := h
  have c0 := blk_cell h1 0
  simp at c0
  clear h1
  obtain ⟨m, hm⟩ : ∃ m, m = rest.length := ⟨_, rfl⟩
  rw [← hm] at c0 ⊢
  clear hm
  go_enter Tryz.func288, Tryz.ntmps288
  go_wp2
  go_ret
  refine ⟨?_, rfl⟩
  simp
set_option maxHeartbeats 1000000 in
theorem right_any (n fp : Nat) (rest : List Nat) (w : World) (h : FldAt n w fp rest) :
    Calls Tryz.prog 291 #[.pointer (some ⟨fp, 0, none⟩)] w fun e w' => e = .returned (.bool (!decide (0 < rest.length))) ∧ w' = w := by
  have hm := more_any n fp rest w h
  obtain ⟨⟨b, off, cap, h1, _⟩, _, _⟩ := h
  have c1 := blk_cell h1 1
  simp at c1
  clear h1
  go_enter Tryz.func291, Tryz.ntmps291
  go_wp2_with fail
  refine hm.mono ?_
  rintro e w1 ⟨rfl, rfl⟩
  go_wp2
  go_ret
  exact ⟨rfl, rfl⟩
end Go.Proofs.YtejiankgafjppaaGreatDoor
