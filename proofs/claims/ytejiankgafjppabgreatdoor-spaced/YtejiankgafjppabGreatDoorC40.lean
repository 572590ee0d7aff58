import Derived.Test.YtejiankgafjppabGreatDoorC39
/- LEDGERS WITH CHECKPOINTS: all: a walk over a log's walk. (Written by mkledi.py, from LedD.) -/
namespace Go.Proofs.YtejiankgafjppabGreatDoor
open Go.RowKit Go.Shelf
open Sc

def flt (b e : Nat) (l : List Rec) : List Rec := l.filter (counts b e)
theorem flt_yes {b e : Nat} {l : List Rec} {x : Rec} (h : counts b e x = true) : flt b e (l ++ [x]) = flt b e l ++ [x] := by unfold flt; rw [List.filter_append]; simp [h]
theorem flt_no {b e : Nat} {l : List Rec} {x : Rec} (h : counts b e x = false) : flt b e (l ++ [x]) = flt b e l := by unfold flt; rw [List.filter_append]; simp [h]
theorem flt_pre {b e : Nat} {l m : List Rec} (h : l <+: m) : flt b e l <+: flt b e m := h.filter _
theorem andNot_any {k : Nat} (h : k < 256) : bits .andNot .u8 (k : Int) 128 = ((k % 128 : Nat) : Int) := by
  have := u8_andNot_nat k 128 (by omega) (by omega)
  rw [show ((128 : Nat) : Int) = 128 from rfl] at this
  rw [this]
  congr 1
  have : k &&& (2 ^ 7 - 1) = k % 2 ^ 7 := Nat.and_two_pow_sub_one_eq_mod k 7
  simpa using this
set_option maxRecDepth 100000 in
set_option maxHeartbeats 4000000 in
theorem ledAllq_in (n : Nat) (hn : 7 ≤ n) (m l Bl gp lp : Nat) (rv : Value) (rs : List Rec) (hlen : rs.length ≤ 67108864) (h256 : ∀ r ∈ rs, r.kind < 256) (W : World) (J : List Rec → World → Prop)
    (hJ : ∀ s A B, J s A → Below W.heap.size A B → J s B)
    (hY : ∀ pre x W1, J pre W1 → W.heap.size ≤ W1.heap.size → pre ++ [x] <+: counted rs → YieldAt Fence.wide m Tryz.prog l #[.int .u8 ((x.kind % 128 : Nat) : Int), .string (str x.pay)] W1 fun e W' =>
      e = .returned (.bool true) ∧ J (pre ++ [x]) W' ∧ Keep W.heap.size (rowsOf rv) W1 W')
    (hBl : W.cell? ⟨Bl, 0, none⟩ = some (.pointer (some ⟨gp, 0, none⟩))) (hg : W.cell? ⟨gp, 0, none⟩ = some (.pointer (some ⟨lp, 0, none⟩))) (hL : LogRecs W lp rv rs) (h0 : J [] W) :
    CallsIn Fence.wide n Tryz.prog 246 #[.func (.yield l) #[] #[], .pointer (some ⟨Bl, 0, none⟩)] W fun e W' => (∃ v, e = .returned v) ∧ J (counted rs) W' := by
  have hro : Fence.wide.round = none := rfl
  have h1 : 1 ≤ n := by omega
  have hf1 : Fence.wide.fn 199 := trivial
  have hf2 : Fence.wide.fn 244 := trivial
  have hf3 : Fence.wide.fn 293 := trivial
  have hBll : Bl < W.heap.size := World.block_lt_of_cell? W ⟨Bl, 0, none⟩ hBl
  have hgl : gp < W.heap.size := World.block_lt_of_cell? W ⟨gp, 0, none⟩ hg
  obtain ⟨W1, hW1⟩ : ∃ W1, W1 = W.alloc (.cells #[.func (.yield l) #[] #[]] 218) := ⟨_, rfl⟩
  have hB1 : Below W.heap.size W W1 := by rw [hW1]; exact (Below.refl _ W).alloc (Nat.le_refl _) _
  have bY : Boxed W1 W.heap.size 218 (.func (.yield l) #[] #[]) := by rw [hW1]; exact Boxed.new W _ _
  have hs1 : W1.heap.size = W.heap.size + 1 := by rw [hW1]; simp
  have c0 : W1.cell? ⟨Bl, 0, none⟩ = some (.pointer (some ⟨gp, 0, none⟩)) := (hB1.cell (p := ⟨Bl, 0, none⟩) hBll).trans hBl
  have cg : W1.cell? ⟨gp, 0, none⟩ = some (.pointer (some ⟨lp, 0, none⟩)) := (hB1.cell (p := ⟨gp, 0, none⟩) hgl).trans hg
  have hcp := lastCq_in (n - 1) (by omega) gp lp rv rs hlen W1 cg (hL.below hB1)
  have HCT : Hid (counted rs = flt (cpOf rs).2.1 (cpOf rs).2.2 rs) := rfl
  obtain ⟨cb, hcb⟩ : ∃ cb, cb = (cpOf rs).2.1 := ⟨_, rfl⟩
  obtain ⟨ce, hce⟩ : ∃ ce, ce = (cpOf rs).2.2 := ⟨_, rfl⟩
  rw [← hcb, ← hce] at hcp HCT
  clear hcb hce
  rw [hW1] at c0
  refine callsIn_of_wp_marks Tryz.func246 rfl trivial ?_ hro
  simp only [Tryz.ntmps246, List.size_toArray, List.length_cons, List.length_nil, Nat.reduceAdd, Nat.reduceSub, Array.replicate_succ, Array.replicate_zero, List.push_toArray, List.append_toArray, List.nil_append, List.cons_append]
  gi_wp2_with fail
  rw [← hW1]
  refine hcp.mono ?_
  clear hcp c0 hW1
  rintro e w2 ⟨rfl, hb2⟩
  have hB2 : Below W.heap.size W w2 := hB1.trans (hb2.mono (by omega))
  have bY2 : Boxed w2 W.heap.size 218 (.func (.yield l) #[] #[]) := (hb2.block W.heap.size (by omega)).trans bY
  obtain ⟨W4, hW4⟩ : ∃ W4, W4 = (w2.alloc (.cells #[.int .u64 (cb : Int)] 28)).alloc (.cells #[.int .u64 (ce : Int)] 28) := ⟨_, rfl⟩
  have hs2 := hb2.size
  have hs4 : W4.heap.size = w2.heap.size + 2 := by rw [hW4]; simp
  have hB4 : Below W.heap.size W W4 := by rw [hW4]; exact (hB2.alloc (by omega) _).alloc (by simp; omega) _
  have c4 : W4.cell? ⟨Bl, 0, none⟩ = some (.pointer (some ⟨gp, 0, none⟩)) := (hB4.cell (p := ⟨Bl, 0, none⟩) hBll).trans hBl
  have d4 : W4.cell? ⟨gp, 0, none⟩ = some (.pointer (some ⟨lp, 0, none⟩)) := (hB4.cell (p := ⟨gp, 0, none⟩) hgl).trans hg
  have bY4 : Boxed W4 W.heap.size 218 (.func (.yield l) #[] #[]) := by rw [hW4]; exact (bY2.alloc _).alloc _
  have e3 : Boxed W4 w2.heap.size 28 (.int .u64 (cb : Int)) := by rw [hW4]; exact (Boxed.new w2 _ _).alloc _
  have e4 : Boxed W4 (w2.heap.size + 1) 28 (.int .u64 (ce : Int)) := by
    have := Boxed.new (w2.alloc (.cells #[.int .u64 (cb : Int)] 28)) 28 (.int .u64 (ce : Int))
    rw [World.size_alloc, ← hW4] at this
    exact this
  rw [hW4] at c4 d4
  gi_wp2_with (gi_at_call 244; refine (all_in Fence.wide (n - 1) hf2 hro _ _).mono ?_; rintro e w' ⟨rfl, rfl⟩)
  rw [← hW4]
  have bA : Boxed (W4.alloc (.cells #[.pointer (some ⟨lp, 0, none⟩)] 82)) (w2.heap.size + 1 + 1) 82 (.pointer (some ⟨lp, 0, none⟩)) := by
    have := Boxed.new W4 82 (.pointer (some ⟨lp, 0, none⟩))
    rwa [hs4] at this
  have bY5 := bY4.alloc (.cells #[.pointer (some ⟨lp, 0, none⟩)] 82)
  have f3 := e3.alloc (.cells #[.pointer (some ⟨lp, 0, none⟩)] 82)
  have f4 := e4.alloc (.cells #[.pointer (some ⟨lp, 0, none⟩)] 82)
  have hB5 : Below W.heap.size W (W4.alloc (.cells #[.pointer (some ⟨lp, 0, none⟩)] 82)) := hB4.alloc (by omega) _
  have hs5 : (W4.alloc (.cells #[.pointer (some ⟨lp, 0, none⟩)] 82)).heap.size = w2.heap.size + 3 := by rw [World.size_alloc, hs4]
  obtain ⟨W0, hW0⟩ : ∃ W0, W0 = W4.alloc (.cells #[.pointer (some ⟨lp, 0, none⟩)] 82) := ⟨_, rfl⟩
  rw [← hW0] at bA bY5 f3 f4 hB5 hs5 ⊢
  clear hW4 hW0 bY bY2 bY4 e3 e4 c4 d4 hB4 hB1 hB2 cg
  have hL0 := hL.below hB5
  refine wpIn_range_mine hro h1 (gf := 293) (lb := #[.pointer (some ⟨w2.heap.size + 1 + 1, 0, none⟩)]) rfl hf3 (enters_of Tryz.func293 (by kernel_rfl) rfl)
    (encs := fun x : Rec => #[recA x]) (rs := rs) (S := rowsOf rv) (fun _ => rfl) hL0.rows
    (fun Wx hbx _ => all1P (n - 1) (by omega) _ (w2.heap.size + 1 + 1) lp rv rs hlen Wx ((hbx.cell (p := ⟨w2.heap.size + 1 + 1, 0, none⟩) (by show w2.heap.size + 1 + 1 < _; omega)).trans bA.cell) (hL0.below hbx))
    (fun pre A => (Boxed A W.heap.size 218 (.func (.yield l) #[] #[]) ∧ Boxed A w2.heap.size 28 (.int .u64 (cb : Int)) ∧ Boxed A (w2.heap.size + 1) 28 (.int .u64 (ce : Int))) ∧ J (flt cb ce pre) A)
    (fun Wx hbx => ⟨⟨(hbx.block _ (by omega)).trans bY5, (hbx.block _ (by omega)).trans f3, (hbx.block _ (by omega)).trans f4⟩, hJ _ _ _ h0 (hB5.trans (hbx.mono (by omega)))⟩)
    (fun s A B hs hb => ⟨⟨(hb.block _ (by omega)).trans hs.1.1, (hb.block _ (by omega)).trans hs.1.2.1, (hb.block _ (by omega)).trans hs.1.2.2⟩, hJ _ _ _ hs.2 (hb.mono (by omega))⟩)
    (fun s A r hs => ⟨⟨(World.putObj_heap_other (by omega)).trans hs.1.1, (World.putObj_heap_other (by omega)).trans hs.1.2.1, (World.putObj_heap_other (by omega)).trans hs.1.2.2⟩, hJ _ _ _ hs.2 ⟨rfl, rfl, rfl, by rw [size_put0]; exact Nat.le_refl _, fun k hk => World.putObj_heap_other (by omega)⟩⟩)
    (fun x a' A => ∃ Bx, W0.heap.size + 2 ≤ Bx ∧ A.heap[Bx]? = some (.cells #[.int .u64 (x.lsn : Int), .int .u8 (x.kind : Int), .string (str x.pay)] 288 (0, 0)) ∧ a' = { tmps := #[.func (.yield l) #[] #[], .pointer (some ⟨Bl, 0, none⟩), .pointer (some ⟨W.heap.size, 0, none⟩), .pointer (some ⟨w2.heap.size, 0, none⟩), .pointer (some ⟨w2.heap.size + 1, 0, none⟩), .pointer (some ⟨Bx, 0, none⟩), undef, undef, .tuple #[.int .u64 (cb : Int), .int .u64 (ce : Int)], .pointer (some ⟨gp, 0, none⟩), .tuple #[.int .u64 (cb : Int), .int .u64 (ce : Int)], .int .u64 (cb : Int), .int .u64 (ce : Int), .pointer (some ⟨gp, 0, none⟩), .pointer (some ⟨gp, 0, none⟩), .pointer (some ⟨gp, 0, none⟩), .pointer (some ⟨lp, 0, none⟩), .func (.func 293) #[] #[.pointer (some ⟨w2.heap.size + 1 + 1, 0, none⟩)], recA x, undef, undef, undef, undef, undef, undef, undef, undef, undef, undef, undef, undef, undef, undef, undef, undef, undef, undef, undef, undef, undef, undef, undef, undef, undef, undef, undef, undef, undef, undef, undef, undef, undef], defers := [] })
    (fun x a' A r hs => by obtain ⟨Bx, g1, g2, g3⟩ := hs; exact ⟨Bx, g1, (World.putObj_heap_other (by omega)).trans g2, g3⟩)
    ?assign ?body ?done
  case assign =>
    have hsem := @Oper.semAt_some
    rintro pre x A K ⟨⟨y1, y2, y3⟩, hj⟩ hsA hpre hK
    gi_wp2
    exact hK _ _ ⟨⟨y1.alloc _, y2.alloc _, y3.alloc _⟩, hJ _ _ _ hj ((Below.refl _ A).alloc (by omega) _)⟩ (Keep.alloc _ _ _ _) ⟨A.heap.size, hsA, World.alloc_heap_new A _, rfl⟩
  case body =>
    have hsem := @Oper.semAt_some
    rintro pre x a' A ⟨⟨y1, y2, y3⟩, hj⟩ hsA ⟨Bx, hBx, bX, rfl⟩ hpre
    have x0 := cell_blk0 bX 0
    have x1 := cell_blk0 bX 1
    have x2 := cell_blk0 bX 2
    simp at x0 x1 x2
    have v1 := y1.cell
    have v2 := y2.cell
    have v3 := y3.cell
    have hk := h256 x (hpre.subset (by simp))
    have k4 := andNot_any hk
    obtain ⟨kd, hkd⟩ : ∃ kd, kd = x.kind % 128 := ⟨_, rfl⟩
    rw [← hkd] at k4
    have h3 : 1 ≤ n - 1 - 1 := by omega
    by_cases a1 : x.kind < 128
    · by_cases a2 : ce < x.lsn
      · by_cases a3 : cb < x.lsn
        · have hct : counts cb ce x = true := by simp [counts]; omega
          have i1 : (x.kind : Int) < 128 := by omega
          have i2 : (ce : Int) < (x.lsn : Int) := by omega
          have i3 : (cb : Int) < (x.lsn : Int) := by omega
          have i4 : ¬ (x.lsn : Int) < (ce : Int) := by omega
          have hfp : flt cb ce (pre ++ [x]) = flt cb ce pre ++ [x] := flt_yes hct
          have hYx := hY _ x A hj (by omega) (by rw [← hfp, HCT.out]; exact flt_pre hpre)
          rw [← hkd] at hYx
          obtain ⟨fn, tmps, assign, body, hy, hRR⟩ := yield_wide (m' := n - 1 - 1 - 1) hYx
          clear hYx hkd
          have HF : Hid (flt cb ce (pre ++ [x]) = flt cb ce pre ++ [x]) := hfp
          clear hfp hct
          gi_wp2
          refine hRR.mono ?_
          rintro e W3 ⟨rfl, hJ3, hk3⟩
          have HN : Hid (J (flt cb ce (pre ++ [x])) W3 ∧ Keep W.heap.size (rowsOf rv) A W3) := ⟨by rw [HF.out]; exact hJ3, hk3⟩
          clear hJ3 hk3
          gi_wp2
          have hk3 := HN.out.2
          refine ⟨⟨⟨(hk3.high _ (by omega) (by omega)).trans y1, (hk3.high _ (by omega) (by omega)).trans y2, (hk3.high _ (by omega) (by omega)).trans y3⟩, HN.out.1⟩, hk3.mono (by omega)⟩
        · have hct : counts cb ce x = true := by simp [counts]; omega
          have i1 : (x.kind : Int) < 128 := by omega
          have i2 : (ce : Int) < (x.lsn : Int) := by omega
          have i3 : ¬ (cb : Int) < (x.lsn : Int) := by omega
          have hfp : flt cb ce (pre ++ [x]) = flt cb ce pre ++ [x] := flt_yes hct
          have hYx := hY _ x A hj (by omega) (by rw [← hfp, HCT.out]; exact flt_pre hpre)
          rw [← hkd] at hYx
          obtain ⟨fn, tmps, assign, body, hy, hRR⟩ := yield_wide (m' := n - 1 - 1 - 1) hYx
          clear hYx hkd
          have HF : Hid (flt cb ce (pre ++ [x]) = flt cb ce pre ++ [x]) := hfp
          clear hfp hct
          gi_wp2
          refine hRR.mono ?_
          rintro e W3 ⟨rfl, hJ3, hk3⟩
          have HN : Hid (J (flt cb ce (pre ++ [x])) W3 ∧ Keep W.heap.size (rowsOf rv) A W3) := ⟨by rw [HF.out]; exact hJ3, hk3⟩
          clear hJ3 hk3
          gi_wp2
          have hk3 := HN.out.2
          refine ⟨⟨⟨(hk3.high _ (by omega) (by omega)).trans y1, (hk3.high _ (by omega) (by omega)).trans y2, (hk3.high _ (by omega) (by omega)).trans y3⟩, HN.out.1⟩, hk3.mono (by omega)⟩
      · by_cases a3 : cb < x.lsn
        · by_cases a4 : x.lsn < ce
          · have hct : counts cb ce x = true := by simp [counts]; omega
            have i1 : (x.kind : Int) < 128 := by omega
            have i2 : ¬ (ce : Int) < (x.lsn : Int) := by omega
            have i3 : (cb : Int) < (x.lsn : Int) := by omega
            have i4 : (x.lsn : Int) < (ce : Int) := by omega
            have hfp : flt cb ce (pre ++ [x]) = flt cb ce pre ++ [x] := flt_yes hct
            have hYx := hY _ x A hj (by omega) (by rw [← hfp, HCT.out]; exact flt_pre hpre)
            rw [← hkd] at hYx
            obtain ⟨fn, tmps, assign, body, hy, hRR⟩ := yield_wide (m' := n - 1 - 1 - 1) hYx
            clear hYx hkd
            have HF : Hid (flt cb ce (pre ++ [x]) = flt cb ce pre ++ [x]) := hfp
            clear hfp hct
            gi_wp2
            refine hRR.mono ?_
            rintro e W3 ⟨rfl, hJ3, hk3⟩
            have HN : Hid (J (flt cb ce (pre ++ [x])) W3 ∧ Keep W.heap.size (rowsOf rv) A W3) := ⟨by rw [HF.out]; exact hJ3, hk3⟩
            clear hJ3 hk3
            gi_wp2
            have hk3 := HN.out.2
            refine ⟨⟨⟨(hk3.high _ (by omega) (by omega)).trans y1, (hk3.high _ (by omega) (by omega)).trans y2, (hk3.high _ (by omega) (by omega)).trans y3⟩, HN.out.1⟩, hk3.mono (by omega)⟩
          · have hct : counts cb ce x = false := by simp [counts]; omega
            have i1 : (x.kind : Int) < 128 := by omega
            have i2 : ¬ (ce : Int) < (x.lsn : Int) := by omega
            have i3 : (cb : Int) < (x.lsn : Int) := by omega
            have i4 : ¬ (x.lsn : Int) < (ce : Int) := by omega
            have hfp : flt cb ce (pre ++ [x]) = flt cb ce pre := flt_no hct
            have HF : Hid (J (flt cb ce (pre ++ [x])) A) := by show J _ _; rw [hfp]; exact hj
            clear hfp hct hkd
            gi_wp2
            refine ⟨fun f hf => (by cases hf), ?_⟩
            gi_wp2
            exact ⟨HF.out, Keep.refl _ _ _⟩
        · have hct : counts cb ce x = false := by simp [counts]; omega
          have i1 : (x.kind : Int) < 128 := by omega
          have i2 : ¬ (ce : Int) < (x.lsn : Int) := by omega
          have i3 : ¬ (cb : Int) < (x.lsn : Int) := by omega
          have hfp : flt cb ce (pre ++ [x]) = flt cb ce pre := flt_no hct
          have HF : Hid (J (flt cb ce (pre ++ [x])) A) := by show J _ _; rw [hfp]; exact hj
          clear hfp hct hkd
          gi_wp2
          refine ⟨fun f hf => (by cases hf), ?_⟩
          gi_wp2
          exact ⟨HF.out, Keep.refl _ _ _⟩
    · by_cases a3 : cb < x.lsn
      · by_cases a4 : x.lsn < ce
        · have hct : counts cb ce x = true := by simp [counts]; omega
          have i1 : ¬ (x.kind : Int) < 128 := by omega
          have i3 : (cb : Int) < (x.lsn : Int) := by omega
          have i4 : (x.lsn : Int) < (ce : Int) := by omega
          have hfp : flt cb ce (pre ++ [x]) = flt cb ce pre ++ [x] := flt_yes hct
          have hYx := hY _ x A hj (by omega) (by rw [← hfp, HCT.out]; exact flt_pre hpre)
          rw [← hkd] at hYx
          obtain ⟨fn, tmps, assign, body, hy, hRR⟩ := yield_wide (m' := n - 1 - 1 - 1) hYx
          clear hYx hkd
          have HF : Hid (flt cb ce (pre ++ [x]) = flt cb ce pre ++ [x]) := hfp
          clear hfp hct
          gi_wp2
          refine hRR.mono ?_
          rintro e W3 ⟨rfl, hJ3, hk3⟩
          have HN : Hid (J (flt cb ce (pre ++ [x])) W3 ∧ Keep W.heap.size (rowsOf rv) A W3) := ⟨by rw [HF.out]; exact hJ3, hk3⟩
          clear hJ3 hk3
          gi_wp2
          have hk3 := HN.out.2
          refine ⟨⟨⟨(hk3.high _ (by omega) (by omega)).trans y1, (hk3.high _ (by omega) (by omega)).trans y2, (hk3.high _ (by omega) (by omega)).trans y3⟩, HN.out.1⟩, hk3.mono (by omega)⟩
        · have hct : counts cb ce x = false := by simp [counts]; omega
          have i1 : ¬ (x.kind : Int) < 128 := by omega
          have i3 : (cb : Int) < (x.lsn : Int) := by omega
          have i4 : ¬ (x.lsn : Int) < (ce : Int) := by omega
          have hfp : flt cb ce (pre ++ [x]) = flt cb ce pre := flt_no hct
          have HF : Hid (J (flt cb ce (pre ++ [x])) A) := by show J _ _; rw [hfp]; exact hj
          clear hfp hct hkd
          gi_wp2
          refine ⟨fun f hf => (by cases hf), ?_⟩
          gi_wp2
          exact ⟨HF.out, Keep.refl _ _ _⟩
      · have hct : counts cb ce x = false := by simp [counts]; omega
        have i1 : ¬ (x.kind : Int) < 128 := by omega
        have i3 : ¬ (cb : Int) < (x.lsn : Int) := by omega
        have hfp : flt cb ce (pre ++ [x]) = flt cb ce pre := flt_no hct
        have HF : Hid (J (flt cb ce (pre ++ [x])) A) := by show J _ _; rw [hfp]; exact hj
        clear hfp hct hkd
        gi_wp2
        refine ⟨fun f hf => (by cases hf), ?_⟩
        gi_wp2
        exact ⟨HF.out, Keep.refl _ _ _⟩
  case done =>
    rintro A ⟨⟨y1, y2, y3⟩, hj⟩ hsA hK
    gi_wp2
    refine ⟨by simp, .inl ⟨_, _, rfl, run_takeDeferred hK, ?_⟩⟩
    exact ⟨_, results_none rfl _ _ _, ⟨_, rfl⟩, hJ _ A _ (by rw [HCT.out]; exact hj) ⟨rfl, rfl, rfl, by rw [size_put0]; exact Nat.le_refl _, fun k hk => World.putObj_heap_other (by omega)⟩⟩
theorem ledAllqP (n : Nat) (hn : 7 ≤ n) (l Bl gp lp : Nat) (rv : Value) (rs : List Rec) (hlen : rs.length ≤ 67108864) (h256 : ∀ r ∈ rs, r.kind < 256) (W : World) (hBl : W.cell? ⟨Bl, 0, none⟩ = some (.pointer (some ⟨gp, 0, none⟩))) (hg : W.cell? ⟨gp, 0, none⟩ = some (.pointer (some ⟨lp, 0, none⟩))) (hL : LogRecs W lp rv rs) :
    SeqP Fence.wide n Tryz.prog 246 #[.pointer (some ⟨Bl, 0, none⟩)] (fun x : Rec => #[.int .u8 ((x.kind % 128 : Nat) : Int), .string (str x.pay)]) (counted rs) (rowsOf rv) l W := fun J hJ hY h0 =>
  ledAllq_in n hn (n - 1) l Bl gp lp rv rs hlen h256 W J hJ hY hBl hg hL h0
end Go.Proofs.YtejiankgafjppabGreatDoor
