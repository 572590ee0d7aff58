import Derived.Test.YtejiankgafjppabGreatDoorC31
/- THE COORDINATOR: send. -/
namespace Go.Proofs.YtejiankgafjppabGreatDoor
open Go.RowKit Go.Shelf Go.Maps
open Sc

theorem wp_dueat {w : World} {o : Oper} {a : Act} {K : Act → World → Prop} {Q : Exit → Act → World → Prop} (s x : Operand)
    (ho : o.op = .call { callee := .builtin .append, args := #[s, x], argTypes := #[145, 145] })
    (base : Nat) (v : Value) (n : Nat) (xs : List Value) (t : Nat) (k y : Int) (b : Nat) (hs : a.eval s = v) (hown : w.ownsRow base 249 3 v n xs) (hx : a.eval x = .slice (some ⟨b, 0, none⟩) 1 1)
    (hb : w.heap[b]? = some (.cells #[.int .u64 (t : Int), .int .i64 k, .int .i64 y] 249 (0, 0))) (hn : n ≤ 1099511627776) (hbase : base ≤ w.heap.size)
    (h : ∀ v' w', w'.ownsRow base 249 3 v' (n + 1) (xs ++ [.int .u64 (t : Int), .int .i64 k, .int .i64 y]) → w.grownBy w' v.ownBlock → K (a.put o.dst v') w') : o.wp Tryz.prog a w K Q := by
  obtain ⟨i0, hi, hz0, hz1, hz2⟩ := info_parts Tryz.infoDue
  have hc0 := blk_cell hb 0
  have hc1 := blk_cell hb 1
  have hc2 := blk_cell hb 2
  simp at hc0 hc1 hc2
  refine wp_append_at s x 145 ho base 249 i0 _ 3 24 Tryz.underlying145 hi hz0 hz1 hz2 rfl (by decide) v n xs hs hown ⟨b, 0, none⟩ 1 1 [.int .u64 (t : Int), .int .i64 k, .int .i64 y] hx rfl ?_ ?_ (by unfold maxLen; omega) (by omega) hbase ?_
  · intro jj u hjj
    match jj, hjj with
    | 0, hjj => simp at hjj; subst hjj; simpa [Addr.add] using hc0
    | 1, hjj => simp at hjj; subst hjj; simpa [Addr.add] using hc1
    | 2, hjj => simp at hjj; subst hjj; simpa [Addr.add] using hc2
  · intro u hu; simp at hu; rcases hu with rfl | rfl | rfl <;> rfl
  · intro v' w' ho' hg' _
    exact h v' w' ho' hg'
set_option maxRecDepth 100000 in
set_option maxHeartbeats 4000000 in
theorem send_any (B cp lg bT n t mf : Nat) (q : Nat → Bool) (hm : Means mf q) (hen : Enters mf) (x : Int) (c : ACo) (w : World) (h : CoIn w B cp lg bT n c) (ht : t < 18446744073709551616) (hn : n + 9 < 67108864) :
    Calls Tryz.prog 93 #[.pointer (some ⟨cp, 0, none⟩), .int .u64 (t : Int), .int .i64 x, fnV mf] w fun e w' => e = .returned (.tuple #[]) ∧ CoIn w' B cp lg bT (n + 9) c ∧ RFr B [cp] w w' := by
  obtain ⟨W0, hW0⟩ : ∃ W0, W0 = ((w.alloc (.cells #[.pointer (some ⟨cp, 0, none⟩)] 84)).alloc (.cells #[.int .u64 (t : Int)] 28)).alloc (.cells #[.int .i64 x] 3) := ⟨_, rfl⟩
  have hfr0 : Fr [] w W0 := by rw [hW0]; exact (((Fr.refl [] w).alloc _).alloc _).alloc _
  have hs0 : W0.heap.size = w.heap.size + 3 := by rw [hW0]; simp
  have r0 : W0.heap[w.heap.size]? = some (.cells #[.pointer (some ⟨cp, 0, none⟩)] 84 (0, 0)) := by rw [hW0, Below.heap_alloc _ _ w.heap.size (by simp; omega), Below.heap_alloc _ _ w.heap.size (by simp)]; exact heap_alloc_new w _
  have r1 : W0.heap[w.heap.size + 1]? = some (.cells #[.int .u64 (t : Int)] 28 (0, 0)) := by
    rw [hW0, Below.heap_alloc _ _ (w.heap.size + 1) (by simp)]
    have := heap_alloc_new (w.alloc (.cells #[.pointer (some ⟨cp, 0, none⟩)] 84)) (.cells #[.int .u64 (t : Int)] 28)
    rwa [World.size_alloc] at this
  have r2 : W0.heap[w.heap.size + 2]? = some (.cells #[.int .i64 x] 3 (0, 0)) := by
    rw [hW0]
    have := heap_alloc_new ((w.alloc (.cells #[.pointer (some ⟨cp, 0, none⟩)] 84)).alloc (.cells #[.int .u64 (t : Int)] 28)) (.cells #[.int .i64 x] 3)
    rwa [World.size_alloc, World.size_alloc] at this
  have hc0 := h.new hfr0
  have hok := h.okT t
  obtain ⟨rv, ov, kr, ko, xr, xo, h1, _⟩ := hc0.ex
  have hcl : cp < W0.heap.size := hc0.lts.1
  have c1 := blk_cell h1 1
  have v0 := blk_cell r0 0
  have v1 := blk_cell r1 0
  simp at c1 v0 v1
  have hl : ∀ W, Fr [] W0 W → (Instr.lookup 143 (.map (some bT)) (.int .u64 (t : Int)) false).run Tryz.prog W = .ok (txV (c.tx t)) W := fun W hW => (hc0.new hW).lookT ht
  have hl0 := hl W0.drew (Fr.refl [] W0).drew
  have hsf := callsIn_wide.1 (shards_fn 5 mf (c.tx t) hok W0.drew)
  have H0 := toHid (show CoIn W0 B cp lg bT n c ∧ Fr [] w W0 ∧ W0.heap[w.heap.size]? = some (.cells #[.pointer (some ⟨cp, 0, none⟩)] 84 (0, 0)) ∧ W0.heap[w.heap.size + 1]? = some (.cells #[.int .u64 (t : Int)] 28 (0, 0)) ∧ W0.heap[w.heap.size + 2]? = some (.cells #[.int .i64 x] 3 (0, 0)) from ⟨hc0, hfr0, r0, r1, r2⟩)
  obtain ⟨T, hT⟩ : ∃ T, T = c.tx t := ⟨_, rfl⟩
  rw [← hT] at hl0 hsf hok
  clear hT
  clear h hc0 hfr0 r0 r1 r2 h1 hl
  have hro : Fence.wide.round = none := rfl
  have hfs : Fence.wide.fn 212 := trivial
  refine (callsIn_wide (n := 6)).1 ?_
  refine callsIn_of_wp_marks Tryz.func93 rfl trivial ?_ hro
  simp only [Tryz.ntmps93, List.size_toArray, List.length_cons, List.length_nil, Nat.reduceAdd, Nat.reduceSub, Array.replicate_succ, Array.replicate_zero, List.push_toArray, List.append_toArray, List.nil_append, List.cons_append]
  gi_wp2
  rw [← hW0]
  clear hW0
  refine wpIn_wide.2 ?_
  go_region_held3 (fun w' => w'.cell? ⟨w.heap.size, 0, none⟩ = some (.pointer (some ⟨cp, 0, none⟩)) ∧ w'.cell? ⟨w.heap.size + 1, 0, none⟩ = some (.int .u64 (t : Int)) ∧ w'.cell? ⟨cp, 1, none⟩ = some (.map (some bT)))
    (simp [*])
    (first | (go_at_call 152; refine hsf.mono ?_; rintro e w2 ⟨rfl, hw2⟩; have hf2 : Fr [] W0 w2 := (by rw [hw2]; exact ((Fr.refl [] W0).drew.alloc _).alloc _); have z0 := (World.cell?_of_block (a := ⟨w.heap.size, 0, none⟩) (hf2.block w.heap.size (by omega) (by simp))).trans v0; have z1 := (World.cell?_of_block (a := ⟨w.heap.size + 1, 0, none⟩) (hf2.block (w.heap.size + 1) (by omega) (by simp))).trans v1; have z2 := (World.cell?_of_block (a := ⟨cp, 1, none⟩) (hf2.block cp hcl (by simp))).trans c1; have H2 := toHid (show Fr [] W0 w2 ∧ w2 = (W0.drew.alloc (.cells (txC T).toArray 162)).alloc (.cells #[fnV mf] 166) from ⟨hf2, hw2⟩); clear hf2 hw2))
  have hsz2 : w2.heap.size = w.heap.size + 5 := by rw [H2.out.2]; simp; omega
  have q1 : w2.heap[w.heap.size + 3]? = some (.cells (txC T).toArray 162 (0, 0)) := by
    rw [H2.out.2, Below.heap_alloc _ _ _ (by simp; omega)]
    have := heap_alloc_new W0.drew (.cells (txC T).toArray 162)
    rw [show W0.drew.heap.size = w.heap.size + 3 from hs0] at this
    exact this
  have q2 : w2.heap[w.heap.size + 3 + 1]? = some (.cells #[fnV mf] 166 (0, 0)) := by
    rw [H2.out.2]
    have := heap_alloc_new (W0.drew.alloc (.cells (txC T).toArray 162)) (.cells #[fnV mf] 166)
    rw [World.size_alloc, show W0.drew.heap.size = w.heap.size + 3 from hs0] at this
    exact this
  have hf2 := H2.out.1
  have hin2 := H0.out.1.new hf2
  have u0 := (hf2.block w.heap.size (by omega) (by simp)).trans H0.out.2.2.1
  have u1 := (hf2.block (w.heap.size + 1) (by omega) (by simp)).trans H0.out.2.2.2.1
  have u2 := (hf2.block (w.heap.size + 2) (by omega) (by simp)).trans H0.out.2.2.2.2
  have hcw : cp < w.heap.size := by
    obtain ⟨cs, hc⟩ := H0.out.1.isCo
    by_cases e : cp < w.heap.size
    · exact e
    · have h3 : cp = w.heap.size ∨ cp = w.heap.size + 1 ∨ cp = w.heap.size + 2 := by omega
      rcases h3 with e | e | e
      · rw [e, H0.out.2.2.1] at hc; cases hc
      · rw [e, H0.out.2.2.2.1] at hc; cases hc
      · rw [e, H0.out.2.2.2.2] at hc; cases hc
  have HR := toHid (show Fr [] w w2 from H0.out.2.1.trans hf2)
  clear H0 H2 hf2 z0 z1 z2 v0 v1 c1 hsf hl0
  gi_wp2
  refine wpIn_range_s (F := Fence.wide) (n := 6) rfl (by omega) (gf := 212) (lb := #[.pointer (some ⟨w.heap.size + 3, 0, none⟩), .pointer (some ⟨w.heap.size + 3 + 1, 0, none⟩)]) rfl trivial (enters_of Tryz.func212 (by kernel_rfl) rfl)
    (encs := fun y : Nat => #[.int .i64 (y : Int)]) (rs := meant q T.parts) (S := [w.heap.size + 3, w.heap.size + 3 + 1]) (fun _ => rfl) (by intro k hk; simp at hk; omega)
    (fun Wx hbx _ => shards1P 5 (by omega) _ (w.heap.size + 3) (w.heap.size + 3 + 1) mf q hm hen T hok Wx ((hbx.block _ (by omega)).trans q1) ((hbx.block _ (by omega)).trans q2))
    (fun pre A => CoIn A B cp lg bT (n + pre.length) c ∧ RFr B [cp] w2 A)
    (fun Wx hbx => ⟨hin2.new (Fr.of_below hbx []), Fr.of_below hbx _⟩)
    (fun s A r hs hsA hlo => by
      obtain ⟨r0, hlo⟩ := hlo
      have hput : Fr [w2.heap.size + 1] A (A.putObj (w2.heap.size + 1) (.loop r)) := ⟨rfl, rfl, rfl, by rw [size_put0]; exact Nat.le_refl _, fun j _ hj => World.putObj_heap_other (by simpa using hj)⟩
      refine ⟨hs.1.fr hput (fun k hk => ?_), hs.2.os, hs.2.tape, hs.2.output, by rw [size_put0]; exact hs.2.size, fun j hj hS => (World.putObj_heap_other (by omega)).trans (hs.2.block j hj hS)⟩
      simp at hk
      subst hk
      refine ⟨by omega, fun e => ?_, fun e => ?_⟩
      · obtain ⟨es, cc, hmm⟩ := hs.1.txns.isMap
        rw [← e, hlo] at hmm; cases hmm
      · rw [mem_rd, hlo] at e; exact absurd e.2 (by simp [isRD]))
    (fun y a' A => a' = { tmps := #[.pointer (some ⟨cp, 0, none⟩), .int .u64 (t : Int), .int .i64 x, fnV mf, .pointer (some ⟨w.heap.size, 0, none⟩), .pointer (some ⟨w.heap.size + 1, 0, none⟩), .pointer (some ⟨w.heap.size + 1 + 1, 0, none⟩), undef, .int .i64 (y : Int), .pointer (some ⟨cp, 0, none⟩), .pointer (some ⟨cp, 0, none⟩), .pointer (some ⟨cp, 1, none⟩), .map (some bT), .int .u64 (t : Int), txV T, fnV mf, .func (.func 212) #[] #[.pointer (some ⟨w.heap.size + 3, 0, none⟩), .pointer (some ⟨w.heap.size + 3 + 1, 0, none⟩)], .int .i64 (y : Int), undef, undef, undef, undef, undef, undef, undef, undef, undef, undef, undef, undef, undef], defers := [] })
    (fun y a' A r hs => hs)
    ?assign ?body ?done
  case assign =>
    have hsem := @Oper.semAt_some
    rintro pre y A K hI hsA hpre hK
    gi_wp2
    exact hK _ _ hI (KpS.refl _) rfl
  case body =>
    have hsem := @Oper.semAt_some
    rintro pre y a' A ⟨hIA, hfA⟩ hsA rfl hpre hdf hlo
    have hpl : pre.length + 1 ≤ 9 := by
      have := hpre.length_le
      have h9 : (meant q T.parts).length ≤ 9 := by
        refine Nat.le_trans (List.length_filter_le _ _) ?_
        simp
      simp at this
      omega
    have B0 := RFr.cells hfA u0 (by simp; omega) (by decide) (by decide)
    have B1 := RFr.cells hfA u1 (by simp; omega) (by decide) (by decide)
    have B2 := RFr.cells hfA u2 (by simp; omega) (by decide) (by decide)
    have B3 := RFr.cells hfA q1 (by simp; omega) (by decide) (by decide)
    have B4 := RFr.cells hfA q2 (by simp; omega) (by decide) (by decide)
    obtain ⟨rv1, ov1, kr1, ko1, xr1, xo1, g1, g2, g3, g4, g5⟩ := hIA.ex
    have nrow : ov1.ownBlock ≠ some cp := own_ne g3 g1 (by decide)
    have m0 : ov1.ownBlock ≠ some w.heap.size := own_ne g3 B0 (by decide)
    have m1 : ov1.ownBlock ≠ some (w.heap.size + 1) := own_ne g3 B1 (by decide)
    have m2 : ov1.ownBlock ≠ some (w.heap.size + 1 + 1) := own_ne g3 B2 (by decide)
    have hlA : cp < A.heap.size := hIA.lts.1
    have a0 := blk_cell B0 0
    have a1 := blk_cell B1 0
    have a2 := blk_cell B2 0
    have a6 := blk_cell g1 6
    simp at a0 a1 a2 a6
    have HA := toHid (show CoIn A B cp lg bT (n + pre.length) c ∧ A.heap[cp]? = some (coO lg bT c rv1 ov1) ∧ A.ownsRow B 178 2 rv1 kr1 xr1 ∧ A.ownsRow B 249 3 ov1 ko1 xo1 ∧ kr1 ≤ n + pre.length ∧ ko1 ≤ n + pre.length from ⟨hIA, g1, g2, g3, g4, g5⟩)
    have HE := toHid (show ∀ W', CoIn W' B cp lg bT (n + pre.length + 1) c ∧ RFr B [cp] A W' → (CoIn W' B cp lg bT (n + (pre ++ [y]).length) c ∧ RFr B [cp] w2 W') ∧ KpS (w2.heap.size :: (w2.heap.size + 1) :: [w.heap.size + 3, w.heap.size + 3 + 1]) A W' from fun W' h => ⟨⟨by rw [List.length_append]; exact h.1, RFr.trans hfA h.2⟩, h.2.size, fun k hk hlt => h.2.block k hlt (fun hmm => by
      rcases List.mem_append.1 hmm with e | e
      · simp at hk e; omega
      · have e2 := (mem_rd.1 e).2
        obtain ⟨r0, hlo⟩ := hlo
        simp at hk
        rcases hk with rfl | rfl | rfl | rfl
        · rw [hdf] at e2; simp [isRD] at e2
        · rw [hlo] at e2; simp [isRD] at e2
        · exact rd_not B3 (by decide) (by decide) e
        · exact rd_not B4 (by decide) (by decide) e)⟩)
    have al0 : ∀ o, (A.drew.alloc o).cell? ⟨w.heap.size, 0, none⟩ = some (.pointer (some ⟨cp, 0, none⟩)) := fun o => (World.cell?_alloc_lt _ _ _ (by show w.heap.size < A.heap.size; omega)).trans a0
    have al1 : ∀ o, (A.drew.alloc o).cell? ⟨w.heap.size + 1, 0, none⟩ = some (.int .u64 (t : Int)) := fun o => (World.cell?_alloc_lt _ _ _ (by show w.heap.size + 1 < A.heap.size; omega)).trans a1
    have al2 : ∀ o, (A.drew.alloc o).cell? ⟨w.heap.size + 1 + 1, 0, none⟩ = some (.int .i64 x) := fun o => (World.cell?_alloc_lt _ _ _ (by show w.heap.size + 1 + 1 < A.heap.size; omega)).trans a2
    have al6 : ∀ o, (A.drew.alloc o).cell? ⟨cp, 6, none⟩ = some ov1 := fun o => (World.cell?_alloc_lt _ _ _ hlA).trans a6
    clear hIA hfA g1 g2 g3 B3 B4
    gi_wp2
    refine wpIn_region_round (S := (fun w' => w'.cell? ⟨w.heap.size, 0, none⟩ = some (.pointer (some ⟨cp, 0, none⟩)) ∧ w'.cell? ⟨w.heap.size + 1, 0, none⟩ = some (.int .u64 (t : Int)) ∧ w'.cell? ⟨w.heap.size + 1 + 1, 0, none⟩ = some (.int .i64 x))) (by kernel_rfl) (by kernel_rfl) (by rintro ⟨a, w, hq⟩; cases hq.1) ?_ (fun hHeld => ?_)
    · simp [*]
    refine wpAnyH_take (i := 0) (oi := { dst := some 18, op := Op.load 84 (Operand.tmp 4), type := 84, pos := "coordinator.go:125", after := #[], guard := none }) (v := .pointer (some ⟨cp, 0, none⟩)) rfl (by kernel_rfl) (by kernel_rfl) (by kernel_rfl) (fun _ _ _ h => h) (Or.inl ⟨by rfl, ?_⟩) (by assumption) ?_
    · intro w hSw; (try dsimp only at hSw); go_simp
    (try simp only [Act.put, List.setIfInBounds_toArray, List.set_cons_zero, List.set_cons_succ])
    refine wpAnyH_take (i := 1) (oi := { dst := some 19, op := Op.load 84 (Operand.tmp 4), type := 84, pos := "coordinator.go:125", after := #[], guard := none }) (v := .pointer (some ⟨cp, 0, none⟩)) rfl (by kernel_rfl) (by kernel_rfl) (by kernel_rfl) (fun _ _ _ h => h) (Or.inl ⟨by rfl, ?_⟩) (by assumption) ?_
    · intro w hSw; (try dsimp only at hSw); go_simp
    (try simp only [Act.put, List.setIfInBounds_toArray, List.set_cons_zero, List.set_cons_succ])
    refine wpAnyH_take (i := 2) (oi := { dst := some 20, op := Op.nilCheck (Operand.tmp 19), type := 0, pos := "coordinator.go:125", after := #[{ on := 1, ground := Ground.data }], guard := none }) (v := .pointer (some ⟨cp, 0, none⟩)) rfl (by kernel_rfl) (by kernel_rfl) (by kernel_rfl) (fun _ _ _ h => h) (Or.inl ⟨by rfl, ?_⟩) (by assumption) ?_
    · intro w hSw; (try dsimp only at hSw); go_simp
    (try simp only [Act.put, List.setIfInBounds_toArray, List.set_cons_zero, List.set_cons_succ])
    refine wpAnyH_take (i := 3) (oi := { dst := some 21, op := Op.fieldAddr 147 (Operand.tmp 20) 6, type := 0, pos := "coordinator.go:125", after := #[{ on := 2, ground := Ground.data }], guard := none }) (v := .pointer (some ⟨cp, 6, none⟩)) rfl (by kernel_rfl) (by kernel_rfl) (by kernel_rfl) (fun _ _ _ h => h) (Or.inl ⟨by rfl, ?_⟩) (by assumption) ?_
    · intro w hSw; (try dsimp only at hSw); go_simp
    (try simp only [Act.put, List.setIfInBounds_toArray, List.set_cons_zero, List.set_cons_succ])
    refine wpAnyH_take (i := 5) (oi := { dst := some 23, op := Op.load 28 (Operand.tmp 5), type := 28, pos := "coordinator.go:125", after := #[], guard := none }) (v := .int .u64 (t : Int)) rfl (by kernel_rfl) (by kernel_rfl) (by kernel_rfl) (fun _ _ _ h => h) (Or.inl ⟨by rfl, ?_⟩) (by assumption) ?_
    · intro w hSw; (try dsimp only at hSw); go_simp
    (try simp only [Act.put, List.setIfInBounds_toArray, List.set_cons_zero, List.set_cons_succ])
    refine wpAnyH_take (i := 6) (oi := { dst := some 24, op := Op.move (Operand.tmp 8), type := 3, pos := "coordinator.go:125", after := #[], guard := none }) (v := .int .i64 (y : Int)) rfl (by kernel_rfl) (by kernel_rfl) (by kernel_rfl) (fun _ _ _ h => h) (Or.inl ⟨by rfl, ?_⟩) (by assumption) ?_
    · intro w hSw; (try dsimp only at hSw); go_simp
    (try simp only [Act.put, List.setIfInBounds_toArray, List.set_cons_zero, List.set_cons_succ])
    refine wpAnyH_take (i := 7) (oi := { dst := some 25, op := Op.load 3 (Operand.tmp 6), type := 3, pos := "coordinator.go:125", after := #[], guard := none }) (v := .int .i64 x) rfl (by kernel_rfl) (by kernel_rfl) (by kernel_rfl) (fun _ _ _ h => h) (Or.inl ⟨by rfl, ?_⟩) (by assumption) ?_
    · intro w hSw; (try dsimp only at hSw); go_simp
    (try simp only [Act.put, List.setIfInBounds_toArray, List.set_cons_zero, List.set_cons_succ])
    refine wpAnyH_take (i := 8) (oi := { dst := some 26, op := Op.build 249 #[(0, Operand.tmp 23), (1, Operand.tmp 24), (2, Operand.tmp 25)], type := 249, pos := "coordinator.go:125", after := #[{ on := 5, ground := Ground.data }, { on := 6, ground := Ground.data }, { on := 7, ground := Ground.data }], guard := none }) (v := .agg #[.int .u64 (t : Int), .int .i64 (y : Int), .int .i64 x]) rfl (by kernel_rfl) (by kernel_rfl) (by kernel_rfl) (fun _ _ _ h => h) (Or.inl ⟨by rfl, ?_⟩) (by assumption) ?_
    · intro w hSw; (try dsimp only at hSw); go_simp
    (try simp only [Act.put, List.setIfInBounds_toArray, List.set_cons_zero, List.set_cons_succ])
    refine wpAnyH_ready (rs := [4, 9]) (by kernel_rfl) (by simp) ?_
    refine AllReadyH.cons (o := { dst := some 22, op := Op.load 145 (Operand.tmp 21), type := 145, pos := "coordinator.go:125", after := #[{ on := 3, ground := Ground.data }], guard := none }) rfl (fun K hK => ?_) (AllReadyH.cons (o := { dst := some 27, op := Op.buildSlice 145 1 #[(0, Operand.tmp 26)], type := 145, pos := "coordinator.go:125", after := #[{ on := 8, ground := Ground.data }], guard := none }) rfl (fun K hK => ?_) AllReadyH.nil)
    · go_simp
      refine hK.out _ _ ?_ (fun hHeld => ?_)
      · simp [*]
      clear hK K
      (try simp only [Act.put, List.setIfInBounds_toArray, List.set_cons_zero, List.set_cons_succ])
      refine wpAnyH_ready (rs := [9]) (by kernel_rfl) (by simp) ?_
      refine AllReadyH.cons (o := { dst := some 27, op := Op.buildSlice 145 1 #[(0, Operand.tmp 26)], type := 145, pos := "coordinator.go:125", after := #[{ on := 8, ground := Ground.data }], guard := none }) rfl (fun K hK => ?_) AllReadyH.nil
      go_simp
      refine hK.out _ _ ?_ (fun hHeld => ?_)
      · exact ⟨al0 _, al1 _, al2 _⟩
      clear hK K
      (try simp only [Act.put, List.setIfInBounds_toArray, List.set_cons_zero, List.set_cons_succ])
      refine wpAnyH_ready (rs := [10]) (by kernel_rfl) (by simp) ?_
      refine AllReadyH.cons rfl (fun K hK => ?_) AllReadyH.nil
      rw [if_pos (by rfl)]
      refine wp_dueat _ _ rfl B ov1 ko1 xo1 t (y : Int) x A.heap.size rfl (ownsRow_fr HA.out.2.2.2.1 ((Fr.refl [] A).drew.alloc _) (by simp)) rfl (heap_alloc_new _ _) (by omega) (by have := HA.out.1.low; simp; omega) ?_
      intro v' w1 hown' hgrow
      obtain ⟨av, mv, cv, rfl⟩ := own_sl hown'
      have hfa : Fr [] A (A.drew.alloc (.cells #[.int .u64 (t : Int), .int .i64 (y : Int), .int .i64 x] 249)) := (Fr.refl [] A).drew.alloc _
      have HN := toHid (HA.out.1.due HA.out.2.1 HA.out.2.2.1 HA.out.2.2.2.1 HA.out.2.2.2.2.1 HA.out.2.2.2.2.2 hfa hgrow hown')
      have fro : Fr ov1.ownBlock.toList A w1 := (hfa.mono (by simp)).trans (Fr.of_grown hgrow)
      have hb1 := (fro.block cp hlA (by simp; exact nrow)).trans HA.out.2.1
      have g0 := (fro.block w.heap.size (by omega) (by simp; exact m0)).trans B0
      have g1 := (fro.block (w.heap.size + 1) (by omega) (by simp; exact m1)).trans B1
      have g2 := (fro.block (w.heap.size + 1 + 1) (by omega) (by simp; exact m2)).trans B2
      have d6 := blk_cell hb1 6
      have f6 := blk_free hb1 6
      have k0 := blk_cell g0 0
      have k1 := blk_cell g1 0
      have k2 := blk_cell g2 0
      simp at d6 k0 k1 k2
      have y0 := fun v => (setCell_far w1 cp 6 w.heap.size 0 v (by omega)).trans k0
      have y1 := fun v => (setCell_far w1 cp 6 (w.heap.size + 1) 0 v (by omega)).trans k1
      have y2 := fun v => (setCell_far w1 cp 6 (w.heap.size + 1 + 1) 0 v (by omega)).trans k2
      clear hown' hgrow hfa fro hb1 g0 g1 g2
      refine hK.out _ _ ?_ (fun hHeld => ?_)
      · simp [*]
      clear hK K
      (try simp only [Act.put, List.setIfInBounds_toArray])
      refine wpAnyH_take (i := 11) (oi := { dst := some 29, op := Op.nilCheck (Operand.tmp 18), type := 0, pos := "coordinator.go:125", after := #[{ on := 0, ground := Ground.data }, { on := 0, ground := Ground.phase }, { on := 1, ground := Ground.phase }, { on := 2, ground := Ground.phase }, { on := 3, ground := Ground.phase }, { on := 4, ground := Ground.phase }, { on := 5, ground := Ground.phase }, { on := 6, ground := Ground.phase }, { on := 7, ground := Ground.phase }, { on := 8, ground := Ground.phase }, { on := 9, ground := Ground.phase }, { on := 10, ground := Ground.phase }], guard := none }) (v := .pointer (some ⟨cp, 0, none⟩)) rfl (by kernel_rfl) (by kernel_rfl) (by kernel_rfl) (fun _ _ _ h => h) (Or.inl ⟨by rfl, ?_⟩) (by assumption) ?_
      · intro w hSw; (try dsimp only at hSw); go_simp
      (try simp only [Act.put])
      refine wpAnyH_take (i := 12) (oi := { dst := some 30, op := Op.fieldAddr 147 (Operand.tmp 29) 6, type := 0, pos := "coordinator.go:125", after := #[{ on := 11, ground := Ground.data }, { on := 0, ground := Ground.phase }, { on := 1, ground := Ground.phase }, { on := 2, ground := Ground.phase }, { on := 3, ground := Ground.phase }, { on := 4, ground := Ground.phase }, { on := 5, ground := Ground.phase }, { on := 6, ground := Ground.phase }, { on := 7, ground := Ground.phase }, { on := 8, ground := Ground.phase }, { on := 9, ground := Ground.phase }, { on := 10, ground := Ground.phase }], guard := none }) (v := .pointer (some ⟨cp, 6, none⟩)) rfl (by kernel_rfl) (by kernel_rfl) (by kernel_rfl) (fun _ _ _ h => h) (Or.inl ⟨by rfl, ?_⟩) (by assumption) ?_
      · intro w hSw; (try dsimp only at hSw); go_simp
      (try simp only [Act.put])
      refine wpAnyH_ready (rs := [13]) (by kernel_rfl) (by simp) ?_
      refine AllReadyH.cons rfl (fun K hK => ?_) AllReadyH.nil
      go_simp
      refine hK.out _ _ ?_ (fun hHeld => ?_)
      · simp [*]
      clear hK K
      (try simp only [Act.put, List.setIfInBounds_toArray, List.set_cons_zero, List.set_cons_succ])
      refine wpAnyH_done (by kernel_rfl) ?_ _
      exact ⟨rfl, HE.out _ HN.out⟩
    · go_simp
      refine hK.out _ _ ?_ (fun hHeld => ?_)
      · exact ⟨al0 _, al1 _, al2 _⟩
      clear hK K
      (try simp only [Act.put, List.setIfInBounds_toArray, List.set_cons_zero, List.set_cons_succ])
      refine wpAnyH_ready (rs := [4]) (by kernel_rfl) (by simp) ?_
      refine AllReadyH.cons (o := { dst := some 22, op := Op.load 145 (Operand.tmp 21), type := 145, pos := "coordinator.go:125", after := #[{ on := 3, ground := Ground.data }], guard := none }) rfl (fun K hK => ?_) AllReadyH.nil
      go_simp
      refine hK.out _ _ ?_ (fun hHeld => ?_)
      · exact ⟨al0 _, al1 _, al2 _⟩
      clear hK K
      (try simp only [Act.put, List.setIfInBounds_toArray, List.set_cons_zero, List.set_cons_succ])
      refine wpAnyH_ready (rs := [10]) (by kernel_rfl) (by simp) ?_
      refine AllReadyH.cons rfl (fun K hK => ?_) AllReadyH.nil
      rw [if_pos (by rfl)]
      refine wp_dueat _ _ rfl B ov1 ko1 xo1 t (y : Int) x A.heap.size rfl (ownsRow_fr HA.out.2.2.2.1 ((Fr.refl [] A).drew.alloc _) (by simp)) rfl (heap_alloc_new _ _) (by omega) (by have := HA.out.1.low; simp; omega) ?_
      intro v' w1 hown' hgrow
      obtain ⟨av, mv, cv, rfl⟩ := own_sl hown'
      have hfa : Fr [] A (A.drew.alloc (.cells #[.int .u64 (t : Int), .int .i64 (y : Int), .int .i64 x] 249)) := (Fr.refl [] A).drew.alloc _
      have HN := toHid (HA.out.1.due HA.out.2.1 HA.out.2.2.1 HA.out.2.2.2.1 HA.out.2.2.2.2.1 HA.out.2.2.2.2.2 hfa hgrow hown')
      have fro : Fr ov1.ownBlock.toList A w1 := (hfa.mono (by simp)).trans (Fr.of_grown hgrow)
      have hb1 := (fro.block cp hlA (by simp; exact nrow)).trans HA.out.2.1
      have g0 := (fro.block w.heap.size (by omega) (by simp; exact m0)).trans B0
      have g1 := (fro.block (w.heap.size + 1) (by omega) (by simp; exact m1)).trans B1
      have g2 := (fro.block (w.heap.size + 1 + 1) (by omega) (by simp; exact m2)).trans B2
      have d6 := blk_cell hb1 6
      have f6 := blk_free hb1 6
      have k0 := blk_cell g0 0
      have k1 := blk_cell g1 0
      have k2 := blk_cell g2 0
      simp at d6 k0 k1 k2
      have y0 := fun v => (setCell_far w1 cp 6 w.heap.size 0 v (by omega)).trans k0
      have y1 := fun v => (setCell_far w1 cp 6 (w.heap.size + 1) 0 v (by omega)).trans k1
      have y2 := fun v => (setCell_far w1 cp 6 (w.heap.size + 1 + 1) 0 v (by omega)).trans k2
      clear hown' hgrow hfa fro hb1 g0 g1 g2
      refine hK.out _ _ ?_ (fun hHeld => ?_)
      · simp [*]
      clear hK K
      (try simp only [Act.put, List.setIfInBounds_toArray])
      refine wpAnyH_take (i := 11) (oi := { dst := some 29, op := Op.nilCheck (Operand.tmp 18), type := 0, pos := "coordinator.go:125", after := #[{ on := 0, ground := Ground.data }, { on := 0, ground := Ground.phase }, { on := 1, ground := Ground.phase }, { on := 2, ground := Ground.phase }, { on := 3, ground := Ground.phase }, { on := 4, ground := Ground.phase }, { on := 5, ground := Ground.phase }, { on := 6, ground := Ground.phase }, { on := 7, ground := Ground.phase }, { on := 8, ground := Ground.phase }, { on := 9, ground := Ground.phase }, { on := 10, ground := Ground.phase }], guard := none }) (v := .pointer (some ⟨cp, 0, none⟩)) rfl (by kernel_rfl) (by kernel_rfl) (by kernel_rfl) (fun _ _ _ h => h) (Or.inl ⟨by rfl, ?_⟩) (by assumption) ?_
      · intro w hSw; (try dsimp only at hSw); go_simp
      (try simp only [Act.put])
      refine wpAnyH_take (i := 12) (oi := { dst := some 30, op := Op.fieldAddr 147 (Operand.tmp 29) 6, type := 0, pos := "coordinator.go:125", after := #[{ on := 11, ground := Ground.data }, { on := 0, ground := Ground.phase }, { on := 1, ground := Ground.phase }, { on := 2, ground := Ground.phase }, { on := 3, ground := Ground.phase }, { on := 4, ground := Ground.phase }, { on := 5, ground := Ground.phase }, { on := 6, ground := Ground.phase }, { on := 7, ground := Ground.phase }, { on := 8, ground := Ground.phase }, { on := 9, ground := Ground.phase }, { on := 10, ground := Ground.phase }], guard := none }) (v := .pointer (some ⟨cp, 6, none⟩)) rfl (by kernel_rfl) (by kernel_rfl) (by kernel_rfl) (fun _ _ _ h => h) (Or.inl ⟨by rfl, ?_⟩) (by assumption) ?_
      · intro w hSw; (try dsimp only at hSw); go_simp
      (try simp only [Act.put])
      refine wpAnyH_ready (rs := [13]) (by kernel_rfl) (by simp) ?_
      refine AllReadyH.cons rfl (fun K hK => ?_) AllReadyH.nil
      go_simp
      refine hK.out _ _ ?_ (fun hHeld => ?_)
      · simp [*]
      clear hK K
      (try simp only [Act.put, List.setIfInBounds_toArray, List.set_cons_zero, List.set_cons_succ])
      refine wpAnyH_done (by kernel_rfl) ?_ _
      exact ⟨rfl, HE.out _ HN.out⟩
  case done =>
    rintro A ⟨hIA, hfA⟩ hsA hK
    gi_wp2
    refine ⟨by simp, .inl ⟨_, _, rfl, run_takeDeferred hK, ?_⟩⟩
    obtain ⟨W9, hW9⟩ : ∃ W9, W9 = A.putObj w2.heap.size (.deferred none) := ⟨_, rfl⟩
    rw [← hW9]
    have hput : Fr [w2.heap.size] A W9 := by rw [hW9]; exact ⟨rfl, rfl, rfl, by rw [size_put0]; exact Nat.le_refl _, fun j _ hj => World.putObj_heap_other (by simpa using hj)⟩
    have h9 : CoIn W9 B cp lg bT (n + (meant q T.parts).length) c := hIA.fr hput (fun k hk => by
      simp at hk
      subst hk
      refine ⟨by omega, fun e => ?_, fun e => ?_⟩
      · obtain ⟨es, cc, hmm⟩ := hIA.txns.isMap
        rw [← e, hK] at hmm; cases hmm
      · rw [mem_rd, hK] at e; exact absurd e.2 (by simp [isRD]))
    have hl9 : (meant q T.parts).length ≤ 9 := by
      refine Nat.le_trans (List.length_filter_le _ _) ?_
      simp
    have hf9 : RFr B [cp] w W9 := by
      refine ⟨hput.os.trans (hfA.os.trans HR.out.os), hput.tape.trans (hfA.tape.trans HR.out.tape), hput.output.trans (hfA.output.trans HR.out.output), by have := hput.size; have := hfA.size; omega, fun j hj hS => ?_⟩
      rw [hput.block j (by have := hfA.size; omega) (by simp; omega), hfA.block j (by omega) ?_, HR.out.block j hj (by simp)]
      intro hm2
      rcases List.mem_append.1 hm2 with e | e
      · exact hS (List.mem_append_left _ e)
      · rw [mem_rd, HR.out.block j hj (by simp), ← mem_rd] at e
        exact hS (List.mem_append_right _ e)
    exact ⟨_, results_none rfl _ _ _, rfl, h9.mono (by omega), hf9⟩
end Go.Proofs.YtejiankgafjppabGreatDoor
