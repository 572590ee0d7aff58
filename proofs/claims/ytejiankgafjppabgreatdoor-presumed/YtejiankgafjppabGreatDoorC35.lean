import Derived.Test.YtejiankgafjppabGreatDoorC34
import Derived.Test.YtejiankgafjppabGreatDoorC27
import Derived.Test.YtejiankgafjppabGreatDoorC28
import Derived.Test.YtejiankgafjppabGreatDoorC31
/- THE COORDINATOR: send. -/
namespace Go.Proofs.YtejiankgafjppabGreatDoor
open Go.RowKit Go.Shelf Go.Maps
open Sc

theorem wp_dueat {w : World} {o : Oper} {a : Act} {K : Act → World → Prop} {Q : Exit → Act → World → Prop} (s x : Operand)
    (ho : o.op = .call { callee := .builtin .append, args := #[s, x], argTypes := #[145, 145] })
    (base : Nat) (v : Value) (n : Nat) (xs : List Value) (t : Nat) (k y : Int) (b : Nat) (hs : a.eval s = v) (hown : w.ownsRow base 249 3 v n xs) (hx : a.eval x = .slice (some ⟨b, 0, none⟩) 1 1)
    (hb : w.heap[b]? = some (.cells #[.int .u64 (t : Int), .int .i64 k, .int .i64 y] 249 (0, 0))) (hn : n ≤ 1099511627776) (hbase : base ≤ w.heap.size)
    (h : ∀ v' w', w'.ownsRow base 249 3 v' (n + 1) (xs ++ [.int .u64 (t : Int), .int .i64 k, .int .i64 y]) → w.grownBy w' v.ownBlock → K (a.put o.dst v') w') : o.wp Tryz.prog a w K Q := by
  obtain ⟨i0, hi, hz0, hz1, hz2⟩ := info_parts Tryz.infoDue
  have hc0 := blk_cell hb 0
  have hc1 := blk_cell hb 1
  have hc2 := blk_cell hb 2
  simp at hc0 hc1 hc2
  refine wp_append_at s x 145 ho base 249 i0 _ 3 24 Tryz.underlying145 hi hz0 hz1 hz2 rfl (by decide) v n xs hs hown ⟨b, 0, none⟩ 1 1 [.int .u64 (t : Int), .int .i64 k, .int .i64 y] hx rfl ?_ ?_ (by unfold maxLen; omega) (by omega) hbase ?_
  · intro jj u hjj
    match jj, hjj with
    | 0, hjj => simp at hjj; subst hjj; simpa [Addr.add] using hc0
    | 1, hjj => simp at hjj; subst hjj; simpa [Addr.add] using hc1
    | 2, hjj => simp at hjj; subst hjj; simpa [Addr.add] using hc2
  · intro u hu; simp at hu; rcases hu with rfl | rfl | rfl <;> rfl
  · intro v' w' ho' hg' _
    exact h v' w' ho' hg'
set_option maxRecDepth 100000 in
set_option maxHeartbeats 4000000 in
theorem send_any (B cp lg bT n t mf : Nat) (q : Nat → Bool) (hm : Means mf q) (hen : Enters mf) (x : Int) (c : ACo) (w : World) (h : CoIn w B cp lg bT n c) (ht : t < 18446744073709551616) (hn : n + 9 < 67108864) :
    Calls Tryz.prog 93 #[.pointer (some ⟨cp, 0, none⟩), .int .u64 (t : Int), .int .i64 x, fnV mf] w fun e w' => e = .returned (.tuple #[]) ∧ CoIn w' B cp lg bT (n + 9) c ∧ RFr B [cp] w w' := by
  obtain ⟨W0, hW0⟩ : ∃ W0, W0 = ((w.alloc (.cells #[.pointer (some ⟨cp, 0, none⟩)] 84)).alloc (.cells #[.int .u64 (t : Int)] 28)).alloc (.cells #[.int .i64 x] 3) := ⟨_, rfl⟩
  have hfr0 : Fr [] w W0 := by rw [hW0]; exact (((Fr.refl [] w).alloc _).alloc _).alloc _
  have hs0 : W0.heap.size = w.heap.size + 3 := by rw [hW0]; simp
  have r0 : W0.heap[w.heap.size]? = some (.cells #[.pointer (some ⟨cp, 0, none⟩)] 84 (0, 0)) := by rw [hW0, Below.heap_alloc _ _ w.heap.size (by simp; omega), Below.heap_alloc _ _ w.heap.size (by simp)]; exact heap_alloc_new w _
  have r1 : W0.heap[w.heap.size + 1]? = some (.cells #[.int .u64 (t : Int)] 28 (0, 0)) := by
    rw [hW0, Below.heap_alloc _ _ (w.heap.size + 1) (by simp)]
    have := heap_alloc_new (w.alloc (.cells #[.pointer (some ⟨cp, 0, none⟩)] 84)) (.cells #[.int .u64 (t : Int)] 28)
    rwa [World.size_alloc] at this
  have r2 : W0.heap[w.heap.size + 2]? = some (.cells #[.int .i64 x] 3 (0, 0)) := by
    rw [hW0]
    have := heap_alloc_new ((w.alloc (.cells #[.pointer (some ⟨cp, 0, none⟩)] 84)).alloc (.cells #[.int .u64 (t : Int)] 28)) (.cells #[.int .i64 x] 3)
    rwa [World.size_alloc, World.size_alloc] at this
  have hc0 := h.new hfr0
  have hok := h.okT t
  obtain ⟨rv, ov, kr, ko, xr, xo, h1, _⟩ := hc0.ex
  have hcl : cp < W0.heap.size := hc0.lts.1
  have c1 := blk_cell h1 1
  have v0 := blk_cell r0 0
  have v1 := blk_cell r1 0
  simp at c1 v0 v1
  have hl : ∀ W, Fr [] W0 W → (Instr.lookup 143 (.map (some bT)) (.int .u64 (t : Int)) false).run Tryz.prog W = .ok (txV (c.tx t)) W := fun W hW => (hc0.new hW).lookT ht
  have hl0 := hl W0.drew (Fr.refl [] W0).drew
  have hsf := callsIn_wide.1 (shards_fn 5 mf (c.tx t) hok W0.drew)
  have H0 := toHid (show CoIn W0 B cp lg bT n c ∧ Fr [] w W0 ∧ W0.heap[w.heap.size]? = some (.cells #[.pointer (some ⟨cp, 0, none⟩)] 84 (0, 0)) ∧ W0.heap[w.heap.size + 1]? = some (.cells #[.int .u64 (t : Int)] 28 (0, 0)) ∧ W0.heap[w.heap.size + 2]? = some (.cells #[.int .i64 x] 3 (0, 0)) from ⟨hc0, hfr0, r0, r1, r2⟩)
  obtain ⟨T, hT⟩ : ∃ T, T = c.tx t := ⟨_, rfl⟩
  rw [← hT] at hl0 hsf hok
  clear hT
  clear h hc0 hfr0 r0 r1 r2 h1 hl
  have hro : Fence.wide.round = none := rfl
  have hfs : Fence.wide.fn 212 := trivial
  refine (callsIn_wide (n := 6)).1 ?_
  refine callsIn_of_wp_marks Tryz.func93 rfl trivial ?_ hro
  simp only [Tryz.ntmps93, List.size_toArray, List.length_cons, List.length_nil, Nat.reduceAdd, Nat.reduceSub, Array.replicate_succ, Array.replicate_zero, List.push_toArray, List.append_toArray, List.nil_append, List.cons_append]
  gi_wp2
  rw [← hW0]
  clear hW0
  refine wpIn_wide.2 ?_
  go_region_held3 (fun w' => w'.cell? ⟨w.heap.size, 0, none⟩ = some (.pointer (some ⟨cp, 0, none⟩)) ∧ w'.cell? ⟨w.heap.size + 1, 0, none⟩ = some (.int .u64 (t : Int)) ∧ w'.cell? ⟨cp, 1, none⟩ = some (.map (some bT)))
    (simp [*])
    (first | (go_at_call 152; refine hsf.mono ?_; rintro e w2 ⟨rfl, hw2⟩; have hf2 : Fr [] W0 w2 := (by rw [hw2]; exact ((Fr.refl [] W0).drew.alloc _).alloc _); have z0 := (World.cell?_of_block (a := ⟨w.heap.size, 0, none⟩) (hf2.block w.heap.size (by omega) (by simp))).trans v0; have z1 := (World.cell?_of_block (a := ⟨w.heap.size + 1, 0, none⟩) (hf2.block (w.heap.size + 1) (by omega) (by simp))).trans v1; have z2 := (World.cell?_of_block (a := ⟨cp, 1, none⟩) (hf2.block cp hcl (by simp))).trans c1; have H2 := toHid (show Fr [] W0 w2 ∧ w2 = (W0.drew.alloc (.cells (txC T).toArray 162)).alloc (.cells #[fnV mf] 166) from ⟨hf2, hw2⟩); clear hf2 hw2))
  have hsz2 : w2.heap.size = w.heap.size + 5 := by rw [H2.out.2]; simp; omega
  have q1 : w2.heap[w.heap.size + 3]? = some (.cells (txC T).toArray 162 (0, 0)) := by
    rw [H2.out.2, Below.heap_alloc _ _ _ (by simp; omega)]
    have := heap_alloc_new W0.drew (.cells (txC T).toArray 162)
    rw [show W0.drew.heap.size = w.heap.size + 3 from hs0] at this
    exact this
  have q2 : w2.heap[w.heap.size + 3 + 1]? = some (.cells #[fnV mf] 166 (0, 0)) := by
    rw [H2.out.2]
    have := heap_alloc_new (W0.drew.alloc (.cells (txC T).toArray 162)) (.cells #[fnV mf] 166)
    rw [World.size_alloc, show W0.drew.heap.size = w.heap.size + 3 from hs0] at this
    exact this
  have hf2 := H2.out.1
  have hin2 := H0.out.1.new hf2
  have u0 := (hf2.block w.heap.size (by omega) (by simp)).trans H0.out.2.2.1
  have u1 := (hf2.block (w.heap.size + 1) (by omega) (by simp)).trans H0.out.2.2.2.1
  have u2 := (hf2.block (w.heap.size + 2) (by omega) (by simp)).trans H0.out.2.2.2.2
  have hcw : cp < w.heap.size := by
    obtain ⟨cs, hc⟩ := H0.out.1.isCo
    by_cases e : cp < w.heap.size
    · exact e
    · have h3 : cp = w.heap.size ∨ cp = w.heap.size + 1 ∨ cp = w.heap.size + 2 := by omega
      rcases h3 with e | e | e
      · rw [e, H0.out.2.2.1] at hc; cases hc
      · rw [e, H0.out.2.2.2.1] at hc; cases hc
      · rw [e, H0.out.2.2.2.2] at hc; cases hc
  have HR := toHid (show Fr [] w w2 from H0.out.2.1.trans hf2)
  clear H0 H2 hf2 z0 z1 z2 v0 v1 c1 hsf hl0
  gi_wp2
  refine wpIn_range_s (F := Fence.wide) (n := 6) rfl (by omega) (gf := 212) (lb := #[.pointer (some ⟨w.heap.size + 3, 0, none⟩), .pointer (some ⟨w.heap.size + 3 + 1, 0, none⟩)]) rfl trivial (enters_of Tryz.func212 (by kernel_rfl) rfl)
    (encs := fun y : Nat => #[.int .i64 (y : Int)]) (rs := meant q T.parts) (S := [w.heap.size + 3, w.heap.size + 3 + 1]) (fun _ => rfl) (by intro k hk; simp at hk; omega)
    (fun Wx hbx _ => shards1P 5 (by omega) _ (w.heap.size + 3) (w.heap.size + 3 + 1) mf q hm hen T hok Wx ((hbx.block _ (by omega)).trans q1) ((hbx.block _ (by omega)).trans q2))
    (fun pre A => CoIn A B cp lg bT (n + pre.length) c ∧ RFr B [cp] w2 A)
    (fun Wx hbx => ⟨hin2.new (Fr.of_below hbx []), Fr.of_below hbx _⟩)
    (fun s A r hs hsA hlo => by
      obtain ⟨r0, hlo⟩ := hlo
      have hput : Fr [w2.heap.size + 1] A (A.putObj (w2.heap.size + 1) (.loop r)) := ⟨rfl, rfl, rfl, by rw [size_put0]; exact Nat.le_refl _, fun j _ hj => World.putObj_heap_other (by simpa using hj)⟩
      refine ⟨hs.1.fr hput (fun k hk => ?_), hs.2.os, hs.2.tape, hs.2.output, by rw [size_put0]; exact hs.2.size, fun j hj hS => (World.putObj_heap_other (by omega)).trans (hs.2.block j hj hS)⟩
      simp at hk
      subst hk
      refine ⟨by omega, fun e => ?_, fun e => ?_⟩
      · obtain ⟨es, cc, hmm⟩ := hs.1.txns.isMap
        rw [← e, hlo] at hmm; cases hmm
      · rw [mem_rd, hlo] at e; exact absurd e.2 (by simp [isRD]))
    (fun y a' A => a' = { tmps := #[.pointer (some ⟨cp, 0, none⟩), .int .u64 (t : Int), .int .i64 x, fnV mf, .pointer (some ⟨w.heap.size, 0, none⟩), .pointer (some ⟨w.heap.size + 1, 0, none⟩), .pointer (some ⟨w.heap.size + 1 + 1, 0, none⟩), undef, .int .i64 (y : Int), .pointer (some ⟨cp, 0, none⟩), .pointer (some ⟨cp, 0, none⟩), .pointer (some ⟨cp, 1, none⟩), .map (some bT), .int .u64 (t : Int), txV T, fnV mf, .func (.func 212) #[] #[.pointer (some ⟨w.heap.size + 3, 0, none⟩), .pointer (some ⟨w.heap.size + 3 + 1, 0, none⟩)], .int .i64 (y : Int), undef, undef, undef, undef, undef, undef, undef, undef, undef, undef, undef, undef, undef], defers := [] })
    (fun y a' A r hs => hs)
    ?assign ?body ?done
  case assign =>
    have hsem := @Oper.semAt_some
    rintro pre y A K hI hsA hpre hK
    gi_wp2
    exact hK _ _ hI (KpS.refl _) rfl
  case body =>
    have hsem := @Oper.semAt_some
    rintro pre y a' A ⟨hIA, hfA⟩ hsA rfl hpre hdf hlo
    have hpl : pre.length + 1 ≤ 9 := by
      have := hpre.length_le
      have h9 : (meant q T.parts).length ≤ 9 := by
        refine Nat.le_trans (List.length_filter_le _ _) ?_
        simp
      simp at this
      omega
    have B0 := RFr.cells hfA u0 (by simp; omega) (by decide) (by decide)
    have B1 := RFr.cells hfA u1 (by simp; omega) (by decide) (by decide)
    have B2 := RFr.cells hfA u2 (by simp; omega) (by decide) (by decide)
    have B3 := RFr.cells hfA q1 (by simp; omega) (by decide) (by decide)
    have B4 := RFr.cells hfA q2 (by simp; omega) (by decide) (by decide)
    obtain ⟨rv1, ov1, kr1, ko1, xr1, xo1, g1, g2, g3, g4, g5⟩ := hIA.ex
    have nrow : ov1.ownBlock ≠ some cp := own_ne g3 g1 (by decide)
    have m0 : ov1.ownBlock ≠ some w.heap.size := own_ne g3 B0 (by decide)
    have m1 : ov1.ownBlock ≠ some (w.heap.size + 1) := own_ne g3 B1 (by decide)
    have m2 : ov1.ownBlock ≠ some (w.heap.size + 1 + 1) := own_ne g3 B2 (by decide)
    have hlA : cp < A.heap.size := hIA.lts.1
    have a0 := blk_cell B0 0
    have a1 := blk_cell B1 0
    have a2 := blk_cell B2 0
    have a6 := blk_cell g1 6
    simp at a0 a1 a2 a6
    have HA := toHid (show CoIn A B cp lg bT (n + pre.length) c ∧ A.heap[cp]? = some (coO lg bT c rv1 ov1) ∧ A.ownsRow B 178 2 rv1 kr1 xr1 ∧ A.ownsRow B 249 3 ov1 ko1 xo1 ∧ kr1 ≤ n + pre.length ∧ ko1 ≤ n + pre.length from ⟨hIA, g1, g2, g3, g4, g5⟩)
    have HE := toHid (show ∀ W', CoIn W' B cp lg bT (n + pre.length + 1) c ∧ RFr B [cp] A W' → (CoIn W' B cp lg bT (n + (pre ++ [y]).length) c ∧ RFr B [cp] w2 W') ∧ KpS (w2.heap.size :: (w2.heap.size + 1) :: [w.heap.size + 3, w.heap.size + 3 + 1]) A W' from fun W' h => ⟨⟨by rw [List.length_append]; exact h.1, RFr.trans hfA h.2⟩, h.2.size, fun k hk hlt => h.2.block k hlt (fun hmm => by
      rcases List.mem_append.1 hmm with e | e
      · simp at hk e; omega
      · have e2 := (mem_rd.1 e).2
        obtain ⟨r0, hlo⟩ := hlo
        simp at hk
        rcases hk with rfl | rfl | rfl | rfl
        · rw [hdf] at e2; simp [isRD] at e2
        · rw [hlo] at e2; simp [isRD] at e2
        · exact rd_not B3 (by decide) (by decide) e
        · exact rd_not B4 (by decide) (by decide) e)⟩)
    have al0 : ∀ o, (A.drew.alloc o).cell? ⟨w.heap.size, 0, none⟩ = some (.pointer (some ⟨cp, 0, none⟩)) := fun o => (World.cell?_alloc_lt _ _ _ (by show w.heap.size < A.heap.size; omega)).trans a0
    have al1 : ∀ o, (A.drew.alloc o).cell? ⟨w.heap.size + 1, 0, none⟩ = some (.int .u64 (t : Int)) := fun o => (World.cell?_alloc_lt _ _ _ (by show w.heap.size + 1 < A.heap.size; omega)).trans a1
    have al2 : ∀ o, (A.drew.alloc o).cell? ⟨w.heap.size + 1 + 1, 0, none⟩ = some (.int .i64 x) := fun o => (World.cell?_alloc_lt _ _ _ (by show w.heap.size + 1 + 1 < A.heap.size; omega)).trans a2
    have al6 : ∀ o, (A.drew.alloc o).cell? ⟨cp, 6, none⟩ = some ov1 := fun o => (World.cell?_alloc_lt _ _ _ hlA).trans a6
    clear hIA hfA g1 g2 g3 B3 B4
    gi_wp2
    refine wpIn_region_round (S := (fun w' => w'.cell? ⟨w.heap.size, 0, none⟩ = some (.pointer (some ⟨cp, 0, none⟩)) ∧ w'.cell? ⟨w.heap.size + 1, 0, none⟩ = some (.int .u64 (t : Int)) ∧ w'.cell? ⟨w.heap.size + 1 + 1, 0, none⟩ = some (.int .i64 x))) (by kernel_rfl) (by kernel_rfl) (by rintro ⟨a, w, hq⟩; cases hq.1) ?_ (fun hHeld => ?_)
    · simp [*]
    refine wpAnyH_take (i := 0) (oi := { dst := some 18, op := Op.load 84 (Operand.tmp 4), type := 84, pos := "coordinator.go:125", after := #[], guard := none }) (v := .pointer (some ⟨cp, 0, none⟩)) rfl (by kernel_rfl) (by kernel_rfl) (by kernel_rfl) (fun _ _ _ h => h) (Or.inl ⟨by rfl, ?_⟩) (by assumption) ?_
    · intro w hSw; (try dsimp only at hSw); go_simp
    (try simp only [Act.put, List.setIfInBounds_toArray, List.set_cons_zero, List.set_cons_succ])
    refine wpAnyH_take (i := 1) (oi := { dst := some 19, op := Op.load 84 (Operand.tmp 4), type := 84, pos := "coordinator.go:125", after := #[], guard := none }) (v := .pointer (some ⟨cp, 0, none⟩)) rfl (by kernel_rfl) (by kernel_rfl) (by kernel_rfl) (fun _ _ _ h => h) (Or.inl ⟨by rfl, ?_⟩) (by assumption) ?_
    · intro w hSw; (try dsimp only at hSw); go_simp
    (try simp only [Act.put, List.setIfInBounds_toArray, List.set_cons_zero, List.set_cons_succ])
    refine wpAnyH_take (i := 2) (oi := { dst := some 20, op := Op.nilCheck (Operand.tmp 19), type := 0, pos := "coordinator.go:125", after := #[{ on := 1, ground := Ground.data }], guard := none }) (v := .pointer (some ⟨cp, 0, none⟩)) rfl (by kernel_rfl) (by kernel_rfl) (by kernel_rfl) (fun _ _ _ h => h) (Or.inl ⟨by rfl, ?_⟩) (by assumption) ?_
    · intro w hSw; (try dsimp only at hSw); go_simp
    (try simp only [Act.put, List.setIfInBounds_toArray, List.set_cons_zero, List.set_cons_succ])
    refine wpAnyH_take (i := 3) (oi := { dst := some 21, op := Op.fieldAddr 147 (Operand.tmp 20) 6, type := 0, pos := "coordinator.go:125", after := #[{ on := 2, ground := Ground.data }], guard := none }) (v := .pointer (some ⟨cp, 6, none⟩)) rfl (by kernel_rfl) (by kernel_rfl) (by kernel_rfl) (fun _ _ _ h => h) (Or.inl ⟨by rfl, ?_⟩) (by assumption) ?_
    · intro w hSw; (try dsimp only at hSw); go_simp
    (try simp only [Act.put, List.setIfInBounds_toArray, List.set_cons_zero, List.set_cons_succ])
    refine wpAnyH_take (i := 5) (oi := { dst := some 23, op := Op.load 28 (Operand.tmp 5), type := 28, pos := "coordinator.go:125", after := #[], guard := none }) (v := .int .u64 (t : Int)) rfl (by kernel_rfl) (by kernel_rfl) (by kernel_rfl) (fun _ _ _ h => h) (Or.inl ⟨by rfl, ?_⟩) (by assumption) ?_
    · intro w hSw; (try dsimp only at hSw); go_simp
    (try simp only [Act.put, List.setIfInBounds_toArray, List.set_cons_zero, List.set_cons_succ])
    refine wpAnyH_take (i := 6) (oi := { dst := some 24, op := Op.move (Operand.tmp 8), type := 3, pos := "coordinator.go:125", after := #[], guard := none }) (v := .int .i64 (y : Int)) rfl (by kernel_rfl) (by kernel_rfl) (by kernel_rfl) (fun _ _ _ h => h) (Or.inl ⟨by rfl, ?_⟩) (by assumption) ?_
    · intro w hSw; (try dsimp only at hSw); go_simp
    (try simp only [Act.put, List.setIfInBounds_toArray, List.set_cons_zero, List.set_cons_succ])
    refine wpAnyH_take (i := 7) (oi := { dst := some 25, op := Op.load 3 (Operand.tmp 6), type := 3, pos := "coordinator.go:125", after := #[], guard := none }) (v := .int .i64 x) rfl (by kernel_rfl) (by kernel_rfl) (by kernel_rfl) (fun _ _ _ h => h) (Or.inl ⟨by rfl, ?_⟩) (by assumption) ?_
    · intro w hSw; (try dsimp only at hSw); go_simp
    (try simp only [Act.put, List.setIfInBounds_toArray, List.set_cons_zero, List.set_cons_succ])
    refine wpAnyH_take (i := 8) (oi := { dst := some 26, op := Op.build 249 #[(0, Operand.tmp 23), (1, Operand.tmp 24), (2, Operand.tmp 25)], type := 249, pos := "coordinator.go:125", after := #[{ on := 5, ground := Ground.data }, { on := 6, ground := Ground.data }, { on := 7, ground := Ground.data }], guard := none }) (v := .agg #[.int .u64 (t : Int), .int .i64 (y : Int), .int .i64 x]) rfl (by kernel_rfl) (by kernel_rfl) (by kernel_rfl) (fun _ _ _ h => h) (Or.inl ⟨by rfl, ?_⟩) (by assumption) ?_
    · intro w hSw; (try dsimp only at hSw); go_simp
    (try simp only [Act.put, List.setIfInBounds_toArray, List.set_cons_zero, List.set_cons_succ])
    refine wpAnyH_ready (rs := [4, 9]) (by kernel_rfl) (by simp) ?_
    refine AllReadyH.cons (o := { dst := some 22, op := Op.load 145 (Operand.tmp 21), type := 145, pos := "coordinator.go:125", after := #[{ on := 3, ground := Ground.data }], guard := none }) rfl (fun K hK => ?_) (AllReadyH.cons (o := { dst := some 27, op := Op.buildSlice 145 1 #[(0, Operand.tmp 26)], type := 145, pos := "coordinator.go:125", after := #[{ on := 8, ground := Ground.data }], guard := none }) rfl (fun K hK => ?_) AllReadyH.nil)
    · go_simp
      refine hK.out _ _ ?_ (fun hHeld => ?_)
      · simp [*]
      clear hK K
      (try simp only [Act.put, List.setIfInBounds_toArray, List.set_cons_zero, List.set_cons_succ])
      refine wpAnyH_ready (rs := [9]) (by kernel_rfl) (by simp) ?_
      refine AllReadyH.cons (o := { dst := some 27, op := Op.buildSlice 145 1 #[(0, Operand.tmp 26)], type := 145, pos := "coordinator.go:125", after := #[{ on := 8, ground := Ground.data }], guard := none }) rfl (fun K hK => ?_) AllReadyH.nil
      go_simp
      refine hK.out _ _ ?_ (fun hHeld => ?_)
      · exact ⟨al0 _, al1 _, al2 _⟩
      clear hK K
      (try simp only [Act.put, List.setIfInBounds_toArray, List.set_cons_zero, List.set_cons_succ])
      refine wpAnyH_ready (rs := [10]) (by kernel_rfl) (by simp) ?_
      refine AllReadyH.cons rfl (fun K hK => ?_) AllReadyH.nil
      rw [if_pos (by rfl)]
      refine wp_dueat _ _ rfl B ov1 ko1 xo1 t (y : Int) x A.heap.size rfl (ownsRow_fr HA.out.2.2.2.1 ((Fr.refl [] A).drew.alloc _) (by simp)) rfl (heap_alloc_new _ _) (by omega) (by have := HA.out.1.low; simp; omega) ?_
      intro v' w1 hown' hgrow
      obtain ⟨av, mv, cv, rfl⟩ := own_sl hown'
      have hfa : Fr [] A (A.drew.alloc (.cells #[.int .u64 (t : Int), .int .i64 (y : Int), .int .i64 x] 249)) := (Fr.refl [] A).drew.alloc _
      have HN := toHid (HA.out.1.due HA.out.2.1 HA.out.2.2.1 HA.out.2.2.2.1 HA.out.2.2.2.2.1 HA.out.2.2.2.2.2 hfa hgrow hown')
      have fro : Fr ov1.ownBlock.toList A w1 := (hfa.mono (by simp)).trans (Fr.of_grown hgrow)
      have hb1 := (fro.block cp hlA (by simp; exact nrow)).trans HA.out.2.1
      have g0 := (fro.block w.heap.size (by omega) (by simp; exact m0)).trans B0
      have g1 := (fro.block (w.heap.size + 1) (by omega) (by simp; exact m1)).trans B1
      have g2 := (fro.block (w.heap.size + 1 + 1) (by omega) (by simp; exact m2)).trans B2
      have d6 := blk_cell hb1 6
      have f6 := blk_free hb1 6
      have k0 := blk_cell g0 0
      have k1 := blk_cell g1 0
      have k2 := blk_cell g2 0
      simp at d6 k0 k1 k2
      have y0 := fun v => (setCell_far w1 cp 6 w.heap.size 0 v (by omega)).trans k0
      have y1 := fun v => (setCell_far w1 cp 6 (w.heap.size + 1) 0 v (by omega)).trans k1
      have y2 := fun v => (setCell_far w1 cp 6 (w.heap.size + 1 + 1) 0 v (by omega)).trans k2
      clear hown' hgrow hfa fro hb1 g0 g1 g2
      refine hK.out _ _ ?_ (fun hHeld => ?_)
      · simp [*]
      clear hK K
      (try simp only [Act.put, List.setIfInBounds_toArray])
      refine wpAnyH_take (i := 11) (oi := { dst := some 29, op := Op.nilCheck (Operand.tmp 18), type := 0, pos := "coordinator.go:125", after := #[{ on := 0, ground := Ground.data }, { on := 0, ground := Ground.phase }, { on := 1, ground := Ground.phase }, { on := 2, ground := Ground.phase }, { on := 3, ground := Ground.phase }, { on := 4, ground := Ground.phase }, { on := 5, ground := Ground.phase }, { on := 6, ground := Ground.phase }, { on := 7, ground := Ground.phase }, { on := 8, ground := Ground.phase }, { on := 9, ground := Ground.phase }, { on := 10, ground := Ground.phase }], guard := none }) (v := .pointer (some ⟨cp, 0, none⟩)) rfl (by kernel_rfl) (by kernel_rfl) (by kernel_rfl) (fun _ _ _ h => h) (Or.inl ⟨by rfl, ?_⟩) (by assumption) ?_
      · intro w hSw; (try dsimp only at hSw); go_simp
      (try simp only [Act.put])
      refine wpAnyH_take (i := 12) (oi := { dst := some 30, op := Op.fieldAddr 147 (Operand.tmp 29) 6, type := 0, pos := "coordinator.go:125", after := #[{ on := 11, ground := Ground.data }, { on := 0, ground := Ground.phase }, { on := 1, ground := Ground.phase }, { on := 2, ground := Ground.phase }, { on := 3, ground := Ground.phase }, { on := 4, ground := Ground.phase }, { on := 5, ground := Ground.phase }, { on := 6, ground := Ground.phase }, { on := 7, ground := Ground.phase }, { on := 8, ground := Ground.phase }, { on := 9, ground := Ground.phase }, { on := 10, ground := Ground.phase }], guard := none }) (v := .pointer (some ⟨cp, 6, none⟩)) rfl (by kernel_rfl) (by kernel_rfl) (by kernel_rfl) (fun _ _ _ h => h) (Or.inl ⟨by rfl, ?_⟩) (by assumption) ?_
      · intro w hSw; (try dsimp only at hSw); go_simp
      (try simp only [Act.put])
      refine wpAnyH_ready (rs := [13]) (by kernel_rfl) (by simp) ?_
      refine AllReadyH.cons rfl (fun K hK => ?_) AllReadyH.nil
      go_simp
      refine hK.out _ _ ?_ (fun hHeld => ?_)
      · simp [*]
      clear hK K
      (try simp only [Act.put, List.setIfInBounds_toArray, List.set_cons_zero, List.set_cons_succ])
      refine wpAnyH_done (by kernel_rfl) ?_ _
      exact ⟨rfl, HE.out _ HN.out⟩
    · go_simp
      refine hK.out _ _ ?_ (fun hHeld => ?_)
      · exact ⟨al0 _, al1 _, al2 _⟩
      clear hK K
      (try simp only [Act.put, List.setIfInBounds_toArray, List.set_cons_zero, List.set_cons_succ])
      refine wpAnyH_ready (rs := [4]) (by kernel_rfl) (by simp) ?_
      refine AllReadyH.cons (o := { dst := some 22, op := Op.load 145 (Operand.tmp 21), type := 145, pos := "coordinator.go:125", after := #[{ on := 3, ground := Ground.data }], guard := none }) rfl (fun K hK => ?_) AllReadyH.nil
      go_simp
      refine hK.out _ _ ?_ (fun hHeld => ?_)
      · exact ⟨al0 _, al1 _, al2 _⟩
      clear hK K
      (try simp only [Act.put, List.setIfInBounds_toArray, List.set_cons_zero, List.set_cons_succ])
      refine wpAnyH_ready (rs := [10]) (by kernel_rfl) (by simp) ?_
      refine AllReadyH.cons rfl (fun K hK => ?_) AllReadyH.nil
      rw [if_pos (by rfl)]
      refine wp_dueat _ _ rfl B ov1 ko1 xo1 t (y : Int) x A.heap.size rfl (ownsRow_fr HA.out.2.2.2.1 ((Fr.refl [] A).drew.alloc _) (by simp)) rfl (heap_alloc_new _ _) (by omega) (by have := HA.out.1.low; simp; omega) ?_
      intro v' w1 hown' hgrow
      obtain ⟨av, mv, cv, rfl⟩ := own_sl hown'
      have hfa : Fr [] A (A.drew.alloc (.cells #[.int .u64 (t : Int), .int .i64 (y : Int), .int .i64 x] 249)) := (Fr.refl [] A).drew.alloc _
      have HN := toHid (HA.out.1.due HA.out.2.1 HA.out.2.2.1 HA.out.2.2.2.1 HA.out.2.2.2.2.1 HA.out.2.2.2.2.2 hfa hgrow hown')
      have fro : Fr ov1.ownBlock.toList A w1 := (hfa.mono (by simp)).trans (Fr.of_grown hgrow)
      have hb1 := (fro.block cp hlA (by simp; exact nrow)).trans HA.out.2.1
      have g0 := (fro.block w.heap.size (by omega) (by simp; exact m0)).trans B0
      have g1 := (fro.block (w.heap.size + 1) (by omega) (by simp; exact m1)).trans B1
      have g2 := (fro.block (w.heap.size + 1 + 1) (by omega) (by simp; exact m2)).trans B2
      have d6 := blk_cell hb1 6
      have f6 := blk_free hb1 6
      have k0 := blk_cell g0 0
      have k1 := blk_cell g1 0
      have k2 := blk_cell g2 0
      simp at d6 k0 k1 k2
      have y0 := fun v => (setCell_far w1 cp 6 w.heap.size 0 v (by omega)).trans k0
      have y1 := fun v => (setCell_far w1 cp 6 (w.heap.size + 1) 0 v (by omega)).trans k1
      have y2 := fun v => (setCell_far w1 cp 6 (w.heap.size + 1 + 1) 0 v (by omega)).trans k2
      clear hown' hgrow hfa fro hb1 g0 g1 g2
      refine hK.out _ _ ?_ (fun hHeld => ?_)
      · simp [*]
      clear hK K
      (try simp only [Act.put, List.setIfInBounds_toArray])
      refine wpAnyH_take (i := 11) (oi := { dst := some 29, op := Op.nilCheck (Operand.tmp 18), type := 0, pos := "coordinator.go:125", after := #[{ on := 0, ground := Ground.data }, { on := 0, ground := Ground.phase }, { on := 1, ground := Ground.phase }, { on := 2, ground := Ground.phase }, { on := 3, ground := Ground.phase }, { on := 4, ground := Ground.phase }, { on := 5, ground := Ground.phase }, { on := 6, ground := Ground.phase }, { on := 7, ground := Ground.phase }, { on := 8, ground := Ground.phase }, { on := 9, ground := Ground.phase }, { on := 10, ground := Ground.phase }], guard := none }) (v := .pointer (some ⟨cp, 0, none⟩)) rfl (by kernel_rfl) (by kernel_rfl) (by kernel_rfl) (fun _ _ _ h => h) (Or.inl ⟨by rfl, ?_⟩) (by assumption) ?_
      · intro w hSw; (try dsimp only at hSw); go_simp
      (try simp only [Act.put])
      refine wpAnyH_take (i := 12) (oi := { dst := some 30, op := Op.fieldAddr 147 (Operand.tmp 29) 6, type := 0, pos := "coordinator.go:125", after := #[{ on := 11, ground := Ground.data }, { on := 0, ground := Ground.phase }, { on := 1, ground := Ground.phase }, { on := 2, ground := Ground.phase }, { on := 3, ground := Ground.phase }, { on := 4, ground := Ground.phase }, { on := 5, ground := Ground.phase }, { on := 6, ground := Ground.phase }, { on := 7, ground := Ground.phase }, { on := 8, ground := Ground.phase }, { on := 9, ground := Ground.phase }, { on := 10, ground := Ground.phase }], guard := none }) (v := .pointer (some ⟨cp, 6, none⟩)) rfl (by kernel_rfl) (by kernel_rfl) (by kernel_rfl) (fun _ _ _ h => h) (Or.inl ⟨by rfl, ?_⟩) (by assumption) ?_
      · intro w hSw; (try dsimp only at hSw); go_simp
      (try simp only [Act.put])
      refine wpAnyH_ready (rs := [13]) (by kernel_rfl) (by simp) ?_
      refine AllReadyH.cons rfl (fun K hK => ?_) AllReadyH.nil
      go_simp
      refine hK.out _ _ ?_ (fun hHeld => ?_)
      · simp [*]
      clear hK K
      (try simp only [Act.put, List.setIfInBounds_toArray, List.set_cons_zero, List.set_cons_succ])
      refine wpAnyH_done (by kernel_rfl) ?_ _
      exact ⟨rfl, HE.out _ HN.out⟩
  case done =>
    rintro A ⟨hIA, hfA⟩ hsA hK
    gi_wp2
    refine ⟨by simp, .inl ⟨_, _, rfl, run_takeDeferred hK, ?_⟩⟩
    obtain ⟨W9, hW9⟩ : ∃ W9, W9 = A.putObj w2.heap.size (.deferred none) := ⟨_, rfl⟩
    rw [← hW9]
    have hput : Fr [w2.heap.size] A W9 := by rw [hW9]; exact ⟨rfl, rfl, rfl, by rw [size_put0]; exact Nat.le_refl _, fun j _ hj => World.putObj_heap_other (by simpa using hj)⟩
    have h9 : CoIn W9 B cp lg bT (n + (meant q T.parts).length) c := hIA.fr hput (fun k hk => by
      simp at hk
      subst hk
      refine ⟨by omega, fun e => ?_, fun e => ?_⟩
      · obtain ⟨es, cc, hmm⟩ := hIA.txns.isMap
        rw [← e, hK] at hmm; cases hmm
      · rw [mem_rd, hK] at e; exact absurd e.2 (by simp [isRD]))
    have hl9 : (meant q T.parts).length ≤ 9 := by
      refine Nat.le_trans (List.length_filter_le _ _) ?_
      simp
    have hf9 : RFr B [cp] w W9 := by
      refine ⟨hput.os.trans (hfA.os.trans HR.out.os), hput.tape.trans (hfA.tape.trans HR.out.tape), hput.output.trans (hfA.output.trans HR.out.output), by have := hput.size; have := hfA.size; omega, fun j hj hS => ?_⟩
      rw [hput.block j (by have := hfA.size; omega) (by simp; omega), hfA.block j (by omega) ?_, HR.out.block j hj (by simp)]
      intro hm2
      rcases List.mem_append.1 hm2 with e | e
      · exact hS (List.mem_append_left _ e)
      · rw [mem_rd, HR.out.block j hj (by simp), ← mem_rd] at e
        exact hS (List.mem_append_right _ e)
    exact ⟨_, results_none rfl _ _ _, rfl, h9.mono (by omega), hf9⟩
end Go.Proofs.YtejiankgafjppabGreatDoor
/- THE COORDINATOR: its entries. -/
namespace Go.Proofs.YtejiankgafjppabGreatDoor
open Go.RowKit Go.Shelf Go.Maps
open Sc

set_option maxRecDepth 100000 in
set_option maxHeartbeats 2000000 in
theorem reservedE_any (t : Nat) (w : World) (ht : t < 18446744073709551616) :
    Calls Tryz.prog 138 #[.int .u64 (t : Int)] w fun e w' => e = .returned (.string (str (be 8 t))) ∧ Below w.heap.size w w' := by
  have hg := grow_u64 w.heap.size (.slice none 0 0) [] t 0 w (World.ownsRow_nil _ _ _ _) ht (by omega) (Nat.le_refl _)
  go_enter Tryz.func138, Tryz.ntmps138
  go_wp2_with fail
  refine hg.mono ?_
  clear hg
  rintro e w1 ⟨v', rfl, ho, hb, _⟩
  obtain ⟨g, cap, rfl⟩ := own_pos ho (by omega)
  have hcv := run_str w1 g 0 (0 + 8) cap (be 8 t) (by rw [be_len]) (own_row (by simpa using ho))
  clear ho
  go_wp2
  go_ret
  exact ⟨rfl, hb⟩
set_option maxRecDepth 100000 in
set_option maxHeartbeats 2000000 in
theorem endedE_any (t : Nat) (w : World) (ht : t < 18446744073709551616) :
    Calls Tryz.prog 103 #[.int .u64 (t : Int)] w fun e w' => e = .returned (.string (str (be 8 t))) ∧ Below w.heap.size w w' := by
  have hg := grow_u64 w.heap.size (.slice none 0 0) [] t 0 w (World.ownsRow_nil _ _ _ _) ht (by omega) (Nat.le_refl _)
  go_enter Tryz.func103, Tryz.ntmps103
  go_wp2_with fail
  refine hg.mono ?_
  clear hg
  rintro e w1 ⟨v', rfl, ho, hb, _⟩
  obtain ⟨g, cap, rfl⟩ := own_pos ho (by omega)
  have hcv := run_str w1 g 0 (0 + 8) cap (be 8 t) (by rw [be_len]) (own_row (by simpa using ho))
  clear ho
  go_wp2
  go_ret
  exact ⟨rfl, hb⟩
theorem hasY_en : Enters 154 := enters_of Tryz.func154 (by kernel_rfl) rfl
theorem isAw_en : Enters 94 := enters_of Tryz.func94 (by kernel_rfl) rfl
theorem isToC_en : Enters 101 := enters_of Tryz.func101 (by kernel_rfl) rfl
theorem mayP_en : Enters 157 := enters_of Tryz.func157 (by kernel_rfl) rfl
theorem meant_lt {q : Nat → Bool} {ps : List Nat} {y : Nat} (h : y ∈ meant q ps) : y < 9 := by
  have := (List.mem_filter.1 h).1
  simpa using this
theorem meant_len {q : Nat → Bool} {ps : List Nat} : (meant q ps).length ≤ 9 := by
  refine Nat.le_trans (List.length_filter_le _ _) ?_
  simp
set_option maxRecDepth 100000 in
set_option maxHeartbeats 4000000 in
theorem committedE_any (t : Nat) (T : ATx) (hok : T.Ok) (w : World) (ht : t < 18446744073709551616) :
    Calls Tryz.prog 140 #[.int .u64 (t : Int), txV T] w fun e w' => e = .returned (.string (str (be 8 t ++ meant hasY T.parts))) ∧ Below w.heap.size w w' := by
  obtain ⟨PS, hPS⟩ : ∃ PS, PS = T.parts := ⟨_, rfl⟩
  have HP1 := toHid (fun (n l b1 b2 : Nat) (hn : 2 ≤ n) (W : World) => shards1P n hn l b1 b2 154 hasY hasY_m hasY_en T hok W)
  have hsf0 := fun (n : Nat) (W : World) => shards_fn n 154 T hok W
  rw [← hPS] at HP1 ⊢
  clear hPS
  obtain ⟨s, ps, z⟩ := T
  obtain ⟨p0, p1, p2, p3, p4, p5, p6, p7, p8, hps⟩ := nine hok.1
  change ps = _ at hps
  subst hps
  have HSF := toHid hsf0
  rw [txV_lit]
  obtain ⟨TC, hTC⟩ : ∃ TC : Array Value, TC = (txC ⟨s, [p0, p1, p2, p3, p4, p5, p6, p7, p8], z⟩).toArray := ⟨_, rfl⟩
  have hTC2 : TC = #[.int .i64 (s : Int), .int .u8 (p0 : Int), .int .u8 (p1 : Int), .int .u8 (p2 : Int), .int .u8 (p3 : Int), .int .u8 (p4 : Int), .int .u8 (p5 : Int), .int .u8 (p6 : Int), .int .u8 (p7 : Int), .int .u8 (p8 : Int), .int .u64 (z : Int), .nilIface] := hTC
  obtain ⟨W0, hW0⟩ : ∃ W0, W0 = w.alloc (.cells #[.int .i64 (s : Int), .int .u8 (p0 : Int), .int .u8 (p1 : Int), .int .u8 (p2 : Int), .int .u8 (p3 : Int), .int .u8 (p4 : Int), .int .u8 (p5 : Int), .int .u8 (p6 : Int), .int .u8 (p7 : Int), .int .u8 (p8 : Int), .int .u64 (z : Int), .nilIface] 162) := ⟨_, rfl⟩
  have hfr0 : Below w.heap.size w W0 := by rw [hW0]; exact (Below.refl _ w).alloc (Nat.le_refl _) _
  have hs0 : W0.heap.size = w.heap.size + 1 := by rw [hW0]; simp
  have r0 : W0.heap[w.heap.size]? = some (.cells #[.int .i64 (s : Int), .int .u8 (p0 : Int), .int .u8 (p1 : Int), .int .u8 (p2 : Int), .int .u8 (p3 : Int), .int .u8 (p4 : Int), .int .u8 (p5 : Int), .int .u8 (p6 : Int), .int .u8 (p7 : Int), .int .u8 (p8 : Int), .int .u64 (z : Int), .nilIface] 162 (0, 0)) := by rw [hW0]; exact heap_alloc_new w _
  have hg := (callsIn_wide (n := 5)).2 (grow_u64 W0.heap.size (.slice none 0 0) [] t 0 W0 (World.ownsRow_nil _ _ _ _) ht (by omega) (Nat.le_refl _))
  have hro : Fence.wide.round = none := rfl
  have hf1 : Fence.wide.fn 131 := trivial
  have hf2 : Fence.wide.fn 152 := trivial
  have hf3 : Fence.wide.fn 174 := trivial
  have H0 := toHid (show Below w.heap.size w W0 ∧ W0.heap[w.heap.size]? = some (.cells #[.int .i64 (s : Int), .int .u8 (p0 : Int), .int .u8 (p1 : Int), .int .u8 (p2 : Int), .int .u8 (p3 : Int), .int .u8 (p4 : Int), .int .u8 (p5 : Int), .int .u8 (p6 : Int), .int .u8 (p7 : Int), .int .u8 (p8 : Int), .int .u64 (z : Int), .nilIface] 162 (0, 0)) from ⟨hfr0, r0⟩)
  have HTC := toHid hTC2
  have HTD := toHid hTC
  clear hsf0 hfr0 r0 hTC hTC2
  refine (callsIn_wide (n := 6)).1 ?_
  refine callsIn_of_wp_marks Tryz.func140 rfl trivial ?_ hro
  simp only [Tryz.ntmps140, List.size_toArray, List.length_cons, List.length_nil, Nat.reduceAdd, Nat.reduceSub, Array.replicate_succ, Array.replicate_zero, List.push_toArray, List.append_toArray, List.nil_append, List.cons_append]
  gi_wp2_with fail
  rw [← hW0]
  clear hW0
  refine hg.mono ?_
  clear hg
  rintro e w1 ⟨v1, rfl, ho1, hb1, ht1⟩
  obtain ⟨g1, c1, rfl⟩ := own_pos ho1 (by omega)
  simp only [Nat.zero_add, List.nil_append] at ho1
  have hz1 := hb1.size
  obtain ⟨W2, hW2⟩ : ∃ W2, W2 = w1.alloc (.cells #[.slice (some ⟨g1, 0, none⟩) 8 c1] 29) := ⟨_, rfl⟩
  have r2 := (hb1.block w.heap.size (by omega)).trans H0.out.2
  have q0 : W2.heap[w.heap.size]? = some (.cells #[.int .i64 (s : Int), .int .u8 (p0 : Int), .int .u8 (p1 : Int), .int .u8 (p2 : Int), .int .u8 (p3 : Int), .int .u8 (p4 : Int), .int .u8 (p5 : Int), .int .u8 (p6 : Int), .int .u8 (p7 : Int), .int .u8 (p8 : Int), .int .u64 (z : Int), .nilIface] 162 (0, 0)) := by rw [hW2, Below.heap_alloc _ _ _ (by omega)]; exact r2
  have e0 := blk_cell q0 0
  have e1 := blk_cell q0 1
  have e2 := blk_cell q0 2
  have e3 := blk_cell q0 3
  have e4 := blk_cell q0 4
  have e5 := blk_cell q0 5
  have e6 := blk_cell q0 6
  have e7 := blk_cell q0 7
  have e8 := blk_cell q0 8
  have e9 := blk_cell q0 9
  have ea := blk_cell q0 10
  have eb := blk_cell q0 11
  simp at e0 e1 e2 e3 e4 e5 e6 e7 e8 e9 ea eb
  have hsf := HSF.out 5 W2
  rw [txV_lit, ← HTD.out] at hsf
  have hs2 : W2.heap.size = w1.heap.size + 1 := by rw [hW2]; simp
  have qb : W2.heap[w1.heap.size]? = some (.cells #[.slice (some ⟨g1, 0, none⟩) 8 c1] 29 (0, 0)) := by rw [hW2]; exact heap_alloc_new w1 _
  have ho2 : W2.ownsRow W0.heap.size 5 1 (.slice (some ⟨g1, 0, none⟩) 8 c1) 8 (bs (be 8 t)) := by rw [hW2]; exact ho1.alloc _
  have hB2 : Below W0.heap.size W0 W2 := by rw [hW2]; exact hb1.alloc (by omega) _
  have H2 := toHid (show W2.heap[w1.heap.size]? = some (.cells #[.slice (some ⟨g1, 0, none⟩) 8 c1] 29 (0, 0)) ∧ W2.ownsRow W0.heap.size 5 1 (.slice (some ⟨g1, 0, none⟩) 8 c1) 8 (bs (be 8 t)) ∧ Below W0.heap.size W0 W2 from ⟨qb, ho2, hB2⟩)
  rw [hW2] at e0 e1 e2 e3 e4 e5 e6 e7 e8 e9 ea eb
  clear qb ho2 hB2 ho1 hb1 ht1 r2 q0
  gi_wp2_with fail
  rw [← hW2]
  clear hW2 e0 e1 e2 e3 e4 e5 e6 e7 e8 e9 ea eb
  refine hsf.mono ?_
  clear hsf
  rintro e w5 ⟨rfl, hw5⟩
  have hs5 : w5.heap.size = w1.heap.size + 3 := by rw [hw5]; simp; omega
  have hB5 : Below W2.heap.size W2 w5 := by rw [hw5]; exact ((Below.refl _ W2).alloc (Nat.le_refl _) _).alloc (by simp) _
  have q1 : w5.heap[w1.heap.size + 1]? = some (.cells TC 162 (0, 0)) := by
    rw [hw5, Below.heap_alloc _ _ _ (by simp; omega), ← hs2]
    exact heap_alloc_new W2 _
  have q2 : w5.heap[w1.heap.size + 1 + 1]? = some (.cells #[fnV 154] 166 (0, 0)) := by
    rw [hw5]
    have := heap_alloc_new (W2.alloc (.cells TC 162)) (.cells #[fnV 154] 166)
    rw [World.size_alloc, hs2] at this
    exact this
  have q3 := (hB5.block w1.heap.size (by omega)).trans H2.out.1
  have q4 : w5.ownsRow W0.heap.size 5 1 (.slice (some ⟨g1, 0, none⟩) 8 c1) 8 (bs (be 8 t)) := ownsRow_fr H2.out.2.1 (Fr.of_below hB5 []) (by simp)
  have q5 : Below W0.heap.size W0 w5 := H2.out.2.2.trans (hB5.mono (by omega))
  clear hw5 hB5 H2
  rw [hs2]
  have hz2 : W0.heap.size ≤ w1.heap.size := hz1
  gi_wp2
  refine wpIn_range_s (F := Fence.wide) (n := 6) rfl (by omega) (gf := 212) (lb := #[.pointer (some ⟨w1.heap.size + 1, 0, none⟩), .pointer (some ⟨w1.heap.size + 1 + 1, 0, none⟩)]) rfl trivial (enters_of Tryz.func212 (by kernel_rfl) rfl)
    (encs := fun y : Nat => #[.int .i64 (y : Int)]) (rs := meant hasY PS) (S := [w1.heap.size + 1, w1.heap.size + 1 + 1]) (fun _ => rfl) (by intro k hk; simp at hk; omega)
    (fun Wx hbx _ => HP1.out 5 _ (w1.heap.size + 1) (w1.heap.size + 1 + 1) (by omega) Wx (by rw [← HTD.out]; exact (hbx.block _ (by omega)).trans q1) ((hbx.block _ (by omega)).trans q2))
    (fun pre A => (∃ v, A.heap[w1.heap.size]? = some (.cells #[v] 29 (0, 0)) ∧ A.ownsRow W0.heap.size 5 1 v (8 + pre.length) (bs (be 8 t ++ pre))) ∧ Below W0.heap.size W0 A ∧ A.heap[w1.heap.size + 1]? = some (.cells TC 162 (0, 0)) ∧ A.heap[w1.heap.size + 1 + 1]? = some (.cells #[fnV 154] 166 (0, 0)))
    (fun Wx hbx => ⟨⟨_, (hbx.block _ (by omega)).trans q3, by simpa using ownsRow_fr q4 (Fr.of_below hbx []) (by simp)⟩, q5.trans (hbx.mono (by omega)), (hbx.block _ (by omega)).trans q1, (hbx.block _ (by omega)).trans q2⟩)
    (fun l A r hs hsA hlo => by
      obtain ⟨r0, hlo⟩ := hlo
      have hput : Fr [w5.heap.size + 1] A (A.putObj (w5.heap.size + 1) (.loop r)) := ⟨rfl, rfl, rfl, by rw [size_put0]; exact Nat.le_refl _, fun j _ hj => World.putObj_heap_other (by simpa using hj)⟩
      obtain ⟨⟨v, y1, y2⟩, y3, y4, y5⟩ := hs
      refine ⟨⟨v, (World.putObj_heap_other (by omega)).trans y1, ownsRow_fr y2 hput (fun g hg hm => ?_)⟩, y3.trans (hput.below (by omega) (by intro k hk; simp at hk; omega)), (World.putObj_heap_other (by omega)).trans y4, (World.putObj_heap_other (by omega)).trans y5⟩
      simp at hm
      obtain ⟨cc, hc⟩ := own_cells y2 hg
      rw [hm, hlo] at hc; cases hc)
    (fun y a' A => a' = { tmps := #[.int .u64 (t : Int), .agg #[.int .i64 (s : Int), .int .u8 (p0 : Int), .int .u8 (p1 : Int), .int .u8 (p2 : Int), .int .u8 (p3 : Int), .int .u8 (p4 : Int), .int .u8 (p5 : Int), .int .u8 (p6 : Int), .int .u8 (p7 : Int), .int .u8 (p8 : Int), .int .u64 (z : Int), .nilIface], undef, .pointer (some ⟨w.heap.size, 0, none⟩), .string { data := #[] }, .pointer (some ⟨w1.heap.size, 0, none⟩), .int .i64 (y : Int), .int .u64 (t : Int), .slice (some ⟨g1, 0, none⟩) 8 c1, .agg #[.int .i64 (s : Int), .int .u8 (p0 : Int), .int .u8 (p1 : Int), .int .u8 (p2 : Int), .int .u8 (p3 : Int), .int .u8 (p4 : Int), .int .u8 (p5 : Int), .int .u8 (p6 : Int), .int .u8 (p7 : Int), .int .u8 (p8 : Int), .int .u64 (z : Int), .nilIface], .func (.func 212) #[] #[.pointer (some ⟨w1.heap.size + 1, 0, none⟩), .pointer (some ⟨w1.heap.size + 1 + 1, 0, none⟩)], .int .i64 (y : Int), undef, undef, undef, undef, undef, undef], defers := [] })
    (fun y a' A r hs => hs)
    ?assign ?body ?done
  case assign =>
    have hsem := @Oper.semAt_some
    rintro pre y A K hI hsA hpre hK
    gi_wp2
    exact hK _ _ hI (KpS.refl _) rfl
  case body =>
    have hsem := @Oper.semAt_some
    rintro pre y a' A ⟨⟨v, y1, y2⟩, y3, y4, y5⟩ hsA rfl hpre hdf hlo
    have hpl : pre.length + 1 ≤ 9 := by
      have := hpre.length_le
      have h9 := meant_len (q := hasY) (ps := PS)
      simp at this
      omega
    have hy9 : y < 9 := meant_lt (hpre.subset (by simp))
    have j1 : IntKind.u8.wrap (y : Int) = (y : Int) := by rw [IntKind.wrap_u8]; omega
    have hga := (callsIn_wide (n := 3)).2 (grow_u8 W0.heap.size v (be 8 t ++ pre) y (8 + pre.length) A y2 (by omega) (by omega) (by omega))
    have d0 := blk_cell y1 0
    simp at d0
    have HA := toHid (show A.heap[w1.heap.size]? = some (.cells #[v] 29 (0, 0)) ∧ Below W0.heap.size W0 A ∧ A.heap[w1.heap.size + 1]? = some (.cells TC 162 (0, 0)) ∧ A.heap[w1.heap.size + 1 + 1]? = some (.cells #[fnV 154] 166 (0, 0)) ∧ A.heap[w5.heap.size]? = some (.deferred (some [])) ∧ (∃ r, A.heap[w5.heap.size + 1]? = some (.loop r)) from ⟨y1, y3, y4, y5, hdf, hlo⟩)
    clear y1 y2 y3 y4 y5 hdf hlo
    gi_wp2_with fail
    refine hga.mono ?_
    clear hga
    rintro e A2 ⟨v2, rfl, o2, b2, t2⟩
    rw [be1 (by omega), List.append_assoc] at o2
    obtain ⟨g3, c3, rfl⟩ := own_pos o2 (by omega)
    have z1 := (t2.block w1.heap.size (by omega) (fun c e => by rw [HA.out.1] at e; cases e)).trans HA.out.1
    have z4 := (t2.block (w1.heap.size + 1) (by omega) (fun c e => by rw [HA.out.2.2.1] at e; cases e)).trans HA.out.2.2.1
    have z5 := (t2.block (w1.heap.size + 1 + 1) (by omega) (fun c e => by rw [HA.out.2.2.2.1] at e; cases e)).trans HA.out.2.2.2.1
    have z6 := (t2.block w5.heap.size (by omega) (fun c e => by rw [HA.out.2.2.2.2.1] at e; cases e)).trans HA.out.2.2.2.2.1
    obtain ⟨r, hlo⟩ := HA.out.2.2.2.2.2
    have z7 := (t2.block (w5.heap.size + 1) (by omega) (fun c e => by rw [hlo] at e; cases e)).trans hlo
    have hsz3 := t2.size
    have k0 := blk_cell z1 0
    have f0 := blk_free z1 0
    simp at k0
    obtain ⟨A3, hA3⟩ : ∃ A3, A3 = A2.setCell ⟨w1.heap.size, 0, none⟩ (.slice (some ⟨g3, 0, none⟩) (8 + pre.length + 1) c3) := ⟨_, rfl⟩
    have hfs : Fr [w1.heap.size] A2 A3 := by rw [hA3]; exact Fr.set1 (by simp) _ _
    have m1 : A3.heap[w1.heap.size]? = some (.cells #[.slice (some ⟨g3, 0, none⟩) (8 + pre.length + 1) c3] 29 (0, 0)) := by
      rw [hA3]
      have := blk_set z1 0 (.slice (some ⟨g3, 0, none⟩) (8 + pre.length + 1) c3)
      simpa using this
    have m2 : A3.ownsRow W0.heap.size 5 1 (.slice (some ⟨g3, 0, none⟩) (8 + pre.length + 1) c3) (8 + pre.length + 1) (bs (be 8 t ++ (pre ++ [y]))) := ownsRow_fr o2 hfs (fun g hg => by simp; intro e; subst e; exact own_ne o2 z1 (by decide) hg)
    have HN := toHid (show ((∃ v, A3.heap[w1.heap.size]? = some (.cells #[v] 29 (0, 0)) ∧ A3.ownsRow W0.heap.size 5 1 v (8 + (pre ++ [y]).length) (bs (be 8 t ++ (pre ++ [y])))) ∧ Below W0.heap.size W0 A3 ∧ A3.heap[w1.heap.size + 1]? = some (.cells TC 162 (0, 0)) ∧ A3.heap[w1.heap.size + 1 + 1]? = some (.cells #[fnV 154] 166 (0, 0))) ∧ KpS (w5.heap.size :: (w5.heap.size + 1) :: [w1.heap.size + 1, w1.heap.size + 1 + 1]) A A3 from
      ⟨⟨⟨_, m1, by rw [List.length_append]; exact m2⟩, HA.out.2.1.trans (b2.trans (hfs.below (by omega) (by intro k hk; simp at hk; omega))), (hfs.block _ (by omega) (by simp)).trans z4, (hfs.block _ (by omega) (by simp; omega)).trans z5⟩, Nat.le_trans hsz3 hfs.size, fun k hk hlt => by
        simp at hk
        rcases hk with rfl | rfl | rfl | rfl
        · rw [hfs.block _ (by omega) (by simp; omega), z6, HA.out.2.2.2.2.1]
        · rw [hfs.block _ (by omega) (by simp; omega), z7, hlo]
        · rw [hfs.block _ (by omega) (by simp), z4, HA.out.2.2.1]
        · rw [hfs.block _ (by omega) (by simp; omega), z5, HA.out.2.2.2.1]⟩)
    clear o2 b2 t2 z1 z4 z5 z6 z7 hlo m1 m2 hfs HA
    gi_wp2
    rw [← hA3]
    have hn := HN.out
    simp only [List.length_append, List.length_cons, List.length_nil, Nat.zero_add, hs0, hs5] at hn
    exact hn
  case done =>
    rintro A ⟨⟨v, y1, y2⟩, y3, y4, y5⟩ hsA hK
    obtain ⟨g3, c3, rfl⟩ := own_pos y2 (by omega)
    have d0 := blk_cell y1 0
    simp at d0
    have hcv := run_str A g3 0 (8 + (meant hasY PS).length) c3 (be 8 t ++ meant hasY PS) (by rw [List.length_append, be_len]) (own_row y2)
    gi_wp2
    refine ⟨by simp, .inl ⟨_, _, rfl, run_takeDeferred hK, ?_⟩⟩
    refine ⟨.string (str (be 8 t ++ meant hasY PS)), by simp [results, Tryz.results140, go_sem], rfl, ?_⟩
    have hput : Below w.heap.size A (A.putObj w5.heap.size (.deferred none)) := ⟨rfl, rfl, rfl, by rw [size_put0]; exact Nat.le_refl _, fun j hj => World.putObj_heap_other (by omega)⟩
    exact H0.out.1.trans ((y3.mono (by omega)).trans hput)
end Go.Proofs.YtejiankgafjppabGreatDoor
/- THE COORDINATOR: Commit, abort. -/
namespace Go.Proofs.YtejiankgafjppabGreatDoor
open Go.RowKit Go.Shelf Go.Maps
open Sc

theorem getD_set {ps : List Nat} {k p : Nat} (hk : k < ps.length) (j : Nat) : (ps.set k p).getD j 0 = if j = k then p else ps.getD j 0 := by
  rw [List.getD_eq_getElem?_getD, List.getD_eq_getElem?_getD, List.getElem?_set]
  by_cases h : k = j
  · subst h; simp [hk]
  · rw [if_neg h, if_neg (fun e => h e.symm)]
theorem set_ok {t : ATx} {k p : Nat} (h : t.Ok) (hp : p < 256) : ATx.Ok { t with parts := t.parts.set k p } :=
  ⟨by simp [h.1], fun x hx => by
    rcases List.mem_or_eq_of_mem_set hx with e | e
    · exact h.2 x e
    · rw [e]; exact hp⟩
theorem partsL_lt {xs : List Nat} {e : Nat} (he : e < 256) : ∀ p ∈ partsL xs e, p < 256 := by
  have : ∀ (l ps : List Nat), (∀ p ∈ ps, p < 256) → ∀ p ∈ l.foldl (fun ps x => ps.set x e) ps, p < 256 := by
    intro l
    induction l with
    | nil => intro ps h; exact h
    | cons a r ih =>
      intro ps h
      rw [List.foldl_cons]
      refine ih _ (fun p hp => ?_)
      rcases List.mem_or_eq_of_mem_set hp with e1 | e1
      · exact h p e1
      · rw [e1]; exact he
  exact this xs _ (by decide)
theorem partsL_ok (xs : List Nat) (s e z : Nat) (he : e < 256) : ATx.Ok ⟨s, partsL xs e, z⟩ := ⟨partsL_len xs e, partsL_lt he⟩
theorem IntsAt.fr {w w' : World} {g : Nat} {xs : List Nat} {S : List Nat} (h : IntsAt w g xs) (hf : Fr S w w') (hg : g ∉ S) : IntsAt w' g xs := fun k x hk =>
  (World.cell?_of_block (a := ⟨g, k, none⟩) (hf.block g (World.block_lt_of_cell? w _ (h k x hk)) hg)).trans (h k x hk)
set_option maxRecDepth 100000 in
set_option maxHeartbeats 4000000 in
theorem cCommit_any (B cp lg bT n t g cap : Nat) (xs : List Nat) (c : ACo) (w : World) (h : CoIn w B cp lg bT n c) (ht : t < 18446744073709551616) (hst : (c.tx t).state = 4) (hr : Rising xs) (hx : IntsAt w g xs) (hn : n + 10 < 67108864) :
    Calls Tryz.prog 54 #[.pointer (some ⟨cp, 0, none⟩), .int .u64 (t : Int), .slice (some ⟨g, 0, none⟩) xs.length cap] w fun e w' => e = .returned .nilIface ∧ CoIn w' B cp lg bT (n + 10) { c with txns := alPut c.txns t ⟨5, partsL xs 1, c.ticks⟩ } ∧ RFr B [cp, bT] w w' := by
  have hs := status_any B cp lg bT n t c w h ht
  rw [hst] at hs
  have hri := rise_any g cap xs hr w hx
  have hpo := partsOf_any g cap 1 xs hr w.drew hx
  obtain ⟨q0, q1, q2, q3, q4, q5, q6, q7, q8, hq⟩ := nine (partsL_len xs 1)
  have hlit : psV (partsL xs 1) = .agg #[.int .u8 (q0 : Int), .int .u8 (q1 : Int), .int .u8 (q2 : Int), .int .u8 (q3 : Int), .int .u8 (q4 : Int), .int .u8 (q5 : Int), .int .u8 (q6 : Int), .int .u8 (q7 : Int), .int .u8 (q8 : Int)] := by rw [hq]; rfl
  rw [hlit] at hpo
  have hput : ∀ W, Fr [] w W → ∃ w5, (Instr.mapUpdate 143 (.map (some bT)) (.int .u64 (t : Int)) (.agg #[.int .i64 5, .int .u8 (q0 : Int), .int .u8 (q1 : Int), .int .u8 (q2 : Int), .int .u8 (q3 : Int), .int .u8 (q4 : Int), .int .u8 (q5 : Int), .int .u8 (q6 : Int), .int .u8 (q7 : Int), .int .u8 (q8 : Int), .int .u64 (c.ticks : Int), .nilIface])).run Tryz.prog W = .ok () w5 ∧ CoIn w5 B cp lg bT (n + 1) { c with txns := alPut c.txns t ⟨5, partsL xs 1, c.ticks⟩ } ∧ Fr [bT] W w5 := by
    intro W hW
    have h2 := h.new hW
    obtain ⟨w5, hr5, hm5, hg5⟩ := h2.txns.putRun Tryz.underlying143 (by unfold maxLen; omega) (k := t) ht (v := (⟨5, partsL xs 1, c.ticks⟩ : ATx)) (partsL_ok xs 5 1 c.ticks (by decide))
    refine ⟨w5, ?_, h2.setTxns (Fr.of_grown1 hg5) hm5 (by omega), Fr.of_grown1 hg5⟩
    have e : (EX.ev ⟨5, partsL xs 1, c.ticks⟩ : Value) = txV ⟨5, partsL xs 1, c.ticks⟩ := rfl
    rw [e, hq, txV_lit] at hr5
    exact hr5
  obtain ⟨rv, ov, kr, ko, xr, xo, h1, _⟩ := h.ex
  have c1 := blk_cell h1 1
  have c4 := blk_cell h1 4
  simp at c1 c4
  have hcl := h.lts
  have HP := toHid hput
  have HS := toHid (fun (W : World) (hW : CoIn W B cp lg bT (n + 1) { c with txns := alPut c.txns t ⟨5, partsL xs 1, c.ticks⟩ }) => send_any B cp lg bT (n + 1) t 94 isAw isAw_m isAw_en 1 { c with txns := alPut c.txns t ⟨5, partsL xs 1, c.ticks⟩ } W hW ht (by omega))
  clear hput hlit hq h1 hx h
  go_enter Tryz.func54, Tryz.ntmps54
  go_wp2_with fail
  refine hs.mono ?_
  clear hs
  rintro e w1 ⟨rfl, hw1⟩
  subst hw1
  go_wp2_with fail
  refine hri.mono ?_
  clear hri
  rintro e w2 ⟨rfl, hw2⟩
  subst hw2
  go_wp2
  go_region_held3 (fun w' => w'.cell? ⟨cp, 1, none⟩ = some (.map (some bT)) ∧ w'.cell? ⟨cp, 4, none⟩ = some (.int .u64 (c.ticks : Int)))
    (simp [*])
    (first | (go_at_call 92; refine hpo.mono ?_; rintro e w4 ⟨rfl, hf4⟩; have z1 := (World.cell?_of_block (a := ⟨cp, 1, none⟩) (hf4.block cp hcl.1 (by simp))).trans c1; have z4 := (World.cell?_of_block (a := ⟨cp, 4, none⟩) (hf4.block cp hcl.1 (by simp))).trans c4; obtain ⟨w5, hr5, hc5, hf5⟩ := HP.out w4 ⟨hf4.os, hf4.tape, hf4.output, hf4.size, hf4.block⟩; have y1 := (World.cell?_of_block (a := ⟨cp, 1, none⟩) (hf5.block cp (Nat.lt_of_lt_of_le hcl.1 hf4.size) (by simpa using hcl.2.2))).trans z1; have y4 := (World.cell?_of_block (a := ⟨cp, 4, none⟩) (hf5.block cp (Nat.lt_of_lt_of_le hcl.1 hf4.size) (by simpa using hcl.2.2))).trans z4; have H5 := toHid (And.intro hc5 (And.intro hf4 hf5)); clear hc5 hf4 hf5))
  have hse := HS.out w5 H5.out.1
  go_wp2_with fail
  refine hse.mono ?_
  clear hse
  rintro e w6 ⟨rfl, hc6, hf6⟩
  have HN := toHid (show CoIn w6 B cp lg bT (n + 10) { c with txns := alPut c.txns t ⟨5, partsL xs 1, c.ticks⟩ } ∧ RFr B [cp, bT] w2 w6 from ⟨hc6.mono (by omega), by
    have k1 : Fr [] w2 w4 := ⟨H5.out.2.1.os, H5.out.2.1.tape, H5.out.2.1.output, H5.out.2.1.size, H5.out.2.1.block⟩
    have k2 : RFr B [cp, bT] w2 w4 := (k1.mono (by simp)).r
    have k3 : RFr B [cp, bT] w4 w5 := Fr.r (H5.out.2.2.mono (fun k _ hk => by simp at hk; simp [hk]))
    exact RFr.trans (RFr.trans k2 k3) (RFr.mono hf6 (by simp))⟩)
  clear hc6 hf6
  go_wp2
  go_ret
  exact ⟨rfl, HN.out⟩
end Go.Proofs.YtejiankgafjppabGreatDoor
/- THE COORDINATOR: abort; commit, where none said Yes. -/
namespace Go.Proofs.YtejiankgafjppabGreatDoor
open Go.RowKit Go.Shelf Go.Maps
open Sc

theorem alDel_put {K V : Type} [DecidableEq K] (l : List (K × V)) (k : K) (v : V) : alDel (alPut l k v) k = alDel l k := by
  unfold alPut alDel
  simp
set_option maxRecDepth 100000 in
set_option maxHeartbeats 4000000 in
theorem cabort_any (B cp lg bT n t : Nat) (c : ACo) (w : World) (h : CoIn w B cp lg bT n c) (ht : t < 18446744073709551616) (hn : n + 10 < 67108864) :
    Calls Tryz.prog 100 #[.pointer (some ⟨cp, 0, none⟩), .int .u64 (t : Int)] w fun e w' => e = .returned (.tuple #[]) ∧ CoIn w' B cp lg bT (n + 10) { c with txns := alDel c.txns t } ∧ RFr B [cp, bT] w w' := by
  have hb := became_any B cp lg bT n t 6 c w h (by omega)
  clear h
  go_enter Tryz.func100, Tryz.ntmps100
  go_wp2_with fail
  refine hb.mono ?_
  clear hb
  rintro e w1 ⟨rfl, hc1, hf1⟩
  have hs := send_any B cp lg bT (n + 1) t 157 mayP mayP_m mayP_en 6 c w1 hc1 ht (by omega)
  have H1 := toHid hf1
  clear hc1 hf1
  go_wp2_with fail
  refine hs.mono ?_
  clear hs
  rintro e w2 ⟨rfl, hc2, hf2⟩
  obtain ⟨rv, ov, kr, ko, xr, xo, h1, _⟩ := hc2.ex
  have c1 := blk_cell h1 1
  simp at c1
  have H2 := toHid (show CoIn w2 B cp lg bT (n + 1 + 9) c ∧ RFr B [cp] w w2 from ⟨hc2, RFr.trans H1.out hf2⟩)
  clear hc2 hf2 h1
  go_wp2_with (first
    | (at_delete; refine wpList_map_del (KR := KU) (ER := EX) rfl _ _ 143 162 rfl Tryz.underlying143 bT (n + 1 + 9) c.txns rfl H2.out.1.txns t ht rfl ?_; intro w3 hm3 hg3)
    | fail)
  have hin3 := H2.out.1.setTxns (Fr.of_grown1 hg3) hm3 (Nat.le_refl _)
  go_end0
  exact ⟨rfl, hin3.mono (by omega), RFr.trans (RFr.mono H2.out.2 (by simp)) (Fr.r ((Fr.of_grown1 hg3).mono (fun k _ hk => by simp at hk; simp [hk])))⟩
set_option maxRecDepth 100000 in
set_option maxHeartbeats 4000000 in
theorem ccommit_none (B cp lg bT n t : Nat) (c : ACo) (T : ATx) (hok : T.Ok) (hno : T.parts.any hasY = false) (w : World) (h : CoIn w B cp lg bT n c) (ht : t < 18446744073709551616) (hn : n + 10 < 67108864) :
    Calls Tryz.prog 99 #[.pointer (some ⟨cp, 0, none⟩), .int .u64 (t : Int), txV T] w fun e w' => e = .returned .nilIface ∧ CoIn w' B cp lg bT (n + 10) { c with txns := alDel c.txns t } ∧ RFr B [cp, bT] w w' := by
  have hha := fun W => has_any 154 hasY hasY_m hasY_en T hok W
  rw [hno] at hha
  have HH := toHid hha
  obtain ⟨s, ps, z⟩ := T
  obtain ⟨p0, p1, p2, p3, p4, p5, p6, p7, p8, hps⟩ := nine hok.1
  change ps = _ at hps
  subst hps
  rw [txV_lit]
  obtain ⟨W0, hW0⟩ : ∃ W0, W0 = w.alloc (.cells #[.int .i64 (s : Int), .int .u8 (p0 : Int), .int .u8 (p1 : Int), .int .u8 (p2 : Int), .int .u8 (p3 : Int), .int .u8 (p4 : Int), .int .u8 (p5 : Int), .int .u8 (p6 : Int), .int .u8 (p7 : Int), .int .u8 (p8 : Int), .int .u64 (z : Int), .nilIface] 162) := ⟨_, rfl⟩
  have hf0 : Fr [] w W0 := by rw [hW0]; exact (Fr.refl [] w).alloc _
  have hh0 := HH.out W0
  rw [txV_lit] at hh0
  have H0 := toHid (show CoIn W0 B cp lg bT n c ∧ Fr [] w W0 from ⟨h.new hf0, hf0⟩)
  clear hha h hf0 hno hok
  go_enter Tryz.func99, Tryz.ntmps99
  go_wp2_with fail
  rw [← hW0]
  clear hW0
  refine hh0.mono ?_
  clear hh0
  rintro e w1 ⟨rfl, hf1⟩
  have hb := became_any B cp lg bT n t 5 c w1 (H0.out.1.new hf1) (by omega)
  have H1 := toHid (H0.out.2.trans hf1)
  clear hf1
  go_wp2_with fail
  refine hb.mono ?_
  clear hb
  rintro e w2 ⟨rfl, hc2, hf2⟩
  obtain ⟨rv, ov, kr, ko, xr, xo, h1, _⟩ := hc2.ex
  have c1 := blk_cell h1 1
  simp at c1
  have H2 := toHid (show CoIn w2 B cp lg bT (n + 1) c ∧ RFr B [cp] w w2 from ⟨hc2, RFr.trans ((H1.out.mono (by simp)).r) hf2⟩)
  clear hc2 hf2 h1
  go_wp2_with (first
    | (at_delete; refine wpList_map_del (KR := KU) (ER := EX) rfl _ _ 143 162 rfl Tryz.underlying143 bT (n + 1) c.txns rfl H2.out.1.txns t ht rfl ?_; intro w3 hm3 hg3)
    | fail)
  have hin3 := H2.out.1.setTxns (Fr.of_grown1 hg3) hm3 (Nat.le_refl _)
  have H3 := toHid (show CoIn w3 B cp lg bT (n + 10) { c with txns := alDel c.txns t } ∧ RFr B [cp, bT] w w3 from ⟨hin3.mono (by omega), RFr.trans (RFr.mono H2.out.2 (by simp)) (Fr.r ((Fr.of_grown1 hg3).mono (fun k _ hk => by simp at hk; simp [hk])))⟩)
  clear hin3 hm3 hg3
  go_wp2
  go_ret
  exact ⟨rfl, H3.out⟩
end Go.Proofs.YtejiankgafjppabGreatDoor
