import Derived.Test.YtejiankgafjppabGreatDoorC30
import Derived.Test.YtejiankgafjppabGreatDoorC28
import Derived.Test.YtejiankgafjppabGreatDoorC27
import Derived.Deep.RegionHeld3
/- THE COORDINATOR: the walk through the shards that are meant. -/
namespace Go.Proofs.YtejiankgafjppabGreatDoor
open Go.RowKit Go.Shelf Go.Maps
open Sc

/-- the shards below k that are meant -/
def meantTo (q : Nat → Bool) (ps : List Nat) (k : Nat) : List Nat := (List.range k).filter fun j => q (ps.getD j 0)
abbrev meant (q : Nat → Bool) (ps : List Nat) : List Nat := meantTo q ps 9
theorem meantTo_yes {q : Nat → Bool} {ps : List Nat} {k : Nat} (h : q (ps.getD k 0) = true) : meantTo q ps (k + 1) = meantTo q ps k ++ [k] := by
  unfold meantTo
  rw [List.range_succ, List.filter_append]
  simp only [List.filter_cons, h, if_true, List.filter_nil]
theorem meantTo_no {q : Nat → Bool} {ps : List Nat} {k : Nat} (h : q (ps.getD k 0) = false) : meantTo q ps (k + 1) = meantTo q ps k := by
  unfold meantTo
  rw [List.range_succ, List.filter_append]
  simp only [List.filter_cons, h, List.filter_nil]
  simp
theorem meantTo_pre {q : Nat → Bool} {ps : List Nat} : ∀ {k : Nat}, k ≤ 9 → meantTo q ps k <+: meant q ps := by
  intro k hk
  have : List.range k <+: List.range 9 := by
    rw [List.prefix_iff_eq_take]
    rw [List.take_range]
    simp [Nat.min_eq_left hk]
  exact this.filter _
theorem getD_lt {ps : List Nat} (hl : ps.length = 9) (hp : ∀ p ∈ ps, p < 256) {k : Nat} (hk : k < 9) : ps.getD k 0 < 256 := by
  have e : ps.getD k 0 = ps[k]'(by omega) := by simp [hl, hk]
  rw [e]
  exact hp _ (List.getElem_mem _)
set_option maxHeartbeats 1000000 in
theorem shards_fn (n mf : Nat) (t : ATx) (ht : t.Ok) (w : World) :
    CallsIn Fence.wide n Tryz.prog 152 #[txV t, fnV mf] w fun e w' => e = .returned (.func (.func 212) #[] #[.pointer (some ⟨w.heap.size, 0, none⟩), .pointer (some ⟨w.heap.size + 1, 0, none⟩)]) ∧ w' = (w.alloc (.cells (txC t).toArray 162)).alloc (.cells #[fnV mf] 166) := by
  obtain ⟨s, ps, z⟩ := t
  obtain ⟨p0, p1, p2, p3, p4, p5, p6, p7, p8, rfl⟩ := nine ht.1
  rw [txV_lit]
  refine callsIn_of_wp Tryz.func152 rfl trivial ?_ rfl
  simp only [Tryz.ntmps152, List.size_toArray, List.length_cons, List.length_nil, Nat.reduceAdd, Nat.reduceSub, Array.replicate_succ, Array.replicate_zero, List.push_toArray, List.append_toArray, List.nil_append, List.cons_append]
  gi_wp2
  go_ret
  exact ⟨rfl, rfl⟩
set_option maxRecDepth 100000 in
set_option maxHeartbeats 4000000 in
theorem shards1_in (n : Nat) (hn : 2 ≤ n) (l b1 b2 mf : Nat) (q : Nat → Bool) (hm : Means mf q) (hen : Enters mf) (t : ATx) (ht : t.Ok) (W : World) (h1 : W.heap[b1]? = some (.cells (txC t).toArray 162 (0, 0))) (h2 : W.heap[b2]? = some (.cells #[fnV mf] 166 (0, 0)))
    (J : List Nat → World → Prop)
    (hY : ∀ pre (x : Nat) W1, J pre W1 → W.heap.size ≤ W1.heap.size → pre ++ [x] <+: meant q t.parts → YieldAt Fence.wide (n - 1) Tryz.prog l #[.int .i64 (x : Int)] W1 fun e W' => e = .returned (.bool true) ∧ J (pre ++ [x]) W' ∧ KpS [b1, b2] W1 W') (h0 : J [] W) :
    CallsIn Fence.wide n Tryz.prog 212 #[.func (.yield l) #[] #[], .pointer (some ⟨b1, 0, none⟩), .pointer (some ⟨b2, 0, none⟩)] W fun e W' => (∃ v, e = .returned v) ∧ J (meant q t.parts) W' := by
  have hro : Fence.wide.round = none := rfl
  have hg : 1 ≤ n := by omega
  have hfm : Fence.wide.fn mf := trivial
  have hb2 : b2 < W.heap.size := (Array.getElem?_eq_some_iff.1 h2).1
  have hid : ∀ k : Nat, k < 9 → ∀ w, (Instr.index 160 (psV t.parts) (.int .i64 (k : Int))).run Tryz.prog w = .ok (.int .u8 ((t.parts.getD k 0 : Nat) : Int)) w := fun k hk w => indexP ht.1 hk w
  have HD : Hid (∀ k : Nat, k < 9 → ∀ w, (Instr.index 160 (psV t.parts) (.int .i64 (k : Int))).run Tryz.prog w = .ok (.int .u8 ((t.parts.getD k 0 : Nat) : Int)) w) := hid
  have HY : Hid (∀ pre (x : Nat) W1, J pre W1 → W.heap.size ≤ W1.heap.size → pre ++ [x] <+: meant q t.parts → YieldAt Fence.wide (n - 1) Tryz.prog l #[.int .i64 (x : Int)] W1 fun e W' => e = .returned (.bool true) ∧ J (pre ++ [x]) W' ∧ KpS [b1, b2] W1 W') := hY
  have HP : Hid (∀ k, k < 9 → t.parts.getD k 0 < 256) := fun k hk => getD_lt ht.1 ht.2 hk
  have HC2 : Hid (W.heap[b2]? = some (.cells #[fnV mf] 166 (0, 0))) := h2
  clear hid hY h2
  obtain ⟨s, ps, z⟩ := t
  obtain ⟨PS, hPS⟩ : ∃ PS, PS = ps := ⟨_, rfl⟩
  obtain ⟨V, hV⟩ : ∃ V, V = psV ps := ⟨_, rfl⟩
  have c1 := blk_cell h1 1
  have c2 := blk_cell h1 2
  have c3 := blk_cell h1 3
  have c4 := blk_cell h1 4
  have c5 := blk_cell h1 5
  have c6 := blk_cell h1 6
  have c7 := blk_cell h1 7
  have c8 := blk_cell h1 8
  have c9 := blk_cell h1 9
  obtain ⟨p0, p1, p2, p3, p4, p5, p6, p7, p8, hnine⟩ := nine ht.1
  rw [← hPS] at HD HY HP ⊢
  change Hid (∀ k : Nat, k < 9 → ∀ w, (Instr.index 160 (psV PS) (.int .i64 (k : Int))).run Tryz.prog w = .ok (.int .u8 ((PS.getD k 0 : Nat) : Int)) w) at HD
  have hnine' : ps = [p0, p1, p2, p3, p4, p5, p6, p7, p8] := hnine
  have hV2 : psV PS = .agg #[.int .u8 (p0 : Int), .int .u8 (p1 : Int), .int .u8 (p2 : Int), .int .u8 (p3 : Int), .int .u8 (p4 : Int), .int .u8 (p5 : Int), .int .u8 (p6 : Int), .int .u8 (p7 : Int), .int .u8 (p8 : Int)] := by rw [hPS, hnine']; rfl
  rw [hV2] at HD
  subst hnine'
  simp [txC] at c1 c2 c3 c4 c5 c6 c7 c8 c9
  clear hPS hV hV2 h1 ht hnine
  refine callsIn_of_wp Tryz.func212 rfl trivial ?_ hro
  simp only [Tryz.ntmps212, List.size_toArray, List.length_cons, List.length_nil, Nat.reduceAdd, Nat.reduceSub, Array.replicate_succ, Array.replicate_zero, List.push_toArray, List.append_toArray, List.nil_append, List.cons_append]
  gi_wp2
  clear c1 c2 c3 c4 c5 c6 c7 c8 c9
  gi_loopw [8] (fun i wr => ∃ k : Nat, k ≤ 9 ∧ i = .int .i64 k ∧ Hid (J (meantTo q PS k) wr ∧ KpS [b2] W wr)) (fun i _ => 9 - (intOf i).toNat)
  case atStart => exact ⟨0, Nat.zero_le _, rfl, h0, KpS.refl _⟩
  case round =>
    obtain ⟨k, hk, rfl, hQ⟩ := hrel
    by_cases hlt : k < 9
    · have i9 : (k : Int) < 9 := by omega
      have hidx := HD.out k hlt
      have hmk := (callsIn_wide (n := n - 1)).2 (hm (PS.getD k 0) wr (HP.out k hlt))
      have hbg := (hQ.out.2.same b2 (by simp) hb2).trans HC2.out
      have d2 := blk_cell hbg 0
      simp at d2
      obtain ⟨P, hP⟩ : ∃ P, P = PS.getD k 0 := ⟨_, rfl⟩
      rw [← hP] at hidx hmk
      cases hq : q P with
      | true =>
        have hsn := meantTo_yes (q := q) (ps := PS) (k := k) (by rw [← hP]; exact hq)
        obtain ⟨fn, tmps, assign, body, hy, hRR⟩ := HY.out _ k wr hQ.out.1 hQ.out.2.size (by rw [← hsn]; exact meantTo_pre (by omega))
        rw [hq] at hmk
        have HS : Hid (meantTo q PS (k + 1) = meantTo q PS k ++ [k]) := hsn
        clear hP hsn hbg
        unfold Enters at hen
        gi_wp2_with fail
        refine hmk.mono ?_
        rintro e w2 ⟨rfl, rfl⟩
        gi_wp2
        refine hRR.mono ?_
        rintro e W3 ⟨rfl, hJ3, hk3⟩
        have HN : Hid (J (meantTo q PS (k + 1)) W3 ∧ KpS [b2] W W3) := ⟨by rw [HS.out]; exact hJ3, hQ.out.2.trans ⟨hk3.size, fun j hj => hk3.same j (by simp at hj ⊢; exact .inr hj)⟩⟩
        clear hJ3 hk3
        gi_wp2
        go_roundw
        case rel => exact ⟨k + 1, by omega, by simp, HN.out⟩
        case measure => simp [intOf]; omega
      | false =>
        have HS : Hid (meantTo q PS (k + 1) = meantTo q PS k) := meantTo_no (by rw [← hP]; exact hq)
        rw [hq] at hmk
        clear hP hbg
        unfold Enters at hen
        have hsem := @Oper.semAt_some
        gi_wp2_with fail
        refine hmk.mono ?_
        rintro e w2 ⟨rfl, rfl⟩
        gi_wp2
        refine ⟨fun f hf => (by cases hf), ?_⟩
        gi_wp2
        go_roundw
        case rel => exact ⟨k + 1, by omega, by simp, by rw [HS.out]; exact hQ.out.1, hQ.out.2⟩
        case measure => simp [intOf]; omega
    · obtain rfl : k = 9 := by omega
      gi_wp2
      go_end0
      exact ⟨⟨_, rfl⟩, hQ.out.1⟩
theorem shards1P (n : Nat) (hn : 2 ≤ n) (l b1 b2 mf : Nat) (q : Nat → Bool) (hm : Means mf q) (hen : Enters mf) (t : ATx) (ht : t.Ok) (W : World) (h1 : W.heap[b1]? = some (.cells (txC t).toArray 162 (0, 0))) (h2 : W.heap[b2]? = some (.cells #[fnV mf] 166 (0, 0))) :
    SeqQ Fence.wide n Tryz.prog 212 #[.pointer (some ⟨b1, 0, none⟩), .pointer (some ⟨b2, 0, none⟩)] (fun x : Nat => #[.int .i64 (x : Int)]) (meant q t.parts) [b1, b2] l W := fun J hY h0 =>
  shards1_in n hn l b1 b2 mf q hm hen t ht W h1 h2 J hY h0
end Go.Proofs.YtejiankgafjppabGreatDoor
/- THE COORDINATOR: became, send. -/
namespace Go.Proofs.YtejiankgafjppabGreatDoor
open Go.RowKit Go.Shelf Go.Maps
open Sc

theorem Tryz.infoRes : (Tryz.prog.info? 178).map (fun i => (i.zero, i.size, i.bytes)) = some (some (.agg #[.int .u64 0, .int .i64 0]), 2, 16) := by kernel_rfl
theorem Tryz.infoDue : (Tryz.prog.info? 249).map (fun i => (i.zero, i.size, i.bytes)) = some (some (.agg #[.int .u64 0, .int .i64 0, .int .i64 0]), 3, 24) := by kernel_rfl
section
variable {w W0 w1 : World} {B cp lg bT n kr ko : Nat} {c : ACo} {rv ov v' : Value} {xr xo ys : List Value}
/-- a result more -/
theorem CoIn.res (h : CoIn w B cp lg bT n c) (h1 : w.heap[cp]? = some (coO lg bT c rv ov)) (h2 : w.ownsRow B 178 2 rv kr xr) (h3 : w.ownsRow B 249 3 ov ko xo) (h4 : kr ≤ n) (h5 : ko ≤ n) (hf0 : Fr [] w W0) (hg : W0.grownBy w1 rv.ownBlock) (ho : w1.ownsRow B 178 2 v' (kr + 1) ys) :
    CoIn (w1.setCell ⟨cp, 5, none⟩ v') B cp lg bT (n + 1) c ∧ RFr B [cp] w (w1.setCell ⟨cp, 5, none⟩ v') := by
  obtain ⟨W, hW⟩ : ∃ W, W = w1.setCell ⟨cp, 5, none⟩ v' := ⟨_, rfl⟩
  rw [← hW]
  have hcl := h.lts
  have nrow : rv.ownBlock ≠ some cp := own_ne h2 h1 (by decide)
  have hb1 : w1.heap[cp]? = some (coO lg bT c rv ov) := ((Fr.of_grown hg).block cp (by have := hf0.size; omega) (by simp; exact nrow)).trans ((hf0.block cp hcl.1 (by simp)).trans h1)
  have hfw : Fr [cp] w1 W := by rw [hW]; exact Fr.set1 (by simp) _ _
  have hf : Fr (cp :: rv.ownBlock.toList) w W := ((hf0.mono (by simp)).andThen ((Fr.of_grown hg).mono (fun k _ hk => List.mem_cons_of_mem cp hk)) (fun j hj _ => hj)).andThen (hfw.mono (fun k _ hk => by simp at hk; simp [hk])) (fun j hj _ => hj)
  have hb : W.heap[cp]? = some (coO lg bT c v' ov) := by
    rw [hW]
    have := blk_set hb1 5 v'
    simpa using this
  have hr : W.ownsRow B 178 2 v' (kr + 1) ys := ownsRow_fr ho hfw (fun g hg => by simp; intro e; subst e; exact own_ne ho hb1 (by decide) hg)
  have inS : ∀ {g : Nat}, g ∈ cp :: rv.ownBlock.toList → g = cp ∨ ∃ cc, w.heap[g]? = some (.cells cc 178 (0, 0)) := fun {g} hm => by
    rcases List.mem_cons.1 hm with e | e
    · exact .inl e
    · simp at e; exact .inr (own_cells h2 e)
  refine ⟨⟨⟨v', ov, kr + 1, ko, ys, xo, hb, hr, ownsRow_fr h3 hf (fun g hg hm => ?_), by omega, by omega⟩, (h.txns.fr hf (fun hm => ?_)).mono (by omega), ⟨h.low.1, h.low.2.1, Nat.le_trans h.low.2.2 hf.size⟩, h.nums⟩, Fr.mono hf (fun k _ hk => ?_)⟩
  · obtain ⟨cc, hc⟩ := own_cells h3 hg
    rcases inS hm with e | ⟨cc2, e⟩
    · rw [e, h1] at hc; cases hc
    · rw [e] at hc; cases hc
  · obtain ⟨es, cc, hm2⟩ := h.txns.isMap
    rcases inS hm with e | ⟨cc2, e⟩
    · exact hcl.2.2 e.symm
    · rw [e] at hm2; cases hm2
  · rcases List.mem_cons.1 hk with e | e
    · simp [e]
    · simp at e
      obtain ⟨cc, hc⟩ := own_cells h2 e
      exact List.mem_append_right _ (mem_rd.2 ⟨(h2.lt k e).1, by rw [hc]; simp [isRD]⟩)
/-- one more that is to be sent -/
theorem CoIn.due (h : CoIn w B cp lg bT n c) (h1 : w.heap[cp]? = some (coO lg bT c rv ov)) (h2 : w.ownsRow B 178 2 rv kr xr) (h3 : w.ownsRow B 249 3 ov ko xo) (h4 : kr ≤ n) (h5 : ko ≤ n) (hf0 : Fr [] w W0) (hg : W0.grownBy w1 ov.ownBlock) (ho : w1.ownsRow B 249 3 v' (ko + 1) ys) :
    CoIn (w1.setCell ⟨cp, 6, none⟩ v') B cp lg bT (n + 1) c ∧ RFr B [cp] w (w1.setCell ⟨cp, 6, none⟩ v') := by
  obtain ⟨W, hW⟩ : ∃ W, W = w1.setCell ⟨cp, 6, none⟩ v' := ⟨_, rfl⟩
  rw [← hW]
  have hcl := h.lts
  have nrow : ov.ownBlock ≠ some cp := own_ne h3 h1 (by decide)
  have hb1 : w1.heap[cp]? = some (coO lg bT c rv ov) := ((Fr.of_grown hg).block cp (by have := hf0.size; omega) (by simp; exact nrow)).trans ((hf0.block cp hcl.1 (by simp)).trans h1)
  have hfw : Fr [cp] w1 W := by rw [hW]; exact Fr.set1 (by simp) _ _
  have hf : Fr (cp :: ov.ownBlock.toList) w W := ((hf0.mono (by simp)).andThen ((Fr.of_grown hg).mono (fun k _ hk => List.mem_cons_of_mem cp hk)) (fun j hj _ => hj)).andThen (hfw.mono (fun k _ hk => by simp at hk; simp [hk])) (fun j hj _ => hj)
  have hb : W.heap[cp]? = some (coO lg bT c rv v') := by
    rw [hW]
    have := blk_set hb1 6 v'
    simpa using this
  have hr : W.ownsRow B 249 3 v' (ko + 1) ys := ownsRow_fr ho hfw (fun g hg => by simp; intro e; subst e; exact own_ne ho hb1 (by decide) hg)
  have inS : ∀ {g : Nat}, g ∈ cp :: ov.ownBlock.toList → g = cp ∨ ∃ cc, w.heap[g]? = some (.cells cc 249 (0, 0)) := fun {g} hm => by
    rcases List.mem_cons.1 hm with e | e
    · exact .inl e
    · simp at e; exact .inr (own_cells h3 e)
  refine ⟨⟨⟨rv, v', kr, ko + 1, xr, ys, hb, ownsRow_fr h2 hf (fun g hg hm => ?_), hr, by omega, by omega⟩, (h.txns.fr hf (fun hm => ?_)).mono (by omega), ⟨h.low.1, h.low.2.1, Nat.le_trans h.low.2.2 hf.size⟩, h.nums⟩, Fr.mono hf (fun k _ hk => ?_)⟩
  · obtain ⟨cc, hc⟩ := own_cells h2 hg
    rcases inS hm with e | ⟨cc2, e⟩
    · rw [e, h1] at hc; cases hc
    · rw [e] at hc; cases hc
  · obtain ⟨es, cc, hm2⟩ := h.txns.isMap
    rcases inS hm with e | ⟨cc2, e⟩
    · exact hcl.2.2 e.symm
    · rw [e] at hm2; cases hm2
  · rcases List.mem_cons.1 hk with e | e
    · simp [e]
    · simp at e
      obtain ⟨cc, hc⟩ := own_cells h3 e
      exact List.mem_append_right _ (mem_rd.2 ⟨(h3.lt k e).1, by rw [hc]; simp [isRD]⟩)
end
set_option maxRecDepth 100000 in
set_option maxHeartbeats 2000000 in
theorem became_any (B cp lg bT n t : Nat) (x : Int) (c : ACo) (w : World) (h : CoIn w B cp lg bT n c) (hn : n < 67108864) :
    Calls Tryz.prog 155 #[.pointer (some ⟨cp, 0, none⟩), .int .u64 (t : Int), .int .i64 x] w fun e w' => e = .returned (.tuple #[]) ∧ CoIn w' B cp lg bT (n + 1) c ∧ RFr B [cp] w w' := by
  obtain ⟨i0, hi, hz0, hz1, hz2⟩ := info_parts Tryz.infoRes
  obtain ⟨rv, ov, kr, ko, xr, xo, h1, h2, h3, h4, h5⟩ := h.ex
  have c5 := blk_cell h1 5
  simp at c5
  have hcl := h.lts
  have nrow : rv.ownBlock ≠ some cp := own_ne h2 h1 (by decide)
  have HI : Hid (CoIn w B cp lg bT n c ∧ w.heap[cp]? = some (coO lg bT c rv ov) ∧ w.ownsRow B 178 2 rv kr xr ∧ w.ownsRow B 249 3 ov ko xo) := ⟨h, h1, h2, h3⟩
  have hlow := h.low
  clear h h1 h3
  go_enter Tryz.func155, Tryz.ntmps155
  go_wp2_with (at_builtin; refine wpList_append_own _ rfl _ _ 144 rfl B 178 i0 _ 2 16 Tryz.underlying144 hi hz0 hz1 hz2 rfl (by decide) rv kr xr rfl (h2.alloc _) ⟨w.heap.size, 0, none⟩ 1 1 [.int .u64 (t : Int), .int .i64 x] rfl rfl (cells_new _ #[.int .u64 (t : Int), .int .i64 x] _) (by intro u hu; simp at hu; rcases hu with rfl | rfl <;> rfl) (by unfold maxLen; omega) (by omega) (by simp; omega) ?_)
  intro v' w1 hown' hgrow _
  obtain ⟨av, mv, cv, rfl⟩ := own_sl hown'
  have hfa : Fr [] w (w.alloc (.cells #[.int .u64 (t : Int), .int .i64 x] 178)) := (Fr.refl [] w).alloc _
  have hb1 : w1.heap[cp]? = some (coO lg bT c rv ov) := ((Fr.of_grown hgrow).block cp (by simp; omega) (by simp; exact nrow)).trans ((hfa.block cp hcl.1 (by simp)).trans HI.out.2.1)
  have d5 := blk_cell hb1 5
  have f5 := blk_free hb1 5
  simp at d5
  have HN : Hid (CoIn (w1.setCell ⟨cp, 5, none⟩ (.slice av mv cv)) B cp lg bT (n + 1) c ∧ RFr B [cp] w (w1.setCell ⟨cp, 5, none⟩ (.slice av mv cv))) := HI.out.1.res HI.out.2.1 HI.out.2.2.1 HI.out.2.2.2 h4 h5 hfa hgrow hown'
  clear hown' hgrow hb1 hfa
  go_wp2
  go_end0
  exact ⟨rfl, HN.out⟩
end Go.Proofs.YtejiankgafjppabGreatDoor
/- A REGION WITHIN A ROUND of a range over a function, by the laws of held worlds. -/
namespace Go.Proofs.YtejiankgafjppabGreatDoor
open Go.RowKit Go.Shelf
open Sc

section
variable {P : Program} {ops : Array Oper} {Q : Exit → Act → World → Prop} {l n : Nat}
theorem operIn_of {o : Oper} {a : Act} {w : World} {K : Act → World → Prop} (hd : ∀ c, o.op ≠ .defer c) (h : o.wp P a w K Q) : o.wpIn (Fence.wide.inRound l) n P a w K Q := by
  refine ⟨fun _ _ => trivial, ?_⟩
  rw [Oper.semAt_eq _ _ _ hd]
  unfold Oper.wp at h
  generalize (execOp a.eval o).run P w = r at *
  cases r with
  | ok x w' =>
    cases x <;> simp only [Oper.upon, Oper.uponIn] at h ⊢
    case value => exact h
    case skip => exact h
    case defer => exact h
    case enter f args => exact ⟨fun hh => (by cases hh), CallsIn.inRound l (callsIn_wide.2 h)⟩
    case row row args => exact ⟨fun hh => (by cases hh), fun c cs _ => let ⟨v, w', r, s⟩ := h c cs; ⟨v, w', r, stepsIn_wide.2 s⟩⟩
  | halt x w' => cases x <;> simp only [Oper.upon, Oper.uponIn] at h ⊢ <;> exact h
theorem opIn_of {i : Nat} {a : Act} {w : World} {K : Act → World → Prop} (hd : ∀ o, ops[i]? = some o → ∀ c, o.op ≠ .defer c) (hL : ¬ LetsOut Q) (h : wpOp P ops Q i K a w) : wpOpIn (Fence.wide.inRound l) n P ops Q i K a w := by
  unfold wpOp at h
  unfold wpOpIn
  cases ho : ops[i]? with
  | none => rw [ho] at h; exact h
  | some o =>
    rw [ho] at h
    simp only at h ⊢
    by_cases hw : Region.wanted o (yielded ops a.tmps) = true
    · rw [if_pos hw] at h ⊢
      rcases h with h | h
      · exact operIn_of (hd o ho) h
      · exact absurd h.2 hL
    · rw [if_neg hw] at h ⊢
      exact ⟨fun _ _ => trivial, h⟩
theorem anyIn_of (hd : ∀ (i : Nat) o, ops[i]? = some o → ∀ c, o.op ≠ .defer c) (hL : ¬ LetsOut Q) : ∀ (fuel : Nat) (listed : Array Bool) (a : Act) (w : World), wpAny P .any ops Q fuel listed a w → wpAnyIn (Fence.wide.inRound l) n P .any ops Q fuel listed a w
  | 0, _, _, _, h => h
  | fuel + 1, _, _, _, h => ⟨h.1, fun i hi => wpOpIn_mono (fun a' w' h' => anyIn_of hd hL fuel _ a' w' h') (opIn_of (hd i) hL (h.2 i hi))⟩
def noDefers (ops : Array Oper) : Bool := ops.toList.all fun o => match o.op with | .defer _ => false | _ => true
theorem noDefers_of (h : noDefers ops = true) : ∀ (i : Nat) o, ops[i]? = some o → ∀ c, o.op ≠ .defer c := by
  intro i o ho c hc
  have := List.all_eq_true.1 h o (List.mem_of_getElem? (i := i) (by simpa using ho))
  rw [hc] at this
  cases this
theorem wpIn_region_round {S : World → Prop} {id : Nat} {a : Act} {w : World} (hm : P.follows .mixedOrders = true) (hd : noDefers ops = true) (hL : ¬ LetsOut Q) (hS : S w.drew)
    (h : S w.drew → wpAnyH P .any ops Q S ops.size (Array.replicate ops.size false) a w.drew) : (Code.region id ops true).wpIn (Fence.wide.inRound l) n P Q a w :=
  wpIn_region_any hm (anyIn_of (noDefers_of hd) hL _ _ _ _ (wpAny_of_held _ _ _ _ (h hS)))
end
end Go.Proofs.YtejiankgafjppabGreatDoor
