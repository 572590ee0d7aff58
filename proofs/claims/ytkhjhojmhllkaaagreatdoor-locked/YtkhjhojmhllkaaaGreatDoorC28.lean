import Derived.Test.YtkhjhojmhllkaaaGreatDoorC23
import Derived.Test.YtkhjhojmhllkaaaGreatDoorC27
import Derived.Stop.RegionWithIn
/- LEDGERS: Open, as a shard does it. -/
namespace Go.Proofs.YtkhjhojmhllkaaaGreatDoor
open Go.RowKit Go.Shelf Go.Maps
open Sc

abbrev rdV (sp : Nat) : Value := .func (.func 130) #[.pointer (some ⟨sp, 0, none⟩)] #[]
set_option maxRecDepth 100000 in
set_option maxHeartbeats 4000000 in
theorem led_open_in (N : Nat) (hN : 14 ≤ N) (B p bD bN n m sp bV bT bH : Nat) (R : ALog × ADisk × Nat) (J : List Rec → AShard → Prop) (s0 : AShard) (w : World) (h00 : J [] s0) (hs : ShIn w sp 0 bV bT bH m s0) (hd : ∃ pv d nD nN, DiskIn w B p bD bN pv d n nD nN) (hne : bV ≠ bD ∧ bV ≠ bN ∧ bT ≠ bD ∧ bT ≠ bN ∧ bH ≠ bD ∧ bH ≠ bN)
    (hJ : ∀ W, Fr [] w W → Calls Tryz.prog 84 #[dskV p] W (OpenPost B p bD bN n R W)) (hpl : PlainR R.1.recs) (hfi : firstN R.1.recs R.1.next = 1) (hby : ∀ r ∈ R.1.recs, Byt r.pay ∧ r.pay.length ≤ 4096)
    (hEn : ∀ pre x s', pre ++ [x] <+: R.1.recs → J pre s' → Entr (J (pre ++ [x])) s' x) (hm : m + 20 * R.1.recs.length + 32 < maxLen) (hn : n ≤ 67108864) :
    CallsIn Fence.wide N Tryz.prog 129 #[dskV p, rdV sp] w fun e w' => ∃ gp lp s', e = .returned (.tuple #[.pointer (some ⟨gp, 0, none⟩), .nilIface]) ∧ J R.1.recs s' ∧ ShIn w' sp 0 bV bT bH (m + 20 * R.1.recs.length) s' ∧ (∃ pv sv rv nD nN, LogIn w' B lp p bD bN pv sv rv R.1 R.2.1 n nD nN) ∧ w'.heap[gp]? = some (ledO lp) ∧ w.heap.size ≤ gp ∧ SDFr p [bV, bT, bH] w w' := by
  have hro : Fence.wide.round = none := rfl
  have h1 : 1 ≤ N := by omega
  have hf1 : Fence.wide.fn 84 := trivial
  have hf2 : Fence.wide.fn 177 := trivial
  have hf3 : Fence.wide.fn 178 := trivial
  have hf4 : Fence.wide.fn 179 := trivial
  have hf5 : Fence.wide.fn 222 := trivial
  have hf6 : Fence.wide.fn 180 := trivial
  have hf7 : Fence.wide.fn 130 := trivial
  obtain ⟨W0, hW0⟩ : ∃ W0, W0 = ((w.alloc (.cells #[rdV sp] 195)).alloc (.cells #[.pointer none] 136)).alloc (.cells #[.nilIface] 79) := ⟨_, rfl⟩
  have hfr0 : Fr [] w W0 := by rw [hW0]; exact (((Fr.refl [] w).alloc _).alloc _).alloc _
  have hs0 : W0.heap.size = w.heap.size + 3 := by rw [hW0]; simp
  have r0 : W0.heap[w.heap.size]? = some (.cells #[rdV sp] 195 (0, 0)) := by rw [hW0, Below.heap_alloc _ _ w.heap.size (by simp; omega), Below.heap_alloc _ _ w.heap.size (by simp)]; exact heap_alloc_new w _
  have r1 : W0.heap[w.heap.size + 1]? = some (.cells #[.pointer none] 136 (0, 0)) := by
    rw [hW0, Below.heap_alloc _ _ (w.heap.size + 1) (by simp)]
    have := heap_alloc_new (w.alloc (.cells #[rdV sp] 195)) (.cells #[.pointer none] 136)
    rwa [World.size_alloc] at this
  have r2 : W0.heap[w.heap.size + 2]? = some (.cells #[.nilIface] 79 (0, 0)) := by
    rw [hW0]
    have := heap_alloc_new ((w.alloc (.cells #[rdV sp] 195)).alloc (.cells #[.pointer none] 136)) (.cells #[.nilIface] 79)
    rwa [World.size_alloc, World.size_alloc] at this
  have hJ0 := (callsIn_wide (n := N - 1)).2 (hJ W0 hfr0)
  have HS0 := hs.fr hfr0 (by simp) (by simp) (by simp) (by simp)
  obtain ⟨pv0, d0, nD0, nN0, hd0⟩ := hd
  have HD0 := hd0.new hfr0
  refine callsIn_of_wp_marks Tryz.func129 rfl trivial ?_ hro
  simp only [Tryz.ntmps129, List.size_toArray, List.length_cons, List.length_nil, Nat.reduceAdd, Nat.reduceSub, Array.replicate_succ, Array.replicate_zero, List.push_toArray, List.append_toArray, List.nil_append, List.cons_append]
  gi_wp2_with fail
  rw [← hW0]
  refine hJ0.mono ?_
  clear hJ0 hW0
  rintro e w1 ⟨lp, rfl, hlp, ⟨pv, sv, rv, nD, nN, hl1⟩, hdf1⟩
  have fD : ∀ k ∈ [sp, bV, bT, bH, w.heap.size, w.heap.size + 1, w.heap.size + 2], w1.heap[k]? = W0.heap[k]? := by
    have hl := HS0.lts
    intro k hk
    simp at hk
    rcases hk with rfl | rfl | rfl | rfl | rfl | rfl | rfl
    · exact hdf1.block _ (by omega) (HD0.freeD HS0.blk (by decide) (by decide))
    · exact hdf1.block _ (by omega) (HD0.freeDMap HS0.vals.isMap hne.1 hne.2.1)
    · exact hdf1.block _ (by omega) (HD0.freeDMap HS0.txns.isMap hne.2.2.1 hne.2.2.2.1)
    · exact hdf1.block _ (by omega) (HD0.freeDMap HS0.holds.isMap hne.2.2.2.2.1 hne.2.2.2.2.2)
    · exact hdf1.block _ (by omega) (HD0.freeD r0 (by decide) (by decide))
    · exact hdf1.block _ (by omega) (HD0.freeD r1 (by decide) (by decide))
    · exact hdf1.block _ (by omega) (HD0.freeD r2 (by decide) (by decide))
  have HS1 : ShIn w1 sp 0 bV bT bH m s0 := HS0.blocks (fun k hk => fD k (by simp at hk ⊢; omega))
  have q0 := (fD w.heap.size (by simp)).trans r0
  have q1 := (fD (w.heap.size + 1) (by simp)).trans r1
  have q2 := (fD (w.heap.size + 2) (by simp)).trans r2
  have hz1 := hdf1.size
  have hsd1 : SDFr p [bV, bT, bH] w w1 := ⟨hdf1.os.trans hfr0.os, hdf1.tape.trans hfr0.tape, hdf1.output.trans hfr0.output, by omega, fun k hk ho _ => (hdf1.block k (by omega) (fun ho' => ho (by
    have := (HD0.ownD k).1 ho'
    exact (hd0.ownD k).2 this))).trans (hfr0.block k hk (by simp))⟩
  clear hdf1 fD r0 r1 r2 hfr0 HS0 HD0 hd0
  obtain ⟨W2, hW2⟩ : ∃ W2, W2 = w1.alloc (ledO lp) := ⟨_, rfl⟩
  have hfr2 : Fr [] w1 W2 := by rw [hW2]; exact (Fr.refl [] w1).alloc _
  have hz2 : W2.heap.size = w1.heap.size + 1 := by rw [hW2]; simp
  have g2 : W2.heap[w1.heap.size]? = some (ledO lp) := by rw [hW2]; exact heap_alloc_new w1 _
  have hl2 := hl1.new hfr2
  have HS2 := HS1.fr hfr2 (by simp) (by simp) (by simp) (by simp)
  have lr2 : LogRecs W2 lp rv R.1.recs := ⟨(Array.getElem?_eq_some_iff.1 hl2.blk).1, by have := blk_cell hl2.blk 3; simpa using this, recsSl_own hl2.recs⟩
  have nx2 : W2.cell? ⟨lp, 4, none⟩ = some (.int .u64 (R.1.next : Int)) := by have := blk_cell hl2.blk 4; simpa using this
  have gc2 : W2.cell? ⟨w1.heap.size, 0, none⟩ = some (.pointer (some ⟨lp, 0, none⟩)) := by have := blk_cell g2 0; simpa using this
  have hlen : R.1.recs.length ≤ 67108864 := by have := hl2.recsN; omega
  have hcp := lastCp_in (N - 1) (by omega) w1.heap.size lp rv R.1.recs hlen hpl W2 gc2 lr2
  have b0 := (hfr2.block w.heap.size (by omega) (by simp)).trans q0
  have b1 := (hfr2.block (w.heap.size + 1) (by omega) (by simp)).trans q1
  have b2 := (hfr2.block (w.heap.size + 2) (by omega) (by simp)).trans q2
  clear q0 q1 q2
  gi_wp2_with fail
  have hW2' : W2 = w1.alloc (.cells #[.pointer (some ⟨lp, 0, none⟩)] 205) := hW2
  rw [← hW2']
  refine hcp.mono ?_
  clear hcp hW2 hW2'
  rintro e w3 ⟨rfl, hb3⟩
  have hz3 := hb3.size
  have hfo := firstOf_in (N - 1) (by omega) lp R.1.next rv R.1.recs hlen w3 (lr2.below hb3) ((hb3.cell (p := ⟨lp, 4, none⟩) lr2.lt).trans nx2)
  rw [hfi] at hfo
  gi_wp2_with fail
  refine hfo.mono ?_
  clear hfo
  rintro e w4 ⟨rfl, hb4⟩
  have hz4 := hb4.size
  have hfa := ledAll_fn (N - 1) w1.heap.size w4
  gi_wp2_with fail
  refine hfa.mono ?_
  clear hfa
  rintro e w5 ⟨rfl, hw5⟩
  have hB5 : Below W2.heap.size W2 w5 := by rw [hw5]; exact (hb3.trans (hb4.mono hz3)).alloc (by omega) _
  have hz5 : w5.heap.size = w4.heap.size + 1 := by rw [hw5]; simp
  have a5 : w5.heap[w4.heap.size]? = some (.cells #[.pointer (some ⟨w1.heap.size, 0, none⟩)] 136 (0, 0)) := by rw [hw5]; exact heap_alloc_new w4 _
  have hfr5 : Fr [] W2 w5 := Fr.of_below hB5 []
  have hl5 := hl2.new hfr5
  have HS5 := HS2.fr hfr5 (by simp) (by simp) (by simp) (by simp)
  have lr5 := lr2.below hB5
  have g5 := (hfr5.block w1.heap.size (by omega) (by simp)).trans g2
  have c0 := (hfr5.block w.heap.size (by omega) (by simp)).trans b0
  have c1 := (hfr5.block (w.heap.size + 1) (by omega) (by simp)).trans b1
  have c2 := (hfr5.block (w.heap.size + 2) (by omega) (by simp)).trans b2
  have hsd5 : SDFr p [bV, bT, bH] w w5 := ⟨hfr5.os.trans (hfr2.os.trans hsd1.os), hfr5.tape.trans (hfr2.tape.trans hsd1.tape), hfr5.output.trans (hfr2.output.trans hsd1.output), by omega, fun k hk ho hS => (hfr5.block k (by omega) (by simp)).trans ((hfr2.block k (by omega) (by simp)).trans (hsd1.block k hk ho hS))⟩
  clear hw5 hB5 hfr5 hl2 HS2 lr2 g2 b0 b1 b2 hsd1 hb3 hb4 nx2 gc2 hl1 HS1 hfr2
  gi_wp2
  have z4 : w5.cell? ⟨w4.heap.size, 0, none⟩ = some (.pointer (some ⟨w1.heap.size, 0, none⟩)) := by have := blk_cell a5 0; simpa using this
  have z5 : w5.cell? ⟨w1.heap.size, 0, none⟩ = some (.pointer (some ⟨lp, 0, none⟩)) := by have := blk_cell g5 0; simpa using this
  have hlts := HS5.lts
  have noS : ∀ {k : Nat} {c : Array Value} {t : TypeId} {fr : Nat × Nat}, w5.heap[k]? = some (.cells c t fr) → k ∉ [bV, bT, bH] := by
    intro k c t fr hk hm
    simp at hm
    rcases hm with e | e | e
    · obtain ⟨es, c, e2⟩ := HS5.vals.isMap; rw [e, e2] at hk; cases hk
    · obtain ⟨es, c, e2⟩ := HS5.txns.isMap; rw [e, e2] at hk; cases hk
    · obtain ⟨es, c, e2⟩ := HS5.holds.isMap; rw [e, e2] at hk; cases hk
  have hrowS : ∀ k ∈ rowsOf rv, k ∉ [bV, bT, bH] := fun k hk => by
    simp [rowsOf] at hk
    obtain ⟨c, hc⟩ := own_cells hl5.recs hk
    exact noS hc
  refine wpIn_range_mine hro h1 (gf := 222) (lb := #[.pointer (some ⟨w4.heap.size, 0, none⟩)]) rfl hf5 (enters_of Tryz.func222 (by kernel_rfl) rfl)
    (encs := fun x : Rec => #[.int .u8 (x.kind : Int), .string (str x.pay)]) (rs := R.1.recs) (S := rowsOf rv) (fun _ => rfl) lr5.rows
    (fun Wx hbx _ => ledAllP (N - 1) (by omega) _ w4.heap.size w1.heap.size lp rv R.1.recs hlen hpl Wx ((hbx.cell (p := ⟨w4.heap.size, 0, none⟩) (by show w4.heap.size < _; omega)).trans z4) ((hbx.cell (p := ⟨w1.heap.size, 0, none⟩) (by show w1.heap.size < _; omega)).trans z5) (lr5.below hbx))
    (fun pre A => (∃ s', J pre s' ∧ ShIn A sp 0 bV bT bH (m + 20 * pre.length) s') ∧ Fr [bV, bT, bH] w5 A)
    (fun Wx hbx => ⟨⟨s0, h00, HS5.fr (Fr.of_below hbx []) (by simp) (by simp) (by simp) (by simp)⟩, Fr.of_below hbx _⟩)
    (fun s A B hs hb => by
      obtain ⟨⟨s', e1, e2⟩, e3⟩ := hs
      exact ⟨⟨s', e1, e2.blocks (fun k hk => hb.block k (by simp at hk; omega))⟩, ⟨hb.os.trans e3.os, hb.tape.trans e3.tape, hb.output.trans e3.output, Nat.le_trans e3.size hb.size, fun k hk hS => (hb.block k (by omega)).trans (e3.block k hk hS)⟩⟩)
    (fun s A r hs => by
      obtain ⟨⟨s', e1, e2⟩, e3⟩ := hs
      exact ⟨⟨s', e1, e2.blocks (fun k hk => World.putObj_heap_other (by simp at hk; omega))⟩, ⟨e3.os, e3.tape, e3.output, by rw [size_put0]; exact e3.size, fun k hk hS => (World.putObj_heap_other (by omega)).trans (e3.block k hk hS)⟩⟩)
    (fun x a' A => a' = { tmps := #[dskV p, rdV sp, undef, .pointer (some ⟨w.heap.size, 0, none⟩), .pointer (some ⟨w.heap.size + 1, 0, none⟩), .pointer (some ⟨w.heap.size + 1 + 1, 0, none⟩), .pointer (some ⟨lp, 0, none⟩), .nilIface, .pointer (some ⟨w1.heap.size, 0, none⟩), .int .u64 0, .int .u64 0, .int .u8 (x.kind : Int), .string (str x.pay), .tuple #[.pointer (some ⟨lp, 0, none⟩), .nilIface], dskV p, .tuple #[.pointer (some ⟨lp, 0, none⟩), .nilIface], .pointer (some ⟨lp, 0, none⟩), .nilIface, .nilIface, .bool false, undef, .pointer (some ⟨lp, 0, none⟩), .agg #[.pointer (some ⟨lp, 0, none⟩)], .pointer (some ⟨w1.heap.size, 0, none⟩), .tuple #[.int .u64 0, .int .u64 0], .pointer (some ⟨w1.heap.size, 0, none⟩), .tuple #[.int .u64 0, .int .u64 0], .int .u64 0, .int .u64 0, .int .u64 0, .bool true, .bool true, .pointer (some ⟨lp, 0, none⟩), .int .u64 1, .bool false, .bool false, undef, .pointer (some ⟨w1.heap.size, 0, none⟩), .func (.func 222) #[] #[.pointer (some ⟨w4.heap.size, 0, none⟩)], .int .u8 (x.kind : Int), .string (str x.pay), undef, undef, undef, undef, undef, undef, undef, undef], defers := [] })
    (fun x a' A r hs => hs)
    ?assign ?body ?done
  case assign =>
    have hsem := @Oper.semAt_some
    rintro pre x A K hI hsA hpre hK
    gi_wp2
    exact hK _ _ hI (Keep.refl _ _ _) rfl
  case body =>
    have hsem := @Oper.semAt_some
    rintro pre x a' A ⟨⟨s1, hr1, hin1⟩, hfA⟩ hsA rfl hpre
    have hx : x ∈ R.1.recs := hpre.subset (by simp)
    have hpl1 : pre.length + 1 ≤ R.1.recs.length := by have := hpre.length_le; simpa using this
    obtain ⟨y1, y2⟩ := hby x hx
    have hen := hEn pre x s1 hpre hr1
    have v0 : A.cell? ⟨w.heap.size, 0, none⟩ = some (rdV sp) := by have := blk_cell ((hfA.block w.heap.size (by omega) (noS c0)).trans c0) 0; simpa using this
    have h3 : 1 ≤ N - 1 - 1 := by omega
    have HI : Hid (ShIn A sp 0 bV bT bH (m + 20 * pre.length) s1 ∧ Fr [bV, bT, bH] w5 A) := ⟨hin1, hfA⟩
    have HB : Hid (∀ (w7 w8 : World) (fp : Nat) (s2 : AShard), A.heap.size ≤ fp → Fr [] A.drew w7 → J (pre ++ [x]) s2 → ShIn w8 sp 0 bV bT bH (m + 20 * pre.length + 20) s2 → Fr [fp, bV, bT, bH] w7 w8 →
        ((∃ s', J (pre ++ [x]) s' ∧ ShIn w8 sp 0 bV bT bH (m + 20 * (pre.length + 1)) s') ∧ Fr [bV, bT, bH] w5 w8) ∧ Keep w5.heap.size (rowsOf rv) A w8) := by
      intro w7 w8 fp s2 hfp hfr7 hr8 hin8 hfr8
      have hzA : A.heap.size ≤ w7.heap.size := hfr7.size
      have blk : ∀ k, k < A.heap.size → k ∉ [bV, bT, bH] → w8.heap[k]? = A.heap[k]? := fun k hk hS => (hfr8.block k (by omega) (by simp at hS ⊢; omega)).trans (hfr7.block k hk (by simp))
      refine ⟨⟨⟨s2, hr8, by rw [show m + 20 * (pre.length + 1) = m + 20 * pre.length + 20 by omega]; exact hin8⟩, hfr8.os.trans (hfr7.os.trans hfA.os), hfr8.tape.trans (hfr7.tape.trans hfA.tape), hfr8.output.trans (hfr7.output.trans hfA.output), by have := hfr8.size; have := hfA.size; omega, fun k hk hS => (blk k (by omega) hS).trans (hfA.block k hk hS)⟩, by have := hfr8.size; omega, fun k hk hlt => blk k hlt (by simp; omega), fun k hk hlt => blk k hlt (hrowS k hk)⟩
    clear hin1 hfA
    gi_wp2
    gi_region_with (first
      | (gi_at_call 180; refine ((callsIn_wide (n := N - 1 - 1 - 1)).2 (fieldsOf_any x.pay y1 y2 _)).mono ?_; rintro e w7 ⟨fp, rfl, hfa7, hfr7⟩; have v7 : w7.cell? ⟨w.heap.size, 0, none⟩ = some (rdV sp) := (World.cell?_of_block (a := ⟨w.heap.size, 0, none⟩) (hfr7.block w.heap.size (by show w.heap.size < A.heap.size; omega) (by simp))).trans v0)
      | (gi_at_call 130; refine ((callsIn_wide (n := N - 1 - 1 - 1)).2 (read_ent A.heap.size sp 0 bV bT bH (m + 20 * pre.length) fp s1 x w7 (HI.out.1.fr (S := []) (w := A) ⟨hfr7.os, hfr7.tape, hfr7.output, hfr7.size, hfr7.block⟩ (by simp) (by simp) (by simp) (by simp)) hfa7 (J (pre ++ [x])) hen (by omega) ⟨by have := HI.out.1.lts; omega, by have := HI.out.1.lts; omega, by have := HI.out.1.lts; omega, by have := HI.out.1.lts; omega⟩)).mono ?_; rintro e w8 ⟨rfl, s2, hr8, hin8, hfr8⟩))
    all_goals
      (have HN := toHid (HB.out w7 w8 fp s2 hfa7.low hfr7 hr8 hin8 hfr8)
       clear HB HI hfa7 hfr7 hr8 hin8 hfr8
       gi_wp2
       obtain ⟨⟨o1, o2⟩, o3⟩ := HN.out
       rw [hz5] at o3
       first
         | exact ⟨⟨o1, o2⟩, o3⟩
         | exact ⟨o1, o2, o3⟩)
  case done =>
    rintro W ⟨⟨s', hr', hin'⟩, hfW⟩ hsW hK
    have t1 := (hfW.block (w.heap.size + 1) (by omega) (noS c1)).trans c1
    have t2 := (hfW.block (w.heap.size + 2) (by omega) (noS c2)).trans c2
    have u1 := blk_cell t1 0
    have u2 := blk_cell t2 0
    have f1 := blk_free t1 0
    have f2 := blk_free t2 0
    simp at u1 u2 f1 f2
    obtain ⟨W6, hW6⟩ : ∃ W6, W6 = (W.setCell ⟨w.heap.size + 1, 0, none⟩ (.pointer (some ⟨w1.heap.size, 0, none⟩))).setCell ⟨w.heap.size + 1 + 1, 0, none⟩ .nilIface := ⟨_, rfl⟩
    have hf6 : Fr [w.heap.size + 1, w.heap.size + 2] W W6 := by rw [hW6]; exact (Fr.set1 (by simp) _ _).trans (Fr.set1 (by simp) _ _)
    have s1 : W6.heap[w.heap.size + 1]? = some (.cells #[.pointer (some ⟨w1.heap.size, 0, none⟩)] 136 (0, 0)) := by
      rw [hW6]
      have := blk_set t1 0 (.pointer (some ⟨w1.heap.size, 0, none⟩))
      rw [Below.heap_setCell _ _ _ _ (by show w.heap.size + 1 ≠ w.heap.size + 1 + 1; omega)]
      simpa using this
    have s2 : W6.heap[w.heap.size + 1 + 1]? = some (.cells #[.nilIface] 79 (0, 0)) := by
      rw [hW6]
      have t2' : (W.setCell ⟨w.heap.size + 1, 0, none⟩ (.pointer (some ⟨w1.heap.size, 0, none⟩))).heap[w.heap.size + 1 + 1]? = some (.cells #[.nilIface] 79 (0, 0)) := (Below.heap_setCell _ _ _ _ (by show w.heap.size + 1 + 1 ≠ w.heap.size + 1; omega)).trans t2
      have := blk_set t2' 0 .nilIface
      simpa using this
    have hK6 : W6.heap[w5.heap.size]? = some (.deferred (some [])) := (hf6.block _ (by omega) (by simp; omega)).trans hK
    have HW : Hid (J R.1.recs s' ∧ ShIn W sp 0 bV bT bH (m + 20 * R.1.recs.length) s' ∧ Fr [bV, bT, bH] w5 W) := ⟨hr', hin', hfW⟩
    clear hr' hin' hfW
    gi_wp2
    rw [← hW6]
    clear hW6
    refine ⟨by simp, .inl ⟨_, _, rfl, run_takeDeferred hK6, ?_⟩⟩
    have hlow := hs.lts
    obtain ⟨W7, hW7⟩ : ∃ W7, W7 = W6.putObj w5.heap.size (.deferred none) := ⟨_, rfl⟩
    have blk7 : ∀ k, k ≠ w5.heap.size → W7.heap[k]? = W6.heap[k]? := fun k hk => by rw [hW7]; exact World.putObj_heap_other hk
    have hf7 : Fr [bV, bT, bH, w.heap.size + 1, w.heap.size + 2] w5 W7 := by
      refine ⟨?_, ?_, ?_, ?_, fun k hk hS => ?_⟩
      · rw [hW7]; exact hf6.os.trans HW.out.2.2.os
      · rw [hW7]; exact hf6.tape.trans HW.out.2.2.tape
      · rw [hW7]; exact hf6.output.trans HW.out.2.2.output
      · rw [hW7, size_put0]; have := hf6.size; have := HW.out.2.2.size; omega
      · simp at hS
        rw [blk7 k (by omega), hf6.block k (by omega) (by simp; omega), HW.out.2.2.block k hk (by simp; omega)]
    have hl7 := hl5.apart hf7 (fun k hk _ => by
      simp at hk
      rcases hk with rfl | rfl | rfl | rfl | rfl
      · exact ⟨hl5.freeMap HS5.vals.isMap hne.1 hne.2.1, fun t e => by obtain ⟨es, c, e2⟩ := HS5.vals.isMap; rw [e2] at e; cases e⟩
      · exact ⟨hl5.freeMap HS5.txns.isMap hne.2.2.1 hne.2.2.2.1, fun t e => by obtain ⟨es, c, e2⟩ := HS5.txns.isMap; rw [e2] at e; cases e⟩
      · exact ⟨hl5.freeMap HS5.holds.isMap hne.2.2.2.2.1 hne.2.2.2.2.2, fun t e => by obtain ⟨es, c, e2⟩ := HS5.holds.isMap; rw [e2] at e; cases e⟩
      · exact ⟨hl5.free c1 (by decide) (by decide) (by decide) (by decide) (by decide), fun t e => by rw [c1] at e; cases e⟩
      · exact ⟨hl5.free c2 (by decide) (by decide) (by decide) (by decide) (by decide), fun t e => by rw [c2] at e; cases e⟩)
    have hin7 : ShIn W7 sp 0 bV bT bH (m + 20 * R.1.recs.length) s' := HW.out.2.1.blocks (fun k hk => by
      simp at hk
      rw [blk7 k (by omega), hf6.block k (by have := HW.out.2.2.size; omega) (by simp; omega)])
    have q1 := blk_cell ((blk7 (w.heap.size + 1) (by omega)).trans s1) 0
    have q2 := blk_cell ((blk7 (w.heap.size + 1 + 1) (by omega)).trans s2) 0
    simp at q1 q2
    have g7 := (hf7.block w1.heap.size (by omega) (by have := noS g5; simp at this ⊢; omega)).trans g5
    have hsd7 : SDFr p [bV, bT, bH] w W7 := ⟨hf7.os.trans hsd5.os, hf7.tape.trans hsd5.tape, hf7.output.trans hsd5.output, by have := hf7.size; omega, fun k hk ho hS => (hf7.block k (by omega) (by simp at hS ⊢; omega)).trans (hsd5.block k hk ho hS)⟩
    rw [← hW7]
    refine ⟨.tuple #[.pointer (some ⟨w1.heap.size, 0, none⟩), .nilIface], ?_, w1.heap.size, lp, s', rfl, HW.out.1, hin7, ⟨pv, sv, rv, nD, nN, hl7⟩, g7, by omega, hsd7⟩
    simp only [results, Tryz.f129]
    simp [go_sem, q1, q2]
theorem led_open (B p bD bN n m sp bV bT bH : Nat) (R : ALog × ADisk × Nat) (J : List Rec → AShard → Prop) (s0 : AShard) (w : World) (h00 : J [] s0) (hs : ShIn w sp 0 bV bT bH m s0) (hd : ∃ pv d nD nN, DiskIn w B p bD bN pv d n nD nN) (hne : bV ≠ bD ∧ bV ≠ bN ∧ bT ≠ bD ∧ bT ≠ bN ∧ bH ≠ bD ∧ bH ≠ bN)
    (hJ : ∀ W, Fr [] w W → Calls Tryz.prog 84 #[dskV p] W (OpenPost B p bD bN n R W)) (hpl : PlainR R.1.recs) (hfi : firstN R.1.recs R.1.next = 1) (hby : ∀ r ∈ R.1.recs, Byt r.pay ∧ r.pay.length ≤ 4096)
    (hEn : ∀ pre x s', pre ++ [x] <+: R.1.recs → J pre s' → Entr (J (pre ++ [x])) s' x) (hm : m + 20 * R.1.recs.length + 32 < maxLen) (hn : n ≤ 67108864) :
    Calls Tryz.prog 129 #[dskV p, rdV sp] w fun e w' => ∃ gp lp s', e = .returned (.tuple #[.pointer (some ⟨gp, 0, none⟩), .nilIface]) ∧ J R.1.recs s' ∧ ShIn w' sp 0 bV bT bH (m + 20 * R.1.recs.length) s' ∧ (∃ pv sv rv nD nN, LogIn w' B lp p bD bN pv sv rv R.1 R.2.1 n nD nN) ∧ w'.heap[gp]? = some (ledO lp) ∧ w.heap.size ≤ gp ∧ SDFr p [bV, bT, bH] w w' :=
  (callsIn_wide (n := 14)).1 (led_open_in 14 (Nat.le_refl _) B p bD bN n m sp bV bT bH R J s0 w h00 hs hd hne hJ hpl hfi hby hEn hm hn)
end Go.Proofs.YtkhjhojmhllkaaaGreatDoor
