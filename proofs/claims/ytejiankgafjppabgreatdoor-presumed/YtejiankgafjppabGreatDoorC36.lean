import Derived.Test.YtejiankgafjppabGreatDoorC35
/- THE COORDINATOR: Done. (Written by mkdone.py.) -/
namespace Go.Proofs.YtejiankgafjppabGreatDoor
open Go.RowKit Go.Shelf Go.Maps
open Sc

set_option maxRecDepth 100000 in
set_option maxHeartbeats 8000000 in
theorem done_more (B cp lg bT n t k : Nat) (hk : k < 9) (c : ACo) (w : World) (h : CoIn w B cp lg bT n c) (ht : t < 18446744073709551616) (hst : (c.tx t).state = 6) (hpt : (c.tx t).parts.getD k 0 = 2) (hany : ((c.tx t).parts.set k 5).any isToC = true) (hn : n + 1 < 67108864) :
    Calls Tryz.prog 56 #[.pointer (some ⟨cp, 0, none⟩), .int .u64 (t : Int), .int .i64 (k : Int)] w fun e w' => e = .returned .nilIface ∧ CoIn w' B cp lg bT (n + 1) { c with txns := alPut c.txns t { c.tx t with parts := (c.tx t).parts.set k 5 } } ∧ RFr B [cp, bT] w w' := by
  have hcoin := h
  have hok := hcoin.okT t
  have hla := hcoin.lookT ht
  obtain ⟨rv, ov, kr, ko, xr, xo, g1, _⟩ := hcoin.ex
  have c1 := blk_cell g1 1
  simp at c1
  have hcl := hcoin.lts
  obtain ⟨T, hT⟩ : ∃ T, T = c.tx t := ⟨_, rfl⟩
  rw [← hT] at hok hst hpt hany hla ⊢
  clear hT
  obtain ⟨T2, hT2⟩ : ∃ T2 : ATx, T2 = { T with parts := T.parts.set k 5 } := ⟨_, rfl⟩
  have hok2 : T2.Ok := by rw [hT2]; exact set_ok hok (by omega)
  have e2p : T.parts.set k 5 = T2.parts := by rw [hT2]
  rw [e2p] at hany
  rw [← hT2]
  have hat0 := fun W => at_any T hok k hk W
  rw [hpt] at hat0
  have hwi := fun W => with_any T hok k 5 hk W
  rw [← hT2] at hwi
  obtain ⟨q0, q1, q2, q3, q4, q5, q6, q7, q8, hq⟩ := nine hok2.1
  have hlit2 : txV T2 = .agg #[.int .i64 6, .int .u8 (q0 : Int), .int .u8 (q1 : Int), .int .u8 (q2 : Int), .int .u8 (q3 : Int), .int .u8 (q4 : Int), .int .u8 (q5 : Int), .int .u8 (q6 : Int), .int .u8 (q7 : Int), .int .u8 (q8 : Int), .int .u64 (T.since : Int), .nilIface] := by
    have e : T2 = ⟨6, [q0, q1, q2, q3, q4, q5, q6, q7, q8], T.since⟩ := by
      have e1 : T2.state = 6 := by rw [hT2]; exact hst
      have e2 : T2.since = T.since := by rw [hT2]
      rw [← e1, ← e2, ← hq]
    rw [e, txV_lit]
    rfl
  rw [hlit2] at hwi
  have HPUT := toHid (fun (W : World) (m' : Nat) (h2 : CoIn W B cp lg bT m' c) (hm' : m' < maxLen) => (by
    obtain ⟨w5, hr5, hm5, hg5⟩ := h2.txns.putRun Tryz.underlying143 hm' (k := t) ht (v := T2) hok2
    refine ⟨w5, ?_, h2.setTxns (Fr.of_grown1 hg5) hm5 (by omega), Fr.of_grown1 hg5⟩
    have e : (EX.ev T2 : Value) = txV T2 := rfl
    rw [e, hlit2] at hr5
    exact hr5 : ∃ w5, (Instr.mapUpdate 143 (.map (some bT)) (.int .u64 (t : Int)) (.agg #[.int .i64 6, .int .u8 (q0 : Int), .int .u8 (q1 : Int), .int .u8 (q2 : Int), .int .u8 (q3 : Int), .int .u8 (q4 : Int), .int .u8 (q5 : Int), .int .u8 (q6 : Int), .int .u8 (q7 : Int), .int .u8 (q8 : Int), .int .u64 (T.since : Int), .nilIface])).run Tryz.prog W = .ok () w5 ∧ CoIn w5 B cp lg bT (m' + 1) { c with txns := alPut c.txns t T2 } ∧ Fr [bT] W w5))
  have HHA := toHid (fun W => has_any 101 isToC isToC_m isToC_en T2 hok2 W)
  rw [hany, hlit2] at HHA
  have HWI := toHid hwi
  clear hT2 hq hwi hpt hany e2p hlit2
  obtain ⟨s, ps, z⟩ := T
  obtain ⟨p0, p1, p2, p3, p4, p5, p6, p7, p8, hps⟩ := nine hok.1
  change ps = _ at hps
  subst hps
  change s = 6 at hst
  subst hst
  rw [txV_lit] at hla
  simp only [txV_lit] at hat0
  have HI := toHid h
  obtain ⟨W0, hW0⟩ : ∃ W0, W0 = w.alloc (.cells #[.int .i64 6, .int .u8 (p0 : Int), .int .u8 (p1 : Int), .int .u8 (p2 : Int), .int .u8 (p3 : Int), .int .u8 (p4 : Int), .int .u8 (p5 : Int), .int .u8 (p6 : Int), .int .u8 (p7 : Int), .int .u8 (p8 : Int), .int .u64 (z : Int), .nilIface] 162) := ⟨_, rfl⟩
  have hf0 : Fr [] w W0 := by rw [hW0]; exact (Fr.refl [] w).alloc _
  have r0 : W0.heap[w.heap.size]? = some (.cells #[.int .i64 6, .int .u8 (p0 : Int), .int .u8 (p1 : Int), .int .u8 (p2 : Int), .int .u8 (p3 : Int), .int .u8 (p4 : Int), .int .u8 (p5 : Int), .int .u8 (p6 : Int), .int .u8 (p7 : Int), .int .u8 (p8 : Int), .int .u64 (z : Int), .nilIface] 162 (0, 0)) := by rw [hW0]; exact heap_alloc_new w _
  have hat := hat0 W0
  have hl0 := (Array.getElem?_eq_some_iff.1 r0).1
  have H0 := toHid (And.intro hf0 r0)
  clear h g1 hat0 hf0 r0 hcoin
  go_enter Tryz.func56, Tryz.ntmps56
  go_wp2_with fail
  rw [← hW0]
  clear hW0
  refine hat.mono ?_
  clear hat
  rintro e w2 ⟨rfl, hf2⟩
  have r2 := (hf2.block w.heap.size hl0 (by simp)).trans H0.out.2
  obtain ⟨x0, x1, x2, x3, x4, x5, x6, x7, x8, x9, xa, xb⟩ := tx12 r2
  have hwi := HWI.out w2
  have H2 := toHid (H0.out.1.trans hf2)
  clear hf2 r2
  go_wp2_with fail
  refine hwi.mono ?_
  clear hwi x0 x1 x2 x3 x4 x5 x6 x7 x8 x9 xa xb
  rintro e w3 ⟨rfl, hf3⟩
  obtain ⟨W4, hW4⟩ : ∃ W4, W4 = w3.alloc (.cells #[.int .i64 6, .int .u8 (q0 : Int), .int .u8 (q1 : Int), .int .u8 (q2 : Int), .int .u8 (q3 : Int), .int .u8 (q4 : Int), .int .u8 (q5 : Int), .int .u8 (q6 : Int), .int .u8 (q7 : Int), .int .u8 (q8 : Int), .int .u64 (z : Int), .nilIface] 162) := ⟨_, rfl⟩
  have hf4 : Fr [] w W4 := by rw [hW4]; exact (H2.out.trans hf3).alloc _
  have r4 : W4.heap[w3.heap.size]? = some (.cells #[.int .i64 6, .int .u8 (q0 : Int), .int .u8 (q1 : Int), .int .u8 (q2 : Int), .int .u8 (q3 : Int), .int .u8 (q4 : Int), .int .u8 (q5 : Int), .int .u8 (q6 : Int), .int .u8 (q7 : Int), .int .u8 (q8 : Int), .int .u64 (z : Int), .nilIface] 162 (0, 0)) := by rw [hW4]; exact heap_alloc_new w3 _
  have hl4 := (Array.getElem?_eq_some_iff.1 r4).1
  have H4 := toHid (And.intro hf4 r4)
  have hha := HHA.out W4
  clear hf4 r4 hf3
  go_wp2_with fail
  rw [← hW4]
  clear hW4
  refine hha.mono ?_
  clear hha
  rintro e w5 ⟨rfl, hf5⟩
  have H5 := toHid (And.intro (H4.out.1.trans hf5) ((hf5.block w3.heap.size hl4 (by simp)).trans H4.out.2))
  clear hf5
  go_wp2
  obtain ⟨d0, d1, d2, d3, d4, d5, d6, d7, d8, d9, da, db⟩ := tx12 H5.out.2
  have u1 := (World.cell?_of_block (a := ⟨cp, 1, none⟩) (H5.out.1.block cp hcl.1 (by simp))).trans c1
  obtain ⟨w6, hr6, hc6, hf6⟩ := HPUT.out w5.drew n (HI.out.new H5.out.1.drew) (by unfold maxLen; omega)
  have hne : ¬ w3.heap.size = bT := by
    intro e
    obtain ⟨es, cc, e2⟩ := (HI.out.new H5.out.1).txns.isMap
    rw [← e, H5.out.2] at e2; cases e2
  have r6 := (hf6.block w3.heap.size (Array.getElem?_eq_some_iff.1 H5.out.2).1 (by simpa using hne)).trans H5.out.2
  obtain ⟨t0, t1, t2, t3, t4, t5, t6, t7, t8, t9, ta, tb⟩ := tx12 r6
  have u6 := (World.cell?_of_block (a := ⟨cp, 1, none⟩) (hf6.block cp (by have := H5.out.1.size; show cp < w5.heap.size; omega) (by simpa using hcl.2.2))).trans u1
  have hf6' : Fr [bT] w5 w6 := ⟨hf6.os, hf6.tape, hf6.output, hf6.size, hf6.block⟩
  have H6 := toHid (show CoIn w6 B cp lg bT (n + 1) { c with txns := alPut c.txns t T2 } ∧ RFr B [cp, bT] w w6 from ⟨hc6, RFr.trans ((H5.out.1.mono (by simp)).r) (Fr.r (hf6'.mono (fun k _ hk => by simp at hk; simp [hk])))⟩)
  clear hc6 hf6 hf6' r6
  go_region_held3 (fun w' => w'.cell? ⟨cp, 1, none⟩ = some (.map (some bT)) ∧ w'.cell? ⟨w3.heap.size, 0, none⟩ = some (.int .i64 6) ∧ w'.cell? ⟨w3.heap.size, 1, none⟩ = some (.int .u8 (q0 : Int)) ∧ w'.cell? ⟨w3.heap.size, 2, none⟩ = some (.int .u8 (q1 : Int)) ∧ w'.cell? ⟨w3.heap.size, 3, none⟩ = some (.int .u8 (q2 : Int)) ∧ w'.cell? ⟨w3.heap.size, 4, none⟩ = some (.int .u8 (q3 : Int)) ∧ w'.cell? ⟨w3.heap.size, 5, none⟩ = some (.int .u8 (q4 : Int)) ∧ w'.cell? ⟨w3.heap.size, 6, none⟩ = some (.int .u8 (q5 : Int)) ∧ w'.cell? ⟨w3.heap.size, 7, none⟩ = some (.int .u8 (q6 : Int)) ∧ w'.cell? ⟨w3.heap.size, 8, none⟩ = some (.int .u8 (q7 : Int)) ∧ w'.cell? ⟨w3.heap.size, 9, none⟩ = some (.int .u8 (q8 : Int)) ∧ w'.cell? ⟨w3.heap.size, 10, none⟩ = some (.int .u64 (z : Int)) ∧ w'.cell? ⟨w3.heap.size, 11, none⟩ = some (.nilIface))
    (simp [*])
    (fail)
  go_wp2
  go_ret
  exact ⟨rfl, H6.out⟩
set_option maxRecDepth 100000 in
set_option maxHeartbeats 8000000 in
theorem done_last (B cp gp bT m lp p bD bN n t k : Nat) (hk : k < 9) (c : ACo) (l : ALog) (d : ADisk) (w : World) (h : CL w B cp gp bT m lp p bD bN n c l d) (ht : t < 18446744073709551616) (hst : (c.tx t).state = 6) (hpt : (c.tx t).parts.getD k 0 = 2) (hany : ((c.tx t).parts.set k 5).any isToC = false) (hn : n + 3 < 67108864) (hB : 2 ≤ B) (hsg : l.filled < 600 → l.segs ≠ []) (hpow : Pows w) (hke : (l.note d 3 (str (be 8 t))).2.2 = 0) :
    Calls Tryz.prog 56 #[.pointer (some ⟨cp, 0, none⟩), .int .u64 (t : Int), .int .i64 (k : Int)] w fun e w' => e = .returned .nilIface ∧ CL w' B cp gp bT m lp p bD bN (n + 3) { c with txns := alDel c.txns t } (l.note d 3 (str (be 8 t))).1 (l.note d 3 (str (be 8 t))).2.1 ∧ CFr B cp bT lp p w w' := by
  have hcoin := h.co
  have hok := hcoin.okT t
  have hla := hcoin.lookT ht
  obtain ⟨rv, ov, kr, ko, xr, xo, g1, _⟩ := hcoin.ex
  have c1 := blk_cell g1 1
  simp at c1
  have hcl := hcoin.lts
  obtain ⟨T, hT⟩ : ∃ T, T = c.tx t := ⟨_, rfl⟩
  rw [← hT] at hok hst hpt hany hla
  clear hT
  obtain ⟨T2, hT2⟩ : ∃ T2 : ATx, T2 = { T with parts := T.parts.set k 5 } := ⟨_, rfl⟩
  have hok2 : T2.Ok := by rw [hT2]; exact set_ok hok (by omega)
  have e2p : T.parts.set k 5 = T2.parts := by rw [hT2]
  rw [e2p] at hany
  have hat0 := fun W => at_any T hok k hk W
  rw [hpt] at hat0
  have hwi := fun W => with_any T hok k 5 hk W
  rw [← hT2] at hwi
  obtain ⟨q0, q1, q2, q3, q4, q5, q6, q7, q8, hq⟩ := nine hok2.1
  have hlit2 : txV T2 = .agg #[.int .i64 6, .int .u8 (q0 : Int), .int .u8 (q1 : Int), .int .u8 (q2 : Int), .int .u8 (q3 : Int), .int .u8 (q4 : Int), .int .u8 (q5 : Int), .int .u8 (q6 : Int), .int .u8 (q7 : Int), .int .u8 (q8 : Int), .int .u64 (T.since : Int), .nilIface] := by
    have e : T2 = ⟨6, [q0, q1, q2, q3, q4, q5, q6, q7, q8], T.since⟩ := by
      have e1 : T2.state = 6 := by rw [hT2]; exact hst
      have e2 : T2.since = T.since := by rw [hT2]
      rw [← e1, ← e2, ← hq]
    rw [e, txV_lit]
    rfl
  rw [hlit2] at hwi
  have HHA := toHid (fun W => has_any 101 isToC isToC_m isToC_en T2 hok2 W)
  rw [hany, hlit2] at HHA
  have HWI := toHid hwi
  clear hT2 hq hwi hpt hany e2p hlit2
  obtain ⟨s, ps, z⟩ := T
  obtain ⟨p0, p1, p2, p3, p4, p5, p6, p7, p8, hps⟩ := nine hok.1
  change ps = _ at hps
  subst hps
  change s = 6 at hst
  subst hst
  rw [txV_lit] at hla
  simp only [txV_lit] at hat0
  have HI := toHid (And.intro h hpow)
  have hgp := h.gp1
  obtain ⟨W0, hW0⟩ : ∃ W0, W0 = w.alloc (.cells #[.int .i64 6, .int .u8 (p0 : Int), .int .u8 (p1 : Int), .int .u8 (p2 : Int), .int .u8 (p3 : Int), .int .u8 (p4 : Int), .int .u8 (p5 : Int), .int .u8 (p6 : Int), .int .u8 (p7 : Int), .int .u8 (p8 : Int), .int .u64 (z : Int), .nilIface] 162) := ⟨_, rfl⟩
  have hf0 : Fr [] w W0 := by rw [hW0]; exact (Fr.refl [] w).alloc _
  have r0 : W0.heap[w.heap.size]? = some (.cells #[.int .i64 6, .int .u8 (p0 : Int), .int .u8 (p1 : Int), .int .u8 (p2 : Int), .int .u8 (p3 : Int), .int .u8 (p4 : Int), .int .u8 (p5 : Int), .int .u8 (p6 : Int), .int .u8 (p7 : Int), .int .u8 (p8 : Int), .int .u64 (z : Int), .nilIface] 162 (0, 0)) := by rw [hW0]; exact heap_alloc_new w _
  have hat := hat0 W0
  have hl0 := (Array.getElem?_eq_some_iff.1 r0).1
  have H0 := toHid (And.intro hf0 r0)
  clear h hpow g1 hat0 hf0 r0 hcoin
  go_enter Tryz.func56, Tryz.ntmps56
  go_wp2_with fail
  rw [← hW0]
  clear hW0
  refine hat.mono ?_
  clear hat
  rintro e w2 ⟨rfl, hf2⟩
  have r2 := (hf2.block w.heap.size hl0 (by simp)).trans H0.out.2
  obtain ⟨x0, x1, x2, x3, x4, x5, x6, x7, x8, x9, xa, xb⟩ := tx12 r2
  have hwi := HWI.out w2
  have H2 := toHid (H0.out.1.trans hf2)
  clear hf2 r2
  go_wp2_with fail
  refine hwi.mono ?_
  clear hwi x0 x1 x2 x3 x4 x5 x6 x7 x8 x9 xa xb
  rintro e w3 ⟨rfl, hf3⟩
  obtain ⟨W4, hW4⟩ : ∃ W4, W4 = w3.alloc (.cells #[.int .i64 6, .int .u8 (q0 : Int), .int .u8 (q1 : Int), .int .u8 (q2 : Int), .int .u8 (q3 : Int), .int .u8 (q4 : Int), .int .u8 (q5 : Int), .int .u8 (q6 : Int), .int .u8 (q7 : Int), .int .u8 (q8 : Int), .int .u64 (z : Int), .nilIface] 162) := ⟨_, rfl⟩
  have hf4 : Fr [] w W4 := by rw [hW4]; exact (H2.out.trans hf3).alloc _
  have r4 : W4.heap[w3.heap.size]? = some (.cells #[.int .i64 6, .int .u8 (q0 : Int), .int .u8 (q1 : Int), .int .u8 (q2 : Int), .int .u8 (q3 : Int), .int .u8 (q4 : Int), .int .u8 (q5 : Int), .int .u8 (q6 : Int), .int .u8 (q7 : Int), .int .u8 (q8 : Int), .int .u64 (z : Int), .nilIface] 162 (0, 0)) := by rw [hW4]; exact heap_alloc_new w3 _
  have hl4 := (Array.getElem?_eq_some_iff.1 r4).1
  have H4 := toHid (And.intro hf4 r4)
  have hha := HHA.out W4
  clear hf4 r4 hf3
  go_wp2_with fail
  rw [← hW4]
  clear hW4
  refine hha.mono ?_
  clear hha
  rintro e w5 ⟨rfl, hf5⟩
  have H5 := toHid (And.intro (H4.out.1.trans hf5) ((hf5.block w3.heap.size hl4 (by simp)).trans H4.out.2))
  clear hf5
  go_wp2
  obtain ⟨hc5, hx5⟩ := HI.out.1.new H5.out.1
  obtain ⟨rv5, ov5, kr5, ko5, xr5, xo5, g5, _⟩ := hc5.co.ex
  have u0 := blk_cell g5 0
  simp at u0
  rw [lgP_pos hgp] at u0
  have hl5 := hc5.co.lts.1
  have hen := endedE_any t w5.drew ht
  have K5 := toHid (show CL w5 B cp gp bT m lp p bD bN n c l d ∧ CFr B cp bT lp p w w5 ∧ Pows w5 from ⟨hc5, hx5, (hx5.hfr HI.out.1).pows hB HI.out.2⟩)
  clear hc5 hx5 g5
  go_region_held3 (fun w' => w'.cell? ⟨cp, 0, none⟩ = some (.pointer (some ⟨gp, 0, none⟩)))
    (simp [*])
    (first | (go_at_call 103; refine hen.mono ?_; rintro e w6 ⟨rfl, hb6⟩; have hf6 : Fr [] w5 w6 := (Fr.refl [] w5).drew.trans (Fr.of_below hb6 []); obtain ⟨hc6, hx6⟩ := K5.out.1.new hf6; have k0 := (World.cell?_of_block (a := ⟨cp, 0, none⟩) (hf6.block cp hl5 (by simp))).trans u0; have K6 := toHid (show CL w6 B cp gp bT m lp p bD bN n c l d ∧ CFr B cp bT lp p w w6 ∧ Pows w6 from ⟨hc6, K5.out.2.1.trans hx6, (hx6.hfr K5.out.1).pows hB K5.out.2.2⟩); clear hf6 hb6 hc6 hx6) | (go_at_call 102; obtain ⟨pv, sv, rvv, nD, nN, hlg⟩ := K6.out.1.lg; refine (note_any B gp lp p bD bN n nD nN 3 pv sv rvv l d (str (be 8 t)) w6 K6.out.1.led hlg (by omega) hn hB hsg K6.out.2.2).mono ?_; rintro e w7 ⟨rfl, hl7, ho7⟩; obtain ⟨hc7, hx7⟩ := K6.out.1.log ho7 hl7; obtain ⟨rv7, ov7, kr7, ko7, xr7, xo7, g7, _⟩ := hc7.co.ex; have n0 := blk_cell g7 0; have n1 := blk_cell g7 1; simp at n0 n1; rw [lgP_pos hgp] at n0; have K7 := toHid (show CL w7 B cp gp bT m lp p bD bN (n + 3) c (l.note d 3 (str (be 8 t))).1 (l.note d 3 (str (be 8 t))).2.1 ∧ CFr B cp bT lp p w w7 from ⟨hc7, K6.out.2.1.trans hx7⟩); clear hlg hl7 ho7 hc7 hx7 g7))
  rw [errN_ok]
  go_wp2_with (first
    | (at_delete; refine wpList_map_del (KR := KU) (ER := EX) rfl _ _ 143 162 rfl Tryz.underlying143 bT m c.txns rfl K7.out.1.co.txns t ht rfl ?_; intro w8 hm8 hg8)
    | fail)
  have hin8 := K7.out.1.co.setTxns (Fr.of_grown1 hg8) hm8 (Nat.le_refl _)
  obtain ⟨k8, x8⟩ := K7.out.1.turn hin8 (Fr.r ((Fr.of_grown1 hg8).mono (fun k _ hk => by simp at hk; simp [hk])))
  have H8 := toHid (show CL w8 B cp gp bT m lp p bD bN (n + 3) { c with txns := alDel c.txns t } (l.note d 3 (str (be 8 t))).1 (l.note d 3 (str (be 8 t))).2.1 ∧ CFr B cp bT lp p w w8 from ⟨k8, K7.out.2.trans x8⟩)
  clear hin8 hm8 hg8 k8 x8
  go_wp2
  go_ret
  exact ⟨rfl, H8.out⟩
end Go.Proofs.YtejiankgafjppabGreatDoor
/- THE COORDINATOR: reserve, Begin. -/
namespace Go.Proofs.YtejiankgafjppabGreatDoor
open Go.RowKit Go.Shelf Go.Maps
open Sc

/-- a cell of its own was written -/
theorem CoIn.cell {w w' : World} {B cp lg lg' bT n : Nat} {c c' : ACo} (h : CoIn w B cp lg bT n c) (hc : c'.txns = c.txns) (hnum : c'.next < 18446744073709551616 ∧ c'.limit < 18446744073709551616 ∧ c'.ticks < 18446744073709551616) (hf : Fr [cp] w w') (hb : ∀ rv ov, w.heap[cp]? = some (coO lg bT c rv ov) → w'.heap[cp]? = some (coO lg' bT c' rv ov)) : CoIn w' B cp lg' bT n c' := by
  obtain ⟨rv, ov, kr, ko, xr, xo, h1, h2, h3, h4, h5⟩ := h.ex
  refine ⟨⟨rv, ov, kr, ko, xr, xo, hb rv ov h1, ownsRow_fr h2 hf (fun g hg => ?_), ownsRow_fr h3 hf (fun g hg => ?_), h4, h5⟩, by rw [hc]; exact h.txns.fr hf (by simpa using fun e => h.lts.2.2 e.symm), ⟨h.low.1, h.low.2.1, Nat.le_trans h.low.2.2 hf.size⟩, hnum⟩
  · simp; intro e; subst e; exact own_ne h2 h1 (by decide) hg
  · simp; intro e; subst e; exact own_ne h3 h1 (by decide) hg
set_option maxRecDepth 100000 in
set_option maxHeartbeats 4000000 in
theorem reserve_any (B cp gp bT m lp p bD bN n : Nat) (c : ACo) (l : ALog) (d : ADisk) (w : World) (h : CL w B cp gp bT m lp p bD bN n c l d) (hli : c.limit + 16 < 18446744073709551616) (hn : n + 3 < 67108864) (hB : 2 ≤ B) (hsg : l.filled < 600 → l.segs ≠ []) (hpow : Pows w) (hke : (l.keep d 1 (str (be 8 (c.limit + 16)))).2.2 = 0) :
    Calls Tryz.prog 89 #[.pointer (some ⟨cp, 0, none⟩)] w fun e w' => e = .returned .nilIface ∧ CL w' B cp gp bT m lp p bD bN (n + 3) { c with limit := c.limit + 16 } (l.keep d 1 (str (be 8 (c.limit + 16)))).1 (l.keep d 1 (str (be 8 (c.limit + 16)))).2.1 ∧ CFr B cp bT lp p w w' := by
  obtain ⟨rv, ov, kr, ko, xr, xo, g1, _⟩ := h.co.ex
  have hgp := h.gp1
  have c0 := blk_cell g1 0
  have c3 := blk_cell g1 3
  simp at c0 c3
  rw [lgP_pos hgp] at c0
  have hl := h.co.lts.1
  have hnums := h.co.nums
  obtain ⟨M, hM⟩ : ∃ M, M = c.limit + 16 := ⟨_, rfl⟩
  have iM : (c.limit : Int) + 16 = (M : Int) := by omega
  have jM : IntKind.u64.wrap ((c.limit : Int) + 16) = (M : Int) := by rw [IntKind.wrap_u64]; omega
  have kM : (c.limit : Int) + 16 < 18446744073709551616 := by omega
  rw [← hM] at hke ⊢
  have hre := reservedE_any M w.drew (by omega)
  have H0 := toHid (And.intro h hpow)
  have HM := toHid hM
  clear h hpow g1 hM
  go_enter Tryz.func89, Tryz.ntmps89
  go_wp2
  clear iM jM kM
  go_region_held3 (fun w' => w'.cell? ⟨cp, 0, none⟩ = some (.pointer (some ⟨gp, 0, none⟩)))
    (simp [*])
    (first | (go_at_call 138; refine hre.mono ?_; rintro e w6 ⟨rfl, hb6⟩; have hf6 : Fr [] w w6 := (Fr.refl [] w).drew.trans (Fr.of_below hb6 []); obtain ⟨hc6, hx6⟩ := H0.out.1.new hf6; have k0 := (World.cell?_of_block (a := ⟨cp, 0, none⟩) (hf6.block cp hl (by simp))).trans c0; have K6 := toHid (show CL w6 B cp gp bT m lp p bD bN n c l d ∧ CFr B cp bT lp p w w6 ∧ Pows w6 from ⟨hc6, hx6, (hx6.hfr H0.out.1).pows hB H0.out.2⟩); clear hf6 hb6 hc6 hx6) | (go_at_call 74; obtain ⟨pv, sv, rvv, nD, nN, hlg⟩ := K6.out.1.lg; refine (keep_any B gp lp p bD bN n nD nN 1 pv sv rvv l d (str (be 8 M)) w6 K6.out.1.led hlg (by omega) hn hB hsg K6.out.2.2).mono ?_; rintro e w7 ⟨rfl, hl7, ho7⟩; obtain ⟨hc7, hx7⟩ := K6.out.1.log ho7 hl7; obtain ⟨rv7, ov7, kr7, ko7, xr7, xo7, g7, _⟩ := hc7.co.ex; have n0 := blk_cell g7 0; have n3 := blk_cell g7 3; have f3 := blk_free g7 3; simp at n0 n3; rw [lgP_pos hgp] at n0; have K7 := toHid (show CL w7 B cp gp bT m lp p bD bN (n + 3) c (l.keep d 1 (str (be 8 M))).1 (l.keep d 1 (str (be 8 M))).2.1 ∧ CFr B cp bT lp p w w7 from ⟨hc7, K6.out.2.1.trans hx7⟩); clear hlg hl7 ho7 hc7 hx7 g7))
  rw [errN_ok]
  obtain ⟨W8, hW8⟩ : ∃ W8, W8 = w7.setCell ⟨cp, 3, none⟩ (.int .u64 (M : Int)) := ⟨_, rfl⟩
  have hf8 : Fr [cp] w7 W8 := by rw [hW8]; exact Fr.set1 (by simp) _ _
  have hin8 : CoIn W8 B cp gp bT m { c with limit := M } := K7.out.1.co.cell rfl ⟨hnums.1, by show M < _; rw [HM.out]; exact hli, hnums.2.2⟩ hf8 (fun rv ov e => by
    rw [hW8]
    have := blk_set e 3 (.int .u64 (M : Int))
    simpa using this)
  obtain ⟨k8, x8⟩ := K7.out.1.turn hin8 (Fr.r (hf8.mono (fun k _ hk => by simp at hk; simp [hk])))
  have H8 := toHid (show CL W8 B cp gp bT m lp p bD bN (n + 3) { c with limit := M } (l.keep d 1 (str (be 8 M))).1 (l.keep d 1 (str (be 8 M))).2.1 ∧ CFr B cp bT lp p w W8 from ⟨k8, K7.out.2.trans x8⟩)
  clear hin8 hf8 k8 x8
  go_wp2
  rw [← hW8]
  go_ret
  exact ⟨rfl, H8.out⟩
theorem CoIn.lenT {w : World} {B cp lg bT n : Nat} {c : ACo} (h : CoIn w B cp lg bT n c) (ty : TypeId) : (Builtin.len_ #[143] ty #[.map (some bT)]).run Tryz.prog w = .ok (.int .i64 (c.txns.length : Int)) w :=
  h.txns.lenRun Tryz.underlying143 ty
set_option maxRecDepth 100000 in
set_option maxHeartbeats 4000000 in
theorem begin_any (B cp gp bT m lp p bD bN n : Nat) (c : ACo) (l : ALog) (d : ADisk) (w : World) (h : CL w B cp gp bT m lp p bD bN n c l d) (hlt : c.txns.length < 12) (hnx : c.next = c.limit) (hli : c.limit + 16 < 18446744073709551616) (hm : m + 1 < 67108864) (hn : n + 3 < 67108864) (hB : 2 ≤ B) (hsg : l.filled < 600 → l.segs ≠ []) (hpow : Pows w) (hke : (l.keep d 1 (str (be 8 (c.limit + 16)))).2.2 = 0) :
    Calls Tryz.prog 52 #[.pointer (some ⟨cp, 0, none⟩)] w fun e w' => e = .returned (.tuple #[.int .u64 (c.limit : Int), .nilIface]) ∧ CL w' B cp gp bT (m + 1) lp p bD bN (n + 3) { c with limit := c.limit + 16, next := c.limit + 1, txns := alPut c.txns c.limit ⟨4, [0, 0, 0, 0, 0, 0, 0, 0, 0], 0⟩ } (l.keep d 1 (str (be 8 (c.limit + 16)))).1 (l.keep d 1 (str (be 8 (c.limit + 16)))).2.1 ∧ CFr B cp bT lp p w w' := by
  obtain ⟨rv, ov, kr, ko, xr, xo, g1, _⟩ := h.co.ex
  have hgp := h.gp1
  have c0 := blk_cell g1 0
  have c1 := blk_cell g1 1
  have c2 := blk_cell g1 2
  have c3 := blk_cell g1 3
  simp at c0 c1 c2 c3
  rw [lgP_pos hgp] at c0
  rw [hnx] at c2
  have hlen := h.co.lenT
  have hl := h.co.lts.1
  have hnums := h.co.nums
  have hre := reserve_any B cp gp bT m lp p bD bN n c l d w.drew (h.new (Fr.refl [] w).drew).1 hli hn hB hsg hpow hke
  have H0 := toHid h
  obtain ⟨R, hR⟩ : ∃ R, R = l.keep d 1 (str (be 8 (c.limit + 16))) := ⟨_, rfl⟩
  rw [← hR] at hre ⊢
  obtain ⟨N, hN⟩ : ∃ N, N = c.txns.length := ⟨_, rfl⟩
  rw [← hN] at hlen hlt
  have i12 : ¬ (12 : Int) ≤ (N : Int) := by omega
  clear h hpow g1 hR hN hke
  go_enter Tryz.func52, Tryz.ntmps52
  go_wp2
  go_region_held3 (fun w' => w'.cell? ⟨cp, 2, none⟩ = some (.int .u64 (c.limit : Int)) ∧ w'.cell? ⟨cp, 3, none⟩ = some (.int .u64 (c.limit : Int)))
    (simp [*])
    (fail)
  go_wp2_with fail
  refine hre.mono ?_
  clear hre hlen c0 c1 c2 c3
  rintro e w1 ⟨rfl, hc1, hx1⟩
  obtain ⟨rv1, ov1, kr1, ko1, xr1, xo1, g1, _⟩ := hc1.co.ex
  have c2 := blk_cell g1 2
  have f2 := blk_free g1 2
  simp at c2
  rw [hnx] at c2
  have i1 : IntKind.u64.wrap ((c.limit : Int) + 1) = (c.limit : Int) + 1 := by rw [IntKind.wrap_u64]; omega
  have i2 : (c.limit : Int) + 1 < 18446744073709551616 := by omega
  obtain ⟨W2, hW2⟩ : ∃ W2, W2 = w1.setCell ⟨cp, 2, none⟩ (.int .u64 ((c.limit : Int) + 1)) := ⟨_, rfl⟩
  have hf2 : Fr [cp] w1 W2 := by rw [hW2]; exact Fr.set1 (by simp) _ _
  have hin2 : CoIn W2 B cp gp bT m { c with limit := c.limit + 16, next := c.limit + 1 } := hc1.co.cell rfl ⟨by show c.limit + 1 < _; omega, hli, hnums.2.2⟩ hf2 (fun rv ov e => by
    rw [hW2]
    have := blk_set e 2 (.int .u64 ((c.limit : Int) + 1))
    simpa [coO] using this)
  obtain ⟨k2, x2⟩ := hc1.turn hin2 (Fr.r (hf2.mono (fun k _ hk => by simp at hk; simp [hk])))
  obtain ⟨rv2, ov2, kr2, ko2, xr2, xo2, g2, _⟩ := hin2.ex
  have d1 := blk_cell g2 1
  simp at d1
  obtain ⟨w3, hr3, hm3, hg3⟩ := hin2.txns.putRun Tryz.underlying143 (by unfold maxLen; omega) (k := c.limit) (show c.limit < 18446744073709551616 by omega) (v := (⟨4, [0, 0, 0, 0, 0, 0, 0, 0, 0], 0⟩ : ATx)) (show ATx.Ok _ from ⟨rfl, by decide⟩)
  change (Instr.mapUpdate _ _ (.int .u64 (c.limit : Int)) (.agg #[.int .i64 4, .int .u8 0, .int .u8 0, .int .u8 0, .int .u8 0, .int .u8 0, .int .u8 0, .int .u8 0, .int .u8 0, .int .u8 0, .int .u64 0, .nilIface])).run _ _ = _ at hr3
  have hin3 := hin2.setTxns (Fr.of_grown1 hg3) hm3 (by omega)
  obtain ⟨k3, x3⟩ := k2.turn hin3 (Fr.r ((Fr.of_grown1 hg3).mono (fun k _ hk => by simp at hk; simp [hk])))
  have hx0 : CFr B cp bT lp p w w1 := (H0.out.new (Fr.refl [] w).drew).2.trans hx1
  have H3 := toHid (show CL w3 B cp gp bT (m + 1) lp p bD bN (n + 3) { c with limit := c.limit + 16, next := c.limit + 1, txns := alPut c.txns c.limit ⟨4, [0, 0, 0, 0, 0, 0, 0, 0, 0], 0⟩ } R.1 R.2.1 ∧ CFr B cp bT lp p w w3 from ⟨k3, (hx0.trans x2).trans x3⟩)
  rw [hW2] at d1 hr3
  clear hc1 hx1 g1 hf2 hin2 k2 x2 g2 hm3 hg3 hin3 k3 x3 hx0 hW2
  go_wp2
  go_ret2
  exact ⟨rfl, H3.out⟩
end Go.Proofs.YtejiankgafjppabGreatDoor
