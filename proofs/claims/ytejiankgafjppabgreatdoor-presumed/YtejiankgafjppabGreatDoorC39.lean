import Derived.Test.YtejiankgafjppabGreatDoorC38
import Derived.Test.YtejiankgafjppabGreatDoorC33
import Derived.Test.YtejiankgafjppabGreatDoorC34
import Derived.Test.YtejiankgafjppabGreatDoorC31
/- THE COORDINATOR: Done. (Written by mkdone.py.) -/
namespace Go.Proofs.YtejiankgafjppabGreatDoor
open Go.RowKit Go.Shelf Go.Maps
open Sc

set_option maxRecDepth 100000 in
set_option maxHeartbeats 8000000 in
theorem done_more (B cp lg bT n t k : Nat) (hk : k < 9) (c : ACo) (w : World) (h : CoIn w B cp lg bT n c) (ht : t < 18446744073709551616) (hst : (c.tx t).state = 6) (hpt : (c.tx t).parts.getD k 0 = 2) (hany : ((c.tx t).parts.set k 5).any isToC = true) (hn : n + 1 < 67108864) :
    Calls Tryz.prog 56 #[.pointer (some ⟨cp, 0, none⟩), .int .u64 (t : Int), .int .i64 (k : Int)] w fun e w' => e = .returned .nilIface ∧ CoIn w' B cp lg bT (n + 1) { c with txns := alPut c.txns t { c.tx t with parts := (c.tx t).parts.set k 5 } } ∧ RFr B [cp, bT] w w' := by
  have hcoin := h
  have hok := hcoin.okT t
  have hla := hcoin.lookT ht
  obtain ⟨rv, ov, kr, ko, xr, xo, g1, _⟩ := hcoin.ex
  have c1 := blk_cell g1 1
  simp at c1
  have hcl := hcoin.lts
  obtain ⟨T, hT⟩ : ∃ T, T = c.tx t := ⟨_, rfl⟩
  rw [← hT] at hok hst hpt hany hla ⊢
  clear hT
  obtain ⟨T2, hT2⟩ : ∃ T2 : ATx, T2 = { T with parts := T.parts.set k 5 } := ⟨_, rfl⟩
  have hok2 : T2.Ok := by rw [hT2]; exact set_ok hok (by omega)
  have e2p : T.parts.set k 5 = T2.parts := by rw [hT2]
  rw [e2p] at hany
  rw [← hT2]
  have hat0 := fun W => at_any T hok k hk W
  rw [hpt] at hat0
  have hwi := fun W => with_any T hok k 5 hk W
  rw [← hT2] at hwi
  obtain ⟨q0, q1, q2, q3, q4, q5, q6, q7, q8, hq⟩ := nine hok2.1
  have hlit2 : txV T2 = .agg #[.int .i64 6, .int .u8 (q0 : Int), .int .u8 (q1 : Int), .int .u8 (q2 : Int), .int .u8 (q3 : Int), .int .u8 (q4 : Int), .int .u8 (q5 : Int), .int .u8 (q6 : Int), .int .u8 (q7 : Int), .int .u8 (q8 : Int), .int .u64 (T.since : Int), .nilIface] := by
    have e : T2 = ⟨6, [q0, q1, q2, q3, q4, q5, q6, q7, q8], T.since⟩ := by
      have e1 : T2.state = 6 := by rw [hT2]; exact hst
      have e2 : T2.since = T.since := by rw [hT2]
      rw [← e1, ← e2, ← hq]
    rw [e, txV_lit]
    rfl
  rw [hlit2] at hwi
  have HPUT := toHid (fun (W : World) (m' : Nat) (h2 : CoIn W B cp lg bT m' c) (hm' : m' < maxLen) => (by
    obtain ⟨w5, hr5, hm5, hg5⟩ := h2.txns.putRun Tryz.underlying143 hm' (k := t) ht (v := T2) hok2
    refine ⟨w5, ?_, h2.setTxns (Fr.of_grown1 hg5) hm5 (by omega), Fr.of_grown1 hg5⟩
    have e : (EX.ev T2 : Value) = txV T2 := rfl
    rw [e, hlit2] at hr5
    exact hr5 : ∃ w5, (Instr.mapUpdate 143 (.map (some bT)) (.int .u64 (t : Int)) (.agg #[.int .i64 6, .int .u8 (q0 : Int), .int .u8 (q1 : Int), .int .u8 (q2 : Int), .int .u8 (q3 : Int), .int .u8 (q4 : Int), .int .u8 (q5 : Int), .int .u8 (q6 : Int), .int .u8 (q7 : Int), .int .u8 (q8 : Int), .int .u64 (T.since : Int), .nilIface])).run Tryz.prog W = .ok () w5 ∧ CoIn w5 B cp lg bT (m' + 1) { c with txns := alPut c.txns t T2 } ∧ Fr [bT] W w5))
  have HHA := toHid (fun W => has_any 101 isToC isToC_m isToC_en T2 hok2 W)
  rw [hany, hlit2] at HHA
  have HWI := toHid hwi
  clear hT2 hq hwi hpt hany e2p hlit2
  obtain ⟨s, ps, z⟩ := T
  obtain ⟨p0, p1, p2, p3, p4, p5, p6, p7, p8, hps⟩ := nine hok.1
  change ps = _ at hps
  subst hps
  change s = 6 at hst
  subst hst
  rw [txV_lit] at hla
  simp only [txV_lit] at hat0
  have HI := toHid h
  obtain ⟨W0, hW0⟩ : ∃ W0, W0 = w.alloc (.cells #[.int .i64 6, .int .u8 (p0 : Int), .int .u8 (p1 : Int), .int .u8 (p2 : Int), .int .u8 (p3 : Int), .int .u8 (p4 : Int), .int .u8 (p5 : Int), .int .u8 (p6 : Int), .int .u8 (p7 : Int), .int .u8 (p8 : Int), .int .u64 (z : Int), .nilIface] 162) := ⟨_, rfl⟩
  have hf0 : Fr [] w W0 := by rw [hW0]; exact (Fr.refl [] w).alloc _
  have r0 : W0.heap[w.heap.size]? = some (.cells #[.int .i64 6, .int .u8 (p0 : Int), .int .u8 (p1 : Int), .int .u8 (p2 : Int), .int .u8 (p3 : Int), .int .u8 (p4 : Int), .int .u8 (p5 : Int), .int .u8 (p6 : Int), .int .u8 (p7 : Int), .int .u8 (p8 : Int), .int .u64 (z : Int), .nilIface] 162 (0, 0)) := by rw [hW0]; exact heap_alloc_new w _
  have hat := hat0 W0
  have hl0 := (Array.getElem?_eq_some_iff.1 r0).1
  have H0 := toHid (And.intro hf0 r0)
  clear h g1 hat0 hf0 r0 hcoin
  go_enter Tryz.func56, Tryz.ntmps56
  go_wp2_with fail
  rw [← hW0]
  clear hW0
  refine hat.mono ?_
  clear hat
  rintro e w2 ⟨rfl, hf2⟩
  have r2 := (hf2.block w.heap.size hl0 (by simp)).trans H0.out.2
  obtain ⟨x0, x1, x2, x3, x4, x5, x6, x7, x8, x9, xa, xb⟩ := tx12 r2
  have hwi := HWI.out w2
  have H2 := toHid (H0.out.1.trans hf2)
  clear hf2 r2
  go_wp2_with fail
  refine hwi.mono ?_
  clear hwi x0 x1 x2 x3 x4 x5 x6 x7 x8 x9 xa xb
  rintro e w3 ⟨rfl, hf3⟩
  obtain ⟨W4, hW4⟩ : ∃ W4, W4 = w3.alloc (.cells #[.int .i64 6, .int .u8 (q0 : Int), .int .u8 (q1 : Int), .int .u8 (q2 : Int), .int .u8 (q3 : Int), .int .u8 (q4 : Int), .int .u8 (q5 : Int), .int .u8 (q6 : Int), .int .u8 (q7 : Int), .int .u8 (q8 : Int), .int .u64 (z : Int), .nilIface] 162) := ⟨_, rfl⟩
  have hf4 : Fr [] w W4 := by rw [hW4]; exact (H2.out.trans hf3).alloc _
  have r4 : W4.heap[w3.heap.size]? = some (.cells #[.int .i64 6, .int .u8 (q0 : Int), .int .u8 (q1 : Int), .int .u8 (q2 : Int), .int .u8 (q3 : Int), .int .u8 (q4 : Int), .int .u8 (q5 : Int), .int .u8 (q6 : Int), .int .u8 (q7 : Int), .int .u8 (q8 : Int), .int .u64 (z : Int), .nilIface] 162 (0, 0)) := by rw [hW4]; exact heap_alloc_new w3 _
  have hl4 := (Array.getElem?_eq_some_iff.1 r4).1
  have H4 := toHid (And.intro hf4 r4)
  have hha := HHA.out W4
  clear hf4 r4 hf3
  go_wp2_with fail
  rw [← hW4]
  clear hW4
  refine hha.mono ?_
  clear hha
  rintro e w5 ⟨rfl, hf5⟩
  have H5 := toHid (And.intro (H4.out.1.trans hf5) ((hf5.block w3.heap.size hl4 (by simp)).trans H4.out.2))
  clear hf5
  go_wp2
  obtain ⟨d0, d1, d2, d3, d4, d5, d6, d7, d8, d9, da, db⟩ := tx12 H5.out.2
  have u1 := (World.cell?_of_block (a := ⟨cp, 1, none⟩) (H5.out.1.block cp hcl.1 (by simp))).trans c1
  obtain ⟨w6, hr6, hc6, hf6⟩ := HPUT.out w5.drew n (HI.out.new H5.out.1.drew) (by unfold maxLen; omega)
  have hne : ¬ w3.heap.size = bT := by
    intro e
    obtain ⟨es, cc, e2⟩ := (HI.out.new H5.out.1).txns.isMap
    rw [← e, H5.out.2] at e2; cases e2
  have r6 := (hf6.block w3.heap.size (Array.getElem?_eq_some_iff.1 H5.out.2).1 (by simpa using hne)).trans H5.out.2
  obtain ⟨t0, t1, t2, t3, t4, t5, t6, t7, t8, t9, ta, tb⟩ := tx12 r6
  have u6 := (World.cell?_of_block (a := ⟨cp, 1, none⟩) (hf6.block cp (by have := H5.out.1.size; show cp < w5.heap.size; omega) (by simpa using hcl.2.2))).trans u1
  have hf6' : Fr [bT] w5 w6 := ⟨hf6.os, hf6.tape, hf6.output, hf6.size, hf6.block⟩
  have H6 := toHid (show CoIn w6 B cp lg bT (n + 1) { c with txns := alPut c.txns t T2 } ∧ RFr B [cp, bT] w w6 from ⟨hc6, RFr.trans ((H5.out.1.mono (by simp)).r) (Fr.r (hf6'.mono (fun k _ hk => by simp at hk; simp [hk])))⟩)
  clear hc6 hf6 hf6' r6
  go_region_held3 (fun w' => w'.cell? ⟨cp, 1, none⟩ = some (.map (some bT)) ∧ w'.cell? ⟨w3.heap.size, 0, none⟩ = some (.int .i64 6) ∧ w'.cell? ⟨w3.heap.size, 1, none⟩ = some (.int .u8 (q0 : Int)) ∧ w'.cell? ⟨w3.heap.size, 2, none⟩ = some (.int .u8 (q1 : Int)) ∧ w'.cell? ⟨w3.heap.size, 3, none⟩ = some (.int .u8 (q2 : Int)) ∧ w'.cell? ⟨w3.heap.size, 4, none⟩ = some (.int .u8 (q3 : Int)) ∧ w'.cell? ⟨w3.heap.size, 5, none⟩ = some (.int .u8 (q4 : Int)) ∧ w'.cell? ⟨w3.heap.size, 6, none⟩ = some (.int .u8 (q5 : Int)) ∧ w'.cell? ⟨w3.heap.size, 7, none⟩ = some (.int .u8 (q6 : Int)) ∧ w'.cell? ⟨w3.heap.size, 8, none⟩ = some (.int .u8 (q7 : Int)) ∧ w'.cell? ⟨w3.heap.size, 9, none⟩ = some (.int .u8 (q8 : Int)) ∧ w'.cell? ⟨w3.heap.size, 10, none⟩ = some (.int .u64 (z : Int)) ∧ w'.cell? ⟨w3.heap.size, 11, none⟩ = some (.nilIface))
    (simp [*])
    (fail)
  go_wp2
  go_ret
  exact ⟨rfl, H6.out⟩
set_option maxRecDepth 100000 in
set_option maxHeartbeats 8000000 in
theorem done_last (B cp gp bT m lp p bD bN n t k : Nat) (hk : k < 9) (c : ACo) (l : ALog) (d : ADisk) (w : World) (h : CL w B cp gp bT m lp p bD bN n c l d) (ht : t < 18446744073709551616) (hst : (c.tx t).state = 6) (hpt : (c.tx t).parts.getD k 0 = 2) (hany : ((c.tx t).parts.set k 5).any isToC = false) (hn : n + 3 < 67108864) (hB : 2 ≤ B) (hsg : l.filled < 600 → l.segs ≠ []) (hpow : Pows w) (hke : (l.note d 3 (str (be 8 t))).2.2 = 0) :
    Calls Tryz.prog 56 #[.pointer (some ⟨cp, 0, none⟩), .int .u64 (t : Int), .int .i64 (k : Int)] w fun e w' => e = .returned .nilIface ∧ CL w' B cp gp bT m lp p bD bN (n + 3) { c with txns := alDel c.txns t } (l.note d 3 (str (be 8 t))).1 (l.note d 3 (str (be 8 t))).2.1 ∧ CFr B cp bT lp p w w' := by
  have hcoin := h.co
  have hok := hcoin.okT t
  have hla := hcoin.lookT ht
  obtain ⟨rv, ov, kr, ko, xr, xo, g1, _⟩ := hcoin.ex
  have c1 := blk_cell g1 1
  simp at c1
  have hcl := hcoin.lts
  obtain ⟨T, hT⟩ : ∃ T, T = c.tx t := ⟨_, rfl⟩
  rw [← hT] at hok hst hpt hany hla
  clear hT
  obtain ⟨T2, hT2⟩ : ∃ T2 : ATx, T2 = { T with parts := T.parts.set k 5 } := ⟨_, rfl⟩
  have hok2 : T2.Ok := by rw [hT2]; exact set_ok hok (by omega)
  have e2p : T.parts.set k 5 = T2.parts := by rw [hT2]
  rw [e2p] at hany
  have hat0 := fun W => at_any T hok k hk W
  rw [hpt] at hat0
  have hwi := fun W => with_any T hok k 5 hk W
  rw [← hT2] at hwi
  obtain ⟨q0, q1, q2, q3, q4, q5, q6, q7, q8, hq⟩ := nine hok2.1
  have hlit2 : txV T2 = .agg #[.int .i64 6, .int .u8 (q0 : Int), .int .u8 (q1 : Int), .int .u8 (q2 : Int), .int .u8 (q3 : Int), .int .u8 (q4 : Int), .int .u8 (q5 : Int), .int .u8 (q6 : Int), .int .u8 (q7 : Int), .int .u8 (q8 : Int), .int .u64 (T.since : Int), .nilIface] := by
    have e : T2 = ⟨6, [q0, q1, q2, q3, q4, q5, q6, q7, q8], T.since⟩ := by
      have e1 : T2.state = 6 := by rw [hT2]; exact hst
      have e2 : T2.since = T.since := by rw [hT2]
      rw [← e1, ← e2, ← hq]
    rw [e, txV_lit]
    rfl
  rw [hlit2] at hwi
  have HHA := toHid (fun W => has_any 101 isToC isToC_m isToC_en T2 hok2 W)
  rw [hany, hlit2] at HHA
  have HWI := toHid hwi
  clear hT2 hq hwi hpt hany e2p hlit2
  obtain ⟨s, ps, z⟩ := T
  obtain ⟨p0, p1, p2, p3, p4, p5, p6, p7, p8, hps⟩ := nine hok.1
  change ps = _ at hps
  subst hps
  change s = 6 at hst
  subst hst
  rw [txV_lit] at hla
  simp only [txV_lit] at hat0
  have HI := toHid (And.intro h hpow)
  have hgp := h.gp1
  obtain ⟨W0, hW0⟩ : ∃ W0, W0 = w.alloc (.cells #[.int .i64 6, .int .u8 (p0 : Int), .int .u8 (p1 : Int), .int .u8 (p2 : Int), .int .u8 (p3 : Int), .int .u8 (p4 : Int), .int .u8 (p5 : Int), .int .u8 (p6 : Int), .int .u8 (p7 : Int), .int .u8 (p8 : Int), .int .u64 (z : Int), .nilIface] 162) := ⟨_, rfl⟩
  have hf0 : Fr [] w W0 := by rw [hW0]; exact (Fr.refl [] w).alloc _
  have r0 : W0.heap[w.heap.size]? = some (.cells #[.int .i64 6, .int .u8 (p0 : Int), .int .u8 (p1 : Int), .int .u8 (p2 : Int), .int .u8 (p3 : Int), .int .u8 (p4 : Int), .int .u8 (p5 : Int), .int .u8 (p6 : Int), .int .u8 (p7 : Int), .int .u8 (p8 : Int), .int .u64 (z : Int), .nilIface] 162 (0, 0)) := by rw [hW0]; exact heap_alloc_new w _
  have hat := hat0 W0
  have hl0 := (Array.getElem?_eq_some_iff.1 r0).1
  have H0 := toHid (And.intro hf0 r0)
  clear h hpow g1 hat0 hf0 r0 hcoin
  go_enter Tryz.func56, Tryz.ntmps56
  go_wp2_with fail
  rw [← hW0]
  clear hW0
  refine hat.mono ?_
  clear hat
  rintro e w2 ⟨rfl, hf2⟩
  have r2 := (hf2.block w.heap.size hl0 (by simp)).trans H0.out.2
  obtain ⟨x0, x1, x2, x3, x4, x5, x6, x7, x8, x9, xa, xb⟩ := tx12 r2
  have hwi := HWI.out w2
  have H2 := toHid (H0.out.1.trans hf2)
  clear hf2 r2
  go_wp2_with fail
  refine hwi.mono ?_
  clear hwi x0 x1 x2 x3 x4 x5 x6 x7 x8 x9 xa xb
  rintro e w3 ⟨rfl, hf3⟩
  obtain ⟨W4, hW4⟩ : ∃ W4, W4 = w3.alloc (.cells #[.int .i64 6, .int .u8 (q0 : Int), .int .u8 (q1 : Int), .int .u8 (q2 : Int), .int .u8 (q3 : Int), .int .u8 (q4 : Int), .int .u8 (q5 : Int), .int .u8 (q6 : Int), .int .u8 (q7 : Int), .int .u8 (q8 : Int), .int .u64 (z : Int), .nilIface] 162) := ⟨_, rfl⟩
  have hf4 : Fr [] w W4 := by rw [hW4]; exact (H2.out.trans hf3).alloc _
  have r4 : W4.heap[w3.heap.size]? = some (.cells #[.int .i64 6, .int .u8 (q0 : Int), .int .u8 (q1 : Int), .int .u8 (q2 : Int), .int .u8 (q3 : Int), .int .u8 (q4 : Int), .int .u8 (q5 : Int), .int .u8 (q6 : Int), .int .u8 (q7 : Int), .int .u8 (q8 : Int), .int .u64 (z : Int), .nilIface] 162 (0, 0)) := by rw [hW4]; exact heap_alloc_new w3 _
  have hl4 := (Array.getElem?_eq_some_iff.1 r4).1
  have H4 := toHid (And.intro hf4 r4)
  have hha := HHA.out W4
  clear hf4 r4 hf3
  go_wp2_with fail
  rw [← hW4]
  clear hW4
  refine hha.mono ?_
  clear hha
  rintro e w5 ⟨rfl, hf5⟩
  have H5 := toHid (And.intro (H4.out.1.trans hf5) ((hf5.block w3.heap.size hl4 (by simp)).trans H4.out.2))
  clear hf5
  go_wp2
  obtain ⟨hc5, hx5⟩ := HI.out.1.new H5.out.1
  obtain ⟨rv5, ov5, kr5, ko5, xr5, xo5, g5, _⟩ := hc5.co.ex
  have u0 := blk_cell g5 0
  simp at u0
  rw [lgP_pos hgp] at u0
  have hl5 := hc5.co.lts.1
  have hen := endedE_any t w5.drew ht
  have K5 := toHid (show CL w5 B cp gp bT m lp p bD bN n c l d ∧ CFr B cp bT lp p w w5 ∧ Pows w5 from ⟨hc5, hx5, (hx5.hfr HI.out.1).pows hB HI.out.2⟩)
  clear hc5 hx5 g5
  go_region_held3 (fun w' => w'.cell? ⟨cp, 0, none⟩ = some (.pointer (some ⟨gp, 0, none⟩)))
    (simp [*])
    (first | (go_at_call 103; refine hen.mono ?_; rintro e w6 ⟨rfl, hb6⟩; have hf6 : Fr [] w5 w6 := (Fr.refl [] w5).drew.trans (Fr.of_below hb6 []); obtain ⟨hc6, hx6⟩ := K5.out.1.new hf6; have k0 := (World.cell?_of_block (a := ⟨cp, 0, none⟩) (hf6.block cp hl5 (by simp))).trans u0; have K6 := toHid (show CL w6 B cp gp bT m lp p bD bN n c l d ∧ CFr B cp bT lp p w w6 ∧ Pows w6 from ⟨hc6, K5.out.2.1.trans hx6, (hx6.hfr K5.out.1).pows hB K5.out.2.2⟩); clear hf6 hb6 hc6 hx6) | (go_at_call 102; obtain ⟨pv, sv, rvv, nD, nN, hlg⟩ := K6.out.1.lg; refine (note_any B gp lp p bD bN n nD nN 3 pv sv rvv l d (str (be 8 t)) w6 K6.out.1.led hlg (by omega) hn hB hsg K6.out.2.2).mono ?_; rintro e w7 ⟨rfl, hl7, ho7⟩; obtain ⟨hc7, hx7⟩ := K6.out.1.log ho7 hl7; obtain ⟨rv7, ov7, kr7, ko7, xr7, xo7, g7, _⟩ := hc7.co.ex; have n0 := blk_cell g7 0; have n1 := blk_cell g7 1; simp at n0 n1; rw [lgP_pos hgp] at n0; have K7 := toHid (show CL w7 B cp gp bT m lp p bD bN (n + 3) c (l.note d 3 (str (be 8 t))).1 (l.note d 3 (str (be 8 t))).2.1 ∧ CFr B cp bT lp p w w7 from ⟨hc7, K6.out.2.1.trans hx7⟩); clear hlg hl7 ho7 hc7 hx7 g7))
  rw [errN_ok]
  go_wp2_with (first
    | (at_delete; refine wpList_map_del (KR := KU) (ER := EX) rfl _ _ 143 162 rfl Tryz.underlying143 bT m c.txns rfl K7.out.1.co.txns t ht rfl ?_; intro w8 hm8 hg8)
    | fail)
  have hin8 := K7.out.1.co.setTxns (Fr.of_grown1 hg8) hm8 (Nat.le_refl _)
  obtain ⟨k8, x8⟩ := K7.out.1.turn hin8 (Fr.r ((Fr.of_grown1 hg8).mono (fun k _ hk => by simp at hk; simp [hk])))
  have H8 := toHid (show CL w8 B cp gp bT m lp p bD bN (n + 3) { c with txns := alDel c.txns t } (l.note d 3 (str (be 8 t))).1 (l.note d 3 (str (be 8 t))).2.1 ∧ CFr B cp bT lp p w w8 from ⟨k8, K7.out.2.trans x8⟩)
  clear hin8 hm8 hg8 k8 x8
  go_wp2
  go_ret
  exact ⟨rfl, H8.out⟩
end Go.Proofs.YtejiankgafjppabGreatDoor
/- THE COORDINATOR: reserve, Begin. -/
namespace Go.Proofs.YtejiankgafjppabGreatDoor
open Go.RowKit Go.Shelf Go.Maps
open Sc

/-- a cell of its own was written -/
theorem CoIn.cell {w w' : World} {B cp lg lg' bT n : Nat} {c c' : ACo} (h : CoIn w B cp lg bT n c) (hc : c'.txns = c.txns) (hnum : c'.next < 18446744073709551616 ∧ c'.limit < 18446744073709551616 ∧ c'.ticks < 18446744073709551616) (hf : Fr [cp] w w') (hb : ∀ rv ov, w.heap[cp]? = some (coO lg bT c rv ov) → w'.heap[cp]? = some (coO lg' bT c' rv ov)) : CoIn w' B cp lg' bT n c' := by
  obtain ⟨rv, ov, kr, ko, xr, xo, h1, h2, h3, h4, h5⟩ := h.ex
  refine ⟨⟨rv, ov, kr, ko, xr, xo, hb rv ov h1, ownsRow_fr h2 hf (fun g hg => ?_), ownsRow_fr h3 hf (fun g hg => ?_), h4, h5⟩, by rw [hc]; exact h.txns.fr hf (by simpa using fun e => h.lts.2.2 e.symm), ⟨h.low.1, h.low.2.1, Nat.le_trans h.low.2.2 hf.size⟩, hnum⟩
  · simp; intro e; subst e; exact own_ne h2 h1 (by decide) hg
  · simp; intro e; subst e; exact own_ne h3 h1 (by decide) hg
set_option maxRecDepth 100000 in
set_option maxHeartbeats 4000000 in
theorem reserve_any (B cp gp bT m lp p bD bN n : Nat) (c : ACo) (l : ALog) (d : ADisk) (w : World) (h : CL w B cp gp bT m lp p bD bN n c l d) (hli : c.limit + 16 < 18446744073709551616) (hn : n + 3 < 67108864) (hB : 2 ≤ B) (hsg : l.filled < 600 → l.segs ≠ []) (hpow : Pows w) (hke : (l.keep d 1 (str (be 8 (c.limit + 16)))).2.2 = 0) :
    Calls Tryz.prog 89 #[.pointer (some ⟨cp, 0, none⟩)] w fun e w' => e = .returned .nilIface ∧ CL w' B cp gp bT m lp p bD bN (n + 3) { c with limit := c.limit + 16 } (l.keep d 1 (str (be 8 (c.limit + 16)))).1 (l.keep d 1 (str (be 8 (c.limit + 16)))).2.1 ∧ CFr B cp bT lp p w w' := by
  obtain ⟨rv, ov, kr, ko, xr, xo, g1, _⟩ := h.co.ex
  have hgp := h.gp1
  have c0 := blk_cell g1 0
  have c3 := blk_cell g1 3
  simp at c0 c3
  rw [lgP_pos hgp] at c0
  have hl := h.co.lts.1
  have hnums := h.co.nums
  obtain ⟨M, hM⟩ : ∃ M, M = c.limit + 16 := ⟨_, rfl⟩
  have iM : (c.limit : Int) + 16 = (M : Int) := by omega
  have jM : IntKind.u64.wrap ((c.limit : Int) + 16) = (M : Int) := by rw [IntKind.wrap_u64]; omega
  have kM : (c.limit : Int) + 16 < 18446744073709551616 := by omega
  rw [← hM] at hke ⊢
  have hre := reservedE_any M w.drew (by omega)
  have H0 := toHid (And.intro h hpow)
  have HM := toHid hM
  clear h hpow g1 hM
  go_enter Tryz.func89, Tryz.ntmps89
  go_wp2
  clear iM jM kM
  go_region_held3 (fun w' => w'.cell? ⟨cp, 0, none⟩ = some (.pointer (some ⟨gp, 0, none⟩)))
    (simp [*])
    (first | (go_at_call 138; refine hre.mono ?_; rintro e w6 ⟨rfl, hb6⟩; have hf6 : Fr [] w w6 := (Fr.refl [] w).drew.trans (Fr.of_below hb6 []); obtain ⟨hc6, hx6⟩ := H0.out.1.new hf6; have k0 := (World.cell?_of_block (a := ⟨cp, 0, none⟩) (hf6.block cp hl (by simp))).trans c0; have K6 := toHid (show CL w6 B cp gp bT m lp p bD bN n c l d ∧ CFr B cp bT lp p w w6 ∧ Pows w6 from ⟨hc6, hx6, (hx6.hfr H0.out.1).pows hB H0.out.2⟩); clear hf6 hb6 hc6 hx6) | (go_at_call 74; obtain ⟨pv, sv, rvv, nD, nN, hlg⟩ := K6.out.1.lg; refine (keep_any B gp lp p bD bN n nD nN 1 pv sv rvv l d (str (be 8 M)) w6 K6.out.1.led hlg (by omega) hn hB hsg K6.out.2.2).mono ?_; rintro e w7 ⟨rfl, hl7, ho7⟩; obtain ⟨hc7, hx7⟩ := K6.out.1.log ho7 hl7; obtain ⟨rv7, ov7, kr7, ko7, xr7, xo7, g7, _⟩ := hc7.co.ex; have n0 := blk_cell g7 0; have n3 := blk_cell g7 3; have f3 := blk_free g7 3; simp at n0 n3; rw [lgP_pos hgp] at n0; have K7 := toHid (show CL w7 B cp gp bT m lp p bD bN (n + 3) c (l.keep d 1 (str (be 8 M))).1 (l.keep d 1 (str (be 8 M))).2.1 ∧ CFr B cp bT lp p w w7 from ⟨hc7, K6.out.2.1.trans hx7⟩); clear hlg hl7 ho7 hc7 hx7 g7))
  rw [errN_ok]
  obtain ⟨W8, hW8⟩ : ∃ W8, W8 = w7.setCell ⟨cp, 3, none⟩ (.int .u64 (M : Int)) := ⟨_, rfl⟩
  have hf8 : Fr [cp] w7 W8 := by rw [hW8]; exact Fr.set1 (by simp) _ _
  have hin8 : CoIn W8 B cp gp bT m { c with limit := M } := K7.out.1.co.cell rfl ⟨hnums.1, by show M < _; rw [HM.out]; exact hli, hnums.2.2⟩ hf8 (fun rv ov e => by
    rw [hW8]
    have := blk_set e 3 (.int .u64 (M : Int))
    simpa using this)
  obtain ⟨k8, x8⟩ := K7.out.1.turn hin8 (Fr.r (hf8.mono (fun k _ hk => by simp at hk; simp [hk])))
  have H8 := toHid (show CL W8 B cp gp bT m lp p bD bN (n + 3) { c with limit := M } (l.keep d 1 (str (be 8 M))).1 (l.keep d 1 (str (be 8 M))).2.1 ∧ CFr B cp bT lp p w W8 from ⟨k8, K7.out.2.trans x8⟩)
  clear hin8 hf8 k8 x8
  go_wp2
  rw [← hW8]
  go_ret
  exact ⟨rfl, H8.out⟩
theorem CoIn.lenT {w : World} {B cp lg bT n : Nat} {c : ACo} (h : CoIn w B cp lg bT n c) (ty : TypeId) : (Builtin.len_ #[143] ty #[.map (some bT)]).run Tryz.prog w = .ok (.int .i64 (c.txns.length : Int)) w :=
  h.txns.lenRun Tryz.underlying143 ty
set_option maxRecDepth 100000 in
set_option maxHeartbeats 4000000 in
theorem begin_any (B cp gp bT m lp p bD bN n : Nat) (c : ACo) (l : ALog) (d : ADisk) (w : World) (h : CL w B cp gp bT m lp p bD bN n c l d) (hlt : c.txns.length < 12) (hnx : c.next = c.limit) (hli : c.limit + 16 < 18446744073709551616) (hm : m + 1 < 67108864) (hn : n + 3 < 67108864) (hB : 2 ≤ B) (hsg : l.filled < 600 → l.segs ≠ []) (hpow : Pows w) (hke : (l.keep d 1 (str (be 8 (c.limit + 16)))).2.2 = 0) :
    Calls Tryz.prog 52 #[.pointer (some ⟨cp, 0, none⟩)] w fun e w' => e = .returned (.tuple #[.int .u64 (c.limit : Int), .nilIface]) ∧ CL w' B cp gp bT (m + 1) lp p bD bN (n + 3) { c with limit := c.limit + 16, next := c.limit + 1, txns := alPut c.txns c.limit ⟨4, [0, 0, 0, 0, 0, 0, 0, 0, 0], 0⟩ } (l.keep d 1 (str (be 8 (c.limit + 16)))).1 (l.keep d 1 (str (be 8 (c.limit + 16)))).2.1 ∧ CFr B cp bT lp p w w' := by
  obtain ⟨rv, ov, kr, ko, xr, xo, g1, _⟩ := h.co.ex
  have hgp := h.gp1
  have c0 := blk_cell g1 0
  have c1 := blk_cell g1 1
  have c2 := blk_cell g1 2
  have c3 := blk_cell g1 3
  simp at c0 c1 c2 c3
  rw [lgP_pos hgp] at c0
  rw [hnx] at c2
  have hlen := h.co.lenT
  have hl := h.co.lts.1
  have hnums := h.co.nums
  have hre := reserve_any B cp gp bT m lp p bD bN n c l d w.drew (h.new (Fr.refl [] w).drew).1 hli hn hB hsg hpow hke
  have H0 := toHid h
  obtain ⟨R, hR⟩ : ∃ R, R = l.keep d 1 (str (be 8 (c.limit + 16))) := ⟨_, rfl⟩
  rw [← hR] at hre ⊢
  obtain ⟨N, hN⟩ : ∃ N, N = c.txns.length := ⟨_, rfl⟩
  rw [← hN] at hlen hlt
  have i12 : ¬ (12 : Int) ≤ (N : Int) := by omega
  clear h hpow g1 hR hN hke
  go_enter Tryz.func52, Tryz.ntmps52
  go_wp2
  go_region_held3 (fun w' => w'.cell? ⟨cp, 2, none⟩ = some (.int .u64 (c.limit : Int)) ∧ w'.cell? ⟨cp, 3, none⟩ = some (.int .u64 (c.limit : Int)))
    (simp [*])
    (fail)
  go_wp2_with fail
  refine hre.mono ?_
  clear hre hlen c0 c1 c2 c3
  rintro e w1 ⟨rfl, hc1, hx1⟩
  obtain ⟨rv1, ov1, kr1, ko1, xr1, xo1, g1, _⟩ := hc1.co.ex
  have c2 := blk_cell g1 2
  have f2 := blk_free g1 2
  simp at c2
  rw [hnx] at c2
  have i1 : IntKind.u64.wrap ((c.limit : Int) + 1) = (c.limit : Int) + 1 := by rw [IntKind.wrap_u64]; omega
  have i2 : (c.limit : Int) + 1 < 18446744073709551616 := by omega
  obtain ⟨W2, hW2⟩ : ∃ W2, W2 = w1.setCell ⟨cp, 2, none⟩ (.int .u64 ((c.limit : Int) + 1)) := ⟨_, rfl⟩
  have hf2 : Fr [cp] w1 W2 := by rw [hW2]; exact Fr.set1 (by simp) _ _
  have hin2 : CoIn W2 B cp gp bT m { c with limit := c.limit + 16, next := c.limit + 1 } := hc1.co.cell rfl ⟨by show c.limit + 1 < _; omega, hli, hnums.2.2⟩ hf2 (fun rv ov e => by
    rw [hW2]
    have := blk_set e 2 (.int .u64 ((c.limit : Int) + 1))
    simpa [coO] using this)
  obtain ⟨k2, x2⟩ := hc1.turn hin2 (Fr.r (hf2.mono (fun k _ hk => by simp at hk; simp [hk])))
  obtain ⟨rv2, ov2, kr2, ko2, xr2, xo2, g2, _⟩ := hin2.ex
  have d1 := blk_cell g2 1
  simp at d1
  obtain ⟨w3, hr3, hm3, hg3⟩ := hin2.txns.putRun Tryz.underlying143 (by unfold maxLen; omega) (k := c.limit) (show c.limit < 18446744073709551616 by omega) (v := (⟨4, [0, 0, 0, 0, 0, 0, 0, 0, 0], 0⟩ : ATx)) (show ATx.Ok _ from ⟨rfl, by decide⟩)
  change (Instr.mapUpdate _ _ (.int .u64 (c.limit : Int)) (.agg #[.int .i64 4, .int .u8 0, .int .u8 0, .int .u8 0, .int .u8 0, .int .u8 0, .int .u8 0, .int .u8 0, .int .u8 0, .int .u8 0, .int .u64 0, .nilIface])).run _ _ = _ at hr3
  have hin3 := hin2.setTxns (Fr.of_grown1 hg3) hm3 (by omega)
  obtain ⟨k3, x3⟩ := k2.turn hin3 (Fr.r ((Fr.of_grown1 hg3).mono (fun k _ hk => by simp at hk; simp [hk])))
  have hx0 : CFr B cp bT lp p w w1 := (H0.out.new (Fr.refl [] w).drew).2.trans hx1
  have H3 := toHid (show CL w3 B cp gp bT (m + 1) lp p bD bN (n + 3) { c with limit := c.limit + 16, next := c.limit + 1, txns := alPut c.txns c.limit ⟨4, [0, 0, 0, 0, 0, 0, 0, 0, 0], 0⟩ } R.1 R.2.1 ∧ CFr B cp bT lp p w w3 from ⟨k3, (hx0.trans x2).trans x3⟩)
  rw [hW2] at d1 hr3
  clear hc1 hx1 g1 hf2 hin2 k2 x2 g2 hm3 hg3 hin3 k3 x3 hx0 hW2
  go_wp2
  go_ret2
  exact ⟨rfl, H3.out⟩
end Go.Proofs.YtejiankgafjppabGreatDoor
/- THE COORDINATOR: read. -/
namespace Go.Proofs.YtejiankgafjppabGreatDoor
open Go.RowKit Go.Shelf Go.Maps
open Sc

/-- a coordinator that is being opened -/
structure CoZ (w : World) (cp bT n : Nat) (c : ACo) : Prop where
  blk : w.heap[cp]? = some (coO 0 bT c (.slice none 0 0) (.slice none 0 0))
  txns : MapAs KU EX w bT n c.txns
  nums : c.next < 18446744073709551616 ∧ c.limit < 18446744073709551616 ∧ c.ticks < 18446744073709551616
section
variable {w w' : World} {B cp bT n : Nat} {c : ACo}
theorem CoZ.co (h : CoZ w cp bT n c) (hl : B ≤ cp ∧ B ≤ bT ∧ B ≤ w.heap.size) : CoIn w B cp 0 bT n c :=
  ⟨⟨_, _, 0, 0, [], [], h.blk, World.ownsRow_nil _ _ _ _, World.ownsRow_nil _ _ _ _, Nat.zero_le _, Nat.zero_le _⟩, h.txns, hl, h.nums⟩
theorem CoZ.keep (h : CoZ w cp bT n c) (hb : ∀ k ∈ [cp, bT], w'.heap[k]? = w.heap[k]?) : CoZ w' cp bT n c := by
  obtain ⟨es, ⟨es', c2, h1, h2⟩, r⟩ := h.txns
  exact ⟨(hb cp (by simp)).trans h.blk, ⟨es, ⟨es', c2, (hb bT (by simp)).trans h1, h2⟩, r⟩, h.nums⟩
theorem CoZ.lts (h : CoZ w cp bT n c) : cp < w.heap.size ∧ bT < w.heap.size ∧ cp ≠ bT := by
  refine ⟨(Array.getElem?_eq_some_iff.1 h.blk).1, h.txns.lt, fun e => ?_⟩
  obtain ⟨es, c2, e2⟩ := h.txns.isMap
  have := h.blk
  rw [e, e2] at this; cases this
theorem CoZ.fr {S : List Nat} (h : CoZ w cp bT n c) (hf : Fr S w w') (h1 : cp ∉ S) (h2 : bT ∉ S) : CoZ w' cp bT n c :=
  h.keep (fun k hk => by
    simp at hk
    rcases hk with rfl | rfl
    · exact hf.block _ h.lts.1 h1
    · exact hf.block _ h.lts.2.1 h2)
end
set_option maxRecDepth 100000 in
set_option maxHeartbeats 2000000 in
theorem readRes_any (n cp bT m fp M : Nat) (c : ACo) (w : World) (h : CoZ w cp bT m c) (hf : FldAt n w fp (be 8 M)) (hM : M < 18446744073709551616) (hle : c.limit ≤ M) (hlow : cp < n ∧ bT < n) :
    Calls Tryz.prog 206 #[.pointer (some ⟨cp, 0, none⟩), .pointer (some ⟨fp, 0, none⟩)] w fun e w' => e = .returned (.bool true) ∧ CoZ w' cp bT m { c with limit := M } ∧ Fr [fp, cp] w w' := by
  have hnum := num64_any n fp (be 8 M) w hf (Nat.le_of_eq (be_len 8 M).symm)
  have e1 : val ((be 8 M).take 8) = M := by rw [List.take_of_length_le (Nat.le_of_eq (be_len 8 M))]; exact val_be 8 M (by simpa using hM)
  have e2 : (be 8 M).drop 8 = [] := List.drop_of_length_le (Nat.le_of_eq (be_len 8 M))
  rw [e1, e2] at hnum
  have c3 := blk_cell h.blk 3
  simp at c3
  have hfl := hf.low
  have H0 := toHid h
  have i1 : (c.limit : Int) ≤ (M : Int) := by omega
  clear e1 e2 h hf
  go_enter Tryz.func206, Tryz.ntmps206
  go_wp2_with fail
  refine hnum.mono ?_
  clear hnum
  rintro e w1 ⟨rfl, hf1, hfr1⟩
  have hz1 := H0.out.fr hfr1 (by simp; omega) (by simp; omega)
  have d3 := blk_cell hz1.blk 3
  have g3 := blk_free hz1.blk 3
  simp at d3
  obtain ⟨W2, hW2⟩ : ∃ W2, W2 = w1.setCell ⟨cp, 3, none⟩ (.int .u64 (M : Int)) := ⟨_, rfl⟩
  have hf2 : Fr [cp] w1 W2 := by rw [hW2]; exact Fr.set1 (by simp) _ _
  have b2 : W2.heap[cp]? = some (coO 0 bT { c with limit := M } (.slice none 0 0) (.slice none 0 0)) := by
    rw [hW2]
    have := blk_set hz1.blk 3 (.int .u64 (M : Int))
    simpa using this
  have hz2 : CoZ W2 cp bT m { c with limit := M } := ⟨b2, hz1.txns.fr hf2 (by simpa using fun e => hz1.lts.2.2 e.symm), ⟨hz1.nums.1, hM, hz1.nums.2.2⟩⟩
  have hfa2 := hf1.fr hf2 (by simp; omega)
  have hri := right_any n fp [] W2 hfa2
  simp only [List.length_nil, Nat.lt_irrefl, decide_false, Bool.not_false] at hri
  have k3 := blk_cell b2 3
  simp at k3
  have H2 := toHid (show CoZ W2 cp bT m { c with limit := M } ∧ Fr [fp, cp] w W2 from ⟨hz2, (hfr1.mono (fun k _ hk => by simp at hk; simp [hk])).trans (hf2.mono (fun k _ hk => by simp at hk; simp [hk]))⟩)
  clear hz1 hf2 b2 hz2 hfa2 hf1 hfr1
  go_wp2_with fail
  rw [← hW2]
  clear hW2 d3 g3 c3
  refine hri.mono ?_
  clear hri
  rintro e w3 ⟨rfl, rfl⟩
  go_wp2
  go_ret
  exact ⟨rfl, H2.out⟩
def ints (l : List Nat) : List Value := l.map fun x : Nat => .int .i64 (x : Int)
theorem ints_snoc (l : List Nat) (x : Nat) : ints (l ++ [x]) = ints l ++ [.int .i64 (x : Int)] := by simp [ints]
theorem Tryz.infoIn : (Tryz.prog.info? 3).map (fun i => (i.zero, i.size, i.bytes)) = some (some (.int .i64 0), 1, 8) := by kernel_rfl
theorem ints_at {w : World} {B g cap n : Nat} {l : List Nat} (h : w.ownsRow B 3 1 (.slice (some ⟨g, 0, none⟩) n cap) n (ints l)) : IntsAt w g l := fun k x hk => by
  have h1 : (ints l)[k]? = some (.int .i64 (x : Int)) := by simp [ints, hk]
  have := h.cells (g := g) rfl k _ h1
  simpa [Addr.add_lit] using this
set_option maxRecDepth 100000 in
set_option maxHeartbeats 8000000 in
theorem readCom_any (n cp bT m fp t : Nat) (xs : List Nat) (c : ACo) (w : World) (h : CoZ w cp bT m c) (hf : FldAt n w fp (be 8 t ++ xs)) (ht : t < 18446744073709551616) (h0 : t ≠ 0) (hlt : t < c.limit) (hst : (c.tx t).state = 0) (hr : Rising xs) (hm : m + 1 < maxLen) (hlow : cp < n ∧ bT < n) :
    Calls Tryz.prog 207 #[.pointer (some ⟨cp, 0, none⟩), .pointer (some ⟨fp, 0, none⟩)] w fun e w' => e = .returned (.bool true) ∧ CoZ w' cp bT (m + 1) { c with txns := alPut c.txns t ⟨6, partsL xs 2, 0⟩ } ∧ Fr [fp, bT] w w' := by
  have hnum := num64_any n fp (be 8 t ++ xs) w hf (by simp [be_len])
  have e1 : val ((be 8 t ++ xs).take 8) = t := by rw [List.take_left' (by rw [be_len])]; exact val_be 8 t (by simpa using ht)
  have e2 : (be 8 t ++ xs).drop 8 = xs := List.drop_left' (by rw [be_len])
  rw [e1, e2] at hnum
  have hfl := hf.low
  have i0 : ¬ (t : Int) = 0 := by omega
  have j0 : ((t : Int) == 0) = false := beq_eq_false_iff_ne.2 i0
  have i1 : ¬ (c.limit : Int) ≤ (t : Int) := by omega
  obtain ⟨q0, q1, q2, q3, q4, q5, q6, q7, q8, hq⟩ := nine (partsL_len xs 2)
  have hlit : psV (partsL xs 2) = .agg #[.int .u8 (q0 : Int), .int .u8 (q1 : Int), .int .u8 (q2 : Int), .int .u8 (q3 : Int), .int .u8 (q4 : Int), .int .u8 (q5 : Int), .int .u8 (q6 : Int), .int .u8 (q7 : Int), .int .u8 (q8 : Int)] := by rw [hq]; rfl
  have HPUT := toHid (fun (W : World) (h2 : CoZ W cp bT m c) => (by
    obtain ⟨w5, hr5, hm5, hg5⟩ := h2.txns.putRun Tryz.underlying143 (by omega) (k := t) ht (v := (⟨6, partsL xs 2, 0⟩ : ATx)) (partsL_ok xs 6 2 0 (by decide))
    have hf5 := Fr.of_grown1 hg5
    refine ⟨w5, ?_, ⟨(hf5.block cp h2.lts.1 (by simpa using h2.lts.2.2)).trans h2.blk, hm5, h2.nums⟩, hf5⟩
    have e : (EX.ev ⟨6, partsL xs 2, 0⟩ : Value) = txV ⟨6, partsL xs 2, 0⟩ := rfl
    rw [e, hq, txV_lit] at hr5
    exact hr5 : ∃ w5, (Instr.mapUpdate 143 (.map (some bT)) (.int .u64 (t : Int)) (.agg #[.int .i64 6, .int .u8 (q0 : Int), .int .u8 (q1 : Int), .int .u8 (q2 : Int), .int .u8 (q3 : Int), .int .u8 (q4 : Int), .int .u8 (q5 : Int), .int .u8 (q6 : Int), .int .u8 (q7 : Int), .int .u8 (q8 : Int), .int .u64 0, .nilIface])).run Tryz.prog W = .ok () w5 ∧ CoZ w5 cp bT (m + 1) { c with txns := alPut c.txns t ⟨6, partsL xs 2, 0⟩ } ∧ Fr [bT] W w5))
  have HL := toHid hlit
  have H0 := toHid h
  have HR := toHid hr
  obtain ⟨ii, hi, hz0, hz1, hz2⟩ := info_parts Tryz.infoIn
  clear e1 e2 h hf hq hlit hr
  go_enter Tryz.func207, Tryz.ntmps207
  go_wp2_with fail
  refine hnum.mono ?_
  clear hnum
  rintro e w1 ⟨rfl, hf1, hfr1⟩
  have hzz := H0.out.fr hfr1 (by simp; omega) (by simp; omega)
  have hsa := status_any 0 cp 0 bT m t c w1 (hzz.co ⟨Nat.zero_le _, Nat.zero_le _, Nat.zero_le _⟩) ht
  rw [hst] at hsa
  have c3 := blk_cell hzz.blk 3
  simp at c3
  have H1 := toHid (show CoZ w1 cp bT m c ∧ FldAt n w1 fp xs ∧ Fr [fp] w w1 from ⟨hzz, hf1, hfr1⟩)
  have hlts := hzz.lts
  have hfpl := hf1.fld.lt
  clear hzz hf1 hfr1 hst
  go_wp2_with fail
  refine hsa.mono ?_
  clear hsa
  rintro e w2 ⟨rfl, hw2⟩
  subst hw2
  go_wp2
  have hdec : decide (c.limit ≤ t) = false := decide_eq_false (by omega)
  rw [hdec]
  go_loopw [6] (fun v6 wr => ∃ ys zs, Hid (xs = ys ++ zs ∧ FldAt n wr fp zs ∧ wr.ownsRow w2.heap.size 3 1 v6 ys.length (ints ys) ∧ Fr [fp] w2 wr)) (fun _ wr => fldLen wr fp)
  case atStart => exact ⟨[], xs, rfl, H1.out.2.1, World.ownsRow_nil _ _ _ _, Fr.refl _ _⟩
  case round =>
    obtain ⟨ys, zs, HX⟩ := hrel
    have hmo := more_any n fp zs wr HX.out.2.1
    have hyl : ys.length ≤ 8 := by have := HR.out.len; rw [HX.out.1, List.length_append] at this; omega
    cases zs with
    | nil =>
      have hri := right_any n fp [] wr HX.out.2.1
      simp only [List.length_nil, Nat.lt_irrefl, decide_false, Bool.not_false] at hmo hri
      have hxy : ys = xs := by rw [HX.out.1]; simp
      have hrow := HX.out.2.2.1
      rw [hxy] at hrow
      obtain ⟨g, cap, hv6⟩ := own_pos hrow (List.length_pos_iff.2 HR.out.ne)
      subst hv6
      have hia := ints_at hrow
      have hrise := rise_any g cap xs HR.out wr hia
      have hpo := partsOf_any g cap 2 xs HR.out wr.drew hia
      rw [HL.out] at hpo
      have hzr := H1.out.1.fr HX.out.2.2.2 (by simp; omega) (by simp; omega)
      have c1 := blk_cell hzr.blk 1
      simp at c1
      have H2 := toHid (show CoZ wr cp bT m c ∧ Fr [fp] w wr from ⟨hzr, H1.out.2.2.trans HX.out.2.2.2⟩)
      have hl2 := hzr.lts
      clear hrow hia hzr
      go_wp2_with fail
      refine hmo.mono ?_
      clear hmo
      rintro e w4 ⟨rfl, hw4⟩
      subst hw4
      go_wp2_with fail
      refine hri.mono ?_
      clear hri
      rintro e w5 ⟨rfl, hw5⟩
      subst hw5
      go_wp2_with fail
      refine hrise.mono ?_
      clear hrise
      rintro e w6 ⟨rfl, hw6⟩
      subst hw6
      go_wp2
      go_region_held3 (fun w' => w'.cell? ⟨cp, 1, none⟩ = some (.map (some bT)))
        (simp [*])
        (first | (go_at_call 92; refine hpo.mono ?_; rintro e w7 ⟨rfl, hf7⟩; have z1 := (World.cell?_of_block (a := ⟨cp, 1, none⟩) (hf7.block cp hl2.1 (by simp))).trans c1; have hz7 := (H2.out.1.fr (Fr.refl [] _).drew (by simp) (by simp)).fr hf7 (by simp) (by simp); obtain ⟨w8, hr8, hc8, hf8⟩ := HPUT.out w7 hz7; have y1 := (World.cell?_of_block (a := ⟨cp, 1, none⟩) (hf8.block cp hz7.lts.1 (by simpa using hl2.2.2))).trans z1; have H8 := toHid (And.intro hc8 (And.intro hf7 hf8)); clear hc8 hf7 hf8 hz7))
      go_wp2
      go_ret
      refine ⟨rfl, H8.out.1, ?_⟩
      have k1 : Fr [fp, bT] w w6 := H2.out.2.mono (fun k _ hk => by simp at hk; simp [hk])
      have k2 : Fr [fp, bT] w6 w7 := Fr.mono (⟨H8.out.2.1.os, H8.out.2.1.tape, H8.out.2.1.output, H8.out.2.1.size, H8.out.2.1.block⟩ : Fr [] w6 w7) (by simp)
      have k3 : Fr [fp, bT] w7 w8 := H8.out.2.2.mono (fun k _ hk => by simp at hk; simp [hk])
      exact (k1.trans k2).trans k3
    | cons x zs =>
      have hpos : decide (0 < (x :: zs).length) = true := by simp
      rw [hpos] at hmo
      have hx8 := HR.out.b x (by rw [HX.out.1]; simp)
      have hn8 := num8_any n fp (x :: zs) wr HX.out.2.1 (by simp)
      simp only [List.take_succ_cons, List.take_zero, List.drop_succ_cons, List.drop_zero] at hn8
      have ev : val [x] = x := by simp [val]
      rw [ev] at hn8
      have HLEN := toHid (show fldLen wr fp = (x :: zs).length from HX.out.2.1.fld.len)
      have jx : IntKind.i64.wrap (x : Int) = (x : Int) := by rw [IntKind.wrap_i64]; omega
      clear hpos ev
      go_wp2_with fail
      refine hmo.mono ?_
      clear hmo
      rintro e w4 ⟨rfl, hw4⟩
      subst hw4
      go_wp2_with fail
      refine hn8.mono ?_
      clear hn8
      rintro e w5 ⟨rfl, hf5, hfr5⟩
      have ho5 := ownsRow_fr HX.out.2.2.1 hfr5 (fun g hg => by have := (HX.out.2.2.1.lt g hg).1; simp; omega)
      have hsz := HX.out.2.2.2.size
      have hsz5 := hfr5.size
      have H5 := toHid (show FldAt n w5 fp zs ∧ Fr [fp] w2 w5 from ⟨hf5, HX.out.2.2.2.trans hfr5⟩)
      clear hf5 hfr5
      go_wp2_with (at_builtin; refine wpList_append_own _ rfl _ _ 44 rfl w2.heap.size 3 ii (.int .i64 0) 1 8 Tryz.underlying44 hi hz0 hz1 hz2 rfl (by decide) _ ys.length (ints ys) rfl (ho5.alloc _) ⟨w5.heap.size, 0, none⟩ 1 1 [.int .i64 (x : Int)] rfl rfl (cells_new _ #[.int .i64 (x : Int)] _) (by intro u hu; simp at hu; subst hu; rfl) (by unfold maxLen; omega) (by omega) (by simp; omega) ?_)
      intro v' w6 hown' hgrow _
      have fro := Fr.of_grown hgrow
      have hfa : Fr [] w5 (w5.alloc (.cells #[.int .i64 (x : Int)] 3)) := (Fr.refl [] w5).alloc _
      have hfld6 : FldAt n w6 fp zs := (H5.out.1.apart hfa (by simp)).apart fro (fun k hk => by
        simp at hk
        obtain ⟨cc, hc⟩ := own_cells (ho5.alloc _) hk
        refine ⟨fun e => ?_, fun c2 fr e => by rw [hc] at e; cases e⟩
        have := (ho5.lt k hk).1
        omega)
      have hfr6 : Fr [fp] w2 w6 := ((H5.out.2).andThen (hfa.mono (T := [fp]) (by simp)) (fun j hj _ => hj)).andThen fro (fun j hj hl => by
        simp at hj
        have := (ho5.lt j hj).1
        omega)
      have H6 := toHid (show xs = (ys ++ [x]) ++ zs ∧ FldAt n w6 fp zs ∧ w6.ownsRow w2.heap.size 3 1 v' (ys ++ [x]).length (ints (ys ++ [x])) ∧ Fr [fp] w2 w6 from ⟨by rw [HX.out.1]; simp, hfld6, by rw [ints_snoc, List.length_append]; exact hown', hfr6⟩)
      clear hown' hgrow fro hfa hfld6 hfr6 ho5
      go_wp2
      go_roundw
      case rel => exact ⟨ys ++ [x], zs, H6.out⟩
      case measure => rw [H6.out.2.1.fld.len, HLEN.out]; simp
end Go.Proofs.YtejiankgafjppabGreatDoor
/- SHARDS: Open. -/
namespace Go.Proofs.YtejiankgafjppabGreatDoor
open Go.RowKit Go.Maps
open Sc

/-- a shard that nothing was done with -/
abbrev sh0 : AShard := ⟨[], [], [], 0⟩
/-- what stands behind an opening of a shard -/
def ShPost (J : List Rec → AShard → Prop) (B p bD bN n : Nat) (R : ALog × ADisk × Nat) (w : World) (e : Ending) (w' : World) : Prop :=
  ∃ sp gp bV bT bH lp s', e = .returned (.tuple #[.pointer (some ⟨sp, 0, none⟩), .nilIface]) ∧ J R.1.recs s' ∧ SL w' B sp gp bV bT bH (20 * R.1.recs.length) lp p bD bN n s' R.1 R.2.1 ∧ (w.heap.size ≤ sp ∧ w.heap.size ≤ bV ∧ w.heap.size ≤ bT ∧ w.heap.size ≤ bH) ∧ SDFr p [] w w'
/-- what an opening needs -/
structure ShPre (J : List Rec → AShard → Prop) (B p bD bN n : Nat) (R : ALog × ADisk × Nat) (w : World) : Prop where
  disk : ∃ pv d nD nN, DiskIn w B p bD bN pv d n nD nN
  jop : ∀ W, Fr [] w W → Calls Tryz.prog 82 #[dskV p] W (OpenPost B p bD bN n R W)
  plain : PlainR R.1.recs
  first : firstN R.1.recs R.1.next = 1
  byt : ∀ r ∈ R.1.recs, Byt r.pay ∧ r.pay.length ≤ 4096
  none : J [] sh0
  ents : ∀ pre x s', pre ++ [x] <+: R.1.recs → J pre s' → Entr (J (pre ++ [x])) s' x
  few : 20 * R.1.recs.length + 32 < maxLen
  num : n ≤ 67108864
set_option maxRecDepth 100000 in
set_option maxHeartbeats 4000000 in
theorem shOpen_any (J : List Rec → AShard → Prop) (B p bD bN n : Nat) (R : ALog × ADisk × Nat) (w : World) (h : ShPre J B p bD bN n R w) :
    Calls Tryz.prog 83 #[dskV p] w (ShPost J B p bD bN n R w) := by
  have hmm := @run_makeMap Tryz.prog
  obtain ⟨pv, d, nD, nN, hd⟩ := h.disk
  have hbase := hd.base
  have hnl := hd.now.lt
  have hdl := hd.dur.lt
  obtain ⟨W, hW⟩ : ∃ W, W = (((w.alloc (.map #[] 0)).alloc (.map #[] 0)).alloc (.map #[] 0)).alloc (shO 0 w.heap.size (w.heap.size + 1) (w.heap.size + 1 + 1) 0) := ⟨_, rfl⟩
  have hfr : Fr [] w W := by rw [hW]; exact ((((Fr.refl [] w).alloc _).alloc _).alloc _).alloc _
  have hsz : W.heap.size = w.heap.size + 4 := by rw [hW]; simp
  have hin : ShIn W (w.heap.size + 1 + 1 + 1) 0 w.heap.size (w.heap.size + 1) (w.heap.size + 1 + 1) 0 sh0 := by
    refine { blk := ?_, vals := ?_, txns := ?_, holds := ?_, ne := ⟨by omega, by omega, by omega⟩, ticks := by decide }
    · rw [hW]; have := heap_alloc_new (((w.alloc (.map #[] 0)).alloc (.map #[] 0)).alloc (.map #[] 0)) (shO 0 w.heap.size (w.heap.size + 1) (w.heap.size + 1 + 1) 0); rwa [World.size_alloc, World.size_alloc, World.size_alloc] at this
    · rw [hW]; exact (((MapAs.made w).fr ((Fr.refl [] _).alloc _) (by simp)).fr ((Fr.refl [] _).alloc _) (by simp)).fr ((Fr.refl [] _).alloc _) (by simp)
    · rw [hW]; have := MapAs.made (KR := KU) (ER := ET) (w.alloc (.map #[] 0)); rw [World.size_alloc] at this; exact (this.fr ((Fr.refl [] _).alloc _) (by simp)).fr ((Fr.refl [] _).alloc _) (by simp)
    · rw [hW]; have := MapAs.made (KR := KH) (ER := EG) ((w.alloc (.map #[] 0)).alloc (.map #[] 0)); rw [World.size_alloc, World.size_alloc] at this; exact this.fr ((Fr.refl [] _).alloc _) (by simp)
  have hlo := led_open B p bD bN n 0 (w.heap.size + 1 + 1 + 1) w.heap.size (w.heap.size + 1) (w.heap.size + 1 + 1) R J sh0 W h.none hin ⟨_, _, _, _, hd.new hfr⟩ ⟨by omega, by omega, by omega, by omega, by omega, by omega⟩
    (fun W' hW' => h.jop W' (hfr.trans hW')) h.plain h.first h.byt h.ents (by have := h.few; omega) h.num
  have HF : Hid (Fr [] w W ∧ DiskIn w B p bD bN pv d n nD nN) := ⟨hfr, hd⟩
  clear h hfr hd hin
  go_enter Tryz.func83, Tryz.ntmps83
  go_wp2_with fail
  have hW2 : W = (((w.alloc (.map #[] 0)).alloc (.map #[] 0)).alloc (.map #[] 0)).alloc (.cells #[.pointer none, .map (some w.heap.size), .map (some (w.heap.size + 1)), .map (some (w.heap.size + 1 + 1)), .int .u64 0] 136) := hW
  rw [← hW2]
  clear hW hW2
  refine hlo.mono ?_
  clear hlo
  rintro e w1 ⟨gp, lp, s', rfl, hre, hin1, ⟨pv1, sv1, rv1, nD1, nN1, hl1⟩, hg1, hgp, hsd1⟩
  have c0 := blk_cell hin1.blk 0
  have f0 := blk_free hin1.blk 0
  simp at c0 f0
  obtain ⟨W2, hW2⟩ : ∃ W2, W2 = w1.setCell ⟨w.heap.size + 1 + 1 + 1, 0, none⟩ (.pointer (some ⟨gp, 0, none⟩)) := ⟨_, rfl⟩
  have hf2 : Fr [w.heap.size + 1 + 1 + 1] w1 W2 := by rw [hW2]; exact Fr.set1 (by simp) _ _
  have hgp1 : 1 ≤ gp := by omega
  have hb2 : W2.heap[w.heap.size + 1 + 1 + 1]? = some (shO gp w.heap.size (w.heap.size + 1) (w.heap.size + 1 + 1) s'.ticks) := by
    have := blk_set hin1.blk 0 (.pointer (some ⟨gp, 0, none⟩))
    simp at this
    rw [hW2]; unfold shO; rw [lgP_pos hgp1]; exact this
  have hne1 : gp ≠ w.heap.size + 1 + 1 + 1 := by omega
  have HS : Hid (J R.1.recs s' ∧ SL W2 B (w.heap.size + 1 + 1 + 1) gp w.heap.size (w.heap.size + 1) (w.heap.size + 1 + 1) (20 * R.1.recs.length) lp p bD bN n s' R.1 R.2.1 ∧ SDFr p [] w W2) := by
    have hin2 := hin1
    rw [Nat.zero_add] at hin2
    refine ⟨hre, ⟨{ blk := hb2, vals := hin2.vals.fr hf2 (by simp; omega), txns := hin2.txns.fr hf2 (by simp), holds := hin2.holds.fr hf2 (by simp), ne := hin2.ne, ticks := hin2.ticks }, ⟨pv1, sv1, rv1, nD1, nN1, hl1.apart hf2 (fun k hk _ => ?_)⟩, { led := (hf2.block gp (Array.getElem?_eq_some_iff.1 hg1).1 (by simpa using hne1)).trans hg1, ne := ⟨by omega, by omega, by omega, by omega, by omega, by omega⟩ }, hgp1⟩, ?_⟩
    · simp at hk
      subst hk
      exact ⟨hl1.free hin1.blk (by decide) (by decide) (by decide) (by decide) (by decide), fun t e => by rw [hin1.blk] at e; cases e⟩
    · have hf0 := HF.out.1
      have hd0 := HF.out.2
      refine ⟨hf2.os.trans (hsd1.os.trans hf0.os), hf2.tape.trans (hsd1.tape.trans hf0.tape), hf2.output.trans (hsd1.output.trans hf0.output), by have := hf2.size; have := hsd1.size; omega, fun k hk ho _ => ?_⟩
      rw [hf2.block k (by have := hsd1.size; omega) (by simp; omega), hsd1.block k (by omega) (fun ho' => ho ((hd0.ownD k).2 (((hd0.new hf0).ownD k).1 ho'))) (by simp; omega), hf0.block k hk (by simp)]
  clear hre hin1 hl1 hg1 hsd1 hf2 hb2
  go_wp2
  rw [← hW2]
  go_ret2
  exact ⟨w.heap.size + 1 + 1 + 1, gp, w.heap.size, w.heap.size + 1, w.heap.size + 1 + 1, lp, s', rfl, HS.out.1, HS.out.2.1, ⟨by omega, by omega, by omega, by omega⟩, HS.out.2.2⟩
set_option maxHeartbeats 1000000 in
theorem openShard_any (J : List Rec → AShard → Prop) (B p bD bN n : Nat) (R : ALog × ADisk × Nat) (w : World) (h : ShPre J B p bD bN n R w) :
    Calls Tryz.prog 46 #[dskV p] w (ShPost J B p bD bN n R w) := by
  have HC : Hid (Calls Tryz.prog 83 #[dskV p] w (ShPost J B p bD bN n R w)) := shOpen_any J B p bD bN n R w h
  clear h
  go_enter Tryz.func46, Tryz.ntmps46
  go_wp2_with fail
  refine HC.out.mono ?_
  rintro e w1 ⟨sp, gp, bV, bT, bH, lp, s', rfl, h1⟩
  have H1 := toHid h1
  clear h1
  go_wp2
  go_ret2
  exact ⟨sp, gp, bV, bT, bH, lp, s', rfl, H1.out⟩
end Go.Proofs.YtejiankgafjppabGreatDoor
