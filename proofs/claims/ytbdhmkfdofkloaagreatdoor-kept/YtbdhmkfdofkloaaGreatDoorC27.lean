import Derived.Test.YtbdhmkfdofkloaaGreatDoorC26
import Derived.Maps.AppendAt
import Derived.Test.YtbdhmkfdofkloaaGreatDoorC25
/- LOGS OF MANY SEGMENTS: readSegment, whatever lies behind the records. -/
namespace Go.Proofs.YtbdhmkfdofkloaaGreatDoor
open Go.RowKit Go.Maps
open Sc

set_option maxRecDepth 100000 in
set_option maxHeartbeats 4000000 in
theorem readSegG (f B p bD bN n nD nN : Nat) (pv : Value) (d : ADisk) (rs : List Rec) (tl : List Nat) (w : World) (h : DiskIn w B p bD bN pv d n nD nN) (hdn : d.down = false) (hrs : FineX rs) (hno : ∀ (k : Nat) (r : Rec), rs[k]? = some r → r.lsn = f + k) (hf : f + rs.length < 18446744073709551616) (hne : rs ≠ []) (htl : Junk tl) (hnow : d.now (segName f) = some (str (sgB (rs, tl)))) (hpow : Pows w) (hlen : rs.length ≤ 67108864) (hby : (encR rs).length ≤ 4096) :
    Calls Tryz.prog 118 #[dskV p, .int .u64 (f : Int)] w fun e w' => ∃ v, e = .returned (.tuple #[v, .int .i64 (fillS (rs, tl) : Int), .nilIface]) ∧ w'.ownsRow w.heap.size 44 3 v rs.length (recsV rs) ∧ Below w.heap.size w w' := by
  have hm := Tryz.mRead
  have hna := Tryz.nilRead p
  have HI : Hid (DiskIn w B p bD bN pv d n nD nN ∧ d.read (segName f) = (some (str (sgB (rs, tl))), 0)) := ⟨h, by unfold ADisk.read; rw [if_neg (by rw [hdn]; decide), hnow]⟩
  have HF : Hid ((FineX rs ∧ ∀ (k : Nat) (r : Rec), rs[k]? = some r → r.lsn = f + k) ∧ Byt (sgB (rs, tl)) ∧ Ended (sgB (rs, tl)) rs.length ∧ (st rs.length (sgB (rs, tl))).1 = rs ∧ (st rs.length (sgB (rs, tl))).2 = (encR rs).length) := ⟨⟨hrs, hno⟩, sg_ended (s := (rs, tl)) hrs htl⟩
  have HSL : Hid ((sgB (rs, tl)).length = (encR rs).length + tl.length) := by show _ = _; simp [sgB]
  have hsl4 : (sgB (rs, tl)).length ≤ 5000 := by rw [HSL.out]; have := htl.le; omega
  have htl3 := htl.le
  clear h hnow hrs hno htl
  go_enter Tryz.func118, Tryz.ntmps118
  go_wp2
  go_region_held3 (fun _ => True)
    (trivial)
    (first
      | (go_at_call 50; refine (segmentName_any f w.drew (by omega) (show Pows w.drew from hpow)).mono ?_; rintro e w1 ⟨rfl, hb0⟩; have HB1 : Hid (Below w.heap.size w w1) := ⟨hb0.os, hb0.tape, hb0.output, hb0.size, hb0.block⟩; clear hb0)
      | (go_at_call 237; refine (read_any B p bD bN n nD nN pv d (segName f) w1 (HI.out.1.new (Fr.of_below HB1.out [])) (by have := segName_size f (by omega); unfold maxLen; omega)).mono ?_; rintro e w2 ⟨v2, rfl, hg2, hb2⟩))
  all_goals clear hm hna
  all_goals rw [HI.out.2] at hg2 ⊢
  all_goals rw [errN_ok]
  all_goals
    have hsrc : Src w2 v2 (sgB (rs, tl)) := by
      have : Src w2 v2 (bytesOf (str (sgB (rs, tl)))) := hg2
      rwa [bytesOf_str HF.out.2.1] at this
    have hpos : 0 < (encR rs).length := by
      cases hr : rs with
      | nil => exact absurd hr hne
      | cons r l => simp [encR, recBytes_len]; omega
    have hrp : 0 < rs.length := List.length_pos_iff.2 hne
    have hsc := scanW v2 (sgB (rs, tl)) w2 hsrc HF.out.2.1 (by omega)
    have HB2 : Hid (Below w.heap.size w w2) := HB1.out.trans (hb2.mono HB1.out.size)
    obtain ⟨b2, o2, c2, rfl⟩ : ∃ b2 o2 c2, v2 = .slice (some ⟨b2, o2, none⟩) (sgB (rs, tl)).length c2 := by
      rcases hsrc with ⟨_, e⟩ | ⟨b, off, cap, e, _⟩
      · have hsl := HSL.out; rw [e] at hsl; simp at hsl; omega
      · exact ⟨b, off, cap, e⟩
    clear hg2 hb2 hsrc
    go_wp2_with fail
    refine hsc.mono ?_
    clear hsc
    rintro e w3 ⟨k, v3, rfl, hE, hrow, _, hb3⟩
    obtain ⟨z1, z2, z3⟩ := HF.out.2.2
    obtain rfl := ended_unique hE z1
    rw [z2] at hrow
    rw [z3]
    obtain ⟨g3, c3, rfl⟩ := own_pos hrow hrp
    have HB3 : Hid (Below w.heap.size w w3) := HB2.out.trans (hb3.mono HB2.out.size)
    have HR3 : Hid (w3.ownsRow w2.heap.size 44 3 (.slice (some ⟨g3, 0, none⟩) rs.length c3) rs.length (recsV rs)) := hrow
    have hg3 := (hrow.lt g3 rfl).2
    have HC : Hid (∀ (k : Nat) (r : Rec), rs[k]? = some r → w3.cell? ⟨g3, k * 3, none⟩ = some (.int .u64 (r.lsn : Int)) ∧ w3.cell? ⟨g3, k * 3 + 1, none⟩ = some (.int .u8 (r.kind : Int)) ∧ w3.cell? ⟨g3, k * 3 + 2, none⟩ = some (.string (str r.pay))) := fun k r hk => by
      obtain ⟨hk1, rfl⟩ := List.getElem?_eq_some_iff.1 hk
      obtain ⟨a1, a2, a3⟩ := recsV_at rs k hk1
      have q1 := hrow.cells (g := g3) rfl _ _ a1
      have q2 := hrow.cells (g := g3) rfl _ _ a2
      have q3 := hrow.cells (g := g3) rfl _ _ a3
      simp only [Addr.add_lit, Nat.zero_add] at q1 q2 q3
      exact ⟨q1, q2, q3⟩
    clear hE z1 z2 z3 hrow hb3
    obtain ⟨m, hm0⟩ : ∃ m, m = rs.length := ⟨_, rfl⟩
    have HM : Hid (m = rs.length) := hm0
    rw [← hm0] at HR3 hlen hrp hf ⊢
    clear hm0
    obtain ⟨eb, heb⟩ : ∃ eb, eb = (encR rs).length := ⟨_, rfl⟩
    obtain ⟨sl, hsl0⟩ : ∃ sl, sl = (sgB (rs, tl)).length := ⟨_, rfl⟩
    rw [← heb] at hby hpos HSL ⊢
    rw [← hsl0] at HSL hsl4 ⊢
    have HE : Hid (eb = (encR rs).length ∧ (sl = eb + tl.length)) := ⟨heb, HSL.out⟩
    have hle : eb ≤ sl := by have := HSL.out; omega
    clear heb HSL hsl0
    go_wp2
    go_loopw [33] (fun i wr => ∃ k : Nat, k ≤ m ∧ i = .int .i64 k ∧ Hid (Below w3.heap.size w3 wr)) (fun i _ => m - (intOf i).toNat)
    case atStart => exact ⟨0, Nat.zero_le _, rfl, Below.refl _ _⟩
    case round =>
      obtain ⟨k, hk, rfl, hR⟩ := hrel
      by_cases hlt : k < m
      · obtain ⟨r, hr⟩ : ∃ r, rs[k]? = some r := ⟨_, List.getElem?_eq_getElem (by have := HM.out; omega)⟩
        obtain ⟨q1, q2, q3⟩ := HC.out k r hr
        have y1 := HF.out.1.2 k r hr
        rw [y1] at q1
        have r1 := (hR.out.cell (p := ⟨g3, k * 3, none⟩) hg3).trans q1
        have r2 := (hR.out.cell (p := ⟨g3, k * 3 + 1, none⟩) hg3).trans q2
        have r3 := (hR.out.cell (p := ⟨g3, k * 3 + 2, none⟩) hg3).trans q3
        have j1 : IntKind.u64.wrap (k : Int) = (k : Int) := by rw [IntKind.wrap_u64]; omega
        have j2 : IntKind.u64.wrap ((f : Int) + (k : Int)) = (f : Int) + (k : Int) := by rw [IntKind.wrap_u64]; omega
        have hrs := hR.out.size
        clear q1 q2 q3 y1 hr
        go_wp2
        go_roundw
        case rel => exact ⟨k + 1, by omega, by simp, hR.out.alloc hrs _⟩
        case measure => simp [intOf]; omega
      · obtain rfl : k = m := by omega
        have hrow9 : wr.ownsRow w.heap.size 44 3 (.slice (some ⟨g3, 0, none⟩) k c3) rs.length (recsV rs) := by
          rw [← HM.out]
          exact own_grow0 (own_base0 HR3.out HB2.out.size) hR.out
        have H9 : Hid (wr.ownsRow w.heap.size 44 3 (.slice (some ⟨g3, 0, none⟩) k c3) rs.length (recsV rs) ∧ Below w.heap.size w wr) := ⟨hrow9, HB3.out.trans (hR.out.mono HB3.out.size)⟩
        clear hrow9
        by_cases htl : tl = []
        · have hq : eb = sl := by rw [HE.out.2, htl]; rfl
          subst hq
          have hd : decide ((eb : Int) < (eb : Int)) = false := by simp
          go_wp2
          go_ret3
          exact ⟨.slice (some ⟨g3, 0, none⟩) k c3, by unfold fillS; rw [if_pos htl, ← encR_bytes, ← HE.out.1]; rfl, H9.out⟩
        · have hq : (eb : Int) < (sl : Int) := by have := HE.out.2; have : 0 < tl.length := List.length_pos_iff.2 htl; omega
          go_wp2
          go_ret3
          exact ⟨.slice (some ⟨g3, 0, none⟩) k c3, by unfold fillS; rw [if_neg htl]; rfl, H9.out⟩
end Go.Proofs.YtbdhmkfdofkloaaGreatDoor
/- LOGS OF MANY SEGMENTS: readOn. -/
namespace Go.Proofs.YtbdhmkfdofkloaaGreatDoor
open Go.RowKit Go.Maps
open Sc

set_option maxRecDepth 100000 in
set_option maxHeartbeats 4000000 in
theorem readOnG (B lp p bD bN n nD nN : Nat) (pv sv rv : Value) (l : ALog) (d : ADisk) (rs : List Rec) (tl : List Nat) (w : World) (h : LogIn w B lp p bD bN pv sv rv l d n nD nN) (hdn : d.down = false) (hrs : FineX rs) (hno : ∀ (k : Nat) (r : Rec), rs[k]? = some r → r.lsn = l.next + k) (hne : rs ≠ []) (htl : Junk tl) (hnow : d.now (segName l.next) = some (str (sgB (rs, tl)))) (hpow : Pows w) (hlen : l.recs.length + rs.length ≤ n) (hsn : l.segs.length + 1 ≤ n) (hnx : l.next + rs.length ≤ n + 1) (hby : (encR rs).length ≤ 4096) :
    Calls Tryz.prog 89 #[.pointer (some ⟨lp, 0, none⟩), .int .u64 (l.next : Int)] w fun e w' => e = .returned (.tuple #[.bool true, .nilIface]) ∧ (∃ sv' rv', LogIn w' B lp p bD bN pv sv' rv' ⟨l.segs ++ [l.next], fillS (rs, tl), l.recs ++ rs, l.next + rs.length, l.durable, l.failed⟩ d n nD nN ∧ Near w.heap.size sv sv' ∧ Near w.heap.size rv rv') ∧ Fr (lp :: (sv.ownBlock.toList ++ rv.ownBlock.toList)) w w' := by
  have hn := h.disk.hn
  have hBw := h.disk.base.2.2.2
  have c0 := blk_cell h.blk 0
  have c4 := blk_cell h.blk 4
  simp at c0 c4
  have hlpw : lp < w.heap.size := (Array.getElem?_eq_some_iff.1 h.blk).1
  have hS := readSegG l.next B p bD bN n nD nN pv d rs tl w h.disk hdn hrs hno (by omega) hne htl hnow hpow (by omega) hby
  have hfs : fillS (rs, tl) ≤ 4096 := by unfold fillS; split; rw [← encR_bytes]; exact hby; omega
  have HI : Hid (LogIn w B lp p bD bN pv sv rv l d n nD nN) := h
  obtain ⟨i0, hi, hz0, hz1, hz2⟩ := info_parts Tryz.infoU64
  obtain ⟨j0, hj, ha0, ha1, ha2⟩ := info_parts Tryz.infoRec
  have hrp : 0 < rs.length := List.length_pos_iff.2 hne
  clear h hrs hne hnow hno htl
  go_enter Tryz.func89, Tryz.ntmps89
  go_wp2_with fail
  refine hS.mono ?_
  clear hS
  rintro e w1 ⟨vr, rfl, hrow, hb1⟩
  obtain ⟨g1, k1, rfl⟩ := own_pos hrow hrp
  have hf1 : Fr [] w w1 := Fr.of_below hb1 []
  have hl1 := HI.out.new hf1
  have ho1 := HI.out.newO hf1
  have HW1 := toHd hf1
  have H1 : Hid (LogIn w1 B lp p bD bN pv sv rv l d n nD nN ∧ OFr lp p w w1 ∧ w1.ownsRow w.heap.size 44 3 (.slice (some ⟨g1, 0, none⟩) rs.length k1) rs.length (recsV rs)) := ⟨hl1, ho1, hrow⟩
  have d1 := blk_cell hl1.blk 1
  have d2 := blk_cell hl1.blk 2
  have d3 := blk_cell hl1.blk 3
  have d4 := blk_cell hl1.blk 4
  have e1 := blk_free hl1.blk 1
  have e2 := blk_free hl1.blk 2
  have e3 := blk_free hl1.blk 3
  have e4 := blk_free hl1.blk 4
  simp at d1 d2 d3 d4
  have hw1 := hb1.size
  have hg1 := hrow.lt g1 rfl
  have hrl : ¬ ((rs.length : Int) = 0) := by omega
  obtain ⟨m, hm0⟩ : ∃ m, m = rs.length := ⟨_, rfl⟩
  obtain ⟨eb, heb⟩ : ∃ eb, eb = fillS (rs, tl) := ⟨_, rfl⟩
  have HME : Hid (m = rs.length ∧ eb = fillS (rs, tl)) := ⟨hm0, heb⟩
  rw [← hm0] at H1 hrp hrl hlen hnx ⊢
  rw [← heb] at hfs ⊢
  obtain ⟨nx, hnx0⟩ : ∃ nx, nx = l.next := ⟨_, rfl⟩
  have HNX : Hid (nx = l.next) := hnx0
  rw [← hnx0] at hnx c4 d4 ⊢
  have hG1 : ∃ c, w1.heap[g1]? = some (.cells c 44 (0, 0)) := own_cells hrow rfl
  have HC : Hid (∀ (j : Nat) (u : Value), (recsV rs)[j]? = some u → w1.cell? ⟨g1, j, none⟩ = some u) := fun j u hj => by
    have := H1.out.2.2.cells (g := g1) rfl j u hj
    simpa [Addr.add_lit] using this
  have HG : Hid (¬ g1 = lp ∧ sv.ownBlock ≠ some g1 ∧ rv.ownBlock ≠ some g1) := by
    obtain ⟨c, hcc⟩ := hG1
    refine ⟨by omega, own_ne hl1.segs hcc (by decide), fun e => ?_⟩
    have := (HI.out.recs.lt g1 e).2
    omega
  clear hrow hb1 hf1 hl1 ho1 c0 hm0 heb hnx0 hG1
  have lp1 : lp < w1.heap.size := by omega
  have lp2 : ¬ lp = w1.heap.size := by omega
  have lp3 : ¬ w1.heap.size = lp := by omega
  have j64 : IntKind.u64.wrap (m : Int) = (m : Int) := by rw [IntKind.wrap_u64]; omega
  have j65 : IntKind.u64.wrap ((nx : Int) + (m : Int)) = (nx : Int) + (m : Int) := by rw [IntKind.wrap_u64]; omega
  go_wp2_with (first
    | (at_builtin; refine wpList_append_own_at _ rfl _ _ 98 rfl B 34 i0 _ 1 8 Tryz.underlying98 hi hz0 hz1 hz2 rfl (by decide) _ l.segs.length (u64s l.segs) rfl (H1.out.1.segs.alloc _) ⟨w1.heap.size, 0, none⟩ 1 1 [.int .u64 (nx : Int)] rfl rfl (cells_new _ #[.int .u64 (nx : Int)] _) (by intro u hu; simp at hu; subst hu; rfl) (by unfold maxLen; omega) (by omega) (by simp; omega) ?_; intro v2 w2 hown2 hgrow2 _ hat2; obtain ⟨gs, cs, rfl⟩ := own_pos hown2 (by omega); have hf2 : Fr sv.ownBlock.toList w1 w2 := ((Fr.refl _ w1).alloc _).trans (Fr.of_grown hgrow2); have H2 := toHd (H1.out.1.segsAt (v := .slice (some ⟨gs, 0, none⟩) (l.segs.length + 1) cs) (ss := l.segs ++ [nx]) hf2 (by rw [u64s_snoc, List.length_append]; exact hown2) (Near.of_at hat2 (by simp)) ⟨by simpa using hsn, by intro x hx; rcases List.mem_append.1 hx with hx | hx; exact H1.out.1.segsN.2 x hx; simp at hx; omega⟩); have hz2 := hf2.size; have hb2 := (hf2.block lp lp1 (by simp; exact own_ne H1.out.1.segs H1.out.1.blk (by decide))).trans H1.out.1.blk; have q1 := blk_cell hb2 1; have q2 := blk_cell hb2 2; have q3 := blk_cell hb2 3; have q4 := blk_cell hb2 4; have p1 := blk_free hb2 1; have p2 := blk_free hb2 2; have p3 := blk_free hb2 3; have p4 := blk_free hb2 4; simp at q1 q2 q3 q4; rw [← HNX.out] at q4; have HF2 := toHd hf2; have HN2 := toHd (Near.of_at (s := w.heap.size) hat2 (by simp; omega)); clear hown2 hgrow2 hat2 hf2 hb2 d1 d2 d3 d4 e1 e2 e3 e4)
    | (at_builtin; refine wpList_append_own_at _ rfl _ _ 40 rfl B 44 j0 _ 3 32 Tryz.underlying40 hj ha0 ha1 ha2 rfl (by decide) _ l.recs.length (recsV l.recs) rfl H2.out.1.recs ⟨g1, 0, none⟩ m k1 (recsV rs) rfl (by rw [recsV_len, HME.out.1]) (fun j u hj => by rw [show ((⟨g1, 0, none⟩ : Addr).add j) = ⟨g1, j, none⟩ from by simp [Addr.add]; exact fun h => h.symm]; exact (World.cell?_of_block (a := ⟨g1, j, none⟩) ((Below.heap_setCell _ _ _ g1 (fun e => HG.out.1 (by simpa using e))).trans (HF2.out.block g1 hg1.2 (by simp; exact HG.out.2.1)))).trans (HC.out j u hj)) (recsV_one rs) (by unfold maxLen; omega) (by omega) H2.out.1.disk.base.2.2.2 ?_; intro v3 w3 hown3 hgrow3 _ hat3; obtain ⟨gr, cr, rfl⟩ := own_pos hown3 (by omega); have hf3 := Fr.of_grown hgrow3; have H3 := toHd (H2.out.1.recsAt (v := .slice (some ⟨gr, 0, none⟩) (l.recs.length + m) cr) (rs := l.recs ++ rs) hf3 (by rw [recsV_app, List.length_append, ← HME.out.1]; exact hown3) (Near.of_at hat3 (Nat.le_refl _)) (by rw [List.length_append, ← HME.out.1]; exact hlen)); have hb3 := (hf3.block lp (Array.getElem?_eq_some_iff.1 H2.out.1.blk).1 (by simp; exact own_ne H2.out.1.recs H2.out.1.blk (by decide))).trans H2.out.1.blk; have t2 := blk_cell hb3 2; have t3 := blk_cell hb3 3; have t4 := blk_cell hb3 4; have u2 := blk_free hb3 2; have u3 := blk_free hb3 3; have u4 := blk_free hb3 4; simp at t2 t3 t4; rw [← HNX.out] at t4; have HF3 := toHd hf3; have HN3 := toHd (Near.of_at (s := w.heap.size) hat3 (by simp; omega)); clear hown3 hgrow3 hat3 hf3 hb3 q1 q2 q3 q4 p1 p2 p3 p4))
  go_ret2
  obtain ⟨W5, hW5⟩ : ∃ W5, W5 = w3.setCell ⟨lp, 3, none⟩ (.slice (some ⟨gr, 0, none⟩) (l.recs.length + m) cr) := ⟨_, rfl⟩
  have h5 := H3.out
  rw [← hW5] at h5 ⊢
  obtain ⟨W6, hW6⟩ : ∃ W6, W6 = (W5.setCell ⟨lp, 4, none⟩ (.int .u64 ((nx : Int) + (m : Int)))).setCell ⟨lp, 2, none⟩ (.int .i64 (eb : Int)) := ⟨_, rfl⟩
  rw [← hW6]
  have hf6 : Fr [lp] W5 W6 := by rw [hW6]; exact (Fr.set1 (by simp) _ _).trans (Fr.set1 (by simp) _ _)
  have hb6 : W6.heap[lp]? = some (logO p (.slice (some ⟨gs, 0, none⟩) (l.segs.length + 1) cs) (.slice (some ⟨gr, 0, none⟩) (l.recs.length + m) cr) ⟨l.segs ++ [l.next], fillS (rs, tl), l.recs ++ rs, l.next + rs.length, l.durable, l.failed⟩) := by
    have := blk_set (blk_set h5.1.blk 4 (.int .u64 ((nx : Int) + (m : Int)))) 2 (.int .i64 (eb : Int))
    rw [hW6]
    simp [← HME.out.1, ← HME.out.2, ← HNX.out] at this ⊢
    exact this
  have hl6 : LogIn W6 B lp p bD bN pv (.slice (some ⟨gs, 0, none⟩) (l.segs.length + 1) cs) (.slice (some ⟨gr, 0, none⟩) (l.recs.length + m) cr) ⟨l.segs ++ [l.next], fillS (rs, tl), l.recs ++ rs, l.next + rs.length, l.durable, l.failed⟩ d n nD nN := by
    have h5' := h5.1
    rw [HNX.out] at h5'
    exact h5'.own1 hf6 hb6 h5'.segsN h5'.recsN (by show fillS (rs, tl) ≤ 4096; rw [← HME.out.2]; exact hfs) (by show l.next + rs.length ≤ n + 1; rw [← HME.out.1, ← HNX.out]; exact hnx) h5'.durN rfl rfl
  refine ⟨rfl, ⟨_, _, hl6, HN2.out, HN3.out⟩, ?_⟩
  have a1 : Fr (lp :: (sv.ownBlock.toList ++ rv.ownBlock.toList)) w w1 := HW1.out.mono (by simp)
  have a2 : Fr (lp :: (sv.ownBlock.toList ++ rv.ownBlock.toList)) w w2 := a1.trans (HF2.out.mono (fun k _ hk => List.mem_cons_of_mem _ (List.mem_append_left _ hk)))
  have a3 := (a2.setCell (p := ⟨lp, 1, none⟩) (.inl (by simp)) (.slice (some ⟨gs, 0, none⟩) (l.segs.length + 1) cs)).trans (HF3.out.mono (fun k _ hk => List.mem_cons_of_mem _ (List.mem_append_right _ hk)))
  have a4 := a3.setCell (p := ⟨lp, 3, none⟩) (.inl (by simp)) (.slice (some ⟨gr, 0, none⟩) (l.recs.length + m) cr)
  rw [← hW5] at a4
  exact a4.trans (hf6.mono (fun k _ hk => by simp at hk; simp [hk]))
end Go.Proofs.YtbdhmkfdofkloaaGreatDoor
/- LOGS OF MANY SEGMENTS: a segment without a whole record. -/
namespace Go.Proofs.YtbdhmkfdofkloaaGreatDoor
open Go.RowKit Go.Maps
open Sc

theorem junk_ended {b : List Nat} (h : Junk b) : Ended b 0 := ⟨good_zero _, h.no⟩
set_option maxRecDepth 100000 in
set_option maxHeartbeats 4000000 in
theorem readSeg0 (f B p bD bN n nD nN : Nat) (pv : Value) (d : ADisk) (b : List Nat) (w : World) (h : DiskIn w B p bD bN pv d n nD nN) (hdn : d.down = false) (hf : f < 18446744073709551616) (hb : Junk b) (hnow : d.now (segName f) = some (str b)) (hpow : Pows w) :
    Calls Tryz.prog 118 #[dskV p, .int .u64 (f : Int)] w fun e w' => ∃ x, e = .returned (.tuple #[.slice none 0 0, x, .nilIface]) ∧ Below w.heap.size w w' := by
  have hm := Tryz.mRead
  have hna := Tryz.nilRead p
  have HI : Hid (DiskIn w B p bD bN pv d n nD nN ∧ d.read (segName f) = (some (str b), 0)) := ⟨h, by unfold ADisk.read; rw [if_neg (by rw [hdn]; decide), hnow]⟩
  have HF : Hid (Junk b) := hb
  have hbl := hb.le
  clear h hnow hb
  go_enter Tryz.func118, Tryz.ntmps118
  go_wp2
  go_region_held3 (fun _ => True)
    (trivial)
    (first
      | (go_at_call 50; refine (segmentName_any f w.drew hf (show Pows w.drew from hpow)).mono ?_; rintro e w1 ⟨rfl, hb0⟩; have HB1 : Hid (Below w.heap.size w w1) := ⟨hb0.os, hb0.tape, hb0.output, hb0.size, hb0.block⟩; clear hb0)
      | (go_at_call 237; refine (read_any B p bD bN n nD nN pv d (segName f) w1 (HI.out.1.new (Fr.of_below HB1.out [])) (by have := segName_size f hf; unfold maxLen; omega)).mono ?_; rintro e w2 ⟨v2, rfl, hg2, hb2⟩))
  all_goals clear hm hna
  all_goals rw [HI.out.2] at hg2 ⊢
  all_goals rw [errN_ok]
  all_goals
    have hsrc : Src w2 v2 b := by
      have : Src w2 v2 (bytesOf (str b)) := hg2
      rwa [bytesOf_str HF.out.byt] at this
    have hsc := scanW v2 b w2 hsrc HF.out.byt (by omega)
    have HB2 : Hid (Below w.heap.size w w2) := HB1.out.trans (hb2.mono HB1.out.size)
    obtain ⟨a2, n2, c2, rfl⟩ : ∃ a2 n2 c2, v2 = .slice a2 n2 c2 := by
      rcases hsrc with ⟨e, _⟩ | ⟨b, off, cap, e, _⟩
      · exact ⟨_, _, _, e⟩
      · exact ⟨_, _, _, e⟩
    clear hg2 hb2 hsrc
    go_wp2_with fail
    refine hsc.mono ?_
    clear hsc
    rintro e w3 ⟨k, v3, rfl, hE, _, hv3, hb3⟩
    obtain rfl := ended_unique hE (junk_ended HF.out)
    obtain rfl := hv3 rfl
    have HB3 : Hid (Below w.heap.size w w3) := HB2.out.trans (hb3.mono HB2.out.size)
    have hst : (st 0 b).2 = 0 := rfl
    rw [hst]
    clear hE hb3 hv3 hst
    go_wp2
    go_loopw [33] (fun i wr => i = .int .i64 0 ∧ Hid (wr = w3)) (fun _ _ => 0)
    case atStart => exact ⟨rfl, rfl⟩
    case round =>
      obtain ⟨rfl, hW⟩ := hrel
      obtain rfl : wr = w3 := hW.out
      by_cases hn2 : 0 < n2
      · have l1 : (0 : Int) < (n2 : Int) := by omega
        go_wp2
        go_ret3
        exact ⟨⟨_, rfl⟩, HB3.out⟩
      · obtain rfl : n2 = 0 := by omega
        go_wp2
        go_ret3
        exact ⟨⟨_, rfl⟩, HB3.out⟩
end Go.Proofs.YtbdhmkfdofkloaaGreatDoor
/- LOGS OF MANY SEGMENTS: readOn at a segment without a whole record. -/
namespace Go.Proofs.YtbdhmkfdofkloaaGreatDoor
open Go.RowKit Go.Maps
open Sc

set_option maxRecDepth 100000 in
set_option maxHeartbeats 4000000 in
theorem readOn0 (B lp p bD bN n nD nN : Nat) (pv sv rv : Value) (l : ALog) (d : ADisk) (b : List Nat) (w : World) (h : LogIn w B lp p bD bN pv sv rv l d n nD nN) (hdn : d.down = false) (hb : Junk b) (hnow : d.now (segName l.next) = some (str b)) (hpow : Pows w) :
    Calls Tryz.prog 89 #[.pointer (some ⟨lp, 0, none⟩), .int .u64 (l.next : Int)] w fun e w' => e = .returned (.tuple #[.bool false, .nilIface]) ∧ Below w.heap.size w w' := by
  have hn := h.disk.hn
  have c0 := blk_cell h.blk 0
  have c4 := blk_cell h.blk 4
  simp at c0 c4
  have hS := readSeg0 l.next B p bD bN n nD nN pv d b w h.disk hdn (by have := h.nextN; omega) hb hnow hpow
  obtain ⟨nx, hnx0⟩ : ∃ nx, nx = l.next := ⟨_, rfl⟩
  rw [← hnx0] at hS c4 ⊢
  clear h hnow hb hnx0
  go_enter Tryz.func89, Tryz.ntmps89
  go_wp2_with fail
  refine hS.mono ?_
  clear hS
  rintro e w1 ⟨x, rfl, hb1⟩
  have HB := toHd hb1
  clear hb1
  go_wp2
  go_ret2
  exact ⟨rfl, HB.out⟩
end Go.Proofs.YtbdhmkfdofkloaaGreatDoor
/- HOSTS: a log's Append, Force, Cut; Next, Is. (Written by mkhost.py.) -/
namespace Go.Proofs.YtbdhmkfdofkloaaGreatDoor
open Go.RowKit
open Sc

abbrev fallO (a b c d : Int) : Obj := .cells #[.int .i64 a, .int .i64 b, .int .i64 c, .int .i64 d] 30
/-- what stands behind a host's call -/
def HostPost (B hp lp p bD bN n : Nat) (v : Value) (l : ALog) (d : ADisk) (w : World) (e : Ending) (w' : World) : Prop :=
  e = .returned v ∧ HostIn w' B hp lp p bD bN l (d.knob (-1) (-1)) n ∧ OFr lp p w w'
theorem OFr.fall {w w' : World} {B lp p bD bN n nD nN q : Nat} {pv sv rv : Value} {l : ALog} {d : ADisk} {a b c k : Int} (hf : OFr lp p w w') (h : LogIn w B lp p bD bN pv sv rv l d n nD nN) (hh : w.heap[q]? = some (fallO a b c k)) : w'.heap[q]? = some (fallO a b c k) :=
  (hf.block q (Array.getElem?_eq_some_iff.1 hh).1 (h.free hh (by decide) (by decide) (by decide) (by decide) (by decide))).trans hh
/-- behind after and Told -/
theorem hostEnd {B hp lp p bD bN n : Nat} {l : ALog} {d : ADisk} {w w1 w2 w3 : World} {pv sv rv : Value} {nD nN : Nat} (h1 : LogIn w1 B lp p bD bN pv sv rv l d n nD nN) (ho1 : OFr lp p w w1) (hh1 : w1.heap[hp]? = some (hostO p true (.pointer (some ⟨lp, 0, none⟩)))) (hdn : d.down = false)
    (hf2 : Fr [p] w1 w2) (hb2 : w2.heap[p]? = some (dskO bD bN pv (-1) (-1) false)) (hf3 : Fr [] w2 w3) : HostIn w3 B hp lp p bD bN l (d.knob (-1) (-1)) n ∧ OFr lp p w w3 := by
  rw [← hdn] at hb2
  obtain ⟨h2, ho2⟩ := h1.knob (-1) (-1) hf2 hb2
  have h3 := h2.new hf3
  have ho3 := h2.newO hf3
  have ho := (ho1.trans ho2).trans ho3
  exact ⟨⟨(ho2.trans ho3).host h1 hh1, _, _, _, _, _, h3⟩, ho⟩
set_option maxRecDepth 100000 in
set_option maxHeartbeats 4000000 in
theorem hAppend (B hp lp p bD bN n : Nat) (kind : Nat) (s : ByteArray) (l : ALog) (d : ADisk) (a b c k : Int) (w : World) (h : HostIn w B hp lp p bD bN l d n) (hB : 2 ≤ B) (hmet : Met w) (hk : kind < 256) (hn : n + 3 < 67108864) (hsg : l.filled < 600 → l.segs ≠ []) (hpow : Pows w)
    (hdn : (l.append (d.knob a b) kind s).2.1.down = false) :
    Calls Tryz.prog 9 #[.pointer (some ⟨hp, 0, none⟩), .int .u8 (kind : Int), .string s, fallV a b c k] w
      (HostPost B hp lp p bD bN (n + 3) (.tuple #[.int .u64 ((l.append (d.knob a b) kind s).2.2.1 : Int), .int .i64 ((l.append (d.knob a b) kind s).2.2.2 : Int)]) (l.append (d.knob a b) kind s).1 (l.append (d.knob a b) kind s).2.1 w) := by
  obtain ⟨hh, pv, sv, rv, nD, nN, hl⟩ := h
  obtain ⟨W, hW⟩ : ∃ W, W = w.alloc (fallO a b c k) := ⟨_, rfl⟩
  have hf0 : Fr [] w W := by rw [hW]; exact (Fr.refl [] w).alloc _
  have hl0 := hl.new hf0
  have ho0 := hl.newO hf0
  have hh0 := ho0.host hl hh
  have hx0 : W.heap[w.heap.size]? = some (fallO a b c k) := by rw [hW]; exact heap_alloc_new w _
  have c4 := blk_cell hh0 4
  have x0 := blk_cell hx0 0
  have x1 := blk_cell hx0 1
  have x2 := blk_cell hx0 2
  have x3 := blk_cell hx0 3
  simp at c4 x0 x1 x2 x3
  rw [hW] at c4 x0 x1 x2 x3
  have HH : Hid (W.heap[hp]? = some (hostO p true (.pointer (some ⟨lp, 0, none⟩)))) := hh0
  have HX : Hid (W.heap[w.heap.size]? = some (fallO a b c k)) := hx0
  have HL : Hid (LogIn W B lp p bD bN pv sv rv l d n nD nN) := hl0
  have HO : Hid (OFr lp p w W) := ho0
  have HLw : Hid (LogIn w B lp p bD bN pv sv rv l d n nD nN) := hl
  clear hh hl hf0 hl0 ho0 hh0 hx0
  go_enter Tryz.func9, Tryz.ntmps9
  go_wp2_with fail
  rw [← hW]
  clear hW c4 x0 x1 x2 x3
  refine (before_any hp p bD bN pv _ true d.down d.left d.full a b c k W HH.out HL.out.disk.blk).mono ?_
  rintro e w1 ⟨rfl, hb1, hf1⟩
  obtain ⟨hl1, ho1⟩ := HL.out.knob a b hf1 hb1
  have HL1 : Hid (LogIn w1 B lp p bD bN pv sv rv l (d.knob a b) n nD nN) := hl1
  have HO1 : Hid (OFr lp p w w1) := HO.out.trans ho1
  have hh1 := ho1.host HL.out HH.out
  have k4 := blk_cell hh1 4
  simp at k4
  have HH1 : Hid (w1.heap[hp]? = some (hostO p true (.pointer (some ⟨lp, 0, none⟩)))) := hh1
  have HX1 : Hid (w1.heap[w.heap.size]? = some (fallO a b c k)) := ho1.fall HL.out HX.out
  have hpow1 : Pows w1 := HO1.out.pows HLw.out hB hpow
  clear hl1 ho1 hh1 hb1 hf1
  go_wp2_with fail
  have hap : Calls Tryz.prog 29 #[.pointer (some ⟨lp, 0, none⟩), .int .u8 (kind : Int), .string s] w1 (AppPost B lp p bD bN (n + 3) (l.append (d.knob a b) kind s) w1) := by
    by_cases hs : 255 < s.size
    · refine (lappend_no B lp p bD bN n nD nN kind pv sv rv l (d.knob a b) s w1 HL1.out hs (by omega)).mono ?_
      rintro e w2 ⟨he, ⟨pv2, sv2, rv2, nD2, nN2, hl2⟩, ho2⟩
      exact ⟨he, ⟨pv2, sv2, rv2, nD2, nN2, hl2.mores (by omega) (by omega)⟩, ho2⟩
    · exact lappend_yes B lp p bD bN n nD nN kind pv sv rv l (d.knob a b) s w1 HL1.out (by omega) hk (by omega) hB hsg hpow1
  refine hap.mono ?_
  clear hap
  obtain ⟨r, hr⟩ : ∃ r, r = l.append (d.knob a b) kind s := ⟨_, rfl⟩
  rw [← hr] at hdn
  rintro e w2 hpost
  rw [← hr] at hpost
  have HR : Hid (r = l.append (d.knob a b) kind s) := hr
  clear hr
  obtain ⟨rfl, ⟨pv2, sv2, rv2, nD2, nN2, hl2⟩, ho2⟩ := hpost
  have HL2 : Hid (LogIn w2 B lp p bD bN pv2 sv2 rv2 r.1 r.2.1 (n + 3) nD2 nN2) := hl2
  have HO2 : Hid (OFr lp p w w2) := HO1.out.trans ho2
  have hh2 := ho2.host HL1.out HH1.out
  have HH2 : Hid (w2.heap[hp]? = some (hostO p true (.pointer (some ⟨lp, 0, none⟩)))) := hh2
  have hx2 := ho2.fall HL1.out HX1.out
  have y0 := blk_cell hx2 0
  have y1 := blk_cell hx2 1
  have y2 := blk_cell hx2 2
  have y3 := blk_cell hx2 3
  simp at y0 y1 y2 y3
  have hmet2 : Met w2 := HO2.out.met HLw.out hB hmet
  clear hl2 ho2 hh2 k4 hx2
  go_wp2_with fail
  have hbd := HL2.out.disk.blk
  rw [hdn] at hbd
  refine (after_well hp p bD bN pv2 _ true r.2.1.left r.2.1.full a b c k w2 HH2.out hbd).mono ?_
  rintro e w3 ⟨rfl, hb3, hf3⟩
  have hmet3 : Met w3 := by
    have := (HL2.out.knob (-1) (-1) hf3 (by rw [hdn]; exact hb3)).2
    exact this.met HL2.out hB hmet2
  have HB3 : Hid (w3.heap[p]? = some (dskO bD bN pv2 (-1) (-1) false) ∧ Fr [p] w2 w3) := ⟨hb3, hf3⟩
  clear hb3 hf3 hbd y0 y1 y2 y3
  go_wp2_with fail
  refine (told_any r.2.2.2 w3 hmet3).mono ?_
  rintro e w4 ⟨rfl, hf4⟩
  have HF4 : Hid (Fr [] w3 w4) := hf4
  clear hf4
  go_wp2
  go_ret2
  obtain ⟨z1, z2⟩ := hostEnd HL2.out HO2.out HH2.out hdn HB3.out.2 HB3.out.1 HF4.out
  have hr := HR.out
  subst hr
  exact ⟨rfl, z1, z2⟩
set_option maxRecDepth 100000 in
set_option maxHeartbeats 4000000 in
theorem hForce (B hp lp p bD bN n : Nat) (l : ALog) (d : ADisk) (a b c k : Int) (w : World) (h : HostIn w B hp lp p bD bN l d n) (hB : 2 ≤ B) (hmet : Met w) (hn : n ≤ 67108864)
    (hdn : (l.force (d.knob a b)).2.1.down = false) :
    Calls Tryz.prog 10 #[.pointer (some ⟨hp, 0, none⟩), fallV a b c k] w
      (HostPost B hp lp p bD bN (n) (.int .i64 ((l.force (d.knob a b)).2.2 : Int)) (l.force (d.knob a b)).1 (l.force (d.knob a b)).2.1 w) := by
  obtain ⟨hh, pv, sv, rv, nD, nN, hl⟩ := h
  obtain ⟨W, hW⟩ : ∃ W, W = w.alloc (fallO a b c k) := ⟨_, rfl⟩
  have hf0 : Fr [] w W := by rw [hW]; exact (Fr.refl [] w).alloc _
  have hl0 := hl.new hf0
  have ho0 := hl.newO hf0
  have hh0 := ho0.host hl hh
  have hx0 : W.heap[w.heap.size]? = some (fallO a b c k) := by rw [hW]; exact heap_alloc_new w _
  have c4 := blk_cell hh0 4
  have x0 := blk_cell hx0 0
  have x1 := blk_cell hx0 1
  have x2 := blk_cell hx0 2
  have x3 := blk_cell hx0 3
  simp at c4 x0 x1 x2 x3
  rw [hW] at c4 x0 x1 x2 x3
  have HH : Hid (W.heap[hp]? = some (hostO p true (.pointer (some ⟨lp, 0, none⟩)))) := hh0
  have HX : Hid (W.heap[w.heap.size]? = some (fallO a b c k)) := hx0
  have HL : Hid (LogIn W B lp p bD bN pv sv rv l d n nD nN) := hl0
  have HO : Hid (OFr lp p w W) := ho0
  have HLw : Hid (LogIn w B lp p bD bN pv sv rv l d n nD nN) := hl
  clear hh hl hf0 hl0 ho0 hh0 hx0
  go_enter Tryz.func10, Tryz.ntmps10
  go_wp2_with fail
  rw [← hW]
  clear hW c4 x0 x1 x2 x3
  refine (before_any hp p bD bN pv _ true d.down d.left d.full a b c k W HH.out HL.out.disk.blk).mono ?_
  rintro e w1 ⟨rfl, hb1, hf1⟩
  obtain ⟨hl1, ho1⟩ := HL.out.knob a b hf1 hb1
  have HL1 : Hid (LogIn w1 B lp p bD bN pv sv rv l (d.knob a b) n nD nN) := hl1
  have HO1 : Hid (OFr lp p w w1) := HO.out.trans ho1
  have hh1 := ho1.host HL.out HH.out
  have k4 := blk_cell hh1 4
  simp at k4
  have HH1 : Hid (w1.heap[hp]? = some (hostO p true (.pointer (some ⟨lp, 0, none⟩)))) := hh1
  have HX1 : Hid (w1.heap[w.heap.size]? = some (fallO a b c k)) := ho1.fall HL.out HX.out
  clear hl1 ho1 hh1 hb1 hf1
  go_wp2_with fail
  have hap := force_any B lp p bD bN n nD nN pv sv rv l (d.knob a b) w1 HL1.out hn
  refine hap.mono ?_
  clear hap
  obtain ⟨r, hr⟩ : ∃ r, r = l.force (d.knob a b) := ⟨_, rfl⟩
  rw [← hr] at hdn
  rintro e w2 hpost
  rw [← hr] at hpost
  have HR : Hid (r = l.force (d.knob a b)) := hr
  clear hr
  obtain ⟨rfl, ⟨pv2, sv2, rv2, nD2, nN2, hl2⟩, ho2⟩ := hpost
  have HL2 : Hid (LogIn w2 B lp p bD bN pv2 sv2 rv2 r.1 r.2.1 (n) nD2 nN2) := hl2
  have HO2 : Hid (OFr lp p w w2) := HO1.out.trans ho2
  have hh2 := ho2.host HL1.out HH1.out
  have HH2 : Hid (w2.heap[hp]? = some (hostO p true (.pointer (some ⟨lp, 0, none⟩)))) := hh2
  have hx2 := ho2.fall HL1.out HX1.out
  have y0 := blk_cell hx2 0
  have y1 := blk_cell hx2 1
  have y2 := blk_cell hx2 2
  have y3 := blk_cell hx2 3
  simp at y0 y1 y2 y3
  have hmet2 : Met w2 := HO2.out.met HLw.out hB hmet
  clear hl2 ho2 hh2 k4 hx2
  go_wp2_with fail
  have hbd := HL2.out.disk.blk
  rw [hdn] at hbd
  refine (after_well hp p bD bN pv2 _ true r.2.1.left r.2.1.full a b c k w2 HH2.out hbd).mono ?_
  rintro e w3 ⟨rfl, hb3, hf3⟩
  have hmet3 : Met w3 := by
    have := (HL2.out.knob (-1) (-1) hf3 (by rw [hdn]; exact hb3)).2
    exact this.met HL2.out hB hmet2
  have HB3 : Hid (w3.heap[p]? = some (dskO bD bN pv2 (-1) (-1) false) ∧ Fr [p] w2 w3) := ⟨hb3, hf3⟩
  clear hb3 hf3 hbd y0 y1 y2 y3
  go_wp2_with fail
  refine (told_any r.2.2 w3 hmet3).mono ?_
  rintro e w4 ⟨rfl, hf4⟩
  have HF4 : Hid (Fr [] w3 w4) := hf4
  clear hf4
  go_wp2
  go_ret
  obtain ⟨z1, z2⟩ := hostEnd HL2.out HO2.out HH2.out hdn HB3.out.2 HB3.out.1 HF4.out
  have hr := HR.out
  subst hr
  exact ⟨rfl, z1, z2⟩
end Go.Proofs.YtbdhmkfdofkloaaGreatDoor
