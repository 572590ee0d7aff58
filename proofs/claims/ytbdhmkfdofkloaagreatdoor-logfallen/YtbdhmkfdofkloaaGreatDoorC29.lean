import Derived.Test.YtbdhmkfdofkloaaGreatDoorC28
import Derived.Maps.AppendAt
import Derived.Test.YtbdhmkfdofkloaaGreatDoorC22
/- LOGS OF MANY SEGMENTS: readOn. -/
namespace Go.Proofs.YtbdhmkfdofkloaaGreatDoor
open Go.RowKit Go.Maps
open Sc

set_option maxRecDepth 100000 in
set_option maxHeartbeats 4000000 in
theorem readOnG (B lp p bD bN n nD nN : Nat) (pv sv rv : Value) (l : ALog) (d : ADisk) (rs : List Rec) (tl : List Nat) (w : World) (h : LogIn w B lp p bD bN pv sv rv l d n nD nN) (hdn : d.down = false) (hrs : FineX rs) (hno : ∀ (k : Nat) (r : Rec), rs[k]? = some r → r.lsn = l.next + k) (hne : rs ≠ []) (htl : Junk tl) (hnow : d.now (segName l.next) = some (str (sgB (rs, tl)))) (hpow : Pows w) (hlen : l.recs.length + rs.length ≤ n) (hsn : l.segs.length + 1 ≤ n) (hnx : l.next + rs.length ≤ n + 1) (hby : (encR rs).length ≤ 4096) :
    Calls Tryz.prog 89 #[.pointer (some ⟨lp, 0, none⟩), .int .u64 (l.next : Int)] w fun e w' => e = .returned (.tuple #[.bool true, .nilIface]) ∧ (∃ sv' rv', LogIn w' B lp p bD bN pv sv' rv' ⟨l.segs ++ [l.next], fillS (rs, tl), l.recs ++ rs, l.next + rs.length, l.durable, l.failed⟩ d n nD nN ∧ Near w.heap.size sv sv' ∧ Near w.heap.size rv rv') ∧ Fr (lp :: (sv.ownBlock.toList ++ rv.ownBlock.toList)) w w' := by
  have hn := h.disk.hn
  have hBw := h.disk.base.2.2.2
  have c0 := blk_cell h.blk 0
  have c4 := blk_cell h.blk 4
  simp at c0 c4
  have hlpw : lp < w.heap.size := (Array.getElem?_eq_some_iff.1 h.blk).1
  have hS := readSegG l.next B p bD bN n nD nN pv d rs tl w h.disk hdn hrs hno (by omega) hne htl hnow hpow (by omega) hby
  have hfs : fillS (rs, tl) ≤ 4096 := by unfold fillS; split; rw [← encR_bytes]; exact hby; omega
  have HI : Hid (LogIn w B lp p bD bN pv sv rv l d n nD nN) := h
  obtain ⟨i0, hi, hz0, hz1, hz2⟩ := info_parts Tryz.infoU64
  obtain ⟨j0, hj, ha0, ha1, ha2⟩ := info_parts Tryz.infoRec
  have hrp : 0 < rs.length := List.length_pos_iff.2 hne
  clear h hrs hne hnow hno htl
  go_enter Tryz.func89, Tryz.ntmps89
  go_wp2_with fail
  refine hS.mono ?_
  clear hS
  rintro e w1 ⟨vr, rfl, hrow, hb1⟩
  obtain ⟨g1, k1, rfl⟩ := own_pos hrow hrp
  have hf1 : Fr [] w w1 := Fr.of_below hb1 []
  have hl1 := HI.out.new hf1
  have ho1 := HI.out.newO hf1
  have HW1 := toHd hf1
  have H1 : Hid (LogIn w1 B lp p bD bN pv sv rv l d n nD nN ∧ OFr lp p w w1 ∧ w1.ownsRow w.heap.size 44 3 (.slice (some ⟨g1, 0, none⟩) rs.length k1) rs.length (recsV rs)) := ⟨hl1, ho1, hrow⟩
  have d1 := blk_cell hl1.blk 1
  have d2 := blk_cell hl1.blk 2
  have d3 := blk_cell hl1.blk 3
  have d4 := blk_cell hl1.blk 4
  have e1 := blk_free hl1.blk 1
  have e2 := blk_free hl1.blk 2
  have e3 := blk_free hl1.blk 3
  have e4 := blk_free hl1.blk 4
  simp at d1 d2 d3 d4
  have hw1 := hb1.size
  have hg1 := hrow.lt g1 rfl
  have hrl : ¬ ((rs.length : Int) = 0) := by omega
  obtain ⟨m, hm0⟩ : ∃ m, m = rs.length := ⟨_, rfl⟩
  obtain ⟨eb, heb⟩ : ∃ eb, eb = fillS (rs, tl) := ⟨_, rfl⟩
  have HME : Hid (m = rs.length ∧ eb = fillS (rs, tl)) := ⟨hm0, heb⟩
  rw [← hm0] at H1 hrp hrl hlen hnx ⊢
  rw [← heb] at hfs ⊢
  obtain ⟨nx, hnx0⟩ : ∃ nx, nx = l.next := ⟨_, rfl⟩
  have HNX : Hid (nx = l.next) := hnx0
  rw [← hnx0] at hnx c4 d4 ⊢
  have hG1 : ∃ c, w1.heap[g1]? = some (.cells c 44 (0, 0)) := own_cells hrow rfl
  have HC : Hid (∀ (j : Nat) (u : Value), (recsV rs)[j]? = some u → w1.cell? ⟨g1, j, none⟩ = some u) := fun j u hj => by
    have := H1.out.2.2.cells (g := g1) rfl j u hj
    simpa [Addr.add_lit] using this
  have HG : Hid (¬ g1 = lp ∧ sv.ownBlock ≠ some g1 ∧ rv.ownBlock ≠ some g1) := by
    obtain ⟨c, hcc⟩ := hG1
    refine ⟨by omega, own_ne hl1.segs hcc (by decide), fun e => ?_⟩
    have := (HI.out.recs.lt g1 e).2
    omega
  clear hrow hb1 hf1 hl1 ho1 c0 hm0 heb hnx0 hG1
  have lp1 : lp < w1.heap.size := by omega
  have lp2 : ¬ lp = w1.heap.size := by omega
  have lp3 : ¬ w1.heap.size = lp := by omega
  have j64 : IntKind.u64.wrap (m : Int) = (m : Int) := by rw [IntKind.wrap_u64]; omega
  have j65 : IntKind.u64.wrap ((nx : Int) + (m : Int)) = (nx : Int) + (m : Int) := by rw [IntKind.wrap_u64]; omega
  go_wp2_with (first
    | (at_builtin; refine wpList_append_own_at _ rfl _ _ 98 rfl B 34 i0 _ 1 8 Tryz.underlying98 hi hz0 hz1 hz2 rfl (by decide) _ l.segs.length (u64s l.segs) rfl (H1.out.1.segs.alloc _) ⟨w1.heap.size, 0, none⟩ 1 1 [.int .u64 (nx : Int)] rfl rfl (cells_new _ #[.int .u64 (nx : Int)] _) (by intro u hu; simp at hu; subst hu; rfl) (by unfold maxLen; omega) (by omega) (by simp; omega) ?_; intro v2 w2 hown2 hgrow2 _ hat2; obtain ⟨gs, cs, rfl⟩ := own_pos hown2 (by omega); have hf2 : Fr sv.ownBlock.toList w1 w2 := ((Fr.refl _ w1).alloc _).trans (Fr.of_grown hgrow2); have H2 := toHd (H1.out.1.segsAt (v := .slice (some ⟨gs, 0, none⟩) (l.segs.length + 1) cs) (ss := l.segs ++ [nx]) hf2 (by rw [u64s_snoc, List.length_append]; exact hown2) (Near.of_at hat2 (by simp)) ⟨by simpa using hsn, by intro x hx; rcases List.mem_append.1 hx with hx | hx; exact H1.out.1.segsN.2 x hx; simp at hx; omega⟩); have hz2 := hf2.size; have hb2 := (hf2.block lp lp1 (by simp; exact own_ne H1.out.1.segs H1.out.1.blk (by decide))).trans H1.out.1.blk; have q1 := blk_cell hb2 1; have q2 := blk_cell hb2 2; have q3 := blk_cell hb2 3; have q4 := blk_cell hb2 4; have p1 := blk_free hb2 1; have p2 := blk_free hb2 2; have p3 := blk_free hb2 3; have p4 := blk_free hb2 4; simp at q1 q2 q3 q4; rw [← HNX.out] at q4; have HF2 := toHd hf2; have HN2 := toHd (Near.of_at (s := w.heap.size) hat2 (by simp; omega)); clear hown2 hgrow2 hat2 hf2 hb2 d1 d2 d3 d4 e1 e2 e3 e4)
    | (at_builtin; refine wpList_append_own_at _ rfl _ _ 40 rfl B 44 j0 _ 3 32 Tryz.underlying40 hj ha0 ha1 ha2 rfl (by decide) _ l.recs.length (recsV l.recs) rfl H2.out.1.recs ⟨g1, 0, none⟩ m k1 (recsV rs) rfl (by rw [recsV_len, HME.out.1]) (fun j u hj => by rw [show ((⟨g1, 0, none⟩ : Addr).add j) = ⟨g1, j, none⟩ from by simp [Addr.add]; exact fun h => h.symm]; exact (World.cell?_of_block (a := ⟨g1, j, none⟩) ((Below.heap_setCell _ _ _ g1 (fun e => HG.out.1 (by simpa using e))).trans (HF2.out.block g1 hg1.2 (by simp; exact HG.out.2.1)))).trans (HC.out j u hj)) (recsV_one rs) (by unfold maxLen; omega) (by omega) H2.out.1.disk.base.2.2.2 ?_; intro v3 w3 hown3 hgrow3 _ hat3; obtain ⟨gr, cr, rfl⟩ := own_pos hown3 (by omega); have hf3 := Fr.of_grown hgrow3; have H3 := toHd (H2.out.1.recsAt (v := .slice (some ⟨gr, 0, none⟩) (l.recs.length + m) cr) (rs := l.recs ++ rs) hf3 (by rw [recsV_app, List.length_append, ← HME.out.1]; exact hown3) (Near.of_at hat3 (Nat.le_refl _)) (by rw [List.length_append, ← HME.out.1]; exact hlen)); have hb3 := (hf3.block lp (Array.getElem?_eq_some_iff.1 H2.out.1.blk).1 (by simp; exact own_ne H2.out.1.recs H2.out.1.blk (by decide))).trans H2.out.1.blk; have t2 := blk_cell hb3 2; have t3 := blk_cell hb3 3; have t4 := blk_cell hb3 4; have u2 := blk_free hb3 2; have u3 := blk_free hb3 3; have u4 := blk_free hb3 4; simp at t2 t3 t4; rw [← HNX.out] at t4; have HF3 := toHd hf3; have HN3 := toHd (Near.of_at (s := w.heap.size) hat3 (by simp; omega)); clear hown3 hgrow3 hat3 hf3 hb3 q1 q2 q3 q4 p1 p2 p3 p4))
  go_ret2
  obtain ⟨W5, hW5⟩ : ∃ W5, W5 = w3.setCell ⟨lp, 3, none⟩ (.slice (some ⟨gr, 0, none⟩) (l.recs.length + m) cr) := ⟨_, rfl⟩
  have h5 := H3.out
  rw [← hW5] at h5 ⊢
  obtain ⟨W6, hW6⟩ : ∃ W6, W6 = (W5.setCell ⟨lp, 4, none⟩ (.int .u64 ((nx : Int) + (m : Int)))).setCell ⟨lp, 2, none⟩ (.int .i64 (eb : Int)) := ⟨_, rfl⟩
  rw [← hW6]
  have hf6 : Fr [lp] W5 W6 := by rw [hW6]; exact (Fr.set1 (by simp) _ _).trans (Fr.set1 (by simp) _ _)
  have hb6 : W6.heap[lp]? = some (logO p (.slice (some ⟨gs, 0, none⟩) (l.segs.length + 1) cs) (.slice (some ⟨gr, 0, none⟩) (l.recs.length + m) cr) ⟨l.segs ++ [l.next], fillS (rs, tl), l.recs ++ rs, l.next + rs.length, l.durable, l.failed⟩) := by
    have := blk_set (blk_set h5.1.blk 4 (.int .u64 ((nx : Int) + (m : Int)))) 2 (.int .i64 (eb : Int))
    rw [hW6]
    simp [← HME.out.1, ← HME.out.2, ← HNX.out] at this ⊢
    exact this
  have hl6 : LogIn W6 B lp p bD bN pv (.slice (some ⟨gs, 0, none⟩) (l.segs.length + 1) cs) (.slice (some ⟨gr, 0, none⟩) (l.recs.length + m) cr) ⟨l.segs ++ [l.next], fillS (rs, tl), l.recs ++ rs, l.next + rs.length, l.durable, l.failed⟩ d n nD nN := by
    have h5' := h5.1
    rw [HNX.out] at h5'
    exact h5'.own1 hf6 hb6 h5'.segsN h5'.recsN (by show fillS (rs, tl) ≤ 4096; rw [← HME.out.2]; exact hfs) (by show l.next + rs.length ≤ n + 1; rw [← HME.out.1, ← HNX.out]; exact hnx) h5'.durN rfl rfl
  refine ⟨rfl, ⟨_, _, hl6, HN2.out, HN3.out⟩, ?_⟩
  have a1 : Fr (lp :: (sv.ownBlock.toList ++ rv.ownBlock.toList)) w w1 := HW1.out.mono (by simp)
  have a2 : Fr (lp :: (sv.ownBlock.toList ++ rv.ownBlock.toList)) w w2 := a1.trans (HF2.out.mono (fun k _ hk => List.mem_cons_of_mem _ (List.mem_append_left _ hk)))
  have a3 := (a2.setCell (p := ⟨lp, 1, none⟩) (.inl (by simp)) (.slice (some ⟨gs, 0, none⟩) (l.segs.length + 1) cs)).trans (HF3.out.mono (fun k _ hk => List.mem_cons_of_mem _ (List.mem_append_right _ hk)))
  have a4 := a3.setCell (p := ⟨lp, 3, none⟩) (.inl (by simp)) (.slice (some ⟨gr, 0, none⟩) (l.recs.length + m) cr)
  rw [← hW5] at a4
  exact a4.trans (hf6.mono (fun k _ hk => by simp at hk; simp [hk]))
end Go.Proofs.YtbdhmkfdofkloaaGreatDoor
/- LOGS OF MANY SEGMENTS: a segment without a whole record. -/
namespace Go.Proofs.YtbdhmkfdofkloaaGreatDoor
open Go.RowKit Go.Maps
open Sc

theorem junk_ended {b : List Nat} (h : Junk b) : Ended b 0 := ⟨good_zero _, h.no⟩
set_option maxRecDepth 100000 in
set_option maxHeartbeats 4000000 in
theorem readSeg0 (f B p bD bN n nD nN : Nat) (pv : Value) (d : ADisk) (b : List Nat) (w : World) (h : DiskIn w B p bD bN pv d n nD nN) (hdn : d.down = false) (hf : f < 18446744073709551616) (hb : Junk b) (hnow : d.now (segName f) = some (str b)) (hpow : Pows w) :
    Calls Tryz.prog 118 #[dskV p, .int .u64 (f : Int)] w fun e w' => ∃ x, e = .returned (.tuple #[.slice none 0 0, x, .nilIface]) ∧ Below w.heap.size w w' := by
  have hm := Tryz.mRead
  have hna := Tryz.nilRead p
  have HI : Hid (DiskIn w B p bD bN pv d n nD nN ∧ d.read (segName f) = (some (str b), 0)) := ⟨h, by unfold ADisk.read; rw [if_neg (by rw [hdn]; decide), hnow]⟩
  have HF : Hid (Junk b) := hb
  have hbl := hb.le
  clear h hnow hb
  go_enter Tryz.func118, Tryz.ntmps118
  go_wp2
  go_region_held3 (fun _ => True)
    (trivial)
    (first
      | (go_at_call 50; refine (segmentName_any f w.drew hf (show Pows w.drew from hpow)).mono ?_; rintro e w1 ⟨rfl, hb0⟩; have HB1 : Hid (Below w.heap.size w w1) := ⟨hb0.os, hb0.tape, hb0.output, hb0.size, hb0.block⟩; clear hb0)
      | (go_at_call 237; refine (read_any B p bD bN n nD nN pv d (segName f) w1 (HI.out.1.new (Fr.of_below HB1.out [])) (by have := segName_size f hf; unfold maxLen; omega)).mono ?_; rintro e w2 ⟨v2, rfl, hg2, hb2⟩))
  all_goals clear hm hna
  all_goals rw [HI.out.2] at hg2 ⊢
  all_goals rw [errN_ok]
  all_goals
    have hsrc : Src w2 v2 b := by
      have : Src w2 v2 (bytesOf (str b)) := hg2
      rwa [bytesOf_str HF.out.byt] at this
    have hsc := scanW v2 b w2 hsrc HF.out.byt (by omega)
    have HB2 : Hid (Below w.heap.size w w2) := HB1.out.trans (hb2.mono HB1.out.size)
    obtain ⟨a2, n2, c2, rfl⟩ : ∃ a2 n2 c2, v2 = .slice a2 n2 c2 := by
      rcases hsrc with ⟨e, _⟩ | ⟨b, off, cap, e, _⟩
      · exact ⟨_, _, _, e⟩
      · exact ⟨_, _, _, e⟩
    clear hg2 hb2 hsrc
    go_wp2_with fail
    refine hsc.mono ?_
    clear hsc
    rintro e w3 ⟨k, v3, rfl, hE, _, hv3, hb3⟩
    obtain rfl := ended_unique hE (junk_ended HF.out)
    obtain rfl := hv3 rfl
    have HB3 : Hid (Below w.heap.size w w3) := HB2.out.trans (hb3.mono HB2.out.size)
    have hst : (st 0 b).2 = 0 := rfl
    rw [hst]
    clear hE hb3 hv3 hst
    go_wp2
    go_loopw [33] (fun i wr => i = .int .i64 0 ∧ Hid (wr = w3)) (fun _ _ => 0)
    case atStart => exact ⟨rfl, rfl⟩
    case round =>
      obtain ⟨rfl, hW⟩ := hrel
      obtain rfl : wr = w3 := hW.out
      by_cases hn2 : 0 < n2
      · have l1 : (0 : Int) < (n2 : Int) := by omega
        go_wp2
        go_ret3
        exact ⟨⟨_, rfl⟩, HB3.out⟩
      · obtain rfl : n2 = 0 := by omega
        go_wp2
        go_ret3
        exact ⟨⟨_, rfl⟩, HB3.out⟩
end Go.Proofs.YtbdhmkfdofkloaaGreatDoor
/- LOGS OF MANY SEGMENTS: readOn at a segment without a whole record. -/
namespace Go.Proofs.YtbdhmkfdofkloaaGreatDoor
open Go.RowKit Go.Maps
open Sc

set_option maxRecDepth 100000 in
set_option maxHeartbeats 4000000 in
theorem readOn0 (B lp p bD bN n nD nN : Nat) (pv sv rv : Value) (l : ALog) (d : ADisk) (b : List Nat) (w : World) (h : LogIn w B lp p bD bN pv sv rv l d n nD nN) (hdn : d.down = false) (hb : Junk b) (hnow : d.now (segName l.next) = some (str b)) (hpow : Pows w) :
    Calls Tryz.prog 89 #[.pointer (some ⟨lp, 0, none⟩), .int .u64 (l.next : Int)] w fun e w' => e = .returned (.tuple #[.bool false, .nilIface]) ∧ Below w.heap.size w w' := by
  have hn := h.disk.hn
  have c0 := blk_cell h.blk 0
  have c4 := blk_cell h.blk 4
  simp at c0 c4
  have hS := readSeg0 l.next B p bD bN n nD nN pv d b w h.disk hdn (by have := h.nextN; omega) hb hnow hpow
  obtain ⟨nx, hnx0⟩ : ∃ nx, nx = l.next := ⟨_, rfl⟩
  rw [← hnx0] at hS c4 ⊢
  clear h hnow hb hnx0
  go_enter Tryz.func89, Tryz.ntmps89
  go_wp2_with fail
  refine hS.mono ?_
  clear hS
  rintro e w1 ⟨x, rfl, hb1⟩
  have HB := toHd hb1
  clear hb1
  go_wp2
  go_ret2
  exact ⟨rfl, HB.out⟩
end Go.Proofs.YtbdhmkfdofkloaaGreatDoor
/- LOGS OF MANY SEGMENTS: (*Log).read. -/
namespace Go.Proofs.YtbdhmkfdofkloaaGreatDoor
open Go.RowKit Go.Maps
open Sc

theorem Tryz.lenUL (p : Option Addr) (n c : Nat) (w : World) : (Builtin.len_ #[98] 3 #[.slice p n c]).run Tryz.prog w = .ok (.int .i64 n) w := by simp [Builtin.len_, run_underlying Tryz.underlying98, goInt]
/-- a block that is new is no part of what is older -/
def Newer (s : Nat) (v : Value) : Prop := ∀ k, v.ownBlock = some k → s ≤ k
theorem Newer.near {s s' : Nat} {v v' : Value} (h : Newer s v) (hn : Near s' v v') (hs : s ≤ s') : Newer s v' := fun k hk => by
  rcases hn k hk with e | e
  · exact h k e
  · omega
/-- while a log is read: its own block alone is turned, and rows that are new -/
structure Rdg (w wr : World) (B lp p bD bN : Nat) (pv : Value) (l : ALog) (d : ADisk) (n nD nN : Nat) : Prop where
  fr : Fr [lp] w wr
  log : ∃ sv rv, LogIn wr B lp p bD bN pv sv rv l d n nD nN ∧ Newer w.heap.size sv ∧ Newer w.heap.size rv
section
variable {w wr wq : World} {B lp p bD bN n nD nN : Nat} {pv : Value} {l l' : ALog} {d : ADisk}
theorem Rdg.new (h : Rdg w wr B lp p bD bN pv l d n nD nN) (hf : Fr [] wr wq) : Rdg w wq B lp p bD bN pv l d n nD nN := by
  obtain ⟨sv, rv, h1, h2, h3⟩ := h.log
  exact ⟨h.fr.trans (hf.mono (by simp)), sv, rv, h1.new hf, h2, h3⟩
/-- a row of texts that is new is written -/
theorem Rdg.texts {v : Value} {base m : Nat} {xs : List Value} (h0 : DiskIn w B p bD bN pv d n nD nN) (hlp : lp < w.heap.size) (hpl : w.heap[lp]? ≠ none ∧ ∀ c fr, w.heap[lp]? ≠ some (.cells c 9 fr)) (hsep : p ≠ lp ∧ bD ≠ lp ∧ bN ≠ lp ∧ pv.ownBlock ≠ some lp) (h : Rdg w wr B lp p bD bN pv l d n nD nN) (hr : wr.ownsRow base 9 1 v m xs) (hb : Newer w.heap.size v) (hg : wr.grownBy wq v.ownBlock) : Rdg w wq B lp p bD bN pv l d n nD nN := by
  have hf : Fr v.ownBlock.toList wr wq := Fr.of_grown hg
  have hfw : Fr [lp] w wq := h.fr.andThen hf (fun j hj hjl => by
    simp at hj
    have := hb j hj; omega)
  obtain ⟨sv, rv, h1, h2, h3⟩ := h.log
  have hd : DiskIn wq B p bD bN pv d n nD nN := h0.fr hfw (by simpa using hsep.1) (by simpa using hsep.2.1) (by simpa using hsep.2.2.1) (fun g hg hm => by simp at hm; subst hm; exact hsep.2.2.2 hg) (fun q hq t ht => by simp at hq; subst hq; exact hpl.2 _ _ ht)
  have hne : ∀ q, v.ownBlock = some q → q ≠ lp := fun q hq e => by have := hb q hq; omega
  refine ⟨hfw, sv, rv, ⟨hd, (hf.block lp (Nat.lt_of_lt_of_le hlp h.fr.size) (fun hm => by simp at hm; exact hne lp hm rfl)).trans h1.blk, h1.base, ?_, ?_, h1.segsN, h1.recsN, h1.fillN, h1.nextN, h1.durN⟩, h2, h3⟩
  · refine ownsRow_fr h1.segs hf (fun g hg hm => ?_)
    simp at hm
    obtain ⟨c, hc⟩ := own_cells hr hm
    exact own_ne h1.segs hc (by decide) hg
  · refine ownsRow_fr h1.recs hf (fun g hg hm => ?_)
    simp at hm
    obtain ⟨c, hc⟩ := own_cells hr hm
    exact own_ne h1.recs hc (by decide) hg
end
end Go.Proofs.YtbdhmkfdofkloaaGreatDoor
