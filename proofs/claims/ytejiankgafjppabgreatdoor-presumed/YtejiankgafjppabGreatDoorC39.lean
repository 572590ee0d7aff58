import Derived.Test.YtejiankgafjppabGreatDoorC38
import Derived.Test.YtejiankgafjppabGreatDoorC23
import Derived.Test.YtejiankgafjppabGreatDoorC20
import Derived.Test.YtejiankgafjppabGreatDoorC22
import Derived.Test.YtejiankgafjppabGreatDoorC21
import Derived.Test.YtejiankgafjppabGreatDoorC19
import Derived.RangeFuncNested
import Derived.RangeFuncBox
import Derived.RangeFuncBound
import Derived.RangeFuncCalls
import Derived.RangeFuncLeaves
import Derived.Shelf.Abstract
import Derived.Shelf.AbstractIn
import Derived.Shelf.RegionOpen
import Derived.WalkKit
import Derived.OwnWalkIn
import Derived.TacticsInMore
import Derived.LoopNIn
import Derived.LoopIn
import Derived.Maps.AppendAt
import Derived.RangeFuncKeeps
import Derived.Sort.MapsRangeIn
import Derived.RangeFuncSeq
import Derived.Test.YtejiankgafjppabGreatDoorC26
import Derived.Test.YtejiankgafjppabGreatDoorC37
/- RECOVERY: readOn, read, of a log of one segment. -/
namespace Go.Proofs.YtejiankgafjppabGreatDoor
open Go.RowKit Go.Maps
open Sc

/-- a log that was read -/
def logR (rs : List Rec) (nx : Nat) : ALog := ⟨[1], (encR rs).length, rs, nx, 0, 0⟩
theorem recsV_one (rs : List Rec) : ∀ u ∈ recsV rs, u.oneCell' = true := by
  intro u hu
  obtain ⟨r, _, hr⟩ := List.mem_flatMap.1 hu
  simp [recCells] at hr
  rcases hr with rfl | rfl | rfl <;> rfl
set_option maxRecDepth 100000 in
set_option maxHeartbeats 4000000 in
theorem readOn_one (B lp p bD bN n nD nN : Nat) (pv : Value) (d : ADisk) (rs : List Rec) (w : World) (h : LogIn w B lp p bD bN pv (.slice none 0 0) (.slice none 0 0) (log0 1) d n nD nN) (hdn : d.down = false) (hrs : FineR rs) (hne : rs ≠ []) (hnow : d.now (segName 1) = some (str (encR rs))) (hpow : Pows w) (hlen : rs.length ≤ n) (hn1 : 1 ≤ n) (hby : (encR rs).length ≤ 4096) :
    Calls Tryz.prog 198 #[.pointer (some ⟨lp, 0, none⟩), .int .u64 1] w fun e w' => e = .returned (.tuple #[.bool true, .nilIface]) ∧ (∃ sv rv, LogIn w' B lp p bD bN pv sv rv (logR rs (1 + rs.length)) d n nD nN) ∧ OFr lp p w w' := by
  have hn := h.disk.hn
  have hBw := h.disk.base.2.2.2
  have c0 := blk_cell h.blk 0
  have c4 := blk_cell h.blk 4
  simp [log0] at c0 c4
  have hlpw : lp < w.heap.size := (Array.getElem?_eq_some_iff.1 h.blk).1
  have hS := readSeg B p bD bN n nD nN pv d rs w h.disk hdn hrs hne hnow hpow (by omega) hby
  have HI : Hid (LogIn w B lp p bD bN pv (.slice none 0 0) (.slice none 0 0) (log0 1) d n nD nN) := h
  obtain ⟨i0, hi, hz0, hz1, hz2⟩ := info_parts Tryz.infoU64
  obtain ⟨j0, hj, ha0, ha1, ha2⟩ := info_parts Tryz.infoRec
  have hrp : 0 < rs.length := List.length_pos_iff.2 hne
  clear h hrs hne hnow
  go_enter Tryz.func198, Tryz.ntmps198
  go_wp2_with fail
  refine hS.mono ?_
  clear hS
  rintro e w1 ⟨v, rfl, hrow, hb1⟩
  obtain ⟨g1, k1, rfl⟩ := own_pos hrow hrp
  have hf1 : Fr [] w w1 := Fr.of_below hb1 []
  have hl1 := HI.out.new hf1
  have ho1 := HI.out.newO hf1
  have H1 : Hid (LogIn w1 B lp p bD bN pv (.slice none 0 0) (.slice none 0 0) (log0 1) d n nD nN ∧ OFr lp p w w1 ∧ w1.ownsRow w.heap.size 288 3 (.slice (some ⟨g1, 0, none⟩) rs.length k1) rs.length (recsV rs)) := ⟨hl1, ho1, hrow⟩
  have d1 := blk_cell hl1.blk 1
  have d3 := blk_cell hl1.blk 3
  have d4 := blk_cell hl1.blk 4
  have d2 := blk_cell hl1.blk 2
  have e1 := blk_free hl1.blk 1
  have e3 := blk_free hl1.blk 3
  have e4 := blk_free hl1.blk 4
  have e2 := blk_free hl1.blk 2
  simp [log0] at d1 d2 d3 d4
  have hw1 := hb1.size
  have hg1 := hrow.lt g1 rfl
  have hrl : ¬ ((rs.length : Int) = 0) := by omega
  obtain ⟨m, hm0⟩ : ∃ m, m = rs.length := ⟨_, rfl⟩
  obtain ⟨eb, heb⟩ : ∃ eb, eb = (encR rs).length := ⟨_, rfl⟩
  have HME : Hid (m = rs.length ∧ eb = (encR rs).length) := ⟨hm0, heb⟩
  rw [← hm0] at H1 hrp hrl hlen ⊢
  rw [← heb] at hby ⊢
  clear hrow hb1 hf1 hl1 ho1 c0 c4 hm0 heb
  have lp1 : lp < w1.heap.size := by omega
  have lp2 : ¬ lp = w1.heap.size := by omega
  have lp3 : ¬ w1.heap.size = lp := by omega
  have HC : Hid (∀ (j : Nat) (u : Value), (recsV rs)[j]? = some u → w1.cell? ⟨g1, j, none⟩ = some u) := fun j u hj => by
    have := H1.out.2.2.cells (g := g1) rfl j u hj
    simpa [Addr.add_lit] using this
  have hglp : ¬ g1 = lp := by omega
  go_wp2_with (first
    | (at_builtin; refine wpList_append_own _ rfl _ _ 220 rfl w1.heap.size 28 i0 _ 1 8 Tryz.underlying220 hi hz0 hz1 hz2 rfl (by decide) _ 0 [] rfl (World.ownsRow_nil _ _ _ _) ⟨w1.heap.size, 0, none⟩ 1 1 [.int .u64 1] rfl rfl (cells_new _ #[.int .u64 1] _) (by intro u hu; simp at hu; subst hu; rfl) (by unfold maxLen; omega) (by omega) (by simp) ?_; intro v2 w2 hown2 hgrow2 _; obtain ⟨gs, cs, rfl⟩ := own_pos hown2 (by omega); have hb2 : Below w1.heap.size w1 w2 := ((Below.refl _ w1).alloc (Nat.le_refl _) _).grown hgrow2 (by simp) (fun j hj => by cases hj); have hl2 := H1.out.1.new (Fr.of_below hb2 []); have q1 := blk_cell hl2.blk 1; have q2 := blk_cell hl2.blk 2; have q3 := blk_cell hl2.blk 3; have q4 := blk_cell hl2.blk 4; have p1 := blk_free hl2.blk 1; have p2 := blk_free hl2.blk 2; have p3 := blk_free hl2.blk 3; have p4 := blk_free hl2.blk 4; simp [log0] at q1 q2 q3 q4; have H2 : Hid (LogIn w2 B lp p bD bN pv (.slice none 0 0) (.slice none 0 0) (log0 1) d n nD nN ∧ Below w1.heap.size w1 w2 ∧ w2.ownsRow w1.heap.size 28 1 (.slice (some ⟨gs, 0, none⟩) (0 + 1) cs) (0 + 1) ([] ++ [.int .u64 1])) := ⟨hl2, hb2, hown2⟩; have hw2 := hb2.size; clear d1 d2 d3 d4 e1 e2 e3 e4 hown2 hgrow2 hb2 hl2)
    | (at_builtin; refine wpList_append_own _ rfl _ _ 227 rfl (w2.heap.size) 288 j0 _ 3 32 Tryz.underlying227 hj ha0 ha1 ha2 rfl (by decide) _ 0 [] rfl (World.ownsRow_nil _ _ _ _) ⟨g1, 0, none⟩ m k1 (recsV rs) rfl (by rw [recsV_len, HME.out.1]) (fun j u hj => by rw [show ((⟨g1, 0, none⟩ : Addr).add j) = ⟨g1, j, none⟩ from by simp [Addr.add]; exact fun h => h.symm]; exact (World.cell?_of_block (a := ⟨g1, j, none⟩) ((Below.heap_setCell _ _ _ g1 (fun e => hglp (by simpa using e))).trans (H2.out.2.1.block g1 hg1.2))).trans (HC.out j u hj)) (recsV_one rs) (by unfold maxLen; omega) (by omega) (by simp) ?_; intro v3 w3 hown3 hgrow3 _; obtain ⟨gr, cr, rfl⟩ := own_pos hown3 (by omega); obtain ⟨hl3, ho3, _⟩ := H1.out.1.segsNew (v := .slice (some ⟨gs, 0, none⟩) (0 + 1) cs) (ss := [1]) H2.out.2.1 H2.out.2.2 ⟨by simpa using hn1, by simp⟩; have hb3 : Below (w2.setCell ⟨lp, 1, none⟩ (.slice (some ⟨gs, 0, none⟩) (0 + 1) cs)).heap.size (w2.setCell ⟨lp, 1, none⟩ (.slice (some ⟨gs, 0, none⟩) (0 + 1) cs)) w3 := (Below.refl _ _).grown hgrow3 (Nat.le_refl _) (fun j hj => by cases hj); obtain ⟨hl5, ho5, _⟩ := hl3.recsNew (v := .slice (some ⟨gr, 0, none⟩) (0 + m) cr) (rs := rs) hb3 (by rw [← HME.out.1]; simpa using hown3) (by rw [← HME.out.1]; exact hlen); have hbk := (hb3.block lp (Array.getElem?_eq_some_iff.1 hl3.blk).1).trans hl3.blk; have t3 := blk_cell hbk 3; have u3 := blk_free hbk 3; have t4 := blk_cell hbk 4; have u4 := blk_free hbk 4; have t2 := blk_cell hbk 2; have u2 := blk_free hbk 2; simp [log0] at t2 t3 t4; obtain ⟨W5, hW5⟩ : ∃ W5, W5 = w3.setCell ⟨lp, 3, none⟩ (.slice (some ⟨gr, 0, none⟩) (0 + m) cr) := ⟨_, rfl⟩; rw [← hW5] at hl5 ho5; have H5 : Hid (LogIn W5 B lp p bD bN pv (.slice (some ⟨gs, 0, none⟩) (0 + 1) cs) (.slice (some ⟨gr, 0, none⟩) (0 + m) cr) ⟨[1], 600, rs, 1, 0, 0⟩ d n nD nN ∧ OFr lp p w W5 ∧ W5 = w3.setCell ⟨lp, 3, none⟩ (.slice (some ⟨gr, 0, none⟩) (0 + m) cr)) := ⟨hl5, (H1.out.2.1.trans ho3).trans ho5, hW5⟩; clear hl3 ho3 hb3 hl5 ho5 hbk hown3 hgrow3 hW5 q1 q2 q3 q4 p1 p2 p3 p4))
  go_ret2
  have hW5 := H5.out.2.2
  simp only [Nat.zero_add] at hW5
  rw [← hW5]
  obtain ⟨W6, hW6⟩ : ∃ W6, W6 = (W5.setCell ⟨lp, 4, none⟩ (.int .u64 (1 + (m : Int)))).setCell ⟨lp, 2, none⟩ (.int .i64 (eb : Int)) := ⟨_, rfl⟩
  rw [← hW6]
  have hf6 : Fr [lp] W5 W6 := by rw [hW6]; exact (Fr.set1 (by simp) _ _).trans (Fr.set1 (by simp) _ _)
  have hb6 : W6.heap[lp]? = some (logO p (.slice (some ⟨gs, 0, none⟩) (0 + 1) cs) (.slice (some ⟨gr, 0, none⟩) (0 + m) cr) (logR rs (1 + rs.length))) := by
    have := blk_set (blk_set H5.out.1.blk 4 (.int .u64 (1 + (m : Int)))) 2 (.int .i64 (eb : Int))
    rw [hW6]
    simp [logR, ← HME.out.1, ← HME.out.2] at this ⊢
    exact this
  have hl6 := H5.out.1.own1 hf6 hb6 H5.out.1.segsN H5.out.1.recsN (by show (encR rs).length ≤ 4096; rw [← HME.out.2]; exact hby) (by show 1 + rs.length ≤ n + 1; rw [← HME.out.1]; omega) (by show 0 < 18446744073709551616; omega) rfl rfl
  exact ⟨rfl, ⟨_, _, hl6⟩, H5.out.2.1.trans (H5.out.1.ofr hl6 hf6 (fun k hk _ => by simp at hk; simp [hk]) (.inl rfl) (Near.refl _ _) (Near.refl _ _) (Near.refl _ _))⟩
end Go.Proofs.YtejiankgafjppabGreatDoor
/- order.ByKeys at map[uint64]shard.transaction. (Written by mkbyu.py.) -/
namespace Go.Proofs.YtejiankgafjppabGreatDoor
open Go.RowKit Go.Maps Go.Shelf
open Sc

abbrev elT (g : ATxn) : List Value := [.int .i64 (g.state : Int), .int .i64 (g.done : Int), .int .u64 (g.last : Int)]
def elsT (l : List ATxn) : List Value := l.flatMap elT
theorem Tryz.lenUT (p : Option Addr) (n c : Nat) (w : World) : (Builtin.len_ #[220] 3 #[.slice p n c]).run Tryz.prog w = .ok (.int .i64 n) w := by simp [Builtin.len_, run_underlying Tryz.underlying220, goInt]
/-- what a map holds, by these keys -/
def atT (L : List (Nat × ATxn)) (ss : List Nat) : List (Nat × ATxn) := ss.map fun k => (k, (alLook L k).getD ⟨0, 0, 0⟩)
end Go.Proofs.YtejiankgafjppabGreatDoor
/- RECOVERY: (*Log).read, journal.Open, of a log of one segment. -/
namespace Go.Proofs.YtejiankgafjppabGreatDoor
open Go.RowKit Go.Maps
open Sc

/-- a disk with the segment of record 1 alone -/
def SoleD (d : ADisk) (t : ByteArray) : Prop := ∀ k, d.now k = if k = segName 1 then some t else none
theorem SoleD.names {d : ADisk} {t : ByteArray} (h : SoleD d t) {ns : List ByteArray} (hn : NamesOk d.now ns) : ns = [segName 1] := by
  have hm : ∀ k, k ∈ ns ↔ k = segName 1 := fun k => by
    rw [hn.2, h k]
    by_cases e : k = segName 1
    · rw [if_pos e]; simp [e]
    · rw [if_neg e]; simp [e]
  match ns, hn.1, hm with
  | [], _, hm => exact absurd ((hm (segName 1)).2 rfl) (by simp)
  | [a], _, hm => rw [(hm a).1 (by simp)]
  | a :: b :: r, hd, hm =>
    have h1 := (hm a).1 (by simp)
    have h2 := (hm b).1 (by simp)
    rw [h1, h2] at hd
    simp at hd
theorem SoleD.mark {d : ADisk} {t : ByteArray} (h : SoleD d t) : d.now markNm = none := by rw [h, if_neg (fun e => (segName_mark 1).1 e.symm)]
set_option maxRecDepth 100000 in
set_option maxHeartbeats 1000000 in
theorem namesOf_zero (g cap : Nat) (w : World) : Calls Tryz.prog 188 #[.slice (some ⟨g, 0, none⟩) 0 cap] w fun e w' => e = .returned (.slice none 0 0) ∧ w' = w := by
  go_enter Tryz.func188, Tryz.ntmps188
  go_wp2
  refine wp_loop_rounds 1 ?_
  rw [rounds_succ]
  go_wp2
  go_ret
  exact ⟨rfl, rfl⟩
set_option maxRecDepth 100000 in
set_option maxHeartbeats 4000000 in
theorem read_one (B lp p bD bN n nD nN : Nat) (pv : Value) (d : ADisk) (rs : List Rec) (w : World) (h : LogIn w B lp p bD bN pv (.slice none 0 0) (.slice none 0 0) (log0 0) d n nD nN) (hB : 2 ≤ B) (hdn : d.down = false) (hrs : FineR rs) (hne : rs ≠ []) (hnow : SoleD d (str (encR rs))) (hpow : Pows w) (hlen : rs.length ≤ n) (hn1 : 1 ≤ n) (hby : (encR rs).length ≤ 4096) :
    Calls Tryz.prog 141 #[.pointer (some ⟨lp, 0, none⟩)] w fun e w' => e = .returned (.tuple #[.slice none 0 0, .nilIface]) ∧ (∃ sv rv, LogIn w' B lp p bD bN pv sv rv (logR rs (1 + rs.length)) d n nD nN) ∧ OFr lp p w w' := by
  have c0 := blk_cell h.blk 0
  simp at c0
  have HI : Hid (LogIn w B lp p bD bN pv (.slice none 0 0) (.slice none 0 0) (log0 0) d n nD nN) := h
  have HP : Hid (Pows w) := hpow
  have HX : Hid (FineR rs ∧ rs ≠ [] ∧ SoleD d (str (encR rs))) := ⟨hrs, hne, hnow⟩
  clear h hpow hrs hne hnow
  have hm := Tryz.mNames
  have hlenU := Tryz.lenUT
  go_enter Tryz.func141, Tryz.ntmps141
  go_wp2_with fail
  refine (names_any B p bD bN n nD nN pv d w HI.out.disk hdn).mono ?_
  rintro e w1 ⟨v1, ns, rfl, hns, hrow1, hb1⟩
  have ens := HX.out.2.2.names hns
  subst ens
  obtain ⟨g1, k1, rfl⟩ := own_pos hrow1 (by simp)
  have hf1 : Fr [] w w1 := Fr.of_below hb1 _
  have hl1 := HI.out.new hf1
  have ho1 := HI.out.newO hf1
  have k0 := blk_cell hl1.blk 0
  simp at k0
  have hsn1 : SegNames w1 g1 [1] := fun k u hk => by
    match k, hk with
    | 0, hk =>
      simp at hk
      subst hk
      have := hrow1.cells (g := g1) rfl 0 (.string (segName 1)) (by simp)
      simpa [Addr.add_lit] using this
  have hg1 := (hrow1.lt g1 rfl).2
  have H1 : Hid (LogIn w1 B lp p bD bN pv (.slice none 0 0) (.slice none 0 0) (log0 0) d n nD nN ∧ OFr lp p w w1 ∧ SegNames w1 g1 [1]) := ⟨hl1, ho1, hsn1⟩
  clear hl1 ho1 hf1 hb1 c0 hsn1 hrow1 hns
  go_wp2_with fail
  refine (readMark_none B p bD bN n nD nN pv d w1 H1.out.1.disk hdn HX.out.2.2.mark).mono ?_
  rintro e w2 ⟨rfl, hb2⟩
  have hf2 : Fr [] w1 w2 := Fr.of_below hb2 _
  have hl2 := H1.out.1.new hf2
  have ho2 := H1.out.2.1.trans (H1.out.1.newO hf2)
  have m4 := blk_cell hl2.blk 4
  have f4 := blk_free hl2.blk 4
  simp at m4
  have hg2 : g1 < w2.heap.size := Nat.lt_of_lt_of_le hg1 hb2.size
  have hsn2 : SegNames w2 g1 [1] := fun k u hk => (hb2.cell (p := ⟨g1, k, none⟩) hg1).trans (H1.out.2.2 k u hk)
  have H2 : Hid (LogIn w2 B lp p bD bN pv (.slice none 0 0) (.slice none 0 0) (log0 0) d n nD nN ∧ OFr lp p w w2 ∧ SegNames w2 g1 [1]) := ⟨hl2, ho2, hsn2⟩
  have hglp : g1 ≠ lp := fun e => by
    have hx := H2.out.2.2 0 1 rfl
    have hy := blk_cell hl2.blk 0
    rw [e] at hx
    rw [hx] at hy
    simp at hy
  clear hl2 ho2 hf2 hb2 k0 hsn2
  obtain ⟨W, hW⟩ : ∃ W, W = w2.setCell ⟨lp, 4, none⟩ (.int .u64 1) := ⟨_, rfl⟩
  have hf3 : Fr [lp] w2 W := by rw [hW]; exact Fr.set1 (by simp) _ _
  have hb3 : W.heap[lp]? = some (logO p (.slice none 0 0) (.slice none 0 0) (log0 1)) := by rw [hW]; have := blk_set H2.out.1.blk 4 (.int .u64 1); simp [log0] at this ⊢; exact this
  have hl3 : LogIn W B lp p bD bN pv (.slice none 0 0) (.slice none 0 0) (log0 1) d n nD nN := H2.out.1.own1 hf3 hb3 H2.out.1.segsN H2.out.1.recsN H2.out.1.fillN (by show 1 ≤ n + 1; omega) H2.out.1.durN rfl rfl
  have ho3 : OFr lp p w W := H2.out.2.1.trans (H2.out.1.ofr hl3 hf3 (fun k hk _ => by simp at hk; simp [hk]) (.inl rfl) (Near.refl _ _) (Near.refl _ _) (Near.refl _ _))
  have hsn3 : SegNames W g1 [1] := fun k u hk => (World.cell?_of_block (a := ⟨g1, k, none⟩) (hf3.block g1 hg2 (by simpa using hglp))).trans (H2.out.2.2 k u hk)
  have hg3 : g1 < W.heap.size := Nat.lt_of_lt_of_le hg2 hf3.size
  have hpow3 : Pows W := ho3.pows HI.out hB HP.out
  have H3 : Hid (LogIn W B lp p bD bN pv (.slice none 0 0) (.slice none 0 0) (log0 1) d n nD nN ∧ OFr lp p w W ∧ Pows W) := ⟨hl3, ho3, hpow3⟩
  have hBW := hl3.disk.base.2.2.2
  have has := among_seg g1 k1 [1] W hg3 hsn3 (by intro u hu; simp at hu; subst hu; exact ⟨by omega, by rw [Lib.decDigits_one (by omega)]; rfl⟩) (by simp) (by simp) hpow3 (by omega)
  have m4' := blk_cell hl3.blk 4
  simp [log0] at m4'
  clear hl3 ho3 hf3 hb3 hsn3 hpow3
  subst hW
  go_wp2_with fail
  refine has.mono ?_
  clear has
  rintro e w4 ⟨g4, c4, l4, rfl, hpm, _, hrow4, hb4⟩
  have el4 : l4 = [1] := List.perm_singleton.1 hpm
  subst el4
  have hf4 : Fr [] _ w4 := Fr.of_below hb4 _
  have hl4 := H3.out.1.new hf4
  have ho4 := H3.out.2.1.trans (H3.out.1.newO hf4)
  have hpow4 : Pows w4 := ho4.pows HI.out hB HP.out
  have s0 : w4.cell? ⟨g4, 0, none⟩ = some (.int .u64 1) := by
    have := hrow4.cells (g := g4) rfl 0 (.int .u64 1) (by simp [u64s])
    simpa [Addr.add_lit] using this
  have n4 := blk_cell hl4.blk 4
  simp [log0] at n4
  have H4 : Hid (LogIn w4 B lp p bD bN pv (.slice none 0 0) (.slice none 0 0) (log0 1) d n nD nN ∧ OFr lp p w w4 ∧ Pows w4) := ⟨hl4, ho4, hpow4⟩
  clear hl4 ho4 hf4 hb4 hrow4 hpow4 m4' hpm
  go_wp2_with fail
  refine (search_one g4 c4 w4 s0).mono ?_
  rintro e w5 ⟨rfl, rfl⟩
  go_wp2_with fail
  refine (namesOf_zero g4 c4 w5).mono ?_
  rintro e w6 ⟨rfl, rfl⟩
  go_wp2
  refine wp_loop_rounds 2 ?_
  rw [rounds_succ]
  go_wp2_with fail
  have hro := readOn_one B lp p bD bN n nD nN pv d rs w6 H4.out.1 hdn HX.out.1 HX.out.2.1 (by rw [HX.out.2.2]; exact if_pos rfl) H4.out.2.2 hlen hn1 hby
  refine hro.mono ?_
  clear hro
  rintro e w7 ⟨rfl, hl7, ho7⟩
  have H7 : Hid ((∃ sv rv, LogIn w7 B lp p bD bN pv sv rv (logR rs (1 + rs.length)) d n nD nN) ∧ OFr lp p w w7) := ⟨hl7, H4.out.2.1.trans ho7⟩
  clear hl7 ho7
  go_wp2
  rw [rounds_succ]
  go_wp2
  go_ret2
  exact ⟨rfl, H7.out.1, H7.out.2⟩
end Go.Proofs.YtejiankgafjppabGreatDoor
/- RECOVERY: journal.Open, of a log of one segment. -/
namespace Go.Proofs.YtejiankgafjppabGreatDoor
open Go.RowKit Go.Maps
open Sc

set_option maxRecDepth 100000 in
set_option maxHeartbeats 4000000 in
theorem jopen_one (B p bD bN n nD nN : Nat) (pv : Value) (d : ADisk) (rs : List Rec) (w : World) (h : DiskIn w B p bD bN pv d n nD nN) (hB : 2 ≤ B) (hdn : d.down = false) (hrs : FineR rs) (hne : rs ≠ []) (hnow : SoleD d (str (encR rs))) (hpow : Pows w) (hlen : rs.length ≤ n) (hn1 : 1 ≤ n) (hby : (encR rs).length ≤ 4096) (hr : ((logR rs (1 + rs.length)).opens d).2.2 = 0) :
    Calls Tryz.prog 82 #[dskV p] w (OpenPost B p bD bN n ((logR rs (1 + rs.length)).opens d) w) := by
  have hn := h.hn
  have hb0 := h.base
  obtain ⟨W, hW⟩ : ∃ W, W = (w.alloc (.cells #[dskV p] 153)).alloc (logO p (.slice none 0 0) (.slice none 0 0) (log0 0)) := ⟨_, rfl⟩
  have hf0 : Fr [] w W := by rw [hW]; exact ((Fr.refl [] w).alloc _).alloc _
  have hdb : W.heap[w.heap.size]? = some (.cells #[dskV p] 153) := by rw [hW, Below.heap_alloc _ _ w.heap.size (by simp)]; exact heap_alloc_new w _
  have hlb : W.heap[w.heap.size + 1]? = some (logO p (.slice none 0 0) (.slice none 0 0) (log0 0)) := by rw [hW]; have := heap_alloc_new (w.alloc (.cells #[dskV p] 153)) (logO p (.slice none 0 0) (.slice none 0 0) (log0 0)); rw [World.size_alloc] at this; exact this
  have hl0 : LogIn W B (w.heap.size + 1) p bD bN pv (.slice none 0 0) (.slice none 0 0) (log0 0) d n nD nN := { disk := h.new hf0, blk := hlb, base := by omega, segs := World.ownsRow_nil _ _ _ _, recs := World.ownsRow_nil _ _ _ _, segsN := ⟨by simp [log0], by simp [log0]⟩, recsN := by simp [log0], fillN := by simp [log0], nextN := by simp [log0], durN := by simp [log0] }
  have HW : Hid (DiskIn w B p bD bN pv d n nD nN ∧ Fr [] w W) := ⟨h, hf0⟩
  have H0 : Hid (LogIn W B (w.heap.size + 1) p bD bN pv (.slice none 0 0) (.slice none 0 0) (log0 0) d n nD nN) := hl0
  have HDB : Hid (W.heap[w.heap.size]? = some (.cells #[dskV p] 153)) := hdb
  have HX : Hid (FineR rs ∧ rs ≠ [] ∧ SoleD d (str (encR rs)) ∧ Pows W) := ⟨hrs, hne, hnow, hpow.of_block (hf0.block 1 (by omega) (by simp))⟩
  have hnil := Tryz.eqNil p
  clear h hf0 hdb hlb hl0 hrs hne hnow hpow
  go_enter Tryz.func82, Tryz.ntmps82
  go_wp2_with fail
  have hW2 : W = (w.alloc (.cells #[dskV p] 153)).alloc (.cells #[dskV p, .slice none 0 0, .int .i64 600, .slice none 0 0, .int .u64 0, .int .u64 0, .nilIface] 229) := hW
  rw [← hW2]
  clear hW hW2
  refine (read_one B (w.heap.size + 1) p bD bN n nD nN pv d rs W H0.out hB hdn HX.out.1 HX.out.2.1 HX.out.2.2.1 HX.out.2.2.2 hlen hn1 hby).mono ?_
  rintro e w1 ⟨rfl, ⟨sv, rv, hl1⟩, ho1⟩
  have hdb1 := (ho1.block w.heap.size (Array.getElem?_eq_some_iff.1 HDB.out).1 (H0.out.free HDB.out (by decide) (by decide) (by decide) (by decide) (by decide))).trans HDB.out
  obtain ⟨W2, hW2⟩ : ∃ W2, W2 = (w1.alloc (.cells #[.slice none 0 0] 65)).alloc (.cells #[.func (.func 143) #[.pointer (some ⟨w.heap.size + 1, 0, none⟩)] #[], .func (.func 144) #[] #[.pointer (some ⟨w.heap.size, 0, none⟩), .pointer (some ⟨w1.heap.size, 0, none⟩)]] 96) := ⟨_, rfl⟩
  have hf2 : Fr [] w1 W2 := by rw [hW2]; exact ((Fr.refl [] w1).alloc _).alloc _
  have hu2 : W2.heap[w1.heap.size]? = some (.cells #[.slice none 0 0] 65) := by rw [hW2, Below.heap_alloc _ _ w1.heap.size (by simp)]; exact heap_alloc_new w1 _
  have hst2 : W2.heap[w1.heap.size + 1]? = some (.cells #[.func (.func 143) #[.pointer (some ⟨w.heap.size + 1, 0, none⟩)] #[], .func (.func 144) #[] #[.pointer (some ⟨w.heap.size, 0, none⟩), .pointer (some ⟨w1.heap.size, 0, none⟩)]] 96) := by
    rw [hW2]; have := heap_alloc_new (w1.alloc (.cells #[.slice none 0 0] 65)) (.cells #[.func (.func 143) #[.pointer (some ⟨w.heap.size + 1, 0, none⟩)] #[], .func (.func 144) #[] #[.pointer (some ⟨w.heap.size, 0, none⟩), .pointer (some ⟨w1.heap.size, 0, none⟩)]] 96); rw [World.size_alloc] at this; exact this
  have hdb2 : W2.heap[w.heap.size]? = some (.cells #[dskV p] 153) := (hf2.block w.heap.size (Array.getElem?_eq_some_iff.1 hdb1).1 (by simp)).trans hdb1
  have HC : Hid (Calls Tryz.prog 142 #[.slice (some ⟨w1.heap.size + 1, 0, none⟩) 2 2] W2 (PutL B (w.heap.size + 1) p bD bN n [] ((logR rs (1 + rs.length)).opens d) W2)) := inTurnO B (w.heap.size + 1) p bD bN n nD nN (w1.heap.size + 1) w.heap.size w1.heap.size pv sv rv (logR rs (1 + rs.length)) d W2 (hl1.new hf2) hn hst2 hdb2 hu2
  have HO : Hid (OFr (w.heap.size + 1) p W W2) := ho1.trans (hl1.newO hf2)
  clear hl1 ho1 hdb1 hf2 hu2 hst2 hdb2
  go_wp2_with fail
  rw [← hW2]
  clear hW2
  refine HC.out.mono ?_
  rintro e w3 ⟨rfl, ⟨pv3, sv3, rv3, nD3, nN3, hl3⟩, ho3⟩
  have H3 : Hid (LogIn w3 B (w.heap.size + 1) p bD bN pv3 sv3 rv3 ((logR rs (1 + rs.length)).opens d).1 ((logR rs (1 + rs.length)).opens d).2.1 n nD3 nN3) := hl3
  have HD : Hid (DFr p w w3) := DFr.ofO HW.out.1 H0.out HW.out.2 (by omega) (HO.out.trans ho3.ofr) hl3
  clear hl3 ho3
  rw [hr, errN_ok]
  go_wp2
  go_ret2
  exact ⟨w.heap.size + 1, rfl, by omega, ⟨pv3, sv3, rv3, nD3, nN3, H3.out⟩, HD.out⟩
end Go.Proofs.YtejiankgafjppabGreatDoor
/- A LOG OF ONE SEGMENT, ALL OF IT DURABLE: what Keep leaves; the power fails; it is opened again. -/
namespace Go.Proofs.YtejiankgafjppabGreatDoor
open Go.RowKit Go.Maps
open Sc

theorem writesE {d : ADisk} {c : Nat} (h : d.Well c) (hc : c < 1099511627776) : d.writes = ({ d with left := d.left - 1, full := d.full - 1 }, 0) := by
  have h1 := h.left
  have h2 := h.full
  have e := wr_ok (d := d) (by rw [h.up]; simp; omega) (by omega)
  have e1 : wrap64 (d.left - 1) = d.left - 1 := by unfold wrap64; omega
  have e2 : wrap64 (d.full - 1) = d.full - 1 := by unfold wrap64; omega
  rw [e1, e2] at e
  exact e
theorem syncE {d : ADisk} {c : Nat} (h : d.Well c) (hc : c < 1099511627776) : d.sync = ({ d with left := d.left - 1, full := d.full - 1, durable := d.pending.foldl doOp d.durable, pending := [] }, 0) := by
  unfold ADisk.sync
  simp only [writesE h hc, if_true]
theorem tellE {d : ADisk} {c : Nat} {o : AOp} (h : d.Well c) (hc : c < 1099511627776) (h1 : o.kind = 2) : d.tell o = ({ d with left := d.left - 1, full := d.full - 1, now := doOp d.now o, pending := d.pending ++ [o] }, 0) := by
  unfold ADisk.tell
  simp only [writesE h hc]
  rw [if_neg (by omega), if_neg (by omega), if_neg (by omega), if_neg (by omega)]
theorem str_app (a b : List Nat) : str (a ++ b) = str a ++ str b := by
  apply ByteArray.ext
  rw [ByteArray.data_append, str_data0, str_data0, str_data0]
  simp
theorem doOp_app (m : Files) (nm t : ByteArray) : doOp m ⟨2, nm, ByteArray.empty, t⟩ = m.set nm (some ((m nm).getD ByteArray.empty ++ t)) := rfl
/-- a log whose records fill one segment at most, all durable, between calls -/
structure One (l : ALog) (d : ADisk) (rs : List Rec) : Prop where
  next : l.next = 1 + rs.length
  recs : l.recs = rs
  failed : l.failed = 0
  file : (rs = [] ∧ l.segs = [] ∧ l.filled = 600 ∧ ∀ k, d.now k = none) ∨ (rs ≠ [] ∧ l.segs = [1] ∧ l.filled = (encR rs).length ∧ SoleD d (str (encR rs)))
  dur : d.durable = d.now
  pen : d.pending = []
  fine : FineR rs
  few : (encR rs).length < 600
  durN : l.durable = l.next
  well : d.Well 0
theorem One.sg {l : ALog} {d : ADisk} {rs : List Rec} (h : One l d rs) : l.filled < 600 → l.segs ≠ [] := by
  intro hf
  rcases h.file with ⟨_, _, e, _⟩ | ⟨_, e, _⟩
  · omega
  · rw [e]; simp
theorem One.knob {l : ALog} {d : ADisk} {rs : List Rec} (h : One l d rs) : One l (d.knob (-1) (-1)) rs := { h with well := ⟨h.well.up, by simp [ADisk.knob], by simp [ADisk.knob]⟩ }
theorem well_dec {d : ADisk} {c : Nat} (h : d.Well c) (f g : Files) (p : List AOp) : ADisk.Well ⟨f, g, p, d.left - 1, d.full - 1, d.down⟩ (c + 1) := ⟨h.up, by have := h.left; simp; omega, by have := h.full; simp; omega⟩
theorem sole_set {m : Files} {t : ByteArray} (h : ∀ k, k ≠ segName 1 → m k = none) : ∀ k, m.set (segName 1) (some t) k = if k = segName 1 then some t else none := by
  intro k
  unfold Files.set
  by_cases e : k = segName 1
  · simp [e]
  · simp [e, h k e]
/-- what Keep leaves, between calls -/
theorem One.keep {l : ALog} {d : ADisk} {rs : List Rec} (h : One l d rs) {kind : Nat} {s : ByteArray} (hs : s.size ≤ 255) (hf : FineR (rs ++ [⟨1 + rs.length, kind, bytesOf s⟩])) (h6 : (encR (rs ++ [⟨1 + rs.length, kind, bytesOf s⟩])).length < 600) :
    (l.keep d kind s).2.2 = 0 ∧ (l.keep d kind s).2.1.down = false ∧ One (l.keep d kind s).1 ((l.keep d kind s).2.1.knob (-1) (-1)) (rs ++ [⟨1 + rs.length, kind, bytesOf s⟩]) := by
  have hnx := h.next
  have hw := h.well
  obtain ⟨o, ho⟩ : ∃ o : AOp, o = ⟨2, segName 1, ByteArray.empty, str (recBytes l.next kind (bytesOf s))⟩ := ⟨_, rfl⟩
  -- what the room gives
  obtain ⟨d1, hd1, w1, e1, p1⟩ : ∃ d1 : ADisk, l.room d = ({ l with segs := [1], filled := (encR rs).length, durable := l.durable }, d1, 0) ∧ d1.Well 1 ∧ d1.now = d.now ∧ d1.pending = [] ∧ d1.durable = d.durable := by
    rcases h.file with ⟨r0, sg, fi, _⟩ | ⟨_, sg, fi, _⟩
    · refine ⟨{ d with left := d.left - 1, full := d.full - 1 }, ?_, well_dec hw _ _ _, rfl, h.pen, rfl⟩
      unfold ALog.room
      have es : l.sync d = ({ l with durable := l.next }, { d with left := d.left - 1, full := d.full - 1, durable := d.pending.foldl doOp d.durable, pending := [] }, 0) := by
        unfold ALog.sync; rw [syncE hw (by omega)]; rfl
      rw [if_neg (by omega), es]
      simp only [if_true]
      rw [h.pen, sg, hnx, h.durN, hnx, r0]
      have : d.pending = [] := h.pen
      obtain ⟨a, b, c, e, f, g⟩ := d
      simp at this
      subst this
      rfl
    · refine ⟨d, ?_, hw.mono (by omega), rfl, h.pen, rfl⟩
      unfold ALog.room
      rw [if_pos (by rw [fi]; exact h.few)]
      obtain ⟨a, b, c, e, f, g⟩ := l
      simp at sg fi
      subst sg fi
      rfl
  obtain ⟨d2, hd2⟩ : ∃ d2 : ADisk, d2 = { d1 with left := d1.left - 1, full := d1.full - 1, now := doOp d1.now o, pending := d1.pending ++ [o] } := ⟨_, rfl⟩
  have w2 : d2.Well 2 := by rw [hd2]; exact well_dec w1 _ _ _
  have hput : l.put d (recBytes l.next kind (bytesOf s)) = ({ l with segs := [1], filled := (encR rs).length, durable := l.durable }, d2, 0) := by
    unfold ALog.put
    rw [hd1]
    simp only [if_true, List.getLastD_cons, List.getLastD_nil]
    rw [tellE w1 (by omega) rfl]
    rw [hd2, ho]
  have hwr : l.wr d (l.put d (recBytes l.next kind (bytesOf s))) = ({ l with segs := [1], filled := (encR rs).length, durable := l.durable, failed := 0 }, d2, 0) := by
    unfold ALog.wr
    rw [if_pos h.failed, hput]
  have hap : l.note d kind s = ({ l with segs := [1], filled := (encR rs).length + (15 + s.size), durable := l.durable, failed := 0, recs := rs ++ [⟨1 + rs.length, kind, bytesOf s⟩], next := l.next + 1 }, d2, 0) := by
    unfold ALog.note ALog.append
    rw [if_neg (by omega), hwr]
    simp only [if_true, h.recs, hnx]
  obtain ⟨d3, hd3⟩ : ∃ d3 : ADisk, d3 = { d2 with left := d2.left - 1, full := d2.full - 1, durable := d2.pending.foldl doOp d2.durable, pending := [] } := ⟨_, rfl⟩
  have w3 : d3.Well 3 := by rw [hd3]; exact well_dec w2 _ _ _
  have hkp : l.keep d kind s = ({ l with segs := [1], filled := (encR rs).length + (15 + s.size), durable := l.next + 1, failed := 0, recs := rs ++ [⟨1 + rs.length, kind, bytesOf s⟩], next := l.next + 1 }, d3, 0) := by
    unfold ALog.keep
    rw [hap]
    simp only [if_true]
    unfold ALog.force
    rw [if_neg (by simp; have := h.durN; omega)]
    unfold ALog.wr ALog.sync
    simp only [if_true]
    rw [syncE w2 (by omega)]
    simp only [if_true]
    rw [← hd3]
  have hno3 : d3.now = doOp d.now o := by rw [hd3, hd2]; simp only; rw [e1]
  have hdu3 : d3.durable = doOp d.now o := by
    rw [hd3, hd2]
    simp only [p1.1, p1.2, List.nil_append, List.foldl_cons, List.foldl_nil, h.dur]
  have hre : str (encR (rs ++ [⟨1 + rs.length, kind, bytesOf s⟩])) = str (encR rs) ++ str (recBytes l.next kind (bytesOf s)) := by rw [encR_snoc, str_app, hnx]
  have hso : ∀ k, doOp d.now o k = if k = segName 1 then some (str (encR (rs ++ [⟨1 + rs.length, kind, bytesOf s⟩]))) else none := by
    rw [ho, doOp_app, hre]
    rcases h.file with ⟨r0, _, _, hn⟩ | ⟨_, _, _, hn⟩
    · have e0 : (d.now (segName 1)).getD ByteArray.empty = str (encR rs) := by rw [hn, r0]; rfl
      rw [e0]
      exact sole_set (fun k _ => hn k)
    · have e0 : (d.now (segName 1)).getD ByteArray.empty = str (encR rs) := by rw [hn, if_pos rfl]; rfl
      rw [e0]
      exact sole_set (fun k hk => by rw [hn, if_neg hk])
  rw [hkp]
  refine ⟨rfl, w3.up, { next := by simp [hnx]; omega, recs := rfl, failed := rfl, file := .inr ⟨by simp, rfl, ?_, fun k => ?_⟩, dur := ?_, pen := by show d3.pending = []; rw [hd3], fine := hf, few := h6, durN := rfl, well := ⟨w3.up, by simp [ADisk.knob], by simp [ADisk.knob]⟩ }⟩
  · simp only
    rw [encR_snoc, List.length_append, recBytes_len, bytesOf_len]
  · show d3.now k = _
    rw [hno3]
    exact hso k
  · show d3.durable = d3.now
    rw [hno3, hdu3]
/-- a disk that has such a log, nothing being open -/
structure OneD (d : ADisk) (rs : List Rec) : Prop where
  sole : SoleD d (str (encR rs))
  dur : d.durable = d.now
  pen : d.pending = []
  fine : FineR rs
  few : (encR rs).length < 600
  ne : rs ≠ []
  well : d.Well 0
theorem One.lost {l : ALog} {d : ADisk} {rs : List Rec} (h : One l d rs) (hne : rs ≠ []) : OneD (d.up.knob (-1) (-1)) rs where
  sole := fun k => by
    rcases h.file with ⟨e, _⟩ | ⟨_, _, _, hs⟩
    · exact absurd e hne
    · show d.durable k = _; rw [h.dur]; exact hs k
  dur := rfl
  pen := rfl
  fine := h.fine
  few := h.few
  ne := hne
  well := ⟨rfl, by simp [ADisk.knob], by simp [ADisk.knob]⟩
theorem opensE {d : ADisk} (l : ALog) (h : d.Well 0) : l.opens d = ({ l with durable := l.next }, { d with left := d.left - 1 - 1, full := d.full - 1 - 1, durable := d.pending.foldl doOp d.durable, pending := [] }, 0) := by
  have es : l.sync d = ({ l with durable := l.next }, { d with left := d.left - 1, full := d.full - 1, durable := d.pending.foldl doOp d.durable, pending := [] }, 0) := by
    unfold ALog.sync; rw [syncE h (by omega)]; rfl
  unfold ALog.opens
  rw [es]
  simp only [if_true]
  have w1 : ADisk.Well { d with left := d.left - 1, full := d.full - 1, durable := d.pending.foldl doOp d.durable, pending := [] } 1 := well_dec h _ _ _
  unfold ADisk.removeAll
  rw [syncE w1 (by omega)]
  rfl
theorem One.opened {d : ADisk} {rs : List Rec} (h : OneD d rs) : ((logR rs (1 + rs.length)).opens d).2.2 = 0 ∧ ((logR rs (1 + rs.length)).opens d).2.1.down = false ∧ ((logR rs (1 + rs.length)).opens d).1.recs = rs ∧ ((logR rs (1 + rs.length)).opens d).1.next = 1 + rs.length ∧ One ((logR rs (1 + rs.length)).opens d).1 (((logR rs (1 + rs.length)).opens d).2.1.knob (-1) (-1)) rs := by
  rw [opensE _ h.well]
  refine ⟨rfl, h.well.up, rfl, rfl, { next := rfl, recs := rfl, failed := rfl, file := .inr ⟨h.ne, rfl, rfl, h.sole⟩, dur := ?_, pen := rfl, fine := h.fine, few := h.few, durN := rfl, well := ⟨h.well.up, by simp [ADisk.knob], by simp [ADisk.knob]⟩ }⟩
  show d.pending.foldl doOp d.durable = d.now
  rw [h.pen, h.dur]; rfl
theorem One.first {d : ADisk} (hno : ∀ k, d.now k = none) (hdu : d.durable = d.now) (hpe : d.pending = []) (hw : d.Well 0) : ((log0 1).opens d).2.2 = 0 ∧ ((log0 1).opens d).2.1.down = false ∧ ((log0 1).opens d).1.recs = [] ∧ ((log0 1).opens d).1.next = 1 ∧ One ((log0 1).opens d).1 (((log0 1).opens d).2.1.knob (-1) (-1)) [] := by
  rw [opensE _ hw]
  refine ⟨rfl, hw.up, rfl, rfl, { next := rfl, recs := rfl, failed := rfl, file := .inl ⟨rfl, rfl, rfl, hno⟩, dur := ?_, pen := rfl, fine := fun k r hk => by simp at hk, few := by decide, durN := rfl, well := ⟨hw.up, by simp [ADisk.knob], by simp [ADisk.knob]⟩ }⟩
  show d.pending.foldl doOp d.durable = d.now
  rw [hpe, hdu]; rfl
/-- records that a ledger noted -/
def Noted (J : List Rec → AShard → Prop) (rs : List Rec) : Prop := (∀ r ∈ rs, r.kind < 128) ∧ rs.length ≤ 10 ∧ J [] sh0 ∧ ∀ pre x s', pre ++ [x] <+: rs → J pre s' → Entr (J (pre ++ [x])) s' x
end Go.Proofs.YtejiankgafjppabGreatDoor
