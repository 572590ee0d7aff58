import Derived.Test.YtejiankgafjppabGreatDoorC29
import Derived.Test.YtejiankgafjppabGreatDoorC30
import Derived.Test.YtejiankgafjppabGreatDoorC36
import Derived.Test.YtejiankgafjppabGreatDoorC27
import Derived.Test.YtejiankgafjppabGreatDoorC24
import Derived.Test.YtejiankgafjppabGreatDoorC23
import Derived.Test.YtejiankgafjppabGreatDoorC21
import Derived.Sort.OwnSorted
/- THE COORDINATOR: read. -/
namespace Go.Proofs.YtejiankgafjppabGreatDoor
open Go.RowKit Go.Shelf Go.Maps
open Sc

/-- a coordinator that is being opened -/
structure CoZ (w : World) (cp bT n : Nat) (c : ACo) : Prop where
  blk : w.heap[cp]? = some (coO 0 bT c (.slice none 0 0) (.slice none 0 0))
  txns : MapAs KU EX w bT n c.txns
  nums : c.next < 18446744073709551616 ∧ c.limit < 18446744073709551616 ∧ c.ticks < 18446744073709551616
section
variable {w w' : World} {B cp bT n : Nat} {c : ACo}
theorem CoZ.co (h : CoZ w cp bT n c) (hl : B ≤ cp ∧ B ≤ bT ∧ B ≤ w.heap.size) : CoIn w B cp 0 bT n c :=
  ⟨⟨_, _, 0, 0, [], [], h.blk, World.ownsRow_nil _ _ _ _, World.ownsRow_nil _ _ _ _, Nat.zero_le _, Nat.zero_le _⟩, h.txns, hl, h.nums⟩
theorem CoZ.keep (h : CoZ w cp bT n c) (hb : ∀ k ∈ [cp, bT], w'.heap[k]? = w.heap[k]?) : CoZ w' cp bT n c := by
  obtain ⟨es, ⟨es', c2, h1, h2⟩, r⟩ := h.txns
  exact ⟨(hb cp (by simp)).trans h.blk, ⟨es, ⟨es', c2, (hb bT (by simp)).trans h1, h2⟩, r⟩, h.nums⟩
theorem CoZ.lts (h : CoZ w cp bT n c) : cp < w.heap.size ∧ bT < w.heap.size ∧ cp ≠ bT := by
  refine ⟨(Array.getElem?_eq_some_iff.1 h.blk).1, h.txns.lt, fun e => ?_⟩
  obtain ⟨es, c2, e2⟩ := h.txns.isMap
  have := h.blk
  rw [e, e2] at this; cases this
theorem CoZ.fr {S : List Nat} (h : CoZ w cp bT n c) (hf : Fr S w w') (h1 : cp ∉ S) (h2 : bT ∉ S) : CoZ w' cp bT n c :=
  h.keep (fun k hk => by
    simp at hk
    rcases hk with rfl | rfl
    · exact hf.block _ h.lts.1 h1
    · exact hf.block _ h.lts.2.1 h2)
end
set_option maxRecDepth 100000 in
set_option maxHeartbeats 2000000 in
theorem readRes_any (n cp bT m fp M : Nat) (c : ACo) (w : World) (h : CoZ w cp bT m c) (hf : FldAt n w fp (be 8 M)) (hM : M < 18446744073709551616) (hle : c.limit ≤ M) (hlow : cp < n ∧ bT < n) :
    Calls Tryz.prog 206 #[.pointer (some ⟨cp, 0, none⟩), .pointer (some ⟨fp, 0, none⟩)] w fun e w' => e = .returned (.bool true) ∧ CoZ w' cp bT m { c with limit := M } ∧ Fr [fp, cp] w w' := by
  have hnum := num64_any n fp (be 8 M) w hf (Nat.le_of_eq (be_len 8 M).symm)
  have e1 : val ((be 8 M).take 8) = M := by rw [List.take_of_length_le (Nat.le_of_eq (be_len 8 M))]; exact val_be 8 M (by simpa using hM)
  have e2 : (be 8 M).drop 8 = [] := List.drop_of_length_le (Nat.le_of_eq (be_len 8 M))
  rw [e1, e2] at hnum
  have c3 := blk_cell h.blk 3
  simp at c3
  have hfl := hf.low
  have H0 := toHid h
  have i1 : (c.limit : Int) ≤ (M : Int) := by omega
  clear e1 e2 h hf
  go_enter Tryz.func206, Tryz.ntmps206
  go_wp2_with fail
  refine hnum.mono ?_
  clear hnum
  rintro e w1 ⟨rfl, hf1, hfr1⟩
  have hz1 := H0.out.fr hfr1 (by simp; omega) (by simp; omega)
  have d3 := blk_cell hz1.blk 3
  have g3 := blk_free hz1.blk 3
  simp at d3
  obtain ⟨W2, hW2⟩ : ∃ W2, W2 = w1.setCell ⟨cp, 3, none⟩ (.int .u64 (M : Int)) := ⟨_, rfl⟩
  have hf2 : Fr [cp] w1 W2 := by rw [hW2]; exact Fr.set1 (by simp) _ _
  have b2 : W2.heap[cp]? = some (coO 0 bT { c with limit := M } (.slice none 0 0) (.slice none 0 0)) := by
    rw [hW2]
    have := blk_set hz1.blk 3 (.int .u64 (M : Int))
    simpa using this
  have hz2 : CoZ W2 cp bT m { c with limit := M } := ⟨b2, hz1.txns.fr hf2 (by simpa using fun e => hz1.lts.2.2 e.symm), ⟨hz1.nums.1, hM, hz1.nums.2.2⟩⟩
  have hfa2 := hf1.fr hf2 (by simp; omega)
  have hri := right_any n fp [] W2 hfa2
  simp only [List.length_nil, Nat.lt_irrefl, decide_false, Bool.not_false] at hri
  have k3 := blk_cell b2 3
  simp at k3
  have H2 := toHid (show CoZ W2 cp bT m { c with limit := M } ∧ Fr [fp, cp] w W2 from ⟨hz2, (hfr1.mono (fun k _ hk => by simp at hk; simp [hk])).trans (hf2.mono (fun k _ hk => by simp at hk; simp [hk]))⟩)
  clear hz1 hf2 b2 hz2 hfa2 hf1 hfr1
  go_wp2_with fail
  rw [← hW2]
  clear hW2 d3 g3 c3
  refine hri.mono ?_
  clear hri
  rintro e w3 ⟨rfl, rfl⟩
  go_wp2
  go_ret
  exact ⟨rfl, H2.out⟩
def ints (l : List Nat) : List Value := l.map fun x : Nat => .int .i64 (x : Int)
theorem ints_snoc (l : List Nat) (x : Nat) : ints (l ++ [x]) = ints l ++ [.int .i64 (x : Int)] := by simp [ints]
theorem Tryz.infoIn : (Tryz.prog.info? 3).map (fun i => (i.zero, i.size, i.bytes)) = some (some (.int .i64 0), 1, 8) := by kernel_rfl
theorem ints_at {w : World} {B g cap n : Nat} {l : List Nat} (h : w.ownsRow B 3 1 (.slice (some ⟨g, 0, none⟩) n cap) n (ints l)) : IntsAt w g l := fun k x hk => by
  have h1 : (ints l)[k]? = some (.int .i64 (x : Int)) := by simp [ints, hk]
  have := h.cells (g := g) rfl k _ h1
  simpa [Addr.add_lit] using this
set_option maxRecDepth 100000 in
set_option maxHeartbeats 8000000 in
theorem readCom_any (n cp bT m fp t : Nat) (xs : List Nat) (c : ACo) (w : World) (h : CoZ w cp bT m c) (hf : FldAt n w fp (be 8 t ++ xs)) (ht : t < 18446744073709551616) (h0 : t ≠ 0) (hlt : t < c.limit) (hst : (c.tx t).state = 0) (hr : Rising xs) (hm : m + 1 < maxLen) (hlow : cp < n ∧ bT < n) :
    Calls Tryz.prog 207 #[.pointer (some ⟨cp, 0, none⟩), .pointer (some ⟨fp, 0, none⟩)] w fun e w' => e = .returned (.bool true) ∧ CoZ w' cp bT (m + 1) { c with txns := alPut c.txns t ⟨6, partsL xs 2, 0⟩ } ∧ Fr [fp, bT] w w' := by
  have hnum := num64_any n fp (be 8 t ++ xs) w hf (by simp [be_len])
  have e1 : val ((be 8 t ++ xs).take 8) = t := by rw [List.take_left' (by rw [be_len])]; exact val_be 8 t (by simpa using ht)
  have e2 : (be 8 t ++ xs).drop 8 = xs := List.drop_left' (by rw [be_len])
  rw [e1, e2] at hnum
  have hfl := hf.low
  have i0 : ¬ (t : Int) = 0 := by omega
  have j0 : ((t : Int) == 0) = false := beq_eq_false_iff_ne.2 i0
  have i1 : ¬ (c.limit : Int) ≤ (t : Int) := by omega
  obtain ⟨q0, q1, q2, q3, q4, q5, q6, q7, q8, hq⟩ := nine (partsL_len xs 2)
  have hlit : psV (partsL xs 2) = .agg #[.int .u8 (q0 : Int), .int .u8 (q1 : Int), .int .u8 (q2 : Int), .int .u8 (q3 : Int), .int .u8 (q4 : Int), .int .u8 (q5 : Int), .int .u8 (q6 : Int), .int .u8 (q7 : Int), .int .u8 (q8 : Int)] := by rw [hq]; rfl
  have HPUT := toHid (fun (W : World) (h2 : CoZ W cp bT m c) => (by
    obtain ⟨w5, hr5, hm5, hg5⟩ := h2.txns.putRun Tryz.underlying143 (by omega) (k := t) ht (v := (⟨6, partsL xs 2, 0⟩ : ATx)) (partsL_ok xs 6 2 0 (by decide))
    have hf5 := Fr.of_grown1 hg5
    refine ⟨w5, ?_, ⟨(hf5.block cp h2.lts.1 (by simpa using h2.lts.2.2)).trans h2.blk, hm5, h2.nums⟩, hf5⟩
    have e : (EX.ev ⟨6, partsL xs 2, 0⟩ : Value) = txV ⟨6, partsL xs 2, 0⟩ := rfl
    rw [e, hq, txV_lit] at hr5
    exact hr5 : ∃ w5, (Instr.mapUpdate 143 (.map (some bT)) (.int .u64 (t : Int)) (.agg #[.int .i64 6, .int .u8 (q0 : Int), .int .u8 (q1 : Int), .int .u8 (q2 : Int), .int .u8 (q3 : Int), .int .u8 (q4 : Int), .int .u8 (q5 : Int), .int .u8 (q6 : Int), .int .u8 (q7 : Int), .int .u8 (q8 : Int), .int .u64 0, .nilIface])).run Tryz.prog W = .ok () w5 ∧ CoZ w5 cp bT (m + 1) { c with txns := alPut c.txns t ⟨6, partsL xs 2, 0⟩ } ∧ Fr [bT] W w5))
  have HL := toHid hlit
  have H0 := toHid h
  have HR := toHid hr
  obtain ⟨ii, hi, hz0, hz1, hz2⟩ := info_parts Tryz.infoIn
  clear e1 e2 h hf hq hlit hr
  go_enter Tryz.func207, Tryz.ntmps207
  go_wp2_with fail
  refine hnum.mono ?_
  clear hnum
  rintro e w1 ⟨rfl, hf1, hfr1⟩
  have hzz := H0.out.fr hfr1 (by simp; omega) (by simp; omega)
  have hsa := status_any 0 cp 0 bT m t c w1 (hzz.co ⟨Nat.zero_le _, Nat.zero_le _, Nat.zero_le _⟩) ht
  rw [hst] at hsa
  have c3 := blk_cell hzz.blk 3
  simp at c3
  have H1 := toHid (show CoZ w1 cp bT m c ∧ FldAt n w1 fp xs ∧ Fr [fp] w w1 from ⟨hzz, hf1, hfr1⟩)
  have hlts := hzz.lts
  have hfpl := hf1.fld.lt
  clear hzz hf1 hfr1 hst
  go_wp2_with fail
  refine hsa.mono ?_
  clear hsa
  rintro e w2 ⟨rfl, hw2⟩
  subst hw2
  go_wp2
  have hdec : decide (c.limit ≤ t) = false := decide_eq_false (by omega)
  rw [hdec]
  go_loopw [6] (fun v6 wr => ∃ ys zs, Hid (xs = ys ++ zs ∧ FldAt n wr fp zs ∧ wr.ownsRow w2.heap.size 3 1 v6 ys.length (ints ys) ∧ Fr [fp] w2 wr)) (fun _ wr => fldLen wr fp)
  case atStart => exact ⟨[], xs, rfl, H1.out.2.1, World.ownsRow_nil _ _ _ _, Fr.refl _ _⟩
  case round =>
    obtain ⟨ys, zs, HX⟩ := hrel
    have hmo := more_any n fp zs wr HX.out.2.1
    have hyl : ys.length ≤ 8 := by have := HR.out.len; rw [HX.out.1, List.length_append] at this; omega
    cases zs with
    | nil =>
      have hri := right_any n fp [] wr HX.out.2.1
      simp only [List.length_nil, Nat.lt_irrefl, decide_false, Bool.not_false] at hmo hri
      have hxy : ys = xs := by rw [HX.out.1]; simp
      have hrow := HX.out.2.2.1
      rw [hxy] at hrow
      obtain ⟨g, cap, hv6⟩ := own_pos hrow (List.length_pos_iff.2 HR.out.ne)
      subst hv6
      have hia := ints_at hrow
      have hrise := rise_any g cap xs HR.out wr hia
      have hpo := partsOf_any g cap 2 xs HR.out wr.drew hia
      rw [HL.out] at hpo
      have hzr := H1.out.1.fr HX.out.2.2.2 (by simp; omega) (by simp; omega)
      have c1 := blk_cell hzr.blk 1
      simp at c1
      have H2 := toHid (show CoZ wr cp bT m c ∧ Fr [fp] w wr from ⟨hzr, H1.out.2.2.trans HX.out.2.2.2⟩)
      have hl2 := hzr.lts
      clear hrow hia hzr
      go_wp2_with fail
      refine hmo.mono ?_
      clear hmo
      rintro e w4 ⟨rfl, hw4⟩
      subst hw4
      go_wp2_with fail
      refine hri.mono ?_
      clear hri
      rintro e w5 ⟨rfl, hw5⟩
      subst hw5
      go_wp2_with fail
      refine hrise.mono ?_
      clear hrise
      rintro e w6 ⟨rfl, hw6⟩
      subst hw6
      go_wp2
      go_region_held3 (fun w' => w'.cell? ⟨cp, 1, none⟩ = some (.map (some bT)))
        (simp [*])
        (first | (go_at_call 92; refine hpo.mono ?_; rintro e w7 ⟨rfl, hf7⟩; have z1 := (World.cell?_of_block (a := ⟨cp, 1, none⟩) (hf7.block cp hl2.1 (by simp))).trans c1; have hz7 := (H2.out.1.fr (Fr.refl [] _).drew (by simp) (by simp)).fr hf7 (by simp) (by simp); obtain ⟨w8, hr8, hc8, hf8⟩ := HPUT.out w7 hz7; have y1 := (World.cell?_of_block (a := ⟨cp, 1, none⟩) (hf8.block cp hz7.lts.1 (by simpa using hl2.2.2))).trans z1; have H8 := toHid (And.intro hc8 (And.intro hf7 hf8)); clear hc8 hf7 hf8 hz7))
      go_wp2
      go_ret
      refine ⟨rfl, H8.out.1, ?_⟩
      have k1 : Fr [fp, bT] w w6 := H2.out.2.mono (fun k _ hk => by simp at hk; simp [hk])
      have k2 : Fr [fp, bT] w6 w7 := Fr.mono (⟨H8.out.2.1.os, H8.out.2.1.tape, H8.out.2.1.output, H8.out.2.1.size, H8.out.2.1.block⟩ : Fr [] w6 w7) (by simp)
      have k3 : Fr [fp, bT] w7 w8 := H8.out.2.2.mono (fun k _ hk => by simp at hk; simp [hk])
      exact (k1.trans k2).trans k3
    | cons x zs =>
      have hpos : decide (0 < (x :: zs).length) = true := by simp
      rw [hpos] at hmo
      have hx8 := HR.out.b x (by rw [HX.out.1]; simp)
      have hn8 := num8_any n fp (x :: zs) wr HX.out.2.1 (by simp)
      simp only [List.take_succ_cons, List.take_zero, List.drop_succ_cons, List.drop_zero] at hn8
      have ev : val [x] = x := by simp [val]
      rw [ev] at hn8
      have HLEN := toHid (show fldLen wr fp = (x :: zs).length from HX.out.2.1.fld.len)
      have jx : IntKind.i64.wrap (x : Int) = (x : Int) := by rw [IntKind.wrap_i64]; omega
      clear hpos ev
      go_wp2_with fail
      refine hmo.mono ?_
      clear hmo
      rintro e w4 ⟨rfl, hw4⟩
      subst hw4
      go_wp2_with fail
      refine hn8.mono ?_
      clear hn8
      rintro e w5 ⟨rfl, hf5, hfr5⟩
      have ho5 := ownsRow_fr HX.out.2.2.1 hfr5 (fun g hg => by have := (HX.out.2.2.1.lt g hg).1; simp; omega)
      have hsz := HX.out.2.2.2.size
      have hsz5 := hfr5.size
      have H5 := toHid (show FldAt n w5 fp zs ∧ Fr [fp] w2 w5 from ⟨hf5, HX.out.2.2.2.trans hfr5⟩)
      clear hf5 hfr5
      go_wp2_with (at_builtin; refine wpList_append_own _ rfl _ _ 44 rfl w2.heap.size 3 ii (.int .i64 0) 1 8 Tryz.underlying44 hi hz0 hz1 hz2 rfl (by decide) _ ys.length (ints ys) rfl (ho5.alloc _) ⟨w5.heap.size, 0, none⟩ 1 1 [.int .i64 (x : Int)] rfl rfl (cells_new _ #[.int .i64 (x : Int)] _) (by intro u hu; simp at hu; subst hu; rfl) (by unfold maxLen; omega) (by omega) (by simp; omega) ?_)
      intro v' w6 hown' hgrow _
      have fro := Fr.of_grown hgrow
      have hfa : Fr [] w5 (w5.alloc (.cells #[.int .i64 (x : Int)] 3)) := (Fr.refl [] w5).alloc _
      have hfld6 : FldAt n w6 fp zs := (H5.out.1.apart hfa (by simp)).apart fro (fun k hk => by
        simp at hk
        obtain ⟨cc, hc⟩ := own_cells (ho5.alloc _) hk
        refine ⟨fun e => ?_, fun c2 fr e => by rw [hc] at e; cases e⟩
        have := (ho5.lt k hk).1
        omega)
      have hfr6 : Fr [fp] w2 w6 := ((H5.out.2).andThen (hfa.mono (T := [fp]) (by simp)) (fun j hj _ => hj)).andThen fro (fun j hj hl => by
        simp at hj
        have := (ho5.lt j hj).1
        omega)
      have H6 := toHid (show xs = (ys ++ [x]) ++ zs ∧ FldAt n w6 fp zs ∧ w6.ownsRow w2.heap.size 3 1 v' (ys ++ [x]).length (ints (ys ++ [x])) ∧ Fr [fp] w2 w6 from ⟨by rw [HX.out.1]; simp, hfld6, by rw [ints_snoc, List.length_append]; exact hown', hfr6⟩)
      clear hown' hgrow fro hfa hfld6 hfr6 ho5
      go_wp2
      go_roundw
      case rel => exact ⟨ys ++ [x], zs, H6.out⟩
      case measure => rw [H6.out.2.1.fld.len, HLEN.out]; simp
end Go.Proofs.YtejiankgafjppabGreatDoor
/- SHARDS: Open. -/
namespace Go.Proofs.YtejiankgafjppabGreatDoor
open Go.RowKit Go.Maps
open Sc

/-- a shard that nothing was done with -/
abbrev sh0 : AShard := ⟨[], [], [], 0⟩
/-- what stands behind an opening of a shard -/
def ShPost (J : List Rec → AShard → Prop) (B p bD bN n : Nat) (R : ALog × ADisk × Nat) (w : World) (e : Ending) (w' : World) : Prop :=
  ∃ sp gp bV bT bH lp s', e = .returned (.tuple #[.pointer (some ⟨sp, 0, none⟩), .nilIface]) ∧ J R.1.recs s' ∧ SL w' B sp gp bV bT bH (20 * R.1.recs.length) lp p bD bN n s' R.1 R.2.1 ∧ (w.heap.size ≤ sp ∧ w.heap.size ≤ bV ∧ w.heap.size ≤ bT ∧ w.heap.size ≤ bH) ∧ SDFr p [] w w'
/-- what an opening needs -/
structure ShPre (J : List Rec → AShard → Prop) (B p bD bN n : Nat) (R : ALog × ADisk × Nat) (w : World) : Prop where
  disk : ∃ pv d nD nN, DiskIn w B p bD bN pv d n nD nN
  jop : ∀ W, Fr [] w W → Calls Tryz.prog 82 #[dskV p] W (OpenPost B p bD bN n R W)
  plain : PlainR R.1.recs
  first : firstN R.1.recs R.1.next = 1
  byt : ∀ r ∈ R.1.recs, Byt r.pay ∧ r.pay.length ≤ 4096
  none : J [] sh0
  ents : ∀ pre x s', pre ++ [x] <+: R.1.recs → J pre s' → Entr (J (pre ++ [x])) s' x
  few : 20 * R.1.recs.length + 32 < maxLen
  num : n ≤ 67108864
end Go.Proofs.YtejiankgafjppabGreatDoor
/- HOSTS OF A SHARD: before, after, close; Prepare, CommitHere, AbortHere. (Written by mkhos.py.) -/
namespace Go.Proofs.YtejiankgafjppabGreatDoor
open Go.RowKit Go.Maps
open Sc

abbrev hostS (p : Nat) (up : Bool) (lv : Value) : Obj := .cells #[.int .i64 2, .int .i64 0, .pointer (some ⟨p, 0, none⟩), .bool up, .pointer none, lv, .pointer none, .pointer none] 87
/-- what a caller's own memory needs -/
structure HFr (B : Nat) (w w' : World) : Prop where
  below : Below B w w'
  fall : ∀ (k : Nat) (a b c d : Int), w.heap[k]? = some (fallO a b c d) → w'.heap[k]? = some (fallO a b c d)
theorem HFr.trans {B : Nat} {a b c : World} (h : HFr B a b) (k : HFr B b c) : HFr B a c := ⟨h.below.trans k.below, fun i x y z u hi => k.fall i x y z u (h.fall i x y z u hi)⟩
theorem HFr.new {B : Nat} {w w' : World} (h : Fr [] w w') (hB : B ≤ w.heap.size) : HFr B w w' := ⟨h.below hB (by simp), fun k a b c d hk => (h.block k (Array.getElem?_eq_some_iff.1 hk).1 (by simp)).trans hk⟩
section
variable {w w' : World} {B sp gp bV bT bH m m' lp p bD bN n n' : Nat} {s s' : AShard} {l l' : ALog} {d d' : ADisk}
/-- cells of another kind stay -/
theorem SFr.cells (hf : SFr sp bV bT bH lp p w w') (h : SL w B sp gp bV bT bH m lp p bD bN n s l d) {k : Nat} {c : Array Value} {t : TypeId} (hk : w.heap[k]? = some (.cells c t (0, 0))) (h1 : t ≠ 100) (h2 : t ≠ 150) (h3 : t ≠ 229) (h4 : t ≠ 28) (h5 : t ≠ 288) (h6 : t ≠ 136) : w'.heap[k]? = some (.cells c t (0, 0)) := by
  obtain ⟨pv, sv, rv, nD, nN, hl⟩ := h.lg
  refine (hf.block k (Array.getElem?_eq_some_iff.1 hk).1 (hl.free hk h1 h2 h3 h4 h5) ?_).trans hk
  intro hm
  simp at hm
  rcases hm with e | e | e | e
  · rw [e, h.sh.blk] at hk; cases hk; exact h6 rfl
  · obtain ⟨es, c2, e2⟩ := h.sh.vals.isMap; rw [e, e2] at hk; cases hk
  · obtain ⟨es, c2, e2⟩ := h.sh.txns.isMap; rw [e, e2] at hk; cases hk
  · obtain ⟨es, c2, e2⟩ := h.sh.holds.isMap; rw [e, e2] at hk; cases hk
theorem SFr.hfr (hf : SFr sp bV bT bH lp p w w') (h : SL w B sp gp bV bT bH m lp p bD bN n s l d) (hb : B ≤ sp ∧ B ≤ bV ∧ B ≤ bT ∧ B ≤ bH) : HFr B w w' := by
  obtain ⟨pv, sv, rv, nD, nN, hl⟩ := h.lg
  refine ⟨⟨hf.os, hf.tape, hf.output, hf.size, fun k hk => hf.block k (Nat.lt_of_lt_of_le hk hl.disk.base.2.2.2) (fun ho => by have := hl.ge ho; omega) (by simp; omega)⟩, fun k a b c x hk => hf.cells h hk (by decide) (by decide) (by decide) (by decide) (by decide) (by decide)⟩
theorem SL.knob (h : SL w B sp gp bV bT bH m lp p bD bN n s l d) (a b : Int) (hf : Fr [p] w w') {pv : Value} (hb : w'.heap[p]? = some (dskO bD bN pv a b d.down)) (hb0 : w.heap[p]? = some (dskO bD bN pv d.left d.full d.down)) :
    SL w' B sp gp bV bT bH m lp p bD bN n s l (d.knob a b) ∧ SFr sp bV bT bH lp p w w' := by
  obtain ⟨pv', sv, rv, nD, nN, hl⟩ := h.lg
  have e : pv' = pv := by have := hl.disk.blk; rw [hb0] at this; cases this; rfl
  subst e
  obtain ⟨h1, h2⟩ := hl.knob a b hf hb
  exact h.log h2 ⟨_, _, _, _, _, h1⟩
end
theorem HFr.met {B : Nat} {w w' : World} (h : HFr B w w') (hB : 2 ≤ B) (hm : Met w) : Met w' := hm.below h.below (by omega)
theorem HFr.pows {B : Nat} {w w' : World} (h : HFr B w w') (hB : 2 ≤ B) (hm : Pows w) : Pows w' := hm.of_block (h.below.block 1 (by omega))
/-- an open host of a shard -/
def HSt (w : World) (B hp m n : Nat) (s : AShard) (l : ALog) (d : ADisk) : Prop :=
  ∃ p sp gp bV bT bH lp bD bN, w.heap[hp]? = some (hostS p true (.pointer (some ⟨sp, 0, none⟩))) ∧ SL w B sp gp bV bT bH m lp p bD bN n s l d ∧ (B ≤ sp ∧ B ≤ bV ∧ B ≤ bT ∧ B ≤ bH)
end Go.Proofs.YtejiankgafjppabGreatDoor
/- HOSTS OF A SHARD: NewHost, Open. (Written by mkhoo.py.) -/
namespace Go.Proofs.YtejiankgafjppabGreatDoor
open Go.RowKit Go.Maps
open Sc

/-- cells of another kind turn -/
theorem SL.other {w w' : World} {B sp gp bV bT bH m lp p bD bN n q : Nat} {s : AShard} {l : ALog} {d : ADisk} {c : Array Value} {t : TypeId} (h : SL w B sp gp bV bT bH m lp p bD bN n s l d) (hf : Fr [q] w w') (hq : w.heap[q]? = some (.cells c t (0, 0))) (h1 : t ≠ 100) (h2 : t ≠ 150) (h3 : t ≠ 229) (h4 : t ≠ 28) (h5 : t ≠ 288) (h6 : t ≠ 9) (h7 : t ≠ 136) (h8 : t ≠ 215) : SL w' B sp gp bV bT bH m lp p bD bN n s l d := by
  obtain ⟨pv, sv, rv, nD, nN, hl⟩ := h.lg
  have n1 : sp ≠ q := by intro e; have := h.sh.blk; rw [e, hq] at this; cases this; exact h7 rfl
  have n2 : bV ≠ q := by intro e; obtain ⟨es, c2, e2⟩ := h.sh.vals.isMap; rw [e, hq] at e2; cases e2
  have n3 : bT ≠ q := by intro e; obtain ⟨es, c2, e2⟩ := h.sh.txns.isMap; rw [e, hq] at e2; cases e2
  have n4 : bH ≠ q := by intro e; obtain ⟨es, c2, e2⟩ := h.sh.holds.isMap; rw [e, hq] at e2; cases e2
  have n5 : gp ≠ q := by intro e; have := h.ap.led; rw [e, hq] at this; cases this; exact h8 rfl
  exact ⟨h.sh.fr hf (by simpa using n1) (by simpa using n2) (by simpa using n3) (by simpa using n4), ⟨_, _, _, _, _, hl.other hf hq h1 h2 h3 h4 h5 h6⟩, ⟨(hf.block gp (Array.getElem?_eq_some_iff.1 h.ap.led).1 (by simpa using n5)).trans h.ap.led, h.ap.ne⟩, h.gp1⟩
end Go.Proofs.YtejiankgafjppabGreatDoor
/- THE POWER FAILS, all that was told being durable: crash, (*Host).Lose. -/
namespace Go.Proofs.YtejiankgafjppabGreatDoor
open Go.RowKit Go.Maps
open Sc

set_option maxHeartbeats 1000000 in
theorem ppick_zero (w : World) : Calls Tryz.prog 80 #[.int .i64 0, .int .i64 1] w fun e w' => e = .returned (.int .i64 0) ∧ w' = w := by
  go_enter Tryz.func80, Tryz.ntmps80
  go_wp2
  go_ret
  exact ⟨rfl, rfl⟩
set_option maxRecDepth 100000 in
set_option maxHeartbeats 4000000 in
theorem crash_none (B p bD bN n nD nN : Nat) (pv : Value) (d : ADisk) (kept : Int) (w : World) (h : DiskIn w B p bD bN pv d n nD nN) (h0 : d.pending = []) :
    Calls Tryz.prog 44 #[.pointer (some ⟨p, 0, none⟩), .int .i64 kept, .int .i64 0] w fun e w' => e = .returned (.tuple #[]) ∧ ∃ bN', DiskIn w' B p bD bN' (.slice none 0 0) (d.up.knob (-1) (-1)) n nD nD ∧ Fr [p] w w' := by
  have hmm := @run_makeMap Tryz.prog
  have hn := h.hn
  have hbase := h.base
  have hD := h.hD
  have hleD := h.leD
  obtain ⟨pa, pc, rfl⟩ : ∃ a c, pv = .slice a 0 c := by
    have := h.pen
    rw [h0] at this
    rcases this.2 with ⟨e, _⟩ | ⟨g, cap, cur, e, _⟩
    · exact ⟨_, _, e⟩
    · exact ⟨_, _, e⟩
  have hpl : p < w.heap.size := (Array.getElem?_eq_some_iff.1 h.blk).1
  have c2 := blk_cell h.blk 2
  simp at c2
  have hlen : ∀ (ty : TypeId) (W : World), (Builtin.len_ #[98] ty #[.slice pa 0 pc]).run Tryz.prog W = .ok (.int .i64 0) W := fun ty W => by simp [go_sem]
  obtain ⟨W, hW⟩ : ∃ W, W = w.alloc (.map #[] 0) := ⟨_, rfl⟩
  have hfW : Fr [] w W := by rw [hW]; exact (Fr.refl [] w).alloc _
  have hbW : W.heap[p]? = some (dskO bD bN (.slice pa 0 pc) d.left d.full d.down) := (hfW.block p hpl (by simp)).trans h.blk
  have b2 := blk_cell hbW 2
  have b3 := blk_cell hbW 3
  have b4 := blk_cell hbW 4
  have f3 := blk_free hbW 3
  have f4 := blk_free hbW 4
  simp at b2 b3 b4
  obtain ⟨W2, hW2⟩ : ∃ W2, W2 = (W.setCell ⟨p, 3, none⟩ (.int .i64 (-1))).setCell ⟨p, 4, none⟩ (.int .i64 (-1)) := ⟨_, rfl⟩
  have hf2 : Fr [p] w W2 := by rw [hW2]; exact (hfW.mono (by simp)).trans ((Fr.set1 (by simp) _ _).trans (Fr.set1 (by simp) _ _))
  have hb2 : W2.heap[p]? = some (.cells #[.map (some bD), .map (some bN), .slice pa 0 pc, .int .i64 (d.knob (-1) (-1)).left, .int .i64 (d.knob (-1) (-1)).full, .bool (d.knob (-1) (-1)).down] 100) := by
    have := blk_set (blk_set hbW 3 (.int .i64 (-1))) 4 (.int .i64 (-1))
    simp at this
    rw [hW2]; exact this
  have hdu : FileMap W2 bD nD d.durable := by
    have := (h.turn (d := d) hf2 (-1) (-1) d.down hb2).dur
    exact this
  have hup := up_any B p bD n nD (.slice pa 0 pc) (.map (some bN)) (d.knob (-1) (-1)) W2 hb2 ⟨hbase.1, hbase.2.1, Nat.le_trans hbase.2.2.2 hf2.size⟩ hdu (by omega) hn hleD
  have HF : Hid (Fr [p] w W2) := hf2
  clear h hfW hbW hb2 hdu hf2
  go_enter Tryz.func44, Tryz.ntmps44
  go_wp2_with fail
  refine (ppick_zero w).mono ?_
  rintro e w1 ⟨rfl, rfl⟩
  go_wp2
  rw [← hW]
  clear hW
  go_loopw [24] (fun i wr => i = .int .i64 0 ∧ wr = W) (fun _ _ => 0)
  case atStart => exact ⟨rfl, rfl⟩
  case round =>
    obtain ⟨rfl, rfl⟩ := hrel
    go_wp2_with fail
    rw [← hW2]
    refine hup.mono ?_
    rintro e w3 ⟨rfl, hd3, hf3⟩
    have H3 := toHid (show DiskIn w3 B p bD W2.heap.size (.slice none 0 0) (d.knob (-1) (-1)).up n nD nD ∧ Fr [p] w1 w3 from ⟨hd3, HF.out.trans hf3⟩)
    clear hd3 hf3
    go_wp2
    go_end0
    exact ⟨rfl, W2.heap.size, H3.out⟩
/-- a host of a shard that is not open -/
def HCl (w : World) (B hp n : Nat) (d : ADisk) : Prop :=
  ∃ p bD bN pv nD nN, w.heap[hp]? = some (hostS p false (.pointer none)) ∧ DiskIn w B p bD bN pv d n nD nN
end Go.Proofs.YtejiankgafjppabGreatDoor
/- RECOVERY: (*disk).Names. -/
namespace Go.Proofs.YtejiankgafjppabGreatDoor
open Go.RowKit Go.Maps Go.Sort
open Sc

/-- the names of the files, each once -/
def NamesOk (m : Files) (ns : List ByteArray) : Prop := ns.Nodup ∧ ∀ k, k ∈ ns ↔ m k ≠ none
set_option maxRecDepth 100000 in
set_option maxHeartbeats 2000000 in
theorem names_any (B p bD bN n nD nN : Nat) (pv : Value) (d : ADisk) (w : World) (h : DiskIn w B p bD bN pv d n nD nN) (hdn : d.down = false) :
    Calls Tryz.prog 409 #[.pointer (some ⟨p, 0, none⟩)] w fun e w' => ∃ v ns, e = .returned (.tuple #[v, .nilIface]) ∧ NamesOk d.now ns ∧ w'.ownsRow w.heap.size 9 1 v ns.length (ns.map Value.string) ∧ Below w.heap.size w w' := by
  have c1 := blk_cell h.blk 1
  have c5 := blk_cell h.blk 5
  simp at c1 c5
  rw [hdn] at c5
  have hN := h.hN
  have hn := h.hn
  obtain ⟨D, hown, h5⟩ := h.now
  have hsz := hown.size_le
  have H5 : Hid (∀ k : ByteArray, (d.now k = none → Maps.has D (keyL k) = false) ∧ (∀ t, d.now k = some t → Maps.has D (keyL k) = true)) := fun k => ⟨(h5 k).1, fun t ht => ((h5 k).2 t ht).1⟩
  have HO : Hid (w.ownsMap Tryz.prog 9 ptrElem bN nN D) := hown
  clear h h5
  obtain ⟨i0, hi, hz0, hz1, hz2⟩ := info_parts Tryz.infoStr
  go_enter Tryz.func409, Tryz.ntmps409
  go_wp2_with (first
    | (at_range; refine wpList_range_own _ rfl _ 97 rfl 9 101 Tryz.lawS Tryz.underlying97 ptrElem bN nN D rfl hown ?_; intro w0 hrg0 hg0 hs0)
    | go_in)
  go_frame
  have hbl : Below w.heap.size w w0 := ⟨hg0.os, hg0.tape, hg0.output, hg0.size, fun k hk => hg0.block k hk (by simp)⟩
  have HS : Hid (w0.ranges Tryz.prog 9 ptrElem bN w.heap.size nN D (Maps.has D) (Maps.size D) ∧ Below w.heap.size w w0) := ⟨hrg0, hbl⟩
  clear hrg0 hg0 hbl hown
  go_loopw [4] (fun v wr => ∃ (left : Lit → Bool) (cnt : Nat) (ss : List (List UInt8)), Hid (wr.ranges Tryz.prog 9 ptrElem bN w.heap.size nN D left cnt ∧ ss.length + cnt ≤ Maps.size D ∧ Collected D left ss ∧ wr.ownsRow (w.heap.size + 1) 9 1 v ss.length (ss.map encStr) ∧ Below w.heap.size w wr ∧ w.heap.size + 1 ≤ wr.heap.size))
    (fun _ wr => wr.rangeLeft bN w.heap.size)
  case atStart => exact ⟨_, _, [], HS.out.1, by simp, Collected.start D, World.ownsRow_nil _ _ _ _, HS.out.2, by omega⟩
  case round =>
    obtain ⟨left, cnt, ss, HX⟩ := hrel
    have hrg := HX.out.1
    go_wp2_with (first
      | (at_next; refine wpList_next_ranges _ rfl _ rfl 9 Tryz.lawS ptrElem encStr Value.pointer (fun key kl hk => by obtain ⟨x, hx, _⟩ := Maps.keyOf_str Tryz.underlying9 hk; exact ⟨x, hx⟩) (fun v y hv => ptrElem_shape hv) bN w.heap.size nN _ _ _ rfl hrg ?_ ?_)
      | go_in)
    · intro hc0 hl0
      have hC := HX.out.2.2.1
      have hNames : ∀ ts : List (List UInt8), ts.Perm ss → NamesOk d.now (ts.map fun x => ⟨x.toArray⟩) := fun ts hp => by
        refine ⟨?_, fun k => ?_⟩
        · refine List.Pairwise.map _ (fun a b hab e => hab ?_) (hp.nodup_iff.2 hC.1)
          have := congrArg (fun x : ByteArray => x.data.toList) e
          simpa using this
        · have e1 : k ∈ (ts.map fun x => (⟨x.toArray⟩ : ByteArray)) ↔ k.data.toList ∈ ss := by
            rw [← hp.mem_iff, List.mem_map]
            constructor
            · rintro ⟨x, hx, rfl⟩; simpa using hx
            · intro hk; exact ⟨_, hk, by simp⟩
          rw [e1, hC.2]
          have := H5.out k
          cases hk : d.now k with
          | none => rw [show Lit.string k.data.toList = keyL k from rfl, this.1 hk]; simp
          | some t => rw [show Lit.string k.data.toList = keyL k from rfl, this.2 t hk]; simp [hl0]
      have HNM : Hid (∀ ts : List (List UInt8), ts.Perm ss → NamesOk d.now (ts.map fun x => ⟨x.toArray⟩)) := hNames
      clear hNames hC
      rcases HX.out.2.2.2.1.2 with ⟨rfl, hz⟩ | ⟨gb, cap, cur, rfl, hbase, hgb, r1, r2, r3, r4⟩
      · have hss : ss = [] := List.eq_nil_of_length_eq_zero hz
        subst hss
        go_wp2_with fail
        refine (Tryz.sort_Strings_none none 0 wr).mono ?_
        rintro e w1 ⟨rfl, rfl⟩
        go_wp2
        go_ret2
        exact ⟨.slice none 0 0, [], rfl, HNM.out [] (List.Perm.refl _), World.ownsRow_nil _ _ _ _, HX.out.2.2.2.2.1⟩
      · have hH : Holds encStr wr gb 0 ss.toArray := holds_of_block hgb (by simpa using r4)
        have hgl : gb < wr.heap.size := (Array.getElem?_eq_some_iff.1 hgb).1
        have hlen : ss.length < 4611686018427387904 := by have := HX.out.2.1; omega
        have HG : Hid (wr.heap[gb]? = some (.cells cur 9 (0, 0)) ∧ ss.length ≤ cap ∧ cap ≤ maxLen ∧ cur.size = cap * 1) := ⟨hgb, r1, r2, r3⟩
        clear hgb r1 r2 r3 r4
        go_wp2_with fail
        refine (Tryz.sort_Strings gb 0 cap ss wr hH hgl hlen).mono ?_
        rintro e w1 ⟨rfl, nn, os, rfl⟩
        have hrow := ownsRow_sorted (n := nn) (os := os) (ts := ss.mergeSort fun x y => decide (x ≤ y)) (by simp) hbase HG.out.1 HG.out.2.1 HG.out.2.2.1 HG.out.2.2.2
        have hgr := grownBy_sorted (w := wr) (g := gb) (n := nn) (os := os) (ss.mergeSort fun x y => decide (x ≤ y)).toArray
        obtain ⟨W2, hW2⟩ : ∃ W2, W2 = grow (putRow encStr (Sort.ahead wr nn) gb 0 (ss.mergeSort fun x y => decide (x ≤ y)).toArray) os := ⟨_, rfl⟩
        rw [← hW2] at hrow hgr ⊢
        clear hW2
        go_wp2
        go_ret2
        refine ⟨.slice (some ⟨gb, 0, none⟩) ss.length cap, (ss.mergeSort fun x y => decide (x ≤ y)).map fun x => ⟨x.toArray⟩, rfl, HNM.out _ (List.mergeSort_perm _ _), ?_, HX.out.2.2.2.2.1.grown hgr (by omega) (fun j hj => by cases hj; omega)⟩
        rw [List.map_map]
        have e : (ss.mergeSort fun x y => decide (x ≤ y)).length = ss.length := by simp
        rw [List.length_map, e]
        exact own_base0 hrow (by omega)
    · intro x c kl yd yp w2 cnt2 hkey hlk hv hat hrg2 hlt hg2 hs2 hen
      obtain ⟨x', ex, rfl, hxl⟩ := Maps.keyOf_str Tryz.underlying9 hkey
      obtain rfl : x = x' := encStr_inj ex
      have hrow2 : w2.ownsRow (w.heap.size + 1) 9 1 _ ss.length (ss.map encStr) := HX.out.2.2.2.1.kept hg2 (by
        rcases HX.out.2.2.2.1.2 with ⟨rfl, _⟩ | ⟨gb, cap, cur, rfl, hbase, _⟩
        · exact .inl rfl
        · exact .inr (by simp [Value.ownBlock]; omega))
      have HN2 : Hid (w2.ranges Tryz.prog 9 ptrElem bN w.heap.size nN D (fun z => left z && !z.sameKey (.string x)) cnt2 ∧ ss.length + 1 + cnt2 ≤ Maps.size D ∧ Collected D (fun z => left z && !z.sameKey (.string x)) (ss ++ [x]) ∧ Below w.heap.size w w2 ∧ w.heap.size + 1 ≤ w2.heap.size ∧ w2.rangeLeft bN w.heap.size < wr.rangeLeft bN w.heap.size) := by
        refine ⟨hrg2, by have := HX.out.2.1; omega, HX.out.2.2.1.step hlk hat, HX.out.2.2.2.2.1.grown hg2 (by have := HX.out.2.2.2.2.2; omega) (fun j hj => by cases hj; omega), by rw [hs2]; exact HX.out.2.2.2.2.2, by rw [hrg2.left_eq, hrg.left_eq]; exact hlt⟩
      have hsm : ss.length + 1 ≤ 67108864 := by have := HN2.out.2.1; omega
      clear hs2 hrg hrg2 hlt
      go_wp2_with (first
        | (at_builtin; refine wpList_append_own _ rfl _ _ 65 rfl (w.heap.size + 1) 9 i0 _ 1 16 Tryz.underlying65 hi hz0 hz1 hz2 rfl (by decide) _ ss.length _ rfl (hrow2.alloc _) ⟨w2.heap.size, 0, none⟩ 1 1 [encStr x] rfl rfl (cells_new _ #[encStr x] _) (by intro u hu; simp at hu; subst hu; rfl) (by unfold maxLen; omega) (by omega) (by simp; have := HN2.out.2.2.2.2.1; omega) ?_; intro v' w3 hown' hgrow _)
        | fail)
      have hfr3 : ∀ k, k < w2.heap.size → k < w.heap.size + 1 → w3.heap[k]? = w2.heap[k]? := fun k hk hk2 => (hgrow.block k (by simp; omega) (fun e => by have := (hrow2.lt k e.symm).1; omega)).trans (Below.heap_alloc _ _ k hk)
      have hbN : bN < w.heap.size := HO.out.lt
      have hw2s := HN2.out.2.2.2.2.1
      have hrg3 : w3.ranges Tryz.prog 9 ptrElem bN w.heap.size nN D (fun z => left z && !z.sameKey (.string x)) cnt2 := by
        have := HN2.out.1
        unfold World.ranges at this ⊢
        rw [hfr3 bN (by omega) (by omega), hfr3 w.heap.size (by omega) (by omega)]
        exact this
      go_roundw
      case rel =>
        refine ⟨_, cnt2, ss ++ [x], hrg3, by simp; have := HN2.out.2.1; omega, HN2.out.2.2.1, by simpa using hown', ?_, by have := hgrow.size; simp at this; omega⟩
        exact ⟨hgrow.os.trans HN2.out.2.2.2.1.os, hgrow.tape.trans HN2.out.2.2.2.1.tape, hgrow.output.trans HN2.out.2.2.2.1.output, by have := hgrow.size; simp at this; omega, fun k hk => (hfr3 k (by omega) (by omega)).trans (HN2.out.2.2.2.1.block k hk)⟩
      case measure => rw [hrg3.left_eq, ← HN2.out.1.left_eq]; exact HN2.out.2.2.2.2.2
end Go.Proofs.YtejiankgafjppabGreatDoor
