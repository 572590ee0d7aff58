import Derived.Test.YtejiankgafjppabGreatDoorC41
import Derived.Test.YtejiankgafjppabGreatDoorC31
import Derived.Test.YtejiankgafjppabGreatDoorC33
import Derived.Test.YtejiankgafjppabGreatDoorC34
import Derived.Test.YtejiankgafjppabGreatDoorC37
import Derived.Maps.AppendAt
/- SHARDS: Open, over a log with a checkpoint. (Written by mkshk.py, from ShJ.) -/
namespace Go.Proofs.YtejiankgafjppabGreatDoor
open Go.RowKit Go.Maps
open Sc

theorem counted_le (rs : List Rec) : (counted rs).length ≤ rs.length := by unfold counted; exact List.length_filter_le _ _
/-- what an opening needs -/
structure ShPreQ (J : List Rec → AShard → Prop) (B p bD bN n : Nat) (R : ALog × ADisk × Nat) (w : World) : Prop where
  disk : ∃ pv d nD nN, DiskIn w B p bD bN pv d n nD nN
  jop : ∀ W, Fr [] w W → Calls Tryz.prog 82 #[dskV p] W (OpenPost B p bD bN n R W)
  k256 : ∀ r ∈ R.1.recs, r.kind < 256
  cp : (cpOf R.1.recs).2.1 ≠ 0
  byt : ∀ r ∈ R.1.recs, Byt r.pay ∧ r.pay.length ≤ 4096
  none : J [] sh0
  ents : ∀ pre x s', pre ++ [x] <+: counted R.1.recs → J pre s' → Entr (J (pre ++ [x])) s' ⟨x.lsn, x.kind % 128, x.pay⟩
  few : 20 * (counted R.1.recs).length + 32 < maxLen
  num : n ≤ 67108864
set_option maxRecDepth 100000 in
set_option maxHeartbeats 4000000 in
theorem shOpen_q (J : List Rec → AShard → Prop) (B p bD bN n : Nat) (R : ALog × ADisk × Nat) (w : World) (h : ShPreQ J B p bD bN n R w) :
    Calls Tryz.prog 83 #[dskV p] w (ShPost (fun _ s => J (counted R.1.recs) s) B p bD bN n R w) := by
  have hmm := @run_makeMap Tryz.prog
  obtain ⟨pv, d, nD, nN, hd⟩ := h.disk
  have hbase := hd.base
  have hnl := hd.now.lt
  have hdl := hd.dur.lt
  obtain ⟨W, hW⟩ : ∃ W, W = (((w.alloc (.map #[] 0)).alloc (.map #[] 0)).alloc (.map #[] 0)).alloc (shO 0 w.heap.size (w.heap.size + 1) (w.heap.size + 1 + 1) 0) := ⟨_, rfl⟩
  have hfr : Fr [] w W := by rw [hW]; exact ((((Fr.refl [] w).alloc _).alloc _).alloc _).alloc _
  have hsz : W.heap.size = w.heap.size + 4 := by rw [hW]; simp
  have hin : ShIn W (w.heap.size + 1 + 1 + 1) 0 w.heap.size (w.heap.size + 1) (w.heap.size + 1 + 1) 0 sh0 := by
    refine { blk := ?_, vals := ?_, txns := ?_, holds := ?_, ne := ⟨by omega, by omega, by omega⟩, ticks := by decide }
    · rw [hW]; have := heap_alloc_new (((w.alloc (.map #[] 0)).alloc (.map #[] 0)).alloc (.map #[] 0)) (shO 0 w.heap.size (w.heap.size + 1) (w.heap.size + 1 + 1) 0); rwa [World.size_alloc, World.size_alloc, World.size_alloc] at this
    · rw [hW]; exact (((MapAs.made w).fr ((Fr.refl [] _).alloc _) (by simp)).fr ((Fr.refl [] _).alloc _) (by simp)).fr ((Fr.refl [] _).alloc _) (by simp)
    · rw [hW]; have := MapAs.made (KR := KU) (ER := ET) (w.alloc (.map #[] 0)); rw [World.size_alloc] at this; exact (this.fr ((Fr.refl [] _).alloc _) (by simp)).fr ((Fr.refl [] _).alloc _) (by simp)
    · rw [hW]; have := MapAs.made (KR := KH) (ER := EG) ((w.alloc (.map #[] 0)).alloc (.map #[] 0)); rw [World.size_alloc, World.size_alloc] at this; exact this.fr ((Fr.refl [] _).alloc _) (by simp)
  have hlo := led_openq B p bD bN n 0 (w.heap.size + 1 + 1 + 1) w.heap.size (w.heap.size + 1) (w.heap.size + 1 + 1) R J sh0 W h.none hin ⟨_, _, _, _, hd.new hfr⟩ ⟨by omega, by omega, by omega, by omega, by omega, by omega⟩
    (fun W' hW' => h.jop W' (hfr.trans hW')) h.k256 h.cp h.byt h.ents (by have := h.few; omega) h.num
  have HF : Hid (Fr [] w W ∧ DiskIn w B p bD bN pv d n nD nN) := ⟨hfr, hd⟩
  clear h hfr hd hin
  go_enter Tryz.func83, Tryz.ntmps83
  go_wp2_with fail
  have hW2 : W = (((w.alloc (.map #[] 0)).alloc (.map #[] 0)).alloc (.map #[] 0)).alloc (.cells #[.pointer none, .map (some w.heap.size), .map (some (w.heap.size + 1)), .map (some (w.heap.size + 1 + 1)), .int .u64 0] 136) := hW
  rw [← hW2]
  clear hW hW2
  refine hlo.mono ?_
  clear hlo
  rintro e w1 ⟨gp, lp, s', rfl, hre, hin1, ⟨pv1, sv1, rv1, nD1, nN1, hl1⟩, hg1, hgp, hsd1⟩
  have c0 := blk_cell hin1.blk 0
  have f0 := blk_free hin1.blk 0
  simp at c0 f0
  obtain ⟨W2, hW2⟩ : ∃ W2, W2 = w1.setCell ⟨w.heap.size + 1 + 1 + 1, 0, none⟩ (.pointer (some ⟨gp, 0, none⟩)) := ⟨_, rfl⟩
  have hf2 : Fr [w.heap.size + 1 + 1 + 1] w1 W2 := by rw [hW2]; exact Fr.set1 (by simp) _ _
  have hgp1 : 1 ≤ gp := by omega
  have hb2 : W2.heap[w.heap.size + 1 + 1 + 1]? = some (shO gp w.heap.size (w.heap.size + 1) (w.heap.size + 1 + 1) s'.ticks) := by
    have := blk_set hin1.blk 0 (.pointer (some ⟨gp, 0, none⟩))
    simp at this
    rw [hW2]; unfold shO; rw [lgP_pos hgp1]; exact this
  have hne1 : gp ≠ w.heap.size + 1 + 1 + 1 := by omega
  have HS : Hid (J (counted R.1.recs) s' ∧ SL W2 B (w.heap.size + 1 + 1 + 1) gp w.heap.size (w.heap.size + 1) (w.heap.size + 1 + 1) (20 * R.1.recs.length) lp p bD bN n s' R.1 R.2.1 ∧ SDFr p [] w W2) := by
    have hin2 := hin1
    rw [Nat.zero_add] at hin2
    have hin2 := hin2.mono (Nat.mul_le_mul_left 20 (counted_le R.1.recs))
    refine ⟨hre, ⟨{ blk := hb2, vals := hin2.vals.fr hf2 (by simp; omega), txns := hin2.txns.fr hf2 (by simp), holds := hin2.holds.fr hf2 (by simp), ne := hin2.ne, ticks := hin2.ticks }, ⟨pv1, sv1, rv1, nD1, nN1, hl1.apart hf2 (fun k hk _ => ?_)⟩, { led := (hf2.block gp (Array.getElem?_eq_some_iff.1 hg1).1 (by simpa using hne1)).trans hg1, ne := ⟨by omega, by omega, by omega, by omega, by omega, by omega⟩ }, hgp1⟩, ?_⟩
    · simp at hk
      subst hk
      exact ⟨hl1.free hin1.blk (by decide) (by decide) (by decide) (by decide) (by decide), fun t e => by rw [hin1.blk] at e; cases e⟩
    · have hf0 := HF.out.1
      have hd0 := HF.out.2
      refine ⟨hf2.os.trans (hsd1.os.trans hf0.os), hf2.tape.trans (hsd1.tape.trans hf0.tape), hf2.output.trans (hsd1.output.trans hf0.output), by have := hf2.size; have := hsd1.size; omega, fun k hk ho _ => ?_⟩
      rw [hf2.block k (by have := hsd1.size; omega) (by simp; omega), hsd1.block k (by omega) (fun ho' => ho ((hd0.ownD k).2 (((hd0.new hf0).ownD k).1 ho'))) (by simp; omega), hf0.block k hk (by simp)]
  clear hre hin1 hl1 hg1 hsd1 hf2 hb2
  go_wp2
  rw [← hW2]
  go_ret2
  exact ⟨w.heap.size + 1 + 1 + 1, gp, w.heap.size, w.heap.size + 1, w.heap.size + 1 + 1, lp, s', rfl, HS.out.1, HS.out.2.1, ⟨by omega, by omega, by omega, by omega⟩, HS.out.2.2⟩
set_option maxHeartbeats 1000000 in
theorem openShard_q (J : List Rec → AShard → Prop) (B p bD bN n : Nat) (R : ALog × ADisk × Nat) (w : World) (h : ShPreQ J B p bD bN n R w) :
    Calls Tryz.prog 46 #[dskV p] w (ShPost (fun _ s => J (counted R.1.recs) s) B p bD bN n R w) := by
  have HC : Hid (Calls Tryz.prog 83 #[dskV p] w (ShPost (fun _ s => J (counted R.1.recs) s) B p bD bN n R w)) := shOpen_q J B p bD bN n R w h
  clear h
  go_enter Tryz.func46, Tryz.ntmps46
  go_wp2_with fail
  refine HC.out.mono ?_
  rintro e w1 ⟨sp, gp, bV, bT, bH, lp, s', rfl, h1⟩
  have H1 := toHid h1
  clear h1
  go_wp2
  go_ret2
  exact ⟨sp, gp, bV, bT, bH, lp, s', rfl, H1.out⟩
end Go.Proofs.YtejiankgafjppabGreatDoor
/- RECOVERY OVER FEW SEGMENTS: names, a mark among them; the search for the first. -/
namespace Go.Proofs.YtejiankgafjppabGreatDoor
open Go.RowKit Go.Maps
open Sc

theorem parse_snoc (M : Nat) (c : UInt8) (v : Nat) : ∀ (a : List UInt8) (acc : Nat), Lib.parseUintM M acc a = .ok v → Lib.parseUintM M acc (a ++ [c]) = Lib.parseUintM M v [c]
  | [], acc, h => by
    have e : acc = v := by simpa [Lib.parseUintM] using h
    rw [e]; rfl
  | x :: a, acc, h => by
    rw [List.cons_append]
    unfold Lib.parseUintM at h ⊢
    split at h
    · rename_i h1
      rw [if_pos h1]
      split at h
      · cases h
      · rename_i h2
        rw [if_neg h2]
        split at h
        · cases h
        · rename_i h3
          rw [if_neg h3]
          exact parse_snoc M c v a _ h
    · cases h
theorem parse_decM : ∀ (n u : Nat), u < n → u < 18446744073709551616 → Lib.parseUintM 18446744073709551615 0 (Lib.decDigits u) = .ok u := by
  intro n
  induction n with
  | zero => intro u h; omega
  | succ n ih =>
    intro u hn hu
    rw [Lib.decDigits]
    split
    · rename_i h
      obtain rfl | rfl | rfl | rfl | rfl | rfl | rfl | rfl | rfl | rfl : u = 0 ∨ u = 1 ∨ u = 2 ∨ u = 3 ∨ u = 4 ∨ u = 5 ∨ u = 6 ∨ u = 7 ∨ u = 8 ∨ u = 9 := by omega
      all_goals rfl
    · rename_i h
      rw [parse_snoc _ _ (u / 10) _ _ (ih (u / 10) (by omega) (by omega))]
      have e : (UInt8.ofNat (48 + u % 10)).toNat = 48 + u % 10 := by simp; omega
      unfold Lib.parseUintM
      rw [e, if_pos (by omega), if_neg (by omega), if_neg (by omega)]
      unfold Lib.parseUintM
      congr 1
      omega
theorem parse_dec (u : Nat) (hu : u < 18446744073709551616) : Lib.parseUintB 64 (Lib.decDigits u) = .ok u := by
  unfold Lib.parseUintB
  rw [if_neg (dec_ne u)]
  exact parse_decM (u + 1) u (by omega) hu
/-- a segment's name, or the mark's -/
def nmOf : Option Nat → ByteArray
  | some u => segName u
  | none => markNm
def segO (l : List (Option Nat)) : List Nat := l.filterMap id
theorem segO_some (l : List (Option Nat)) (u : Nat) : segO (l ++ [some u]) = segO l ++ [u] := by simp [segO]
theorem segO_none (l : List (Option Nat)) : segO (l ++ [none]) = segO l := by simp [segO]
theorem segO_le (l : List (Option Nat)) : (segO l).length ≤ l.length := by unfold segO; exact List.length_filterMap_le _ _
def NmCells (w : World) (g : Nat) (cl : List (Option Nat)) : Prop := ∀ (k : Nat) (o : Option Nat), cl[k]? = some o → w.cell? ⟨g, k, none⟩ = some (.string (nmOf o))
theorem trim_mark : (⟨(Lib.trimPrefix markNm.data.toList [115, 101, 103, 109, 101, 110, 116, 45]).toArray⟩ : ByteArray) = markNm := by decide
theorem parse_mark : Lib.parseUintB 64 markNm.data.toList = .«syntax» := by rfl
/-- what the variable of strconv's error holds -/
def ErrS (w : World) : Prop := ∃ ev, w.cell? ⟨2, 0, none⟩ = some ev ∧ (ev = .nilIface ∨ ∃ te pe, ev = .iface te pe)
theorem ErrS.below {n : Nat} {w w' : World} (h : ErrS w) (hb : Below n w w') (hn : 2 < n) : ErrS w' := by
  obtain ⟨ev, h1, h2⟩ := h
  exact ⟨ev, (hb.cell (p := ⟨2, 0, none⟩) hn).trans h1, h2⟩
set_option maxRecDepth 100000 in
set_option maxHeartbeats 4000000 in
theorem among_mix (g cap : Nat) (cl : List (Option Nat)) (w : World) (hg : g < w.heap.size) (hc : NmCells w g cl) (hu : ∀ u ∈ segO cl, u < 18446744073709551616) (h0 : segO cl ≠ []) (hl : cl.length ≤ 12) (hpow : Pows w) (herr : ErrS w) (h1 : 2 < w.heap.size) :
    Calls Tryz.prog 196 #[.slice (some ⟨g, 0, none⟩) cl.length cap] w fun e w' => ∃ g' cap' l', e = .returned (.slice (some ⟨g', 0, none⟩) (segO cl).length cap') ∧ l'.Perm (segO cl) ∧ AscTo l' (segO cl).length ∧ w'.ownsRow w.heap.size 28 1 (.slice (some ⟨g', 0, none⟩) (segO cl).length cap') (segO cl).length (u64s l') ∧ Below w.heap.size w w' := by
  obtain ⟨m, hm⟩ : ∃ m, m = cl.length := ⟨_, rfl⟩
  rw [← hm] at hl ⊢
  have HM : Hid (m = cl.length) := hm
  have HU : Hid ((∀ u ∈ segO cl, u < 18446744073709551616) ∧ NmCells w g cl ∧ Pows w ∧ ErrS w) := ⟨hu, hc, hpow, herr⟩
  have hmp : 0 < (segO cl).length := List.length_pos_iff.2 h0
  have hs12 : (segO cl).length ≤ 12 := by have := segO_le cl; omega
  obtain ⟨i0, hi, hz0, hz1, hz2⟩ := info_parts Tryz.infoU64
  have hlen := Tryz.lenStr
  clear hm hc hu hpow h0 herr
  go_enter Tryz.func196, Tryz.ntmps196
  go_wp2
  go_loopw [12, 3] (fun i v wr => ∃ k : Nat, k ≤ m ∧ i = .int .i64 k ∧ Hid (wr.ownsRow w.heap.size 28 1 v (segO (cl.take k)).length (u64s (segO (cl.take k))) ∧ Below w.heap.size w wr)) (fun i _ _ => m - (intOf i).toNat)
  case atStart => exact ⟨0, Nat.zero_le _, rfl, World.ownsRow_nil _ _ _ _, Below.refl _ _⟩
  case round =>
    obtain ⟨k, hk, rfl, hR⟩ := hrel
    by_cases hlt : k < m
    · obtain ⟨o, ho⟩ : ∃ o, cl[k]? = some o := ⟨_, List.getElem?_eq_getElem (by have := HM.out; omega)⟩
      have ck : wr.cell? ⟨g, k, none⟩ = some (.string (nmOf o)) := (hR.out.2.cell (p := ⟨g, k, none⟩) hg).trans (HU.out.2.1 k o ho)
      have HT : Hid (cl.take (k + 1) = cl.take k ++ [o]) := by show _ = _; rw [List.take_add_one, ho]; rfl
      have hs1 := hR.out.2.size
      have hkl : (segO (cl.take k)).length ≤ 12 := by have := segO_le (cl.take k); rw [List.length_take] at this; omega
      cases o with
      | none =>
        obtain ⟨ev, hv1, hv2⟩ := HU.out.2.2.2
        have hv3 := (hR.out.2.cell (p := ⟨2, 0, none⟩) h1).trans hv1
        have hps := Tryz.strconv_ParseUint_10_at64_syntax markNm (by decide) parse_mark ev wr hv3 hv2
        change wr.cell? ⟨g, k, none⟩ = some (.string markNm) at ck
        clear hv1 hv2 hv3 ho
        go_wp2_with fail
        refine (Tryz.strings_CutPrefix _ _ wr).mono ?_
        rintro e w1 ⟨rfl, rfl⟩
        simp only [trim_mark]
        go_wp2_with fail
        refine hps.mono ?_
        clear hps
        rintro e w2 ⟨Nn, rfl, _, _, hb2⟩
        have HB2 : Hid (Below w1.heap.size w1 w2) := hb2
        clear hb2
        go_wp2
        go_roundw
        case rel => exact ⟨k + 1, by omega, by simp, by rw [HT.out, segO_none]; exact own_grow0 hR.out.1 HB2.out, hR.out.2.trans (HB2.out.mono hs1)⟩
        case measure => simp [intOf]; omega
      | some u =>
        change wr.cell? ⟨g, k, none⟩ = some (.string (segName u)) at ck
        have hu64 : u < 18446744073709551616 := HU.out.1 u (by unfold segO; rw [List.mem_filterMap]; exact ⟨some u, List.mem_of_getElem? ho, rfl⟩)
        have hpa := parse_dec u hu64
        have hsz := segName_size u hu64
        have hds : (Lib.decDigits u).length ≤ 28 := by
          have : (segName u).size = 8 + (Lib.decDigits u).length := by unfold segName; simp [ByteArray.size]; omega
          omega
        clear ho
        go_wp2_with fail
        refine (Tryz.strings_CutPrefix _ _ wr).mono ?_
        rintro e w1 ⟨rfl, rfl⟩
        simp only [trim_seg]
        go_wp2_with fail
        refine (Tryz.strconv_ParseUint_10_at64_ok ⟨(Lib.decDigits u).toArray⟩ (by simp [ByteArray.size]; omega) u (by simpa using hpa) w1).mono ?_
        rintro e w2 ⟨rfl, hw2⟩
        have hb2 : Below w1.heap.size w1 w2 := by
          rcases hw2 with rfl | rfl
          · exact Below.refl _ _
          · exact below_bytes _ _
        clear hw2
        have hp2 : Pows w2 := HU.out.2.2.1.of_block ((hb2.block 1 (by omega)).trans (hR.out.2.block 1 (by omega)))
        go_wp2_with fail
        refine (segmentName_any u w2 hu64 hp2).mono ?_
        rintro e w3 ⟨rfl, hb3⟩
        have hb13 : Below w1.heap.size w1 w3 := hb2.trans (hb3.mono hb2.size)
        have hrow3 := own_grow0 hR.out.1 hb13
        have HB3 : Hid (Below w.heap.size w w3) := hR.out.2.trans (hb13.mono hs1)
        have hs3 := HB3.out.size
        clear hb2 hb3 hb13 hp2 hpa
        go_wp2_with (first
          | (at_builtin; refine wpList_append_own _ rfl _ _ 220 rfl w.heap.size 28 i0 _ 1 8 Tryz.underlying220 hi hz0 hz1 hz2 rfl (by decide) _ (segO (cl.take k)).length _ rfl (hrow3.alloc _) ⟨w3.heap.size, 0, none⟩ 1 1 [.int .u64 (u : Int)] rfl rfl (cells_new _ #[.int .u64 (u : Int)] _) (by intro x hx; simp at hx; subst hx; rfl) (by unfold maxLen; omega) (by omega) (by simp; omega) ?_; intro v' w4 hown' hgrow _)
          | fail)
        go_roundw
        case rel =>
          refine ⟨k + 1, by omega, by simp, by rw [HT.out, segO_some, u64s_snoc, List.length_append]; exact hown', ?_⟩
          exact (HB3.out.alloc hs3 _).grown hgrow (by simp; omega) (fun j hj => (hrow3.lt j hj).1)
        case measure => simp [intOf]; omega
    · obtain rfl : k = m := by omega
      have e : cl.take k = cl := List.take_of_length_le (by rw [HM.out]; exact Nat.le_refl _)
      rw [e] at hR
      obtain ⟨gg, cc, rfl⟩ := own_pos hR.out.1 hmp
      obtain ⟨M, hM⟩ : ∃ M, M = (segO cl).length := ⟨_, rfl⟩
      have HMM : Hid (M = (segO cl).length) := hM
      rw [← hM] at hR hmp hs12 ⊢
      clear hM
      go_wp2_with fail
      refine (sortU_few w.heap.size gg M cc (segO cl) wr hR.out.1 HMM.out.symm hs12).mono ?_
      rintro e w2 ⟨rfl, l', hs2, ha2⟩
      have HY : Hid (SrtIn wr w2 w.heap.size gg M cc (segO cl) l' ∧ AscTo l' M) := ⟨hs2, ha2⟩
      clear hs2 ha2
      go_wp2
      go_ret
      have hgl := (hR.out.1.lt gg rfl).1
      refine ⟨gg, cc, l', by rw [← HMM.out]; rfl, HY.out.1.perm, by rw [← HMM.out]; exact HY.out.2, by rw [← HMM.out]; exact HY.out.1.row, hR.out.2.trans ?_⟩
      have hf := HY.out.1.fr
      exact ⟨hf.os, hf.tape, hf.output, hf.size, fun k hk => hf.block k (by have := hR.out.2.size; omega) (by simp; omega)⟩
end Go.Proofs.YtejiankgafjppabGreatDoor
/- RECOVERY OVER FEW SEGMENTS: the search for the first; readMark of a mark. -/
namespace Go.Proofs.YtejiankgafjppabGreatDoor
open Go.RowKit Go.Maps
open Sc

set_option maxRecDepth 100000 in
set_option maxHeartbeats 2000000 in
theorem search_2 (g cap a b : Nat) (w : World) (h1 : w.cell? ⟨g, 0, none⟩ = some (.int .u64 (a : Int))) (h2 : w.cell? ⟨g, 1, none⟩ = some (.int .u64 (b : Int))) (hab : a < b) :
    Calls Tryz.prog 197 #[.slice (some ⟨g, 0, none⟩) 2 cap, .int .u64 (a : Int)] w fun e w' => e = .returned (.tuple #[.int .i64 0, .bool true]) ∧ w' = w := by
  have l1 := lessU (b : Int) (a : Int) w
  have l2 := lessU (a : Int) (a : Int) w
  have e1 : decide ((b : Int) < (a : Int)) = false := decide_eq_false (by omega)
  have e2 : decide ((a : Int) < (a : Int)) = false := decide_eq_false (by omega)
  rw [e1] at l1
  rw [e2] at l2
  clear e1 e2 hab
  go_enter Tryz.func197, Tryz.ntmps197
  go_wp2
  refine wp_loop_rounds 3 ?_
  rw [rounds_succ]
  go_wp2_with fail
  refine l1.mono ?_
  rintro e w1 ⟨rfl, rfl⟩
  go_wp2
  rw [rounds_succ]
  go_wp2_with fail
  refine l2.mono ?_
  rintro e w1 ⟨rfl, rfl⟩
  go_wp2
  rw [rounds_succ]
  go_wp2
  go_ret2
  exact ⟨rfl, rfl⟩
set_option maxRecDepth 100000 in
set_option maxHeartbeats 2000000 in
theorem search_3 (g cap a b : Nat) (w : World) (h1 : w.cell? ⟨g, 0, none⟩ = some (.int .u64 (a : Int))) (h2 : w.cell? ⟨g, 1, none⟩ = some (.int .u64 (b : Int))) (hab : a < b) :
    Calls Tryz.prog 197 #[.slice (some ⟨g, 0, none⟩) 3 cap, .int .u64 (a : Int)] w fun e w' => e = .returned (.tuple #[.int .i64 0, .bool true]) ∧ w' = w := by
  have l1 := lessU (b : Int) (a : Int) w
  have l2 := lessU (a : Int) (a : Int) w
  have e1 : decide ((b : Int) < (a : Int)) = false := decide_eq_false (by omega)
  have e2 : decide ((a : Int) < (a : Int)) = false := decide_eq_false (by omega)
  rw [e1] at l1
  rw [e2] at l2
  clear e1 e2 hab
  go_enter Tryz.func197, Tryz.ntmps197
  go_wp2
  refine wp_loop_rounds 3 ?_
  rw [rounds_succ]
  go_wp2_with fail
  refine l1.mono ?_
  rintro e w1 ⟨rfl, rfl⟩
  go_wp2
  rw [rounds_succ]
  go_wp2_with fail
  refine l2.mono ?_
  rintro e w1 ⟨rfl, rfl⟩
  go_wp2
  rw [rounds_succ]
  go_wp2
  go_ret2
  exact ⟨rfl, rfl⟩
set_option maxRecDepth 100000 in
set_option maxHeartbeats 2000000 in
theorem search_1 (g cap a : Nat) (w : World) (h1 : w.cell? ⟨g, 0, none⟩ = some (.int .u64 (a : Int))) :
    Calls Tryz.prog 197 #[.slice (some ⟨g, 0, none⟩) 1 cap, .int .u64 (a : Int)] w fun e w' => e = .returned (.tuple #[.int .i64 0, .bool true]) ∧ w' = w := by
  have l2 := lessU (a : Int) (a : Int) w
  have e2 : decide ((a : Int) < (a : Int)) = false := decide_eq_false (by omega)
  rw [e2] at l2
  clear e2
  go_enter Tryz.func197, Tryz.ntmps197
  go_wp2
  refine wp_loop_rounds 2 ?_
  rw [rounds_succ]
  go_wp2_with fail
  refine l2.mono ?_
  rintro e w1 ⟨rfl, rfl⟩
  go_wp2
  rw [rounds_succ]
  go_wp2
  go_ret2
  exact ⟨rfl, rfl⟩
theorem search_few (g cap : Nat) (us : List Nat) (a : Nat) (w : World) (hc : ∀ (k u : Nat), us[k]? = some u → w.cell? ⟨g, k, none⟩ = some (.int .u64 (u : Int))) (hp : us.Pairwise (· < ·)) (h0 : us[0]? = some a) (hl : us.length ≤ 3) :
    Calls Tryz.prog 197 #[.slice (some ⟨g, 0, none⟩) us.length cap, .int .u64 (a : Int)] w fun e w' => e = .returned (.tuple #[.int .i64 0, .bool true]) ∧ w' = w := by
  match us, hc, hp, h0, hl with
  | [], _, _, h0, _ => simp at h0
  | [x], hc, _, h0, _ =>
    simp at h0; subst h0
    exact search_1 g cap x w (hc 0 x rfl)
  | [x, y], hc, hp, h0, _ =>
    simp at h0; subst h0
    exact search_2 g cap x y w (hc 0 x rfl) (hc 1 y rfl) (by simp at hp; exact hp)
  | [x, y, z], hc, hp, h0, _ =>
    simp at h0; subst h0
    exact search_3 g cap x y w (hc 0 x rfl) (hc 1 y rfl) (by simp at hp; exact hp.1.1)
  | x :: y :: z :: u :: r, _, _, _, hl => simp at hl
/-! ### records that lie in a file -/
def FineX (rs : List Rec) : Prop := ∀ r ∈ rs, r.kind < 256 ∧ r.pay.length ≤ 255 ∧ Byt r.pay ∧ r.lsn < 18446744073709551616
theorem fx_byt {rs : List Rec} (h : FineX rs) : Byt (encR rs) := by
  intro b hb
  obtain ⟨r, hr, hbr⟩ := List.mem_flatMap.1 hb
  obtain ⟨h1, _, h3, _⟩ := h r hr
  exact recBytes_byt r.lsn r.kind r.pay h1 h3 b hbr
theorem fx_good : ∀ (rs : List Rec), FineX rs → ∀ t, Good (encR rs ++ t) rs.length ∧ (st rs.length (encR rs ++ t)).1 = rs ∧ (st rs.length (encR rs ++ t)).2 = (encR rs).length := by
  intro rs
  refine List.reverseRecOn0 (motive := fun rs => FineX rs → ∀ t, Good (encR rs ++ t) rs.length ∧ (st rs.length (encR rs ++ t)).1 = rs ∧ (st rs.length (encR rs ++ t)).2 = (encR rs).length) rs ?_ ?_
  · intro _ t; exact ⟨good_zero _, rfl, rfl⟩
  · intro rs r ih hf t
    obtain ⟨k1, k2, k3, k4⟩ := hf r (by simp)
    have e : encR (rs ++ [r]) ++ t = encR rs ++ (recBytes r.lsn r.kind r.pay ++ t) := by rw [encR_snoc, List.append_assoc]
    rw [e]
    obtain ⟨h1, h2, h3⟩ := ih (fun x hx => hf x (by simp [hx])) (recBytes r.lsn r.kind r.pay ++ t)
    have hd : (encR rs ++ (recBytes r.lsn r.kind r.pay ++ t)).drop (st rs.length (encR rs ++ (recBytes r.lsn r.kind r.pay ++ t))).2 = recBytes r.lsn r.kind r.pay ++ t := by rw [h3]; exact drop_app _ _ _ rfl
    have el : (rs ++ [r]).length = rs.length + 1 := by simp
    rw [el]
    refine ⟨good_succ h1 (by rw [hd]; exact frame_yes _ _ _ t k2 k1 k3), ?_, ?_⟩
    · show (st rs.length (encR rs ++ (recBytes r.lsn r.kind r.pay ++ t))).1 ++ [recOf ((encR rs ++ (recBytes r.lsn r.kind r.pay ++ t)).drop (st rs.length (encR rs ++ (recBytes r.lsn r.kind r.pay ++ t))).2)] = _
      rw [hd, h2, frame_rec _ _ _ t k2 k4]
    · show (st rs.length (encR rs ++ (recBytes r.lsn r.kind r.pay ++ t))).2 + 15 + fLen ((encR rs ++ (recBytes r.lsn r.kind r.pay ++ t)).drop (st rs.length (encR rs ++ (recBytes r.lsn r.kind r.pay ++ t))).2) = _
      rw [hd, h3, encR_snoc, List.length_append, frame_len _ _ _ t k2, recBytes_len]
      omega
theorem fx_ended {rs : List Rec} (h : FineX rs) : Ended (encR rs) rs.length ∧ (st rs.length (encR rs)).1 = rs ∧ (st rs.length (encR rs)).2 = (encR rs).length := by
  obtain ⟨h1, h2, h3⟩ := fx_good rs h []
  rw [List.append_nil] at h1 h2 h3
  exact ⟨⟨h1, by rw [h3, List.drop_length]; exact frameOk_ffno (ffOk_short (by simp))⟩, h2, h3⟩
theorem equalIn_nilE (w : World) (d : Nat) (b : Int) :
    (Op.equalIn (d + 2) 90 .nilIface (.iface 30 (.int .i64 b))).run Tryz.prog w = .ok false w := by
  simp [Op.equalIn, run_underlying Tryz.underlying90]
theorem eql_nilE (w : World) (b : Int) :
    (binOp .eql 90 .nilIface (.iface 30 (.int .i64 b))).run Tryz.prog w = .ok (.bool false) w := by
  simp only [binOp]
  simp [Op.equal, Op.maxDepth, equalIn_nilE w 9998 b]
set_option maxRecDepth 100000 in
set_option maxHeartbeats 2000000 in
theorem is_nil (n : Int) (w : World) :
    Calls Tryz.prog 69 #[.nilIface, .iface 30 (.int .i64 n)] w fun ev w' => ev = .returned (.bool false) ∧ w' = w := by
  have he : ∀ w, (binOp .eql 90 .nilIface (.iface 30 (.int .i64 n))).run Tryz.prog w = .ok (.bool false) w := fun w => eql_nilE w n
  go_enter Tryz.func69, Tryz.ntmps69
  go_wp2
  go_ret
  exact ⟨rfl, rfl⟩
set_option maxRecDepth 100000 in
set_option maxHeartbeats 2000000 in
theorem readMark_some (B p bD bN n nD nN f : Nat) (pv : Value) (d : ADisk) (w : World) (h : DiskIn w B p bD bN pv d n nD nN) (hdn : d.down = false) (hno : d.now markNm = some (str (recBytes f 0 []))) (hf : f < 18446744073709551616) :
    Calls Tryz.prog 195 #[dskV p] w fun e w' => e = .returned (.tuple #[.int .u64 (f : Int), .nilIface]) ∧ Below w.heap.size w w' := by
  have hm := Tryz.mRead
  have hr := read_any B p bD bN n nD nN pv d markNm w h (by decide)
  have hfx : FineX [⟨f, 0, []⟩] := by intro r hr; simp at hr; subst hr; exact ⟨show 0 < 256 by decide, show 0 ≤ 255 by decide, by intro x hx; simp at hx, hf⟩
  have henc : encR [⟨f, 0, []⟩] = recBytes f 0 [] := by simp [encR]
  have e : d.read markNm = (some (str (encR [⟨f, 0, []⟩])), 0) := by unfold ADisk.read; rw [if_neg (by rw [hdn]; decide), hno, henc]
  have hel : (encR [⟨f, 0, []⟩]).length = 15 := by rw [henc, recBytes_len]; rfl
  clear h hno
  go_enter Tryz.func195, Tryz.ntmps195
  go_wp2_with fail
  refine hr.mono ?_
  clear hr
  rintro e1 w1 ⟨v, rfl, hgot, hb⟩
  rw [e] at hgot ⊢
  rw [errN_ok]
  have hsrc : Src w1 v (encR [⟨f, 0, []⟩]) := by
    have : Src w1 v (bytesOf (str (encR [⟨f, 0, []⟩]))) := hgot
    rwa [bytesOf_str (fx_byt hfx)] at this
  have hsc := scanW v (encR [⟨f, 0, []⟩]) w1 hsrc (fx_byt hfx) (by omega)
  obtain ⟨b2, o2, c2, rfl⟩ : ∃ b2 o2 c2, v = .slice (some ⟨b2, o2, none⟩) 15 c2 := by
    rcases hsrc with ⟨_, e⟩ | ⟨b, off, cap, e, _⟩
    · rw [e] at hel; simp at hel
    · exact ⟨b, off, cap, by rw [e, hel]⟩
  have HB : Hid (Below w.heap.size w w1) := hb
  clear hgot hsrc hb
  go_wp2_with fail
  refine (is_nil 8 w1).mono ?_
  rintro e2 w2 ⟨rfl, rfl⟩
  go_wp2_with fail
  refine hsc.mono ?_
  clear hsc
  rintro e3 w3 ⟨k, v3, rfl, hE, hrow, _, hb3⟩
  obtain ⟨z1, z2, z3⟩ := fx_ended hfx
  obtain rfl := ended_unique hE z1
  rw [z2] at hrow
  rw [z3, hel]
  obtain ⟨g3, c3, rfl⟩ := own_pos hrow (by simp)
  have q1 := hrow.cells (g := g3) rfl 0 (.int .u64 (f : Int)) (by simp [recsV, recCells])
  have q2 := hrow.cells (g := g3) rfl 1 (.int .u8 0) (by simp [recsV, recCells])
  have q3 := hrow.cells (g := g3) rfl 2 (.string (str [])) (by simp [recsV, recCells])
  simp only [Addr.add_lit, Nat.zero_add] at q1 q2 q3
  have HB3 : Hid (Below w.heap.size w w3) := HB.out.trans (hb3.mono HB.out.size)
  clear hE hrow hb3 z1 z2 z3
  go_wp2
  go_ret2
  exact ⟨rfl, HB3.out⟩
end Go.Proofs.YtejiankgafjppabGreatDoor
/- RECOVERY OVER FEW SEGMENTS: readSegment. (Written by mkrcc.py, from RecC.) -/
namespace Go.Proofs.YtejiankgafjppabGreatDoor
open Go.RowKit Go.Maps
open Sc

set_option maxRecDepth 100000 in
set_option maxHeartbeats 4000000 in
theorem readSegF (f B p bD bN n nD nN : Nat) (pv : Value) (d : ADisk) (rs : List Rec) (w : World) (h : DiskIn w B p bD bN pv d n nD nN) (hdn : d.down = false) (hrs : FineX rs) (hno : ∀ (k : Nat) (r : Rec), rs[k]? = some r → r.lsn = f + k) (hf : f + rs.length < 18446744073709551616) (hne : rs ≠ []) (hnow : d.now (segName f) = some (str (encR rs))) (hpow : Pows w) (hlen : rs.length ≤ 67108864) (hby : (encR rs).length ≤ 4096) :
    Calls Tryz.prog 243 #[dskV p, .int .u64 (f : Int)] w fun e w' => ∃ v, e = .returned (.tuple #[v, .int .i64 ((encR rs).length : Int), .nilIface]) ∧ w'.ownsRow w.heap.size 288 3 v rs.length (recsV rs) ∧ Below w.heap.size w w' := by
  have hm := Tryz.mRead
  have hna := Tryz.nilRead p
  have HI : Hid (DiskIn w B p bD bN pv d n nD nN ∧ d.read (segName f) = (some (str (encR rs)), 0)) := ⟨h, by unfold ADisk.read; rw [if_neg (by rw [hdn]; decide), hnow]⟩
  have HF : Hid (FineX rs ∧ ∀ (k : Nat) (r : Rec), rs[k]? = some r → r.lsn = f + k) := ⟨hrs, hno⟩
  clear h hnow hrs hno
  go_enter Tryz.func243, Tryz.ntmps243
  go_wp2
  go_region_held3 (fun _ => True)
    (trivial)
    (first
      | (go_at_call 183; refine (segmentName_any f w.drew (by omega) (show Pows w.drew from hpow)).mono ?_; rintro e w1 ⟨rfl, hb0⟩; have HB1 : Hid (Below w.heap.size w w1) := ⟨hb0.os, hb0.tape, hb0.output, hb0.size, hb0.block⟩; clear hb0)
      | (go_at_call 410; refine (read_any B p bD bN n nD nN pv d (segName f) w1 (HI.out.1.new (Fr.of_below HB1.out [])) (by have := segName_size f (by omega); unfold maxLen; omega)).mono ?_; rintro e w2 ⟨v2, rfl, hg2, hb2⟩))
  all_goals clear hm hna
  all_goals rw [HI.out.2] at hg2 ⊢
  all_goals rw [errN_ok]
  all_goals
    have hsrc : Src w2 v2 (encR rs) := by
      have : Src w2 v2 (bytesOf (str (encR rs))) := hg2
      rwa [bytesOf_str (fx_byt HF.out.1)] at this
    have hpos : 0 < (encR rs).length := by
      cases hr : rs with
      | nil => exact absurd hr hne
      | cons r l => simp [encR, recBytes_len]; omega
    have hrp : 0 < rs.length := List.length_pos_iff.2 hne
    have hsc := scanW v2 (encR rs) w2 hsrc (fx_byt HF.out.1) (by omega)
    have HB2 : Hid (Below w.heap.size w w2) := HB1.out.trans (hb2.mono HB1.out.size)
    obtain ⟨b2, o2, c2, rfl⟩ : ∃ b2 o2 c2, v2 = .slice (some ⟨b2, o2, none⟩) (encR rs).length c2 := by
      rcases hsrc with ⟨_, e⟩ | ⟨b, off, cap, e, _⟩
      · rw [e] at hpos; simp at hpos
      · exact ⟨b, off, cap, e⟩
    clear hg2 hb2 hsrc
    go_wp2_with fail
    refine hsc.mono ?_
    clear hsc
    rintro e w3 ⟨k, v3, rfl, hE, hrow, _, hb3⟩
    obtain ⟨z1, z2, z3⟩ := fx_ended HF.out.1
    obtain rfl := ended_unique hE z1
    rw [z2] at hrow
    rw [z3]
    obtain ⟨g3, c3, rfl⟩ := own_pos hrow hrp
    have HB3 : Hid (Below w.heap.size w w3) := HB2.out.trans (hb3.mono HB2.out.size)
    have HR3 : Hid (w3.ownsRow w2.heap.size 288 3 (.slice (some ⟨g3, 0, none⟩) rs.length c3) rs.length (recsV rs)) := hrow
    have hg3 := (hrow.lt g3 rfl).2
    have HC : Hid (∀ (k : Nat) (r : Rec), rs[k]? = some r → w3.cell? ⟨g3, k * 3, none⟩ = some (.int .u64 (r.lsn : Int)) ∧ w3.cell? ⟨g3, k * 3 + 1, none⟩ = some (.int .u8 (r.kind : Int)) ∧ w3.cell? ⟨g3, k * 3 + 2, none⟩ = some (.string (str r.pay))) := fun k r hk => by
      obtain ⟨hk1, rfl⟩ := List.getElem?_eq_some_iff.1 hk
      obtain ⟨a1, a2, a3⟩ := recsV_at rs k hk1
      have q1 := hrow.cells (g := g3) rfl _ _ a1
      have q2 := hrow.cells (g := g3) rfl _ _ a2
      have q3 := hrow.cells (g := g3) rfl _ _ a3
      simp only [Addr.add_lit, Nat.zero_add] at q1 q2 q3
      exact ⟨q1, q2, q3⟩
    clear hE z1 z2 z3 hrow hb3
    obtain ⟨m, hm0⟩ : ∃ m, m = rs.length := ⟨_, rfl⟩
    have HM : Hid (m = rs.length) := hm0
    rw [← hm0] at HR3 hlen hrp hf ⊢
    clear hm0
    obtain ⟨eb, heb⟩ : ∃ eb, eb = (encR rs).length := ⟨_, rfl⟩
    rw [← heb] at hby hpos ⊢
    have HE : Hid (eb = (encR rs).length) := heb
    clear heb
    go_wp2
    go_loopw [33] (fun i wr => ∃ k : Nat, k ≤ m ∧ i = .int .i64 k ∧ Hid (Below w3.heap.size w3 wr)) (fun i _ => m - (intOf i).toNat)
    case atStart => exact ⟨0, Nat.zero_le _, rfl, Below.refl _ _⟩
    case round =>
      obtain ⟨k, hk, rfl, hR⟩ := hrel
      by_cases hlt : k < m
      · obtain ⟨r, hr⟩ : ∃ r, rs[k]? = some r := ⟨_, List.getElem?_eq_getElem (by have := HM.out; omega)⟩
        obtain ⟨q1, q2, q3⟩ := HC.out k r hr
        have y1 := HF.out.2 k r hr
        rw [y1] at q1
        have r1 := (hR.out.cell (p := ⟨g3, k * 3, none⟩) hg3).trans q1
        have r2 := (hR.out.cell (p := ⟨g3, k * 3 + 1, none⟩) hg3).trans q2
        have r3 := (hR.out.cell (p := ⟨g3, k * 3 + 2, none⟩) hg3).trans q3
        have j1 : IntKind.u64.wrap (k : Int) = (k : Int) := by rw [IntKind.wrap_u64]; omega
        have j2 : IntKind.u64.wrap ((f : Int) + (k : Int)) = (f : Int) + (k : Int) := by rw [IntKind.wrap_u64]; omega
        have hrs := hR.out.size
        clear q1 q2 q3 y1 hr
        go_wp2
        go_roundw
        case rel => exact ⟨k + 1, by omega, by simp, hR.out.alloc hrs _⟩
        case measure => simp [intOf]; omega
      · obtain rfl : k = m := by omega
        go_wp2
        go_ret3
        refine ⟨.slice (some ⟨g3, 0, none⟩) k c3, by rw [← HE.out]; rfl, ?_, HB3.out.trans (hR.out.mono HB3.out.size)⟩
        rw [← HM.out]
        exact own_grow0 (own_base0 HR3.out HB2.out.size) hR.out
end Go.Proofs.YtejiankgafjppabGreatDoor
/- RECOVERY OVER FEW SEGMENTS: readOn. -/
namespace Go.Proofs.YtejiankgafjppabGreatDoor
open Go.RowKit Go.Maps
open Sc

section
variable {w w5 : World} {B lp p bD bN n nD nN : Nat} {pv sv rv v : Value} {l : ALog} {d : ADisk}
theorem LogIn.segsAt {ss : List Nat} (h : LogIn w B lp p bD bN pv sv rv l d n nD nN) (h5 : Fr sv.ownBlock.toList w w5) (ho : w5.ownsRow B 28 1 v ss.length (u64s ss)) (hnr : Near w.heap.size sv v) (hl : ss.length ≤ n ∧ ∀ s ∈ ss, s < 18446744073709551616) :
    LogIn (w5.setCell ⟨lp, 1, none⟩ v) B lp p bD bN pv v rv { l with segs := ss } d n nD nN ∧ OFr lp p w (w5.setCell ⟨lp, 1, none⟩ v) := by
  have hlp := (Array.getElem?_eq_some_iff.1 h.blk).1
  have hne : lp ∉ sv.ownBlock.toList := by simp; exact own_ne h.segs h.blk (by decide)
  have hb4 : w5.heap[lp]? = some (logO p sv rv l) := (h5.block lp hlp hne).trans h.blk
  obtain ⟨W, hW⟩ : ∃ W, W = w5.setCell ⟨lp, 1, none⟩ v := ⟨_, rfl⟩
  rw [← hW]
  have hfw : Fr [lp] w5 W := by rw [hW]; exact Fr.set1 (by simp) _ _
  have hf : Fr (lp :: sv.ownBlock.toList) w W := (h5.mono (fun k _ hk => List.mem_cons_of_mem _ hk)).trans (hfw.mono (by intro k _ hk; simp at hk; simp [hk]))
  have hb : W.heap[lp]? = some (logO p v rv { l with segs := ss }) := by
    rw [hW]
    have := blk_set hb4 1 v
    simpa using this
  have hs : W.ownsRow B 28 1 v ss.length (u64s ss) := ownsRow_fr ho hfw (fun g hg => by simp; intro e; subst e; exact own_ne ho hb4 (by decide) hg)
  have hr : W.ownsRow B 288 3 rv l.recs.length (recsV l.recs) := ownsRow_fr h.recs hf (fun g hg hm => by
    rcases List.mem_cons.1 hm with e | hm
    · subst e; exact own_ne h.recs h.blk (by decide) hg
    · simp at hm; obtain ⟨c, hcc⟩ := own_cells h.segs hm; exact own_ne h.recs hcc (by decide) hg)
  have hl2 : LogIn W B lp p bD bN pv v rv { l with segs := ss } d n nD nN := h.rows (n' := n) hf (by intro k hk _; rcases List.mem_cons.1 hk with e | hk; exact .inl e; simp at hk; exact .inr (.inl hk)) hb hs hr (Nat.le_refl _) h.disk.hn hl h.recsN h.fillN h.nextN h.durN
  exact ⟨hl2, h.ofr hl2 hf (by intro k hk _; rcases List.mem_cons.1 hk with e | hk; simp [e]; simp at hk; simp [hk]) (.inl rfl) (Near.refl _ _) hnr (Near.refl _ _)⟩
theorem LogIn.recsAt {rs : List Rec} (h : LogIn w B lp p bD bN pv sv rv l d n nD nN) (h5 : Fr rv.ownBlock.toList w w5) (ho : w5.ownsRow B 288 3 v rs.length (recsV rs)) (hnr : Near w.heap.size rv v) (hl : rs.length ≤ n) :
    LogIn (w5.setCell ⟨lp, 3, none⟩ v) B lp p bD bN pv sv v { l with recs := rs } d n nD nN ∧ OFr lp p w (w5.setCell ⟨lp, 3, none⟩ v) := by
  have hlp := (Array.getElem?_eq_some_iff.1 h.blk).1
  have hne : lp ∉ rv.ownBlock.toList := by simp; exact own_ne h.recs h.blk (by decide)
  have hb4 : w5.heap[lp]? = some (logO p sv rv l) := (h5.block lp hlp hne).trans h.blk
  obtain ⟨W, hW⟩ : ∃ W, W = w5.setCell ⟨lp, 3, none⟩ v := ⟨_, rfl⟩
  rw [← hW]
  have hfw : Fr [lp] w5 W := by rw [hW]; exact Fr.set1 (by simp) _ _
  have hf : Fr (lp :: rv.ownBlock.toList) w W := (h5.mono (fun k _ hk => List.mem_cons_of_mem _ hk)).trans (hfw.mono (by intro k _ hk; simp at hk; simp [hk]))
  have hb : W.heap[lp]? = some (logO p sv v { l with recs := rs }) := by
    rw [hW]
    have := blk_set hb4 3 v
    simpa using this
  have hr : W.ownsRow B 288 3 v rs.length (recsV rs) := ownsRow_fr ho hfw (fun g hg => by simp; intro e; subst e; exact own_ne ho hb4 (by decide) hg)
  have hs : W.ownsRow B 28 1 sv l.segs.length (u64s l.segs) := ownsRow_fr h.segs hf (fun g hg hm => by
    rcases List.mem_cons.1 hm with e | hm
    · subst e; exact own_ne h.segs h.blk (by decide) hg
    · simp at hm; obtain ⟨c, hcc⟩ := own_cells h.recs hm; exact own_ne h.segs hcc (by decide) hg)
  have hl2 : LogIn W B lp p bD bN pv sv v { l with recs := rs } d n nD nN := h.rows (n' := n) hf (by intro k hk _; rcases List.mem_cons.1 hk with e | hk; exact .inl e; simp at hk; exact .inr (.inr hk)) hb hs hr (Nat.le_refl _) h.disk.hn h.segsN hl h.fillN h.nextN h.durN
  exact ⟨hl2, h.ofr hl2 hf (by intro k hk _; rcases List.mem_cons.1 hk with e | hk; simp [e]; simp at hk; simp [hk]) (.inl rfl) (Near.refl _ _) (Near.refl _ _) hnr⟩
end
theorem recsV_app (a b : List Rec) : recsV (a ++ b) = recsV a ++ recsV b := by simp [recsV]
set_option maxRecDepth 100000 in
set_option maxHeartbeats 4000000 in
theorem readOn_any (B lp p bD bN n nD nN : Nat) (pv sv rv : Value) (l : ALog) (d : ADisk) (rs : List Rec) (w : World) (h : LogIn w B lp p bD bN pv sv rv l d n nD nN) (hdn : d.down = false) (hrs : FineX rs) (hno : ∀ (k : Nat) (r : Rec), rs[k]? = some r → r.lsn = l.next + k) (hne : rs ≠ []) (hnow : d.now (segName l.next) = some (str (encR rs))) (hpow : Pows w) (hlen : l.recs.length + rs.length ≤ n) (hsn : l.segs.length + 1 ≤ n) (hnx : l.next + rs.length ≤ n + 1) (hby : (encR rs).length ≤ 4096) :
    Calls Tryz.prog 198 #[.pointer (some ⟨lp, 0, none⟩), .int .u64 (l.next : Int)] w fun e w' => e = .returned (.tuple #[.bool true, .nilIface]) ∧ (∃ sv rv, LogIn w' B lp p bD bN pv sv rv ⟨l.segs ++ [l.next], (encR rs).length, l.recs ++ rs, l.next + rs.length, l.durable, l.failed⟩ d n nD nN) ∧ OFr lp p w w' := by
  have hn := h.disk.hn
  have hBw := h.disk.base.2.2.2
  have c0 := blk_cell h.blk 0
  have c4 := blk_cell h.blk 4
  simp at c0 c4
  have hlpw : lp < w.heap.size := (Array.getElem?_eq_some_iff.1 h.blk).1
  have hS := readSegF l.next B p bD bN n nD nN pv d rs w h.disk hdn hrs hno (by omega) hne hnow hpow (by omega) hby
  have HI : Hid (LogIn w B lp p bD bN pv sv rv l d n nD nN) := h
  obtain ⟨i0, hi, hz0, hz1, hz2⟩ := info_parts Tryz.infoU64
  obtain ⟨j0, hj, ha0, ha1, ha2⟩ := info_parts Tryz.infoRec
  have hrp : 0 < rs.length := List.length_pos_iff.2 hne
  clear h hrs hne hnow hno
  go_enter Tryz.func198, Tryz.ntmps198
  go_wp2_with fail
  refine hS.mono ?_
  clear hS
  rintro e w1 ⟨vr, rfl, hrow, hb1⟩
  obtain ⟨g1, k1, rfl⟩ := own_pos hrow hrp
  have hf1 : Fr [] w w1 := Fr.of_below hb1 []
  have hl1 := HI.out.new hf1
  have ho1 := HI.out.newO hf1
  have H1 : Hid (LogIn w1 B lp p bD bN pv sv rv l d n nD nN ∧ OFr lp p w w1 ∧ w1.ownsRow w.heap.size 288 3 (.slice (some ⟨g1, 0, none⟩) rs.length k1) rs.length (recsV rs)) := ⟨hl1, ho1, hrow⟩
  have d1 := blk_cell hl1.blk 1
  have d2 := blk_cell hl1.blk 2
  have d3 := blk_cell hl1.blk 3
  have d4 := blk_cell hl1.blk 4
  have e1 := blk_free hl1.blk 1
  have e2 := blk_free hl1.blk 2
  have e3 := blk_free hl1.blk 3
  have e4 := blk_free hl1.blk 4
  simp at d1 d2 d3 d4
  have hw1 := hb1.size
  have hg1 := hrow.lt g1 rfl
  have hrl : ¬ ((rs.length : Int) = 0) := by omega
  obtain ⟨m, hm0⟩ : ∃ m, m = rs.length := ⟨_, rfl⟩
  obtain ⟨eb, heb⟩ : ∃ eb, eb = (encR rs).length := ⟨_, rfl⟩
  have HME : Hid (m = rs.length ∧ eb = (encR rs).length) := ⟨hm0, heb⟩
  rw [← hm0] at H1 hrp hrl hlen hnx ⊢
  rw [← heb] at hby ⊢
  obtain ⟨nx, hnx0⟩ : ∃ nx, nx = l.next := ⟨_, rfl⟩
  have HNX : Hid (nx = l.next) := hnx0
  rw [← hnx0] at hnx c4 d4 ⊢
  have hG1 : ∃ c, w1.heap[g1]? = some (.cells c 288 (0, 0)) := own_cells hrow rfl
  have HC : Hid (∀ (j : Nat) (u : Value), (recsV rs)[j]? = some u → w1.cell? ⟨g1, j, none⟩ = some u) := fun j u hj => by
    have := H1.out.2.2.cells (g := g1) rfl j u hj
    simpa [Addr.add_lit] using this
  have HG : Hid (¬ g1 = lp ∧ sv.ownBlock ≠ some g1 ∧ rv.ownBlock ≠ some g1) := by
    obtain ⟨c, hcc⟩ := hG1
    refine ⟨by omega, own_ne hl1.segs hcc (by decide), fun e => ?_⟩
    have := (HI.out.recs.lt g1 e).2
    omega
  clear hrow hb1 hf1 hl1 ho1 c0 hm0 heb hnx0 hG1
  have lp1 : lp < w1.heap.size := by omega
  have lp2 : ¬ lp = w1.heap.size := by omega
  have lp3 : ¬ w1.heap.size = lp := by omega
  have j64 : IntKind.u64.wrap (m : Int) = (m : Int) := by rw [IntKind.wrap_u64]; omega
  have j65 : IntKind.u64.wrap ((nx : Int) + (m : Int)) = (nx : Int) + (m : Int) := by rw [IntKind.wrap_u64]; omega
  go_wp2_with (first
    | (at_builtin; refine wpList_append_own_at _ rfl _ _ 220 rfl B 28 i0 _ 1 8 Tryz.underlying220 hi hz0 hz1 hz2 rfl (by decide) _ l.segs.length (u64s l.segs) rfl (H1.out.1.segs.alloc _) ⟨w1.heap.size, 0, none⟩ 1 1 [.int .u64 (nx : Int)] rfl rfl (cells_new _ #[.int .u64 (nx : Int)] _) (by intro u hu; simp at hu; subst hu; rfl) (by unfold maxLen; omega) (by omega) (by simp; omega) ?_; intro v2 w2 hown2 hgrow2 _ hat2; obtain ⟨gs, cs, rfl⟩ := own_pos hown2 (by omega); have hf2 : Fr sv.ownBlock.toList w1 w2 := ((Fr.refl _ w1).alloc _).trans (Fr.of_grown hgrow2); have H2 := toHid (H1.out.1.segsAt (v := .slice (some ⟨gs, 0, none⟩) (l.segs.length + 1) cs) (ss := l.segs ++ [nx]) hf2 (by rw [u64s_snoc, List.length_append]; exact hown2) (Near.of_at hat2 (by simp)) ⟨by simpa using hsn, by intro x hx; rcases List.mem_append.1 hx with hx | hx; exact H1.out.1.segsN.2 x hx; simp at hx; omega⟩); have hz2 := hf2.size; have hb2 := (hf2.block lp lp1 (by simp; exact own_ne H1.out.1.segs H1.out.1.blk (by decide))).trans H1.out.1.blk; have q1 := blk_cell hb2 1; have q2 := blk_cell hb2 2; have q3 := blk_cell hb2 3; have q4 := blk_cell hb2 4; have p1 := blk_free hb2 1; have p2 := blk_free hb2 2; have p3 := blk_free hb2 3; have p4 := blk_free hb2 4; simp at q1 q2 q3 q4; rw [← HNX.out] at q4; have HF2 := toHid hf2; clear hown2 hgrow2 hat2 hf2 hb2 d1 d2 d3 d4 e1 e2 e3 e4)
    | (at_builtin; refine wpList_append_own_at _ rfl _ _ 227 rfl B 288 j0 _ 3 32 Tryz.underlying227 hj ha0 ha1 ha2 rfl (by decide) _ l.recs.length (recsV l.recs) rfl H2.out.1.recs ⟨g1, 0, none⟩ m k1 (recsV rs) rfl (by rw [recsV_len, HME.out.1]) (fun j u hj => by rw [show ((⟨g1, 0, none⟩ : Addr).add j) = ⟨g1, j, none⟩ from by simp [Addr.add]; exact fun h => h.symm]; exact (World.cell?_of_block (a := ⟨g1, j, none⟩) ((Below.heap_setCell _ _ _ g1 (fun e => HG.out.1 (by simpa using e))).trans (HF2.out.block g1 hg1.2 (by simp; exact HG.out.2.1)))).trans (HC.out j u hj)) (recsV_one rs) (by unfold maxLen; omega) (by omega) H2.out.1.disk.base.2.2.2 ?_; intro v3 w3 hown3 hgrow3 _ hat3; obtain ⟨gr, cr, rfl⟩ := own_pos hown3 (by omega); have hf3 := Fr.of_grown hgrow3; have H3 := toHid (H2.out.1.recsAt (v := .slice (some ⟨gr, 0, none⟩) (l.recs.length + m) cr) (rs := l.recs ++ rs) hf3 (by rw [recsV_app, List.length_append, ← HME.out.1]; exact hown3) (Near.of_at hat3 (Nat.le_refl _)) (by rw [List.length_append, ← HME.out.1]; exact hlen)); have hb3 := (hf3.block lp (Array.getElem?_eq_some_iff.1 H2.out.1.blk).1 (by simp; exact own_ne H2.out.1.recs H2.out.1.blk (by decide))).trans H2.out.1.blk; have t2 := blk_cell hb3 2; have t3 := blk_cell hb3 3; have t4 := blk_cell hb3 4; have u2 := blk_free hb3 2; have u3 := blk_free hb3 3; have u4 := blk_free hb3 4; simp at t2 t3 t4; rw [← HNX.out] at t4; clear hown3 hgrow3 hat3 hf3 hb3 q1 q2 q3 q4 p1 p2 p3 p4))
  go_ret2
  obtain ⟨W5, hW5⟩ : ∃ W5, W5 = w3.setCell ⟨lp, 3, none⟩ (.slice (some ⟨gr, 0, none⟩) (l.recs.length + m) cr) := ⟨_, rfl⟩
  have h5 := H3.out
  rw [← hW5] at h5 ⊢
  obtain ⟨W6, hW6⟩ : ∃ W6, W6 = (W5.setCell ⟨lp, 4, none⟩ (.int .u64 ((nx : Int) + (m : Int)))).setCell ⟨lp, 2, none⟩ (.int .i64 (eb : Int)) := ⟨_, rfl⟩
  rw [← hW6]
  have hf6 : Fr [lp] W5 W6 := by rw [hW6]; exact (Fr.set1 (by simp) _ _).trans (Fr.set1 (by simp) _ _)
  have hb6 : W6.heap[lp]? = some (logO p (.slice (some ⟨gs, 0, none⟩) (l.segs.length + 1) cs) (.slice (some ⟨gr, 0, none⟩) (l.recs.length + m) cr) ⟨l.segs ++ [l.next], (encR rs).length, l.recs ++ rs, l.next + rs.length, l.durable, l.failed⟩) := by
    have := blk_set (blk_set h5.1.blk 4 (.int .u64 ((nx : Int) + (m : Int)))) 2 (.int .i64 (eb : Int))
    rw [hW6]
    simp [← HME.out.1, ← HME.out.2, ← HNX.out] at this ⊢
    exact this
  have hl6 : LogIn W6 B lp p bD bN pv (.slice (some ⟨gs, 0, none⟩) (l.segs.length + 1) cs) (.slice (some ⟨gr, 0, none⟩) (l.recs.length + m) cr) ⟨l.segs ++ [l.next], (encR rs).length, l.recs ++ rs, l.next + rs.length, l.durable, l.failed⟩ d n nD nN := by
    have h5' := h5.1
    rw [HNX.out] at h5'
    exact h5'.own1 hf6 hb6 h5'.segsN h5'.recsN (by show (encR rs).length ≤ 4096; rw [← HME.out.2]; exact hby) (by show l.next + rs.length ≤ n + 1; rw [← HME.out.1, ← HNX.out]; exact hnx) h5'.durN rfl rfl
  exact ⟨rfl, ⟨_, _, hl6⟩, ((H1.out.2.1.trans H2.out.2).trans h5.2).trans (h5.1.ofr hl6 hf6 (fun k hk _ => by simp at hk; simp [hk]) (.inl rfl) (Near.refl _ _) (Near.refl _ _) (Near.refl _ _))⟩
end Go.Proofs.YtejiankgafjppabGreatDoor
