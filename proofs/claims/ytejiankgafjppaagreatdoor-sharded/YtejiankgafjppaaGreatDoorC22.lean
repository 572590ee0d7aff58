import Derived.Test.YtejiankgafjppaaGreatDoorC18
import Derived.Test.YtejiankgafjppaaGreatDoorC21
import Derived.Test.YtejiankgafjppaaGreatDoorProg
import Derived.Shelf.Small.Bits
import Derived.Shelf.Small.Wraps
import Derived.Shelf.Strconv.Itoa0
import Derived.Shelf.Strconv.Itoa1
import Derived.Shelf.LaysM
import Derived.Shelf.Strconv.Itoa2
import Derived.Shelf.Strconv.Itoa3
import Derived.Shelf.Strconv.Clone
import Derived.Ground.MpProg
import Derived.Shelf.Pu.ParseUintPublic10
import Derived.Shelf.Sort.Plain
import Derived.Shelf.Strings.Prefix
import Derived.Shelf.Slices.In.SortNone
import Derived.Shelf.Slices.In.SortNone2
import Derived.Ground.SlgnProg
import Derived.Shelf.SlicesE.Clone
import Derived.Shelf.SlIter.Nil
import Derived.Ground.GgzProg
import Derived.Test.YtejiankgafjppaaGreatDoorC02
import Derived.Shelf.AbstractIn
import Derived.RangeFuncNested
/- A SHARD AND ITS LEDGER: Commit, Abort. -/
namespace Go.Proofs.YtejiankgafjppaaGreatDoor
open Go.RowKit Go.Maps
open Sc

/-- nothing has turned but what is the shard's or its log's, and new blocks -/
structure SFr (sp bV bT bH lp p : Nat) (w w' : World) : Prop where
  os : w'.os = w.os
  tape : w'.tape = w.tape
  output : w'.output = w.output
  size : w.heap.size ≤ w'.heap.size
  block : ∀ k, k < w.heap.size → ¬ Own lp p w k → k ∉ [sp, bV, bT, bH] → w'.heap[k]? = w.heap[k]?
  stay : ∀ k, k < w.heap.size → Own lp p w' k → Own lp p w k
theorem SFr.trans {sp bV bT bH lp p : Nat} {a b c : World} (h : SFr sp bV bT bH lp p a b) (k : SFr sp bV bT bH lp p b c) : SFr sp bV bT bH lp p a c :=
  ⟨k.os.trans h.os, k.tape.trans h.tape, k.output.trans h.output, Nat.le_trans h.size k.size,
    fun i hi hn hm => (k.block i (Nat.lt_of_lt_of_le hi h.size) (fun ho => hn (h.stay i hi ho)) hm).trans (h.block i hi hn hm),
    fun i hi ho => h.stay i hi (k.stay i (Nat.lt_of_lt_of_le hi h.size) ho)⟩
theorem OFr.s {sp bV bT bH lp p : Nat} {a b : World} (h : OFr lp p a b) : SFr sp bV bT bH lp p a b := ⟨h.os, h.tape, h.output, h.size, fun i hi hn _ => h.block i hi hn, h.stay⟩
/-- a shard, its ledger's log, and its disk -/
structure SL (w : World) (B sp gp bV bT bH m lp p bD bN n : Nat) (s : AShard) (l : ALog) (d : ADisk) : Prop where
  sh : ShIn w sp gp bV bT bH m s
  lg : ∃ pv sv rv nD nN, LogIn w B lp p bD bN pv sv rv l d n nD nN
  ap : ShLog w sp gp bV bT bH bD bN lp
  gp1 : 1 ≤ gp
section
variable {w w' : World} {B sp gp bV bT bH m m' lp p bD bN n n' : Nat} {s s' : AShard} {l l' : ALog} {d d' : ADisk}
theorem SL.turn {S : List Nat} (h : SL w B sp gp bV bT bH m lp p bD bN n s l d) (hs : ShIn w' sp gp bV bT bH m' s') (hf : Fr S w w') (hS : ∀ k ∈ S, k ∈ [sp, bV, bT, bH]) : SL w' B sp gp bV bT bH m' lp p bD bN n s' l d ∧ SFr sp bV bT bH lp p w w' := by
  obtain ⟨pv, sv, rv, nD, nN, hl⟩ := h.lg
  obtain ⟨h1, h2⟩ := hl.shard h.sh h.ap hf hS
  refine ⟨⟨hs, ⟨pv, sv, rv, nD, nN, h1⟩, h2, h.gp1⟩, hf.os, hf.tape, hf.output, hf.size, fun k hk _ hm => hf.block k hk (fun hx => hm (hS k hx)), fun k _ ho => ?_⟩
  rw [hl.own]
  exact (h1.own k).1 ho
theorem SL.new (h : SL w B sp gp bV bT bH m lp p bD bN n s l d) (hf : Fr [] w w') : SL w' B sp gp bV bT bH m lp p bD bN n s l d ∧ SFr sp bV bT bH lp p w w' :=
  h.turn (h.sh.fr hf (by simp) (by simp) (by simp) (by simp)) hf (by simp)
theorem SL.log (h : SL w B sp gp bV bT bH m lp p bD bN n s l d) (hf : OFr lp p w w') (hl : ∃ pv sv rv nD nN, LogIn w' B lp p bD bN pv sv rv l' d' n' nD nN) : SL w' B sp gp bV bT bH m lp p bD bN n' s l' d' ∧ SFr sp bV bT bH lp p w w' := by
  obtain ⟨pv, sv, rv, nD, nN, h1⟩ := h.lg
  obtain ⟨a, b⟩ := h.sh.ofr h1 h.ap hf
  exact ⟨⟨a, hl, b, h.gp1⟩, hf.s⟩
end
set_option maxRecDepth 100000 in
set_option maxHeartbeats 2000000 in
theorem state_eq (sp lg bV bT bH n t : Nat) (s : AShard) (w : World) (h : ShIn w sp lg bV bT bH n s) (ht : t < 18446744073709551616) :
    Calls Tryz.prog 129 #[.pointer (some ⟨sp, 0, none⟩), .int .u64 (t : Int)] w fun e w' => e = .returned (.int .i64 ((s.txn t).state : Int)) ∧ w' = w := by
  have c2 := blk_cell h.blk 2
  simp at c2
  have hl := h.lookT ht
  have hf0 := fieldT0
  obtain ⟨T, hT⟩ : ∃ T, T = s.txn t := ⟨_, rfl⟩
  rw [← hT] at hl ⊢
  clear h hT
  go_enter Tryz.func129, Tryz.ntmps129
  go_wp2
  go_ret
  exact ⟨rfl, rfl⟩
set_option maxRecDepth 100000 in
set_option maxHeartbeats 4000000 in
theorem commit_none (sp gp bV bT bH m t : Nat) (s : AShard) (w : World) (h : ShIn w sp gp bV bT bH m s) (ht : t < 18446744073709551616) (hst : t = 0 ∨ (s.txn t).state ≠ 3) :
    Calls Tryz.prog 63 #[.pointer (some ⟨sp, 0, none⟩), .int .u64 (t : Int)] w fun e w' => e = .returned (errN (if t = 0 then 7 else if (s.txn t).state = 0 then 0 else 4)) ∧ w' = w := by
  have hsa := state_eq sp gp bV bT bH m t s w h ht
  clear h
  by_cases h0 : t = 0
  · rw [if_pos h0]
    subst h0
    clear hst hsa
    go_enter Tryz.func63, Tryz.ntmps63
    go_wp2
    go_ret
    exact ⟨by rw [errN_no (by decide)]; rfl, rfl⟩
  · rw [if_neg h0]
    have i0 : ¬ (t : Int) = 0 := by omega
    by_cases hz : (s.txn t).state = 0
    · rw [if_pos hz]
      rw [hz] at hsa
      clear hst
      go_enter Tryz.func63, Tryz.ntmps63
      go_wp2_with fail
      refine hsa.mono ?_
      clear hsa
      rintro e w1 ⟨rfl, rfl⟩
      go_wp2
      go_ret
      exact ⟨rfl, rfl⟩
    · rw [if_neg hz]
      have j1 : ¬ ((s.txn t).state : Int) = 0 := by omega
      have j2 : (((s.txn t).state : Int) != 3) = true := by simp; omega
      clear hst
      go_enter Tryz.func63, Tryz.ntmps63
      go_wp2_with fail
      refine hsa.mono ?_
      rintro e w1 ⟨rfl, rfl⟩
      go_wp2_with fail
      refine hsa.mono ?_
      rintro e w2 ⟨rfl, rfl⟩
      clear hsa
      go_wp2
      go_ret
      exact ⟨by rw [errN_no (by decide)]; rfl, rfl⟩
/-- what Commit of one that is prepared leaves -/
def Committed (s s' : AShard) (t : Nat) : Prop := ∃ vs, s' = AShard.forget { s with vals := vs } t ∧ ∀ k, alLook vs k = gripped (alLook s.holds (t, k)) (alLook s.vals k)
section
variable (B sp gp bV bT bH m lp p bD bN n t c : Nat) (s : AShard) (l : ALog) (d : ADisk) (w : World)
set_option maxRecDepth 100000 in
set_option maxHeartbeats 4000000 in
theorem commit_yes (h : SL w B sp gp bV bT bH m lp p bD bN n s l d) (ht : t < 18446744073709551616) (h0 : t ≠ 0) (hst : (s.txn t).state = 3) (hn : n + 3 < 67108864) (hB : 2 ≤ B) (hsg : l.filled < 600 → l.segs ≠ []) (hpow : Pows w) (hm : m + c < maxLen) (hc : s.count t ≤ c) (hv : ∀ p ∈ s.holds, p.2.val.size ≤ maxLen) :
    Calls Tryz.prog 63 #[.pointer (some ⟨sp, 0, none⟩), .int .u64 (t : Int)] w fun e w' => e = .returned (errN (l.keep d 2 (str (be 8 t))).2.2) ∧ (∃ s', SL w' B sp gp bV bT bH (m + c) lp p bD bN (n + 3) s' (l.keep d 2 (str (be 8 t))).1 (l.keep d 2 (str (be 8 t))).2.1 ∧ (if (l.keep d 2 (str (be 8 t))).2.2 = 0 then Committed s s' t else s' = s)) ∧ SFr sp bV bT bH lp p w w' := by
  have hsa := state_eq sp gp bV bT bH m t s w h.sh ht
  rw [hst] at hsa
  have i0 : ¬ (t : Int) = 0 := by omega
  have c0 := blk_cell h.sh.blk 0
  simp at c0
  rw [lgP_pos h.gp1] at c0
  have hsp := h.sh.lts.1
  have hde := decided_any t w.drew ht
  have HO : Hid (Once1 s.holds) := by obtain ⟨_, _, _, h3, _⟩ := h.sh.holds; exact h3
  have HK : Hid (∀ w1, Fr [] w w1 → Calls Tryz.prog 134 #[.pointer (some ⟨gp, 0, none⟩), .int .u8 2, .string (str (be 8 t))] w1 fun e w2 => e = .returned (errN (l.keep d 2 (str (be 8 t))).2.2) ∧ SL w2 B sp gp bV bT bH m lp p bD bN (n + 3) s (l.keep d 2 (str (be 8 t))).1 (l.keep d 2 (str (be 8 t))).2.1 ∧ SFr sp bV bT bH lp p w w2) := fun w1 hf1 => by
    obtain ⟨h1, hs1⟩ := h.new hf1
    obtain ⟨pv, sv, rv, nD, nN, hl⟩ := h1.lg
    have hp1 : Pows w1 := hpow.of_block (hf1.block 1 (by obtain ⟨_, _, _, _, _, h2⟩ := h.lg; have := h2.disk.base.2.2.2; omega) (by simp))
    refine (keep_any B gp lp p bD bN n nD nN 2 pv sv rv l d (str (be 8 t)) w1 h1.ap.led hl (by omega) hn hB hsg hp1).mono ?_
    rintro e w2 ⟨he, hl2, ho2⟩
    obtain ⟨h2, hs2⟩ := h1.log ho2 hl2
    exact ⟨he, h2, hs1.trans hs2⟩
  have HH : Hid (SL w B sp gp bV bT bH m lp p bD bN n s l d) := h
  have HC : Hid (s.count t ≤ c ∧ ∀ p ∈ s.holds, p.2.val.size ≤ maxLen) := ⟨hc, hv⟩
  clear h hc hv hsg
  obtain ⟨R, hR⟩ : ∃ R, R = l.keep d 2 (str (be 8 t)) := ⟨_, rfl⟩
  rw [← hR] at HK ⊢
  clear hR
  go_enter Tryz.func63, Tryz.ntmps63
  go_wp2_with fail
  refine hsa.mono ?_
  rintro e w1 ⟨rfl, rfl⟩
  go_wp2_with fail
  refine hsa.mono ?_
  rintro e w2 ⟨rfl, rfl⟩
  clear hsa
  go_wp2
  go_region_held3 (fun w' => w'.cell? ⟨sp, 0, none⟩ = some (.pointer (some ⟨gp, 0, none⟩)))
    (simp [*])
    (first
      | (go_at_call 133; refine hde.mono ?_; rintro e w3 ⟨rfl, hb3⟩; have hf3 : Fr [] w2 w3 := ⟨hb3.os, hb3.tape, hb3.output, hb3.size, fun k hk _ => hb3.block k hk⟩; have p0 : w3.cell? ⟨sp, 0, none⟩ = some (.pointer (some ⟨gp, 0, none⟩)) := (World.cell?_of_block (a := ⟨sp, 0, none⟩) (hf3.block sp hsp (by simp))).trans c0; have H3 : Hid (Fr [] w2 w3) := hf3; clear hb3 hf3)
      | (go_at_call 134; refine (HK.out w3 H3.out).mono ?_; rintro e w4 ⟨rfl, h4, hs4⟩; have q0 : w4.cell? ⟨sp, 0, none⟩ = some (.pointer (some ⟨gp, 0, none⟩)) := (blk_cell h4.sh.blk 0).trans (by simp [lgP_pos h4.gp1]); have H4 : Hid (SL w4 B sp gp bV bT bH m lp p bD bN (n + 3) s R.1 R.2.1 ∧ SFr sp bV bT bH lp p w2 w4) := ⟨h4, hs4⟩; clear h4 hs4))
  by_cases hr : R.2.2 = 0
  · rw [hr, errN_ok]
    go_wp2_with fail
    refine (apply_any sp gp bV bT bH m t c s w4 H4.out.1.sh ht hm (fun L h1 h2 => by rw [AShard.count_of HO.out h1 h2]; exact HC.out.1) HC.out.2).mono ?_
    rintro e w5 ⟨rfl, vs, hs5, hlk, hf5⟩
    obtain ⟨h5, hx5⟩ := H4.out.1.turn hs5 hf5 (by simp)
    have H5 : Hid (SL w5 B sp gp bV bT bH (m + c) lp p bD bN (n + 3) (AShard.forget { s with vals := vs } t) R.1 R.2.1 ∧ SFr sp bV bT bH lp p w2 w5) := ⟨h5, H4.out.2.trans hx5⟩
    clear hs5 hf5 h5 hx5
    go_wp2
    go_ret
    exact ⟨rfl, ⟨_, H5.out.1, ⟨vs, rfl, hlk⟩⟩, H5.out.2⟩
  · rw [errN_no hr]
    go_wp2
    go_ret
    exact ⟨by rw [errN_no hr]; rfl, ⟨H4.out.1.sh.mono (Nat.le_add_right _ _), H4.out.1.lg, H4.out.1.ap, H4.out.1.gp1⟩, H4.out.2⟩
set_option maxRecDepth 100000 in
set_option maxHeartbeats 4000000 in
theorem abort_none (h : ShIn w sp gp bV bT bH m s) (ht : t < 18446744073709551616) (hst : t = 0 ∨ (s.txn t).state ≠ 3) :
    Calls Tryz.prog 62 #[.pointer (some ⟨sp, 0, none⟩), .int .u64 (t : Int)] w fun e w' => e = .returned (errN (if t = 0 then 7 else 0)) ∧ ShIn w' sp gp bV bT bH m (if t = 0 then s else s.forget t) ∧ Fr [bT, bH] w w' := by
  have hsa := state_eq sp gp bV bT bH m t s w h ht
  by_cases h0 : t = 0
  · rw [if_pos h0, if_pos h0]
    subst h0
    have HI : Hid (ShIn w sp gp bV bT bH m s) := h
    clear hst hsa h
    go_enter Tryz.func62, Tryz.ntmps62
    go_wp2
    go_ret
    exact ⟨by rw [errN_no (by decide)]; rfl, HI.out, Fr.refl _ _⟩
  · rw [if_neg h0, if_neg h0]
    have i0 : ¬ (t : Int) = 0 := by omega
    have j1 : ¬ ((s.txn t).state : Int) = 3 := by omega
    have hfo := forget_any sp gp bV bT bH m t s w h ht
    clear hst h
    go_enter Tryz.func62, Tryz.ntmps62
    go_wp2_with fail
    refine hsa.mono ?_
    rintro e w1 ⟨rfl, rfl⟩
    go_wp2_with fail
    refine hfo.mono ?_
    clear hsa hfo
    rintro e w2 ⟨rfl, h2, hf2⟩
    have H2 : Hid (ShIn w2 sp gp bV bT bH m (s.forget t) ∧ Fr [bT, bH] w1 w2) := ⟨h2, hf2⟩
    clear h2 hf2
    go_wp2
    go_ret
    exact ⟨rfl, H2.out⟩
set_option maxRecDepth 100000 in
set_option maxHeartbeats 4000000 in
theorem abort_yes (h : SL w B sp gp bV bT bH m lp p bD bN n s l d) (ht : t < 18446744073709551616) (h0 : t ≠ 0) (hst : (s.txn t).state = 3) (hn : n + 3 < 67108864) (hB : 2 ≤ B) (hsg : l.filled < 600 → l.segs ≠ []) (hpow : Pows w) :
    Calls Tryz.prog 62 #[.pointer (some ⟨sp, 0, none⟩), .int .u64 (t : Int)] w fun e w' => e = .returned (errN (l.note d 3 (str (be 8 t))).2.2) ∧ SL w' B sp gp bV bT bH m lp p bD bN (n + 3) (if (l.note d 3 (str (be 8 t))).2.2 = 0 then s.forget t else s) (l.note d 3 (str (be 8 t))).1 (l.note d 3 (str (be 8 t))).2.1 ∧ SFr sp bV bT bH lp p w w' := by
  have hsa := state_eq sp gp bV bT bH m t s w h.sh ht
  rw [hst] at hsa
  have i0 : ¬ (t : Int) = 0 := by omega
  have c0 := blk_cell h.sh.blk 0
  simp at c0
  rw [lgP_pos h.gp1] at c0
  have hsp := h.sh.lts.1
  have hde := decided_any t w.drew ht
  have HK : Hid (∀ w1, Fr [] w w1 → Calls Tryz.prog 132 #[.pointer (some ⟨gp, 0, none⟩), .int .u8 3, .string (str (be 8 t))] w1 fun e w2 => e = .returned (errN (l.note d 3 (str (be 8 t))).2.2) ∧ SL w2 B sp gp bV bT bH m lp p bD bN (n + 3) s (l.note d 3 (str (be 8 t))).1 (l.note d 3 (str (be 8 t))).2.1 ∧ SFr sp bV bT bH lp p w w2) := fun w1 hf1 => by
    obtain ⟨h1, hs1⟩ := h.new hf1
    obtain ⟨pv, sv, rv, nD, nN, hl⟩ := h1.lg
    have hp1 : Pows w1 := hpow.of_block (hf1.block 1 (by obtain ⟨_, _, _, _, _, h2⟩ := h.lg; have := h2.disk.base.2.2.2; omega) (by simp))
    refine (note_any B gp lp p bD bN n nD nN 3 pv sv rv l d (str (be 8 t)) w1 h1.ap.led hl (by omega) hn hB hsg hp1).mono ?_
    rintro e w2 ⟨he, hl2, ho2⟩
    obtain ⟨h2, hs2⟩ := h1.log ho2 hl2
    exact ⟨he, h2, hs1.trans hs2⟩
  clear h hsg
  obtain ⟨R, hR⟩ : ∃ R, R = l.note d 3 (str (be 8 t)) := ⟨_, rfl⟩
  rw [← hR] at HK ⊢
  clear hR
  go_enter Tryz.func62, Tryz.ntmps62
  go_wp2_with fail
  refine hsa.mono ?_
  rintro e w2 ⟨rfl, rfl⟩
  clear hsa
  go_wp2
  go_region_held3 (fun w' => w'.cell? ⟨sp, 0, none⟩ = some (.pointer (some ⟨gp, 0, none⟩)))
    (simp [*])
    (first
      | (go_at_call 133; refine hde.mono ?_; rintro e w3 ⟨rfl, hb3⟩; have hf3 : Fr [] w2 w3 := ⟨hb3.os, hb3.tape, hb3.output, hb3.size, fun k hk _ => hb3.block k hk⟩; have p0 : w3.cell? ⟨sp, 0, none⟩ = some (.pointer (some ⟨gp, 0, none⟩)) := (World.cell?_of_block (a := ⟨sp, 0, none⟩) (hf3.block sp hsp (by simp))).trans c0; have H3 : Hid (Fr [] w2 w3) := hf3; clear hb3 hf3)
      | (go_at_call 132; refine (HK.out w3 H3.out).mono ?_; rintro e w4 ⟨rfl, h4, hs4⟩; have q0 : w4.cell? ⟨sp, 0, none⟩ = some (.pointer (some ⟨gp, 0, none⟩)) := (blk_cell h4.sh.blk 0).trans (by simp [lgP_pos h4.gp1]); have H4 : Hid (SL w4 B sp gp bV bT bH m lp p bD bN (n + 3) s R.1 R.2.1 ∧ SFr sp bV bT bH lp p w2 w4) := ⟨h4, hs4⟩; clear h4 hs4))
  by_cases hr : R.2.2 = 0
  · rw [hr, errN_ok]
    go_wp2_with fail
    refine (forget_any sp gp bV bT bH m t s w4 H4.out.1.sh ht).mono ?_
    rintro e w5 ⟨rfl, hs5, hf5⟩
    obtain ⟨h5, hx5⟩ := H4.out.1.turn hs5 hf5 (by simp)
    have H5 : Hid (SL w5 B sp gp bV bT bH m lp p bD bN (n + 3) (s.forget t) R.1 R.2.1 ∧ SFr sp bV bT bH lp p w2 w5) := ⟨h5, H4.out.2.trans hx5⟩
    clear hs5 hf5 h5 hx5
    go_wp2
    go_ret
    exact ⟨rfl, H5.out.1, H5.out.2⟩
  · rw [errN_no hr]
    go_wp2
    go_ret
    exact ⟨by rw [errN_no hr]; rfl, H4.out.1, H4.out.2⟩
end
end Go.Proofs.YtejiankgafjppaaGreatDoor
namespace Go.Proofs
open Go.Shelf
def Tryz.lays190_ren : Go.Shelf.Ren := ⟨fun | 190 => 307 | 125 => 305 | 258 => 339 | 128 => 337 | 129 => 292 | 302 => 361 | 303 => 362 | 304 => 363 | 305 => 364 | 306 => 365 | 307 => 366 | 308 => 367 | 309 => 368 | 310 => 369 | 333 => 377 | 329 => 357 | 330 => 358 | 334 => 378 | 335 => 379 | 336 => 380 | 344 => 390 | n => n, fun | 31 => 25 | 9 => 9 | 3 => 3 | 46 => 39 | 0 => 0 | 51 => 251 | 53 => 34 | 4 => 4 | 183 => 421 | 182 => 420 | 131 => 313 | 5 => 5 | 218 => 444 | 222 => 447 | 228 => 461 | 229 => 462 | n => n, fun | n => n⟩
theorem Tryz.lays190 : Go.Proofs.Lays.n190 Tryz.prog Tryz.lays190_ren := {
  mixed := by kernel_rfl
  f125 := Tryz.func305.trans (congrArg some (by kernel_rfl))
  f128 := Tryz.func337.trans (congrArg some (by kernel_rfl))
  f129 := Tryz.func292.trans (congrArg some (by kernel_rfl))
  f190 := Tryz.func307.trans (congrArg some (by kernel_rfl))
  f258 := Tryz.func339.trans (congrArg some (by kernel_rfl))
  f302 := Tryz.func361.trans (congrArg some (by kernel_rfl))
  f303 := Tryz.func362.trans (congrArg some (by kernel_rfl))
  f304 := Tryz.func363.trans (congrArg some (by kernel_rfl))
  f305 := Tryz.func364.trans (congrArg some (by kernel_rfl))
  f306 := Tryz.func365.trans (congrArg some (by kernel_rfl))
  f307 := Tryz.func366.trans (congrArg some (by kernel_rfl))
  f308 := Tryz.func367.trans (congrArg some (by kernel_rfl))
  f309 := Tryz.func368.trans (congrArg some (by kernel_rfl))
  f310 := Tryz.func369.trans (congrArg some (by kernel_rfl))
  f329 := Tryz.func357.trans (congrArg some (by kernel_rfl))
  f330 := Tryz.func358.trans (congrArg some (by kernel_rfl))
  f333 := Tryz.func377.trans (congrArg some (by kernel_rfl))
  f334 := Tryz.func378.trans (congrArg some (by kernel_rfl))
  f335 := Tryz.func379.trans (congrArg some (by kernel_rfl))
  f336 := Tryz.func380.trans (congrArg some (by kernel_rfl))
  f344 := Tryz.func390.trans (congrArg some (by kernel_rfl))
  t0 := Tryz.underlying0
  a0 := Tryz.isAgg0
  z0 := Tryz.sizeOf0
  v0 := Tryz.zeroValue0
  t3 := Tryz.underlying3
  a3 := Tryz.isAgg3
  z3 := Tryz.sizeOf3
  v3 := Tryz.zeroValue3
  t4 := Tryz.underlying4
  a4 := Tryz.isAgg4
  z4 := Tryz.sizeOf4
  v4 := Tryz.zeroValue4
  t5 := Tryz.underlying5
  a5 := Tryz.isAgg5
  z5 := Tryz.sizeOf5
  v5 := Tryz.zeroValue5
  t9 := Tryz.underlying9
  a9 := Tryz.isAgg9
  z9 := Tryz.sizeOf9
  v9 := Tryz.zeroValue9
  t31 := Tryz.underlying25
  a31 := Tryz.isAgg25
  z31 := Tryz.sizeOf25
  v31 := Tryz.zeroValue25
  t46 := Tryz.underlying39
  a46 := Tryz.isAgg39
  z46 := Tryz.sizeOf39
  v46 := Tryz.zeroValue39
  t51 := Tryz.underlying251
  a51 := Tryz.isAgg251
  z51 := Tryz.sizeOf251
  v51 := Tryz.zeroValue251
  t53 := Tryz.underlying34
  a53 := Tryz.isAgg34
  z53 := Tryz.sizeOf34
  v53 := Tryz.zeroValue34
  t131 := Tryz.underlying313
  a131 := Tryz.isAgg313
  z131 := Tryz.sizeOf313
  v131 := Tryz.zeroValue313
  t182 := Tryz.underlying420
  a182 := Tryz.isAgg420
  z182 := Tryz.sizeOf420
  v182 := Tryz.zeroValue420
  t183 := Tryz.underlying421
  a183 := Tryz.isAgg421
  z183 := Tryz.sizeOf421
  v183 := Tryz.zeroValue421
  t218 := Tryz.underlying444
  a218 := Tryz.isAgg444
  z218 := Tryz.sizeOf444
  v218 := Tryz.zeroValue444
  t222 := Tryz.underlying447
  a222 := Tryz.isAgg447
  z222 := Tryz.sizeOf447
  v222 := Tryz.zeroValue447
  t228 := Tryz.underlying461
  a228 := Tryz.isAgg461
  z228 := Tryz.sizeOf461
  v228 := Tryz.zeroValue461
  t229 := Tryz.underlying462
  a229 := Tryz.isAgg462
  z229 := Tryz.sizeOf462
  v229 := Tryz.zeroValue462 }
open Go.Sort Go.RowKit in
theorem Tryz.slices_Sort_string (blk off cap : Nat) (ss : List (List UInt8)) (w : World) (hH : Holds encStr w blk off ss.toArray) (hblk : blk < w.heap.size) (hsz : ss.length < 4611686018427387904) :
    Calls Tryz.prog 307 #[.slice (some ⟨blk, off, none⟩) ss.length cap] w fun e w' =>
      e = .returned (.tuple #[]) ∧ ∃ n os, w' = grow (putRow encStr (Sort.ahead w n) blk off (ss.mergeSort fun x y => decide (x ≤ y)).toArray) os := Any.slices_Sort_string Tryz.lays190 blk off cap ss w hH hblk hsz
open Go.RowKit Go.Sort in
theorem Tryz.slices_Sort_string_none (p : Option Addr) (cap : Nat) (w : World) :
    Calls Tryz.prog 307 #[.slice p 0 cap] w fun e w' => e = .returned (.tuple #[]) ∧ w' = w := Any.slices_Sort_string_none Tryz.lays190 p cap w
def Tryz.keysG_ren : Go.Shelf.Ren := ⟨fun | 7 => 302 | 10 => 328 | n => n, fun | 23 => 267 | 26 => 9 | 3 => 189 | 28 => 357 | 0 => 0 | 27 => 356 | 33 => 401 | 4 => 4 | n => n, fun | n => n⟩
theorem Tryz.keysG : Go.Proofs.SlLaysZ.n7 Tryz.prog Tryz.keysG_ren := {
  mixed := by kernel_rfl
  f7 := ⟨Tryz.f302.name, by decide, Tryz.func302.trans (congrArg some (by kernel_rfl))⟩
  f10 := ⟨Tryz.f328.name, by decide, Tryz.func328.trans (congrArg some (by kernel_rfl))⟩
  t0 := Tryz.underlying0
  a0 := Tryz.isAgg0
  z0 := Tryz.sizeOf0
  v0 := Tryz.zeroValue0
  t4 := Tryz.underlying4
  a4 := Tryz.isAgg4
  z4 := Tryz.sizeOf4
  v4 := Tryz.zeroValue4
  t23 := Tryz.underlying267
  a23 := Tryz.isAgg267
  z23 := Tryz.sizeOf267
  v23 := Tryz.zeroValue267
  t26 := Tryz.underlying9
  a26 := Tryz.isAgg9
  z26 := Tryz.sizeOf9
  v26 := Tryz.zeroValue9
  t27 := Tryz.underlying356
  a27 := Tryz.isAgg356
  z27 := Tryz.sizeOf356
  v27 := Tryz.zeroValue356
  t28 := Tryz.underlying357
  a28 := Tryz.isAgg357
  z28 := Tryz.sizeOf357
  v28 := Tryz.zeroValue357
  t33 := Tryz.underlying401
  a33 := Tryz.isAgg401
  z33 := Tryz.sizeOf401
  v33 := Tryz.zeroValue401 }
def Tryz.keysV_ren : Go.Shelf.Ren := ⟨fun | 7 => 262 | 10 => 308 | n => n, fun | 23 => 181 | 26 => 9 | 3 => 9 | 28 => 357 | 0 => 0 | 27 => 356 | 33 => 401 | 4 => 4 | n => n, fun | n => n⟩
theorem Tryz.keysV : Go.Proofs.SlLaysZ.n7 Tryz.prog Tryz.keysV_ren := {
  mixed := by kernel_rfl
  f7 := ⟨Tryz.f262.name, by decide, Tryz.func262.trans (congrArg some (by kernel_rfl))⟩
  f10 := ⟨Tryz.f308.name, by decide, Tryz.func308.trans (congrArg some (by kernel_rfl))⟩
  t0 := Tryz.underlying0
  a0 := Tryz.isAgg0
  z0 := Tryz.sizeOf0
  v0 := Tryz.zeroValue0
  t4 := Tryz.underlying4
  a4 := Tryz.isAgg4
  z4 := Tryz.sizeOf4
  v4 := Tryz.zeroValue4
  t23 := Tryz.underlying181
  a23 := Tryz.isAgg181
  z23 := Tryz.sizeOf181
  v23 := Tryz.zeroValue181
  t26 := Tryz.underlying9
  a26 := Tryz.isAgg9
  z26 := Tryz.sizeOf9
  v26 := Tryz.zeroValue9
  t27 := Tryz.underlying356
  a27 := Tryz.isAgg356
  z27 := Tryz.sizeOf356
  v27 := Tryz.zeroValue356
  t28 := Tryz.underlying357
  a28 := Tryz.isAgg357
  z28 := Tryz.sizeOf357
  v28 := Tryz.zeroValue357
  t33 := Tryz.underlying401
  a33 := Tryz.isAgg401
  z33 := Tryz.sizeOf401
  v33 := Tryz.zeroValue401 }
def Tryz.sortedS_ren : Go.Shelf.Ren := ⟨fun | 6 => 261 | 8 => 306 | 9 => 307 | 11 => 338 | 13 => 305 | 12 => 339 | 23 => 337 | 24 => 292 | 14 => 361 | 15 => 362 | 16 => 363 | 17 => 364 | 18 => 365 | 19 => 366 | 20 => 367 | 21 => 368 | 22 => 369 | 25 => 377 | 26 => 357 | 27 => 358 | 28 => 378 | 29 => 379 | 30 => 380 | 31 => 390 | n => n, fun | 26 => 9 | 28 => 357 | 24 => 25 | 0 => 0 | 3 => 3 | 37 => 39 | 48 => 251 | 50 => 34 | 4 => 4 | 40 => 421 | 39 => 420 | 45 => 313 | 5 => 5 | 9 => 9 | 51 => 444 | 55 => 447 | 57 => 461 | 58 => 462 | 33 => 401 | n => n, fun | n => n⟩
theorem Tryz.sortedS : Go.Proofs.SlLaysZ.n6 Tryz.prog Tryz.sortedS_ren := {
  mixed := by kernel_rfl
  f6 := ⟨Tryz.f261.name, by decide, Tryz.func261.trans (congrArg some (by kernel_rfl))⟩
  f8 := ⟨Tryz.f306.name, by decide, Tryz.func306.trans (congrArg some (by kernel_rfl))⟩
  f11 := ⟨Tryz.f338.name, by decide, Tryz.func338.trans (congrArg some (by kernel_rfl))⟩
  t0 := Tryz.underlying0
  a0 := Tryz.isAgg0
  z0 := Tryz.sizeOf0
  v0 := Tryz.zeroValue0
  t24 := Tryz.underlying25
  a24 := Tryz.isAgg25
  z24 := Tryz.sizeOf25
  v24 := Tryz.zeroValue25
  t26 := Tryz.underlying9
  a26 := Tryz.isAgg9
  z26 := Tryz.sizeOf9
  v26 := Tryz.zeroValue9
  t28 := Tryz.underlying357
  a28 := Tryz.isAgg357
  z28 := Tryz.sizeOf357
  v28 := Tryz.zeroValue357
  i26 := by kernel_rfl }
end Go.Proofs
/- slices.Sorted(maps.Keys(m)) at maps keyed by strings. (Written by mkbyk.py.) -/
namespace Go.Proofs.YtejiankgafjppaaGreatDoor
open Go.RowKit Go.Maps Go.Shelf Go.Sort
open Sc

/-- a map's keys, sorted -/
def sortK {V : Type} (L : List (ByteArray × V)) : List ByteArray := ((L.map fun p => p.1.data.toList).mergeSort leB).map fun b => ⟨b.toArray⟩
theorem sortK_len {V : Type} (L : List (ByteArray × V)) : (sortK L).length = L.length := by simp [sortK]
theorem sortK_mem {V : Type} {L : List (ByteArray × V)} {k : ByteArray} : k ∈ sortK L ↔ ∃ v, (k, v) ∈ L := by
  unfold sortK
  simp only [List.mem_map, List.mem_mergeSort]
  constructor
  · rintro ⟨x, ⟨p, hp, rfl⟩, rfl⟩
    exact ⟨p.2, by simpa using hp⟩
  · rintro ⟨v, hv⟩
    exact ⟨k.data.toList, ⟨(k, v), hv, rfl⟩, by simp⟩
theorem sortsS (m : Nat) : AnyZ.SortsIn Tryz.prog Tryz.sortedS_ren Fence.wide m :=
  ⟨fun blk off cap ss W hH hblk hsz => callsIn_wide.2 (Tryz.slices_Sort_string blk off cap ss W hH hblk hsz), fun p cap W => callsIn_wide.2 (Tryz.slices_Sort_string_none p cap W)⟩
theorem strKeys_perm {V : Type} {ER : ElRep V} {es : List (Lit × DataW Unit)} {L : List (ByteArray × V)} (h : es.Perm (L.map (litOf KS ER))) : (strKeys (DataW.map es)).Perm (L.map fun p => p.1.data.toList) := by
  show (es.map fun p => strOf p.1).Perm _
  refine (h.map _).trans ?_
  rw [List.map_map]
  exact List.Perm.refl _
set_option maxHeartbeats 1000000 in
theorem sortedKeysG (n : Nat) (hn : 5 ≤ n) (b m : Nat) (L : List (ByteArray × AGrip)) (w : World) (hL : MapAs KS EG w b m L) (hm : m ≤ 67108864) :
    (CallsIn Fence.wide n Tryz.prog 302 #[.map (some b)] w fun e w' => e = .returned (.func (.func 328) #[] #[.pointer (some ⟨w.heap.size, 0, none⟩)]) ∧ w' = w.alloc (.cells #[.map (some b)] 267)) ∧
    (CallsIn Fence.wide n Tryz.prog 261 #[.func (.func 328) #[] #[.pointer (some ⟨w.heap.size, 0, none⟩)]] (w.alloc (.cells #[.map (some b)] 267)) fun e w' => ∃ v, e = .returned v ∧ w'.ownsRow w.heap.size 9 1 v L.length ((sortK L).map Value.string) ∧ (v = .slice none 0 0 ↔ L.length = 0) ∧ Below w.heap.size w w') := by
  obtain ⟨es, hown, hp, h1, hok⟩ := hL
  have hlen : Maps.size (DataW.map es) = L.length := by rw [Maps.size_eq, hp.length_eq, List.length_map]
  have hsz := hown.size_le
  have hbl := hown.lt
  have hseq : SeqGives Fence.wide (n - 1 - 1 - 1) Tryz.prog 328 #[.pointer (some ⟨w.heap.size, 0, none⟩)] encStr (fun ss => ss.Perm (strKeys (DataW.map es))) (Maps.size (DataW.map es)) (w.alloc (.cells #[.map (some b)] 267)) :=
    AnyZ.keys_gives (ρ := Tryz.keysG_ren) { Tryz.keysG with } Fence.wide _ trivial rfl (by omega) w.heap.size b m (DataW.map es) _ (by simp) (by simp) (by
      obtain ⟨es', clock, hb, Ft, hs, hD⟩ := hown
      exact ⟨es', clock, (Below.heap_alloc _ _ b hbl).trans hb, Ft, hs, hD⟩)
  refine ⟨AnyZ.keys_in Tryz.keysG Fence.wide n trivial rfl _ w, ?_⟩
  have cS := AnyZ.sorted_in Tryz.sortedS Fence.wide n trivial trivial trivial trivial rfl (by omega) (sortsS _) (enters_of Tryz.func307 (by kernel_rfl) rfl) 328 #[.pointer (some ⟨w.heap.size, 0, none⟩)] trivial (enters_of Tryz.func328 (by kernel_rfl) rfl) _ _ (by unfold maxLen; omega) (by omega) _ hseq
  change CallsIn _ _ Tryz.prog 261 _ _ _ at cS
  refine cS.mono ?_
  rintro e w' ⟨v, ss, rfl, hS, hrow, hnil, hb⟩
  have hpm := hS.trans (strKeys_perm hp)
  have el : ss.length = L.length := by rw [hpm.length_eq, List.length_map]
  have es2 : (ss.mergeSort fun x y => decide (x ≤ y)).map encStr = (sortK L).map Value.string := by
    have := mergeSort_of_perm hpm
    unfold sortK
    rw [show (ss.mergeSort fun x y => decide (x ≤ y)) = ss.mergeSort leB from rfl, this, List.map_map]
    rfl
  rw [el, es2] at hrow
  refine ⟨v, rfl, ownsRow_base_a hrow (by simp), by rw [hnil, ← el]; exact List.length_eq_zero_iff.symm, ((Below.refl _ w).alloc (Nat.le_refl _) _).trans (hb.mono (by simp))⟩
set_option maxHeartbeats 1000000 in
theorem sortedKeysV (n : Nat) (hn : 5 ≤ n) (b m : Nat) (L : List (ByteArray × ByteArray)) (w : World) (hL : MapAs KS ES w b m L) (hm : m ≤ 67108864) :
    (CallsIn Fence.wide n Tryz.prog 262 #[.map (some b)] w fun e w' => e = .returned (.func (.func 308) #[] #[.pointer (some ⟨w.heap.size, 0, none⟩)]) ∧ w' = w.alloc (.cells #[.map (some b)] 181)) ∧
    (CallsIn Fence.wide n Tryz.prog 261 #[.func (.func 308) #[] #[.pointer (some ⟨w.heap.size, 0, none⟩)]] (w.alloc (.cells #[.map (some b)] 181)) fun e w' => ∃ v, e = .returned v ∧ w'.ownsRow w.heap.size 9 1 v L.length ((sortK L).map Value.string) ∧ (v = .slice none 0 0 ↔ L.length = 0) ∧ Below w.heap.size w w') := by
  obtain ⟨es, hown, hp, h1, hok⟩ := hL
  have hlen : Maps.size (DataW.map es) = L.length := by rw [Maps.size_eq, hp.length_eq, List.length_map]
  have hsz := hown.size_le
  have hbl := hown.lt
  have hseq : SeqGives Fence.wide (n - 1 - 1 - 1) Tryz.prog 308 #[.pointer (some ⟨w.heap.size, 0, none⟩)] encStr (fun ss => ss.Perm (strKeys (DataW.map es))) (Maps.size (DataW.map es)) (w.alloc (.cells #[.map (some b)] 181)) :=
    AnyZ.keys_gives (ρ := Tryz.keysV_ren) { Tryz.keysV with } Fence.wide _ trivial rfl (by omega) w.heap.size b m (DataW.map es) _ (by simp) (by simp) (by
      obtain ⟨es', clock, hb, Ft, hs, hD⟩ := hown
      exact ⟨es', clock, (Below.heap_alloc _ _ b hbl).trans hb, Ft, hs, hD⟩)
  refine ⟨AnyZ.keys_in Tryz.keysV Fence.wide n trivial rfl _ w, ?_⟩
  have cS := AnyZ.sorted_in Tryz.sortedS Fence.wide n trivial trivial trivial trivial rfl (by omega) (sortsS _) (enters_of Tryz.func307 (by kernel_rfl) rfl) 308 #[.pointer (some ⟨w.heap.size, 0, none⟩)] trivial (enters_of Tryz.func308 (by kernel_rfl) rfl) _ _ (by unfold maxLen; omega) (by omega) _ hseq
  change CallsIn _ _ Tryz.prog 261 _ _ _ at cS
  refine cS.mono ?_
  rintro e w' ⟨v, ss, rfl, hS, hrow, hnil, hb⟩
  have hpm := hS.trans (strKeys_perm hp)
  have el : ss.length = L.length := by rw [hpm.length_eq, List.length_map]
  have es2 : (ss.mergeSort fun x y => decide (x ≤ y)).map encStr = (sortK L).map Value.string := by
    have := mergeSort_of_perm hpm
    unfold sortK
    rw [show (ss.mergeSort fun x y => decide (x ≤ y)) = ss.mergeSort leB from rfl, this, List.map_map]
    rfl
  rw [el, es2] at hrow
  refine ⟨v, rfl, ownsRow_base_a hrow (by simp), by rw [hnil, ← el]; exact List.length_eq_zero_iff.symm, ((Below.refl _ w).alloc (Nat.le_refl _) _).trans (hb.mono (by simp))⟩
end Go.Proofs.YtejiankgafjppaaGreatDoor
/- WALKS THROUGH MAPS BY THEIR KEYS: small facts. -/
namespace Go.Proofs.YtejiankgafjppaaGreatDoor
open Go.RowKit Go.Maps
open Sc

theorem cell_blk0 {w : World} {p : Nat} {c : Array Value} {t : TypeId} (h : w.heap[p]? = some (.cells c t (0, 0))) (i : Nat) : w.cell? ⟨p, i, none⟩ = c[i]? := by simp [World.cell?, h]
theorem own_pos0 {w : World} {B n : Nat} {e : TypeId} {k : Nat} {v : Value} {xs : List Value} (h : w.ownsRow B e k v n xs) (hn : 0 < n) : ∃ g cap, v = .slice (some ⟨g, 0, none⟩) n cap := by
  rcases h.2 with ⟨_, h3⟩ | ⟨g, cap, cur, rfl, _⟩
  · omega
  · exact ⟨g, cap, rfl⟩
theorem own_form0 {w : World} {B n : Nat} {e : TypeId} {k : Nat} {v : Value} {xs : List Value} (h : w.ownsRow B e k v n xs) : ∃ p cap, v = .slice p n cap := by
  rcases h.2 with ⟨rfl, rfl⟩ | ⟨g, cap, cur, rfl, _⟩
  · exact ⟨_, _, rfl⟩
  · exact ⟨_, _, rfl⟩
theorem own_base0 {w : World} {B B' n : Nat} {e : TypeId} {k : Nat} {v : Value} {xs : List Value} (h : w.ownsRow B e k v n xs) (hB : B' ≤ B) : w.ownsRow B' e k v n xs := by
  refine ⟨h.1, ?_⟩
  rcases h.2 with h2 | ⟨g, cap, cur, hv, hb, r⟩
  · exact .inl h2
  · exact .inr ⟨g, cap, cur, hv, Nat.le_trans hB hb, r⟩
theorem cells_new (w : World) (cs : Array Value) (t : TypeId) : ∀ j u, cs.toList[j]? = some u → (w.alloc (.cells cs t)).cell? ((⟨w.heap.size, 0, none⟩ : Addr).add j) = some u := by
  intro j u hj
  have hn : (w.alloc (.cells cs t)).heap[w.heap.size]? = some (.cells cs t (0, 0)) := World.alloc_heap_new w _
  have : ((⟨w.heap.size, 0, none⟩ : Addr).add j) = ⟨w.heap.size, j, none⟩ := by simp [Addr.add]; exact fun h => h.symm
  rw [this, cell_blk0 hn]
  simpa using hj
/-- what a round keeps: blocks of these two types -/
structure KpT (t1 t2 : TypeId) (n₀ : Nat) (A B : World) : Prop where
  below : Below n₀ A B
  same : ∀ (k : Nat) (c : Array Value) (t : TypeId), (t = t1 ∨ t = t2) → A.heap[k]? = some (Obj.cells c t (0, 0)) → B.heap[k]? = A.heap[k]?
theorem KpT.trans {t1 t2 : TypeId} {n₀ : Nat} {A B C : World} (h : KpT t1 t2 n₀ A B) (k : KpT t1 t2 n₀ B C) : KpT t1 t2 n₀ A C :=
  ⟨h.below.trans k.below, fun i c t ht hi => by have e := h.same i c t ht hi; exact (k.same i c t ht (e.trans hi)).trans e⟩
theorem KpT.book {t1 t2 : TypeId} {n₀ : Nat} {w : World} (hn : n₀ ≤ w.heap.size) (W : World) (l : Nat) (o o' : Obj) (hl : w.heap.size ≤ l) (h : W.heap[l]? = some o) (hc : o.isCells = false) (hw : o.isWalk = false) : KpT t1 t2 n₀ W (W.putObj l o') :=
  ⟨belowK_b hn W l o o' hl h hc hw, fun k _ _ _ hk => World.putObj_heap_other (fun e => by rw [e, h] at hk; cases hk; cases hc)⟩
theorem KpT.alloc {t1 t2 : TypeId} {n₀ : Nat} (W : World) (hn : n₀ ≤ W.heap.size) (o : Obj) : KpT t1 t2 n₀ W (W.alloc o) :=
  ⟨(Below.refl n₀ W).alloc hn o, fun k _ _ _ hk => Below.heap_alloc _ _ k (Array.getElem?_eq_some_iff.1 hk).1⟩
/-- the row that a variable's slice owns -/
def RowOf (box : Nat) (A : World) (k : Nat) : Prop := ∃ v, A.cell? ⟨box, 0, none⟩ = some v ∧ v.ownBlock = some k
/-- what a round keeps: blocks of these two types, but the row that a variable's slice owns -/
structure KpB (t1 t2 : TypeId) (n₀ box : Nat) (A B : World) : Prop where
  below : Below n₀ A B
  same : ∀ (k : Nat) (c : Array Value) (t : TypeId), (t = t1 ∨ t = t2) → A.heap[k]? = some (Obj.cells c t (0, 0)) → ¬ RowOf box A k → B.heap[k]? = A.heap[k]?
  stay : ∀ k, k < A.heap.size → RowOf box B k → RowOf box A k
theorem KpB.trans {t1 t2 : TypeId} {n₀ box : Nat} {A B C : World} (h : KpB t1 t2 n₀ box A B) (k : KpB t1 t2 n₀ box B C) : KpB t1 t2 n₀ box A C :=
  ⟨h.below.trans k.below, fun i c t ht hi hn => by
    have hl := (Array.getElem?_eq_some_iff.1 hi).1
    have e := h.same i c t ht hi hn
    exact (k.same i c t ht (e.trans hi) (fun hr => hn (h.stay i hl hr))).trans e,
   fun i hi hr => h.stay i hi (k.stay i (Nat.lt_of_lt_of_le hi h.below.size) hr)⟩
theorem KpB.book {t1 t2 : TypeId} {n₀ box : Nat} {w : World} (hn : n₀ ≤ w.heap.size) (hb : box < w.heap.size) (W : World) (l : Nat) (o o' : Obj) (hl : w.heap.size ≤ l) (h : W.heap[l]? = some o) (hc : o.isCells = false) (hw : o.isWalk = false) : KpB t1 t2 n₀ box W (W.putObj l o') :=
  ⟨belowK_b hn W l o o' hl h hc hw, fun k _ _ _ hk _ => World.putObj_heap_other (fun e => by rw [e, h] at hk; cases hk; cases hc), fun k _ hr => by
    obtain ⟨v, h1, h2⟩ := hr
    refine ⟨v, ?_, h2⟩
    rw [← h1]
    exact (World.cell?_of_block (a := ⟨box, 0, none⟩) (World.putObj_heap_other (show box ≠ l by omega))).symm⟩
theorem KpB.alloc {t1 t2 : TypeId} {n₀ box : Nat} (W : World) (hn : n₀ ≤ W.heap.size) (hb : box < W.heap.size) (o : Obj) : KpB t1 t2 n₀ box W (W.alloc o) :=
  ⟨(Below.refl n₀ W).alloc hn o, fun k _ _ _ hk _ => Below.heap_alloc _ _ k (Array.getElem?_eq_some_iff.1 hk).1, fun k _ hr => by
    obtain ⟨v, h1, h2⟩ := hr
    refine ⟨v, ?_, h2⟩
    rw [← h1]
    exact (World.cell?_of_block (a := ⟨box, 0, none⟩) (Below.heap_alloc _ _ box hb)).symm⟩
theorem KpB.refl {t1 t2 : TypeId} {n₀ box : Nat} (W : World) : KpB t1 t2 n₀ box W W := ⟨Below.refl _ _, fun _ _ _ _ _ _ => rfl, fun _ _ h => h⟩
/-- a slice that a variable holds was appended to -/
theorem KpB.appended {t1 t2 t : TypeId} {n₀ box : Nat} {W w1 : World} {v v' : Value} {tmp : Obj} (hv : Boxed W box t v) (ht1 : t ≠ t1) (ht2 : t ≠ t2) (hg : (W.alloc tmp).grownBy w1 v.ownBlock) (hat : v'.ownBlock = v.ownBlock ∨ v'.ownBlock = some (W.alloc tmp).heap.size) (hb : Below n₀ W (w1.setCell ⟨box, 0, none⟩ v')) (hv2 : Boxed (w1.setCell ⟨box, 0, none⟩ v') box t v') : KpB t1 t2 n₀ box W (w1.setCell ⟨box, 0, none⟩ v') :=
  ⟨hb, fun k c t' ht hk hn => by
    have hl := (Array.getElem?_eq_some_iff.1 hk).1
    have hne : k ≠ box := fun e => by
      subst e
      rw [show W.heap[k]? = _ from hv] at hk
      have e2 := (Obj.cells.inj (Option.some.inj hk)).2.1
      rcases ht with rfl | rfl
      · exact ht1 e2
      · exact ht2 e2
    refine (Below.heap_setCell _ _ _ k (fun e => hne (by simpa using e))).trans ((hg.block k (by simp; omega) (fun e => hn ⟨v, hv.cell, e.symm⟩)).trans (Below.heap_alloc _ _ k hl)),
   fun k hk hr => by
    obtain ⟨u, h1, h2⟩ := hr
    rw [hv2.cell] at h1
    cases h1
    rcases hat with e | e
    · exact ⟨v, hv.cell, by rw [← e]; exact h2⟩
    · rw [e] at h2
      simp at h2
      omega⟩
end Go.Proofs.YtejiankgafjppaaGreatDoor
