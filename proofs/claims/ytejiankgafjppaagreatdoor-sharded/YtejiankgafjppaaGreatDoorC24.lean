import Derived.Test.YtejiankgafjppaaGreatDoorC22
import Derived.Test.YtejiankgafjppaaGreatDoorC23
import Derived.RangeFuncNested
import Derived.RangeFuncBox
import Derived.RangeFuncBound
import Derived.RangeFuncCalls
import Derived.RangeFuncLeaves
import Derived.Shelf.Abstract
import Derived.Shelf.AbstractIn
import Derived.Shelf.RegionOpen
import Derived.WalkKit
import Derived.OwnWalkIn
import Derived.TacticsInMore
import Derived.LoopNIn
import Derived.LoopIn
import Derived.Maps.AppendAt
/- A SHARD AND ITS LEDGER: prepare, Prepare. -/
namespace Go.Proofs.YtejiankgafjppaaGreatDoor
open Go.RowKit Go.Maps
open Sc

theorem sortG_mem {L : List (ByteArray × AGrip)} (h1 : Once1 L) {x : ByteArray × AGrip} (hx : x ∈ sortG L) : x ∈ L := by
  unfold sortG at hx
  obtain ⟨k, hk, rfl⟩ := List.mem_map.1 hx
  obtain ⟨v, hv⟩ := sortK_mem.1 hk
  rw [alLook_of h1 hv]
  exact hv
theorem held_exists {hs : List ((Nat × ByteArray) × AGrip)} (h : Once1 hs) (t : Nat) : ∃ L : List (ByteArray × AGrip), Once1 L ∧ ∀ k, alLook L k = alLook hs (t, k) := by
  refine ⟨(hs.filter fun p => decide (p.1.1 = t)).map fun p => (p.1.2, p.2), ?_, fun k => ?_⟩
  · unfold Once1
    rw [List.pairwise_map]
    refine (List.Pairwise.filter _ h).imp_of_mem ?_
    intro a b ha hb hne e
    have h1 := (List.mem_filter.1 ha).2
    have h2 := (List.mem_filter.1 hb).2
    simp at h1 h2
    exact hne (Prod.ext (h1.trans h2.symm) e)
  · unfold alLook
    rw [List.find?_map, List.find?_filter, Option.map_map]
    have hp : ∀ (p q : (Nat × ByteArray) × AGrip → Bool), (∀ a, p a = q a) → hs.find? p = hs.find? q := fun p q e => by rw [funext e]
    rw [hp _ (fun p => decide (p.1 = (t, k))) fun a => by obtain ⟨⟨a1, a2⟩, a3⟩ := a; simp [Prod.ext_iff]]
    rfl
/-- all that is held is small -/
def AShard.Small (s : AShard) : Prop := ∀ p ∈ s.holds, SmallH (p.1.2, p.2)
/-- what Prepare of one that is working leaves, and says -/
def AShard.prep (s : AShard) (l : ALog) (d : ADisk) (t : Nat) (L : List (ByteArray × AGrip)) : AShard × ALog × ADisk × Nat × Nat :=
  if anyW L = true then
    if (l.keep d 1 (str (be 8 t ++ holdsB (sortG L)))).2.2 = 0 then ({ s with txns := alPut s.txns t ⟨3, 0, 0⟩ }, (l.keep d 1 (str (be 8 t ++ holdsB (sortG L)))).1, (l.keep d 1 (str (be 8 t ++ holdsB (sortG L)))).2.1, 2, 0)
    else (s, (l.keep d 1 (str (be 8 t ++ holdsB (sortG L)))).1, (l.keep d 1 (str (be 8 t ++ holdsB (sortG L)))).2.1, 0, (l.keep d 1 (str (be 8 t ++ holdsB (sortG L)))).2.2)
  else (s.forget t, l, d, 4, 0)
section
variable (B sp gp bV bT bH m lp p bD bN n t : Nat) (s : AShard) (l : ALog) (d : ADisk) (w : World)
set_option maxRecDepth 100000 in
set_option maxHeartbeats 4000000 in
theorem prep_any (h : SL w B sp gp bV bT bH m lp p bD bN n s l d) (ht : t < 18446744073709551616) (hn : n + 3 < 67108864) (hB : 2 ≤ B) (hsg : l.filled < 600 → l.segs ≠ []) (hpow : Pows w) (hm : m < 67108864) (hc : s.count t ≤ 16) (hv : s.Small) :
    Calls Tryz.prog 130 #[.pointer (some ⟨sp, 0, none⟩), .int .u64 (t : Int)] w fun e w' => ∃ L, Once1 L ∧ (∀ k, alLook L k = alLook s.holds (t, k)) ∧ e = .returned (.tuple #[.int .i64 ((s.prep l d t L).2.2.2.1 : Int), errN (s.prep l d t L).2.2.2.2]) ∧ SL w' B sp gp bV bT bH (m + 1) lp p bD bN (n + 3) (s.prep l d t L).1 (s.prep l d t L).2.1 (s.prep l d t L).2.2.1 ∧ SFr sp bV bT bH lp p w w' := by
  have hho := holdsOf_any sp gp bV bT bH m t s w h.sh ht (by unfold maxLen; omega)
  have HH : Hid (SL w B sp gp bV bT bH m lp p bD bN n s l d ∧ Pows w ∧ s.count t ≤ 16 ∧ s.Small ∧ (l.filled < 600 → l.segs ≠ [])) := ⟨h, hpow, hc, hv, hsg⟩
  have hsp := h.sh.lts.1
  clear h hc hv hsg hpow
  go_enter Tryz.func130, Tryz.ntmps130
  go_wp2_with fail
  refine hho.mono ?_
  clear hho
  rintro e w1 ⟨b, L, rfl, hb, hL, hlk, hf1⟩
  have haw := anyWrites_any b m L w1 hL
  have HL : Hid (MapAs KS EG w1 b m L ∧ (∀ k, alLook L k = alLook s.holds (t, k)) ∧ Fr [] w w1) := ⟨hL, hlk, hf1⟩
  have HO : Hid (Once1 L) := by obtain ⟨_, _, _, h3, _⟩ := hL; exact h3
  have hbl := hL.lt
  clear hL hlk hf1
  go_wp2_with fail
  refine haw.mono ?_
  clear haw
  rintro e w2 ⟨rfl, hf2⟩
  have HF2 : Hid (Fr [] w w2) := HL.out.2.2.trans hf2
  have HL2 : Hid (MapAs KS EG w2 b m L) := HL.out.1.fr hf2 (by simp)
  obtain ⟨h2, hs2⟩ := HH.out.1.new HF2.out
  have H2 : Hid (SL w2 B sp gp bV bT bH m lp p bD bN n s l d ∧ SFr sp bV bT bH lp p w w2) := ⟨h2, hs2⟩
  clear hf2 h2 hs2
  cases hw : anyW L with
  | false =>
    have HP : Hid (s.prep l d t L = (s.forget t, l, d, 4, 0)) := by show _ = _; unfold AShard.prep; rw [if_neg (by rw [hw]; decide)]
    clear hw
    go_wp2_with fail
    refine (forget_any sp gp bV bT bH m t s w2 H2.out.1.sh ht).mono ?_
    rintro e w3 ⟨rfl, hs3, hf3⟩
    obtain ⟨h3, hx3⟩ := H2.out.1.turn hs3 hf3 (by simp)
    have H3 : Hid (SL w3 B sp gp bV bT bH m lp p bD bN n (s.forget t) l d ∧ SFr sp bV bT bH lp p w w3) := ⟨h3, H2.out.2.trans hx3⟩
    clear hs3 hf3 h3 hx3
    go_wp2
    go_ret2
    obtain ⟨pv, sv, rv, nD, nN, hl⟩ := H3.out.1.lg
    refine ⟨L, HO.out, HL.out.2.1, ?_, ?_, H3.out.2⟩
    · rw [HP.out]; rfl
    · rw [HP.out]; exact ⟨H3.out.1.sh.mono (by omega), ⟨pv, sv, rv, nD, nN, hl.mores (by omega) (by omega)⟩, H3.out.1.ap, H3.out.1.gp1⟩
  | true =>
    have hsmall : ∀ x ∈ sortG L, SmallH x := fun x hx => by
      have h1 := alLook_of HO.out (sortG_mem HO.out hx)
      rw [HL.out.2.1] at h1
      exact HH.out.2.2.2.1 _ (alLook_mem h1)
    have hlen : L.length ≤ 16 := by
      have hso : Once1 s.holds := by obtain ⟨_, _, _, h3, _⟩ := H2.out.1.sh.holds; exact h3
      rw [AShard.count_of hso HO.out HL.out.2.1]
      exact HH.out.2.2.1
    have hpe := prepared_any t b m L (by omega) w2.drew (HL2.out.fr (Fr.refl [] w2).drew (by simp)) ht hsmall hlen
    obtain ⟨X, hX⟩ : ∃ X, X = str (be 8 t ++ holdsB (sortG L)) := ⟨_, rfl⟩
    rw [← hX] at hpe
    have HK : Hid (∀ w1, Fr [] w2 w1 → Calls Tryz.prog 134 #[.pointer (some ⟨gp, 0, none⟩), .int .u8 1, .string X] w1 fun e w2 => e = .returned (errN (l.keep d 1 X).2.2) ∧ SL w2 B sp gp bV bT bH m lp p bD bN (n + 3) s (l.keep d 1 X).1 (l.keep d 1 X).2.1 ∧ SFr sp bV bT bH lp p w w2) := fun w1 hf1 => by
      obtain ⟨h1, hs1⟩ := H2.out.1.new hf1
      obtain ⟨pv, sv, rv, nD, nN, hl⟩ := h1.lg
      have hp1 : Pows w1 := HH.out.2.1.of_block ((HF2.out.trans hf1).block 1 (by obtain ⟨_, _, _, _, _, h2⟩ := HH.out.1.lg; have := h2.disk.base.2.2.2; omega) (by simp))
      refine (keep_any B gp lp p bD bN n nD nN 1 pv sv rv l d X w1 h1.ap.led hl (by omega) hn hB HH.out.2.2.2.2 hp1).mono ?_
      rintro e w2 ⟨he, hl2, ho2⟩
      obtain ⟨h2, hs2⟩ := h1.log ho2 hl2
      exact ⟨he, h2, H2.out.2.trans (hs1.trans hs2)⟩
    obtain ⟨R, hR⟩ : ∃ R, R = l.keep d 1 X := ⟨_, rfl⟩
    have HP : Hid (s.prep l d t L = if R.2.2 = 0 then ({ s with txns := alPut s.txns t ⟨3, 0, 0⟩ }, R.1, R.2.1, 2, 0) else (s, R.1, R.2.1, 0, R.2.2)) := by show _ = _; unfold AShard.prep; rw [if_pos hw, ← hX, ← hR]
    rw [← hR] at HK
    clear hR hX hw hsmall hlen
    have c0 := blk_cell H2.out.1.sh.blk 0
    simp at c0
    rw [lgP_pos H2.out.1.gp1] at c0
    have hsp2 := H2.out.1.sh.lts.1
    go_wp2
    go_region_held3 (fun w' => w'.cell? ⟨sp, 0, none⟩ = some (.pointer (some ⟨gp, 0, none⟩)))
      (simp [*])
      (first
        | (go_at_call 190; refine hpe.mono ?_; rintro e w3 ⟨rfl, hb3⟩; have hf3 : Fr [] w2 w3 := ⟨hb3.os, hb3.tape, hb3.output, hb3.size, fun k hk _ => hb3.block k hk⟩; have p0 : w3.cell? ⟨sp, 0, none⟩ = some (.pointer (some ⟨gp, 0, none⟩)) := (World.cell?_of_block (a := ⟨sp, 0, none⟩) (hf3.block sp hsp2 (by simp))).trans c0; have H3 : Hid (Fr [] w2 w3) := hf3; clear hb3 hf3)
        | (go_at_call 134; refine (HK.out w3 H3.out).mono ?_; rintro e w4 ⟨rfl, h4, hs4⟩; have q0 : w4.cell? ⟨sp, 0, none⟩ = some (.pointer (some ⟨gp, 0, none⟩)) := (blk_cell h4.sh.blk 0).trans (by simp [lgP_pos h4.gp1]); have H4 : Hid (SL w4 B sp gp bV bT bH m lp p bD bN (n + 3) s R.1 R.2.1 ∧ SFr sp bV bT bH lp p w w4) := ⟨h4, hs4⟩; clear h4 hs4))
    by_cases hr : R.2.2 = 0
    · rw [hr, errN_ok]
      have HP2 : Hid (s.prep l d t L = ({ s with txns := alPut s.txns t ⟨3, 0, 0⟩ }, R.1, R.2.1, 2, 0)) := by show _ = _; rw [HP.out, if_pos hr]
      have c2 := blk_cell H4.out.1.sh.blk 2
      simp at c2
      obtain ⟨w5, hr5, hm5, hg5⟩ := H4.out.1.sh.txns.putRun Tryz.underlying182 (by unfold maxLen; omega) (k := t) ht (v := (⟨3, 0, 0⟩ : ATxn)) trivial
      change (Instr.mapUpdate _ _ (.int .u64 (t : Int)) (.agg #[.int .i64 3, .int .i64 0, .int .u64 0])).run _ _ = _ at hr5
      have hf5 : Fr [bT] w4 w5 := Fr.of_grown1 hg5
      obtain ⟨h5, hx5⟩ := H4.out.1.turn (H4.out.1.sh.setTxns hf5 hm5 (by omega)) hf5 (by simp)
      have H5 : Hid (SL w5 B sp gp bV bT bH (m + 1) lp p bD bN (n + 3) { s with txns := alPut s.txns t ⟨3, 0, 0⟩ } R.1 R.2.1 ∧ SFr sp bV bT bH lp p w w5) := ⟨h5, H4.out.2.trans hx5⟩
      clear hr HP hm5 hg5 hf5 h5 hx5
      go_wp2
      go_ret2
      refine ⟨L, HO.out, HL.out.2.1, ?_, ?_, H5.out.2⟩
      · rw [HP2.out]; rfl
      · rw [HP2.out]; exact H5.out.1
    · have HP2 : Hid (s.prep l d t L = (s, R.1, R.2.1, 0, R.2.2)) := by show _ = _; rw [HP.out, if_neg hr]
      rw [errN_no hr]
      go_wp2
      go_ret2
      refine ⟨L, HO.out, HL.out.2.1, ?_, ?_, H4.out.2⟩
      · rw [HP2.out, errN_no hr]; rfl
      · rw [HP2.out]; exact ⟨H4.out.1.sh.mono (by omega), H4.out.1.lg, H4.out.1.ap, H4.out.1.gp1⟩
/-- what Prepare leaves, and says -/
def AShard.prepare (s : AShard) (l : ALog) (d : ADisk) (t : Nat) (L : List (ByteArray × AGrip)) : AShard × ALog × ADisk × Nat × Nat :=
  if t = 0 then (s, l, d, 0, 7) else if (s.txn t).state = 3 then (s, l, d, 2, 0) else if (s.txn t).state = 1 then s.prep l d t L else (s.forget t, l, d, 3, 0)
set_option maxRecDepth 100000 in
set_option maxHeartbeats 4000000 in
theorem prepare_any (h : SL w B sp gp bV bT bH m lp p bD bN n s l d) (ht : t < 18446744073709551616) (hn : n + 3 < 67108864) (hB : 2 ≤ B) (hsg : l.filled < 600 → l.segs ≠ []) (hpow : Pows w) (hm : m < 67108864) (hc : s.count t ≤ 16) (hv : s.Small) :
    Calls Tryz.prog 61 #[.pointer (some ⟨sp, 0, none⟩), .int .u64 (t : Int)] w fun e w' => ∃ L, Once1 L ∧ (∀ k, alLook L k = alLook s.holds (t, k)) ∧ e = .returned (.tuple #[.int .i64 ((s.prepare l d t L).2.2.2.1 : Int), errN (s.prepare l d t L).2.2.2.2]) ∧ SL w' B sp gp bV bT bH (m + 1) lp p bD bN (n + 3) (s.prepare l d t L).1 (s.prepare l d t L).2.1 (s.prepare l d t L).2.2.1 ∧ SFr sp bV bT bH lp p w w' := by
  have hso : Once1 s.holds := by obtain ⟨_, _, _, h3, _⟩ := h.sh.holds; exact h3
  obtain ⟨L0, hL0, hL1⟩ : ∃ L, Once1 L ∧ ∀ k, alLook L k = alLook s.holds (t, k) := held_exists hso t
  have HL0 : Hid (Once1 L0 ∧ ∀ k, alLook L0 k = alLook s.holds (t, k)) := ⟨hL0, hL1⟩
  have hmore : Hid (∀ {w' : World} {s' : AShard}, SL w' B sp gp bV bT bH m lp p bD bN n s' l d → SL w' B sp gp bV bT bH (m + 1) lp p bD bN (n + 3) s' l d) := fun {w' s'} h' => by
    obtain ⟨pv, sv, rv, nD, nN, hl⟩ := h'.lg
    exact ⟨h'.sh.mono (by omega), ⟨pv, sv, rv, nD, nN, hl.mores (by omega) (by omega)⟩, h'.ap, h'.gp1⟩
  have HH : Hid (SL w B sp gp bV bT bH m lp p bD bN n s l d) := h
  have HS : Hid (SFr sp bV bT bH lp p w w) := (h.new (Fr.refl [] w)).2
  have hsa := state_eq sp gp bV bT bH m t s w h.sh ht
  have hpr := prep_any B sp gp bV bT bH m lp p bD bN n t s l d w h ht hn hB hsg hpow hm hc hv
  have hfo := forget_any sp gp bV bT bH m t s w h.sh ht
  clear hL0 hL1 hso h hsg hpow hc hv
  by_cases h0 : t = 0
  · have HP : Hid (∀ L, s.prepare l d t L = (s, l, d, 0, 7)) := fun L => by unfold AShard.prepare; rw [if_pos h0]
    subst h0
    clear hsa hpr hfo
    go_enter Tryz.func61, Tryz.ntmps61
    go_wp2
    go_ret2
    refine ⟨L0, HL0.out.1, HL0.out.2, ?_, ?_, HS.out⟩
    · rw [HP.out]; show _ = Ending.returned (.tuple #[.int .i64 0, errN 7]); rw [errN_no (by decide)]; rfl
    · rw [HP.out]; exact hmore.out HH.out
  have i0 : ¬ (t : Int) = 0 := by omega
  by_cases h3 : (s.txn t).state = 3
  · have HP : Hid (∀ L, s.prepare l d t L = (s, l, d, 2, 0)) := fun L => by unfold AShard.prepare; rw [if_neg h0, if_pos h3]
    rw [h3] at hsa
    clear hpr hfo h3
    go_enter Tryz.func61, Tryz.ntmps61
    go_wp2_with fail
    refine hsa.mono ?_
    clear hsa
    rintro e w1 ⟨rfl, rfl⟩
    go_wp2
    go_ret2
    refine ⟨L0, HL0.out.1, HL0.out.2, ?_, ?_, HS.out⟩
    · rw [HP.out]; rfl
    · rw [HP.out]; exact hmore.out HH.out
  have i3 : ¬ ((s.txn t).state : Int) = 3 := by omega
  by_cases h1 : (s.txn t).state = 1
  · have HP : Hid (∀ L, s.prepare l d t L = s.prep l d t L) := fun L => by unfold AShard.prepare; rw [if_neg h0, if_neg h3, if_pos h1]
    rw [h1] at hsa
    clear hfo h1 h3 i3
    go_enter Tryz.func61, Tryz.ntmps61
    go_wp2_with fail
    refine hsa.mono ?_
    clear hsa
    rintro e w1 ⟨rfl, rfl⟩
    go_wp2_with fail
    refine hpr.mono ?_
    clear hpr
    rintro e w2 ⟨L, a1, a2, rfl, a3, a4⟩
    have H2 : Hid (Once1 L ∧ (∀ k, alLook L k = alLook s.holds (t, k)) ∧ SL w2 B sp gp bV bT bH (m + 1) lp p bD bN (n + 3) (s.prep l d t L).1 (s.prep l d t L).2.1 (s.prep l d t L).2.2.1 ∧ SFr sp bV bT bH lp p w1 w2) := ⟨a1, a2, a3, a4⟩
    clear a1 a2 a3 a4
    go_wp2
    go_ret2
    refine ⟨L, H2.out.1, H2.out.2.1, ?_, ?_, H2.out.2.2.2⟩
    · rw [HP.out]; rfl
    · rw [HP.out]; exact H2.out.2.2.1
  · have i1 : ¬ ((s.txn t).state : Int) = 1 := by omega
    have HP : Hid (∀ L, s.prepare l d t L = (s.forget t, l, d, 3, 0)) := fun L => by unfold AShard.prepare; rw [if_neg h0, if_neg h3, if_neg h1]
    clear hpr h1 h3
    go_enter Tryz.func61, Tryz.ntmps61
    go_wp2_with fail
    refine hsa.mono ?_
    clear hsa
    rintro e w1 ⟨rfl, rfl⟩
    go_wp2_with fail
    refine hfo.mono ?_
    clear hfo
    rintro e w2 ⟨rfl, hs2, hf2⟩
    obtain ⟨h2, hx2⟩ := HH.out.turn hs2 hf2 (by simp)
    have H2 : Hid (SL w2 B sp gp bV bT bH m lp p bD bN n (s.forget t) l d ∧ SFr sp bV bT bH lp p w1 w2) := ⟨h2, hx2⟩
    clear hs2 hf2 h2 hx2
    go_wp2
    go_ret2
    refine ⟨L0, HL0.out.1, HL0.out.2, ?_, ?_, H2.out.2⟩
    · rw [HP.out]; rfl
    · rw [HP.out]; exact hmore.out H2.out.1
end
end Go.Proofs.YtejiankgafjppaaGreatDoor
/- order.ByKeys at map[string]string. (Written by mkbyk.py.) -/
namespace Go.Proofs.YtejiankgafjppaaGreatDoor
open Go.RowKit Go.Maps Go.Shelf
open Sc

abbrev elV (g : ByteArray) : List Value := [.string g]
def elsV (l : List ByteArray) : List Value := l.flatMap elV
theorem elsV_snoc (l : List ByteArray) (g : ByteArray) : elsV (l ++ [g]) = elsV l ++ elV g := by simp [elsV]
theorem elsV_at : ∀ (l : List ByteArray) (k : Nat) (g : ByteArray), l[k]? = some g → (elsV l)[k]? = some (.string g)
  | [], k, g, h => by simp at h
  | x :: l, 0, g, h => by simp at h; subst h; simp [elsV]
  | x :: l, k + 1, g, h => by
    have := elsV_at l k g (by simpa using h)
    simp only [elsV, List.flatMap_cons] at this ⊢
    simpa using this
theorem Tryz.infoBV : (Tryz.prog.info? 9).map (fun i => (i.zero, i.size, i.bytes)) = some (some (.string ByteArray.empty), 1, 16) := by kernel_rfl
/-- what a map holds, by its keys -/
def sortV (L : List (ByteArray × ByteArray)) : List (ByteArray × ByteArray) := (sortK L).map fun k => (k, (alLook L k).getD ByteArray.empty)
theorem Tryz.lenSV (p : Option Addr) (n c : Nat) (w : World) : (Builtin.len_ #[25] 3 #[.slice p n c]).run Tryz.prog w = .ok (.int .i64 n) w := by simp [Builtin.len_, run_underlying Tryz.underlying25, goInt]
set_option maxRecDepth 100000 in
set_option maxHeartbeats 4000000 in
theorem byKeysV_in (n : Nat) (hn : 6 ≤ n) (l Bn b m : Nat) (L : List (ByteArray × ByteArray)) (hm : m ≤ 67108864) (W : World) (Kp : World → World → Prop) (Pk : Nat → World → Prop)
    (hP0 : ∀ k A, W.heap.size ≤ k → Below W.heap.size W A → Pk k A)
    (hP2 : ∀ k A B c t, (t = 9 ∨ t = 9) → Kp A B → A.heap[k]? = some (.cells c t (0, 0)) → Pk k A → B.heap[k]? = A.heap[k]? ∧ Pk k B)
    (J Jx : List (ByteArray × ByteArray) → World → Prop)
    (hJ : ∀ s A B, J s A → A.grownBy B none → J s B)
    (hY : ∀ pre x W1, J pre W1 → pre.length < L.length → pre ++ [x] <+: sortV L → YieldAt Fence.wide (n - 1) Tryz.prog l #[.string x.1, .string x.2] W1 fun e W' =>
      (e = .returned (.bool true) ∧ J (pre ++ [x]) W' ∧ Kp W1 W') ∨ (e = .returned (.bool false) ∧ Jx (pre ++ [x]) W'))
    (hBn : W.cell? ⟨Bn, 0, none⟩ = some (.map (some b))) (hL : MapAs KS ES W b m L) (h0 : J [] W) :
    CallsIn Fence.wide n Tryz.prog 260 #[.func (.yield l) #[] #[], .pointer (some ⟨Bn, 0, none⟩)] W fun e W' => (∃ v, e = .returned v) ∧
      ((∃ ys, ys = sortV L ∧ J ys W') ∨ (∃ pre, pre <+: sortV L ∧ Jx pre W')) := by
  have hBl : Bn < W.heap.size := World.block_lt_of_cell? W ⟨Bn, 0, none⟩ hBn
  obtain ⟨cK, cS⟩ := sortedKeysV (n - 1) (by omega) b m L W hL hm
  obtain ⟨i0, hi, hz0, hz1, hz2⟩ := info_parts Tryz.infoBV
  have hfK : Fence.wide.fn 262 := trivial
  have hfS : Fence.wide.fn 261 := trivial
  have hfM : Fence.wide.fn 260 := trivial
  have hro : Fence.wide.round = none := rfl
  have h1 : 1 ≤ n := by omega
  have hlenS := Tryz.lenSV
  have hLm := hL.len
  have HL : Hid (MapAs KS ES W b m L) := hL
  have HB : Hid (Bn < W.heap.size ∧ W.cell? ⟨Bn, 0, none⟩ = some (.map (some b))) := ⟨hBl, hBn⟩
  obtain ⟨m0, hm0⟩ : ∃ m0, m0 = L.length := ⟨_, rfl⟩
  have HM : Hid (m0 = L.length) := hm0
  rw [← hm0] at cS hLm
  have hm00 : m0 ≤ 67108864 := by omega
  clear hL hm0
  refine callsIn_of_wp Tryz.func260 rfl hfM ?_ hro
  simp only [Tryz.ntmps260, List.size_toArray, List.length_cons, List.length_nil, Nat.reduceAdd, Nat.reduceSub, Array.replicate_succ, Array.replicate_zero, List.push_toArray, List.append_toArray, List.nil_append, List.cons_append]
  gi_wp2_with (first
    | (gi_at_call 262; refine cK.mono ?_; rintro e w0 ⟨rfl, rfl⟩)
    | (gi_at_call 261; refine cS.mono ?_; rintro e w1 ⟨v, rfl, hrow, hnil, hb1⟩; obtain ⟨pp, cap, rfl⟩ := own_form0 hrow; have HR : Hid (w1.ownsRow W.heap.size 9 1 (.slice pp m0 cap) m0 ((sortK L).map Value.string) ∧ (Value.slice pp m0 cap = .slice none 0 0 ↔ m0 = 0)) := ⟨hrow, hnil⟩; clear hrow hnil))
  clear cK cS
  have HB1 : Hid (Below W.heap.size W w1) := hb1
  have HJ1 : Hid (∀ A, Below W.heap.size W A → J [] A) := fun A hA => hJ [] W A h0 ⟨hA.os, hA.tape, hA.output, hA.size, fun k hk _ => hA.block k hk⟩
  clear hb1 hBn
  by_cases hm1 : m0 = 0
  · subst hm1
    obtain ⟨rfl, rfl⟩ : pp = none ∧ cap = 0 := by have := HR.out.2.2 rfl; simpa using this
    clear HR
    have HE : Hid (sortV L = []) := by show _ = _; have := HM.out; rw [List.length_eq_zero_iff.1 this.symm]; simp [sortV, sortK]
    gi_loopw [14] (fun i wr => i = .int .i64 0 ∧ wr = w1) (fun _ _ => 0)
    case atStart => exact ⟨rfl, rfl⟩
    case round =>
      obtain ⟨rfl, rfl⟩ := hrel
      gi_wp2
      gi_loopw [27] (fun i wr2 => i = .int .i64 0 ∧ wr2 = wr) (fun _ _ => 0)
      case atStart => exact ⟨rfl, rfl⟩
      case round =>
        obtain ⟨rfl, rfl⟩ := hrel
        gi_wp2
        go_end0
        exact ⟨⟨_, rfl⟩, .inl ⟨_, rfl, by rw [HE.out]; exact HJ1.out _ HB1.out⟩⟩
  obtain ⟨g, rfl⟩ : ∃ g, pp = some ⟨g, 0, none⟩ := by obtain ⟨g, cap', e⟩ := own_pos0 HR.out.1 (by omega); exact ⟨g, by simp at e; exact e.1⟩
  have hrow := HR.out.1
  have HK : Hid (∃ cur, w1.heap[g]? = some (.cells cur 9 (0, 0)) ∧ W.heap.size ≤ g ∧ ∀ (k : Nat) (x : ByteArray), (sortK L)[k]? = some x → cur[k]? = some (Value.string x)) := by
    rcases hrow.2 with ⟨_, h3⟩ | ⟨g', cap', cur, e, hb, hg, _, _, hsz, htk⟩
    · omega
    · obtain ⟨e1, e2⟩ : g = g' ∧ cap = cap' := by simpa using e
      subst e1
      refine ⟨cur, hg, hb, fun k x hk => ?_⟩
      have hkl : k < m0 := by have := (List.getElem?_eq_some_iff.1 hk).1; rw [sortK_len] at this; have := HM.out; omega
      have : (cur.toList.take (m0 * 1))[k]? = some (.string x) := by rw [htk, List.getElem?_map, hk]; rfl
      rw [List.getElem?_take_of_lt (by omega)] at this
      simpa using this
  clear hrow HR
  obtain ⟨vs, hvs⟩ : ∃ vs : List ByteArray, vs = (sortK L).map fun k => (alLook L k).getD ByteArray.empty := ⟨_, rfl⟩
  have HV : Hid (vs = (sortK L).map fun k => (alLook L k).getD ByteArray.empty) := hvs
  clear hvs
  have HG : Hid (g < w1.heap.size) := by obtain ⟨cur, hg, _⟩ := HK.out; exact (Array.getElem?_eq_some_iff.1 hg).1
  gi_loopw [14, 4] (fun i v wr => ∃ k : Nat, k ≤ m0 ∧ i = .int .i64 k ∧ Hid (wr.ownsRow w1.heap.size 9 1 v k (elsV (vs.take k)) ∧ Below w1.heap.size w1 wr))
    (fun i _ _ => m0 - (intOf i).toNat)
  case atStart => exact ⟨0, Nat.zero_le _, rfl, World.ownsRow_nil _ _ _ _, Below.refl _ _⟩
  case round =>
    obtain ⟨k, hk, rfl, hR⟩ := hrel
    by_cases hlt : k < m0
    · obtain ⟨x, hx⟩ : ∃ x, (sortK L)[k]? = some x := ⟨_, List.getElem?_eq_getElem (by rw [sortK_len]; have := HM.out; omega)⟩
      obtain ⟨y, hy⟩ : ∃ y, y = (alLook L x).getD ByteArray.empty := ⟨_, rfl⟩
      have hbW : Below W.heap.size W wr := HB1.out.trans (hR.out.2.mono HB1.out.size)
      have ck : wr.cell? ⟨g, k, none⟩ = some (.string x) := by
        obtain ⟨cur, hg, _, hc⟩ := HK.out
        have := (hR.out.2.block g HG.out).trans hg
        rw [cell_blk0 this]
        exact hc k x hx
      have cB : wr.cell? ⟨Bn, 0, none⟩ = some (.map (some b)) := (hbW.cell (p := ⟨Bn, 0, none⟩) HB.out.1).trans HB.out.2
      have hxs : x.size ≤ maxLen := by
        obtain ⟨v', hv'⟩ := sortK_mem.1 (List.mem_of_getElem? hx)
        obtain ⟨_, _, _, _, hok⟩ := HL.out
        exact (hok _ hv').1
      have hlk := (HL.out.fr (S := []) ⟨hbW.os, hbW.tape, hbW.output, hbW.size, fun k hk _ => hbW.block k hk⟩ (by simp)).look Tryz.underlying181 (zeroStr wr) (by show (0 : Nat) ≤ maxLen; omega) (k := x) hxs
      rw [← hy] at hlk
      have HY : Hid (y = (alLook L x).getD ByteArray.empty ∧ (sortK L)[k]? = some x) := ⟨hy, hx⟩
      clear hy hx
      change (Instr.lookup _ _ (.string x) false).run _ _ = .ok (.string y) _ at hlk
      have hsz := hR.out.2.size
      have hrk : k < ((sortK L).map fun k => (alLook L k).getD ByteArray.empty).length := by rw [List.length_map, sortK_len]; have := HM.out; omega
      have HT : Hid (vs.take (k + 1) = vs.take k ++ [y]) := by
        show _ = _
        rw [HV.out, List.take_add_one, List.getElem?_map, HY.out.2, HY.out.1]; rfl
      clear hrk
      gi_wp2_with (gi_at_builtin; refine wpListIn_append_own _ rfl _ _ 25 rfl w1.heap.size 9 i0 _ 1 16 Tryz.underlying25 hi hz0 hz1 hz2 rfl (by decide) _ k _ rfl (hR.out.1.alloc _) ⟨wr.heap.size, 0, none⟩ 1 1 (elV y) rfl rfl (cells_new _ #[.string y] _) (by intro u hu; simp [elV] at hu; subst hu; rfl) (by unfold maxLen; omega) (by omega) (by simp; omega) ?_; intro v' w2 hown' hgrow _)
      go_roundw
      case rel =>
        refine ⟨k + 1, by omega, by simp, by rw [HT.out, elsV_snoc]; exact hown', ?_⟩
        exact ((hR.out.2.alloc hsz _).grown hgrow (by simp; omega) (fun j hj => (hR.out.1.lt j hj).1))
      case measure => simp [intOf]; omega
    · obtain rfl : k = m0 := by omega
      obtain ⟨g2, cap2, rfl⟩ := own_pos0 hR.out.1 (by omega)
      have HK2 : Hid (∃ cur2, wr.heap[g2]? = some (.cells cur2 9 (0, 0)) ∧ W.heap.size ≤ g2 ∧ ∀ (j : Nat) (y : ByteArray), vs[j]? = some y → cur2[j]? = some (Value.string y)) := by
        rcases hR.out.1.2 with ⟨_, h3⟩ | ⟨g', cap', cur, e, hb, hg, _, _, hsz, htk⟩
        · omega
        · obtain ⟨e1, e2⟩ : g2 = g' ∧ cap2 = cap' := by simpa using e
          subst e1
          have hvl : vs.length = k := by rw [HV.out, List.length_map, sortK_len, HM.out]
          refine ⟨cur, hg, Nat.le_trans HB1.out.size hb, fun j y hj => ?_⟩
          have hjk : j < k := by have := (List.getElem?_eq_some_iff.1 hj).1; omega
          have e3 : vs.take k = vs := List.take_of_length_le (by omega)
          rw [e3] at htk
          have hat := elsV_at vs j y hj
          rw [← htk] at hat
          rw [List.getElem?_take_of_lt (by omega)] at hat
          simpa using hat
      obtain ⟨cur, hgc, hgW, hcs⟩ := HK.out
      obtain ⟨cur2, hgc2, hgW2, hcs2⟩ := HK2.out
      have hgr := (hR.out.2.block g HG.out).trans hgc
      have hbW : Below W.heap.size W wr := HB1.out.trans (hR.out.2.mono HB1.out.size)
      have HC : Hid ((∀ (k : Nat) (x : ByteArray), (sortK L)[k]? = some x → cur[k]? = some (Value.string x)) ∧ ∀ (j : Nat) (y : ByteArray), vs[j]? = some y → cur2[j]? = some (Value.string y)) := ⟨hcs, hcs2⟩
      have HS : Hid (J [] wr ∧ wr.heap[g]? = some (.cells cur 9 (0, 0)) ∧ Pk g wr ∧ wr.heap[g2]? = some (.cells cur2 9 (0, 0)) ∧ Pk g2 wr) := ⟨HJ1.out _ hbW, hgr, hP0 _ _ hgW hbW, hgc2, hP0 _ _ hgW2 hbW⟩
      clear HK HK2 hgc hcs hgc2 hcs2 hgr hbW hP0
      gi_wp2
      gi_loopw [27] (fun i wr => ∃ j : Nat, j ≤ k ∧ i = .int .i64 j ∧ Hid (J ((sortV L).take j) wr ∧ wr.heap[g]? = some (.cells cur 9 (0, 0)) ∧ Pk g wr ∧ wr.heap[g2]? = some (.cells cur2 9 (0, 0)) ∧ Pk g2 wr))
        (fun i _ => k - (intOf i).toNat)
      case atStart => exact ⟨0, Nat.zero_le _, rfl, by rw [List.take_zero]; exact HS.out⟩
      case round =>
        obtain ⟨j, hj, rfl, hQ⟩ := hrel
        by_cases hlt2 : j < k
        · obtain ⟨x, hx⟩ : ∃ x, (sortK L)[j]? = some x := ⟨_, List.getElem?_eq_getElem (by rw [sortK_len]; have := HM.out; omega)⟩
          obtain ⟨y, hy⟩ : ∃ y, y = (alLook L x).getD ByteArray.empty := ⟨_, rfl⟩
          have hvy : vs[j]? = some y := by rw [HV.out, List.getElem?_map, hx, hy]; rfl
          have HXY : Hid ((sortV L).take (j + 1) = (sortV L).take j ++ [(x, y)]) := by
            show _ = _
            rw [List.take_add_one]
            unfold sortV
            rw [List.getElem?_map, hx, hy]; rfl
          have cx : wr.cell? ⟨g, j, none⟩ = some (.string x) := by rw [cell_blk0 hQ.out.2.1]; exact HC.out.1 j x hx
          have cy0 : wr.cell? ⟨g2, j, none⟩ = some (.string y) := by rw [cell_blk0 hQ.out.2.2.2.1]; exact HC.out.2 j y hvy
          obtain ⟨fn, tmps, assign, body, hy2, hRR⟩ := hY _ (x, y) wr hQ.out.1 (by rw [List.length_take, ← HM.out]; omega) (by rw [← HXY.out]; exact List.take_prefix _ _)
          clear hx hy hvy
          gi_wp2
          refine hRR.mono ?_
          rintro e W3 (⟨rfl, hJ3, hk3⟩ | ⟨rfl, hJx3⟩)
          · have p1 := hP2 _ _ _ _ _ (.inl rfl) hk3 hQ.out.2.1 hQ.out.2.2.1
            have p2 := hP2 _ _ _ _ _ (.inr rfl) hk3 hQ.out.2.2.2.1 hQ.out.2.2.2.2
            have HN : Hid (J ((sortV L).take (j + 1)) W3 ∧ W3.heap[g]? = some (.cells cur 9 (0, 0)) ∧ Pk g W3 ∧ W3.heap[g2]? = some (.cells cur2 9 (0, 0)) ∧ Pk g2 W3) := ⟨by rw [HXY.out]; exact hJ3, p1.1.trans hQ.out.2.1, p1.2, p2.1.trans hQ.out.2.2.2.1, p2.2⟩
            clear p1 p2 hJ3 hk3
            gi_wp2
            go_roundw
            case rel => exact ⟨j + 1, by omega, by simp, HN.out⟩
            case measure => simp [intOf]; omega
          · gi_wp2
            refine bodyPost_ret (results_none rfl _ _ _) rfl ?_
            exact ⟨⟨_, rfl⟩, .inr ⟨_, by rw [← HXY.out]; exact List.take_prefix _ _, hJx3⟩⟩
        · obtain rfl : j = k := by omega
          gi_wp2
          go_end0
          refine ⟨⟨_, rfl⟩, .inl ⟨_, ?_, hQ.out.1⟩⟩
          rw [List.take_of_length_le]
          unfold sortV
          rw [List.length_map, sortK_len, HM.out]
          exact Nat.le_refl _
/-- the walk, as whoever ranges over it has it; Q holds for all that the map holds -/
theorem byKeysV_stops (n : Nat) (hn : 6 ≤ n) (Bn b m : Nat) (L : List (ByteArray × ByteArray)) (Q : ByteArray × ByteArray → Prop) (hQ : ∀ x ∈ sortV L, Q x) (hm : m ≤ 67108864) (w : World) (hBl : Bn < w.heap.size) (hBn : w.cell? ⟨Bn, 0, none⟩ = some (.map (some b))) (hL : MapAs KS ES w b m L)
    (Kp : World → World → Prop) (Pk : Nat → World → Prop)
    (hP0 : ∀ W k A, Below w.heap.size w W → W.heap.size ≤ k → Below W.heap.size W A → Pk k A)
    (hP2 : ∀ k A B c t, (t = 9 ∨ t = 9) → Kp A B → A.heap[k]? = some (.cells c t (0, 0)) → Pk k A → B.heap[k]? = A.heap[k]? ∧ Pk k B) :
    SeqStopsK Fence.wide n Tryz.prog 260 #[.pointer (some ⟨Bn, 0, none⟩)] (fun y : { x : ByteArray × ByteArray // Q x } => #[.string y.1.1, .string y.1.2]) Kp (fun ys => ys.map (·.1) = sortV L) (fun _ => True) L.length w := fun l J Jx W hW hJ _ hY h0 => by
  have h := byKeysV_in n hn l Bn b m L hm W Kp Pk (fun k A => hP0 W k A hW) hP2 (fun pre W => ∃ pre' : List { x : ByteArray × ByteArray // Q x }, pre'.map (·.1) = pre ∧ J pre' W) (fun pre W => ∃ pre' : List { x : ByteArray × ByteArray // Q x }, pre'.map (·.1) = pre ∧ Jx pre' W)
    (fun s A B hs hgr => by obtain ⟨p', e, hj⟩ := hs; exact ⟨p', e, hJ p' A B none hj hgr (fun r e => by cases e)⟩)
    (fun pre x W1 hj hlt hpre => by
      obtain ⟨p', e, hj⟩ := hj
      have hx : Q x := hQ x (hpre.subset (by simp))
      obtain ⟨fn, tmps, assign, body, hy, hR⟩ := hY p' ⟨x, hx⟩ W1 hj (by rw [← e, List.length_map] at hlt; exact hlt)
      refine ⟨fn, tmps, assign, body, hy, hR.mono ?_⟩
      rintro e2 W' (⟨r1, r2, r3⟩ | ⟨r1, r2⟩)
      · exact .inl ⟨r1, ⟨p' ++ [⟨x, hx⟩], by simp [e], r2⟩, r3⟩
      · exact .inr ⟨r1, ⟨p' ++ [⟨x, hx⟩], by simp [e], r2⟩⟩)
    ((hW.cell (p := ⟨Bn, 0, none⟩) hBl).trans hBn) (hL.fr (S := []) ⟨hW.os, hW.tape, hW.output, hW.size, fun k hk _ => hW.block k hk⟩ (by simp)) ⟨[], rfl, h0⟩
  refine h.mono ?_
  rintro e W' ⟨he, ⟨ys, rfl, p', e2, hj⟩ | ⟨pre, _, p', _, hj⟩⟩
  · exact ⟨he, .inl ⟨p', e2, hj⟩⟩
  · exact ⟨he, .inr ⟨p', trivial, hj⟩⟩
set_option maxHeartbeats 1000000 in
theorem byKeysV_fn (n : Nat) (b : Nat) (w : World) :
    CallsIn Fence.wide n Tryz.prog 205 #[.map (some b)] w fun e w' => e = .returned (.func (.func 260) #[] #[.pointer (some ⟨w.heap.size, 0, none⟩)]) ∧ w' = w.alloc (.cells #[.map (some b)] 181) := by
  refine callsIn_of_wp Tryz.func205 rfl trivial ?_ rfl
  simp only [Tryz.ntmps205, List.size_toArray, List.length_cons, List.length_nil, Nat.reduceAdd, Nat.reduceSub, Array.replicate_succ, Array.replicate_zero, List.push_toArray, List.append_toArray, List.nil_append, List.cons_append]
  gi_wp2
  go_ret
  exact ⟨rfl, rfl⟩
end Go.Proofs.YtejiankgafjppaaGreatDoor
