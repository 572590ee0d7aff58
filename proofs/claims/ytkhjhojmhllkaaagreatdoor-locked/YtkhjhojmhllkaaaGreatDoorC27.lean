import Derived.Test.YtkhjhojmhllkaaaGreatDoorC25
import Derived.Test.YtkhjhojmhllkaaaGreatDoorC26
import Derived.Test.YtkhjhojmhllkaaaGreatDoorC02
import Derived.Test.YtkhjhojmhllkaaaGreatDoorC05
import Derived.Test.YtkhjhojmhllkaaaGreatDoorC07
import Derived.Test.YtkhjhojmhllkaaaGreatDoorC21
/- A SHARD AND ITS LEDGER: prepare, Prepare. -/
namespace Go.Proofs.YtkhjhojmhllkaaaGreatDoor
open Go.RowKit Go.Maps
open Sc

theorem sortG_mem {L : List (ByteArray × AGrip)} (h1 : Once1 L) {x : ByteArray × AGrip} (hx : x ∈ sortG L) : x ∈ L := by
  unfold sortG at hx
  obtain ⟨k, hk, rfl⟩ := List.mem_map.1 hx
  obtain ⟨v, hv⟩ := sortK_mem.1 hk
  rw [alLook_of h1 hv]
  exact hv
theorem held_exists {hs : List ((Nat × ByteArray) × AGrip)} (h : Once1 hs) (t : Nat) : ∃ L : List (ByteArray × AGrip), Once1 L ∧ ∀ k, alLook L k = alLook hs (t, k) := by
  refine ⟨(hs.filter fun p => decide (p.1.1 = t)).map fun p => (p.1.2, p.2), ?_, fun k => ?_⟩
  · unfold Once1
    rw [List.pairwise_map]
    refine (List.Pairwise.filter _ h).imp_of_mem ?_
    intro a b ha hb hne e
    have h1 := (List.mem_filter.1 ha).2
    have h2 := (List.mem_filter.1 hb).2
    simp at h1 h2
    exact hne (Prod.ext (h1.trans h2.symm) e)
  · unfold alLook
    rw [List.find?_map, List.find?_filter, Option.map_map]
    have hp : ∀ (p q : (Nat × ByteArray) × AGrip → Bool), (∀ a, p a = q a) → hs.find? p = hs.find? q := fun p q e => by rw [funext e]
    rw [hp _ (fun p => decide (p.1 = (t, k))) fun a => by obtain ⟨⟨a1, a2⟩, a3⟩ := a; simp [Prod.ext_iff]]
    rfl
/-- all that is held is small -/
def AShard.Small (s : AShard) : Prop := ∀ p ∈ s.holds, SmallH (p.1.2, p.2)
/-- what Prepare of one that is working leaves, and says -/
def AShard.prep (s : AShard) (l : ALog) (d : ADisk) (t : Nat) (L : List (ByteArray × AGrip)) : AShard × ALog × ADisk × Nat × Nat :=
  if anyW L = true then
    if (l.keep d 1 (str (be 8 t ++ holdsB (sortG L)))).2.2 = 0 then ({ s with txns := alPut s.txns t ⟨3, 0, 0⟩ }, (l.keep d 1 (str (be 8 t ++ holdsB (sortG L)))).1, (l.keep d 1 (str (be 8 t ++ holdsB (sortG L)))).2.1, 2, 0)
    else (s, (l.keep d 1 (str (be 8 t ++ holdsB (sortG L)))).1, (l.keep d 1 (str (be 8 t ++ holdsB (sortG L)))).2.1, 0, (l.keep d 1 (str (be 8 t ++ holdsB (sortG L)))).2.2)
  else (s.forget t, l, d, 4, 0)
section
variable (B sp gp bV bT bH m lp p bD bN n t : Nat) (s : AShard) (l : ALog) (d : ADisk) (w : World)
set_option maxRecDepth 100000 in
set_option maxHeartbeats 4000000 in
theorem prep_any (h : SL w B sp gp bV bT bH m lp p bD bN n s l d) (ht : t < 18446744073709551616) (hn : n + 3 < 67108864) (hB : 2 ≤ B) (hsg : l.filled < 600 → l.segs ≠ []) (hpow : Pows w) (hm : m < 67108864) (hc : s.count t ≤ 16) (hv : s.Small) :
    Calls Tryz.prog 78 #[.pointer (some ⟨sp, 0, none⟩), .int .u64 (t : Int)] w fun e w' => ∃ L, Once1 L ∧ (∀ k, alLook L k = alLook s.holds (t, k)) ∧ e = .returned (.tuple #[.int .i64 ((s.prep l d t L).2.2.2.1 : Int), errN (s.prep l d t L).2.2.2.2]) ∧ SL w' B sp gp bV bT bH (m + 1) lp p bD bN (n + 3) (s.prep l d t L).1 (s.prep l d t L).2.1 (s.prep l d t L).2.2.1 ∧ SFr sp bV bT bH lp p w w' := by
  have hho := holdsOf_any sp gp bV bT bH m t s w h.sh ht (by unfold maxLen; omega)
  have HH : Hid (SL w B sp gp bV bT bH m lp p bD bN n s l d ∧ Pows w ∧ s.count t ≤ 16 ∧ s.Small ∧ (l.filled < 600 → l.segs ≠ [])) := ⟨h, hpow, hc, hv, hsg⟩
  have hsp := h.sh.lts.1
  clear h hc hv hsg hpow
  go_enter Tryz.func78, Tryz.ntmps78
  go_wp2_with fail
  refine hho.mono ?_
  clear hho
  rintro e w1 ⟨b, L, rfl, hb, hL, hlk, hf1⟩
  have haw := anyWrites_any b m L w1 hL
  have HL : Hid (MapAs KS EG w1 b m L ∧ (∀ k, alLook L k = alLook s.holds (t, k)) ∧ Fr [] w w1) := ⟨hL, hlk, hf1⟩
  have HO : Hid (Once1 L) := by obtain ⟨_, _, _, h3, _⟩ := hL; exact h3
  have hbl := hL.lt
  clear hL hlk hf1
  go_wp2_with fail
  refine haw.mono ?_
  clear haw
  rintro e w2 ⟨rfl, hf2⟩
  have HF2 : Hid (Fr [] w w2) := HL.out.2.2.trans hf2
  have HL2 : Hid (MapAs KS EG w2 b m L) := HL.out.1.fr hf2 (by simp)
  obtain ⟨h2, hs2⟩ := HH.out.1.new HF2.out
  have H2 : Hid (SL w2 B sp gp bV bT bH m lp p bD bN n s l d ∧ SFr sp bV bT bH lp p w w2) := ⟨h2, hs2⟩
  clear hf2 h2 hs2
  cases hw : anyW L with
  | false =>
    have HP : Hid (s.prep l d t L = (s.forget t, l, d, 4, 0)) := by show _ = _; unfold AShard.prep; rw [if_neg (by rw [hw]; decide)]
    clear hw
    go_wp2_with fail
    refine (forget_any sp gp bV bT bH m t s w2 H2.out.1.sh ht).mono ?_
    rintro e w3 ⟨rfl, hs3, hf3⟩
    obtain ⟨h3, hx3⟩ := H2.out.1.turn hs3 hf3 (by simp)
    have H3 : Hid (SL w3 B sp gp bV bT bH m lp p bD bN n (s.forget t) l d ∧ SFr sp bV bT bH lp p w w3) := ⟨h3, H2.out.2.trans hx3⟩
    clear hs3 hf3 h3 hx3
    go_wp2
    go_ret2
    obtain ⟨pv, sv, rv, nD, nN, hl⟩ := H3.out.1.lg
    refine ⟨L, HO.out, HL.out.2.1, ?_, ?_, H3.out.2⟩
    · rw [HP.out]; rfl
    · rw [HP.out]; exact ⟨H3.out.1.sh.mono (by omega), ⟨pv, sv, rv, nD, nN, hl.mores (by omega) (by omega)⟩, H3.out.1.ap, H3.out.1.gp1⟩
  | true =>
    have hsmall : ∀ x ∈ sortG L, SmallH x := fun x hx => by
      have h1 := alLook_of HO.out (sortG_mem HO.out hx)
      rw [HL.out.2.1] at h1
      exact HH.out.2.2.2.1 _ (alLook_mem h1)
    have hlen : L.length ≤ 16 := by
      have hso : Once1 s.holds := by obtain ⟨_, _, _, h3, _⟩ := H2.out.1.sh.holds; exact h3
      rw [AShard.count_of hso HO.out HL.out.2.1]
      exact HH.out.2.2.1
    have hpe := prepared_any t b m L (by omega) w2.drew (HL2.out.fr (Fr.refl [] w2).drew (by simp)) ht hsmall hlen
    obtain ⟨X, hX⟩ : ∃ X, X = str (be 8 t ++ holdsB (sortG L)) := ⟨_, rfl⟩
    rw [← hX] at hpe
    have HK : Hid (∀ w1, Fr [] w2 w1 → Calls Tryz.prog 92 #[.pointer (some ⟨gp, 0, none⟩), .int .u8 1, .string X] w1 fun e w2 => e = .returned (errN (l.keep d 1 X).2.2) ∧ SL w2 B sp gp bV bT bH m lp p bD bN (n + 3) s (l.keep d 1 X).1 (l.keep d 1 X).2.1 ∧ SFr sp bV bT bH lp p w w2) := fun w1 hf1 => by
      obtain ⟨h1, hs1⟩ := H2.out.1.new hf1
      obtain ⟨pv, sv, rv, nD, nN, hl⟩ := h1.lg
      have hp1 : Pows w1 := HH.out.2.1.of_block ((HF2.out.trans hf1).block 1 (by obtain ⟨_, _, _, _, _, h2⟩ := HH.out.1.lg; have := h2.disk.base.2.2.2; omega) (by simp))
      refine (keep_any B gp lp p bD bN n nD nN 1 pv sv rv l d X w1 h1.ap.led hl (by omega) hn hB HH.out.2.2.2.2 hp1).mono ?_
      rintro e w2 ⟨he, hl2, ho2⟩
      obtain ⟨h2, hs2⟩ := h1.log ho2 hl2
      exact ⟨he, h2, H2.out.2.trans (hs1.trans hs2)⟩
    obtain ⟨R, hR⟩ : ∃ R, R = l.keep d 1 X := ⟨_, rfl⟩
    have HP : Hid (s.prep l d t L = if R.2.2 = 0 then ({ s with txns := alPut s.txns t ⟨3, 0, 0⟩ }, R.1, R.2.1, 2, 0) else (s, R.1, R.2.1, 0, R.2.2)) := by show _ = _; unfold AShard.prep; rw [if_pos hw, ← hX, ← hR]
    rw [← hR] at HK
    clear hR hX hw hsmall hlen
    have c0 := blk_cell H2.out.1.sh.blk 0
    simp at c0
    rw [lgP_pos H2.out.1.gp1] at c0
    have hsp2 := H2.out.1.sh.lts.1
    go_wp2
    go_region_held3 (fun w' => w'.cell? ⟨sp, 0, none⟩ = some (.pointer (some ⟨gp, 0, none⟩)))
      (simp [*])
      (first
        | (go_at_call 116; refine hpe.mono ?_; rintro e w3 ⟨rfl, hb3⟩; have hf3 : Fr [] w2 w3 := ⟨hb3.os, hb3.tape, hb3.output, hb3.size, fun k hk _ => hb3.block k hk⟩; have p0 : w3.cell? ⟨sp, 0, none⟩ = some (.pointer (some ⟨gp, 0, none⟩)) := (World.cell?_of_block (a := ⟨sp, 0, none⟩) (hf3.block sp hsp2 (by simp))).trans c0; have H3 : Hid (Fr [] w2 w3) := hf3; clear hb3 hf3)
        | (go_at_call 92; refine (HK.out w3 H3.out).mono ?_; rintro e w4 ⟨rfl, h4, hs4⟩; have q0 : w4.cell? ⟨sp, 0, none⟩ = some (.pointer (some ⟨gp, 0, none⟩)) := (blk_cell h4.sh.blk 0).trans (by simp [lgP_pos h4.gp1]); have H4 : Hid (SL w4 B sp gp bV bT bH m lp p bD bN (n + 3) s R.1 R.2.1 ∧ SFr sp bV bT bH lp p w w4) := ⟨h4, hs4⟩; clear h4 hs4))
    by_cases hr : R.2.2 = 0
    · rw [hr, errN_ok]
      have HP2 : Hid (s.prep l d t L = ({ s with txns := alPut s.txns t ⟨3, 0, 0⟩ }, R.1, R.2.1, 2, 0)) := by show _ = _; rw [HP.out, if_pos hr]
      have c2 := blk_cell H4.out.1.sh.blk 2
      simp at c2
      obtain ⟨w5, hr5, hm5, hg5⟩ := H4.out.1.sh.txns.putRun Tryz.underlying138 (by unfold maxLen; omega) (k := t) ht (v := (⟨3, 0, 0⟩ : ATxn)) trivial
      change (Instr.mapUpdate _ _ (.int .u64 (t : Int)) (.agg #[.int .i64 3, .int .i64 0, .int .u64 0])).run _ _ = _ at hr5
      have hf5 : Fr [bT] w4 w5 := Fr.of_grown1 hg5
      obtain ⟨h5, hx5⟩ := H4.out.1.turn (H4.out.1.sh.setTxns hf5 hm5 (by omega)) hf5 (by simp)
      have H5 : Hid (SL w5 B sp gp bV bT bH (m + 1) lp p bD bN (n + 3) { s with txns := alPut s.txns t ⟨3, 0, 0⟩ } R.1 R.2.1 ∧ SFr sp bV bT bH lp p w w5) := ⟨h5, H4.out.2.trans hx5⟩
      clear hr HP hm5 hg5 hf5 h5 hx5
      go_wp2
      go_ret2
      refine ⟨L, HO.out, HL.out.2.1, ?_, ?_, H5.out.2⟩
      · rw [HP2.out]; rfl
      · rw [HP2.out]; exact H5.out.1
    · have HP2 : Hid (s.prep l d t L = (s, R.1, R.2.1, 0, R.2.2)) := by show _ = _; rw [HP.out, if_neg hr]
      rw [errN_no hr]
      go_wp2
      go_ret2
      refine ⟨L, HO.out, HL.out.2.1, ?_, ?_, H4.out.2⟩
      · rw [HP2.out, errN_no hr]; rfl
      · rw [HP2.out]; exact ⟨H4.out.1.sh.mono (by omega), H4.out.1.lg, H4.out.1.ap, H4.out.1.gp1⟩
/-- what Prepare leaves, and says -/
def AShard.prepare (s : AShard) (l : ALog) (d : ADisk) (t : Nat) (L : List (ByteArray × AGrip)) : AShard × ALog × ADisk × Nat × Nat :=
  if t = 0 then (s, l, d, 0, 7) else if (s.txn t).state = 3 then (s, l, d, 2, 0) else if (s.txn t).state = 1 then s.prep l d t L else (s.forget t, l, d, 3, 0)
set_option maxRecDepth 100000 in
set_option maxHeartbeats 4000000 in
theorem prepare_any (h : SL w B sp gp bV bT bH m lp p bD bN n s l d) (ht : t < 18446744073709551616) (hn : n + 3 < 67108864) (hB : 2 ≤ B) (hsg : l.filled < 600 → l.segs ≠ []) (hpow : Pows w) (hm : m < 67108864) (hc : s.count t ≤ 16) (hv : s.Small) :
    Calls Tryz.prog 35 #[.pointer (some ⟨sp, 0, none⟩), .int .u64 (t : Int)] w fun e w' => ∃ L, Once1 L ∧ (∀ k, alLook L k = alLook s.holds (t, k)) ∧ e = .returned (.tuple #[.int .i64 ((s.prepare l d t L).2.2.2.1 : Int), errN (s.prepare l d t L).2.2.2.2]) ∧ SL w' B sp gp bV bT bH (m + 1) lp p bD bN (n + 3) (s.prepare l d t L).1 (s.prepare l d t L).2.1 (s.prepare l d t L).2.2.1 ∧ SFr sp bV bT bH lp p w w' := by
  have hso : Once1 s.holds := by obtain ⟨_, _, _, h3, _⟩ := h.sh.holds; exact h3
  obtain ⟨L0, hL0, hL1⟩ : ∃ L, Once1 L ∧ ∀ k, alLook L k = alLook s.holds (t, k) := held_exists hso t
  have HL0 : Hid (Once1 L0 ∧ ∀ k, alLook L0 k = alLook s.holds (t, k)) := ⟨hL0, hL1⟩
  have hmore : Hid (∀ {w' : World} {s' : AShard}, SL w' B sp gp bV bT bH m lp p bD bN n s' l d → SL w' B sp gp bV bT bH (m + 1) lp p bD bN (n + 3) s' l d) := fun {w' s'} h' => by
    obtain ⟨pv, sv, rv, nD, nN, hl⟩ := h'.lg
    exact ⟨h'.sh.mono (by omega), ⟨pv, sv, rv, nD, nN, hl.mores (by omega) (by omega)⟩, h'.ap, h'.gp1⟩
  have HH : Hid (SL w B sp gp bV bT bH m lp p bD bN n s l d) := h
  have HS : Hid (SFr sp bV bT bH lp p w w) := (h.new (Fr.refl [] w)).2
  have hsa := state_eq sp gp bV bT bH m t s w h.sh ht
  have hpr := prep_any B sp gp bV bT bH m lp p bD bN n t s l d w h ht hn hB hsg hpow hm hc hv
  have hfo := forget_any sp gp bV bT bH m t s w h.sh ht
  clear hL0 hL1 hso h hsg hpow hc hv
  by_cases h0 : t = 0
  · have HP : Hid (∀ L, s.prepare l d t L = (s, l, d, 0, 7)) := fun L => by unfold AShard.prepare; rw [if_pos h0]
    subst h0
    clear hsa hpr hfo
    go_enter Tryz.func35, Tryz.ntmps35
    go_wp2
    go_ret2
    refine ⟨L0, HL0.out.1, HL0.out.2, ?_, ?_, HS.out⟩
    · rw [HP.out]; show _ = Ending.returned (.tuple #[.int .i64 0, errN 7]); rw [errN_no (by decide)]; rfl
    · rw [HP.out]; exact hmore.out HH.out
  have i0 : ¬ (t : Int) = 0 := by omega
  by_cases h3 : (s.txn t).state = 3
  · have HP : Hid (∀ L, s.prepare l d t L = (s, l, d, 2, 0)) := fun L => by unfold AShard.prepare; rw [if_neg h0, if_pos h3]
    rw [h3] at hsa
    clear hpr hfo h3
    go_enter Tryz.func35, Tryz.ntmps35
    go_wp2_with fail
    refine hsa.mono ?_
    clear hsa
    rintro e w1 ⟨rfl, rfl⟩
    go_wp2
    go_ret2
    refine ⟨L0, HL0.out.1, HL0.out.2, ?_, ?_, HS.out⟩
    · rw [HP.out]; rfl
    · rw [HP.out]; exact hmore.out HH.out
  have i3 : ¬ ((s.txn t).state : Int) = 3 := by omega
  by_cases h1 : (s.txn t).state = 1
  · have HP : Hid (∀ L, s.prepare l d t L = s.prep l d t L) := fun L => by unfold AShard.prepare; rw [if_neg h0, if_neg h3, if_pos h1]
    rw [h1] at hsa
    clear hfo h1 h3 i3
    go_enter Tryz.func35, Tryz.ntmps35
    go_wp2_with fail
    refine hsa.mono ?_
    clear hsa
    rintro e w1 ⟨rfl, rfl⟩
    go_wp2_with fail
    refine hpr.mono ?_
    clear hpr
    rintro e w2 ⟨L, a1, a2, rfl, a3, a4⟩
    have H2 : Hid (Once1 L ∧ (∀ k, alLook L k = alLook s.holds (t, k)) ∧ SL w2 B sp gp bV bT bH (m + 1) lp p bD bN (n + 3) (s.prep l d t L).1 (s.prep l d t L).2.1 (s.prep l d t L).2.2.1 ∧ SFr sp bV bT bH lp p w1 w2) := ⟨a1, a2, a3, a4⟩
    clear a1 a2 a3 a4
    go_wp2
    go_ret2
    refine ⟨L, H2.out.1, H2.out.2.1, ?_, ?_, H2.out.2.2.2⟩
    · rw [HP.out]; rfl
    · rw [HP.out]; exact H2.out.2.2.1
  · have i1 : ¬ ((s.txn t).state : Int) = 1 := by omega
    have HP : Hid (∀ L, s.prepare l d t L = (s.forget t, l, d, 3, 0)) := fun L => by unfold AShard.prepare; rw [if_neg h0, if_neg h3, if_neg h1]
    clear hpr h1 h3
    go_enter Tryz.func35, Tryz.ntmps35
    go_wp2_with fail
    refine hsa.mono ?_
    clear hsa
    rintro e w1 ⟨rfl, rfl⟩
    go_wp2_with fail
    refine hfo.mono ?_
    clear hfo
    rintro e w2 ⟨rfl, hs2, hf2⟩
    obtain ⟨h2, hx2⟩ := HH.out.turn hs2 hf2 (by simp)
    have H2 : Hid (SL w2 B sp gp bV bT bH m lp p bD bN n (s.forget t) l d ∧ SFr sp bV bT bH lp p w1 w2) := ⟨h2, hx2⟩
    clear hs2 hf2 h2 hx2
    go_wp2
    go_ret2
    refine ⟨L0, HL0.out.1, HL0.out.2, ?_, ?_, H2.out.2⟩
    · rw [HP.out]; rfl
    · rw [HP.out]; exact hmore.out H2.out.1
end
end Go.Proofs.YtkhjhojmhllkaaaGreatDoor
/- FIELDS of a payload: FieldsOf, take, NumberOf, Text, More, Right, where all that is taken is there. -/
namespace Go.Proofs.YtkhjhojmhllkaaaGreatDoor
open Go.RowKit
open Sc

theorem str_data0 (l : List Nat) : (str l).data = (l.map fun x => UInt8.ofNat x).toArray := by
  have aux : ∀ (l : List Nat) (r : ByteArray), ((l.map fun x : Nat => (x : Int)).foldl (fun r n => r.push (UInt8.ofNat n.toNat)) r).data = r.data ++ (l.map fun x => UInt8.ofNat x).toArray := by
    intro l
    induction l with
    | nil => intro r; simp
    | cons x l ih =>
      intro r
      rw [List.map_cons, List.foldl_cons, ih]
      simp [ByteArray.push]
  unfold str
  rw [aux]
  simp
theorem bytesOf_str0 {l : List Nat} (h : Byt l) : bytesOf (str l) = l := by
  unfold bytesOf
  rw [str_data0]
  simp only [List.map_map]
  have : ∀ (m : List Nat), Byt m → m.map (UInt8.toNat ∘ fun x => UInt8.ofNat x) = m := by
    intro m
    induction m with
    | nil => intro _; rfl
    | cons x m ih =>
      intro hb
      have hx : x < 256 := hb x (by simp)
      rw [List.map_cons, ih (fun y hy => hb y (by simp [hy]))]
      congr 1
      simp
      omega
  exact this l h
abbrev fldO (b off n cap : Nat) : Obj := .cells #[.slice (some ⟨b, off, none⟩) n cap, .bool false] 337
/-- what is left to be taken -/
def FldIn (w : World) (fp : Nat) (rest : List Nat) : Prop :=
  ∃ b off cap, w.heap[fp]? = some (fldO b off rest.length cap) ∧ RowAt w b off rest ∧ b < w.heap.size ∧ rest.length ≤ cap ∧ cap ≤ maxLen ∧ b ≠ fp ∧ Byt rest
theorem FldIn.lt {w : World} {fp : Nat} {rest : List Nat} (h : FldIn w fp rest) : fp < w.heap.size := by obtain ⟨_, _, _, h1, _⟩ := h; exact (Array.getElem?_eq_some_iff.1 h1).1
/-- its two blocks are as they were -/
theorem FldIn.keep {w w' : World} {fp : Nat} {rest : List Nat} (h : FldIn w fp rest) {n : Nat} (hf : ∀ k, n ≤ k → k < w.heap.size → w'.heap[k]? = w.heap[k]?) (hs : w.heap.size ≤ w'.heap.size) (hb : ∀ b off cap, w.heap[fp]? = some (fldO b off rest.length cap) → n ≤ b) (hn : n ≤ fp) : FldIn w' fp rest := by
  have hfp := h.lt
  obtain ⟨b, off, cap, h1, h2, h3, h4⟩ := h
  refine ⟨b, off, cap, (hf fp hn hfp).trans h1, fun i hi => ?_, by omega, h4⟩
  exact (World.cell?_of_block (a := ⟨b, off + i, none⟩) (hf b (hb b off cap h1) h3)).trans (h2 i hi)
/-- fields that lie from n on -/
structure FldAt (n : Nat) (w : World) (fp : Nat) (rest : List Nat) : Prop where
  fld : FldIn w fp rest
  low : n ≤ fp
  row : ∀ b off cap, w.heap[fp]? = some (fldO b off rest.length cap) → n ≤ b
  typ : ∀ b off cap, w.heap[fp]? = some (fldO b off rest.length cap) → ∃ c fr, w.heap[b]? = some (.cells c 5 fr)
theorem FldAt.keep {n : Nat} {w w' : World} {fp : Nat} {rest : List Nat} (h : FldAt n w fp rest) (hf : ∀ k, n ≤ k → k < w.heap.size → w'.heap[k]? = w.heap[k]?) (hs : w.heap.size ≤ w'.heap.size) : FldAt n w' fp rest := by
  have hfp := h.fld.lt
  refine ⟨h.fld.keep hf hs h.row h.low, h.low, fun b off cap hb => ?_, fun b off cap hb => ?_⟩
  · rw [hf fp h.low hfp] at hb
    exact h.row b off cap hb
  · rw [hf fp h.low hfp] at hb
    obtain ⟨c, fr, hc⟩ := h.typ b off cap hb
    exact ⟨c, fr, (hf b (h.row b off cap hb) (Array.getElem?_eq_some_iff.1 hc).1).trans hc⟩
/-- what is no field's has turned -/
theorem FldAt.apart {n : Nat} {S : List Nat} {w w' : World} {fp : Nat} {rest : List Nat} (h : FldAt n w fp rest) (hf : Fr S w w') (hS : ∀ k ∈ S, k ≠ fp ∧ ∀ c fr, w.heap[k]? ≠ some (.cells c 5 fr)) : FldAt n w' fp rest := by
  have hfp := h.fld.lt
  have e0 := hf.block fp hfp (fun e => (hS fp e).1 rfl)
  have eb : ∀ b off cap, w.heap[fp]? = some (fldO b off rest.length cap) → w'.heap[b]? = w.heap[b]? := fun b off cap hb => by
    obtain ⟨c, fr, hc⟩ := h.typ b off cap hb
    exact hf.block b (Array.getElem?_eq_some_iff.1 hc).1 (fun e => (hS b e).2 c fr hc)
  refine ⟨?_, h.low, fun b off cap hb => h.row b off cap (by rw [← e0]; exact hb), fun b off cap hb => ?_⟩
  · obtain ⟨b, off, cap, h1, h2, h3, h4⟩ := h.fld
    refine ⟨b, off, cap, e0.trans h1, fun i hi => ?_, by have := hf.size; omega, h4⟩
    exact (World.cell?_of_block (a := ⟨b, off + i, none⟩) (eb b off cap h1)).trans (h2 i hi)
  · rw [e0] at hb
    rw [eb b off cap hb]
    exact h.typ b off cap hb
theorem FldAt.fr {n : Nat} {S : List Nat} {w w' : World} {fp : Nat} {rest : List Nat} (h : FldAt n w fp rest) (hf : Fr S w w') (hS : ∀ k ∈ S, k < n) : FldAt n w' fp rest :=
  h.keep (fun k hk hl => hf.block k hl (fun hm => by have := hS k hm; omega)) hf.size
set_option maxRecDepth 100000 in
set_option maxHeartbeats 1000000 in
theorem fieldsOf_any (l : List Nat) (hl : Byt l) (hs : l.length ≤ 4096) (w : World) :
    Calls Tryz.prog 180 #[.string (str l)] w fun e w' => ∃ fp, e = .returned (.pointer (some ⟨fp, 0, none⟩)) ∧ FldAt w.heap.size w' fp l ∧ Fr [] w w' := by
  have hrb := run_bytes w (str l)
  have hsz : (str l).size = l.length := by rw [← bytesOf_len, bytesOf_str0 hl]
  have hrow := row_str w (str l) (grownCap w (str l).size 0 5)
  have hty : (w.drew.alloc (strO (str l) (grownCap w (str l).size 0 5))).heap[w.heap.size]? = some (strO (str l) (grownCap w (str l).size 0 5)) := heap_alloc_new w.drew _
  have hge := grownCap_ge w (str l).size 0 5
  have hle := grownCap_le_maxLen w (str l).size 0 5 (by rw [hsz]; unfold maxLen; omega)
  rw [bytesOf_str0 hl] at hrow
  obtain ⟨W, hW⟩ : ∃ W, W = w.drew.alloc (strO (str l) (grownCap w (str l).size 0 5)) := ⟨_, rfl⟩
  have hf : Fr [] w W := by rw [hW]; exact (Fr.refl [] w).drew.alloc _
  have hs1 : W.heap.size = w.heap.size + 1 := by rw [hW]; simp
  rw [← hW] at hrb hrow hty
  rw [hsz] at hrb hge hle
  obtain ⟨cap, hcap⟩ : ∃ cap, cap = grownCap w l.length 0 5 := ⟨_, rfl⟩
  rw [← hcap] at hrb hge hle
  clear hW hcap hsz
  go_enter Tryz.func180, Tryz.ntmps180
  go_wp2
  go_ret
  have hn := heap_alloc_new W (fldO w.heap.size 0 l.length cap)
  refine ⟨W.heap.size, by rw [hs1]; rfl, ⟨⟨w.heap.size, 0, cap, hn, fun i hi => ?_, by simp; omega, hge, hle, by omega, hl⟩, by omega, fun b off c hb => ?_, fun b off c hb => ?_⟩, hf.alloc _⟩
  · rw [World.cell?_alloc_lt _ _ ⟨w.heap.size, 0 + i, none⟩ (by show w.heap.size < _; omega)]
    exact hrow i hi
  · rw [hn] at hb
    cases hb
    exact Nat.le_refl _
  · rw [hn] at hb
    cases hb
    exact ⟨_, _, (Below.heap_alloc _ _ _ (by omega)).trans hty⟩
theorem RowAt.fr {w w' : World} {b off : Nat} {l : List Nat} (h : RowAt w b off l) (hb : w'.heap[b]? = w.heap[b]?) : RowAt w' b off l := fun i hi =>
  (World.cell?_of_block (a := ⟨b, off + i, none⟩) hb).trans (h i hi)
/-- what was taken -/
def Taken (n fp : Nat) (rest : List Nat) (k : Nat) (w : World) (e : Ending) (w' : World) : Prop :=
  ∃ b off, e = .returned (.slice (some ⟨b, off, none⟩) k k) ∧ RowAt w' b off (rest.take k) ∧ FldAt n w' fp (rest.drop k) ∧ Fr [fp] w w'
set_option maxRecDepth 100000 in
set_option maxHeartbeats 1000000 in
theorem ftake_any (n fp k : Nat) (rest : List Nat) (w : World) (h : FldAt n w fp rest) (hk : k ≤ rest.length) (hk2 : k ≤ 4096) :
    Calls Tryz.prog 254 #[.pointer (some ⟨fp, 0, none⟩), .int .i64 (k : Int)] w (Taken n fp rest k w) := by
  obtain ⟨⟨b, off, cap, h1, h2, h3, h4, h5, h6, h7⟩, hlow, hrow, htyp⟩ := h
  have hty := htyp b off cap h1
  have c0 := blk_cell h1 0
  have f0 := blk_free h1 0
  simp at c0
  have hnb := hrow b off cap h1
  have HH : Hid (w.heap[fp]? = some (fldO b off rest.length cap) ∧ RowAt w b off rest) := ⟨h1, h2⟩
  have hfp : fp < w.heap.size := (Array.getElem?_eq_some_iff.1 h1).1
  obtain ⟨m, hm⟩ : ∃ m, m = rest.length := ⟨_, rfl⟩
  rw [← hm] at c0 hk h4 HH
  have HM : Hid (m = rest.length) := hm
  have i1 : ¬ (m : Int) < (k : Int) := by omega
  have hsp := split_any b off m cap k w hk h4 h5
  have HTY : Hid (∃ c fr, w.heap[b]? = some (.cells c 5 fr)) := hty
  clear h1 h2 hm hrow htyp hty
  go_enter Tryz.func254, Tryz.ntmps254
  go_wp2_with fail
  refine hsp.mono ?_
  clear hsp
  rintro e w1 ⟨rfl, q, rfl⟩
  obtain ⟨off', hcut⟩ : ∃ off', cutA b off k cap = some ⟨b, off', none⟩ ∧ (k < cap → off' = off + k) := by
    unfold cutA
    by_cases hc : cap = k
    · rw [if_pos hc]; exact ⟨off, rfl, fun h => by omega⟩
    · rw [if_neg hc]; exact ⟨off + k, rfl, fun _ => rfl⟩
  obtain ⟨hcut1, hcut2⟩ := hcut
  rw [hcut1]
  have d0 : (w.drewN q).cell? ⟨fp, 0, none⟩ = some (.slice (some ⟨b, off, none⟩) m cap) := by rw [World.cell?_of_block (a := ⟨fp, 0, none⟩) (show (w.drewN q).heap[fp]? = w.heap[fp]? by rw [heap_drewN])]; exact c0
  have g0 : (w.drewN q).frozen? ⟨fp, 0, none⟩ = false := by rw [World.frozen?_of_block (a := ⟨fp, 0, none⟩) (show (w.drewN q).heap[fp]? = w.heap[fp]? by rw [heap_drewN])]; exact f0
  clear c0 f0 hcut1
  go_wp2
  go_ret
  obtain ⟨W, hW⟩ : ∃ W, W = (w.drewN q).setCell ⟨fp, 0, none⟩ (.slice (some ⟨b, off', none⟩) (m - k) (cap - k)) := ⟨_, rfl⟩
  rw [← hW]
  have hf : Fr [fp] w W := by rw [hW]; exact (frDrewN (Fr.refl [fp] w) q).setCell (.inl (by simp)) _
  have hbb : W.heap[b]? = w.heap[b]? := hf.block b h3 (by simpa using h6)
  have hbk : W.heap[fp]? = some (fldO b off' (m - k) (cap - k)) := by
    have : (w.drewN q).heap[fp]? = some (fldO b off m cap) := by rw [heap_drewN]; exact HH.out.1
    have := blk_set this 0 (.slice (some ⟨b, off', none⟩) (m - k) (cap - k))
    rw [hW]; simpa using this
  have hdl : (rest.drop k).length = m - k := by rw [List.length_drop, HM.out]
  refine ⟨b, off, rfl, fun i hi => ?_, ⟨⟨b, off', cap - k, by rw [hdl]; exact hbk, fun i hi => ?_, by have := hf.size; omega, by rw [hdl]; omega, by omega, h6, h7.drop k⟩, hlow, fun b' o' c' hb' => ?_, fun b' o' c' hb' => ?_⟩, hf⟩
  · have hi2 : i < rest.length := by rw [List.length_take] at hi; omega
    have hik : i < k := by rw [List.length_take] at hi; omega
    rw [(HH.out.2.fr hbb) i hi2]
    simp [at_, List.getElem?_take_of_lt hik]
  · rw [hdl] at hi
    have ho : off' = off + k := hcut2 (by omega)
    have hi2 : k + i < rest.length := by rw [← HM.out]; omega
    have := (HH.out.2.fr hbb) (k + i) hi2
    rw [ho, Nat.add_assoc]
    rw [this]
    simp [at_, List.getElem?_drop]
  · rw [hdl, hbk] at hb'
    cases hb'
    exact hnb
  · rw [hdl, hbk] at hb'
    cases hb'
    rw [hbb]
    exact HTY.out
set_option maxRecDepth 100000 in
set_option maxHeartbeats 1000000 in
theorem num64_any (n fp : Nat) (rest : List Nat) (w : World) (h : FldAt n w fp rest) (hk : 8 ≤ rest.length) :
    Calls Tryz.prog 223 #[.pointer (some ⟨fp, 0, none⟩)] w fun e w' => e = .returned (.int .u64 ((val (rest.take 8) : Nat) : Int)) ∧ FldAt n w' fp (rest.drop 8) ∧ Fr [fp] w w' := by
  have hb : Byt rest := by obtain ⟨_, _, _, _, _, _, _, _, _, h⟩ := h.fld; exact h
  have ht := ftake_any n fp 8 rest w h hk (by omega)
  clear h
  go_enter Tryz.func223, Tryz.ntmps223
  go_wp2_with fail
  refine (width_u64 w).mono ?_
  rintro e w1 ⟨rfl, rfl⟩
  go_wp2_with fail
  refine ht.mono ?_
  clear ht
  rintro e w2 ⟨b, off, rfl, hrow, hf2, hfr⟩
  have HF : Hid (FldAt n w2 fp (rest.drop 8) ∧ Fr [fp] w1 w2) := ⟨hf2, hfr⟩
  have hl8 : (rest.take 8).length = 8 := by rw [List.length_take]; omega
  have htn := take_u64 b off 8 8 (rest.take 8) w2 (hb.take 8) hl8 (by omega) (by omega) (by unfold maxLen; omega) hrow
  rw [List.take_take, Nat.min_self] at htn
  clear hf2 hfr hrow
  go_wp2_with fail
  refine htn.mono ?_
  clear htn
  rintro e w3 ⟨rfl, q, rfl⟩
  go_wp2
  go_ret
  exact ⟨rfl, HF.out.1.fr (frDrewN (Fr.refl [] w2) q) (by simp), frDrewN HF.out.2 q⟩
set_option maxRecDepth 100000 in
set_option maxHeartbeats 1000000 in
theorem num8_any (n fp : Nat) (rest : List Nat) (w : World) (h : FldAt n w fp rest) (hk : 1 ≤ rest.length) :
    Calls Tryz.prog 225 #[.pointer (some ⟨fp, 0, none⟩)] w fun e w' => e = .returned (.int .u8 ((val (rest.take 1) : Nat) : Int)) ∧ FldAt n w' fp (rest.drop 1) ∧ Fr [fp] w w' := by
  have hb : Byt rest := by obtain ⟨_, _, _, _, _, _, _, _, _, h⟩ := h.fld; exact h
  have ht := ftake_any n fp 1 rest w h hk (by omega)
  clear h
  go_enter Tryz.func225, Tryz.ntmps225
  go_wp2_with fail
  refine (width_u8 w).mono ?_
  rintro e w1 ⟨rfl, rfl⟩
  go_wp2_with fail
  refine ht.mono ?_
  clear ht
  rintro e w2 ⟨b, off, rfl, hrow, hf2, hfr⟩
  have HF : Hid (FldAt n w2 fp (rest.drop 1) ∧ Fr [fp] w1 w2) := ⟨hf2, hfr⟩
  have hl8 : (rest.take 1).length = 1 := by rw [List.length_take]; omega
  have htn := take_u8 b off 1 1 (rest.take 1) w2 (hb.take 1) hl8 (by omega) (by omega) (by unfold maxLen; omega) hrow
  rw [List.take_take, Nat.min_self] at htn
  clear hf2 hfr hrow
  go_wp2_with fail
  refine htn.mono ?_
  clear htn
  rintro e w3 ⟨rfl, q, rfl⟩
  go_wp2
  go_ret
  exact ⟨rfl, HF.out.1.fr (frDrewN (Fr.refl [] w2) q) (by simp), frDrewN HF.out.2 q⟩
set_option maxRecDepth 100000 in
set_option maxHeartbeats 1000000 in
theorem text_fld (n fp k : Nat) (t rest : List Nat) (w : World) (h : FldAt n w fp (k :: t ++ rest)) (hk : t.length = k) (hk2 : k < 256) :
    Calls Tryz.prog 226 #[.pointer (some ⟨fp, 0, none⟩)] w fun e w' => e = .returned (.string (str t)) ∧ FldAt n w' fp rest ∧ Fr [fp] w w' := by
  have hn := num8_any n fp (k :: t ++ rest) w h (by simp)
  have e1 : val ((k :: t ++ rest).take 1) = k := by simp [val]
  have e2 : (k :: t ++ rest).drop 1 = t ++ rest := by simp
  rw [e1, e2] at hn
  clear h e1 e2
  go_enter Tryz.func226, Tryz.ntmps226
  go_wp2_with fail
  refine hn.mono ?_
  clear hn
  rintro e w1 ⟨rfl, hf1, hfr1⟩
  have ht := ftake_any n fp k (t ++ rest) w1 hf1 (by simp; omega) (by omega)
  have e3 : (t ++ rest).take k = t := by rw [← hk]; simp
  have e4 : (t ++ rest).drop k = rest := by rw [← hk]; simp
  unfold Taken at ht
  rw [e3, e4] at ht
  have HF : Hid (Fr [fp] w w1) := hfr1
  clear hf1 hfr1 e3 e4
  have j1 : IntKind.i64.wrap (k : Int) = (k : Int) := by rw [IntKind.wrap_i64]; omega
  go_wp2_with fail
  refine ht.mono ?_
  clear ht
  rintro e w2 ⟨b, off, rfl, hrow, hf2, hfr2⟩
  have hcv := run_str w2 b off k k t hk hrow
  have H2 : Hid (FldAt n w2 fp rest ∧ Fr [fp] w w2) := ⟨hf2, HF.out.trans hfr2⟩
  clear hf2 hfr2 hrow
  go_wp2
  go_ret
  exact ⟨rfl, H2.out⟩
set_option maxHeartbeats 1000000 in
theorem more_any (n fp : Nat) (rest : List Nat) (w : World) (h : FldAt n w fp rest) :
    Calls Tryz.prog 224 #[.pointer (some ⟨fp, 0, none⟩)] w fun e w' => e = .returned (.bool (decide (0 < rest.length))) ∧ w' = w := by
  obtain ⟨⟨b, off, cap, h1, _⟩, _, _⟩ := h
  have c0 := blk_cell h1 0
  simp at c0
  clear h1
  obtain ⟨m, hm⟩ : ∃ m, m = rest.length := ⟨_, rfl⟩
  rw [← hm] at c0 ⊢
  clear hm
  go_enter Tryz.func224, Tryz.ntmps224
  go_wp2
  go_ret
  refine ⟨?_, rfl⟩
  simp
set_option maxHeartbeats 1000000 in
theorem right_any (n fp : Nat) (rest : List Nat) (w : World) (h : FldAt n w fp rest) :
    Calls Tryz.prog 227 #[.pointer (some ⟨fp, 0, none⟩)] w fun e w' => e = .returned (.bool (!decide (0 < rest.length))) ∧ w' = w := by
  have hm := more_any n fp rest w h
  obtain ⟨⟨b, off, cap, h1, _⟩, _, _⟩ := h
  have c1 := blk_cell h1 1
  simp at c1
  clear h1
  go_enter Tryz.func227, Tryz.ntmps227
  go_wp2_with fail
  refine hm.mono ?_
  rintro e w1 ⟨rfl, rfl⟩
  go_wp2
  go_ret
  exact ⟨rfl, rfl⟩
end Go.Proofs.YtkhjhojmhllkaaaGreatDoor
/- A SHARD READS ITS ENTRIES: readPrepared, readDecided, read. -/
namespace Go.Proofs.YtkhjhojmhllkaaaGreatDoor
open Go.RowKit Go.Maps
open Sc

/-- the holds of an entry are taken -/
def AShard.takes (s : AShard) (t : Nat) : List (ByteArray × AGrip) → AShard
  | [] => s
  | x :: r => (s.take t x.1 x.2).takes t r
theorem AShard.takes_snoc : ∀ (ys : List (ByteArray × AGrip)) (s : AShard) (t : Nat) (x : ByteArray × AGrip), s.takes t (ys ++ [x]) = (s.takes t ys).take t x.1 x.2
  | [], _, _, _ => rfl
  | y :: ys, s, t, x => AShard.takes_snoc ys (s.take t y.1 y.2) t x
/-- how much is left -/
def fldLen (w : World) (fp : Nat) : Nat := match w.cell? ⟨fp, 0, none⟩ with
  | some (.slice _ n _) => n
  | _ => 0
theorem FldIn.len {w : World} {fp : Nat} {rest : List Nat} (h : FldIn w fp rest) : fldLen w fp = rest.length := by
  obtain ⟨b, off, cap, h1, _⟩ := h
  have c0 := blk_cell h1 0
  simp at c0
  unfold fldLen
  rw [c0]
/-- one that is prepared -/
def AShard.prepd (s : AShard) (t : Nat) (xs : List (ByteArray × AGrip)) : AShard := ({ s with txns := alPut s.txns t ⟨3, 0, 0⟩ } : AShard).takes t xs
theorem holdB_cons (x : ByteArray × AGrip) (xs : List (ByteArray × AGrip)) : holdsB (x :: xs) = x.2.way :: (x.1.size :: bytesOf x.1 ++ (x.2.val.size :: bytesOf x.2.val ++ holdsB xs)) := by
  simp [holdsB, holdB]
theorem FldAt.more {n : Nat} {w : World} {fp : Nat} {x : ByteArray × AGrip} {xs : List (ByteArray × AGrip)} (_h : FldAt n w fp (holdsB (x :: xs))) : 0 < (holdsB (x :: xs)).length := by rw [holdB_cons]; simp
set_option maxRecDepth 100000 in
set_option maxHeartbeats 4000000 in
theorem readPrep_any (n sp lg bV bT bH m fp t : Nat) (s : AShard) (xs : List (ByteArray × AGrip)) (w : World) (h : ShIn w sp lg bV bT bH m s) (hf : FldAt n w fp (be 8 t ++ holdsB xs)) (ht : t < 18446744073709551616) (h0 : t ≠ 0) (hst : (s.txn t).state = 0) (hsm : ∀ x ∈ xs, SmallH x ∧ x.2.way ≤ 2) (hl : xs.length ≤ 16) (hm : m + 32 < maxLen) (hlow : sp < n ∧ bV < n ∧ bT < n ∧ bH < n) :
    Calls Tryz.prog 181 #[.pointer (some ⟨sp, 0, none⟩), .pointer (some ⟨fp, 0, none⟩)] w fun e w' => e = .returned (.bool true) ∧ ShIn w' sp lg bV bT bH (m + 1 + xs.length) (s.prepd t xs) ∧ Fr [fp, bT, bH] w w' := by
  have hnum := num64_any n fp (be 8 t ++ holdsB xs) w hf (by simp [be_len])
  have e1 : val ((be 8 t ++ holdsB xs).take 8) = t := by
    rw [List.take_left' (by rw [be_len])]
    exact val_be 8 t (by simpa using ht)
  have e2 : (be 8 t ++ holdsB xs).drop 8 = holdsB xs := List.drop_left' (by rw [be_len])
  rw [e1, e2] at hnum
  have HI : Hid (ShIn w sp lg bV bT bH m s) := h
  have hfl := hf.low
  have i0 : ¬ (t : Int) = 0 := by omega
  have i0b : ((t : Int) == 0) = false := beq_eq_false_iff_ne.2 i0
  clear e1 e2 h hf
  go_enter Tryz.func181, Tryz.ntmps181
  go_wp2_with fail
  refine hnum.mono ?_
  clear hnum
  rintro e w1 ⟨rfl, hf1, hfr1⟩
  have hin1 := HI.out.fr hfr1 (by simp; omega) (by simp; omega) (by simp; omega) (by simp; omega)
  have hsa := state_eq sp lg bV bT bH m t s w1 hin1 ht
  rw [hst] at hsa
  have H1 : Hid (ShIn w1 sp lg bV bT bH m s ∧ FldAt n w1 fp (holdsB xs) ∧ Fr [fp] w w1) := ⟨hin1, hf1, hfr1⟩
  clear hin1 hf1 hfr1 hst
  go_wp2_with fail
  refine hsa.mono ?_
  clear hsa
  rintro e w2 ⟨rfl, rfl⟩
  have c2 := blk_cell H1.out.1.blk 2
  simp at c2
  obtain ⟨w3, hr3, hm3, hg3⟩ := H1.out.1.txns.putRun Tryz.underlying138 (by omega) (k := t) ht (v := (⟨3, 0, 0⟩ : ATxn)) trivial
  change (Instr.mapUpdate _ _ (.int .u64 (t : Int)) (.agg #[.int .i64 3, .int .i64 0, .int .u64 0])).run _ _ = _ at hr3
  have hf3 : Fr [bT] w2 w3 := Fr.of_grown1 hg3
  have H3 : Hid (ShIn w3 sp lg bV bT bH (m + 1) { s with txns := alPut s.txns t ⟨3, 0, 0⟩ } ∧ FldAt n w3 fp (holdsB xs) ∧ Fr [fp, bT, bH] w w3) := by
    refine ⟨H1.out.1.setTxns hf3 hm3 (by omega), H1.out.2.1.fr hf3 (by simp; omega), ?_⟩
    exact (H1.out.2.2.mono (by intro k _ hk; simp at hk ⊢; exact .inl hk)).trans (hf3.mono (by intro k _ hk; simp at hk ⊢; exact .inr (.inl hk)))
  have HS : Hid (∀ x ∈ xs, SmallH x ∧ x.2.way ≤ 2) := hsm
  have HP : Hid (s.prepd t xs = ({ s with txns := alPut s.txns t ⟨3, 0, 0⟩ } : AShard).takes t xs) := rfl
  clear hm3 hg3 hf3 hsm
  go_wp2
  go_loopw [26] (fun _ wr => ∃ ys zs, Hid (xs = ys ++ zs ∧ FldAt n wr fp (holdsB zs) ∧ ShIn wr sp lg bV bT bH (m + 1 + ys.length) (({ s with txns := alPut s.txns t ⟨3, 0, 0⟩ } : AShard).takes t ys) ∧ Fr [fp, bT, bH] w wr)) (fun _ wr => fldLen wr fp)
  case atStart => exact ⟨[], xs, rfl, H3.out.2.1, H3.out.1, H3.out.2.2⟩
  case round =>
    obtain ⟨ys, zs, HX⟩ := hrel
    have hmo := more_any n fp (holdsB zs) wr HX.out.2.1
    cases zs with
    | nil =>
      have hri := right_any n fp (holdsB []) wr HX.out.2.1
      simp only [show decide (0 < (holdsB []).length) = false from rfl, Bool.not_false] at hmo hri
      go_wp2_with fail
      refine hmo.mono ?_
      rintro e w4 ⟨rfl, rfl⟩
      go_wp2_with fail
      refine hri.mono ?_
      rintro e w5 ⟨rfl, rfl⟩
      go_wp2
      go_ret
      have hxy : xs = ys := by rw [HX.out.1]; simp
      exact ⟨rfl, by rw [HP.out, hxy]; exact HX.out.2.2.1, HX.out.2.2.2⟩
    | cons x zs =>
      have hpos : decide (0 < (holdsB (x :: zs)).length) = true := decide_eq_true HX.out.2.1.more
      rw [hpos] at hmo
      have hx := HS.out x (by rw [HX.out.1]; simp)
      obtain ⟨⟨z1, z2, z3⟩, z4⟩ := hx
      have hfw := HX.out.2.1
      have HLEN : Hid (fldLen wr fp = (holdsB (x :: zs)).length) := hfw.fld.len
      have HLT : Hid ((holdsB zs).length < (holdsB (x :: zs)).length) := by show _ < _; rw [holdB_cons]; simp; omega
      rw [holdB_cons] at hfw
      have hn8 := num8_any n fp _ wr hfw (by simp)
      simp only [List.take_succ_cons, List.take_zero, List.drop_succ_cons, List.drop_zero] at hn8
      have ev : val [x.2.way] = x.2.way := by simp [val]
      rw [ev] at hn8
      clear hpos hfw ev
      go_wp2_with fail
      refine hmo.mono ?_
      clear hmo
      rintro e w4 ⟨rfl, rfl⟩
      go_wp2_with fail
      refine hn8.mono ?_
      clear hn8
      rintro e w5 ⟨rfl, hf5, hfr5⟩
      have ht6 := text_fld n fp x.1.size (bytesOf x.1) (x.2.val.size :: bytesOf x.2.val ++ holdsB zs) w5 hf5 (bytesOf_len _) (by omega)
      have H5 : Hid (Fr [fp] w4 w5) := hfr5
      clear hf5 hfr5
      go_wp2_with fail
      refine ht6.mono ?_
      clear ht6
      rintro e w6 ⟨rfl, hf6, hfr6⟩
      have ht7 := text_fld n fp x.2.val.size (bytesOf x.2.val) (holdsB zs) w6 hf6 (bytesOf_len _) (by omega)
      have H6 : Hid (Fr [fp] w4 w6) := H5.out.trans hfr6
      clear hf6 hfr6
      go_wp2_with fail
      refine ht7.mono ?_
      clear ht7
      rintro e w7 ⟨rfl, hf7, hfr7⟩
      rw [strOf_bytes, strOf_bytes]
      have hfr47 : Fr [fp] w4 w7 := H6.out.trans hfr7
      have hin7 := HX.out.2.2.1.fr hfr47 (by simp; omega) (by simp; omega) (by simp; omega) (by simp; omega)
      have H7 : Hid (FldAt n w7 fp (holdsB zs) ∧ Fr [fp, bT, bH] w w7) := ⟨hf7, HX.out.2.2.2.trans (hfr47.mono (by intro k _ hk; simp at hk ⊢; exact .inl hk))⟩
      have hyl : ys.length + 1 ≤ xs.length := by rw [HX.out.1]; simp
      have hta := take_any sp lg bV bT bH (m + 1 + ys.length) t x.1 x.2 _ w7 hin7 ht (by unfold maxLen; omega) (by omega)
      have i2 : ¬ (2 : Int) < (x.2.way : Int) := by omega
      clear hf7 hfr7 hfr47 hin7
      go_wp2_with fail
      refine hta.mono ?_
      clear hta
      rintro e w8 ⟨rfl, hin8, hfr8⟩
      have H8 : Hid (ShIn w8 sp lg bV bT bH (m + 1 + ys.length + 1) ((({ s with txns := alPut s.txns t ⟨3, 0, 0⟩ } : AShard).takes t ys).take t x.1 x.2) ∧ FldAt n w8 fp (holdsB zs) ∧ Fr [fp, bT, bH] w w8) := ⟨hin8, H7.out.1.fr hfr8 (by simp; omega), H7.out.2.trans (hfr8.mono (by intro k _ hk; simp at hk ⊢; exact .inr (.inr hk)))⟩
      clear hin8 hfr8
      go_wp2
      go_roundw
      case rel =>
        have HR : Hid (ShIn w8 sp lg bV bT bH (m + 1 + (ys ++ [x]).length) (({ s with txns := alPut s.txns t ⟨3, 0, 0⟩ } : AShard).takes t (ys ++ [x]))) := by show ShIn _ _ _ _ _ _ _ _; rw [AShard.takes_snoc, List.length_append]; exact H8.out.1
        exact ⟨ys ++ [x], zs, by rw [HX.out.1]; simp, H8.out.2.1, HR.out, H8.out.2.2⟩
      case measure => rw [H8.out.2.1.fld.len, HLEN.out]; exact HLT.out
section
variable (n sp lg bV bT bH m fp t c : Nat) (s : AShard) (w : World)
set_option maxRecDepth 100000 in
set_option maxHeartbeats 2000000 in
theorem readDec_commit (h : ShIn w sp lg bV bT bH m s) (hf : FldAt n w fp (be 8 t)) (ht : t < 18446744073709551616) (hst : (s.txn t).state = 3) (hm : m + c < maxLen) (hc : s.count t ≤ c) (hv : s.Small) (hlow : sp < n ∧ bV < n ∧ bT < n ∧ bH < n) :
    Calls Tryz.prog 182 #[.pointer (some ⟨sp, 0, none⟩), .pointer (some ⟨fp, 0, none⟩), .func (.func 93) #[.pointer (some ⟨sp, 0, none⟩)] #[]] w fun e w' => e = .returned (.bool true) ∧ ∃ s', Committed s s' t ∧ ShIn w' sp lg bV bT bH (m + c) s' ∧ Fr [fp, bV, bT, bH] w w' := by
  have hnum := num64_any n fp (be 8 t) w hf (Nat.le_of_eq (be_len 8 t).symm)
  have e1 : val ((be 8 t).take 8) = t := by rw [List.take_of_length_le (Nat.le_of_eq (be_len 8 t))]; exact val_be 8 t (by simpa using ht)
  have e2 : (be 8 t).drop 8 = [] := List.drop_of_length_le (Nat.le_of_eq (be_len 8 t))
  rw [e1, e2] at hnum
  have HI : Hid (ShIn w sp lg bV bT bH m s ∧ s.count t ≤ c ∧ s.Small) := ⟨h, hc, hv⟩
  have hfl := hf.low
  clear e1 e2 h hf hc hv
  go_enter Tryz.func182, Tryz.ntmps182
  go_wp2_with fail
  refine hnum.mono ?_
  clear hnum
  rintro e w1 ⟨rfl, hf1, hfr1⟩
  have hin1 := HI.out.1.fr hfr1 (by simp; omega) (by simp; omega) (by simp; omega) (by simp; omega)
  have hsa := state_eq sp lg bV bT bH m t s w1 hin1 ht
  rw [hst] at hsa
  have hso : Once1 s.holds := by obtain ⟨_, _, _, h3, _⟩ := hin1.holds; exact h3
  have hap := apply_any sp lg bV bT bH m t c s w1 hin1 ht hm (fun L h1 h2 => by rw [AShard.count_of hso h1 h2]; exact HI.out.2.1) (fun p hp => by have := (HI.out.2.2 p hp).2.1; simp at this; unfold maxLen; omega)
  have H1 : Hid (FldAt n w1 fp [] ∧ Fr [fp] w w1) := ⟨hf1, hfr1⟩
  clear hin1 hf1 hfr1 hst hso
  go_wp2_with fail
  refine hsa.mono ?_
  clear hsa
  rintro e w2 ⟨rfl, rfl⟩
  go_wp2_with fail
  refine hap.mono ?_
  clear hap
  rintro e w3 ⟨rfl, vs, hin3, hlk, hfr3⟩
  have hf3 := H1.out.1.fr hfr3 (by simp; omega)
  have hri := right_any n fp [] w3 hf3
  have H3 : Hid (ShIn w3 sp lg bV bT bH (m + c) (AShard.forget { s with vals := vs } t) ∧ Committed s (AShard.forget { s with vals := vs } t) t ∧ Fr [fp, bV, bT, bH] w w3) := ⟨hin3, ⟨vs, rfl, hlk⟩, (H1.out.2.mono (by intro k _ hk; simp at hk ⊢; exact .inl hk)).trans (hfr3.mono (by intro k _ hk; simp at hk ⊢; exact .inr hk))⟩
  clear hin3 hlk hfr3 hf3
  simp only [List.length_nil, Nat.lt_irrefl, decide_false, Bool.not_false] at hri
  go_wp2_with fail
  refine hri.mono ?_
  rintro e w4 ⟨rfl, rfl⟩
  go_wp2
  go_ret
  exact ⟨rfl, _, H3.out.2.1, H3.out.1, H3.out.2.2⟩
set_option maxRecDepth 100000 in
set_option maxHeartbeats 2000000 in
theorem readDec_abort (h : ShIn w sp lg bV bT bH m s) (hf : FldAt n w fp (be 8 t)) (ht : t < 18446744073709551616) (hst : (s.txn t).state = 3) (hlow : sp < n ∧ bV < n ∧ bT < n ∧ bH < n) :
    Calls Tryz.prog 182 #[.pointer (some ⟨sp, 0, none⟩), .pointer (some ⟨fp, 0, none⟩), .func (.func 79) #[.pointer (some ⟨sp, 0, none⟩)] #[]] w fun e w' => e = .returned (.bool true) ∧ ShIn w' sp lg bV bT bH m (s.forget t) ∧ Fr [fp, bV, bT, bH] w w' := by
  have hnum := num64_any n fp (be 8 t) w hf (Nat.le_of_eq (be_len 8 t).symm)
  have e1 : val ((be 8 t).take 8) = t := by rw [List.take_of_length_le (Nat.le_of_eq (be_len 8 t))]; exact val_be 8 t (by simpa using ht)
  have e2 : (be 8 t).drop 8 = [] := List.drop_of_length_le (Nat.le_of_eq (be_len 8 t))
  rw [e1, e2] at hnum
  have HI : Hid (ShIn w sp lg bV bT bH m s) := h
  have hfl := hf.low
  clear e1 e2 h hf
  go_enter Tryz.func182, Tryz.ntmps182
  go_wp2_with fail
  refine hnum.mono ?_
  clear hnum
  rintro e w1 ⟨rfl, hf1, hfr1⟩
  have hin1 := HI.out.fr hfr1 (by simp; omega) (by simp; omega) (by simp; omega) (by simp; omega)
  have hsa := state_eq sp lg bV bT bH m t s w1 hin1 ht
  rw [hst] at hsa
  have hfo := forget_any sp lg bV bT bH m t s w1 hin1 ht
  have H1 : Hid (FldAt n w1 fp [] ∧ Fr [fp] w w1) := ⟨hf1, hfr1⟩
  clear hin1 hf1 hfr1 hst
  go_wp2_with fail
  refine hsa.mono ?_
  clear hsa
  rintro e w2 ⟨rfl, rfl⟩
  go_wp2_with fail
  refine hfo.mono ?_
  clear hfo
  rintro e w3 ⟨rfl, hin3, hfr3⟩
  have hf3 := H1.out.1.fr hfr3 (by simp; omega)
  have hri := right_any n fp [] w3 hf3
  have H3 : Hid (ShIn w3 sp lg bV bT bH m (s.forget t) ∧ Fr [fp, bV, bT, bH] w w3) := ⟨hin3, (H1.out.2.mono (by intro k _ hk; simp at hk ⊢; exact .inl hk)).trans (hfr3.mono (by intro k _ hk; simp at hk ⊢; exact .inr (.inr hk)))⟩
  clear hin3 hfr3 hf3
  simp only [List.length_nil, Nat.lt_irrefl, decide_false, Bool.not_false] at hri
  go_wp2_with fail
  refine hri.mono ?_
  rintro e w4 ⟨rfl, rfl⟩
  go_wp2
  go_ret
  exact ⟨rfl, H3.out.1, H3.out.2⟩
end
/-- a key and its value in an entry -/
def valB (k v : ByteArray) : List Nat := k.size :: bytesOf k ++ (v.size :: bytesOf v)
set_option maxRecDepth 100000 in
set_option maxHeartbeats 2000000 in
theorem readVal_any (n sp lg bV bT bH m fp : Nat) (s : AShard) (k v : ByteArray) (w : World) (h : ShIn w sp lg bV bT bH m s) (hf : FldAt n w fp (valB k v)) (hk : k.size < 256) (hv : v.size < 256) (hm : m < maxLen) (hlow : sp < n ∧ bV < n ∧ bT < n ∧ bH < n) :
    Calls Tryz.prog 183 #[.pointer (some ⟨sp, 0, none⟩), .pointer (some ⟨fp, 0, none⟩)] w fun e w' => e = .returned (.bool true) ∧ ShIn w' sp lg bV bT bH (m + 1) { s with vals := alPut s.vals k v } ∧ Fr [fp, bV, bT, bH] w w' := by
  have ht1 := text_fld n fp k.size (bytesOf k) (v.size :: bytesOf v) w hf (bytesOf_len _) hk
  have HI : Hid (ShIn w sp lg bV bT bH m s) := h
  have hfl := hf.low
  clear h hf
  go_enter Tryz.func183, Tryz.ntmps183
  go_wp2_with fail
  refine ht1.mono ?_
  clear ht1
  rintro e w1 ⟨rfl, hf1, hfr1⟩
  have ht2 := text_fld n fp v.size (bytesOf v) [] w1 (by rw [List.append_nil]; exact hf1) (bytesOf_len _) hv
  have H1 : Hid (Fr [fp] w w1) := hfr1
  clear hf1 hfr1
  go_wp2_with fail
  refine ht2.mono ?_
  clear ht2
  rintro e w2 ⟨rfl, hf2, hfr2⟩
  rw [strOf_bytes, strOf_bytes]
  have hfr02 : Fr [fp] w w2 := H1.out.trans hfr2
  have hin2 := HI.out.fr hfr02 (by simp; omega) (by simp; omega) (by simp; omega) (by simp; omega)
  have c1 := blk_cell hin2.blk 1
  simp at c1
  obtain ⟨w3, hr3, hm3, hg3⟩ := hin2.vals.putRun Tryz.underlying137 hm (k := k) (show k.size ≤ maxLen by unfold maxLen; omega) (v := v) (show v.size ≤ maxLen by unfold maxLen; omega)
  change (Instr.mapUpdate _ _ (.string k) (.string v)).run _ _ = _ at hr3
  have hf3 : Fr [bV] w2 w3 := Fr.of_grown1 hg3
  have hri := right_any n fp [] w3 (hf2.fr hf3 (by simp; omega))
  simp only [List.length_nil, Nat.lt_irrefl, decide_false, Bool.not_false] at hri
  have H3 : Hid (ShIn w3 sp lg bV bT bH (m + 1) { s with vals := alPut s.vals k v } ∧ Fr [fp, bV, bT, bH] w w3) := ⟨hin2.setVals hf3 hm3 (by omega), (hfr02.mono (by intro j _ hj; simp at hj ⊢; exact .inl hj)).trans (hf3.mono (by intro j _ hj; simp at hj ⊢; exact .inr (.inl hj)))⟩
  clear hin2 hfr02 hfr2 hf2 hm3 hg3 hf3
  go_wp2_with fail
  refine hri.mono ?_
  rintro e w4 ⟨rfl, rfl⟩
  go_wp2
  go_ret
  exact ⟨rfl, H3.out⟩
/-- an entry that can be read, and what stands behind it -/
inductive Entr (K : AShard → Prop) (s : AShard) : Rec → Prop
  | prep (i t : Nat) (xs : List (ByteArray × AGrip)) (ht : t < 18446744073709551616) (h0 : t ≠ 0) (hst : (s.txn t).state = 0) (hsm : ∀ x ∈ xs, SmallH x ∧ x.2.way ≤ 2) (hl : xs.length ≤ 16) (hK : K (s.prepd t xs)) : Entr K s ⟨i, 1, be 8 t ++ holdsB xs⟩
  | comm (i t : Nat) (ht : t < 18446744073709551616) (hst : (s.txn t).state = 3) (hc : s.count t ≤ 16) (hv : s.Small) (hK : ∀ s', Committed s s' t → K s') : Entr K s ⟨i, 2, be 8 t⟩
  | abrt (i t : Nat) (ht : t < 18446744073709551616) (hst : (s.txn t).state = 3) (hK : K (s.forget t)) : Entr K s ⟨i, 3, be 8 t⟩
  | vald (i : Nat) (k v : ByteArray) (hk : k.size < 256) (hv : v.size < 256) (hK : K { s with vals := alPut s.vals k v }) : Entr K s ⟨i, 4, valB k v⟩
set_option maxRecDepth 100000 in
set_option maxHeartbeats 2000000 in
theorem read_ent (n sp lg bV bT bH m fp : Nat) (s : AShard) (r : Rec) (w : World) (h : ShIn w sp lg bV bT bH m s) (hf : FldAt n w fp r.pay) (K : AShard → Prop) (he : Entr K s r) (hm : m + 32 < maxLen) (hlow : sp < n ∧ bV < n ∧ bT < n ∧ bH < n) :
    Calls Tryz.prog 130 #[.pointer (some ⟨sp, 0, none⟩), .int .u8 (r.kind : Int), .pointer (some ⟨fp, 0, none⟩)] w fun e w' => e = .returned (.bool true) ∧ ∃ s', K s' ∧ ShIn w' sp lg bV bT bH (m + 20) s' ∧ Fr [fp, bV, bT, bH] w w' := by
  cases he with
  | prep i t xs ht h0 hst hsm hl hK =>
    have hc := readPrep_any n sp lg bV bT bH m fp t s xs w h hf ht h0 hst hsm hl hm hlow
    clear h hf
    go_enter Tryz.func130, Tryz.ntmps130
    go_wp2_with fail
    refine hc.mono ?_
    clear hc
    rintro e w1 ⟨rfl, hin, hfr⟩
    have H1 : Hid (ShIn w1 sp lg bV bT bH (m + 20) (s.prepd t xs) ∧ Fr [fp, bV, bT, bH] w w1) := ⟨hin.mono (by omega), hfr.mono (by intro k _ hk; simp at hk ⊢; rcases hk with e | e | e <;> simp [e])⟩
    clear hin hfr
    go_wp2
    go_ret
    exact ⟨rfl, _, hK, H1.out⟩
  | comm i t ht hst hc hv hK =>
    have hcc := readDec_commit n sp lg bV bT bH m fp t 16 s w h hf ht hst (by omega) hc hv hlow
    clear h hf
    go_enter Tryz.func130, Tryz.ntmps130
    go_wp2_with fail
    refine hcc.mono ?_
    clear hcc
    rintro e w1 ⟨rfl, s', hco, hin, hfr⟩
    have H1 : Hid (Committed s s' t ∧ ShIn w1 sp lg bV bT bH (m + 20) s' ∧ Fr [fp, bV, bT, bH] w w1) := ⟨hco, hin.mono (by omega), hfr⟩
    clear hin hfr hco
    go_wp2
    go_ret
    exact ⟨rfl, s', hK s' H1.out.1, H1.out.2⟩
  | abrt i t ht hst hK =>
    have hcc := readDec_abort n sp lg bV bT bH m fp t s w h hf ht hst hlow
    clear h hf
    go_enter Tryz.func130, Tryz.ntmps130
    go_wp2_with fail
    refine hcc.mono ?_
    clear hcc
    rintro e w1 ⟨rfl, hin, hfr⟩
    have H1 : Hid (ShIn w1 sp lg bV bT bH (m + 20) (s.forget t) ∧ Fr [fp, bV, bT, bH] w w1) := ⟨hin.mono (by omega), hfr⟩
    clear hin hfr
    go_wp2
    go_ret
    exact ⟨rfl, _, hK, H1.out⟩
  | vald i k v hk hv hK =>
    have hcc := readVal_any n sp lg bV bT bH m fp s k v w h hf hk hv (by omega) hlow
    clear h hf
    go_enter Tryz.func130, Tryz.ntmps130
    go_wp2_with fail
    refine hcc.mono ?_
    clear hcc
    rintro e w1 ⟨rfl, hin, hfr⟩
    have H1 : Hid (ShIn w1 sp lg bV bT bH (m + 20) { s with vals := alPut s.vals k v } ∧ Fr [fp, bV, bT, bH] w w1) := ⟨hin.mono (by omega), hfr⟩
    clear hin hfr
    go_wp2
    go_ret
    exact ⟨rfl, _, hK, H1.out⟩
end Go.Proofs.YtkhjhojmhllkaaaGreatDoor
