import Derived.Test.YtkhjhojmhllkaaaGreatDoorC07
/- (*disk).tell, walked, whatever its kind. -/
namespace Go.Proofs.YtkhjhojmhllkaaaGreatDoor
open Go.RowKit

set_option maxRecDepth 100000 in
set_option maxHeartbeats 16000000 in
theorem tell_all (B p bD bN n nD nN k : Nat) (pv : Value) (d : ADisk) (nm to da : ByteArray) (w : World) (h : DiskIn w B p bD bN pv d n nD nN) (hn : n < 67108864) (ho : AOp.Ok ⟨k, nm, to, da⟩ 4096) (hne : k = 4 → (nm.toList == to.toList) = false ∧ nm ≠ to) :
    Calls Tryz.prog 368 #[.pointer (some ⟨p, 0, none⟩), opV ⟨k, nm, to, da⟩] w (TellPost d ⟨k, nm, to, da⟩ B p bD bN n nD pv w) := by
  have hpl := (Array.getElem?_eq_some_iff.1 h.blk).1
  have HI : Hid (DiskIn w B p bD bN pv d n nD nN) := h
  have HE : Hid (¬ (k = 4 ∧ nm = to)) := fun h => (hne h.1).2 h.2
  have HT : Hid (k = 4 → (nm.toList == to.toList) = false) := fun h => (hne h).1
  clear h hne
  have HO : Hid (AOp.Ok ⟨k, nm, to, da⟩ 4096) := ho
  clear ho
  go_enter Tryz.func368, Tryz.ntmps368
  go_wp2_with fail
  refine (writes_in B p bD bN n nD nN pv d _ (HI.out.new ((Fr.refl [] w).alloc _))).mono ?_
  rintro e w1 ⟨rfl, hi1, hf1⟩
  have HI1 : Hid (DiskIn w1 B p bD bN pv d.writes.1 n nD nN) := hi1
  have hbx : w1.heap[w.heap.size]? = some (opO ⟨k, nm, to, da⟩) := (hf1.block w.heap.size (by simp) (by simp; omega)).trans (heap_alloc_new _ _)
  have HF1 : Hid (Fr (dS p bD bN pv) w w1) := (((Fr.refl _ w).alloc _).mono (fun k _ hk => hk)).trans (hf1.mono (T := dS p bD bN pv) (by intro k _ hk; simp at hk; subst hk; simp))
  have hz1 : w.heap.size < w1.heap.size := (Array.getElem?_eq_some_iff.1 hbx).1
  have HB : Hid (w1.heap[w.heap.size]? = some (opO ⟨k, nm, to, da⟩)) := hbx
  have b0 := blk_cell hbx 0
  have b1 := blk_cell hbx 1
  have b2 := blk_cell hbx 2
  have b3 := blk_cell hbx 3
  have p2 := blk_cell hi1.blk 2
  have g2 := blk_free hi1.blk 2
  simp at b0 b1 b2 b3 p2
  clear hi1 hf1 hbx
  have e1 := Tryz.eqDD
  have e2 := Tryz.eqFD
  have hfa : ∀ ob, (w1.alloc ob).frozen? ⟨p, 2, none⟩ = false := fun ob => (World.frozen?_of_block (a := ⟨p, 2, none⟩) (Below.heap_alloc w1 ob p (by omega))).trans g2
  have hpa : ∀ ob, (w1.alloc ob).cell? ⟨p, 2, none⟩ = some pv := fun ob => (World.cell?_of_block (a := ⟨p, 2, none⟩) (Below.heap_alloc w1 ob p (by omega))).trans p2
  have HLE : Hid (d.writes.1.now.Le 549755813888) := fun k t ht => by have h1 := HI1.out.leN k t ht; have h2 := HI1.out.hN; have h3 := HI1.out.hn; omega
  rcases writes_cases d with hw | hw | hw
  · rw [hw, errN_no (by decide)]
    go_wp2
    go_region_law (first | (rw [if_pos (by rfl)]; refine wp_opapp _ _ rfl B pv d.writes.1.pending.length d.writes.1.pending ⟨k, nm, to, da⟩ w1.heap.size rfl ?_ rfl ?_ ?_ ?_ ?_; (exact HI1.out.pen.alloc _); (exact heap_alloc_new w1 (opO ⟨k, nm, to, da⟩)); (have h8 : nD + d.writes.1.pending.length ≤ n := HI1.out.hD; have := HI1.out.hn; omega); (have := HI1.out.base.2.2.2; simp; omega); intro v4 w4 ho4 hg4 hl4; obtain ⟨g4, cap4, rfl⟩ := own_some ho4; have HL4 : Hid (Near w.heap.size pv (.slice (some ⟨g4, 0, none⟩) (d.writes.1.pending.length + 1) cap4)) := Near.of_at hl4 (by simp; omega); clear hl4; obtain ⟨p2', g2', b0', b1', b2', b3'⟩ := keep4 HI1.out HB.out hg4 (fun e => by have h9 := (HI.out.pen.lt _ e).2; omega)))
    all_goals go_wp2
    all_goals go_ret
    all_goals unfold TellPost
    all_goals rw [tell_down hw]
    all_goals obtain ⟨q1, q2⟩ := HI1.out.pend hn HO.out (grown_trans (grown_drew (grown_alloc w1 _ _)) hg4) ho4 rfl
    all_goals exact ⟨rfl, ⟨_, nN, q1, HL4.out⟩, HF1.out.trans (q2.mono (by intro k _ hk; rcases List.mem_cons.1 hk with rfl | hk; simp; simp at hk; simp [hk]))⟩
  · rw [hw, errN_no (by decide)]
    go_wp2
    go_ret
    unfold TellPost
    rw [tell_full hw]
    exact ⟨rfl, ⟨pv, nN, HI1.out.more hn, Near.refl _ _⟩, HF1.out⟩
  · rw [hw, errN_ok]
    have p1 := blk_cell HI1.out.blk 1
    simp at p1
    have hlk := FileMap.look (w := w1.drew) HI1.out.now nm HO.out.name
    by_cases hno : d.writes.1.now nm = none ∧ 2 < k
    · have k2 : (2 : Int) < (k : Int) := by omega
      rcases hlk with ⟨-, hl⟩ | ⟨t, q, hN, -⟩
      · have HN : Hid (d.writes.1.now nm = none ∧ 2 < k) := hno
        clear hno
        go_wp2
        go_region
        go_wp2
        go_ret
        unfold TellPost
        rw [tell_none hw HN.out]
        exact ⟨rfl, ⟨pv, nN, (HI1.out.new (Fr.refl [] w1).drew).more hn, Near.refl _ _⟩, HF1.out.drew⟩
      · rw [hno.1] at hN; cases hN
    · have HN : Hid (¬ (d.writes.1.now nm = none ∧ 2 < k)) := hno
      have hk : (¬ (2 : Int) < (k : Int) ∧ ((k : Int) == 4) = false) ∨ (((k : Int) == 4) = false ∧ (2 : Int) < (k : Int)) ∨ ((k : Int) == 4) = true ∧ (nm.toList == to.toList) = false ∧ (2 : Int) < (k : Int) := by
        by_cases e : k = 4
        · exact .inr (.inr ⟨by simp [e], HT.out e, by omega⟩)
        · have e' : ((k : Int) == 4) = false := by simp; omega
          by_cases e2 : 2 < k
          · exact .inr (.inl ⟨e', by omega⟩)
          · exact .inl ⟨by omega, e'⟩
      have hD : (∃ q v, (Instr.lookup 94 (.map (some bN)) (.string nm) true).run Tryz.prog w1.drew = .ok (.tuple #[q, .bool v]) w1.drew ∧ (v = false → ¬ (2 : Int) < (k : Int))) := by
        rcases hlk with ⟨h1, h2⟩ | ⟨t, q, h1, -, h2⟩
        · exact ⟨_, _, h2, fun _ e => hno ⟨h1, by omega⟩⟩
        · exact ⟨_, _, h2, nofun⟩
      obtain ⟨q, v, hl, hv⟩ := hD
      clear hno hlk
      rcases hk with ⟨k2, k4⟩ | ⟨k4, k2⟩ | ⟨k4, hnt, k2⟩
      all_goals
        cases v
        all_goals first | exact absurd k2 (hv rfl) | skip
        all_goals clear hv
        all_goals go_wp2
        all_goals go_region
        all_goals go_wp2
        all_goals go_region_with (first | (go_at_call 83; refine (do_any bN nN 4096 d.writes.1.now ⟨k, nm, to, da⟩ _ (HI1.out.now.new (Fr.refl [] w1).drew.drew) (by have := HI1.out.hN; have := HI1.out.hn; unfold maxLen; omega) HO.out (by omega) HLE.out).mono ?_; rintro e w2 ⟨rfl, hF2, hg2⟩))
        all_goals have hg3 : w1.grownBy w2 (some bN) := grown_trans (grown_drew (grown_drew (grown_refl w1 _))) hg2
        all_goals obtain ⟨hi2, hb2, hf2⟩ := HI1.out.done HB.out hF2 hg3 hn HO.out
        all_goals have HI2 : Hid (DiskIn w2 B p bD bN pv { d.writes.1 with now := doOp d.writes.1.now ⟨k, nm, to, da⟩ } (n + 1) nD (nN + 1)) := hi2
        all_goals have HB2 : Hid (w2.heap[w.heap.size]? = some (opO ⟨k, nm, to, da⟩)) := hb2
        all_goals have HF2 : Hid (Fr (dS p bD bN pv) w w2) := HF1.out.trans (hf2.mono (by intro k _ hk; simp at hk; subst hk; simp))
        all_goals have hz2 : w1.heap.size ≤ w2.heap.size := hg3.size
        all_goals have c0 := blk_cell hb2 0
        all_goals have c1 := blk_cell hb2 1
        all_goals have c2 := blk_cell hb2 2
        all_goals have c3 := blk_cell hb2 3
        all_goals have d2 := blk_cell hi2.blk 2
        all_goals have e2' := blk_free hi2.blk 2
        all_goals simp at c0 c1 c2 c3 d2
        all_goals have hfb : ∀ ob, (w2.alloc ob).frozen? ⟨p, 2, none⟩ = false := fun ob => (World.frozen?_of_block (a := ⟨p, 2, none⟩) (Below.heap_alloc w2 ob p (by omega))).trans e2'
        all_goals have hpb : ∀ ob, (w2.alloc ob).cell? ⟨p, 2, none⟩ = some pv := fun ob => (World.cell?_of_block (a := ⟨p, 2, none⟩) (Below.heap_alloc w2 ob p (by omega))).trans d2
        all_goals clear hi2 hb2 hf2 hF2 hg2 hg3
        all_goals go_wp2
        all_goals go_region_law (first | (rw [if_pos (by rfl)]; refine wp_opapp _ _ rfl B pv d.writes.1.pending.length d.writes.1.pending ⟨k, nm, to, da⟩ w2.heap.size rfl ?_ rfl ?_ ?_ ?_ ?_; (exact HI2.out.pen.alloc _); (exact heap_alloc_new w2 (opO ⟨k, nm, to, da⟩)); (have h8 : nD + d.writes.1.pending.length ≤ n := HI1.out.hD; have := HI1.out.hn; omega); (have := HI2.out.base.2.2.2; simp; omega); intro v4 w4 ho4 hg4 hl4; obtain ⟨g4, cap4, rfl⟩ := own_some ho4; have HL4 : Hid (Near w.heap.size pv (.slice (some ⟨g4, 0, none⟩) (d.writes.1.pending.length + 1) cap4)) := Near.of_at hl4 (by simp; omega); clear hl4; obtain ⟨p2', g2', b0', b1', b2', b3'⟩ := keep4 HI2.out HB2.out hg4 (fun e => by have h9 := (HI.out.pen.lt _ e).2; omega)))
        all_goals go_wp2
        all_goals go_ret
        all_goals unfold TellPost
        all_goals rw [tell_ok hw HN.out HE.out]
        all_goals obtain ⟨q1, q2⟩ := HI2.out.pend' HO.out (grown_trans (grown_drew (grown_alloc w2 _ _)) hg4) ho4 rfl HI1.out.hD
        all_goals exact ⟨rfl, ⟨_, nN + 1, q1, HL4.out⟩, HF2.out.trans (q2.mono (by intro k _ hk; rcases List.mem_cons.1 hk with rfl | hk; simp; simp at hk; simp [hk]))⟩
theorem tell_any (B p bD bN n nD nN : Nat) (pv : Value) (d : ADisk) (o : AOp) (w : World) (h : DiskIn w B p bD bN pv d n nD nN) (hn : n < 67108864) (ho : o.Ok 4096) (hne : o.kind = 4 → (o.name.toList == o.to.toList) = false ∧ o.name ≠ o.to) :
    Calls Tryz.prog 368 #[.pointer (some ⟨p, 0, none⟩), opV o] w (TellPost d o B p bD bN n nD pv w) := tell_all B p bD bN n nD nN o.kind pv d o.name o.to o.data w h hn ho hne
end Go.Proofs.YtkhjhojmhllkaaaGreatDoor
