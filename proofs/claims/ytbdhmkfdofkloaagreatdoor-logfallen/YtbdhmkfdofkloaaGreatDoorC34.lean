import Derived.Test.YtbdhmkfdofkloaaGreatDoorC33
/- HOSTS OF LOGS WHOSE DISKS FAIL: after, where the disk went down; OpenLog. -/
namespace Go.Proofs.YtbdhmkfdofkloaaGreatDoor
open Go.RowKit Go.Maps
open Sc

set_option maxRecDepth 100000 in
set_option maxHeartbeats 2000000 in
theorem after_down (B hp p bD bN n nD nN : Nat) (pv lv : Value) (up : Bool) (d : ADisk) (a b c k : Int) (lo : Option Nat) (w : World) (hh : w.heap[hp]? = some (hostO p up lv)) (hlv : ∃ x, lv = .pointer x) (h : DiskIn w B p bD bN pv d n nD nN) (hdn : d.down = true) (hk1 : -9223372036854775808 ≤ k) (hk2 : k ≤ 9223372036854775807) :
    Calls Tryz.prog 27 #[.pointer (some ⟨hp, 0, none⟩), fallV a b c k] w fun e w' => e = .returned (.tuple #[]) ∧ ∃ F' bN', Left d.durable d.pending F' ∧ HostCl w' B hp p bD bN' (fallen F') n ∧ HFr hp p lo none w w' := by
  obtain ⟨W, hW⟩ : ∃ W, W = w.alloc (fallO a b c k) := ⟨_, rfl⟩
  have hf0 : Fr [] w W := by rw [hW]; exact (Fr.refl [] w).alloc _
  have hd0 := h.new hf0
  have hpl := (Array.getElem?_eq_some_iff.1 hh).1
  have hh0 : W.heap[hp]? = some (hostO p up lv) := (hf0.block hp hpl (by simp)).trans hh
  have hx0 : W.heap[w.heap.size]? = some (fallO a b c k) := by rw [hW]; exact heap_alloc_new w _
  have hr0 : HFr hp p lo lo w W := by
    refine ⟨hf0.os, hf0.tape, hf0.output, hf0.size, fun q hq _ => hf0.block q hq (by simp), fun q hq ho => ?_⟩
    rcases ho with e | e | ⟨lp, e1, e2⟩
    · exact .inl e
    · exact .inr (.inl ((h.ownD q).2 ((hd0.ownD q).1 e)))
    · refine .inr (.inr ⟨lp, e1, ?_⟩)
      rcases e2 with e2 | e2
      · exact .inl e2
      · rcases Nat.lt_or_ge lp w.heap.size with hl | hl
        · rw [hf0.block lp hl (by simp)] at e2; exact .inr e2
        · exfalso
          rcases Nat.lt_or_ge w.heap.size lp with h3 | h3
          · have : W.heap[lp]? = none := by rw [hW]; simp; omega
            rw [this] at e2; simp [refs] at e2
          · obtain rfl : lp = w.heap.size := by omega
            rw [hx0] at e2; simp [refs] at e2
  have c2 := blk_cell hh0 2
  have c5 := blk_cell hd0.blk 5
  have x2 := blk_cell hx0 2
  have x3 := blk_cell hx0 3
  simp at c2 c5 x2 x3
  rw [hdn] at c5
  have hcl := close_any hp p up lv hlv W hh0
  have HX : Hid (W.heap[w.heap.size]? = some (fallO a b c k)) := hx0
  have H0 : Hid (W.heap[hp]? = some (hostO p up lv) ∧ DiskIn W B p bD bN pv d n nD nN ∧ HFr hp p lo lo w W) := ⟨hh0, hd0, hr0⟩
  rw [hW] at c2 c5
  clear hh h hf0 hd0 hh0 hx0 hr0 x2 x3
  go_enter Tryz.func27, Tryz.ntmps27
  go_wp2_with fail
  rw [← hW]
  clear hW c2 c5
  refine hcl.mono ?_
  clear hcl
  rintro e w1 ⟨rfl, hh1, hf1⟩
  have hd1 : DiskIn w1 B p bD bN pv d n nD nN := H0.out.2.1.host H0.out.1 hf1
  have hr1 : HFr hp p lo none w w1 := H0.out.2.2.trans (H0.out.2.1.hfr hd1 hf1 (by intro k hk; simp at hk; simp [hk]) (.inl rfl) (Near.refl _ _))
  have hxne : w.heap.size ≠ hp := by omega
  have hx1 : w1.heap[w.heap.size]? = some (fallO a b c k) := (hf1.block _ (Array.getElem?_eq_some_iff.1 HX.out).1 (by simpa using hxne)).trans HX.out
  have c2 := blk_cell hh1 2
  have x2 := blk_cell hx1 2
  have x3 := blk_cell hx1 3
  simp at c2 x2 x3
  have hcr := crash_any B p bD bN n nD nN pv d c k w1.drew (hd1.new (Fr.refl [] w1).drew) hk1 hk2
  have H1 : Hid (w1.heap[hp]? = some (hostO p false (.pointer none)) ∧ DiskIn w1 B p bD bN pv d n nD nN ∧ HFr hp p lo none w w1) := ⟨hh1, hd1, hr1⟩
  clear hh1 hf1 hd1 hr1 hx1
  go_wp2
  go_region_with (first | (go_at_call 31; refine hcr.mono ?_; rintro e w2 ⟨rfl, F', bN', nD', hl, hd2, hb2, hf2⟩))
  all_goals (
    clear hcr
    have hfree := H1.out.2.1.freeH H1.out.1
    rw [H1.out.2.1.ownD] at hfree
    simp at hfree
    have hh2 := (hf2.block hp (show hp < w1.drew.heap.size from (Array.getElem?_eq_some_iff.1 H1.out.1).1) (by simp; exact ⟨hfree.1, hfree.2.1⟩)).trans H1.out.1
    have hr2 : HFr hp p none none w1 w2 := H1.out.2.1.hfr hd2 ((Fr.refl _ w1).drew.trans hf2) (by intro k hk; simp at hk; rcases hk with e | e <;> simp [e]) (.inr hb2) (Near.nil _ _)
    have y2 := blk_cell hh2 2
    have y3 := blk_cell hd2.blk 3
    have y4 := blk_cell hd2.blk 4
    have g3 := blk_free hd2.blk 3
    have g4 := blk_free hd2.blk 4
    simp at y2 y3 y4
    have hnp : ¬ hp = p := hfree.1
    have hnp2 : ¬ p = hp := fun e => hnp e.symm
    have H2 : Hid (w2.heap[hp]? = some (hostO p false (.pointer none)) ∧ DiskIn w2 B p bD bN' (.slice none 0 0) (fallen F') n nD' nD' ∧ HFr hp p lo none w w2 ∧ Left d.durable d.pending F') := ⟨hh2, hd2, H1.out.2.2.trans hr2, hl⟩
    clear hl hd2 hb2 hf2 hh2 hr2 hfree c2 x2 x3
    go_wp2
    go_region_held3 (fun w' => w'.cell? ⟨hp, 2, none⟩ = some (.pointer (some ⟨p, 0, none⟩))) (simp [setCell_far, *]) (fail)
    go_end0
    obtain ⟨W3, hW3⟩ : ∃ W3, W3 = ((w2.setCell ⟨p, 3, none⟩ (.int .i64 (-1))).setCell ⟨p, 4, none⟩ (.int .i64 (-1))).drew := ⟨_, rfl⟩
    rw [← hW3]
    have hf3 : Fr [p] w2 W3 := by rw [hW3]; exact ((Fr.set1 (by simp) _ _).trans (Fr.set1 (by simp) _ _)).drew
    have hb3 : W3.heap[p]? = some (dskO bD bN' (.slice none 0 0) (-1) (-1) (fallen F').down) := by
      have := blk_set (blk_set H2.out.2.1.blk 3 (.int .i64 (-1))) 4 (.int .i64 (-1))
      simp at this
      rw [hW3]; exact this
    have hd3 := H2.out.2.1.turn hf3 (-1) (-1) (fallen F').down hb3
    have hh3 := (hf3.block hp (Array.getElem?_eq_some_iff.1 H2.out.1).1 (by simpa using hnp)).trans H2.out.1
    exact ⟨rfl, F', bN', H2.out.2.2.2, ⟨hh3, _, _, _, hd3⟩, H2.out.2.2.1.trans (H2.out.2.1.hfr hd3 hf3 (by intro k hk; simp at hk; simp [hk]) (.inl rfl) (Near.refl _ _))⟩)
set_option maxHeartbeats 1000000 in
theorem openLog_all (B p bD bN n nD nN mk : Nat) (ss : List Sg) (pv : Value) (d : ADisk) (w : World) (h : DiskIn w B p bD bN pv d n nD nN) (hB : 3 ≤ B) (hdn : d.down = false) (hst : Stands d.now mk ss) (hne : Begun d.now mk ss) (hpow : Pows w) (herr : ErrS w) (hlen : nextOf mk ss ≤ n) (hsn : ss.length + 1 ≤ n) (hn4 : n + 8 ≤ 1000000000) (hus : ∀ us, Useless d.now mk ss us → n + us.length ≤ 1000000000) :
    Calls Tryz.prog 22 #[dskV p] w fun e w' => ∃ us, Useless d.now mk ss us ∧ OpenAll B p bD bN (n + us.length) ((readL mk ss).opensU d (us.map segName)) w e w' := by
  have HC := toHd (jopen_all B p bD bN n nD nN mk ss pv d w h hB hdn hst hne hpow herr hlen hsn hn4 hus)
  clear h hst hne hus
  go_enter Tryz.func22, Tryz.ntmps22
  go_wp2_with fail
  refine HC.out.mono ?_
  rintro e w1 ⟨us, hus, hop⟩
  rcases hop with ⟨h0, lp, rfl, h1⟩ | ⟨h0, rfl, h1⟩
  · have H1 := toHd (show ∃ us, Useless d.now mk ss us ∧ OpenAll B p bD bN (n + us.length) ((readL mk ss).opensU d (us.map segName)) w (.returned (.tuple #[.pointer (some ⟨lp, 0, none⟩), .nilIface])) w1 from ⟨us, hus, .inl ⟨h0, lp, rfl, h1⟩⟩)
    clear h1 h0 hus
    go_wp2
    go_ret2
    exact H1.out
  · have H1 := toHd (show ∃ vs, Useless d.now mk ss vs ∧ OpenAll B p bD bN (n + vs.length) ((readL mk ss).opensU d (vs.map segName)) w (.returned (.tuple #[.pointer none, errN ((readL mk ss).opensU d (us.map segName)).2.2])) w1 from ⟨us, hus, .inr ⟨h0, rfl, h1⟩⟩)
    rw [errN_no h0] at H1 ⊢
    clear h1 h0 hus
    go_wp2
    go_ret2
    exact H1.out
end Go.Proofs.YtbdhmkfdofkloaaGreatDoor
