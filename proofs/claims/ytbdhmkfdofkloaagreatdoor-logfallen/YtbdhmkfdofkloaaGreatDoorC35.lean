import Derived.Test.YtbdhmkfdofkloaaGreatDoorC34
import Derived.Test.YtbdhmkfdofkloaaGreatDoorC28
import Derived.Test.YtbdhmkfdofkloaaGreatDoorC31
/- HOSTS OF LOGS WHOSE DISKS FAIL: Open. -/
namespace Go.Proofs.YtbdhmkfdofkloaaGreatDoor
open Go.RowKit Go.Maps
open Sc

section
variable {w W : World} {B hp lp p bD bN n nD nN : Nat} {pv sv rv : Value} {l : ALog} {d : ADisk} {lo : Option Nat}
theorem DiskIn.hnew (h : DiskIn w B p bD bN pv d n nD nN) (hf : Fr [] w W) (hlo : ∀ lp, lo = some lp → lp < w.heap.size) : HFr hp p lo lo w W := by
  have hd := h.new hf
  refine ⟨hf.os, hf.tape, hf.output, hf.size, fun q hq _ => hf.block q hq (by simp), fun q hq ho => ?_⟩
  rcases ho with e | e | ⟨lp, e1, e2⟩
  · exact .inl e
  · exact .inr (.inl ((h.ownD q).2 ((hd.ownD q).1 e)))
  · refine .inr (.inr ⟨lp, e1, ?_⟩)
    rcases e2 with e2 | e2
    · exact .inl e2
    · rw [hf.block lp (hlo lp e1) (by simp)] at e2; exact .inr e2
/-- a disk's calls, nothing being open -/
theorem DFr.hfr {w' : World} (hf : DFr p w w') : HFr hp p none none w w' :=
  ⟨hf.os, hf.tape, hf.output, hf.size, fun k hk hn => hf.block k hk (fun ho => hn ((ownHo_none k).2 (.inr ho))), fun k hk ho => by
    rcases (ownHo_none k).1 ho with e | e
    · exact (ownHo_none k).2 (.inl e)
    · exact (ownHo_none k).2 (.inr (hf.stay k hk e))⟩
theorem HFr.below {w' : World} (hf : HFr hp p lo none w w') (h : DiskIn w B p bD bN pv d n nD nN) (hhp : B ≤ hp) (hlo : lo = none) : Below B w w' := by
  subst hlo
  refine ⟨hf.os, hf.tape, hf.output, hf.size, fun k hk => hf.block k (Nat.lt_of_lt_of_le hk h.base.2.2.2) (fun ho => ?_)⟩
  rcases (ownHo_none k).1 ho with e | e
  · omega
  · have := h.geD e; omega
end
/-- what comes of Open -/
def OpenedL (B hp p bD bN n : Nat) (r : ALog × ADisk × Nat) (lo : Option Nat) (w : World) (e : Ending) (w' : World) : Prop :=
  e = .returned (.int .i64 (r.2.2 : Int)) ∧ Below B w w' ∧
  ((r.2.2 = 0 ∧ ∃ lp, HostIn w' B hp lp p bD bN r.1 (r.2.1.knob (-1) (-1)) n ∧ HFr hp p lo (some lp) w w') ∨
   (r.2.2 ≠ 0 ∧ r.2.1.down = false ∧ HostCl w' B hp p bD bN (r.2.1.knob (-1) (-1)) n ∧ HFr hp p lo none w w') ∨
   (r.2.2 ≠ 0 ∧ r.2.1.down = true ∧ ∃ F' bN', Left r.2.1.durable r.2.1.pending F' ∧ HostCl w' B hp p bD bN' (fallen F') n ∧ HFr hp p lo none w w'))
set_option maxRecDepth 100000 in
set_option maxHeartbeats 8000000 in
theorem hOpen_all (B hp p bD bN n nD nN mk : Nat) (ss : List Sg) (pv lv : Value) (up : Bool) (lo : Option Nat) (d : ADisk) (a b c k : Int) (w : World) (hh : w.heap[hp]? = some (hostO p up lv)) (hlv : ∃ x, lv = .pointer x) (hlo : ∀ lp, lo = some lp → lp < w.heap.size) (h : DiskIn w B p bD bN pv d n nD nN) (hB : 3 ≤ B) (hhp : B ≤ hp) (hmet : Met w) (hdn : d.down = false) (hst : Stands d.now mk ss) (hne : Begun d.now mk ss) (hpow : Pows w) (herr : ErrS w) (hlen : nextOf mk ss ≤ n) (hsn : ss.length + 1 ≤ n) (hn4 : n + 8 ≤ 1000000000) (hus : ∀ us, Useless d.now mk ss us → n + us.length ≤ 1000000000)
    (hr : ∀ us, Useless d.now mk ss us → ((readL mk ss).opensU (d.knob a b) (us.map segName)).2.2 = 0 → ((readL mk ss).opensU (d.knob a b) (us.map segName)).2.1.down = false) (hk1 : -9223372036854775808 ≤ k) (hk2 : k ≤ 9223372036854775807) :
    Calls Tryz.prog 8 #[.pointer (some ⟨hp, 0, none⟩), fallV a b c k] w fun e w' => ∃ us, Useless d.now mk ss us ∧ OpenedL B hp p bD bN (n + us.length) ((readL mk ss).opensU (d.knob a b) (us.map segName)) lo w e w' := by
  obtain ⟨W, hW⟩ : ∃ W, W = w.alloc (fallO a b c k) := ⟨_, rfl⟩
  have hf0 : Fr [] w W := by rw [hW]; exact (Fr.refl [] w).alloc _
  have hd0 := h.new hf0
  have hpl := (Array.getElem?_eq_some_iff.1 hh).1
  have hh0 : W.heap[hp]? = some (hostO p up lv) := (hf0.block hp hpl (by simp)).trans hh
  have hx0 : W.heap[w.heap.size]? = some (fallO a b c k) := by rw [hW]; exact heap_alloc_new w _
  have hb0 : Below B w W := hf0.below h.base.2.2.2 (by simp)
  have hr0 : HFr hp p lo lo w W := h.hnew hf0 hlo
  have x0 := blk_cell hx0 0
  have x1 := blk_cell hx0 1
  have x2 := blk_cell hx0 2
  have x3 := blk_cell hx0 3
  simp at x0 x1 x2 x3
  rw [hW] at x0 x1 x2 x3
  have HG : Hid (Met w ∧ Pows w ∧ ErrS w) := ⟨hmet, hpow, herr⟩
  have HS : Hid (Stands d.now mk ss ∧ Begun d.now mk ss ∧ (∀ us, Useless d.now mk ss us → n + us.length ≤ 1000000000) ∧ ∀ us, Useless d.now mk ss us → ((readL mk ss).opensU (d.knob a b) (us.map segName)).2.2 = 0 → ((readL mk ss).opensU (d.knob a b) (us.map segName)).2.1.down = false) := ⟨hst, hne, hus, hr⟩
  have HH : Hid (W.heap[hp]? = some (hostO p up lv) ∧ W.heap[w.heap.size]? = some (fallO a b c k) ∧ DiskIn W B p bD bN pv d n nD nN ∧ Below B w W ∧ HFr hp p lo lo w W) := ⟨hh0, hx0, hd0, hb0, hr0⟩
  clear hh hf0 hd0 hh0 hx0 hb0 h hmet hpow herr hst hne hus hr hr0
  go_enter Tryz.func8, Tryz.ntmps8
  go_wp2_with fail
  rw [← hW]
  clear hW x0 x1 x2 x3
  refine (before_any hp p bD bN pv _ up d.down d.left d.full a b c k W HH.out.1 HH.out.2.2.1.blk).mono ?_
  rintro e w1 ⟨rfl, hb1, hf1⟩
  have hd1 : DiskIn w1 B p bD bN pv (d.knob a b) n nD nN := HH.out.2.2.1.turn hf1 a b d.down hb1
  have hne : hp ≠ p := by intro e; have := HH.out.1; rw [e, HH.out.2.2.1.blk] at this; cases this
  have hh1 : w1.heap[hp]? = some (hostO p up lv) := (hf1.block hp (Array.getElem?_eq_some_iff.1 HH.out.1).1 (by simpa using hne)).trans HH.out.1
  have hxne : w.heap.size ≠ p := by intro e; have := HH.out.2.1; rw [e, HH.out.2.2.1.blk] at this; cases this
  have hx1 : w1.heap[w.heap.size]? = some (fallO a b c k) := (hf1.block _ (Array.getElem?_eq_some_iff.1 HH.out.2.1).1 (by simpa using hxne)).trans HH.out.2.1
  have hbl1 : Below B W w1 := hf1.below HH.out.2.2.1.base.2.2.2 (by intro j hj; simp at hj; rw [hj]; exact HH.out.2.2.1.base.1)
  have H1 : Hid (w1.heap[hp]? = some (hostO p up lv) ∧ w1.heap[w.heap.size]? = some (fallO a b c k) ∧ DiskIn w1 B p bD bN pv (d.knob a b) n nD nN ∧ Below B w w1 ∧ Fr [p] W w1) := ⟨hh1, hx1, hd1, HH.out.2.2.2.1.trans hbl1, hf1⟩
  clear hb1 hf1 hd1 hh1 hx1 hbl1
  go_wp2_with fail
  refine (close_any hp p up lv hlv w1 H1.out.1).mono ?_
  rintro e w2 ⟨rfl, hh2, hf2⟩
  have hd2 : DiskIn w2 B p bD bN pv (d.knob a b) n nD nN := H1.out.2.2.1.host H1.out.1 hf2
  have hxh : w.heap.size ≠ hp := by omega
  have hx2 : w2.heap[w.heap.size]? = some (fallO a b c k) := (hf2.block _ (Array.getElem?_eq_some_iff.1 H1.out.2.1).1 (by simpa using hxh)).trans H1.out.2.1
  have hbl2 : Below B w1 w2 := hf2.below H1.out.2.2.1.base.2.2.2 (by intro j hj; simp at hj; omega)
  have hr2 : HFr hp p lo none w w2 := HH.out.2.2.2.2.trans (HH.out.2.2.1.hfr hd2 ((H1.out.2.2.2.2.mono (by intro j _ hj; simp at hj; simp [hj]) : Fr [hp, p] W w1).trans (hf2.mono (by intro j _ hj; simp at hj; simp [hj]))) (by intro j hj; simp at hj; rcases hj with e | e <;> simp [e]) (.inl rfl) (Near.refl _ _))
  have hc0 := blk_cell hh2 0
  have hc2 := blk_cell hh2 2
  simp at hc0 hc2
  have hB2 := H1.out.2.2.2.1.trans hbl2
  have hmet2 : Met w2 := HG.out.1.below hB2 (by omega)
  have hpow2 : Pows w2 := HG.out.2.1.of_block (hB2.block 1 (by omega))
  have herr2 : ErrS w2 := HG.out.2.2.below hB2 (by omega)
  have hop := openLog_all B p bD bN n nD nN mk ss pv (d.knob a b) w2 hd2 hB hdn HS.out.1 HS.out.2.1 hpow2 herr2 hlen hsn hn4 HS.out.2.2.1
  have H2 : Hid (w2.heap[hp]? = some (hostO p false (.pointer none)) ∧ w2.heap[w.heap.size]? = some (fallO a b c k) ∧ DiskIn w2 B p bD bN pv (d.knob a b) n nD nN ∧ Below B w w2 ∧ HFr hp p lo none w w2 ∧ Met w2) := ⟨hh2, hx2, hd2, hB2, hr2, hmet2⟩
  clear hh2 hf2 hd2 hx2 hbl2 hr2 hB2 hmet2 hpow2 herr2
  go_wp2_with fail
  refine hop.mono ?_
  clear hop
  rintro e w3 ⟨us, husl, hor⟩
  have hrd := HS.out.2.2.2 us husl
  obtain ⟨R, hR⟩ : ∃ R, R = (readL mk ss).opensU (d.knob a b) (us.map segName) := ⟨_, rfl⟩
  rw [← hR] at hor hrd
  have HR : Hid (R = (readL mk ss).opensU (d.knob a b) (us.map segName) ∧ Useless d.now mk ss us) := ⟨hR, husl⟩
  clear hR husl
  rcases hor with ⟨h0, lp, rfl, hlp, ⟨pv3, sv3, rv3, nD3, nN3, hl3⟩, hf3, hst3⟩ | ⟨h0, rfl, ⟨pv3, nD3, nN3, hd3⟩, hf3⟩
  · have hh3 : w3.heap[hp]? = some (hostO p false (.pointer none)) := (hf3.block hp (Array.getElem?_eq_some_iff.1 H2.out.1).1 (H2.out.2.2.1.freeD H2.out.1 (by decide) (by decide))).trans H2.out.1
    have hx3 : w3.heap[w.heap.size]? = some (fallO a b c k) := (hf3.block _ (Array.getElem?_eq_some_iff.1 H2.out.2.1).1 (H2.out.2.2.1.freeD H2.out.2.1 (by decide) (by decide))).trans H2.out.2.1
    have hbl3 : Below B w2 w3 := hf3.below H2.out.2.2.1
    have hmet3 : Met w3 := H2.out.2.2.2.2.2.below hbl3 (by omega)
    have hdn2 := hrd h0
    obtain ⟨W4, hW4⟩ : ∃ W4, W4 = (w3.setCell ⟨hp, 4, none⟩ (.pointer (some ⟨lp, 0, none⟩))).setCell ⟨hp, 3, none⟩ (.bool true) := ⟨_, rfl⟩
    have hh4 : W4.heap[hp]? = some (hostO p true (.pointer (some ⟨lp, 0, none⟩))) := by
      have := blk_set (blk_set hh3 4 (.pointer (some ⟨lp, 0, none⟩))) 3 (.bool true)
      simp at this
      rw [hW4]; exact this
    have hf4 : Fr [hp] w3 W4 := by rw [hW4]; exact (Fr.set1 (by simp) _ _).trans (Fr.set1 (by simp) _ _)
    have hx4 : W4.heap[w.heap.size]? = some (fallO a b c k) := (hf4.block _ (Array.getElem?_eq_some_iff.1 hx3).1 (by simpa using hxh)).trans hx3
    have hl4 := hl3.other hf4 hh3 (by decide) (by decide) (by decide) (by decide) (by decide) (by decide)
    have hbl4 : Below B w3 W4 := hf4.below hl3.disk.base.2.2.2 (by intro j hj; simp at hj; omega)
    have hmet4 : Met W4 := hmet3.below hbl4 (by omega)
    have hr4 : HFr hp p none (some lp) w2 W4 := by
      have hfr : ∀ k, k < w2.heap.size → ¬ OwnHo hp p none w2 k → W4.heap[k]? = w2.heap[k]? := fun q hq hn => by
        rw [ownHo_none] at hn
        simp only [not_or] at hn
        exact (hf4.block q (Nat.lt_of_lt_of_le hq hf3.size) (by simp; exact hn.1)).trans (hf3.block q hq hn.2)
      refine ⟨hf4.os.trans hf3.os, hf4.tape.trans hf3.tape, hf4.output.trans hf3.output, Nat.le_trans hf3.size hf4.size, hfr, fun q hq ho => ?_⟩
      rw [ownHo_none]
      rcases (ownHo_some q).1 ho with e | e
      · exact .inl e
      · right
        refine hst3 q hq ((hl3.own q).2 ((hl4.own q).1 e))
    have y0 := blk_cell hx4 0
    have y1 := blk_cell hx4 1
    have y2 := blk_cell hx4 2
    have y3 := blk_cell hx4 3
    simp at y0 y1 y2 y3
    rw [hW4] at y0 y1 y2 y3
    have H4 : Hid (W4.heap[hp]? = some (hostO p true (.pointer (some ⟨lp, 0, none⟩))) ∧ LogIn W4 B lp p bD bN pv3 sv3 rv3 R.1 R.2.1 (n + us.length) nD3 nN3 ∧ Below B w W4 ∧ HFr hp p lo (some lp) w W4) := ⟨hh4, hl4, (H2.out.2.2.2.1.trans hbl3).trans hbl4, H2.out.2.2.2.2.1.trans hr4⟩
    have c3 := blk_cell hh3 3
    have c4 := blk_cell hh3 4
    have f3 := blk_free hh3 3
    have f4 := blk_free hh3 4
    have c2 := blk_cell hh3 2
    simp at c3 c4 c2
    clear hc0 hc2 hh3 hx3 hbl3 hl3 hf3 hh4 hf4 hx4 hl4 hbl4 hst3 hr4 hrd
    go_wp2_with fail
    rw [← hW4]
    clear hW4 y0 y1 y2 y3 c3 c4 f3 f4 c2
    have hbd := H4.out.2.1.disk.blk
    rw [hdn2] at hbd
    refine (after_well hp p bD bN pv3 _ true R.2.1.left R.2.1.full a b c k W4 H4.out.1 hbd).mono ?_
    rintro e w5 ⟨rfl, hb5, hf5⟩
    have hb5' := hb5
    rw [← hdn2] at hb5'
    obtain ⟨hl5, ho5⟩ := H4.out.2.1.knob (-1) (-1) hf5 hb5'
    have hmet5 : Met w5 := ho5.met H4.out.2.1 (by omega) hmet4
    have hh5 := ho5.host H4.out.2.1 H4.out.1
    have H5 : Hid (w5.heap[hp]? = some (hostO p true (.pointer (some ⟨lp, 0, none⟩))) ∧ LogIn w5 B lp p bD bN pv3 sv3 rv3 R.1 (R.2.1.knob (-1) (-1)) (n + us.length) nD3 nN3 ∧ Below B w w5 ∧ HFr hp p lo (some lp) w w5) := ⟨hh5, hl5, H4.out.2.2.1.trans (ho5.below H4.out.2.1), H4.out.2.2.2.trans ho5.hfr⟩
    clear hb5 hb5' hf5 hl5 ho5 hh5 hbd
    go_wp2_with fail
    refine (told_any 0 w5 hmet5).mono ?_
    rintro e w6 ⟨rfl, hf6⟩
    have HF6 : Hid (Fr [] w5 w6) := hf6
    clear hf6
    have HFIN : Hid (∃ us, Useless d.now mk ss us ∧ OpenedL B hp p bD bN (n + us.length) ((readL mk ss).opensU (d.knob a b) (us.map segName)) lo w (.returned (.int .i64 0)) w6) := by
      have hl6 := H5.out.2.1.new HF6.out
      have ho6 := H5.out.2.1.newO HF6.out
      refine ⟨us, HR.out.2, ?_⟩
      rw [← HR.out.1]
      exact ⟨by rw [h0]; rfl, H5.out.2.2.1.trans (ho6.below H5.out.2.1), .inl ⟨h0, lp, ⟨ho6.host H5.out.2.1 H5.out.1, _, _, _, _, _, hl6⟩, H5.out.2.2.2.trans ho6.hfr⟩⟩
    go_wp2
    go_ret
    exact HFIN.out
  · have hh3 : w3.heap[hp]? = some (hostO p false (.pointer none)) := (hf3.block hp (Array.getElem?_eq_some_iff.1 H2.out.1).1 (H2.out.2.2.1.freeD H2.out.1 (by decide) (by decide))).trans H2.out.1
    have hx3 : w3.heap[w.heap.size]? = some (fallO a b c k) := (hf3.block _ (Array.getElem?_eq_some_iff.1 H2.out.2.1).1 (H2.out.2.2.1.freeD H2.out.2.1 (by decide) (by decide))).trans H2.out.2.1
    have hbl3 : Below B w2 w3 := hf3.below H2.out.2.2.1
    have hmet3 : Met w3 := H2.out.2.2.2.2.2.below hbl3 (by omega)
    obtain ⟨W4, hW4⟩ : ∃ W4, W4 = (w3.setCell ⟨hp, 4, none⟩ (.pointer none)).setCell ⟨hp, 3, none⟩ (.bool false) := ⟨_, rfl⟩
    have hh4 : W4.heap[hp]? = some (hostO p false (.pointer none)) := by
      have := blk_set (blk_set hh3 4 (.pointer none)) 3 (.bool false)
      simp at this
      rw [hW4]; exact this
    have hf4 : Fr [hp] w3 W4 := by rw [hW4]; exact (Fr.set1 (by simp) _ _).trans (Fr.set1 (by simp) _ _)
    have hx4 : W4.heap[w.heap.size]? = some (fallO a b c k) := (hf4.block _ (Array.getElem?_eq_some_iff.1 hx3).1 (by simpa using hxh)).trans hx3
    have hd4 := hd3.host hh3 hf4
    have hr4 : HFr hp p lo none w W4 := (H2.out.2.2.2.2.1.trans hf3.hfr).trans (hd3.hfr hd4 hf4 (by intro j hj; simp at hj; simp [hj]) (.inl rfl) (Near.refl _ _))
    have hbl4 : Below B w3 W4 := hf4.below hd3.base.2.2.2 (by intro j hj; simp at hj; omega)
    have hmet4 : Met W4 := hmet3.below hbl4 (by omega)
    have c3 := blk_cell hh3 3
    have c4 := blk_cell hh3 4
    have f3 := blk_free hh3 3
    have f4 := blk_free hh3 4
    have c2 := blk_cell hh3 2
    simp at c3 c4 c2
    have hcl4 := close_any hp p false (.pointer none) ⟨_, rfl⟩ W4 hh4
    have H4 : Hid (W4.heap[hp]? = some (hostO p false (.pointer none)) ∧ W4.heap[w.heap.size]? = some (fallO a b c k) ∧ DiskIn W4 B p bD bN pv3 R.2.1 (n + us.length) nD3 nN3 ∧ Below B w W4 ∧ HFr hp p lo none w W4) := ⟨hh4, hx4, hd4, (H2.out.2.2.2.1.trans hbl3).trans hbl4, hr4⟩
    clear hc0 hc2 hh3 hx3 hbl3 hf3 hh4 hf4 hx4 hd4 hbl4 hr4 hrd hd3
    rw [errN_no h0]
    go_wp2_with fail
    rw [← hW4]
    clear hW4 c3 c4 f3 f4 c2
    refine hcl4.mono ?_
    clear hcl4
    rintro e w5 ⟨rfl, hh5, hf5⟩
    have hd5 := H4.out.2.2.1.host H4.out.1 hf5
    have hx5 : w5.heap[w.heap.size]? = some (fallO a b c k) := (hf5.block _ (Array.getElem?_eq_some_iff.1 H4.out.2.1).1 (by simpa using hxh)).trans H4.out.2.1
    have hr5 : HFr hp p lo none w w5 := H4.out.2.2.2.2.trans (H4.out.2.2.1.hfr hd5 hf5 (by intro j hj; simp at hj; simp [hj]) (.inl rfl) (Near.refl _ _))
    have hbl5 : Below B W4 w5 := hf5.below H4.out.2.2.1.base.2.2.2 (by intro j hj; simp at hj; omega)
    have hmet5 : Met w5 := hmet4.below hbl5 (by omega)
    have y0 := blk_cell hx5 0
    have y1 := blk_cell hx5 1
    have y2 := blk_cell hx5 2
    have y3 := blk_cell hx5 3
    simp at y0 y1 y2 y3
    have H5 : Hid (w5.heap[hp]? = some (hostO p false (.pointer none)) ∧ DiskIn w5 B p bD bN pv3 R.2.1 (n + us.length) nD3 nN3 ∧ Below B w w5 ∧ HFr hp p lo none w w5) := ⟨hh5, hd5, H4.out.2.2.2.1.trans hbl5, hr5⟩
    clear hh5 hf5 hd5 hx5 hr5 hbl5
    cases hdw : R.2.1.down with
    | false =>
      have hbd := H5.out.2.1.blk
      rw [hdw] at hbd
      go_wp2_with fail
      refine (after_well hp p bD bN pv3 _ false R.2.1.left R.2.1.full a b c k w5 H5.out.1 hbd).mono ?_
      rintro e w6 ⟨rfl, hb6, hf6⟩
      have hb6' := hb6
      rw [← hdw] at hb6'
      have hd6 : DiskIn w6 B p bD bN pv3 (R.2.1.knob (-1) (-1)) (n + us.length) nD3 nN3 := H5.out.2.1.turn hf6 (-1) (-1) R.2.1.down hb6'
      have hh6 := (hf6.block hp (Array.getElem?_eq_some_iff.1 H5.out.1).1 (by simpa using hne)).trans H5.out.1
      have hr6 : HFr hp p lo none w w6 := H5.out.2.2.2.trans (H5.out.2.1.hfr hd6 hf6 (by intro j hj; simp at hj; simp [hj]) (.inl rfl) (Near.refl _ _))
      have hbl6 : Below B w5 w6 := hf6.below H5.out.2.1.base.2.2.2 (by intro j hj; simp at hj; rw [hj]; exact H5.out.2.1.base.1)
      have hmet6 : Met w6 := hmet5.below hbl6 (by omega)
      have H6 : Hid (w6.heap[hp]? = some (hostO p false (.pointer none)) ∧ DiskIn w6 B p bD bN pv3 (R.2.1.knob (-1) (-1)) (n + us.length) nD3 nN3 ∧ Below B w w6 ∧ HFr hp p lo none w w6) := ⟨hh6, hd6, H5.out.2.2.1.trans hbl6, hr6⟩
      clear hb6 hb6' hf6 hd6 hh6 hr6 hbl6 hbd y0 y1 y2 y3
      have htl := told_any R.2.2 w6 hmet6
      rw [errN_no h0] at htl
      go_wp2_with fail
      refine htl.mono ?_
      clear htl
      rintro e w7 ⟨rfl, hf7⟩
      have HFIN : Hid (∃ us, Useless d.now mk ss us ∧ OpenedL B hp p bD bN (n + us.length) ((readL mk ss).opensU (d.knob a b) (us.map segName)) lo w (.returned (.int .i64 (R.2.2 : Int))) w7) := by
        refine ⟨us, HR.out.2, ?_⟩
        rw [← HR.out.1]
        have hd7 := H6.out.2.1.new hf7
        exact ⟨rfl, H6.out.2.2.1.trans (hf7.below H6.out.2.1.base.2.2.2 (by simp)), .inr (.inl ⟨h0, hdw, ⟨(hf7.block hp (Array.getElem?_eq_some_iff.1 H6.out.1).1 (by simp)).trans H6.out.1, _, _, _, hd7⟩, H6.out.2.2.2.trans (H6.out.2.1.hnew hf7 (by simp))⟩)⟩
      clear hf7
      go_wp2
      go_ret
      exact HFIN.out
    | true =>
      go_wp2_with fail
      refine (after_down B hp p bD bN (n + us.length) nD3 nN3 pv3 _ false R.2.1 a b c k none w5 H5.out.1 ⟨_, rfl⟩ H5.out.2.1 hdw hk1 hk2).mono ?_
      rintro e w6 ⟨rfl, F', bN', hl6, ⟨hh6, pv6, nD6, nN6, hd6⟩, hr6⟩
      have hbl6 : Below B w5 w6 := hr6.below H5.out.2.1 hhp rfl
      have hmet6 : Met w6 := hmet5.below hbl6 (by omega)
      have H6 : Hid (w6.heap[hp]? = some (hostO p false (.pointer none)) ∧ DiskIn w6 B p bD bN' pv6 (fallen F') (n + us.length) nD6 nN6 ∧ Below B w w6 ∧ HFr hp p lo none w w6 ∧ Left R.2.1.durable R.2.1.pending F') := ⟨hh6, hd6, H5.out.2.2.1.trans hbl6, H5.out.2.2.2.trans hr6, hl6⟩
      clear hd6 hh6 hr6 hbl6 hl6 y0 y1 y2 y3
      have htl := told_any R.2.2 w6 hmet6
      rw [errN_no h0] at htl
      go_wp2_with fail
      refine htl.mono ?_
      clear htl
      rintro e w7 ⟨rfl, hf7⟩
      have HFIN : Hid (∃ us, Useless d.now mk ss us ∧ OpenedL B hp p bD bN (n + us.length) ((readL mk ss).opensU (d.knob a b) (us.map segName)) lo w (.returned (.int .i64 (R.2.2 : Int))) w7) := by
        refine ⟨us, HR.out.2, ?_⟩
        rw [← HR.out.1]
        have hd7 := H6.out.2.1.new hf7
        exact ⟨rfl, H6.out.2.2.1.trans (hf7.below H6.out.2.1.base.2.2.2 (by simp)), .inr (.inr ⟨h0, hdw, F', bN', H6.out.2.2.2.2, ⟨(hf7.block hp (Array.getElem?_eq_some_iff.1 H6.out.1).1 (by simp)).trans H6.out.1, _, _, _, hd7⟩, H6.out.2.2.2.1.trans (H6.out.2.1.hnew hf7 (by simp))⟩)⟩
      clear hf7
      go_wp2
      go_ret
      exact HFIN.out
end Go.Proofs.YtbdhmkfdofkloaaGreatDoor
/- LOGS WHOSE DISKS FAIL, the mathematics: what is told since the last Sync. -/
namespace Go.Proofs.YtbdhmkfdofkloaaGreatDoor
open Go.RowKit
open Sc

/-! ### what a disk answers -/
theorem writes_up (d : ADisk) : (d.writes.2 = 0 ∧ d.writes.1.down = false) ∨ (d.writes.2 = 9 ∧ d.writes.1.down = false) ∨ (d.writes.2 = 10 ∧ d.writes.1.down = true) := by
  unfold ADisk.writes
  split
  · right; right; simp
  · rename_i h
    simp only [not_or] at h
    have hd : d.down = false := by cases hh : d.down; rfl; exact absurd hh h.1
    split
    · right; left; simp [hd]
    · left; simp [hd]
theorem sync_cases (d : ADisk) : (d.sync.2 = 0 ∧ d.sync.1.durable = d.pending.foldl doOp d.durable ∧ d.sync.1.now = d.now ∧ d.sync.1.pending = [] ∧ d.sync.1.down = false) ∨
    (d.sync.2 ≠ 0 ∧ d.sync.1.durable = d.durable ∧ d.sync.1.now = d.now ∧ d.sync.1.pending = d.pending ∧ (d.sync.2 = 9 ∧ d.sync.1.down = false ∨ d.sync.2 = 10 ∧ d.sync.1.down = true)) := by
  have hs := writes_same d
  rcases writes_up d with ⟨h, hd⟩ | ⟨h, hd⟩ | ⟨h, hd⟩
  · left
    rw [sync_ok h]
    refine ⟨rfl, ?_, ?_, rfl, hd⟩
    · show d.writes.1.pending.foldl doOp d.writes.1.durable = _; rw [hs]
    · show d.writes.1.now = _; rw [hs]
  · right
    rw [sync_err (by omega)]
    exact ⟨by omega, by rw [hs], by rw [hs], by rw [hs], .inl ⟨h, hd⟩⟩
  · right
    rw [sync_err (by omega)]
    exact ⟨by omega, by rw [hs], by rw [hs], by rw [hs], .inr ⟨h, hd⟩⟩
/-- an append -/
theorem tell_cases (d : ADisk) (o : AOp) (ho : o.kind < 3) : ((d.tell o).2 = 0 ∧ (d.tell o).1.durable = d.durable ∧ (d.tell o).1.now = doOp d.now o ∧ (d.tell o).1.pending = d.pending ++ [o] ∧ (d.tell o).1.down = false) ∨
    ((d.tell o).2 = 9 ∧ (d.tell o).1.durable = d.durable ∧ (d.tell o).1.now = d.now ∧ (d.tell o).1.pending = d.pending ∧ (d.tell o).1.down = false) ∨
    ((d.tell o).2 = 10 ∧ (d.tell o).1.durable = d.durable ∧ (d.tell o).1.now = d.now ∧ (d.tell o).1.pending = d.pending ++ [o] ∧ (d.tell o).1.down = true) := by
  have hs := writes_same d
  unfold ADisk.tell
  rcases writes_up d with ⟨h, hd⟩ | ⟨h, hd⟩ | ⟨h, hd⟩
  · left
    simp only [h]
    rw [if_neg (by omega), if_neg (by omega), if_neg (by omega), if_neg (by omega)]
    refine ⟨rfl, ?_, ?_, ?_, hd⟩
    · show d.writes.1.durable = _; rw [hs]
    · show doOp d.writes.1.now o = _; rw [hs]
    · show d.writes.1.pending ++ [o] = _; rw [hs]
  · right; left
    simp only [h]
    rw [if_neg (by omega), if_pos trivial]
    exact ⟨rfl, by rw [hs], by rw [hs], by rw [hs], hd⟩
  · right; right
    simp only [h]
    rw [if_pos trivial]
    refine ⟨rfl, ?_, ?_, ?_, hd⟩
    · show d.writes.1.durable = _; rw [hs]
    · show d.writes.1.now = _; rw [hs]
    · show d.writes.1.pending ++ [o] = _; rw [hs]
/-! ### records as appends -/
def opsR (nm : ByteArray) (c : List Rec) : List AOp := c.map fun r => appOp nm (str (recBytes r.lsn r.kind r.pay))
theorem opsR_snoc (nm : ByteArray) (c : List Rec) (r : Rec) : opsR nm (c ++ [r]) = opsR nm c ++ [appOp nm (str (recBytes r.lsn r.kind r.pay))] := by simp [opsR]
theorem opsR_map (nm : ByteArray) (c : List Rec) : opsR nm c = (c.map fun r => str (recBytes r.lsn r.kind r.pay)).map (appOp nm) := by simp [opsR]
theorem str_nil : str [] = ByteArray.empty := by rfl
theorem join_recs : ∀ (c : List Rec), joinB (c.map fun r => str (recBytes r.lsn r.kind r.pay)) = str (encR c)
  | [] => by simp [joinB, encR, str_nil]
  | r :: c => by
    have e : encR (r :: c) = recBytes r.lsn r.kind r.pay ++ encR c := by simp [encR]
    rw [e, str_app, ← join_recs c]; rfl
theorem encR_app (a b : List Rec) : encR (a ++ b) = encR a ++ encR b := by simp [encR]
theorem fold_recs (nm : ByteArray) : ∀ (c : List Rec) (F : Files), c ≠ [] → (opsR nm c).foldl doOp F = F.plus nm (str (encR c))
  | [], _, h => absurd rfl h
  | r :: c, F, _ => by
    have e : opsR nm (r :: c) = appOp nm (str (recBytes r.lsn r.kind r.pay)) :: opsR nm c := rfl
    rw [e, List.foldl_cons, doOp_plus]
    by_cases hc : c = []
    · subst hc; simp [opsR, encR]
    · rw [fold_recs nm c _ hc, plus_plus, ← str_app]
      have e : encR (r :: c) = recBytes r.lsn r.kind r.pay ++ encR c := by simp [encR]
      rw [e]
/-! ### files that hold more -/
def Clean (F : Files) (mk : Nat) (ss : List Sg) : Prop := ∀ u, F (segName u) ≠ none → u ∈ starts mk (chunks ss)
theorem plus_same (F : Files) (nm y : ByteArray) : F.plus nm y nm = some ((F nm).getD ByteArray.empty ++ y) := Files.set_same _ _ _
theorem plus_other (F : Files) {nm x : ByteArray} (y : ByteArray) (h : x ≠ nm) : F.plus nm y x = F x := Files.set_other _ _ h
theorem seg_ne {a b : Nat} (h : a ≠ b) : segName a ≠ segName b := fun e => h (segName_inj e)
section
variable {F : Files} {mk : Nat} {ss ds : List Sg} {c0 c1 : List Rec} {t : List Nat}
theorem Stands.fresh (h : Stands F mk ss) (hc : Clean F mk ss) : F (segName (nextOf mk ss)) = none := by
  cases hx : F (segName (nextOf mk ss)) with
  | none => rfl
  | some x =>
    exfalso
    have := (h.start (hc _ (by rw [hx]; simp))).2.2
    omega
theorem nextOf_last (mk : Nat) (ds : List Sg) (c : List Rec) (t : List Nat) : nextOf mk (ds ++ [(c, t)]) = nextOf mk ds + c.length := nextOf_snoc mk ds (c, t)
theorem nums_app {a b : List Rec} {f : Nat} (h : ∀ (k : Nat) (r : Rec), a[k]? = some r → r.lsn = f + k) (h2 : ∀ (k : Nat) (r : Rec), b[k]? = some r → r.lsn = f + a.length + k) : ∀ (k : Nat) (r : Rec), (a ++ b)[k]? = some r → r.lsn = f + k := by
  intro k r hr
  rw [List.getElem?_append] at hr
  split at hr
  · exact h k r hr
  · have := h2 _ r hr; omega
/-- a new segment, of whole records and a beginning of one more -/
theorem Stands.more (h : Stands F mk ss) (hc : Clean F mk ss) (hne : c1 ≠ []) (hn : ∀ (k : Nat) (r : Rec), c1[k]? = some r → r.lsn = nextOf mk ss + k) (hf : FineP c1) (hj : Junk t) (hs : bytesR c1 < 870) (hb : nextOf mk ss + c1.length < 18446744073709551616) :
    Stands (F.plus (segName (nextOf mk ss)) (str (encR c1 ++ t))) mk (ss ++ [(c1, t)]) where
  mark := by rw [plus_other F _ (fun e => (segName_mark (nextOf mk ss)).1 e.symm)]; exact h.mark
  pos := h.pos
  ne := fun s hs => by
    rcases List.mem_append.1 hs with hs | hs
    · exact h.ne s hs
    · simp at hs; subst hs; exact hne
  files := fun k s hk => by
    rw [List.getElem?_append] at hk
    split at hk
    · rename_i hkl
      have h1 := h.files k s hk
      rw [List.take_append_of_le_length (by omega)]
      have hlt : nextOf mk (ss.take k) < nextOf mk ss := by
        have := (h.at_ hk).2.2.2.2.2.2
        have h3 : 0 < s.1.length := List.length_pos_iff.2 (h.ne s (List.mem_of_getElem? hk))
        omega
      rw [plus_other F _ (seg_ne (by omega))]
      exact h1
    · rename_i hkl
      have hk0 : k - ss.length = 0 := by
        have := (List.getElem?_eq_some_iff.1 hk).1; simp at this; omega
      rw [hk0] at hk
      simp at hk
      subst hk
      rw [List.take_append_of_le_length (by omega), List.take_of_length_le (by omega), plus_same, h.fresh hc]
      simp [sgB]
  junk := fun s hs => by
    rcases List.mem_append.1 hs with hs | hs
    · exact h.junk s hs
    · simp at hs; subst hs; exact hj
  size := fun s hs' => by
    rcases List.mem_append.1 hs' with hs' | hs'
    · exact h.size s hs'
    · simp at hs'; subst hs'; exact hs
  nums := by
    rw [chunks_snoc, flat_snoc]
    exact nums_app h.nums hn
  fine := by
    rw [chunks_snoc, flat_snoc]
    intro r hr
    rcases List.mem_append.1 hr with hr | hr
    · exact h.fine r hr
    · exact hf r hr
  other := fun nm hnm => by
    by_cases e : nm = segName (nextOf mk ss)
    · right; right
      exact ⟨_, e, h.big, .inr (.inl (by rw [chunks_snoc, starts_snoc]; simp [nextOf]))⟩
    · rw [plus_other F _ e] at hnm
      rcases h.other nm hnm with h1 | h1 | ⟨u, h1, h2, h3⟩
      · exact .inl h1
      · exact .inr (.inl h1)
      · refine .inr (.inr ⟨u, h1, h2, ?_⟩)
        rcases h3 with h3 | h3 | h3
        · exact .inl h3
        · right; left; rw [chunks_snoc, starts_snoc]; simp [h3]
        · rw [h3] at h1; exact absurd h1 e
  dead := fun x hx => by
    exfalso
    rw [nextOf_last, plus_other F _ (seg_ne (by have : 0 < c1.length := List.length_pos_iff.2 hne; omega))] at hx
    have := (h.start (hc _ (by rw [hx]; simp))).2.2
    omega
  big := by rw [nextOf_last]; exact hb
theorem Clean.more (hc : Clean F mk ss) (y : ByteArray) : Clean (F.plus (segName (nextOf mk ss)) y) mk (ss ++ [(c1, t)]) := fun u hu => by
  rw [chunks_snoc, starts_snoc]
  by_cases e : u = nextOf mk ss
  · rw [e]; simp [nextOf]
  · rw [plus_other F _ (seg_ne e)] at hu
    simp [hc u hu]
/-- a beginning of a record alone: of no use -/
theorem Stands.dead_ (h : Stands F mk ss) (hc : Clean F mk ss) (hj : Junk t) : Stands (F.plus (segName (nextOf mk ss)) (str t)) mk ss :=
  { mark := by rw [plus_other F _ (fun e => (segName_mark (nextOf mk ss)).1 e.symm)]; exact h.mark
    pos := h.pos
    ne := h.ne
    files := fun k s hk => by
      have hlt : nextOf mk (ss.take k) < nextOf mk ss := by
        have := (h.at_ hk).2.2.2.2.2.2
        have h3 : 0 < s.1.length := List.length_pos_iff.2 (h.ne s (List.mem_of_getElem? hk))
        omega
      rw [plus_other F _ (seg_ne (by omega))]
      exact h.files k s hk
    junk := h.junk
    size := h.size
    nums := h.nums
    fine := h.fine
    other := fun nm hnm => by
      by_cases e : nm = segName (nextOf mk ss)
      · exact .inr (.inr ⟨_, e, h.big, .inr (.inr rfl)⟩)
      · rw [plus_other F _ e] at hnm
        exact h.other nm hnm
    dead := fun x hx => by
      rw [plus_same, h.fresh hc] at hx
      simp at hx
      exact ⟨t, hx.symm, hj⟩
    big := h.big }
/-- more in the last segment -/
theorem Stands.longer (h : Stands F mk (ds ++ [(c0, [])])) (hc : Clean F mk (ds ++ [(c0, [])])) (hn : ∀ (k : Nat) (r : Rec), c1[k]? = some r → r.lsn = nextOf mk (ds ++ [(c0, [])]) + k) (hf : FineP c1) (hj : Junk t) (hs : bytesR c0 + bytesR c1 < 870) (hb : nextOf mk (ds ++ [(c0, [])]) + c1.length < 18446744073709551616) :
    Stands (F.plus (segName (nextOf mk ds)) (str (encR c1 ++ t))) mk (ds ++ [(c0 ++ c1, t)]) where
  mark := by rw [plus_other F _ (fun e => (segName_mark (nextOf mk ds)).1 e.symm)]; exact h.mark
  pos := h.pos
  ne := fun s hs => by
    rcases List.mem_append.1 hs with hs | hs
    · exact h.ne s (by simp [hs])
    · simp at hs; subst hs
      have := h.ne (c0, []) (by simp)
      intro e; simp at e; exact this e.1
  files := fun k s hk => by
    have h00 := h.files ds.length (c0, []) (by simp)
    rw [List.take_append_of_le_length (by omega), List.take_of_length_le (by omega)] at h00
    rw [List.getElem?_append] at hk
    split at hk
    · rename_i hkl
      have hk' : (ds ++ [(c0, [])])[k]? = some s := by rw [List.getElem?_append_left hkl]; exact hk
      have h1 := h.files k s hk'
      rw [List.take_append_of_le_length (by omega)] at h1 ⊢
      have hlt : nextOf mk (ds.take k) < nextOf mk ds := by
        have hkk := nextOf_take_le mk ds (k + 1)
        rw [takeS_at hk, nextOf_snoc] at hkk
        have h3 : 0 < s.1.length := List.length_pos_iff.2 (h.ne s (List.mem_of_getElem? hk'))
        omega
      rw [plus_other F _ (seg_ne (by omega))]
      exact h1
    · rename_i hkl
      have hk0 : k - ds.length = 0 := by
        have := (List.getElem?_eq_some_iff.1 hk).1; simp at this; omega
      rw [hk0] at hk
      simp at hk
      subst hk
      rw [List.take_append_of_le_length (by omega), List.take_of_length_le (by omega), plus_same, h00]
      simp only [Option.getD_some, sgB, List.append_nil]
      rw [← str_app, encR_app, List.append_assoc]
  junk := fun s hs => by
    rcases List.mem_append.1 hs with hs | hs
    · exact h.junk s (by simp [hs])
    · simp at hs; subst hs; exact hj
  size := fun s hs' => by
    rcases List.mem_append.1 hs' with hs' | hs'
    · exact h.size s (by simp [hs'])
    · simp at hs'; subst hs'; simp only [bytesR_app]; exact hs
  nums := by
    have h1 := h.nums
    rw [chunks_snoc, flat_snoc] at h1 ⊢
    simp only
    rw [← List.append_assoc]
    refine nums_app h1 (fun k r hk => ?_)
    have := hn k r hk
    rw [nextOf_last] at this
    simp only [List.length_append]
    unfold nextOf at this
    omega
  fine := by
    have h1 := h.fine
    rw [chunks_snoc, flat_snoc] at h1 ⊢
    simp only
    rw [← List.append_assoc]
    intro r hr
    rcases List.mem_append.1 hr with hr | hr
    · exact h1 r hr
    · exact hf r hr
  other := fun nm hnm => by
    have est : starts mk (chunks (ds ++ [(c0 ++ c1, t)])) = starts mk (chunks (ds ++ [(c0, [])])) := by rw [chunks_snoc, chunks_snoc]; exact starts_set _ _ _ _
    rw [est]
    by_cases e : nm = segName (nextOf mk ds)
    · right; right
      refine ⟨_, e, by have := h.big; rw [nextOf_last] at this; omega, .inr (.inl (by rw [chunks_snoc, starts_snoc]; simp [nextOf]))⟩
    · rw [plus_other F _ e] at hnm
      rcases h.other nm hnm with h1 | h1 | ⟨u, h1, h2, h3⟩
      · exact .inl h1
      · exact .inr (.inl h1)
      · refine .inr (.inr ⟨u, h1, h2, ?_⟩)
        rcases h3 with h3 | h3 | h3
        · exact .inl h3
        · exact .inr (.inl h3)
        · exfalso
          rw [h1] at hnm
          have := (h.start (hc u hnm)).2.2
          omega
  dead := fun x hx => by
    exfalso
    have hp : 0 < c0.length := List.length_pos_iff.2 (h.ne (c0, []) (by simp))
    rw [nextOf_last, plus_other F _ (seg_ne (by rw [List.length_append]; omega))] at hx
    have := (h.start (hc _ (by rw [hx]; simp))).2.2
    rw [nextOf_last, List.length_append] at this
    omega
  big := by rw [nextOf_last] at hb ⊢; rw [List.length_append]; omega
theorem Clean.longer (hc : Clean F mk (ds ++ [(c0, [])])) (y : ByteArray) : Clean (F.plus (segName (nextOf mk ds)) y) mk (ds ++ [(c0 ++ c1, t)]) := fun u hu => by
  have est : starts mk (chunks (ds ++ [(c0 ++ c1, t)])) = starts mk (chunks (ds ++ [(c0, [])])) := by rw [chunks_snoc, chunks_snoc]; exact starts_set _ _ _ _
  rw [est]
  by_cases e : u = nextOf mk ds
  · rw [e, chunks_snoc, starts_snoc]; simp [nextOf]
  · rw [plus_other F _ (seg_ne e)] at hu
    exact hc u hu
end
end Go.Proofs.YtbdhmkfdofkloaaGreatDoor
/- LOGS WHOSE DISKS FAIL, the mathematics: a log between its calls; the power fails; it is forced. -/
namespace Go.Proofs.YtbdhmkfdofkloaaGreatDoor
open Go.RowKit
open Sc

/-- where what was appended since the last Sync lies -/
inductive Mode (l : ALog) (d : ADisk) (mk : Nat) (ss : List Sg) (c1 : List Rec) : Prop
  | rest (h1 : c1 = []) (h2 : d.pending = []) (h3 : d.now = d.durable) (h4 : l.segs = starts mk (chunks ss)) (h5 : l.filled = fillOf ss)
  | last (ds : List Sg) (c0 : List Rec) (h0 : ss = ds ++ [(c0, [])]) (h1 : c1 ≠ []) (h2 : d.pending = opsR (segName (nextOf mk ds)) c1) (h3 : d.now = d.durable.plus (segName (nextOf mk ds)) (str (encR c1))) (h4 : l.segs = starts mk (chunks ss)) (h5 : l.filled = bytesR c0 + bytesR c1) (h6 : bytesR c0 + bytesR c1 < 870)
  | fresh (h1 : c1 ≠ []) (h2 : d.pending = opsR (segName (nextOf mk ss)) c1) (h3 : d.now = d.durable.plus (segName (nextOf mk ss)) (str (encR c1))) (h4 : l.segs = starts mk (chunks ss) ++ [nextOf mk ss]) (h5 : l.filled = bytesR c1) (h6 : bytesR c1 < 870)
/-- a log between its calls: ss is durable, c1 was appended since -/
structure LgS (l : ALog) (d : ADisk) (mk : Nat) (ss : List Sg) (c1 : List Rec) : Prop where
  st : Stands d.durable mk ss
  clean : Clean d.durable mk ss
  beg : Begun d.durable mk ss
  recs : l.recs = (chunks ss).flatten ++ c1
  next : l.next = nextOf mk ss + c1.length
  nofail : l.failed = 0
  dur : l.durable = nextOf mk ss
  num1 : ∀ (k : Nat) (r : Rec), c1[k]? = some r → r.lsn = nextOf mk ss + k
  fin1 : FineP c1
  big : nextOf mk ss + c1.length < 18446744073709551616
  mode : Mode l d mk ss c1
theorem str_take (l : List Nat) (q : Nat) : (str l).extract 0 q = str (l.take q) := by
  apply ByteArray.ext
  rw [str_data, ByteArray.data_extract, str_data]
  simp
theorem bytesR_take' (l : List Rec) (k : Nat) : bytesR (l.take k) ≤ bytesR l := by
  have h := bytesR_app (l.take k) (l.drop k)
  rw [List.take_append_drop] at h
  omega
theorem fineP_take {c : List Rec} (h : FineP c) (k : Nat) : FineP (c.take k) := fun r hr => h r (List.mem_of_mem_take hr)
theorem junk_cut {r : Rec} (h : r.kind < 256 ∧ r.pay.length ≤ 255 ∧ Byt r.pay) {q : Nat} (hq : q < 15 + r.pay.length) : Junk ((recBytes r.lsn r.kind r.pay).take q) where
  byt := (recBytes_byt r.lsn r.kind r.pay h.1 h.2.2).take_ q
  no := frame_cut r.lsn r.kind r.pay h.2.1 q hq
  le := by rw [List.length_take, recBytes_len]; have := h.2.1; omega
/-- what a failure of power leaves of appends: the first ones, and a beginning -/
theorem left_recs {F F' : Files} {nm : ByteArray} {c : List Rec} (hf : FineP c) (h : Left F (opsR nm c) F') : F' = F ∨ ∃ k t, k ≤ c.length ∧ Junk t ∧ F' = F.plus nm (str (encR (c.take k) ++ t)) := by
  rw [opsR_map] at h
  rcases left_apps h with h | ⟨k, hk, _, h⟩ | ⟨k, z, q, hz, h⟩
  · exact .inl h
  · right
    rw [List.length_map] at hk
    refine ⟨k, [], hk, junk_nil, ?_⟩
    rw [h, ← List.map_take, join_recs, List.append_nil]
  · right
    rw [List.getElem?_map] at hz
    cases hr : c[k]? with
    | none => rw [hr] at hz; cases hz
    | some r =>
      rw [hr] at hz
      simp at hz
      subst hz
      have hkl := (List.getElem?_eq_some_iff.1 hr).1
      rw [← List.map_take, join_recs, str_take, ← str_app] at h
      by_cases hq : q < 15 + r.pay.length
      · exact ⟨k, _, by omega, junk_cut (hf r (List.mem_of_getElem? hr)) hq, h⟩
      · refine ⟨k + 1, [], by omega, junk_nil, ?_⟩
        have e1 : (recBytes r.lsn r.kind r.pay).take q = recBytes r.lsn r.kind r.pay := List.take_of_length_le (by rw [recBytes_len]; omega)
        rw [h, e1, List.append_nil, List.take_add_one, hr]
        simp [encR]
theorem begun_of {F : Files} {mk : Nat} {ss : List Sg} (h : ss ≠ []) : Begun F mk ss := .inl (by
  unfold tailL
  intro e
  have := congrArg List.length e
  rw [List.length_append, starts_len] at this
  simp at this
  exact h this.1)
section
variable {l : ALog} {d : ADisk} {mk : Nat} {ss : List Sg} {c1 : List Rec}
theorem num_take (h : ∀ (k : Nat) (r : Rec), c1[k]? = some r → r.lsn = nextOf mk ss + k) (j : Nat) : ∀ (k : Nat) (r : Rec), (c1.take j)[k]? = some r → r.lsn = nextOf mk ss + k := fun k r hk => by
  rw [List.getElem?_take] at hk
  split at hk
  · exact h k r hk
  · cases hk
/-- the power fails -/
theorem LgS.crash (h : LgS l d mk ss c1) {F' : Files} (hl : Left d.durable d.pending F') :
    ∃ ss' k, k ≤ c1.length ∧ Stands F' mk ss' ∧ Begun F' mk ss' ∧ (chunks ss').flatten = (chunks ss).flatten ++ c1.take k ∧ ss'.length ≤ ss.length + 1 := by
  have same : ∃ ss' k, k ≤ c1.length ∧ Stands d.durable mk ss' ∧ Begun d.durable mk ss' ∧ (chunks ss').flatten = (chunks ss).flatten ++ c1.take k ∧ ss'.length ≤ ss.length + 1 := ⟨ss, 0, Nat.zero_le _, h.st, h.beg, by simp, by omega⟩
  rcases h.mode with ⟨h1, h2, h3, h4, h5⟩ | ⟨ds, c0, h0, h1, h2, h3, h4, h5, h6⟩ | ⟨h1, h2, h3, h4, h5, h6⟩
  · rw [h2] at hl
    rw [left_nil hl]
    exact same
  · rw [h2] at hl
    rcases left_recs h.fin1 hl with e | ⟨k, t, hk, hj, e⟩
    · rw [e]; exact same
    · rw [e]
      have hst := h.st
      have hcl := h.clean
      have hn1 := num_take h.num1 k
      have hbg := h.big
      rw [h0] at hst hcl hn1 hbg
      have hb := bytesR_take' c1 k
      refine ⟨ds ++ [(c0 ++ c1.take k, t)], k, hk, hst.longer hcl hn1 (fineP_take h.fin1 k) hj (by omega) (by rw [List.length_take]; omega), begun_of (by simp), ?_, by rw [h0]; simp⟩
      rw [h0, chunks_snoc, chunks_snoc, flat_snoc, flat_snoc, List.append_assoc]
  · rw [h2] at hl
    rcases left_recs h.fin1 hl with e | ⟨k, t, hk, hj, e⟩
    · rw [e]; exact same
    · rw [e]
      have hb := bytesR_take' c1 k
      by_cases hk0 : c1.take k = []
      · rw [hk0]
        have e1 : encR [] ++ t = t := by simp [encR]
        rw [e1]
        refine ⟨ss, 0, Nat.zero_le _, h.st.dead_ h.clean hj, .inl ?_, by simp, by omega⟩
        unfold tailL deadL
        rw [plus_same]
        simp
      · exact ⟨ss ++ [(c1.take k, t)], k, hk, h.st.more h.clean hk0 (num_take h.num1 k) (fineP_take h.fin1 k) hj (by omega) (by rw [List.length_take]; have := h.big; omega), begun_of (by simp), by rw [chunks_snoc, flat_snoc], by simp⟩
/-- all is durable -/
theorem LgS.synced (h : LgS l d mk ss c1) {d' : ADisk} (e1 : d'.durable = d.pending.foldl doOp d.durable) (e2 : d'.now = d.now) (e3 : d'.pending = []) :
    ∃ ss', LgS { l with durable := l.next } d' mk ss' [] ∧ (chunks ss').flatten = (chunks ss).flatten ++ c1 ∧ ss'.length ≤ ss.length + 1 := by
  rcases h.mode with ⟨h1, h2, h3, h4, h5⟩ | ⟨ds, c0, h0, h1, h2, h3, h4, h5, h6⟩ | ⟨h1, h2, h3, h4, h5, h6⟩
  · subst h1
    have ed : d'.durable = d.durable := by rw [e1, h2]; rfl
    refine ⟨ss, ⟨by rw [ed]; exact h.st, by rw [ed]; exact h.clean, by rw [ed]; exact h.beg, by simpa using h.recs, by simpa using h.next, h.nofail, by simpa using h.next, by simp, by intro r hr; simp at hr, by simpa using h.big, .rest rfl e3 (by rw [e2, h3, ed]) h4 h5⟩, by simp, by omega⟩
  · have ed : d'.durable = d.durable.plus (segName (nextOf mk ds)) (str (encR c1)) := by rw [e1, h2, fold_recs _ _ _ h1]
    have hst := h.st
    have hcl := h.clean
    have hn1 := h.num1
    have hbg := h.big
    have hnx := h.next
    have hrc := h.recs
    rw [h0] at hst hcl hn1 hbg hnx hrc
    have hst2 := hst.longer (t := []) hcl hn1 h.fin1 junk_nil h6 hbg
    rw [List.append_nil, ← ed] at hst2
    have enx : nextOf mk (ds ++ [(c0 ++ c1, [])]) = nextOf mk (ds ++ [(c0, [])]) + c1.length := by rw [nextOf_last, nextOf_last, List.length_append]; omega
    refine ⟨ds ++ [(c0 ++ c1, [])], ⟨hst2, by rw [ed]; exact hcl.longer _, begun_of (by simp), ?_, ?_, h.nofail, ?_, by simp, by intro r hr; simp at hr, by rw [enx]; simpa using hbg, .rest rfl e3 (by rw [e2, h3, ed]) ?_ ?_⟩, ?_, by rw [h0]; simp⟩
    · show l.recs = _
      rw [hrc, chunks_snoc, chunks_snoc, flat_snoc, flat_snoc]; simp
    · show l.next = _; rw [hnx, enx]; simp
    · show l.next = _; rw [hnx, enx]
    · show l.segs = _; rw [h4, h0, chunks_snoc, chunks_snoc]; exact starts_set _ _ _ _
    · show l.filled = _; rw [h5, fillOf_snoc]; simp [fillS, bytesR_app]
    · rw [h0, chunks_snoc, chunks_snoc, flat_snoc, flat_snoc, List.append_assoc]
  · have ed : d'.durable = d.durable.plus (segName (nextOf mk ss)) (str (encR c1)) := by rw [e1, h2, fold_recs _ _ _ h1]
    have hst2 := h.st.more (t := []) h.clean h1 h.num1 h.fin1 junk_nil h6 h.big
    rw [List.append_nil, ← ed] at hst2
    have enx : nextOf mk (ss ++ [(c1, [])]) = nextOf mk ss + c1.length := nextOf_last mk ss c1 []
    refine ⟨ss ++ [(c1, [])], ⟨hst2, by rw [ed]; exact h.clean.more _, begun_of (by simp), ?_, ?_, h.nofail, ?_, by simp, by intro r hr; simp at hr, by rw [enx]; simpa using h.big, .rest rfl e3 (by rw [e2, h3, ed]) ?_ ?_⟩, by rw [chunks_snoc, flat_snoc], by simp⟩
    · show l.recs = _; rw [h.recs, chunks_snoc, flat_snoc]; simp
    · show l.next = _; rw [h.next, enx]; simp
    · show l.next = _; rw [h.next, enx]
    · show l.segs = _; rw [h4, chunks_snoc, starts_snoc]; rfl
    · show l.filled = _; rw [h5, fillOf_snoc]; simp [fillS]
end
end Go.Proofs.YtbdhmkfdofkloaaGreatDoor
