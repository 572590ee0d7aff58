import Derived.Test.YtejiankgafjppaaGreatDoorC14
import Derived.BigQuiet
import Derived.Test.YtejiankgafjppaaGreatDoorC01
import Derived.Test.YtejiankgafjppaaGreatDoorC12
/- OPENING OVER NOTHING: (*Log).read, journal.Open. -/
namespace Go.Proofs.YtejiankgafjppaaGreatDoor
open Go.RowKit
open Sc

def log0 (nx : Nat) : ALog := ⟨[], 600, [], nx, 0, 0⟩
set_option maxRecDepth 100000 in
set_option maxHeartbeats 2000000 in
theorem read_empty (B lp p bD bN n nD : Nat) (pv : Value) (d : ADisk) (w : World) (h : LogIn w B lp p bD bN pv (.slice none 0 0) (.slice none 0 0) (log0 0) d n nD 0) (hdn : d.down = false) (hno : d.now markNm = none) :
    Calls Tryz.prog 169 #[.pointer (some ⟨lp, 0, none⟩)] w fun e w' => e = .returned (.tuple #[.slice none 0 0, .nilIface]) ∧ LogIn w' B lp p bD bN pv (.slice none 0 0) (.slice none 0 0) (log0 1) d n nD 0 ∧ OFr lp p w w' := by
  have c0 := blk_cell h.blk 0
  simp at c0
  have HI : Hid (LogIn w B lp p bD bN pv (.slice none 0 0) (.slice none 0 0) (log0 0) d n nD 0) := h
  clear h
  have hm := Tryz.mNames
  go_enter Tryz.func169, Tryz.ntmps169
  go_wp2_with fail
  refine (names_empty B p bD bN n nD pv d w HI.out.disk hdn).mono ?_
  rintro e w1 ⟨rfl, hb1⟩
  have hf1 : Fr [] w w1 := Fr.of_below hb1 _
  have hl1 := HI.out.new hf1
  have ho1 := HI.out.newO hf1
  have k0 := blk_cell hl1.blk 0
  simp at k0
  have H1 : Hid (LogIn w1 B lp p bD bN pv (.slice none 0 0) (.slice none 0 0) (log0 0) d n nD 0 ∧ OFr lp p w w1) := ⟨hl1, ho1⟩
  clear hl1 ho1 hf1 hb1 c0
  go_wp2_with fail
  refine (readMark_none B p bD bN n nD 0 pv d w1 H1.out.1.disk hdn hno).mono ?_
  rintro e w2 ⟨rfl, hb2⟩
  have hf2 : Fr [] w1 w2 := Fr.of_below hb2 _
  have hl2 := H1.out.1.new hf2
  have ho2 := H1.out.2.trans (H1.out.1.newO hf2)
  have m4 := blk_cell hl2.blk 4
  have f4 := blk_free hl2.blk 4
  simp at m4
  have H2 : Hid (LogIn w2 B lp p bD bN pv (.slice none 0 0) (.slice none 0 0) (log0 0) d n nD 0 ∧ OFr lp p w w2) := ⟨hl2, ho2⟩
  clear hl2 ho2 hf2 hb2 k0
  obtain ⟨W, hW⟩ : ∃ W, W = w2.setCell ⟨lp, 4, none⟩ (.int .u64 1) := ⟨_, rfl⟩
  have hf3 : Fr [lp] w2 W := by rw [hW]; exact Fr.set1 (by simp) _ _
  have hb3 : W.heap[lp]? = some (logO p (.slice none 0 0) (.slice none 0 0) (log0 1)) := by rw [hW]; have := blk_set H2.out.1.blk 4 (.int .u64 1); simp [log0] at this ⊢; exact this
  have hn := H2.out.1.disk.hn
  have hl3 : LogIn W B lp p bD bN pv (.slice none 0 0) (.slice none 0 0) (log0 1) d n nD 0 := H2.out.1.own1 hf3 hb3 H2.out.1.segsN H2.out.1.recsN H2.out.1.fillN (by show 1 ≤ n + 1; omega) H2.out.1.durN rfl rfl
  have ho3 : OFr lp p w W := H2.out.2.trans (H2.out.1.ofr hl3 hf3 (fun k hk _ => by simp at hk; simp [hk]) (.inl rfl) (Near.refl _ _) (Near.refl _ _) (Near.refl _ _))
  have m4' := blk_cell hl3.blk 4
  simp [log0] at m4'
  have H3 : Hid (LogIn W B lp p bD bN pv (.slice none 0 0) (.slice none 0 0) (log0 1) d n nD 0 ∧ OFr lp p w W) := ⟨hl3, ho3⟩
  clear hl3 ho3 hf3 hb3
  subst hW
  go_wp2_with fail
  refine (among_nil _).mono ?_
  rintro e w4 ⟨rfl, rfl⟩
  go_wp2_with fail
  refine (search_nil 1 _).mono ?_
  rintro e w4 ⟨rfl, rfl⟩
  go_wp2_with fail
  refine (namesOf_nil _).mono ?_
  rintro e w4 ⟨rfl, rfl⟩
  go_wp2
  refine wp_loop_rounds 1 ?_
  rw [rounds_succ]
  go_wp2
  go_ret2
  exact ⟨rfl, H3.out.1, H3.out.2⟩
/-- the disk turned by itself, under a log -/
theorem LogIn.dturned {w w' : World} {B lp p bD bN n nD nN nD' nN' : Nat} {pv sv rv pv' : Value} {l : ALog} {d d' : ADisk} (h : LogIn w B lp p bD bN pv sv rv l d n nD nN) (hd : DiskIn w' B p bD bN pv' d' n nD' nN') (hf : DFr p w w') : LogIn w' B lp p bD bN pv' sv rv l d' n nD' nN' ∧ OFr lp p w w' := by
  have hlp := (Array.getElem?_eq_some_iff.1 h.blk).1
  have hne : ∀ k, k < w.heap.size → (k = lp ∨ sv.ownBlock = some k ∨ rv.ownBlock = some k) → ¬ OwnD p w k := fun k _ hk ho => by
    have := h.sep k ((h.disk.ownD k).1 ho)
    rcases hk with e | e | e
    · exact this.1 e
    · exact this.2.1 e
    · exact this.2.2 e
  have hblk : w'.heap[lp]? = some (logO p sv rv l) := (hf.block lp hlp (hne lp hlp (.inl rfl))).trans h.blk
  have hrow : ∀ (e : TypeId) (k m : Nat) (v : Value) (xs : List Value), (∀ g, v.ownBlock = some g → g = lp ∨ sv.ownBlock = some g ∨ rv.ownBlock = some g) → w.ownsRow B e k v m xs → w'.ownsRow B e k v m xs := fun e k m v xs hv hr => by
    refine ⟨hr.1, ?_⟩
    rcases hr.2 with h1 | ⟨g, cap, cur, rfl, h2, h3, h4⟩
    · exact .inl h1
    · exact .inr ⟨g, cap, cur, rfl, h2, (hf.block g (Array.getElem?_eq_some_iff.1 h3).1 (hne g (Array.getElem?_eq_some_iff.1 h3).1 (hv g rfl))).trans h3, h4⟩
  have hl : LogIn w' B lp p bD bN pv' sv rv l d' n nD' nN' := { disk := hd, blk := hblk, base := h.base, segs := hrow _ _ _ _ _ (fun g hg => .inr (.inl hg)) h.segs, recs := hrow _ _ _ _ _ (fun g hg => .inr (.inr hg)) h.recs, segsN := h.segsN, recsN := h.recsN, fillN := h.fillN, nextN := h.nextN, durN := h.durN }
  refine ⟨hl, hf.os, hf.tape, hf.output, hf.size, fun k hk hn => hf.block k hk (fun ho => hn ?_), fun k hk ho => ?_⟩
  · rw [h.own]
    have := (h.disk.ownD k).1 ho
    simp at this
    rcases this with e | e | e | e <;> simp [e]
  · rw [h.own]
    rcases (hl.own k).1 ho with e | e | e | e | e | e | e
    · exact .inl e
    · exact .inr (.inl e)
    · exact .inr (.inr (.inl e))
    · exact .inr (.inr (.inr (.inl e)))
    · have := (h.disk.ownD k).1 (hf.stay k hk ((hd.ownD k).2 (by simp [e])))
      simp at this
      rcases this with e | e | e | e <;> simp [e]
    · exact .inr (.inr (.inr (.inr (.inr (.inl e)))))
    · exact .inr (.inr (.inr (.inr (.inr (.inr e)))))
set_option maxRecDepth 100000 in
set_option maxHeartbeats 2000000 in
theorem open1_any (B lp p bD bN n nD nN bd bu : Nat) (pv sv rv : Value) (l : ALog) (d : ADisk) (w : World) (h : LogIn w B lp p bD bN pv sv rv l d n nD nN) (hd : w.heap[bd]? = some (.cells #[dskV p] 158)) (hu : w.heap[bu]? = some (.cells #[.slice none 0 0] 25)) :
    Calls Tryz.prog 171 #[.pointer (some ⟨bd, 0, none⟩), .pointer (some ⟨bu, 0, none⟩)] w (PutL B lp p bD bN n [] (l, d.removeAll []) w) := by
  have c0 := blk_cell hd 0
  have c1 := blk_cell hu 0
  simp at c0 c1
  have HI : Hid (LogIn w B lp p bD bN pv sv rv l d n nD nN) := h
  clear h hd hu
  go_enter Tryz.func171, Tryz.ntmps171
  go_wp2_with fail
  refine (removeAll_nil B p bD bN n nD nN pv d w HI.out.disk).mono ?_
  rintro e w1 ⟨rfl, ⟨pv1, nD1, nN1, hd1⟩, hf1⟩
  obtain ⟨hl1, ho1⟩ := HI.out.dturned hd1 hf1
  have H1 : Hid (LogIn w1 B lp p bD bN pv1 sv rv l (d.removeAll []).1 n nD1 nN1 ∧ OFr lp p w w1) := ⟨hl1, ho1⟩
  clear hl1 ho1 hd1 hf1
  go_wp2
  go_ret
  exact ⟨rfl, ⟨pv1, sv, rv, nD1, nN1, H1.out.1⟩, H1.out.2.x⟩
/-- the two steps of Open -/
def ALog.opens (l : ALog) (d : ADisk) : ALog × ADisk × Nat :=
  if (l.sync d).2.2 = 0 then ((l.sync d).1, (l.sync d).2.1.removeAll []) else l.sync d
set_option maxRecDepth 100000 in
set_option maxHeartbeats 2000000 in
theorem inTurnO (B lp p bD bN n nD nN gst bd bu : Nat) (pv sv rv : Value) (l : ALog) (d : ADisk) (w : World) (h : LogIn w B lp p bD bN pv sv rv l d n nD nN) (hn : n ≤ 67108864)
    (hst : w.heap[gst]? = some (.cells #[.func (.func 123) #[.pointer (some ⟨lp, 0, none⟩)] #[], .func (.func 171) #[] #[.pointer (some ⟨bd, 0, none⟩), .pointer (some ⟨bu, 0, none⟩)]] 109)) (hd : w.heap[bd]? = some (.cells #[dskV p] 158)) (hu : w.heap[bu]? = some (.cells #[.slice none 0 0] 25)) :
    Calls Tryz.prog 170 #[.slice (some ⟨gst, 0, none⟩) 2 2] w (PutL B lp p bD bN n [] (l.opens d) w) := by
  have z0 := blk_cell hst 0
  simp at z0
  have HI : Hid (LogIn w B lp p bD bN pv sv rv l d n nD nN) := h
  have n1 := h.free hst (by decide) (by decide) (by decide) (by decide) (by decide)
  have n2 := h.free hd (by decide) (by decide) (by decide) (by decide) (by decide)
  have n3 := h.free hu (by decide) (by decide) (by decide) (by decide) (by decide)
  clear h
  go_enter Tryz.func170, Tryz.ntmps170
  go_wp2
  refine wp_loop_rounds 3 ?_
  rw [rounds_succ]
  go_wp2_with fail
  refine (lsync_any B lp p bD bN n nD nN pv sv rv l d w HI.out hn).mono ?_
  rintro e w1 ⟨rfl, ⟨pv1, sv1, rv1, nD1, nN1, hl1⟩, ho1⟩
  have hst1 := (ho1.block gst (Array.getElem?_eq_some_iff.1 hst).1 n1).trans hst
  have hd1 := (ho1.block bd (Array.getElem?_eq_some_iff.1 hd).1 n2).trans hd
  have hu1 := (ho1.block bu (Array.getElem?_eq_some_iff.1 hu).1 n3).trans hu
  have z1 := blk_cell hst1 1
  simp at z1
  have H1 : Hid (LogIn w1 B lp p bD bN pv1 sv1 rv1 (l.sync d).1 (l.sync d).2.1 n nD1 nN1 ∧ OFr lp p w w1) := ⟨hl1, ho1⟩
  have HB : Hid (w1.heap[bd]? = some (.cells #[dskV p] 158) ∧ w1.heap[bu]? = some (.cells #[.slice none 0 0] 25)) := ⟨hd1, hu1⟩
  clear hl1 ho1 hst1 hd1 hu1 hd hu hst z0
  by_cases hc : (l.sync d).2.2 = 0
  · have eo : l.opens d = ((l.sync d).1, (l.sync d).2.1.removeAll []) := by unfold ALog.opens; rw [if_pos hc]
    rw [hc, errN_ok]
    go_wp2
    rw [rounds_succ]
    go_wp2_with fail
    refine (open1_any B lp p bD bN n nD1 nN1 bd bu pv1 sv1 rv1 (l.sync d).1 (l.sync d).2.1 w1 H1.out.1 HB.out.1 HB.out.2).mono ?_
    rintro e w2 ⟨rfl, hl2, ho2⟩
    have H2 : Hid (PutL B lp p bD bN n [] ((l.sync d).1, (l.sync d).2.1.removeAll []) w (.returned (errN ((l.sync d).2.1.removeAll []).2)) w2) := ⟨rfl, hl2, H1.out.2.x.trans ho2⟩
    clear hl2 ho2
    by_cases hc2 : ((l.sync d).2.1.removeAll []).2 = 0
    · rw [hc2, errN_ok] at H2 ⊢
      go_wp2
      rw [rounds_succ]
      go_wp2
      go_ret
      rw [eo]; exact H2.out
    · rw [errN_no hc2] at H2 ⊢
      go_wp2
      go_ret
      rw [eo]; exact H2.out
  · have eo : l.opens d = l.sync d := by unfold ALog.opens; rw [if_neg hc]
    have H2 : Hid (PutL B lp p bD bN n [] (l.sync d) w (.returned (errN (l.sync d).2.2)) w1) := ⟨rfl, ⟨pv1, sv1, rv1, nD1, nN1, H1.out.1⟩, H1.out.2.x⟩
    rw [errN_no hc] at H2 ⊢
    go_wp2
    go_ret
    rw [eo]; exact H2.out
end Go.Proofs.YtejiankgafjppaaGreatDoor
/- (*Log).segmentsBelow. -/
namespace Go.Proofs.YtejiankgafjppaaGreatDoor
open Go.RowKit
open Sc

/-- how many segments lie below low whole, from k on -/
def belowFrom (segs : List Nat) (low : Nat) : Nat → Nat → Nat
  | 0, k => k
  | f + 1, k => match segs[k + 1]? with
    | none => k
    | some s => if s ≤ low then belowFrom segs low f (k + 1) else k
def segsBelow (segs : List Nat) (low : Nat) : Nat := belowFrom segs low segs.length 0
end Go.Proofs.YtejiankgafjppaaGreatDoor
/- (*Log).Cut's steps. -/
namespace Go.Proofs.YtejiankgafjppaaGreatDoor
open Go.RowKit
open Sc

theorem own_pos {w : World} {B n : Nat} {e : TypeId} {k : Nat} {v : Value} {xs : List Value} (h : w.ownsRow B e k v n xs) (hn : 0 < n) : ∃ g cap, v = .slice (some ⟨g, 0, none⟩) n cap := by
  rcases h.2 with ⟨_, h3⟩ | ⟨g, cap, cur, rfl, _⟩
  · omega
  · exact ⟨g, cap, rfl⟩
end Go.Proofs.YtejiankgafjppaaGreatDoor
/- The steps of Cut, one behind the other. -/
namespace Go.Proofs.YtejiankgafjppaaGreatDoor
open Go.RowKit
open Sc

def ALog.cutS (l : ALog) (d : ADisk) (gone first : Nat) : ALog × ADisk × Nat :=
  if (l.sync d).2.2 = 0 then
    if ((l.sync d).2.1.setMark first).2 = 0 then
      ((l.sync d).1, ((l.sync d).2.1.setMark first).1.removeAll ((l.segs.take gone).map segName))
    else ((l.sync d).1, (l.sync d).2.1.setMark first)
  else l.sync d
theorem LogIn.mores {w : World} {B lp p bD bN n nD nN : Nat} {pv sv rv : Value} {l : ALog} {d : ADisk} (h : LogIn w B lp p bD bN pv sv rv l d n nD nN) {m : Nat} (hm : n ≤ m) (hm2 : m ≤ 67108864) : LogIn w B lp p bD bN pv sv rv l d m nD nN where
  disk := h.disk.mores hm hm2
  blk := h.blk
  base := h.base
  segs := h.segs
  recs := h.recs
  segsN := ⟨Nat.le_trans h.segsN.1 hm, h.segsN.2⟩
  recsN := Nat.le_trans h.recsN hm
  fillN := h.fillN
  nextN := by have := h.nextN; omega
  durN := h.durN
end Go.Proofs.YtejiankgafjppaaGreatDoor
/- strings.Clone. -/
namespace Go.Proofs.YtejiankgafjppaaGreatDoor
open Go.RowKit
open Sc

theorem cloneS (s : ByteArray) (w : World) (hs : s.size ≤ 281474976710656) :
    Calls Tryz.prog 122 #[.string s] w fun e w' => e = .returned (.string s) ∧ Below w.heap.size w w' := by
  go_enter Tryz.func122, Tryz.ntmps122
  go_wp2_with fail
  refine (Tryz.stringslite_Clone s w hs).mono ?_
  rintro e w1 ⟨rfl, hb⟩
  go_wp2
  go_ret
  exact ⟨rfl, hb⟩
end Go.Proofs.YtejiankgafjppaaGreatDoor
