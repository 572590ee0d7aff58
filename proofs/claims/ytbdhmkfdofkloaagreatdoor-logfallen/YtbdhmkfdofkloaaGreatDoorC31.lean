import Derived.Test.YtbdhmkfdofkloaaGreatDoorC30
import Derived.Test.YtbdhmkfdofkloaaGreatDoorC28
import Derived.Test.YtbdhmkfdofkloaaGreatDoorC07
/- LOGS OF MANY SEGMENTS: the steps by which a log is opened. -/
namespace Go.Proofs.YtbdhmkfdofkloaaGreatDoor
open Go.RowKit Go.Maps
open Sc

theorem LogIn.rowO {w w' : World} {B lp p bD bN n nD nN base m : Nat} {pv sv rv v : Value} {l : ALog} {d : ADisk} {xs : List Value} (h : LogIn w B lp p bD bN pv sv rv l d n nD nN) (hf : OFr lp p w w') (hr : w.ownsRow base 9 1 v m xs) : w'.ownsRow base 9 1 v m xs := by
  refine ⟨hr.1, ?_⟩
  rcases hr.2 with h3 | ⟨g, cap, cur, rfl, b1, b2, b3⟩
  · exact .inl h3
  · exact .inr ⟨g, cap, cur, rfl, b1, (hf.block g (Array.getElem?_eq_some_iff.1 b2).1 (h.free b2 (by decide) (by decide) (by decide) (by decide) (by decide))).trans b2, b3⟩
theorem removeAll_row (B p bD bN n nD nN base : Nat) (pv v : Value) (d : ADisk) (ns : List ByteArray) (w : World) (h : DiskIn w B p bD bN pv d n nD nN) (hn : n + ns.length ≤ 1000000000) (hr : w.ownsRow base 9 1 v ns.length (namesV ns)) (hz : ∀ x ∈ ns, x.size ≤ maxLen) :
    Calls Tryz.prog 63 #[dskV p, v] w (DskPost B p bD bN (n + ns.length) (d.removeAll ns) w) := by
  rcases hr.2 with ⟨rfl, h0⟩ | ⟨g, cap, cur, rfl, _⟩
  · obtain rfl : ns = [] := List.length_eq_zero_iff.1 (by omega)
    exact removeAll_nil B p bD bN n nD nN pv d w h
  · exact removeAll_some B p bD bN n nD nN g ns.length cap base pv d ns w h rfl hn hr hz
set_option maxRecDepth 100000 in
set_option maxHeartbeats 2000000 in
theorem open1U (B lp p bD bN n nD nN bd bu base : Nat) (pv sv rv uv : Value) (ns : List ByteArray) (l : ALog) (d : ADisk) (w : World) (h : LogIn w B lp p bD bN pv sv rv l d n nD nN) (hd : w.heap[bd]? = some (.cells #[dskV p] 89)) (hu : w.heap[bu]? = some (.cells #[uv] 25)) (hr : w.ownsRow base 9 1 uv ns.length (namesV ns)) (hz : ∀ x ∈ ns, x.size ≤ maxLen) (hn : n + ns.length ≤ 1000000000) :
    Calls Tryz.prog 62 #[.pointer (some ⟨bd, 0, none⟩), .pointer (some ⟨bu, 0, none⟩)] w (PutL B lp p bD bN (n + ns.length) [] (l, d.removeAll ns) w) := by
  have c0 := blk_cell hd 0
  have c1 := blk_cell hu 0
  simp at c0 c1
  have HI : Hid (LogIn w B lp p bD bN pv sv rv l d n nD nN) := h
  have hra := removeAll_row B p bD bN n nD nN base pv uv d ns w h.disk hn hr hz
  clear h hd hu hr hz
  go_enter Tryz.func62, Tryz.ntmps62
  go_wp2_with fail
  refine hra.mono ?_
  clear hra
  rintro e w1 ⟨rfl, ⟨pv1, nD1, nN1, hd1⟩, hf1⟩
  obtain ⟨hl1, ho1⟩ := (HI.out.mores (by omega : n ≤ n + ns.length) hn).dturned hd1 hf1
  have H1 : Hid (LogIn w1 B lp p bD bN pv1 sv rv l (d.removeAll ns).1 (n + ns.length) nD1 nN1 ∧ OFr lp p w w1) := ⟨hl1, ho1⟩
  clear hl1 ho1 hd1 hf1
  go_wp2
  go_ret
  exact ⟨rfl, ⟨pv1, sv, rv, nD1, nN1, H1.out.1⟩, H1.out.2.x⟩
/-- the two steps of Open -/
def ALog.opensU (l : ALog) (d : ADisk) (ns : List ByteArray) : ALog × ADisk × Nat :=
  if (l.sync d).2.2 = 0 then ((l.sync d).1, (l.sync d).2.1.removeAll ns) else l.sync d
set_option maxRecDepth 100000 in
set_option maxHeartbeats 2000000 in
theorem inTurnU (B lp p bD bN n nD nN gst bd bu base : Nat) (pv sv rv uv : Value) (ns : List ByteArray) (l : ALog) (d : ADisk) (w : World) (h : LogIn w B lp p bD bN pv sv rv l d n nD nN) (hn : n + ns.length ≤ 1000000000) (hr : w.ownsRow base 9 1 uv ns.length (namesV ns)) (hz : ∀ x ∈ ns, x.size ≤ maxLen)
    (hst : w.heap[gst]? = some (.cells #[.func (.func 52) #[.pointer (some ⟨lp, 0, none⟩)] #[], .func (.func 62) #[] #[.pointer (some ⟨bd, 0, none⟩), .pointer (some ⟨bu, 0, none⟩)]] 78)) (hd : w.heap[bd]? = some (.cells #[dskV p] 89)) (hu : w.heap[bu]? = some (.cells #[uv] 25)) :
    Calls Tryz.prog 61 #[.slice (some ⟨gst, 0, none⟩) 2 2] w (PutL B lp p bD bN (n + ns.length) [] (l.opensU d ns) w) := by
  have z0 := blk_cell hst 0
  simp at z0
  have HI : Hid (LogIn w B lp p bD bN pv sv rv l d n nD nN) := h
  have n1 := h.free hst (by decide) (by decide) (by decide) (by decide) (by decide)
  have n2 := h.free hd (by decide) (by decide) (by decide) (by decide) (by decide)
  have n3 := h.free hu (by decide) (by decide) (by decide) (by decide) (by decide)
  clear h
  go_enter Tryz.func61, Tryz.ntmps61
  go_wp2
  refine wp_loop_rounds 3 ?_
  rw [rounds_succ]
  go_wp2_with fail
  refine (lsync_any B lp p bD bN n nD nN pv sv rv l d w HI.out (by omega)).mono ?_
  rintro e w1 ⟨rfl, ⟨pv1, sv1, rv1, nD1, nN1, hl1⟩, ho1⟩
  have hr1 : w1.ownsRow base 9 1 uv ns.length (namesV ns) := HI.out.rowO ho1 hr
  have hst1 := (ho1.block gst (Array.getElem?_eq_some_iff.1 hst).1 n1).trans hst
  have hd1 := (ho1.block bd (Array.getElem?_eq_some_iff.1 hd).1 n2).trans hd
  have hu1 := (ho1.block bu (Array.getElem?_eq_some_iff.1 hu).1 n3).trans hu
  have z1 := blk_cell hst1 1
  simp at z1
  have H1 : Hid (LogIn w1 B lp p bD bN pv1 sv1 rv1 (l.sync d).1 (l.sync d).2.1 n nD1 nN1 ∧ OFr lp p w w1) := ⟨hl1, ho1⟩
  have HB : Hid (w1.heap[bd]? = some (.cells #[dskV p] 89) ∧ w1.heap[bu]? = some (.cells #[uv] 25) ∧ w1.ownsRow base 9 1 uv ns.length (namesV ns)) := ⟨hd1, hu1, hr1⟩
  clear hl1 ho1 hst1 hd1 hu1 hd hu hst z0 hr hr1
  by_cases hc : (l.sync d).2.2 = 0
  · have eo : l.opensU d ns = ((l.sync d).1, (l.sync d).2.1.removeAll ns) := by unfold ALog.opensU; rw [if_pos hc]
    rw [hc, errN_ok]
    go_wp2
    rw [rounds_succ]
    go_wp2_with fail
    refine (open1U B lp p bD bN n nD1 nN1 bd bu base pv1 sv1 rv1 uv ns (l.sync d).1 (l.sync d).2.1 w1 H1.out.1 HB.out.1 HB.out.2.1 HB.out.2.2 hz hn).mono ?_
    rintro e w2 ⟨rfl, hl2, ho2⟩
    have H2 : Hid (PutL B lp p bD bN (n + ns.length) [] ((l.sync d).1, (l.sync d).2.1.removeAll ns) w (.returned (errN ((l.sync d).2.1.removeAll ns).2)) w2) := ⟨rfl, hl2, H1.out.2.x.trans ho2⟩
    clear hl2 ho2
    by_cases hc2 : ((l.sync d).2.1.removeAll ns).2 = 0
    · rw [hc2, errN_ok] at H2 ⊢
      go_wp2
      rw [rounds_succ]
      go_wp2
      go_ret
      rw [eo]; exact H2.out
    · rw [errN_no hc2] at H2 ⊢
      go_wp2
      go_ret
      rw [eo]; exact H2.out
  · have eo : l.opensU d ns = l.sync d := by unfold ALog.opensU; rw [if_neg hc]
    have H2 : Hid (PutL B lp p bD bN (n + ns.length) [] (l.sync d) w (.returned (errN (l.sync d).2.2)) w1) := ⟨rfl, ⟨pv1, sv1, rv1, nD1, nN1, H1.out.1.mores (by omega) hn⟩, H1.out.2.x⟩
    rw [errN_no hc] at H2 ⊢
    go_wp2
    go_ret
    rw [eo]; exact H2.out
end Go.Proofs.YtbdhmkfdofkloaaGreatDoor
/- LOGS OF MANY SEGMENTS: read where there is no file. -/
namespace Go.Proofs.YtbdhmkfdofkloaaGreatDoor
open Go.RowKit Go.Maps
open Sc

set_option maxRecDepth 100000 in
set_option maxHeartbeats 2000000 in
theorem among_0 (a : Option Addr) (c : Nat) (w : World) : Calls Tryz.prog 87 #[.slice a 0 c] w fun e w' => e = .returned (.slice none 0 0) ∧ w' = w := by
  go_enter Tryz.func87, Tryz.ntmps87
  go_wp2
  refine wp_loop_rounds 1 ?_
  rw [rounds_succ]
  go_wp2_with fail
  refine (sortU_nil w).mono ?_
  rintro e w1 ⟨rfl, rfl⟩
  go_wp2
  go_ret
  exact ⟨rfl, rfl⟩
set_option maxRecDepth 100000 in
set_option maxHeartbeats 2000000 in
theorem read_none (B lp p bD bN n nD nN : Nat) (pv : Value) (d : ADisk) (w : World) (h : LogIn w B lp p bD bN pv (.slice none 0 0) (.slice none 0 0) (log0 0) d n nD nN) (hdn : d.down = false) (hno : ∀ k, d.now k = none) :
    Calls Tryz.prog 60 #[.pointer (some ⟨lp, 0, none⟩)] w (ReadAll B lp p bD bN n nD nN 1 [] pv d w) := by
  have c0 := blk_cell h.blk 0
  simp at c0
  have HI : Hid (LogIn w B lp p bD bN pv (.slice none 0 0) (.slice none 0 0) (log0 0) d n nD nN) := h
  clear h
  have hm := Tryz.mNames
  go_enter Tryz.func60, Tryz.ntmps60
  go_wp2_with fail
  refine (names_any B p bD bN n nD nN pv d w HI.out.disk hdn).mono ?_
  rintro e w1 ⟨v1, ns, rfl, hns, hrow1, hb1⟩
  obtain rfl : ns = [] := by
    cases ns with
    | nil => rfl
    | cons x l => exact absurd (hno x) ((hns.2 x).1 (by simp))
  obtain ⟨va, vc, rfl⟩ : ∃ a c, v1 = .slice a 0 c := by
    rcases hrow1.2 with ⟨e, _⟩ | ⟨g, cap, cur, e, _⟩
    · exact ⟨_, _, e⟩
    · exact ⟨_, _, e⟩
  clear hns hrow1
  have hf1 : Fr [] w w1 := Fr.of_below hb1 _
  have hl1 := HI.out.new hf1
  have ho1 : Fr [lp] w w1 := hf1.mono (by simp)
  have k0 := blk_cell hl1.blk 0
  simp at k0
  have H1 : Hid (LogIn w1 B lp p bD bN pv (.slice none 0 0) (.slice none 0 0) (log0 0) d n nD nN ∧ Fr [lp] w w1) := ⟨hl1, ho1⟩
  clear hl1 ho1 hf1 hb1 c0
  go_wp2_with fail
  refine (readMark_none B p bD bN n nD nN pv d w1 H1.out.1.disk hdn (hno _)).mono ?_
  rintro e w2 ⟨rfl, hb2⟩
  have hf2 : Fr [] w1 w2 := Fr.of_below hb2 _
  have hl2 := H1.out.1.new hf2
  have ho2 : Fr [lp] w w2 := H1.out.2.trans (hf2.mono (by simp))
  have m4 := blk_cell hl2.blk 4
  have f4 := blk_free hl2.blk 4
  simp at m4
  have H2 : Hid (LogIn w2 B lp p bD bN pv (.slice none 0 0) (.slice none 0 0) (log0 0) d n nD nN ∧ Fr [lp] w w2) := ⟨hl2, ho2⟩
  clear hl2 ho2 hf2 hb2 k0
  obtain ⟨W, hW⟩ : ∃ W, W = w2.setCell ⟨lp, 4, none⟩ (.int .u64 1) := ⟨_, rfl⟩
  have hf3 : Fr [lp] w2 W := by rw [hW]; exact Fr.set1 (by simp) _ _
  have hb3 : W.heap[lp]? = some (logO p (.slice none 0 0) (.slice none 0 0) (log0 1)) := by rw [hW]; have := blk_set H2.out.1.blk 4 (.int .u64 1); simp [log0] at this ⊢; exact this
  have hn := H2.out.1.disk.hn
  have hl3 : LogIn W B lp p bD bN pv (.slice none 0 0) (.slice none 0 0) (log0 1) d n nD nN := H2.out.1.own1 hf3 hb3 H2.out.1.segsN H2.out.1.recsN H2.out.1.fillN (by show 1 ≤ n + 1; omega) H2.out.1.durN rfl rfl
  have ho3 : Fr [lp] w W := H2.out.2.trans hf3
  have m4' := blk_cell hl3.blk 4
  simp [log0] at m4'
  have H3 : Hid (LogIn W B lp p bD bN pv (.slice none 0 0) (.slice none 0 0) (log0 1) d n nD nN ∧ Fr [lp] w W) := ⟨hl3, ho3⟩
  clear hl3 ho3 hf3 hb3
  subst hW
  go_wp2_with fail
  refine (among_0 va vc _).mono ?_
  rintro e w4 ⟨rfl, rfl⟩
  go_wp2_with fail
  refine (search_nil 1 _).mono ?_
  rintro e w4 ⟨rfl, rfl⟩
  go_wp2_with fail
  refine (namesOf_nil _).mono ?_
  rintro e w4 ⟨rfl, rfl⟩
  go_wp2
  refine wp_loop_rounds 1 ?_
  rw [rounds_succ]
  go_wp2
  go_ret2
  exact ⟨_, [], rfl, World.ownsRow_nil _ _ _ _, ⟨List.nodup_nil, fun u => by simp [hno]⟩, H3.out.2, _, _, H3.out.1, (fun k hk => by cases hk), (fun k hk => by cases hk)⟩
theorem Stands.no_files {F : Files} {mk : Nat} {ss : List Sg} (h : Stands F mk ss) (hno : ∀ k, F k = none) : mk = 1 ∧ ss = [] := by
  constructor
  · rcases h.mark with h | h
    · exact h.1
    · rw [hno] at h; cases h
  · cases ss with
    | nil => rfl
    | cons s l => have := h.files 0 s rfl; rw [hno] at this; cases this
/-- there is a segment from the mark on, or no file at all -/
def Begun (F : Files) (mk : Nat) (ss : List Sg) : Prop := tailL F mk ss ≠ [] ∨ ∀ k, F k = none
theorem read_any' (B lp p bD bN n nD nN mk : Nat) (ss : List Sg) (pv : Value) (d : ADisk) (w : World) (h : LogIn w B lp p bD bN pv (.slice none 0 0) (.slice none 0 0) (log0 0) d n nD nN) (hB : 3 ≤ B) (hdn : d.down = false) (hst : Stands d.now mk ss) (hne : Begun d.now mk ss) (hpow : Pows w) (herr : ErrS w) (hlen : nextOf mk ss ≤ n) (hsn : ss.length + 1 ≤ n) (hn4 : n + 8 ≤ 1000000000) :
    Calls Tryz.prog 60 #[.pointer (some ⟨lp, 0, none⟩)] w (ReadAll B lp p bD bN n nD nN mk ss pv d w) := by
  rcases hne with hne | hne
  · exact read_all B lp p bD bN n nD nN mk ss pv d w h hB hdn hst hne hpow herr hlen hsn hn4
  · obtain ⟨rfl, rfl⟩ := hst.no_files hne
    exact read_none B lp p bD bN n nD nN pv d w h hdn hne
end Go.Proofs.YtbdhmkfdofkloaaGreatDoor
/- LOGS OF MANY SEGMENTS: journal.Open, whatever its disk says. -/
namespace Go.Proofs.YtbdhmkfdofkloaaGreatDoor
open Go.RowKit Go.Maps
open Sc

/-- what stands behind an opening that went well: what is the log's is the disk's or new -/
def OpenPostN (B p bD bN n : Nat) (r : ALog × ADisk × Nat) (w : World) (e : Ending) (w' : World) : Prop :=
  ∃ lp, e = .returned (.tuple #[.pointer (some ⟨lp, 0, none⟩), .nilIface]) ∧ w.heap.size ≤ lp ∧ (∃ pv sv rv nD nN, LogIn w' B lp p bD bN pv sv rv r.1 r.2.1 n nD nN) ∧ DFr p w w' ∧ ∀ k, k < w.heap.size → Own lp p w' k → OwnD p w k
/-- what stands behind an opening -/
def OpenAll (B p bD bN n : Nat) (r : ALog × ADisk × Nat) (w : World) (e : Ending) (w' : World) : Prop :=
  (r.2.2 = 0 ∧ OpenPostN B p bD bN n r w e w') ∨ (r.2.2 ≠ 0 ∧ e = .returned (.tuple #[.pointer none, errN r.2.2]) ∧ (∃ pv nD nN, DiskIn w' B p bD bN pv r.2.1 n nD nN) ∧ DFr p w w')
set_option maxRecDepth 100000 in
set_option maxHeartbeats 4000000 in
theorem jopen_all (B p bD bN n nD nN mk : Nat) (ss : List Sg) (pv : Value) (d : ADisk) (w : World) (h : DiskIn w B p bD bN pv d n nD nN) (hB : 3 ≤ B) (hdn : d.down = false) (hst : Stands d.now mk ss) (hne : Begun d.now mk ss) (hpow : Pows w) (herr : ErrS w) (hlen : nextOf mk ss ≤ n) (hsn : ss.length + 1 ≤ n) (hn4 : n + 8 ≤ 1000000000) (hus : ∀ us, Useless d.now mk ss us → n + us.length ≤ 1000000000) :
    Calls Tryz.prog 38 #[dskV p] w fun e w' => ∃ us, Useless d.now mk ss us ∧ OpenAll B p bD bN (n + us.length) ((readL mk ss).opensU d (us.map segName)) w e w' := by
  have hn := h.hn
  have hb0 := h.base
  obtain ⟨W, hW⟩ : ∃ W, W = (w.alloc (.cells #[dskV p] 89)).alloc (logO p (.slice none 0 0) (.slice none 0 0) (log0 0)) := ⟨_, rfl⟩
  have hf0 : Fr [] w W := by rw [hW]; exact ((Fr.refl [] w).alloc _).alloc _
  have hdb : W.heap[w.heap.size]? = some (.cells #[dskV p] 89) := by rw [hW, Below.heap_alloc _ _ w.heap.size (by simp)]; exact heap_alloc_new w _
  have hlb : W.heap[w.heap.size + 1]? = some (logO p (.slice none 0 0) (.slice none 0 0) (log0 0)) := by rw [hW]; have := heap_alloc_new (w.alloc (.cells #[dskV p] 89)) (logO p (.slice none 0 0) (.slice none 0 0) (log0 0)); rw [World.size_alloc] at this; exact this
  have hl0 : LogIn W B (w.heap.size + 1) p bD bN pv (.slice none 0 0) (.slice none 0 0) (log0 0) d n nD nN := { disk := h.new hf0, blk := hlb, base := by omega, segs := World.ownsRow_nil _ _ _ _, recs := World.ownsRow_nil _ _ _ _, segsN := ⟨by simp [log0], by simp [log0]⟩, recsN := by simp [log0], fillN := by simp [log0], nextN := by simp [log0], durN := by simp [log0] }
  have HW : Hid (DiskIn w B p bD bN pv d n nD nN ∧ Fr [] w W) := ⟨h, hf0⟩
  have H0 : Hid (LogIn W B (w.heap.size + 1) p bD bN pv (.slice none 0 0) (.slice none 0 0) (log0 0) d n nD nN) := hl0
  have HDB : Hid (W.heap[w.heap.size]? = some (.cells #[dskV p] 89)) := hdb
  have HX : Hid ((Stands d.now mk ss ∧ Begun d.now mk ss) ∧ Pows W ∧ ErrS W) := ⟨⟨hst, hne⟩, hpow.of_block (hf0.block 1 (by omega) (by simp)), by obtain ⟨ev, e1, e2⟩ := herr; exact ⟨ev, (World.cell?_of_block (a := ⟨2, 0, none⟩) (hf0.block 2 (by omega) (by simp))).trans e1, e2⟩⟩
  have hnil := Tryz.eqNil p
  clear h hf0 hdb hlb hl0 hst hne hpow herr
  go_enter Tryz.func38, Tryz.ntmps38
  go_wp2_with fail
  have hW2 : W = (w.alloc (.cells #[dskV p] 89)).alloc (.cells #[dskV p, .slice none 0 0, .int .i64 600, .slice none 0 0, .int .u64 0, .int .u64 0, .nilIface] 100) := hW
  rw [← hW2]
  clear hW hW2
  refine (read_any' B (w.heap.size + 1) p bD bN n nD nN mk ss pv d W H0.out hB hdn HX.out.1.1 HX.out.1.2 HX.out.2.1 HX.out.2.2 hlen hsn hn4).mono ?_
  rintro e w1 ⟨uv, us, rfl, hru, husl, hrd⟩
  obtain ⟨sv, rv, hl1, hnw1, hnw2⟩ := hrd.log
  have ho1 : OFr (w.heap.size + 1) p W w1 := H0.out.ofr hl1 hrd.fr (fun k hk _ => by simp at hk; simp [hk]) (.inl rfl) (Near.refl _ _) (fun k hk => .inr (hnw1 k hk)) (fun k hk => .inr (hnw2 k hk))
  obtain ⟨ua, um, uc, rfl⟩ := own_sl hru
  have husn := hus us husl
  have hdb1 := (ho1.block w.heap.size (Array.getElem?_eq_some_iff.1 HDB.out).1 (H0.out.free HDB.out (by decide) (by decide) (by decide) (by decide) (by decide))).trans HDB.out
  obtain ⟨W2, hW2⟩ : ∃ W2, W2 = (w1.alloc (.cells #[.slice ua um uc] 25)).alloc (.cells #[.func (.func 52) #[.pointer (some ⟨w.heap.size + 1, 0, none⟩)] #[], .func (.func 62) #[] #[.pointer (some ⟨w.heap.size, 0, none⟩), .pointer (some ⟨w1.heap.size, 0, none⟩)]] 78) := ⟨_, rfl⟩
  have hf2 : Fr [] w1 W2 := by rw [hW2]; exact ((Fr.refl [] w1).alloc _).alloc _
  have hu2 : W2.heap[w1.heap.size]? = some (.cells #[.slice ua um uc] 25) := by rw [hW2, Below.heap_alloc _ _ w1.heap.size (by simp)]; exact heap_alloc_new w1 _
  have hst2 : W2.heap[w1.heap.size + 1]? = some (.cells #[.func (.func 52) #[.pointer (some ⟨w.heap.size + 1, 0, none⟩)] #[], .func (.func 62) #[] #[.pointer (some ⟨w.heap.size, 0, none⟩), .pointer (some ⟨w1.heap.size, 0, none⟩)]] 78) := by
    rw [hW2]; have := heap_alloc_new (w1.alloc (.cells #[.slice ua um uc] 25)) (.cells #[.func (.func 52) #[.pointer (some ⟨w.heap.size + 1, 0, none⟩)] #[], .func (.func 62) #[] #[.pointer (some ⟨w.heap.size, 0, none⟩), .pointer (some ⟨w1.heap.size, 0, none⟩)]] 78); rw [World.size_alloc] at this; exact this
  have hdb2 : W2.heap[w.heap.size]? = some (.cells #[dskV p] 89) := (hf2.block w.heap.size (Array.getElem?_eq_some_iff.1 hdb1).1 (by simp)).trans hdb1
  have hz : ∀ x ∈ us.map segName, x.size ≤ maxLen := fun x hx => by
    obtain ⟨u, hu, rfl⟩ := List.mem_map.1 hx
    have h1 := HX.out.1.1.other _ ((husl.2 u).1 hu).1
    have hu64 : u < 18446744073709551616 := by
      rcases h1 with e | e | ⟨v, e, h2, _⟩
      · exact absurd e (segName_mark u).1
      · exact absurd e (segName_mark u).2
      · rw [segName_inj e]; exact h2
    have := segName_size u hu64
    unfold maxLen; omega
  have hru2 : W2.ownsRow W.heap.size 9 1 (.slice ua um uc) (us.map segName).length (namesV (us.map segName)) := by rw [List.length_map]; exact ownsRow_fr hru hf2 (by simp)
  have HC : Hid (Calls Tryz.prog 61 #[.slice (some ⟨w1.heap.size + 1, 0, none⟩) 2 2] W2 (PutL B (w.heap.size + 1) p bD bN (n + us.length) [] ((readL mk ss).opensU d (us.map segName)) W2)) := by
    have h9 := inTurnU B (w.heap.size + 1) p bD bN n nD nN (w1.heap.size + 1) w.heap.size w1.heap.size W.heap.size pv sv rv (.slice ua um uc) (us.map segName) (readL mk ss) d W2 (hl1.new hf2) (by simpa using husn) hru2 hz hst2 hdb2 hu2
    rwa [List.length_map] at h9
  have HUS : Hid (Useless d.now mk ss us) := husl
  have HO : Hid (OFr (w.heap.size + 1) p W W2) := ho1.trans (hl1.newO hf2)
  clear hl1 ho1 hdb1 hf2 hu2 hst2 hdb2 hru hru2 husl hrd hz hnw1 hnw2
  go_wp2_with fail
  rw [← hW2]
  clear hW2
  refine HC.out.mono ?_
  rintro e w3 ⟨rfl, ⟨pv3, sv3, rv3, nD3, nN3, hl3⟩, ho3⟩
  have H3 : Hid (LogIn w3 B (w.heap.size + 1) p bD bN pv3 sv3 rv3 ((readL mk ss).opensU d (us.map segName)).1 ((readL mk ss).opensU d (us.map segName)).2.1 (n + us.length) nD3 nN3) := hl3
  have HD : Hid (DFr p w w3) := DFr.ofO HW.out.1 H0.out HW.out.2 (by omega) (HO.out.trans ho3.ofr) hl3
  have HK : Hid (∀ k, k < w.heap.size → Own (w.heap.size + 1) p w3 k → OwnD p w k) := fun k hk ho => by
    have h1 := (HO.out.trans ho3.ofr).stay k (Nat.lt_of_lt_of_le hk HW.out.2.size) ho
    rcases (H0.out.own k).1 h1 with e | e | e | e | e | e | e
    · omega
    · exact (HW.out.1.ownD k).2 (by simp [e])
    · exact (HW.out.1.ownD k).2 (by simp [e])
    · exact (HW.out.1.ownD k).2 (by simp [e])
    · exact (HW.out.1.ownD k).2 (by simp [e])
    · cases e
    · cases e
  clear hl3 ho3
  obtain ⟨r, hr⟩ : ∃ r, r = (readL mk ss).opensU d (us.map segName) := ⟨_, rfl⟩
  rw [← hr] at H3 ⊢
  have HR : Hid (r = (readL mk ss).opensU d (us.map segName)) := hr
  clear hr
  by_cases hc : r.2.2 = 0
  · rw [hc, errN_ok]
    have HF : Hid (∃ us, Useless d.now mk ss us ∧ OpenAll B p bD bN (n + us.length) ((readL mk ss).opensU d (us.map segName)) w (.returned (.tuple #[.pointer (some ⟨w.heap.size + 1, 0, none⟩), .nilIface])) w3) := ⟨us, HUS.out, by rw [← HR.out]; exact .inl ⟨hc, w.heap.size + 1, rfl, by omega, ⟨pv3, sv3, rv3, nD3, nN3, H3.out⟩, HD.out, HK.out⟩⟩
    go_wp2
    go_ret2
    exact HF.out
  · have HF : Hid (∃ us, Useless d.now mk ss us ∧ OpenAll B p bD bN (n + us.length) ((readL mk ss).opensU d (us.map segName)) w (.returned (.tuple #[.pointer none, errN r.2.2])) w3) := ⟨us, HUS.out, by rw [← HR.out]; exact .inr ⟨hc, rfl, ⟨pv3, nD3, nN3, H3.out.disk⟩, HD.out⟩⟩
    rw [errN_no hc] at HF ⊢
    go_wp2
    go_ret2
    exact HF.out
end Go.Proofs.YtbdhmkfdofkloaaGreatDoor
/- THE POWER FAILS: pick; the map of what is cut off. -/
namespace Go.Proofs.YtbdhmkfdofkloaaGreatDoor
open Go.RowKit
open Go.Maps (Keyed)
open Sc

theorem ret_nat {x : Int} {r : Nat} (h : x = (r : Int)) : (Ending.returned (.int .i64 x)) = .returned (.int .i64 (r : Int)) := by rw [h]
set_option maxHeartbeats 400000 in
theorem ppick_any (c : Int) (n : Nat) (w : World) (hc1 : -9223372036854775808 ≤ c) (hc2 : c ≤ 9223372036854775807) (hn : 0 < n) (hn2 : n ≤ 4398046511103) :
    Calls Tryz.prog 53 #[.int .i64 c, .int .i64 n] w fun e w' => ∃ r : Nat, r < n ∧ e = .returned (.int .i64 r) ∧ w' = w := by
  have hn0 : ¬ (n : Int) = 0 := by omega
  by_cases h : c < 0
  · go_enter Tryz.func53, Tryz.ntmps53
    go_wp2
    go_ret
    have e : -(c + 1).tmod (n : Int) = (-(c + 1)) % (n : Int) := by
      rw [← Int.neg_tmod, Int.tmod_eq_emod_of_nonneg (by omega)]
    have h1 := Int.emod_nonneg (-(c + 1)) hn0
    have h2 := Int.emod_lt_of_pos (-(c + 1)) (show (0 : Int) < (n : Int) by omega)
    refine ⟨((-(c + 1)) % (n : Int)).toNat, by omega, ret_nat ?_, rfl⟩
    rw [e]; omega
  · go_enter Tryz.func53, Tryz.ntmps53
    go_wp2
    go_ret
    have h1 := Int.emod_nonneg c hn0
    have h2 := Int.emod_lt_of_pos c (show (0 : Int) < (n : Int) by omega)
    exact ⟨(c % (n : Int)).toNat, by omega, ret_nat (by omega), rfl⟩
/-! ### the map of what is cut off -/
def oneElem (v : Value) : Option (DataW Unit × List MemPlace) :=
  match v with
  | .int k n => some (.lit (.int k n), [])
  | _ => none
theorem oneElem_inv {v : Value} {k : IntKind} {n : Int} {ps : List MemPlace} (h : oneElem v = some (.lit (.int k n), ps)) : v = .int k n := by
  unfold oneElem at h
  split at h
  · simp at h; obtain ⟨⟨rfl, rfl⟩, _⟩ := h; rfl
  · cases h
theorem Tryz.zeroInt (w : World) : (zeroValue 3).run Tryz.prog w = .ok (.int .i64 0) w := by kernel_rfl
/-- block b holds what is cut off -/
def CutMap (w : World) (b n : Nat) (c : Cuts) : Prop :=
  ∃ D : DataW Unit, w.ownsMap Tryz.prog 9 oneElem b n D ∧ ∀ k : ByteArray,
    (c k = false → Maps.has D (keyL k) = false) ∧ (c k = true → Maps.has D (keyL k) = true ∧ ∀ z, D.atKey (keyL k) z = .lit (.int .i64 1))
theorem CutMap.lt {w : World} {b n : Nat} {c : Cuts} (h : CutMap w b n c) : b < w.heap.size := by
  obtain ⟨D, h, _⟩ := h; exact h.lt
theorem CutMap.isMap {w : World} {b n : Nat} {m : Cuts} (h : CutMap w b n m) : ∃ es c, w.heap[b]? = some (.map es c) := by
  obtain ⟨D, ⟨es, c, h, _⟩, _⟩ := h; exact ⟨es, c, h⟩
theorem CutMap.mono {w : World} {b n n' : Nat} {m : Cuts} (h : CutMap w b n m) (hn : n ≤ n') : CutMap w b n' m := by
  obtain ⟨D, h, h2⟩ := h; exact ⟨D, h.mono hn, h2⟩
theorem CutMap.blk {w w' : World} {b n : Nat} {m : Cuts} (h : CutMap w b n m) (hb : w'.heap[b]? = w.heap[b]?) : CutMap w' b n m := by
  obtain ⟨D, ⟨es, c, h1, h2, h3, h4⟩, h5⟩ := h
  exact ⟨D, ⟨es, c, hb.trans h1, h2, h3, h4⟩, h5⟩
theorem CutMap.made (w : World) : CutMap (w.alloc (.map #[] 0)) w.heap.size 0 (fun _ => false) :=
  ⟨.map [], World.ownsMap_made _ _ _ _, fun k => ⟨fun _ => rfl, fun h => by cases h⟩⟩
theorem CutMap.look {w : World} {b n : Nat} {c : Cuts} (h : CutMap w b n c) (k : ByteArray) (hk : k.size ≤ maxLen) :
    (Instr.lookup 105 (.map (some b)) (.string k) false).run Tryz.prog w = .ok (.int .i64 (if c k = true then 1 else 0)) w := by
  obtain ⟨D, h1, h5⟩ := h
  obtain ⟨v, ps, hr, hv⟩ := h1.lookup Tryz.lawS Tryz.underlying105 (Tryz.zeroInt w) (show oneElem (.int .i64 0) = some (.lit (.int .i64 0), []) from rfl) (Go.WideMaps.keyOf_string_mk Tryz.underlying9 hk)
  cases hc : c k with
  | false =>
    have h0 := (h5 k).1 hc
    have h0' : Maps.has D (.string k.data.toList) = false := h0
    rw [Maps.atKey_of_not_has h0'] at hv
    obtain rfl := oneElem_inv hv
    simpa using hr
  | true =>
    obtain ⟨_, h3⟩ := (h5 k).2 hc
    have h3' : ∀ z, D.atKey (.string k.data.toList) z = .lit (.int .i64 1) := h3
    rw [h3'] at hv
    obtain rfl := oneElem_inv hv
    simpa using hr
theorem CutMap.put {w w' : World} {b n : Nat} {m : Cuts} {D : DataW Unit} (h5 : ∀ k : ByteArray, (m k = false → Maps.has D (keyL k) = false) ∧ (m k = true → Maps.has D (keyL k) = true ∧ ∀ z, D.atKey (keyL k) z = .lit (.int .i64 1)))
    (hm : w.ownsMap Tryz.prog 9 oneElem b n D) (k : ByteArray)
    (ho : w'.ownsMap Tryz.prog 9 oneElem b (n + 1) (D.put (keyL k) (.lit (.int .i64 1)))) : CutMap w' b (n + 1) (m.set k) := by
  have hi := hm.isMap
  have hkl : WideAt.IsKeyLit (keyL k) := trivial
  refine ⟨_, ho, fun x => ?_⟩
  by_cases hx : x = k
  · subst hx
    have e : m.set x x = true := by simp [Cuts.set]
    rw [e]
    exact ⟨fun h => (by cases h), fun _ => ⟨Maps.has_put_same hi hkl _, fun z => Maps.atKey_put_same hi hkl _ z⟩⟩
  · have e : m.set k x = m x := by simp [Cuts.set, hx]
    rw [e]
    have hne : keyL x ≠ keyL k := fun e => hx (keyL_inj e)
    refine ⟨fun h => by rw [Maps.has_put_other hne]; exact (h5 x).1 h, fun h => ?_⟩
    obtain ⟨a1, a2⟩ := (h5 x).2 h
    exact ⟨by rw [Maps.has_put_other hne]; exact a1, fun z => by rw [Maps.atKey_put_other hne]; exact a2 z⟩
theorem wpList_cut_put {w : World} {ops : Array Oper} {rest : List Oper} {o : Oper} {a : Act} {Q : Exit → Act → World → Prop} (hg : o.guard = none) (m x v : Operand) (hop : o.op = Op.mapUpdate 105 m x v)
    (b n : Nat) (F : Cuts) (hm : a.eval m = .map (some b)) (hF : CutMap w b n F) (hn : n < maxLen) (k : ByteArray) (hk : k.size ≤ maxLen) (hx : a.eval x = .string k) (hv : a.eval v = .int .i64 1)
    (hK : ∀ w', CutMap w' b (n + 1) (F.set k) → w.grownBy w' (some b) → wpList Tryz.prog ops Q rest (a.put o.dst undef) w') : wpList Tryz.prog ops Q (o :: rest) a w := by
  obtain ⟨D, h1, h5⟩ := hF
  refine wpList_mapUpdate_own w hg m x v _ hop 9 3 Tryz.lawS Tryz.underlying105 oneElem b n D hm h1 hn _ _ (keyL k) hx hv (Go.WideMaps.keyOf_string_mk Tryz.underlying9 hk) _ [] rfl ?_
  intro w' ho hgr
  exact hK w' (CutMap.put h5 h1 k ho) hgr
end Go.Proofs.YtbdhmkfdofkloaaGreatDoor
