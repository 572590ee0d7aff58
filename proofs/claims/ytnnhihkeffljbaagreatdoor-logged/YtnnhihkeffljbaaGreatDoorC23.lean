import Derived.Test.YtnnhihkeffljbaaGreatDoorC21
import Derived.Test.YtnnhihkeffljbaaGreatDoorC10
import Derived.Test.YtnnhihkeffljbaaGreatDoorC22
/- HOSTS: a log's Append, Force, Cut; Next, Is. (Written by mkhost.py.) -/
namespace Go.Proofs.YtnnhihkeffljbaaGreatDoor
open Go.RowKit
open Sc

abbrev fallO (a b c d : Int) : Obj := .cells #[.int .i64 a, .int .i64 b, .int .i64 c, .int .i64 d] 28
/-- what stands behind a host's call -/
def HostPost (B hp lp p bD bN n : Nat) (v : Value) (l : ALog) (d : ADisk) (w : World) (e : Ending) (w' : World) : Prop :=
  e = .returned v ∧ HostIn w' B hp lp p bD bN l (d.knob (-1) (-1)) n ∧ OFr lp p w w'
theorem OFr.fall {w w' : World} {B lp p bD bN n nD nN q : Nat} {pv sv rv : Value} {l : ALog} {d : ADisk} {a b c k : Int} (hf : OFr lp p w w') (h : LogIn w B lp p bD bN pv sv rv l d n nD nN) (hh : w.heap[q]? = some (fallO a b c k)) : w'.heap[q]? = some (fallO a b c k) :=
  (hf.block q (Array.getElem?_eq_some_iff.1 hh).1 (h.free hh (by decide) (by decide) (by decide) (by decide) (by decide))).trans hh
/-- behind after and Told -/
theorem hostEnd {B hp lp p bD bN n : Nat} {l : ALog} {d : ADisk} {w w1 w2 w3 : World} {pv sv rv : Value} {nD nN : Nat} (h1 : LogIn w1 B lp p bD bN pv sv rv l d n nD nN) (ho1 : OFr lp p w w1) (hh1 : w1.heap[hp]? = some (hostO p true (.pointer (some ⟨lp, 0, none⟩)))) (hdn : d.down = false)
    (hf2 : Fr [p] w1 w2) (hb2 : w2.heap[p]? = some (dskO bD bN pv (-1) (-1) false)) (hf3 : Fr [] w2 w3) : HostIn w3 B hp lp p bD bN l (d.knob (-1) (-1)) n ∧ OFr lp p w w3 := by
  rw [← hdn] at hb2
  obtain ⟨h2, ho2⟩ := h1.knob (-1) (-1) hf2 hb2
  have h3 := h2.new hf3
  have ho3 := h2.newO hf3
  have ho := (ho1.trans ho2).trans ho3
  exact ⟨⟨(ho2.trans ho3).host h1 hh1, _, _, _, _, _, h3⟩, ho⟩
set_option maxRecDepth 100000 in
set_option maxHeartbeats 4000000 in
theorem hAppend (B hp lp p bD bN n : Nat) (kind : Nat) (s : ByteArray) (l : ALog) (d : ADisk) (a b c k : Int) (w : World) (h : HostIn w B hp lp p bD bN l d n) (hB : 2 ≤ B) (hmet : Met w) (hk : kind < 256) (hn : n + 3 < 67108864) (hsg : l.filled < 600 → l.segs ≠ []) (hpow : Pows w)
    (hdn : (l.append (d.knob a b) kind s).2.1.down = false) :
    Calls Tryz.prog 49 #[.pointer (some ⟨hp, 0, none⟩), .int .u8 (kind : Int), .string s, fallV a b c k] w
      (HostPost B hp lp p bD bN (n + 3) (.tuple #[.int .u64 ((l.append (d.knob a b) kind s).2.2.1 : Int), .int .i64 ((l.append (d.knob a b) kind s).2.2.2 : Int)]) (l.append (d.knob a b) kind s).1 (l.append (d.knob a b) kind s).2.1 w) := by
  obtain ⟨hh, pv, sv, rv, nD, nN, hl⟩ := h
  obtain ⟨W, hW⟩ : ∃ W, W = w.alloc (fallO a b c k) := ⟨_, rfl⟩
  have hf0 : Fr [] w W := by rw [hW]; exact (Fr.refl [] w).alloc _
  have hl0 := hl.new hf0
  have ho0 := hl.newO hf0
  have hh0 := ho0.host hl hh
  have hx0 : W.heap[w.heap.size]? = some (fallO a b c k) := by rw [hW]; exact heap_alloc_new w _
  have c4 := blk_cell hh0 4
  have x0 := blk_cell hx0 0
  have x1 := blk_cell hx0 1
  have x2 := blk_cell hx0 2
  have x3 := blk_cell hx0 3
  simp at c4 x0 x1 x2 x3
  rw [hW] at c4 x0 x1 x2 x3
  have HH : Hid (W.heap[hp]? = some (hostO p true (.pointer (some ⟨lp, 0, none⟩)))) := hh0
  have HX : Hid (W.heap[w.heap.size]? = some (fallO a b c k)) := hx0
  have HL : Hid (LogIn W B lp p bD bN pv sv rv l d n nD nN) := hl0
  have HO : Hid (OFr lp p w W) := ho0
  have HLw : Hid (LogIn w B lp p bD bN pv sv rv l d n nD nN) := hl
  clear hh hl hf0 hl0 ho0 hh0 hx0
  go_enter Tryz.func49, Tryz.ntmps49
  go_wp2_with fail
  rw [← hW]
  clear hW c4 x0 x1 x2 x3
  refine (before_any hp p bD bN pv _ true d.down d.left d.full a b c k W HH.out HL.out.disk.blk).mono ?_
  rintro e w1 ⟨rfl, hb1, hf1⟩
  obtain ⟨hl1, ho1⟩ := HL.out.knob a b hf1 hb1
  have HL1 : Hid (LogIn w1 B lp p bD bN pv sv rv l (d.knob a b) n nD nN) := hl1
  have HO1 : Hid (OFr lp p w w1) := HO.out.trans ho1
  have hh1 := ho1.host HL.out HH.out
  have k4 := blk_cell hh1 4
  simp at k4
  have HH1 : Hid (w1.heap[hp]? = some (hostO p true (.pointer (some ⟨lp, 0, none⟩)))) := hh1
  have HX1 : Hid (w1.heap[w.heap.size]? = some (fallO a b c k)) := ho1.fall HL.out HX.out
  have hpow1 : Pows w1 := HO1.out.pows HLw.out hB hpow
  clear hl1 ho1 hh1 hb1 hf1
  go_wp2_with fail
  have hap : Calls Tryz.prog 79 #[.pointer (some ⟨lp, 0, none⟩), .int .u8 (kind : Int), .string s] w1 (AppPost B lp p bD bN (n + 3) (l.append (d.knob a b) kind s) w1) := by
    by_cases hs : 255 < s.size
    · refine (lappend_no B lp p bD bN n nD nN kind pv sv rv l (d.knob a b) s w1 HL1.out hs (by omega)).mono ?_
      rintro e w2 ⟨he, ⟨pv2, sv2, rv2, nD2, nN2, hl2⟩, ho2⟩
      exact ⟨he, ⟨pv2, sv2, rv2, nD2, nN2, hl2.mores (by omega) (by omega)⟩, ho2⟩
    · exact lappend_yes B lp p bD bN n nD nN kind pv sv rv l (d.knob a b) s w1 HL1.out (by omega) hk (by omega) hB hsg hpow1
  refine hap.mono ?_
  clear hap
  obtain ⟨r, hr⟩ : ∃ r, r = l.append (d.knob a b) kind s := ⟨_, rfl⟩
  rw [← hr] at hdn
  rintro e w2 hpost
  rw [← hr] at hpost
  have HR : Hid (r = l.append (d.knob a b) kind s) := hr
  clear hr
  obtain ⟨rfl, ⟨pv2, sv2, rv2, nD2, nN2, hl2⟩, ho2⟩ := hpost
  have HL2 : Hid (LogIn w2 B lp p bD bN pv2 sv2 rv2 r.1 r.2.1 (n + 3) nD2 nN2) := hl2
  have HO2 : Hid (OFr lp p w w2) := HO1.out.trans ho2
  have hh2 := ho2.host HL1.out HH1.out
  have HH2 : Hid (w2.heap[hp]? = some (hostO p true (.pointer (some ⟨lp, 0, none⟩)))) := hh2
  have hx2 := ho2.fall HL1.out HX1.out
  have y0 := blk_cell hx2 0
  have y1 := blk_cell hx2 1
  have y2 := blk_cell hx2 2
  have y3 := blk_cell hx2 3
  simp at y0 y1 y2 y3
  have hmet2 : Met w2 := HO2.out.met HLw.out hB hmet
  clear hl2 ho2 hh2 k4 hx2
  go_wp2_with fail
  have hbd := HL2.out.disk.blk
  rw [hdn] at hbd
  refine (after_well hp p bD bN pv2 _ true r.2.1.left r.2.1.full a b c k w2 HH2.out hbd).mono ?_
  rintro e w3 ⟨rfl, hb3, hf3⟩
  have hmet3 : Met w3 := by
    have := (HL2.out.knob (-1) (-1) hf3 (by rw [hdn]; exact hb3)).2
    exact this.met HL2.out hB hmet2
  have HB3 : Hid (w3.heap[p]? = some (dskO bD bN pv2 (-1) (-1) false) ∧ Fr [p] w2 w3) := ⟨hb3, hf3⟩
  clear hb3 hf3 hbd y0 y1 y2 y3
  go_wp2_with fail
  refine (told_any r.2.2.2 w3 hmet3).mono ?_
  rintro e w4 ⟨rfl, hf4⟩
  have HF4 : Hid (Fr [] w3 w4) := hf4
  clear hf4
  go_wp2
  go_ret2
  obtain ⟨z1, z2⟩ := hostEnd HL2.out HO2.out HH2.out hdn HB3.out.2 HB3.out.1 HF4.out
  have hr := HR.out
  subst hr
  exact ⟨rfl, z1, z2⟩
set_option maxRecDepth 100000 in
set_option maxHeartbeats 4000000 in
theorem hForce (B hp lp p bD bN n : Nat) (l : ALog) (d : ADisk) (a b c k : Int) (w : World) (h : HostIn w B hp lp p bD bN l d n) (hB : 2 ≤ B) (hmet : Met w) (hn : n ≤ 67108864)
    (hdn : (l.force (d.knob a b)).2.1.down = false) :
    Calls Tryz.prog 51 #[.pointer (some ⟨hp, 0, none⟩), fallV a b c k] w
      (HostPost B hp lp p bD bN (n) (.int .i64 ((l.force (d.knob a b)).2.2 : Int)) (l.force (d.knob a b)).1 (l.force (d.knob a b)).2.1 w) := by
  obtain ⟨hh, pv, sv, rv, nD, nN, hl⟩ := h
  obtain ⟨W, hW⟩ : ∃ W, W = w.alloc (fallO a b c k) := ⟨_, rfl⟩
  have hf0 : Fr [] w W := by rw [hW]; exact (Fr.refl [] w).alloc _
  have hl0 := hl.new hf0
  have ho0 := hl.newO hf0
  have hh0 := ho0.host hl hh
  have hx0 : W.heap[w.heap.size]? = some (fallO a b c k) := by rw [hW]; exact heap_alloc_new w _
  have c4 := blk_cell hh0 4
  have x0 := blk_cell hx0 0
  have x1 := blk_cell hx0 1
  have x2 := blk_cell hx0 2
  have x3 := blk_cell hx0 3
  simp at c4 x0 x1 x2 x3
  rw [hW] at c4 x0 x1 x2 x3
  have HH : Hid (W.heap[hp]? = some (hostO p true (.pointer (some ⟨lp, 0, none⟩)))) := hh0
  have HX : Hid (W.heap[w.heap.size]? = some (fallO a b c k)) := hx0
  have HL : Hid (LogIn W B lp p bD bN pv sv rv l d n nD nN) := hl0
  have HO : Hid (OFr lp p w W) := ho0
  have HLw : Hid (LogIn w B lp p bD bN pv sv rv l d n nD nN) := hl
  clear hh hl hf0 hl0 ho0 hh0 hx0
  go_enter Tryz.func51, Tryz.ntmps51
  go_wp2_with fail
  rw [← hW]
  clear hW c4 x0 x1 x2 x3
  refine (before_any hp p bD bN pv _ true d.down d.left d.full a b c k W HH.out HL.out.disk.blk).mono ?_
  rintro e w1 ⟨rfl, hb1, hf1⟩
  obtain ⟨hl1, ho1⟩ := HL.out.knob a b hf1 hb1
  have HL1 : Hid (LogIn w1 B lp p bD bN pv sv rv l (d.knob a b) n nD nN) := hl1
  have HO1 : Hid (OFr lp p w w1) := HO.out.trans ho1
  have hh1 := ho1.host HL.out HH.out
  have k4 := blk_cell hh1 4
  simp at k4
  have HH1 : Hid (w1.heap[hp]? = some (hostO p true (.pointer (some ⟨lp, 0, none⟩)))) := hh1
  have HX1 : Hid (w1.heap[w.heap.size]? = some (fallO a b c k)) := ho1.fall HL.out HX.out
  clear hl1 ho1 hh1 hb1 hf1
  go_wp2_with fail
  have hap := force_any B lp p bD bN n nD nN pv sv rv l (d.knob a b) w1 HL1.out hn
  refine hap.mono ?_
  clear hap
  obtain ⟨r, hr⟩ : ∃ r, r = l.force (d.knob a b) := ⟨_, rfl⟩
  rw [← hr] at hdn
  rintro e w2 hpost
  rw [← hr] at hpost
  have HR : Hid (r = l.force (d.knob a b)) := hr
  clear hr
  obtain ⟨rfl, ⟨pv2, sv2, rv2, nD2, nN2, hl2⟩, ho2⟩ := hpost
  have HL2 : Hid (LogIn w2 B lp p bD bN pv2 sv2 rv2 r.1 r.2.1 (n) nD2 nN2) := hl2
  have HO2 : Hid (OFr lp p w w2) := HO1.out.trans ho2
  have hh2 := ho2.host HL1.out HH1.out
  have HH2 : Hid (w2.heap[hp]? = some (hostO p true (.pointer (some ⟨lp, 0, none⟩)))) := hh2
  have hx2 := ho2.fall HL1.out HX1.out
  have y0 := blk_cell hx2 0
  have y1 := blk_cell hx2 1
  have y2 := blk_cell hx2 2
  have y3 := blk_cell hx2 3
  simp at y0 y1 y2 y3
  have hmet2 : Met w2 := HO2.out.met HLw.out hB hmet
  clear hl2 ho2 hh2 k4 hx2
  go_wp2_with fail
  have hbd := HL2.out.disk.blk
  rw [hdn] at hbd
  refine (after_well hp p bD bN pv2 _ true r.2.1.left r.2.1.full a b c k w2 HH2.out hbd).mono ?_
  rintro e w3 ⟨rfl, hb3, hf3⟩
  have hmet3 : Met w3 := by
    have := (HL2.out.knob (-1) (-1) hf3 (by rw [hdn]; exact hb3)).2
    exact this.met HL2.out hB hmet2
  have HB3 : Hid (w3.heap[p]? = some (dskO bD bN pv2 (-1) (-1) false) ∧ Fr [p] w2 w3) := ⟨hb3, hf3⟩
  clear hb3 hf3 hbd y0 y1 y2 y3
  go_wp2_with fail
  refine (told_any r.2.2 w3 hmet3).mono ?_
  rintro e w4 ⟨rfl, hf4⟩
  have HF4 : Hid (Fr [] w3 w4) := hf4
  clear hf4
  go_wp2
  go_ret
  obtain ⟨z1, z2⟩ := hostEnd HL2.out HO2.out HH2.out hdn HB3.out.2 HB3.out.1 HF4.out
  have hr := HR.out
  subst hr
  exact ⟨rfl, z1, z2⟩
set_option maxRecDepth 100000 in
set_option maxHeartbeats 4000000 in
theorem hCut (B hp lp p bD bN n : Nat) (low : Nat) (l : ALog) (d : ADisk) (a b c k : Int) (w : World) (h : HostIn w B hp lp p bD bN l d n) (hB : 2 ≤ B) (hmet : Met w) (hn : n + 2 + l.segs.length ≤ 67108864) (hpow : Pows w) (hinv : l.failed = 0 → ∀ k s : Nat, l.segs[k]? = some s → ∃ r rs, l.recs = r :: rs ∧ r.lsn ≤ s ∧ s - r.lsn < l.recs.length)
    (hdn : (l.cut (d.knob a b) low).2.1.down = false) :
    Calls Tryz.prog 52 #[.pointer (some ⟨hp, 0, none⟩), .int .u64 (low : Int), fallV a b c k] w
      (HostPost B hp lp p bD bN (n + 2 + l.segs.length) (.int .i64 ((l.cut (d.knob a b) low).2.2 : Int)) (l.cut (d.knob a b) low).1 (l.cut (d.knob a b) low).2.1 w) := by
  obtain ⟨hh, pv, sv, rv, nD, nN, hl⟩ := h
  obtain ⟨W, hW⟩ : ∃ W, W = w.alloc (fallO a b c k) := ⟨_, rfl⟩
  have hf0 : Fr [] w W := by rw [hW]; exact (Fr.refl [] w).alloc _
  have hl0 := hl.new hf0
  have ho0 := hl.newO hf0
  have hh0 := ho0.host hl hh
  have hx0 : W.heap[w.heap.size]? = some (fallO a b c k) := by rw [hW]; exact heap_alloc_new w _
  have c4 := blk_cell hh0 4
  have x0 := blk_cell hx0 0
  have x1 := blk_cell hx0 1
  have x2 := blk_cell hx0 2
  have x3 := blk_cell hx0 3
  simp at c4 x0 x1 x2 x3
  rw [hW] at c4 x0 x1 x2 x3
  have HH : Hid (W.heap[hp]? = some (hostO p true (.pointer (some ⟨lp, 0, none⟩)))) := hh0
  have HX : Hid (W.heap[w.heap.size]? = some (fallO a b c k)) := hx0
  have HL : Hid (LogIn W B lp p bD bN pv sv rv l d n nD nN) := hl0
  have HO : Hid (OFr lp p w W) := ho0
  have HLw : Hid (LogIn w B lp p bD bN pv sv rv l d n nD nN) := hl
  clear hh hl hf0 hl0 ho0 hh0 hx0
  go_enter Tryz.func52, Tryz.ntmps52
  go_wp2_with fail
  rw [← hW]
  clear hW c4 x0 x1 x2 x3
  refine (before_any hp p bD bN pv _ true d.down d.left d.full a b c k W HH.out HL.out.disk.blk).mono ?_
  rintro e w1 ⟨rfl, hb1, hf1⟩
  obtain ⟨hl1, ho1⟩ := HL.out.knob a b hf1 hb1
  have HL1 : Hid (LogIn w1 B lp p bD bN pv sv rv l (d.knob a b) n nD nN) := hl1
  have HO1 : Hid (OFr lp p w w1) := HO.out.trans ho1
  have hh1 := ho1.host HL.out HH.out
  have k4 := blk_cell hh1 4
  simp at k4
  have HH1 : Hid (w1.heap[hp]? = some (hostO p true (.pointer (some ⟨lp, 0, none⟩)))) := hh1
  have HX1 : Hid (w1.heap[w.heap.size]? = some (fallO a b c k)) := ho1.fall HL.out HX.out
  have hpow1 : Pows w1 := HO1.out.pows HLw.out hB hpow
  clear hl1 ho1 hh1 hb1 hf1
  go_wp2_with fail
  have hap := cut_any B lp p bD bN n nD nN low pv sv rv l (d.knob a b) w1 HL1.out hn hB hpow1 hinv
  refine hap.mono ?_
  clear hap
  obtain ⟨r, hr⟩ : ∃ r, r = l.cut (d.knob a b) low := ⟨_, rfl⟩
  rw [← hr] at hdn
  rintro e w2 hpost
  rw [← hr] at hpost
  have HR : Hid (r = l.cut (d.knob a b) low) := hr
  clear hr
  obtain ⟨rfl, ⟨pv2, sv2, rv2, nD2, nN2, hl2⟩, ho2⟩ := hpost
  have HL2 : Hid (LogIn w2 B lp p bD bN pv2 sv2 rv2 r.1 r.2.1 (n + 2 + l.segs.length) nD2 nN2) := hl2
  have HO2 : Hid (OFr lp p w w2) := HO1.out.trans ho2
  have hh2 := ho2.host HL1.out HH1.out
  have HH2 : Hid (w2.heap[hp]? = some (hostO p true (.pointer (some ⟨lp, 0, none⟩)))) := hh2
  have hx2 := ho2.fall HL1.out HX1.out
  have y0 := blk_cell hx2 0
  have y1 := blk_cell hx2 1
  have y2 := blk_cell hx2 2
  have y3 := blk_cell hx2 3
  simp at y0 y1 y2 y3
  have hmet2 : Met w2 := HO2.out.met HLw.out hB hmet
  clear hl2 ho2 hh2 k4 hx2
  go_wp2_with fail
  have hbd := HL2.out.disk.blk
  rw [hdn] at hbd
  refine (after_well hp p bD bN pv2 _ true r.2.1.left r.2.1.full a b c k w2 HH2.out hbd).mono ?_
  rintro e w3 ⟨rfl, hb3, hf3⟩
  have hmet3 : Met w3 := by
    have := (HL2.out.knob (-1) (-1) hf3 (by rw [hdn]; exact hb3)).2
    exact this.met HL2.out hB hmet2
  have HB3 : Hid (w3.heap[p]? = some (dskO bD bN pv2 (-1) (-1) false) ∧ Fr [p] w2 w3) := ⟨hb3, hf3⟩
  clear hb3 hf3 hbd y0 y1 y2 y3
  go_wp2_with fail
  refine (told_any r.2.2 w3 hmet3).mono ?_
  rintro e w4 ⟨rfl, hf4⟩
  have HF4 : Hid (Fr [] w3 w4) := hf4
  clear hf4
  go_wp2
  go_ret
  obtain ⟨z1, z2⟩ := hostEnd HL2.out HO2.out HH2.out hdn HB3.out.2 HB3.out.1 HF4.out
  have hr := HR.out
  subst hr
  exact ⟨rfl, z1, z2⟩
set_option maxHeartbeats 1000000 in
theorem hNext (B hp lp p bD bN n : Nat) (l : ALog) (d : ADisk) (w : World) (h : HostIn w B hp lp p bD bN l d n) :
    Calls Tryz.prog 45 #[.pointer (some ⟨hp, 0, none⟩)] w fun e w' => e = .returned (.int .u64 (l.next : Int)) ∧ w' = w := by
  obtain ⟨hh, pv, sv, rv, nD, nN, hl⟩ := h
  have c4 := blk_cell hh 4
  have m4 := blk_cell hl.blk 4
  simp at c4 m4
  have hnx : Calls Tryz.prog 75 #[.pointer (some ⟨lp, 0, none⟩)] w fun e w' => e = .returned (.int .u64 (l.next : Int)) ∧ w' = w := by
    go_enter Tryz.func75, Tryz.ntmps75
    go_wp2
    go_ret
    exact ⟨rfl, rfl⟩
  clear hh hl
  go_enter Tryz.func45, Tryz.ntmps45
  go_wp2_with fail
  refine hnx.mono ?_
  rintro e w1 ⟨rfl, rfl⟩
  go_wp2
  go_ret
  exact ⟨rfl, rfl⟩
set_option maxHeartbeats 1000000 in
theorem hIs (p hp : Nat) (up : Bool) (lv : Value) (w : World) (hh : w.heap[hp]? = some (hostO p up lv)) :
    Calls Tryz.prog 22 #[.pointer (some ⟨hp, 0, none⟩)] w fun e w' => e = .returned (.bool up) ∧ w' = w := by
  have c3 := blk_cell hh 3
  simp at c3
  go_enter Tryz.func22, Tryz.ntmps22
  go_wp2
  go_ret
  exact ⟨rfl, rfl⟩
end Go.Proofs.YtnnhihkeffljbaaGreatDoor
/- (*disk).up: what is durable is what is there. -/
namespace Go.Proofs.YtnnhihkeffljbaaGreatDoor
open Go.RowKit Go.Maps

def ADisk.up (d : ADisk) : ADisk := { d with now := d.durable, pending := [], down := false }
theorem keyLB (x : List UInt8) : Lit.string x = keyL ⟨x.toArray⟩ := by simp [keyL]

set_option maxRecDepth 100000 in
set_option maxHeartbeats 2000000 in
theorem up_any (B p bD n nD : Nat) (pv nv : Value) (d : ADisk) (w : World) (hblk : w.heap[p]? = some (.cells #[.map (some bD), nv, pv, .int .i64 d.left, .int .i64 d.full, .bool d.down] 86)) (hB : B ≤ p ∧ B ≤ bD ∧ B ≤ w.heap.size) (hdur : FileMap w bD nD d.durable) (hn : nD ≤ n) (hn2 : n ≤ 67108864) (hle : d.durable.Le (nD * 4096)) :
    Calls Tryz.prog 44 #[.pointer (some ⟨p, 0, none⟩)] w fun e w' => e = .returned (.tuple #[]) ∧ DiskIn w' B p bD w.heap.size (.slice none 0 0) d.up n nD nD ∧ Fr [p] w w' := by
  have hmm := @run_makeMap Tryz.prog
  have c0 := blk_cell hblk 0
  have c1 := blk_cell hblk 1
  have c2 := blk_cell hblk 2
  have c5 := blk_cell hblk 5
  have f1 := blk_free hblk 1
  have f2 := blk_free hblk 2
  have f5 := blk_free hblk 5
  simp at c0 c1 c2 c5
  have hpl : p < w.heap.size := (Array.getElem?_eq_some_iff.1 hblk).1
  have hbl := hdur.lt
  have hpne : bD ≠ p := hdur.ne_cells hblk
  obtain ⟨D, hown, h5⟩ := hdur
  have H5 : Hid (∀ k : ByteArray, (d.durable k = none → Maps.has D (keyL k) = false) ∧ (∀ t, d.durable k = some t → Maps.has D (keyL k) = true ∧ k.size ≤ maxLen ∧ ∃ q : Nat, (∀ z, D.atKey (keyL k) z = .lit (.int .i64 (q : Int))) ∧ w.heap[q]? = some (textO t))) := h5
  clear h5
  have hsz := hown.size_le
  have HB : Hid (w.heap[p]? = some (.cells #[.map (some bD), nv, pv, .int .i64 d.left, .int .i64 d.full, .bool d.down] 86)) := hblk
  clear hblk
  have hpa1 : (w.alloc (.map #[] 0)).cell? ⟨p, 1, none⟩ = some nv := (World.cell?_of_block (a := ⟨p, 1, none⟩) (Below.heap_alloc w _ p hpl)).trans c1
  have hpa2 : (w.alloc (.map #[] 0)).frozen? ⟨p, 1, none⟩ = false := (World.frozen?_of_block (a := ⟨p, 1, none⟩) (Below.heap_alloc w _ p hpl)).trans f1
  obtain ⟨W1, hW1⟩ : ∃ W1, W1 = (w.setCell ⟨p, 1, none⟩ (.map (some w.heap.size))).alloc (.map #[] 0) := ⟨_, rfl⟩
  have hss : (w.setCell ⟨p, 1, none⟩ (.map (some w.heap.size))).heap.size = w.heap.size := by simp
  have hblk1 : W1.heap[p]? = some (.cells #[.map (some bD), .map (some w.heap.size), pv, .int .i64 d.left, .int .i64 d.full, .bool d.down] 86) := by
    have := blk_set HB.out 1 (.map (some w.heap.size))
    rw [hW1, Below.heap_alloc _ _ p (by rw [hss]; exact hpl)]; simpa using this
  have hfr1 : Fr [p] w W1 := by rw [hW1]; exact ((Fr.refl [p] w).setCell (Or.inl (by simp)) _).alloc _
  have hs1 : W1.heap.size = w.heap.size + 1 := by rw [hW1]; simp
  have hownW : W1.ownsMap Tryz.prog 9 ptrElem bD nD D := by rw [hW1]; exact (hown.setCell hpne _).alloc _
  have houtW : W1.ownsMap (H := Unit) Tryz.prog 9 ptrElem w.heap.size 0 (.map []) := by
    have := World.ownsMap_made (H := Unit) (w.setCell ⟨p, 1, none⟩ (.map (some w.heap.size))) Tryz.prog 9 ptrElem
    rw [hss] at this
    rw [hW1]; exact this
  have d0 := blk_cell hblk1 0
  simp at d0
  go_enter Tryz.func44, Tryz.ntmps44
  go_wp2_with (first
    | (at_range; rw [← hW1]; refine wpList_range_own _ rfl _ 83 rfl 9 131 Tryz.lawS Tryz.underlying83 ptrElem bD nD D rfl hownW ?_; intro w0 hrg0 hg0 hs0)
    | go_in)
  go_frame
  clear hW1
  have HB1 : Hid (W1.heap[p]? = some (.cells #[.map (some bD), .map (some w.heap.size), pv, .int .i64 d.left, .int .i64 d.full, .bool d.down] 86)) := hblk1
  clear hblk1
  rw [hs1] at hrg0 hs0 ⊢
  go_loopw [2] (fun _ wr => ∃ (left : Lit → Bool) (cnt : Nat) (Dout : DataW Unit), wr.ranges Tryz.prog 9 ptrElem bD (w.heap.size + 1) nD D left cnt ∧ cnt ≤ Maps.size D ∧
      wr.ownsMap Tryz.prog 9 ptrElem w.heap.size (Maps.size D - cnt) Dout ∧ Agree Dout D left ∧ Fr [w.heap.size, w.heap.size + 1] W1 wr)
    (fun _ wr => wr.rangeLeft bD (w.heap.size + 1))
  case atStart =>
    exact ⟨_, _, .map [], hrg0, Nat.le_refl _, (houtW.kept hg0 (by simp)).mono (Nat.zero_le _), agree_start D, (Fr.of_grown hg0).mono (by simp)⟩
  case round =>
    obtain ⟨left, cnt, Dout, hrg, hcs, hout, hA, hnx⟩ := hrel
    have HNX : Hid (Fr [w.heap.size, w.heap.size + 1] W1 wr) := hnx
    have hzr := hnx.size
    have hpr : wr.heap[p]? = some (.cells #[.map (some bD), .map (some w.heap.size), pv, .int .i64 d.left, .int .i64 d.full, .bool d.down] 86) := (hnx.block p (by omega) (by simp; omega)).trans HB1.out
    have HPR : Hid (wr.heap[p]? = some (.cells #[.map (some bD), .map (some w.heap.size), pv, .int .i64 d.left, .int .i64 d.full, .bool d.down] 86)) := hpr
    have r1 := blk_cell hpr 1
    have r2 := blk_cell hpr 2
    have r5 := blk_cell hpr 5
    have q2 := blk_free hpr 2
    have q5 := blk_free hpr 5
    simp at r1 r2 r5
    clear hnx hpr
    go_wp2_with (first
      | (at_next; refine wpList_next_ranges _ rfl _ rfl 9 Tryz.lawS ptrElem encStr Value.pointer (fun key kl hk => by obtain ⟨x, hx, _⟩ := Maps.keyOf_str Tryz.underlying9 hk; exact ⟨x, hx⟩) (fun v y hv => ptrElem_shape hv) bD (w.heap.size + 1) nD _ _ _ rfl hrg ?_ ?_)
      | go_in)
    · intro hc0 hl0
      go_wp2
      go_end0
      subst hc0
      have hD := agree_end hA hl0 (hout.canon Tryz.lawS) (hown.canon Tryz.lawS)
      subst hD
      obtain ⟨W2, hW2⟩ : ∃ W2, W2 = (wr.setCell ⟨p, 2, none⟩ (.slice none 0 0)).setCell ⟨p, 5, none⟩ (.bool false) := ⟨_, rfl⟩
      rw [← hW2]
      have hf2 : Fr [p] wr W2 := by rw [hW2]; exact (Fr.set1 (by simp) _ _).trans (Fr.set1 (by simp) _ _)
      have hfw : Fr [p] w W2 := (hfr1.andThen HNX.out (by intro j hj hl; simp at hj; omega)).trans hf2
      have hb2 : W2.heap[p]? = some (dskO bD w.heap.size (.slice none 0 0) d.left d.full false) := by
        have := blk_set (blk_set HPR.out 2 (.slice none 0 0)) 5 (.bool false)
        rw [hW2]; simpa using this
      have htx : ∀ (q : Nat) (t : ByteArray), w.heap[q]? = some (textO t) → W2.heap[q]? = some (textO t) := fun q t hq => by
        rw [hfw.block q (Array.getElem?_eq_some_iff.1 hq).1 (by simp; intro e; subst e; rw [HB.out] at hq; cases hq)]; exact hq
      have ho1 : W2.ownsMap Tryz.prog 9 ptrElem bD nD Dout := by
        obtain ⟨es, c, a1, a2⟩ := hrg.owns
        exact ⟨es, c, (hf2.block bD (by omega) (by simp; omega)).trans a1, a2⟩
      have ho2 : W2.ownsMap Tryz.prog 9 ptrElem w.heap.size nD Dout := by
        obtain ⟨es, c, a1, a2⟩ := hout.mono (n' := nD) (by omega)
        exact ⟨es, c, (hf2.block w.heap.size (by omega) (by simp; omega)).trans a1, a2⟩
      have h5 : ∀ k : ByteArray, (d.durable k = none → Maps.has Dout (keyL k) = false) ∧ (∀ t, d.durable k = some t → Maps.has Dout (keyL k) = true ∧ k.size ≤ maxLen ∧ ∃ q : Nat, (∀ z, Dout.atKey (keyL k) z = .lit (.int .i64 (q : Int))) ∧ W2.heap[q]? = some (textO t)) := fun k => by
        obtain ⟨a1, a2⟩ := H5.out k
        refine ⟨a1, fun t ht => ?_⟩
        obtain ⟨b1, b2, q, b3, b4⟩ := a2 t ht
        exact ⟨b1, b2, q, b3, htx q t b4⟩
      refine ⟨rfl, ?_, hfw⟩
      exact { blk := hb2, base := ⟨hB.1, hB.2.1, hB.2.2, by have := hfw.size; omega⟩, ne := by omega, dur := ⟨_, ho1, h5⟩, now := ⟨_, ho2, h5⟩, pen := World.ownsRow_nil _ _ _ _, hD := by simpa [ADisk.up] using hn, hN := hn, hn := hn2, leD := hle, leN := hle, ops := by simp [ADisk.up] }
    · intro x c kl yd yp w2 cnt2 hkey hlk hv hat hrg2 hlt hg2 hs2 hen
      obtain ⟨x', ex, rfl, hxl⟩ := Maps.keyOf_str Tryz.underlying9 hkey
      obtain rfl : x = x' := encStr_inj ex
      have hout1 := hout.kept hg2 (by simp)
      have s1 : w2.cell? ⟨p, 1, none⟩ = some (.map (some w.heap.size)) := (grown_cell hg2 (a := ⟨p, 1, none⟩) (by simp; omega) (by simp; omega)).trans r1
      clear hs2
      go_wp2_with (first
        | (at_mapUpdate; refine wpList_mapUpdate_own _ rfl _ _ _ 83 rfl 9 131 Tryz.lawS Tryz.underlying83 ptrElem w.heap.size _ _ rfl hout1 (by unfold maxLen; omega) _ _ _ rfl rfl hkey _ _ hv ?_; intro w3 hout2 hg3; go_frame)
        | go_in)
      have hrg3 := hrg2.kept hg3 (fun e => by have := Option.some.inj e; omega) (fun e => by have := Option.some.inj e; omega)
      go_roundw
      case rel =>
        exact ⟨_, cnt2, _, hrg3, by omega, hout2.mono (by omega), agree_step hA hout.isMap trivial hat, (HNX.out.trans ((Fr.of_grown1 hg2).mono (by intro k _ hk; simp at hk; simp [hk]))).trans ((Fr.of_grown1 hg3).mono (by intro k _ hk; simp at hk; simp [hk]))⟩
      case measure => rw [hrg3.left_eq, hrg.left_eq]; exact hlt
end Go.Proofs.YtnnhihkeffljbaaGreatDoor
/- HOSTS: NewHost, close, Open over nothing. -/
namespace Go.Proofs.YtnnhihkeffljbaaGreatDoor
open Go.RowKit Go.Maps
open Sc

set_option maxRecDepth 100000 in
set_option maxHeartbeats 1000000 in
theorem close_any (hp p : Nat) (up : Bool) (lv : Value) (hlv : ∃ x, lv = .pointer x) (w : World) (hh : w.heap[hp]? = some (hostO p up lv)) :
    Calls Tryz.prog 32 #[.pointer (some ⟨hp, 0, none⟩)] w fun e w' => e = .returned (.tuple #[]) ∧ w'.heap[hp]? = some (hostO p false (.pointer none)) ∧ Fr [hp] w w' := by
  obtain ⟨x, rfl⟩ := hlv
  have c3 := blk_cell hh 3
  have c4 := blk_cell hh 4
  have c5 := blk_cell hh 5
  have c6 := blk_cell hh 6
  have c7 := blk_cell hh 7
  have f3 := blk_free hh 3
  have f4 := blk_free hh 4
  have f5 := blk_free hh 5
  have f6 := blk_free hh 6
  have f7 := blk_free hh 7
  simp at c3 c4 c5 c6 c7
  have HH : Hid (w.heap[hp]? = some (hostO p up (.pointer x))) := hh
  clear hh
  go_enter Tryz.func32, Tryz.ntmps32
  go_wp2
  go_end0
  refine ⟨rfl, ?_, ((((Fr.set1 (by simp) _ _).trans (Fr.set1 (by simp) _ _)).trans (Fr.set1 (by simp) _ _)).trans (Fr.set1 (by simp) _ _)).trans (Fr.set1 (by simp) _ _)⟩
  have := blk_set (blk_set (blk_set (blk_set (blk_set HH.out 3 (.bool false)) 4 (.pointer none)) 5 (.pointer none)) 6 (.pointer none)) 7 (.pointer none)
  simp at this
  exact this
set_option maxRecDepth 100000 in
set_option maxHeartbeats 1000000 in
theorem newHost_any (w : World) (n : Nat) (hn : n ≤ 67108864) :
    Calls Tryz.prog 21 #[.int .i64 1, .int .i64 0] w fun e w' => ∃ hp p bD bN, e = .returned (.pointer (some ⟨hp, 0, none⟩)) ∧ w'.heap[hp]? = some (hostO p false (.pointer none)) ∧ DiskIn w' w.heap.size p bD bN (.slice none 0 0) ⟨fun _ => none, fun _ => none, [], -1, -1, false⟩ n 0 0 ∧ w.heap.size ≤ hp ∧ Below w.heap.size w w' := by
  have hmm := @run_makeMap Tryz.prog
  go_enter Tryz.func21, Tryz.ntmps21
  go_wp2_with fail
  obtain ⟨W, hW⟩ : ∃ W, W = ((w.alloc (.map #[] 0)).alloc (.cells #[.map (some w.heap.size), .map none, .slice none 0 0, .int .i64 (-1), .int .i64 (-1), .bool false] 86)).alloc (hostO (w.heap.size + 1) false (.pointer none)) := ⟨_, rfl⟩
  have hW2 : W = ((w.alloc (.map #[] 0)).alloc (.cells #[.map (some w.heap.size), .map none, .slice none 0 0, .int .i64 (-1), .int .i64 (-1), .bool false] 86)).alloc (.cells #[.int .i64 1, .int .i64 0, .pointer (some ⟨w.heap.size + 1, 0, none⟩), .bool false, .pointer none, .pointer none, .pointer none, .pointer none] 65) := hW
  rw [← hW2]
  clear hW2
  have hsz : W.heap.size = w.heap.size + 3 := by rw [hW]; simp
  have hb0 : Below w.heap.size w W := by rw [hW]; exact (((Below.refl _ w).alloc (Nat.le_refl _) _).alloc (by simp) _).alloc (by simp; omega) _
  have hfm : FileMap W w.heap.size 0 (fun _ => none) := by rw [hW]; exact ((FileMap.made w).alloc _).alloc _
  have hdb : W.heap[w.heap.size + 1]? = some (.cells #[.map (some w.heap.size), .map none, .slice none 0 0, .int .i64 (-1), .int .i64 (-1), .bool false] 86) := by
    rw [hW, Below.heap_alloc _ _ (w.heap.size + 1) (by simp)]; have := heap_alloc_new (w.alloc (.map #[] 0)) (.cells #[.map (some w.heap.size), .map none, .slice none 0 0, .int .i64 (-1), .int .i64 (-1), .bool false] 86); rw [World.size_alloc] at this; exact this
  have hhb : W.heap[w.heap.size + 2]? = some (hostO (w.heap.size + 1) false (.pointer none)) := by
    rw [hW]; have := heap_alloc_new ((w.alloc (.map #[] 0)).alloc (.cells #[.map (some w.heap.size), .map none, .slice none 0 0, .int .i64 (-1), .int .i64 (-1), .bool false] 86)) (hostO (w.heap.size + 1) false (.pointer none)); rw [World.size_alloc, World.size_alloc] at this; exact this
  clear hW
  have HH : Hid (W.heap[w.heap.size + 2]? = some (hostO (w.heap.size + 1) false (.pointer none))) := hhb
  refine (up_any w.heap.size (w.heap.size + 1) w.heap.size n 0 (.slice none 0 0) (.map none) ⟨fun _ => none, fun _ => none, [], -1, -1, false⟩ W hdb ⟨by omega, by omega, by omega⟩ hfm (by omega) hn (by intro k t ht; cases ht)).mono ?_
  rintro e w1 ⟨rfl, hd1, hf1⟩
  have hh1 : w1.heap[w.heap.size + 1 + 1]? = some (hostO (w.heap.size + 1) false (.pointer none)) := (hf1.block (w.heap.size + 2) (by omega) (by simp)).trans HH.out
  have hb1 : Below w.heap.size w w1 := hb0.trans (hf1.below (by omega) (by intro k hk; simp at hk; omega))
  have H1 : Hid (DiskIn w1 w.heap.size (w.heap.size + 1) w.heap.size W.heap.size (.slice none 0 0) ⟨fun _ => none, fun _ => none, [], -1, -1, false⟩ n 0 0 ∧ Below w.heap.size w w1 ∧ w1.heap[w.heap.size + 1 + 1]? = some (hostO (w.heap.size + 1) false (.pointer none))) := ⟨hd1, hb1, hh1⟩
  clear hd1 hf1 hh1 hb1 hdb hhb hfm hb0
  go_wp2
  go_ret
  exact ⟨w.heap.size + 1 + 1, w.heap.size + 1, w.heap.size, W.heap.size, rfl, H1.out.2.2, H1.out.1, by omega, H1.out.2.1⟩
end Go.Proofs.YtnnhihkeffljbaaGreatDoor
/- HOSTS: Open over nothing. -/
namespace Go.Proofs.YtnnhihkeffljbaaGreatDoor
open Go.RowKit
open Sc

section
variable {w w' : World} {B p bD bN n nD nN : Nat} {pv : Value} {d : ADisk}
theorem DiskIn.geD (h : DiskIn w B p bD bN pv d n nD nN) {k : Nat} (hk : OwnD p w k) : B ≤ k := by
  have := (h.ownD k).1 hk
  simp at this
  rcases this with e | e | e | e
  · rw [e]; exact h.base.1
  · rw [e]; exact h.base.2.1
  · rw [e]; exact h.base.2.2.1
  · exact (h.pen.lt k e).1
theorem DFr.below (hf : DFr p w w') (h : DiskIn w B p bD bN pv d n nD nN) : Below B w w' :=
  ⟨hf.os, hf.tape, hf.output, hf.size, fun k hk => hf.block k (Nat.lt_of_lt_of_le hk h.base.2.2.2) (fun ho => by have := h.geD ho; omega)⟩
end
theorem OFr.below {w w' : World} {B lp p bD bN n nD nN : Nat} {pv sv rv : Value} {l : ALog} {d : ADisk} (hf : OFr lp p w w') (h : LogIn w B lp p bD bN pv sv rv l d n nD nN) : Below B w w' :=
  ⟨hf.os, hf.tape, hf.output, hf.size, fun _ hk => hf.low h hk⟩
/-- a block of another kind was written -/
theorem LogIn.other {w w' : World} {B lp p bD bN n nD nN q : Nat} {pv sv rv : Value} {l : ALog} {d : ADisk} {c : Array Value} {t : TypeId} (h : LogIn w B lp p bD bN pv sv rv l d n nD nN) (hf : Fr [q] w w') (hq : w.heap[q]? = some (.cells c t (0, 0))) (h1 : t ≠ 86) (h2 : t ≠ 107) (h3 : t ≠ 158) (h4 : t ≠ 33) (h5 : t ≠ 92) (h6 : t ≠ 9) : LogIn w' B lp p bD bN pv sv rv l d n nD nN := by
  have ho := h.free hq h1 h2 h3 h4 h5
  rw [h.own] at ho
  simp only [not_or] at ho
  refine h.turned (h.disk.fr hf ?_ ?_ ?_ ?_ ?_) hf ?_ (Nat.le_refl _)
  · simpa using fun e => ho.2.1 e.symm
  · simpa using fun e => ho.2.2.1 e.symm
  · simpa using fun e => ho.2.2.2.1 e.symm
  · intro g hg; simp; intro e; subst e; exact ho.2.2.2.2.1 hg
  · intro r hr x; simp at hr; subst hr; rw [hq]; intro e; cases e; exact h6 rfl
  · intro r hr _; simp at hr; subst hr; exact ⟨ho.1, ho.2.2.2.2.2.1, ho.2.2.2.2.2.2⟩
set_option maxRecDepth 100000 in
set_option maxHeartbeats 4000000 in
theorem hOpen_empty (B hp p bD bN n nD : Nat) (pv : Value) (d : ADisk) (a b c k : Int) (w : World) (hh : w.heap[hp]? = some (hostO p false (.pointer none))) (h : DiskIn w B p bD bN pv d n nD 0) (hB : 2 ≤ B) (hhp : B ≤ hp) (hmet : Met w) (hdn : d.down = false) (hno : d.now markNm = none)
    (hr : ((log0 1).opens (d.knob a b)).2.2 = 0) (hdn2 : ((log0 1).opens (d.knob a b)).2.1.down = false) :
    Calls Tryz.prog 14 #[.pointer (some ⟨hp, 0, none⟩), fallV a b c k] w fun e w' => e = .returned (.int .i64 0) ∧ ∃ lp, HostIn w' B hp lp p bD bN ((log0 1).opens (d.knob a b)).1 (((log0 1).opens (d.knob a b)).2.1.knob (-1) (-1)) n ∧ Below B w w' := by
  obtain ⟨W, hW⟩ : ∃ W, W = w.alloc (fallO a b c k) := ⟨_, rfl⟩
  have hf0 : Fr [] w W := by rw [hW]; exact (Fr.refl [] w).alloc _
  have hd0 := h.new hf0
  have hpl := (Array.getElem?_eq_some_iff.1 hh).1
  have hh0 : W.heap[hp]? = some (hostO p false (.pointer none)) := (hf0.block hp hpl (by simp)).trans hh
  have hx0 : W.heap[w.heap.size]? = some (fallO a b c k) := by rw [hW]; exact heap_alloc_new w _
  have hb0 : Below B w W := hf0.below h.base.2.2.2 (by simp)
  have x0 := blk_cell hx0 0
  have x1 := blk_cell hx0 1
  have x2 := blk_cell hx0 2
  have x3 := blk_cell hx0 3
  simp at x0 x1 x2 x3
  rw [hW] at x0 x1 x2 x3
  have hmet0 : Met W := hmet.below hb0 (by omega)
  have HH : Hid (W.heap[hp]? = some (hostO p false (.pointer none)) ∧ W.heap[w.heap.size]? = some (fallO a b c k) ∧ DiskIn W B p bD bN pv d n nD 0 ∧ Below B w W) := ⟨hh0, hx0, hd0, hb0⟩
  clear hh hf0 hd0 hh0 hx0 hb0 h hmet
  go_enter Tryz.func14, Tryz.ntmps14
  go_wp2_with fail
  rw [← hW]
  clear hW x0 x1 x2 x3
  refine (before_any hp p bD bN pv _ false d.down d.left d.full a b c k W HH.out.1 HH.out.2.2.1.blk).mono ?_
  rintro e w1 ⟨rfl, hb1, hf1⟩
  have hd1 : DiskIn w1 B p bD bN pv (d.knob a b) n nD 0 := HH.out.2.2.1.turn hf1 a b d.down hb1
  have hne : hp ≠ p := by intro e; have := HH.out.1; rw [e, HH.out.2.2.1.blk] at this; cases this
  have hh1 : w1.heap[hp]? = some (hostO p false (.pointer none)) := (hf1.block hp (Array.getElem?_eq_some_iff.1 HH.out.1).1 (by simpa using hne)).trans HH.out.1
  have hxne : w.heap.size ≠ p := by intro e; have := HH.out.2.1; rw [e, HH.out.2.2.1.blk] at this; cases this
  have hx1 : w1.heap[w.heap.size]? = some (fallO a b c k) := (hf1.block _ (Array.getElem?_eq_some_iff.1 HH.out.2.1).1 (by simpa using hxne)).trans HH.out.2.1
  have hbl1 : Below B W w1 := hf1.below HH.out.2.2.1.base.2.2.2 (by intro j hj; simp at hj; rw [hj]; exact HH.out.2.2.1.base.1)
  have H1 : Hid (w1.heap[hp]? = some (hostO p false (.pointer none)) ∧ w1.heap[w.heap.size]? = some (fallO a b c k) ∧ DiskIn w1 B p bD bN pv (d.knob a b) n nD 0 ∧ Below B w w1) := ⟨hh1, hx1, hd1, HH.out.2.2.2.trans hbl1⟩
  have hmet1 : Met w1 := hmet0.below hbl1 (by omega)
  clear hb1 hf1 hd1 hh1 hx1 hbl1
  go_wp2_with fail
  refine (close_any hp p false _ ⟨_, rfl⟩ w1 H1.out.1).mono ?_
  rintro e w2 ⟨rfl, hh2, hf2⟩
  have hd2 : DiskIn w2 B p bD bN pv (d.knob a b) n nD 0 := by
    refine H1.out.2.2.1.fr hf2 (by simpa using fun e => hne e.symm) ?_ ?_ ?_ ?_
    · simp; exact H1.out.2.2.1.dur.ne_cells H1.out.1
    · simp; exact H1.out.2.2.1.now.ne_cells H1.out.1
    · intro g hg; simp; intro e; subst e; exact own_ne H1.out.2.2.1.pen H1.out.1 (by decide) hg
    · intro q hq t; simp at hq; subst hq; rw [H1.out.1]; intro e; cases e
  have hxh : w.heap.size ≠ hp := by omega
  have hx2 : w2.heap[w.heap.size]? = some (fallO a b c k) := (hf2.block _ (Array.getElem?_eq_some_iff.1 H1.out.2.1).1 (by simpa using hxh)).trans H1.out.2.1
  have hbl2 : Below B w1 w2 := hf2.below H1.out.2.2.1.base.2.2.2 (by intro j hj; simp at hj; omega)
  have hc0 := blk_cell hh2 0
  have hc2 := blk_cell hh2 2
  simp at hc0 hc2
  have H2 : Hid (w2.heap[hp]? = some (hostO p false (.pointer none)) ∧ w2.heap[w.heap.size]? = some (fallO a b c k) ∧ DiskIn w2 B p bD bN pv (d.knob a b) n nD 0 ∧ Below B w w2) := ⟨hh2, hx2, hd2, H1.out.2.2.2.trans hbl2⟩
  have hmet2 : Met w2 := hmet1.below hbl2 (by omega)
  clear hh2 hf2 hd2 hx2 hbl2
  go_wp2_with fail
  refine (openLog_empty B p bD bN n nD pv (d.knob a b) w2 H2.out.2.2.1 hdn hno hr).mono ?_
  rintro e w3 ⟨lp, rfl, hlp, ⟨pv3, sv3, rv3, nD3, nN3, hl3⟩, hf3⟩
  have hh3 : w3.heap[hp]? = some (hostO p false (.pointer none)) := (hf3.block hp (Array.getElem?_eq_some_iff.1 H2.out.1).1 (H2.out.2.2.1.freeD H2.out.1 (by decide) (by decide))).trans H2.out.1
  have hx3 : w3.heap[w.heap.size]? = some (fallO a b c k) := (hf3.block _ (Array.getElem?_eq_some_iff.1 H2.out.2.1).1 (H2.out.2.2.1.freeD H2.out.2.1 (by decide) (by decide))).trans H2.out.2.1
  have hbl3 : Below B w2 w3 := hf3.below H2.out.2.2.1
  have hmet3 : Met w3 := hmet2.below hbl3 (by omega)
  obtain ⟨R, hR⟩ : ∃ R, R = (log0 1).opens (d.knob a b) := ⟨_, rfl⟩
  rw [← hR] at hl3 hr hdn2
  have HR : Hid (R = (log0 1).opens (d.knob a b)) := hR
  clear hR
  obtain ⟨W4, hW4⟩ : ∃ W4, W4 = (w3.setCell ⟨hp, 4, none⟩ (.pointer (some ⟨lp, 0, none⟩))).setCell ⟨hp, 3, none⟩ (.bool true) := ⟨_, rfl⟩
  have hh4 : W4.heap[hp]? = some (hostO p true (.pointer (some ⟨lp, 0, none⟩))) := by
    have := blk_set (blk_set hh3 4 (.pointer (some ⟨lp, 0, none⟩))) 3 (.bool true)
    simp at this
    rw [hW4]; exact this
  have hf4 : Fr [hp] w3 W4 := by rw [hW4]; exact (Fr.set1 (by simp) _ _).trans (Fr.set1 (by simp) _ _)
  have hx4 : W4.heap[w.heap.size]? = some (fallO a b c k) := (hf4.block _ (Array.getElem?_eq_some_iff.1 hx3).1 (by simpa using hxh)).trans hx3
  have hl4 := hl3.other hf4 hh3 (by decide) (by decide) (by decide) (by decide) (by decide) (by decide)
  have hbl4 : Below B w3 W4 := hf4.below hl3.disk.base.2.2.2 (by intro j hj; simp at hj; omega)
  have hmet4 : Met W4 := hmet3.below hbl4 (by omega)
  have y0 := blk_cell hx4 0
  have y1 := blk_cell hx4 1
  have y2 := blk_cell hx4 2
  have y3 := blk_cell hx4 3
  simp at y0 y1 y2 y3
  rw [hW4] at y0 y1 y2 y3
  have H4 : Hid (W4.heap[hp]? = some (hostO p true (.pointer (some ⟨lp, 0, none⟩))) ∧ LogIn W4 B lp p bD bN pv3 sv3 rv3 R.1 R.2.1 n nD3 nN3 ∧ Below B w W4) := ⟨hh4, hl4, (H2.out.2.2.2.trans hbl3).trans hbl4⟩
  have c3 := blk_cell hh3 3
  have c4 := blk_cell hh3 4
  have f3 := blk_free hh3 3
  have f4 := blk_free hh3 4
  have c2 := blk_cell hh3 2
  simp at c3 c4 c2
  clear hc0 hc2 hh3 hx3 hbl3 hl3 hf3 hh4 hf4 hx4 hl4 hbl4
  go_wp2_with fail
  rw [← hW4]
  clear hW4 y0 y1 y2 y3 c3 c4 f3 f4 c2
  have hbd := H4.out.2.1.disk.blk
  rw [hdn2] at hbd
  refine (after_well hp p bD bN pv3 _ true R.2.1.left R.2.1.full a b c k W4 H4.out.1 hbd).mono ?_
  rintro e w5 ⟨rfl, hb5, hf5⟩
  have hb5' := hb5
  rw [← hdn2] at hb5'
  obtain ⟨hl5, ho5⟩ := H4.out.2.1.knob (-1) (-1) hf5 hb5'
  have hmet5 : Met w5 := ho5.met H4.out.2.1 hB hmet4
  have hh5 := ho5.host H4.out.2.1 H4.out.1
  have H5 : Hid (w5.heap[hp]? = some (hostO p true (.pointer (some ⟨lp, 0, none⟩))) ∧ LogIn w5 B lp p bD bN pv3 sv3 rv3 R.1 (R.2.1.knob (-1) (-1)) n nD3 nN3 ∧ Below B w w5) := ⟨hh5, hl5, H4.out.2.2.trans (ho5.below H4.out.2.1)⟩
  clear hb5 hb5' hf5 hl5 ho5 hh5 hbd
  go_wp2_with fail
  refine (told_any 0 w5 hmet5).mono ?_
  rintro e w6 ⟨rfl, hf6⟩
  have HF6 : Hid (Fr [] w5 w6) := hf6
  clear hf6
  go_wp2
  go_ret
  have hR := HR.out
  subst hR
  have hl6 := H5.out.2.1.new HF6.out
  have ho6 := H5.out.2.1.newO HF6.out
  exact ⟨rfl, lp, ⟨ho6.host H5.out.2.1 H5.out.1, _, _, _, _, _, hl6⟩, H5.out.2.2.trans (ho6.below H5.out.2.1)⟩
end Go.Proofs.YtnnhihkeffljbaaGreatDoor
