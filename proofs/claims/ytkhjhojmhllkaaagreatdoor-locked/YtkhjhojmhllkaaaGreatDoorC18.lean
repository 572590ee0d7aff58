import Derived.Test.YtkhjhojmhllkaaaGreatDoorC17
import Derived.Test.YtkhjhojmhllkaaaGreatDoorC15
import Derived.Test.YtkhjhojmhllkaaaGreatDoorC05
import Derived.Test.YtkhjhojmhllkaaaGreatDoorC07
import Derived.RangeFuncNested
import Derived.Test.YtkhjhojmhllkaaaGreatDoorC06
import Derived.BigRegionIn
/- HOSTS: before, after, and a log's calls. -/
namespace Go.Proofs.YtkhjhojmhllkaaaGreatDoor
open Go.RowKit
open Sc

abbrev hostO (p : Nat) (up : Bool) (lv : Value) : Obj := .cells #[.int .i64 1, .int .i64 0, .pointer (some ⟨p, 0, none⟩), .bool up, lv, .pointer none, .pointer none, .pointer none] 76
abbrev fallV (a b c d : Int) : Value := .agg #[.int .i64 a, .int .i64 b, .int .i64 c, .int .i64 d]
def ADisk.knob (d : ADisk) (a b : Int) : ADisk := { d with left := a, full := b }
set_option maxRecDepth 100000 in
set_option maxHeartbeats 1000000 in
theorem before_any (hp p bD bN : Nat) (pv lv : Value) (up dn : Bool) (l f a b c k : Int) (w : World) (hh : w.heap[hp]? = some (hostO p up lv)) (hd : w.heap[p]? = some (dskO bD bN pv l f dn)) :
    Calls Tryz.prog 34 #[.pointer (some ⟨hp, 0, none⟩), fallV a b c k] w fun e w' => e = .returned (.tuple #[]) ∧ w'.heap[p]? = some (dskO bD bN pv a b dn) ∧ Fr [p] w w' := by
  have hhl : hp < w.heap.size := (Array.getElem?_eq_some_iff.1 hh).1
  have hpl : p < w.heap.size := (Array.getElem?_eq_some_iff.1 hd).1
  have hne : ¬ hp = p := by intro e; subst e; rw [hh] at hd; cases hd
  have hne2 : ¬ p = hp := fun e => hne e.symm
  have hz1 : ¬ p = w.heap.size := by omega
  have hz2 : ¬ w.heap.size = p := by omega
  obtain ⟨W, hW⟩ : ∃ W, W = w.alloc (.cells #[.int .i64 a, .int .i64 b, .int .i64 c, .int .i64 k] 28) := ⟨_, rfl⟩
  have hhW : W.heap[hp]? = some (hostO p up lv) := by rw [hW, Below.heap_alloc w _ hp hhl]; exact hh
  have hdW : W.heap[p]? = some (dskO bD bN pv l f dn) := by rw [hW, Below.heap_alloc w _ p hpl]; exact hd
  have hfW : W.heap[w.heap.size]? = some (.cells #[.int .i64 a, .int .i64 b, .int .i64 c, .int .i64 k] 28 (0, 0)) := by rw [hW]; exact heap_alloc_new w _
  have c2 := blk_cell hhW 2
  have c3 := blk_cell hdW 3
  have c4 := blk_cell hdW 4
  have c5 := blk_cell hdW 5
  have f3 := blk_free hdW 3
  have f4 := blk_free hdW 4
  have x0 := blk_cell hfW 0
  have x1 := blk_cell hfW 1
  simp at c2 c3 c4 c5 x0 x1
  have HD : Hid (W.heap[p]? = some (dskO bD bN pv l f dn)) := hdW
  have HF : Hid (Fr [p] w W) := by rw [hW]; exact (Fr.refl [p] w).alloc _
  clear hd hh hhW hdW hfW
  clear c5
  go_enter Tryz.func34, Tryz.ntmps34
  go_wp2
  rw [← hW]
  clear hW
  go_region_held3 (fun w' => w'.cell? ⟨hp, 2, none⟩ = some (.pointer (some ⟨p, 0, none⟩)) ∧ w'.cell? ⟨w.heap.size, 0, none⟩ = some (.int .i64 a) ∧ w'.cell? ⟨w.heap.size, 1, none⟩ = some (.int .i64 b)) (simp [setCell_far, *]) (fail)
  go_end0
  refine ⟨rfl, ?_, HF.out.trans (((Fr.set1 (by simp) _ _).trans (Fr.set1 (by simp) _ _)).drew)⟩
  have := blk_set (blk_set HD.out 3 (.int .i64 a)) 4 (.int .i64 b)
  simp at this
  exact this
set_option maxRecDepth 100000 in
set_option maxHeartbeats 1000000 in
theorem after_well (hp p bD bN : Nat) (pv lv : Value) (up : Bool) (l f a b c k : Int) (w : World) (hh : w.heap[hp]? = some (hostO p up lv)) (hd : w.heap[p]? = some (dskO bD bN pv l f false)) :
    Calls Tryz.prog 36 #[.pointer (some ⟨hp, 0, none⟩), fallV a b c k] w fun e w' => e = .returned (.tuple #[]) ∧ w'.heap[p]? = some (dskO bD bN pv (-1) (-1) false) ∧ Fr [p] w w' := by
  have hhl : hp < w.heap.size := (Array.getElem?_eq_some_iff.1 hh).1
  have hpl : p < w.heap.size := (Array.getElem?_eq_some_iff.1 hd).1
  have hne : ¬ hp = p := by intro e; subst e; rw [hh] at hd; cases hd
  have hne2 : ¬ p = hp := fun e => hne e.symm
  have hz1 : ¬ p = w.heap.size := by omega
  have hz2 : ¬ w.heap.size = p := by omega
  obtain ⟨W, hW⟩ : ∃ W, W = w.alloc (.cells #[.int .i64 a, .int .i64 b, .int .i64 c, .int .i64 k] 28) := ⟨_, rfl⟩
  have hhW : W.heap[hp]? = some (hostO p up lv) := by rw [hW, Below.heap_alloc w _ hp hhl]; exact hh
  have hdW : W.heap[p]? = some (dskO bD bN pv l f false) := by rw [hW, Below.heap_alloc w _ p hpl]; exact hd
  have hfW : W.heap[w.heap.size]? = some (.cells #[.int .i64 a, .int .i64 b, .int .i64 c, .int .i64 k] 28 (0, 0)) := by rw [hW]; exact heap_alloc_new w _
  have c2 := blk_cell hhW 2
  have c3 := blk_cell hdW 3
  have c4 := blk_cell hdW 4
  have c5 := blk_cell hdW 5
  have f3 := blk_free hdW 3
  have f4 := blk_free hdW 4
  have x0 := blk_cell hfW 0
  have x1 := blk_cell hfW 1
  simp at c2 c3 c4 c5 x0 x1
  have HD : Hid (W.heap[p]? = some (dskO bD bN pv l f false)) := hdW
  have HF : Hid (Fr [p] w W) := by rw [hW]; exact (Fr.refl [p] w).alloc _
  clear hd hh hhW hdW hfW
  go_enter Tryz.func36, Tryz.ntmps36
  have d2 := c2
  have d5 := c5
  rw [hW] at d2 d5
  go_wp2
  rw [← hW]
  clear hW d2 d5
  go_region_held3 (fun w' => w'.cell? ⟨hp, 2, none⟩ = some (.pointer (some ⟨p, 0, none⟩))) (simp [setCell_far, *]) (fail)
  go_end0
  refine ⟨rfl, ?_, HF.out.trans (((Fr.set1 (by simp) _ _).trans (Fr.set1 (by simp) _ _)).drew)⟩
  have := blk_set (blk_set HD.out 3 (.int .i64 (-1))) 4 (.int .i64 (-1))
  simp at this
  exact this
section
variable {w w' : World} {B hp lp p bD bN n nD nN : Nat} {pv sv rv : Value} {l : ALog} {d : ADisk}
theorem LogIn.knob (h : LogIn w B lp p bD bN pv sv rv l d n nD nN) (a b : Int) (hf : Fr [p] w w') (hb : w'.heap[p]? = some (dskO bD bN pv a b d.down)) :
    LogIn w' B lp p bD bN pv sv rv l (d.knob a b) n nD nN ∧ OFr lp p w w' := by
  have h1 : LogIn w' B lp p bD bN pv sv rv l (d.knob a b) n nD nN := h.turned (h.disk.turn hf a b d.down hb) hf (fun k hk _ => h.sep k (by simp at hk; simp [hk])) (Nat.le_refl _)
  exact ⟨h1, h.ofr h1 hf (fun k hk _ => by simp at hk; simp [hk]) (.inl rfl) (Near.refl _ _) (Near.refl _ _) (Near.refl _ _)⟩
theorem OFr.low (hf : OFr lp p w w') (h : LogIn w B lp p bD bN pv sv rv l d n nD nN) {k : Nat} (hk : k < B) : w'.heap[k]? = w.heap[k]? :=
  hf.block k (Nat.lt_of_lt_of_le hk h.disk.base.2.2.2) (fun ho => by have := h.ge ho; omega)
theorem OFr.met (hf : OFr lp p w w') (h : LogIn w B lp p bD bN pv sv rv l d n nD nN) (hB : 2 ≤ B) (hm : Met w) : Met w' := by
  unfold Met at *
  rw [World.cell?_of_block (a := ⟨0, 0, none⟩) (hf.low h (by show 0 < B; omega))]; exact hm
theorem OFr.pows (hf : OFr lp p w w') (h : LogIn w B lp p bD bN pv sv rv l d n nD nN) (hB : 2 ≤ B) (hm : Pows w) : Pows w' :=
  hm.of_block (hf.low h (by omega))
theorem OFr.host (hf : OFr lp p w w') (h : LogIn w B lp p bD bN pv sv rv l d n nD nN) {up : Bool} {lv : Value} (hh : w.heap[hp]? = some (hostO p up lv)) : w'.heap[hp]? = some (hostO p up lv) :=
  (hf.block hp (Array.getElem?_eq_some_iff.1 hh).1 (h.free hh (by decide) (by decide) (by decide) (by decide) (by decide))).trans hh
end
/-- an open host of a log -/
structure HostIn (w : World) (B hp lp p bD bN : Nat) (l : ALog) (d : ADisk) (n : Nat) : Prop where
  blk : w.heap[hp]? = some (hostO p true (.pointer (some ⟨lp, 0, none⟩)))
  log : ∃ pv sv rv nD nN, LogIn w B lp p bD bN pv sv rv l d n nD nN
/-- the answer of Told -/
theorem told_any (c : Nat) (w : World) (hg : Met w) : Calls Tryz.prog 37 #[errN c] w fun e w' => e = .returned (.int .i64 (c : Int)) ∧ Fr [] w w' := by
  by_cases hc : c = 0
  · subst hc
    rw [errN_ok]
    refine (told_nil w).mono ?_
    rintro e w1 ⟨rfl, hb⟩
    exact ⟨rfl, Fr.of_below hb _⟩
  · rw [errN_no hc]
    refine (told_err (c : Int) w hg).mono ?_
    rintro e w1 ⟨rfl, hb⟩
    exact ⟨rfl, Fr.of_below hb _⟩
end Go.Proofs.YtkhjhojmhllkaaaGreatDoor
/- LEDGERS: Note, Keep. -/
namespace Go.Proofs.YtkhjhojmhllkaaaGreatDoor
open Go.RowKit
open Sc

abbrev ledO (lp : Nat) : Obj := .cells #[.pointer (some ⟨lp, 0, none⟩)] 205
theorem OFr.led {w w' : World} {B lp p bD bN n nD nN q : Nat} {pv sv rv : Value} {l : ALog} {d : ADisk} (hf : OFr lp p w w') (h : LogIn w B lp p bD bN pv sv rv l d n nD nN) (hh : w.heap[q]? = some (ledO lp)) : w'.heap[q]? = some (ledO lp) :=
  (hf.block q (Array.getElem?_eq_some_iff.1 hh).1 (h.free hh (by decide) (by decide) (by decide) (by decide) (by decide))).trans hh
theorem lappend_any (B lp p bD bN n nD nN kind : Nat) (pv sv rv : Value) (l : ALog) (d : ADisk) (s : ByteArray) (w : World) (h : LogIn w B lp p bD bN pv sv rv l d n nD nN) (hk : kind < 256) (hn : n + 3 < 67108864) (hB : 2 ≤ B) (hsg : l.filled < 600 → l.segs ≠ []) (hpow : Pows w) :
    Calls Tryz.prog 100 #[.pointer (some ⟨lp, 0, none⟩), .int .u8 (kind : Int), .string s] w (AppPost B lp p bD bN (n + 3) (l.append d kind s) w) := by
  by_cases hs : 255 < s.size
  · refine (lappend_no B lp p bD bN n nD nN kind pv sv rv l d s w h hs (by omega)).mono ?_
    rintro e w2 ⟨he, ⟨pv2, sv2, rv2, nD2, nN2, hl2⟩, ho2⟩
    exact ⟨he, ⟨pv2, sv2, rv2, nD2, nN2, hl2.mores (by omega) (by omega)⟩, ho2⟩
  · exact lappend_yes B lp p bD bN n nD nN kind pv sv rv l d s w h (by omega) hk (by omega) hB hsg hpow
/-- what Note leaves, and says -/
def ALog.note (l : ALog) (d : ADisk) (kind : Nat) (s : ByteArray) : ALog × ADisk × Nat := ((l.append d kind s).1, (l.append d kind s).2.1, (l.append d kind s).2.2.2)
set_option maxRecDepth 100000 in
set_option maxHeartbeats 2000000 in
theorem note_any (B gp lp p bD bN n nD nN kind : Nat) (pv sv rv : Value) (l : ALog) (d : ADisk) (s : ByteArray) (w : World) (hg : w.heap[gp]? = some (ledO lp)) (h : LogIn w B lp p bD bN pv sv rv l d n nD nN) (hk : kind < 256) (hn : n + 3 < 67108864) (hB : 2 ≤ B) (hsg : l.filled < 600 → l.segs ≠ []) (hpow : Pows w) :
    Calls Tryz.prog 90 #[.pointer (some ⟨gp, 0, none⟩), .int .u8 (kind : Int), .string s] w (ErrPost B lp p bD bN (n + 3) (l.note d kind s) w) := by
  have c0 := blk_cell hg 0
  simp at c0
  have HC : Hid (Calls Tryz.prog 100 #[.pointer (some ⟨lp, 0, none⟩), .int .u8 (kind : Int), .string s] w (AppPost B lp p bD bN (n + 3) (l.append d kind s) w)) := lappend_any B lp p bD bN n nD nN kind pv sv rv l d s w h hk hn hB hsg hpow
  clear h hg
  go_enter Tryz.func90, Tryz.ntmps90
  go_wp2_with fail
  refine HC.out.mono ?_
  rintro e w1 ⟨rfl, hl1, ho1⟩
  have H1 : Hid ((∃ pv sv rv nD nN, LogIn w1 B lp p bD bN pv sv rv (l.append d kind s).1 (l.append d kind s).2.1 (n + 3) nD nN) ∧ OFr lp p w w1) := ⟨hl1, ho1⟩
  clear hl1 ho1
  go_wp2
  go_ret
  exact ⟨rfl, H1.out.1, H1.out.2⟩
/-- what Keep leaves, and says -/
def ALog.keep (l : ALog) (d : ADisk) (kind : Nat) (s : ByteArray) : ALog × ADisk × Nat :=
  if (l.note d kind s).2.2 = 0 then (l.note d kind s).1.force (l.note d kind s).2.1 else l.note d kind s
set_option maxRecDepth 100000 in
set_option maxHeartbeats 2000000 in
theorem keep_any (B gp lp p bD bN n nD nN kind : Nat) (pv sv rv : Value) (l : ALog) (d : ADisk) (s : ByteArray) (w : World) (hg : w.heap[gp]? = some (ledO lp)) (h : LogIn w B lp p bD bN pv sv rv l d n nD nN) (hk : kind < 256) (hn : n + 3 < 67108864) (hB : 2 ≤ B) (hsg : l.filled < 600 → l.segs ≠ []) (hpow : Pows w) :
    Calls Tryz.prog 92 #[.pointer (some ⟨gp, 0, none⟩), .int .u8 (kind : Int), .string s] w (ErrPost B lp p bD bN (n + 3) (l.keep d kind s) w) := by
  have HC : Hid (Calls Tryz.prog 90 #[.pointer (some ⟨gp, 0, none⟩), .int .u8 (kind : Int), .string s] w (ErrPost B lp p bD bN (n + 3) (l.note d kind s) w)) := note_any B gp lp p bD bN n nD nN kind pv sv rv l d s w hg h hk hn hB hsg hpow
  have HG : Hid (w.heap[gp]? = some (ledO lp) ∧ LogIn w B lp p bD bN pv sv rv l d n nD nN) := ⟨hg, h⟩
  clear h hg
  go_enter Tryz.func92, Tryz.ntmps92
  go_wp2_with fail
  refine HC.out.mono ?_
  rintro e w1 ⟨rfl, ⟨pv1, sv1, rv1, nD1, nN1, hl1⟩, ho1⟩
  have hg1 := ho1.led HG.out.2 HG.out.1
  have c0 := blk_cell hg1 0
  simp at c0
  have H1 : Hid (LogIn w1 B lp p bD bN pv1 sv1 rv1 (l.note d kind s).1 (l.note d kind s).2.1 (n + 3) nD1 nN1 ∧ OFr lp p w w1) := ⟨hl1, ho1⟩
  clear hl1 ho1 hg1
  by_cases hc : (l.note d kind s).2.2 = 0
  · have e : l.keep d kind s = (l.note d kind s).1.force (l.note d kind s).2.1 := by unfold ALog.keep; rw [if_pos hc]
    rw [hc, errN_ok]
    go_wp2_with fail
    refine (force_any B lp p bD bN (n + 3) nD1 nN1 pv1 sv1 rv1 _ _ w1 H1.out.1 (by omega)).mono ?_
    rintro e w2 ⟨rfl, hl2, ho2⟩
    have H2 : Hid ((∃ pv sv rv nD nN, LogIn w2 B lp p bD bN pv sv rv ((l.note d kind s).1.force (l.note d kind s).2.1).1 ((l.note d kind s).1.force (l.note d kind s).2.1).2.1 (n + 3) nD nN) ∧ OFr lp p w w2) := ⟨hl2, H1.out.2.trans ho2⟩
    clear hl2 ho2
    go_wp2
    go_ret
    rw [e]
    exact ⟨rfl, H2.out.1, H2.out.2⟩
  · have e : l.keep d kind s = l.note d kind s := by unfold ALog.keep; rw [if_neg hc]
    rw [errN_no hc]
    go_wp2
    go_ret
    rw [e]
    exact ⟨by rw [errN_no hc]; rfl, ⟨pv1, sv1, rv1, nD1, nN1, H1.out.1⟩, H1.out.2⟩
end Go.Proofs.YtkhjhojmhllkaaaGreatDoor
/- WALKS THROUGH MAPS BY THEIR KEYS: small facts. -/
namespace Go.Proofs.YtkhjhojmhllkaaaGreatDoor
open Go.RowKit Go.Maps
open Sc

theorem cell_blk0 {w : World} {p : Nat} {c : Array Value} {t : TypeId} (h : w.heap[p]? = some (.cells c t (0, 0))) (i : Nat) : w.cell? ⟨p, i, none⟩ = c[i]? := by simp [World.cell?, h]
theorem own_pos0 {w : World} {B n : Nat} {e : TypeId} {k : Nat} {v : Value} {xs : List Value} (h : w.ownsRow B e k v n xs) (hn : 0 < n) : ∃ g cap, v = .slice (some ⟨g, 0, none⟩) n cap := by
  rcases h.2 with ⟨_, h3⟩ | ⟨g, cap, cur, rfl, _⟩
  · omega
  · exact ⟨g, cap, rfl⟩
theorem own_form0 {w : World} {B n : Nat} {e : TypeId} {k : Nat} {v : Value} {xs : List Value} (h : w.ownsRow B e k v n xs) : ∃ p cap, v = .slice p n cap := by
  rcases h.2 with ⟨rfl, rfl⟩ | ⟨g, cap, cur, rfl, _⟩
  · exact ⟨_, _, rfl⟩
  · exact ⟨_, _, rfl⟩
theorem own_base0 {w : World} {B B' n : Nat} {e : TypeId} {k : Nat} {v : Value} {xs : List Value} (h : w.ownsRow B e k v n xs) (hB : B' ≤ B) : w.ownsRow B' e k v n xs := by
  refine ⟨h.1, ?_⟩
  rcases h.2 with h2 | ⟨g, cap, cur, hv, hb, r⟩
  · exact .inl h2
  · exact .inr ⟨g, cap, cur, hv, Nat.le_trans hB hb, r⟩
theorem cells_new (w : World) (cs : Array Value) (t : TypeId) : ∀ j u, cs.toList[j]? = some u → (w.alloc (.cells cs t)).cell? ((⟨w.heap.size, 0, none⟩ : Addr).add j) = some u := by
  intro j u hj
  have hn : (w.alloc (.cells cs t)).heap[w.heap.size]? = some (.cells cs t (0, 0)) := World.alloc_heap_new w _
  have : ((⟨w.heap.size, 0, none⟩ : Addr).add j) = ⟨w.heap.size, j, none⟩ := by simp [Addr.add]; exact fun h => h.symm
  rw [this, cell_blk0 hn]
  simpa using hj
/-- what a round keeps: blocks of these two types -/
structure KpT (t1 t2 : TypeId) (n₀ : Nat) (A B : World) : Prop where
  below : Below n₀ A B
  same : ∀ (k : Nat) (c : Array Value) (t : TypeId), (t = t1 ∨ t = t2) → A.heap[k]? = some (Obj.cells c t (0, 0)) → B.heap[k]? = A.heap[k]?
theorem KpT.trans {t1 t2 : TypeId} {n₀ : Nat} {A B C : World} (h : KpT t1 t2 n₀ A B) (k : KpT t1 t2 n₀ B C) : KpT t1 t2 n₀ A C :=
  ⟨h.below.trans k.below, fun i c t ht hi => by have e := h.same i c t ht hi; exact (k.same i c t ht (e.trans hi)).trans e⟩
theorem KpT.book {t1 t2 : TypeId} {n₀ : Nat} {w : World} (hn : n₀ ≤ w.heap.size) (W : World) (l : Nat) (o o' : Obj) (hl : w.heap.size ≤ l) (h : W.heap[l]? = some o) (hc : o.isCells = false) (hw : o.isWalk = false) : KpT t1 t2 n₀ W (W.putObj l o') :=
  ⟨belowK_b hn W l o o' hl h hc hw, fun k _ _ _ hk => World.putObj_heap_other (fun e => by rw [e, h] at hk; cases hk; cases hc)⟩
theorem KpT.alloc {t1 t2 : TypeId} {n₀ : Nat} (W : World) (hn : n₀ ≤ W.heap.size) (o : Obj) : KpT t1 t2 n₀ W (W.alloc o) :=
  ⟨(Below.refl n₀ W).alloc hn o, fun k _ _ _ hk => Below.heap_alloc _ _ k (Array.getElem?_eq_some_iff.1 hk).1⟩
/-- the row that a variable's slice owns -/
def RowOf (box : Nat) (A : World) (k : Nat) : Prop := ∃ v, A.cell? ⟨box, 0, none⟩ = some v ∧ v.ownBlock = some k
/-- what a round keeps: blocks of these two types, but the row that a variable's slice owns -/
structure KpB (t1 t2 : TypeId) (n₀ box : Nat) (A B : World) : Prop where
  below : Below n₀ A B
  same : ∀ (k : Nat) (c : Array Value) (t : TypeId), (t = t1 ∨ t = t2) → A.heap[k]? = some (Obj.cells c t (0, 0)) → ¬ RowOf box A k → B.heap[k]? = A.heap[k]?
  stay : ∀ k, k < A.heap.size → RowOf box B k → RowOf box A k
theorem KpB.trans {t1 t2 : TypeId} {n₀ box : Nat} {A B C : World} (h : KpB t1 t2 n₀ box A B) (k : KpB t1 t2 n₀ box B C) : KpB t1 t2 n₀ box A C :=
  ⟨h.below.trans k.below, fun i c t ht hi hn => by
    have hl := (Array.getElem?_eq_some_iff.1 hi).1
    have e := h.same i c t ht hi hn
    exact (k.same i c t ht (e.trans hi) (fun hr => hn (h.stay i hl hr))).trans e,
   fun i hi hr => h.stay i hi (k.stay i (Nat.lt_of_lt_of_le hi h.below.size) hr)⟩
theorem KpB.book {t1 t2 : TypeId} {n₀ box : Nat} {w : World} (hn : n₀ ≤ w.heap.size) (hb : box < w.heap.size) (W : World) (l : Nat) (o o' : Obj) (hl : w.heap.size ≤ l) (h : W.heap[l]? = some o) (hc : o.isCells = false) (hw : o.isWalk = false) : KpB t1 t2 n₀ box W (W.putObj l o') :=
  ⟨belowK_b hn W l o o' hl h hc hw, fun k _ _ _ hk _ => World.putObj_heap_other (fun e => by rw [e, h] at hk; cases hk; cases hc), fun k _ hr => by
    obtain ⟨v, h1, h2⟩ := hr
    refine ⟨v, ?_, h2⟩
    rw [← h1]
    exact (World.cell?_of_block (a := ⟨box, 0, none⟩) (World.putObj_heap_other (show box ≠ l by omega))).symm⟩
theorem KpB.alloc {t1 t2 : TypeId} {n₀ box : Nat} (W : World) (hn : n₀ ≤ W.heap.size) (hb : box < W.heap.size) (o : Obj) : KpB t1 t2 n₀ box W (W.alloc o) :=
  ⟨(Below.refl n₀ W).alloc hn o, fun k _ _ _ hk _ => Below.heap_alloc _ _ k (Array.getElem?_eq_some_iff.1 hk).1, fun k _ hr => by
    obtain ⟨v, h1, h2⟩ := hr
    refine ⟨v, ?_, h2⟩
    rw [← h1]
    exact (World.cell?_of_block (a := ⟨box, 0, none⟩) (Below.heap_alloc _ _ box hb)).symm⟩
theorem KpB.refl {t1 t2 : TypeId} {n₀ box : Nat} (W : World) : KpB t1 t2 n₀ box W W := ⟨Below.refl _ _, fun _ _ _ _ _ _ => rfl, fun _ _ h => h⟩
/-- a slice that a variable holds was appended to -/
theorem KpB.appended {t1 t2 t : TypeId} {n₀ box : Nat} {W w1 : World} {v v' : Value} {tmp : Obj} (hv : Boxed W box t v) (ht1 : t ≠ t1) (ht2 : t ≠ t2) (hg : (W.alloc tmp).grownBy w1 v.ownBlock) (hat : v'.ownBlock = v.ownBlock ∨ v'.ownBlock = some (W.alloc tmp).heap.size) (hb : Below n₀ W (w1.setCell ⟨box, 0, none⟩ v')) (hv2 : Boxed (w1.setCell ⟨box, 0, none⟩ v') box t v') : KpB t1 t2 n₀ box W (w1.setCell ⟨box, 0, none⟩ v') :=
  ⟨hb, fun k c t' ht hk hn => by
    have hl := (Array.getElem?_eq_some_iff.1 hk).1
    have hne : k ≠ box := fun e => by
      subst e
      rw [show W.heap[k]? = _ from hv] at hk
      have e2 := (Obj.cells.inj (Option.some.inj hk)).2.1
      rcases ht with rfl | rfl
      · exact ht1 e2
      · exact ht2 e2
    refine (Below.heap_setCell _ _ _ k (fun e => hne (by simpa using e))).trans ((hg.block k (by simp; omega) (fun e => hn ⟨v, hv.cell, e.symm⟩)).trans (Below.heap_alloc _ _ k hl)),
   fun k hk hr => by
    obtain ⟨u, h1, h2⟩ := hr
    rw [hv2.cell] at h1
    cases h1
    rcases hat with e | e
    · exact ⟨v, hv.cell, by rw [← e]; exact h2⟩
    · rw [e] at h2
      simp at h2
      omega⟩
end Go.Proofs.YtkhjhojmhllkaaaGreatDoor
/- LEDGERS: a log's walk, as a ledger takes it; lastCheckpoint. -/
namespace Go.Proofs.YtkhjhojmhllkaaaGreatDoor
open Go.RowKit Go.Shelf
open Sc

/-- what a round keeps: these blocks -/
structure KpS (S : List Nat) (A B : World) : Prop where
  size : A.heap.size ≤ B.heap.size
  same : ∀ k ∈ S, k < A.heap.size → B.heap[k]? = A.heap[k]?
theorem KpS.trans {S : List Nat} {A B C : World} (h : KpS S A B) (k : KpS S B C) : KpS S A C :=
  ⟨Nat.le_trans h.size k.size, fun i hi hl => (k.same i hi (Nat.lt_of_lt_of_le hl h.size)).trans (h.same i hi hl)⟩
theorem KpS.book {S : List Nat} {w : World} (hS : ∀ k ∈ S, k < w.heap.size) (W : World) (l : Nat) (o o' : Obj) (hl : w.heap.size ≤ l) (_ : W.heap[l]? = some o) (_ : o.isCells = false) (_ : o.isWalk = false) : KpS S W (W.putObj l o') :=
  ⟨by simp, fun k hk _ => World.putObj_heap_other (fun e => by have := hS k hk; omega)⟩
theorem KpS.alloc {S : List Nat} (W : World) (o : Obj) : KpS S W (W.alloc o) := ⟨by simp, fun k _ hl => Below.heap_alloc _ _ k hl⟩
theorem KpS.refl {S : List Nat} (W : World) : KpS S W W := ⟨Nat.le_refl _, fun _ _ _ => rfl⟩
theorem KpS.below {S : List Nat} {n : Nat} {A B : World} (h : Below n A B) (hS : ∀ k ∈ S, k < n) : KpS S A B := ⟨h.size, fun k hk _ => h.block k (hS k hk)⟩
theorem KpS.nil {A B : World} (h : A.heap.size ≤ B.heap.size) : KpS [] A B := ⟨h, fun k hk => by cases hk⟩
/-- the blocks of a slice of records -/
def rowsOf (rv : Value) : List Nat := rv.ownBlock.toList
set_option maxRecDepth 100000 in
set_option maxHeartbeats 2000000 in
theorem all1K_in (n : Nat) (hn : 1 ≤ n) (l Bn lp g cap : Nat) (rs : List Rec) (hlen : rs.length ≤ 67108864) (J Jx : List Rec → World → Prop)
    (hJ : ∀ s W W', J s W → W.grownBy W' none → J s W')
    (hY : ∀ pre x W, J pre W → pre.length < rs.length → x ∈ rs → YieldAt Fence.wide (n - 1) Tryz.prog l #[recA x] W fun e W' =>
      (e = .returned (.bool true) ∧ J (pre ++ [x]) W' ∧ KpS [g] W W') ∨ (e = .returned (.bool false) ∧ Jx (pre ++ [x]) W'))
    (W : World) (hgl : g < W.heap.size) (hBn : W.cell? ⟨Bn, 0, none⟩ = some (.pointer (some ⟨lp, 0, none⟩))) (h3 : W.cell? ⟨lp, 3, none⟩ = some (.slice (some ⟨g, 0, none⟩) rs.length cap)) (hR : RecsIn W g rs) (h0 : J [] W) :
    CallsIn Fence.wide n Tryz.prog 140 #[.func (.yield l) #[] #[], .pointer (some ⟨Bn, 0, none⟩)] W fun e W' => (∃ v, e = .returned v) ∧
      ((∃ ys, ys = rs ∧ J ys W') ∨ (∃ pre, pre <+: rs ∧ Jx pre W')) := by
  obtain ⟨m, hm⟩ : ∃ m, m = rs.length := ⟨_, rfl⟩
  rw [← hm] at h3 hlen
  have HM : Hid (m = rs.length) := hm
  have hro : Fence.wide.round = none := rfl
  clear hm
  refine callsIn_of_wp Tryz.func140 rfl trivial ?_ hro
  simp only [Tryz.ntmps140, List.size_toArray, List.length_cons, List.length_nil, Nat.reduceAdd, Nat.reduceSub, Array.replicate_succ, Array.replicate_zero, List.push_toArray, List.append_toArray, List.nil_append, List.cons_append]
  gi_wp2
  gi_loopw [10] (fun i wr => ∃ k : Nat, k ≤ m ∧ i = .int .i64 k ∧ J (rs.take k) wr ∧ KpS [g] W wr)
    (fun i _ => m - (intOf i).toNat)
  case atStart => exact ⟨0, Nat.zero_le _, rfl, by simpa using h0, KpS.refl _⟩
  case round =>
    obtain ⟨k, hk, rfl, hJs, hnx⟩ := hrel
    by_cases hlt : k < m
    · obtain ⟨r, hr⟩ : ∃ r, rs[k]? = some r := ⟨_, List.getElem?_eq_getElem (by have := HM.out; omega)⟩
      have hbg := hnx.same g (by simp) hgl
      obtain ⟨q1, q2, q3⟩ := hR k r hr
      have r1 := (World.cell?_of_block (a := ⟨g, k * 3, none⟩) hbg).trans q1
      have r2 := (World.cell?_of_block (a := ⟨g, k * 3 + 1, none⟩) hbg).trans q2
      have r3 := (World.cell?_of_block (a := ⟨g, k * 3 + 2, none⟩) hbg).trans q3
      obtain ⟨W2, hW2⟩ : ∃ W2, W2 = wr.alloc (.cells #[.int .u64 (r.lsn : Int), .int .u8 (r.kind : Int), .string (str r.pay)] 103) := ⟨_, rfl⟩
      have hg2 : wr.grownBy W2 none := by rw [hW2]; exact World.grownBy_alloc wr _ none
      have hJ2 := hJ _ _ _ hJs hg2
      have hb2 : KpS [g] W W2 := by rw [hW2]; exact hnx.trans (KpS.alloc _ _)
      obtain ⟨fn, tmps, assign, body, hy, hRR⟩ := hY _ r W2 hJ2 (by rw [List.length_take]; have := HM.out; omega) (List.mem_of_getElem? hr)
      subst hW2
      clear q1 q2 q3 hbg
      gi_wp2
      refine hRR.mono ?_
      rintro e W3 (⟨rfl, hJ3, hk3⟩ | ⟨rfl, hJx3⟩)
      · gi_wp2
        go_roundw
        case rel => exact ⟨k + 1, by omega, by simp, by rw [take_succ_at hr]; exact hJ3, hb2.trans hk3⟩
        case measure => simp [intOf]; omega
      · gi_wp2
        refine bodyPost_ret (results_none rfl _ _ _) rfl ?_
        exact ⟨⟨_, rfl⟩, .inr ⟨_, by rw [← take_succ_at hr]; exact List.take_prefix _ _, hJx3⟩⟩
    · obtain rfl : k = m := by omega
      gi_wp2
      go_end0
      exact ⟨⟨_, rfl⟩, .inl ⟨_, by rw [HM.out, List.take_length], hJs⟩⟩
theorem allK_stops (n : Nat) (hn : 1 ≤ n) (Bn lp : Nat) (rv : Value) (rs : List Rec) (w : World) (hlen : rs.length ≤ 67108864) (hBl : Bn < w.heap.size) (hlp : lp < w.heap.size)
    (hc : w.cell? ⟨Bn, 0, none⟩ = some (.pointer (some ⟨lp, 0, none⟩))) (h3 : w.cell? ⟨lp, 3, none⟩ = some rv) (hL : RecsSl w.heap.size w rv rs) :
    SeqStopsK Fence.wide n Tryz.prog 140 #[.pointer (some ⟨Bn, 0, none⟩)] (fun x : { x : Rec // x ∈ rs } => #[recA x.1]) (KpS (rowsOf rv)) (fun ys => ys.map (·.1) = rs) (fun pre => pre.map (·.1) <+: rs) rs.length w := fun l J Jx W hW hJ _ hY h0 => by
  have c1 := (hW.cell (p := ⟨Bn, 0, none⟩) hBl).trans hc
  have c2 := (hW.cell (p := ⟨lp, 3, none⟩) hlp).trans h3
  rcases hL.below (hW.mono (Nat.le_refl _)) with ⟨rfl, rfl⟩ | ⟨g, cap, rfl, hg, hr⟩
  · refine (all1_nil Fence.wide n trivial rfl l Bn lp (fun _ W => J [] W) W c1 c2 h0).mono ?_
    rintro e W' ⟨he, hj⟩
    exact ⟨he, .inl ⟨[], rfl, hj⟩⟩
  · have h := all1K_in n hn l Bn lp g cap rs hlen (fun pre W => ∃ pre' : List { x : Rec // x ∈ rs }, pre'.map (·.1) = pre ∧ J pre' W) (fun pre W => ∃ pre' : List { x : Rec // x ∈ rs }, pre'.map (·.1) = pre ∧ Jx pre' W)
      (fun s A B hs hgr => by obtain ⟨p', e, hj⟩ := hs; exact ⟨p', e, hJ p' A B none hj hgr (fun r e => by cases e)⟩)
      (fun pre x W1 hj hlt hx => by
        obtain ⟨p', e, hj⟩ := hj
        obtain ⟨fn, tmps, assign, body, hy, hR⟩ := hY p' ⟨x, hx⟩ W1 hj (by rw [← e, List.length_map] at hlt; exact hlt)
        refine ⟨fn, tmps, assign, body, hy, hR.mono ?_⟩
        rintro e2 W' (⟨r1, r2, r3⟩ | ⟨r1, r2⟩)
        · exact .inl ⟨r1, ⟨p' ++ [⟨x, hx⟩], by simp [e], r2⟩, by simpa [rowsOf, Value.ownBlock] using r3⟩
        · exact .inr ⟨r1, ⟨p' ++ [⟨x, hx⟩], by simp [e], r2⟩⟩)
      W (Nat.lt_of_lt_of_le hg hW.size) c1 c2 hr ⟨[], rfl, h0⟩
    refine h.mono ?_
    rintro e W' ⟨he, ⟨ys, rfl, p', e2, hj⟩ | ⟨pre, hp, p', e2, hj⟩⟩
    · exact ⟨he, .inl ⟨p', e2, hj⟩⟩
    · exact ⟨he, .inr ⟨p', by show _ <+: rs; rw [e2]; exact hp, hj⟩⟩
end Go.Proofs.YtkhjhojmhllkaaaGreatDoor
/- LEDGERS: lastCheckpoint, over a log without one. -/
namespace Go.Proofs.YtkhjhojmhllkaaaGreatDoor
open Go.RowKit Go.Shelf
open Sc

/-- no record of a checkpoint -/
def PlainR (rs : List Rec) : Prop := ∀ r ∈ rs, r.kind < 128 ∧ 1 ≤ r.lsn
/-- a log lies in memory with these records -/
structure LogRecs (w : World) (lp : Nat) (rv : Value) (rs : List Rec) : Prop where
  lt : lp < w.heap.size
  cell : w.cell? ⟨lp, 3, none⟩ = some rv
  recs : RecsSl w.heap.size w rv rs
theorem LogRecs.below {w w' : World} {lp : Nat} {rv : Value} {rs : List Rec} (h : LogRecs w lp rv rs) (hb : Below w.heap.size w w') : LogRecs w' lp rv rs :=
  ⟨Nat.lt_of_lt_of_le h.lt hb.size, (hb.cell (p := ⟨lp, 3, none⟩) h.lt).trans h.cell, by
    rcases h.recs.below hb with e | ⟨g, cap, e, hg, hr⟩
    · exact .inl e
    · exact .inr ⟨g, cap, e, Nat.lt_of_lt_of_le hg hb.size, hr⟩⟩
theorem LogRecs.rows {w : World} {lp : Nat} {rv : Value} {rs : List Rec} (h : LogRecs w lp rv rs) : ∀ k ∈ rowsOf rv, k < w.heap.size := by
  intro k hk
  rcases h.recs with ⟨rfl, _⟩ | ⟨g, cap, rfl, hg, _⟩
  · simp [rowsOf, Value.ownBlock] at hk
  · simp [rowsOf, Value.ownBlock] at hk; omega
set_option maxRecDepth 100000 in
set_option maxHeartbeats 4000000 in
theorem lastCp_in (n : Nat) (hn : 4 ≤ n) (gp lp : Nat) (rv : Value) (rs : List Rec) (hlen : rs.length ≤ 67108864) (hpl : PlainR rs) (w : World) (hg : w.cell? ⟨gp, 0, none⟩ = some (.pointer (some ⟨lp, 0, none⟩))) (hL : LogRecs w lp rv rs) :
    CallsIn Fence.wide n Tryz.prog 177 #[.pointer (some ⟨gp, 0, none⟩)] w fun e w' => e = .returned (.tuple #[.int .u64 0, .int .u64 0]) ∧ Below w.heap.size w w' := by
  have hro : Fence.wide.round = none := rfl
  have h1 : 1 ≤ n := by omega
  have hf2 : Fence.wide.fn 98 := trivial
  have hf3 : Fence.wide.fn 140 := trivial
  have hgl : gp < w.heap.size := World.block_lt_of_cell? w ⟨gp, 0, none⟩ hg
  obtain ⟨W3, hW3⟩ : ∃ W3, W3 = ((w.alloc (.cells #[.int .u64 0] 33)).alloc (.cells #[.int .u64 0] 33)).alloc (.cells #[.int .u64 0] 33) := ⟨_, rfl⟩
  have hB3 : Below w.heap.size w W3 := by rw [hW3]; exact (((Below.refl _ w).alloc (Nat.le_refl _) _).alloc (by simp) _).alloc (by simp; omega) _
  have c0 : W3.cell? ⟨gp, 0, none⟩ = some (.pointer (some ⟨lp, 0, none⟩)) := (hB3.cell (p := ⟨gp, 0, none⟩) hgl).trans hg
  rw [hW3] at c0
  refine callsIn_of_wp_marks Tryz.func177 rfl trivial ?_ hro
  simp only [Tryz.ntmps177, List.size_toArray, List.length_cons, List.length_nil, Nat.reduceAdd, Nat.reduceSub, Array.replicate_succ, Array.replicate_zero, List.push_toArray, List.append_toArray, List.nil_append, List.cons_append]
  gi_wp2_with (gi_at_call 98; refine (all_in Fence.wide (n - 1) hf2 hro _ _).mono ?_; rintro e w' ⟨rfl, rfl⟩)
  have bA := Boxed.new W3 71 (.pointer (some ⟨lp, 0, none⟩))
  have hs3 : W3.heap.size = w.heap.size + 3 := by rw [hW3]; simp
  have b4 : Boxed W3 (w.heap.size + 1 + 1) 33 (.int .u64 0) := by
    have := Boxed.new ((w.alloc (.cells #[.int .u64 0] 33)).alloc (.cells #[.int .u64 0] 33)) 33 (.int .u64 0)
    rw [World.size_alloc, World.size_alloc, ← hW3] at this
    exact this
  have b3 : Boxed W3 (w.heap.size + 1) 33 (.int .u64 0) := by
    have := (Boxed.new (w.alloc (.cells #[.int .u64 0] 33)) 33 (.int .u64 0)).alloc (.cells #[.int .u64 0] 33)
    rw [World.size_alloc, ← hW3] at this
    exact this
  have b2 : Boxed W3 w.heap.size 33 (.int .u64 0) := by
    have := ((Boxed.new w 33 (.int .u64 0)).alloc (.cells #[.int .u64 0] 33)).alloc (.cells #[.int .u64 0] 33)
    rw [← hW3] at this
    exact this
  rw [← hW3]
  clear hW3 c0
  have b2' := b2.alloc (.cells #[.pointer (some ⟨lp, 0, none⟩)] 71)
  have b3' := b3.alloc (.cells #[.pointer (some ⟨lp, 0, none⟩)] 71)
  have b4' := b4.alloc (.cells #[.pointer (some ⟨lp, 0, none⟩)] 71)
  have hB4 : Below w.heap.size w (W3.alloc (.cells #[.pointer (some ⟨lp, 0, none⟩)] 71)) := hB3.alloc hB3.size _
  have hs4 : (W3.alloc (.cells #[.pointer (some ⟨lp, 0, none⟩)] 71)).heap.size = w.heap.size + 4 := by rw [World.size_alloc, hs3]
  have hL4 := hL.below hB4
  rw [hs3] at bA
  obtain ⟨W0, hW0⟩ : ∃ W0, W0 = W3.alloc (.cells #[.pointer (some ⟨lp, 0, none⟩)] 71) := ⟨_, rfl⟩
  rw [← hW0] at bA b2' b3' b4' hB4 hs4 hL4 ⊢
  clear hW0 b2 b3 b4 hB3 hs3
  refine wpIn_rangeFunc_ownH hro h1 (gf := 140) (lb := #[.pointer (some ⟨w.heap.size + 1 + 1 + 1, 0, none⟩)]) rfl hf3 (enters_of Tryz.func140 (by kernel_rfl) rfl)
    (allK_stops (n - 1) (by omega) (w.heap.size + 1 + 1 + 1) lp rv rs W0 hlen (by omega) hL4.lt bA.cell hL4.cell hL4.recs) (fun h k => h.trans k) (KpS.book hL4.rows) (Below.refl _ _) (fun _ => rfl)
    (fun pre W => ((Boxed W w.heap.size 33 (.int .u64 0) ∧ Boxed W (w.heap.size + 1) 33 (.int .u64 0)) ∧ Boxed W (w.heap.size + 1 + 1) 33 (.int .u64 0)) ∧ Below w.heap.size w W)
    (fun _ _ _ => False)
    (OwnFrom.and (OwnFrom.and (OwnFrom.and (Own.from (boxed_own _ _ _) _) (Own.from (boxed_own _ _ _) _)) (Own.from (boxed_own _ _ _) _)) (ownFrom_below (Nat.le_refl _) (by omega)))
    (fun _ _ _ _ _ hs _ _ => hs)
    ⟨⟨⟨b2', b3'⟩, b4'⟩, hB4⟩
    (fun x a' W => ∃ Bx, w.heap.size + 1 + 1 < Bx ∧ W.heap[Bx]? = some (.cells #[.int .u64 (x.1.lsn : Int), .int .u8 (x.1.kind : Int), .string (str x.1.pay)] 103 (0, 0)) ∧ a' = { tmps := #[.pointer (some ⟨gp, 0, none⟩), undef, .pointer (some ⟨w.heap.size, 0, none⟩), .pointer (some ⟨w.heap.size + 1, 0, none⟩), .pointer (some ⟨w.heap.size + 1 + 1, 0, none⟩), .pointer (some ⟨Bx, 0, none⟩), .pointer (some ⟨gp, 0, none⟩), .pointer (some ⟨gp, 0, none⟩), .pointer (some ⟨gp, 0, none⟩), .pointer (some ⟨lp, 0, none⟩), .func (.func 140) #[] #[.pointer (some ⟨w.heap.size + 1 + 1 + 1, 0, none⟩)], recA x.1, undef, undef, undef, undef, undef, undef, undef, undef, undef, undef, undef, undef, undef, undef, undef, undef, undef, undef, undef], defers := [] })
    (fun x a' _ X Y row hs hg hr => by
      obtain ⟨Bx, h1, h2, h3⟩ := hs
      exact ⟨Bx, h1, (hg.block Bx (Array.getElem?_eq_some_iff.1 h2).1 (fun e => by obtain ⟨_, o, ho, hc⟩ := hr Bx e.symm; rw [h2] at ho; cases ho; cases hc)).trans h2, h3⟩)
    ?assign ?body ?done ?stop
  case assign =>
    have hsem := @Oper.semAt_some
    rintro l pre x W K ⟨⟨⟨hv2, hv3⟩, hv4⟩, hB1⟩ hK
    gi_wp2
    exact hK _ _ ((KeepsOthers.alloc _ _).from _) (KpS.alloc _ _) ⟨⟨⟨hv2.alloc _, hv3.alloc _⟩, hv4.alloc _⟩, hB1.alloc hB1.size _⟩ ⟨W.heap.size, hv4.lt, World.alloc_heap_new W _, rfl⟩
  case body =>
    have hsem := @Oper.semAt_some
    rintro l pre x a' W hl2 _ ⟨⟨⟨hv2, hv3⟩, hv4⟩, hB⟩ ⟨Bx, hBx, bX, rfl⟩ hlt
    have x1 := cell_blk0 bX 1
    simp at x1
    have hk := (hpl x.1 x.2).1
    have k1 : ¬ (x.1.kind : Int) = 254 := by omega
    have k2 : ¬ (x.1.kind : Int) = 255 := by omega
    gi_wp2
    exact ⟨KeepsFrom.refl _ _, KpS.refl _, ⟨⟨hv2, hv3⟩, hv4⟩, hB⟩
  case done =>
    rintro D ys W hD hys ⟨⟨⟨hv2, hv3⟩, hv4⟩, hB⟩ hK
    have c2 := hv2.cell
    have c3 := hv3.cell
    have f2 := hv2.frozen
    have f3 := hv3.frozen
    gi_wp2
    gi_region
    gi_wp2
    obtain ⟨W6, hW6⟩ : ∃ W6, W6 = ((W.setCell ⟨w.heap.size, 0, none⟩ (.int .u64 0)).setCell ⟨w.heap.size + 1, 0, none⟩ (.int .u64 0)).drew := ⟨_, rfl⟩
    rw [← hW6]
    have v2 : Boxed W6 w.heap.size 33 (.int .u64 0) := by rw [hW6]; exact (hv2.set _).other (by omega) _
    have v3 : Boxed W6 (w.heap.size + 1) 33 (.int .u64 0) := by rw [hW6]; exact (hv3.other (by omega) _).set _
    have hB6 : Below w.heap.size w W6 := by rw [hW6]; exact ((hB.setCell (p := ⟨w.heap.size, 0, none⟩) (Nat.le_refl _) _).setCell (p := ⟨w.heap.size + 1, 0, none⟩) (by show w.heap.size ≤ w.heap.size + 1; omega) _).drew
    have hK6 : W6.heap[D]? = some (.deferred (some [])) := by
      rw [hW6]
      exact (Below.heap_setCell _ _ _ D (by show D ≠ w.heap.size + 1; omega)).trans ((Below.heap_setCell _ _ _ D (by show D ≠ w.heap.size; omega)).trans hK)
    clear hW6
    refine ⟨by simp, .inl ⟨_, _, rfl, run_takeDeferred hK6, ?_⟩⟩
    have q2 := (v2.kept (grownBy_putObj' W6 D (.deferred none)) (by simp; omega)).cell
    have q3 := (v3.kept (grownBy_putObj' W6 D (.deferred none)) (by simp; omega)).cell
    refine ⟨.tuple #[.int .u64 0, .int .u64 0], ?_, rfl, hB6.trans (belowK_b (w := w) (Nat.le_refl _) W6 D _ _ (by omega) hK6 rfl rfl)⟩
    simp only [results, Tryz.f177]
    simp [go_sem, q2, q3]
  case stop =>
    rintro D c pre W _ _ h _
    exact h.elim
end Go.Proofs.YtkhjhojmhllkaaaGreatDoor
/- LEDGERS: firstOf. -/
namespace Go.Proofs.YtkhjhojmhllkaaaGreatDoor
open Go.RowKit Go.Shelf
open Sc

set_option maxHeartbeats 1000000 in
theorem next_any (lp nx : Nat) (w : World) (h : w.cell? ⟨lp, 4, none⟩ = some (.int .u64 (nx : Int))) : Calls Tryz.prog 97 #[.pointer (some ⟨lp, 0, none⟩)] w fun e w' => e = .returned (.int .u64 (nx : Int)) ∧ w' = w := by
  go_enter Tryz.func97, Tryz.ntmps97
  go_wp2
  go_ret
  exact ⟨rfl, rfl⟩
/-- the number of the first record, or the next -/
def firstN (rs : List Rec) (nx : Nat) : Nat := match rs with | [] => nx | r :: _ => r.lsn
theorem firstN_pre {a b : List Rec} {nx : Nat} (hne : a ≠ []) (h : a <+: b) : firstN b nx = firstN a 0 := by
  obtain ⟨t, rfl⟩ := h
  cases a with
  | nil => exact absurd rfl hne
  | cons x r => rfl
set_option maxRecDepth 100000 in
set_option maxHeartbeats 4000000 in
theorem firstOf_in (n : Nat) (hn : 4 ≤ n) (lp nx : Nat) (rv : Value) (rs : List Rec) (hlen : rs.length ≤ 67108864) (w : World) (hL : LogRecs w lp rv rs) (hnx : w.cell? ⟨lp, 4, none⟩ = some (.int .u64 (nx : Int))) :
    CallsIn Fence.wide n Tryz.prog 178 #[.pointer (some ⟨lp, 0, none⟩)] w fun e w' => e = .returned (.int .u64 (firstN rs nx : Int)) ∧ Below w.heap.size w w' := by
  have hro : Fence.wide.round = none := rfl
  have h1 : 1 ≤ n := by omega
  have hf2 : Fence.wide.fn 98 := trivial
  have hf3 : Fence.wide.fn 140 := trivial
  have hf4 : Fence.wide.fn 97 := trivial
  refine callsIn_of_wp_marks Tryz.func178 rfl trivial ?_ hro
  simp only [Tryz.ntmps178, List.size_toArray, List.length_cons, List.length_nil, Nat.reduceAdd, Nat.reduceSub, Array.replicate_succ, Array.replicate_zero, List.push_toArray, List.append_toArray, List.nil_append, List.cons_append]
  gi_wp2_with (gi_at_call 98; refine (all_in Fence.wide (n - 1) hf2 hro _ _).mono ?_; rintro e w' ⟨rfl, rfl⟩)
  have bR := Boxed.new w 33 (.int .u64 0)
  have bA := Boxed.new (w.alloc (.cells #[.int .u64 0] 33)) 71 (.pointer (some ⟨lp, 0, none⟩))
  rw [World.size_alloc] at bA
  have bR1 := bR.alloc (.cells #[.pointer (some ⟨lp, 0, none⟩)] 71)
  have hB0 : Below w.heap.size w ((w.alloc (.cells #[.int .u64 0] 33)).alloc (.cells #[.pointer (some ⟨lp, 0, none⟩)] 71)) := ((Below.refl _ w).alloc (Nat.le_refl _) _).alloc (by simp) _
  have hsz : ((w.alloc (.cells #[.int .u64 0] 33)).alloc (.cells #[.pointer (some ⟨lp, 0, none⟩)] 71)).heap.size = w.heap.size + 2 := by simp
  obtain ⟨W0, hW0⟩ : ∃ W0, W0 = (w.alloc (.cells #[.int .u64 0] 33)).alloc (.cells #[.pointer (some ⟨lp, 0, none⟩)] 71) := ⟨_, rfl⟩
  rw [← hW0] at bA bR1 hB0 hsz ⊢
  clear hW0 bR
  have hL0 := hL.below hB0
  have hlp := hL.lt
  refine wpIn_rangeFunc_ownH hro h1 (gf := 140) (lb := #[.pointer (some ⟨w.heap.size + 1, 0, none⟩)]) rfl hf3 (enters_of Tryz.func140 (by kernel_rfl) rfl)
    (allK_stops (n - 1) (by omega) (w.heap.size + 1) lp rv rs W0 hlen (by omega) hL0.lt bA.cell hL0.cell hL0.recs) (fun h k => h.trans k) (KpS.book hL0.rows) (Below.refl _ _) (fun _ => rfl)
    (fun pre W => (Boxed W w.heap.size 33 (.int .u64 0) ∧ pre = []) ∧ Below w.heap.size w W)
    (fun c pre W => (Boxed W w.heap.size 33 (.int .u64 (firstN (pre.map (·.1)) 0 : Int)) ∧ (c = .ret ∧ pre ≠ [])) ∧ Below w.heap.size w W)
    (OwnFrom.and (OwnFrom.and (Own.from (boxed_own _ _ _) _) (ownFrom_pure _ _)) (ownFrom_below (Nat.le_refl _) (by omega)))
    (fun c => OwnFrom.and (OwnFrom.and (Own.from (boxed_own _ _ _) _) (ownFrom_pure _ _)) (ownFrom_below (Nat.le_refl _) (by omega)))
    ⟨⟨bR1, rfl⟩, hB0⟩
    (fun x a' W => ∃ Bx, w.heap.size < Bx ∧ W.heap[Bx]? = some (.cells #[.int .u64 (x.1.lsn : Int), .int .u8 (x.1.kind : Int), .string (str x.1.pay)] 103 (0, 0)) ∧ a' = { tmps := #[.pointer (some ⟨lp, 0, none⟩), undef, .pointer (some ⟨w.heap.size, 0, none⟩), .pointer (some ⟨Bx, 0, none⟩), .pointer (some ⟨lp, 0, none⟩), .func (.func 140) #[] #[.pointer (some ⟨w.heap.size + 1, 0, none⟩)], recA x.1, undef, undef, undef, undef], defers := [] })
    (fun x a' _ X Y row hs hg hr => by
      obtain ⟨Bx, h1, h2, h3⟩ := hs
      exact ⟨Bx, h1, (hg.block Bx (Array.getElem?_eq_some_iff.1 h2).1 (fun e => by obtain ⟨_, o, ho, hc⟩ := hr Bx e.symm; rw [h2] at ho; cases ho; cases hc)).trans h2, h3⟩)
    ?assign ?body ?done ?stop
  case assign =>
    have hsem := @Oper.semAt_some
    rintro l pre x W K ⟨⟨hv2, hp⟩, hB1⟩ hK
    gi_wp2
    exact hK _ _ ((KeepsOthers.alloc _ _).from _) (KpS.alloc _ _) ⟨⟨hv2.alloc _, hp⟩, hB1.alloc hB1.size _⟩ ⟨W.heap.size, hv2.lt, World.alloc_heap_new W _, rfl⟩
  case body =>
    have hsem := @Oper.semAt_some
    rintro l pre x a' W hl2 _ ⟨⟨hv2, rfl⟩, hB⟩ ⟨Bx, hBx, bX, rfl⟩ hlt
    have x0 := cell_blk0 bX 0
    simp at x0
    have c2 := hv2.cell
    have f2 := hv2.frozen
    gi_wp2
    refine ⟨((KeepsOthers.setCell W _ _).from _), ⟨hv2.set _, rfl, by simp⟩, hB.setCell (p := ⟨w.heap.size, 0, none⟩) (Nat.le_refl _) _⟩
  case done =>
    rintro D ys W hD hys ⟨⟨hv2, rfl⟩, hB⟩ hK
    have hrs : rs = [] := by rw [← hys]; rfl
    have c2 := hv2.cell
    have f2 := hv2.frozen
    have c4 := (hB.cell (p := ⟨lp, 4, none⟩) hlp).trans hnx
    gi_wp2_with (gi_at_call 97; refine ((callsIn_wide (n := n - 1)).2 (next_any lp nx W c4)).mono ?_; rintro e w' ⟨rfl, rfl⟩)
    obtain ⟨W6, hW6⟩ : ∃ W6, W6 = w'.setCell ⟨w.heap.size, 0, none⟩ (.int .u64 (nx : Int)) := ⟨_, rfl⟩
    rw [← hW6]
    have v2 : Boxed W6 w.heap.size 33 (.int .u64 (nx : Int)) := by rw [hW6]; exact hv2.set _
    have hB6 : Below w.heap.size w W6 := by rw [hW6]; exact hB.setCell (p := ⟨w.heap.size, 0, none⟩) (Nat.le_refl _) _
    have hK6 : W6.heap[D]? = some (.deferred (some [])) := by rw [hW6]; exact (Below.heap_setCell _ _ _ D (by show D ≠ w.heap.size; omega)).trans hK
    clear hW6
    refine ⟨by simp, .inl ⟨_, _, rfl, run_takeDeferred hK6, ?_⟩⟩
    have q2 := (v2.kept (grownBy_putObj' W6 D (.deferred none)) (by simp; omega)).cell
    refine ⟨.int .u64 (nx : Int), ?_, by rw [hrs]; rfl, hB6.trans (belowK_b (w := w) (Nat.le_refl _) W6 D _ _ (by omega) hK6 rfl rfl)⟩
    simp only [results, Tryz.f178]
    simp [go_sem, q2]
  case stop =>
    rintro D c pre W hD hpre ⟨⟨hv2, rfl, hne⟩, hB⟩ hK
    have he : firstN rs nx = firstN (pre.map (·.1)) 0 := firstN_pre (fun e => hne (List.map_eq_nil_iff.1 e)) hpre
    gi_wp2
    obtain ⟨W6, hW6⟩ : ∃ W6, W6 = W := ⟨_, rfl⟩
    rw [← hW6]
    have v2 : Boxed W6 w.heap.size 33 (.int .u64 (firstN (pre.map (·.1)) 0 : Int)) := by rw [hW6]; exact hv2
    have hB6 : Below w.heap.size w W6 := by rw [hW6]; exact hB
    have hK6 : W6.heap[D]? = some (.deferred (some [])) := by rw [hW6]; exact hK
    clear hW6
    refine ⟨by simp, .inl ⟨_, _, rfl, run_takeDeferred hK6, ?_⟩⟩
    have q2 := (v2.kept (grownBy_putObj' W6 D (.deferred none)) (by simp; omega)).cell
    refine ⟨.int .u64 (firstN (pre.map (·.1)) 0 : Int), ?_, by rw [he], hB6.trans (belowK_b (w := w) (Nat.le_refl _) W6 D _ _ (by omega) hK6 rfl rfl)⟩
    simp only [results, Tryz.f178]
    simp [go_sem, q2]
end Go.Proofs.YtkhjhojmhllkaaaGreatDoor
/- RANGING OVER A FUNCTION WHOSE WALK IS KNOWN: one of my own words: the body is told what came ahead; all that is younger than the loop stays. -/
namespace Go.Proofs.YtkhjhojmhllkaaaGreatDoor
open Go.RowKit Go.Shelf
open Sc

/-- blocks from n on, and these, are as they were -/
structure Keep (n : Nat) (S : List Nat) (A B : World) : Prop where
  size : A.heap.size ≤ B.heap.size
  high : ∀ k, n ≤ k → k < A.heap.size → B.heap[k]? = A.heap[k]?
  same : ∀ k ∈ S, k < A.heap.size → B.heap[k]? = A.heap[k]?
theorem Keep.refl (n : Nat) (S : List Nat) (A : World) : Keep n S A A := ⟨Nat.le_refl _, fun _ _ _ => rfl, fun _ _ _ => rfl⟩
theorem Keep.trans {n : Nat} {S : List Nat} {A B C : World} (h : Keep n S A B) (k : Keep n S B C) : Keep n S A C :=
  ⟨Nat.le_trans h.size k.size, fun i hi hl => (k.high i hi (Nat.lt_of_lt_of_le hl h.size)).trans (h.high i hi hl), fun i hi hl => (k.same i hi (Nat.lt_of_lt_of_le hl h.size)).trans (h.same i hi hl)⟩
theorem Keep.mono {n m : Nat} {S : List Nat} {A B : World} (h : Keep n S A B) (hm : n ≤ m) : Keep m S A B := ⟨h.size, fun k hk => h.high k (Nat.le_trans hm hk), h.same⟩
theorem Keep.alloc (n : Nat) (S : List Nat) (A : World) (o : Obj) : Keep n S A (A.alloc o) := ⟨by simp, fun k _ hl => Below.heap_alloc _ _ k hl, fun k _ hl => Below.heap_alloc _ _ k hl⟩
theorem size_put0 (W : World) (l : Nat) (o : Obj) : (W.putObj l o).heap.size = W.heap.size := by simp
/-- the walk of a function: it goes through rs -/
def SeqP {α : Type} (F : Fence) (n : Nat) (P : Program) (gf : Nat) (lb : Array Value) (encs : α → Array Value) (rs : List α) (S : List Nat) (l : Nat) (W : World) : Prop :=
  ∀ J : List α → World → Prop, (∀ s A B, J s A → Below W.heap.size A B → J s B) →
    (∀ pre x W1, J pre W1 → W.heap.size ≤ W1.heap.size → pre ++ [x] <+: rs → YieldAt F (n - 1) P l (encs x) W1 fun e W' => e = .returned (.bool true) ∧ J (pre ++ [x]) W' ∧ Keep W.heap.size S W1 W') →
    J [] W → CallsIn F n P gf (#[.func (.yield l) #[] #[]] ++ lb) W fun e W' => (∃ v, e = .returned v) ∧ J rs W'
section
variable {F : Fence} {n : Nat} {P : Program}
theorem wpIn_range_mine {α : Type} {g : Operand} {ps : Array Tmp} {assign body : Code} {Q : Exit → Act → World → Prop} {a : Act} {w : World}
    (hro : F.round = none) (h1 : 1 ≤ n) {gf : Nat} {lb : Array Value} (hg : a.eval g = .func (.func gf) #[] lb) (hFg : F.fn gf) (eg : ∀ args w, (callFunc gf args).run P w = .ok (.enter gf args) w)
    {encs : α → Array Value} {rs : List α} {S : List Nat} (hps : ∀ x, (encs x).size = ps.size) (hS : ∀ k ∈ S, k < w.heap.size)
    (hseq : ∀ W1, Below w.heap.size w W1 → W1.heap.size = w.heap.size + 2 → SeqP F (n - 1) P gf lb encs rs S (w.heap.size + 1) W1)
    (I : List α → World → Prop) (hI0 : ∀ W1, Below w.heap.size w W1 → I [] W1) (hIb : ∀ s A B, I s A → Below (w.heap.size + 2) A B → I s B) (hIl : ∀ s A r, I s A → I s (A.putObj (w.heap.size + 1) (.loop r)))
    (Ax : α → Act → World → Prop) (hAx : ∀ x a' A r, Ax x a' A → Ax x a' (A.putObj (w.heap.size + 1) (.loop r)))
    (hassign : ∀ (pre : List α) (x : α) (W : World) (K : Act → World → Prop), I pre W → w.heap.size + 2 ≤ W.heap.size → pre ++ [x] <+: rs → (∀ a' W', I pre W' → Keep w.heap.size S W W' → Ax x a' W' → K a' W') →
      assign.wpIn (F.inRound (w.heap.size + 1)) (n - 1 - 1) P (Exit.then K (fun _ _ _ => False)) { tmps := (ps.zip (encs x)).foldl (fun t (p, v) => t.setIfInBounds p v) a.tmps, defers := [] } W)
    (hbody : ∀ (pre : List α) (x : α) (a' : Act) (W : World), I pre W → w.heap.size + 2 ≤ W.heap.size → Ax x a' W → pre ++ [x] <+: rs → body.wpIn (F.inRound (w.heap.size + 1)) (n - 1 - 1) P (fun e _ W' => e = .normal ∧ I (pre ++ [x]) W' ∧ Keep w.heap.size S W W') a' W)
    (hdone : ∀ (W : World), I rs W → w.heap.size + 2 ≤ W.heap.size → W.heap[w.heap.size]? = some (.deferred (some [])) → Q .normal { a with defers := { target := .collected w.heap.size, args := #[] } :: a.defers } W) :
    (Code.rangeFunc g ps assign body).wpIn F n P Q a w := by
  refine wpIn_rangeFunc fun fn hfn => ?_
  rw [hro]
  obtain ⟨L, hL⟩ : ∃ L : LoopState → Loop, L = fun st => { state := st, pending := none, fn, tmps := a.tmps, params := ps, assign, body, defers := w.heap.size } := ⟨_, rfl⟩
  obtain ⟨W1, hW1⟩ : ∃ W1, W1 = (w.alloc (.deferred (some []))).alloc (.loop (L .ready)) := ⟨_, rfl⟩
  have hb1 : Below w.heap.size w W1 := by rw [hW1]; exact ((Below.refl _ w).alloc (Nat.le_refl _) _).alloc (by simp) _
  have hs1 : W1.heap.size = w.heap.size + 2 := by rw [hW1]; simp
  have hl1 : W1.heap[w.heap.size + 1]? = some (.loop (L .ready)) := by
    rw [hW1]; have := World.alloc_heap_new (w.alloc (.deferred (some []))) (.loop (L .ready)); rwa [World.size_alloc] at this
  have hd1 : W1.heap[w.heap.size]? = some (.deferred (some [])) := by
    rw [hW1]; exact (Below.heap_alloc _ _ _ (by simp)).trans (World.alloc_heap_new w _)
  refine ⟨w.heap.size + 1, [{ target := .collected w.heap.size, args := #[] }], W1, { target := .fn (.func gf) lb, args := #[.func (.yield (w.heap.size + 1)) #[] #[]] }, W1, gf, #[.func (.yield (w.heap.size + 1)) #[] #[]] ++ lb, W1, ?_, ?_, ?_, ?_, fun _ => h1, ?_⟩
  · rw [hW1, hL]; exact run_enterLoop_outer _ _ _ _ _
  · simp only [resolve, hg]; simp [go_sem]
  · intro f' hf'; simp [Target.leads] at hf'; subst hf'; exact hFg
  · simp [invoke, go_sem, eg]
  refine (hseq W1 hb1 hs1 (fun s A => I s A ∧ A.heap[w.heap.size + 1]? = some (.loop (L .ready)) ∧ A.heap[w.heap.size]? = some (.deferred (some [])) ∧ w.heap.size + 2 ≤ A.heap.size) ?_ ?_ ⟨hI0 W1 hb1, hl1, hd1, by omega⟩).mono ?_
  · rintro s A B ⟨i1, i2, i3, i4⟩ hb
    rw [hs1] at hb
    exact ⟨hIb s A B i1 hb, (hb.block _ (by omega)).trans i2, (hb.block _ (by omega)).trans i3, Nat.le_trans i4 hb.size⟩
  · rintro pre x W ⟨i1, i2, i3, i4⟩ _ hpre
    have hy := run_yield (P := P) (args := encs x) i2 (by rw [hL]; exact hps x)
    rw [hL] at hy
    refine ⟨fn, _, assign, body, hy, roundIn_of_wpIn hfn (hassign pre x W _ i1 i4 hpre fun a' Wa ia ka xa => ?_)⟩
    have la : Wa.heap[w.heap.size + 1]? = some (.loop (L .ready)) := (ka.high _ (by omega) (by omega)).trans i2
    have da : Wa.heap[w.heap.size]? = some (.deferred (some [])) := (ka.high _ (by omega) (by omega)).trans i3
    have lta : w.heap.size + 1 < Wa.heap.size := (Array.getElem?_eq_some_iff.1 la).1
    obtain ⟨Wb, hWb⟩ : ∃ Wb, Wb = Wa.putObj (w.heap.size + 1) (.loop (L .busy)) := ⟨_, rfl⟩
    have lb' : Wb.heap[w.heap.size + 1]? = some (.loop (L .busy)) := by rw [hWb]; exact World.putObj_heap_same lta
    have db : Wb.heap[w.heap.size]? = some (.deferred (some [])) := by rw [hWb]; exact (World.putObj_heap_other (by omega)).trans da
    have sb : Wb.heap.size = Wa.heap.size := by rw [hWb]; simp
    refine ⟨Wb, by rw [hWb]; have := run_beginRound (P := P) la (by rw [hL]); rw [hL] at this ⊢; exact this, ?_⟩
    refine wpIn_mono (hbody pre x a' Wb (by rw [hWb]; exact hIl _ _ _ ia) (by rw [sb]; omega) (by rw [hWb]; exact hAx _ _ _ _ xa) hpre) ?_
    rintro e a3 W3 ⟨rfl, i3', k3⟩
    have l3 : W3.heap[w.heap.size + 1]? = some (.loop (L .busy)) := (k3.high _ (by omega) (by omega)).trans lb'
    have d3 : W3.heap[w.heap.size]? = some (.deferred (some [])) := (k3.high _ (by omega) (by omega)).trans db
    have lt3 : w.heap.size + 1 < W3.heap.size := (Array.getElem?_eq_some_iff.1 l3).1
    have hend := run_endRound (P := P) none l3
    refine ⟨_, _, hend, rfl, ⟨hIl _ _ _ i3', ?_, (World.putObj_heap_other (by omega)).trans d3, by rw [size_put0]; omega⟩, ?_, ?_, ?_⟩
    · rw [World.putObj_heap_same lt3, hL]; rfl
    · rw [size_put0]; have := ka.size; have := k3.size; omega
    · intro k hk hlt
      rw [hs1] at hk
      rw [World.putObj_heap_other (by omega), k3.high k (by omega) (by have := ka.size; omega), hWb, World.putObj_heap_other (by omega), ka.high k (by omega) hlt]
    · intro k hk hlt
      have hkw := hS k hk
      rw [World.putObj_heap_other (by omega), k3.same k hk (by have := ka.size; omega), hWb, World.putObj_heap_other (by omega), ka.same k hk hlt]
  · rintro e W2 ⟨⟨v, rfl⟩, i1, i2, i3, i4⟩
    have hend := run_endLoop (P := P) i2 (by rw [hL]; simp)
    have hp : (L .ready).pending = none := by rw [hL]
    rw [hp] at hend
    refine ⟨none, _, hend, ?_⟩
    exact hdone _ (hIl _ _ _ i1) (by rw [size_put0]; exact i4) ((World.putObj_heap_other (by omega)).trans i3)
end
end Go.Proofs.YtkhjhojmhllkaaaGreatDoor
