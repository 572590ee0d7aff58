import Derived.Test.YtejiankgafjppaaGreatDoorC17
import Derived.Test.YtejiankgafjppaaGreatDoorC16
import Derived.Test.YtejiankgafjppaaGreatDoorC07
import Derived.Test.YtejiankgafjppaaGreatDoorC15
import Derived.Test.YtejiankgafjppaaGreatDoorC03
import Derived.Test.YtejiankgafjppaaGreatDoorC01
/- HOSTS: before, after, and a log's calls. -/
namespace Go.Proofs.YtejiankgafjppaaGreatDoor
open Go.RowKit
open Sc

abbrev hostO (p : Nat) (up : Bool) (lv : Value) : Obj := .cells #[.int .i64 1, .int .i64 0, .pointer (some ⟨p, 0, none⟩), .bool up, lv, .pointer none, .pointer none, .pointer none] 94
abbrev fallV (a b c d : Int) : Value := .agg #[.int .i64 a, .int .i64 b, .int .i64 c, .int .i64 d]
def ADisk.knob (d : ADisk) (a b : Int) : ADisk := { d with left := a, full := b }
section
variable {w w' : World} {B hp lp p bD bN n nD nN : Nat} {pv sv rv : Value} {l : ALog} {d : ADisk}
theorem LogIn.knob (h : LogIn w B lp p bD bN pv sv rv l d n nD nN) (a b : Int) (hf : Fr [p] w w') (hb : w'.heap[p]? = some (dskO bD bN pv a b d.down)) :
    LogIn w' B lp p bD bN pv sv rv l (d.knob a b) n nD nN ∧ OFr lp p w w' := by
  have h1 : LogIn w' B lp p bD bN pv sv rv l (d.knob a b) n nD nN := h.turned (h.disk.turn hf a b d.down hb) hf (fun k hk _ => h.sep k (by simp at hk; simp [hk])) (Nat.le_refl _)
  exact ⟨h1, h.ofr h1 hf (fun k hk _ => by simp at hk; simp [hk]) (.inl rfl) (Near.refl _ _) (Near.refl _ _) (Near.refl _ _)⟩
end
/-- an open host of a log -/
structure HostIn (w : World) (B hp lp p bD bN : Nat) (l : ALog) (d : ADisk) (n : Nat) : Prop where
  blk : w.heap[hp]? = some (hostO p true (.pointer (some ⟨lp, 0, none⟩)))
  log : ∃ pv sv rv nD nN, LogIn w B lp p bD bN pv sv rv l d n nD nN
/-- the answer of Told -/
theorem told_any (c : Nat) (w : World) (hg : Met w) : Calls Tryz.prog 54 #[errN c] w fun e w' => e = .returned (.int .i64 (c : Int)) ∧ Fr [] w w' := by
  by_cases hc : c = 0
  · subst hc
    rw [errN_ok]
    refine (told_nil w).mono ?_
    rintro e w1 ⟨rfl, hb⟩
    exact ⟨rfl, Fr.of_below hb _⟩
  · rw [errN_no hc]
    refine (told_err (c : Int) w hg).mono ?_
    rintro e w1 ⟨rfl, hb⟩
    exact ⟨rfl, Fr.of_below hb _⟩
end Go.Proofs.YtejiankgafjppaaGreatDoor
/- OPENING OVER NOTHING: journal.Open, shardcommit.OpenLog. -/
namespace Go.Proofs.YtejiankgafjppaaGreatDoor
open Go.RowKit
open Sc

theorem DFr.ofO {w Wl w' : World} {B lp p bD bN n nD nN n' nD' nN' n2 nD2 nN2 : Nat} {pv pv' sv' rv' : Value} {l l' : ALog} {d d' d2 : ADisk} (h : DiskIn w B p bD bN pv d2 n2 nD2 nN2) (hl : LogIn Wl B lp p bD bN pv (.slice none 0 0) (.slice none 0 0) l d n nD nN) (hf : Fr [] w Wl) (hlp : w.heap.size ≤ lp) (ho : OFr lp p Wl w') (hl' : LogIn w' B lp p bD bN pv' sv' rv' l' d' n' nD' nN') : DFr p w w' := by
  have key : ∀ k, k < w.heap.size → Own lp p Wl k → OwnD p w k := fun k hk hO => by
    rw [h.ownD]
    rcases (hl.own k).1 hO with e | e | e | e | e | e | e
    · omega
    · simp [e]
    · simp [e]
    · simp [e]
    · simp [e]
    · cases e
    · cases e
  refine ⟨ho.os.trans hf.os, ho.tape.trans hf.tape, ho.output.trans hf.output, Nat.le_trans hf.size ho.size, fun k hk hn => ?_, fun k hk hD => ?_⟩
  · exact (ho.block k (Nat.lt_of_lt_of_le hk hf.size) (fun hO => hn (key k hk hO))).trans (hf.block k hk (by simp))
  · refine key k hk (ho.stay k (Nat.lt_of_lt_of_le hk hf.size) ?_)
    have := (hl'.disk.ownD k).1 hD
    rw [hl'.own]
    simp at this
    rcases this with e | e | e | e <;> simp [e]
/-- what stands behind an opening that went well -/
def OpenPost (B p bD bN n : Nat) (r : ALog × ADisk × Nat) (w : World) (e : Ending) (w' : World) : Prop :=
  ∃ lp, e = .returned (.tuple #[.pointer (some ⟨lp, 0, none⟩), .nilIface]) ∧ w.heap.size ≤ lp ∧ (∃ pv sv rv nD nN, LogIn w' B lp p bD bN pv sv rv r.1 r.2.1 n nD nN) ∧ DFr p w w'
set_option maxRecDepth 100000 in
set_option maxHeartbeats 4000000 in
theorem jopen_empty (B p bD bN n nD : Nat) (pv : Value) (d : ADisk) (w : World) (h : DiskIn w B p bD bN pv d n nD 0) (hdn : d.down = false) (hno : d.now markNm = none) (hr : ((log0 1).opens d).2.2 = 0) :
    Calls Tryz.prog 109 #[dskV p] w (OpenPost B p bD bN n ((log0 1).opens d) w) := by
  have hn := h.hn
  have hb0 := h.base
  obtain ⟨W, hW⟩ : ∃ W, W = (w.alloc (.cells #[dskV p] 158)).alloc (logO p (.slice none 0 0) (.slice none 0 0) (log0 0)) := ⟨_, rfl⟩
  have hf0 : Fr [] w W := by rw [hW]; exact ((Fr.refl [] w).alloc _).alloc _
  have hdb : W.heap[w.heap.size]? = some (.cells #[dskV p] 158) := by rw [hW, Below.heap_alloc _ _ w.heap.size (by simp)]; exact heap_alloc_new w _
  have hlb : W.heap[w.heap.size + 1]? = some (logO p (.slice none 0 0) (.slice none 0 0) (log0 0)) := by rw [hW]; have := heap_alloc_new (w.alloc (.cells #[dskV p] 158)) (logO p (.slice none 0 0) (.slice none 0 0) (log0 0)); rw [World.size_alloc] at this; exact this
  have hl0 : LogIn W B (w.heap.size + 1) p bD bN pv (.slice none 0 0) (.slice none 0 0) (log0 0) d n nD 0 := { disk := h.new hf0, blk := hlb, base := by omega, segs := World.ownsRow_nil _ _ _ _, recs := World.ownsRow_nil _ _ _ _, segsN := ⟨by simp [log0], by simp [log0]⟩, recsN := by simp [log0], fillN := by simp [log0], nextN := by simp [log0], durN := by simp [log0] }
  have HW : Hid (DiskIn w B p bD bN pv d n nD 0 ∧ Fr [] w W) := ⟨h, hf0⟩
  have H0 : Hid (LogIn W B (w.heap.size + 1) p bD bN pv (.slice none 0 0) (.slice none 0 0) (log0 0) d n nD 0) := hl0
  have HDB : Hid (W.heap[w.heap.size]? = some (.cells #[dskV p] 158)) := hdb
  have hnil := Tryz.eqNil p
  clear h hf0 hdb hlb hl0
  go_enter Tryz.func109, Tryz.ntmps109
  go_wp2_with fail
  have hW2 : W = (w.alloc (.cells #[dskV p] 158)).alloc (.cells #[dskV p, .slice none 0 0, .int .i64 600, .slice none 0 0, .int .u64 0, .int .u64 0, .nilIface] 168) := hW
  rw [← hW2]
  clear hW hW2
  refine (read_empty B (w.heap.size + 1) p bD bN n nD pv d W H0.out hdn hno).mono ?_
  rintro e w1 ⟨rfl, hl1, ho1⟩
  have hdb1 := (ho1.block w.heap.size (Array.getElem?_eq_some_iff.1 HDB.out).1 (H0.out.free HDB.out (by decide) (by decide) (by decide) (by decide) (by decide))).trans HDB.out
  obtain ⟨W2, hW2⟩ : ∃ W2, W2 = (w1.alloc (.cells #[.slice none 0 0] 25)).alloc (.cells #[.func (.func 123) #[.pointer (some ⟨w.heap.size + 1, 0, none⟩)] #[], .func (.func 171) #[] #[.pointer (some ⟨w.heap.size, 0, none⟩), .pointer (some ⟨w1.heap.size, 0, none⟩)]] 109) := ⟨_, rfl⟩
  have hf2 : Fr [] w1 W2 := by rw [hW2]; exact ((Fr.refl [] w1).alloc _).alloc _
  have hu2 : W2.heap[w1.heap.size]? = some (.cells #[.slice none 0 0] 25) := by rw [hW2, Below.heap_alloc _ _ w1.heap.size (by simp)]; exact heap_alloc_new w1 _
  have hst2 : W2.heap[w1.heap.size + 1]? = some (.cells #[.func (.func 123) #[.pointer (some ⟨w.heap.size + 1, 0, none⟩)] #[], .func (.func 171) #[] #[.pointer (some ⟨w.heap.size, 0, none⟩), .pointer (some ⟨w1.heap.size, 0, none⟩)]] 109) := by
    rw [hW2]; have := heap_alloc_new (w1.alloc (.cells #[.slice none 0 0] 25)) (.cells #[.func (.func 123) #[.pointer (some ⟨w.heap.size + 1, 0, none⟩)] #[], .func (.func 171) #[] #[.pointer (some ⟨w.heap.size, 0, none⟩), .pointer (some ⟨w1.heap.size, 0, none⟩)]] 109); rw [World.size_alloc] at this; exact this
  have hdb2 : W2.heap[w.heap.size]? = some (.cells #[dskV p] 158) := (hf2.block w.heap.size (Array.getElem?_eq_some_iff.1 hdb1).1 (by simp)).trans hdb1
  have HC : Hid (Calls Tryz.prog 170 #[.slice (some ⟨w1.heap.size + 1, 0, none⟩) 2 2] W2 (PutL B (w.heap.size + 1) p bD bN n [] ((log0 1).opens d) W2)) := inTurnO B (w.heap.size + 1) p bD bN n nD 0 (w1.heap.size + 1) w.heap.size w1.heap.size pv (.slice none 0 0) (.slice none 0 0) (log0 1) d W2 (hl1.new hf2) hn hst2 hdb2 hu2
  have HO : Hid (OFr (w.heap.size + 1) p W W2) := ho1.trans (hl1.newO hf2)
  clear hl1 ho1 hdb1 hf2 hu2 hst2 hdb2
  go_wp2_with fail
  rw [← hW2]
  clear hW2
  refine HC.out.mono ?_
  rintro e w3 ⟨rfl, ⟨pv3, sv3, rv3, nD3, nN3, hl3⟩, ho3⟩
  have H3 : Hid (LogIn w3 B (w.heap.size + 1) p bD bN pv3 sv3 rv3 ((log0 1).opens d).1 ((log0 1).opens d).2.1 n nD3 nN3) := hl3
  have HD : Hid (DFr p w w3) := DFr.ofO HW.out.1 H0.out HW.out.2 (by omega) (HO.out.trans ho3.ofr) hl3
  clear hl3 ho3
  rw [hr, errN_ok]
  go_wp2
  go_ret2
  exact ⟨w.heap.size + 1, rfl, by omega, ⟨pv3, sv3, rv3, nD3, nN3, H3.out⟩, HD.out⟩
end Go.Proofs.YtejiankgafjppaaGreatDoor
/- HOSTS: a log's Append, Force, Cut; Next, Is. (Written by mkhost.py.) -/
namespace Go.Proofs.YtejiankgafjppaaGreatDoor
open Go.RowKit
open Sc

abbrev fallO (a b c d : Int) : Obj := .cells #[.int .i64 a, .int .i64 b, .int .i64 c, .int .i64 d] 30
/-- what stands behind a host's call -/
def HostPost (B hp lp p bD bN n : Nat) (v : Value) (l : ALog) (d : ADisk) (w : World) (e : Ending) (w' : World) : Prop :=
  e = .returned v ∧ HostIn w' B hp lp p bD bN l (d.knob (-1) (-1)) n ∧ OFr lp p w w'
end Go.Proofs.YtejiankgafjppaaGreatDoor
/- (*disk).up: what is durable is what is there. -/
namespace Go.Proofs.YtejiankgafjppaaGreatDoor
open Go.RowKit Go.Maps

def ADisk.up (d : ADisk) : ADisk := { d with now := d.durable, pending := [], down := false }
set_option maxRecDepth 100000 in
set_option maxHeartbeats 2000000 in
theorem up_any (B p bD n nD : Nat) (pv nv : Value) (d : ADisk) (w : World) (hblk : w.heap[p]? = some (.cells #[.map (some bD), nv, pv, .int .i64 d.left, .int .i64 d.full, .bool d.down] 88)) (hB : B ≤ p ∧ B ≤ bD ∧ B ≤ w.heap.size) (hdur : FileMap w bD nD d.durable) (hn : nD ≤ n) (hn2 : n ≤ 67108864) (hle : d.durable.Le (nD * 4096)) :
    Calls Tryz.prog 45 #[.pointer (some ⟨p, 0, none⟩)] w fun e w' => e = .returned (.tuple #[]) ∧ DiskIn w' B p bD w.heap.size (.slice none 0 0) d.up n nD nD ∧ Fr [p] w w' := by
  have hmm := @run_makeMap Tryz.prog
  have c0 := blk_cell hblk 0
  have c1 := blk_cell hblk 1
  have c2 := blk_cell hblk 2
  have c5 := blk_cell hblk 5
  have f1 := blk_free hblk 1
  have f2 := blk_free hblk 2
  have f5 := blk_free hblk 5
  simp at c0 c1 c2 c5
  have hpl : p < w.heap.size := (Array.getElem?_eq_some_iff.1 hblk).1
  have hbl := hdur.lt
  have hpne : bD ≠ p := hdur.ne_cells hblk
  obtain ⟨D, hown, h5⟩ := hdur
  have H5 : Hid (∀ k : ByteArray, (d.durable k = none → Maps.has D (keyL k) = false) ∧ (∀ t, d.durable k = some t → Maps.has D (keyL k) = true ∧ k.size ≤ maxLen ∧ ∃ q : Nat, (∀ z, D.atKey (keyL k) z = .lit (.int .i64 (q : Int))) ∧ w.heap[q]? = some (textO t))) := h5
  clear h5
  have hsz := hown.size_le
  have HB : Hid (w.heap[p]? = some (.cells #[.map (some bD), nv, pv, .int .i64 d.left, .int .i64 d.full, .bool d.down] 88)) := hblk
  clear hblk
  have hpa1 : (w.alloc (.map #[] 0)).cell? ⟨p, 1, none⟩ = some nv := (World.cell?_of_block (a := ⟨p, 1, none⟩) (Below.heap_alloc w _ p hpl)).trans c1
  have hpa2 : (w.alloc (.map #[] 0)).frozen? ⟨p, 1, none⟩ = false := (World.frozen?_of_block (a := ⟨p, 1, none⟩) (Below.heap_alloc w _ p hpl)).trans f1
  obtain ⟨W1, hW1⟩ : ∃ W1, W1 = (w.setCell ⟨p, 1, none⟩ (.map (some w.heap.size))).alloc (.map #[] 0) := ⟨_, rfl⟩
  have hss : (w.setCell ⟨p, 1, none⟩ (.map (some w.heap.size))).heap.size = w.heap.size := by simp
  have hblk1 : W1.heap[p]? = some (.cells #[.map (some bD), .map (some w.heap.size), pv, .int .i64 d.left, .int .i64 d.full, .bool d.down] 88) := by
    have := blk_set HB.out 1 (.map (some w.heap.size))
    rw [hW1, Below.heap_alloc _ _ p (by rw [hss]; exact hpl)]; simpa using this
  have hfr1 : Fr [p] w W1 := by rw [hW1]; exact ((Fr.refl [p] w).setCell (Or.inl (by simp)) _).alloc _
  have hs1 : W1.heap.size = w.heap.size + 1 := by rw [hW1]; simp
  have hownW : W1.ownsMap Tryz.prog 9 ptrElem bD nD D := by rw [hW1]; exact (hown.setCell hpne _).alloc _
  have houtW : W1.ownsMap (H := Unit) Tryz.prog 9 ptrElem w.heap.size 0 (.map []) := by
    have := World.ownsMap_made (H := Unit) (w.setCell ⟨p, 1, none⟩ (.map (some w.heap.size))) Tryz.prog 9 ptrElem
    rw [hss] at this
    rw [hW1]; exact this
  have d0 := blk_cell hblk1 0
  simp at d0
  go_enter Tryz.func45, Tryz.ntmps45
  go_wp2_with (first
    | (at_range; rw [← hW1]; refine wpList_range_own _ rfl _ 85 rfl 9 156 Tryz.lawS Tryz.underlying85 ptrElem bD nD D rfl hownW ?_; intro w0 hrg0 hg0 hs0)
    | go_in)
  go_frame
  clear hW1
  have HB1 : Hid (W1.heap[p]? = some (.cells #[.map (some bD), .map (some w.heap.size), pv, .int .i64 d.left, .int .i64 d.full, .bool d.down] 88)) := hblk1
  clear hblk1
  rw [hs1] at hrg0 hs0 ⊢
  go_loopw [2] (fun _ wr => ∃ (left : Lit → Bool) (cnt : Nat) (Dout : DataW Unit), wr.ranges Tryz.prog 9 ptrElem bD (w.heap.size + 1) nD D left cnt ∧ cnt ≤ Maps.size D ∧
      wr.ownsMap Tryz.prog 9 ptrElem w.heap.size (Maps.size D - cnt) Dout ∧ Agree Dout D left ∧ Fr [w.heap.size, w.heap.size + 1] W1 wr)
    (fun _ wr => wr.rangeLeft bD (w.heap.size + 1))
  case atStart =>
    exact ⟨_, _, .map [], hrg0, Nat.le_refl _, (houtW.kept hg0 (by simp)).mono (Nat.zero_le _), agree_start D, (Fr.of_grown hg0).mono (by simp)⟩
  case round =>
    obtain ⟨left, cnt, Dout, hrg, hcs, hout, hA, hnx⟩ := hrel
    have HNX : Hid (Fr [w.heap.size, w.heap.size + 1] W1 wr) := hnx
    have hzr := hnx.size
    have hpr : wr.heap[p]? = some (.cells #[.map (some bD), .map (some w.heap.size), pv, .int .i64 d.left, .int .i64 d.full, .bool d.down] 88) := (hnx.block p (by omega) (by simp; omega)).trans HB1.out
    have HPR : Hid (wr.heap[p]? = some (.cells #[.map (some bD), .map (some w.heap.size), pv, .int .i64 d.left, .int .i64 d.full, .bool d.down] 88)) := hpr
    have r1 := blk_cell hpr 1
    have r2 := blk_cell hpr 2
    have r5 := blk_cell hpr 5
    have q2 := blk_free hpr 2
    have q5 := blk_free hpr 5
    simp at r1 r2 r5
    clear hnx hpr
    go_wp2_with (first
      | (at_next; refine wpList_next_ranges _ rfl _ rfl 9 Tryz.lawS ptrElem encStr Value.pointer (fun key kl hk => by obtain ⟨x, hx, _⟩ := Maps.keyOf_str Tryz.underlying9 hk; exact ⟨x, hx⟩) (fun v y hv => ptrElem_shape hv) bD (w.heap.size + 1) nD _ _ _ rfl hrg ?_ ?_)
      | go_in)
    · intro hc0 hl0
      go_wp2
      go_end0
      subst hc0
      have hD := agree_end hA hl0 (hout.canon Tryz.lawS) (hown.canon Tryz.lawS)
      subst hD
      obtain ⟨W2, hW2⟩ : ∃ W2, W2 = (wr.setCell ⟨p, 2, none⟩ (.slice none 0 0)).setCell ⟨p, 5, none⟩ (.bool false) := ⟨_, rfl⟩
      rw [← hW2]
      have hf2 : Fr [p] wr W2 := by rw [hW2]; exact (Fr.set1 (by simp) _ _).trans (Fr.set1 (by simp) _ _)
      have hfw : Fr [p] w W2 := (hfr1.andThen HNX.out (by intro j hj hl; simp at hj; omega)).trans hf2
      have hb2 : W2.heap[p]? = some (dskO bD w.heap.size (.slice none 0 0) d.left d.full false) := by
        have := blk_set (blk_set HPR.out 2 (.slice none 0 0)) 5 (.bool false)
        rw [hW2]; simpa using this
      have htx : ∀ (q : Nat) (t : ByteArray), w.heap[q]? = some (textO t) → W2.heap[q]? = some (textO t) := fun q t hq => by
        rw [hfw.block q (Array.getElem?_eq_some_iff.1 hq).1 (by simp; intro e; subst e; rw [HB.out] at hq; cases hq)]; exact hq
      have ho1 : W2.ownsMap Tryz.prog 9 ptrElem bD nD Dout := by
        obtain ⟨es, c, a1, a2⟩ := hrg.owns
        exact ⟨es, c, (hf2.block bD (by omega) (by simp; omega)).trans a1, a2⟩
      have ho2 : W2.ownsMap Tryz.prog 9 ptrElem w.heap.size nD Dout := by
        obtain ⟨es, c, a1, a2⟩ := hout.mono (n' := nD) (by omega)
        exact ⟨es, c, (hf2.block w.heap.size (by omega) (by simp; omega)).trans a1, a2⟩
      have h5 : ∀ k : ByteArray, (d.durable k = none → Maps.has Dout (keyL k) = false) ∧ (∀ t, d.durable k = some t → Maps.has Dout (keyL k) = true ∧ k.size ≤ maxLen ∧ ∃ q : Nat, (∀ z, Dout.atKey (keyL k) z = .lit (.int .i64 (q : Int))) ∧ W2.heap[q]? = some (textO t)) := fun k => by
        obtain ⟨a1, a2⟩ := H5.out k
        refine ⟨a1, fun t ht => ?_⟩
        obtain ⟨b1, b2, q, b3, b4⟩ := a2 t ht
        exact ⟨b1, b2, q, b3, htx q t b4⟩
      refine ⟨rfl, ?_, hfw⟩
      exact { blk := hb2, base := ⟨hB.1, hB.2.1, hB.2.2, by have := hfw.size; omega⟩, ne := by omega, dur := ⟨_, ho1, h5⟩, now := ⟨_, ho2, h5⟩, pen := World.ownsRow_nil _ _ _ _, hD := by simpa [ADisk.up] using hn, hN := hn, hn := hn2, leD := hle, leN := hle, ops := by simp [ADisk.up] }
    · intro x c kl yd yp w2 cnt2 hkey hlk hv hat hrg2 hlt hg2 hs2 hen
      obtain ⟨x', ex, rfl, hxl⟩ := Maps.keyOf_str Tryz.underlying9 hkey
      obtain rfl : x = x' := encStr_inj ex
      have hout1 := hout.kept hg2 (by simp)
      have s1 : w2.cell? ⟨p, 1, none⟩ = some (.map (some w.heap.size)) := (grown_cell hg2 (a := ⟨p, 1, none⟩) (by simp; omega) (by simp; omega)).trans r1
      clear hs2
      go_wp2_with (first
        | (at_mapUpdate; refine wpList_mapUpdate_own _ rfl _ _ _ 85 rfl 9 156 Tryz.lawS Tryz.underlying85 ptrElem w.heap.size _ _ rfl hout1 (by unfold maxLen; omega) _ _ _ rfl rfl hkey _ _ hv ?_; intro w3 hout2 hg3; go_frame)
        | go_in)
      have hrg3 := hrg2.kept hg3 (fun e => by have := Option.some.inj e; omega) (fun e => by have := Option.some.inj e; omega)
      go_roundw
      case rel =>
        exact ⟨_, cnt2, _, hrg3, by omega, hout2.mono (by omega), agree_step hA hout.isMap trivial hat, (HNX.out.trans ((Fr.of_grown1 hg2).mono (by intro k _ hk; simp at hk; simp [hk]))).trans ((Fr.of_grown1 hg3).mono (by intro k _ hk; simp at hk; simp [hk]))⟩
      case measure => rw [hrg3.left_eq, hrg.left_eq]; exact hlt
end Go.Proofs.YtejiankgafjppaaGreatDoor
/- HOSTS: Open over nothing. -/
namespace Go.Proofs.YtejiankgafjppaaGreatDoor
open Go.RowKit
open Sc

section
variable {w w' : World} {B p bD bN n nD nN : Nat} {pv : Value} {d : ADisk}
theorem DiskIn.geD (h : DiskIn w B p bD bN pv d n nD nN) {k : Nat} (hk : OwnD p w k) : B ≤ k := by
  have := (h.ownD k).1 hk
  simp at this
  rcases this with e | e | e | e
  · rw [e]; exact h.base.1
  · rw [e]; exact h.base.2.1
  · rw [e]; exact h.base.2.2.1
  · exact (h.pen.lt k e).1
end
/-- a block of another kind was written -/
theorem LogIn.other {w w' : World} {B lp p bD bN n nD nN q : Nat} {pv sv rv : Value} {l : ALog} {d : ADisk} {c : Array Value} {t : TypeId} (h : LogIn w B lp p bD bN pv sv rv l d n nD nN) (hf : Fr [q] w w') (hq : w.heap[q]? = some (.cells c t (0, 0))) (h1 : t ≠ 88) (h2 : t ≠ 175) (h3 : t ≠ 168) (h4 : t ≠ 34) (h5 : t ≠ 44) (h6 : t ≠ 9) : LogIn w' B lp p bD bN pv sv rv l d n nD nN := by
  have ho := h.free hq h1 h2 h3 h4 h5
  rw [h.own] at ho
  simp only [not_or] at ho
  refine h.turned (h.disk.fr hf ?_ ?_ ?_ ?_ ?_) hf ?_ (Nat.le_refl _)
  · simpa using fun e => ho.2.1 e.symm
  · simpa using fun e => ho.2.2.1 e.symm
  · simpa using fun e => ho.2.2.2.1 e.symm
  · intro g hg; simp; intro e; subst e; exact ho.2.2.2.2.1 hg
  · intro r hr x; simp at hr; subst hr; rw [hq]; intro e; cases e; exact h6 rfl
  · intro r hr _; simp at hr; subst hr; exact ⟨ho.1, ho.2.2.2.2.2.1, ho.2.2.2.2.2.2⟩
end Go.Proofs.YtejiankgafjppaaGreatDoor
/- LEDGERS: Note, Keep. -/
namespace Go.Proofs.YtejiankgafjppaaGreatDoor
open Go.RowKit
open Sc

abbrev ledO (lp : Nat) : Obj := .cells #[.pointer (some ⟨lp, 0, none⟩)] 272
theorem OFr.led {w w' : World} {B lp p bD bN n nD nN q : Nat} {pv sv rv : Value} {l : ALog} {d : ADisk} (hf : OFr lp p w w') (h : LogIn w B lp p bD bN pv sv rv l d n nD nN) (hh : w.heap[q]? = some (ledO lp)) : w'.heap[q]? = some (ledO lp) :=
  (hf.block q (Array.getElem?_eq_some_iff.1 hh).1 (h.free hh (by decide) (by decide) (by decide) (by decide) (by decide))).trans hh
theorem lappend_any (B lp p bD bN n nD nN kind : Nat) (pv sv rv : Value) (l : ALog) (d : ADisk) (s : ByteArray) (w : World) (h : LogIn w B lp p bD bN pv sv rv l d n nD nN) (hk : kind < 256) (hn : n + 3 < 67108864) (hB : 2 ≤ B) (hsg : l.filled < 600 → l.segs ≠ []) (hpow : Pows w) :
    Calls Tryz.prog 55 #[.pointer (some ⟨lp, 0, none⟩), .int .u8 (kind : Int), .string s] w (AppPost B lp p bD bN (n + 3) (l.append d kind s) w) := by
  by_cases hs : 255 < s.size
  · refine (lappend_no B lp p bD bN n nD nN kind pv sv rv l d s w h hs (by omega)).mono ?_
    rintro e w2 ⟨he, ⟨pv2, sv2, rv2, nD2, nN2, hl2⟩, ho2⟩
    exact ⟨he, ⟨pv2, sv2, rv2, nD2, nN2, hl2.mores (by omega) (by omega)⟩, ho2⟩
  · exact lappend_yes B lp p bD bN n nD nN kind pv sv rv l d s w h (by omega) hk (by omega) hB hsg hpow
/-- what Note leaves, and says -/
def ALog.note (l : ALog) (d : ADisk) (kind : Nat) (s : ByteArray) : ALog × ADisk × Nat := ((l.append d kind s).1, (l.append d kind s).2.1, (l.append d kind s).2.2.2)
set_option maxRecDepth 100000 in
set_option maxHeartbeats 2000000 in
theorem note_any (B gp lp p bD bN n nD nN kind : Nat) (pv sv rv : Value) (l : ALog) (d : ADisk) (s : ByteArray) (w : World) (hg : w.heap[gp]? = some (ledO lp)) (h : LogIn w B lp p bD bN pv sv rv l d n nD nN) (hk : kind < 256) (hn : n + 3 < 67108864) (hB : 2 ≤ B) (hsg : l.filled < 600 → l.segs ≠ []) (hpow : Pows w) :
    Calls Tryz.prog 132 #[.pointer (some ⟨gp, 0, none⟩), .int .u8 (kind : Int), .string s] w (ErrPost B lp p bD bN (n + 3) (l.note d kind s) w) := by
  have c0 := blk_cell hg 0
  simp at c0
  have HC : Hid (Calls Tryz.prog 55 #[.pointer (some ⟨lp, 0, none⟩), .int .u8 (kind : Int), .string s] w (AppPost B lp p bD bN (n + 3) (l.append d kind s) w)) := lappend_any B lp p bD bN n nD nN kind pv sv rv l d s w h hk hn hB hsg hpow
  clear h hg
  go_enter Tryz.func132, Tryz.ntmps132
  go_wp2_with fail
  refine HC.out.mono ?_
  rintro e w1 ⟨rfl, hl1, ho1⟩
  have H1 : Hid ((∃ pv sv rv nD nN, LogIn w1 B lp p bD bN pv sv rv (l.append d kind s).1 (l.append d kind s).2.1 (n + 3) nD nN) ∧ OFr lp p w w1) := ⟨hl1, ho1⟩
  clear hl1 ho1
  go_wp2
  go_ret
  exact ⟨rfl, H1.out.1, H1.out.2⟩
/-- what Keep leaves, and says -/
def ALog.keep (l : ALog) (d : ADisk) (kind : Nat) (s : ByteArray) : ALog × ADisk × Nat :=
  if (l.note d kind s).2.2 = 0 then (l.note d kind s).1.force (l.note d kind s).2.1 else l.note d kind s
set_option maxRecDepth 100000 in
set_option maxHeartbeats 2000000 in
theorem keep_any (B gp lp p bD bN n nD nN kind : Nat) (pv sv rv : Value) (l : ALog) (d : ADisk) (s : ByteArray) (w : World) (hg : w.heap[gp]? = some (ledO lp)) (h : LogIn w B lp p bD bN pv sv rv l d n nD nN) (hk : kind < 256) (hn : n + 3 < 67108864) (hB : 2 ≤ B) (hsg : l.filled < 600 → l.segs ≠ []) (hpow : Pows w) :
    Calls Tryz.prog 134 #[.pointer (some ⟨gp, 0, none⟩), .int .u8 (kind : Int), .string s] w (ErrPost B lp p bD bN (n + 3) (l.keep d kind s) w) := by
  have HC : Hid (Calls Tryz.prog 132 #[.pointer (some ⟨gp, 0, none⟩), .int .u8 (kind : Int), .string s] w (ErrPost B lp p bD bN (n + 3) (l.note d kind s) w)) := note_any B gp lp p bD bN n nD nN kind pv sv rv l d s w hg h hk hn hB hsg hpow
  have HG : Hid (w.heap[gp]? = some (ledO lp) ∧ LogIn w B lp p bD bN pv sv rv l d n nD nN) := ⟨hg, h⟩
  clear h hg
  go_enter Tryz.func134, Tryz.ntmps134
  go_wp2_with fail
  refine HC.out.mono ?_
  rintro e w1 ⟨rfl, ⟨pv1, sv1, rv1, nD1, nN1, hl1⟩, ho1⟩
  have hg1 := ho1.led HG.out.2 HG.out.1
  have c0 := blk_cell hg1 0
  simp at c0
  have H1 : Hid (LogIn w1 B lp p bD bN pv1 sv1 rv1 (l.note d kind s).1 (l.note d kind s).2.1 (n + 3) nD1 nN1 ∧ OFr lp p w w1) := ⟨hl1, ho1⟩
  clear hl1 ho1 hg1
  by_cases hc : (l.note d kind s).2.2 = 0
  · have e : l.keep d kind s = (l.note d kind s).1.force (l.note d kind s).2.1 := by unfold ALog.keep; rw [if_pos hc]
    rw [hc, errN_ok]
    go_wp2_with fail
    refine (force_any B lp p bD bN (n + 3) nD1 nN1 pv1 sv1 rv1 _ _ w1 H1.out.1 (by omega)).mono ?_
    rintro e w2 ⟨rfl, hl2, ho2⟩
    have H2 : Hid ((∃ pv sv rv nD nN, LogIn w2 B lp p bD bN pv sv rv ((l.note d kind s).1.force (l.note d kind s).2.1).1 ((l.note d kind s).1.force (l.note d kind s).2.1).2.1 (n + 3) nD nN) ∧ OFr lp p w w2) := ⟨hl2, H1.out.2.trans ho2⟩
    clear hl2 ho2
    go_wp2
    go_ret
    rw [e]
    exact ⟨rfl, H2.out.1, H2.out.2⟩
  · have e : l.keep d kind s = l.note d kind s := by unfold ALog.keep; rw [if_neg hc]
    rw [errN_no hc]
    go_wp2
    go_ret
    rw [e]
    exact ⟨by rw [errN_no hc]; rfl, ⟨pv1, sv1, rv1, nD1, nN1, H1.out.1⟩, H1.out.2⟩
end Go.Proofs.YtejiankgafjppaaGreatDoor
/- A SHARD BESIDE ITS LOG: what turns of the one leaves the other. -/
namespace Go.Proofs.YtejiankgafjppaaGreatDoor
open Go.RowKit Go.Maps
open Sc

section
variable {w w' : World} {B lp p bD bN n nD nN : Nat} {pv sv rv : Value} {l : ALog} {d : ADisk}
theorem LogIn.freeMap (h : LogIn w B lp p bD bN pv sv rv l d n nD nN) {b : Nat} (hb : ∃ es c, w.heap[b]? = some (.map es c)) (h1 : b ≠ bD) (h2 : b ≠ bN) : ¬ Own lp p w b := by
  obtain ⟨es, c, hb⟩ := hb
  rw [h.own]
  rintro (e | e | e | e | e | e | e)
  · subst e; rw [h.blk] at hb; cases hb
  · subst e; rw [h.disk.blk] at hb; cases hb
  · exact h1 e
  · exact h2 e
  · obtain ⟨c, hc⟩ := own_cells h.disk.pen e; rw [hc] at hb; cases hb
  · obtain ⟨c, hc⟩ := own_cells h.segs e; rw [hc] at hb; cases hb
  · obtain ⟨c, hc⟩ := own_cells h.recs e; rw [hc] at hb; cases hb
/-- what is not the log's was turned -/
theorem LogIn.apart {S : List Nat} (h : LogIn w B lp p bD bN pv sv rv l d n nD nN) (hf : Fr S w w') (hS : ∀ k ∈ S, k < w.heap.size → ¬ Own lp p w k ∧ ∀ t, w.heap[k]? ≠ some (textO t)) : LogIn w' B lp p bD bN pv sv rv l d n nD nN := by
  have key : ∀ k, k < w.heap.size → Own lp p w k → k ∉ S := fun k hk ho hm => (hS k hm hk).1 ho
  have lt : ∀ k, Own lp p w k → k < w.heap.size := fun k ho => by
    rcases (h.own k).1 ho with e | e | e | e | e | e | e
    · rw [e]; exact (Array.getElem?_eq_some_iff.1 h.blk).1
    · rw [e]; exact (Array.getElem?_eq_some_iff.1 h.disk.blk).1
    · rw [e]; exact h.disk.dur.lt
    · rw [e]; exact h.disk.now.lt
    · exact (h.disk.pen.lt k e).2
    · exact (h.segs.lt k e).2
    · exact (h.recs.lt k e).2
  have no : ∀ k, Own lp p w k → k ∉ S := fun k ho => key k (lt k ho) ho
  have hin : ∀ {k}, (k = lp ∨ k = p ∨ k = bD ∨ k = bN ∨ pv.ownBlock = some k ∨ sv.ownBlock = some k ∨ rv.ownBlock = some k) → k ∉ S := fun {k} hk => no k ((h.own k).2 hk)
  refine h.turned (h.disk.fr hf (hin (by simp)) (hin (by simp)) (hin (by simp)) (fun g hg => hin (by simp [hg])) (fun q hq t => ?_)) hf (fun k hk hl => ?_) (Nat.le_refl _)
  · by_cases hl : q < w.heap.size
    · exact (hS q hq hl).2 t
    · intro e; exact hl (Array.getElem?_eq_some_iff.1 e).1
  · have := (hS k hk hl).1
    rw [h.own] at this
    simp only [not_or] at this
    exact ⟨this.1, this.2.2.2.2.2.1, this.2.2.2.2.2.2⟩
end
/-- a shard and its log lie apart -/
structure ShLog (w : World) (sp gp bV bT bH bD bN lp : Nat) : Prop where
  led : w.heap[gp]? = some (ledO lp)
  ne : bV ≠ bD ∧ bV ≠ bN ∧ bT ≠ bD ∧ bT ≠ bN ∧ bH ≠ bD ∧ bH ≠ bN
section
variable {w w' : World} {B sp gp bV bT bH m lp p bD bN n nD nN : Nat} {pv sv rv : Value} {l : ALog} {d : ADisk} {s : AShard}
theorem ShIn.free (hs : ShIn w sp gp bV bT bH m s) (h : LogIn w B lp p bD bN pv sv rv l d n nD nN) (hx : ShLog w sp gp bV bT bH bD bN lp) : ∀ k ∈ [sp, gp, bV, bT, bH], ¬ Own lp p w k ∧ ∀ t, w.heap[k]? ≠ some (textO t) := by
  intro k hk
  simp at hk
  rcases hk with rfl | rfl | rfl | rfl | rfl
  · exact ⟨h.free hs.blk (by decide) (by decide) (by decide) (by decide) (by decide), fun t e => by rw [hs.blk] at e; cases e⟩
  · exact ⟨h.free hx.led (by decide) (by decide) (by decide) (by decide) (by decide), fun t e => by rw [hx.led] at e; cases e⟩
  · exact ⟨h.freeMap hs.vals.isMap hx.ne.1 hx.ne.2.1, fun t e => by obtain ⟨es, c, e2⟩ := hs.vals.isMap; rw [e2] at e; cases e⟩
  · exact ⟨h.freeMap hs.txns.isMap hx.ne.2.2.1 hx.ne.2.2.2.1, fun t e => by obtain ⟨es, c, e2⟩ := hs.txns.isMap; rw [e2] at e; cases e⟩
  · exact ⟨h.freeMap hs.holds.isMap hx.ne.2.2.2.2.1 hx.ne.2.2.2.2.2, fun t e => by obtain ⟨es, c, e2⟩ := hs.holds.isMap; rw [e2] at e; cases e⟩
/-- the log has turned: the shard is as it was -/
theorem ShIn.ofr (hs : ShIn w sp gp bV bT bH m s) (h : LogIn w B lp p bD bN pv sv rv l d n nD nN) (hx : ShLog w sp gp bV bT bH bD bN lp) (hf : OFr lp p w w') : ShIn w' sp gp bV bT bH m s ∧ ShLog w' sp gp bV bT bH bD bN lp := by
  have hfree := hs.free h hx
  have mv : ∀ {K V : Type} [DecidableEq K] {kt : TypeId} {KR : KeyRep Tryz.prog K kt} {ER : ElRep V} {b k : Nat} {L : List (K × V)}, MapAs KR ER w b k L → b ∈ [sp, gp, bV, bT, bH] → MapAs KR ER w' b k L := by
    intro K V _ kt KR ER b k L hM hb
    have hlt := hM.lt
    obtain ⟨es, ⟨es', c, h1, h2⟩, r⟩ := hM
    exact ⟨es, ⟨es', c, (hf.block b hlt (hfree b hb).1).trans h1, h2⟩, r⟩
  exact ⟨{ blk := (hf.block sp hs.lts.1 (hfree sp (by simp)).1).trans hs.blk, vals := mv hs.vals (by simp), txns := mv hs.txns (by simp), holds := mv hs.holds (by simp), ne := hs.ne, ticks := hs.ticks },
    { led := (hf.block gp (Array.getElem?_eq_some_iff.1 hx.led).1 (hfree gp (by simp)).1).trans hx.led, ne := hx.ne }⟩
/-- the shard has turned: the log is as it was -/
theorem LogIn.shard {S : List Nat} (h : LogIn w B lp p bD bN pv sv rv l d n nD nN) (hs : ShIn w sp gp bV bT bH m s) (hx : ShLog w sp gp bV bT bH bD bN lp) (hf : Fr S w w') (hS : ∀ k ∈ S, k ∈ [sp, bV, bT, bH]) : LogIn w' B lp p bD bN pv sv rv l d n nD nN ∧ ShLog w' sp gp bV bT bH bD bN lp := by
  have hfree := hs.free h hx
  have sub : ∀ k ∈ S, k ∈ [sp, gp, bV, bT, bH] := fun k hk => by have := hS k hk; simp at this ⊢; rcases this with e | e | e | e <;> simp [e]
  refine ⟨h.apart hf (fun k hk _ => hfree k (sub k hk)), { led := (hf.block gp (Array.getElem?_eq_some_iff.1 hx.led).1 (fun hm => ?_)).trans hx.led, ne := hx.ne }⟩
  have := hS gp hm
  simp at this
  have hled := hx.led
  rcases this with e | e | e | e
  · rw [e, hs.blk] at hled; simp at hled
  · obtain ⟨es, c, e2⟩ := hs.vals.isMap; rw [e, e2] at hled; cases hled
  · obtain ⟨es, c, e2⟩ := hs.txns.isMap; rw [e, e2] at hled; cases hled
  · obtain ⟨es, c, e2⟩ := hs.holds.isMap; rw [e, e2] at hled; cases hled
end
end Go.Proofs.YtejiankgafjppaaGreatDoor
/- SHARDS: holdsOf. -/
namespace Go.Proofs.YtejiankgafjppaaGreatDoor
open Go.RowKit Go.Maps
open Sc

theorem del_shorter {K V : Type} [DecidableEq K] {l : List (K × V)} {k : K} {v : V} (h : (k, v) ∈ l) : (alDel l k).length + 1 ≤ l.length := by
  have : (alDel l k).length < l.length := by
    unfold alDel
    rw [List.length_filter_lt_length_iff_exists]
    exact ⟨_, h, by simp⟩
  omega
theorem alLook_put {K V : Type} [DecidableEq K] {l : List (K × V)} {k j : K} {v : V} : alLook (alPut l k v) j = if j = k then some v else alLook l j := by
  by_cases e : j = k
  · subst e
    rw [if_pos rfl]
    simp [alLook, alPut]
  · rw [if_neg e]
    have h1 := alLook_del (rem := l) (k := k) (j := j)
    rw [if_neg e] at h1
    rw [← h1]
    have e2 : ¬ k = j := fun x => e x.symm
    simp [alLook, alPut, e2]
theorem mkHeld (W : World) : (Instr.makeMap 267 none).run Tryz.prog W = .ok (.map (some W.heap.size)) (W.alloc (.map #[] 0)) := by
  simp [Instr.makeMap]
set_option maxRecDepth 100000 in
set_option maxHeartbeats 4000000 in
theorem holdsOf_any (sp lg bV bT bH n t : Nat) (s : AShard) (w : World) (h : ShIn w sp lg bV bT bH n s) (ht : t < 18446744073709551616) (hn : n < maxLen) :
    Calls Tryz.prog 188 #[.pointer (some ⟨sp, 0, none⟩), .int .u64 (t : Int)] w fun e w' => ∃ b L, e = .returned (.map (some b)) ∧ w.heap.size ≤ b ∧ MapAs KS EG w' b n L ∧ (∀ k, alLook L k = alLook s.holds (t, k)) ∧ Fr [] w w' := by
  have HI : Hid (ShIn w sp lg bV bT bH n s) := h
  have c3 := blk_cell h.blk 3
  simp at c3
  have hsp : sp < w.heap.size := (Array.getElem?_eq_some_iff.1 h.blk).1
  clear h
  have hmk := mkHeld
  go_enter Tryz.func188, Tryz.ntmps188
  go_wp2_with (first
    | (at_range; refine wpList_map_range (KR := KH) (ER := EG) rfl _ 183 189 rfl Tryz.underlying183 bH n s.holds rfl (HI.out.holds.fr ((Fr.refl [] w).alloc _) (by simp)) ?_; intro w0 hrg0 hg0 hs0)
    | go_in)
  have hsz1 : (w.alloc (.map #[] 0)).heap.size = w.heap.size + 1 := by simp
  rw [hsz1] at hrg0 hs0 ⊢
  clear hsz1
  go_frame
  have HF0 : Hid (Fr [] w w0) := ((Fr.refl [] w).alloc _).trans (Fr.of_grown hg0)
  have HM0 : Hid (MapAs KS EG w0 w.heap.size 0 []) := (MapAs.made w).fr (Fr.of_grown hg0) (by simp)
  have HR0 : Hid (RangesAs KH EG w0 bH (w.heap.size + 1) n s.holds s.holds) := hrg0
  have hlen := HI.out.holds.len
  clear hrg0 hg0
  go_loopw [6] (fun _ wr => ∃ rem L m, Hid (RangesAs KH EG wr bH (w.heap.size + 1) n s.holds rem ∧ MapAs KS EG wr w.heap.size m L ∧ m + rem.length ≤ n ∧ (∀ k, alLook L k = if (alLook rem (t, k)).isSome = true then none else alLook s.holds (t, k)) ∧ Fr [] w wr ∧ w.heap.size + 2 ≤ wr.heap.size)) (fun _ wr => wr.rangeLeft bH (w.heap.size + 1))
  case atStart =>
    refine ⟨s.holds, [], 0, HR0.out, HM0.out, by omega, fun k => ?_, HF0.out, by omega⟩
    cases alLook s.holds (t, k) with
    | none => rfl
    | some v => rfl
  case round =>
    obtain ⟨rem, L, m, HX⟩ := hrel
    have hrg := HX.out.1
    go_wp2_with (first
      | (at_next; refine wpList_map_next (KR := KH) (ER := EG) rfl _ rfl bH (w.heap.size + 1) n s.holds rem rfl hrg ?_ ?_)
      | go_in)
    · intro hnil
      go_wp2
      go_ret
      refine ⟨w.heap.size, L, rfl, Nat.le_refl _, HX.out.2.1.mono (by have := HX.out.2.2.1; omega), fun k => ?_, HX.out.2.2.2.2.1⟩
      rw [HX.out.2.2.2.1 k, hnil]
      rfl
    · intro tx k2 x w2 hm hrg2 hlt hg2 hs2 hen
      have hms : ((tx, k2), x) ∈ s.holds := by
        obtain ⟨_, _, _, _, _, _, _, _, h6, _⟩ := hrg
        exact h6 _ hm
      have hok : tx < 18446744073709551616 ∧ k2.size ≤ maxLen := by
        obtain ⟨_, _, _, _, hok⟩ := hrg.owns
        exact (hok _ hms).1
      have HLT : Hid (w2.rangeLeft bH (w.heap.size + 1) < wr.rangeLeft bH (w.heap.size + 1)) := hlt
      have HRG2 : Hid (RangesAs KH EG w2 bH (w.heap.size + 1) n s.holds (alDel rem (tx, k2))) := hrg2
      have HF2 : Hid (Fr [] w w2) := HX.out.2.2.2.2.1.andThen (Fr.of_grown1 hg2) (fun j hj hl => by simp at hj; omega)
      have HM2 : Hid (MapAs KS EG w2 w.heap.size m L) := HX.out.2.1.fr (Fr.of_grown1 hg2) (by simp)
      have hsz2 : w.heap.size + 2 ≤ w2.heap.size := by have := HX.out.2.2.2.2.2; omega
      have hen' : (Instr.entry (.pointer (some ⟨w.heap.size + 1, 0, none⟩))).run Tryz.prog w2 = .ok (.tuple #[.agg #[.int .u64 (tx : Int), .string k2], .agg #[.int .u8 (x.way : Int), .string x.val]]) w2 := hen
      have HMM : Hid (((tx, k2), x) ∈ rem ∧ ((tx, k2), x) ∈ s.holds) := ⟨hm, hms⟩
      have HONE : Hid (Once1 s.holds) := by obtain ⟨_, _, _, h3, _⟩ := hrg.owns; exact h3
      clear hrg hrg2 hm hms hen hg2 hs2 hlt
      have hmb : m < maxLen := by
        have h1 := del_shorter HMM.out.1
        have h2 := HX.out.2.2.1
        omega
      by_cases htt : tx = t
      · subst htt
        go_wp2_with (first
          | (at_mapUpdate; refine wpList_map_put (KR := KS) (ER := EG) rfl _ _ _ 267 189 rfl Tryz.underlying267 w.heap.size m L rfl (HM2.out.fr (((Fr.refl [] w2).alloc _).alloc _) (by simp)) hmb k2 hok.2 rfl x trivial rfl ?_; intro w3 hm3 hg3)
          | go_in)
        go_frame
        go_wp2
        have hf3 : Fr [w.heap.size] w2 w3 := (((Fr.refl [w.heap.size] w2).alloc _).alloc _).trans (Fr.of_grown1 hg3)
        have hbl : bH < w.heap.size := HI.out.lts.2.2.2.1
        obtain ⟨r1, r2⟩ := HRG2.out.fr hf3 (by simp; omega) (by simp)
        go_roundw
        case rel =>
          refine ⟨alDel rem (tx, k2), alPut L k2 x, m + 1, r1, hm3, ?_, fun k => ?_, HF2.out.andThen hf3 (fun j hj hl => by simp at hj; omega), Nat.le_trans hsz2 hf3.size⟩
          · have h1 := del_shorter HMM.out.1
            have h2 := HX.out.2.2.1
            omega
          · rw [alLook_put, alLook_del]
            by_cases e : k = k2
            · subst e
              rw [if_pos rfl, if_pos (rfl : (tx, k) = (tx, k))]
              exact (alLook_of HONE.out HMM.out.2).symm
            · have e1 : ¬ (tx, k) = (tx, k2) := by simp [e]
              rw [if_neg e, if_neg e1]
              exact HX.out.2.2.2.1 k
        case measure => rw [r2]; exact HLT.out
      · have hb : ((tx : Int) == (t : Int)) = false := by simp; omega
        go_wp2
        obtain ⟨r1, r2⟩ := HRG2.out.fr (((Fr.refl [] w2).alloc (.cells #[.int .u64 (tx : Int), .string k2] 191)).alloc (.cells #[.int .u8 (x.way : Int), .string x.val] 189)) (by simp) (by simp)
        refine ⟨⟨alDel rem (tx, k2), L, m, r1, HM2.out.fr (((Fr.refl [] w2).alloc _).alloc _) (by simp), ?_, fun k => ?_, HF2.out.trans (((Fr.refl [] w2).alloc _).alloc _), Nat.le_trans hsz2 (by simp; omega)⟩, by rw [r2]; exact HLT.out⟩
        · have h1 := del_shorter HMM.out.1
          have h2 := HX.out.2.2.1
          omega
        · have e1 : ¬ (t, k) = (tx, k2) := fun e => htt (congrArg Prod.fst e).symm
          rw [alLook_del, if_neg e1]
          exact HX.out.2.2.2.1 k
end Go.Proofs.YtejiankgafjppaaGreatDoor
/- SHARDS: anyWrites. -/
namespace Go.Proofs.YtejiankgafjppaaGreatDoor
open Go.RowKit Go.Maps
open Sc

def anyW (L : List (ByteArray × AGrip)) : Bool := L.any fun p => p.2.writes
set_option maxRecDepth 100000 in
set_option maxHeartbeats 4000000 in
theorem anyWrites_any (b n : Nat) (L : List (ByteArray × AGrip)) (w : World) (h : MapAs KS EG w b n L) :
    Calls Tryz.prog 189 #[.map (some b)] w fun e w' => e = .returned (.bool (anyW L)) ∧ Fr [] w w' := by
  have HI : Hid (MapAs KS EG w b n L) := h
  clear h
  go_enter Tryz.func189, Tryz.ntmps189
  go_wp2_with (first
    | (at_range; refine wpList_map_range (KR := KS) (ER := EG) rfl _ 267 189 rfl Tryz.underlying267 b n L rfl HI.out ?_; intro w0 hrg0 hg0 hs0)
    | go_in)
  go_frame
  have HF0 : Hid (Fr [] w w0) := Fr.of_grown hg0
  have HR0 : Hid (RangesAs KS EG w0 b w.heap.size n L L) := hrg0
  clear hrg0 hg0
  go_loopw [4] (fun _ wr => ∃ rem, Hid (RangesAs KS EG wr b w.heap.size n L rem ∧ (∀ p ∈ L, p ∉ rem → p.2.writes = false) ∧ Fr [] w wr ∧ w.heap.size + 1 ≤ wr.heap.size)) (fun _ wr => wr.rangeLeft b w.heap.size)
  case atStart => exact ⟨L, HR0.out, fun p h1 h2 => absurd h1 h2, HF0.out, by omega⟩
  case round =>
    obtain ⟨rem, HX⟩ := hrel
    have hrg := HX.out.1
    go_wp2_with (first
      | (at_next; refine wpList_map_next (KR := KS) (ER := EG) rfl _ rfl b w.heap.size n L rem rfl hrg ?_ ?_)
      | go_in)
    · intro hnil
      go_wp2
      go_ret
      refine ⟨?_, HX.out.2.2.1⟩
      have hno : anyW L = false := by
        unfold anyW
        rw [List.any_eq_false]
        intro p hp
        rw [HX.out.2.1 p hp (by rw [hnil]; simp)]
        simp
      rw [hno]; rfl
    · intro k x w2 hm hrg2 hlt hg2 hs2 hen
      have hms : (k, x) ∈ L := by
        obtain ⟨_, _, _, _, _, _, _, _, h6, _⟩ := hrg
        exact h6 _ hm
      have HF2 : Hid (Fr [] w w2) := HX.out.2.2.1.andThen (Fr.of_grown1 hg2) (fun j hj hl => by simp at hj; omega)
      have hsz2 : w.heap.size + 1 ≤ w2.heap.size := by have := HX.out.2.2.2; omega
      have hen' : (Instr.entry (.pointer (some ⟨w.heap.size, 0, none⟩))).run Tryz.prog w2 = .ok (.tuple #[.string k, .agg #[.int .u8 (x.way : Int), .string x.val]]) w2 := hen
      have GO : Hid (x.writes = false → ∀ W, Fr [] w2 W → (∃ rem, Hid (RangesAs KS EG W b w.heap.size n L rem ∧ (∀ p ∈ L, p ∉ rem → p.2.writes = false) ∧ Fr [] w W ∧ w.heap.size + 1 ≤ W.heap.size)) ∧ W.rangeLeft b w.heap.size < wr.rangeLeft b w.heap.size) := fun hc W hW => by
        obtain ⟨r1, r2⟩ := hrg2.fr hW (by simp) (by simp)
        refine ⟨⟨alDel rem k, r1, fun p hp hn => ?_, HF2.out.trans hW, Nat.le_trans hsz2 hW.size⟩, by rw [r2]; exact hlt⟩
        by_cases hpr : p ∈ rem
        · have hpo : p.1 = k := Decidable.byContradiction fun hne => hn (List.mem_filter.2 ⟨hpr, by simp [hne]⟩)
          have hone : Once1 L := by obtain ⟨_, _, _, h3, _⟩ := hrg.owns; exact h3
          have := hone.same hp hms hpo
          rw [this]; exact hc
        · exact HX.out.2.1 p hp hpr
      have YES : Hid (x.writes = true → anyW L = true) := fun hc => by
        unfold anyW
        rw [List.any_eq_true]
        exact ⟨_, hms, hc⟩
      clear hrg hrg2 hm hms hen hg2 hs2 hlt
      by_cases hx : x.way = 0
      · have hb : ((x.way : Int) != 0) = false := by simp [hx]
        have GO2 : Hid _ := GO.out (by simp [AGrip.writes, hx])
        clear GO YES hx
        go_wp2
        exact GO2.out _ (((Fr.refl [] w2).alloc _).alloc _)
      · have hb : ((x.way : Int) != 0) = true := by simp [hx]
        have YES2 : Hid _ := YES.out (by simp [AGrip.writes, hx])
        clear GO YES hx
        go_wp2
        go_ret
        exact ⟨by rw [YES2.out]; rfl, HF2.out.trans (((Fr.refl [] w2).alloc _).alloc _)⟩
end Go.Proofs.YtejiankgafjppaaGreatDoor
/- MAPS, BY LISTS OF WHAT THEY HOLD: to delete while ranging. -/
namespace Go.Proofs.YtejiankgafjppaaGreatDoor
open Go.RowKit Go.Maps
open Sc

section
variable {P : Program} {K V : Type} [DecidableEq K] {kt : TypeId} {KR : KeyRep P K kt} {ER : ElRep V} {w : World} {ops : Array Oper} {rest : List Oper} {o : Oper} {a : Act} {Q : Exit → Act → World → Prop}
/-- delete(m, k) in a round, at the operation -/
theorem wpList_map_ddel (hg : o.guard = none) (m x : Operand) (t e : TypeId) (hop : o.op = Op.call { callee := Callee.builtin Builtin.delete, args := #[m, x], argTypes := #[t, kt] }) (ht : P.underlying t = some (.map kt e)) (b r n : Nat) (l rem : List (K × V)) (hm : a.eval m = .map (some b)) (hM : RangesAs KR ER w b r n l rem)
    (k : K) (hk : KR.ok k) (hx : a.eval x = KR.kv k)
    (hK : ∀ w', RangesAs KR ER w' b r n (alDel l k) (alDel rem k) → w'.rangeLeft b r ≤ w.rangeLeft b r → w.grownBy w' (some b) → wpList P ops Q rest (a.put o.dst (.tuple #[])) w') : wpList P ops Q (o :: rest) a w := by
  obtain ⟨es, left, cnt, hrg, hp, h1, hok, h5, h6, h7⟩ := hM
  refine wpList_delete_ranges w hg m x t kt hop e KR.law ht ER.R b r n _ left cnt hm hrg _ (KR.kl k) hx (KR.key k hk) ?_
  intro w' cnt' hrg' hle htr
  have hle' : w'.rangeLeft b r ≤ w.rangeLeft b r := by rw [hrg'.left_eq, hrg.left_eq]; exact hle
  rw [DataW.del_eq] at hrg'
  refine hK w' ⟨_, _, cnt', hrg', filter_of hp hok hk, h1.del k, fun p hp => hok p (List.mem_filter.1 hp).1, h5.del k, fun p hp => ?_, fun j hj => ?_⟩ hle' htr.grown
  · have := List.mem_filter.1 hp
    exact List.mem_filter.2 ⟨h6 p this.1, this.2⟩
  · rw [h7 j hj, KR.same hj hk, alLook_del]
    by_cases e : j = k
    · simp [e]
    · simp [e]
end
end Go.Proofs.YtejiankgafjppaaGreatDoor
