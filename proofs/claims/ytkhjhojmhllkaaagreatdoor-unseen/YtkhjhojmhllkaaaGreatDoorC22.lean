import Derived.Test.YtkhjhojmhllkaaaGreatDoorC07
import Derived.Test.YtkhjhojmhllkaaaGreatDoorC21
import Derived.Test.YtkhjhojmhllkaaaGreatDoorC18
import Derived.Test.YtkhjhojmhllkaaaGreatDoorC05
import Derived.Test.YtkhjhojmhllkaaaGreatDoorC17
/- (*disk).up: what is durable is what is there. -/
namespace Go.Proofs.YtkhjhojmhllkaaaGreatDoor
open Go.RowKit Go.Maps

def ADisk.up (d : ADisk) : ADisk := { d with now := d.durable, pending := [], down := false }
theorem keyLB (x : List UInt8) : Lit.string x = keyL ⟨x.toArray⟩ := by simp [keyL]

set_option maxRecDepth 100000 in
set_option maxHeartbeats 2000000 in
theorem up_any (B p bD n nD : Nat) (pv nv : Value) (d : ADisk) (w : World) (hblk : w.heap[p]? = some (.cells #[.map (some bD), nv, pv, .int .i64 d.left, .int .i64 d.full, .bool d.down] 97)) (hB : B ≤ p ∧ B ≤ bD ∧ B ≤ w.heap.size) (hdur : FileMap w bD nD d.durable) (hn : nD ≤ n) (hn2 : n ≤ 67108864) (hle : d.durable.Le (nD * 4096)) :
    Calls Tryz.prog 50 #[.pointer (some ⟨p, 0, none⟩)] w fun e w' => e = .returned (.tuple #[]) ∧ DiskIn w' B p bD w.heap.size (.slice none 0 0) d.up n nD nD ∧ Fr [p] w w' := by
  have hmm := @run_makeMap Tryz.prog
  have c0 := blk_cell hblk 0
  have c1 := blk_cell hblk 1
  have c2 := blk_cell hblk 2
  have c5 := blk_cell hblk 5
  have f1 := blk_free hblk 1
  have f2 := blk_free hblk 2
  have f5 := blk_free hblk 5
  simp at c0 c1 c2 c5
  have hpl : p < w.heap.size := (Array.getElem?_eq_some_iff.1 hblk).1
  have hbl := hdur.lt
  have hpne : bD ≠ p := hdur.ne_cells hblk
  obtain ⟨D, hown, h5⟩ := hdur
  have H5 : Hid (∀ k : ByteArray, (d.durable k = none → Maps.has D (keyL k) = false) ∧ (∀ t, d.durable k = some t → Maps.has D (keyL k) = true ∧ k.size ≤ maxLen ∧ ∃ q : Nat, (∀ z, D.atKey (keyL k) z = .lit (.int .i64 (q : Int))) ∧ w.heap[q]? = some (textO t))) := h5
  clear h5
  have hsz := hown.size_le
  have HB : Hid (w.heap[p]? = some (.cells #[.map (some bD), nv, pv, .int .i64 d.left, .int .i64 d.full, .bool d.down] 97)) := hblk
  clear hblk
  have hpa1 : (w.alloc (.map #[] 0)).cell? ⟨p, 1, none⟩ = some nv := (World.cell?_of_block (a := ⟨p, 1, none⟩) (Below.heap_alloc w _ p hpl)).trans c1
  have hpa2 : (w.alloc (.map #[] 0)).frozen? ⟨p, 1, none⟩ = false := (World.frozen?_of_block (a := ⟨p, 1, none⟩) (Below.heap_alloc w _ p hpl)).trans f1
  obtain ⟨W1, hW1⟩ : ∃ W1, W1 = (w.setCell ⟨p, 1, none⟩ (.map (some w.heap.size))).alloc (.map #[] 0) := ⟨_, rfl⟩
  have hss : (w.setCell ⟨p, 1, none⟩ (.map (some w.heap.size))).heap.size = w.heap.size := by simp
  have hblk1 : W1.heap[p]? = some (.cells #[.map (some bD), .map (some w.heap.size), pv, .int .i64 d.left, .int .i64 d.full, .bool d.down] 97) := by
    have := blk_set HB.out 1 (.map (some w.heap.size))
    rw [hW1, Below.heap_alloc _ _ p (by rw [hss]; exact hpl)]; simpa using this
  have hfr1 : Fr [p] w W1 := by rw [hW1]; exact ((Fr.refl [p] w).setCell (Or.inl (by simp)) _).alloc _
  have hs1 : W1.heap.size = w.heap.size + 1 := by rw [hW1]; simp
  have hownW : W1.ownsMap Tryz.prog 9 ptrElem bD nD D := by rw [hW1]; exact (hown.setCell hpne _).alloc _
  have houtW : W1.ownsMap (H := Unit) Tryz.prog 9 ptrElem w.heap.size 0 (.map []) := by
    have := World.ownsMap_made (H := Unit) (w.setCell ⟨p, 1, none⟩ (.map (some w.heap.size))) Tryz.prog 9 ptrElem
    rw [hss] at this
    rw [hW1]; exact this
  have d0 := blk_cell hblk1 0
  simp at d0
  go_enter Tryz.func50, Tryz.ntmps50
  go_wp2_with (first
    | (at_range; rw [← hW1]; refine wpList_range_own _ rfl _ 94 rfl 9 154 Tryz.lawS Tryz.underlying94 ptrElem bD nD D rfl hownW ?_; intro w0 hrg0 hg0 hs0)
    | go_in)
  go_frame
  clear hW1
  have HB1 : Hid (W1.heap[p]? = some (.cells #[.map (some bD), .map (some w.heap.size), pv, .int .i64 d.left, .int .i64 d.full, .bool d.down] 97)) := hblk1
  clear hblk1
  rw [hs1] at hrg0 hs0 ⊢
  go_loopw [2] (fun _ wr => ∃ (left : Lit → Bool) (cnt : Nat) (Dout : DataW Unit), wr.ranges Tryz.prog 9 ptrElem bD (w.heap.size + 1) nD D left cnt ∧ cnt ≤ Maps.size D ∧
      wr.ownsMap Tryz.prog 9 ptrElem w.heap.size (Maps.size D - cnt) Dout ∧ Agree Dout D left ∧ Fr [w.heap.size, w.heap.size + 1] W1 wr)
    (fun _ wr => wr.rangeLeft bD (w.heap.size + 1))
  case atStart =>
    exact ⟨_, _, .map [], hrg0, Nat.le_refl _, (houtW.kept hg0 (by simp)).mono (Nat.zero_le _), agree_start D, (Fr.of_grown hg0).mono (by simp)⟩
  case round =>
    obtain ⟨left, cnt, Dout, hrg, hcs, hout, hA, hnx⟩ := hrel
    have HNX : Hid (Fr [w.heap.size, w.heap.size + 1] W1 wr) := hnx
    have hzr := hnx.size
    have hpr : wr.heap[p]? = some (.cells #[.map (some bD), .map (some w.heap.size), pv, .int .i64 d.left, .int .i64 d.full, .bool d.down] 97) := (hnx.block p (by omega) (by simp; omega)).trans HB1.out
    have HPR : Hid (wr.heap[p]? = some (.cells #[.map (some bD), .map (some w.heap.size), pv, .int .i64 d.left, .int .i64 d.full, .bool d.down] 97)) := hpr
    have r1 := blk_cell hpr 1
    have r2 := blk_cell hpr 2
    have r5 := blk_cell hpr 5
    have q2 := blk_free hpr 2
    have q5 := blk_free hpr 5
    simp at r1 r2 r5
    clear hnx hpr
    go_wp2_with (first
      | (at_next; refine wpList_next_ranges _ rfl _ rfl 9 Tryz.lawS ptrElem encStr Value.pointer (fun key kl hk => by obtain ⟨x, hx, _⟩ := Maps.keyOf_str Tryz.underlying9 hk; exact ⟨x, hx⟩) (fun v y hv => ptrElem_shape hv) bD (w.heap.size + 1) nD _ _ _ rfl hrg ?_ ?_)
      | go_in)
    · intro hc0 hl0
      go_wp2
      go_end0
      subst hc0
      have hD := agree_end hA hl0 (hout.canon Tryz.lawS) (hown.canon Tryz.lawS)
      subst hD
      obtain ⟨W2, hW2⟩ : ∃ W2, W2 = (wr.setCell ⟨p, 2, none⟩ (.slice none 0 0)).setCell ⟨p, 5, none⟩ (.bool false) := ⟨_, rfl⟩
      rw [← hW2]
      have hf2 : Fr [p] wr W2 := by rw [hW2]; exact (Fr.set1 (by simp) _ _).trans (Fr.set1 (by simp) _ _)
      have hfw : Fr [p] w W2 := (hfr1.andThen HNX.out (by intro j hj hl; simp at hj; omega)).trans hf2
      have hb2 : W2.heap[p]? = some (dskO bD w.heap.size (.slice none 0 0) d.left d.full false) := by
        have := blk_set (blk_set HPR.out 2 (.slice none 0 0)) 5 (.bool false)
        rw [hW2]; simpa using this
      have htx : ∀ (q : Nat) (t : ByteArray), w.heap[q]? = some (textO t) → W2.heap[q]? = some (textO t) := fun q t hq => by
        rw [hfw.block q (Array.getElem?_eq_some_iff.1 hq).1 (by simp; intro e; subst e; rw [HB.out] at hq; cases hq)]; exact hq
      have ho1 : W2.ownsMap Tryz.prog 9 ptrElem bD nD Dout := by
        obtain ⟨es, c, a1, a2⟩ := hrg.owns
        exact ⟨es, c, (hf2.block bD (by omega) (by simp; omega)).trans a1, a2⟩
      have ho2 : W2.ownsMap Tryz.prog 9 ptrElem w.heap.size nD Dout := by
        obtain ⟨es, c, a1, a2⟩ := hout.mono (n' := nD) (by omega)
        exact ⟨es, c, (hf2.block w.heap.size (by omega) (by simp; omega)).trans a1, a2⟩
      have h5 : ∀ k : ByteArray, (d.durable k = none → Maps.has Dout (keyL k) = false) ∧ (∀ t, d.durable k = some t → Maps.has Dout (keyL k) = true ∧ k.size ≤ maxLen ∧ ∃ q : Nat, (∀ z, Dout.atKey (keyL k) z = .lit (.int .i64 (q : Int))) ∧ W2.heap[q]? = some (textO t)) := fun k => by
        obtain ⟨a1, a2⟩ := H5.out k
        refine ⟨a1, fun t ht => ?_⟩
        obtain ⟨b1, b2, q, b3, b4⟩ := a2 t ht
        exact ⟨b1, b2, q, b3, htx q t b4⟩
      refine ⟨rfl, ?_, hfw⟩
      exact { blk := hb2, base := ⟨hB.1, hB.2.1, hB.2.2, by have := hfw.size; omega⟩, ne := by omega, dur := ⟨_, ho1, h5⟩, now := ⟨_, ho2, h5⟩, pen := World.ownsRow_nil _ _ _ _, hD := by simpa [ADisk.up] using hn, hN := hn, hn := hn2, leD := hle, leN := hle, ops := by simp [ADisk.up] }
    · intro x c kl yd yp w2 cnt2 hkey hlk hv hat hrg2 hlt hg2 hs2 hen
      obtain ⟨x', ex, rfl, hxl⟩ := Maps.keyOf_str Tryz.underlying9 hkey
      obtain rfl : x = x' := encStr_inj ex
      have hout1 := hout.kept hg2 (by simp)
      have s1 : w2.cell? ⟨p, 1, none⟩ = some (.map (some w.heap.size)) := (grown_cell hg2 (a := ⟨p, 1, none⟩) (by simp; omega) (by simp; omega)).trans r1
      clear hs2
      go_wp2_with (first
        | (at_mapUpdate; refine wpList_mapUpdate_own _ rfl _ _ _ 94 rfl 9 154 Tryz.lawS Tryz.underlying94 ptrElem w.heap.size _ _ rfl hout1 (by unfold maxLen; omega) _ _ _ rfl rfl hkey _ _ hv ?_; intro w3 hout2 hg3; go_frame)
        | go_in)
      have hrg3 := hrg2.kept hg3 (fun e => by have := Option.some.inj e; omega) (fun e => by have := Option.some.inj e; omega)
      go_roundw
      case rel =>
        exact ⟨_, cnt2, _, hrg3, by omega, hout2.mono (by omega), agree_step hA hout.isMap trivial hat, (HNX.out.trans ((Fr.of_grown1 hg2).mono (by intro k _ hk; simp at hk; simp [hk]))).trans ((Fr.of_grown1 hg3).mono (by intro k _ hk; simp at hk; simp [hk]))⟩
      case measure => rw [hrg3.left_eq, hrg.left_eq]; exact hlt
end Go.Proofs.YtkhjhojmhllkaaaGreatDoor
/- HOSTS: NewHost, close, Open over nothing. -/
namespace Go.Proofs.YtkhjhojmhllkaaaGreatDoor
open Go.RowKit Go.Maps
open Sc

set_option maxRecDepth 100000 in
set_option maxHeartbeats 1000000 in
theorem close_any (hp p : Nat) (up : Bool) (lv : Value) (hlv : ∃ x, lv = .pointer x) (w : World) (hh : w.heap[hp]? = some (hostO p up lv)) :
    Calls Tryz.prog 38 #[.pointer (some ⟨hp, 0, none⟩)] w fun e w' => e = .returned (.tuple #[]) ∧ w'.heap[hp]? = some (hostO p false (.pointer none)) ∧ Fr [hp] w w' := by
  obtain ⟨x, rfl⟩ := hlv
  have c3 := blk_cell hh 3
  have c4 := blk_cell hh 4
  have c5 := blk_cell hh 5
  have c6 := blk_cell hh 6
  have c7 := blk_cell hh 7
  have f3 := blk_free hh 3
  have f4 := blk_free hh 4
  have f5 := blk_free hh 5
  have f6 := blk_free hh 6
  have f7 := blk_free hh 7
  simp at c3 c4 c5 c6 c7
  have HH : Hid (w.heap[hp]? = some (hostO p up (.pointer x))) := hh
  clear hh
  go_enter Tryz.func38, Tryz.ntmps38
  go_wp2
  go_end0
  refine ⟨rfl, ?_, ((((Fr.set1 (by simp) _ _).trans (Fr.set1 (by simp) _ _)).trans (Fr.set1 (by simp) _ _)).trans (Fr.set1 (by simp) _ _)).trans (Fr.set1 (by simp) _ _)⟩
  have := blk_set (blk_set (blk_set (blk_set (blk_set HH.out 3 (.bool false)) 4 (.pointer none)) 5 (.pointer none)) 6 (.pointer none)) 7 (.pointer none)
  simp at this
  exact this
set_option maxRecDepth 100000 in
set_option maxHeartbeats 1000000 in
theorem newHost_any (w : World) (n : Nat) (hn : n ≤ 67108864) :
    Calls Tryz.prog 23 #[.int .i64 1, .int .i64 0] w fun e w' => ∃ hp p bD bN, e = .returned (.pointer (some ⟨hp, 0, none⟩)) ∧ w'.heap[hp]? = some (hostO p false (.pointer none)) ∧ DiskIn w' w.heap.size p bD bN (.slice none 0 0) ⟨fun _ => none, fun _ => none, [], -1, -1, false⟩ n 0 0 ∧ w.heap.size ≤ hp ∧ Below w.heap.size w w' := by
  have hmm := @run_makeMap Tryz.prog
  go_enter Tryz.func23, Tryz.ntmps23
  go_wp2_with fail
  obtain ⟨W, hW⟩ : ∃ W, W = ((w.alloc (.map #[] 0)).alloc (.cells #[.map (some w.heap.size), .map none, .slice none 0 0, .int .i64 (-1), .int .i64 (-1), .bool false] 97)).alloc (hostO (w.heap.size + 1) false (.pointer none)) := ⟨_, rfl⟩
  have hW2 : W = ((w.alloc (.map #[] 0)).alloc (.cells #[.map (some w.heap.size), .map none, .slice none 0 0, .int .i64 (-1), .int .i64 (-1), .bool false] 97)).alloc (.cells #[.int .i64 1, .int .i64 0, .pointer (some ⟨w.heap.size + 1, 0, none⟩), .bool false, .pointer none, .pointer none, .pointer none, .pointer none] 76) := hW
  rw [← hW2]
  clear hW2
  have hsz : W.heap.size = w.heap.size + 3 := by rw [hW]; simp
  have hb0 : Below w.heap.size w W := by rw [hW]; exact (((Below.refl _ w).alloc (Nat.le_refl _) _).alloc (by simp) _).alloc (by simp; omega) _
  have hfm : FileMap W w.heap.size 0 (fun _ => none) := by rw [hW]; exact ((FileMap.made w).alloc _).alloc _
  have hdb : W.heap[w.heap.size + 1]? = some (.cells #[.map (some w.heap.size), .map none, .slice none 0 0, .int .i64 (-1), .int .i64 (-1), .bool false] 97) := by
    rw [hW, Below.heap_alloc _ _ (w.heap.size + 1) (by simp)]; have := heap_alloc_new (w.alloc (.map #[] 0)) (.cells #[.map (some w.heap.size), .map none, .slice none 0 0, .int .i64 (-1), .int .i64 (-1), .bool false] 97); rw [World.size_alloc] at this; exact this
  have hhb : W.heap[w.heap.size + 2]? = some (hostO (w.heap.size + 1) false (.pointer none)) := by
    rw [hW]; have := heap_alloc_new ((w.alloc (.map #[] 0)).alloc (.cells #[.map (some w.heap.size), .map none, .slice none 0 0, .int .i64 (-1), .int .i64 (-1), .bool false] 97)) (hostO (w.heap.size + 1) false (.pointer none)); rw [World.size_alloc, World.size_alloc] at this; exact this
  clear hW
  have HH : Hid (W.heap[w.heap.size + 2]? = some (hostO (w.heap.size + 1) false (.pointer none))) := hhb
  refine (up_any w.heap.size (w.heap.size + 1) w.heap.size n 0 (.slice none 0 0) (.map none) ⟨fun _ => none, fun _ => none, [], -1, -1, false⟩ W hdb ⟨by omega, by omega, by omega⟩ hfm (by omega) hn (by intro k t ht; cases ht)).mono ?_
  rintro e w1 ⟨rfl, hd1, hf1⟩
  have hh1 : w1.heap[w.heap.size + 1 + 1]? = some (hostO (w.heap.size + 1) false (.pointer none)) := (hf1.block (w.heap.size + 2) (by omega) (by simp)).trans HH.out
  have hb1 : Below w.heap.size w w1 := hb0.trans (hf1.below (by omega) (by intro k hk; simp at hk; omega))
  have H1 : Hid (DiskIn w1 w.heap.size (w.heap.size + 1) w.heap.size W.heap.size (.slice none 0 0) ⟨fun _ => none, fun _ => none, [], -1, -1, false⟩ n 0 0 ∧ Below w.heap.size w w1 ∧ w1.heap[w.heap.size + 1 + 1]? = some (hostO (w.heap.size + 1) false (.pointer none))) := ⟨hd1, hb1, hh1⟩
  clear hd1 hf1 hh1 hb1 hdb hhb hfm hb0
  go_wp2
  go_ret
  exact ⟨w.heap.size + 1 + 1, w.heap.size + 1, w.heap.size, W.heap.size, rfl, H1.out.2.2, H1.out.1, by omega, H1.out.2.1⟩
end Go.Proofs.YtkhjhojmhllkaaaGreatDoor
/- HOSTS: Open over nothing. -/
namespace Go.Proofs.YtkhjhojmhllkaaaGreatDoor
open Go.RowKit
open Sc

section
variable {w w' : World} {B p bD bN n nD nN : Nat} {pv : Value} {d : ADisk}
theorem DiskIn.geD (h : DiskIn w B p bD bN pv d n nD nN) {k : Nat} (hk : OwnD p w k) : B ≤ k := by
  have := (h.ownD k).1 hk
  simp at this
  rcases this with e | e | e | e
  · rw [e]; exact h.base.1
  · rw [e]; exact h.base.2.1
  · rw [e]; exact h.base.2.2.1
  · exact (h.pen.lt k e).1
theorem DFr.below (hf : DFr p w w') (h : DiskIn w B p bD bN pv d n nD nN) : Below B w w' :=
  ⟨hf.os, hf.tape, hf.output, hf.size, fun k hk => hf.block k (Nat.lt_of_lt_of_le hk h.base.2.2.2) (fun ho => by have := h.geD ho; omega)⟩
end
theorem OFr.below {w w' : World} {B lp p bD bN n nD nN : Nat} {pv sv rv : Value} {l : ALog} {d : ADisk} (hf : OFr lp p w w') (h : LogIn w B lp p bD bN pv sv rv l d n nD nN) : Below B w w' :=
  ⟨hf.os, hf.tape, hf.output, hf.size, fun _ hk => hf.low h hk⟩
/-- a block of another kind was written -/
theorem LogIn.other {w w' : World} {B lp p bD bN n nD nN q : Nat} {pv sv rv : Value} {l : ALog} {d : ADisk} {c : Array Value} {t : TypeId} (h : LogIn w B lp p bD bN pv sv rv l d n nD nN) (hf : Fr [q] w w') (hq : w.heap[q]? = some (.cells c t (0, 0))) (h1 : t ≠ 97) (h2 : t ≠ 130) (h3 : t ≠ 187) (h4 : t ≠ 33) (h5 : t ≠ 103) (h6 : t ≠ 9) : LogIn w' B lp p bD bN pv sv rv l d n nD nN := by
  have ho := h.free hq h1 h2 h3 h4 h5
  rw [h.own] at ho
  simp only [not_or] at ho
  refine h.turned (h.disk.fr hf ?_ ?_ ?_ ?_ ?_) hf ?_ (Nat.le_refl _)
  · simpa using fun e => ho.2.1 e.symm
  · simpa using fun e => ho.2.2.1 e.symm
  · simpa using fun e => ho.2.2.2.1 e.symm
  · intro g hg; simp; intro e; subst e; exact ho.2.2.2.2.1 hg
  · intro r hr x; simp at hr; subst hr; rw [hq]; intro e; cases e; exact h6 rfl
  · intro r hr _; simp at hr; subst hr; exact ⟨ho.1, ho.2.2.2.2.2.1, ho.2.2.2.2.2.2⟩
set_option maxRecDepth 100000 in
set_option maxHeartbeats 4000000 in
theorem hOpen_empty (B hp p bD bN n nD : Nat) (pv : Value) (d : ADisk) (a b c k : Int) (w : World) (hh : w.heap[hp]? = some (hostO p false (.pointer none))) (h : DiskIn w B p bD bN pv d n nD 0) (hB : 2 ≤ B) (hhp : B ≤ hp) (hmet : Met w) (hdn : d.down = false) (hno : d.now markNm = none)
    (hr : ((log0 1).opens (d.knob a b)).2.2 = 0) (hdn2 : ((log0 1).opens (d.knob a b)).2.1.down = false) :
    Calls Tryz.prog 16 #[.pointer (some ⟨hp, 0, none⟩), fallV a b c k] w fun e w' => e = .returned (.int .i64 0) ∧ ∃ lp, HostIn w' B hp lp p bD bN ((log0 1).opens (d.knob a b)).1 (((log0 1).opens (d.knob a b)).2.1.knob (-1) (-1)) n ∧ Below B w w' := by
  obtain ⟨W, hW⟩ : ∃ W, W = w.alloc (fallO a b c k) := ⟨_, rfl⟩
  have hf0 : Fr [] w W := by rw [hW]; exact (Fr.refl [] w).alloc _
  have hd0 := h.new hf0
  have hpl := (Array.getElem?_eq_some_iff.1 hh).1
  have hh0 : W.heap[hp]? = some (hostO p false (.pointer none)) := (hf0.block hp hpl (by simp)).trans hh
  have hx0 : W.heap[w.heap.size]? = some (fallO a b c k) := by rw [hW]; exact heap_alloc_new w _
  have hb0 : Below B w W := hf0.below h.base.2.2.2 (by simp)
  have x0 := blk_cell hx0 0
  have x1 := blk_cell hx0 1
  have x2 := blk_cell hx0 2
  have x3 := blk_cell hx0 3
  simp at x0 x1 x2 x3
  rw [hW] at x0 x1 x2 x3
  have hmet0 : Met W := hmet.below hb0 (by omega)
  have HH : Hid (W.heap[hp]? = some (hostO p false (.pointer none)) ∧ W.heap[w.heap.size]? = some (fallO a b c k) ∧ DiskIn W B p bD bN pv d n nD 0 ∧ Below B w W) := ⟨hh0, hx0, hd0, hb0⟩
  clear hh hf0 hd0 hh0 hx0 hb0 h hmet
  go_enter Tryz.func16, Tryz.ntmps16
  go_wp2_with fail
  rw [← hW]
  clear hW x0 x1 x2 x3
  refine (before_any hp p bD bN pv _ false d.down d.left d.full a b c k W HH.out.1 HH.out.2.2.1.blk).mono ?_
  rintro e w1 ⟨rfl, hb1, hf1⟩
  have hd1 : DiskIn w1 B p bD bN pv (d.knob a b) n nD 0 := HH.out.2.2.1.turn hf1 a b d.down hb1
  have hne : hp ≠ p := by intro e; have := HH.out.1; rw [e, HH.out.2.2.1.blk] at this; cases this
  have hh1 : w1.heap[hp]? = some (hostO p false (.pointer none)) := (hf1.block hp (Array.getElem?_eq_some_iff.1 HH.out.1).1 (by simpa using hne)).trans HH.out.1
  have hxne : w.heap.size ≠ p := by intro e; have := HH.out.2.1; rw [e, HH.out.2.2.1.blk] at this; cases this
  have hx1 : w1.heap[w.heap.size]? = some (fallO a b c k) := (hf1.block _ (Array.getElem?_eq_some_iff.1 HH.out.2.1).1 (by simpa using hxne)).trans HH.out.2.1
  have hbl1 : Below B W w1 := hf1.below HH.out.2.2.1.base.2.2.2 (by intro j hj; simp at hj; rw [hj]; exact HH.out.2.2.1.base.1)
  have H1 : Hid (w1.heap[hp]? = some (hostO p false (.pointer none)) ∧ w1.heap[w.heap.size]? = some (fallO a b c k) ∧ DiskIn w1 B p bD bN pv (d.knob a b) n nD 0 ∧ Below B w w1) := ⟨hh1, hx1, hd1, HH.out.2.2.2.trans hbl1⟩
  have hmet1 : Met w1 := hmet0.below hbl1 (by omega)
  clear hb1 hf1 hd1 hh1 hx1 hbl1
  go_wp2_with fail
  refine (close_any hp p false _ ⟨_, rfl⟩ w1 H1.out.1).mono ?_
  rintro e w2 ⟨rfl, hh2, hf2⟩
  have hd2 : DiskIn w2 B p bD bN pv (d.knob a b) n nD 0 := by
    refine H1.out.2.2.1.fr hf2 (by simpa using fun e => hne e.symm) ?_ ?_ ?_ ?_
    · simp; exact H1.out.2.2.1.dur.ne_cells H1.out.1
    · simp; exact H1.out.2.2.1.now.ne_cells H1.out.1
    · intro g hg; simp; intro e; subst e; exact own_ne H1.out.2.2.1.pen H1.out.1 (by decide) hg
    · intro q hq t; simp at hq; subst hq; rw [H1.out.1]; intro e; cases e
  have hxh : w.heap.size ≠ hp := by omega
  have hx2 : w2.heap[w.heap.size]? = some (fallO a b c k) := (hf2.block _ (Array.getElem?_eq_some_iff.1 H1.out.2.1).1 (by simpa using hxh)).trans H1.out.2.1
  have hbl2 : Below B w1 w2 := hf2.below H1.out.2.2.1.base.2.2.2 (by intro j hj; simp at hj; omega)
  have hc0 := blk_cell hh2 0
  have hc2 := blk_cell hh2 2
  simp at hc0 hc2
  have H2 : Hid (w2.heap[hp]? = some (hostO p false (.pointer none)) ∧ w2.heap[w.heap.size]? = some (fallO a b c k) ∧ DiskIn w2 B p bD bN pv (d.knob a b) n nD 0 ∧ Below B w w2) := ⟨hh2, hx2, hd2, H1.out.2.2.2.trans hbl2⟩
  have hmet2 : Met w2 := hmet1.below hbl2 (by omega)
  clear hh2 hf2 hd2 hx2 hbl2
  go_wp2_with fail
  refine (openLog_empty B p bD bN n nD pv (d.knob a b) w2 H2.out.2.2.1 hdn hno hr).mono ?_
  rintro e w3 ⟨lp, rfl, hlp, ⟨pv3, sv3, rv3, nD3, nN3, hl3⟩, hf3⟩
  have hh3 : w3.heap[hp]? = some (hostO p false (.pointer none)) := (hf3.block hp (Array.getElem?_eq_some_iff.1 H2.out.1).1 (H2.out.2.2.1.freeD H2.out.1 (by decide) (by decide))).trans H2.out.1
  have hx3 : w3.heap[w.heap.size]? = some (fallO a b c k) := (hf3.block _ (Array.getElem?_eq_some_iff.1 H2.out.2.1).1 (H2.out.2.2.1.freeD H2.out.2.1 (by decide) (by decide))).trans H2.out.2.1
  have hbl3 : Below B w2 w3 := hf3.below H2.out.2.2.1
  have hmet3 : Met w3 := hmet2.below hbl3 (by omega)
  obtain ⟨R, hR⟩ : ∃ R, R = (log0 1).opens (d.knob a b) := ⟨_, rfl⟩
  rw [← hR] at hl3 hr hdn2
  have HR : Hid (R = (log0 1).opens (d.knob a b)) := hR
  clear hR
  obtain ⟨W4, hW4⟩ : ∃ W4, W4 = (w3.setCell ⟨hp, 4, none⟩ (.pointer (some ⟨lp, 0, none⟩))).setCell ⟨hp, 3, none⟩ (.bool true) := ⟨_, rfl⟩
  have hh4 : W4.heap[hp]? = some (hostO p true (.pointer (some ⟨lp, 0, none⟩))) := by
    have := blk_set (blk_set hh3 4 (.pointer (some ⟨lp, 0, none⟩))) 3 (.bool true)
    simp at this
    rw [hW4]; exact this
  have hf4 : Fr [hp] w3 W4 := by rw [hW4]; exact (Fr.set1 (by simp) _ _).trans (Fr.set1 (by simp) _ _)
  have hx4 : W4.heap[w.heap.size]? = some (fallO a b c k) := (hf4.block _ (Array.getElem?_eq_some_iff.1 hx3).1 (by simpa using hxh)).trans hx3
  have hl4 := hl3.other hf4 hh3 (by decide) (by decide) (by decide) (by decide) (by decide) (by decide)
  have hbl4 : Below B w3 W4 := hf4.below hl3.disk.base.2.2.2 (by intro j hj; simp at hj; omega)
  have hmet4 : Met W4 := hmet3.below hbl4 (by omega)
  have y0 := blk_cell hx4 0
  have y1 := blk_cell hx4 1
  have y2 := blk_cell hx4 2
  have y3 := blk_cell hx4 3
  simp at y0 y1 y2 y3
  rw [hW4] at y0 y1 y2 y3
  have H4 : Hid (W4.heap[hp]? = some (hostO p true (.pointer (some ⟨lp, 0, none⟩))) ∧ LogIn W4 B lp p bD bN pv3 sv3 rv3 R.1 R.2.1 n nD3 nN3 ∧ Below B w W4) := ⟨hh4, hl4, (H2.out.2.2.2.trans hbl3).trans hbl4⟩
  have c3 := blk_cell hh3 3
  have c4 := blk_cell hh3 4
  have f3 := blk_free hh3 3
  have f4 := blk_free hh3 4
  have c2 := blk_cell hh3 2
  simp at c3 c4 c2
  clear hc0 hc2 hh3 hx3 hbl3 hl3 hf3 hh4 hf4 hx4 hl4 hbl4
  go_wp2_with fail
  rw [← hW4]
  clear hW4 y0 y1 y2 y3 c3 c4 f3 f4 c2
  have hbd := H4.out.2.1.disk.blk
  rw [hdn2] at hbd
  refine (after_well hp p bD bN pv3 _ true R.2.1.left R.2.1.full a b c k W4 H4.out.1 hbd).mono ?_
  rintro e w5 ⟨rfl, hb5, hf5⟩
  have hb5' := hb5
  rw [← hdn2] at hb5'
  obtain ⟨hl5, ho5⟩ := H4.out.2.1.knob (-1) (-1) hf5 hb5'
  have hmet5 : Met w5 := ho5.met H4.out.2.1 hB hmet4
  have hh5 := ho5.host H4.out.2.1 H4.out.1
  have H5 : Hid (w5.heap[hp]? = some (hostO p true (.pointer (some ⟨lp, 0, none⟩))) ∧ LogIn w5 B lp p bD bN pv3 sv3 rv3 R.1 (R.2.1.knob (-1) (-1)) n nD3 nN3 ∧ Below B w w5) := ⟨hh5, hl5, H4.out.2.2.trans (ho5.below H4.out.2.1)⟩
  clear hb5 hb5' hf5 hl5 ho5 hh5 hbd
  go_wp2_with fail
  refine (told_any 0 w5 hmet5).mono ?_
  rintro e w6 ⟨rfl, hf6⟩
  have HF6 : Hid (Fr [] w5 w6) := hf6
  clear hf6
  go_wp2
  go_ret
  have hR := HR.out
  subst hR
  have hl6 := H5.out.2.1.new HF6.out
  have ho6 := H5.out.2.1.newO HF6.out
  exact ⟨rfl, lp, ⟨ho6.host H5.out.2.1 H5.out.1, _, _, _, _, _, hl6⟩, H5.out.2.2.trans (ho6.below H5.out.2.1)⟩
end Go.Proofs.YtkhjhojmhllkaaaGreatDoor
/- A SHARD BESIDE ITS LOG: what turns of the one leaves the other. -/
namespace Go.Proofs.YtkhjhojmhllkaaaGreatDoor
open Go.RowKit Go.Maps
open Sc

section
variable {w w' : World} {B lp p bD bN n nD nN : Nat} {pv sv rv : Value} {l : ALog} {d : ADisk}
theorem LogIn.freeMap (h : LogIn w B lp p bD bN pv sv rv l d n nD nN) {b : Nat} (hb : ∃ es c, w.heap[b]? = some (.map es c)) (h1 : b ≠ bD) (h2 : b ≠ bN) : ¬ Own lp p w b := by
  obtain ⟨es, c, hb⟩ := hb
  rw [h.own]
  rintro (e | e | e | e | e | e | e)
  · subst e; rw [h.blk] at hb; cases hb
  · subst e; rw [h.disk.blk] at hb; cases hb
  · exact h1 e
  · exact h2 e
  · obtain ⟨c, hc⟩ := own_cells h.disk.pen e; rw [hc] at hb; cases hb
  · obtain ⟨c, hc⟩ := own_cells h.segs e; rw [hc] at hb; cases hb
  · obtain ⟨c, hc⟩ := own_cells h.recs e; rw [hc] at hb; cases hb
/-- what is not the log's was turned -/
theorem LogIn.apart {S : List Nat} (h : LogIn w B lp p bD bN pv sv rv l d n nD nN) (hf : Fr S w w') (hS : ∀ k ∈ S, k < w.heap.size → ¬ Own lp p w k ∧ ∀ t, w.heap[k]? ≠ some (textO t)) : LogIn w' B lp p bD bN pv sv rv l d n nD nN := by
  have key : ∀ k, k < w.heap.size → Own lp p w k → k ∉ S := fun k hk ho hm => (hS k hm hk).1 ho
  have lt : ∀ k, Own lp p w k → k < w.heap.size := fun k ho => by
    rcases (h.own k).1 ho with e | e | e | e | e | e | e
    · rw [e]; exact (Array.getElem?_eq_some_iff.1 h.blk).1
    · rw [e]; exact (Array.getElem?_eq_some_iff.1 h.disk.blk).1
    · rw [e]; exact h.disk.dur.lt
    · rw [e]; exact h.disk.now.lt
    · exact (h.disk.pen.lt k e).2
    · exact (h.segs.lt k e).2
    · exact (h.recs.lt k e).2
  have no : ∀ k, Own lp p w k → k ∉ S := fun k ho => key k (lt k ho) ho
  have hin : ∀ {k}, (k = lp ∨ k = p ∨ k = bD ∨ k = bN ∨ pv.ownBlock = some k ∨ sv.ownBlock = some k ∨ rv.ownBlock = some k) → k ∉ S := fun {k} hk => no k ((h.own k).2 hk)
  refine h.turned (h.disk.fr hf (hin (by simp)) (hin (by simp)) (hin (by simp)) (fun g hg => hin (by simp [hg])) (fun q hq t => ?_)) hf (fun k hk hl => ?_) (Nat.le_refl _)
  · by_cases hl : q < w.heap.size
    · exact (hS q hq hl).2 t
    · intro e; exact hl (Array.getElem?_eq_some_iff.1 e).1
  · have := (hS k hk hl).1
    rw [h.own] at this
    simp only [not_or] at this
    exact ⟨this.1, this.2.2.2.2.2.1, this.2.2.2.2.2.2⟩
end
/-- a shard and its log lie apart -/
structure ShLog (w : World) (sp gp bV bT bH bD bN lp : Nat) : Prop where
  led : w.heap[gp]? = some (ledO lp)
  ne : bV ≠ bD ∧ bV ≠ bN ∧ bT ≠ bD ∧ bT ≠ bN ∧ bH ≠ bD ∧ bH ≠ bN
section
variable {w w' : World} {B sp gp bV bT bH m lp p bD bN n nD nN : Nat} {pv sv rv : Value} {l : ALog} {d : ADisk} {s : AShard}
theorem ShIn.free (hs : ShIn w sp gp bV bT bH m s) (h : LogIn w B lp p bD bN pv sv rv l d n nD nN) (hx : ShLog w sp gp bV bT bH bD bN lp) : ∀ k ∈ [sp, gp, bV, bT, bH], ¬ Own lp p w k ∧ ∀ t, w.heap[k]? ≠ some (textO t) := by
  intro k hk
  simp at hk
  rcases hk with rfl | rfl | rfl | rfl | rfl
  · exact ⟨h.free hs.blk (by decide) (by decide) (by decide) (by decide) (by decide), fun t e => by rw [hs.blk] at e; cases e⟩
  · exact ⟨h.free hx.led (by decide) (by decide) (by decide) (by decide) (by decide), fun t e => by rw [hx.led] at e; cases e⟩
  · exact ⟨h.freeMap hs.vals.isMap hx.ne.1 hx.ne.2.1, fun t e => by obtain ⟨es, c, e2⟩ := hs.vals.isMap; rw [e2] at e; cases e⟩
  · exact ⟨h.freeMap hs.txns.isMap hx.ne.2.2.1 hx.ne.2.2.2.1, fun t e => by obtain ⟨es, c, e2⟩ := hs.txns.isMap; rw [e2] at e; cases e⟩
  · exact ⟨h.freeMap hs.holds.isMap hx.ne.2.2.2.2.1 hx.ne.2.2.2.2.2, fun t e => by obtain ⟨es, c, e2⟩ := hs.holds.isMap; rw [e2] at e; cases e⟩
/-- the log has turned: the shard is as it was -/
theorem ShIn.ofr (hs : ShIn w sp gp bV bT bH m s) (h : LogIn w B lp p bD bN pv sv rv l d n nD nN) (hx : ShLog w sp gp bV bT bH bD bN lp) (hf : OFr lp p w w') : ShIn w' sp gp bV bT bH m s ∧ ShLog w' sp gp bV bT bH bD bN lp := by
  have hfree := hs.free h hx
  have mv : ∀ {K V : Type} [DecidableEq K] {kt : TypeId} {KR : KeyRep Tryz.prog K kt} {ER : ElRep V} {b k : Nat} {L : List (K × V)}, MapAs KR ER w b k L → b ∈ [sp, gp, bV, bT, bH] → MapAs KR ER w' b k L := by
    intro K V _ kt KR ER b k L hM hb
    have hlt := hM.lt
    obtain ⟨es, ⟨es', c, h1, h2⟩, r⟩ := hM
    exact ⟨es, ⟨es', c, (hf.block b hlt (hfree b hb).1).trans h1, h2⟩, r⟩
  exact ⟨{ blk := (hf.block sp hs.lts.1 (hfree sp (by simp)).1).trans hs.blk, vals := mv hs.vals (by simp), txns := mv hs.txns (by simp), holds := mv hs.holds (by simp), ne := hs.ne, ticks := hs.ticks },
    { led := (hf.block gp (Array.getElem?_eq_some_iff.1 hx.led).1 (hfree gp (by simp)).1).trans hx.led, ne := hx.ne }⟩
/-- the shard has turned: the log is as it was -/
theorem LogIn.shard {S : List Nat} (h : LogIn w B lp p bD bN pv sv rv l d n nD nN) (hs : ShIn w sp gp bV bT bH m s) (hx : ShLog w sp gp bV bT bH bD bN lp) (hf : Fr S w w') (hS : ∀ k ∈ S, k ∈ [sp, bV, bT, bH]) : LogIn w' B lp p bD bN pv sv rv l d n nD nN ∧ ShLog w' sp gp bV bT bH bD bN lp := by
  have hfree := hs.free h hx
  have sub : ∀ k ∈ S, k ∈ [sp, gp, bV, bT, bH] := fun k hk => by have := hS k hk; simp at this ⊢; rcases this with e | e | e | e <;> simp [e]
  refine ⟨h.apart hf (fun k hk _ => hfree k (sub k hk)), { led := (hf.block gp (Array.getElem?_eq_some_iff.1 hx.led).1 (fun hm => ?_)).trans hx.led, ne := hx.ne }⟩
  have := hS gp hm
  simp at this
  have hled := hx.led
  rcases this with e | e | e | e
  · rw [e, hs.blk] at hled; simp at hled
  · obtain ⟨es, c, e2⟩ := hs.vals.isMap; rw [e, e2] at hled; cases hled
  · obtain ⟨es, c, e2⟩ := hs.txns.isMap; rw [e, e2] at hled; cases hled
  · obtain ⟨es, c, e2⟩ := hs.holds.isMap; rw [e, e2] at hled; cases hled
end
end Go.Proofs.YtkhjhojmhllkaaaGreatDoor
/- Scan through shardcommit and plain. -/
namespace Go.Proofs.YtkhjhojmhllkaaaGreatDoor
open Go.RowKit
open Sc

/-- what a scan of the bytes l answers -/
def Scanned (l : List Nat) (w : World) (e : Ending) (w' : World) : Prop :=
  ∃ k v', e = .returned (.tuple #[v', .int .i64 ((st k l).2 : Nat)]) ∧ Ended l k ∧ w'.ownsRow w.heap.size 103 3 v' k (recsV (st k l).1) ∧ (k = 0 → v' = .slice none 0 0) ∧ Below w.heap.size w w'

set_option maxHeartbeats 400000 in
theorem scanW_nil (w : World) : Calls Tryz.prog 216 #[.slice none 0 0] w (Scanned [] w) := by
  have hnot : ∀ (x : Bool) (w : World), (Op.unary .not (.bool x)).run Tryz.prog w = .ok (.bool (!x)) w := fun _ _ => rfl
  go_enter Tryz.func216, Tryz.ntmps216
  go_wp2
  refine wp_loop_rounds 1 ?_
  rw [rounds_succ]
  go_wp2_with fail
  refine (firstFrame_short _ _ _ _ (by omega)).mono ?_
  rintro e w1 ⟨rfl, rfl⟩
  go_wp2
  go_ret2
  exact ⟨0, _, rfl, ended_nil, World.ownsRow_nil _ _ _ _, fun _ => rfl, (Below.refl _ _).alloc (Nat.le_refl _) _⟩

theorem scanW (v : Value) (l : List Nat) (w : World) (hs : Src w v l) (hb : Byt l) (hl : l.length ≤ 1099511627776) : Calls Tryz.prog 216 #[v] w (Scanned l w) := by
  rcases hs with ⟨rfl, rfl⟩ | ⟨b, off, cap, rfl, hrow, hlt, hc, hc2⟩
  · exact scanW_nil w
  · exact scanW_some b off cap l w hb hl hrow hlt hc hc2

theorem src_own {w : World} {base : Nat} {v : Value} {l : List Nat} (h : w.ownsRow base 5 1 v l.length (bs l)) : Src w v l := by
  by_cases h0 : 0 < l.length
  · obtain ⟨g, cap, rfl, _, h2, h3, h4, h5⟩ := own_shape h h0
    exact Or.inr ⟨g, 0, cap, rfl, h5, h2, h3, h4⟩
  · have hl : l = [] := List.eq_nil_of_length_eq_zero (by omega)
    subst hl
    rcases h.2 with ⟨rfl, _⟩ | ⟨g, cap, cur, rfl, _, hg, _, hm, _⟩
    · exact Or.inl ⟨rfl, rfl⟩
    · exact Or.inr ⟨g, 0, cap, rfl, (fun i hi => by simp at hi), (Array.getElem?_eq_some_iff.1 hg).1, Nat.zero_le _, hm⟩

end Go.Proofs.YtkhjhojmhllkaaaGreatDoor
/- The document's Scan. -/
namespace Go.Proofs.YtkhjhojmhllkaaaGreatDoor
open Go.RowKit
open Sc

/-- append(own, one record), within a region that draws its order -/
theorem wp_rec {w : World} {o : Oper} {a : Act} {K : Act → World → Prop} {Q : Exit → Act → World → Prop} (s x : Operand)
    (ho : o.op = .call { callee := .builtin .append, args := #[s, x], argTypes := #[50, 50] })
    (base : Nat) (v : Value) (n : Nat) (rs : List Rec) (r : Rec) (b : Nat) (hs : a.eval s = v) (hown : w.ownsRow base 103 3 v n (recsV rs)) (hx : a.eval x = .slice (some ⟨b, 0, none⟩) 1 1)
    (hc0 : w.cell? ⟨b, 0, none⟩ = some (.int .u64 (r.lsn : Int))) (hc1 : w.cell? ⟨b, 1, none⟩ = some (.int .u8 (r.kind : Int))) (hc2 : w.cell? ⟨b, 2, none⟩ = some (.string (str r.pay))) (hn : n ≤ 1099511627776) (hbase : base ≤ w.heap.size)
    (h : ∀ v' w', w'.ownsRow base 103 3 v' (n + 1) (recsV (rs ++ [r])) → w.grownBy w' v.ownBlock → K (a.put o.dst v') w') : o.wp Tryz.prog a w K Q := by
  obtain ⟨i0, hi, hz0, hz1, hz2⟩ := info_parts Tryz.infoRec
  refine wp_append_own _ s x 50 ho base 103 i0 _ 3 32 Tryz.underlying50 hi hz0 hz1 hz2 rfl (by decide) v n (recsV rs) hs hown ⟨b, 0, none⟩ 1 1 (recCells r) hx rfl ?_ ?_ (by unfold maxLen; omega) (by omega) hbase ?_
  · intro jj u hjj
    match jj, hjj with
    | 0, hjj => simp [recCells] at hjj; subst hjj; simpa [Addr.add] using hc0
    | 1, hjj => simp [recCells] at hjj; subst hjj; simpa [Addr.add] using hc1
    | 2, hjj => simp [recCells] at hjj; subst hjj; simpa [Addr.add] using hc2
  · intro u hu; simp [recCells] at hu; rcases hu with rfl | rfl | rfl <;> rfl
  · intro v' w' ho' hg' _
    refine h v' w' ?_ hg'
    rw [recsV_snoc]; exact ho'
theorem row_keep {w w' : World} {g off B : Nat} {l : List Nat} {r : Option Nat} (hg : w.grownBy w' r) (hB : g < B) (hr : ∀ q, r = some q → B ≤ q) (h : RowAt w g off l) : RowAt w' g off l := fun i hi => by
  have h1 := h i hi
  rw [World.cell?_of_block (a := ⟨g, off + i, none⟩) (hg.block g (World.block_lt_of_cell? w _ h1) (fun e => by have := hr g e.symm; omega))]; exact h1
end Go.Proofs.YtkhjhojmhllkaaaGreatDoor
/- sameRecords; what both scans answer, compared. -/
namespace Go.Proofs.YtkhjhojmhllkaaaGreatDoor
open Go.RowKit
open Sc

theorem recsV_at : ∀ (rs : List Rec) (i : Nat) (h : i < rs.length), (recsV rs)[i * 3]? = some (.int .u64 (rs[i].lsn : Int)) ∧ (recsV rs)[i * 3 + 1]? = some (.int .u8 (rs[i].kind : Int)) ∧ (recsV rs)[i * 3 + 2]? = some (.string (str rs[i].pay))
  | [], i, h => absurd h (Nat.not_lt_zero _)
  | r :: rs, 0, _ => ⟨rfl, rfl, rfl⟩
  | r :: rs, i + 1, h => by
    have ih := recsV_at rs i (by simpa using h)
    have e : ∀ j, (recsV (r :: rs))[(i + 1) * 3 + j]? = (recsV rs)[i * 3 + j]? := fun j => by
      show (recCells r ++ recsV rs)[(i + 1) * 3 + j]? = _
      rw [List.getElem?_append_right (by simp [recCells]; omega)]
      congr 1
      simp [recCells]; omega
    exact ⟨(e 0).trans ih.1, (e 1).trans ih.2.1, (e 2).trans ih.2.2⟩
/-- the records rs, as a slice value holds them -/
def RecsAt (w : World) (v : Value) (rs : List Rec) : Prop :=
  ∃ ao cap, v = .slice ao rs.length cap ∧ ∀ i (h : i < rs.length), ∃ g, ao = some ⟨g, 0, none⟩ ∧ w.cell? ⟨g, i * 3, none⟩ = some (.int .u64 (rs[i].lsn : Int)) ∧ w.cell? ⟨g, i * 3 + 1, none⟩ = some (.int .u8 (rs[i].kind : Int)) ∧ w.cell? ⟨g, i * 3 + 2, none⟩ = some (.string (str rs[i].pay))
theorem recsAt_own {w : World} {base n : Nat} {v : Value} {rs : List Rec} (h : w.ownsRow base 103 3 v n (recsV rs)) : RecsAt w v rs := by
  have hl : rs.length = n := by have := h.1; rw [recsV_len] at this; omega
  rcases h.2 with ⟨rfl, h0⟩ | ⟨g, cap, cur, rfl, hb, hg, rest⟩
  · exact ⟨none, 0, by rw [hl, h0], fun i hi => by omega⟩
  · refine ⟨_, cap, by rw [hl], fun i hi => ⟨g, rfl, ?_⟩⟩
    have hc : ∀ j u, (recsV rs)[j]? = some u → w.cell? ⟨g, j, none⟩ = some u := fun j u hu => by
      have := h.cells (g := g) rfl j u hu
      simpa [Addr.add_lit] using this
    obtain ⟨h1, h2, h3⟩ := recsV_at rs i hi
    exact ⟨hc _ _ h1, hc _ _ h2, hc _ _ h3⟩

set_option maxHeartbeats 1000000 in
theorem same_any (v1 v2 : Value) (rs : List Rec) (w : World) (h1 : RecsAt w v1 rs) (h2 : RecsAt w v2 rs) (hn : rs.length ≤ 1099511627776) :
    Calls Tryz.prog 53 #[v1, v2] w fun e w' => e = .returned (.bool true) ∧ ∃ q, w' = w.drewN q := by
  obtain ⟨a1, c1, rfl, H1⟩ := h1
  obtain ⟨a2, c2, rfl, H2⟩ := h2
  have G1 : Hid (∀ i (h : i < rs.length), ∃ g, a1 = some ⟨g, 0, none⟩ ∧ w.cell? ⟨g, i * 3, none⟩ = some (.int .u64 (rs[i].lsn : Int)) ∧ w.cell? ⟨g, i * 3 + 1, none⟩ = some (.int .u8 (rs[i].kind : Int)) ∧ w.cell? ⟨g, i * 3 + 2, none⟩ = some (.string (str rs[i].pay))) := H1
  have G2 : Hid (∀ i (h : i < rs.length), ∃ g, a2 = some ⟨g, 0, none⟩ ∧ w.cell? ⟨g, i * 3, none⟩ = some (.int .u64 (rs[i].lsn : Int)) ∧ w.cell? ⟨g, i * 3 + 1, none⟩ = some (.int .u8 (rs[i].kind : Int)) ∧ w.cell? ⟨g, i * 3 + 2, none⟩ = some (.string (str rs[i].pay))) := H2
  clear H1 H2
  obtain ⟨n, hnn⟩ : ∃ n, n = rs.length := ⟨_, rfl⟩
  rw [← hnn] at hn ⊢
  have HN : Hid (rs.length = n) := hnn.symm
  clear hnn
  go_enter Tryz.func53, Tryz.ntmps53
  go_wp2
  go_loopw [5] (fun i wr => ∃ k : Nat, k ≤ n ∧ i = .int .i64 k ∧ ∃ q, wr = w.drewN q) (fun i _ => n - (intOf i).toNat)
  case atStart => exact ⟨0, Nat.zero_le _, rfl, 0, rfl⟩
  case round =>
    obtain ⟨k, hk, rfl, q, rfl⟩ := hrel
    by_cases hlt : k < n
    · obtain ⟨g1, rfl, x0, x1, x2⟩ := G1.out k (by rw [HN.out]; exact hlt)
      obtain ⟨g2, rfl, y0, y1, y2⟩ := G2.out k (by rw [HN.out]; exact hlt)
      have i0 : (0 : Int) ≤ (k : Int) := by omega
      have i1 : (k : Int) < (n : Int) := by omega
      generalize rs[k]'(by rw [HN.out]; exact hlt) = r at x0 x1 x2 y0 y1 y2
      generalize str r.pay = sp at x2 y2
      go_wp2
      go_quiet (fail)
      go_wp2
      go_roundw
      case rel => exact ⟨k + 1, by omega, by go_num, _, rfl⟩
      case measure => simp [intOf]; omega
    · go_wp2
      go_ret
      exact ⟨rfl, q, rfl⟩
end Go.Proofs.YtkhjhojmhllkaaaGreatDoor
/- A DISK THAT IS WELL, and a log over it: the mathematics. -/
namespace Go.Proofs.YtkhjhojmhllkaaaGreatDoor
open Go.RowKit
open Sc

theorem dec_ne (u : Nat) : Lib.decDigits u ≠ [] := by
  rw [Lib.decDigits]; split <;> simp
theorem dig_inj {a b : Nat} (ha : a < 10) (hb : b < 10) (h : UInt8.ofNat (48 + a) = UInt8.ofNat (48 + b)) : a = b := by
  have h2 := congrArg UInt8.toNat h
  simp at h2
  omega
theorem dec_inj : ∀ (n a b : Nat), a < n → Lib.decDigits a = Lib.decDigits b → a = b := by
  intro n
  induction n with
  | zero => intro a b h; omega
  | succ n ih =>
    intro a b hn h
    rw [Lib.decDigits, Lib.decDigits.eq_def b] at h
    split at h
    · split at h
      · rename_i ha hb
        simp only [List.cons.injEq, and_true] at h
        exact dig_inj ha hb h
      · have := congrArg List.length h
        have h3 : 0 < (Lib.decDigits (b / 10)).length := List.length_pos_iff.2 (dec_ne _)
        rw [List.length_append] at this; simp only [List.length_cons, List.length_nil] at this; omega
    · split at h
      · have := congrArg List.length h
        have h3 : 0 < (Lib.decDigits (a / 10)).length := List.length_pos_iff.2 (dec_ne _)
        rw [List.length_append] at this; simp only [List.length_cons, List.length_nil] at this; omega
      · rename_i ha hb
        obtain ⟨h1, h2⟩ := List.append_inj' h rfl
        simp only [List.cons.injEq, and_true] at h2
        have h3 := dig_inj (by omega) (by omega) h2
        have h4 := ih (a / 10) (b / 10) (by omega) h1
        omega
theorem segName_data (u : Nat) : (segName u).data.toList = [115, 101, 103, 109, 101, 110, 116, 45] ++ Lib.decDigits u := by
  unfold segName
  rw [ByteArray.data_append]
  simp
theorem segName_inj {a b : Nat} (h : segName a = segName b) : a = b := by
  have h2 := congrArg (fun x : ByteArray => x.data.toList) h
  simp only [segName_data] at h2
  exact dec_inj (a + 1) a b (by omega) (List.append_cancel_left h2)
theorem segName_mark (u : Nat) : segName u ≠ markNm ∧ segName u ≠ markNew := by
  constructor
  · intro h
    have h2 := congrArg (fun x : ByteArray => x.data.toList) h
    simp only [segName_data] at h2
    simp [markNm] at h2
  · intro h
    have h2 := congrArg (fun x : ByteArray => x.data.toList) h
    simp only [segName_data] at h2
    simp [markNew] at h2

/-- a disk that is well, so many calls behind its beginning -/
structure ADisk.Well (d : ADisk) (c : Nat) : Prop where
  up : d.down = false
  left : -1 - (c : Int) ≤ d.left ∧ d.left < 0
  full : -1 - (c : Int) ≤ d.full ∧ d.full < 0
theorem ADisk.Well.mono {d : ADisk} {c c' : Nat} (h : d.Well c) (hc : c ≤ c') : d.Well c' :=
  ⟨h.up, ⟨by have := h.left.1; omega, h.left.2⟩, ⟨by have := h.full.1; omega, h.full.2⟩⟩
theorem writesW {d : ADisk} {c : Nat} (h : d.Well c) (hc : c < 1099511627776) : d.writes.2 = 0 ∧ d.writes.1.Well (c + 1) ∧ d.writes.1.now = d.now ∧ d.writes.1.pending = d.pending := by
  have h1 := h.left
  have h2 := h.full
  have e := wr_ok (d := d) (by rw [h.up]; simp; omega) (by omega)
  have e1 : wrap64 (d.left - 1) = d.left - 1 := by unfold wrap64; omega
  have e2 : wrap64 (d.full - 1) = d.full - 1 := by unfold wrap64; omega
  rw [e1, e2] at e
  rw [e]
  exact ⟨rfl, ⟨h.up, by simp; omega, by simp; omega⟩, rfl, rfl⟩
theorem syncW {d : ADisk} {c : Nat} (h : d.Well c) (hc : c < 1099511627776) : d.sync.2 = 0 ∧ d.sync.1.Well (c + 1) ∧ d.sync.1.now = d.now := by
  obtain ⟨a1, a2, a3, a4⟩ := writesW h hc
  rw [sync_ok a1]
  exact ⟨rfl, ⟨a2.up, a2.left, a2.full⟩, a3⟩
theorem tellW {d : ADisk} {c : Nat} {o : AOp} (h : d.Well c) (hc : c < 1099511627776) (h1 : 2 < o.kind → d.now o.name ≠ none) (h2 : ¬ (o.kind = 4 ∧ o.name = o.to)) :
    (d.tell o).2 = 0 ∧ (d.tell o).1.Well (c + 1) ∧ (d.tell o).1.now = doOp d.now o := by
  obtain ⟨a1, a2, a3, a4⟩ := writesW h hc
  have e : d.tell o = ({ d.writes.1 with now := doOp d.writes.1.now o, pending := d.writes.1.pending ++ [o] }, 0) := by
    unfold ADisk.tell
    simp only
    rw [a1, if_neg (by omega), if_neg (by omega), if_neg (by rw [a3]; rintro ⟨x, y⟩; exact h1 y x), if_neg h2]
  rw [e]
  refine ⟨rfl, ⟨a2.up, a2.left, a2.full⟩, ?_⟩
  simp only
  rw [a3]
theorem removeAllW : ∀ (l : List Nat) {d : ADisk} {c : Nat}, d.Well c → c + l.length < 1099511627776 → l.Nodup → (∀ s ∈ l, d.now (segName s) ≠ none) →
    (d.removeAll (l.map segName)).2 = 0 ∧ (d.removeAll (l.map segName)).1.Well (c + l.length + 1) ∧ ∀ s, s ∉ l → (d.removeAll (l.map segName)).1.now (segName s) = d.now (segName s) := by
  intro l
  induction l with
  | nil =>
    intro d c h hc _ _
    obtain ⟨a1, a2, a3⟩ := syncW h (by simpa using hc)
    exact ⟨a1, a2, fun s _ => by show d.sync.1.now _ = _; rw [a3]⟩
  | cons x l ih =>
    intro d c h hc hnd hf
    simp only [List.length_cons] at hc
    obtain ⟨a1, a2, a3⟩ := tellW (o := ⟨3, segName x, ByteArray.empty, ByteArray.empty⟩) h (by omega) (fun _ => hf x (by simp)) (by simp)
    have e : d.removeAll ((x :: l).map segName) = (d.tell ⟨3, segName x, ByteArray.empty, ByteArray.empty⟩).1.removeAll (l.map segName) := by
      rw [List.map_cons, ADisk.removeAll, if_pos a1]
    have hn := List.nodup_cons.1 hnd
    have hnow : ∀ s, s ≠ x → (d.tell ⟨3, segName x, ByteArray.empty, ByteArray.empty⟩).1.now (segName s) = d.now (segName s) := fun s hs => by
      rw [a3]
      show (d.now.set (segName x) none) (segName s) = _
      exact Files.set_other _ _ (fun e => hs (segName_inj e))
    obtain ⟨b1, b2, b3⟩ := ih a2 (by omega) hn.2 (fun s hs => by rw [hnow s (fun e => hn.1 (e ▸ hs))]; exact hf s (by simp [hs]))
    rw [e]
    refine ⟨b1, ?_, fun s hs => ?_⟩
    · have : c + 1 + l.length + 1 = c + (x :: l).length + 1 := by simp; omega
      rw [this] at b2; exact b2
    · simp at hs
      rw [b3 s hs.2, hnow s hs.1]
theorem setMarkW {d : ADisk} {c : Nat} (first : Nat) (h : d.Well c) (hc : c + 4 < 1099511627776) :
    (d.setMark first).2 = 0 ∧ (d.setMark first).1.Well (c + 4) ∧ ∀ s, (d.setMark first).1.now (segName s) = d.now (segName s) := by
  obtain ⟨a1, a2, a3⟩ := tellW (o := ⟨1, markNew, ByteArray.empty, str (recBytes first 0 [])⟩) h (by omega) (by simp) (by simp)
  obtain ⟨b1, b2, b3⟩ := syncW a2 (by omega)
  have hm : (d.tell ⟨1, markNew, ByteArray.empty, str (recBytes first 0 [])⟩).1.sync.1.now markNew ≠ none := by
    rw [b3, a3]
    show (d.now.set markNew (some _)) markNew ≠ none
    rw [Files.set_same]; exact Option.some_ne_none _
  obtain ⟨c1, c2, c3⟩ := tellW (o := ⟨4, markNew, markNm, ByteArray.empty⟩) b2 (by omega) (fun _ => hm) (fun h => mark_ne.2 h.2)
  obtain ⟨d1, d2, d3⟩ := syncW c2 (by omega)
  have e : d.setMark first = ((d.tell ⟨1, markNew, ByteArray.empty, str (recBytes first 0 [])⟩).1.sync.1.tell ⟨4, markNew, markNm, ByteArray.empty⟩).1.sync := by
    unfold ADisk.setMark
    simp only
    rw [if_pos a1, if_pos b1, if_pos c1]
  rw [e]
  refine ⟨d1, d2, fun s => ?_⟩
  have h1 := segName_mark s
  rw [d3, c3]
  show doOp _ ⟨4, markNew, markNm, ByteArray.empty⟩ (segName s) = _
  obtain ⟨t, ht⟩ : ∃ t, (d.tell ⟨1, markNew, ByteArray.empty, str (recBytes first 0 [])⟩).1.sync.1.now markNew = some t := Option.ne_none_iff_exists'.1 hm
  unfold doOp
  simp only [show ¬ (4 = 1) by omega, show ¬ (4 = 2) by omega, show ¬ (4 = 3) by omega, if_false, if_true, ht]
  rw [Files.set_other _ _ h1.2, Files.set_other _ _ h1.1, b3, a3]
  show (d.now.set markNew _) (segName s) = _
  exact Files.set_other _ _ h1.2

/-! ### the segments -/
def starts : Nat → List (List Rec) → List Nat
  | _, [] => []
  | n, c :: cs => n :: starts (n + c.length) cs
theorem starts_len : ∀ (cs : List (List Rec)) (n : Nat), (starts n cs).length = cs.length
  | [], _ => rfl
  | c :: cs, n => by simp [starts, starts_len cs]
theorem starts_at : ∀ (cs : List (List Rec)) (n k : Nat), k < cs.length → (starts n cs)[k]? = some (n + (cs.take k).flatten.length)
  | [], _, _, h => absurd h (by simp)
  | c :: cs, n, 0, _ => by simp [starts]
  | c :: cs, n, k + 1, h => by
    have := starts_at cs (n + c.length) k (by simpa using h)
    simp only [starts, List.getElem?_cons_succ, this]
    simp; omega
theorem starts_snoc : ∀ (cs : List (List Rec)) (n : Nat) (c : List Rec), starts n (cs ++ [c]) = starts n cs ++ [n + cs.flatten.length]
  | [], _, _ => by simp [starts]
  | b :: cs, n, c => by
    simp only [List.cons_append, starts, starts_snoc cs]
    simp; omega
theorem starts_drop : ∀ (cs : List (List Rec)) (n k : Nat), (starts n cs).drop k = starts (n + (cs.take k).flatten.length) (cs.drop k)
  | [], _, k => by simp [starts]
  | c :: cs, n, 0 => by simp
  | c :: cs, n, k + 1 => by
    simp only [starts, List.drop_succ_cons, starts_drop cs]
    simp [Nat.add_assoc]
theorem starts_set : ∀ (cs : List (List Rec)) (n : Nat) (a b : List Rec), starts n (cs ++ [a]) = starts n (cs ++ [b]) := by
  intro cs n a b; rw [starts_snoc, starts_snoc]
theorem starts_asc : ∀ (cs : List (List Rec)) (n : Nat), (∀ c ∈ cs, c ≠ []) → (starts n cs).Pairwise (· < ·) ∧ ∀ s ∈ starts n cs, n ≤ s
  | [], _, _ => by simp [starts]
  | c :: cs, n, h => by
    obtain ⟨h1, h2⟩ := starts_asc cs (n + c.length) (fun d hd => h d (by simp [hd]))
    have hc : 0 < c.length := List.length_pos_iff.2 (h c (by simp))
    refine ⟨?_, ?_⟩
    · simp only [starts, List.pairwise_cons]
      exact ⟨fun s hs => by have := h2 s hs; omega, h1⟩
    · intro s hs
      simp only [starts, List.mem_cons] at hs
      rcases hs with e | hs
      · omega
      · have := h2 s hs; omega
theorem belowFrom_spec {segs : List Nat} {low : Nat} : ∀ (f k : Nat), (belowFrom segs low f k = k ∨ ∃ x, segs[belowFrom segs low f k]? = some x ∧ x ≤ low) ∧ (segs.length ≤ k + f → ∀ x, segs[belowFrom segs low f k + 1]? = some x → low < x) := by
  intro f
  induction f with
  | zero =>
    intro k
    refine ⟨.inl rfl, fun h x hx => ?_⟩
    rw [List.getElem?_eq_none (by simpa [belowFrom] using by omega)] at hx
    cases hx
  | succ f ih =>
    intro k
    by_cases hk : k + 1 < segs.length
    · obtain ⟨s, hs⟩ : ∃ s, segs[k + 1]? = some s := ⟨_, List.getElem?_eq_getElem hk⟩
      by_cases hl : s ≤ low
      · rw [below_step hs hl]
        obtain ⟨h1, h2⟩ := ih (k + 1)
        refine ⟨.inr ?_, fun h => h2 (by omega)⟩
        rcases h1 with e | h1
        · rw [e]; exact ⟨s, hs, hl⟩
        · exact h1
      · rw [below_stop hs hl]
        refine ⟨.inl rfl, fun _ x hx => ?_⟩
        rw [hs] at hx; cases hx; omega
    · rw [below_none (by omega)]
      refine ⟨.inl rfl, fun _ x hx => ?_⟩
      rw [List.getElem?_eq_none (by omega)] at hx; cases hx
theorem segsBelow_spec (segs : List Nat) (low : Nat) : (segsBelow segs low = 0 ∨ ∃ x, segs[segsBelow segs low]? = some x ∧ x ≤ low) ∧ ∀ x, segs[segsBelow segs low + 1]? = some x → low < x := by
  obtain ⟨h1, h2⟩ := belowFrom_spec (segs := segs) (low := low) segs.length 0
  exact ⟨h1, h2 (by omega)⟩
/-- the bytes of records -/
def bytesR : List Rec → Nat
  | [] => 0
  | r :: l => 15 + r.pay.length + bytesR l
theorem bytesR_app (a b : List Rec) : bytesR (a ++ b) = bytesR a + bytesR b := by
  induction a with
  | nil => simp [bytesR]
  | cons r a ih => simp [bytesR, ih]; omega
end Go.Proofs.YtkhjhojmhllkaaaGreatDoor
