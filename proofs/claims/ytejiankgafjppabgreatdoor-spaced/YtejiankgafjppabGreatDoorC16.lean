import Derived.Test.YtejiankgafjppabGreatDoorC15
import Derived.BigQuiet
/- journal.setMark, over a disk. -/
namespace Go.Proofs.YtejiankgafjppabGreatDoor
open Go.RowKit
open Sc

/-- as DFr, and the blocks of X may have turned -/
structure DFx (X : List Nat) (p : Nat) (w w' : World) : Prop where
  os : w'.os = w.os
  tape : w'.tape = w.tape
  output : w'.output = w.output
  size : w.heap.size ≤ w'.heap.size
  block : ∀ k, k < w.heap.size → ¬ OwnD p w k → k ∉ X → w'.heap[k]? = w.heap[k]?
  stay : ∀ k, k < w.heap.size → OwnD p w' k → OwnD p w k
theorem DFr.x {X : List Nat} {p : Nat} {w w' : World} (h : DFr p w w') : DFx X p w w' := ⟨h.os, h.tape, h.output, h.size, fun k hk hn _ => h.block k hk hn, h.stay⟩
theorem DFx.trans {X : List Nat} {p : Nat} {a b c : World} (h : DFx X p a b) (k : DFx X p b c) : DFx X p a c :=
  ⟨k.os.trans h.os, k.tape.trans h.tape, k.output.trans h.output, Nat.le_trans h.size k.size,
    fun i hi hn hx => (k.block i (Nat.lt_of_lt_of_le hi h.size) (fun ho => hn (h.stay i hi ho)) hx).trans (h.block i hi hn hx),
    fun i hi ho => h.stay i hi (k.stay i (Nat.lt_of_lt_of_le hi h.size) ho)⟩
theorem DiskIn.dfx {w w' : World} {B p bD bN n nD nN n' nD' nN' g : Nat} {pv pv' : Value} {d d' : ADisk} (h : DiskIn w B p bD bN pv d n nD nN) (h' : DiskIn w' B p bD bN pv' d' n' nD' nN') (hf : Fr (g :: dS p bD bN pv) w w') (hne : Near w.heap.size pv pv') : DFx [g] p w w' := by
  refine ⟨hf.os, hf.tape, hf.output, hf.size, fun k hk hn hx => hf.block k hk (fun hm => ?_), fun k hk ho => ?_⟩
  · rcases List.mem_cons.1 hm with e | hm
    · exact hx (by simp [e])
    · exact hn ((h.ownD k).2 hm)
  rw [h.ownD]
  have := (h'.ownD k).1 ho
  rcases List.mem_cons.1 this with e | this
  · simp [e]
  rcases List.mem_cons.1 this with e | this
  · simp [e]
  rcases List.mem_cons.1 this with e | this
  · simp [e]
  · simp at this
    rcases hne k this with e | e
    · simp [e]
    · omega
theorem DFx.dfr {X : List Nat} {p : Nat} {w w' : World} (h : DFx X p w w') (hx : ∀ k ∈ X, w.heap.size ≤ k) : DFr p w w' :=
  ⟨h.os, h.tape, h.output, h.size, fun k hk hn => h.block k hk hn (fun hm => by have := hx k hm; omega), h.stay⟩
theorem DiskIn.newD {w w' : World} {B p bD bN n nD nN : Nat} {pv : Value} {d : ADisk} (h : DiskIn w B p bD bN pv d n nD nN) (hf : Fr [] w w') : DFr p w w' :=
  h.dfr (h.new hf) hf (by simp) (Near.refl _ _)
def markNew : ByteArray := ⟨#[109, 97, 114, 107, 46, 110, 101, 119]⟩
def markNm : ByteArray := ⟨#[109, 97, 114, 107]⟩
theorem mark_ne : (markNew.toList == markNm.toList) = false ∧ markNew ≠ markNm := by
  refine ⟨by rw [ByteArray.toList_eq, ByteArray.toList_eq]; decide, fun e => ?_⟩
  have := congrArg (fun x : ByteArray => x.data.size) e
  exact absurd this (by decide)
def DskX (B p bD bN n : Nat) (X : List Nat) (r : ADisk × Nat) (w : World) (e : Ending) (w' : World) : Prop :=
  e = .returned (errN r.2) ∧ (∃ pv nD nN, DiskIn w' B p bD bN pv r.1 n nD nN) ∧ DFx X p w w'
set_option maxHeartbeats 1000000 in
theorem mark1_any (B p bD bN n nD nN bd bb g cap base : Nat) (pv : Value) (d : ADisk) (l : List Nat) (w : World) (h : DiskIn w B p bD bN pv d n nD nN) (hn : n < 67108864) (hbd : w.heap[bd]? = some (.cells #[dskV p] 153)) (hbb : w.heap[bb]? = some (.cells #[.slice (some ⟨g, 0, none⟩) l.length cap] 29))
    (hr : w.ownsRow base 5 1 (.slice (some ⟨g, 0, none⟩) l.length cap) l.length (bs l)) (hl : l.length ≤ 4096) :
    Calls Tryz.prog 231 #[.pointer (some ⟨bd, 0, none⟩), .pointer (some ⟨bb, 0, none⟩)] w (DskX B p bD bN (n + 1) [g] (d.tell ⟨1, markNew, ByteArray.empty, str l⟩) w) := by
  have x0 := blk_cell hbd 0
  have y0 := blk_cell hbb 0
  simp at x0 y0
  have HI : Hid (DiskIn w B p bD bN pv d n nD nN) := h
  have HR : Hid (w.ownsRow base 5 1 (.slice (some ⟨g, 0, none⟩) l.length cap) l.length (bs l)) := hr
  have mw := Tryz.mWrite
  clear h hr hbd hbb
  go_enter Tryz.func231, Tryz.ntmps231
  go_wp2_with fail
  refine (write_any B p bD bN n nD nN g cap base pv d markNew l w HI.out hn (by decide) HR.out hl).mono ?_
  rintro e w1 ⟨rfl, ⟨pv1, nN1, hd1, hne1⟩, hf1⟩
  have H1 : Hid (DskX B p bD bN (n + 1) [g] (d.tell ⟨1, markNew, ByteArray.empty, str l⟩) w (.returned (errN (d.tell ⟨1, markNew, ByteArray.empty, str l⟩).2)) w1) := ⟨rfl, ⟨pv1, nD, nN1, hd1⟩, HI.out.dfx hd1 hf1 hne1⟩
  clear hd1 hne1 hf1
  go_wp2
  go_ret
  exact H1.out
set_option maxHeartbeats 1000000 in
theorem mark2_any (B p bD bN n nD nN bd : Nat) (pv : Value) (d : ADisk) (w : World) (h : DiskIn w B p bD bN pv d n nD nN) (hn : n < 67108864) (hbd : w.heap[bd]? = some (.cells #[dskV p] 153)) :
    Calls Tryz.prog 232 #[.pointer (some ⟨bd, 0, none⟩)] w (DskPost B p bD bN (n + 1) (d.tell ⟨4, markNew, markNm, ByteArray.empty⟩) w) := by
  have x0 := blk_cell hbd 0
  simp at x0
  have HI : Hid (DiskIn w B p bD bN pv d n nD nN) := h
  have mw := Tryz.mRename
  clear h hbd
  go_enter Tryz.func232, Tryz.ntmps232
  go_wp2_with fail
  refine (rename_any B p bD bN n nD nN pv d markNew markNm w HI.out hn (by decide) (by decide) mark_ne).mono ?_
  rintro e w1 ⟨rfl, ⟨pv1, nN1, hd1, hne1⟩, hf1⟩
  have H1 : Hid (DskPost B p bD bN (n + 1) (d.tell ⟨4, markNew, markNm, ByteArray.empty⟩) w (.returned (errN (d.tell ⟨4, markNew, markNm, ByteArray.empty⟩).2)) w1) := ⟨rfl, ⟨pv1, nD, nN1, hd1⟩, HI.out.dfr hd1 hf1 (fun q hq _ => hq) hne1⟩
  clear hd1 hne1 hf1
  go_wp2
  go_ret
  exact H1.out
/-- steps, as far as each goes well -/
def ADisk.setMark (d : ADisk) (first : Nat) : ADisk × Nat :=
  let t1 := d.tell ⟨1, markNew, ByteArray.empty, str (recBytes first 0 [])⟩
  if t1.2 = 0 then
    let t2 := t1.1.sync
    if t2.2 = 0 then
      let t3 := t2.1.tell ⟨4, markNew, markNm, ByteArray.empty⟩
      if t3.2 = 0 then t3.1.sync else t3
    else t2
  else t1
set_option maxRecDepth 100000 in
set_option maxHeartbeats 4000000 in
theorem inTurnM (B p bD bN n nD nN bd bb g cap base gst first : Nat) (pv : Value) (d : ADisk) (w : World) (h : DiskIn w B p bD bN pv d n nD nN) (hn : n + 2 ≤ 67108864)
    (hst : w.heap[gst]? = some (.cells #[.func (.func 231) #[] #[.pointer (some ⟨bd, 0, none⟩), .pointer (some ⟨bb, 0, none⟩)], .func (.method "Sync") #[dskV p] #[], .func (.func 232) #[] #[.pointer (some ⟨bd, 0, none⟩)], .func (.method "Sync") #[dskV p] #[]] 96))
    (hbd : w.heap[bd]? = some (.cells #[dskV p] 153)) (hbb : w.heap[bb]? = some (.cells #[.slice (some ⟨g, 0, none⟩) (recBytes first 0 []).length cap] 29))
    (hr : w.ownsRow base 5 1 (.slice (some ⟨g, 0, none⟩) (recBytes first 0 []).length cap) (recBytes first 0 []).length (bs (recBytes first 0 []))) (hl : (recBytes first 0 []).length ≤ 4096) :
    Calls Tryz.prog 142 #[.slice (some ⟨gst, 0, none⟩) 4 4] w (DskX B p bD bN (n + 2) [g] (d.setMark first) w) := by
  have z0 := blk_cell hst 0
  simp at z0
  have HI : Hid (DiskIn w B p bD bN pv d n nD nN) := h
  have msy := Tryz.mSync
  obtain ⟨cg, hcg⟩ := own_cells hr (g := g) rfl
  have hgst : gst ≠ g := fun e => by rw [e, hcg] at hst; cases hst
  have hgbd : bd ≠ g := fun e => by rw [e, hcg] at hbd; cases hbd
  go_enter Tryz.func142, Tryz.ntmps142
  go_wp2
  refine wp_loop_rounds 5 ?_
  rw [rounds_succ]
  go_wp2_with fail
  refine (mark1_any B p bD bN n nD nN bd bb g cap base pv d _ w HI.out (by omega) hbd hbb hr hl).mono ?_
  obtain ⟨t1, ht1⟩ : ∃ t1, t1 = d.tell ⟨1, markNew, ByteArray.empty, str (recBytes first 0 [])⟩ := ⟨_, rfl⟩
  have HT1 : Hid (d.tell ⟨1, markNew, ByteArray.empty, str (recBytes first 0 [])⟩ = t1) := ht1.symm
  rw [← ht1]
  clear ht1
  rintro e w1 ⟨rfl, ⟨pv1, nD1, nN1, hd1⟩, ho1⟩
  have hst1 := (ho1.block gst (Array.getElem?_eq_some_iff.1 hst).1 (HI.out.freeD hst (by decide) (by decide)) (by simp; exact hgst)).trans hst
  have hbd1 := (ho1.block bd (Array.getElem?_eq_some_iff.1 hbd).1 (HI.out.freeD hbd (by decide) (by decide)) (by simp; exact hgbd)).trans hbd
  have y1 := blk_cell hst1 1
  simp at y1
  have HST1 : Hid (w1.heap[gst]? = some (.cells #[.func (.func 231) #[] #[.pointer (some ⟨bd, 0, none⟩), .pointer (some ⟨bb, 0, none⟩)], .func (.method "Sync") #[dskV p] #[], .func (.func 232) #[] #[.pointer (some ⟨bd, 0, none⟩)], .func (.method "Sync") #[dskV p] #[]] 96)) := hst1
  have HBD1 : Hid (w1.heap[bd]? = some (.cells #[dskV p] 153)) := hbd1
  have H1 : Hid (DiskIn w1 B p bD bN pv1 t1.1 (n + 1) nD1 nN1) := hd1
  have HO1 : Hid (DFx [g] p w w1) := ho1
  clear h hst hbd hbb hr z0 hst1 hbd1 hd1 ho1 hcg
  by_cases hc1 : t1.2 = 0
  · rw [hc1, errN_ok]
    go_wp2
    rw [rounds_succ]
    go_wp2_with fail
    refine (sync_any B p bD bN (n + 1) nD1 nN1 pv1 t1.1 w1 H1.out).mono ?_
    obtain ⟨t2, ht2⟩ : ∃ t2, t2 = t1.1.sync := ⟨_, rfl⟩
    have HT2 : Hid (t1.1.sync = t2) := ht2.symm
    rw [← ht2]
    clear ht2
    rintro e w2 ⟨rfl, ⟨pv2, nD2, hd2, hne2⟩, hf2⟩
    have ho2 : DFr p w1 w2 := H1.out.dfr hd2 hf2 (fun q hq _ => by simp at hq; rcases hq with e | e <;> simp [e]) hne2
    have hst2 := (ho2.block gst (Array.getElem?_eq_some_iff.1 HST1.out).1 (H1.out.freeD HST1.out (by decide) (by decide))).trans HST1.out
    have hbd2 := (ho2.block bd (Array.getElem?_eq_some_iff.1 HBD1.out).1 (H1.out.freeD HBD1.out (by decide) (by decide))).trans HBD1.out
    have y2 := blk_cell hst2 2
    simp at y2
    have HST2 : Hid (w2.heap[gst]? = some (.cells #[.func (.func 231) #[] #[.pointer (some ⟨bd, 0, none⟩), .pointer (some ⟨bb, 0, none⟩)], .func (.method "Sync") #[dskV p] #[], .func (.func 232) #[] #[.pointer (some ⟨bd, 0, none⟩)], .func (.method "Sync") #[dskV p] #[]] 96)) := hst2
    have HBD2 : Hid (w2.heap[bd]? = some (.cells #[dskV p] 153)) := hbd2
    have H2 : Hid (DiskIn w2 B p bD bN pv2 t2.1 (n + 1) nD2 nN1) := hd2
    have HO2 : Hid (DFx [g] p w w2) := HO1.out.trans ho2.x
    clear hst2 hbd2 hd2 ho2 hf2 hne2 y1
    by_cases hc2 : t2.2 = 0
    · rw [hc2, errN_ok]
      go_wp2
      rw [rounds_succ]
      go_wp2_with fail
      refine (mark2_any B p bD bN (n + 1) nD2 nN1 bd pv2 t2.1 w2 H2.out (by omega) HBD2.out).mono ?_
      obtain ⟨t3, ht3⟩ : ∃ t3, t3 = t2.1.tell ⟨4, markNew, markNm, ByteArray.empty⟩ := ⟨_, rfl⟩
      have HT3 : Hid (t2.1.tell ⟨4, markNew, markNm, ByteArray.empty⟩ = t3) := ht3.symm
      rw [← ht3]
      clear ht3
      rintro e w3 ⟨rfl, ⟨pv3, nD3, nN3, hd3⟩, ho3⟩
      have hst3 := (ho3.block gst (Array.getElem?_eq_some_iff.1 HST2.out).1 (H2.out.freeD HST2.out (by decide) (by decide))).trans HST2.out
      have y3 := blk_cell hst3 3
      simp at y3
      have H3 : Hid (DiskIn w3 B p bD bN pv3 t3.1 (n + 2) nD3 nN3) := hd3
      have HO3 : Hid (DFx [g] p w w3) := HO2.out.trans ho3.x
      clear hst3 hd3 ho3 y2
      by_cases hc3 : t3.2 = 0
      · rw [hc3, errN_ok]
        go_wp2
        rw [rounds_succ]
        go_wp2_with fail
        refine (sync_any B p bD bN (n + 2) nD3 nN3 pv3 t3.1 w3 H3.out).mono ?_
        have HE : Hid (d.setMark first = t3.1.sync) := by show _ = _; unfold ADisk.setMark; simp only; rw [HT1.out, if_pos hc1, HT2.out, if_pos hc2, HT3.out, if_pos hc3]
        rintro e w4 ⟨rfl, ⟨pv4, nD4, hd4, hne4⟩, hf4⟩
        have HF : Hid (DskX B p bD bN (n + 2) [g] (d.setMark first) w (.returned (errN t3.1.sync.2)) w4) := by
          show DskX _ _ _ _ _ _ _ _ _ _
          rw [HE.out]
          exact ⟨rfl, ⟨pv4, nD4, nN3, hd4⟩, HO3.out.trans (H3.out.dfr hd4 hf4 (fun q hq _ => by simp at hq; rcases hq with e | e <;> simp [e]) hne4).x⟩
        clear hd4 hne4 hf4 y3
        by_cases hc4 : t3.1.sync.2 = 0
        · rw [hc4, errN_ok] at HF ⊢
          go_wp2
          rw [rounds_succ]
          go_wp2
          go_ret
          exact HF.out
        · rw [errN_no hc4] at HF ⊢
          go_wp2
          go_ret
          exact HF.out
      · have HE : Hid (d.setMark first = t3) := by show _ = _; unfold ADisk.setMark; simp only; rw [HT1.out, if_pos hc1, HT2.out, if_pos hc2, HT3.out, if_neg hc3]
        rw [errN_no hc3]
        go_wp2
        go_ret
        unfold DskX
        rw [HE.out]
        exact ⟨by rw [errN_no hc3]; rfl, ⟨pv3, nD3, nN3, H3.out⟩, HO3.out⟩
    · have HE : Hid (d.setMark first = t2) := by show _ = _; unfold ADisk.setMark; simp only; rw [HT1.out, if_pos hc1, HT2.out, if_neg hc2]
      rw [errN_no hc2]
      go_wp2
      go_ret
      unfold DskX
      rw [HE.out]
      exact ⟨by rw [errN_no hc2]; rfl, ⟨pv2, nD2, nN1, H2.out.mores (by omega) hn⟩, HO2.out⟩
  · have e : d.setMark first = t1 := by unfold ADisk.setMark; simp only; rw [HT1.out, if_neg hc1]
    have HE : Hid (d.setMark first = t1) := e
    clear e
    rw [errN_no hc1]
    go_wp2
    go_ret
    unfold DskX
    rw [HE.out]
    exact ⟨by rw [errN_no hc1]; rfl, ⟨pv1, nD1, nN1, H1.out.mores (by omega) hn⟩, HO1.out⟩
end Go.Proofs.YtejiankgafjppabGreatDoor
/- journal.setMark. -/
namespace Go.Proofs.YtejiankgafjppabGreatDoor
open Go.RowKit
open Sc
set_option maxRecDepth 100000 in
set_option maxHeartbeats 4000000 in
theorem setMark_any (B p bD bN n nD nN first : Nat) (pv : Value) (d : ADisk) (w : World) (h : DiskIn w B p bD bN pv d n nD nN) (hn : n + 2 ≤ 67108864) (hx : first < 18446744073709551616) :
    Calls Tryz.prog 186 #[dskV p, .int .u64 (first : Int)] w (DskPost B p bD bN (n + 2) (d.setMark first) w) := by
  have HI : Hid (DiskIn w B p bD bN pv d n nD nN) := h
  clear h
  go_enter Tryz.func186, Tryz.ntmps186
  go_wp2_with fail
  refine (encodeR_own first 0 ⟨#[]⟩ _ (by decide) (by decide) hx).mono ?_
  rintro e w1 ⟨g, rfl, hg, hrow, hb1⟩
  rw [World.size_alloc] at hb1 hg hrow
  have hz : (⟨#[]⟩ : ByteArray).size = 0 := rfl
  have hbo : bytesOf ⟨#[]⟩ = [] := rfl
  rw [hz] at hrow ⊢
  rw [hbo] at hrow
  have hlen : (recBytes first 0 []).length = 11 + 0 + 4 := by rw [recBytes_len]; rfl
  have hf1 : Fr [] w w1 := ((Fr.refl [] w).alloc _).trans (Fr.of_below (by rw [World.size_alloc]; exact hb1) [])
  have hbd : w1.heap[w.heap.size]? = some (.cells #[dskV p] 153) := (hb1.block w.heap.size (by omega)).trans (heap_alloc_new w _)
  have hz1 : w.heap.size < w1.heap.size := (Array.getElem?_eq_some_iff.1 hbd).1
  have hgl := (own_lt hrow).2
  have HBD : Hid (w1.heap[w.heap.size]? = some (.cells #[dskV p] 153)) := hbd
  have HROW : Hid (w1.ownsRow (w.heap.size + 1 + 1) 5 1 (.slice (some ⟨g, 0, none⟩) (11 + 0 + 4) (15 + 0)) (11 + 0 + 4) (bs (recBytes first 0 []))) := hrow
  have HF1 : Hid (Fr [] w w1) := hf1
  have HLEN : Hid ((recBytes first 0 []).length = 11 + 0 + 4) := hlen
  have b0 := blk_cell hbd 0
  simp at b0
  have b0' : ∀ ob, (w1.alloc ob).cell? ⟨w.heap.size, 0, none⟩ = some (dskV p) := fun ob => (World.cell?_of_block (a := ⟨w.heap.size, 0, none⟩) (Below.heap_alloc w1 ob _ hz1)).trans b0
  have b0'' : ∀ ob oc, ((w1.alloc ob).alloc oc).cell? ⟨w.heap.size, 0, none⟩ = some (dskV p) := fun ob oc => (World.cell?_of_block (a := ⟨w.heap.size, 0, none⟩) (Below.heap_alloc (w1.alloc ob) oc w.heap.size (by simp; omega))).trans (b0' ob)
  clear hb1 hrow hf1 hbd hlen
  go_wp2
  have hin := fun (W : World) (hW : W = ((w1.alloc (.cells #[.slice (some ⟨g, 0, none⟩) 15 15] 29)).alloc (.cells #[.func (.func 231) #[] #[.pointer (some ⟨w.heap.size, 0, none⟩), .pointer (some ⟨w1.heap.size, 0, none⟩)], .func (.method "Sync") #[dskV p] #[], .func (.func 232) #[] #[.pointer (some ⟨w.heap.size, 0, none⟩)], .func (.method "Sync") #[dskV p] #[]] 96)).drew) => by
    have hfW : Fr [] w W := by rw [hW]; exact ((HF1.out.alloc _).alloc _).drew
    have hst : W.heap[w1.heap.size + 1]? = some (.cells #[.func (.func 231) #[] #[.pointer (some ⟨w.heap.size, 0, none⟩), .pointer (some ⟨w1.heap.size, 0, none⟩)], .func (.method "Sync") #[dskV p] #[], .func (.func 232) #[] #[.pointer (some ⟨w.heap.size, 0, none⟩)], .func (.method "Sync") #[dskV p] #[]] 96) := by
      rw [hW]
      have := heap_alloc_new (w1.alloc (.cells #[.slice (some ⟨g, 0, none⟩) 15 15] 29)) (.cells #[.func (.func 231) #[] #[.pointer (some ⟨w.heap.size, 0, none⟩), .pointer (some ⟨w1.heap.size, 0, none⟩)], .func (.method "Sync") #[dskV p] #[], .func (.func 232) #[] #[.pointer (some ⟨w.heap.size, 0, none⟩)], .func (.method "Sync") #[dskV p] #[]] 96)
      rw [World.size_alloc] at this; exact this
    have hbb : W.heap[w1.heap.size]? = some (.cells #[.slice (some ⟨g, 0, none⟩) 15 15] 29) := by
      rw [hW]
      exact (Below.heap_alloc _ _ _ (by simp)).trans (heap_alloc_new _ _)
    have hbd : W.heap[w.heap.size]? = some (.cells #[dskV p] 153) := by
      rw [hW]
      exact (Below.heap_alloc _ _ _ (by simp; omega)).trans ((Below.heap_alloc _ _ _ hz1).trans HBD.out)
    have hrW : W.ownsRow (w.heap.size + 1 + 1) 5 1 (.slice (some ⟨g, 0, none⟩) 15 15) 15 (bs (recBytes first 0 [])) := by rw [hW]; exact (HROW.out.alloc _).alloc _
    have h15 : (recBytes first 0 []).length = 15 := HLEN.out
    have := inTurnM B p bD bN n nD nN w.heap.size w1.heap.size g 15 (w.heap.size + 1 + 1) (w1.heap.size + 1) first pv d W (HI.out.new hfW) hn hst hbd (by rw [h15]; exact hbb) (by rw [h15]; exact hrW) (by rw [h15]; omega)
    exact And.intro hfW (And.intro hbd this)
  go_region_held3 (fun w' => w'.cell? ⟨w.heap.size, 0, none⟩ = some (dskV p))
    (simp [*])
    (first | (go_at_call 142; refine (hin _ rfl).2.2.mono ?_; rintro e w2 ⟨rfl, hd2, ho2⟩; have q0 := hin _ rfl; have s2 : w2.cell? ⟨w.heap.size, 0, none⟩ = some (dskV p) := (blk_cell ((ho2.block w.heap.size (Array.getElem?_eq_some_iff.1 q0.2.1).1 ((HI.out.new q0.1).freeD q0.2.1 (by decide) (by decide)) (by simp; omega)).trans q0.2.1) 0).trans (by simp); have HF : Hid (DFr p w w2) := ((HI.out.newD q0.1).x.trans ho2).dfr (by intro k hk; simp at hk; omega); have HD2 : Hid (∃ pv nD nN, DiskIn w2 B p bD bN pv (d.setMark first).1 (n + 2) nD nN) := hd2; clear q0 hd2 ho2))
  all_goals clear hin
  all_goals go_wp2
  all_goals go_ret
  all_goals exact ⟨rfl, HD2.out, HF.out⟩
end Go.Proofs.YtejiankgafjppabGreatDoor
/- write over Append's steps. -/
namespace Go.Proofs.YtejiankgafjppabGreatDoor
open Go.RowKit
open Sc

/-- write, when the steps come to r -/
def ALog.wr (l : ALog) (d : ADisk) (r : ALog × ADisk × Nat) : ALog × ADisk × Nat :=
  if l.failed = 0 then ({ r.1 with failed := r.2.2 }, r.2.1, r.2.2) else (l, d, l.failed)
theorem Tryz.eqNil (p : Nat) (w : World) : (binOp .eql 153 (dskV p) .nilIface).run Tryz.prog w = .ok (.bool false) w := by kernel_rfl
theorem LogIn.fail {w w' : World} {B lp p bD bN n nD nN c : Nat} {pv sv rv : Value} {l : ALog} {d : ADisk} (h : LogIn w B lp p bD bN pv sv rv l d n nD nN) (hw : w' = w.setCell ⟨lp, 6, none⟩ (errN c)) : LogIn w' B lp p bD bN pv sv rv { l with failed := c } d n nD nN ∧ Fr [lp] w w' := by
  subst hw
  have hf : Fr [lp] w (w.setCell ⟨lp, 6, none⟩ (errN c)) := Fr.set1 (by simp) _ _
  refine ⟨h.own1 hf ?_ h.segsN h.recsN h.fillN h.nextN h.durN rfl rfl, hf⟩
  have := blk_set h.blk 6 (errN c); simpa using this
set_option maxRecDepth 100000 in
set_option maxHeartbeats 4000000 in
theorem writeA (B lp p bD bN n nD nN bl bb g cap base gst : Nat) (pv sv rv : Value) (l : ALog) (d : ADisk) (by_ : List Nat) (w : World) (h : LogIn w B lp p bD bN pv sv rv l d n nD nN) (hn : n + 1 < 67108864) (hB : 2 ≤ B) (hsg : l.filled < 600 → l.segs ≠ [])
    (hst : w.heap[gst]? = some (.cells #[.func (.func 181) #[.pointer (some ⟨lp, 0, none⟩)] #[], .func (.func 182) #[] #[.pointer (some ⟨bl, 0, none⟩), .pointer (some ⟨bb, 0, none⟩)]] 96))
    (hbl : w.heap[bl]? = some (.cells #[.pointer (some ⟨lp, 0, none⟩)] 82)) (hbb : w.heap[bb]? = some (.cells #[.slice (some ⟨g, 0, none⟩) by_.length cap] 29))
    (hr : w.ownsRow base 5 1 (.slice (some ⟨g, 0, none⟩) by_.length cap) by_.length (bs by_)) (hm2 : by_.length ≤ 4096) (hpow : Pows w) :
    Calls Tryz.prog 178 #[.pointer (some ⟨lp, 0, none⟩), .slice (some ⟨gst, 0, none⟩) 2 2] w (PutL B lp p bD bN (n + 2) [g] (l.wr d (l.put d by_)) w) := by
  have c0 := blk_cell h.blk 0
  have c6 := blk_cell h.blk 6
  simp at c0 c6
  have HI : Hid (LogIn w B lp p bD bN pv sv rv l d n nD nN) := h
  have hnil := Tryz.eqNil p
  by_cases hf : l.failed = 0
  · rw [hf, errN_ok] at c6
    have e : l.wr d (l.put d by_) = ({ (l.put d by_).1 with failed := (l.put d by_).2.2 }, (l.put d by_).2.1, (l.put d by_).2.2) := by unfold ALog.wr; rw [if_pos hf]
    rw [e]
    clear e
    go_enter Tryz.func178, Tryz.ntmps178
    go_wp2_with fail
    refine (inTurnA B lp p bD bN n nD nN bl bb g cap base gst pv sv rv l d by_ w HI.out hn hB hsg hst hbl hbb hr hm2 hpow).mono ?_
    rintro e w1 ⟨rfl, ⟨pv1, sv1, rv1, nD1, nN1, hl1⟩, ho1⟩
    have H1 : Hid (LogIn w1 B lp p bD bN pv1 sv1 rv1 (l.put d by_).1 (l.put d by_).2.1 (n + 2) nD1 nN1) := hl1
    have HO : Hid (OFx [g] lp p w w1) := ho1
    have k6 := blk_cell hl1.blk 6
    have f6 := blk_free hl1.blk 6
    simp at k6
    clear hl1 ho1 hst hbl hbb hr h
    by_cases hc : (l.put d by_).2.2 = 0
    · rw [hc, errN_ok]
      go_wp2
      go_ret
      obtain ⟨hl2, hf2⟩ := H1.out.fail (c := 0) rfl
      unfold PutL
      simp only
      rw [hc]
      exact ⟨rfl, ⟨pv1, sv1, rv1, nD1, nN1, hl2⟩, HO.out.trans (H1.out.ofx hl2 hf2 (by intro k hk _; simp at hk; simp [hk]) (Near.refl _ _) (Near.refl _ _) (Near.refl _ _))⟩
    · have he := errN_no hc
      obtain ⟨hl2, hf2⟩ := H1.out.fail (c := (l.put d by_).2.2) rfl
      rw [he] at hl2 hf2 ⊢
      have H2 : Hid (LogIn (w1.setCell ⟨lp, 6, none⟩ (.iface 30 (.int .i64 ((l.put d by_).2.2 : Int)))) B lp p bD bN pv1 sv1 rv1 { (l.put d by_).1 with failed := (l.put d by_).2.2 } (l.put d by_).2.1 (n + 2) nD1 nN1) := hl2
      clear hl2
      go_wp2
      go_ret
      exact ⟨by simp only; rw [he]; rfl, ⟨pv1, sv1, rv1, nD1, nN1, H2.out⟩, HO.out.trans (H1.out.ofx H2.out hf2 (by intro k hk _; simp at hk; simp [hk]) (Near.refl _ _) (Near.refl _ _) (Near.refl _ _))⟩
  · rw [errN_no hf] at c6
    have e : l.wr d (l.put d by_) = (l, d, l.failed) := by unfold ALog.wr; rw [if_neg hf]
    rw [e]
    go_enter Tryz.func178, Tryz.ntmps178
    go_wp2
    go_ret
    exact ⟨by simp only; rw [errN_no hf]; rfl, ⟨pv, sv, rv, nD, nN, (HI.out.more (by omega)).more (by omega)⟩, (OFr.refl _ _ _).x⟩
end Go.Proofs.YtejiankgafjppabGreatDoor
/- (*Log).Append. -/
namespace Go.Proofs.YtejiankgafjppabGreatDoor
open Go.RowKit
open Sc

theorem foldl_push (l : List UInt8) (a : ByteArray) : (l.foldl (fun r n => r.push n) a).data.toList = a.data.toList ++ l := by
  induction l generalizing a with
  | nil => simp
  | cons x l ih => rw [List.foldl_cons, ih]; simp [ByteArray.push]
theorem strOf_bytes (s : ByteArray) : str (bytesOf s) = s := by
  have h : str (bytesOf s) = s.data.toList.foldl (fun r n => r.push n) ByteArray.empty := by
    unfold str bytesOf
    rw [List.map_map, List.foldl_map]
    congr 1
    funext r n
    simp
  have h2 := foldl_push s.data.toList ByteArray.empty
  rw [← h] at h2
  have h3 : (str (bytesOf s)).data = s.data := by
    apply Array.toList_inj.1
    rw [h2]; simp
  cases hs : str (bytesOf s)
  cases s
  rw [hs] at h3
  simp at h3
  rw [h3]
def ALog.append (l : ALog) (d : ADisk) (kind : Nat) (s : ByteArray) : ALog × ADisk × Nat × Nat :=
  if 255 < s.size then (l, d, 0, 1)
  else if (l.wr d (l.put d (recBytes l.next kind (bytesOf s)))).2.2 = 0 then
    ({ (l.wr d (l.put d (recBytes l.next kind (bytesOf s)))).1 with filled := (l.wr d (l.put d (recBytes l.next kind (bytesOf s)))).1.filled + (15 + s.size), recs := (l.wr d (l.put d (recBytes l.next kind (bytesOf s)))).1.recs ++ [⟨(l.wr d (l.put d (recBytes l.next kind (bytesOf s)))).1.next, kind, bytesOf s⟩], next := (l.wr d (l.put d (recBytes l.next kind (bytesOf s)))).1.next + 1 },
      (l.wr d (l.put d (recBytes l.next kind (bytesOf s)))).2.1, (l.wr d (l.put d (recBytes l.next kind (bytesOf s)))).1.next, 0)
  else ((l.wr d (l.put d (recBytes l.next kind (bytesOf s)))).1, (l.wr d (l.put d (recBytes l.next kind (bytesOf s)))).2.1, 0, (l.wr d (l.put d (recBytes l.next kind (bytesOf s)))).2.2)
theorem put_filled {l : ALog} {d : ADisk} {by_ : List Nat} (h : (l.put d by_).2.2 = 0) : (l.put d by_).1.filled < 600 := by
  unfold ALog.put at *
  by_cases hr : (l.room d).2.2 = 0
  · rw [if_pos hr]
    show (l.room d).1.filled < 600
    unfold ALog.room at *
    by_cases hf : l.filled < 600
    · rw [if_pos hf]; exact hf
    · rw [if_neg hf] at hr ⊢
      by_cases hs : (l.sync d).2.2 = 0
      · rw [if_pos hs]; show 0 < 600; omega
      · rw [if_neg hs] at hr; exact absurd hr hs
  · rw [if_neg hr] at h; exact absurd h hr
theorem wr_filled {l : ALog} {d : ADisk} {by_ : List Nat} (h : (l.wr d (l.put d by_)).2.2 = 0) : (l.wr d (l.put d by_)).1.filled < 600 := by
  unfold ALog.wr at *
  by_cases hf : l.failed = 0
  · rw [if_pos hf] at h ⊢; exact put_filled h
  · rw [if_neg hf] at h; exact absurd h hf
def AppPost (B lp p bD bN n : Nat) (r : ALog × ADisk × Nat × Nat) (w : World) (e : Ending) (w' : World) : Prop :=
  e = .returned (.tuple #[.int .u64 (r.2.2.1 : Int), errN r.2.2.2]) ∧ (∃ pv sv rv nD nN, LogIn w' B lp p bD bN pv sv rv r.1 r.2.1 n nD nN) ∧ OFr lp p w w'
theorem LogIn.new {w w' : World} {B lp p bD bN n nD nN : Nat} {pv sv rv : Value} {l : ALog} {d : ADisk} (h : LogIn w B lp p bD bN pv sv rv l d n nD nN) (hf : Fr [] w w') : LogIn w' B lp p bD bN pv sv rv l d n nD nN :=
  h.turned (h.disk.new hf) hf (by simp) (Nat.le_refl _)
theorem LogIn.newO {w w' : World} {B lp p bD bN n nD nN : Nat} {pv sv rv : Value} {l : ALog} {d : ADisk} (h : LogIn w B lp p bD bN pv sv rv l d n nD nN) (hf : Fr [] w w') : OFr lp p w w' :=
  h.ofr (h.new hf) hf (by simp) (.inl rfl) (Near.refl _ _) (Near.refl _ _) (Near.refl _ _)
set_option maxRecDepth 100000 in
set_option maxHeartbeats 4000000 in
theorem lappend_no (B lp p bD bN n nD nN kind : Nat) (pv sv rv : Value) (l : ALog) (d : ADisk) (s : ByteArray) (w : World) (h : LogIn w B lp p bD bN pv sv rv l d n nD nN) (hs : 255 < s.size) (hn : n + 1 < 67108864) :
    Calls Tryz.prog 132 #[.pointer (some ⟨lp, 0, none⟩), .int .u8 (kind : Int), .string s] w (AppPost B lp p bD bN (n + 2) (l.append d kind s) w) := by
  have e : l.append d kind s = (l, d, 0, 1) := by unfold ALog.append; rw [if_pos hs]
  rw [e]
  have hlp := (Array.getElem?_eq_some_iff.1 h.blk).1
  have c4 := blk_cell h.blk 4
  simp at c4
  have c4' : ∀ ob, (w.alloc ob).cell? ⟨lp, 4, none⟩ = some (.int .u64 (l.next : Int)) := fun ob => (World.cell?_of_block (a := ⟨lp, 4, none⟩) (Below.heap_alloc w ob lp hlp)).trans c4
  have HI : Hid (LogIn w B lp p bD bN pv sv rv l d n nD nN) := h
  clear h e
  go_enter Tryz.func132, Tryz.ntmps132
  go_wp2_with fail
  refine (encodeR_no (l.next : Int) (kind : Int) s _ hs).mono ?_
  rintro e w1 ⟨rfl, hb1⟩
  have hf1 : Fr [] w w1 := ((Fr.refl [] w).alloc _).trans (Fr.of_below hb1 [])
  clear hb1
  go_wp2
  go_ret2
  have hf2 : Fr [] w (w1.alloc (.cells #[.slice none 0 0] 29)) := hf1.alloc _
  exact ⟨rfl, ⟨pv, sv, rv, nD, nN, ((HI.out.new hf2).more (by omega)).more (by omega)⟩, HI.out.newO hf2⟩
end Go.Proofs.YtejiankgafjppabGreatDoor
/- (*Log).segmentsBelow. -/
namespace Go.Proofs.YtejiankgafjppabGreatDoor
open Go.RowKit
open Sc

/-- how many segments lie below low whole, from k on -/
def belowFrom (segs : List Nat) (low : Nat) : Nat → Nat → Nat
  | 0, k => k
  | f + 1, k => match segs[k + 1]? with
    | none => k
    | some s => if s ≤ low then belowFrom segs low f (k + 1) else k
def segsBelow (segs : List Nat) (low : Nat) : Nat := belowFrom segs low segs.length 0
theorem below_none {segs : List Nat} {low f k : Nat} (h : segs.length ≤ k + 1) : belowFrom segs low f k = k := by
  cases f with
  | zero => rfl
  | succ f => unfold belowFrom; rw [List.getElem?_eq_none h]
theorem below_step {segs : List Nat} {low f k s : Nat} (h : segs[k + 1]? = some s) (hs : s ≤ low) : belowFrom segs low (f + 1) k = belowFrom segs low f (k + 1) := by
  rw [belowFrom, h]; simp [hs]
theorem below_stop {segs : List Nat} {low f k s : Nat} (h : segs[k + 1]? = some s) (hs : ¬ s ≤ low) : belowFrom segs low f k = k := by
  cases f with
  | zero => rfl
  | succ f => rw [belowFrom, h]; simp [hs]
set_option maxRecDepth 100000 in
set_option maxHeartbeats 4000000 in
theorem segsBelow_some (B lp p bD bN n nD nN low gs cs : Nat) (pv rv : Value) (l : ALog) (d : ADisk) (w : World) (h : LogIn w B lp p bD bN pv (.slice (some ⟨gs, 0, none⟩) l.segs.length cs) rv l d n nD nN) :
    Calls Tryz.prog 184 #[.pointer (some ⟨lp, 0, none⟩), .int .u64 (low : Int)] w fun e w' => e = .returned (.int .i64 (segsBelow l.segs low : Nat)) ∧ ∃ q, w' = w.drewN q := by
  have c1 := blk_cell h.blk 1
  simp at c1
  have hsN := h.segsN.1
  have hn := h.disk.hn
  have HI : Hid (LogIn w B lp p bD bN pv (.slice (some ⟨gs, 0, none⟩) l.segs.length cs) rv l d n nD nN) := h
  obtain ⟨S, hS⟩ : ∃ S, S = l.segs.length := ⟨_, rfl⟩
  rw [← hS] at c1 hsN
  have HS : Hid (l.segs.length = S) := hS.symm
  clear h hS
  go_enter Tryz.func184, Tryz.ntmps184
  go_wp2
  go_loopw [5] (fun i wr => ∃ k f : Nat, (k ≤ S) ∧ i = .int .i64 k ∧ k + f = S ∧ segsBelow l.segs low = belowFrom l.segs low f k ∧ ∃ q, wr = w.drewN q) (fun i _ => S - (intOf i).toNat)
  case atStart => exact ⟨0, S, Nat.zero_le _, rfl, by omega, by unfold segsBelow; rw [HS.out], 0, rfl⟩
  case round =>
    obtain ⟨k, f, hk, rfl, hkf, heq, q, hq⟩ := hrel
    have HQ : Hid (wr = w.drewN q) := hq
    have e1 : wr.cell? ⟨lp, 1, none⟩ = some (.slice (some ⟨gs, 0, none⟩) S cs) := by rw [hq, World.cell?_drewN]; exact c1
    have HEQ : Hid (segsBelow l.segs low = belowFrom l.segs low f k) := heq
    clear hq heq
    have j0 : wrap64 ((k : Int) + 1) = (k : Int) + 1 := by unfold wrap64; omega
    have j1 : IntKind.i64.wrap ((k : Int) + 1) = (k : Int) + 1 := by rw [IntKind.wrap_i64]; omega
    have j2 : (0 : Int) ≤ (k : Int) + 1 := by omega
    by_cases hlt : k + 1 < S
    · obtain ⟨s, hs⟩ : ∃ s, l.segs[k + 1]? = some s := ⟨_, List.getElem?_eq_getElem (by rw [HS.out]; exact hlt)⟩
      have s0 := segs_cell HI.out.segs (k + 1) s hs
      have s1 : wr.cell? ⟨gs, k + 1, none⟩ = some (.int .u64 (s : Int)) := by rw [HQ.out, World.cell?_drewN]; exact s0
      have j3 : (k : Int) + 1 < (S : Int) := by omega
      have j4 : ((k : Int) + 1).toNat = k + 1 := by omega
      have HSS : Hid (l.segs[k + 1]? = some s) := hs
      clear hs s0
      by_cases hle : s ≤ low
      · have j5 : (s : Int) ≤ (low : Int) := by omega
        obtain ⟨f', rfl⟩ : ∃ f', f = f' + 1 := ⟨f - 1, by omega⟩
        go_wp2
        refine ⟨⟨k + 1, f', by omega, rfl, by omega, ?_, q, HQ.out⟩, by simp [intOf]; omega⟩
        rw [HEQ.out, below_step HSS.out hle]
      · have j5 : ¬ (s : Int) ≤ (low : Int) := by omega
        go_wp2
        go_ret
        exact ⟨by rw [HEQ.out, below_stop HSS.out hle]; rfl, q, HQ.out⟩
    · have j3 : ¬ (k : Int) + 1 < (S : Int) := by omega
      go_wp2
      go_ret
      exact ⟨by rw [HEQ.out, below_none (by rw [HS.out]; omega)]; rfl, q, HQ.out⟩
end Go.Proofs.YtejiankgafjppabGreatDoor
/- (*Log).Cut's steps. -/
namespace Go.Proofs.YtejiankgafjppabGreatDoor
open Go.RowKit
open Sc

/-- the disk has turned -/
theorem LogIn.dturn {w w' : World} {B lp p bD bN n nD nN n' nD' nN' : Nat} {pv sv rv pv' : Value} {l : ALog} {d d' : ADisk} (h : LogIn w B lp p bD bN pv sv rv l d n nD nN) (hd : DiskIn w' B p bD bN pv' d' n' nD' nN') (hf : DFr p w w') (hn : n ≤ n') : LogIn w' B lp p bD bN pv' sv rv l d' n' nD' nN' ∧ OFr lp p w w' := by
  have hb : w'.heap[lp]? = w.heap[lp]? := hf.block lp (Array.getElem?_eq_some_iff.1 h.blk).1 (h.disk.freeD h.blk (by decide) (by decide))
  refine ⟨{ disk := hd, blk := hb.trans h.blk, base := h.base, segs := hf.row h.disk h.segs (by decide) (by decide), recs := hf.row h.disk h.recs (by decide) (by decide), segsN := ⟨by have := h.segsN.1; omega, h.segsN.2⟩, recsN := by have := h.recsN; omega, fillN := h.fillN, nextN := by have := h.nextN; omega, durN := h.durN }, ?_⟩
  refine ⟨hf.os, hf.tape, hf.output, hf.size, fun k hk hn => hf.block k hk (fun ho => hn ?_), fun k hk ho => ?_⟩
  · rcases ho with e | e
    · exact .inr (.inl e)
    · exact .inr (.inr (.inr e))
  · rcases ho with e | e | e | e
    · exact .inl e
    · exact .inr (.inl e)
    · rw [hb] at e; exact .inr (.inr (.inl e))
    · rcases hf.stay k hk (.inr e) with e | e
      · exact .inr (.inl e)
      · exact .inr (.inr (.inr e))
theorem DFr.keep {w w' : World} {B p bD bN n nD nN q : Nat} {pv : Value} {d : ADisk} {c : Array Value} {t : TypeId} (hf : DFr p w w') (h : DiskIn w B p bD bN pv d n nD nN) (hq : w.heap[q]? = some (.cells c t (0, 0))) (h1 : t ≠ 100) (h2 : t ≠ 150) : w'.heap[q]? = some (.cells c t (0, 0)) :=
  (hf.block q (Array.getElem?_eq_some_iff.1 hq).1 (h.freeD hq h1 h2)).trans hq
set_option maxRecDepth 100000 in
set_option maxHeartbeats 4000000 in
theorem cut1_any (B lp p bD bN n nD nN bl bf first : Nat) (pv sv rv : Value) (l : ALog) (d : ADisk) (w : World) (h : LogIn w B lp p bD bN pv sv rv l d n nD nN) (hn : n + 2 ≤ 67108864) (hx : first < 18446744073709551616)
    (hbl : w.heap[bl]? = some (.cells #[.pointer (some ⟨lp, 0, none⟩)] 82)) (hbf : w.heap[bf]? = some (.cells #[.int .u64 (first : Int)] 28)) :
    Calls Tryz.prog 185 #[.pointer (some ⟨bl, 0, none⟩), .pointer (some ⟨bf, 0, none⟩)] w fun e w' => e = .returned (errN (d.setMark first).2) ∧ (∃ pv' nD' nN', LogIn w' B lp p bD bN pv' sv rv l (d.setMark first).1 (n + 2) nD' nN') ∧ OFr lp p w w' := by
  have x0 := blk_cell hbl 0
  have y0 := blk_cell hbf 0
  have c0 := blk_cell h.blk 0
  simp at x0 y0 c0
  have HI : Hid (LogIn w B lp p bD bN pv sv rv l d n nD nN) := h
  have HBL : Hid (w.heap[bl]? = some (.cells #[.pointer (some ⟨lp, 0, none⟩)] 82)) := hbl
  have HBF : Hid (w.heap[bf]? = some (.cells #[.int .u64 (first : Int)] 28)) := hbf
  clear h hbl hbf
  go_enter Tryz.func185, Tryz.ntmps185
  go_wp2
  go_region_held3 (fun w' => w'.cell? ⟨bl, 0, none⟩ = some (.pointer (some ⟨lp, 0, none⟩)) ∧ w'.cell? ⟨lp, 0, none⟩ = some (dskV p) ∧ w'.cell? ⟨bf, 0, none⟩ = some (.int .u64 (first : Int)))
    (simp [*])
    (first | (go_at_call 186; refine (setMark_any B p bD bN n nD nN first pv d w.drew (HI.out.disk.new (Fr.refl [] w).drew) hn hx).mono ?_; rintro e w1 ⟨rfl, ⟨pv1, nD1, nN1, hd1⟩, hf1⟩; have q1 := (HI.out.new (Fr.refl [] w).drew).dturn hd1 hf1 (by omega); have x1 : w1.cell? ⟨bl, 0, none⟩ = some (.pointer (some ⟨lp, 0, none⟩)) := (blk_cell (hf1.keep (HI.out.disk.new (Fr.refl [] w).drew) (show w.drew.heap[bl]? = _ from HBL.out) (by decide) (by decide)) 0).trans (by simp); have c1 : w1.cell? ⟨lp, 0, none⟩ = some (dskV p) := (blk_cell q1.1.blk 0).trans (by simp); have y1 : w1.cell? ⟨bf, 0, none⟩ = some (.int .u64 (first : Int)) := (blk_cell (hf1.keep (HI.out.disk.new (Fr.refl [] w).drew) (show w.drew.heap[bf]? = _ from HBF.out) (by decide) (by decide)) 0).trans (by simp); have Q1 : Hid (LogIn w1 B lp p bD bN pv1 sv rv l (d.setMark first).1 (n + 2) nD1 nN1 ∧ OFr lp p w w1) := ⟨q1.1, (HI.out.newO (Fr.refl [] w).drew).trans q1.2⟩; clear q1 hd1 hf1))
  all_goals go_wp2
  all_goals go_ret
  all_goals exact ⟨rfl, ⟨pv1, nD1, nN1, Q1.out.1⟩, Q1.out.2⟩
theorem own_pos {w : World} {B n : Nat} {e : TypeId} {k : Nat} {v : Value} {xs : List Value} (h : w.ownsRow B e k v n xs) (hn : 0 < n) : ∃ g cap, v = .slice (some ⟨g, 0, none⟩) n cap := by
  rcases h.2 with ⟨_, h3⟩ | ⟨g, cap, cur, rfl, _⟩
  · omega
  · exact ⟨g, cap, rfl⟩
theorem take_cells {w : World} {B gs n cs m : Nat} {l : List Nat} (h : w.ownsRow B 28 1 (.slice (some ⟨gs, 0, none⟩) n cs) n (u64s l)) (hb : ∀ s ∈ l, s < 18446744073709551616) (k x : Nat) (hk : (l.take m)[k]? = some x) : w.cell? ⟨gs, 0 + k, none⟩ = some (.int .u64 (x : Int)) ∧ x < 18446744073709551616 := by
  have h1 : l[k]? = some x := by
    rw [List.getElem?_take] at hk
    split at hk
    · exact hk
    · cases hk
  rw [Nat.zero_add]
  exact ⟨segs_cell h k x h1, hb x (List.mem_of_getElem? h1)⟩
set_option maxRecDepth 100000 in
set_option maxHeartbeats 4000000 in
theorem cut2_any (B lp p bD bN n nD nN bl bg gone gs cs : Nat) (pv rv : Value) (l : ALog) (d : ADisk) (w : World) (h : LogIn w B lp p bD bN pv (.slice (some ⟨gs, 0, none⟩) l.segs.length cs) rv l d n nD nN) (hg : gone ≤ l.segs.length) (hg0 : 0 < gone) (hn : n + gone ≤ 67108864) (hB : 2 ≤ B) (hpow : Pows w)
    (hbl : w.heap[bl]? = some (.cells #[.pointer (some ⟨lp, 0, none⟩)] 82)) (hbg : w.heap[bg]? = some (.cells #[.int .i64 (gone : Int)] 3)) :
    Calls Tryz.prog 187 #[.pointer (some ⟨bl, 0, none⟩), .pointer (some ⟨bg, 0, none⟩)] w fun e w' => e = .returned (errN (d.removeAll ((l.segs.take gone).map segName)).2) ∧ (∃ pv' nD' nN', LogIn w' B lp p bD bN pv' (.slice (some ⟨gs, 0, none⟩) l.segs.length cs) rv l (d.removeAll ((l.segs.take gone).map segName)).1 (n + gone) nD' nN') ∧ OFr lp p w w' := by
  have x0 := blk_cell hbl 0
  have y0 := blk_cell hbg 0
  have c0 := blk_cell h.blk 0
  have c1 := blk_cell h.blk 1
  simp at x0 y0 c0 c1
  have hcap : l.segs.length ≤ cs ∧ cs ≤ maxLen := by
    rcases h.segs.2 with ⟨e, _⟩ | ⟨g', cap', cur, e, _, _, h3, h4, _⟩
    · cases e
    · cases e; exact ⟨h3, h4⟩
  have hlt : bl < w.heap.size ∧ bg < w.heap.size ∧ lp < w.heap.size ∧ gs < w.heap.size ∧ 1 < w.heap.size := ⟨(Array.getElem?_eq_some_iff.1 hbl).1, (Array.getElem?_eq_some_iff.1 hbg).1, (Array.getElem?_eq_some_iff.1 h.blk).1, (h.segs.lt gs rfl).2, by have := h.disk.base.2.2.2; omega⟩
  have hsl := h.segsN
  have hnn := h.disk.hn
  have i0 : (0 : Int) ≤ (gone : Int) := by omega
  have i1 : (gone : Int) ≤ (cs : Int) := by omega
  have HI : Hid (LogIn w B lp p bD bN pv (.slice (some ⟨gs, 0, none⟩) l.segs.length cs) rv l d n nD nN) := h
  have HBL : Hid (w.heap[bl]? = some (.cells #[.pointer (some ⟨lp, 0, none⟩)] 82)) := hbl
  have HBG : Hid (w.heap[bg]? = some (.cells #[.int .i64 (gone : Int)] 3)) := hbg
  have HSL : Hid (l.segs.length ≤ n ∧ ∀ s ∈ l.segs, s < 18446744073709551616) := hsl
  have htl : (l.segs.take gone).length = gone := by rw [List.length_take]; omega
  have HNS : Hid (∀ x ∈ (l.segs.take gone).map segName, x.size ≤ maxLen) := by
    intro x hx
    obtain ⟨y, hy, rfl⟩ := List.mem_map.1 hx
    have := segName_size y (hsl.2 y (List.mem_of_mem_take hy))
    unfold maxLen; omega
  clear h hbl hbg hsl
  go_enter Tryz.func187, Tryz.ntmps187
  go_wp2
  go_region_held3 (fun w' => w'.cell? ⟨bl, 0, none⟩ = some (.pointer (some ⟨lp, 0, none⟩)) ∧ w'.cell? ⟨lp, 0, none⟩ = some (dskV p) ∧ w'.cell? ⟨lp, 1, none⟩ = some (.slice (some ⟨gs, 0, none⟩) l.segs.length cs) ∧ w'.cell? ⟨bg, 0, none⟩ = some (.int .i64 (gone : Int)))
    (simp [*])
    (first | (go_at_call 188; refine (namesOf_some gs 0 gone cs (l.segs.take gone) w.drew htl (by omega) (take_cells HI.out.segs HSL.out.2) hlt.2.2.2.1 (show Pows w.drew from hpow) hlt.2.2.2.2).mono ?_; rintro e w1 ⟨v1, rfl, hv1, hb0⟩; obtain ⟨gn, cn, hv⟩ := own_pos hv1 hg0; subst hv; have hb1 : Below w.heap.size w w1 := ⟨hb0.os, hb0.tape, hb0.output, hb0.size, hb0.block⟩; have x1 := (hb1.cell (p := ⟨bl, 0, none⟩) hlt.1).trans x0; have y1 := (hb1.cell (p := ⟨bg, 0, none⟩) hlt.2.1).trans y0; have d0 := (hb1.cell (p := ⟨lp, 0, none⟩) hlt.2.2.1).trans c0; have d1 := (hb1.cell (p := ⟨lp, 1, none⟩) hlt.2.2.1).trans c1; have HB1 : Hid (Below w.heap.size w w1) := hb1; have HV1 : Hid (w1.ownsRow w.drew.heap.size 9 1 (.slice (some ⟨gn, 0, none⟩) gone cn) gone (namesV ((l.segs.take gone).map segName))) := hv1; clear hb1 hb0 hv1) | (go_at_call 145; refine (removeAll_some B p bD bN n nD nN gn gone cn _ pv d ((l.segs.take gone).map segName) w1 (HI.out.disk.new (Fr.of_below HB1.out [])) (by rw [List.length_map]; exact htl) hn HV1.out HNS.out).mono ?_; rintro e w2 ⟨rfl, ⟨pv2, nD2, nN2, hd2⟩, hf2⟩; have hl1 := HI.out.new (Fr.of_below HB1.out []); have q2 := hl1.dturn hd2 hf2 (by omega); have x2 : w2.cell? ⟨bl, 0, none⟩ = some (.pointer (some ⟨lp, 0, none⟩)) := (blk_cell (hf2.keep hl1.disk ((HB1.out.block bl hlt.1).trans HBL.out) (by decide) (by decide)) 0).trans (by simp); have y2 : w2.cell? ⟨bg, 0, none⟩ = some (.int .i64 (gone : Int)) := (blk_cell (hf2.keep hl1.disk ((HB1.out.block bg hlt.2.1).trans HBG.out) (by decide) (by decide)) 0).trans (by simp); have e0 : w2.cell? ⟨lp, 0, none⟩ = some (dskV p) := (blk_cell q2.1.blk 0).trans (by simp); have e1 : w2.cell? ⟨lp, 1, none⟩ = some (.slice (some ⟨gs, 0, none⟩) l.segs.length cs) := (blk_cell q2.1.blk 1).trans (by simp); have Q2 : Hid (LogIn w2 B lp p bD bN pv2 (.slice (some ⟨gs, 0, none⟩) l.segs.length cs) rv l (d.removeAll ((l.segs.take gone).map segName)).1 (n + gone) nD2 nN2 ∧ OFr lp p w w2) := ⟨q2.1, (HI.out.newO (Fr.of_below HB1.out [])).trans q2.2⟩; clear q2 hl1 hd2 hf2))
  all_goals go_wp2
  all_goals go_ret
  all_goals exact ⟨by rw [List.map_take]; rfl, ⟨pv2, nD2, nN2, Q2.out.1⟩, Q2.out.2⟩
end Go.Proofs.YtejiankgafjppabGreatDoor
