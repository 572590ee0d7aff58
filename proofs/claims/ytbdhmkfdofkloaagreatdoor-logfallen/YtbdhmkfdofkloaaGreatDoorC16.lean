import Derived.Test.YtbdhmkfdofkloaaGreatDoorC15
import Derived.BigQuiet
/- journal.namesOf; removeAll of nothing. -/
namespace Go.Proofs.YtbdhmkfdofkloaaGreatDoor
open Go.RowKit
open Sc

theorem Tryz.infoStr : (Tryz.prog.info? 9).map (fun i => (i.zero, i.size, i.bytes)) = some (some (.string ByteArray.empty), 1, 16) := by kernel_rfl
theorem namesV_snoc (l : List ByteArray) (x : ByteArray) : namesV (l ++ [x]) = namesV l ++ [.string x] := by simp [namesV]
theorem wpList_name {w : World} {ops : Array Oper} {rest : List Oper} {o : Oper} {a : Act} {Q : Exit → Act → World → Prop} (hgd : o.guard = none) (s x : Operand)
    (ho : o.op = .call { callee := .builtin .append, args := #[s, x], argTypes := #[25, 25] })
    (base : Nat) (v : Value) (n : Nat) (l : List ByteArray) (r : ByteArray) (b : Nat) (hs : a.eval s = v) (hown : w.ownsRow base 9 1 v n (namesV l)) (hx : a.eval x = .slice (some ⟨b, 0, none⟩) 1 1)
    (hb : w.cell? ⟨b, 0, none⟩ = some (.string r)) (hn : n ≤ 1073741824) (hbase : base ≤ w.heap.size)
    (h : ∀ v' w', w'.ownsRow base 9 1 v' (n + 1) (namesV (l ++ [r])) → w.grownBy w' v.ownBlock → wpList Tryz.prog ops Q rest (a.put o.dst v') w') : wpList Tryz.prog ops Q (o :: rest) a w := by
  obtain ⟨i0, hi, hz0, hz1, hz2⟩ := info_parts Tryz.infoStr
  refine wpList_append_own _ hgd s x 25 ho base 9 i0 _ 1 16 Tryz.underlying25 hi hz0 hz1 hz2 rfl (by decide) v n (namesV l) hs hown ⟨b, 0, none⟩ 1 1 [.string r] hx rfl ?_ ?_ (by unfold maxLen; omega) (by omega) hbase ?_
  · intro jj u hjj
    match jj, hjj with
    | 0, hjj => simp at hjj; subst hjj; simpa [Addr.add] using hb
  · intro u hu; simp at hu; subst hu; rfl
  · intro v' w' ho' hg' _
    refine h v' w' ?_ hg'
    rw [namesV_snoc]; exact ho'
set_option maxRecDepth 100000 in
set_option maxHeartbeats 4000000 in
theorem namesOf_some (gs off m cs : Nat) (l : List Nat) (w : World) (hl : l.length = m) (hm : m ≤ 1000000000) (hc : ∀ (k x : Nat), l[k]? = some x → w.cell? ⟨gs, off + k, none⟩ = some (.int .u64 (x : Int)) ∧ x < 18446744073709551616) (hgs : gs < w.heap.size) (hpow : Pows w) (hB : 1 < w.heap.size) :
    Calls Tryz.prog 83 #[.slice (some ⟨gs, off, none⟩) m cs] w fun e w' => ∃ v, e = .returned v ∧ w'.ownsRow w.heap.size 9 1 v m (namesV (l.map segName)) ∧ Below w.heap.size w w' := by
  have HL : Hid (l.length = m) := hl
  have HC : Hid (∀ (k x : Nat), l[k]? = some x → w.cell? ⟨gs, off + k, none⟩ = some (.int .u64 (x : Int)) ∧ x < 18446744073709551616) := hc
  have HP : Hid (Pows w) := hpow
  clear hl hc hpow
  go_enter Tryz.func83, Tryz.ntmps83
  go_wp2
  go_loopw [3, 8] (fun v i wr => ∃ k : Nat, k ≤ m ∧ i = .int .i64 k ∧ wr.ownsRow w.heap.size 9 1 v k (namesV ((l.take k).map segName)) ∧ Below w.heap.size w wr) (fun _ i _ => m - (intOf i).toNat)
  case atStart => exact ⟨0, Nat.zero_le _, rfl, World.ownsRow_nil _ _ _ _, Below.refl _ _⟩
  case round =>
    obtain ⟨k, hk, rfl, hown, hb⟩ := hrel
    by_cases hlt : k < m
    · obtain ⟨x, hx⟩ : ∃ x, l[k]? = some x := ⟨_, List.getElem?_eq_getElem (by rw [HL.out]; exact hlt)⟩
      obtain ⟨c1, c2⟩ := HC.out k x hx
      have c3 := (hb.cell (p := ⟨gs, off + k, none⟩) hgs).trans c1
      have HX : Hid (l[k]? = some x) := hx
      have HO : Hid (wr.ownsRow w.heap.size 9 1 u3 k (namesV ((l.take k).map segName))) := hown
      have HB : Hid (Below w.heap.size w wr) := hb
      have hpr : Pows wr := HP.out.of_block (hb.block 1 hB)
      have i0 : (0 : Int) ≤ (k : Int) := by omega
      have i1 : (k : Int) < (m : Int) := by omega
      have hzr := hb.size
      clear hx c1 hown hb
      go_wp2_with fail
      refine (segmentName_any x wr c2 hpr).mono ?_
      rintro e w1 ⟨rfl, hb1⟩
      have hz1 := hb1.size
      have ho1 : w1.ownsRow w.heap.size 9 1 u3 k (namesV ((l.take k).map segName)) := ownsRow_fr HO.out (Fr.of_below hb1 []) (by simp)
      have HB1 : Hid (Below w.heap.size w w1) := HB.out.trans (hb1.mono hzr)
      have HO1 : Hid (w1.ownsRow w.heap.size 9 1 u3 k (namesV ((l.take k).map segName))) := ho1
      clear hb1 ho1
      go_wp2_with (at_builtin; refine wpList_name rfl _ _ rfl w.heap.size u3 k ((l.take k).map segName) (segName x) w1.heap.size rfl (HO1.out.alloc _) rfl (by simp) (by omega) (by simp; omega) ?_; intro v4 w4 ho4 hg4)
      have hB4 : Below w.heap.size w w4 := (HB1.out.alloc (by omega) _).grown hg4 (by simp; omega) (fun q hq => (HO1.out.lt q hq).1)
      clear hg4
      go_roundw
      case rel =>
        refine ⟨k + 1, by omega, by go_num, ?_, hB4⟩
        rw [List.take_add_one, HX.out]
        simpa using ho4
      case measure => simp [intOf]; omega
    · obtain rfl : k = m := by omega
      have ht : l.take k = l := List.take_of_length_le (by rw [HL.out]; exact Nat.le_refl _)
      rw [ht] at hown
      go_wp2
      go_ret
      exact ⟨u3, rfl, hown, hb⟩
set_option maxHeartbeats 1000000 in
theorem namesOf_nil (w : World) : Calls Tryz.prog 83 #[.slice none 0 0] w fun e w' => e = .returned (.slice none 0 0) ∧ w' = w := by
  go_enter Tryz.func83, Tryz.ntmps83
  go_wp2
  refine wp_loop_rounds 1 ?_
  rw [rounds_succ]
  go_wp2
  go_ret
  exact ⟨rfl, rfl⟩
set_option maxRecDepth 100000 in
set_option maxHeartbeats 1000000 in
theorem removeAll_nil (B p bD bN n nD nN : Nat) (pv : Value) (d : ADisk) (w : World) (h : DiskIn w B p bD bN pv d n nD nN) :
    Calls Tryz.prog 63 #[dskV p, .slice none 0 0] w (DskPost B p bD bN n (d.removeAll []) w) := by
  have HI : Hid (DiskIn w B p bD bN pv d n nD nN) := h
  have m2 := Tryz.mSync
  clear h
  go_enter Tryz.func63, Tryz.ntmps63
  go_wp2
  refine wp_loop_rounds 1 ?_
  rw [rounds_succ]
  go_wp2_with fail
  refine (sync_any B p bD bN n nD nN pv d w HI.out).mono ?_
  rintro e w1 ⟨rfl, ⟨pv1, nD1, hd1, hne1⟩, hf1⟩
  have H1 : Hid (DskPost B p bD bN n (d.removeAll []) w (.returned (errN d.sync.2)) w1) := ⟨rfl, ⟨pv1, nD1, nN, hd1⟩, HI.out.dfr hd1 hf1 (fun q hq _ => by simp at hq; rcases hq with e | e <;> simp [e]) hne1⟩
  clear hd1 hne1 hf1
  go_wp2
  go_ret
  exact H1.out
end Go.Proofs.YtbdhmkfdofkloaaGreatDoor
/- journal.setMark, over a disk. -/
namespace Go.Proofs.YtbdhmkfdofkloaaGreatDoor
open Go.RowKit
open Sc

/-- as DFr, and the blocks of X may have turned -/
structure DFx (X : List Nat) (p : Nat) (w w' : World) : Prop where
  os : w'.os = w.os
  tape : w'.tape = w.tape
  output : w'.output = w.output
  size : w.heap.size ≤ w'.heap.size
  block : ∀ k, k < w.heap.size → ¬ OwnD p w k → k ∉ X → w'.heap[k]? = w.heap[k]?
  stay : ∀ k, k < w.heap.size → OwnD p w' k → OwnD p w k
theorem DFr.x {X : List Nat} {p : Nat} {w w' : World} (h : DFr p w w') : DFx X p w w' := ⟨h.os, h.tape, h.output, h.size, fun k hk hn _ => h.block k hk hn, h.stay⟩
theorem DFx.trans {X : List Nat} {p : Nat} {a b c : World} (h : DFx X p a b) (k : DFx X p b c) : DFx X p a c :=
  ⟨k.os.trans h.os, k.tape.trans h.tape, k.output.trans h.output, Nat.le_trans h.size k.size,
    fun i hi hn hx => (k.block i (Nat.lt_of_lt_of_le hi h.size) (fun ho => hn (h.stay i hi ho)) hx).trans (h.block i hi hn hx),
    fun i hi ho => h.stay i hi (k.stay i (Nat.lt_of_lt_of_le hi h.size) ho)⟩
theorem DiskIn.dfx {w w' : World} {B p bD bN n nD nN n' nD' nN' g : Nat} {pv pv' : Value} {d d' : ADisk} (h : DiskIn w B p bD bN pv d n nD nN) (h' : DiskIn w' B p bD bN pv' d' n' nD' nN') (hf : Fr (g :: dS p bD bN pv) w w') (hne : Near w.heap.size pv pv') : DFx [g] p w w' := by
  refine ⟨hf.os, hf.tape, hf.output, hf.size, fun k hk hn hx => hf.block k hk (fun hm => ?_), fun k hk ho => ?_⟩
  · rcases List.mem_cons.1 hm with e | hm
    · exact hx (by simp [e])
    · exact hn ((h.ownD k).2 hm)
  rw [h.ownD]
  have := (h'.ownD k).1 ho
  rcases List.mem_cons.1 this with e | this
  · simp [e]
  rcases List.mem_cons.1 this with e | this
  · simp [e]
  rcases List.mem_cons.1 this with e | this
  · simp [e]
  · simp at this
    rcases hne k this with e | e
    · simp [e]
    · omega
theorem DFx.dfr {X : List Nat} {p : Nat} {w w' : World} (h : DFx X p w w') (hx : ∀ k ∈ X, w.heap.size ≤ k) : DFr p w w' :=
  ⟨h.os, h.tape, h.output, h.size, fun k hk hn => h.block k hk hn (fun hm => by have := hx k hm; omega), h.stay⟩
theorem DiskIn.newD {w w' : World} {B p bD bN n nD nN : Nat} {pv : Value} {d : ADisk} (h : DiskIn w B p bD bN pv d n nD nN) (hf : Fr [] w w') : DFr p w w' :=
  h.dfr (h.new hf) hf (by simp) (Near.refl _ _)
def markNew : ByteArray := ⟨#[109, 97, 114, 107, 46, 110, 101, 119]⟩
def markNm : ByteArray := ⟨#[109, 97, 114, 107]⟩
theorem mark_ne : (markNew.toList == markNm.toList) = false ∧ markNew ≠ markNm := by
  refine ⟨by rw [ByteArray.toList_eq, ByteArray.toList_eq]; decide, fun e => ?_⟩
  have := congrArg (fun x : ByteArray => x.data.size) e
  exact absurd this (by decide)
def DskX (B p bD bN n : Nat) (X : List Nat) (r : ADisk × Nat) (w : World) (e : Ending) (w' : World) : Prop :=
  e = .returned (errN r.2) ∧ (∃ pv nD nN, DiskIn w' B p bD bN pv r.1 n nD nN) ∧ DFx X p w w'
set_option maxHeartbeats 1000000 in
theorem mark1_any (B p bD bN n nD nN bd bb g cap base : Nat) (pv : Value) (d : ADisk) (l : List Nat) (w : World) (h : DiskIn w B p bD bN pv d n nD nN) (hn : n < 1000000000) (hbd : w.heap[bd]? = some (.cells #[dskV p] 89)) (hbb : w.heap[bb]? = some (.cells #[.slice (some ⟨g, 0, none⟩) l.length cap] 95))
    (hr : w.ownsRow base 5 1 (.slice (some ⟨g, 0, none⟩) l.length cap) l.length (bs l)) (hl : l.length ≤ 4096) :
    Calls Tryz.prog 110 #[.pointer (some ⟨bd, 0, none⟩), .pointer (some ⟨bb, 0, none⟩)] w (DskX B p bD bN (n + 1) [g] (d.tell ⟨1, markNew, ByteArray.empty, str l⟩) w) := by
  have x0 := blk_cell hbd 0
  have y0 := blk_cell hbb 0
  simp at x0 y0
  have HI : Hid (DiskIn w B p bD bN pv d n nD nN) := h
  have HR : Hid (w.ownsRow base 5 1 (.slice (some ⟨g, 0, none⟩) l.length cap) l.length (bs l)) := hr
  have mw := Tryz.mWrite
  clear h hr hbd hbb
  go_enter Tryz.func110, Tryz.ntmps110
  go_wp2_with fail
  refine (write_any B p bD bN n nD nN g cap base pv d markNew l w HI.out hn (by decide) HR.out hl).mono ?_
  rintro e w1 ⟨rfl, ⟨pv1, nN1, hd1, hne1⟩, hf1⟩
  have H1 : Hid (DskX B p bD bN (n + 1) [g] (d.tell ⟨1, markNew, ByteArray.empty, str l⟩) w (.returned (errN (d.tell ⟨1, markNew, ByteArray.empty, str l⟩).2)) w1) := ⟨rfl, ⟨pv1, nD, nN1, hd1⟩, HI.out.dfx hd1 hf1 hne1⟩
  clear hd1 hne1 hf1
  go_wp2
  go_ret
  exact H1.out
set_option maxHeartbeats 1000000 in
theorem mark2_any (B p bD bN n nD nN bd : Nat) (pv : Value) (d : ADisk) (w : World) (h : DiskIn w B p bD bN pv d n nD nN) (hn : n < 1000000000) (hbd : w.heap[bd]? = some (.cells #[dskV p] 89)) :
    Calls Tryz.prog 111 #[.pointer (some ⟨bd, 0, none⟩)] w (DskPost B p bD bN (n + 1) (d.tell ⟨4, markNew, markNm, ByteArray.empty⟩) w) := by
  have x0 := blk_cell hbd 0
  simp at x0
  have HI : Hid (DiskIn w B p bD bN pv d n nD nN) := h
  have mw := Tryz.mRename
  clear h hbd
  go_enter Tryz.func111, Tryz.ntmps111
  go_wp2_with fail
  refine (rename_any B p bD bN n nD nN pv d markNew markNm w HI.out hn (by decide) (by decide) mark_ne).mono ?_
  rintro e w1 ⟨rfl, ⟨pv1, nN1, hd1, hne1⟩, hf1⟩
  have H1 : Hid (DskPost B p bD bN (n + 1) (d.tell ⟨4, markNew, markNm, ByteArray.empty⟩) w (.returned (errN (d.tell ⟨4, markNew, markNm, ByteArray.empty⟩).2)) w1) := ⟨rfl, ⟨pv1, nD, nN1, hd1⟩, HI.out.dfr hd1 hf1 (fun q hq _ => hq) hne1⟩
  clear hd1 hne1 hf1
  go_wp2
  go_ret
  exact H1.out
/-- steps, as far as each goes well -/
def ADisk.setMark (d : ADisk) (first : Nat) : ADisk × Nat :=
  let t1 := d.tell ⟨1, markNew, ByteArray.empty, str (recBytes first 0 [])⟩
  if t1.2 = 0 then
    let t2 := t1.1.sync
    if t2.2 = 0 then
      let t3 := t2.1.tell ⟨4, markNew, markNm, ByteArray.empty⟩
      if t3.2 = 0 then t3.1.sync else t3
    else t2
  else t1
set_option maxRecDepth 100000 in
set_option maxHeartbeats 4000000 in
theorem inTurnM (B p bD bN n nD nN bd bb g cap base gst first : Nat) (pv : Value) (d : ADisk) (w : World) (h : DiskIn w B p bD bN pv d n nD nN) (hn : n + 2 ≤ 1000000000)
    (hst : w.heap[gst]? = some (.cells #[.func (.func 110) #[] #[.pointer (some ⟨bd, 0, none⟩), .pointer (some ⟨bb, 0, none⟩)], .func (.method "Sync") #[dskV p] #[], .func (.func 111) #[] #[.pointer (some ⟨bd, 0, none⟩)], .func (.method "Sync") #[dskV p] #[]] 78))
    (hbd : w.heap[bd]? = some (.cells #[dskV p] 89)) (hbb : w.heap[bb]? = some (.cells #[.slice (some ⟨g, 0, none⟩) (recBytes first 0 []).length cap] 95))
    (hr : w.ownsRow base 5 1 (.slice (some ⟨g, 0, none⟩) (recBytes first 0 []).length cap) (recBytes first 0 []).length (bs (recBytes first 0 []))) (hl : (recBytes first 0 []).length ≤ 4096) :
    Calls Tryz.prog 61 #[.slice (some ⟨gst, 0, none⟩) 4 4] w (DskX B p bD bN (n + 2) [g] (d.setMark first) w) := by
  have z0 := blk_cell hst 0
  simp at z0
  have HI : Hid (DiskIn w B p bD bN pv d n nD nN) := h
  have msy := Tryz.mSync
  obtain ⟨cg, hcg⟩ := own_cells hr (g := g) rfl
  have hgst : gst ≠ g := fun e => by rw [e, hcg] at hst; cases hst
  have hgbd : bd ≠ g := fun e => by rw [e, hcg] at hbd; cases hbd
  go_enter Tryz.func61, Tryz.ntmps61
  go_wp2
  refine wp_loop_rounds 5 ?_
  rw [rounds_succ]
  go_wp2_with fail
  refine (mark1_any B p bD bN n nD nN bd bb g cap base pv d _ w HI.out (by omega) hbd hbb hr hl).mono ?_
  obtain ⟨t1, ht1⟩ : ∃ t1, t1 = d.tell ⟨1, markNew, ByteArray.empty, str (recBytes first 0 [])⟩ := ⟨_, rfl⟩
  have HT1 : Hid (d.tell ⟨1, markNew, ByteArray.empty, str (recBytes first 0 [])⟩ = t1) := ht1.symm
  rw [← ht1]
  clear ht1
  rintro e w1 ⟨rfl, ⟨pv1, nD1, nN1, hd1⟩, ho1⟩
  have hst1 := (ho1.block gst (Array.getElem?_eq_some_iff.1 hst).1 (HI.out.freeD hst (by decide) (by decide)) (by simp; exact hgst)).trans hst
  have hbd1 := (ho1.block bd (Array.getElem?_eq_some_iff.1 hbd).1 (HI.out.freeD hbd (by decide) (by decide)) (by simp; exact hgbd)).trans hbd
  have y1 := blk_cell hst1 1
  simp at y1
  have HST1 : Hid (w1.heap[gst]? = some (.cells #[.func (.func 110) #[] #[.pointer (some ⟨bd, 0, none⟩), .pointer (some ⟨bb, 0, none⟩)], .func (.method "Sync") #[dskV p] #[], .func (.func 111) #[] #[.pointer (some ⟨bd, 0, none⟩)], .func (.method "Sync") #[dskV p] #[]] 78)) := hst1
  have HBD1 : Hid (w1.heap[bd]? = some (.cells #[dskV p] 89)) := hbd1
  have H1 : Hid (DiskIn w1 B p bD bN pv1 t1.1 (n + 1) nD1 nN1) := hd1
  have HO1 : Hid (DFx [g] p w w1) := ho1
  clear h hst hbd hbb hr z0 hst1 hbd1 hd1 ho1 hcg
  by_cases hc1 : t1.2 = 0
  · rw [hc1, errN_ok]
    go_wp2
    rw [rounds_succ]
    go_wp2_with fail
    refine (sync_any B p bD bN (n + 1) nD1 nN1 pv1 t1.1 w1 H1.out).mono ?_
    obtain ⟨t2, ht2⟩ : ∃ t2, t2 = t1.1.sync := ⟨_, rfl⟩
    have HT2 : Hid (t1.1.sync = t2) := ht2.symm
    rw [← ht2]
    clear ht2
    rintro e w2 ⟨rfl, ⟨pv2, nD2, hd2, hne2⟩, hf2⟩
    have ho2 : DFr p w1 w2 := H1.out.dfr hd2 hf2 (fun q hq _ => by simp at hq; rcases hq with e | e <;> simp [e]) hne2
    have hst2 := (ho2.block gst (Array.getElem?_eq_some_iff.1 HST1.out).1 (H1.out.freeD HST1.out (by decide) (by decide))).trans HST1.out
    have hbd2 := (ho2.block bd (Array.getElem?_eq_some_iff.1 HBD1.out).1 (H1.out.freeD HBD1.out (by decide) (by decide))).trans HBD1.out
    have y2 := blk_cell hst2 2
    simp at y2
    have HST2 : Hid (w2.heap[gst]? = some (.cells #[.func (.func 110) #[] #[.pointer (some ⟨bd, 0, none⟩), .pointer (some ⟨bb, 0, none⟩)], .func (.method "Sync") #[dskV p] #[], .func (.func 111) #[] #[.pointer (some ⟨bd, 0, none⟩)], .func (.method "Sync") #[dskV p] #[]] 78)) := hst2
    have HBD2 : Hid (w2.heap[bd]? = some (.cells #[dskV p] 89)) := hbd2
    have H2 : Hid (DiskIn w2 B p bD bN pv2 t2.1 (n + 1) nD2 nN1) := hd2
    have HO2 : Hid (DFx [g] p w w2) := HO1.out.trans ho2.x
    clear hst2 hbd2 hd2 ho2 hf2 hne2 y1
    by_cases hc2 : t2.2 = 0
    · rw [hc2, errN_ok]
      go_wp2
      rw [rounds_succ]
      go_wp2_with fail
      refine (mark2_any B p bD bN (n + 1) nD2 nN1 bd pv2 t2.1 w2 H2.out (by omega) HBD2.out).mono ?_
      obtain ⟨t3, ht3⟩ : ∃ t3, t3 = t2.1.tell ⟨4, markNew, markNm, ByteArray.empty⟩ := ⟨_, rfl⟩
      have HT3 : Hid (t2.1.tell ⟨4, markNew, markNm, ByteArray.empty⟩ = t3) := ht3.symm
      rw [← ht3]
      clear ht3
      rintro e w3 ⟨rfl, ⟨pv3, nD3, nN3, hd3⟩, ho3⟩
      have hst3 := (ho3.block gst (Array.getElem?_eq_some_iff.1 HST2.out).1 (H2.out.freeD HST2.out (by decide) (by decide))).trans HST2.out
      have y3 := blk_cell hst3 3
      simp at y3
      have H3 : Hid (DiskIn w3 B p bD bN pv3 t3.1 (n + 2) nD3 nN3) := hd3
      have HO3 : Hid (DFx [g] p w w3) := HO2.out.trans ho3.x
      clear hst3 hd3 ho3 y2
      by_cases hc3 : t3.2 = 0
      · rw [hc3, errN_ok]
        go_wp2
        rw [rounds_succ]
        go_wp2_with fail
        refine (sync_any B p bD bN (n + 2) nD3 nN3 pv3 t3.1 w3 H3.out).mono ?_
        have HE : Hid (d.setMark first = t3.1.sync) := by show _ = _; unfold ADisk.setMark; simp only; rw [HT1.out, if_pos hc1, HT2.out, if_pos hc2, HT3.out, if_pos hc3]
        rintro e w4 ⟨rfl, ⟨pv4, nD4, hd4, hne4⟩, hf4⟩
        have HF : Hid (DskX B p bD bN (n + 2) [g] (d.setMark first) w (.returned (errN t3.1.sync.2)) w4) := by
          show DskX _ _ _ _ _ _ _ _ _ _
          rw [HE.out]
          exact ⟨rfl, ⟨pv4, nD4, nN3, hd4⟩, HO3.out.trans (H3.out.dfr hd4 hf4 (fun q hq _ => by simp at hq; rcases hq with e | e <;> simp [e]) hne4).x⟩
        clear hd4 hne4 hf4 y3
        by_cases hc4 : t3.1.sync.2 = 0
        · rw [hc4, errN_ok] at HF ⊢
          go_wp2
          rw [rounds_succ]
          go_wp2
          go_ret
          exact HF.out
        · rw [errN_no hc4] at HF ⊢
          go_wp2
          go_ret
          exact HF.out
      · have HE : Hid (d.setMark first = t3) := by show _ = _; unfold ADisk.setMark; simp only; rw [HT1.out, if_pos hc1, HT2.out, if_pos hc2, HT3.out, if_neg hc3]
        rw [errN_no hc3]
        go_wp2
        go_ret
        unfold DskX
        rw [HE.out]
        exact ⟨by rw [errN_no hc3]; rfl, ⟨pv3, nD3, nN3, H3.out⟩, HO3.out⟩
    · have HE : Hid (d.setMark first = t2) := by show _ = _; unfold ADisk.setMark; simp only; rw [HT1.out, if_pos hc1, HT2.out, if_neg hc2]
      rw [errN_no hc2]
      go_wp2
      go_ret
      unfold DskX
      rw [HE.out]
      exact ⟨by rw [errN_no hc2]; rfl, ⟨pv2, nD2, nN1, H2.out.mores (by omega) hn⟩, HO2.out⟩
  · have e : d.setMark first = t1 := by unfold ADisk.setMark; simp only; rw [HT1.out, if_neg hc1]
    have HE : Hid (d.setMark first = t1) := e
    clear e
    rw [errN_no hc1]
    go_wp2
    go_ret
    unfold DskX
    rw [HE.out]
    exact ⟨by rw [errN_no hc1]; rfl, ⟨pv1, nD1, nN1, H1.out.mores (by omega) hn⟩, HO1.out⟩
end Go.Proofs.YtbdhmkfdofkloaaGreatDoor
/- journal.setMark. -/
namespace Go.Proofs.YtbdhmkfdofkloaaGreatDoor
open Go.RowKit
open Sc
set_option maxRecDepth 100000 in
set_option maxHeartbeats 4000000 in
theorem setMark_any (B p bD bN n nD nN first : Nat) (pv : Value) (d : ADisk) (w : World) (h : DiskIn w B p bD bN pv d n nD nN) (hn : n + 2 ≤ 1000000000) (hx : first < 18446744073709551616) :
    Calls Tryz.prog 81 #[dskV p, .int .u64 (first : Int)] w (DskPost B p bD bN (n + 2) (d.setMark first) w) := by
  have HI : Hid (DiskIn w B p bD bN pv d n nD nN) := h
  clear h
  go_enter Tryz.func81, Tryz.ntmps81
  go_wp2_with fail
  refine (encodeR_own first 0 ⟨#[]⟩ _ (by decide) (by decide) hx).mono ?_
  rintro e w1 ⟨g, rfl, hg, hrow, hb1⟩
  rw [World.size_alloc] at hb1 hg hrow
  have hz : (⟨#[]⟩ : ByteArray).size = 0 := rfl
  have hbo : bytesOf ⟨#[]⟩ = [] := rfl
  rw [hz] at hrow ⊢
  rw [hbo] at hrow
  have hlen : (recBytes first 0 []).length = 11 + 0 + 4 := by rw [recBytes_len]; rfl
  have hf1 : Fr [] w w1 := ((Fr.refl [] w).alloc _).trans (Fr.of_below (by rw [World.size_alloc]; exact hb1) [])
  have hbd : w1.heap[w.heap.size]? = some (.cells #[dskV p] 89) := (hb1.block w.heap.size (by omega)).trans (heap_alloc_new w _)
  have hz1 : w.heap.size < w1.heap.size := (Array.getElem?_eq_some_iff.1 hbd).1
  have hgl := (own_lt hrow).2
  have HBD : Hid (w1.heap[w.heap.size]? = some (.cells #[dskV p] 89)) := hbd
  have HROW : Hid (w1.ownsRow (w.heap.size + 1 + 1) 5 1 (.slice (some ⟨g, 0, none⟩) (11 + 0 + 4) (15 + 0)) (11 + 0 + 4) (bs (recBytes first 0 []))) := hrow
  have HF1 : Hid (Fr [] w w1) := hf1
  have HLEN : Hid ((recBytes first 0 []).length = 11 + 0 + 4) := hlen
  have b0 := blk_cell hbd 0
  simp at b0
  have b0' : ∀ ob, (w1.alloc ob).cell? ⟨w.heap.size, 0, none⟩ = some (dskV p) := fun ob => (World.cell?_of_block (a := ⟨w.heap.size, 0, none⟩) (Below.heap_alloc w1 ob _ hz1)).trans b0
  have b0'' : ∀ ob oc, ((w1.alloc ob).alloc oc).cell? ⟨w.heap.size, 0, none⟩ = some (dskV p) := fun ob oc => (World.cell?_of_block (a := ⟨w.heap.size, 0, none⟩) (Below.heap_alloc (w1.alloc ob) oc w.heap.size (by simp; omega))).trans (b0' ob)
  clear hb1 hrow hf1 hbd hlen
  go_wp2
  have hin := fun (W : World) (hW : W = ((w1.alloc (.cells #[.slice (some ⟨g, 0, none⟩) 15 15] 95)).alloc (.cells #[.func (.func 110) #[] #[.pointer (some ⟨w.heap.size, 0, none⟩), .pointer (some ⟨w1.heap.size, 0, none⟩)], .func (.method "Sync") #[dskV p] #[], .func (.func 111) #[] #[.pointer (some ⟨w.heap.size, 0, none⟩)], .func (.method "Sync") #[dskV p] #[]] 78)).drew) => by
    have hfW : Fr [] w W := by rw [hW]; exact ((HF1.out.alloc _).alloc _).drew
    have hst : W.heap[w1.heap.size + 1]? = some (.cells #[.func (.func 110) #[] #[.pointer (some ⟨w.heap.size, 0, none⟩), .pointer (some ⟨w1.heap.size, 0, none⟩)], .func (.method "Sync") #[dskV p] #[], .func (.func 111) #[] #[.pointer (some ⟨w.heap.size, 0, none⟩)], .func (.method "Sync") #[dskV p] #[]] 78) := by
      rw [hW]
      have := heap_alloc_new (w1.alloc (.cells #[.slice (some ⟨g, 0, none⟩) 15 15] 95)) (.cells #[.func (.func 110) #[] #[.pointer (some ⟨w.heap.size, 0, none⟩), .pointer (some ⟨w1.heap.size, 0, none⟩)], .func (.method "Sync") #[dskV p] #[], .func (.func 111) #[] #[.pointer (some ⟨w.heap.size, 0, none⟩)], .func (.method "Sync") #[dskV p] #[]] 78)
      rw [World.size_alloc] at this; exact this
    have hbb : W.heap[w1.heap.size]? = some (.cells #[.slice (some ⟨g, 0, none⟩) 15 15] 95) := by
      rw [hW]
      exact (Below.heap_alloc _ _ _ (by simp)).trans (heap_alloc_new _ _)
    have hbd : W.heap[w.heap.size]? = some (.cells #[dskV p] 89) := by
      rw [hW]
      exact (Below.heap_alloc _ _ _ (by simp; omega)).trans ((Below.heap_alloc _ _ _ hz1).trans HBD.out)
    have hrW : W.ownsRow (w.heap.size + 1 + 1) 5 1 (.slice (some ⟨g, 0, none⟩) 15 15) 15 (bs (recBytes first 0 [])) := by rw [hW]; exact (HROW.out.alloc _).alloc _
    have h15 : (recBytes first 0 []).length = 15 := HLEN.out
    have := inTurnM B p bD bN n nD nN w.heap.size w1.heap.size g 15 (w.heap.size + 1 + 1) (w1.heap.size + 1) first pv d W (HI.out.new hfW) hn hst hbd (by rw [h15]; exact hbb) (by rw [h15]; exact hrW) (by rw [h15]; omega)
    exact And.intro hfW (And.intro hbd this)
  go_region_held3 (fun w' => w'.cell? ⟨w.heap.size, 0, none⟩ = some (dskV p))
    (simp [*])
    (first | (go_at_call 61; refine (hin _ rfl).2.2.mono ?_; rintro e w2 ⟨rfl, hd2, ho2⟩; have q0 := hin _ rfl; have s2 : w2.cell? ⟨w.heap.size, 0, none⟩ = some (dskV p) := (blk_cell ((ho2.block w.heap.size (Array.getElem?_eq_some_iff.1 q0.2.1).1 ((HI.out.new q0.1).freeD q0.2.1 (by decide) (by decide)) (by simp; omega)).trans q0.2.1) 0).trans (by simp); have HF : Hid (DFr p w w2) := ((HI.out.newD q0.1).x.trans ho2).dfr (by intro k hk; simp at hk; omega); have HD2 : Hid (∃ pv nD nN, DiskIn w2 B p bD bN pv (d.setMark first).1 (n + 2) nD nN) := hd2; clear q0 hd2 ho2))
  all_goals clear hin
  all_goals go_wp2
  all_goals go_ret
  all_goals exact ⟨rfl, HD2.out, HF.out⟩
end Go.Proofs.YtbdhmkfdofkloaaGreatDoor
/- write over Append's steps. -/
namespace Go.Proofs.YtbdhmkfdofkloaaGreatDoor
open Go.RowKit
open Sc

/-- write, when the steps come to r -/
def ALog.wr (l : ALog) (d : ADisk) (r : ALog × ADisk × Nat) : ALog × ADisk × Nat :=
  if l.failed = 0 then ({ r.1 with failed := r.2.2 }, r.2.1, r.2.2) else (l, d, l.failed)
theorem Tryz.eqNil (p : Nat) (w : World) : (binOp .eql 89 (dskV p) .nilIface).run Tryz.prog w = .ok (.bool false) w := by kernel_rfl
theorem LogIn.fail {w w' : World} {B lp p bD bN n nD nN c : Nat} {pv sv rv : Value} {l : ALog} {d : ADisk} (h : LogIn w B lp p bD bN pv sv rv l d n nD nN) (hw : w' = w.setCell ⟨lp, 6, none⟩ (errN c)) : LogIn w' B lp p bD bN pv sv rv { l with failed := c } d n nD nN ∧ Fr [lp] w w' := by
  subst hw
  have hf : Fr [lp] w (w.setCell ⟨lp, 6, none⟩ (errN c)) := Fr.set1 (by simp) _ _
  refine ⟨h.own1 hf ?_ h.segsN h.recsN h.fillN h.nextN h.durN rfl rfl, hf⟩
  have := blk_set h.blk 6 (errN c); simpa using this
set_option maxRecDepth 100000 in
set_option maxHeartbeats 4000000 in
theorem writeA (B lp p bD bN n nD nN bl bb g cap base gst : Nat) (pv sv rv : Value) (l : ALog) (d : ADisk) (by_ : List Nat) (w : World) (h : LogIn w B lp p bD bN pv sv rv l d n nD nN) (hn : n + 1 < 1000000000) (hB : 2 ≤ B) (hsg : l.filled < 600 → l.segs ≠ [])
    (hst : w.heap[gst]? = some (.cells #[.func (.func 48) #[.pointer (some ⟨lp, 0, none⟩)] #[], .func (.func 49) #[] #[.pointer (some ⟨bl, 0, none⟩), .pointer (some ⟨bb, 0, none⟩)]] 78))
    (hbl : w.heap[bl]? = some (.cells #[.pointer (some ⟨lp, 0, none⟩)] 58)) (hbb : w.heap[bb]? = some (.cells #[.slice (some ⟨g, 0, none⟩) by_.length cap] 95))
    (hr : w.ownsRow base 5 1 (.slice (some ⟨g, 0, none⟩) by_.length cap) by_.length (bs by_)) (hm2 : by_.length ≤ 4096) (hpow : Pows w) :
    Calls Tryz.prog 47 #[.pointer (some ⟨lp, 0, none⟩), .slice (some ⟨gst, 0, none⟩) 2 2] w (PutL B lp p bD bN (n + 2) [g] (l.wr d (l.put d by_)) w) := by
  have c0 := blk_cell h.blk 0
  have c6 := blk_cell h.blk 6
  simp at c0 c6
  have HI : Hid (LogIn w B lp p bD bN pv sv rv l d n nD nN) := h
  have hnil := Tryz.eqNil p
  by_cases hf : l.failed = 0
  · rw [hf, errN_ok] at c6
    have e : l.wr d (l.put d by_) = ({ (l.put d by_).1 with failed := (l.put d by_).2.2 }, (l.put d by_).2.1, (l.put d by_).2.2) := by unfold ALog.wr; rw [if_pos hf]
    rw [e]
    clear e
    go_enter Tryz.func47, Tryz.ntmps47
    go_wp2_with fail
    refine (inTurnA B lp p bD bN n nD nN bl bb g cap base gst pv sv rv l d by_ w HI.out hn hB hsg hst hbl hbb hr hm2 hpow).mono ?_
    rintro e w1 ⟨rfl, ⟨pv1, sv1, rv1, nD1, nN1, hl1⟩, ho1⟩
    have H1 : Hid (LogIn w1 B lp p bD bN pv1 sv1 rv1 (l.put d by_).1 (l.put d by_).2.1 (n + 2) nD1 nN1) := hl1
    have HO : Hid (OFx [g] lp p w w1) := ho1
    have k6 := blk_cell hl1.blk 6
    have f6 := blk_free hl1.blk 6
    simp at k6
    clear hl1 ho1 hst hbl hbb hr h
    by_cases hc : (l.put d by_).2.2 = 0
    · rw [hc, errN_ok]
      go_wp2
      go_ret
      obtain ⟨hl2, hf2⟩ := H1.out.fail (c := 0) rfl
      unfold PutL
      simp only
      rw [hc]
      exact ⟨rfl, ⟨pv1, sv1, rv1, nD1, nN1, hl2⟩, HO.out.trans (H1.out.ofx hl2 hf2 (by intro k hk _; simp at hk; simp [hk]) (Near.refl _ _) (Near.refl _ _) (Near.refl _ _))⟩
    · have he := errN_no hc
      obtain ⟨hl2, hf2⟩ := H1.out.fail (c := (l.put d by_).2.2) rfl
      rw [he] at hl2 hf2 ⊢
      have H2 : Hid (LogIn (w1.setCell ⟨lp, 6, none⟩ (.iface 32 (.int .i64 ((l.put d by_).2.2 : Int)))) B lp p bD bN pv1 sv1 rv1 { (l.put d by_).1 with failed := (l.put d by_).2.2 } (l.put d by_).2.1 (n + 2) nD1 nN1) := hl2
      clear hl2
      go_wp2
      go_ret
      exact ⟨by simp only; rw [he]; rfl, ⟨pv1, sv1, rv1, nD1, nN1, H2.out⟩, HO.out.trans (H1.out.ofx H2.out hf2 (by intro k hk _; simp at hk; simp [hk]) (Near.refl _ _) (Near.refl _ _) (Near.refl _ _))⟩
  · rw [errN_no hf] at c6
    have e : l.wr d (l.put d by_) = (l, d, l.failed) := by unfold ALog.wr; rw [if_neg hf]
    rw [e]
    go_enter Tryz.func47, Tryz.ntmps47
    go_wp2
    go_ret
    exact ⟨by simp only; rw [errN_no hf]; rfl, ⟨pv, sv, rv, nD, nN, (HI.out.more (by omega)).more (by omega)⟩, (OFr.refl _ _ _).x⟩
end Go.Proofs.YtbdhmkfdofkloaaGreatDoor
/- (*Log).Append. -/
namespace Go.Proofs.YtbdhmkfdofkloaaGreatDoor
open Go.RowKit
open Sc

theorem foldl_push (l : List UInt8) (a : ByteArray) : (l.foldl (fun r n => r.push n) a).data.toList = a.data.toList ++ l := by
  induction l generalizing a with
  | nil => simp
  | cons x l ih => rw [List.foldl_cons, ih]; simp [ByteArray.push]
theorem strOf_bytes (s : ByteArray) : str (bytesOf s) = s := by
  have h : str (bytesOf s) = s.data.toList.foldl (fun r n => r.push n) ByteArray.empty := by
    unfold str bytesOf
    rw [List.map_map, List.foldl_map]
    congr 1
    funext r n
    simp
  have h2 := foldl_push s.data.toList ByteArray.empty
  rw [← h] at h2
  have h3 : (str (bytesOf s)).data = s.data := by
    apply Array.toList_inj.1
    rw [h2]; simp
  cases hs : str (bytesOf s)
  cases s
  rw [hs] at h3
  simp at h3
  rw [h3]
def ALog.append (l : ALog) (d : ADisk) (kind : Nat) (s : ByteArray) : ALog × ADisk × Nat × Nat :=
  if 255 < s.size then (l, d, 0, 1)
  else if (l.wr d (l.put d (recBytes l.next kind (bytesOf s)))).2.2 = 0 then
    ({ (l.wr d (l.put d (recBytes l.next kind (bytesOf s)))).1 with filled := (l.wr d (l.put d (recBytes l.next kind (bytesOf s)))).1.filled + (15 + s.size), recs := (l.wr d (l.put d (recBytes l.next kind (bytesOf s)))).1.recs ++ [⟨(l.wr d (l.put d (recBytes l.next kind (bytesOf s)))).1.next, kind, bytesOf s⟩], next := (l.wr d (l.put d (recBytes l.next kind (bytesOf s)))).1.next + 1 },
      (l.wr d (l.put d (recBytes l.next kind (bytesOf s)))).2.1, (l.wr d (l.put d (recBytes l.next kind (bytesOf s)))).1.next, 0)
  else ((l.wr d (l.put d (recBytes l.next kind (bytesOf s)))).1, (l.wr d (l.put d (recBytes l.next kind (bytesOf s)))).2.1, 0, (l.wr d (l.put d (recBytes l.next kind (bytesOf s)))).2.2)
theorem put_filled {l : ALog} {d : ADisk} {by_ : List Nat} (h : (l.put d by_).2.2 = 0) : (l.put d by_).1.filled < 600 := by
  unfold ALog.put at *
  by_cases hr : (l.room d).2.2 = 0
  · rw [if_pos hr]
    show (l.room d).1.filled < 600
    unfold ALog.room at *
    by_cases hf : l.filled < 600
    · rw [if_pos hf]; exact hf
    · rw [if_neg hf] at hr ⊢
      by_cases hs : (l.sync d).2.2 = 0
      · rw [if_pos hs]; show 0 < 600; omega
      · rw [if_neg hs] at hr; exact absurd hr hs
  · rw [if_neg hr] at h; exact absurd h hr
theorem wr_filled {l : ALog} {d : ADisk} {by_ : List Nat} (h : (l.wr d (l.put d by_)).2.2 = 0) : (l.wr d (l.put d by_)).1.filled < 600 := by
  unfold ALog.wr at *
  by_cases hf : l.failed = 0
  · rw [if_pos hf] at h ⊢; exact put_filled h
  · rw [if_neg hf] at h; exact absurd h hf
def AppPost (B lp p bD bN n : Nat) (r : ALog × ADisk × Nat × Nat) (w : World) (e : Ending) (w' : World) : Prop :=
  e = .returned (.tuple #[.int .u64 (r.2.2.1 : Int), errN r.2.2.2]) ∧ (∃ pv sv rv nD nN, LogIn w' B lp p bD bN pv sv rv r.1 r.2.1 n nD nN) ∧ OFr lp p w w'
theorem LogIn.new {w w' : World} {B lp p bD bN n nD nN : Nat} {pv sv rv : Value} {l : ALog} {d : ADisk} (h : LogIn w B lp p bD bN pv sv rv l d n nD nN) (hf : Fr [] w w') : LogIn w' B lp p bD bN pv sv rv l d n nD nN :=
  h.turned (h.disk.new hf) hf (by simp) (Nat.le_refl _)
theorem LogIn.newO {w w' : World} {B lp p bD bN n nD nN : Nat} {pv sv rv : Value} {l : ALog} {d : ADisk} (h : LogIn w B lp p bD bN pv sv rv l d n nD nN) (hf : Fr [] w w') : OFr lp p w w' :=
  h.ofr (h.new hf) hf (by simp) (.inl rfl) (Near.refl _ _) (Near.refl _ _) (Near.refl _ _)
set_option maxRecDepth 100000 in
set_option maxHeartbeats 4000000 in
theorem lappend_no (B lp p bD bN n nD nN kind : Nat) (pv sv rv : Value) (l : ALog) (d : ADisk) (s : ByteArray) (w : World) (h : LogIn w B lp p bD bN pv sv rv l d n nD nN) (hs : 255 < s.size) (hn : n + 1 < 1000000000) :
    Calls Tryz.prog 29 #[.pointer (some ⟨lp, 0, none⟩), .int .u8 (kind : Int), .string s] w (AppPost B lp p bD bN (n + 2) (l.append d kind s) w) := by
  have e : l.append d kind s = (l, d, 0, 1) := by unfold ALog.append; rw [if_pos hs]
  rw [e]
  have hlp := (Array.getElem?_eq_some_iff.1 h.blk).1
  have c4 := blk_cell h.blk 4
  simp at c4
  have c4' : ∀ ob, (w.alloc ob).cell? ⟨lp, 4, none⟩ = some (.int .u64 (l.next : Int)) := fun ob => (World.cell?_of_block (a := ⟨lp, 4, none⟩) (Below.heap_alloc w ob lp hlp)).trans c4
  have HI : Hid (LogIn w B lp p bD bN pv sv rv l d n nD nN) := h
  clear h e
  go_enter Tryz.func29, Tryz.ntmps29
  go_wp2_with fail
  refine (encodeR_no (l.next : Int) (kind : Int) s _ hs).mono ?_
  rintro e w1 ⟨rfl, hb1⟩
  have hf1 : Fr [] w w1 := ((Fr.refl [] w).alloc _).trans (Fr.of_below hb1 [])
  clear hb1
  go_wp2
  go_ret2
  have hf2 : Fr [] w (w1.alloc (.cells #[.slice none 0 0] 95)) := hf1.alloc _
  exact ⟨rfl, ⟨pv, sv, rv, nD, nN, ((HI.out.new hf2).more (by omega)).more (by omega)⟩, HI.out.newO hf2⟩
end Go.Proofs.YtbdhmkfdofkloaaGreatDoor
/- (*Log).segmentsBelow. -/
namespace Go.Proofs.YtbdhmkfdofkloaaGreatDoor
open Go.RowKit
open Sc

/-- how many segments lie below low whole, from k on -/
def belowFrom (segs : List Nat) (low : Nat) : Nat → Nat → Nat
  | 0, k => k
  | f + 1, k => match segs[k + 1]? with
    | none => k
    | some s => if s ≤ low then belowFrom segs low f (k + 1) else k
def segsBelow (segs : List Nat) (low : Nat) : Nat := belowFrom segs low segs.length 0
theorem below_none {segs : List Nat} {low f k : Nat} (h : segs.length ≤ k + 1) : belowFrom segs low f k = k := by
  cases f with
  | zero => rfl
  | succ f => unfold belowFrom; rw [List.getElem?_eq_none h]
theorem below_step {segs : List Nat} {low f k s : Nat} (h : segs[k + 1]? = some s) (hs : s ≤ low) : belowFrom segs low (f + 1) k = belowFrom segs low f (k + 1) := by
  rw [belowFrom, h]; simp [hs]
theorem below_stop {segs : List Nat} {low f k s : Nat} (h : segs[k + 1]? = some s) (hs : ¬ s ≤ low) : belowFrom segs low f k = k := by
  cases f with
  | zero => rfl
  | succ f => rw [belowFrom, h]; simp [hs]
set_option maxRecDepth 100000 in
set_option maxHeartbeats 4000000 in
theorem segsBelow_some (B lp p bD bN n nD nN low gs cs : Nat) (pv rv : Value) (l : ALog) (d : ADisk) (w : World) (h : LogIn w B lp p bD bN pv (.slice (some ⟨gs, 0, none⟩) l.segs.length cs) rv l d n nD nN) :
    Calls Tryz.prog 79 #[.pointer (some ⟨lp, 0, none⟩), .int .u64 (low : Int)] w fun e w' => e = .returned (.int .i64 (segsBelow l.segs low : Nat)) ∧ ∃ q, w' = w.drewN q := by
  have c1 := blk_cell h.blk 1
  simp at c1
  have hsN := h.segsN.1
  have hn := h.disk.hn
  have HI : Hid (LogIn w B lp p bD bN pv (.slice (some ⟨gs, 0, none⟩) l.segs.length cs) rv l d n nD nN) := h
  obtain ⟨S, hS⟩ : ∃ S, S = l.segs.length := ⟨_, rfl⟩
  rw [← hS] at c1 hsN
  have HS : Hid (l.segs.length = S) := hS.symm
  clear h hS
  go_enter Tryz.func79, Tryz.ntmps79
  go_wp2
  go_loopw [5] (fun i wr => ∃ k f : Nat, (k ≤ S) ∧ i = .int .i64 k ∧ k + f = S ∧ segsBelow l.segs low = belowFrom l.segs low f k ∧ ∃ q, wr = w.drewN q) (fun i _ => S - (intOf i).toNat)
  case atStart => exact ⟨0, S, Nat.zero_le _, rfl, by omega, by unfold segsBelow; rw [HS.out], 0, rfl⟩
  case round =>
    obtain ⟨k, f, hk, rfl, hkf, heq, q, hq⟩ := hrel
    have HQ : Hid (wr = w.drewN q) := hq
    have e1 : wr.cell? ⟨lp, 1, none⟩ = some (.slice (some ⟨gs, 0, none⟩) S cs) := by rw [hq, World.cell?_drewN]; exact c1
    have HEQ : Hid (segsBelow l.segs low = belowFrom l.segs low f k) := heq
    clear hq heq
    have j0 : wrap64 ((k : Int) + 1) = (k : Int) + 1 := by unfold wrap64; omega
    have j1 : IntKind.i64.wrap ((k : Int) + 1) = (k : Int) + 1 := by rw [IntKind.wrap_i64]; omega
    have j2 : (0 : Int) ≤ (k : Int) + 1 := by omega
    by_cases hlt : k + 1 < S
    · obtain ⟨s, hs⟩ : ∃ s, l.segs[k + 1]? = some s := ⟨_, List.getElem?_eq_getElem (by rw [HS.out]; exact hlt)⟩
      have s0 := segs_cell HI.out.segs (k + 1) s hs
      have s1 : wr.cell? ⟨gs, k + 1, none⟩ = some (.int .u64 (s : Int)) := by rw [HQ.out, World.cell?_drewN]; exact s0
      have j3 : (k : Int) + 1 < (S : Int) := by omega
      have j4 : ((k : Int) + 1).toNat = k + 1 := by omega
      have HSS : Hid (l.segs[k + 1]? = some s) := hs
      clear hs s0
      by_cases hle : s ≤ low
      · have j5 : (s : Int) ≤ (low : Int) := by omega
        obtain ⟨f', rfl⟩ : ∃ f', f = f' + 1 := ⟨f - 1, by omega⟩
        go_wp2
        refine ⟨⟨k + 1, f', by omega, rfl, by omega, ?_, q, HQ.out⟩, by simp [intOf]; omega⟩
        rw [HEQ.out, below_step HSS.out hle]
      · have j5 : ¬ (s : Int) ≤ (low : Int) := by omega
        go_wp2
        go_ret
        exact ⟨by rw [HEQ.out, below_stop HSS.out hle]; rfl, q, HQ.out⟩
    · have j3 : ¬ (k : Int) + 1 < (S : Int) := by omega
      go_wp2
      go_ret
      exact ⟨by rw [HEQ.out, below_none (by rw [HS.out]; omega)]; rfl, q, HQ.out⟩
end Go.Proofs.YtbdhmkfdofkloaaGreatDoor
