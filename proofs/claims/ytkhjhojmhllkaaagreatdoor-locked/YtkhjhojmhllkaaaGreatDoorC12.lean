import Derived.Test.YtkhjhojmhllkaaaGreatDoorC11
/- journal.namesOf; removeAll of nothing. -/
namespace Go.Proofs.YtkhjhojmhllkaaaGreatDoor
open Go.RowKit
open Sc

theorem Tryz.infoStr : (Tryz.prog.info? 9).map (fun i => (i.zero, i.size, i.bytes)) = some (some (.string ByteArray.empty), 1, 16) := by kernel_rfl
theorem namesV_snoc (l : List ByteArray) (x : ByteArray) : namesV (l ++ [x]) = namesV l ++ [.string x] := by simp [namesV]
theorem wpList_name {w : World} {ops : Array Oper} {rest : List Oper} {o : Oper} {a : Act} {Q : Exit → Act → World → Prop} (hgd : o.guard = none) (s x : Operand)
    (ho : o.op = .call { callee := .builtin .append, args := #[s, x], argTypes := #[188, 188] })
    (base : Nat) (v : Value) (n : Nat) (l : List ByteArray) (r : ByteArray) (b : Nat) (hs : a.eval s = v) (hown : w.ownsRow base 9 1 v n (namesV l)) (hx : a.eval x = .slice (some ⟨b, 0, none⟩) 1 1)
    (hb : w.cell? ⟨b, 0, none⟩ = some (.string r)) (hn : n ≤ 1073741824) (hbase : base ≤ w.heap.size)
    (h : ∀ v' w', w'.ownsRow base 9 1 v' (n + 1) (namesV (l ++ [r])) → w.grownBy w' v.ownBlock → wpList Tryz.prog ops Q rest (a.put o.dst v') w') : wpList Tryz.prog ops Q (o :: rest) a w := by
  obtain ⟨i0, hi, hz0, hz1, hz2⟩ := info_parts Tryz.infoStr
  refine wpList_append_own _ hgd s x 188 ho base 9 i0 _ 1 16 Tryz.underlying188 hi hz0 hz1 hz2 rfl (by decide) v n (namesV l) hs hown ⟨b, 0, none⟩ 1 1 [.string r] hx rfl ?_ ?_ (by unfold maxLen; omega) (by omega) hbase ?_
  · intro jj u hjj
    match jj, hjj with
    | 0, hjj => simp at hjj; subst hjj; simpa [Addr.add] using hb
  · intro u hu; simp at hu; subst hu; rfl
  · intro v' w' ho' hg' _
    refine h v' w' ?_ hg'
    rw [namesV_snoc]; exact ho'
set_option maxRecDepth 100000 in
set_option maxHeartbeats 4000000 in
theorem namesOf_some (gs off m cs : Nat) (l : List Nat) (w : World) (hl : l.length = m) (hm : m ≤ 67108864) (hc : ∀ (k x : Nat), l[k]? = some x → w.cell? ⟨gs, off + k, none⟩ = some (.int .u64 (x : Int)) ∧ x < 18446744073709551616) (hgs : gs < w.heap.size) (hpow : Pows w) (hB : 1 < w.heap.size) :
    Calls Tryz.prog 150 #[.slice (some ⟨gs, off, none⟩) m cs] w fun e w' => ∃ v, e = .returned v ∧ w'.ownsRow w.heap.size 9 1 v m (namesV (l.map segName)) ∧ Below w.heap.size w w' := by
  have HL : Hid (l.length = m) := hl
  have HC : Hid (∀ (k x : Nat), l[k]? = some x → w.cell? ⟨gs, off + k, none⟩ = some (.int .u64 (x : Int)) ∧ x < 18446744073709551616) := hc
  have HP : Hid (Pows w) := hpow
  clear hl hc hpow
  go_enter Tryz.func150, Tryz.ntmps150
  go_wp2
  go_loopw [3, 8] (fun v i wr => ∃ k : Nat, k ≤ m ∧ i = .int .i64 k ∧ wr.ownsRow w.heap.size 9 1 v k (namesV ((l.take k).map segName)) ∧ Below w.heap.size w wr) (fun _ i _ => m - (intOf i).toNat)
  case atStart => exact ⟨0, Nat.zero_le _, rfl, World.ownsRow_nil _ _ _ _, Below.refl _ _⟩
  case round =>
    obtain ⟨k, hk, rfl, hown, hb⟩ := hrel
    by_cases hlt : k < m
    · obtain ⟨x, hx⟩ : ∃ x, l[k]? = some x := ⟨_, List.getElem?_eq_getElem (by rw [HL.out]; exact hlt)⟩
      obtain ⟨c1, c2⟩ := HC.out k x hx
      have c3 := (hb.cell (p := ⟨gs, off + k, none⟩) hgs).trans c1
      have HX : Hid (l[k]? = some x) := hx
      have HO : Hid (wr.ownsRow w.heap.size 9 1 u3 k (namesV ((l.take k).map segName))) := hown
      have HB : Hid (Below w.heap.size w wr) := hb
      have hpr : Pows wr := HP.out.of_block (hb.block 1 hB)
      have i0 : (0 : Int) ≤ (k : Int) := by omega
      have i1 : (k : Int) < (m : Int) := by omega
      have hzr := hb.size
      clear hx c1 hown hb
      go_wp2_with fail
      refine (segmentName_any x wr c2 hpr).mono ?_
      rintro e w1 ⟨rfl, hb1⟩
      have hz1 := hb1.size
      have ho1 : w1.ownsRow w.heap.size 9 1 u3 k (namesV ((l.take k).map segName)) := ownsRow_fr HO.out (Fr.of_below hb1 []) (by simp)
      have HB1 : Hid (Below w.heap.size w w1) := HB.out.trans (hb1.mono hzr)
      have HO1 : Hid (w1.ownsRow w.heap.size 9 1 u3 k (namesV ((l.take k).map segName))) := ho1
      clear hb1 ho1
      go_wp2_with (at_builtin; refine wpList_name rfl _ _ rfl w.heap.size u3 k ((l.take k).map segName) (segName x) w1.heap.size rfl (HO1.out.alloc _) rfl (by simp) (by omega) (by simp; omega) ?_; intro v4 w4 ho4 hg4)
      have hB4 : Below w.heap.size w w4 := (HB1.out.alloc (by omega) _).grown hg4 (by simp; omega) (fun q hq => (HO1.out.lt q hq).1)
      clear hg4
      go_roundw
      case rel =>
        refine ⟨k + 1, by omega, by go_num, ?_, hB4⟩
        rw [List.take_add_one, HX.out]
        simpa using ho4
      case measure => simp [intOf]; omega
    · obtain rfl : k = m := by omega
      have ht : l.take k = l := List.take_of_length_le (by rw [HL.out]; exact Nat.le_refl _)
      rw [ht] at hown
      go_wp2
      go_ret
      exact ⟨u3, rfl, hown, hb⟩
set_option maxHeartbeats 1000000 in
theorem namesOf_nil (w : World) : Calls Tryz.prog 150 #[.slice none 0 0] w fun e w' => e = .returned (.slice none 0 0) ∧ w' = w := by
  go_enter Tryz.func150, Tryz.ntmps150
  go_wp2
  refine wp_loop_rounds 1 ?_
  rw [rounds_succ]
  go_wp2
  go_ret
  exact ⟨rfl, rfl⟩
set_option maxRecDepth 100000 in
set_option maxHeartbeats 1000000 in
theorem removeAll_nil (B p bD bN n nD nN : Nat) (pv : Value) (d : ADisk) (w : World) (h : DiskIn w B p bD bN pv d n nD nN) :
    Calls Tryz.prog 128 #[dskV p, .slice none 0 0] w (DskPost B p bD bN n (d.removeAll []) w) := by
  have HI : Hid (DiskIn w B p bD bN pv d n nD nN) := h
  have m2 := Tryz.mSync
  clear h
  go_enter Tryz.func128, Tryz.ntmps128
  go_wp2
  refine wp_loop_rounds 1 ?_
  rw [rounds_succ]
  go_wp2_with fail
  refine (sync_any B p bD bN n nD nN pv d w HI.out).mono ?_
  rintro e w1 ⟨rfl, ⟨pv1, nD1, hd1, hne1⟩, hf1⟩
  have H1 : Hid (DskPost B p bD bN n (d.removeAll []) w (.returned (errN d.sync.2)) w1) := ⟨rfl, ⟨pv1, nD1, nN, hd1⟩, HI.out.dfr hd1 hf1 (fun q hq _ => by simp at hq; rcases hq with e | e <;> simp [e]) hne1⟩
  clear hd1 hne1 hf1
  go_wp2
  go_ret
  exact H1.out
end Go.Proofs.YtkhjhojmhllkaaaGreatDoor
/- journal.setMark, over a disk. -/
namespace Go.Proofs.YtkhjhojmhllkaaaGreatDoor
open Go.RowKit
open Sc

/-- as DFr, and the blocks of X may have turned -/
structure DFx (X : List Nat) (p : Nat) (w w' : World) : Prop where
  os : w'.os = w.os
  tape : w'.tape = w.tape
  output : w'.output = w.output
  size : w.heap.size ≤ w'.heap.size
  block : ∀ k, k < w.heap.size → ¬ OwnD p w k → k ∉ X → w'.heap[k]? = w.heap[k]?
  stay : ∀ k, k < w.heap.size → OwnD p w' k → OwnD p w k
theorem DFr.x {X : List Nat} {p : Nat} {w w' : World} (h : DFr p w w') : DFx X p w w' := ⟨h.os, h.tape, h.output, h.size, fun k hk hn _ => h.block k hk hn, h.stay⟩
theorem DFx.trans {X : List Nat} {p : Nat} {a b c : World} (h : DFx X p a b) (k : DFx X p b c) : DFx X p a c :=
  ⟨k.os.trans h.os, k.tape.trans h.tape, k.output.trans h.output, Nat.le_trans h.size k.size,
    fun i hi hn hx => (k.block i (Nat.lt_of_lt_of_le hi h.size) (fun ho => hn (h.stay i hi ho)) hx).trans (h.block i hi hn hx),
    fun i hi ho => h.stay i hi (k.stay i (Nat.lt_of_lt_of_le hi h.size) ho)⟩
theorem DiskIn.dfx {w w' : World} {B p bD bN n nD nN n' nD' nN' g : Nat} {pv pv' : Value} {d d' : ADisk} (h : DiskIn w B p bD bN pv d n nD nN) (h' : DiskIn w' B p bD bN pv' d' n' nD' nN') (hf : Fr (g :: dS p bD bN pv) w w') (hne : Near w.heap.size pv pv') : DFx [g] p w w' := by
  refine ⟨hf.os, hf.tape, hf.output, hf.size, fun k hk hn hx => hf.block k hk (fun hm => ?_), fun k hk ho => ?_⟩
  · rcases List.mem_cons.1 hm with e | hm
    · exact hx (by simp [e])
    · exact hn ((h.ownD k).2 hm)
  rw [h.ownD]
  have := (h'.ownD k).1 ho
  rcases List.mem_cons.1 this with e | this
  · simp [e]
  rcases List.mem_cons.1 this with e | this
  · simp [e]
  rcases List.mem_cons.1 this with e | this
  · simp [e]
  · simp at this
    rcases hne k this with e | e
    · simp [e]
    · omega
theorem DFx.dfr {X : List Nat} {p : Nat} {w w' : World} (h : DFx X p w w') (hx : ∀ k ∈ X, w.heap.size ≤ k) : DFr p w w' :=
  ⟨h.os, h.tape, h.output, h.size, fun k hk hn => h.block k hk hn (fun hm => by have := hx k hm; omega), h.stay⟩
theorem DiskIn.newD {w w' : World} {B p bD bN n nD nN : Nat} {pv : Value} {d : ADisk} (h : DiskIn w B p bD bN pv d n nD nN) (hf : Fr [] w w') : DFr p w w' :=
  h.dfr (h.new hf) hf (by simp) (Near.refl _ _)
def markNew : ByteArray := ⟨#[109, 97, 114, 107, 46, 110, 101, 119]⟩
def markNm : ByteArray := ⟨#[109, 97, 114, 107]⟩
theorem mark_ne : (markNew.toList == markNm.toList) = false ∧ markNew ≠ markNm := by
  refine ⟨by rw [ByteArray.toList_eq, ByteArray.toList_eq]; decide, fun e => ?_⟩
  have := congrArg (fun x : ByteArray => x.data.size) e
  exact absurd this (by decide)
def DskX (B p bD bN n : Nat) (X : List Nat) (r : ADisk × Nat) (w : World) (e : Ending) (w' : World) : Prop :=
  e = .returned (errN r.2) ∧ (∃ pv nD nN, DiskIn w' B p bD bN pv r.1 n nD nN) ∧ DFx X p w w'
set_option maxHeartbeats 1000000 in
theorem mark1_any (B p bD bN n nD nN bd bb g cap base : Nat) (pv : Value) (d : ADisk) (l : List Nat) (w : World) (h : DiskIn w B p bD bN pv d n nD nN) (hn : n < 67108864) (hbd : w.heap[bd]? = some (.cells #[dskV p] 133)) (hbb : w.heap[bb]? = some (.cells #[.slice (some ⟨g, 0, none⟩) l.length cap] 206))
    (hr : w.ownsRow base 5 1 (.slice (some ⟨g, 0, none⟩) l.length cap) l.length (bs l)) (hl : l.length ≤ 4096) :
    Calls Tryz.prog 195 #[.pointer (some ⟨bd, 0, none⟩), .pointer (some ⟨bb, 0, none⟩)] w (DskX B p bD bN (n + 1) [g] (d.tell ⟨1, markNew, ByteArray.empty, str l⟩) w) := by
  have x0 := blk_cell hbd 0
  have y0 := blk_cell hbb 0
  simp at x0 y0
  have HI : Hid (DiskIn w B p bD bN pv d n nD nN) := h
  have HR : Hid (w.ownsRow base 5 1 (.slice (some ⟨g, 0, none⟩) l.length cap) l.length (bs l)) := hr
  have mw := Tryz.mWrite
  clear h hr hbd hbb
  go_enter Tryz.func195, Tryz.ntmps195
  go_wp2_with fail
  refine (write_any B p bD bN n nD nN g cap base pv d markNew l w HI.out hn (by decide) HR.out hl).mono ?_
  rintro e w1 ⟨rfl, ⟨pv1, nN1, hd1, hne1⟩, hf1⟩
  have H1 : Hid (DskX B p bD bN (n + 1) [g] (d.tell ⟨1, markNew, ByteArray.empty, str l⟩) w (.returned (errN (d.tell ⟨1, markNew, ByteArray.empty, str l⟩).2)) w1) := ⟨rfl, ⟨pv1, nD, nN1, hd1⟩, HI.out.dfx hd1 hf1 hne1⟩
  clear hd1 hne1 hf1
  go_wp2
  go_ret
  exact H1.out
set_option maxHeartbeats 1000000 in
theorem mark2_any (B p bD bN n nD nN bd : Nat) (pv : Value) (d : ADisk) (w : World) (h : DiskIn w B p bD bN pv d n nD nN) (hn : n < 67108864) (hbd : w.heap[bd]? = some (.cells #[dskV p] 133)) :
    Calls Tryz.prog 196 #[.pointer (some ⟨bd, 0, none⟩)] w (DskPost B p bD bN (n + 1) (d.tell ⟨4, markNew, markNm, ByteArray.empty⟩) w) := by
  have x0 := blk_cell hbd 0
  simp at x0
  have HI : Hid (DiskIn w B p bD bN pv d n nD nN) := h
  have mw := Tryz.mRename
  clear h hbd
  go_enter Tryz.func196, Tryz.ntmps196
  go_wp2_with fail
  refine (rename_any B p bD bN n nD nN pv d markNew markNm w HI.out hn (by decide) (by decide) mark_ne).mono ?_
  rintro e w1 ⟨rfl, ⟨pv1, nN1, hd1, hne1⟩, hf1⟩
  have H1 : Hid (DskPost B p bD bN (n + 1) (d.tell ⟨4, markNew, markNm, ByteArray.empty⟩) w (.returned (errN (d.tell ⟨4, markNew, markNm, ByteArray.empty⟩).2)) w1) := ⟨rfl, ⟨pv1, nD, nN1, hd1⟩, HI.out.dfr hd1 hf1 (fun q hq _ => hq) hne1⟩
  clear hd1 hne1 hf1
  go_wp2
  go_ret
  exact H1.out
/-- steps, as far as each goes well -/
def ADisk.setMark (d : ADisk) (first : Nat) : ADisk × Nat :=
  let t1 := d.tell ⟨1, markNew, ByteArray.empty, str (recBytes first 0 [])⟩
  if t1.2 = 0 then
    let t2 := t1.1.sync
    if t2.2 = 0 then
      let t3 := t2.1.tell ⟨4, markNew, markNm, ByteArray.empty⟩
      if t3.2 = 0 then t3.1.sync else t3
    else t2
  else t1
set_option maxRecDepth 100000 in
set_option maxHeartbeats 4000000 in
theorem inTurnM (B p bD bN n nD nN bd bb g cap base gst first : Nat) (pv : Value) (d : ADisk) (w : World) (h : DiskIn w B p bD bN pv d n nD nN) (hn : n + 2 ≤ 67108864)
    (hst : w.heap[gst]? = some (.cells #[.func (.func 195) #[] #[.pointer (some ⟨bd, 0, none⟩), .pointer (some ⟨bb, 0, none⟩)], .func (.method "Sync") #[dskV p] #[], .func (.func 196) #[] #[.pointer (some ⟨bd, 0, none⟩)], .func (.method "Sync") #[dskV p] #[]] 160))
    (hbd : w.heap[bd]? = some (.cells #[dskV p] 133)) (hbb : w.heap[bb]? = some (.cells #[.slice (some ⟨g, 0, none⟩) (recBytes first 0 []).length cap] 206))
    (hr : w.ownsRow base 5 1 (.slice (some ⟨g, 0, none⟩) (recBytes first 0 []).length cap) (recBytes first 0 []).length (bs (recBytes first 0 []))) (hl : (recBytes first 0 []).length ≤ 4096) :
    Calls Tryz.prog 125 #[.slice (some ⟨gst, 0, none⟩) 4 4] w (DskX B p bD bN (n + 2) [g] (d.setMark first) w) := by
  have z0 := blk_cell hst 0
  simp at z0
  have HI : Hid (DiskIn w B p bD bN pv d n nD nN) := h
  have msy := Tryz.mSync
  obtain ⟨cg, hcg⟩ := own_cells hr (g := g) rfl
  have hgst : gst ≠ g := fun e => by rw [e, hcg] at hst; cases hst
  have hgbd : bd ≠ g := fun e => by rw [e, hcg] at hbd; cases hbd
  go_enter Tryz.func125, Tryz.ntmps125
  go_wp2
  refine wp_loop_rounds 5 ?_
  rw [rounds_succ]
  go_wp2_with fail
  refine (mark1_any B p bD bN n nD nN bd bb g cap base pv d _ w HI.out (by omega) hbd hbb hr hl).mono ?_
  obtain ⟨t1, ht1⟩ : ∃ t1, t1 = d.tell ⟨1, markNew, ByteArray.empty, str (recBytes first 0 [])⟩ := ⟨_, rfl⟩
  have HT1 : Hid (d.tell ⟨1, markNew, ByteArray.empty, str (recBytes first 0 [])⟩ = t1) := ht1.symm
  rw [← ht1]
  clear ht1
  rintro e w1 ⟨rfl, ⟨pv1, nD1, nN1, hd1⟩, ho1⟩
  have hst1 := (ho1.block gst (Array.getElem?_eq_some_iff.1 hst).1 (HI.out.freeD hst (by decide) (by decide)) (by simp; exact hgst)).trans hst
  have hbd1 := (ho1.block bd (Array.getElem?_eq_some_iff.1 hbd).1 (HI.out.freeD hbd (by decide) (by decide)) (by simp; exact hgbd)).trans hbd
  have y1 := blk_cell hst1 1
  simp at y1
  have HST1 : Hid (w1.heap[gst]? = some (.cells #[.func (.func 195) #[] #[.pointer (some ⟨bd, 0, none⟩), .pointer (some ⟨bb, 0, none⟩)], .func (.method "Sync") #[dskV p] #[], .func (.func 196) #[] #[.pointer (some ⟨bd, 0, none⟩)], .func (.method "Sync") #[dskV p] #[]] 160)) := hst1
  have HBD1 : Hid (w1.heap[bd]? = some (.cells #[dskV p] 133)) := hbd1
  have H1 : Hid (DiskIn w1 B p bD bN pv1 t1.1 (n + 1) nD1 nN1) := hd1
  have HO1 : Hid (DFx [g] p w w1) := ho1
  clear h hst hbd hbb hr z0 hst1 hbd1 hd1 ho1 hcg
  by_cases hc1 : t1.2 = 0
  · rw [hc1, errN_ok]
    go_wp2
    rw [rounds_succ]
    go_wp2_with fail
    refine (sync_any B p bD bN (n + 1) nD1 nN1 pv1 t1.1 w1 H1.out).mono ?_
    obtain ⟨t2, ht2⟩ : ∃ t2, t2 = t1.1.sync := ⟨_, rfl⟩
    have HT2 : Hid (t1.1.sync = t2) := ht2.symm
    rw [← ht2]
    clear ht2
    rintro e w2 ⟨rfl, ⟨pv2, nD2, hd2, hne2⟩, hf2⟩
    have ho2 : DFr p w1 w2 := H1.out.dfr hd2 hf2 (fun q hq _ => by simp at hq; rcases hq with e | e <;> simp [e]) hne2
    have hst2 := (ho2.block gst (Array.getElem?_eq_some_iff.1 HST1.out).1 (H1.out.freeD HST1.out (by decide) (by decide))).trans HST1.out
    have hbd2 := (ho2.block bd (Array.getElem?_eq_some_iff.1 HBD1.out).1 (H1.out.freeD HBD1.out (by decide) (by decide))).trans HBD1.out
    have y2 := blk_cell hst2 2
    simp at y2
    have HST2 : Hid (w2.heap[gst]? = some (.cells #[.func (.func 195) #[] #[.pointer (some ⟨bd, 0, none⟩), .pointer (some ⟨bb, 0, none⟩)], .func (.method "Sync") #[dskV p] #[], .func (.func 196) #[] #[.pointer (some ⟨bd, 0, none⟩)], .func (.method "Sync") #[dskV p] #[]] 160)) := hst2
    have HBD2 : Hid (w2.heap[bd]? = some (.cells #[dskV p] 133)) := hbd2
    have H2 : Hid (DiskIn w2 B p bD bN pv2 t2.1 (n + 1) nD2 nN1) := hd2
    have HO2 : Hid (DFx [g] p w w2) := HO1.out.trans ho2.x
    clear hst2 hbd2 hd2 ho2 hf2 hne2 y1
    by_cases hc2 : t2.2 = 0
    · rw [hc2, errN_ok]
      go_wp2
      rw [rounds_succ]
      go_wp2_with fail
      refine (mark2_any B p bD bN (n + 1) nD2 nN1 bd pv2 t2.1 w2 H2.out (by omega) HBD2.out).mono ?_
      obtain ⟨t3, ht3⟩ : ∃ t3, t3 = t2.1.tell ⟨4, markNew, markNm, ByteArray.empty⟩ := ⟨_, rfl⟩
      have HT3 : Hid (t2.1.tell ⟨4, markNew, markNm, ByteArray.empty⟩ = t3) := ht3.symm
      rw [← ht3]
      clear ht3
      rintro e w3 ⟨rfl, ⟨pv3, nD3, nN3, hd3⟩, ho3⟩
      have hst3 := (ho3.block gst (Array.getElem?_eq_some_iff.1 HST2.out).1 (H2.out.freeD HST2.out (by decide) (by decide))).trans HST2.out
      have y3 := blk_cell hst3 3
      simp at y3
      have H3 : Hid (DiskIn w3 B p bD bN pv3 t3.1 (n + 2) nD3 nN3) := hd3
      have HO3 : Hid (DFx [g] p w w3) := HO2.out.trans ho3.x
      clear hst3 hd3 ho3 y2
      by_cases hc3 : t3.2 = 0
      · rw [hc3, errN_ok]
        go_wp2
        rw [rounds_succ]
        go_wp2_with fail
        refine (sync_any B p bD bN (n + 2) nD3 nN3 pv3 t3.1 w3 H3.out).mono ?_
        have HE : Hid (d.setMark first = t3.1.sync) := by show _ = _; unfold ADisk.setMark; simp only; rw [HT1.out, if_pos hc1, HT2.out, if_pos hc2, HT3.out, if_pos hc3]
        rintro e w4 ⟨rfl, ⟨pv4, nD4, hd4, hne4⟩, hf4⟩
        have HF : Hid (DskX B p bD bN (n + 2) [g] (d.setMark first) w (.returned (errN t3.1.sync.2)) w4) := by
          show DskX _ _ _ _ _ _ _ _ _ _
          rw [HE.out]
          exact ⟨rfl, ⟨pv4, nD4, nN3, hd4⟩, HO3.out.trans (H3.out.dfr hd4 hf4 (fun q hq _ => by simp at hq; rcases hq with e | e <;> simp [e]) hne4).x⟩
        clear hd4 hne4 hf4 y3
        by_cases hc4 : t3.1.sync.2 = 0
        · rw [hc4, errN_ok] at HF ⊢
          go_wp2
          rw [rounds_succ]
          go_wp2
          go_ret
          exact HF.out
        · rw [errN_no hc4] at HF ⊢
          go_wp2
          go_ret
          exact HF.out
      · have HE : Hid (d.setMark first = t3) := by show _ = _; unfold ADisk.setMark; simp only; rw [HT1.out, if_pos hc1, HT2.out, if_pos hc2, HT3.out, if_neg hc3]
        rw [errN_no hc3]
        go_wp2
        go_ret
        unfold DskX
        rw [HE.out]
        exact ⟨by rw [errN_no hc3]; rfl, ⟨pv3, nD3, nN3, H3.out⟩, HO3.out⟩
    · have HE : Hid (d.setMark first = t2) := by show _ = _; unfold ADisk.setMark; simp only; rw [HT1.out, if_pos hc1, HT2.out, if_neg hc2]
      rw [errN_no hc2]
      go_wp2
      go_ret
      unfold DskX
      rw [HE.out]
      exact ⟨by rw [errN_no hc2]; rfl, ⟨pv2, nD2, nN1, H2.out.mores (by omega) hn⟩, HO2.out⟩
  · have e : d.setMark first = t1 := by unfold ADisk.setMark; simp only; rw [HT1.out, if_neg hc1]
    have HE : Hid (d.setMark first = t1) := e
    clear e
    rw [errN_no hc1]
    go_wp2
    go_ret
    unfold DskX
    rw [HE.out]
    exact ⟨by rw [errN_no hc1]; rfl, ⟨pv1, nD1, nN1, H1.out.mores (by omega) hn⟩, HO1.out⟩
end Go.Proofs.YtkhjhojmhllkaaaGreatDoor
