import Derived.Test.YtnnhihkeffljbaaGreatDoorC21
import Derived.Test.YtnnhihkeffljbaaGreatDoorC10
import Derived.Test.YtnnhihkeffljbaaGreatDoorC06
import Derived.Test.YtnnhihkeffljbaaGreatDoorC15
import Derived.Test.YtnnhihkeffljbaaGreatDoorC13
import Derived.Test.YtnnhihkeffljbaaGreatDoorC16
/- THE BOOK, the mathematics: a log as it must stand, over a disk that is well. -/
namespace Go.Proofs.YtnnhihkeffljbaaGreatDoor
open Go.RowKit
open Sc

structure ABook where
  all : List Rec
  forced : Nat
  low : Nat
  must : Nat
  tries : Nat
/-- the log is as the book says: fst records are gone, cs are the segments; t bytes were appended -/
structure BookOk (b : ABook) (l : ALog) (d : ADisk) (fst : Nat) (cs : List (List Rec)) (t : Nat) : Prop where
  log : LogOk l d fst cs
  up : d.down = false
  le : fst ≤ b.all.length
  all : b.all.drop fst = cs.flatten
  low : fst + 1 ≤ b.low ∨ fst = 0
  must : b.must ≤ b.all.length + 1
  two : ∀ s, l.segs[1]? = some s → b.must ≤ s
  sum : 600 * l.segs.length + l.filled ≤ t + 600
theorem LogOk.knob {l : ALog} {d : ADisk} {fst : Nat} {cs : List (List Rec)} (h : LogOk l d fst cs) (x y : Int) : LogOk l (d.knob x y) fst cs :=
  ⟨h.fail, h.segs, h.recs, h.next, h.nums, h.ne, h.size, h.none, h.fill, h.files⟩
theorem knob_well {d : ADisk} (h : d.down = false) : (d.knob (-1) (-1)).Well 0 := ⟨h, by simp [ADisk.knob], by simp [ADisk.knob]⟩
theorem bytesR_take (l : List Rec) (k : Nat) : bytesR (l.take k) ≤ bytesR l := by
  have := bytesR_app (l.take k) (l.drop k)
  rw [List.take_append_drop] at this
  omega
section
variable {b : ABook} {l : ALog} {d : ADisk} {fst t : Nat} {cs : List (List Rec)}
theorem BookOk.knob (h : BookOk b l d fst cs t) (x y : Int) : BookOk b l (d.knob x y) fst cs t :=
  ⟨h.log.knob x y, h.up, h.le, h.all, h.low, h.must, h.two, h.sum⟩
theorem BookOk.flat (h : BookOk b l d fst cs t) : cs.flatten.length = b.all.length - fst := by rw [← h.all, List.length_drop]
theorem BookOk.next (h : BookOk b l d fst cs t) : l.next = b.all.length + 1 := by
  have h1 := h.log.next
  have h2 := h.flat
  have h3 := h.le
  omega
/-- what is below the mark and still there is of one segment -/
theorem BookOk.small (h : BookOk b l d fst cs t) (k : Nat) (hm : k = 0 ∨ fst + k < b.must) : bytesR (cs.flatten.take k) < 870 := by
  rcases hm with e | hm
  · subst e; simp [bytesR]
  cases hcs : cs with
  | nil => simp [bytesR]
  | cons c0 rest =>
    have hs0 := h.log.size c0 (by rw [hcs]; simp)
    cases hr : rest with
    | nil => simp; have := bytesR_take c0 k; omega
    | cons c1 more =>
      have h1 : l.segs[1]? = some (fst + 1 + c0.length) := by
        rw [h.log.segs, starts_at cs (fst + 1) 1 (by rw [hcs, hr]; simp), hcs]; simp
      have h2 := h.two _ h1
      have h3 : k ≤ c0.length := by omega
      rw [List.flatten_cons, List.take_append_of_le_length h3]
      have := bytesR_take c0 k
      omega
theorem BookOk.append (h : BookOk b l d fst cs t) {c : Nat} (hw : d.Well c) (hc : c + 2 < 1099511627776) (kind : Nat) (s : ByteArray) (hs : s.size ≤ 255) :
    (l.append d kind s).2.2.1 = b.all.length + 1 ∧ (l.append d kind s).2.2.2 = 0 ∧ ∃ cs', BookOk { b with all := b.all ++ [⟨b.all.length + 1, kind, bytesOf s⟩] } (l.append d kind s).1 (l.append d kind s).2.1 fst cs' (t + 15 + s.size) := by
  obtain ⟨⟨r1, r2⟩, ⟨cs', g1, g2⟩, g3, g4, g5⟩ := h.log.append hw hc kind s hs
  have hn := h.next
  have hle := h.le
  rw [hn] at r1 g2
  refine ⟨r1, r2, cs', ?_⟩
  refine { log := g1, up := g3.up, le := by simp; omega, all := ?_, low := h.low, must := by have := h.must; simp; omega, two := ?_, sum := ?_ }
  · show (b.all ++ _).drop fst = _
    rw [g2, List.drop_append_of_le_length hle, h.all]
  · intro x hx
    rcases g4 x hx with hx | hx
    · exact h.two x hx
    · have := h.must; show b.must ≤ x; omega
  · have := h.sum; have := bytesOf_len s; simp only at g5; omega
theorem BookOk.force (h : BookOk b l d fst cs t) {c : Nat} (hw : d.Well c) (hc : c < 1099511627776) :
    (l.force d).2.2 = 0 ∧ BookOk { b with forced := b.all.length } (l.force d).1 (l.force d).2.1 fst cs t := by
  obtain ⟨g1, g2, g3, g4, g5, g6⟩ := h.log.force hw hc
  exact ⟨g1, { log := g2, up := g3.up, le := h.le, all := h.all, low := h.low, must := h.must, two := fun s hs => h.two s (by rw [← g4]; exact hs), sum := by rw [g4, g5]; exact h.sum }⟩
/-- the book behind a Cut -/
def ABook.cut (b : ABook) (top : Nat) : ABook := ⟨b.all, b.all.length, if b.low < top then top else b.low, if b.must < top then top else b.must, if b.tries < top then top else b.tries⟩
theorem BookOk.cut (h : BookOk b l d fst cs t) {c : Nat} (hw : d.Well c) (hc : c + 6 + l.segs.length < 1099511627776) (low top : Nat) (ht : top ≤ low) (ht2 : top ≤ b.all.length + 1) (ht3 : b.all.length + 1 ≤ low → top = b.all.length + 1) (ht4 : low ≤ b.all.length + 1 → top = low) :
    (l.cut d low).2.2 = 0 ∧ ∃ fst' cs', BookOk (b.cut top) (l.cut d low).1 (l.cut d low).2.1 fst' cs' t := by
  obtain ⟨r1, ⟨fst', cs', g1, g2, g3, g4, g5⟩, g6, g7, g8⟩ := h.log.cut hw hc low
  have hle := h.le
  have hfl := h.flat
  refine ⟨r1, fst', cs', ?_⟩
  refine { log := g1, up := g6.up, le := by show fst' ≤ b.all.length; omega, all := ?_, low := ?_, must := ?_, two := ?_, sum := by have := h.sum; omega }
  · show b.all.drop fst' = _
    rw [g3, ← h.all, List.drop_drop]; congr 1; omega
  · show fst' + 1 ≤ (if b.low < top then top else b.low) ∨ fst' = 0
    have h1 := h.low
    by_cases hl : b.low < top
    · rw [if_pos hl]; rcases g4 with e | e <;> omega
    · rw [if_neg hl]; rcases g4 with e | e <;> omega
  · show (if b.must < top then top else b.must) ≤ b.all.length + 1
    have := h.must
    split <;> omega
  · intro x hx
    show (if b.must < top then top else b.must) ≤ x
    obtain ⟨a1, y, a2, a3⟩ := g7 x hx
    have := h.two y a2
    split <;> omega
theorem BookOk.segsLen (h : BookOk b l d fst cs t) : 600 * l.segs.length ≤ t + 600 := by have := h.sum; omega
end
end Go.Proofs.YtnnhihkeffljbaaGreatDoor
/- (*disk).Read. -/
namespace Go.Proofs.YtnnhihkeffljbaaGreatDoor
open Go.RowKit
open Sc

/-- Read: the text, the error's number -/
def ADisk.read (d : ADisk) (nm : ByteArray) : Option ByteArray × Nat :=
  if d.down = true then (none, 10) else match d.now nm with | none => (none, 8) | some t => (some t, 0)
/-- what came of Read -/
def Got (t : Option ByteArray) (v : Value) (w' : World) : Prop :=
  match t with
  | none => v = .slice none 0 0
  | some t => Src w' v (bytesOf t)
def ReadPost (d : ADisk) (nm : ByteArray) (w : World) (e : Ending) (w' : World) : Prop :=
  ∃ v, e = .returned (.tuple #[v, errN (d.read nm).2]) ∧ Got (d.read nm).1 v w' ∧ Below w.heap.size w w'
set_option maxRecDepth 100000 in
set_option maxHeartbeats 1000000 in
theorem read_any (B p bD bN n nD nN : Nat) (pv : Value) (d : ADisk) (nm : ByteArray) (w : World) (h : DiskIn w B p bD bN pv d n nD nN) (hnm : nm.size ≤ maxLen) :
    Calls Tryz.prog 297 #[.pointer (some ⟨p, 0, none⟩), .string nm] w (ReadPost d nm w) := by
  have p1 := blk_cell h.blk 1
  have p5 := blk_cell h.blk 5
  simp at p1 p5
  have HI : Hid (DiskIn w B p bD bN pv d n nD nN) := h
  clear h
  cases hd : d.down with
  | true =>
    rw [hd] at p5
    have HD : Hid (d.down = true) := hd
    clear hd
    go_enter Tryz.func297, Tryz.ntmps297
    go_wp2
    go_ret2
    have e : d.read nm = (none, 10) := by unfold ADisk.read; rw [if_pos HD.out]
    refine ⟨.slice none 0 0, by rw [e]; rfl, by rw [e]; rfl, Below.refl _ _⟩
  | false =>
    rw [hd] at p5
    have HD : Hid (d.down = false) := hd
    clear hd
    rcases HI.out.now.look nm hnm with ⟨hN, hl⟩ | ⟨t, q, hN, hq, hl⟩
    · have HN : Hid (d.now nm = none) := hN
      clear hN
      go_enter Tryz.func297, Tryz.ntmps297
      go_wp2
      go_ret2
      have e : d.read nm = (none, 8) := by unfold ADisk.read; rw [if_neg (by rw [HD.out]; decide), HN.out]
      refine ⟨.slice none 0 0, by rw [e]; rfl, by rw [e]; rfl, Below.refl _ _⟩
    · have HN : Hid (d.now nm = some t) := hN
      have hc := text_cell hq
      have hsz : t.size ≤ maxLen := by
        have h1 := HI.out.leN nm t hN
        have h2 := HI.out.hN
        have h3 := HI.out.hn
        unfold maxLen
        omega
      have hrb := run_bytes w t
      clear hN hq
      go_enter Tryz.func297, Tryz.ntmps297
      go_wp2
      go_ret2
      have e : d.read nm = (some t, 0) := by unfold ADisk.read; rw [if_neg (by rw [HD.out]; decide), HN.out]
      refine ⟨_, by rw [e]; rfl, by rw [e]; exact src_str w t hsz, ?_⟩
      exact (Below.refl _ _).drew.alloc (Nat.le_refl _) _
end Go.Proofs.YtnnhihkeffljbaaGreatDoor
/- OPENING OVER NOTHING: the small calls. -/
namespace Go.Proofs.YtnnhihkeffljbaaGreatDoor
open Go.RowKit Go.Maps
open Sc

set_option maxRecDepth 100000 in
set_option maxHeartbeats 2000000 in
theorem names_empty (B p bD bN n nD : Nat) (pv : Value) (d : ADisk) (w : World) (h : DiskIn w B p bD bN pv d n nD 0) (hdn : d.down = false) :
    Calls Tryz.prog 296 #[.pointer (some ⟨p, 0, none⟩)] w fun e w' => e = .returned (.tuple #[.slice none 0 0, .nilIface]) ∧ Below w.heap.size w w' := by
  have c1 := blk_cell h.blk 1
  have c5 := blk_cell h.blk 5
  simp at c1 c5
  rw [hdn] at c5
  obtain ⟨D, hown, _⟩ := h.now
  have hsz := hown.size_le
  have hso := Tryz.sort_Strings_none
  clear h
  go_enter Tryz.func296, Tryz.ntmps296
  go_wp2_with (first
    | (at_range; refine wpList_range_own _ rfl _ 83 rfl 9 131 Tryz.lawS Tryz.underlying83 ptrElem bN 0 D rfl hown ?_; intro w0 hrg0 hg0 hs0)
    | go_in)
  go_frame
  have hbl : Below w.heap.size w w0 := ⟨hg0.os, hg0.tape, hg0.output, hg0.size, fun k hk => hg0.block k hk (by simp)⟩
  refine wp_loop_rounds 1 ?_
  rw [rounds_succ]
  go_wp2_with (first
    | (at_next; refine wpList_next_ranges _ rfl _ rfl 9 Tryz.lawS ptrElem encStr Value.pointer (fun key kl hk => by obtain ⟨x, hx, _⟩ := Maps.keyOf_str Tryz.underlying9 hk; exact ⟨x, hx⟩) (fun v y hv => ptrElem_shape hv) bN w.heap.size 0 _ _ _ rfl hrg0 ?_ ?_)
    | go_in)
  · intro _ _
    go_wp2_with fail
    refine (hso none 0 w0).mono ?_
    rintro e w1 ⟨rfl, rfl⟩
    go_wp2
    go_ret2
    exact ⟨rfl, hbl⟩
  · intro x c kl yd yp w2 cnt2 _ _ _ _ _ hlt
    omega
set_option maxRecDepth 100000 in
set_option maxHeartbeats 2000000 in
theorem insert_nil (w : World) : Calls Tryz.prog 192 #[.slice none 0 0, .int .i64 0, .int .i64 0] w fun e w' => e = .returned (.tuple #[]) ∧ w' = w := by
  go_enter Tryz.func192, Tryz.ntmps192
  go_wp2
  refine wp_loop_rounds 1 ?_
  rw [rounds_succ]
  go_wp2
  go_end0
  exact ⟨rfl, rfl⟩
set_option maxRecDepth 100000 in
set_option maxHeartbeats 2000000 in
theorem pdq_nil (k : Int) (w : World) : Calls Tryz.prog 173 #[.slice none 0 0, .int .i64 0, .int .i64 0, .int .i64 k] w fun e w' => e = .returned (.tuple #[]) ∧ w' = w := by
  go_enter Tryz.func173, Tryz.ntmps173
  go_wp2
  refine wp_loop_rounds 1 ?_
  rw [rounds_succ]
  go_wp2_with fail
  refine (insert_nil w).mono ?_
  rintro e w1 ⟨rfl, rfl⟩
  go_wp2
  refine bodyPost_ret (results_none rfl _ _ _) rfl ?_
  exact ⟨rfl, rfl⟩
set_option maxRecDepth 100000 in
set_option maxHeartbeats 2000000 in
theorem sortU_nil (w : World) : Calls Tryz.prog 145 #[.slice none 0 0] w fun e w' => e = .returned (.tuple #[]) ∧ w' = w := by
  go_enter Tryz.func145, Tryz.ntmps145
  go_wp2_with fail
  refine (Tryz.bits_Len 0 w (by omega) (by omega)).mono ?_
  rintro e w1 ⟨rfl, rfl⟩
  go_wp2_with fail
  refine (pdq_nil _ w1).mono ?_
  rintro e w1 ⟨rfl, rfl⟩
  go_wp2
  go_end0
  exact ⟨rfl, rfl⟩
set_option maxRecDepth 100000 in
set_option maxHeartbeats 2000000 in
theorem among_nil (w : World) : Calls Tryz.prog 129 #[.slice none 0 0] w fun e w' => e = .returned (.slice none 0 0) ∧ w' = w := by
  go_enter Tryz.func129, Tryz.ntmps129
  go_wp2
  refine wp_loop_rounds 1 ?_
  rw [rounds_succ]
  go_wp2_with fail
  refine (sortU_nil w).mono ?_
  rintro e w1 ⟨rfl, rfl⟩
  go_wp2
  go_ret
  exact ⟨rfl, rfl⟩
set_option maxRecDepth 100000 in
set_option maxHeartbeats 2000000 in
theorem search_nil (x : Int) (w : World) : Calls Tryz.prog 130 #[.slice none 0 0, .int .u64 x] w fun e w' => e = .returned (.tuple #[.int .i64 0, .bool false]) ∧ w' = w := by
  go_enter Tryz.func130, Tryz.ntmps130
  go_wp2
  refine wp_loop_rounds 1 ?_
  rw [rounds_succ]
  go_wp2
  go_ret2
  exact ⟨rfl, rfl⟩
set_option maxRecDepth 100000 in
set_option maxHeartbeats 2000000 in
theorem readMark_none (B p bD bN n nD nN : Nat) (pv : Value) (d : ADisk) (w : World) (h : DiskIn w B p bD bN pv d n nD nN) (hdn : d.down = false) (hno : d.now markNm = none) :
    Calls Tryz.prog 128 #[dskV p] w fun e w' => e = .returned (.tuple #[.int .u64 1, .nilIface]) ∧ Below w.heap.size w w' := by
  have hm := Tryz.mRead
  have hr := read_any B p bD bN n nD nN pv d markNm w h (by decide)
  have e : d.read markNm = (none, 8) := by unfold ADisk.read; rw [if_neg (by rw [hdn]; decide), hno]
  clear h
  go_enter Tryz.func128, Tryz.ntmps128
  go_wp2_with fail
  refine hr.mono ?_
  clear hr
  rintro e1 w1 ⟨v, rfl, hgot, hb⟩
  rw [e] at hgot ⊢
  obtain rfl : v = .slice none 0 0 := hgot
  rw [errN_no (by decide)]
  go_wp2_with fail
  refine (is_same 8 w1).mono ?_
  rintro e2 w2 ⟨rfl, rfl⟩
  go_wp2
  go_ret2
  exact ⟨rfl, hb⟩
end Go.Proofs.YtnnhihkeffljbaaGreatDoor
/- OPENING OVER NOTHING: (*Log).read, journal.Open. -/
namespace Go.Proofs.YtnnhihkeffljbaaGreatDoor
open Go.RowKit
open Sc

def log0 (nx : Nat) : ALog := ⟨[], 600, [], nx, 0, 0⟩
set_option maxRecDepth 100000 in
set_option maxHeartbeats 2000000 in
theorem read_empty (B lp p bD bN n nD : Nat) (pv : Value) (d : ADisk) (w : World) (h : LogIn w B lp p bD bN pv (.slice none 0 0) (.slice none 0 0) (log0 0) d n nD 0) (hdn : d.down = false) (hno : d.now markNm = none) :
    Calls Tryz.prog 92 #[.pointer (some ⟨lp, 0, none⟩)] w fun e w' => e = .returned (.tuple #[.slice none 0 0, .nilIface]) ∧ LogIn w' B lp p bD bN pv (.slice none 0 0) (.slice none 0 0) (log0 1) d n nD 0 ∧ OFr lp p w w' := by
  have c0 := blk_cell h.blk 0
  simp at c0
  have HI : Hid (LogIn w B lp p bD bN pv (.slice none 0 0) (.slice none 0 0) (log0 0) d n nD 0) := h
  clear h
  have hm := Tryz.mNames
  go_enter Tryz.func92, Tryz.ntmps92
  go_wp2_with fail
  refine (names_empty B p bD bN n nD pv d w HI.out.disk hdn).mono ?_
  rintro e w1 ⟨rfl, hb1⟩
  have hf1 : Fr [] w w1 := Fr.of_below hb1 _
  have hl1 := HI.out.new hf1
  have ho1 := HI.out.newO hf1
  have k0 := blk_cell hl1.blk 0
  simp at k0
  have H1 : Hid (LogIn w1 B lp p bD bN pv (.slice none 0 0) (.slice none 0 0) (log0 0) d n nD 0 ∧ OFr lp p w w1) := ⟨hl1, ho1⟩
  clear hl1 ho1 hf1 hb1 c0
  go_wp2_with fail
  refine (readMark_none B p bD bN n nD 0 pv d w1 H1.out.1.disk hdn hno).mono ?_
  rintro e w2 ⟨rfl, hb2⟩
  have hf2 : Fr [] w1 w2 := Fr.of_below hb2 _
  have hl2 := H1.out.1.new hf2
  have ho2 := H1.out.2.trans (H1.out.1.newO hf2)
  have m4 := blk_cell hl2.blk 4
  have f4 := blk_free hl2.blk 4
  simp at m4
  have H2 : Hid (LogIn w2 B lp p bD bN pv (.slice none 0 0) (.slice none 0 0) (log0 0) d n nD 0 ∧ OFr lp p w w2) := ⟨hl2, ho2⟩
  clear hl2 ho2 hf2 hb2 k0
  obtain ⟨W, hW⟩ : ∃ W, W = w2.setCell ⟨lp, 4, none⟩ (.int .u64 1) := ⟨_, rfl⟩
  have hf3 : Fr [lp] w2 W := by rw [hW]; exact Fr.set1 (by simp) _ _
  have hb3 : W.heap[lp]? = some (logO p (.slice none 0 0) (.slice none 0 0) (log0 1)) := by rw [hW]; have := blk_set H2.out.1.blk 4 (.int .u64 1); simp [log0] at this ⊢; exact this
  have hn := H2.out.1.disk.hn
  have hl3 : LogIn W B lp p bD bN pv (.slice none 0 0) (.slice none 0 0) (log0 1) d n nD 0 := H2.out.1.own1 hf3 hb3 H2.out.1.segsN H2.out.1.recsN H2.out.1.fillN (by show 1 ≤ n + 1; omega) H2.out.1.durN rfl rfl
  have ho3 : OFr lp p w W := H2.out.2.trans (H2.out.1.ofr hl3 hf3 (fun k hk _ => by simp at hk; simp [hk]) (.inl rfl) (Near.refl _ _) (Near.refl _ _) (Near.refl _ _))
  have m4' := blk_cell hl3.blk 4
  simp [log0] at m4'
  have H3 : Hid (LogIn W B lp p bD bN pv (.slice none 0 0) (.slice none 0 0) (log0 1) d n nD 0 ∧ OFr lp p w W) := ⟨hl3, ho3⟩
  clear hl3 ho3 hf3 hb3
  subst hW
  go_wp2_with fail
  refine (among_nil _).mono ?_
  rintro e w4 ⟨rfl, rfl⟩
  go_wp2_with fail
  refine (search_nil 1 _).mono ?_
  rintro e w4 ⟨rfl, rfl⟩
  go_wp2_with fail
  refine (namesOf_nil _).mono ?_
  rintro e w4 ⟨rfl, rfl⟩
  go_wp2
  refine wp_loop_rounds 1 ?_
  rw [rounds_succ]
  go_wp2
  go_ret2
  exact ⟨rfl, H3.out.1, H3.out.2⟩
/-- the disk turned by itself, under a log -/
theorem LogIn.dturned {w w' : World} {B lp p bD bN n nD nN nD' nN' : Nat} {pv sv rv pv' : Value} {l : ALog} {d d' : ADisk} (h : LogIn w B lp p bD bN pv sv rv l d n nD nN) (hd : DiskIn w' B p bD bN pv' d' n nD' nN') (hf : DFr p w w') : LogIn w' B lp p bD bN pv' sv rv l d' n nD' nN' ∧ OFr lp p w w' := by
  have hlp := (Array.getElem?_eq_some_iff.1 h.blk).1
  have hne : ∀ k, k < w.heap.size → (k = lp ∨ sv.ownBlock = some k ∨ rv.ownBlock = some k) → ¬ OwnD p w k := fun k _ hk ho => by
    have := h.sep k ((h.disk.ownD k).1 ho)
    rcases hk with e | e | e
    · exact this.1 e
    · exact this.2.1 e
    · exact this.2.2 e
  have hblk : w'.heap[lp]? = some (logO p sv rv l) := (hf.block lp hlp (hne lp hlp (.inl rfl))).trans h.blk
  have hrow : ∀ (e : TypeId) (k m : Nat) (v : Value) (xs : List Value), (∀ g, v.ownBlock = some g → g = lp ∨ sv.ownBlock = some g ∨ rv.ownBlock = some g) → w.ownsRow B e k v m xs → w'.ownsRow B e k v m xs := fun e k m v xs hv hr => by
    refine ⟨hr.1, ?_⟩
    rcases hr.2 with h1 | ⟨g, cap, cur, rfl, h2, h3, h4⟩
    · exact .inl h1
    · exact .inr ⟨g, cap, cur, rfl, h2, (hf.block g (Array.getElem?_eq_some_iff.1 h3).1 (hne g (Array.getElem?_eq_some_iff.1 h3).1 (hv g rfl))).trans h3, h4⟩
  have hl : LogIn w' B lp p bD bN pv' sv rv l d' n nD' nN' := { disk := hd, blk := hblk, base := h.base, segs := hrow _ _ _ _ _ (fun g hg => .inr (.inl hg)) h.segs, recs := hrow _ _ _ _ _ (fun g hg => .inr (.inr hg)) h.recs, segsN := h.segsN, recsN := h.recsN, fillN := h.fillN, nextN := h.nextN, durN := h.durN }
  refine ⟨hl, hf.os, hf.tape, hf.output, hf.size, fun k hk hn => hf.block k hk (fun ho => hn ?_), fun k hk ho => ?_⟩
  · rw [h.own]
    have := (h.disk.ownD k).1 ho
    simp at this
    rcases this with e | e | e | e <;> simp [e]
  · rw [h.own]
    rcases (hl.own k).1 ho with e | e | e | e | e | e | e
    · exact .inl e
    · exact .inr (.inl e)
    · exact .inr (.inr (.inl e))
    · exact .inr (.inr (.inr (.inl e)))
    · have := (h.disk.ownD k).1 (hf.stay k hk ((hd.ownD k).2 (by simp [e])))
      simp at this
      rcases this with e | e | e | e <;> simp [e]
    · exact .inr (.inr (.inr (.inr (.inr (.inl e)))))
    · exact .inr (.inr (.inr (.inr (.inr (.inr e)))))
set_option maxRecDepth 100000 in
set_option maxHeartbeats 2000000 in
theorem open1_any (B lp p bD bN n nD nN bd bu : Nat) (pv sv rv : Value) (l : ALog) (d : ADisk) (w : World) (h : LogIn w B lp p bD bN pv sv rv l d n nD nN) (hd : w.heap[bd]? = some (.cells #[dskV p] 110)) (hu : w.heap[bu]? = some (.cells #[.slice none 0 0] 159)) :
    Calls Tryz.prog 95 #[.pointer (some ⟨bd, 0, none⟩), .pointer (some ⟨bu, 0, none⟩)] w (PutL B lp p bD bN n [] (l, d.removeAll []) w) := by
  have c0 := blk_cell hd 0
  have c1 := blk_cell hu 0
  simp at c0 c1
  have HI : Hid (LogIn w B lp p bD bN pv sv rv l d n nD nN) := h
  clear h hd hu
  go_enter Tryz.func95, Tryz.ntmps95
  go_wp2_with fail
  refine (removeAll_nil B p bD bN n nD nN pv d w HI.out.disk).mono ?_
  rintro e w1 ⟨rfl, ⟨pv1, nD1, nN1, hd1⟩, hf1⟩
  obtain ⟨hl1, ho1⟩ := HI.out.dturned hd1 hf1
  have H1 : Hid (LogIn w1 B lp p bD bN pv1 sv rv l (d.removeAll []).1 n nD1 nN1 ∧ OFr lp p w w1) := ⟨hl1, ho1⟩
  clear hl1 ho1 hd1 hf1
  go_wp2
  go_ret
  exact ⟨rfl, ⟨pv1, sv, rv, nD1, nN1, H1.out.1⟩, H1.out.2.x⟩
/-- the two steps of Open -/
def ALog.opens (l : ALog) (d : ADisk) : ALog × ADisk × Nat :=
  if (l.sync d).2.2 = 0 then ((l.sync d).1, (l.sync d).2.1.removeAll []) else l.sync d
set_option maxRecDepth 100000 in
set_option maxHeartbeats 2000000 in
theorem inTurnO (B lp p bD bN n nD nN gst bd bu : Nat) (pv sv rv : Value) (l : ALog) (d : ADisk) (w : World) (h : LogIn w B lp p bD bN pv sv rv l d n nD nN) (hn : n ≤ 67108864)
    (hst : w.heap[gst]? = some (.cells #[.func (.func 94) #[.pointer (some ⟨lp, 0, none⟩)] #[], .func (.func 95) #[] #[.pointer (some ⟨bd, 0, none⟩), .pointer (some ⟨bu, 0, none⟩)]] 137)) (hd : w.heap[bd]? = some (.cells #[dskV p] 110)) (hu : w.heap[bu]? = some (.cells #[.slice none 0 0] 159)) :
    Calls Tryz.prog 93 #[.slice (some ⟨gst, 0, none⟩) 2 2] w (PutL B lp p bD bN n [] (l.opens d) w) := by
  have z0 := blk_cell hst 0
  simp at z0
  have HI : Hid (LogIn w B lp p bD bN pv sv rv l d n nD nN) := h
  have n1 := h.free hst (by decide) (by decide) (by decide) (by decide) (by decide)
  have n2 := h.free hd (by decide) (by decide) (by decide) (by decide) (by decide)
  have n3 := h.free hu (by decide) (by decide) (by decide) (by decide) (by decide)
  clear h
  go_enter Tryz.func93, Tryz.ntmps93
  go_wp2
  refine wp_loop_rounds 3 ?_
  rw [rounds_succ]
  go_wp2_with fail
  refine (lsync_any B lp p bD bN n nD nN pv sv rv l d w HI.out hn).mono ?_
  rintro e w1 ⟨rfl, ⟨pv1, sv1, rv1, nD1, nN1, hl1⟩, ho1⟩
  have hst1 := (ho1.block gst (Array.getElem?_eq_some_iff.1 hst).1 n1).trans hst
  have hd1 := (ho1.block bd (Array.getElem?_eq_some_iff.1 hd).1 n2).trans hd
  have hu1 := (ho1.block bu (Array.getElem?_eq_some_iff.1 hu).1 n3).trans hu
  have z1 := blk_cell hst1 1
  simp at z1
  have H1 : Hid (LogIn w1 B lp p bD bN pv1 sv1 rv1 (l.sync d).1 (l.sync d).2.1 n nD1 nN1 ∧ OFr lp p w w1) := ⟨hl1, ho1⟩
  have HB : Hid (w1.heap[bd]? = some (.cells #[dskV p] 110) ∧ w1.heap[bu]? = some (.cells #[.slice none 0 0] 159)) := ⟨hd1, hu1⟩
  clear hl1 ho1 hst1 hd1 hu1 hd hu hst z0
  by_cases hc : (l.sync d).2.2 = 0
  · have eo : l.opens d = ((l.sync d).1, (l.sync d).2.1.removeAll []) := by unfold ALog.opens; rw [if_pos hc]
    rw [hc, errN_ok]
    go_wp2
    rw [rounds_succ]
    go_wp2_with fail
    refine (open1_any B lp p bD bN n nD1 nN1 bd bu pv1 sv1 rv1 (l.sync d).1 (l.sync d).2.1 w1 H1.out.1 HB.out.1 HB.out.2).mono ?_
    rintro e w2 ⟨rfl, hl2, ho2⟩
    have H2 : Hid (PutL B lp p bD bN n [] ((l.sync d).1, (l.sync d).2.1.removeAll []) w (.returned (errN ((l.sync d).2.1.removeAll []).2)) w2) := ⟨rfl, hl2, H1.out.2.x.trans ho2⟩
    clear hl2 ho2
    by_cases hc2 : ((l.sync d).2.1.removeAll []).2 = 0
    · rw [hc2, errN_ok] at H2 ⊢
      go_wp2
      rw [rounds_succ]
      go_wp2
      go_ret
      rw [eo]; exact H2.out
    · rw [errN_no hc2] at H2 ⊢
      go_wp2
      go_ret
      rw [eo]; exact H2.out
  · have eo : l.opens d = l.sync d := by unfold ALog.opens; rw [if_neg hc]
    have H2 : Hid (PutL B lp p bD bN n [] (l.sync d) w (.returned (errN (l.sync d).2.2)) w1) := ⟨rfl, ⟨pv1, sv1, rv1, nD1, nN1, H1.out.1⟩, H1.out.2.x⟩
    rw [errN_no hc] at H2 ⊢
    go_wp2
    go_ret
    rw [eo]; exact H2.out
end Go.Proofs.YtnnhihkeffljbaaGreatDoor
/- OPENING OVER NOTHING: journal.Open, shardcommit.OpenLog. -/
namespace Go.Proofs.YtnnhihkeffljbaaGreatDoor
open Go.RowKit
open Sc

theorem DFr.ofO {w Wl w' : World} {B lp p bD bN n nD nN n' nD' nN' n2 nD2 nN2 : Nat} {pv pv' sv' rv' : Value} {l l' : ALog} {d d' d2 : ADisk} (h : DiskIn w B p bD bN pv d2 n2 nD2 nN2) (hl : LogIn Wl B lp p bD bN pv (.slice none 0 0) (.slice none 0 0) l d n nD nN) (hf : Fr [] w Wl) (hlp : w.heap.size ≤ lp) (ho : OFr lp p Wl w') (hl' : LogIn w' B lp p bD bN pv' sv' rv' l' d' n' nD' nN') : DFr p w w' := by
  have key : ∀ k, k < w.heap.size → Own lp p Wl k → OwnD p w k := fun k hk hO => by
    rw [h.ownD]
    rcases (hl.own k).1 hO with e | e | e | e | e | e | e
    · omega
    · simp [e]
    · simp [e]
    · simp [e]
    · simp [e]
    · cases e
    · cases e
  refine ⟨ho.os.trans hf.os, ho.tape.trans hf.tape, ho.output.trans hf.output, Nat.le_trans hf.size ho.size, fun k hk hn => ?_, fun k hk hD => ?_⟩
  · exact (ho.block k (Nat.lt_of_lt_of_le hk hf.size) (fun hO => hn (key k hk hO))).trans (hf.block k hk (by simp))
  · refine key k hk (ho.stay k (Nat.lt_of_lt_of_le hk hf.size) ?_)
    have := (hl'.disk.ownD k).1 hD
    rw [hl'.own]
    simp at this
    rcases this with e | e | e | e <;> simp [e]
/-- what stands behind an opening that went well -/
def OpenPost (B p bD bN n : Nat) (r : ALog × ADisk × Nat) (w : World) (e : Ending) (w' : World) : Prop :=
  ∃ lp, e = .returned (.tuple #[.pointer (some ⟨lp, 0, none⟩), .nilIface]) ∧ w.heap.size ≤ lp ∧ (∃ pv sv rv nD nN, LogIn w' B lp p bD bN pv sv rv r.1 r.2.1 n nD nN) ∧ DFr p w w'
set_option maxRecDepth 100000 in
set_option maxHeartbeats 4000000 in
theorem jopen_empty (B p bD bN n nD : Nat) (pv : Value) (d : ADisk) (w : World) (h : DiskIn w B p bD bN pv d n nD 0) (hdn : d.down = false) (hno : d.now markNm = none) (hr : ((log0 1).opens d).2.2 = 0) :
    Calls Tryz.prog 62 #[dskV p] w (OpenPost B p bD bN n ((log0 1).opens d) w) := by
  have hn := h.hn
  have hb0 := h.base
  obtain ⟨W, hW⟩ : ∃ W, W = (w.alloc (.cells #[dskV p] 110)).alloc (logO p (.slice none 0 0) (.slice none 0 0) (log0 0)) := ⟨_, rfl⟩
  have hf0 : Fr [] w W := by rw [hW]; exact ((Fr.refl [] w).alloc _).alloc _
  have hdb : W.heap[w.heap.size]? = some (.cells #[dskV p] 110) := by rw [hW, Below.heap_alloc _ _ w.heap.size (by simp)]; exact heap_alloc_new w _
  have hlb : W.heap[w.heap.size + 1]? = some (logO p (.slice none 0 0) (.slice none 0 0) (log0 0)) := by rw [hW]; have := heap_alloc_new (w.alloc (.cells #[dskV p] 110)) (logO p (.slice none 0 0) (.slice none 0 0) (log0 0)); rw [World.size_alloc] at this; exact this
  have hl0 : LogIn W B (w.heap.size + 1) p bD bN pv (.slice none 0 0) (.slice none 0 0) (log0 0) d n nD 0 := { disk := h.new hf0, blk := hlb, base := by omega, segs := World.ownsRow_nil _ _ _ _, recs := World.ownsRow_nil _ _ _ _, segsN := ⟨by simp [log0], by simp [log0]⟩, recsN := by simp [log0], fillN := by simp [log0], nextN := by simp [log0], durN := by simp [log0] }
  have HW : Hid (DiskIn w B p bD bN pv d n nD 0 ∧ Fr [] w W) := ⟨h, hf0⟩
  have H0 : Hid (LogIn W B (w.heap.size + 1) p bD bN pv (.slice none 0 0) (.slice none 0 0) (log0 0) d n nD 0) := hl0
  have HDB : Hid (W.heap[w.heap.size]? = some (.cells #[dskV p] 110)) := hdb
  have hnil := Tryz.eqNil p
  clear h hf0 hdb hlb hl0
  go_enter Tryz.func62, Tryz.ntmps62
  go_wp2_with fail
  have hW2 : W = (w.alloc (.cells #[dskV p] 110)).alloc (.cells #[dskV p, .slice none 0 0, .int .i64 600, .slice none 0 0, .int .u64 0, .int .u64 0, .nilIface] 158) := hW
  rw [← hW2]
  clear hW hW2
  refine (read_empty B (w.heap.size + 1) p bD bN n nD pv d W H0.out hdn hno).mono ?_
  rintro e w1 ⟨rfl, hl1, ho1⟩
  have hdb1 := (ho1.block w.heap.size (Array.getElem?_eq_some_iff.1 HDB.out).1 (H0.out.free HDB.out (by decide) (by decide) (by decide) (by decide) (by decide))).trans HDB.out
  obtain ⟨W2, hW2⟩ : ∃ W2, W2 = (w1.alloc (.cells #[.slice none 0 0] 159)).alloc (.cells #[.func (.func 94) #[.pointer (some ⟨w.heap.size + 1, 0, none⟩)] #[], .func (.func 95) #[] #[.pointer (some ⟨w.heap.size, 0, none⟩), .pointer (some ⟨w1.heap.size, 0, none⟩)]] 137) := ⟨_, rfl⟩
  have hf2 : Fr [] w1 W2 := by rw [hW2]; exact ((Fr.refl [] w1).alloc _).alloc _
  have hu2 : W2.heap[w1.heap.size]? = some (.cells #[.slice none 0 0] 159) := by rw [hW2, Below.heap_alloc _ _ w1.heap.size (by simp)]; exact heap_alloc_new w1 _
  have hst2 : W2.heap[w1.heap.size + 1]? = some (.cells #[.func (.func 94) #[.pointer (some ⟨w.heap.size + 1, 0, none⟩)] #[], .func (.func 95) #[] #[.pointer (some ⟨w.heap.size, 0, none⟩), .pointer (some ⟨w1.heap.size, 0, none⟩)]] 137) := by
    rw [hW2]; have := heap_alloc_new (w1.alloc (.cells #[.slice none 0 0] 159)) (.cells #[.func (.func 94) #[.pointer (some ⟨w.heap.size + 1, 0, none⟩)] #[], .func (.func 95) #[] #[.pointer (some ⟨w.heap.size, 0, none⟩), .pointer (some ⟨w1.heap.size, 0, none⟩)]] 137); rw [World.size_alloc] at this; exact this
  have hdb2 : W2.heap[w.heap.size]? = some (.cells #[dskV p] 110) := (hf2.block w.heap.size (Array.getElem?_eq_some_iff.1 hdb1).1 (by simp)).trans hdb1
  have HC : Hid (Calls Tryz.prog 93 #[.slice (some ⟨w1.heap.size + 1, 0, none⟩) 2 2] W2 (PutL B (w.heap.size + 1) p bD bN n [] ((log0 1).opens d) W2)) := inTurnO B (w.heap.size + 1) p bD bN n nD 0 (w1.heap.size + 1) w.heap.size w1.heap.size pv (.slice none 0 0) (.slice none 0 0) (log0 1) d W2 (hl1.new hf2) hn hst2 hdb2 hu2
  have HO : Hid (OFr (w.heap.size + 1) p W W2) := ho1.trans (hl1.newO hf2)
  clear hl1 ho1 hdb1 hf2 hu2 hst2 hdb2
  go_wp2_with fail
  rw [← hW2]
  clear hW2
  refine HC.out.mono ?_
  rintro e w3 ⟨rfl, ⟨pv3, sv3, rv3, nD3, nN3, hl3⟩, ho3⟩
  have H3 : Hid (LogIn w3 B (w.heap.size + 1) p bD bN pv3 sv3 rv3 ((log0 1).opens d).1 ((log0 1).opens d).2.1 n nD3 nN3) := hl3
  have HD : Hid (DFr p w w3) := DFr.ofO HW.out.1 H0.out HW.out.2 (by omega) (HO.out.trans ho3.ofr) hl3
  clear hl3 ho3
  rw [hr, errN_ok]
  go_wp2
  go_ret2
  exact ⟨w.heap.size + 1, rfl, by omega, ⟨pv3, sv3, rv3, nD3, nN3, H3.out⟩, HD.out⟩
set_option maxHeartbeats 1000000 in
theorem openLog_empty (B p bD bN n nD : Nat) (pv : Value) (d : ADisk) (w : World) (h : DiskIn w B p bD bN pv d n nD 0) (hdn : d.down = false) (hno : d.now markNm = none) (hr : ((log0 1).opens d).2.2 = 0) :
    Calls Tryz.prog 34 #[dskV p] w (OpenPost B p bD bN n ((log0 1).opens d) w) := by
  have HC : Hid (Calls Tryz.prog 62 #[dskV p] w (OpenPost B p bD bN n ((log0 1).opens d) w)) := jopen_empty B p bD bN n nD pv d w h hdn hno hr
  clear h
  go_enter Tryz.func34, Tryz.ntmps34
  go_wp2_with fail
  refine HC.out.mono ?_
  rintro e w1 ⟨lp, rfl, h1⟩
  have H1 : Hid (w.heap.size ≤ lp ∧ (∃ pv sv rv nD nN, LogIn w1 B lp p bD bN pv sv rv ((log0 1).opens d).1 ((log0 1).opens d).2.1 n nD nN) ∧ DFr p w w1) := h1
  clear h1
  go_wp2
  go_ret2
  exact ⟨lp, rfl, H1.out⟩
end Go.Proofs.YtnnhihkeffljbaaGreatDoor
