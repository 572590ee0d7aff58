import Derived.Test.YtbdhmkfdofkloaaGreatDoorC20
import Derived.Test.YtbdhmkfdofkloaaGreatDoorC18
import Derived.Test.YtbdhmkfdofkloaaGreatDoorC05
import Derived.Test.YtbdhmkfdofkloaaGreatDoorC08
import Derived.Test.YtbdhmkfdofkloaaGreatDoorC16
import Derived.Test.YtbdhmkfdofkloaaGreatDoorC14
import Derived.Test.YtbdhmkfdofkloaaGreatDoorC17
import Derived.Test.YtbdhmkfdofkloaaGreatDoorC15
/- A DISK THAT IS WELL, and a log over it: the mathematics. -/
namespace Go.Proofs.YtbdhmkfdofkloaaGreatDoor
open Go.RowKit
open Sc

theorem dec_ne (u : Nat) : Lib.decDigits u ≠ [] := by
  rw [Lib.decDigits]; split <;> simp
theorem dig_inj {a b : Nat} (ha : a < 10) (hb : b < 10) (h : UInt8.ofNat (48 + a) = UInt8.ofNat (48 + b)) : a = b := by
  have h2 := congrArg UInt8.toNat h
  simp at h2
  omega
theorem dec_inj : ∀ (n a b : Nat), a < n → Lib.decDigits a = Lib.decDigits b → a = b := by
  intro n
  induction n with
  | zero => intro a b h; omega
  | succ n ih =>
    intro a b hn h
    rw [Lib.decDigits, Lib.decDigits.eq_def b] at h
    split at h
    · split at h
      · rename_i ha hb
        simp only [List.cons.injEq, and_true] at h
        exact dig_inj ha hb h
      · have := congrArg List.length h
        have h3 : 0 < (Lib.decDigits (b / 10)).length := List.length_pos_iff.2 (dec_ne _)
        rw [List.length_append] at this; simp only [List.length_cons, List.length_nil] at this; omega
    · split at h
      · have := congrArg List.length h
        have h3 : 0 < (Lib.decDigits (a / 10)).length := List.length_pos_iff.2 (dec_ne _)
        rw [List.length_append] at this; simp only [List.length_cons, List.length_nil] at this; omega
      · rename_i ha hb
        obtain ⟨h1, h2⟩ := List.append_inj' h rfl
        simp only [List.cons.injEq, and_true] at h2
        have h3 := dig_inj (by omega) (by omega) h2
        have h4 := ih (a / 10) (b / 10) (by omega) h1
        omega
theorem segName_data (u : Nat) : (segName u).data.toList = [115, 101, 103, 109, 101, 110, 116, 45] ++ Lib.decDigits u := by
  unfold segName
  rw [ByteArray.data_append]
  simp
theorem segName_inj {a b : Nat} (h : segName a = segName b) : a = b := by
  have h2 := congrArg (fun x : ByteArray => x.data.toList) h
  simp only [segName_data] at h2
  exact dec_inj (a + 1) a b (by omega) (List.append_cancel_left h2)
theorem segName_mark (u : Nat) : segName u ≠ markNm ∧ segName u ≠ markNew := by
  constructor
  · intro h
    have h2 := congrArg (fun x : ByteArray => x.data.toList) h
    simp only [segName_data] at h2
    simp [markNm] at h2
  · intro h
    have h2 := congrArg (fun x : ByteArray => x.data.toList) h
    simp only [segName_data] at h2
    simp [markNew] at h2

/-! ### the segments -/
def starts : Nat → List (List Rec) → List Nat
  | _, [] => []
  | n, c :: cs => n :: starts (n + c.length) cs
theorem starts_len : ∀ (cs : List (List Rec)) (n : Nat), (starts n cs).length = cs.length
  | [], _ => rfl
  | c :: cs, n => by simp [starts, starts_len cs]
theorem starts_at : ∀ (cs : List (List Rec)) (n k : Nat), k < cs.length → (starts n cs)[k]? = some (n + (cs.take k).flatten.length)
  | [], _, _, h => absurd h (by simp)
  | c :: cs, n, 0, _ => by simp [starts]
  | c :: cs, n, k + 1, h => by
    have := starts_at cs (n + c.length) k (by simpa using h)
    simp only [starts, List.getElem?_cons_succ, this]
    simp; omega
theorem starts_snoc : ∀ (cs : List (List Rec)) (n : Nat) (c : List Rec), starts n (cs ++ [c]) = starts n cs ++ [n + cs.flatten.length]
  | [], _, _ => by simp [starts]
  | b :: cs, n, c => by
    simp only [List.cons_append, starts, starts_snoc cs]
    simp; omega
theorem starts_drop : ∀ (cs : List (List Rec)) (n k : Nat), (starts n cs).drop k = starts (n + (cs.take k).flatten.length) (cs.drop k)
  | [], _, k => by simp [starts]
  | c :: cs, n, 0 => by simp
  | c :: cs, n, k + 1 => by
    simp only [starts, List.drop_succ_cons, starts_drop cs]
    simp [Nat.add_assoc]
theorem starts_set : ∀ (cs : List (List Rec)) (n : Nat) (a b : List Rec), starts n (cs ++ [a]) = starts n (cs ++ [b]) := by
  intro cs n a b; rw [starts_snoc, starts_snoc]
theorem starts_asc : ∀ (cs : List (List Rec)) (n : Nat), (∀ c ∈ cs, c ≠ []) → (starts n cs).Pairwise (· < ·) ∧ ∀ s ∈ starts n cs, n ≤ s
  | [], _, _ => by simp [starts]
  | c :: cs, n, h => by
    obtain ⟨h1, h2⟩ := starts_asc cs (n + c.length) (fun d hd => h d (by simp [hd]))
    have hc : 0 < c.length := List.length_pos_iff.2 (h c (by simp))
    refine ⟨?_, ?_⟩
    · simp only [starts, List.pairwise_cons]
      exact ⟨fun s hs => by have := h2 s hs; omega, h1⟩
    · intro s hs
      simp only [starts, List.mem_cons] at hs
      rcases hs with e | hs
      · omega
      · have := h2 s hs; omega
theorem belowFrom_spec {segs : List Nat} {low : Nat} : ∀ (f k : Nat), (belowFrom segs low f k = k ∨ ∃ x, segs[belowFrom segs low f k]? = some x ∧ x ≤ low) ∧ (segs.length ≤ k + f → ∀ x, segs[belowFrom segs low f k + 1]? = some x → low < x) := by
  intro f
  induction f with
  | zero =>
    intro k
    refine ⟨.inl rfl, fun h x hx => ?_⟩
    rw [List.getElem?_eq_none (by simpa [belowFrom] using by omega)] at hx
    cases hx
  | succ f ih =>
    intro k
    by_cases hk : k + 1 < segs.length
    · obtain ⟨s, hs⟩ : ∃ s, segs[k + 1]? = some s := ⟨_, List.getElem?_eq_getElem hk⟩
      by_cases hl : s ≤ low
      · rw [below_step hs hl]
        obtain ⟨h1, h2⟩ := ih (k + 1)
        refine ⟨.inr ?_, fun h => h2 (by omega)⟩
        rcases h1 with e | h1
        · rw [e]; exact ⟨s, hs, hl⟩
        · exact h1
      · rw [below_stop hs hl]
        refine ⟨.inl rfl, fun _ x hx => ?_⟩
        rw [hs] at hx; cases hx; omega
    · rw [below_none (by omega)]
      refine ⟨.inl rfl, fun _ x hx => ?_⟩
      rw [List.getElem?_eq_none (by omega)] at hx; cases hx
theorem segsBelow_spec (segs : List Nat) (low : Nat) : (segsBelow segs low = 0 ∨ ∃ x, segs[segsBelow segs low]? = some x ∧ x ≤ low) ∧ ∀ x, segs[segsBelow segs low + 1]? = some x → low < x := by
  obtain ⟨h1, h2⟩ := belowFrom_spec (segs := segs) (low := low) segs.length 0
  exact ⟨h1, h2 (by omega)⟩
/-- the bytes of records -/
def bytesR : List Rec → Nat
  | [] => 0
  | r :: l => 15 + r.pay.length + bytesR l
theorem bytesR_app (a b : List Rec) : bytesR (a ++ b) = bytesR a + bytesR b := by
  induction a with
  | nil => simp [bytesR]
  | cons r a ih => simp [bytesR, ih]; omega
end Go.Proofs.YtbdhmkfdofkloaaGreatDoor
/- A LOG OVER A DISK THAT IS WELL: what it has, what its calls leave. -/
namespace Go.Proofs.YtbdhmkfdofkloaaGreatDoor
open Go.RowKit
open Sc

section
variable {l : ALog} {d : ADisk} {fst c : Nat} {cs : List (List Rec)}
theorem flat_split (k : Nat) (cs : List (List Rec)) : cs.flatten = (cs.take k).flatten ++ (cs.drop k).flatten := by
  rw [← List.flatten_append, List.take_append_drop]
theorem flat_snoc (cs : List (List Rec)) (a : List Rec) : (cs ++ [a]).flatten = cs.flatten ++ a := by simp
theorem nums_snoc {L : List Rec} {f : Nat} (h : ∀ (k : Nat) (r : Rec), L[k]? = some r → r.lsn = f + k) (x : Rec) (hx : x.lsn = f + L.length) : ∀ (k : Nat) (r : Rec), (L ++ [x])[k]? = some r → r.lsn = f + k := by
  intro k r hr
  rw [List.getElem?_append] at hr
  split at hr
  · exact h k r hr
  · rename_i hk
    have : k - L.length = 0 := by
      have := (List.getElem?_eq_some_iff.1 hr).1
      simp at this; omega
    rw [this] at hr
    simp at hr
    subst hr
    omega
end
end Go.Proofs.YtbdhmkfdofkloaaGreatDoor
/- HOSTS: before, after, and a log's calls. -/
namespace Go.Proofs.YtbdhmkfdofkloaaGreatDoor
open Go.RowKit
open Sc

abbrev hostO (p : Nat) (up : Bool) (lv : Value) : Obj := .cells #[.int .i64 1, .int .i64 0, .pointer (some ⟨p, 0, none⟩), .bool up, lv, .pointer none, .pointer none, .pointer none] 63
abbrev fallV (a b c d : Int) : Value := .agg #[.int .i64 a, .int .i64 b, .int .i64 c, .int .i64 d]
def ADisk.knob (d : ADisk) (a b : Int) : ADisk := { d with left := a, full := b }
set_option maxRecDepth 100000 in
set_option maxHeartbeats 1000000 in
theorem before_any (hp p bD bN : Nat) (pv lv : Value) (up dn : Bool) (l f a b c k : Int) (w : World) (hh : w.heap[hp]? = some (hostO p up lv)) (hd : w.heap[p]? = some (dskO bD bN pv l f dn)) :
    Calls Tryz.prog 20 #[.pointer (some ⟨hp, 0, none⟩), fallV a b c k] w fun e w' => e = .returned (.tuple #[]) ∧ w'.heap[p]? = some (dskO bD bN pv a b dn) ∧ Fr [p] w w' := by
  have hhl : hp < w.heap.size := (Array.getElem?_eq_some_iff.1 hh).1
  have hpl : p < w.heap.size := (Array.getElem?_eq_some_iff.1 hd).1
  have hne : ¬ hp = p := by intro e; subst e; rw [hh] at hd; cases hd
  have hne2 : ¬ p = hp := fun e => hne e.symm
  have hz1 : ¬ p = w.heap.size := by omega
  have hz2 : ¬ w.heap.size = p := by omega
  obtain ⟨W, hW⟩ : ∃ W, W = w.alloc (.cells #[.int .i64 a, .int .i64 b, .int .i64 c, .int .i64 k] 30) := ⟨_, rfl⟩
  have hhW : W.heap[hp]? = some (hostO p up lv) := by rw [hW, Below.heap_alloc w _ hp hhl]; exact hh
  have hdW : W.heap[p]? = some (dskO bD bN pv l f dn) := by rw [hW, Below.heap_alloc w _ p hpl]; exact hd
  have hfW : W.heap[w.heap.size]? = some (.cells #[.int .i64 a, .int .i64 b, .int .i64 c, .int .i64 k] 30 (0, 0)) := by rw [hW]; exact heap_alloc_new w _
  have c2 := blk_cell hhW 2
  have c3 := blk_cell hdW 3
  have c4 := blk_cell hdW 4
  have c5 := blk_cell hdW 5
  have f3 := blk_free hdW 3
  have f4 := blk_free hdW 4
  have x0 := blk_cell hfW 0
  have x1 := blk_cell hfW 1
  simp at c2 c3 c4 c5 x0 x1
  have HD : Hid (W.heap[p]? = some (dskO bD bN pv l f dn)) := hdW
  have HF : Hid (Fr [p] w W) := by rw [hW]; exact (Fr.refl [p] w).alloc _
  clear hd hh hhW hdW hfW
  clear c5
  go_enter Tryz.func20, Tryz.ntmps20
  go_wp2
  rw [← hW]
  clear hW
  go_region_held3 (fun w' => w'.cell? ⟨hp, 2, none⟩ = some (.pointer (some ⟨p, 0, none⟩)) ∧ w'.cell? ⟨w.heap.size, 0, none⟩ = some (.int .i64 a) ∧ w'.cell? ⟨w.heap.size, 1, none⟩ = some (.int .i64 b)) (simp [setCell_far, *]) (fail)
  go_end0
  refine ⟨rfl, ?_, HF.out.trans (((Fr.set1 (by simp) _ _).trans (Fr.set1 (by simp) _ _)).drew)⟩
  have := blk_set (blk_set HD.out 3 (.int .i64 a)) 4 (.int .i64 b)
  simp at this
  exact this
set_option maxRecDepth 100000 in
set_option maxHeartbeats 1000000 in
theorem after_well (hp p bD bN : Nat) (pv lv : Value) (up : Bool) (l f a b c k : Int) (w : World) (hh : w.heap[hp]? = some (hostO p up lv)) (hd : w.heap[p]? = some (dskO bD bN pv l f false)) :
    Calls Tryz.prog 27 #[.pointer (some ⟨hp, 0, none⟩), fallV a b c k] w fun e w' => e = .returned (.tuple #[]) ∧ w'.heap[p]? = some (dskO bD bN pv (-1) (-1) false) ∧ Fr [p] w w' := by
  have hhl : hp < w.heap.size := (Array.getElem?_eq_some_iff.1 hh).1
  have hpl : p < w.heap.size := (Array.getElem?_eq_some_iff.1 hd).1
  have hne : ¬ hp = p := by intro e; subst e; rw [hh] at hd; cases hd
  have hne2 : ¬ p = hp := fun e => hne e.symm
  have hz1 : ¬ p = w.heap.size := by omega
  have hz2 : ¬ w.heap.size = p := by omega
  obtain ⟨W, hW⟩ : ∃ W, W = w.alloc (.cells #[.int .i64 a, .int .i64 b, .int .i64 c, .int .i64 k] 30) := ⟨_, rfl⟩
  have hhW : W.heap[hp]? = some (hostO p up lv) := by rw [hW, Below.heap_alloc w _ hp hhl]; exact hh
  have hdW : W.heap[p]? = some (dskO bD bN pv l f false) := by rw [hW, Below.heap_alloc w _ p hpl]; exact hd
  have hfW : W.heap[w.heap.size]? = some (.cells #[.int .i64 a, .int .i64 b, .int .i64 c, .int .i64 k] 30 (0, 0)) := by rw [hW]; exact heap_alloc_new w _
  have c2 := blk_cell hhW 2
  have c3 := blk_cell hdW 3
  have c4 := blk_cell hdW 4
  have c5 := blk_cell hdW 5
  have f3 := blk_free hdW 3
  have f4 := blk_free hdW 4
  have x0 := blk_cell hfW 0
  have x1 := blk_cell hfW 1
  simp at c2 c3 c4 c5 x0 x1
  have HD : Hid (W.heap[p]? = some (dskO bD bN pv l f false)) := hdW
  have HF : Hid (Fr [p] w W) := by rw [hW]; exact (Fr.refl [p] w).alloc _
  clear hd hh hhW hdW hfW
  go_enter Tryz.func27, Tryz.ntmps27
  have d2 := c2
  have d5 := c5
  rw [hW] at d2 d5
  go_wp2
  rw [← hW]
  clear hW d2 d5
  go_region_held3 (fun w' => w'.cell? ⟨hp, 2, none⟩ = some (.pointer (some ⟨p, 0, none⟩))) (simp [setCell_far, *]) (fail)
  go_end0
  refine ⟨rfl, ?_, HF.out.trans (((Fr.set1 (by simp) _ _).trans (Fr.set1 (by simp) _ _)).drew)⟩
  have := blk_set (blk_set HD.out 3 (.int .i64 (-1))) 4 (.int .i64 (-1))
  simp at this
  exact this
section
variable {w w' : World} {B hp lp p bD bN n nD nN : Nat} {pv sv rv : Value} {l : ALog} {d : ADisk}
theorem LogIn.knob (h : LogIn w B lp p bD bN pv sv rv l d n nD nN) (a b : Int) (hf : Fr [p] w w') (hb : w'.heap[p]? = some (dskO bD bN pv a b d.down)) :
    LogIn w' B lp p bD bN pv sv rv l (d.knob a b) n nD nN ∧ OFr lp p w w' := by
  have h1 : LogIn w' B lp p bD bN pv sv rv l (d.knob a b) n nD nN := h.turned (h.disk.turn hf a b d.down hb) hf (fun k hk _ => h.sep k (by simp at hk; simp [hk])) (Nat.le_refl _)
  exact ⟨h1, h.ofr h1 hf (fun k hk _ => by simp at hk; simp [hk]) (.inl rfl) (Near.refl _ _) (Near.refl _ _) (Near.refl _ _)⟩
theorem OFr.low (hf : OFr lp p w w') (h : LogIn w B lp p bD bN pv sv rv l d n nD nN) {k : Nat} (hk : k < B) : w'.heap[k]? = w.heap[k]? :=
  hf.block k (Nat.lt_of_lt_of_le hk h.disk.base.2.2.2) (fun ho => by have := h.ge ho; omega)
theorem OFr.met (hf : OFr lp p w w') (h : LogIn w B lp p bD bN pv sv rv l d n nD nN) (hB : 2 ≤ B) (hm : Met w) : Met w' := by
  unfold Met at *
  rw [World.cell?_of_block (a := ⟨0, 0, none⟩) (hf.low h (by show 0 < B; omega))]; exact hm
theorem OFr.pows (hf : OFr lp p w w') (h : LogIn w B lp p bD bN pv sv rv l d n nD nN) (hB : 2 ≤ B) (hm : Pows w) : Pows w' :=
  hm.of_block (hf.low h (by omega))
theorem OFr.host (hf : OFr lp p w w') (h : LogIn w B lp p bD bN pv sv rv l d n nD nN) {up : Bool} {lv : Value} (hh : w.heap[hp]? = some (hostO p up lv)) : w'.heap[hp]? = some (hostO p up lv) :=
  (hf.block hp (Array.getElem?_eq_some_iff.1 hh).1 (h.free hh (by decide) (by decide) (by decide) (by decide) (by decide))).trans hh
end
/-- an open host of a log -/
structure HostIn (w : World) (B hp lp p bD bN : Nat) (l : ALog) (d : ADisk) (n : Nat) : Prop where
  blk : w.heap[hp]? = some (hostO p true (.pointer (some ⟨lp, 0, none⟩)))
  log : ∃ pv sv rv nD nN, LogIn w B lp p bD bN pv sv rv l d n nD nN
/-- the answer of Told -/
theorem told_any (c : Nat) (w : World) (hg : Met w) : Calls Tryz.prog 28 #[errN c] w fun e w' => e = .returned (.int .i64 (c : Int)) ∧ Fr [] w w' := by
  by_cases hc : c = 0
  · subst hc
    rw [errN_ok]
    refine (told_nil w).mono ?_
    rintro e w1 ⟨rfl, hb⟩
    exact ⟨rfl, Fr.of_below hb _⟩
  · rw [errN_no hc]
    refine (told_err (c : Int) w hg).mono ?_
    rintro e w1 ⟨rfl, hb⟩
    exact ⟨rfl, Fr.of_below hb _⟩
end Go.Proofs.YtbdhmkfdofkloaaGreatDoor
/- THE BOOK, the mathematics: a log as it must stand, over a disk that is well. -/
namespace Go.Proofs.YtbdhmkfdofkloaaGreatDoor
open Go.RowKit
open Sc

structure ABook where
  all : List Rec
  forced : Nat
  low : Nat
  must : Nat
  tries : Nat
section
variable {b : ABook} {l : ALog} {d : ADisk} {fst t : Nat} {cs : List (List Rec)}
/-- the book behind a Cut -/
def ABook.cut (b : ABook) (top : Nat) : ABook := ⟨b.all, b.all.length, if b.low < top then top else b.low, if b.must < top then top else b.must, if b.tries < top then top else b.tries⟩
end
end Go.Proofs.YtbdhmkfdofkloaaGreatDoor
/- (*disk).Read. -/
namespace Go.Proofs.YtbdhmkfdofkloaaGreatDoor
open Go.RowKit
open Sc

/-- Read: the text, the error's number -/
def ADisk.read (d : ADisk) (nm : ByteArray) : Option ByteArray × Nat :=
  if d.down = true then (none, 10) else match d.now nm with | none => (none, 8) | some t => (some t, 0)
/-- what came of Read -/
def Got (t : Option ByteArray) (v : Value) (w' : World) : Prop :=
  match t with
  | none => v = .slice none 0 0
  | some t => Src w' v (bytesOf t)
def ReadPost (d : ADisk) (nm : ByteArray) (w : World) (e : Ending) (w' : World) : Prop :=
  ∃ v, e = .returned (.tuple #[v, errN (d.read nm).2]) ∧ Got (d.read nm).1 v w' ∧ Below w.heap.size w w'
set_option maxRecDepth 100000 in
set_option maxHeartbeats 1000000 in
theorem read_any (B p bD bN n nD nN : Nat) (pv : Value) (d : ADisk) (nm : ByteArray) (w : World) (h : DiskIn w B p bD bN pv d n nD nN) (hnm : nm.size ≤ maxLen) :
    Calls Tryz.prog 237 #[.pointer (some ⟨p, 0, none⟩), .string nm] w (ReadPost d nm w) := by
  have p1 := blk_cell h.blk 1
  have p5 := blk_cell h.blk 5
  simp at p1 p5
  have HI : Hid (DiskIn w B p bD bN pv d n nD nN) := h
  clear h
  cases hd : d.down with
  | true =>
    rw [hd] at p5
    have HD : Hid (d.down = true) := hd
    clear hd
    go_enter Tryz.func237, Tryz.ntmps237
    go_wp2
    go_ret2
    have e : d.read nm = (none, 10) := by unfold ADisk.read; rw [if_pos HD.out]
    refine ⟨.slice none 0 0, by rw [e]; rfl, by rw [e]; rfl, Below.refl _ _⟩
  | false =>
    rw [hd] at p5
    have HD : Hid (d.down = false) := hd
    clear hd
    rcases HI.out.now.look nm hnm with ⟨hN, hl⟩ | ⟨t, q, hN, hq, hl⟩
    · have HN : Hid (d.now nm = none) := hN
      clear hN
      go_enter Tryz.func237, Tryz.ntmps237
      go_wp2
      go_ret2
      have e : d.read nm = (none, 8) := by unfold ADisk.read; rw [if_neg (by rw [HD.out]; decide), HN.out]
      refine ⟨.slice none 0 0, by rw [e]; rfl, by rw [e]; rfl, Below.refl _ _⟩
    · have HN : Hid (d.now nm = some t) := hN
      have hc := text_cell hq
      have hsz : t.size ≤ maxLen := by
        have h1 := HI.out.leN nm t hN
        have h2 := HI.out.hN
        have h3 := HI.out.hn
        unfold maxLen
        omega
      have hrb := run_bytes w t
      clear hN hq
      go_enter Tryz.func237, Tryz.ntmps237
      go_wp2
      go_ret2
      have e : d.read nm = (some t, 0) := by unfold ADisk.read; rw [if_neg (by rw [HD.out]; decide), HN.out]
      refine ⟨_, by rw [e]; rfl, by rw [e]; exact src_str w t hsz, ?_⟩
      exact (Below.refl _ _).drew.alloc (Nat.le_refl _) _
end Go.Proofs.YtbdhmkfdofkloaaGreatDoor
/- OPENING OVER NOTHING: the small calls. -/
namespace Go.Proofs.YtbdhmkfdofkloaaGreatDoor
open Go.RowKit Go.Maps
open Sc

set_option maxRecDepth 100000 in
set_option maxHeartbeats 2000000 in
theorem insert_nil (w : World) : Calls Tryz.prog 172 #[.slice none 0 0, .int .i64 0, .int .i64 0] w fun e w' => e = .returned (.tuple #[]) ∧ w' = w := by
  go_enter Tryz.func172, Tryz.ntmps172
  go_wp2
  refine wp_loop_rounds 1 ?_
  rw [rounds_succ]
  go_wp2
  go_end0
  exact ⟨rfl, rfl⟩
set_option maxRecDepth 100000 in
set_option maxHeartbeats 2000000 in
theorem pdq_nil (k : Int) (w : World) : Calls Tryz.prog 147 #[.slice none 0 0, .int .i64 0, .int .i64 0, .int .i64 k] w fun e w' => e = .returned (.tuple #[]) ∧ w' = w := by
  go_enter Tryz.func147, Tryz.ntmps147
  go_wp2
  refine wp_loop_rounds 1 ?_
  rw [rounds_succ]
  go_wp2_with fail
  refine (insert_nil w).mono ?_
  rintro e w1 ⟨rfl, rfl⟩
  go_wp2
  refine bodyPost_ret (results_none rfl _ _ _) rfl ?_
  exact ⟨rfl, rfl⟩
set_option maxRecDepth 100000 in
set_option maxHeartbeats 2000000 in
theorem sortU_nil (w : World) : Calls Tryz.prog 115 #[.slice none 0 0] w fun e w' => e = .returned (.tuple #[]) ∧ w' = w := by
  go_enter Tryz.func115, Tryz.ntmps115
  go_wp2_with fail
  refine (Tryz.bits_Len 0 w (by omega) (by omega)).mono ?_
  rintro e w1 ⟨rfl, rfl⟩
  go_wp2_with fail
  refine (pdq_nil _ w1).mono ?_
  rintro e w1 ⟨rfl, rfl⟩
  go_wp2
  go_end0
  exact ⟨rfl, rfl⟩
set_option maxRecDepth 100000 in
set_option maxHeartbeats 2000000 in
theorem search_nil (x : Int) (w : World) : Calls Tryz.prog 88 #[.slice none 0 0, .int .u64 x] w fun e w' => e = .returned (.tuple #[.int .i64 0, .bool false]) ∧ w' = w := by
  go_enter Tryz.func88, Tryz.ntmps88
  go_wp2
  refine wp_loop_rounds 1 ?_
  rw [rounds_succ]
  go_wp2
  go_ret2
  exact ⟨rfl, rfl⟩
set_option maxRecDepth 100000 in
set_option maxHeartbeats 2000000 in
theorem readMark_none (B p bD bN n nD nN : Nat) (pv : Value) (d : ADisk) (w : World) (h : DiskIn w B p bD bN pv d n nD nN) (hdn : d.down = false) (hno : d.now markNm = none) :
    Calls Tryz.prog 86 #[dskV p] w fun e w' => e = .returned (.tuple #[.int .u64 1, .nilIface]) ∧ Below w.heap.size w w' := by
  have hm := Tryz.mRead
  have hr := read_any B p bD bN n nD nN pv d markNm w h (by decide)
  have e : d.read markNm = (none, 8) := by unfold ADisk.read; rw [if_neg (by rw [hdn]; decide), hno]
  clear h
  go_enter Tryz.func86, Tryz.ntmps86
  go_wp2_with fail
  refine hr.mono ?_
  clear hr
  rintro e1 w1 ⟨v, rfl, hgot, hb⟩
  rw [e] at hgot ⊢
  obtain rfl : v = .slice none 0 0 := hgot
  rw [errN_no (by decide)]
  go_wp2_with fail
  refine (is_same 8 w1).mono ?_
  rintro e2 w2 ⟨rfl, rfl⟩
  go_wp2
  go_ret2
  exact ⟨rfl, hb⟩
end Go.Proofs.YtbdhmkfdofkloaaGreatDoor
/- OPENING OVER NOTHING: (*Log).read, journal.Open. -/
namespace Go.Proofs.YtbdhmkfdofkloaaGreatDoor
open Go.RowKit
open Sc

def log0 (nx : Nat) : ALog := ⟨[], 600, [], nx, 0, 0⟩
/-- the disk turned by itself, under a log -/
theorem LogIn.dturned {w w' : World} {B lp p bD bN n nD nN nD' nN' : Nat} {pv sv rv pv' : Value} {l : ALog} {d d' : ADisk} (h : LogIn w B lp p bD bN pv sv rv l d n nD nN) (hd : DiskIn w' B p bD bN pv' d' n nD' nN') (hf : DFr p w w') : LogIn w' B lp p bD bN pv' sv rv l d' n nD' nN' ∧ OFr lp p w w' := by
  have hlp := (Array.getElem?_eq_some_iff.1 h.blk).1
  have hne : ∀ k, k < w.heap.size → (k = lp ∨ sv.ownBlock = some k ∨ rv.ownBlock = some k) → ¬ OwnD p w k := fun k _ hk ho => by
    have := h.sep k ((h.disk.ownD k).1 ho)
    rcases hk with e | e | e
    · exact this.1 e
    · exact this.2.1 e
    · exact this.2.2 e
  have hblk : w'.heap[lp]? = some (logO p sv rv l) := (hf.block lp hlp (hne lp hlp (.inl rfl))).trans h.blk
  have hrow : ∀ (e : TypeId) (k m : Nat) (v : Value) (xs : List Value), (∀ g, v.ownBlock = some g → g = lp ∨ sv.ownBlock = some g ∨ rv.ownBlock = some g) → w.ownsRow B e k v m xs → w'.ownsRow B e k v m xs := fun e k m v xs hv hr => by
    refine ⟨hr.1, ?_⟩
    rcases hr.2 with h1 | ⟨g, cap, cur, rfl, h2, h3, h4⟩
    · exact .inl h1
    · exact .inr ⟨g, cap, cur, rfl, h2, (hf.block g (Array.getElem?_eq_some_iff.1 h3).1 (hne g (Array.getElem?_eq_some_iff.1 h3).1 (hv g rfl))).trans h3, h4⟩
  have hl : LogIn w' B lp p bD bN pv' sv rv l d' n nD' nN' := { disk := hd, blk := hblk, base := h.base, segs := hrow _ _ _ _ _ (fun g hg => .inr (.inl hg)) h.segs, recs := hrow _ _ _ _ _ (fun g hg => .inr (.inr hg)) h.recs, segsN := h.segsN, recsN := h.recsN, fillN := h.fillN, nextN := h.nextN, durN := h.durN }
  refine ⟨hl, hf.os, hf.tape, hf.output, hf.size, fun k hk hn => hf.block k hk (fun ho => hn ?_), fun k hk ho => ?_⟩
  · rw [h.own]
    have := (h.disk.ownD k).1 ho
    simp at this
    rcases this with e | e | e | e <;> simp [e]
  · rw [h.own]
    rcases (hl.own k).1 ho with e | e | e | e | e | e | e
    · exact .inl e
    · exact .inr (.inl e)
    · exact .inr (.inr (.inl e))
    · exact .inr (.inr (.inr (.inl e)))
    · have := (h.disk.ownD k).1 (hf.stay k hk ((hd.ownD k).2 (by simp [e])))
      simp at this
      rcases this with e | e | e | e <;> simp [e]
    · exact .inr (.inr (.inr (.inr (.inr (.inl e)))))
    · exact .inr (.inr (.inr (.inr (.inr (.inr e)))))
end Go.Proofs.YtbdhmkfdofkloaaGreatDoor
/- OPENING OVER NOTHING: journal.Open, shardcommit.OpenLog. -/
namespace Go.Proofs.YtbdhmkfdofkloaaGreatDoor
open Go.RowKit
open Sc

theorem DFr.ofO {w Wl w' : World} {B lp p bD bN n nD nN n' nD' nN' n2 nD2 nN2 : Nat} {pv pv' sv' rv' : Value} {l l' : ALog} {d d' d2 : ADisk} (h : DiskIn w B p bD bN pv d2 n2 nD2 nN2) (hl : LogIn Wl B lp p bD bN pv (.slice none 0 0) (.slice none 0 0) l d n nD nN) (hf : Fr [] w Wl) (hlp : w.heap.size ≤ lp) (ho : OFr lp p Wl w') (hl' : LogIn w' B lp p bD bN pv' sv' rv' l' d' n' nD' nN') : DFr p w w' := by
  have key : ∀ k, k < w.heap.size → Own lp p Wl k → OwnD p w k := fun k hk hO => by
    rw [h.ownD]
    rcases (hl.own k).1 hO with e | e | e | e | e | e | e
    · omega
    · simp [e]
    · simp [e]
    · simp [e]
    · simp [e]
    · cases e
    · cases e
  refine ⟨ho.os.trans hf.os, ho.tape.trans hf.tape, ho.output.trans hf.output, Nat.le_trans hf.size ho.size, fun k hk hn => ?_, fun k hk hD => ?_⟩
  · exact (ho.block k (Nat.lt_of_lt_of_le hk hf.size) (fun hO => hn (key k hk hO))).trans (hf.block k hk (by simp))
  · refine key k hk (ho.stay k (Nat.lt_of_lt_of_le hk hf.size) ?_)
    have := (hl'.disk.ownD k).1 hD
    rw [hl'.own]
    simp at this
    rcases this with e | e | e | e <;> simp [e]
end Go.Proofs.YtbdhmkfdofkloaaGreatDoor
/- HOSTS: a log's Append, Force, Cut; Next, Is. (Written by mkhost.py.) -/
namespace Go.Proofs.YtbdhmkfdofkloaaGreatDoor
open Go.RowKit
open Sc

abbrev fallO (a b c d : Int) : Obj := .cells #[.int .i64 a, .int .i64 b, .int .i64 c, .int .i64 d] 30
/-- what stands behind a host's call -/
def HostPost (B hp lp p bD bN n : Nat) (v : Value) (l : ALog) (d : ADisk) (w : World) (e : Ending) (w' : World) : Prop :=
  e = .returned v ∧ HostIn w' B hp lp p bD bN l (d.knob (-1) (-1)) n ∧ OFr lp p w w'
theorem OFr.fall {w w' : World} {B lp p bD bN n nD nN q : Nat} {pv sv rv : Value} {l : ALog} {d : ADisk} {a b c k : Int} (hf : OFr lp p w w') (h : LogIn w B lp p bD bN pv sv rv l d n nD nN) (hh : w.heap[q]? = some (fallO a b c k)) : w'.heap[q]? = some (fallO a b c k) :=
  (hf.block q (Array.getElem?_eq_some_iff.1 hh).1 (h.free hh (by decide) (by decide) (by decide) (by decide) (by decide))).trans hh
/-- behind after and Told -/
theorem hostEnd {B hp lp p bD bN n : Nat} {l : ALog} {d : ADisk} {w w1 w2 w3 : World} {pv sv rv : Value} {nD nN : Nat} (h1 : LogIn w1 B lp p bD bN pv sv rv l d n nD nN) (ho1 : OFr lp p w w1) (hh1 : w1.heap[hp]? = some (hostO p true (.pointer (some ⟨lp, 0, none⟩)))) (hdn : d.down = false)
    (hf2 : Fr [p] w1 w2) (hb2 : w2.heap[p]? = some (dskO bD bN pv (-1) (-1) false)) (hf3 : Fr [] w2 w3) : HostIn w3 B hp lp p bD bN l (d.knob (-1) (-1)) n ∧ OFr lp p w w3 := by
  rw [← hdn] at hb2
  obtain ⟨h2, ho2⟩ := h1.knob (-1) (-1) hf2 hb2
  have h3 := h2.new hf3
  have ho3 := h2.newO hf3
  have ho := (ho1.trans ho2).trans ho3
  exact ⟨⟨(ho2.trans ho3).host h1 hh1, _, _, _, _, _, h3⟩, ho⟩
set_option maxRecDepth 100000 in
set_option maxHeartbeats 4000000 in
theorem hAppend (B hp lp p bD bN n : Nat) (kind : Nat) (s : ByteArray) (l : ALog) (d : ADisk) (a b c k : Int) (w : World) (h : HostIn w B hp lp p bD bN l d n) (hB : 2 ≤ B) (hmet : Met w) (hk : kind < 256) (hn : n + 3 < 1000000000) (hsg : l.filled < 600 → l.segs ≠ []) (hpow : Pows w)
    (hdn : (l.append (d.knob a b) kind s).2.1.down = false) :
    Calls Tryz.prog 9 #[.pointer (some ⟨hp, 0, none⟩), .int .u8 (kind : Int), .string s, fallV a b c k] w
      (HostPost B hp lp p bD bN (n + 3) (.tuple #[.int .u64 ((l.append (d.knob a b) kind s).2.2.1 : Int), .int .i64 ((l.append (d.knob a b) kind s).2.2.2 : Int)]) (l.append (d.knob a b) kind s).1 (l.append (d.knob a b) kind s).2.1 w) := by
  obtain ⟨hh, pv, sv, rv, nD, nN, hl⟩ := h
  obtain ⟨W, hW⟩ : ∃ W, W = w.alloc (fallO a b c k) := ⟨_, rfl⟩
  have hf0 : Fr [] w W := by rw [hW]; exact (Fr.refl [] w).alloc _
  have hl0 := hl.new hf0
  have ho0 := hl.newO hf0
  have hh0 := ho0.host hl hh
  have hx0 : W.heap[w.heap.size]? = some (fallO a b c k) := by rw [hW]; exact heap_alloc_new w _
  have c4 := blk_cell hh0 4
  have x0 := blk_cell hx0 0
  have x1 := blk_cell hx0 1
  have x2 := blk_cell hx0 2
  have x3 := blk_cell hx0 3
  simp at c4 x0 x1 x2 x3
  rw [hW] at c4 x0 x1 x2 x3
  have HH : Hid (W.heap[hp]? = some (hostO p true (.pointer (some ⟨lp, 0, none⟩)))) := hh0
  have HX : Hid (W.heap[w.heap.size]? = some (fallO a b c k)) := hx0
  have HL : Hid (LogIn W B lp p bD bN pv sv rv l d n nD nN) := hl0
  have HO : Hid (OFr lp p w W) := ho0
  have HLw : Hid (LogIn w B lp p bD bN pv sv rv l d n nD nN) := hl
  clear hh hl hf0 hl0 ho0 hh0 hx0
  go_enter Tryz.func9, Tryz.ntmps9
  go_wp2_with fail
  rw [← hW]
  clear hW c4 x0 x1 x2 x3
  refine (before_any hp p bD bN pv _ true d.down d.left d.full a b c k W HH.out HL.out.disk.blk).mono ?_
  rintro e w1 ⟨rfl, hb1, hf1⟩
  obtain ⟨hl1, ho1⟩ := HL.out.knob a b hf1 hb1
  have HL1 : Hid (LogIn w1 B lp p bD bN pv sv rv l (d.knob a b) n nD nN) := hl1
  have HO1 : Hid (OFr lp p w w1) := HO.out.trans ho1
  have hh1 := ho1.host HL.out HH.out
  have k4 := blk_cell hh1 4
  simp at k4
  have HH1 : Hid (w1.heap[hp]? = some (hostO p true (.pointer (some ⟨lp, 0, none⟩)))) := hh1
  have HX1 : Hid (w1.heap[w.heap.size]? = some (fallO a b c k)) := ho1.fall HL.out HX.out
  have hpow1 : Pows w1 := HO1.out.pows HLw.out hB hpow
  clear hl1 ho1 hh1 hb1 hf1
  go_wp2_with fail
  have hap : Calls Tryz.prog 29 #[.pointer (some ⟨lp, 0, none⟩), .int .u8 (kind : Int), .string s] w1 (AppPost B lp p bD bN (n + 3) (l.append (d.knob a b) kind s) w1) := by
    by_cases hs : 255 < s.size
    · refine (lappend_no B lp p bD bN n nD nN kind pv sv rv l (d.knob a b) s w1 HL1.out hs (by omega)).mono ?_
      rintro e w2 ⟨he, ⟨pv2, sv2, rv2, nD2, nN2, hl2⟩, ho2⟩
      exact ⟨he, ⟨pv2, sv2, rv2, nD2, nN2, hl2.mores (by omega) (by omega)⟩, ho2⟩
    · exact lappend_yes B lp p bD bN n nD nN kind pv sv rv l (d.knob a b) s w1 HL1.out (by omega) hk (by omega) hB hsg hpow1
  refine hap.mono ?_
  clear hap
  obtain ⟨r, hr⟩ : ∃ r, r = l.append (d.knob a b) kind s := ⟨_, rfl⟩
  rw [← hr] at hdn
  rintro e w2 hpost
  rw [← hr] at hpost
  have HR : Hid (r = l.append (d.knob a b) kind s) := hr
  clear hr
  obtain ⟨rfl, ⟨pv2, sv2, rv2, nD2, nN2, hl2⟩, ho2⟩ := hpost
  have HL2 : Hid (LogIn w2 B lp p bD bN pv2 sv2 rv2 r.1 r.2.1 (n + 3) nD2 nN2) := hl2
  have HO2 : Hid (OFr lp p w w2) := HO1.out.trans ho2
  have hh2 := ho2.host HL1.out HH1.out
  have HH2 : Hid (w2.heap[hp]? = some (hostO p true (.pointer (some ⟨lp, 0, none⟩)))) := hh2
  have hx2 := ho2.fall HL1.out HX1.out
  have y0 := blk_cell hx2 0
  have y1 := blk_cell hx2 1
  have y2 := blk_cell hx2 2
  have y3 := blk_cell hx2 3
  simp at y0 y1 y2 y3
  have hmet2 : Met w2 := HO2.out.met HLw.out hB hmet
  clear hl2 ho2 hh2 k4 hx2
  go_wp2_with fail
  have hbd := HL2.out.disk.blk
  rw [hdn] at hbd
  refine (after_well hp p bD bN pv2 _ true r.2.1.left r.2.1.full a b c k w2 HH2.out hbd).mono ?_
  rintro e w3 ⟨rfl, hb3, hf3⟩
  have hmet3 : Met w3 := by
    have := (HL2.out.knob (-1) (-1) hf3 (by rw [hdn]; exact hb3)).2
    exact this.met HL2.out hB hmet2
  have HB3 : Hid (w3.heap[p]? = some (dskO bD bN pv2 (-1) (-1) false) ∧ Fr [p] w2 w3) := ⟨hb3, hf3⟩
  clear hb3 hf3 hbd y0 y1 y2 y3
  go_wp2_with fail
  refine (told_any r.2.2.2 w3 hmet3).mono ?_
  rintro e w4 ⟨rfl, hf4⟩
  have HF4 : Hid (Fr [] w3 w4) := hf4
  clear hf4
  go_wp2
  go_ret2
  obtain ⟨z1, z2⟩ := hostEnd HL2.out HO2.out HH2.out hdn HB3.out.2 HB3.out.1 HF4.out
  have hr := HR.out
  subst hr
  exact ⟨rfl, z1, z2⟩
set_option maxRecDepth 100000 in
set_option maxHeartbeats 4000000 in
theorem hForce (B hp lp p bD bN n : Nat) (l : ALog) (d : ADisk) (a b c k : Int) (w : World) (h : HostIn w B hp lp p bD bN l d n) (hB : 2 ≤ B) (hmet : Met w) (hn : n ≤ 1000000000)
    (hdn : (l.force (d.knob a b)).2.1.down = false) :
    Calls Tryz.prog 10 #[.pointer (some ⟨hp, 0, none⟩), fallV a b c k] w
      (HostPost B hp lp p bD bN (n) (.int .i64 ((l.force (d.knob a b)).2.2 : Int)) (l.force (d.knob a b)).1 (l.force (d.knob a b)).2.1 w) := by
  obtain ⟨hh, pv, sv, rv, nD, nN, hl⟩ := h
  obtain ⟨W, hW⟩ : ∃ W, W = w.alloc (fallO a b c k) := ⟨_, rfl⟩
  have hf0 : Fr [] w W := by rw [hW]; exact (Fr.refl [] w).alloc _
  have hl0 := hl.new hf0
  have ho0 := hl.newO hf0
  have hh0 := ho0.host hl hh
  have hx0 : W.heap[w.heap.size]? = some (fallO a b c k) := by rw [hW]; exact heap_alloc_new w _
  have c4 := blk_cell hh0 4
  have x0 := blk_cell hx0 0
  have x1 := blk_cell hx0 1
  have x2 := blk_cell hx0 2
  have x3 := blk_cell hx0 3
  simp at c4 x0 x1 x2 x3
  rw [hW] at c4 x0 x1 x2 x3
  have HH : Hid (W.heap[hp]? = some (hostO p true (.pointer (some ⟨lp, 0, none⟩)))) := hh0
  have HX : Hid (W.heap[w.heap.size]? = some (fallO a b c k)) := hx0
  have HL : Hid (LogIn W B lp p bD bN pv sv rv l d n nD nN) := hl0
  have HO : Hid (OFr lp p w W) := ho0
  have HLw : Hid (LogIn w B lp p bD bN pv sv rv l d n nD nN) := hl
  clear hh hl hf0 hl0 ho0 hh0 hx0
  go_enter Tryz.func10, Tryz.ntmps10
  go_wp2_with fail
  rw [← hW]
  clear hW c4 x0 x1 x2 x3
  refine (before_any hp p bD bN pv _ true d.down d.left d.full a b c k W HH.out HL.out.disk.blk).mono ?_
  rintro e w1 ⟨rfl, hb1, hf1⟩
  obtain ⟨hl1, ho1⟩ := HL.out.knob a b hf1 hb1
  have HL1 : Hid (LogIn w1 B lp p bD bN pv sv rv l (d.knob a b) n nD nN) := hl1
  have HO1 : Hid (OFr lp p w w1) := HO.out.trans ho1
  have hh1 := ho1.host HL.out HH.out
  have k4 := blk_cell hh1 4
  simp at k4
  have HH1 : Hid (w1.heap[hp]? = some (hostO p true (.pointer (some ⟨lp, 0, none⟩)))) := hh1
  have HX1 : Hid (w1.heap[w.heap.size]? = some (fallO a b c k)) := ho1.fall HL.out HX.out
  clear hl1 ho1 hh1 hb1 hf1
  go_wp2_with fail
  have hap := force_any B lp p bD bN n nD nN pv sv rv l (d.knob a b) w1 HL1.out hn
  refine hap.mono ?_
  clear hap
  obtain ⟨r, hr⟩ : ∃ r, r = l.force (d.knob a b) := ⟨_, rfl⟩
  rw [← hr] at hdn
  rintro e w2 hpost
  rw [← hr] at hpost
  have HR : Hid (r = l.force (d.knob a b)) := hr
  clear hr
  obtain ⟨rfl, ⟨pv2, sv2, rv2, nD2, nN2, hl2⟩, ho2⟩ := hpost
  have HL2 : Hid (LogIn w2 B lp p bD bN pv2 sv2 rv2 r.1 r.2.1 (n) nD2 nN2) := hl2
  have HO2 : Hid (OFr lp p w w2) := HO1.out.trans ho2
  have hh2 := ho2.host HL1.out HH1.out
  have HH2 : Hid (w2.heap[hp]? = some (hostO p true (.pointer (some ⟨lp, 0, none⟩)))) := hh2
  have hx2 := ho2.fall HL1.out HX1.out
  have y0 := blk_cell hx2 0
  have y1 := blk_cell hx2 1
  have y2 := blk_cell hx2 2
  have y3 := blk_cell hx2 3
  simp at y0 y1 y2 y3
  have hmet2 : Met w2 := HO2.out.met HLw.out hB hmet
  clear hl2 ho2 hh2 k4 hx2
  go_wp2_with fail
  have hbd := HL2.out.disk.blk
  rw [hdn] at hbd
  refine (after_well hp p bD bN pv2 _ true r.2.1.left r.2.1.full a b c k w2 HH2.out hbd).mono ?_
  rintro e w3 ⟨rfl, hb3, hf3⟩
  have hmet3 : Met w3 := by
    have := (HL2.out.knob (-1) (-1) hf3 (by rw [hdn]; exact hb3)).2
    exact this.met HL2.out hB hmet2
  have HB3 : Hid (w3.heap[p]? = some (dskO bD bN pv2 (-1) (-1) false) ∧ Fr [p] w2 w3) := ⟨hb3, hf3⟩
  clear hb3 hf3 hbd y0 y1 y2 y3
  go_wp2_with fail
  refine (told_any r.2.2 w3 hmet3).mono ?_
  rintro e w4 ⟨rfl, hf4⟩
  have HF4 : Hid (Fr [] w3 w4) := hf4
  clear hf4
  go_wp2
  go_ret
  obtain ⟨z1, z2⟩ := hostEnd HL2.out HO2.out HH2.out hdn HB3.out.2 HB3.out.1 HF4.out
  have hr := HR.out
  subst hr
  exact ⟨rfl, z1, z2⟩
set_option maxRecDepth 100000 in
set_option maxHeartbeats 4000000 in
theorem hCut (B hp lp p bD bN n : Nat) (low : Nat) (l : ALog) (d : ADisk) (a b c k : Int) (w : World) (h : HostIn w B hp lp p bD bN l d n) (hB : 2 ≤ B) (hmet : Met w) (hn : n + 2 + l.segs.length ≤ 1000000000) (hpow : Pows w) (hinv : l.failed = 0 → ∀ k s : Nat, l.segs[k]? = some s → ∃ r rs, l.recs = r :: rs ∧ r.lsn ≤ s ∧ s - r.lsn < l.recs.length)
    (hdn : (l.cut (d.knob a b) low).2.1.down = false) :
    Calls Tryz.prog 37 #[.pointer (some ⟨hp, 0, none⟩), .int .u64 (low : Int), fallV a b c k] w
      (HostPost B hp lp p bD bN (n + 2 + l.segs.length) (.int .i64 ((l.cut (d.knob a b) low).2.2 : Int)) (l.cut (d.knob a b) low).1 (l.cut (d.knob a b) low).2.1 w) := by
  obtain ⟨hh, pv, sv, rv, nD, nN, hl⟩ := h
  obtain ⟨W, hW⟩ : ∃ W, W = w.alloc (fallO a b c k) := ⟨_, rfl⟩
  have hf0 : Fr [] w W := by rw [hW]; exact (Fr.refl [] w).alloc _
  have hl0 := hl.new hf0
  have ho0 := hl.newO hf0
  have hh0 := ho0.host hl hh
  have hx0 : W.heap[w.heap.size]? = some (fallO a b c k) := by rw [hW]; exact heap_alloc_new w _
  have c4 := blk_cell hh0 4
  have x0 := blk_cell hx0 0
  have x1 := blk_cell hx0 1
  have x2 := blk_cell hx0 2
  have x3 := blk_cell hx0 3
  simp at c4 x0 x1 x2 x3
  rw [hW] at c4 x0 x1 x2 x3
  have HH : Hid (W.heap[hp]? = some (hostO p true (.pointer (some ⟨lp, 0, none⟩)))) := hh0
  have HX : Hid (W.heap[w.heap.size]? = some (fallO a b c k)) := hx0
  have HL : Hid (LogIn W B lp p bD bN pv sv rv l d n nD nN) := hl0
  have HO : Hid (OFr lp p w W) := ho0
  have HLw : Hid (LogIn w B lp p bD bN pv sv rv l d n nD nN) := hl
  clear hh hl hf0 hl0 ho0 hh0 hx0
  go_enter Tryz.func37, Tryz.ntmps37
  go_wp2_with fail
  rw [← hW]
  clear hW c4 x0 x1 x2 x3
  refine (before_any hp p bD bN pv _ true d.down d.left d.full a b c k W HH.out HL.out.disk.blk).mono ?_
  rintro e w1 ⟨rfl, hb1, hf1⟩
  obtain ⟨hl1, ho1⟩ := HL.out.knob a b hf1 hb1
  have HL1 : Hid (LogIn w1 B lp p bD bN pv sv rv l (d.knob a b) n nD nN) := hl1
  have HO1 : Hid (OFr lp p w w1) := HO.out.trans ho1
  have hh1 := ho1.host HL.out HH.out
  have k4 := blk_cell hh1 4
  simp at k4
  have HH1 : Hid (w1.heap[hp]? = some (hostO p true (.pointer (some ⟨lp, 0, none⟩)))) := hh1
  have HX1 : Hid (w1.heap[w.heap.size]? = some (fallO a b c k)) := ho1.fall HL.out HX.out
  have hpow1 : Pows w1 := HO1.out.pows HLw.out hB hpow
  clear hl1 ho1 hh1 hb1 hf1
  go_wp2_with fail
  have hap := cut_any B lp p bD bN n nD nN low pv sv rv l (d.knob a b) w1 HL1.out hn hB hpow1 hinv
  refine hap.mono ?_
  clear hap
  obtain ⟨r, hr⟩ : ∃ r, r = l.cut (d.knob a b) low := ⟨_, rfl⟩
  rw [← hr] at hdn
  rintro e w2 hpost
  rw [← hr] at hpost
  have HR : Hid (r = l.cut (d.knob a b) low) := hr
  clear hr
  obtain ⟨rfl, ⟨pv2, sv2, rv2, nD2, nN2, hl2⟩, ho2⟩ := hpost
  have HL2 : Hid (LogIn w2 B lp p bD bN pv2 sv2 rv2 r.1 r.2.1 (n + 2 + l.segs.length) nD2 nN2) := hl2
  have HO2 : Hid (OFr lp p w w2) := HO1.out.trans ho2
  have hh2 := ho2.host HL1.out HH1.out
  have HH2 : Hid (w2.heap[hp]? = some (hostO p true (.pointer (some ⟨lp, 0, none⟩)))) := hh2
  have hx2 := ho2.fall HL1.out HX1.out
  have y0 := blk_cell hx2 0
  have y1 := blk_cell hx2 1
  have y2 := blk_cell hx2 2
  have y3 := blk_cell hx2 3
  simp at y0 y1 y2 y3
  have hmet2 : Met w2 := HO2.out.met HLw.out hB hmet
  clear hl2 ho2 hh2 k4 hx2
  go_wp2_with fail
  have hbd := HL2.out.disk.blk
  rw [hdn] at hbd
  refine (after_well hp p bD bN pv2 _ true r.2.1.left r.2.1.full a b c k w2 HH2.out hbd).mono ?_
  rintro e w3 ⟨rfl, hb3, hf3⟩
  have hmet3 : Met w3 := by
    have := (HL2.out.knob (-1) (-1) hf3 (by rw [hdn]; exact hb3)).2
    exact this.met HL2.out hB hmet2
  have HB3 : Hid (w3.heap[p]? = some (dskO bD bN pv2 (-1) (-1) false) ∧ Fr [p] w2 w3) := ⟨hb3, hf3⟩
  clear hb3 hf3 hbd y0 y1 y2 y3
  go_wp2_with fail
  refine (told_any r.2.2 w3 hmet3).mono ?_
  rintro e w4 ⟨rfl, hf4⟩
  have HF4 : Hid (Fr [] w3 w4) := hf4
  clear hf4
  go_wp2
  go_ret
  obtain ⟨z1, z2⟩ := hostEnd HL2.out HO2.out HH2.out hdn HB3.out.2 HB3.out.1 HF4.out
  have hr := HR.out
  subst hr
  exact ⟨rfl, z1, z2⟩
set_option maxHeartbeats 1000000 in
theorem hNext (B hp lp p bD bN n : Nat) (l : ALog) (d : ADisk) (w : World) (h : HostIn w B hp lp p bD bN l d n) :
    Calls Tryz.prog 33 #[.pointer (some ⟨hp, 0, none⟩)] w fun e w' => e = .returned (.int .u64 (l.next : Int)) ∧ w' = w := by
  obtain ⟨hh, pv, sv, rv, nD, nN, hl⟩ := h
  have c4 := blk_cell hh 4
  have m4 := blk_cell hl.blk 4
  simp at c4 m4
  have hnx : Calls Tryz.prog 56 #[.pointer (some ⟨lp, 0, none⟩)] w fun e w' => e = .returned (.int .u64 (l.next : Int)) ∧ w' = w := by
    go_enter Tryz.func56, Tryz.ntmps56
    go_wp2
    go_ret
    exact ⟨rfl, rfl⟩
  clear hh hl
  go_enter Tryz.func33, Tryz.ntmps33
  go_wp2_with fail
  refine hnx.mono ?_
  rintro e w1 ⟨rfl, rfl⟩
  go_wp2
  go_ret
  exact ⟨rfl, rfl⟩
set_option maxHeartbeats 1000000 in
theorem hIs (p hp : Nat) (up : Bool) (lv : Value) (w : World) (hh : w.heap[hp]? = some (hostO p up lv)) :
    Calls Tryz.prog 15 #[.pointer (some ⟨hp, 0, none⟩)] w fun e w' => e = .returned (.bool up) ∧ w' = w := by
  have c3 := blk_cell hh 3
  simp at c3
  go_enter Tryz.func15, Tryz.ntmps15
  go_wp2
  go_ret
  exact ⟨rfl, rfl⟩
end Go.Proofs.YtbdhmkfdofkloaaGreatDoor
