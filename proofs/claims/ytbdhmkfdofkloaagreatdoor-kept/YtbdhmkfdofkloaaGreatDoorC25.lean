import Derived.Test.YtbdhmkfdofkloaaGreatDoorC23
import Derived.Test.YtbdhmkfdofkloaaGreatDoorC22
import Derived.Test.YtbdhmkfdofkloaaGreatDoorC13
import Derived.Test.YtbdhmkfdofkloaaGreatDoorC24
import Derived.Lib.SmallJoins
import Derived.Test.YtbdhmkfdofkloaaGreatDoorC07
/- (*Log).Cut. -/
namespace Go.Proofs.YtbdhmkfdofkloaaGreatDoor
open Go.RowKit
open Sc

theorem setCell_far (w : World) (a i b j : Nat) (v : Value) (h : b ≠ a) : (w.setCell ⟨a, i, none⟩ v).cell? ⟨b, j, none⟩ = w.cell? ⟨b, j, none⟩ :=
  World.cell?_of_block (a := ⟨b, j, none⟩) (by
    by_cases hb : b < w.heap.size
    · exact (Fr.set1 (w := w) (p := a) (S := [a]) (by simp) i v).block b hb (by simpa using h)
    · rw [Array.getElem?_eq_none (by simpa using hb), Array.getElem?_eq_none (by simpa using hb)])
/-- what Cut leaves of the log, and says -/
def ALog.cut (l : ALog) (d : ADisk) (low : Nat) : ALog × ADisk × Nat :=
  if segsBelow l.segs low = 0 then l.wr d (l.sync d) else
    let gone := segsBelow l.segs low
    let first := l.segs.getD gone 0
    let r := l.wr d (l.cutS d gone first)
    if r.2.2 = 0 then ({ r.1 with recs := r.1.recs.drop (first - (r.1.recs.headD ⟨0, 0, []⟩).lsn), segs := r.1.segs.drop gone }, r.2.1, 0) else r
end Go.Proofs.YtbdhmkfdofkloaaGreatDoor
/- HOSTS: before, after, and a log's calls. -/
namespace Go.Proofs.YtbdhmkfdofkloaaGreatDoor
open Go.RowKit
open Sc

abbrev hostO (p : Nat) (up : Bool) (lv : Value) : Obj := .cells #[.int .i64 1, .int .i64 0, .pointer (some ⟨p, 0, none⟩), .bool up, lv, .pointer none, .pointer none, .pointer none] 63
abbrev fallV (a b c d : Int) : Value := .agg #[.int .i64 a, .int .i64 b, .int .i64 c, .int .i64 d]
def ADisk.knob (d : ADisk) (a b : Int) : ADisk := { d with left := a, full := b }
set_option maxRecDepth 100000 in
set_option maxHeartbeats 1000000 in
theorem before_any (hp p bD bN : Nat) (pv lv : Value) (up dn : Bool) (l f a b c k : Int) (w : World) (hh : w.heap[hp]? = some (hostO p up lv)) (hd : w.heap[p]? = some (dskO bD bN pv l f dn)) :
    Calls Tryz.prog 20 #[.pointer (some ⟨hp, 0, none⟩), fallV a b c k] w fun e w' => e = .returned (.tuple #[]) ∧ w'.heap[p]? = some (dskO bD bN pv a b dn) ∧ Fr [p] w w' := by
  have hhl : hp < w.heap.size := (Array.getElem?_eq_some_iff.1 hh).1
  have hpl : p < w.heap.size := (Array.getElem?_eq_some_iff.1 hd).1
  have hne : ¬ hp = p := by intro e; subst e; rw [hh] at hd; cases hd
  have hne2 : ¬ p = hp := fun e => hne e.symm
  have hz1 : ¬ p = w.heap.size := by omega
  have hz2 : ¬ w.heap.size = p := by omega
  obtain ⟨W, hW⟩ : ∃ W, W = w.alloc (.cells #[.int .i64 a, .int .i64 b, .int .i64 c, .int .i64 k] 30) := ⟨_, rfl⟩
  have hhW : W.heap[hp]? = some (hostO p up lv) := by rw [hW, Below.heap_alloc w _ hp hhl]; exact hh
  have hdW : W.heap[p]? = some (dskO bD bN pv l f dn) := by rw [hW, Below.heap_alloc w _ p hpl]; exact hd
  have hfW : W.heap[w.heap.size]? = some (.cells #[.int .i64 a, .int .i64 b, .int .i64 c, .int .i64 k] 30 (0, 0)) := by rw [hW]; exact heap_alloc_new w _
  have c2 := blk_cell hhW 2
  have c3 := blk_cell hdW 3
  have c4 := blk_cell hdW 4
  have c5 := blk_cell hdW 5
  have f3 := blk_free hdW 3
  have f4 := blk_free hdW 4
  have x0 := blk_cell hfW 0
  have x1 := blk_cell hfW 1
  simp at c2 c3 c4 c5 x0 x1
  have HD : Hid (W.heap[p]? = some (dskO bD bN pv l f dn)) := hdW
  have HF : Hid (Fr [p] w W) := by rw [hW]; exact (Fr.refl [p] w).alloc _
  clear hd hh hhW hdW hfW
  clear c5
  go_enter Tryz.func20, Tryz.ntmps20
  go_wp2
  rw [← hW]
  clear hW
  go_region_held3 (fun w' => w'.cell? ⟨hp, 2, none⟩ = some (.pointer (some ⟨p, 0, none⟩)) ∧ w'.cell? ⟨w.heap.size, 0, none⟩ = some (.int .i64 a) ∧ w'.cell? ⟨w.heap.size, 1, none⟩ = some (.int .i64 b)) (simp [setCell_far, *]) (fail)
  go_end0
  refine ⟨rfl, ?_, HF.out.trans (((Fr.set1 (by simp) _ _).trans (Fr.set1 (by simp) _ _)).drew)⟩
  have := blk_set (blk_set HD.out 3 (.int .i64 a)) 4 (.int .i64 b)
  simp at this
  exact this
set_option maxRecDepth 100000 in
set_option maxHeartbeats 1000000 in
theorem after_well (hp p bD bN : Nat) (pv lv : Value) (up : Bool) (l f a b c k : Int) (w : World) (hh : w.heap[hp]? = some (hostO p up lv)) (hd : w.heap[p]? = some (dskO bD bN pv l f false)) :
    Calls Tryz.prog 27 #[.pointer (some ⟨hp, 0, none⟩), fallV a b c k] w fun e w' => e = .returned (.tuple #[]) ∧ w'.heap[p]? = some (dskO bD bN pv (-1) (-1) false) ∧ Fr [p] w w' := by
  have hhl : hp < w.heap.size := (Array.getElem?_eq_some_iff.1 hh).1
  have hpl : p < w.heap.size := (Array.getElem?_eq_some_iff.1 hd).1
  have hne : ¬ hp = p := by intro e; subst e; rw [hh] at hd; cases hd
  have hne2 : ¬ p = hp := fun e => hne e.symm
  have hz1 : ¬ p = w.heap.size := by omega
  have hz2 : ¬ w.heap.size = p := by omega
  obtain ⟨W, hW⟩ : ∃ W, W = w.alloc (.cells #[.int .i64 a, .int .i64 b, .int .i64 c, .int .i64 k] 30) := ⟨_, rfl⟩
  have hhW : W.heap[hp]? = some (hostO p up lv) := by rw [hW, Below.heap_alloc w _ hp hhl]; exact hh
  have hdW : W.heap[p]? = some (dskO bD bN pv l f false) := by rw [hW, Below.heap_alloc w _ p hpl]; exact hd
  have hfW : W.heap[w.heap.size]? = some (.cells #[.int .i64 a, .int .i64 b, .int .i64 c, .int .i64 k] 30 (0, 0)) := by rw [hW]; exact heap_alloc_new w _
  have c2 := blk_cell hhW 2
  have c3 := blk_cell hdW 3
  have c4 := blk_cell hdW 4
  have c5 := blk_cell hdW 5
  have f3 := blk_free hdW 3
  have f4 := blk_free hdW 4
  have x0 := blk_cell hfW 0
  have x1 := blk_cell hfW 1
  simp at c2 c3 c4 c5 x0 x1
  have HD : Hid (W.heap[p]? = some (dskO bD bN pv l f false)) := hdW
  have HF : Hid (Fr [p] w W) := by rw [hW]; exact (Fr.refl [p] w).alloc _
  clear hd hh hhW hdW hfW
  go_enter Tryz.func27, Tryz.ntmps27
  have d2 := c2
  have d5 := c5
  rw [hW] at d2 d5
  go_wp2
  rw [← hW]
  clear hW d2 d5
  go_region_held3 (fun w' => w'.cell? ⟨hp, 2, none⟩ = some (.pointer (some ⟨p, 0, none⟩))) (simp [setCell_far, *]) (fail)
  go_end0
  refine ⟨rfl, ?_, HF.out.trans (((Fr.set1 (by simp) _ _).trans (Fr.set1 (by simp) _ _)).drew)⟩
  have := blk_set (blk_set HD.out 3 (.int .i64 (-1))) 4 (.int .i64 (-1))
  simp at this
  exact this
section
variable {w w' : World} {B hp lp p bD bN n nD nN : Nat} {pv sv rv : Value} {l : ALog} {d : ADisk}
theorem LogIn.knob (h : LogIn w B lp p bD bN pv sv rv l d n nD nN) (a b : Int) (hf : Fr [p] w w') (hb : w'.heap[p]? = some (dskO bD bN pv a b d.down)) :
    LogIn w' B lp p bD bN pv sv rv l (d.knob a b) n nD nN ∧ OFr lp p w w' := by
  have h1 : LogIn w' B lp p bD bN pv sv rv l (d.knob a b) n nD nN := h.turned (h.disk.turn hf a b d.down hb) hf (fun k hk _ => h.sep k (by simp at hk; simp [hk])) (Nat.le_refl _)
  exact ⟨h1, h.ofr h1 hf (fun k hk _ => by simp at hk; simp [hk]) (.inl rfl) (Near.refl _ _) (Near.refl _ _) (Near.refl _ _)⟩
theorem OFr.low (hf : OFr lp p w w') (h : LogIn w B lp p bD bN pv sv rv l d n nD nN) {k : Nat} (hk : k < B) : w'.heap[k]? = w.heap[k]? :=
  hf.block k (Nat.lt_of_lt_of_le hk h.disk.base.2.2.2) (fun ho => by have := h.ge ho; omega)
theorem OFr.met (hf : OFr lp p w w') (h : LogIn w B lp p bD bN pv sv rv l d n nD nN) (hB : 2 ≤ B) (hm : Met w) : Met w' := by
  unfold Met at *
  rw [World.cell?_of_block (a := ⟨0, 0, none⟩) (hf.low h (by show 0 < B; omega))]; exact hm
theorem OFr.pows (hf : OFr lp p w w') (h : LogIn w B lp p bD bN pv sv rv l d n nD nN) (hB : 2 ≤ B) (hm : Pows w) : Pows w' :=
  hm.of_block (hf.low h (by omega))
theorem OFr.host (hf : OFr lp p w w') (h : LogIn w B lp p bD bN pv sv rv l d n nD nN) {up : Bool} {lv : Value} (hh : w.heap[hp]? = some (hostO p up lv)) : w'.heap[hp]? = some (hostO p up lv) :=
  (hf.block hp (Array.getElem?_eq_some_iff.1 hh).1 (h.free hh (by decide) (by decide) (by decide) (by decide) (by decide))).trans hh
end
/-- an open host of a log -/
structure HostIn (w : World) (B hp lp p bD bN : Nat) (l : ALog) (d : ADisk) (n : Nat) : Prop where
  blk : w.heap[hp]? = some (hostO p true (.pointer (some ⟨lp, 0, none⟩)))
  log : ∃ pv sv rv nD nN, LogIn w B lp p bD bN pv sv rv l d n nD nN
/-- the answer of Told -/
theorem told_any (c : Nat) (w : World) (hg : Met w) : Calls Tryz.prog 28 #[errN c] w fun e w' => e = .returned (.int .i64 (c : Int)) ∧ Fr [] w w' := by
  by_cases hc : c = 0
  · subst hc
    rw [errN_ok]
    refine (told_nil w).mono ?_
    rintro e w1 ⟨rfl, hb⟩
    exact ⟨rfl, Fr.of_below hb _⟩
  · rw [errN_no hc]
    refine (told_err (c : Int) w hg).mono ?_
    rintro e w1 ⟨rfl, hb⟩
    exact ⟨rfl, Fr.of_below hb _⟩
end Go.Proofs.YtbdhmkfdofkloaaGreatDoor
/- OPENING OVER NOTHING: journal.Open, shardcommit.OpenLog. -/
namespace Go.Proofs.YtbdhmkfdofkloaaGreatDoor
open Go.RowKit
open Sc

theorem DFr.ofO {w Wl w' : World} {B lp p bD bN n nD nN n' nD' nN' n2 nD2 nN2 : Nat} {pv pv' sv' rv' : Value} {l l' : ALog} {d d' d2 : ADisk} (h : DiskIn w B p bD bN pv d2 n2 nD2 nN2) (hl : LogIn Wl B lp p bD bN pv (.slice none 0 0) (.slice none 0 0) l d n nD nN) (hf : Fr [] w Wl) (hlp : w.heap.size ≤ lp) (ho : OFr lp p Wl w') (hl' : LogIn w' B lp p bD bN pv' sv' rv' l' d' n' nD' nN') : DFr p w w' := by
  have key : ∀ k, k < w.heap.size → Own lp p Wl k → OwnD p w k := fun k hk hO => by
    rw [h.ownD]
    rcases (hl.own k).1 hO with e | e | e | e | e | e | e
    · omega
    · simp [e]
    · simp [e]
    · simp [e]
    · simp [e]
    · cases e
    · cases e
  refine ⟨ho.os.trans hf.os, ho.tape.trans hf.tape, ho.output.trans hf.output, Nat.le_trans hf.size ho.size, fun k hk hn => ?_, fun k hk hD => ?_⟩
  · exact (ho.block k (Nat.lt_of_lt_of_le hk hf.size) (fun hO => hn (key k hk hO))).trans (hf.block k hk (by simp))
  · refine key k hk (ho.stay k (Nat.lt_of_lt_of_le hk hf.size) ?_)
    have := (hl'.disk.ownD k).1 hD
    rw [hl'.own]
    simp at this
    rcases this with e | e | e | e <;> simp [e]
end Go.Proofs.YtbdhmkfdofkloaaGreatDoor
/- RECOVERY: readOn, read, of a log of one segment. -/
namespace Go.Proofs.YtbdhmkfdofkloaaGreatDoor
open Go.RowKit Go.Maps
open Sc

theorem recsV_one (rs : List Rec) : ∀ u ∈ recsV rs, u.oneCell' = true := by
  intro u hu
  obtain ⟨r, _, hr⟩ := List.mem_flatMap.1 hu
  simp [recCells] at hr
  rcases hr with rfl | rfl | rfl <;> rfl
end Go.Proofs.YtbdhmkfdofkloaaGreatDoor
/- A DISK THAT IS WELL, and a log over it: the mathematics. -/
namespace Go.Proofs.YtbdhmkfdofkloaaGreatDoor
open Go.RowKit
open Sc

theorem dec_ne (u : Nat) : Lib.decDigits u ≠ [] := by
  rw [Lib.decDigits]; split <;> simp
theorem dig_inj {a b : Nat} (ha : a < 10) (hb : b < 10) (h : UInt8.ofNat (48 + a) = UInt8.ofNat (48 + b)) : a = b := by
  have h2 := congrArg UInt8.toNat h
  simp at h2
  omega
theorem dec_inj : ∀ (n a b : Nat), a < n → Lib.decDigits a = Lib.decDigits b → a = b := by
  intro n
  induction n with
  | zero => intro a b h; omega
  | succ n ih =>
    intro a b hn h
    rw [Lib.decDigits, Lib.decDigits.eq_def b] at h
    split at h
    · split at h
      · rename_i ha hb
        simp only [List.cons.injEq, and_true] at h
        exact dig_inj ha hb h
      · have := congrArg List.length h
        have h3 : 0 < (Lib.decDigits (b / 10)).length := List.length_pos_iff.2 (dec_ne _)
        rw [List.length_append] at this; simp only [List.length_cons, List.length_nil] at this; omega
    · split at h
      · have := congrArg List.length h
        have h3 : 0 < (Lib.decDigits (a / 10)).length := List.length_pos_iff.2 (dec_ne _)
        rw [List.length_append] at this; simp only [List.length_cons, List.length_nil] at this; omega
      · rename_i ha hb
        obtain ⟨h1, h2⟩ := List.append_inj' h rfl
        simp only [List.cons.injEq, and_true] at h2
        have h3 := dig_inj (by omega) (by omega) h2
        have h4 := ih (a / 10) (b / 10) (by omega) h1
        omega
theorem segName_data (u : Nat) : (segName u).data.toList = [115, 101, 103, 109, 101, 110, 116, 45] ++ Lib.decDigits u := by
  unfold segName
  rw [ByteArray.data_append]
  simp
theorem segName_inj {a b : Nat} (h : segName a = segName b) : a = b := by
  have h2 := congrArg (fun x : ByteArray => x.data.toList) h
  simp only [segName_data] at h2
  exact dec_inj (a + 1) a b (by omega) (List.append_cancel_left h2)
theorem segName_mark (u : Nat) : segName u ≠ markNm ∧ segName u ≠ markNew := by
  constructor
  · intro h
    have h2 := congrArg (fun x : ByteArray => x.data.toList) h
    simp only [segName_data] at h2
    simp [markNm] at h2
  · intro h
    have h2 := congrArg (fun x : ByteArray => x.data.toList) h
    simp only [segName_data] at h2
    simp [markNew] at h2

/-- a disk that is well, so many calls behind its beginning -/
structure ADisk.Well (d : ADisk) (c : Nat) : Prop where
  up : d.down = false
  left : -1 - (c : Int) ≤ d.left ∧ d.left < 0
  full : -1 - (c : Int) ≤ d.full ∧ d.full < 0
theorem writesW {d : ADisk} {c : Nat} (h : d.Well c) (hc : c < 1099511627776) : d.writes.2 = 0 ∧ d.writes.1.Well (c + 1) ∧ d.writes.1.now = d.now ∧ d.writes.1.pending = d.pending := by
  have h1 := h.left
  have h2 := h.full
  have e := wr_ok (d := d) (by rw [h.up]; simp; omega) (by omega)
  have e1 : wrap64 (d.left - 1) = d.left - 1 := by unfold wrap64; omega
  have e2 : wrap64 (d.full - 1) = d.full - 1 := by unfold wrap64; omega
  rw [e1, e2] at e
  rw [e]
  exact ⟨rfl, ⟨h.up, by simp; omega, by simp; omega⟩, rfl, rfl⟩
theorem syncW {d : ADisk} {c : Nat} (h : d.Well c) (hc : c < 1099511627776) : d.sync.2 = 0 ∧ d.sync.1.Well (c + 1) ∧ d.sync.1.now = d.now := by
  obtain ⟨a1, a2, a3, a4⟩ := writesW h hc
  rw [sync_ok a1]
  exact ⟨rfl, ⟨a2.up, a2.left, a2.full⟩, a3⟩
theorem tellW {d : ADisk} {c : Nat} {o : AOp} (h : d.Well c) (hc : c < 1099511627776) (h1 : 2 < o.kind → d.now o.name ≠ none) (h2 : ¬ (o.kind = 4 ∧ o.name = o.to)) :
    (d.tell o).2 = 0 ∧ (d.tell o).1.Well (c + 1) ∧ (d.tell o).1.now = doOp d.now o := by
  obtain ⟨a1, a2, a3, a4⟩ := writesW h hc
  have e : d.tell o = ({ d.writes.1 with now := doOp d.writes.1.now o, pending := d.writes.1.pending ++ [o] }, 0) := by
    unfold ADisk.tell
    simp only
    rw [a1, if_neg (by omega), if_neg (by omega), if_neg (by rw [a3]; rintro ⟨x, y⟩; exact h1 y x), if_neg h2]
  rw [e]
  refine ⟨rfl, ⟨a2.up, a2.left, a2.full⟩, ?_⟩
  simp only
  rw [a3]
/-! ### the segments -/
def starts : Nat → List (List Rec) → List Nat
  | _, [] => []
  | n, c :: cs => n :: starts (n + c.length) cs
theorem starts_len : ∀ (cs : List (List Rec)) (n : Nat), (starts n cs).length = cs.length
  | [], _ => rfl
  | c :: cs, n => by simp [starts, starts_len cs]
theorem starts_at : ∀ (cs : List (List Rec)) (n k : Nat), k < cs.length → (starts n cs)[k]? = some (n + (cs.take k).flatten.length)
  | [], _, _, h => absurd h (by simp)
  | c :: cs, n, 0, _ => by simp [starts]
  | c :: cs, n, k + 1, h => by
    have := starts_at cs (n + c.length) k (by simpa using h)
    simp only [starts, List.getElem?_cons_succ, this]
    simp; omega
theorem starts_snoc : ∀ (cs : List (List Rec)) (n : Nat) (c : List Rec), starts n (cs ++ [c]) = starts n cs ++ [n + cs.flatten.length]
  | [], _, _ => by simp [starts]
  | b :: cs, n, c => by
    simp only [List.cons_append, starts, starts_snoc cs]
    simp; omega
theorem starts_set : ∀ (cs : List (List Rec)) (n : Nat) (a b : List Rec), starts n (cs ++ [a]) = starts n (cs ++ [b]) := by
  intro cs n a b; rw [starts_snoc, starts_snoc]
theorem starts_asc : ∀ (cs : List (List Rec)) (n : Nat), (∀ c ∈ cs, c ≠ []) → (starts n cs).Pairwise (· < ·) ∧ ∀ s ∈ starts n cs, n ≤ s
  | [], _, _ => by simp [starts]
  | c :: cs, n, h => by
    obtain ⟨h1, h2⟩ := starts_asc cs (n + c.length) (fun d hd => h d (by simp [hd]))
    have hc : 0 < c.length := List.length_pos_iff.2 (h c (by simp))
    refine ⟨?_, ?_⟩
    · simp only [starts, List.pairwise_cons]
      exact ⟨fun s hs => by have := h2 s hs; omega, h1⟩
    · intro s hs
      simp only [starts, List.mem_cons] at hs
      rcases hs with e | hs
      · omega
      · have := h2 s hs; omega
/-- the bytes of records -/
def bytesR : List Rec → Nat
  | [] => 0
  | r :: l => 15 + r.pay.length + bytesR l
theorem bytesR_app (a b : List Rec) : bytesR (a ++ b) = bytesR a + bytesR b := by
  induction a with
  | nil => simp [bytesR]
  | cons r a ih => simp [bytesR, ih]; omega
end Go.Proofs.YtbdhmkfdofkloaaGreatDoor
/- A LOG OVER A DISK THAT IS WELL: what it has, what its calls leave. -/
namespace Go.Proofs.YtbdhmkfdofkloaaGreatDoor
open Go.RowKit
open Sc

section
variable {l : ALog} {d : ADisk} {fst c : Nat} {cs : List (List Rec)}
theorem flat_split (k : Nat) (cs : List (List Rec)) : cs.flatten = (cs.take k).flatten ++ (cs.drop k).flatten := by
  rw [← List.flatten_append, List.take_append_drop]
theorem flat_snoc (cs : List (List Rec)) (a : List Rec) : (cs ++ [a]).flatten = cs.flatten ++ a := by simp
theorem nums_snoc {L : List Rec} {f : Nat} (h : ∀ (k : Nat) (r : Rec), L[k]? = some r → r.lsn = f + k) (x : Rec) (hx : x.lsn = f + L.length) : ∀ (k : Nat) (r : Rec), (L ++ [x])[k]? = some r → r.lsn = f + k := by
  intro k r hr
  rw [List.getElem?_append] at hr
  split at hr
  · exact h k r hr
  · rename_i hk
    have : k - L.length = 0 := by
      have := (List.getElem?_eq_some_iff.1 hr).1
      simp at this; omega
    rw [this] at hr
    simp at hr
    subst hr
    omega
end
end Go.Proofs.YtbdhmkfdofkloaaGreatDoor
/- RECOVERY: what logs of one, of few and of many segments share. -/
namespace Go.Proofs.YtbdhmkfdofkloaaGreatDoor
open Go.RowKit Go.Maps
open Sc

theorem parse_snoc (M : Nat) (c : UInt8) (v : Nat) : ∀ (a : List UInt8) (acc : Nat), Lib.parseUintM M acc a = .ok v → Lib.parseUintM M acc (a ++ [c]) = Lib.parseUintM M v [c]
  | [], acc, h => by
    have e : acc = v := by simpa [Lib.parseUintM] using h
    rw [e]; rfl
  | x :: a, acc, h => by
    rw [List.cons_append]
    unfold Lib.parseUintM at h ⊢
    split at h
    · rename_i h1
      rw [if_pos h1]
      split at h
      · cases h
      · rename_i h2
        rw [if_neg h2]
        split at h
        · cases h
        · rename_i h3
          rw [if_neg h3]
          exact parse_snoc M c v a _ h
    · cases h
theorem parse_decM : ∀ (n u : Nat), u < n → u < 18446744073709551616 → Lib.parseUintM 18446744073709551615 0 (Lib.decDigits u) = .ok u := by
  intro n
  induction n with
  | zero => intro u h; omega
  | succ n ih =>
    intro u hn hu
    rw [Lib.decDigits]
    split
    · rename_i h
      obtain rfl | rfl | rfl | rfl | rfl | rfl | rfl | rfl | rfl | rfl : u = 0 ∨ u = 1 ∨ u = 2 ∨ u = 3 ∨ u = 4 ∨ u = 5 ∨ u = 6 ∨ u = 7 ∨ u = 8 ∨ u = 9 := by omega
      all_goals rfl
    · rename_i h
      rw [parse_snoc _ _ (u / 10) _ _ (ih (u / 10) (by omega) (by omega))]
      have e : (UInt8.ofNat (48 + u % 10)).toNat = 48 + u % 10 := by simp; omega
      unfold Lib.parseUintM
      rw [e, if_pos (by omega), if_neg (by omega), if_neg (by omega)]
      unfold Lib.parseUintM
      congr 1
      omega
theorem parse_dec (u : Nat) (hu : u < 18446744073709551616) : Lib.parseUintB 64 (Lib.decDigits u) = .ok u := by
  unfold Lib.parseUintB
  rw [if_neg (dec_ne u)]
  exact parse_decM (u + 1) u (by omega) hu
/-- what the variable of strconv's error holds -/
def ErrS (w : World) : Prop := ∃ ev, w.cell? ⟨2, 0, none⟩ = some ev ∧ (ev = .nilIface ∨ ∃ te pe, ev = .iface te pe)
theorem ErrS.below {n : Nat} {w w' : World} (h : ErrS w) (hb : Below n w w') (hn : 2 < n) : ErrS w' := by
  obtain ⟨ev, h1, h2⟩ := h
  exact ⟨ev, (hb.cell (p := ⟨2, 0, none⟩) hn).trans h1, h2⟩
theorem encR_bytes (rs : List Rec) : (encR rs).length = bytesR rs := by
  induction rs with
  | nil => rfl
  | cons r rs ih => simp only [encR, List.flatMap_cons, List.length_append, recBytes_len] at *; rw [ih]; simp [bytesR]
/-! ### few segments, few bytes -/
theorem starts_lt : ∀ (a : List (List Rec)) (n : Nat), (∀ b ∈ a, b ≠ []) → ∀ x ∈ starts n a, x < n + a.flatten.length := by
  intro a
  induction a with
  | nil => intro n _ x hx; simp [starts] at hx
  | cons b a ih =>
    intro n hb x hx
    have h0 : 0 < b.length := List.length_pos_iff.2 (hb b (by simp))
    simp only [starts, List.mem_cons] at hx
    rcases hx with rfl | hx
    · simp; omega
    · have := ih (n + b.length) (fun y hy => hb y (by simp [hy])) x hx
      simp; simp at this; omega
theorem str_app (a b : List Nat) : str (a ++ b) = str a ++ str b := by
  apply ByteArray.ext
  rw [ByteArray.data_append, str_data, str_data, str_data]
  simp
theorem takeC_at {cs : List (List Rec)} {k : Nat} {c : List Rec} (h : cs[k]? = some c) : cs.take (k + 1) = cs.take k ++ [c] := by rw [List.take_add_one, h]; rfl
/-! ### records that lie in a file -/
def FineX (rs : List Rec) : Prop := ∀ r ∈ rs, r.kind < 256 ∧ r.pay.length ≤ 255 ∧ Byt r.pay ∧ r.lsn < 18446744073709551616
theorem fx_byt {rs : List Rec} (h : FineX rs) : Byt (encR rs) := by
  intro b hb
  obtain ⟨r, hr, hbr⟩ := List.mem_flatMap.1 hb
  obtain ⟨h1, _, h3, _⟩ := h r hr
  exact recBytes_byt r.lsn r.kind r.pay h1 h3 b hbr
theorem fx_good : ∀ (rs : List Rec), FineX rs → ∀ t, Good (encR rs ++ t) rs.length ∧ (st rs.length (encR rs ++ t)).1 = rs ∧ (st rs.length (encR rs ++ t)).2 = (encR rs).length := by
  intro rs
  refine List.reverseRecOn0 (motive := fun rs => FineX rs → ∀ t, Good (encR rs ++ t) rs.length ∧ (st rs.length (encR rs ++ t)).1 = rs ∧ (st rs.length (encR rs ++ t)).2 = (encR rs).length) rs ?_ ?_
  · intro _ t; exact ⟨good_zero _, rfl, rfl⟩
  · intro rs r ih hf t
    obtain ⟨k1, k2, k3, k4⟩ := hf r (by simp)
    have e : encR (rs ++ [r]) ++ t = encR rs ++ (recBytes r.lsn r.kind r.pay ++ t) := by rw [encR_snoc, List.append_assoc]
    rw [e]
    obtain ⟨h1, h2, h3⟩ := ih (fun x hx => hf x (by simp [hx])) (recBytes r.lsn r.kind r.pay ++ t)
    have hd : (encR rs ++ (recBytes r.lsn r.kind r.pay ++ t)).drop (st rs.length (encR rs ++ (recBytes r.lsn r.kind r.pay ++ t))).2 = recBytes r.lsn r.kind r.pay ++ t := by rw [h3]; exact drop_app _ _ _ rfl
    have el : (rs ++ [r]).length = rs.length + 1 := by simp
    rw [el]
    refine ⟨good_succ h1 (by rw [hd]; exact frame_yes _ _ _ t k2 k1 k3), ?_, ?_⟩
    · show (st rs.length (encR rs ++ (recBytes r.lsn r.kind r.pay ++ t))).1 ++ [recOf ((encR rs ++ (recBytes r.lsn r.kind r.pay ++ t)).drop (st rs.length (encR rs ++ (recBytes r.lsn r.kind r.pay ++ t))).2)] = _
      rw [hd, h2, frame_rec _ _ _ t k2 k4]
    · show (st rs.length (encR rs ++ (recBytes r.lsn r.kind r.pay ++ t))).2 + 15 + fLen ((encR rs ++ (recBytes r.lsn r.kind r.pay ++ t)).drop (st rs.length (encR rs ++ (recBytes r.lsn r.kind r.pay ++ t))).2) = _
      rw [hd, h3, encR_snoc, List.length_append, frame_len _ _ _ t k2, recBytes_len]
      omega
theorem fx_ended {rs : List Rec} (h : FineX rs) : Ended (encR rs) rs.length ∧ (st rs.length (encR rs)).1 = rs ∧ (st rs.length (encR rs)).2 = (encR rs).length := by
  obtain ⟨h1, h2, h3⟩ := fx_good rs h []
  rw [List.append_nil] at h1 h2 h3
  exact ⟨⟨h1, by rw [h3, List.drop_length]; exact frameOk_ffno (ffOk_short (by simp))⟩, h2, h3⟩
theorem equalIn_nilE (w : World) (d : Nat) (b : Int) :
    (Op.equalIn (d + 2) 66 .nilIface (.iface 32 (.int .i64 b))).run Tryz.prog w = .ok false w := by
  simp [Op.equalIn, run_underlying Tryz.underlying66]
theorem eql_nilE (w : World) (b : Int) :
    (binOp .eql 66 .nilIface (.iface 32 (.int .i64 b))).run Tryz.prog w = .ok (.bool false) w := by
  simp only [binOp]
  simp [Op.equal, Op.maxDepth, equalIn_nilE w 9998 b]
set_option maxRecDepth 100000 in
set_option maxHeartbeats 2000000 in
theorem is_nil (n : Int) (w : World) :
    Calls Tryz.prog 45 #[.nilIface, .iface 32 (.int .i64 n)] w fun ev w' => ev = .returned (.bool false) ∧ w' = w := by
  have he : ∀ w, (binOp .eql 66 .nilIface (.iface 32 (.int .i64 n))).run Tryz.prog w = .ok (.bool false) w := fun w => eql_nilE w n
  go_enter Tryz.func45, Tryz.ntmps45
  go_wp2
  go_ret
  exact ⟨rfl, rfl⟩
set_option maxRecDepth 100000 in
set_option maxHeartbeats 2000000 in
theorem readMark_some (B p bD bN n nD nN f : Nat) (pv : Value) (d : ADisk) (w : World) (h : DiskIn w B p bD bN pv d n nD nN) (hdn : d.down = false) (hno : d.now markNm = some (str (recBytes f 0 []))) (hf : f < 18446744073709551616) :
    Calls Tryz.prog 86 #[dskV p] w fun e w' => e = .returned (.tuple #[.int .u64 (f : Int), .nilIface]) ∧ Below w.heap.size w w' := by
  have hm := Tryz.mRead
  have hr := read_any B p bD bN n nD nN pv d markNm w h (by decide)
  have hfx : FineX [⟨f, 0, []⟩] := by intro r hr; simp at hr; subst hr; exact ⟨show 0 < 256 by decide, show 0 ≤ 255 by decide, by intro x hx; simp at hx, hf⟩
  have henc : encR [⟨f, 0, []⟩] = recBytes f 0 [] := by simp [encR]
  have e : d.read markNm = (some (str (encR [⟨f, 0, []⟩])), 0) := by unfold ADisk.read; rw [if_neg (by rw [hdn]; decide), hno, henc]
  have hel : (encR [⟨f, 0, []⟩]).length = 15 := by rw [henc, recBytes_len]; rfl
  clear h hno
  go_enter Tryz.func86, Tryz.ntmps86
  go_wp2_with fail
  refine hr.mono ?_
  clear hr
  rintro e1 w1 ⟨v, rfl, hgot, hb⟩
  rw [e] at hgot ⊢
  rw [errN_ok]
  have hsrc : Src w1 v (encR [⟨f, 0, []⟩]) := by
    have : Src w1 v (bytesOf (str (encR [⟨f, 0, []⟩]))) := hgot
    rwa [bytesOf_str (fx_byt hfx)] at this
  have hsc := scanW v (encR [⟨f, 0, []⟩]) w1 hsrc (fx_byt hfx) (by omega)
  obtain ⟨b2, o2, c2, rfl⟩ : ∃ b2 o2 c2, v = .slice (some ⟨b2, o2, none⟩) 15 c2 := by
    rcases hsrc with ⟨_, e⟩ | ⟨b, off, cap, e, _⟩
    · rw [e] at hel; simp at hel
    · exact ⟨b, off, cap, by rw [e, hel]⟩
  have HB : Hid (Below w.heap.size w w1) := hb
  clear hgot hsrc hb
  go_wp2_with fail
  refine (is_nil 8 w1).mono ?_
  rintro e2 w2 ⟨rfl, rfl⟩
  go_wp2_with fail
  refine hsc.mono ?_
  clear hsc
  rintro e3 w3 ⟨k, v3, rfl, hE, hrow, _, hb3⟩
  obtain ⟨z1, z2, z3⟩ := fx_ended hfx
  obtain rfl := ended_unique hE z1
  rw [z2] at hrow
  rw [z3, hel]
  obtain ⟨g3, c3, rfl⟩ := own_pos hrow (by simp)
  have q1 := hrow.cells (g := g3) rfl 0 (.int .u64 (f : Int)) (by simp [recsV, recCells])
  have q2 := hrow.cells (g := g3) rfl 1 (.int .u8 0) (by simp [recsV, recCells])
  have q3 := hrow.cells (g := g3) rfl 2 (.string (str [])) (by simp [recsV, recCells])
  simp only [Addr.add_lit, Nat.zero_add] at q1 q2 q3
  have HB3 : Hid (Below w.heap.size w w3) := HB.out.trans (hb3.mono HB.out.size)
  clear hE hrow hb3 z1 z2 z3
  go_wp2
  go_ret2
  exact ⟨rfl, HB3.out⟩
section
variable {w w5 : World} {B lp p bD bN n nD nN : Nat} {pv sv rv v : Value} {l : ALog} {d : ADisk}
theorem LogIn.segsAt {ss : List Nat} (h : LogIn w B lp p bD bN pv sv rv l d n nD nN) (h5 : Fr sv.ownBlock.toList w w5) (ho : w5.ownsRow B 34 1 v ss.length (u64s ss)) (hnr : Near w.heap.size sv v) (hl : ss.length ≤ n ∧ ∀ s ∈ ss, s < 18446744073709551616) :
    LogIn (w5.setCell ⟨lp, 1, none⟩ v) B lp p bD bN pv v rv { l with segs := ss } d n nD nN ∧ OFr lp p w (w5.setCell ⟨lp, 1, none⟩ v) := by
  have hlp := (Array.getElem?_eq_some_iff.1 h.blk).1
  have hne : lp ∉ sv.ownBlock.toList := by simp; exact own_ne h.segs h.blk (by decide)
  have hb4 : w5.heap[lp]? = some (logO p sv rv l) := (h5.block lp hlp hne).trans h.blk
  obtain ⟨W, hW⟩ : ∃ W, W = w5.setCell ⟨lp, 1, none⟩ v := ⟨_, rfl⟩
  rw [← hW]
  have hfw : Fr [lp] w5 W := by rw [hW]; exact Fr.set1 (by simp) _ _
  have hf : Fr (lp :: sv.ownBlock.toList) w W := (h5.mono (fun k _ hk => List.mem_cons_of_mem _ hk)).trans (hfw.mono (by intro k _ hk; simp at hk; simp [hk]))
  have hb : W.heap[lp]? = some (logO p v rv { l with segs := ss }) := by
    rw [hW]
    have := blk_set hb4 1 v
    simpa using this
  have hs : W.ownsRow B 34 1 v ss.length (u64s ss) := ownsRow_fr ho hfw (fun g hg => by simp; intro e; subst e; exact own_ne ho hb4 (by decide) hg)
  have hr : W.ownsRow B 44 3 rv l.recs.length (recsV l.recs) := ownsRow_fr h.recs hf (fun g hg hm => by
    rcases List.mem_cons.1 hm with e | hm
    · subst e; exact own_ne h.recs h.blk (by decide) hg
    · simp at hm; obtain ⟨c, hcc⟩ := own_cells h.segs hm; exact own_ne h.recs hcc (by decide) hg)
  have hl2 : LogIn W B lp p bD bN pv v rv { l with segs := ss } d n nD nN := h.rows (n' := n) hf (by intro k hk _; rcases List.mem_cons.1 hk with e | hk; exact .inl e; simp at hk; exact .inr (.inl hk)) hb hs hr (Nat.le_refl _) h.disk.hn hl h.recsN h.fillN h.nextN h.durN
  exact ⟨hl2, h.ofr hl2 hf (by intro k hk _; rcases List.mem_cons.1 hk with e | hk; simp [e]; simp at hk; simp [hk]) (.inl rfl) (Near.refl _ _) hnr (Near.refl _ _)⟩
theorem LogIn.recsAt {rs : List Rec} (h : LogIn w B lp p bD bN pv sv rv l d n nD nN) (h5 : Fr rv.ownBlock.toList w w5) (ho : w5.ownsRow B 44 3 v rs.length (recsV rs)) (hnr : Near w.heap.size rv v) (hl : rs.length ≤ n) :
    LogIn (w5.setCell ⟨lp, 3, none⟩ v) B lp p bD bN pv sv v { l with recs := rs } d n nD nN ∧ OFr lp p w (w5.setCell ⟨lp, 3, none⟩ v) := by
  have hlp := (Array.getElem?_eq_some_iff.1 h.blk).1
  have hne : lp ∉ rv.ownBlock.toList := by simp; exact own_ne h.recs h.blk (by decide)
  have hb4 : w5.heap[lp]? = some (logO p sv rv l) := (h5.block lp hlp hne).trans h.blk
  obtain ⟨W, hW⟩ : ∃ W, W = w5.setCell ⟨lp, 3, none⟩ v := ⟨_, rfl⟩
  rw [← hW]
  have hfw : Fr [lp] w5 W := by rw [hW]; exact Fr.set1 (by simp) _ _
  have hf : Fr (lp :: rv.ownBlock.toList) w W := (h5.mono (fun k _ hk => List.mem_cons_of_mem _ hk)).trans (hfw.mono (by intro k _ hk; simp at hk; simp [hk]))
  have hb : W.heap[lp]? = some (logO p sv v { l with recs := rs }) := by
    rw [hW]
    have := blk_set hb4 3 v
    simpa using this
  have hr : W.ownsRow B 44 3 v rs.length (recsV rs) := ownsRow_fr ho hfw (fun g hg => by simp; intro e; subst e; exact own_ne ho hb4 (by decide) hg)
  have hs : W.ownsRow B 34 1 sv l.segs.length (u64s l.segs) := ownsRow_fr h.segs hf (fun g hg hm => by
    rcases List.mem_cons.1 hm with e | hm
    · subst e; exact own_ne h.segs h.blk (by decide) hg
    · simp at hm; obtain ⟨c, hcc⟩ := own_cells h.recs hm; exact own_ne h.segs hcc (by decide) hg)
  have hl2 : LogIn W B lp p bD bN pv sv v { l with recs := rs } d n nD nN := h.rows (n' := n) hf (by intro k hk _; rcases List.mem_cons.1 hk with e | hk; exact .inl e; simp at hk; exact .inr (.inr hk)) hb hs hr (Nat.le_refl _) h.disk.hn h.segsN hl h.fillN h.nextN h.durN
  exact ⟨hl2, h.ofr hl2 hf (by intro k hk _; rcases List.mem_cons.1 hk with e | hk; simp [e]; simp at hk; simp [hk]) (.inl rfl) (Near.refl _ _) (Near.refl _ _) hnr⟩
end
theorem recsV_app (a b : List Rec) : recsV (a ++ b) = recsV a ++ recsV b := by simp [recsV]
end Go.Proofs.YtbdhmkfdofkloaaGreatDoor
