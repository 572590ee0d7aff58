import Derived.Test.YtkhjhojmhllkaaaGreatDoorC01
import Derived.Test.YtkhjhojmhllkaaaGreatDoorC10
import Derived.Lib.ItoaMem
import Derived.BigCall
import Derived.BigGuard
import Derived.Test.YtkhjhojmhllkaaaGreatDoorC09
import Derived.Test.YtkhjhojmhllkaaaGreatDoorC05
/- strconv.FormatUint at base 10; a segment's name. -/
namespace Go.Proofs.YtkhjhojmhllkaaaGreatDoor
open Go.RowKit Go.Sort Go.Lib

/-- the table of powers, in the world -/
def Pows (w : World) : Prop := Lib.TabIs Tryz.prog w "internal/strconv.uint64pow10" .u64 Lib.pow10Tab
theorem holds0 (w : World) (T : TypeId) (nd : Nat) (hs : nd ≤ 24) : Holds (fun (b : UInt8) => Value.int .u8 (b.toNat : Int)) (w.alloc (.cells zeros24 T)) w.heap.size 0 (Array.replicate nd (0 : UInt8)) := fun j hj => by
  have hj' : j < nd := by simpa using hj
  refine ⟨?_, World.frozen?_alloc_new _ _ _ _⟩
  rw [World.cell?_alloc_new, zeros24_at _ (by omega), getElem!_pos _ j hj]
  simp
theorem below_drewN' {B : Nat} {a w : World} (h : Below B a w) : ∀ k, Below B a (w.drewN k)
  | 0 => h
  | k + 1 => by
    have := (below_drewN' h k).drew
    exact this
theorem below_row (w : World) (o : Obj) (dk : Array UInt8) (k : Nat) : Below w.heap.size w ((putRow (fun (b : UInt8) => Value.int .u8 (b.toNat : Int)) (w.alloc o) w.heap.size 0 dk).drewN k) := by
  have h1 : Below w.heap.size w (putRow (fun (b : UInt8) => Value.int .u8 (b.toNat : Int)) (w.alloc o) w.heap.size 0 dk) := by
    refine ⟨rfl, rfl, rfl, by simp, fun i hi => ?_⟩
    simp only [putRow, mapBlock, Array.getElem?_modify]
    rw [if_neg (by omega)]
    exact Below.heap_alloc _ _ _ hi
  exact below_drewN' h1 k
set_option maxRecDepth 100000 in
set_option maxHeartbeats 4000000 in
theorem formatIn (u : Nat) (w : World) (hu64 : u < 18446744073709551616) (htab : Pows w) :
    Calls Tryz.prog 238 #[.int .u64 (u : Int), .int .i64 10] w fun e w' => e = .returned (.string ⟨(Lib.decDigits u).toArray⟩) ∧ Below w.heap.size w w' := by
  by_cases hs : u < 100
  · have h1 : (u : Int) < 100 := by omega
    go_enter Tryz.func238, Tryz.ntmps238
    go_wp2_with (first | (go_at_call 269; refine (Tryz.internal_strconv_small u hs _).mono ?_; rintro e w' ⟨rfl, rfl⟩))
    go_ret
    exact ⟨rfl, Below.refl _ _⟩
  · have h1 : ¬ (u : Int) < 100 := by omega
    have hu1 : 1 ≤ u := by omega
    have hnd20 : Lib.nDigits u ≤ 20 := by have := Lib.numDigits_eq u hu1 hu64; split at this <;> omega
    have hal : Tryz.prog.arrayLen 376 = 24 := by simp [Program.arrayLen, Tryz.underlying376]
    have hsl : ∀ W, (Instr.sliceAt 376 (.pointer (some ⟨w.heap.size, 0, none⟩)) none (some (.int .i64 (Lib.nDigits u : Int))) none).run Tryz.prog W = .ok (.slice (some ⟨w.heap.size, 0, none⟩) (Lib.nDigits u) 24) W := fun W => by
      rw [run_sliceAt_array_h W 376 ⟨w.heap.size, 0, none⟩ (by simp [Program.arrayLen, Program.elem, Tryz.underlying376]) .i64 (Lib.nDigits u : Int) (by omega) (by rw [hal]; omega)]
      go_simp
    have hH0 := holds0 w 376 (Lib.nDigits u) (by omega)
    have hfmt := Tryz.internal_strconv_formatBase10 w.heap.size 0 24 u (Array.replicate (Lib.nDigits u) 0) (w.alloc (.cells Lib.zeros24 376)) hH0 (by rw [Array.size_replicate]; exact Lib.lt_pow_nDigits u) hu64 (by rw [Array.size_replicate]; omega)
    rw [Array.size_replicate] at hfmt
    have HH0 := Lib.hid hH0
    clear hH0 hal
    go_enter Tryz.func238, Tryz.ntmps238
    go_wp2_with (first | (go_at_call 270; refine (Tryz.internal_strconv_numDigits u hu1 hu64 _ (Lib.tabIs_alloc htab _)).mono ?_; rintro e w' ⟨rfl, rfl⟩))
    go_at_call 271
    refine hfmt.mono ?_
    rintro e w' ⟨rfl, k, v', dk, rfl, hF⟩
    have hcv : (convert 206 9 (.slice (some ⟨w.heap.size, 0, none⟩) (Lib.nDigits u) 24)).run Tryz.prog ((putRow (fun (b : UInt8) => Value.int .u8 (b.toNat : Int)) (w.alloc (.cells Lib.zeros24 376)) w.heap.size 0 dk).drewN k) = .ok (.string ⟨(Lib.decDigits u).toArray⟩) ((putRow (fun (b : UInt8) => Value.int .u8 (b.toNat : Int)) (w.alloc (.cells Lib.zeros24 376)) w.heap.size 0 dk).drewN k) := by
      have h := run_convert_bytes_back (P := Tryz.prog) ((putRow (fun (b : UInt8) => Value.int .u8 (b.toNat : Int)) (w.alloc (.cells Lib.zeros24 376)) w.heap.size 0 dk).drewN k) 206 9 5 ⟨w.heap.size, 0, none⟩ 24 (Lib.decDigits u) Tryz.underlying206 Tryz.underlying5 Tryz.underlying9 (fun j hj => by
        rw [Lib.row_is_numeral hF j hj, Lib.add_plain, World.cell?_drewN]
        exact cell?_putRow (fun (b : UInt8) => Value.int .u8 (b.toNat : Int)) _ w.heap.size 0 _ dk HH0.out (by rw [hF.size, Array.size_replicate]) j (by rw [hF.size]; rw [Lib.decDigits_length] at hj; exact hj))
      rw [Lib.decDigits_length] at h
      exact h
    go_wp2
    go_ret
    exact ⟨rfl, below_row w _ dk k⟩
set_option maxHeartbeats 1000000 in
theorem formatPub (u : Nat) (w : World) (hu64 : u < 18446744073709551616) (htab : Pows w) :
    Calls Tryz.prog 194 #[.int .u64 (u : Int), .int .i64 10] w fun e w' => e = .returned (.string ⟨(Lib.decDigits u).toArray⟩) ∧ Below w.heap.size w w' := by
  go_enter Tryz.func194, Tryz.ntmps194
  go_wp2_with fail
  refine (formatIn u w hu64 htab).mono ?_
  rintro e w1 ⟨rfl, hb⟩
  go_wp2
  go_ret
  exact ⟨rfl, hb⟩
/-- a segment's name -/
def segName (u : Nat) : ByteArray := ⟨#[115, 101, 103, 109, 101, 110, 116, 45]⟩ ++ ⟨(Lib.decDigits u).toArray⟩
theorem segName_size (u : Nat) (hu : u < 18446744073709551616) : (segName u).size ≤ 28 := by
  have hnd20 : (Lib.decDigits u).length ≤ 20 := by
    rw [Lib.decDigits_length]
    by_cases h1 : 1 ≤ u
    · have := Lib.numDigits_eq u h1 hu; split at this <;> omega
    · obtain rfl : u = 0 := by omega
      rw [Lib.nDigits_small (by omega)]; omega
  unfold segName
  rw [ByteArray.size_append]
  show 8 + (Lib.decDigits u).toArray.size ≤ 28
  simp; omega
set_option maxHeartbeats 1000000 in
theorem segmentName_any (u : Nat) (w : World) (hu64 : u < 18446744073709551616) (htab : Pows w) :
    Calls Tryz.prog 145 #[.int .u64 (u : Int)] w fun e w' => e = .returned (.string (segName u)) ∧ Below w.heap.size w w' := by
  go_enter Tryz.func145, Tryz.ntmps145
  go_wp2_with fail
  refine (formatPub u w hu64 htab).mono ?_
  rintro e w1 ⟨rfl, hb⟩
  have hsz := segName_size u hu64
  unfold segName at hsz
  rw [ByteArray.size_append] at hsz
  have hno : ¬ 9223372036854775807 < (⟨#[115, 101, 103, 109, 101, 110, 116, 45]⟩ : ByteArray).size + (⟨(Lib.decDigits u).toArray⟩ : ByteArray).size := by omega
  go_wp2
  all_goals first
    | (go_ret; exact ⟨rfl, hb⟩)
    | (exfalso; rename_i hh; exact hno hh)
end Go.Proofs.YtkhjhojmhllkaaaGreatDoor
/- A LOG, plainly; and how it lies in memory. -/
namespace Go.Proofs.YtkhjhojmhllkaaaGreatDoor
open Go.RowKit
open Sc

structure ALog where
  segs : List Nat
  filled : Nat
  recs : List Rec
  next : Nat
  durable : Nat
  failed : Nat
/-- numbers as cells -/
def u64s (l : List Nat) : List Value := l.map fun x : Nat => .int .u64 (x : Int)
theorem u64s_snoc (l : List Nat) (x : Nat) : u64s (l ++ [x]) = u64s l ++ [.int .u64 (x : Int)] := by simp [u64s]
theorem u64s_len (l : List Nat) : (u64s l).length = l.length := by simp [u64s]
abbrev dskV (p : Nat) : Value := .iface 70 (.pointer (some ⟨p, 0, none⟩))
abbrev logO (p : Nat) (sv rv : Value) (l : ALog) : Obj := .cells #[dskV p, sv, .int .i64 (l.filled : Int), rv, .int .u64 (l.next : Int), .int .u64 (l.durable : Int), errN l.failed] 187

/-- the blocks that an object leads to by maps and slices -/
def refs : Option Obj → List Nat
  | some (.cells c _ _) => c.toList.filterMap fun v => match v with
    | .map r => r
    | .slice (some a) _ _ => some a.block
    | _ => none
  | _ => []
/-- what is the log's -/
def Own (lp p : Nat) (w : World) (k : Nat) : Prop := k = lp ∨ k = p ∨ k ∈ refs w.heap[lp]? ∨ k ∈ refs w.heap[p]?
/-- nothing has turned but what is the log's, and new blocks; what is the log's is that or new -/
structure OFr (lp p : Nat) (w w' : World) : Prop where
  os : w'.os = w.os
  tape : w'.tape = w.tape
  output : w'.output = w.output
  size : w.heap.size ≤ w'.heap.size
  block : ∀ k, k < w.heap.size → ¬ Own lp p w k → w'.heap[k]? = w.heap[k]?
  stay : ∀ k, k < w.heap.size → Own lp p w' k → Own lp p w k
theorem OFr.refl (lp p : Nat) (w : World) : OFr lp p w w := ⟨rfl, rfl, rfl, Nat.le_refl _, fun _ _ _ => rfl, fun _ _ h => h⟩
theorem OFr.trans {lp p : Nat} {a b c : World} (h : OFr lp p a b) (k : OFr lp p b c) : OFr lp p a c :=
  ⟨k.os.trans h.os, k.tape.trans h.tape, k.output.trans h.output, Nat.le_trans h.size k.size,
    fun i hi hn => (k.block i (Nat.lt_of_lt_of_le hi h.size) (fun ho => hn (h.stay i hi ho))).trans (h.block i hi hn),
    fun i hi ho => h.stay i hi (k.stay i (Nat.lt_of_lt_of_le hi h.size) ho)⟩
/-- the log in memory -/
structure LogIn (w : World) (B lp p bD bN : Nat) (pv sv rv : Value) (l : ALog) (d : ADisk) (n nD nN : Nat) : Prop where
  disk : DiskIn w B p bD bN pv d n nD nN
  blk : w.heap[lp]? = some (logO p sv rv l)
  base : B ≤ lp
  segs : w.ownsRow B 33 1 sv l.segs.length (u64s l.segs)
  recs : w.ownsRow B 103 3 rv l.recs.length (recsV l.recs)
  segsN : l.segs.length ≤ n ∧ ∀ s ∈ l.segs, s < 18446744073709551616
  recsN : l.recs.length ≤ n
  fillN : l.filled ≤ 4096
  nextN : l.next ≤ n + 1
  durN : l.durable < 18446744073709551616
theorem own_sl {w : World} {B n : Nat} {e : TypeId} {k : Nat} {v : Value} {xs : List Value} (h : w.ownsRow B e k v n xs) : ∃ a m c, v = .slice a m c := by
  rcases h.2 with ⟨rfl, _⟩ | ⟨g, cap, cur, rfl, _⟩
  · exact ⟨_, _, _, rfl⟩
  · exact ⟨_, _, _, rfl⟩
/-- a value's block, of a map or a slice -/
def ref1 (v : Value) : Option Nat := match v with
  | .map r => r
  | .slice (some a) _ _ => some a.block
  | _ => none
theorem refs_cells (c : Array Value) (t : TypeId) (fr : Nat × Nat) : refs (some (.cells c t fr)) = c.toList.filterMap ref1 := rfl
theorem ref1_sl {v : Value} (h : ∃ a m c, v = .slice a m c) : ref1 v = v.ownBlock := by
  obtain ⟨a, m, c, rfl⟩ := h
  cases a <;> rfl
theorem ref1_err (n : Nat) : ref1 (errN n) = none := by unfold errN; split <;> rfl
theorem mem_log {p : Nat} {sv rv : Value} {l : ALog} (hs : ∃ a m c, sv = .slice a m c) (hr : ∃ a m c, rv = .slice a m c) (k : Nat) : k ∈ refs (some (logO p sv rv l)) ↔ sv.ownBlock = some k ∨ rv.ownBlock = some k := by
  rw [refs_cells]
  simp only [List.mem_filterMap, List.mem_cons, List.not_mem_nil, or_false]
  constructor
  · rintro ⟨v, hv, hk⟩
    rcases hv with rfl | rfl | rfl | rfl | rfl | rfl | rfl
    · cases hk
    · left; rw [← ref1_sl hs]; exact hk
    · cases hk
    · right; rw [← ref1_sl hr]; exact hk
    · cases hk
    · cases hk
    · rw [ref1_err] at hk; cases hk
  · rintro (h | h)
    · exact ⟨sv, by simp, by rw [ref1_sl hs]; exact h⟩
    · exact ⟨rv, by simp, by rw [ref1_sl hr]; exact h⟩
theorem mem_dsk {bD bN : Nat} {pv : Value} {a b : Int} {dn : Bool} (hp : ∃ a m c, pv = .slice a m c) (k : Nat) : k ∈ refs (some (dskO bD bN pv a b dn)) ↔ k = bD ∨ k = bN ∨ pv.ownBlock = some k := by
  rw [refs_cells]
  simp only [List.mem_filterMap, List.mem_cons, List.not_mem_nil, or_false]
  constructor
  · rintro ⟨v, hv, hk⟩
    rcases hv with rfl | rfl | rfl | rfl | rfl | rfl
    · left; cases hk; rfl
    · right; left; cases hk; rfl
    · right; right; rw [← ref1_sl hp]; exact hk
    · cases hk
    · cases hk
    · cases hk
  · rintro (h | h | h)
    · exact ⟨.map (some bD), by simp, by subst h; rfl⟩
    · exact ⟨.map (some bN), by simp, by subst h; rfl⟩
    · exact ⟨pv, by simp, by rw [ref1_sl hp]; exact h⟩
section
variable {w w' : World} {B lp p bD bN n nD nN bN' n' nD' nN' : Nat} {pv sv rv pv' sv' rv' : Value} {l l' : ALog} {d d' : ADisk}
theorem LogIn.own (h : LogIn w B lp p bD bN pv sv rv l d n nD nN) (k : Nat) : Own lp p w k ↔ k = lp ∨ k = p ∨ k = bD ∨ k = bN ∨ pv.ownBlock = some k ∨ sv.ownBlock = some k ∨ rv.ownBlock = some k := by
  unfold Own
  rw [h.blk, h.disk.blk, mem_log (own_sl h.segs) (own_sl h.recs), mem_dsk (own_sl h.disk.pen)]
  constructor
  · rintro (h | h | (h | h) | (h | h | h)) <;> simp [h]
  · rintro (h | h | h | h | h | h | h) <;> simp [h]
theorem LogIn.ofr {S : List Nat} (h : LogIn w B lp p bD bN pv sv rv l d n nD nN) (h' : LogIn w' B lp p bD bN' pv' sv' rv' l' d' n' nD' nN') (hf : Fr S w w')
    (hS : ∀ k ∈ S, k < w.heap.size → k = lp ∨ k = p ∨ k = bD ∨ k = bN ∨ pv.ownBlock = some k ∨ sv.ownBlock = some k ∨ rv.ownBlock = some k)
    (hb : bN' = bN ∨ w.heap.size ≤ bN') (h1 : Near w.heap.size pv pv') (h2 : Near w.heap.size sv sv') (h3 : Near w.heap.size rv rv') : OFr lp p w w' := by
  refine ⟨hf.os, hf.tape, hf.output, hf.size, fun k hk hn => hf.block k hk (fun hm => hn ((h.own k).2 (hS k hm hk))), fun k hk ho => ?_⟩
  rw [h.own]
  rcases (h'.own k).1 ho with e | e | e | e | e | e | e
  · exact .inl e
  · exact .inr (.inl e)
  · exact .inr (.inr (.inl e))
  · rcases hb with hb | hb
    · exact .inr (.inr (.inr (.inl (e.trans hb))))
    · omega
  · rcases h1 k e with e | e
    · exact .inr (.inr (.inr (.inr (.inl e))))
    · omega
  · rcases h2 k e with e | e
    · exact .inr (.inr (.inr (.inr (.inr (.inl e)))))
    · omega
  · rcases h3 k e with e | e
    · exact .inr (.inr (.inr (.inr (.inr (.inr e)))))
    · omega
/-- the log's own block and rows are no part of the disk -/
theorem LogIn.sep (h : LogIn w B lp p bD bN pv sv rv l d n nD nN) : ∀ k ∈ dS p bD bN pv, k ≠ lp ∧ sv.ownBlock ≠ some k ∧ rv.ownBlock ≠ some k := by
  intro k hk
  have key : ∀ (c : Array Value) (t : TypeId) (q : Nat), w.heap[q]? = some (.cells c t (0, 0)) → t ≠ 97 → t ≠ 130 → k ≠ q := by
    intro c t q hq h1 h2 e
    subst e
    rcases List.mem_cons.1 hk with e | hk
    · rw [e, h.disk.blk] at hq; cases hq; exact h1 rfl
    rcases List.mem_cons.1 hk with e | hk
    · exact h.disk.dur.ne_cells hq e.symm
    rcases List.mem_cons.1 hk with e | hk
    · exact h.disk.now.ne_cells hq e.symm
    · simp at hk; exact own_ne h.disk.pen hq (fun e => h2 e.symm) hk
  refine ⟨key _ _ lp h.blk (by decide) (by decide), fun e => ?_, fun e => ?_⟩
  · obtain ⟨c, hc⟩ := own_cells h.segs e
    exact key _ _ k hc (by decide) (by decide) rfl
  · obtain ⟨c, hc⟩ := own_cells h.recs e
    exact key _ _ k hc (by decide) (by decide) rfl
/-- the disk has turned -/
theorem LogIn.turned {S : List Nat} (h : LogIn w B lp p bD bN pv sv rv l d n nD nN) (hd : DiskIn w' B p bD bN pv' d' n' nD' nN') (hf : Fr S w w') (hS : ∀ k ∈ S, k < w.heap.size → k ≠ lp ∧ sv.ownBlock ≠ some k ∧ rv.ownBlock ≠ some k) (hn : n ≤ n') : LogIn w' B lp p bD bN pv' sv rv l d' n' nD' nN' where
  disk := hd
  blk := (hf.block lp (Array.getElem?_eq_some_iff.1 h.blk).1 (fun hm => (hS lp hm (Array.getElem?_eq_some_iff.1 h.blk).1).1 rfl)).trans h.blk
  base := h.base
  segs := ownsRow_fr h.segs hf (fun g hg hm => (hS g hm (h.segs.lt g hg).2).2.1 hg)
  recs := ownsRow_fr h.recs hf (fun g hg hm => (hS g hm (h.recs.lt g hg).2).2.2 hg)
  segsN := ⟨by have := h.segsN.1; omega, h.segsN.2⟩
  recsN := by have := h.recsN; omega
  fillN := h.fillN
  nextN := by have := h.nextN; omega
  durN := h.durN
end
/-- the log's own block alone was written -/
theorem LogIn.own1 {w w' : World} {B lp p bD bN n nD nN : Nat} {pv sv rv : Value} {l l' : ALog} {d : ADisk} (h : LogIn w B lp p bD bN pv sv rv l d n nD nN) (hf : Fr [lp] w w') (hb : w'.heap[lp]? = some (logO p sv rv l'))
    (h1 : l'.segs.length ≤ n ∧ ∀ s ∈ l'.segs, s < 18446744073709551616) (h2 : l'.recs.length ≤ n) (h3 : l'.filled ≤ 4096) (h4 : l'.next ≤ n + 1) (h5 : l'.durable < 18446744073709551616) (e1 : l'.segs = l.segs) (e2 : l'.recs = l.recs) : LogIn w' B lp p bD bN pv sv rv l' d n nD nN := by
  have hne : ∀ k ∈ dS p bD bN pv, k ∉ [lp] := fun k hk hm => by simp at hm; exact (h.sep k hk).1 hm
  refine { disk := ?_, blk := hb, base := h.base, segs := ?_, recs := ?_, segsN := h1, recsN := h2, fillN := h3, nextN := h4, durN := h5 }
  · refine h.disk.fr hf (hne p (by simp)) (hne bD (by simp)) (hne bN (by simp)) (fun g hg => hne g (by simp [hg])) ?_
    intro q hq t; simp at hq; subst hq; rw [h.blk]; intro e; cases e
  · rw [e1]; exact ownsRow_fr h.segs hf (fun g hg => by simp; intro e; subst e; exact own_ne h.segs h.blk (by decide) hg)
  · rw [e2]; exact ownsRow_fr h.recs hf (fun g hg => by simp; intro e; subst e; exact own_ne h.recs h.blk (by decide) hg)
/-- what stands behind a call of the log's -/
def LogPost (B lp p bD bN : Nat) (l : ALog) (d : ADisk) (n : Nat) (w w' : World) : Prop :=
  (∃ pv sv rv nD nN, LogIn w' B lp p bD bN pv sv rv l d n nD nN) ∧ OFr lp p w w'
theorem Tryz.mAppend (h : Value) (w : World) : (Go.method 568 70 h "Append").run Tryz.prog w = .ok (359, h) w := by kernel_rfl
theorem Tryz.mNames (h : Value) (w : World) : (Go.method 568 70 h "Names").run Tryz.prog w = .ok (360, h) w := by kernel_rfl
theorem Tryz.mRead (h : Value) (w : World) : (Go.method 568 70 h "Read").run Tryz.prog w = .ok (361, h) w := by kernel_rfl
theorem Tryz.mRemove (h : Value) (w : World) : (Go.method 568 70 h "Remove").run Tryz.prog w = .ok (362, h) w := by kernel_rfl
theorem Tryz.mRename (h : Value) (w : World) : (Go.method 568 70 h "Rename").run Tryz.prog w = .ok (363, h) w := by kernel_rfl
theorem Tryz.mSync (h : Value) (w : World) : (Go.method 568 70 h "Sync").run Tryz.prog w = .ok (364, h) w := by kernel_rfl
theorem Tryz.mWrite (h : Value) (w : World) : (Go.method 568 70 h "Write").run Tryz.prog w = .ok (365, h) w := by kernel_rfl
def ALog.sync (l : ALog) (d : ADisk) : ALog × ADisk × Nat :=
  if d.sync.2 = 0 then ({ l with durable := l.next }, d.sync.1, 0) else (l, d.sync.1, d.sync.2)
theorem errN_ne {c : Nat} (h : c ≠ 0) : ∃ v, errN c = .iface 31 v := ⟨_, errN_no h⟩
set_option maxRecDepth 100000 in
set_option maxHeartbeats 1000000 in
theorem lsync_any (B lp p bD bN n nD nN : Nat) (pv sv rv : Value) (l : ALog) (d : ADisk) (w : World) (h : LogIn w B lp p bD bN pv sv rv l d n nD nN) (hn : n ≤ 67108864) :
    Calls Tryz.prog 126 #[.pointer (some ⟨lp, 0, none⟩)] w fun e w' => e = .returned (errN (l.sync d).2.2) ∧ LogPost B lp p bD bN (l.sync d).1 (l.sync d).2.1 n w w' := by
  have c0 := blk_cell h.blk 0
  simp at c0
  have HI : Hid (LogIn w B lp p bD bN pv sv rv l d n nD nN) := h
  clear h
  go_enter Tryz.func126, Tryz.ntmps126
  have hm := Tryz.mSync
  go_wp2_with fail
  refine (sync_any B p bD bN n nD nN pv d w HI.out.disk).mono ?_
  rintro e w1 ⟨rfl, ⟨pv1, nD1, hd1, hne1⟩, hf1⟩
  have hl1 : LogIn w1 B lp p bD bN pv1 sv rv l d.sync.1 n nD1 nN := HI.out.turned hd1 hf1 (fun k hk _ => HI.out.sep k (by simp at hk; rcases hk with h | h <;> simp [h])) (Nat.le_refl _)
  have ho1 : OFr lp p w w1 := HI.out.ofr hl1 hf1 (fun k hk _ => by simp at hk; rcases hk with h | h <;> simp [h]) (.inl rfl) hne1 (Near.refl _ _) (Near.refl _ _)
  have H1 : Hid (LogIn w1 B lp p bD bN pv1 sv rv l d.sync.1 n nD1 nN) := hl1
  have HO : Hid (OFr lp p w w1) := ho1
  have k4 := blk_cell hl1.blk 4
  have k5 := blk_cell hl1.blk 5
  have f5 := blk_free hl1.blk 5
  simp at k4 k5
  clear hd1 hne1 hf1 hl1 ho1 c0
  by_cases hc : d.sync.2 = 0
  · rw [hc, errN_ok]
    go_wp2
    go_ret
    have e : l.sync d = ({ l with durable := l.next }, d.sync.1, 0) := by unfold ALog.sync; rw [if_pos hc]
    rw [e]
    obtain ⟨W, hW⟩ : ∃ W, W = w1.setCell ⟨lp, 5, none⟩ (.int .u64 (l.next : Int)) := ⟨_, rfl⟩
    rw [← hW]
    have hf : Fr [lp] w1 W := by rw [hW]; exact Fr.set1 (by simp) _ _
    have hb : W.heap[lp]? = some (logO p sv rv { l with durable := l.next }) := by rw [hW]; have := blk_set H1.out.blk 5 (.int .u64 (l.next : Int)); simpa using this
    have hl2 : LogIn W B lp p bD bN pv1 sv rv { l with durable := l.next } d.sync.1 n nD1 nN := H1.out.own1 hf hb H1.out.segsN H1.out.recsN H1.out.fillN H1.out.nextN (by have := H1.out.nextN; simp; omega) rfl rfl
    exact ⟨rfl, ⟨pv1, sv, rv, nD1, nN, hl2⟩, HO.out.trans (H1.out.ofr hl2 hf (fun k hk _ => by simp at hk; simp [hk]) (.inl rfl) (Near.refl _ _) (Near.refl _ _) (Near.refl _ _))⟩
  · have e : l.sync d = (l, d.sync.1, d.sync.2) := by unfold ALog.sync; rw [if_neg hc]
    rw [errN_no hc]
    go_wp2
    go_ret
    rw [e]
    exact ⟨by rw [errN_no hc]; rfl, ⟨pv1, sv, rv, nD1, nN, H1.out⟩, HO.out⟩
end Go.Proofs.YtkhjhojmhllkaaaGreatDoor
/- (*Log).makeRoom. -/
namespace Go.Proofs.YtkhjhojmhllkaaaGreatDoor
open Go.RowKit
open Sc

theorem Tryz.infoU64 : (Tryz.prog.info? 33).map (fun i => (i.zero, i.size, i.bytes)) = some (some (.int .u64 0), 1, 8) := by kernel_rfl
theorem wp_u64app {w : World} {o : Oper} {a : Act} {K : Act → World → Prop} {Q : Exit → Act → World → Prop} (s x : Operand)
    (ho : o.op = .call { callee := .builtin .append, args := #[s, x], argTypes := #[44, 44] })
    (base : Nat) (v : Value) (n : Nat) (l : List Nat) (r : Nat) (b : Nat) (hs : a.eval s = v) (hown : w.ownsRow base 33 1 v n (u64s l)) (hx : a.eval x = .slice (some ⟨b, 0, none⟩) 1 1)
    (hb : w.cell? ⟨b, 0, none⟩ = some (.int .u64 (r : Int))) (hn : n ≤ 1073741824) (hbase : base ≤ w.heap.size)
    (h : ∀ v' w', w'.ownsRow base 33 1 v' (n + 1) (u64s (l ++ [r])) → w.grownBy w' v.ownBlock → (v'.ownBlock = v.ownBlock ∨ v'.ownBlock = some w.heap.size) → K (a.put o.dst v') w') : o.wp Tryz.prog a w K Q := by
  obtain ⟨i0, hi, hz0, hz1, hz2⟩ := info_parts Tryz.infoU64
  refine wp_append_at s x 44 ho base 33 i0 _ 1 8 Tryz.underlying44 hi hz0 hz1 hz2 rfl (by decide) v n (u64s l) hs hown ⟨b, 0, none⟩ 1 1 [.int .u64 (r : Int)] hx rfl ?_ ?_ (by unfold maxLen; omega) (by omega) hbase ?_
  · intro jj u hjj
    match jj, hjj with
    | 0, hjj => simp at hjj; subst hjj; simpa [Addr.add] using hb
  · intro u hu; simp at hu; subst hu; rfl
  · intro v' w' ho' hg' hl'
    refine h v' w' ?_ hg' hl'
    rw [u64s_snoc]; exact ho'
def ALog.room (l : ALog) (d : ADisk) : ALog × ADisk × Nat :=
  if l.filled < 600 then (l, d, 0)
  else if (l.sync d).2.2 = 0 then ({ (l.sync d).1 with segs := (l.sync d).1.segs ++ [(l.sync d).1.next], filled := 0 }, (l.sync d).2.1, 0)
  else l.sync d
theorem LogIn.more {w : World} {B lp p bD bN n nD nN : Nat} {pv sv rv : Value} {l : ALog} {d : ADisk} (h : LogIn w B lp p bD bN pv sv rv l d n nD nN) (hn : n < 67108864) : LogIn w B lp p bD bN pv sv rv l d (n + 1) nD nN :=
  { h with disk := h.disk.more hn, segsN := ⟨by have := h.segsN.1; omega, h.segsN.2⟩, recsN := by have := h.recsN; omega, nextN := by have := h.nextN; omega }
theorem keepL {w1 w4 : World} {B lp p bD bN n nD nN : Nat} {pv sv rv : Value} {l : ALog} {d : ADisk} {ob : Obj} {r : Option Nat} (h : LogIn w1 B lp p bD bN pv sv rv l d n nD nN) (hg : (w1.alloc ob).drew.grownBy w4 r) (hr : r ≠ some lp) (i : Nat) :
    w4.cell? ⟨lp, i, none⟩ = w1.cell? ⟨lp, i, none⟩ ∧ w4.frozen? ⟨lp, i, none⟩ = false ∧ w4.heap[lp]? = some (logO p sv rv l) := by
  have hl := (Array.getElem?_eq_some_iff.1 h.blk).1
  have k1 : w4.heap[lp]? = w1.heap[lp]? := by
    rw [hg.block lp (by simp; omega) (fun e => hr e.symm)]
    exact Below.heap_alloc w1 _ lp hl
  exact ⟨World.cell?_of_block (a := ⟨lp, i, none⟩) k1, (World.frozen?_of_block (a := ⟨lp, i, none⟩) k1).trans (blk_free h.blk i), k1.trans h.blk⟩
/-- the log's own block and rows were written -/
theorem LogIn.rows {w W : World} {B lp p bD bN n nD nN n' : Nat} {pv sv rv sv' rv' : Value} {l l' : ALog} {d : ADisk} {S : List Nat} (h : LogIn w B lp p bD bN pv sv rv l d n nD nN) (hf : Fr S w W) (hS : ∀ k ∈ S, k < w.heap.size → k = lp ∨ sv.ownBlock = some k ∨ rv.ownBlock = some k)
    (hb : W.heap[lp]? = some (logO p sv' rv' l')) (hs : W.ownsRow B 33 1 sv' l'.segs.length (u64s l'.segs)) (hr : W.ownsRow B 103 3 rv' l'.recs.length (recsV l'.recs))
    (hn : n ≤ n') (hn' : n' ≤ 67108864) (h1 : l'.segs.length ≤ n' ∧ ∀ s ∈ l'.segs, s < 18446744073709551616) (h2 : l'.recs.length ≤ n') (h3 : l'.filled ≤ 4096) (h4 : l'.next ≤ n' + 1) (h5 : l'.durable < 18446744073709551616) : LogIn W B lp p bD bN pv sv' rv' l' d n' nD nN := by
  have hne : ∀ k ∈ dS p bD bN pv, k < w.heap.size → k ∉ S := fun k hk hl hm => by
    have := h.sep k hk
    rcases hS k hm hl with e | e | e
    · exact this.1 e
    · exact this.2.1 e
    · exact this.2.2 e
  have hl1 := (Array.getElem?_eq_some_iff.1 h.disk.blk).1
  have hd : DiskIn W B p bD bN pv d n nD nN := by
    refine h.disk.fr hf (hne p (by simp) hl1) (hne bD (by simp) h.disk.dur.lt) (hne bN (by simp) h.disk.now.lt) (fun g hg => hne g (by simp [hg]) (h.disk.pen.lt g hg).2) ?_
    intro q hq t e
    have hql := (Array.getElem?_eq_some_iff.1 e).1
    rcases hS q hq hql with e1 | e1 | e1
    · subst e1; rw [h.blk] at e; cases e
    · exact own_ne h.segs e (by decide) e1
    · exact own_ne h.recs e (by decide) e1
  exact { disk := { hd with hD := by have := hd.hD; omega, hN := by have := hd.hN; omega, hn := hn' }, blk := hb, base := h.base, segs := hs, recs := hr, segsN := h1, recsN := h2, fillN := h3, nextN := h4, durN := h5 }
set_option maxRecDepth 100000 in
set_option maxHeartbeats 2000000 in
theorem room_any (B lp p bD bN n nD nN : Nat) (pv sv rv : Value) (l : ALog) (d : ADisk) (w : World) (h : LogIn w B lp p bD bN pv sv rv l d n nD nN) (hn : n < 67108864) :
    Calls Tryz.prog 143 #[.pointer (some ⟨lp, 0, none⟩)] w fun e w' => e = .returned (errN (l.room d).2.2) ∧ LogPost B lp p bD bN (l.room d).1 (l.room d).2.1 (n + 1) w w' := by
  have c2 := blk_cell h.blk 2
  simp at c2
  have HI : Hid (LogIn w B lp p bD bN pv sv rv l d n nD nN) := h
  clear h
  by_cases hf : l.filled < 600
  · have e : l.room d = (l, d, 0) := by unfold ALog.room; rw [if_pos hf]
    rw [e]
    have i1 : (l.filled : Int) < 600 := by omega
    go_enter Tryz.func143, Tryz.ntmps143
    go_wp2
    go_ret
    exact ⟨rfl, ⟨pv, sv, rv, nD, nN, HI.out.more hn⟩, OFr.refl _ _ _⟩
  · have i1 : ¬ (l.filled : Int) < 600 := by omega
    have HF : Hid (¬ l.filled < 600) := hf
    clear hf
    go_enter Tryz.func143, Tryz.ntmps143
    go_wp2_with fail
    refine (lsync_any B lp p bD bN n nD nN pv sv rv l d w HI.out (by omega)).mono ?_
    rintro e w1 ⟨rfl, ⟨pv1, sv1, rv1, nD1, nN1, hl1⟩, ho1⟩
    have H1 : Hid (LogIn w1 B lp p bD bN pv1 sv1 rv1 (l.sync d).1 (l.sync d).2.1 n nD1 nN1) := hl1
    have HO : Hid (OFr lp p w w1) := ho1
    have k1 := blk_cell hl1.blk 1
    have k2 := blk_cell hl1.blk 2
    have k4 := blk_cell hl1.blk 4
    have f1 := blk_free hl1.blk 1
    simp at k1 k2 k4
    have hlp : lp < w1.heap.size := (Array.getElem?_eq_some_iff.1 hl1.blk).1
    have ha : ∀ ob i, (w1.alloc ob).cell? ⟨lp, i, none⟩ = w1.cell? ⟨lp, i, none⟩ := fun ob i => World.cell?_of_block (a := ⟨lp, i, none⟩) (Below.heap_alloc w1 ob lp hlp)
    have ha1 : ∀ ob, (w1.alloc ob).cell? ⟨lp, 1, none⟩ = some sv1 := fun ob => (ha ob 1).trans k1
    have ha4 : ∀ ob, (w1.alloc ob).cell? ⟨lp, 4, none⟩ = some (.int .u64 ((l.sync d).1.next : Int)) := fun ob => (ha ob 4).trans k4
    clear ha
    clear hl1 ho1 c2
    by_cases hc : (l.sync d).2.2 = 0
    · rw [hc, errN_ok]
      go_wp2
      go_region_law (first | (rw [if_pos (by rfl)]; refine wp_u64app _ _ rfl B sv1 (l.sync d).1.segs.length (l.sync d).1.segs (l.sync d).1.next w1.heap.size rfl ?_ rfl ?_ ?_ ?_ ?_; (exact H1.out.segs.alloc _); (simp); (have := H1.out.segsN.1; omega); (have := H1.out.disk.base.2.2.2; simp; omega); intro v4 w4 ho4 hg4 hl4; obtain ⟨g4, cap4, rfl⟩ := own_some ho4; obtain ⟨q1, q2, q3⟩ := keepL H1.out hg4 (own_ne H1.out.segs H1.out.blk (by decide)) 1; rw [k1] at q1; have HL4 : Hid (Near w1.heap.size sv1 (.slice (some ⟨g4, 0, none⟩) ((l.sync d).1.segs.length + 1) cap4)) := Near.of_at hl4 (by simp); clear hl4))
      all_goals (
        have r2 := (blk_cell q3 2)
        have t2 := (blk_free q3 2)
        simp at r2
        have Q3 : Hid (w4.heap[lp]? = some (logO p sv1 rv1 (l.sync d).1)) := q3
        clear q3
        go_wp2
        go_ret
        have e : l.room d = ({ (l.sync d).1 with segs := (l.sync d).1.segs ++ [(l.sync d).1.next], filled := 0 }, (l.sync d).2.1, 0) := by unfold ALog.room; rw [if_neg HF.out, if_pos hc]
        rw [e]
        obtain ⟨W, hW⟩ : ∃ W, W = (w4.setCell ⟨lp, 1, none⟩ (.slice (some ⟨g4, 0, none⟩) ((l.sync d).1.segs.length + 1) cap4)).setCell ⟨lp, 2, none⟩ (.int .i64 0) := ⟨_, rfl⟩
        rw [← hW]
        have hfw : Fr [lp] w4 W := by rw [hW]; exact (Fr.set1 (by simp) _ _).trans (Fr.set1 (by simp) _ _)
        have hf : Fr (lp :: sv1.ownBlock.toList) w1 W := ((((Fr.refl _ w1).alloc _).drew).trans ((Fr.of_grown hg4).mono (fun k _ hk => List.mem_cons_of_mem _ hk))).trans (hfw.mono (by intro k _ hk; simp at hk; simp [hk]))
        have hb : W.heap[lp]? = some (logO p (.slice (some ⟨g4, 0, none⟩) ((l.sync d).1.segs.length + 1) cap4) rv1 { (l.sync d).1 with segs := (l.sync d).1.segs ++ [(l.sync d).1.next], filled := 0 }) := by
          rw [hW]
          have := blk_set (blk_set Q3.out 1 (.slice (some ⟨g4, 0, none⟩) ((l.sync d).1.segs.length + 1) cap4)) 2 (.int .i64 0)
          simp at this
          exact this
        have hs : W.ownsRow B 33 1 (.slice (some ⟨g4, 0, none⟩) ((l.sync d).1.segs.length + 1) cap4) ((l.sync d).1.segs ++ [(l.sync d).1.next]).length (u64s ((l.sync d).1.segs ++ [(l.sync d).1.next])) := by
          have := ownsRow_fr ho4 hfw (fun g hg => by simp; intro e; subst e; exact own_ne ho4 Q3.out (by decide) hg)
          simpa using this
        have hr : W.ownsRow B 103 3 rv1 (l.sync d).1.recs.length (recsV (l.sync d).1.recs) := ownsRow_fr H1.out.recs hf (fun g hg hm => by
          rcases List.mem_cons.1 hm with e | hm
          · subst e; exact own_ne H1.out.recs H1.out.blk (by decide) hg
          · simp at hm; obtain ⟨c, hcc⟩ := own_cells H1.out.segs hm; exact own_ne H1.out.recs hcc (by decide) hg)
        have hnx := H1.out.nextN
        have hl2 := H1.out.rows (n' := n + 1) hf (by intro k hk _; rcases List.mem_cons.1 hk with e | hk; exact .inl e; simp at hk; exact .inr (.inl hk)) hb hs hr (by omega) (by omega)
          ⟨by have := H1.out.segsN.1; simp; omega, by intro x hx; rcases List.mem_append.1 hx with hx | hx; exact H1.out.segsN.2 x hx; simp at hx; omega⟩ (by have := H1.out.recsN; simp; omega) (by simp) (by simp; omega) H1.out.durN
        exact ⟨rfl, ⟨pv1, _, rv1, nD1, nN1, hl2⟩, HO.out.trans (H1.out.ofr hl2 hf (by intro k hk _; rcases List.mem_cons.1 hk with e | hk; simp [e]; simp at hk; simp [hk]) (.inl rfl) (Near.refl _ _) HL4.out (Near.refl _ _))⟩)
    · have e : l.room d = l.sync d := by unfold ALog.room; rw [if_neg HF.out, if_neg hc]
      rw [errN_no hc]
      go_wp2
      go_ret
      rw [e]
      exact ⟨by rw [errN_no hc]; rfl, ⟨pv1, sv1, rv1, nD1, nN1, H1.out.more hn⟩, HO.out⟩
end Go.Proofs.YtkhjhojmhllkaaaGreatDoor
/- (*Log).Append's step that writes. -/
namespace Go.Proofs.YtkhjhojmhllkaaaGreatDoor
open Go.RowKit
open Sc

theorem dS_typed {w : World} {B p bD bN n nD nN q : Nat} {pv : Value} {d : ADisk} {c : Array Value} {t : TypeId} {fr : Nat × Nat} (h : DiskIn w B p bD bN pv d n nD nN) (hq : w.heap[q]? = some (.cells c t fr)) (h1 : t ≠ 97) (h2 : t ≠ 130) : q ∉ dS p bD bN pv := by
  intro hm
  rcases List.mem_cons.1 hm with e | hm
  · rw [e, h.blk] at hq; cases hq; exact h1 rfl
  rcases List.mem_cons.1 hm with e | hm
  · exact h.dur.ne_cells hq e.symm
  rcases List.mem_cons.1 hm with e | hm
  · exact h.now.ne_cells hq e.symm
  · simp at hm; exact own_ne h.pen hq (fun e => h2 e.symm) hm
theorem dS_typed8 {w : World} {B p bD bN n nD nN q g k len cap : Nat} {pv : Value} {d : ADisk} {c : Array Value} {t : TypeId} {fr : Nat × Nat} {xs : List Value} (h : DiskIn w B p bD bN pv d n nD nN) (hr : w.ownsRow k 5 1 (.slice (some ⟨g, 0, none⟩) len cap) len xs) (hq : w.heap[q]? = some (.cells c t fr)) (h1 : t ≠ 97) (h2 : t ≠ 130) (h3 : t ≠ 5) : q ∉ g :: dS p bD bN pv := by
  intro hm
  rcases List.mem_cons.1 hm with e | hm
  · subst e; obtain ⟨c', hc⟩ := own_cells hr rfl; rw [hc] at hq; cases hq; exact h3 rfl
  · exact dS_typed h hq h1 h2 hm
/-- what the step leaves -/
def App1Post (B lp p bD bN n nD g : Nat) (pv sv rv : Value) (l : ALog) (d : ADisk) (o : AOp) (w : World) (e : Ending) (w' : World) : Prop :=
  e = .returned (errN (d.tell o).2) ∧ (∃ pv' nN', LogIn w' B lp p bD bN pv' sv rv l (d.tell o).1 (n + 1) nD nN' ∧ Near w.heap.size pv pv') ∧ Fr (g :: dS p bD bN pv) w w'
theorem segs_cell {w : World} {B g cap n : Nat} {l : List Nat} (h : w.ownsRow B 33 1 (.slice (some ⟨g, 0, none⟩) n cap) n (u64s l)) (k x : Nat) (hk : l[k]? = some x) : w.cell? ⟨g, k, none⟩ = some (.int .u64 (x : Int)) := by
  have h1 : (u64s l)[k]? = some (.int .u64 (x : Int)) := by simp [u64s, hk]
  have := h.cells (g := g) rfl k _ h1
  simpa [Addr.add_lit] using this
set_option maxRecDepth 100000 in
set_option maxHeartbeats 2000000 in
theorem app1_any (B lp p bD bN n nD nN bl bb g m cap base gs cs last : Nat) (pv rv : Value) (l : ALog) (d : ADisk) (by_ : List Nat) (w : World) (h : LogIn w B lp p bD bN pv (.slice (some ⟨gs, 0, none⟩) l.segs.length cs) rv l d n nD nN) (hn : n < 67108864)
    (hlast : l.segs[l.segs.length - 1]? = some last) (hbl : w.heap[bl]? = some (.cells #[.pointer (some ⟨lp, 0, none⟩)] 71)) (hbb : w.heap[bb]? = some (.cells #[.slice (some ⟨g, 0, none⟩) m cap] 206))
    (hm : by_.length = m) (hr : w.ownsRow base 5 1 (.slice (some ⟨g, 0, none⟩) m cap) m (bs by_)) (hm2 : m ≤ 4096) (hpow : Pows w) (hu : last < 18446744073709551616) :
    Calls Tryz.prog 144 #[.pointer (some ⟨bl, 0, none⟩), .pointer (some ⟨bb, 0, none⟩)] w (App1Post B lp p bD bN n nD g pv (.slice (some ⟨gs, 0, none⟩) l.segs.length cs) rv l d ⟨2, segName last, ByteArray.empty, str by_⟩ w) := by
  subst hm
  have hL : 0 < l.segs.length := by
    have := (List.getElem?_eq_some_iff.1 hlast).1; omega
  have x0 := blk_cell hbl 0
  have y0 := blk_cell hbb 0
  have c0 := blk_cell h.blk 0
  have c1 := blk_cell h.blk 1
  have s0 := segs_cell h.segs _ _ hlast
  simp at x0 y0 c0 c1
  have hcs := h.segs
  obtain ⟨S, hS⟩ : ∃ S, S + 1 = l.segs.length := ⟨l.segs.length - 1, by omega⟩
  have hSn : S < 67108864 := by have := h.segsN.1; omega
  have i0 : (0 : Int) ≤ (S : Int) := by omega
  have i1 : (S : Int) < (S : Int) + 1 := by omega
  have i2 : wrap64 (S : Int) = (S : Int) := by unfold wrap64; omega
  have i3 : IntKind.i64.wrap (S : Int) = (S : Int) := by rw [IntKind.wrap_i64]; omega
  have HI : Hid (LogIn w B lp p bD bN pv (.slice (some ⟨gs, 0, none⟩) l.segs.length cs) rv l d n nD nN) := h
  have HX : Hid (w.heap[bl]? = some (.cells #[.pointer (some ⟨lp, 0, none⟩)] 71)) := hbl
  have HY : Hid (w.heap[bb]? = some (.cells #[.slice (some ⟨g, 0, none⟩) by_.length cap] 206)) := hbb
  have HR : Hid (w.ownsRow base 5 1 (.slice (some ⟨g, 0, none⟩) by_.length cap) by_.length (bs by_)) := hr
  have hma := Tryz.mAppend
  rw [← hS] at c1 s0
  simp only [Nat.add_sub_cancel] at s0
  have HS : Hid (l.segs.length = S + 1) := hS.symm
  have hlt : bl < w.heap.size ∧ bb < w.heap.size ∧ lp < w.heap.size ∧ gs < w.heap.size := ⟨(Array.getElem?_eq_some_iff.1 hbl).1, (Array.getElem?_eq_some_iff.1 hbb).1, (Array.getElem?_eq_some_iff.1 h.blk).1, (h.segs.lt gs rfl).2⟩
  have hnt : bl ∉ g :: dS p bD bN pv ∧ bb ∉ g :: dS p bD bN pv ∧ lp ∉ g :: dS p bD bN pv ∧ gs ∉ g :: dS p bD bN pv := by
    obtain ⟨cg, hcg⟩ := own_cells h.segs (g := gs) rfl
    exact ⟨dS_typed8 h.disk hr hbl (by decide) (by decide) (by decide), dS_typed8 h.disk hr hbb (by decide) (by decide) (by decide), dS_typed8 h.disk hr h.blk (by decide) (by decide) (by decide), dS_typed8 h.disk hr hcg (by decide) (by decide) (by decide)⟩
  clear h hbl hbb hr hcs hS
  go_enter Tryz.func144, Tryz.ntmps144
  go_wp2
  go_region_held3 (fun w' => w'.cell? ⟨bl, 0, none⟩ = some (.pointer (some ⟨lp, 0, none⟩)) ∧ w'.cell? ⟨bb, 0, none⟩ = some (.slice (some ⟨g, 0, none⟩) by_.length cap) ∧ w'.cell? ⟨lp, 0, none⟩ = some (dskV p) ∧ w'.cell? ⟨lp, 1, none⟩ = some (.slice (some ⟨gs, 0, none⟩) (S + 1) cs) ∧ w'.cell? ⟨gs, S, none⟩ = some (.int .u64 (last : Int)))
    (simp [*])
    (first | (go_at_call 359; refine (append_any B p bD bN n nD nN g cap base pv d (segName last) by_ _ (HI.out.disk.new (Fr.of_below HB1.out [])) hn (by have := segName_size last hu; unfold maxLen; omega) (ownsRow_fr HR.out (Fr.of_below HB1.out []) (by simp)) hm2).mono ?_; rintro e w2 ⟨rfl, hd2, hf2⟩; have x2 := (World.cell?_of_block (a := ⟨bl, 0, none⟩) (hf2.block bl (Nat.lt_of_lt_of_le hlt.1 HB1.out.size) hnt.1)).trans x1; have y2 := (World.cell?_of_block (a := ⟨bb, 0, none⟩) (hf2.block bb (Nat.lt_of_lt_of_le hlt.2.1 HB1.out.size) hnt.2.1)).trans y1; have e0 := (World.cell?_of_block (a := ⟨lp, 0, none⟩) (hf2.block lp (Nat.lt_of_lt_of_le hlt.2.2.1 HB1.out.size) hnt.2.2.1)).trans d0; have e1 := (World.cell?_of_block (a := ⟨lp, 1, none⟩) (hf2.block lp (Nat.lt_of_lt_of_le hlt.2.2.1 HB1.out.size) hnt.2.2.1)).trans d1; have s2 := (World.cell?_of_block (a := ⟨gs, S, none⟩) (hf2.block gs (Nat.lt_of_lt_of_le hlt.2.2.2 HB1.out.size) hnt.2.2.2)).trans s1) | (go_at_call 145; refine (segmentName_any last w.drew hu (show Pows w.drew from hpow)).mono ?_; rintro e w1 ⟨rfl, hb0⟩; have hb1 : Below w.heap.size w w1 := ⟨hb0.os, hb0.tape, hb0.output, hb0.size, hb0.block⟩; have x1 := (hb1.cell (p := ⟨bl, 0, none⟩) hlt.1).trans x0; have y1 := (hb1.cell (p := ⟨bb, 0, none⟩) hlt.2.1).trans y0; have d0 := (hb1.cell (p := ⟨lp, 0, none⟩) hlt.2.2.1).trans c0; have d1 := (hb1.cell (p := ⟨lp, 1, none⟩) hlt.2.2.1).trans c1; have s1 := (hb1.cell (p := ⟨gs, S, none⟩) hlt.2.2.2).trans s0; have HB1 : Hid (Below w.heap.size w w1) := hb1; clear hb1 hb0))
  go_wp2
  go_ret
  obtain ⟨pv2, nN2, hd, hne⟩ := hd2
  have hf0 : Fr [] w w1 := Fr.of_below HB1.out []
  have hl1 : LogIn w1 B lp p bD bN pv (.slice (some ⟨gs, 0, none⟩) l.segs.length cs) rv l d n nD nN := HI.out.turned (HI.out.disk.new hf0) hf0 (by simp) (Nat.le_refl _)
  have hrv : ∀ k ∈ g :: dS p bD bN pv, rv.ownBlock ≠ some k := by
    intro k hk e
    obtain ⟨c, hc⟩ := own_cells HI.out.recs e
    exact dS_typed8 HI.out.disk HR.out hc (by decide) (by decide) (by decide) hk
  have hl2 := hl1.turned hd hf2 (fun k hk _ => ⟨fun e => hnt.2.2.1 (e ▸ hk), fun e => hnt.2.2.2 (by cases e; exact hk), hrv k hk⟩) (by omega)
  refine ⟨rfl, ⟨pv2, nN2, hl2, fun k hk => ?_⟩, (hf0.mono (by simp)).trans hf2⟩
  rcases hne k hk with e | e
  · exact .inl e
  · right; have := HB1.out.size; omega
end Go.Proofs.YtkhjhojmhllkaaaGreatDoor
/- inTurn and write, over Append's two steps. -/
namespace Go.Proofs.YtkhjhojmhllkaaaGreatDoor
open Go.RowKit
open Sc

/-- as OFr, and the blocks of X may have turned -/
structure OFx (X : List Nat) (lp p : Nat) (w w' : World) : Prop where
  os : w'.os = w.os
  tape : w'.tape = w.tape
  output : w'.output = w.output
  size : w.heap.size ≤ w'.heap.size
  block : ∀ k, k < w.heap.size → ¬ Own lp p w k → k ∉ X → w'.heap[k]? = w.heap[k]?
  stay : ∀ k, k < w.heap.size → Own lp p w' k → Own lp p w k
theorem OFr.x {X : List Nat} {lp p : Nat} {w w' : World} (h : OFr lp p w w') : OFx X lp p w w' := ⟨h.os, h.tape, h.output, h.size, fun k hk hn _ => h.block k hk hn, h.stay⟩
theorem OFx.trans {X : List Nat} {lp p : Nat} {a b c : World} (h : OFx X lp p a b) (k : OFx X lp p b c) : OFx X lp p a c :=
  ⟨k.os.trans h.os, k.tape.trans h.tape, k.output.trans h.output, Nat.le_trans h.size k.size,
    fun i hi hn hx => (k.block i (Nat.lt_of_lt_of_le hi h.size) (fun ho => hn (h.stay i hi ho)) hx).trans (h.block i hi hn hx),
    fun i hi ho => h.stay i hi (k.stay i (Nat.lt_of_lt_of_le hi h.size) ho)⟩
section
variable {w w' : World} {B lp p bD bN n nD nN n' nD' nN' : Nat} {pv sv rv pv' sv' rv' : Value} {l l' : ALog} {d d' : ADisk}
theorem LogIn.ofx {X S : List Nat} (h : LogIn w B lp p bD bN pv sv rv l d n nD nN) (h' : LogIn w' B lp p bD bN pv' sv' rv' l' d' n' nD' nN') (hf : Fr S w w')
    (hS : ∀ k ∈ S, k < w.heap.size → k ∈ X ∨ k = lp ∨ k = p ∨ k = bD ∨ k = bN ∨ pv.ownBlock = some k ∨ sv.ownBlock = some k ∨ rv.ownBlock = some k)
    (h1 : Near w.heap.size pv pv') (h2 : Near w.heap.size sv sv') (h3 : Near w.heap.size rv rv') : OFx X lp p w w' := by
  refine ⟨hf.os, hf.tape, hf.output, hf.size, fun k hk hn hx => hf.block k hk (fun hm => ?_), fun k hk ho => ?_⟩
  · rcases hS k hm hk with e | e
    · exact hx e
    · exact hn ((h.own k).2 e)
  rw [h.own]
  rcases (h'.own k).1 ho with e | e | e | e | e | e | e
  · exact .inl e
  · exact .inr (.inl e)
  · exact .inr (.inr (.inl e))
  · exact .inr (.inr (.inr (.inl e)))
  · rcases h1 k e with e | e
    · exact .inr (.inr (.inr (.inr (.inl e))))
    · omega
  · rcases h2 k e with e | e
    · exact .inr (.inr (.inr (.inr (.inr (.inl e)))))
    · omega
  · rcases h3 k e with e | e
    · exact .inr (.inr (.inr (.inr (.inr (.inr e)))))
    · omega
theorem LogIn.ge (h : LogIn w B lp p bD bN pv sv rv l d n nD nN) {k : Nat} (hk : Own lp p w k) : B ≤ k := by
  rcases (h.own k).1 hk with e | e | e | e | e | e | e
  · rw [e]; exact h.base
  · rw [e]; exact h.disk.base.1
  · rw [e]; exact h.disk.base.2.1
  · rw [e]; exact h.disk.base.2.2.1
  · exact (h.disk.pen.lt k e).1
  · exact (h.segs.lt k e).1
  · exact (h.recs.lt k e).1
/-- a block of another kind than the log's -/
theorem LogIn.free (h : LogIn w B lp p bD bN pv sv rv l d n nD nN) {q : Nat} {c : Array Value} {t : TypeId} {fr : Nat × Nat} (hq : w.heap[q]? = some (.cells c t fr)) (h1 : t ≠ 97) (h2 : t ≠ 130) (h3 : t ≠ 187) (h4 : t ≠ 33) (h5 : t ≠ 103) : ¬ Own lp p w q := by
  intro ho
  have hn := dS_typed h.disk hq h1 h2
  rcases (h.own q).1 ho with e | e | e | e | e | e | e
  · rw [e, h.blk] at hq; cases hq; exact h3 rfl
  · exact hn (by simp [e])
  · exact hn (by simp [e])
  · exact hn (by simp [e])
  · exact hn (by simp [e])
  · exact own_ne h.segs hq (fun e => h4 e.symm) e
  · exact own_ne h.recs hq (fun e => h5 e.symm) e
end
theorem Tryz.powG : Tryz.prog.globalNamed "internal/strconv.uint64pow10" = some 1 := by kernel_rfl
theorem Pows.of_block {w w' : World} (h : Pows w) (hb : w'.heap[1]? = w.heap[1]?) : Pows w' := by
  unfold Pows Lib.TabIs World.var? at *
  rw [Tryz.powG] at *
  simp only [Option.bind_some] at *
  rw [hb]; exact h
def ALog.put (l : ALog) (d : ADisk) (by_ : List Nat) : ALog × ADisk × Nat :=
  if (l.room d).2.2 = 0 then ((l.room d).1, ((l.room d).2.1.tell ⟨2, segName ((l.room d).1.segs.getLastD 0), ByteArray.empty, str by_⟩).1, ((l.room d).2.1.tell ⟨2, segName ((l.room d).1.segs.getLastD 0), ByteArray.empty, str by_⟩).2)
  else l.room d
/-- what stands behind it -/
def PutL (B lp p bD bN n : Nat) (X : List Nat) (r : ALog × ADisk × Nat) (w : World) (e : Ending) (w' : World) : Prop :=
  e = .returned (errN r.2.2) ∧ (∃ pv sv rv nD nN, LogIn w' B lp p bD bN pv sv rv r.1 r.2.1 n nD nN) ∧ OFx X lp p w w'
theorem room_segs {l : ALog} {d : ADisk} (h : l.filled < 600 → l.segs ≠ []) (hr : (l.room d).2.2 = 0) : (l.room d).1.segs ≠ [] := by
  unfold ALog.room at *
  split
  · rename_i hf; exact h hf
  · rename_i hf
    rw [if_neg hf] at hr
    split at hr
    · rename_i hs; rw [if_pos hs]; simp
    · rename_i hs; exact absurd hr hs
theorem getLast_at {l : List Nat} (h : l ≠ []) : l[l.length - 1]? = some (l.getLastD 0) := by
  rw [List.getLastD_eq_getLast?, ← List.getLast?_eq_getElem?]
  cases hh : l.getLast? with
  | none => exact absurd (List.getLast?_eq_none_iff.1 hh) h
  | some x => rfl
set_option maxRecDepth 100000 in
set_option maxHeartbeats 4000000 in
theorem inTurnA (B lp p bD bN n nD nN bl bb g cap base gst : Nat) (pv sv rv : Value) (l : ALog) (d : ADisk) (by_ : List Nat) (w : World) (h : LogIn w B lp p bD bN pv sv rv l d n nD nN) (hn : n + 1 < 67108864) (hB : 2 ≤ B) (hsg : l.filled < 600 → l.segs ≠ [])
    (hst : w.heap[gst]? = some (.cells #[.func (.func 143) #[.pointer (some ⟨lp, 0, none⟩)] #[], .func (.func 144) #[] #[.pointer (some ⟨bl, 0, none⟩), .pointer (some ⟨bb, 0, none⟩)]] 160))
    (hbl : w.heap[bl]? = some (.cells #[.pointer (some ⟨lp, 0, none⟩)] 71)) (hbb : w.heap[bb]? = some (.cells #[.slice (some ⟨g, 0, none⟩) by_.length cap] 206))
    (hr : w.ownsRow base 5 1 (.slice (some ⟨g, 0, none⟩) by_.length cap) by_.length (bs by_)) (hm2 : by_.length ≤ 4096) (hpow : Pows w) :
    Calls Tryz.prog 125 #[.slice (some ⟨gst, 0, none⟩) 2 2] w (PutL B lp p bD bN (n + 2) [g] (l.put d by_) w) := by
  have z0 := blk_cell hst 0
  have z1 := blk_cell hst 1
  simp at z0 z1
  have HI : Hid (LogIn w B lp p bD bN pv sv rv l d n nD nN) := h
  go_enter Tryz.func125, Tryz.ntmps125
  go_wp2
  refine wp_loop_rounds 3 ?_
  rw [rounds_succ]
  go_wp2_with fail
  refine (room_any B lp p bD bN n nD nN pv sv rv l d w HI.out (by omega)).mono ?_
  rintro e w1 ⟨rfl, ⟨pv1, sv1, rv1, nD1, nN1, hl1⟩, ho1⟩
  have fre : ∀ {q : Nat} {c : Array Value} {t : TypeId}, w.heap[q]? = some (.cells c t (0, 0)) → t ≠ 97 → t ≠ 130 → t ≠ 187 → t ≠ 33 → t ≠ 103 → w1.heap[q]? = some (.cells c t (0, 0)) := fun {q c t} hq h1 h2 h3 h4 h5 =>
    (ho1.block q (Array.getElem?_eq_some_iff.1 hq).1 (HI.out.free hq h1 h2 h3 h4 h5)).trans hq
  have hst1 := fre hst (by decide) (by decide) (by decide) (by decide) (by decide)
  have hbl1 := fre hbl (by decide) (by decide) (by decide) (by decide) (by decide)
  have hbb1 := fre hbb (by decide) (by decide) (by decide) (by decide) (by decide)
  have hr1 : w1.ownsRow base 5 1 (.slice (some ⟨g, 0, none⟩) by_.length cap) by_.length (bs by_) := by
    obtain ⟨h1, h2⟩ := hr
    refine ⟨h1, ?_⟩
    rcases h2 with h2 | ⟨g', cap', cur, e, b1, b2, b3⟩
    · exact .inl h2
    · exact .inr ⟨g', cap', cur, e, b1, fre b2 (by decide) (by decide) (by decide) (by decide) (by decide), b3⟩
  have hb6 : 1 < w.heap.size := by have := HI.out.disk.base.2.2.2; omega
  have hpow1 : Pows w1 := hpow.of_block (ho1.block 1 hb6 (fun ho => by have := HI.out.ge ho; omega))
  have z2 := blk_cell hst1 1
  simp at z2
  have H1 : Hid (LogIn w1 B lp p bD bN pv1 sv1 rv1 (l.room d).1 (l.room d).2.1 (n + 1) nD1 nN1) := hl1
  have HO : Hid (OFr lp p w w1) := ho1
  have HBL : Hid (w1.heap[bl]? = some (.cells #[.pointer (some ⟨lp, 0, none⟩)] 71)) := hbl1
  have HBB : Hid (w1.heap[bb]? = some (.cells #[.slice (some ⟨g, 0, none⟩) by_.length cap] 206)) := hbb1
  have HR1 : Hid (w1.ownsRow base 5 1 (.slice (some ⟨g, 0, none⟩) by_.length cap) by_.length (bs by_)) := hr1
  have HSG : Hid (l.filled < 600 → l.segs ≠ []) := hsg
  clear h hl1 ho1 hst1 hbl1 hbb1 hr1 hst hbl hbb hr hsg fre z0 z1
  by_cases hc : (l.room d).2.2 = 0
  · have hseg := room_segs HSG.out hc
    obtain ⟨last, hlast⟩ : ∃ last, last = (l.room d).1.segs.getLastD 0 := ⟨_, rfl⟩
    have hla := getLast_at hseg
    rw [← hlast] at hla
    have e : l.put d by_ = ((l.room d).1, ((l.room d).2.1.tell ⟨2, segName last, ByteArray.empty, str by_⟩).1, ((l.room d).2.1.tell ⟨2, segName last, ByteArray.empty, str by_⟩).2) := by unfold ALog.put; rw [if_pos hc, ← hlast]
    have HE : Hid (l.put d by_ = ((l.room d).1, ((l.room d).2.1.tell ⟨2, segName last, ByteArray.empty, str by_⟩).1, ((l.room d).2.1.tell ⟨2, segName last, ByteArray.empty, str by_⟩).2)) := e
    have hlt : last < 18446744073709551616 := H1.out.segsN.2 last (List.mem_of_getElem? hla)
    have HLA : Hid ((l.room d).1.segs[(l.room d).1.segs.length - 1]? = some last) := hla
    clear e hla hlast
    obtain ⟨gs, cs, hsv⟩ : ∃ gs cs, sv1 = .slice (some ⟨gs, 0, none⟩) (l.room d).1.segs.length cs := by
      rcases H1.out.segs.2 with ⟨_, h2⟩ | ⟨g', cap', cur, e, _⟩
      · exact absurd (List.length_eq_zero_iff.1 h2) hseg
      · exact ⟨g', cap', e⟩
    subst hsv
    clear hseg
    rw [hc, errN_ok]
    go_wp2
    rw [rounds_succ]
    go_wp2_with fail
    refine (app1_any B lp p bD bN (n + 1) nD1 nN1 bl bb g by_.length cap base gs cs last pv1 rv1 (l.room d).1 (l.room d).2.1 by_ w1 H1.out hn HLA.out HBL.out HBB.out rfl HR1.out hm2 hpow1 hlt).mono ?_
    rintro e w2 ⟨rfl, ⟨pv2, nN2, hl2, hne2⟩, hf2⟩
    have ho2 : OFx [g] lp p w1 w2 := H1.out.ofx hl2 hf2 (by intro k hk _; rcases List.mem_cons.1 hk with e | hk; exact .inl (by simp [e]); right; rcases List.mem_cons.1 hk with e | hk; simp [e]; rcases List.mem_cons.1 hk with e | hk; simp [e]; rcases List.mem_cons.1 hk with e | hk; simp [e]; simp at hk; simp [hk]) hne2 (Near.refl _ _) (Near.refl _ _)
    have H2 : Hid (PutL B lp p bD bN (n + 2) [g] (l.put d by_) w (.returned (errN ((l.room d).2.1.tell ⟨2, segName last, ByteArray.empty, str by_⟩).2)) w2) := by
      show PutL _ _ _ _ _ _ _ _ _ _ _
      rw [HE.out]
      exact ⟨rfl, ⟨pv2, _, rv1, nD1, nN2, hl2⟩, HO.out.x.trans ho2⟩
    clear hl2 hne2 hf2 ho2
    by_cases hc2 : ((l.room d).2.1.tell ⟨2, segName last, ByteArray.empty, str by_⟩).2 = 0
    · rw [hc2, errN_ok] at H2 ⊢
      go_wp2
      rw [rounds_succ]
      go_wp2
      go_ret
      exact H2.out
    · rw [errN_no hc2] at H2 ⊢
      go_wp2
      go_ret
      exact H2.out
  · have e : l.put d by_ = l.room d := by unfold ALog.put; rw [if_neg hc]
    have HE : Hid (l.put d by_ = l.room d) := e
    clear e
    have H2 : Hid (PutL B lp p bD bN (n + 2) [g] (l.put d by_) w (.returned (errN (l.room d).2.2)) w1) := by
      show PutL _ _ _ _ _ _ _ _ _ _ _
      rw [HE.out]
      exact ⟨rfl, ⟨pv1, sv1, rv1, nD1, nN1, H1.out.more hn⟩, HO.out.x⟩
    rw [errN_no hc] at H2 ⊢
    go_wp2
    go_ret
    exact H2.out
end Go.Proofs.YtkhjhojmhllkaaaGreatDoor
/- journal.removeAll, over a disk. -/
namespace Go.Proofs.YtkhjhojmhllkaaaGreatDoor
open Go.RowKit
open Sc

/-- what is the disk's -/
def OwnD (p : Nat) (w : World) (k : Nat) : Prop := k = p ∨ k ∈ refs w.heap[p]?
structure DFr (p : Nat) (w w' : World) : Prop where
  os : w'.os = w.os
  tape : w'.tape = w.tape
  output : w'.output = w.output
  size : w.heap.size ≤ w'.heap.size
  block : ∀ k, k < w.heap.size → ¬ OwnD p w k → w'.heap[k]? = w.heap[k]?
  stay : ∀ k, k < w.heap.size → OwnD p w' k → OwnD p w k
theorem DFr.refl (p : Nat) (w : World) : DFr p w w := ⟨rfl, rfl, rfl, Nat.le_refl _, fun _ _ _ => rfl, fun _ _ h => h⟩
theorem DFr.trans {p : Nat} {a b c : World} (h : DFr p a b) (k : DFr p b c) : DFr p a c :=
  ⟨k.os.trans h.os, k.tape.trans h.tape, k.output.trans h.output, Nat.le_trans h.size k.size,
    fun i hi hn => (k.block i (Nat.lt_of_lt_of_le hi h.size) (fun ho => hn (h.stay i hi ho))).trans (h.block i hi hn),
    fun i hi ho => h.stay i hi (k.stay i (Nat.lt_of_lt_of_le hi h.size) ho)⟩
section
variable {w w' : World} {B p bD bN n nD nN n' nD' nN' : Nat} {pv pv' : Value} {d d' : ADisk}
theorem DiskIn.ownD (h : DiskIn w B p bD bN pv d n nD nN) (k : Nat) : OwnD p w k ↔ k ∈ dS p bD bN pv := by
  unfold OwnD
  rw [h.blk, mem_dsk (own_sl h.pen)]
  simp
theorem DiskIn.dfr {S : List Nat} (h : DiskIn w B p bD bN pv d n nD nN) (h' : DiskIn w' B p bD bN pv' d' n' nD' nN') (hf : Fr S w w') (hS : ∀ k ∈ S, k < w.heap.size → k ∈ dS p bD bN pv) (hne : Near w.heap.size pv pv') : DFr p w w' := by
  refine ⟨hf.os, hf.tape, hf.output, hf.size, fun k hk hn => hf.block k hk (fun hm => hn ((h.ownD k).2 (hS k hm hk))), fun k hk ho => ?_⟩
  rw [h.ownD]
  have := (h'.ownD k).1 ho
  rcases List.mem_cons.1 this with e | this
  · simp [e]
  rcases List.mem_cons.1 this with e | this
  · simp [e]
  rcases List.mem_cons.1 this with e | this
  · simp [e]
  · simp at this
    rcases hne k this with e | e
    · simp [e]
    · omega
/-- a block of another kind than the disk's -/
theorem DiskIn.freeD (h : DiskIn w B p bD bN pv d n nD nN) {q : Nat} {c : Array Value} {t : TypeId} {fr : Nat × Nat} (hq : w.heap[q]? = some (.cells c t fr)) (h1 : t ≠ 97) (h2 : t ≠ 130) : ¬ OwnD p w q := by
  rw [h.ownD]
  intro hm
  rcases List.mem_cons.1 hm with e | hm
  · rw [e, h.blk] at hq; cases hq; exact h1 rfl
  rcases List.mem_cons.1 hm with e | hm
  · exact h.dur.ne_cells hq e.symm
  rcases List.mem_cons.1 hm with e | hm
  · exact h.now.ne_cells hq e.symm
  · simp at hm; exact own_ne h.pen hq (fun e => h2 e.symm) hm
/-- a row of another kind than the disk's stays -/
theorem DFr.row {e : TypeId} {k m base : Nat} {v : Value} {xs : List Value} (hf : DFr p w w') (h : DiskIn w B p bD bN pv d n nD nN) (hr : w.ownsRow base e k v m xs) (h1 : e ≠ 97) (h2 : e ≠ 130) : w'.ownsRow base e k v m xs := by
  refine ⟨hr.1, ?_⟩
  rcases hr.2 with h3 | ⟨g, cap, cur, rfl, b1, b2, b3⟩
  · exact .inl h3
  · exact .inr ⟨g, cap, cur, rfl, b1, (hf.block g (Array.getElem?_eq_some_iff.1 b2).1 (h.freeD b2 h1 h2)).trans b2, b3⟩
end
/-- names as cells -/
def namesV (l : List ByteArray) : List Value := l.map Value.string
theorem names_cell {w : World} {B g cap n : Nat} {l : List ByteArray} (h : w.ownsRow B 9 1 (.slice (some ⟨g, 0, none⟩) n cap) n (namesV l)) (k : Nat) (x : ByteArray) (hk : l[k]? = some x) : w.cell? ⟨g, k, none⟩ = some (.string x) := by
  have h1 : (namesV l)[k]? = some (.string x) := by simp [namesV, hk]
  have := h.cells (g := g) rfl k _ h1
  simpa [Addr.add_lit] using this
def ADisk.removeAll (d : ADisk) : List ByteArray → ADisk × Nat
  | [] => d.sync
  | nm :: r => if (d.tell ⟨3, nm, ByteArray.empty, ByteArray.empty⟩).2 = 0 then (d.tell ⟨3, nm, ByteArray.empty, ByteArray.empty⟩).1.removeAll r else d.tell ⟨3, nm, ByteArray.empty, ByteArray.empty⟩
/-- what stands behind a call over the disk alone -/
def DskPost (B p bD bN n : Nat) (r : ADisk × Nat) (w : World) (e : Ending) (w' : World) : Prop :=
  e = .returned (errN r.2) ∧ (∃ pv nD nN, DiskIn w' B p bD bN pv r.1 n nD nN) ∧ DFr p w w'
theorem DiskIn.mores {w : World} {B p bD bN n nD nN : Nat} {pv : Value} {d : ADisk} (h : DiskIn w B p bD bN pv d n nD nN) {m : Nat} (hm : n ≤ m) (hm2 : m ≤ 67108864) : DiskIn w B p bD bN pv d m nD nN :=
  { h with hD := by have := h.hD; omega, hN := by have := h.hN; omega, hn := hm2 }
set_option maxRecDepth 100000 in
set_option maxHeartbeats 4000000 in
theorem removeAll_some (B p bD bN n nD nN g m cap base : Nat) (pv : Value) (d : ADisk) (l : List ByteArray) (w : World) (h : DiskIn w B p bD bN pv d n nD nN) (hm : l.length = m) (hn : n + m ≤ 67108864) (hr : w.ownsRow base 9 1 (.slice (some ⟨g, 0, none⟩) m cap) m (namesV l)) (hs : ∀ x ∈ l, x.size ≤ maxLen) :
    Calls Tryz.prog 128 #[dskV p, .slice (some ⟨g, 0, none⟩) m cap] w (DskPost B p bD bN (n + m) (d.removeAll l) w) := by
  have HI : Hid (DiskIn w B p bD bN pv d n nD nN) := h
  have HM : Hid (l.length = m) := hm
  have m1 := Tryz.mRemove
  have m2 := Tryz.mSync
  have HR : Hid (w.ownsRow base 9 1 (.slice (some ⟨g, 0, none⟩) m cap) m (namesV l)) := hr
  clear h hm hr
  go_enter Tryz.func128, Tryz.ntmps128
  go_wp2
  go_loopw [10] (fun i wr => ∃ k : Nat, k ≤ m ∧ i = .int .i64 k ∧ (∃ pvr dr nDr nNr, DiskIn wr B p bD bN pvr dr (n + k) nDr nNr ∧ d.removeAll l = dr.removeAll (l.drop k)) ∧ DFr p w wr) (fun i _ => m - (intOf i).toNat)
  case atStart => exact ⟨0, Nat.zero_le _, rfl, ⟨pv, d, nD, nN, HI.out, by simp⟩, DFr.refl _ _⟩
  case round =>
    obtain ⟨k, hk, rfl, ⟨pvr, dr, nDr, nNr, hdr, heq⟩, hfr⟩ := hrel
    have HD : Hid (DiskIn wr B p bD bN pvr dr (n + k) nDr nNr) := hdr
    have HF : Hid (DFr p w wr) := hfr
    have hrow := hfr.row HI.out HR.out (by decide) (by decide)
    clear hdr hfr
    by_cases hlt : k < m
    · obtain ⟨x, hx⟩ : ∃ x, l[k]? = some x := ⟨_, List.getElem?_eq_getElem (by rw [HM.out]; exact hlt)⟩
      have c0 := names_cell hrow k x hx
      have hxs := hs x (List.mem_of_getElem? hx)
      have hdrop : l.drop k = x :: l.drop (k + 1) := by
        rw [List.drop_eq_getElem_cons (by rw [HM.out]; exact hlt)]
        have := List.getElem?_eq_some_iff.1 hx
        obtain ⟨h1, h2⟩ := this
        rw [h2]
      rw [hdrop] at heq
      have HEQ : Hid (d.removeAll l = dr.removeAll (x :: l.drop (k + 1))) := heq
      have i0 : (0 : Int) ≤ (k : Int) := by omega
      have i1 : (k : Int) < (m : Int) := by omega
      clear heq hdrop hx hrow
      go_wp2_with fail
      refine (remove_any B p bD bN (n + k) nDr nNr pvr dr x wr HD.out (by omega) hxs).mono ?_
      rintro e w1 ⟨rfl, ⟨pv1, nN1, hd1, hne1⟩, hf1⟩
      have HD1 : Hid (DiskIn w1 B p bD bN pv1 (dr.tell ⟨3, x, ByteArray.empty, ByteArray.empty⟩).1 (n + k + 1) nDr nN1) := hd1
      have HF1 : Hid (DFr p w w1) := HF.out.trans (HD.out.dfr hd1 hf1 (fun q hq _ => hq) hne1)
      clear hd1 hne1 hf1
      by_cases hc : (dr.tell ⟨3, x, ByteArray.empty, ByteArray.empty⟩).2 = 0
      · rw [hc, errN_ok]
        go_wp2
        go_roundw
        case rel =>
          refine ⟨k + 1, by omega, by go_num, ⟨pv1, _, nDr, nN1, HD1.out, ?_⟩, HF1.out⟩
          rw [HEQ.out]
          show (if _ then _ else _) = _
          rw [if_pos hc]
        case measure => simp [intOf]; omega
      · rw [errN_no hc]
        go_wp2
        go_ret
        have e : d.removeAll l = dr.tell ⟨3, x, ByteArray.empty, ByteArray.empty⟩ := by
          rw [HEQ.out]
          show (if _ then _ else _) = _
          rw [if_neg hc]
        rw [e]
        exact ⟨by rw [errN_no hc]; rfl, ⟨pv1, nDr, nN1, HD1.out.mores (by omega) hn⟩, HF1.out⟩
    · obtain rfl : k = m := by omega
      have e : d.removeAll l = dr.sync := by
        rw [heq, List.drop_of_length_le (by rw [HM.out]; exact Nat.le_refl _)]
        rfl
      have HEQ : Hid (d.removeAll l = dr.sync) := e
      clear heq e hrow
      go_wp2_with fail
      refine (sync_any B p bD bN (n + k) nDr nNr pvr dr wr HD.out).mono ?_
      rintro e w1 ⟨rfl, ⟨pv1, nD1, hd1, hne1⟩, hf1⟩
      have H1 : Hid (DskPost B p bD bN (n + k) (d.removeAll l) w (.returned (errN dr.sync.2)) w1) := by
        show DskPost _ _ _ _ _ _ _ _ _
        rw [HEQ.out]
        exact ⟨rfl, ⟨pv1, nD1, nNr, hd1⟩, HF.out.trans (HD.out.dfr hd1 hf1 (fun q hq _ => by simp at hq; rcases hq with e | e <;> simp [e]) hne1)⟩
      clear hd1 hne1 hf1
      go_wp2
      go_ret
      exact H1.out
end Go.Proofs.YtkhjhojmhllkaaaGreatDoor
