import Derived.Test.YtfkoflldjnlhaaaDoorMath
import Derived.Test.YtfkoflldjnlhaaaDoorProg
import Derived.WalkKit
import Derived.WalkSpells
import Derived.WalkLawsBesides
/- HOW BYTES LIE IN MEMORY: the views by which the contracts speak. -/
namespace Go.Proofs.YtfkoflldjnlhaaaDoor
open Go.RowKit
open Sc

/-- the i-th number of a list -/
def at_ (l : List Nat) (i : Nat) : Nat := l.getD i 0
/-- all are bytes -/
def Byt (l : List Nat) : Prop := ∀ x ∈ l, x < 256
theorem at_lt {l : List Nat} (h : Byt l) (i : Nat) : at_ l i < 256 := by
  unfold at_
  by_cases hi : i < l.length
  · have := h _ (List.getElem_mem hi); simpa [hi] using this
  · simp [Nat.le_of_not_lt hi]
theorem Byt.take_ {l : List Nat} (h : Byt l) (n : Nat) : Byt (l.take n) := fun x hx => h x (List.mem_of_mem_take hx)
theorem take_at (l : List Nat) (k : Nat) (h : k < l.length) : l.take (k + 1) = l.take k ++ [at_ l k] := by
  rw [List.take_succ_eq_append_getElem h]; simp [at_, h]
/-- the bytes l lie from ao on -/
def Lies (w : World) (ao : Option Addr) (l : List Nat) : Prop :=
  l = [] ∨ ∃ b off, ao = some ⟨b, off, none⟩ ∧ ∀ i, i < l.length → w.cell? ⟨b, off + i, none⟩ = some (.int .u8 (at_ l i : Nat))
/-- bytes as values -/
def bs (l : List Nat) : List Value := l.map fun x : Nat => .int .u8 (x : Int)
theorem bs_len (l : List Nat) : (bs l).length = l.length := by simp [bs]
theorem bs_app (a b : List Nat) : bs (a ++ b) = bs a ++ bs b := by simp [bs]
theorem bs_at (l : List Nat) (i : Nat) (h : i < l.length) : (bs l)[i]? = some (.int .u8 (at_ l i : Nat)) := by simp [bs, at_, h]
/-- the bytes l lie in block g from off on -/
def RowAt (w : World) (g off : Nat) (l : List Nat) : Prop := ∀ i, i < l.length → w.cell? ⟨g, off + i, none⟩ = some (.int .u8 (at_ l i : Nat))
theorem own_shape {w : World} {base n : Nat} {v : Value} {xs : List Nat} (h : w.ownsRow base 5 1 v n (bs xs)) (hn : 0 < n) :
    ∃ g cap, v = .slice (some ⟨g, 0, none⟩) n cap ∧ base ≤ g ∧ g < w.heap.size ∧ n ≤ cap ∧ cap ≤ maxLen ∧ RowAt w g 0 xs := by
  obtain ⟨h1, h2⟩ := h
  rcases h2 with ⟨_, h3⟩ | ⟨g, cap, cur, rfl, hb, hg, hnc, hcm, hcs, htk⟩
  · omega
  · refine ⟨g, cap, rfl, hb, (Array.getElem?_eq_some_iff.1 hg).1, hnc, hcm, fun i hi => ?_⟩
    have hown : w.ownsRow base 5 1 (.slice (some ⟨g, 0, none⟩) n cap) n (bs xs) := ⟨h1, .inr ⟨g, cap, cur, rfl, hb, hg, hnc, hcm, hcs, htk⟩⟩
    have := hown.cells (g := g) rfl i _ (bs_at xs i hi)
    simpa [Addr.add_lit] using this
theorem RowAt.below {w w' : World} {B g off : Nat} {l : List Nat} (h : RowAt w g off l) (hb : Below B w w') (hg : g < B) : RowAt w' g off l := fun i hi => by
  rw [hb.cell (p := ⟨g, off + i, none⟩) hg]; exact h i hi
theorem RowAt_alloc {w : World} {o : Obj} {b off : Nat} {l : List Nat} (h : b < w.heap.size) : RowAt (w.alloc o) b off l ↔ RowAt w b off l := by
  unfold RowAt
  constructor
  · intro k i hi; have := k i hi; rwa [World.cell?_alloc_lt _ _ ⟨b, off + i, none⟩ h] at this
  · intro k i hi; rw [World.cell?_alloc_lt _ _ ⟨b, off + i, none⟩ h]; exact k i hi
theorem RowAt_drew {w : World} {b off : Nat} {l : List Nat} : RowAt w.drew b off l ↔ RowAt w b off l := by
  unfold RowAt; simp
theorem RowAt_setCell {w : World} {b off : Nat} {l : List Nat} {a : Addr} {v : Value} (h : ¬ a.block = b) : RowAt (w.setCell a v) b off l ↔ RowAt w b off l := by
  unfold RowAt
  have e : ∀ i, (w.setCell a v).cell? ⟨b, off + i, none⟩ = w.cell? ⟨b, off + i, none⟩ := fun i => World.cell?_setCell_other _ _ _ _ (fun hh => h (by rw [hh]))
  constructor
  · intro k i hi; have := k i hi; rwa [e] at this
  · intro k i hi; rw [e]; exact k i hi
theorem RowAt.lt {w : World} {b off : Nat} {l : List Nat} (h : RowAt w b off l) (hl : 0 < l.length) : b < w.heap.size := by
  have := World.block_lt_of_cell? w ⟨b, off + 0, none⟩ (h 0 hl); exact this
theorem RowAt.sub {w : World} {b off : Nat} {l : List Nat} (h : RowAt w b off l) (o m : Nat) (hl : o + m ≤ l.length) : RowAt w b (off + o) ((l.drop o).take m) := fun i hi => by
  simp only [List.length_take, List.length_drop] at hi
  have := h (o + i) (by omega)
  rw [show off + o + i = off + (o + i) by omega, this]
  congr 3
  simp [at_, List.getElem?_drop, show i < m by omega]
theorem grown_refl (w : World) (r : Option Nat) : w.grownBy w r := ⟨rfl, rfl, rfl, Nat.le_refl _, fun _ _ _ => rfl⟩
theorem grown_trans {w w1 w2 : World} {r : Option Nat} (h : w.grownBy w1 r) (k : w1.grownBy w2 r) : w.grownBy w2 r :=
  ⟨k.os.trans h.os, k.tape.trans h.tape, k.output.trans h.output, Nat.le_trans h.size k.size, fun i hi hn => (k.block i (Nat.lt_of_lt_of_le hi h.size) hn).trans (h.block i hi hn)⟩
theorem grown_set (w : World) (b o : Nat) (v : Value) : w.grownBy (w.setCell ⟨b, o, none⟩ v) (some b) :=
  ⟨rfl, rfl, rfl, by simp [World.setCell], fun k _ hn => Below.heap_setCell _ _ _ _ (fun e => hn (by rw [e]))⟩
theorem grown_drew {w w1 : World} {r : Option Nat} (h : w.grownBy w1 r) : w.grownBy w1.drew r := ⟨h.os, h.tape, h.output, h.size, h.block⟩
theorem grown_cell {w w1 : World} {b : Nat} (h : w.grownBy w1 (some b)) {a : Addr} (hn : a.block ≠ b) (hl : a.block < w.heap.size) : w1.cell? a = w.cell? a :=
  World.cell?_of_block (h.block a.block hl (fun e => hn (Option.some.inj e)))
theorem grown_alloc (w : World) (o : Obj) (r : Option Nat) : w.grownBy (w.alloc o) r := World.grownBy_alloc w o r
theorem own_len {w : World} {base n : Nat} {v : Value} {xs : List Nat} (h : w.ownsRow base 5 1 v n (bs xs)) : xs.length = n := by
  have := h.1; rw [bs_len] at this; omega
theorem own_row {w : World} {base n g cap : Nat} {xs : List Nat} (h : w.ownsRow base 5 1 (.slice (some ⟨g, 0, none⟩) n cap) n (bs xs)) : RowAt w g 0 xs := fun i hi => by
  have := h.cells (g := g) rfl i _ (bs_at xs i hi)
  simpa [Addr.add_lit] using this
theorem own_lt {w : World} {base n g cap : Nat} {xs : List Nat} (h : w.ownsRow base 5 1 (.slice (some ⟨g, 0, none⟩) n cap) n (bs xs)) : base ≤ g ∧ g < w.heap.size := h.lt g rfl
/-- two rows were written at the most -/
theorem below_two {w w1 w2 : World} {b g B : Nat} (h : w.grownBy w1 (some b)) (k : w1.grownBy w2 (some g)) (hb : B ≤ b) (hg : B ≤ g) (hB : B ≤ w.heap.size) : Below B w w2 :=
  ((Below.refl B w).grown h hB (fun q hq => by cases hq; exact hb)).grown k (Nat.le_trans hB h.size) (fun q hq => by cases hq; exact hg)
theorem row_grown {w w' : World} {g off b : Nat} {l : List Nat} (h : RowAt w g off l) (hg : w.grownBy w' (some b)) (hne : g ≠ b) : RowAt w' g off l := fun i hi => by
  have h1 := h i hi
  rw [grown_cell hg (a := ⟨g, off + i, none⟩) hne (World.block_lt_of_cell? w _ h1)]; exact h1
theorem RowAt.drewN {w : World} {b off : Nat} {l : List Nat} (h : RowAt w b off l) (q : Nat) : RowAt (w.drewN q) b off l := fun i hi => by
  have := h i hi; simpa using this
theorem Tryd.info5 : (Tryd.prog.info? 5).map (fun i => (i.zero, i.size, i.bytes)) = some (some (.int .u8 0), 1, 1) := by kernel_rfl
end Go.Proofs.YtfkoflldjnlhaaaDoor
