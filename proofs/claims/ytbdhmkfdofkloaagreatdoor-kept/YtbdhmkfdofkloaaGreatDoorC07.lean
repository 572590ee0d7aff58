import Derived.Test.YtbdhmkfdofkloaaGreatDoorC06
import Derived.Test.YtbdhmkfdofkloaaGreatDoorC04
import Derived.Laws.AppendOwnNone
import Derived.Test.YtbdhmkfdofkloaaGreatDoorC03
import Derived.Laws.BytesString
import Derived.Laws.IdiomStrings
import Derived.Test.YtbdhmkfdofkloaaGreatDoorC02
/- plain.Told. -/
namespace Go.Proofs.YtbdhmkfdofkloaaGreatDoor
open Go.RowKit Go.Extern.Stop Go.Stop Go.Extern

theorem told_nil (w : World) :
    Calls Tryz.prog 28 #[.nilIface] w fun e w' => e = .returned (.int .i64 0) ∧ Below w.heap.size w w' := by
  go_enter Tryz.func28, Tryz.ntmps28
  go_wp2
  go_ret
  exact ⟨rfl, (Below.refl _ _).alloc (Nat.le_refl _) _⟩

set_option maxRecDepth 100000 in
set_option maxHeartbeats 1000000 in
theorem told_err (n : Int) (w : World) (hg : Met w) :
    Calls Tryz.prog 28 #[.iface 32 (.int .i64 n)] w fun e w' => e = .returned (.int .i64 n) ∧ Below w.heap.size w w' := by
  have hlt := hg.lt
  have HG : Hid (Met (w.alloc (.cells #[.int .i64 0] 32))) := by
    show Met _
    unfold Met
    rw [World.cell?_alloc_lt _ _ ⟨0, 0, none⟩ hlt]; exact hg
  clear hg
  go_enter Tryz.func28, Tryz.ntmps28
  go_wp2_with fail
  refine (as_hit n ⟨w.heap.size, 0, none⟩ (.int .i64 0) _ HG.out (by simp) (by simp)).mono ?_
  rintro e w1 ⟨rfl, hw1⟩
  have hB1 : Below w.heap.size w w1 := by
    rw [hw1]
    exact ((((((Below.refl _ _).alloc (Nat.le_refl _) _).alloc (by simp) _).alloc (by simp; omega) _).alloc (by simp; omega) _).alloc (by simp; omega) _).setCell (Nat.le_refl _) _
  have hc1 : w1.cell? ⟨w.heap.size, 0, none⟩ = some (.int .i64 n) := by
    rw [hw1]
    refine World.cell?_setCell_same (u := .int .i64 0) _ _ _ ?_
    rw [World.cell?_alloc_lt _ _ ⟨w.heap.size, 0, none⟩ (by simp; omega), World.cell?_alloc_lt _ _ ⟨w.heap.size, 0, none⟩ (by simp; omega), World.cell?_alloc_lt _ _ ⟨w.heap.size, 0, none⟩ (by simp; omega), World.cell?_alloc_lt _ _ ⟨w.heap.size, 0, none⟩ (by simp)]
    simp
  clear hw1
  go_wp2_with (go_at_call 45; refine (is_same n _).mono ?_; rintro e w' ⟨rfl, rfl⟩)
  go_ret
  exact ⟨rfl, hB1⟩
end Go.Proofs.YtbdhmkfdofkloaaGreatDoor
/- package plain: DecodeMessage, EncodeMessage. -/
namespace Go.Proofs.YtbdhmkfdofkloaaGreatDoor
open Go.RowKit
open Sc

/-- a slice that holds the bytes l: nil, or somewhere -/
def Src (w : World) (v : Value) (l : List Nat) : Prop :=
  (v = .slice none 0 0 ∧ l = []) ∨ ∃ b off cap, v = .slice (some ⟨b, off, none⟩) l.length cap ∧ RowAt w b off l ∧ b < w.heap.size ∧ l.length ≤ cap ∧ cap ≤ maxLen

end Go.Proofs.YtbdhmkfdofkloaaGreatDoor
/- package plain: DecodeMessage, EncodeMessage. -/
namespace Go.Proofs.YtbdhmkfdofkloaaGreatDoor
open Go.RowKit
open Sc

theorem grown_of_below {w w' : World} (h : Below w.heap.size w w') (r : Option Nat) : w.grownBy w' r := ⟨h.os, h.tape, h.output, h.size, fun k hk _ => h.block k hk⟩
end Go.Proofs.YtbdhmkfdofkloaaGreatDoor
/- STRINGS AND BYTES: []byte(s), string(b); what the law calls at any bytes. -/
namespace Go.Proofs.YtbdhmkfdofkloaaGreatDoor
open Go.RowKit
open Sc

/-- the bytes of a string -/
def bytesOf (s : ByteArray) : List Nat := s.data.toList.map UInt8.toNat
theorem bytesOf_len (s : ByteArray) : (bytesOf s).length = s.size := by unfold bytesOf; rw [List.length_map, Array.length_toList]; rfl
theorem bytesOf_byt (s : ByteArray) : Byt (bytesOf s) := by
  intro x hx
  unfold bytesOf at hx
  obtain ⟨y, _, rfl⟩ := List.mem_map.1 hx
  exact y.toNat_lt
def strO (s : ByteArray) (c : Nat) : Obj := .cells (bytesRow s c) 5 ((bytesRow s c).size, (bytesRow s c).size + 1)
theorem run_bytes (w : World) (s : ByteArray) : (convert 9 95 (.string s)).run Tryz.prog w = .ok (.slice (some ⟨w.heap.size, 0, none⟩) s.size (grownCap w s.size 0 5)) (w.drew.alloc (strO s (grownCap w s.size 0 5))) :=
  run_bytes_of_string w _ _ _ s Tryz.underlying9 Tryz.underlying95 Tryz.underlying5
theorem row_str (w : World) (s : ByteArray) (c : Nat) : RowAt (w.drew.alloc (strO s c)) w.heap.size 0 (bytesOf s) := fun i hi => by
  have h1 : (w.drew.alloc (strO s c)).cell? ⟨w.heap.size, 0 + i, none⟩ = (bytesRow s c)[0 + i]? := by
    have := cell_of_row (w.drew.alloc (strO s c)) w.heap.size (0 + i) (bytesRow s c) 5 ((bytesRow s c).size, (bytesRow s c).size + 1) (heap_alloc_new w.drew _)
    exact this
  rw [bytesOf_len] at hi
  have hi' : i < s.data.size := hi
  rw [h1, Nat.zero_add, bytesRow_at s c i hi']
  simp [at_, bytesOf, Array.getElem?_eq_getElem hi']
theorem src_str (w : World) (s : ByteArray) (hs : s.size ≤ maxLen) : Src (w.drew.alloc (strO s (grownCap w s.size 0 5))) (.slice (some ⟨w.heap.size, 0, none⟩) s.size (grownCap w s.size 0 5)) (bytesOf s) :=
  Or.inr ⟨w.heap.size, 0, _, by rw [bytesOf_len], row_str w s _, by simp, by rw [bytesOf_len]; exact grownCap_ge _ _ _ _, grownCap_le_maxLen _ _ _ _ hs⟩

/-- bytes as a string -/
def str (l : List Nat) : ByteArray := (l.map fun x : Nat => (x : Int)).foldl (fun r n => r.push (UInt8.ofNat n.toNat)) ByteArray.empty
theorem run_str (w : World) (g off n cap : Nat) (l : List Nat) (hl : l.length = n) (hrow : RowAt w g off l) : (convert 95 9 (.slice (some ⟨g, off, none⟩) n cap)).run Tryz.prog w = .ok (.string (str l)) w := by
  rw [run_convert_bytes_string w _ _ _ _ _ _ Tryz.underlying95 Tryz.underlying5 Tryz.underlying9]
  refine run_bytesToString w _ _ _ _ ?_
  have h := run_loadCells_list (P := Tryz.prog) w ⟨g, off, none⟩ (bs l) (fun j v hv => ?_)
  · rw [bs_len, hl] at h
    rw [h]
    simp [bs]
  · have hjl : j < l.length := by
      have := (List.getElem?_eq_some_iff.1 hv).1; rwa [bs_len] at this
    rw [bs_at l j hjl] at hv
    cases hv
    simpa [Addr.add_lit] using hrow j hjl
end Go.Proofs.YtbdhmkfdofkloaaGreatDoor
/- (*disk).Read. -/
namespace Go.Proofs.YtbdhmkfdofkloaaGreatDoor
open Go.RowKit
open Sc

/-- Read: the text, the error's number -/
def ADisk.read (d : ADisk) (nm : ByteArray) : Option ByteArray × Nat :=
  if d.down = true then (none, 10) else match d.now nm with | none => (none, 8) | some t => (some t, 0)
/-- what came of Read -/
def Got (t : Option ByteArray) (v : Value) (w' : World) : Prop :=
  match t with
  | none => v = .slice none 0 0
  | some t => Src w' v (bytesOf t)
def ReadPost (d : ADisk) (nm : ByteArray) (w : World) (e : Ending) (w' : World) : Prop :=
  ∃ v, e = .returned (.tuple #[v, errN (d.read nm).2]) ∧ Got (d.read nm).1 v w' ∧ Below w.heap.size w w'
set_option maxRecDepth 100000 in
set_option maxHeartbeats 1000000 in
theorem read_any (B p bD bN n nD nN : Nat) (pv : Value) (d : ADisk) (nm : ByteArray) (w : World) (h : DiskIn w B p bD bN pv d n nD nN) (hnm : nm.size ≤ maxLen) :
    Calls Tryz.prog 237 #[.pointer (some ⟨p, 0, none⟩), .string nm] w (ReadPost d nm w) := by
  have p1 := blk_cell h.blk 1
  have p5 := blk_cell h.blk 5
  simp at p1 p5
  have HI : Hid (DiskIn w B p bD bN pv d n nD nN) := h
  clear h
  cases hd : d.down with
  | true =>
    rw [hd] at p5
    have HD : Hid (d.down = true) := hd
    clear hd
    go_enter Tryz.func237, Tryz.ntmps237
    go_wp2
    go_ret2
    have e : d.read nm = (none, 10) := by unfold ADisk.read; rw [if_pos HD.out]
    refine ⟨.slice none 0 0, by rw [e]; rfl, by rw [e]; rfl, Below.refl _ _⟩
  | false =>
    rw [hd] at p5
    have HD : Hid (d.down = false) := hd
    clear hd
    rcases HI.out.now.look nm hnm with ⟨hN, hl⟩ | ⟨t, q, hN, hq, hl⟩
    · have HN : Hid (d.now nm = none) := hN
      clear hN
      go_enter Tryz.func237, Tryz.ntmps237
      go_wp2
      go_ret2
      have e : d.read nm = (none, 8) := by unfold ADisk.read; rw [if_neg (by rw [HD.out]; decide), HN.out]
      refine ⟨.slice none 0 0, by rw [e]; rfl, by rw [e]; rfl, Below.refl _ _⟩
    · have HN : Hid (d.now nm = some t) := hN
      have hc := text_cell hq
      have hsz : t.size ≤ maxLen := by
        have h1 := HI.out.leN nm t hN
        have h2 := HI.out.hN
        have h3 := HI.out.hn
        unfold maxLen
        omega
      have hrb := run_bytes w t
      clear hN hq
      go_enter Tryz.func237, Tryz.ntmps237
      go_wp2
      go_ret2
      have e : d.read nm = (some t, 0) := by unfold ADisk.read; rw [if_neg (by rw [HD.out]; decide), HN.out]
      refine ⟨_, by rw [e]; rfl, by rw [e]; exact src_str w t hsz, ?_⟩
      exact (Below.refl _ _).drew.alloc (Nat.le_refl _) _
end Go.Proofs.YtbdhmkfdofkloaaGreatDoor
