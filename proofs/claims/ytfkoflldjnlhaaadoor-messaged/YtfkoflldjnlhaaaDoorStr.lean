import Derived.Test.YtfkoflldjnlhaaaDoorPlain3
import Derived.Test.YtfkoflldjnlhaaaDoorRefMsg2
import Derived.Laws.BytesString
import Derived.Laws.IdiomStrings
/- STRINGS AND BYTES: []byte(s), string(b); what the law calls at any bytes. -/
namespace Go.Proofs.YtfkoflldjnlhaaaDoor
open Go.RowKit
open Sc

/-- the bytes of a string -/
def bytesOf (s : ByteArray) : List Nat := s.data.toList.map UInt8.toNat
theorem bytesOf_len (s : ByteArray) : (bytesOf s).length = s.size := by unfold bytesOf; rw [List.length_map, Array.length_toList]; rfl
theorem bytesOf_byt (s : ByteArray) : Byt (bytesOf s) := by
  intro x hx
  unfold bytesOf at hx
  obtain ⟨y, _, rfl⟩ := List.mem_map.1 hx
  exact y.toNat_lt
def strO (s : ByteArray) (c : Nat) : Obj := .cells (bytesRow s c) 5 ((bytesRow s c).size, (bytesRow s c).size + 1)
theorem run_bytes (w : World) (s : ByteArray) : (convert 9 23 (.string s)).run Tryd.prog w = .ok (.slice (some ⟨w.heap.size, 0, none⟩) s.size (grownCap w s.size 0 5)) (w.drew.alloc (strO s (grownCap w s.size 0 5))) :=
  run_bytes_of_string w _ _ _ s Tryd.underlying9 Tryd.underlying23 Tryd.underlying5
theorem row_str (w : World) (s : ByteArray) (c : Nat) : RowAt (w.drew.alloc (strO s c)) w.heap.size 0 (bytesOf s) := fun i hi => by
  have h1 : (w.drew.alloc (strO s c)).cell? ⟨w.heap.size, 0 + i, none⟩ = (bytesRow s c)[0 + i]? := by
    have := cell_of_row (w.drew.alloc (strO s c)) w.heap.size (0 + i) (bytesRow s c) 5 ((bytesRow s c).size, (bytesRow s c).size + 1) (heap_alloc_new w.drew _)
    exact this
  rw [bytesOf_len] at hi
  have hi' : i < s.data.size := hi
  rw [h1, Nat.zero_add, bytesRow_at s c i hi']
  simp [at_, bytesOf, Array.getElem?_eq_getElem hi']
theorem src_str (w : World) (s : ByteArray) (hs : s.size ≤ maxLen) : Src (w.drew.alloc (strO s (grownCap w s.size 0 5))) (.slice (some ⟨w.heap.size, 0, none⟩) s.size (grownCap w s.size 0 5)) (bytesOf s) :=
  Or.inr ⟨w.heap.size, 0, _, by rw [bytesOf_len], row_str w s _, by simp, by rw [bytesOf_len]; exact grownCap_ge _ _ _ _, grownCap_le_maxLen _ _ _ _ hs⟩

/-- bytes as a string -/
def str (l : List Nat) : ByteArray := (l.map fun x : Nat => (x : Int)).foldl (fun r n => r.push (UInt8.ofNat n.toNat)) ByteArray.empty
theorem run_str (w : World) (g off n cap : Nat) (l : List Nat) (hl : l.length = n) (hrow : RowAt w g off l) : (convert 23 9 (.slice (some ⟨g, off, none⟩) n cap)).run Tryd.prog w = .ok (.string (str l)) w := by
  rw [run_convert_bytes_string w _ _ _ _ _ _ Tryd.underlying23 Tryd.underlying5 Tryd.underlying9]
  refine run_bytesToString w _ _ _ _ ?_
  have h := run_loadCells_list (P := Tryd.prog) w ⟨g, off, none⟩ (bs l) (fun j v hv => ?_)
  · rw [bs_len, hl] at h
    rw [h]
    simp [bs]
  · have hjl : j < l.length := by
      have := (List.getElem?_eq_some_iff.1 hv).1; rwa [bs_len] at this
    rw [bs_at l j hjl] at hv
    cases hv
    simpa [Addr.add_lit] using hrow j hjl
theorem run_str_nil (w : World) : (convert 23 9 (.slice none 0 0)).run Tryd.prog w = .ok (.string ByteArray.empty) w := by
  rw [run_convert_bytes_string w _ _ _ _ _ _ Tryd.underlying23 Tryd.underlying5 Tryd.underlying9]
  rfl

/-- the document's ReadMessage at any bytes -/
theorem readR (v : Value) (l : List Nat) (w : World) (hs : Src w v l) (hb : Byt l) :
    Calls Tryd.prog 12 #[v] w fun e w' => e = .returned (.tuple #[decV l, .int .i64 (decE l)]) ∧ Below w.heap.size w w' := by
  rcases hs with ⟨rfl, rfl⟩ | ⟨b, off, cap, rfl, hrow, _, hc, hc2⟩
  · rw [decV_len (by simp), decE_len (by simp)]
    exact readMessage_len none 0 0 w (by omega)
  · by_cases h15 : l.length = 15
    · rw [decV_15 h15, decE_15 h15]
      rw [h15] at hc ⊢
      exact readMessage_15 b off cap l w h15 hb hc hc2 hrow
    · rw [decV_len h15, decE_len h15]
      exact readMessage_len _ _ _ w h15
end Go.Proofs.YtfkoflldjnlhaaaDoor
