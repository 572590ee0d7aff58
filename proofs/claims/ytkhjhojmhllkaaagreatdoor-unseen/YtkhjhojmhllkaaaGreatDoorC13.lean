import Derived.Test.YtkhjhojmhllkaaaGreatDoorC12
/- journal.setMark. -/
namespace Go.Proofs.YtkhjhojmhllkaaaGreatDoor
open Go.RowKit
open Sc
set_option maxRecDepth 100000 in
set_option maxHeartbeats 4000000 in
theorem setMark_any (B p bD bN n nD nN first : Nat) (pv : Value) (d : ADisk) (w : World) (h : DiskIn w B p bD bN pv d n nD nN) (hn : n + 2 ≤ 67108864) (hx : first < 18446744073709551616) :
    Calls Tryz.prog 148 #[dskV p, .int .u64 (first : Int)] w (DskPost B p bD bN (n + 2) (d.setMark first) w) := by
  have HI : Hid (DiskIn w B p bD bN pv d n nD nN) := h
  clear h
  go_enter Tryz.func148, Tryz.ntmps148
  go_wp2_with fail
  refine (encodeR_own first 0 ⟨#[]⟩ _ (by decide) (by decide) hx).mono ?_
  rintro e w1 ⟨g, rfl, hg, hrow, hb1⟩
  rw [World.size_alloc] at hb1 hg hrow
  have hz : (⟨#[]⟩ : ByteArray).size = 0 := rfl
  have hbo : bytesOf ⟨#[]⟩ = [] := rfl
  rw [hz] at hrow ⊢
  rw [hbo] at hrow
  have hlen : (recBytes first 0 []).length = 11 + 0 + 4 := by rw [recBytes_len]; rfl
  have hf1 : Fr [] w w1 := ((Fr.refl [] w).alloc _).trans (Fr.of_below (by rw [World.size_alloc]; exact hb1) [])
  have hbd : w1.heap[w.heap.size]? = some (.cells #[dskV p] 133) := (hb1.block w.heap.size (by omega)).trans (heap_alloc_new w _)
  have hz1 : w.heap.size < w1.heap.size := (Array.getElem?_eq_some_iff.1 hbd).1
  have hgl := (own_lt hrow).2
  have HBD : Hid (w1.heap[w.heap.size]? = some (.cells #[dskV p] 133)) := hbd
  have HROW : Hid (w1.ownsRow (w.heap.size + 1 + 1) 5 1 (.slice (some ⟨g, 0, none⟩) (11 + 0 + 4) (15 + 0)) (11 + 0 + 4) (bs (recBytes first 0 []))) := hrow
  have HF1 : Hid (Fr [] w w1) := hf1
  have HLEN : Hid ((recBytes first 0 []).length = 11 + 0 + 4) := hlen
  have b0 := blk_cell hbd 0
  simp at b0
  have b0' : ∀ ob, (w1.alloc ob).cell? ⟨w.heap.size, 0, none⟩ = some (dskV p) := fun ob => (World.cell?_of_block (a := ⟨w.heap.size, 0, none⟩) (Below.heap_alloc w1 ob _ hz1)).trans b0
  have b0'' : ∀ ob oc, ((w1.alloc ob).alloc oc).cell? ⟨w.heap.size, 0, none⟩ = some (dskV p) := fun ob oc => (World.cell?_of_block (a := ⟨w.heap.size, 0, none⟩) (Below.heap_alloc (w1.alloc ob) oc w.heap.size (by simp; omega))).trans (b0' ob)
  clear hb1 hrow hf1 hbd hlen
  go_wp2
  have hin := fun (W : World) (hW : W = ((w1.alloc (.cells #[.slice (some ⟨g, 0, none⟩) 15 15] 206)).alloc (.cells #[.func (.func 195) #[] #[.pointer (some ⟨w.heap.size, 0, none⟩), .pointer (some ⟨w1.heap.size, 0, none⟩)], .func (.method "Sync") #[dskV p] #[], .func (.func 196) #[] #[.pointer (some ⟨w.heap.size, 0, none⟩)], .func (.method "Sync") #[dskV p] #[]] 160)).drew) => by
    have hfW : Fr [] w W := by rw [hW]; exact ((HF1.out.alloc _).alloc _).drew
    have hst : W.heap[w1.heap.size + 1]? = some (.cells #[.func (.func 195) #[] #[.pointer (some ⟨w.heap.size, 0, none⟩), .pointer (some ⟨w1.heap.size, 0, none⟩)], .func (.method "Sync") #[dskV p] #[], .func (.func 196) #[] #[.pointer (some ⟨w.heap.size, 0, none⟩)], .func (.method "Sync") #[dskV p] #[]] 160) := by
      rw [hW]
      have := heap_alloc_new (w1.alloc (.cells #[.slice (some ⟨g, 0, none⟩) 15 15] 206)) (.cells #[.func (.func 195) #[] #[.pointer (some ⟨w.heap.size, 0, none⟩), .pointer (some ⟨w1.heap.size, 0, none⟩)], .func (.method "Sync") #[dskV p] #[], .func (.func 196) #[] #[.pointer (some ⟨w.heap.size, 0, none⟩)], .func (.method "Sync") #[dskV p] #[]] 160)
      rw [World.size_alloc] at this; exact this
    have hbb : W.heap[w1.heap.size]? = some (.cells #[.slice (some ⟨g, 0, none⟩) 15 15] 206) := by
      rw [hW]
      exact (Below.heap_alloc _ _ _ (by simp)).trans (heap_alloc_new _ _)
    have hbd : W.heap[w.heap.size]? = some (.cells #[dskV p] 133) := by
      rw [hW]
      exact (Below.heap_alloc _ _ _ (by simp; omega)).trans ((Below.heap_alloc _ _ _ hz1).trans HBD.out)
    have hrW : W.ownsRow (w.heap.size + 1 + 1) 5 1 (.slice (some ⟨g, 0, none⟩) 15 15) 15 (bs (recBytes first 0 [])) := by rw [hW]; exact (HROW.out.alloc _).alloc _
    have h15 : (recBytes first 0 []).length = 15 := HLEN.out
    have := inTurnM B p bD bN n nD nN w.heap.size w1.heap.size g 15 (w.heap.size + 1 + 1) (w1.heap.size + 1) first pv d W (HI.out.new hfW) hn hst hbd (by rw [h15]; exact hbb) (by rw [h15]; exact hrW) (by rw [h15]; omega)
    exact And.intro hfW (And.intro hbd this)
  go_region_held3 (fun w' => w'.cell? ⟨w.heap.size, 0, none⟩ = some (dskV p))
    (simp [*])
    (first | (go_at_call 125; refine (hin _ rfl).2.2.mono ?_; rintro e w2 ⟨rfl, hd2, ho2⟩; have q0 := hin _ rfl; have s2 : w2.cell? ⟨w.heap.size, 0, none⟩ = some (dskV p) := (blk_cell ((ho2.block w.heap.size (Array.getElem?_eq_some_iff.1 q0.2.1).1 ((HI.out.new q0.1).freeD q0.2.1 (by decide) (by decide)) (by simp; omega)).trans q0.2.1) 0).trans (by simp); have HF : Hid (DFr p w w2) := ((HI.out.newD q0.1).x.trans ho2).dfr (by intro k hk; simp at hk; omega); have HD2 : Hid (∃ pv nD nN, DiskIn w2 B p bD bN pv (d.setMark first).1 (n + 2) nD nN) := hd2; clear q0 hd2 ho2))
  all_goals clear hin
  all_goals go_wp2
  all_goals go_ret
  all_goals exact ⟨rfl, HD2.out, HF.out⟩
end Go.Proofs.YtkhjhojmhllkaaaGreatDoor
