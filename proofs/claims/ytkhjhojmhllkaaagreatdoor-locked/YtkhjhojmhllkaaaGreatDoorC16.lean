import Derived.Test.YtkhjhojmhllkaaaGreatDoorC14
import Derived.Test.YtkhjhojmhllkaaaGreatDoorC10
import Derived.Test.YtkhjhojmhllkaaaGreatDoorC15
import Derived.Lib.SmallJoins
/- slices.Clone of records and of numbers, from some one on. -/
namespace Go.Proofs.YtkhjhojmhllkaaaGreatDoor
open Go.RowKit
open Sc

theorem recsV_drop : ∀ (rs : List Rec) (k : Nat), recsV (rs.drop k) = (recsV rs).drop (k * 3) := by
  intro rs
  induction rs with
  | nil => intro k; simp [recsV]
  | cons r rs ih =>
    intro k
    cases k with
    | zero => simp
    | succ k =>
      rw [List.drop_succ_cons, ih k]
      show _ = (recCells r ++ recsV rs).drop _
      rw [show (k + 1) * 3 = 3 + k * 3 by omega, ← List.drop_drop]; rfl
theorem recs_one (rs : List Rec) : ∀ u ∈ recsV rs, u.oneCell' = true := by
  intro u hu
  simp only [recsV, List.mem_flatMap] at hu
  obtain ⟨r, _, hr⟩ := hu
  simp [recCells] at hr
  rcases hr with rfl | rfl | rfl <;> rfl
theorem cloneR (B gr m cr k : Nat) (rs : List Rec) (w : World) (h : w.ownsRow B 103 3 (.slice (some ⟨gr, 0, none⟩) m cr) m (recsV rs)) (hl : rs.length = m) (hm : m ≤ 67108864) :
    Calls Tryz.prog 151 #[.slice (some ⟨gr, k * 3, none⟩) (m - k) (cr - k)] w fun e w' => ∃ v, e = .returned v ∧ w'.ownsRow w.heap.size 103 3 v (rs.drop k).length (recsV (rs.drop k)) ∧ Below w.heap.size w w' := by
  obtain ⟨i0, hi, hz0, hz1, hz2⟩ := info_parts Tryz.infoRec
  have hlen : (rs.drop k).length = m - k := by simp [hl]
  refine (Tryz.slices_CloneR i0 _ 3 32 hi hz0 hz1 hz2 rfl (by decide) Tryz.sizeOf103 gr (k * 3) (m - k) (cr - k) (recsV (rs.drop k)) w (by rw [recsV_len, hlen]) (by unfold maxLen; omega) (by omega) ?_ (recs_one _)).mono ?_
  · intro j u hu
    rw [recsV_drop, List.getElem?_drop] at hu
    have := h.cells (g := gr) rfl _ u hu
    simpa [Addr.add_lit] using this
  · rintro e w' ⟨v, rfl, ho, _, hb⟩
    exact ⟨v, rfl, by rw [hlen]; exact ho, hb⟩
theorem cloneU (B gs m cs k : Nat) (l : List Nat) (w : World) (h : w.ownsRow B 33 1 (.slice (some ⟨gs, 0, none⟩) m cs) m (u64s l)) (hl : l.length = m) (hm : m ≤ 67108864) :
    Calls Tryz.prog 152 #[.slice (some ⟨gs, k, none⟩) (m - k) (cs - k)] w fun e w' => ∃ v, e = .returned v ∧ w'.ownsRow w.heap.size 33 1 v (l.drop k).length (u64s (l.drop k)) ∧ Below w.heap.size w w' := by
  obtain ⟨i0, hi, hz0, hz1, hz2⟩ := info_parts Tryz.infoU64
  have hlen : (l.drop k).length = m - k := by simp [hl]
  refine (Tryz.slices_Clone i0 _ 1 8 hi hz0 hz1 hz2 rfl (by decide) Tryz.sizeOf33 gs k (m - k) (cs - k) (u64s (l.drop k)) w (by rw [u64s_len, hlen]; omega) (by unfold maxLen; omega) (by omega) ?_ (by intro u hu; unfold u64s at hu; obtain ⟨x, _, rfl⟩ := List.mem_map.1 hu; rfl)).mono ?_
  · intro j u hu
    have hu' : (u64s l)[k + j]? = some u := by
      rw [← hu]; simp [u64s, List.getElem?_drop]
    have := h.cells (g := gs) rfl _ u hu'
    simpa [Addr.add_lit] using this
  · rintro e w' ⟨v, rfl, ho, _, hb⟩
    exact ⟨v, rfl, by rw [hlen]; exact ho, hb⟩
theorem Near.of_new {w : World} {s n e k : Nat} {v v' : Value} {xs : List Value} (h : w.ownsRow s e k v' n xs) : Near s v v' := fun q hq => .inr (h.lt q hq).1
/-- other records in place of the log's -/
theorem LogIn.recsNew {w w5 : World} {B lp p bD bN n nD nN : Nat} {pv sv rv v : Value} {l : ALog} {d : ADisk} {rs : List Rec} (h : LogIn w B lp p bD bN pv sv rv l d n nD nN) (hb5 : Below w.heap.size w w5) (ho : w5.ownsRow w.heap.size 103 3 v rs.length (recsV rs)) (hl : rs.length ≤ n) :
    LogIn (w5.setCell ⟨lp, 3, none⟩ v) B lp p bD bN pv sv v { l with recs := rs } d n nD nN ∧ OFr lp p w (w5.setCell ⟨lp, 3, none⟩ v) ∧ Fr [lp] w (w5.setCell ⟨lp, 3, none⟩ v) := by
  have hlp := (Array.getElem?_eq_some_iff.1 h.blk).1
  have hb4 : w5.heap[lp]? = some (logO p sv rv l) := (hb5.block lp hlp).trans h.blk
  obtain ⟨W, hW⟩ : ∃ W, W = w5.setCell ⟨lp, 3, none⟩ v := ⟨_, rfl⟩
  rw [← hW]
  have hfw : Fr [lp] w5 W := by rw [hW]; exact Fr.set1 (by simp) _ _
  have hf : Fr [lp] w W := (Fr.of_below hb5 _).trans hfw
  have hb : W.heap[lp]? = some (logO p sv v { l with recs := rs }) := by
    rw [hW]
    have := blk_set hb4 3 v
    simpa using this
  have hr : W.ownsRow w.heap.size 103 3 v rs.length (recsV rs) := ownsRow_fr ho hfw (fun g hg => by simp; intro e; subst e; exact own_ne ho hb4 (by decide) hg)
  have hs : W.ownsRow B 33 1 sv l.segs.length (u64s l.segs) := ownsRow_fr h.segs hf (fun g hg hm => by
    simp at hm; subst hm; exact own_ne h.segs h.blk (by decide) hg)
  have hl2 : LogIn W B lp p bD bN pv sv v { l with recs := rs } d n nD nN := h.rows hf (by intro k hk _; simp at hk; exact .inl hk) hb hs (Joins.ownsRow_le hr h.disk.base.2.2.2) (Nat.le_refl _) h.disk.hn h.segsN hl h.fillN h.nextN h.durN
  exact ⟨hl2, h.ofr hl2 hf (by intro k hk _; simp at hk; simp [hk]) (.inl rfl) (Near.refl _ _) (Near.refl _ _) (Near.of_new hr), hf⟩
/-- other segments in place of the log's -/
theorem LogIn.segsNew {w w5 : World} {B lp p bD bN n nD nN : Nat} {pv sv rv v : Value} {l : ALog} {d : ADisk} {ss : List Nat} (h : LogIn w B lp p bD bN pv sv rv l d n nD nN) (hb5 : Below w.heap.size w w5) (ho : w5.ownsRow w.heap.size 33 1 v ss.length (u64s ss)) (hl : ss.length ≤ n ∧ ∀ s ∈ ss, s < 18446744073709551616) :
    LogIn (w5.setCell ⟨lp, 1, none⟩ v) B lp p bD bN pv v rv { l with segs := ss } d n nD nN ∧ OFr lp p w (w5.setCell ⟨lp, 1, none⟩ v) ∧ Fr [lp] w (w5.setCell ⟨lp, 1, none⟩ v) := by
  have hlp := (Array.getElem?_eq_some_iff.1 h.blk).1
  have hb4 : w5.heap[lp]? = some (logO p sv rv l) := (hb5.block lp hlp).trans h.blk
  obtain ⟨W, hW⟩ : ∃ W, W = w5.setCell ⟨lp, 1, none⟩ v := ⟨_, rfl⟩
  rw [← hW]
  have hfw : Fr [lp] w5 W := by rw [hW]; exact Fr.set1 (by simp) _ _
  have hf : Fr [lp] w W := (Fr.of_below hb5 _).trans hfw
  have hb : W.heap[lp]? = some (logO p v rv { l with segs := ss }) := by
    rw [hW]
    have := blk_set hb4 1 v
    simpa using this
  have hs : W.ownsRow w.heap.size 33 1 v ss.length (u64s ss) := ownsRow_fr ho hfw (fun g hg => by simp; intro e; subst e; exact own_ne ho hb4 (by decide) hg)
  have hr : W.ownsRow B 103 3 rv l.recs.length (recsV l.recs) := ownsRow_fr h.recs hf (fun g hg hm => by
    simp at hm; subst hm; exact own_ne h.recs h.blk (by decide) hg)
  have hl2 : LogIn W B lp p bD bN pv v rv { l with segs := ss } d n nD nN := h.rows hf (by intro k hk _; simp at hk; exact .inl hk) hb (Joins.ownsRow_le hs h.disk.base.2.2.2) hr (Nat.le_refl _) h.disk.hn hl h.recsN h.fillN h.nextN h.durN
  exact ⟨hl2, h.ofr hl2 hf (by intro k hk _; simp at hk; simp [hk]) (.inl rfl) (Near.refl _ _) (Near.of_new hs) (Near.refl _ _), hf⟩
end Go.Proofs.YtkhjhojmhllkaaaGreatDoor
