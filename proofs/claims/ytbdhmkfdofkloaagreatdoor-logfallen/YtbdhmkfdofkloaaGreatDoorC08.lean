import Derived.Test.YtbdhmkfdofkloaaGreatDoorC07
import Derived.Deep.RegionLaw
/- (*disk).tell, walked. -/
namespace Go.Proofs.YtbdhmkfdofkloaaGreatDoor
open Go.RowKit

def TellPost (d : ADisk) (o : AOp) (B p bD bN n nD : Nat) (pv : Value) (w : World) (e : Ending) (w' : World) : Prop :=
  e = .returned (errN (d.tell o).2) ∧ (∃ pv' nN', DiskIn w' B p bD bN pv' (d.tell o).1 (n + 1) nD nN' ∧ Near w.heap.size pv pv') ∧ Fr (dS p bD bN pv) w w'
theorem tell_down {d : ADisk} {o : AOp} (h : d.writes.2 = 10) : d.tell o = ({ d.writes.1 with pending := d.writes.1.pending ++ [o] }, 10) := by unfold ADisk.tell; simp [h]
theorem tell_full {d : ADisk} {o : AOp} (h : d.writes.2 = 9) : d.tell o = (d.writes.1, 9) := by unfold ADisk.tell; simp [h]
theorem tell_none {d : ADisk} {o : AOp} (h : d.writes.2 = 0) (h1 : d.writes.1.now o.name = none ∧ 2 < o.kind) : d.tell o = (d.writes.1, 8) := by unfold ADisk.tell; simp [h, h1]
theorem tell_ok {d : ADisk} {o : AOp} (h : d.writes.2 = 0) (h1 : ¬ (d.writes.1.now o.name = none ∧ 2 < o.kind)) (h2 : ¬ (o.kind = 4 ∧ o.name = o.to)) : d.tell o = ({ d.writes.1 with now := doOp d.writes.1.now o, pending := d.writes.1.pending ++ [o] }, 0) := by unfold ADisk.tell; rw [if_neg (by rw [h]; decide), if_neg (by rw [h]; decide), if_neg h1, if_neg h2]
theorem writes_cases (d : ADisk) : d.writes.2 = 10 ∨ d.writes.2 = 9 ∨ d.writes.2 = 0 := by
  unfold ADisk.writes; split
  · simp
  · split <;> simp
/-- behind an op more that is pending -/
theorem DiskIn.pend0 {w w1 w2 : World} {B p bD bN n nD nN : Nat} {pv pv' : Value} {d : ADisk} {o : AOp} (h : DiskIn w B p bD bN pv d n nD nN) (ho : o.Ok 4096)
    (hg : w.grownBy w1 pv.ownBlock) (hr : w1.ownsRow B 107 4 pv' (d.pending.length + 1) (opsV (d.pending ++ [o]))) (hw2 : w2 = w1.setCell ⟨p, 2, none⟩ pv') :
    (∀ n', nD + (d.pending ++ [o]).length ≤ n' → nN ≤ n' → n' ≤ 1000000000 → DiskIn w2 B p bD bN pv' { d with pending := d.pending ++ [o] } n' nD nN) ∧ Fr (p :: pv.ownBlock.toList) w w2 := by
  have hp1 : w1.heap[p]? = some (dskO bD bN pv d.left d.full d.down) := (hg.block p (Array.getElem?_eq_some_iff.1 h.blk).1 (fun e => own_ne h.pen h.blk (by decide) e.symm)).trans h.blk
  have hf1 : Fr pv.ownBlock.toList w w1 := Fr.of_grown hg
  have hf2 : Fr (p :: pv.ownBlock.toList) w w2 := by
    rw [hw2]
    exact (hf1.mono (fun k _ hk => List.mem_cons_of_mem _ hk)).setCell (Or.inl (by simp)) _
  have hns : ∀ q ∈ p :: pv.ownBlock.toList, ∀ t, w.heap[q]? ≠ some (textO t) := by
    intro q hq t e
    rcases List.mem_cons.1 hq with rfl | hq
    · rw [h.blk] at e; cases e
    · simp at hq
      exact own_ne h.pen e (by decide) hq
  have hnm : ∀ (b k : Nat) (m : Files), FileMap w b k m → b ∉ p :: pv.ownBlock.toList := by
    intro b k m hm hb
    rcases List.mem_cons.1 hb with rfl | hb
    · exact hm.ne_cells h.blk rfl
    · simp at hb
      obtain ⟨c, hc⟩ := own_cells h.pen hb
      exact hm.ne_cells hc rfl
  refine ⟨fun n' hn1 hn2 hn3 => ?_, hf2⟩
  subst hw2
  have hpp : ∀ g, pv'.ownBlock = some g → g ≠ p := by
    intro g hgv e
    subst e
    exact own_ne hr hp1 (by decide) hgv
  refine { blk := ?_, base := ⟨h.base.1, h.base.2.1, h.base.2.2.1, Nat.le_trans h.base.2.2.2 hf2.size⟩, ne := h.ne, dur := h.dur.fr hf2 (hnm _ _ _ h.dur) hns, now := h.now.fr hf2 (hnm _ _ _ h.now) hns, pen := ?_, hD := hn1, hN := hn2, hn := hn3, leD := h.leD, leN := h.leN, ops := ?_ }
  · have := blk_set hp1 2 pv'; simpa using this
  · have := ownsRow_fr hr (S := [p]) (Fr.set1 (w := w1) (p := p) (by simp) 2 pv') (fun g hgv => by simp; exact hpp g hgv)
    simpa using this
  · intro x hx
    rcases List.mem_append.1 hx with hx | hx
    · exact h.ops x hx
    · simp at hx; subst hx; exact ho

theorem DiskIn.pend {w w1 w2 : World} {B p bD bN n nD nN : Nat} {pv pv' : Value} {d : ADisk} {o : AOp} (h : DiskIn w B p bD bN pv d n nD nN) (hn : n < 1000000000) (ho : o.Ok 4096)
    (hg : w.grownBy w1 pv.ownBlock) (hr : w1.ownsRow B 107 4 pv' (d.pending.length + 1) (opsV (d.pending ++ [o]))) (hw2 : w2 = w1.setCell ⟨p, 2, none⟩ pv') :
    DiskIn w2 B p bD bN pv' { d with pending := d.pending ++ [o] } (n + 1) nD nN ∧ Fr (p :: pv.ownBlock.toList) w w2 := by
  obtain ⟨q1, q2⟩ := DiskIn.pend0 h ho hg hr hw2
  exact ⟨q1 (n + 1) (by have := h.hD; simp; omega) (by have := h.hN; omega) (by omega), q2⟩
theorem DiskIn.pend' {w w1 w2 : World} {B p bD bN n nD nN : Nat} {pv pv' : Value} {d : ADisk} {o : AOp} {N : Files} (h : DiskIn w B p bD bN pv { d with now := N } (n + 1) nD (nN + 1)) (ho : o.Ok 4096)
    (hg : w.grownBy w1 pv.ownBlock) (hr : w1.ownsRow B 107 4 pv' (d.pending.length + 1) (opsV (d.pending ++ [o]))) (hw2 : w2 = w1.setCell ⟨p, 2, none⟩ pv') (hD : nD + d.pending.length ≤ n) :
    DiskIn w2 B p bD bN pv' { d with now := N, pending := d.pending ++ [o] } (n + 1) nD (nN + 1) ∧ Fr (p :: pv.ownBlock.toList) w w2 := by
  obtain ⟨q1, q2⟩ := DiskIn.pend0 h ho hg hr hw2
  exact ⟨q1 (n + 1) (by simp; omega) h.hN h.hn, q2⟩
theorem own_some {w : World} {B n : Nat} {e : TypeId} {k : Nat} {v : Value} {xs : List Value} (h : w.ownsRow B e k v (n + 1) xs) : ∃ g cap, v = .slice (some ⟨g, 0, none⟩) (n + 1) cap := by
  rcases h.2 with ⟨_, h3⟩ | ⟨g, cap, cur, rfl, _⟩
  · omega
  · exact ⟨g, cap, rfl⟩
theorem keep4 {w1 w4 : World} {B p bD bN n nD nN q : Nat} {pv : Value} {d : ADisk} {o : AOp} (h : DiskIn w1 B p bD bN pv d n nD nN) (hq : w1.heap[q]? = some (opO o)) (hg : (w1.alloc (opO o)).drew.grownBy w4 pv.ownBlock) (hne : pv.ownBlock ≠ some q) :
    w4.cell? ⟨p, 2, none⟩ = some pv ∧ w4.frozen? ⟨p, 2, none⟩ = false ∧ w4.cell? ⟨q, 0, none⟩ = some (.int .i64 o.kind) ∧ w4.cell? ⟨q, 1, none⟩ = some (.string o.name) ∧ w4.cell? ⟨q, 2, none⟩ = some (.string o.to) ∧ w4.cell? ⟨q, 3, none⟩ = some (.string o.data) := by
  have hpl := (Array.getElem?_eq_some_iff.1 h.blk).1
  have hql := (Array.getElem?_eq_some_iff.1 hq).1
  have k1 : w4.heap[p]? = some (dskO bD bN pv d.left d.full d.down) := by
    rw [hg.block p (by simp; omega) (fun e => own_ne h.pen h.blk (by decide) e.symm)]
    exact (Below.heap_alloc w1 _ p hpl).trans h.blk
  have k2 : w4.heap[q]? = some (opO o) := by
    rw [hg.block q (by simp; omega) (fun e => hne e.symm)]
    exact (Below.heap_alloc w1 _ q hql).trans hq
  refine ⟨(blk_cell k1 2).trans (by simp), blk_free k1 2, (blk_cell k2 0).trans (by simp), (blk_cell k2 1).trans (by simp), (blk_cell k2 2).trans (by simp), (blk_cell k2 3).trans (by simp)⟩
/-- behind the change of what is now -/
theorem DiskIn.done {w1 w2 : World} {B p bD bN n nD nN q : Nat} {pv : Value} {d : ADisk} {o : AOp} (h : DiskIn w1 B p bD bN pv d n nD nN) (hq : w1.heap[q]? = some (opO o)) (hF : FileMap w2 bN (nN + 1) (doOp d.now o)) (hg : w1.grownBy w2 (some bN)) (hn : n < 1000000000) (ho : o.Ok 4096) :
    DiskIn w2 B p bD bN pv { d with now := doOp d.now o } (n + 1) nD (nN + 1) ∧ w2.heap[q]? = some (opO o) ∧ Fr [bN] w1 w2 := by
  have hf := Fr.of_grown1 hg
  have hnt : ∀ r ∈ [bN], ∀ t, w1.heap[r]? ≠ some (textO t) := by
    intro r hr t e; simp at hr; subst hr; exact h.now.ne_cells e rfl
  refine ⟨?_, (hf.block q (Array.getElem?_eq_some_iff.1 hq).1 (by simp; exact fun e => h.now.ne_cells hq e.symm)).trans hq, hf⟩
  refine { blk := (hf.block p (Array.getElem?_eq_some_iff.1 h.blk).1 (by simp; exact fun e => h.now.ne_cells h.blk e.symm)).trans h.blk, base := ⟨h.base.1, h.base.2.1, h.base.2.2.1, Nat.le_trans h.base.2.2.2 hf.size⟩, ne := h.ne, dur := h.dur.fr hf (by simp; exact h.ne) hnt, now := hF, pen := ownsRow_fr h.pen hf (fun g hgv => by simp; intro e; subst e; obtain ⟨c, hc⟩ := own_cells h.pen hgv; exact h.now.ne_cells hc rfl), hD := by have := h.hD; simp; omega, hN := by have := h.hN; omega, hn := by omega, leD := h.leD, leN := ?_, ops := h.ops }
  · have := doOp_le h.leN ho
    intro k t ht
    have := this k t ht
    omega
theorem Tryz.eqDD (w : World) : (binOp .eql 66 (.iface 32 (.int .i64 10)) (.iface 32 (.int .i64 10))).run Tryz.prog w = .ok (.bool true) w := by kernel_rfl
theorem Tryz.eqFD (w : World) : (binOp .eql 66 (.iface 32 (.int .i64 9)) (.iface 32 (.int .i64 10))).run Tryz.prog w = .ok (.bool false) w := by kernel_rfl
end Go.Proofs.YtbdhmkfdofkloaaGreatDoor
