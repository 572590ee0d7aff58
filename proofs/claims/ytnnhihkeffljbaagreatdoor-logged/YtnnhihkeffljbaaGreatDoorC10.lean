import Derived.Test.YtnnhihkeffljbaaGreatDoorC09
import Derived.Maps.AppendAt
import Derived.Deep.RegionLaw
/- (*disk).tell: a change is told. -/
namespace Go.Proofs.YtnnhihkeffljbaaGreatDoor
open Go.RowKit

def opCells (o : AOp) : List Value := [.int .i64 (o.kind : Int), .string o.name, .string o.to, .string o.data]
def opsV (l : List AOp) : List Value := l.flatMap opCells
theorem opsV_snoc (l : List AOp) (o : AOp) : opsV (l ++ [o]) = opsV l ++ opCells o := by simp [opsV]
theorem opsV_len (l : List AOp) : (opsV l).length = l.length * 4 := by
  induction l with
  | nil => rfl
  | cons r l ih => simp only [opsV, List.flatMap_cons, List.length_append, List.length_cons] at *; rw [ih]; simp [opCells]; omega
theorem Tryz.infoOp : (Tryz.prog.info? 107).map (fun i => (i.zero, i.size, i.bytes)) = some (some (.agg #[.int .i64 0, .string ByteArray.empty, .string ByteArray.empty, .string ByteArray.empty]), 4, 56) := by kernel_rfl

/-- append's law with the place of what comes out -/
theorem wp_append_at {P : Program} {w : World} {o : Oper} {a : Act} {K : Act → World → Prop} {Q : Exit → Act → World → Prop} (s x : Operand) (t : TypeId)
    (ho : o.op = .call { callee := .builtin .append, args := #[s, x], argTypes := #[t, t] })
    (base : Nat) (e : TypeId) (i : TypeInfo) (z : Value) (size bytes : Nat) (ht : P.underlying t = some (.slice e)) (hi : P.info? e = some i) (hz : i.zero = some z)
    (hsize : i.size = size) (hby : i.bytes = bytes) (hzs : z.cells.size = size) (hsz : 0 < size)
    (v : Value) (n : Nat) (xs : List Value) (hs : a.eval s = v) (hown : w.ownsRow base e size v n xs)
    (ad : Addr) (m c : Nat) (news : List Value) (hx : a.eval x = .slice (some ad) m c) (hl : news.length = m * size) (hnews : ∀ j u, news[j]? = some u → w.cell? (ad.add j) = some u) (h1 : ∀ u ∈ news, u.oneCell' = true)
    (h63 : n + m ≤ maxLen) (hbytes : (n + m) * bytes ≤ 140737488355328) (hbase : base ≤ w.heap.size)
    (h : ∀ v' w', w'.ownsRow base e size v' (n + m) (xs ++ news) → w.grownBy w' v.ownBlock → (v'.ownBlock = v.ownBlock ∨ v'.ownBlock = some w.heap.size) → K (a.put o.dst v') w') : o.wp P a w K Q := by
  obtain ⟨v', w', hr, h2, h3, _, h5⟩ := run_append_own_at (P := P) w base t o.type e i z size bytes ht hi hz hsize hby hzs hsz v n xs hown ad m c news hl hnews h1 h63 hbytes hbase
  unfold Oper.wp execOp
  simp only [ho, resolve, invoke, builtin, Sem.run_bind, Sem.run_pure, Result.andThen_ok, List.map_toArray, List.map_cons, List.map_nil, hs, hx, hr]
  exact h v' w' h2 h3 h5
/-- a slice that lies where another did, or in a block from s on -/
def Near (s : Nat) (v v' : Value) : Prop := ∀ k, v'.ownBlock = some k → v.ownBlock = some k ∨ s ≤ k
theorem Near.refl (s : Nat) (v : Value) : Near s v v := fun _ h => .inl h
theorem Near.nil (s : Nat) (v : Value) : Near s v (.slice none 0 0) := fun k h => by cases h
theorem Near.of_at {s : Nat} {v v' : Value} {q : Nat} (h : v'.ownBlock = v.ownBlock ∨ v'.ownBlock = some q) (hq : s ≤ q) : Near s v v' := fun k hk => by
  rcases h with h | h
  · left; rw [← h]; exact hk
  · right; rw [h] at hk; cases hk; exact hq
theorem Near.trans {s s' : Nat} {a b c : Value} (h : Near s a b) (k : Near s' b c) (hs : s ≤ s') : Near s a c := fun x hx => by
  rcases k x hx with h1 | h1
  · exact h x h1
  · right; omega
theorem wp_opapp {w : World} {o : Oper} {a : Act} {K : Act → World → Prop} {Q : Exit → Act → World → Prop} (s x : Operand)
    (ho : o.op = .call { callee := .builtin .append, args := #[s, x], argTypes := #[84, 84] })
    (base : Nat) (v : Value) (n : Nat) (l : List AOp) (r : AOp) (b : Nat) (hs : a.eval s = v) (hown : w.ownsRow base 107 4 v n (opsV l)) (hx : a.eval x = .slice (some ⟨b, 0, none⟩) 1 1)
    (hb : w.heap[b]? = some (opO r)) (hn : n ≤ 1073741824) (hbase : base ≤ w.heap.size)
    (h : ∀ v' w', w'.ownsRow base 107 4 v' (n + 1) (opsV (l ++ [r])) → w.grownBy w' v.ownBlock → (v'.ownBlock = v.ownBlock ∨ v'.ownBlock = some w.heap.size) → K (a.put o.dst v') w') : o.wp Tryz.prog a w K Q := by
  obtain ⟨i0, hi, hz0, hz1, hz2⟩ := info_parts Tryz.infoOp
  have hc0 := blk_cell hb 0
  have hc1 := blk_cell hb 1
  have hc2 := blk_cell hb 2
  have hc3 := blk_cell hb 3
  simp at hc0 hc1 hc2 hc3
  refine wp_append_at s x 84 ho base 107 i0 _ 4 56 Tryz.underlying84 hi hz0 hz1 hz2 rfl (by decide) v n (opsV l) hs hown ⟨b, 0, none⟩ 1 1 (opCells r) hx rfl ?_ ?_ (by unfold maxLen; omega) (by omega) hbase ?_
  · intro jj u hjj
    match jj, hjj with
    | 0, hjj => simp [opCells] at hjj; subst hjj; simpa [Addr.add] using hc0
    | 1, hjj => simp [opCells] at hjj; subst hjj; simpa [Addr.add] using hc1
    | 2, hjj => simp [opCells] at hjj; subst hjj; simpa [Addr.add] using hc2
    | 3, hjj => simp [opCells] at hjj; subst hjj; simpa [Addr.add] using hc3
  · intro u hu; simp [opCells] at hu; rcases hu with rfl | rfl | rfl | rfl <;> rfl
  · intro v' w' ho' hg' hl'
    refine h v' w' ?_ hg' hl'
    rw [opsV_snoc]; exact ho'
/-- the disk in memory -/
structure DiskIn (w : World) (B p bD bN : Nat) (pv : Value) (d : ADisk) (n nD nN : Nat) : Prop where
  blk : w.heap[p]? = some (dskO bD bN pv d.left d.full d.down)
  base : B ≤ p ∧ B ≤ bD ∧ B ≤ bN ∧ B ≤ w.heap.size
  ne : bD ≠ bN
  dur : FileMap w bD nD d.durable
  now : FileMap w bN nN d.now
  pen : w.ownsRow B 107 4 pv d.pending.length (opsV d.pending)
  hD : nD + d.pending.length ≤ n
  hN : nN ≤ n
  hn : n ≤ 67108864
  leD : d.durable.Le (nD * 4096)
  leN : d.now.Le (nN * 4096)
  ops : ∀ o ∈ d.pending, o.Ok 4096
theorem FileMap.ne_cells {w : World} {b n q : Nat} {m : Files} {c : Array Value} {t : TypeId} {fr : Nat × Nat} (h : FileMap w b n m) (hq : w.heap[q]? = some (.cells c t fr)) : b ≠ q := by
  obtain ⟨es, c', h1⟩ := h.isMap
  intro e; subst e; rw [h1] at hq; cases hq
theorem own_cells {w : World} {B n g : Nat} {e : TypeId} {k : Nat} {v : Value} {xs : List Value} (h : w.ownsRow B e k v n xs) (hg : v.ownBlock = some g) : ∃ c, w.heap[g]? = some (.cells c e (0, 0)) := by
  rcases h.2 with ⟨rfl, _⟩ | ⟨g', cap, cur, rfl, _, h3, _⟩
  · cases hg
  · cases hg; exact ⟨cur, h3⟩
/-- a block of another element type is not the row's -/
theorem own_ne {w : World} {B n q : Nat} {e e' : TypeId} {k : Nat} {v : Value} {xs : List Value} {c : Array Value} {fr : Nat × Nat} (h : w.ownsRow B e k v n xs) (hq : w.heap[q]? = some (.cells c e' fr)) (hne : e ≠ e') : v.ownBlock ≠ some q := by
  intro hv
  obtain ⟨c', h1⟩ := own_cells h hv
  rw [h1] at hq
  cases hq
  exact hne rfl
/-- what a disk may write -/
abbrev dS (p bD bN : Nat) (pv : Value) : List Nat := p :: bD :: bN :: pv.ownBlock.toList
theorem ownsRow_fr {w w' : World} {S : List Nat} {B n : Nat} {e : TypeId} {k : Nat} {v : Value} {xs : List Value} (h : w.ownsRow B e k v n xs) (hf : Fr S w w') (hs : ∀ g, v.ownBlock = some g → g ∉ S) : w'.ownsRow B e k v n xs := by
  refine ⟨h.1, ?_⟩
  rcases h.2 with h1 | ⟨g, cap, cur, rfl, h2, h3, h4⟩
  · exact .inl h1
  · exact .inr ⟨g, cap, cur, rfl, h2, (hf.block g (Array.getElem?_eq_some_iff.1 h3).1 (hs g rfl)).trans h3, h4⟩
/-- behind a frame that leaves the disk alone -/
theorem DiskIn.fr {w w' : World} {B p bD bN n nD nN : Nat} {pv : Value} {d : ADisk} {S : List Nat} (h : DiskIn w B p bD bN pv d n nD nN) (hf : Fr S w w') (hp : p ∉ S) (h1 : bD ∉ S) (h2 : bN ∉ S) (h3 : ∀ g, pv.ownBlock = some g → g ∉ S) (h4 : ∀ q ∈ S, ∀ t, w.heap[q]? ≠ some (textO t)) : DiskIn w' B p bD bN pv d n nD nN where
  blk := (hf.block p (Array.getElem?_eq_some_iff.1 h.blk).1 hp).trans h.blk
  base := ⟨h.base.1, h.base.2.1, h.base.2.2.1, Nat.le_trans h.base.2.2.2 hf.size⟩
  ne := h.ne
  dur := h.dur.fr hf h1 h4
  now := h.now.fr hf h2 h4
  pen := ownsRow_fr h.pen hf h3
  hD := h.hD
  hN := h.hN
  hn := h.hn
  leD := h.leD
  leN := h.leN
  ops := h.ops
theorem DiskIn.new {w w' : World} {B p bD bN n nD nN : Nat} {pv : Value} {d : ADisk} (h : DiskIn w B p bD bN pv d n nD nN) (hf : Fr [] w w') : DiskIn w' B p bD bN pv d n nD nN :=
  h.fr hf (by simp) (by simp) (by simp) (by simp) (by simp)
theorem DiskIn.more {w : World} {B p bD bN n nD nN : Nat} {pv : Value} {d : ADisk} (h : DiskIn w B p bD bN pv d n nD nN) (hn : n < 67108864) : DiskIn w B p bD bN pv d (n + 1) nD nN :=
  { h with hD := by have := h.hD; omega, hN := by have := h.hN; omega, hn := by omega }
/-- the block alone was written -/
theorem DiskIn.turn {w w' : World} {B p bD bN n nD nN : Nat} {pv : Value} {d : ADisk} (h : DiskIn w B p bD bN pv d n nD nN) (hf : Fr [p] w w') (l f : Int) (dn : Bool) (hb : w'.heap[p]? = some (dskO bD bN pv l f dn)) :
    DiskIn w' B p bD bN pv { d with left := l, full := f, down := dn } n nD nN where
  blk := hb
  base := ⟨h.base.1, h.base.2.1, h.base.2.2.1, Nat.le_trans h.base.2.2.2 hf.size⟩
  ne := h.ne
  dur := h.dur.fr hf (by simp; exact h.dur.ne_cells h.blk) (by intro q hq t; simp at hq; subst hq; rw [h.blk]; intro e; cases e)
  now := h.now.fr hf (by simp; exact h.now.ne_cells h.blk) (by intro q hq t; simp at hq; subst hq; rw [h.blk]; intro e; cases e)
  pen := ownsRow_fr h.pen hf (fun g hg => by simp; intro e; subst e; exact own_ne h.pen h.blk (by decide) hg)
  hD := h.hD
  hN := h.hN
  hn := h.hn
  leD := h.leD
  leN := h.leN
  ops := h.ops
theorem writes_same (d : ADisk) : d.writes.1 = { d with left := d.writes.1.left, full := d.writes.1.full, down := d.writes.1.down } := by
  unfold ADisk.writes; split
  · rfl
  · split <;> rfl
theorem writes_in (B p bD bN n nD nN : Nat) (pv : Value) (d : ADisk) (w : World) (h : DiskIn w B p bD bN pv d n nD nN) :
    Calls Tryz.prog 305 #[.pointer (some ⟨p, 0, none⟩)] w fun e w' => e = .returned (errN d.writes.2) ∧ DiskIn w' B p bD bN pv d.writes.1 n nD nN ∧ Fr [p] w w' := by
  refine (writes_any p bD bN pv d w h.blk).mono ?_
  rintro e w' ⟨rfl, h1, h2⟩
  refine ⟨rfl, ?_, h2⟩
  rw [writes_same]
  exact h.turn h2 _ _ _ h1
end Go.Proofs.YtnnhihkeffljbaaGreatDoor
/- (*disk).tell, walked. -/
namespace Go.Proofs.YtnnhihkeffljbaaGreatDoor
open Go.RowKit

def TellPost (d : ADisk) (o : AOp) (B p bD bN n nD : Nat) (pv : Value) (w : World) (e : Ending) (w' : World) : Prop :=
  e = .returned (errN (d.tell o).2) ∧ (∃ pv' nN', DiskIn w' B p bD bN pv' (d.tell o).1 (n + 1) nD nN' ∧ Near w.heap.size pv pv') ∧ Fr (dS p bD bN pv) w w'
theorem tell_down {d : ADisk} {o : AOp} (h : d.writes.2 = 10) : d.tell o = ({ d.writes.1 with pending := d.writes.1.pending ++ [o] }, 10) := by unfold ADisk.tell; simp [h]
theorem tell_full {d : ADisk} {o : AOp} (h : d.writes.2 = 9) : d.tell o = (d.writes.1, 9) := by unfold ADisk.tell; simp [h]
theorem tell_none {d : ADisk} {o : AOp} (h : d.writes.2 = 0) (h1 : d.writes.1.now o.name = none ∧ 2 < o.kind) : d.tell o = (d.writes.1, 8) := by unfold ADisk.tell; simp [h, h1]
theorem tell_self {d : ADisk} {o : AOp} (h : d.writes.2 = 0) (h1 : ¬ (d.writes.1.now o.name = none ∧ 2 < o.kind)) (h2 : o.kind = 4 ∧ o.name = o.to) : d.tell o = (d.writes.1, 0) := by unfold ADisk.tell; rw [if_neg (by rw [h]; decide), if_neg (by rw [h]; decide), if_neg h1, if_pos h2]
theorem tell_ok {d : ADisk} {o : AOp} (h : d.writes.2 = 0) (h1 : ¬ (d.writes.1.now o.name = none ∧ 2 < o.kind)) (h2 : ¬ (o.kind = 4 ∧ o.name = o.to)) : d.tell o = ({ d.writes.1 with now := doOp d.writes.1.now o, pending := d.writes.1.pending ++ [o] }, 0) := by unfold ADisk.tell; rw [if_neg (by rw [h]; decide), if_neg (by rw [h]; decide), if_neg h1, if_neg h2]
theorem writes_cases (d : ADisk) : d.writes.2 = 10 ∨ d.writes.2 = 9 ∨ d.writes.2 = 0 := by
  unfold ADisk.writes; split
  · simp
  · split <;> simp
/-- behind an op more that is pending -/
theorem DiskIn.pend0 {w w1 w2 : World} {B p bD bN n nD nN : Nat} {pv pv' : Value} {d : ADisk} {o : AOp} (h : DiskIn w B p bD bN pv d n nD nN) (ho : o.Ok 4096)
    (hg : w.grownBy w1 pv.ownBlock) (hr : w1.ownsRow B 107 4 pv' (d.pending.length + 1) (opsV (d.pending ++ [o]))) (hw2 : w2 = w1.setCell ⟨p, 2, none⟩ pv') :
    (∀ n', nD + (d.pending ++ [o]).length ≤ n' → nN ≤ n' → n' ≤ 67108864 → DiskIn w2 B p bD bN pv' { d with pending := d.pending ++ [o] } n' nD nN) ∧ Fr (p :: pv.ownBlock.toList) w w2 := by
  have hp1 : w1.heap[p]? = some (dskO bD bN pv d.left d.full d.down) := (hg.block p (Array.getElem?_eq_some_iff.1 h.blk).1 (fun e => own_ne h.pen h.blk (by decide) e.symm)).trans h.blk
  have hf1 : Fr pv.ownBlock.toList w w1 := Fr.of_grown hg
  have hf2 : Fr (p :: pv.ownBlock.toList) w w2 := by
    rw [hw2]
    exact (hf1.mono (fun k _ hk => List.mem_cons_of_mem _ hk)).setCell (Or.inl (by simp)) _
  have hns : ∀ q ∈ p :: pv.ownBlock.toList, ∀ t, w.heap[q]? ≠ some (textO t) := by
    intro q hq t e
    rcases List.mem_cons.1 hq with rfl | hq
    · rw [h.blk] at e; cases e
    · simp at hq
      exact own_ne h.pen e (by decide) hq
  have hnm : ∀ (b k : Nat) (m : Files), FileMap w b k m → b ∉ p :: pv.ownBlock.toList := by
    intro b k m hm hb
    rcases List.mem_cons.1 hb with rfl | hb
    · exact hm.ne_cells h.blk rfl
    · simp at hb
      obtain ⟨c, hc⟩ := own_cells h.pen hb
      exact hm.ne_cells hc rfl
  refine ⟨fun n' hn1 hn2 hn3 => ?_, hf2⟩
  subst hw2
  have hpp : ∀ g, pv'.ownBlock = some g → g ≠ p := by
    intro g hgv e
    subst e
    exact own_ne hr hp1 (by decide) hgv
  refine { blk := ?_, base := ⟨h.base.1, h.base.2.1, h.base.2.2.1, Nat.le_trans h.base.2.2.2 hf2.size⟩, ne := h.ne, dur := h.dur.fr hf2 (hnm _ _ _ h.dur) hns, now := h.now.fr hf2 (hnm _ _ _ h.now) hns, pen := ?_, hD := hn1, hN := hn2, hn := hn3, leD := h.leD, leN := h.leN, ops := ?_ }
  · have := blk_set hp1 2 pv'; simpa using this
  · have := ownsRow_fr hr (S := [p]) (Fr.set1 (w := w1) (p := p) (by simp) 2 pv') (fun g hgv => by simp; exact hpp g hgv)
    simpa using this
  · intro x hx
    rcases List.mem_append.1 hx with hx | hx
    · exact h.ops x hx
    · simp at hx; subst hx; exact ho

theorem DiskIn.pend {w w1 w2 : World} {B p bD bN n nD nN : Nat} {pv pv' : Value} {d : ADisk} {o : AOp} (h : DiskIn w B p bD bN pv d n nD nN) (hn : n < 67108864) (ho : o.Ok 4096)
    (hg : w.grownBy w1 pv.ownBlock) (hr : w1.ownsRow B 107 4 pv' (d.pending.length + 1) (opsV (d.pending ++ [o]))) (hw2 : w2 = w1.setCell ⟨p, 2, none⟩ pv') :
    DiskIn w2 B p bD bN pv' { d with pending := d.pending ++ [o] } (n + 1) nD nN ∧ Fr (p :: pv.ownBlock.toList) w w2 := by
  obtain ⟨q1, q2⟩ := DiskIn.pend0 h ho hg hr hw2
  exact ⟨q1 (n + 1) (by have := h.hD; simp; omega) (by have := h.hN; omega) (by omega), q2⟩
theorem DiskIn.pend' {w w1 w2 : World} {B p bD bN n nD nN : Nat} {pv pv' : Value} {d : ADisk} {o : AOp} {N : Files} (h : DiskIn w B p bD bN pv { d with now := N } (n + 1) nD (nN + 1)) (ho : o.Ok 4096)
    (hg : w.grownBy w1 pv.ownBlock) (hr : w1.ownsRow B 107 4 pv' (d.pending.length + 1) (opsV (d.pending ++ [o]))) (hw2 : w2 = w1.setCell ⟨p, 2, none⟩ pv') (hD : nD + d.pending.length ≤ n) :
    DiskIn w2 B p bD bN pv' { d with now := N, pending := d.pending ++ [o] } (n + 1) nD (nN + 1) ∧ Fr (p :: pv.ownBlock.toList) w w2 := by
  obtain ⟨q1, q2⟩ := DiskIn.pend0 h ho hg hr hw2
  exact ⟨q1 (n + 1) (by simp; omega) h.hN h.hn, q2⟩
theorem own_some {w : World} {B n : Nat} {e : TypeId} {k : Nat} {v : Value} {xs : List Value} (h : w.ownsRow B e k v (n + 1) xs) : ∃ g cap, v = .slice (some ⟨g, 0, none⟩) (n + 1) cap := by
  rcases h.2 with ⟨_, h3⟩ | ⟨g, cap, cur, rfl, _⟩
  · omega
  · exact ⟨g, cap, rfl⟩
theorem keep4 {w1 w4 : World} {B p bD bN n nD nN q : Nat} {pv : Value} {d : ADisk} {o : AOp} (h : DiskIn w1 B p bD bN pv d n nD nN) (hq : w1.heap[q]? = some (opO o)) (hg : (w1.alloc (opO o)).drew.grownBy w4 pv.ownBlock) (hne : pv.ownBlock ≠ some q) :
    w4.cell? ⟨p, 2, none⟩ = some pv ∧ w4.frozen? ⟨p, 2, none⟩ = false ∧ w4.cell? ⟨q, 0, none⟩ = some (.int .i64 o.kind) ∧ w4.cell? ⟨q, 1, none⟩ = some (.string o.name) ∧ w4.cell? ⟨q, 2, none⟩ = some (.string o.to) ∧ w4.cell? ⟨q, 3, none⟩ = some (.string o.data) := by
  have hpl := (Array.getElem?_eq_some_iff.1 h.blk).1
  have hql := (Array.getElem?_eq_some_iff.1 hq).1
  have k1 : w4.heap[p]? = some (dskO bD bN pv d.left d.full d.down) := by
    rw [hg.block p (by simp; omega) (fun e => own_ne h.pen h.blk (by decide) e.symm)]
    exact (Below.heap_alloc w1 _ p hpl).trans h.blk
  have k2 : w4.heap[q]? = some (opO o) := by
    rw [hg.block q (by simp; omega) (fun e => hne e.symm)]
    exact (Below.heap_alloc w1 _ q hql).trans hq
  refine ⟨(blk_cell k1 2).trans (by simp), blk_free k1 2, (blk_cell k2 0).trans (by simp), (blk_cell k2 1).trans (by simp), (blk_cell k2 2).trans (by simp), (blk_cell k2 3).trans (by simp)⟩
/-- behind the change of what is now -/
theorem DiskIn.done {w1 w2 : World} {B p bD bN n nD nN q : Nat} {pv : Value} {d : ADisk} {o : AOp} (h : DiskIn w1 B p bD bN pv d n nD nN) (hq : w1.heap[q]? = some (opO o)) (hF : FileMap w2 bN (nN + 1) (doOp d.now o)) (hg : w1.grownBy w2 (some bN)) (hn : n < 67108864) (ho : o.Ok 4096) :
    DiskIn w2 B p bD bN pv { d with now := doOp d.now o } (n + 1) nD (nN + 1) ∧ w2.heap[q]? = some (opO o) ∧ Fr [bN] w1 w2 := by
  have hf := Fr.of_grown1 hg
  have hnt : ∀ r ∈ [bN], ∀ t, w1.heap[r]? ≠ some (textO t) := by
    intro r hr t e; simp at hr; subst hr; exact h.now.ne_cells e rfl
  refine ⟨?_, (hf.block q (Array.getElem?_eq_some_iff.1 hq).1 (by simp; exact fun e => h.now.ne_cells hq e.symm)).trans hq, hf⟩
  refine { blk := (hf.block p (Array.getElem?_eq_some_iff.1 h.blk).1 (by simp; exact fun e => h.now.ne_cells h.blk e.symm)).trans h.blk, base := ⟨h.base.1, h.base.2.1, h.base.2.2.1, Nat.le_trans h.base.2.2.2 hf.size⟩, ne := h.ne, dur := h.dur.fr hf (by simp; exact h.ne) hnt, now := hF, pen := ownsRow_fr h.pen hf (fun g hgv => by simp; intro e; subst e; obtain ⟨c, hc⟩ := own_cells h.pen hgv; exact h.now.ne_cells hc rfl), hD := by have := h.hD; simp; omega, hN := by have := h.hN; omega, hn := by omega, leD := h.leD, leN := ?_, ops := h.ops }
  · have := doOp_le h.leN ho
    intro k t ht
    have := this k t ht
    omega
theorem Tryz.eqDD (w : World) : (binOp .eql 68 (.iface 31 (.int .i64 10)) (.iface 31 (.int .i64 10))).run Tryz.prog w = .ok (.bool true) w := by kernel_rfl
theorem Tryz.eqFD (w : World) : (binOp .eql 68 (.iface 31 (.int .i64 9)) (.iface 31 (.int .i64 10))).run Tryz.prog w = .ok (.bool false) w := by kernel_rfl
end Go.Proofs.YtnnhihkeffljbaaGreatDoor
