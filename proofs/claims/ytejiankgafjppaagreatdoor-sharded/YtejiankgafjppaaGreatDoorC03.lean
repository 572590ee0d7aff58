import Derived.Test.YtejiankgafjppaaGreatDoorC02
import Derived.BigQuiet
import Derived.Deep.RegionLaw
import Derived.Test.YtejiankgafjppaaGreatDoorC01
import Derived.Laws.BitsAll
/- SHARDS: writes, clashes. -/
namespace Go.Proofs.YtejiankgafjppaaGreatDoor
open Go.RowKit Go.Maps
open Sc

def AGrip.writes (g : AGrip) : Bool := !decide (g.way = 0)
set_option maxRecDepth 100000 in
set_option maxHeartbeats 2000000 in
theorem gwrites (g : AGrip) (w : World) : Calls Tryz.prog 137 #[.agg #[.int .u8 (g.way : Int), .string g.val]] w fun e w' => e = .returned (.bool g.writes) ∧ w' = w.alloc (.cells #[.int .u8 (g.way : Int), .string g.val] 189) := by
  go_enter Tryz.func137, Tryz.ntmps137
  go_wp2
  go_ret
  refine ⟨?_, rfl⟩
  congr 2
  unfold AGrip.writes
  by_cases h : g.way = 0
  · simp [h]
  · simp [h]
/-- does another hold the key in such a way? -/
def clashAt (s : AShard) (t : Nat) (k : ByteArray) (wr : Bool) (o : Nat) : Bool :=
  (alLook s.holds (o, k)).isSome && (!decide (o = t) && ((s.grip o k).writes || wr))
def AShard.clash (s : AShard) (t : Nat) (k : ByteArray) (wr : Bool) : Bool := s.txns.any fun p => clashAt s t k wr p.1
set_option maxRecDepth 100000 in
set_option maxHeartbeats 4000000 in
theorem clashes_any (sp lg bV bT bH n t : Nat) (k : ByteArray) (g : AGrip) (s : AShard) (w : World) (h : ShIn w sp lg bV bT bH n s) (hk : k.size ≤ maxLen) :
    Calls Tryz.prog 193 #[.pointer (some ⟨sp, 0, none⟩), .int .u64 (t : Int), .string k, .agg #[.int .u8 (g.way : Int), .string g.val]] w fun e w' => e = .returned (.bool (s.clash t k g.writes)) ∧ Fr [] w w' := by
  have HI : Hid (ShIn w sp lg bV bT bH n s) := h
  have c2 := blk_cell h.blk 2
  simp at c2
  have hsp : sp < w.heap.size := (Array.getElem?_eq_some_iff.1 h.blk).1
  clear h
  go_enter Tryz.func193, Tryz.ntmps193
  go_wp2_with (first
    | (at_range; refine wpList_map_range (KR := KU) (ER := ET) rfl _ 182 196 rfl Tryz.underlying182 bT n s.txns rfl (HI.out.txns.fr ((Fr.refl [] w).alloc _) (by simp)) ?_; intro w0 hrg0 hg0 hs0)
    | go_in)
  have hsz1 : (w.alloc (.cells #[.int .u8 (g.way : Int), .string g.val] 189)).heap.size = w.heap.size + 1 := by simp
  rw [hsz1] at hrg0 hs0 ⊢
  clear hsz1
  go_frame
  have hf0 : Fr [] w w0 := ((Fr.refl [] w).alloc _).trans (Fr.of_grown hg0)
  have hgb0 : w0.heap[w.heap.size]? = some (.cells #[.int .u8 (g.way : Int), .string g.val] 189) := by
    rw [hg0.block w.heap.size (by simp) (by simp)]; exact heap_alloc_new _ _
  have HR0 : Hid (RangesAs KU ET w0 bT (w.heap.size + 1) n s.txns s.txns) := hrg0
  have hsz0 : w0.heap.size = w.heap.size + 2 := by omega
  have HF0 : Hid (Fr [] w w0) := hf0
  have HGB0 : Hid (w0.heap[w.heap.size]? = some (.cells #[.int .u8 (g.way : Int), .string g.val] 189)) := hgb0
  clear hrg0 hg0 hs0 hf0 hgb0
  go_loopw [9] (fun _ wr => ∃ rem, Hid (RangesAs KU ET wr bT (w.heap.size + 1) n s.txns rem ∧ (∀ p ∈ s.txns, p ∉ rem → clashAt s t k g.writes p.1 = false) ∧ Fr [] w wr ∧ wr.heap[w.heap.size]? = some (.cells #[.int .u8 (g.way : Int), .string g.val] 189) ∧ w.heap.size + 2 ≤ wr.heap.size)) (fun _ wr => wr.rangeLeft bT (w.heap.size + 1))
  case atStart => exact ⟨s.txns, HR0.out, fun p h1 h2 => absurd h1 h2, HF0.out, HGB0.out, by omega⟩
  case round =>
    obtain ⟨rem, HX⟩ := hrel
    have hrg := HX.out.1
    go_wp2_with (first
      | (at_next; refine wpList_map_next (KR := KU) (ER := ET) rfl _ rfl bT (w.heap.size + 1) n s.txns rem rfl hrg ?_ ?_)
      | go_in)
    · intro hnil
      go_wp2
      go_ret
      refine ⟨?_, HX.out.2.2.1⟩
      have hno : s.clash t k g.writes = false := by
        unfold AShard.clash
        rw [List.any_eq_false]
        intro p hp
        rw [HX.out.2.1 p hp (by rw [hnil]; simp)]
        simp
      rw [hno]; rfl
    · intro o x w2 hm hrg2 hlt hg2 hs2 hen
      have hms : (o, x) ∈ s.txns := by
        obtain ⟨_, _, _, _, _, _, _, _, h6, _⟩ := hrg
        exact h6 _ hm
      have ho : o < 18446744073709551616 := by
        obtain ⟨_, _, _, _, hok⟩ := hrg.owns
        exact (hok _ hms).1
      have hf2 : Fr [] w w2 := HX.out.2.2.1.andThen (Fr.of_grown1 hg2) (fun j hj hl => by simp at hj; omega)
      have hin2 := HI.out.fr hf2 (by simp) (by simp) (by simp) (by simp)
      have hgb2 : w2.heap[w.heap.size]? = some (.cells #[.int .u8 (g.way : Int), .string g.val] 189) := by
        rw [hg2.block w.heap.size (by have := HX.out.2.2.2.2; omega) (by simp)]; exact HX.out.2.2.2.1
      have c3 := blk_cell hin2.blk 3
      simp at c3
      have hl := hin2.lookHok ho hk
      have HH : Hid (clashAt s t k g.writes o = ((alLook s.holds (o, k)).isSome && (!decide (o = t) && ((s.grip o k).writes || g.writes)))) := rfl
      obtain ⟨G, hG⟩ : ∃ G, G = s.grip o k := ⟨_, rfl⟩
      obtain ⟨O, hO⟩ : ∃ O, O = (alLook s.holds (o, k)).isSome := ⟨_, rfl⟩
      rw [← hG, ← hO] at hl HH
      clear hG hO
      have HRG2 : Hid (RangesAs KU ET w2 bT (w.heap.size + 1) n s.txns (alDel rem o)) := hrg2
      have HF2 : Hid (Fr [] w w2) := hf2
      have HGB2 : Hid (w2.heap[w.heap.size]? = some (.cells #[.int .u8 (g.way : Int), .string g.val] 189)) := hgb2
      have hsz2 : w.heap.size + 2 ≤ w2.heap.size := by have := HX.out.2.2.2.2; omega
      have hen' : (Instr.entry (.pointer (some ⟨w.heap.size + 1, 0, none⟩))).run Tryz.prog w2 = .ok (.tuple #[.int .u64 (o : Int), .agg #[.int .i64 (x.state : Int), .int .i64 (x.done : Int), .int .u64 (x.last : Int)]]) w2 := hen
      have HM : Hid ((o, x) ∈ rem ∧ (o, x) ∈ s.txns) := ⟨hm, hms⟩
      have HLT : Hid (w2.rangeLeft bT (w.heap.size + 1) < wr.rangeLeft bT (w.heap.size + 1)) := hlt
      clear hrg hrg2 hf2 hin2 hgb2 hm hms hen hg2 hs2 hlt
      have GO : Hid (clashAt s t k g.writes o = false → ∀ W, Fr [] w2 W → (∃ rem, Hid (RangesAs KU ET W bT (w.heap.size + 1) n s.txns rem ∧ (∀ p ∈ s.txns, p ∉ rem → clashAt s t k g.writes p.1 = false) ∧ Fr [] w W ∧ W.heap[w.heap.size]? = some (.cells #[.int .u8 (g.way : Int), .string g.val] 189) ∧ w.heap.size + 2 ≤ W.heap.size)) ∧ W.rangeLeft bT (w.heap.size + 1) < wr.rangeLeft bT (w.heap.size + 1)) := fun hc W hW => by
        obtain ⟨r1, r2⟩ := HRG2.out.fr hW (by simp) (by simp)
        refine ⟨⟨alDel rem o, r1, fun p hp hn => ?_, HF2.out.trans hW, (hW.block _ (by omega) (by simp)).trans HGB2.out, Nat.le_trans hsz2 hW.size⟩, by rw [r2]; exact HLT.out⟩
        by_cases hpr : p ∈ rem
        · have hpo : p.1 = o := Decidable.byContradiction fun hne => hn (List.mem_filter.2 ⟨hpr, by simp [hne]⟩)
          rw [hpo]; exact hc
        · exact HX.out.2.1 p hp hpr
      have YES : Hid (clashAt s t k g.writes o = true → s.clash t k g.writes = true) := fun hc => by
        unfold AShard.clash
        rw [List.any_eq_true]
        exact ⟨_, HM.out.2, hc⟩
      cases O with
      | false =>
        have GO2 : Hid _ := GO.out (by rw [HH.out]; rfl)
        clear GO YES
        go_wp2
        exact GO2.out _ ((Fr.refl [] w2).alloc _)
      | true =>
        have q0 := blk_cell HGB2.out 0
        have q1 := blk_cell HGB2.out 1
        simp at q0 q1
        have z1 : w.heap.size < w2.heap.size := by omega
        have z2 : ¬ w.heap.size = w2.heap.size := by omega
        have z3 : ¬ w.heap.size = w2.heap.size + 1 := by omega
        by_cases hot : o = t
        · have GO2 : Hid _ := GO.out (by rw [HH.out]; simp [hot])
          have hb : ((o : Int) != (t : Int)) = false := by simp [hot]
          clear GO YES hot
          go_wp2
          exact GO2.out _ ((Fr.refl [] w2).alloc _)
        · have hb : ((o : Int) != (t : Int)) = true := by simp; omega
          by_cases hG0 : G.way = 0
          · have hb1 : ((G.way : Int) != 0) = false := by simp [hG0]
            have hGw : G.writes = false := by simp [AGrip.writes, hG0]
            by_cases hg0 : g.way = 0
            · have hb2 : ((g.way : Int) != 0) = false := by simp [hg0]
              have hgw : g.writes = false := by simp [AGrip.writes, hg0]
              have GO2 : Hid _ := GO.out (by rw [HH.out, hGw, hgw]; simp)
              clear GO YES hot hG0 hg0 hGw hgw
              go_wp2
              exact GO2.out _ ((((Fr.refl [] w2).alloc _).alloc _).alloc _)
            · have hb2 : ((g.way : Int) != 0) = true := by simp [hg0]
              have hgw : g.writes = true := by simp [AGrip.writes, hg0]
              have YES2 : Hid _ := YES.out (by rw [HH.out, hGw, hgw]; simp [hot])
              clear GO YES hot hG0 hg0 hGw hgw
              go_wp2
              go_ret
              exact ⟨by rw [YES2.out]; rfl, HF2.out.trans ((((Fr.refl [] w2).alloc _).alloc _).alloc _)⟩
          · have hb1 : ((G.way : Int) != 0) = true := by simp [hG0]
            have hGw : G.writes = true := by simp [AGrip.writes, hG0]
            have YES2 : Hid _ := YES.out (by rw [HH.out, hGw]; simp [hot])
            clear GO YES hot hG0 hGw
            go_wp2
            go_ret
            exact ⟨by rw [YES2.out]; rfl, HF2.out.trans (((Fr.refl [] w2).alloc _).alloc _)⟩
end Go.Proofs.YtejiankgafjppaaGreatDoor
/- SHARDS: what turns of one; take, as mathematics. -/
namespace Go.Proofs.YtejiankgafjppaaGreatDoor
open Go.RowKit Go.Maps
open Sc

theorem frDrewN {S : List Nat} {a w : World} (h : Fr S a w) : ∀ k, Fr S a (w.drewN k)
  | 0 => h
  | k + 1 => (frDrewN h k).drew
theorem ShIn.mono {w : World} {sp lg bV bT bH n m : Nat} {s : AShard} (h : ShIn w sp lg bV bT bH n s) (hn : n ≤ m) : ShIn w sp lg bV bT bH m s :=
  { h with vals := h.vals.mono hn, txns := h.txns.mono hn, holds := h.holds.mono hn }
theorem ShIn.lts {w : World} {sp lg bV bT bH n : Nat} {s : AShard} (h : ShIn w sp lg bV bT bH n s) : sp < w.heap.size ∧ bV < w.heap.size ∧ bT < w.heap.size ∧ bH < w.heap.size ∧ sp ≠ bV ∧ sp ≠ bT ∧ sp ≠ bH := by
  refine ⟨(Array.getElem?_eq_some_iff.1 h.blk).1, h.vals.lt, h.txns.lt, h.holds.lt, ?_, ?_, ?_⟩
  · rintro rfl; obtain ⟨es, c, e⟩ := h.vals.isMap; rw [h.blk] at e; cases e
  · rintro rfl; obtain ⟨es, c, e⟩ := h.txns.isMap; rw [h.blk] at e; cases e
  · rintro rfl; obtain ⟨es, c, e⟩ := h.holds.isMap; rw [h.blk] at e; cases e
/-- what is held has turned -/
theorem ShIn.setHolds {w w' : World} {sp lg bV bT bH n m : Nat} {s : AShard} {hs : List ((Nat × ByteArray) × AGrip)} (h : ShIn w sp lg bV bT bH n s) (hf : Fr [bH] w w') (hm : MapAs KH EG w' bH m hs) (hn : n ≤ m) : ShIn w' sp lg bV bT bH m { s with holds := hs } :=
  { blk := (hf.block sp h.lts.1 (by simp; exact h.lts.2.2.2.2.2.2)).trans h.blk
    vals := (h.vals.fr hf (by simp; exact h.ne.2.1)).mono hn
    txns := (h.txns.fr hf (by simp; exact h.ne.2.2)).mono hn
    holds := hm
    ne := h.ne
    ticks := h.ticks }
def AShard.take (s : AShard) (t : Nat) (k : ByteArray) (g : AGrip) : AShard := if (g.writes || !(s.grip t k).writes) = true then { s with holds := alPut s.holds (t, k) g } else s
end Go.Proofs.YtejiankgafjppaaGreatDoor
/- (*disk).tell, walked. -/
namespace Go.Proofs.YtejiankgafjppaaGreatDoor
open Go.RowKit

def TellPost (d : ADisk) (o : AOp) (B p bD bN n nD : Nat) (pv : Value) (w : World) (e : Ending) (w' : World) : Prop :=
  e = .returned (errN (d.tell o).2) ∧ (∃ pv' nN', DiskIn w' B p bD bN pv' (d.tell o).1 (n + 1) nD nN' ∧ Near w.heap.size pv pv') ∧ Fr (dS p bD bN pv) w w'
theorem tell_down {d : ADisk} {o : AOp} (h : d.writes.2 = 10) : d.tell o = ({ d.writes.1 with pending := d.writes.1.pending ++ [o] }, 10) := by unfold ADisk.tell; simp [h]
theorem tell_full {d : ADisk} {o : AOp} (h : d.writes.2 = 9) : d.tell o = (d.writes.1, 9) := by unfold ADisk.tell; simp [h]
theorem tell_none {d : ADisk} {o : AOp} (h : d.writes.2 = 0) (h1 : d.writes.1.now o.name = none ∧ 2 < o.kind) : d.tell o = (d.writes.1, 8) := by unfold ADisk.tell; simp [h, h1]
theorem tell_ok {d : ADisk} {o : AOp} (h : d.writes.2 = 0) (h1 : ¬ (d.writes.1.now o.name = none ∧ 2 < o.kind)) (h2 : ¬ (o.kind = 4 ∧ o.name = o.to)) : d.tell o = ({ d.writes.1 with now := doOp d.writes.1.now o, pending := d.writes.1.pending ++ [o] }, 0) := by unfold ADisk.tell; rw [if_neg (by rw [h]; decide), if_neg (by rw [h]; decide), if_neg h1, if_neg h2]
theorem writes_cases (d : ADisk) : d.writes.2 = 10 ∨ d.writes.2 = 9 ∨ d.writes.2 = 0 := by
  unfold ADisk.writes; split
  · simp
  · split <;> simp
/-- behind an op more that is pending -/
theorem DiskIn.pend0 {w w1 w2 : World} {B p bD bN n nD nN : Nat} {pv pv' : Value} {d : ADisk} {o : AOp} (h : DiskIn w B p bD bN pv d n nD nN) (ho : o.Ok 4096)
    (hg : w.grownBy w1 pv.ownBlock) (hr : w1.ownsRow B 175 4 pv' (d.pending.length + 1) (opsV (d.pending ++ [o]))) (hw2 : w2 = w1.setCell ⟨p, 2, none⟩ pv') :
    (∀ n', nD + (d.pending ++ [o]).length ≤ n' → nN ≤ n' → n' ≤ 67108864 → DiskIn w2 B p bD bN pv' { d with pending := d.pending ++ [o] } n' nD nN) ∧ Fr (p :: pv.ownBlock.toList) w w2 := by
  have hp1 : w1.heap[p]? = some (dskO bD bN pv d.left d.full d.down) := (hg.block p (Array.getElem?_eq_some_iff.1 h.blk).1 (fun e => own_ne h.pen h.blk (by decide) e.symm)).trans h.blk
  have hf1 : Fr pv.ownBlock.toList w w1 := Fr.of_grown hg
  have hf2 : Fr (p :: pv.ownBlock.toList) w w2 := by
    rw [hw2]
    exact (hf1.mono (fun k _ hk => List.mem_cons_of_mem _ hk)).setCell (Or.inl (by simp)) _
  have hns : ∀ q ∈ p :: pv.ownBlock.toList, ∀ t, w.heap[q]? ≠ some (textO t) := by
    intro q hq t e
    rcases List.mem_cons.1 hq with rfl | hq
    · rw [h.blk] at e; cases e
    · simp at hq
      exact own_ne h.pen e (by decide) hq
  have hnm : ∀ (b k : Nat) (m : Files), FileMap w b k m → b ∉ p :: pv.ownBlock.toList := by
    intro b k m hm hb
    rcases List.mem_cons.1 hb with rfl | hb
    · exact hm.ne_cells h.blk rfl
    · simp at hb
      obtain ⟨c, hc⟩ := own_cells h.pen hb
      exact hm.ne_cells hc rfl
  refine ⟨fun n' hn1 hn2 hn3 => ?_, hf2⟩
  subst hw2
  have hpp : ∀ g, pv'.ownBlock = some g → g ≠ p := by
    intro g hgv e
    subst e
    exact own_ne hr hp1 (by decide) hgv
  refine { blk := ?_, base := ⟨h.base.1, h.base.2.1, h.base.2.2.1, Nat.le_trans h.base.2.2.2 hf2.size⟩, ne := h.ne, dur := h.dur.fr hf2 (hnm _ _ _ h.dur) hns, now := h.now.fr hf2 (hnm _ _ _ h.now) hns, pen := ?_, hD := hn1, hN := hn2, hn := hn3, leD := h.leD, leN := h.leN, ops := ?_ }
  · have := blk_set hp1 2 pv'; simpa using this
  · have := ownsRow_fr hr (S := [p]) (Fr.set1 (w := w1) (p := p) (by simp) 2 pv') (fun g hgv => by simp; exact hpp g hgv)
    simpa using this
  · intro x hx
    rcases List.mem_append.1 hx with hx | hx
    · exact h.ops x hx
    · simp at hx; subst hx; exact ho

theorem DiskIn.pend {w w1 w2 : World} {B p bD bN n nD nN : Nat} {pv pv' : Value} {d : ADisk} {o : AOp} (h : DiskIn w B p bD bN pv d n nD nN) (hn : n < 67108864) (ho : o.Ok 4096)
    (hg : w.grownBy w1 pv.ownBlock) (hr : w1.ownsRow B 175 4 pv' (d.pending.length + 1) (opsV (d.pending ++ [o]))) (hw2 : w2 = w1.setCell ⟨p, 2, none⟩ pv') :
    DiskIn w2 B p bD bN pv' { d with pending := d.pending ++ [o] } (n + 1) nD nN ∧ Fr (p :: pv.ownBlock.toList) w w2 := by
  obtain ⟨q1, q2⟩ := DiskIn.pend0 h ho hg hr hw2
  exact ⟨q1 (n + 1) (by have := h.hD; simp; omega) (by have := h.hN; omega) (by omega), q2⟩
theorem DiskIn.pend' {w w1 w2 : World} {B p bD bN n nD nN : Nat} {pv pv' : Value} {d : ADisk} {o : AOp} {N : Files} (h : DiskIn w B p bD bN pv { d with now := N } (n + 1) nD (nN + 1)) (ho : o.Ok 4096)
    (hg : w.grownBy w1 pv.ownBlock) (hr : w1.ownsRow B 175 4 pv' (d.pending.length + 1) (opsV (d.pending ++ [o]))) (hw2 : w2 = w1.setCell ⟨p, 2, none⟩ pv') (hD : nD + d.pending.length ≤ n) :
    DiskIn w2 B p bD bN pv' { d with now := N, pending := d.pending ++ [o] } (n + 1) nD (nN + 1) ∧ Fr (p :: pv.ownBlock.toList) w w2 := by
  obtain ⟨q1, q2⟩ := DiskIn.pend0 h ho hg hr hw2
  exact ⟨q1 (n + 1) (by simp; omega) h.hN h.hn, q2⟩
theorem own_some {w : World} {B n : Nat} {e : TypeId} {k : Nat} {v : Value} {xs : List Value} (h : w.ownsRow B e k v (n + 1) xs) : ∃ g cap, v = .slice (some ⟨g, 0, none⟩) (n + 1) cap := by
  rcases h.2 with ⟨_, h3⟩ | ⟨g, cap, cur, rfl, _⟩
  · omega
  · exact ⟨g, cap, rfl⟩
theorem keep4 {w1 w4 : World} {B p bD bN n nD nN q : Nat} {pv : Value} {d : ADisk} {o : AOp} (h : DiskIn w1 B p bD bN pv d n nD nN) (hq : w1.heap[q]? = some (opO o)) (hg : (w1.alloc (opO o)).drew.grownBy w4 pv.ownBlock) (hne : pv.ownBlock ≠ some q) :
    w4.cell? ⟨p, 2, none⟩ = some pv ∧ w4.frozen? ⟨p, 2, none⟩ = false ∧ w4.cell? ⟨q, 0, none⟩ = some (.int .i64 o.kind) ∧ w4.cell? ⟨q, 1, none⟩ = some (.string o.name) ∧ w4.cell? ⟨q, 2, none⟩ = some (.string o.to) ∧ w4.cell? ⟨q, 3, none⟩ = some (.string o.data) := by
  have hpl := (Array.getElem?_eq_some_iff.1 h.blk).1
  have hql := (Array.getElem?_eq_some_iff.1 hq).1
  have k1 : w4.heap[p]? = some (dskO bD bN pv d.left d.full d.down) := by
    rw [hg.block p (by simp; omega) (fun e => own_ne h.pen h.blk (by decide) e.symm)]
    exact (Below.heap_alloc w1 _ p hpl).trans h.blk
  have k2 : w4.heap[q]? = some (opO o) := by
    rw [hg.block q (by simp; omega) (fun e => hne e.symm)]
    exact (Below.heap_alloc w1 _ q hql).trans hq
  refine ⟨(blk_cell k1 2).trans (by simp), blk_free k1 2, (blk_cell k2 0).trans (by simp), (blk_cell k2 1).trans (by simp), (blk_cell k2 2).trans (by simp), (blk_cell k2 3).trans (by simp)⟩
/-- behind the change of what is now -/
theorem DiskIn.done {w1 w2 : World} {B p bD bN n nD nN q : Nat} {pv : Value} {d : ADisk} {o : AOp} (h : DiskIn w1 B p bD bN pv d n nD nN) (hq : w1.heap[q]? = some (opO o)) (hF : FileMap w2 bN (nN + 1) (doOp d.now o)) (hg : w1.grownBy w2 (some bN)) (hn : n < 67108864) (ho : o.Ok 4096) :
    DiskIn w2 B p bD bN pv { d with now := doOp d.now o } (n + 1) nD (nN + 1) ∧ w2.heap[q]? = some (opO o) ∧ Fr [bN] w1 w2 := by
  have hf := Fr.of_grown1 hg
  have hnt : ∀ r ∈ [bN], ∀ t, w1.heap[r]? ≠ some (textO t) := by
    intro r hr t e; simp at hr; subst hr; exact h.now.ne_cells e rfl
  refine ⟨?_, (hf.block q (Array.getElem?_eq_some_iff.1 hq).1 (by simp; exact fun e => h.now.ne_cells hq e.symm)).trans hq, hf⟩
  refine { blk := (hf.block p (Array.getElem?_eq_some_iff.1 h.blk).1 (by simp; exact fun e => h.now.ne_cells h.blk e.symm)).trans h.blk, base := ⟨h.base.1, h.base.2.1, h.base.2.2.1, Nat.le_trans h.base.2.2.2 hf.size⟩, ne := h.ne, dur := h.dur.fr hf (by simp; exact h.ne) hnt, now := hF, pen := ownsRow_fr h.pen hf (fun g hgv => by simp; intro e; subst e; obtain ⟨c, hc⟩ := own_cells h.pen hgv; exact h.now.ne_cells hc rfl), hD := by have := h.hD; simp; omega, hN := by have := h.hN; omega, hn := by omega, leD := h.leD, leN := ?_, ops := h.ops }
  · have := doOp_le h.leN ho
    intro k t ht
    have := this k t ht
    omega
theorem Tryz.eqDD (w : World) : (binOp .eql 97 (.iface 32 (.int .i64 10)) (.iface 32 (.int .i64 10))).run Tryz.prog w = .ok (.bool true) w := by kernel_rfl
theorem Tryz.eqFD (w : World) : (binOp .eql 97 (.iface 32 (.int .i64 9)) (.iface 32 (.int .i64 10))).run Tryz.prog w = .ok (.bool false) w := by kernel_rfl
end Go.Proofs.YtejiankgafjppaaGreatDoor
/- CONTRACTS of the document's own answer: the sum, numbers as bytes. -/
namespace Go.Proofs.YtejiankgafjppaaGreatDoor
open Go.RowKit
open Sc

theorem and1 (X : Nat) (h : X < 4294967296) : bits .and .u32 (X : Int) 1 = ((X % 2 : Nat) : Int) := by
  have := u32_and_nat X 1 h (by omega)
  rw [Nat.and_one_is_mod] at this
  exact this
theorem xorP (X : Nat) (h : X < 4294967296) : bits .xor .u32 (X : Int) 3988292384 = ((X ^^^ 3988292384 : Nat) : Int) := u32_xor_nat X 3988292384 h (by omega)
theorem notU (X : Nat) (h : X < 4294967296) : bits .xor .u32 4294967295 (X : Int) = ((4294967295 ^^^ X : Nat) : Int) := u32_xor_nat 4294967295 X (by omega) h
theorem half_odd (X : Nat) (h : X % 2 = 1) : half X = X / 2 ^^^ 3988292384 := by unfold half; rw [if_pos h]
theorem half_even (X : Nat) (h : ¬ X % 2 = 1) : half X = X / 2 := by unfold half; rw [if_neg h]
theorem ret_int {k : IntKind} {a b : Int} (h : a = b) : Ending.returned (.int k a) = .returned (.int k b) := by rw [h]
theorem int_eq {k : IntKind} {a b : Int} (h : a = b) : Value.int k a = .int k b := by rw [h]

theorem digit_int (n k j : Nat) : ((n : Int) / 2 ^ (8 * (k - 1 - j)) % 256) = ((digit k n j : Nat) : Int) := by
  unfold digit
  rw [show (256 : Nat) ^ (k - 1 - j) = 2 ^ (8 * (k - 1 - j)) by rw [Nat.pow_mul]]
  simp
end Go.Proofs.YtejiankgafjppaaGreatDoor
/- NUMBERS AS BYTES in package wire: width, AppendNumber, takeNumber (made by mknum.py: one text an instance). -/
namespace Go.Proofs.YtejiankgafjppaaGreatDoor
open Go.RowKit
open Sc

/-- where what lies behind the first k bytes begins -/
def cutA (b off k cap : Nat) : Option Addr := if cap = k then some ⟨b, off, none⟩ else some ⟨b, off + k, none⟩
theorem cutA_far {b off k cap : Nat} (h : k < cap) : cutA b off k cap = some ⟨b, off + k, none⟩ := by unfold cutA; rw [if_neg (by omega)]
theorem cutA_end (b off k : Nat) : cutA b off k k = some ⟨b, off, none⟩ := by unfold cutA; rw [if_pos rfl]
theorem bs_snoc (xs : List Nat) (k n j : Nat) : bs (xs ++ (List.range (j + 1)).map (digit k n)) = bs (xs ++ (List.range j).map (digit k n)) ++ [.int .u8 ((digit k n j : Nat) : Int)] := by
  rw [List.range_succ, List.map_append, ← List.append_assoc, bs_app]; rfl

set_option maxRecDepth 100000 in
set_option maxHeartbeats 400000 in
theorem width_u16 (w : World) : Calls Tryz.prog 245 #[] w fun e w' => e = .returned (.int .i64 2) ∧ w' = w := by
  have hsg : IntKind.u16.signed = false := rfl
  have hb : bits .xor .u16 IntKind.u16.max 0 = 65535 := by decide +kernel
  go_enter Tryz.func245, Tryz.ntmps245
  go_wp2
  go_ret
  refine ⟨?_, rfl⟩
  kernel_rfl

set_option maxRecDepth 100000 in
set_option maxHeartbeats 400000 in
theorem app_u16 (base g k cap : Nat) (xs : List Nat) (n : Nat) (w : World) (hown : w.ownsRow base 5 1 (.slice (some ⟨g, 0, none⟩) k cap) k (bs xs)) (hr : k + 2 ≤ cap) (hn : n < 65536) :
    Calls Tryz.prog 182 #[.slice (some ⟨g, 0, none⟩) k cap, .int .u16 n] w fun e w' => e = .returned (.slice (some ⟨g, 0, none⟩) (k + 2) cap) ∧ w'.ownsRow base 5 1 (.slice (some ⟨g, 0, none⟩) (k + 2) cap) (k + 2) (bs (xs ++ be 2 n)) ∧ w.grownBy w' (some g) := by
  obtain ⟨i0, hi, hz0, hz1, hz2⟩ := info_parts Tryz.info5
  have HNN : Hid (n < 65536) := hn
  skip
  go_enter Tryz.func182, Tryz.ntmps182
  go_wp2_with (go_at_call 245; refine (width_u16 _).mono ?_; rintro e w' ⟨rfl, hw⟩; have hw2 := hw.symm; subst hw2; clear hw)
  go_loopw [0, 5] (fun v i wr => ∃ j : Nat, j ≤ 2 ∧ i = .int .i64 ((2 : Int) - 1 - j) ∧ v = .slice (some ⟨g, 0, none⟩) (k + j) cap ∧ wr.ownsRow base 5 1 (.slice (some ⟨g, 0, none⟩) (k + j) cap) (k + j) (bs (xs ++ (List.range j).map (digit 2 n))) ∧ w.grownBy wr (some g)) (fun _ i _ => (intOf i + 1).toNat)
  case atStart => exact ⟨0, Nat.zero_le _, by go_num, rfl, by simpa using hown, grown_refl _ _⟩
  case round =>
    obtain ⟨j, hj, rfl, rfl, hownr, hgr⟩ := hrel
    by_cases hlt : j < 2
    · have HD : Hid (((n : Int) / 2 ^ (8 * (1 - j)) % 256) = ((digit 2 n j : Nat) : Int)) := digit_int n 2 j
      skip
      skip
      go_wp2_with (at_builtin; refine wpList_append_fits _ rfl _ _ 164 rfl base 5 i0 1 Tryz.underlying164 hi hz1 g (k + j) cap _ rfl (hownr.alloc _) ⟨wr.heap.size, 0, none⟩ 1 1 [.int .u8 ((n : Int) / 2 ^ (8 * (1 - j)) % 256)] rfl rfl ?c1 ?c2 ?c3 ?_)
      case c1 =>
        intro jj u hjj
        match jj, hjj with
        | 0, hjj => simp at hjj; subst hjj; simp [Addr.add]
      case c2 => intro u hu; simp at hu; subst hu; rfl
      case c3 => omega
      · intro w1 hown' hgrow
        have hG1 : w.grownBy w1 (some g) := grown_trans hgr (grown_trans (grown_alloc _ _ _) hgrow)
        have hO1 : w1.ownsRow base 5 1 (.slice (some ⟨g, 0, none⟩) (k + (j + 1)) cap) (k + (j + 1)) (bs (xs ++ (List.range (j + 1)).map (digit 2 n))) := by
          rw [HD.out] at hown'
          rw [bs_snoc, ← Nat.add_assoc]
          exact hown'
        clear hown' hgrow hownr hgr
        go_wp2
        go_roundw
        case rel => exact ⟨j + 1, by omega, int_eq (by omega), rfl, hO1, hG1⟩
        case measure => simp [intOf] <;> omega
    · have ek : j = 2 := by omega
      subst ek
      go_wp2
      go_ret
      exact ⟨rfl, hownr, hgr⟩

theorem shl_u16 (C A : Nat) (hC : C < 72057594037927936) (ha : A < 256) : bits .or .u64 ((C : Int) * 256) (A : Int) = ((C * 256 + A : Nat) : Int) := by
  have h := u64_or_nat (C * 256) A (by omega) (by omega)
  rw [show ((C : Int) * 256) = ((C * 256 : Nat) : Int) by omega, h]
  congr 1
  rw [show C * 256 = C <<< 8 from (Nat.shiftLeft_eq C 8).symm, ← Nat.shiftLeft_add_eq_or_of_lt (show A < 2 ^ 8 from ha)]

set_option maxRecDepth 100000 in
set_option maxHeartbeats 400000 in
theorem take_u16 (b off n cap : Nat) (l : List Nat) (w : World) (hl : Byt l) (hn : l.length = n) (hw : 2 ≤ n) (hcap : n ≤ cap) (hcap2 : cap ≤ maxLen) (hc : RowAt w b off l) :
    Calls Tryz.prog 340 #[.slice (some ⟨b, off, none⟩) n cap] w fun e w' => e = .returned (.tuple #[.int .u16 (val (l.take 2) : Nat), .slice (cutA b off 2 cap) (n - 2) (cap - 2)]) ∧ ∃ q, w' = w.drewN q := by
  have HN : Hid (l.length = n) := hn
  clear hn
  unfold maxLen at hcap2
  have i1 : (2 : Int) ≤ (cap : Int) := by omega
  have i2 : (2 : Int) ≤ (n : Int) := by omega
  go_enter Tryz.func340, Tryz.ntmps340
  go_wp2_with (go_at_call 245; refine (width_u16 _).mono ?_; rintro e w' ⟨rfl, hw⟩; have hw2 := hw.symm; subst hw2; clear hw)
  go_loop [5, 13] (fun c i => ∃ k : Nat, k ≤ 2 ∧ i = .int .i64 k ∧ c = .int .u64 (val (l.take k) : Nat)) (fun _ i => 2 - (intOf i).toNat)
  case atStart => exact ⟨0, Nat.zero_le _, rfl, rfl⟩
  case round =>
    obtain ⟨k, hk, rfl, rfl⟩ := hrel
    by_cases hlt : k < 2
    · have hcx := hc k (by rw [HN.out]; omega)
      have HRow : Hid (RowAt w b off l) := hc
      clear hc
      have ha := at_lt hl k
      have hB : val (l.take k) < 72057594037927936 := by
        have h1 := val_lt (l.take k) (hl.take_ k)
        have h2 : (l.take k).length ≤ 7 := by rw [List.length_take, HN.out]; omega
        have h3 : 256 ^ (l.take k).length ≤ 256 ^ 7 := Nat.pow_le_pow_right (by omega) h2
        omega
      obtain ⟨C, hC⟩ : ∃ C, C = val (l.take k) := ⟨_, rfl⟩
      rw [← hC] at hB ⊢
      have HC : Hid (val (l.take (k + 1)) = C * 256 + at_ l k) := by
        show _ = _
        rw [take_at l k (by rw [HN.out]; omega), val_snoc, hC]
      clear hC
      have ho := shl_u16 C (at_ l k) hB ha
      go_wp2
      go_round
      case rel => exact ⟨k + 1, by omega, by go_num, by rw [HC.out]; exact int_eq (by omega)⟩
      case measure => simp [intOf]; omega
    · have ek : k = 2 := by omega
      subst ek
      have hB : val (l.take 2) < 65536 := by
        have h1 := val_lt (l.take 2) (hl.take_ 2)
        have h2 : (l.take 2).length = 2 := by rw [List.length_take, HN.out]; omega
        rw [h2] at h1
        exact h1
      by_cases hcw : cap = 2
      · subst hcw
        obtain rfl : n = 2 := by omega
        skip
        go_wp2
        go_quiet (fail)
        go_wp2
        go_ret2
        refine ⟨?_, _, rfl⟩
        rw [cutA_end]
        rfl
      · skip
        go_wp2
        go_quiet (fail)
        go_wp2
        go_ret2
        refine ⟨?_, _, rfl⟩
        rw [cutA_far (by omega)]
        rfl

set_option maxRecDepth 100000 in
set_option maxHeartbeats 400000 in
theorem width_u64 (w : World) : Calls Tryz.prog 246 #[] w fun e w' => e = .returned (.int .i64 8) ∧ w' = w := by
  have hsg : IntKind.u64.signed = false := rfl
  have hb : bits .xor .u64 IntKind.u64.max 0 = 18446744073709551615 := by decide +kernel
  go_enter Tryz.func246, Tryz.ntmps246
  go_wp2
  go_ret
  refine ⟨?_, rfl⟩
  kernel_rfl

set_option maxRecDepth 100000 in
set_option maxHeartbeats 400000 in
theorem app_u64 (base g k cap : Nat) (xs : List Nat) (n : Nat) (w : World) (hown : w.ownsRow base 5 1 (.slice (some ⟨g, 0, none⟩) k cap) k (bs xs)) (hr : k + 8 ≤ cap) (hn : n < 18446744073709551616) :
    Calls Tryz.prog 183 #[.slice (some ⟨g, 0, none⟩) k cap, .int .u64 n] w fun e w' => e = .returned (.slice (some ⟨g, 0, none⟩) (k + 8) cap) ∧ w'.ownsRow base 5 1 (.slice (some ⟨g, 0, none⟩) (k + 8) cap) (k + 8) (bs (xs ++ be 8 n)) ∧ w.grownBy w' (some g) := by
  obtain ⟨i0, hi, hz0, hz1, hz2⟩ := info_parts Tryz.info5
  have HNN : Hid (n < 18446744073709551616) := hn
  clear hn
  go_enter Tryz.func183, Tryz.ntmps183
  go_wp2_with (go_at_call 246; refine (width_u64 _).mono ?_; rintro e w' ⟨rfl, hw⟩; have hw2 := hw.symm; subst hw2; clear hw)
  go_loopw [0, 5] (fun v i wr => ∃ j : Nat, j ≤ 8 ∧ i = .int .i64 ((8 : Int) - 1 - j) ∧ v = .slice (some ⟨g, 0, none⟩) (k + j) cap ∧ wr.ownsRow base 5 1 (.slice (some ⟨g, 0, none⟩) (k + j) cap) (k + j) (bs (xs ++ (List.range j).map (digit 8 n))) ∧ w.grownBy wr (some g)) (fun _ i _ => (intOf i + 1).toNat)
  case atStart => exact ⟨0, Nat.zero_le _, by go_num, rfl, by simpa using hown, grown_refl _ _⟩
  case round =>
    obtain ⟨j, hj, rfl, rfl, hownr, hgr⟩ := hrel
    by_cases hlt : j < 8
    · have HD : Hid (((n : Int) / 2 ^ (8 * (7 - j)) % 256) = ((digit 8 n j : Nat) : Int)) := digit_int n 8 j
      skip
      skip
      go_wp2_with (at_builtin; refine wpList_append_fits _ rfl _ _ 164 rfl base 5 i0 1 Tryz.underlying164 hi hz1 g (k + j) cap _ rfl (hownr.alloc _) ⟨wr.heap.size, 0, none⟩ 1 1 [.int .u8 ((n : Int) / 2 ^ (8 * (7 - j)) % 256)] rfl rfl ?c1 ?c2 ?c3 ?_)
      case c1 =>
        intro jj u hjj
        match jj, hjj with
        | 0, hjj => simp at hjj; subst hjj; simp [Addr.add]
      case c2 => intro u hu; simp at hu; subst hu; rfl
      case c3 => omega
      · intro w1 hown' hgrow
        have hG1 : w.grownBy w1 (some g) := grown_trans hgr (grown_trans (grown_alloc _ _ _) hgrow)
        have hO1 : w1.ownsRow base 5 1 (.slice (some ⟨g, 0, none⟩) (k + (j + 1)) cap) (k + (j + 1)) (bs (xs ++ (List.range (j + 1)).map (digit 8 n))) := by
          rw [HD.out] at hown'
          rw [bs_snoc, ← Nat.add_assoc]
          exact hown'
        clear hown' hgrow hownr hgr
        go_wp2
        go_roundw
        case rel => exact ⟨j + 1, by omega, int_eq (by omega), rfl, hO1, hG1⟩
        case measure => simp [intOf] <;> omega
    · have ek : j = 8 := by omega
      subst ek
      go_wp2
      go_ret
      exact ⟨rfl, hownr, hgr⟩

theorem shl_u64 (C A : Nat) (hC : C < 72057594037927936) (ha : A < 256) : bits .or .u64 ((C : Int) * 256) (A : Int) = ((C * 256 + A : Nat) : Int) := by
  have h := u64_or_nat (C * 256) A (by omega) (by omega)
  rw [show ((C : Int) * 256) = ((C * 256 : Nat) : Int) by omega, h]
  congr 1
  rw [show C * 256 = C <<< 8 from (Nat.shiftLeft_eq C 8).symm, ← Nat.shiftLeft_add_eq_or_of_lt (show A < 2 ^ 8 from ha)]

set_option maxRecDepth 100000 in
set_option maxHeartbeats 400000 in
theorem take_u64 (b off n cap : Nat) (l : List Nat) (w : World) (hl : Byt l) (hn : l.length = n) (hw : 8 ≤ n) (hcap : n ≤ cap) (hcap2 : cap ≤ maxLen) (hc : RowAt w b off l) :
    Calls Tryz.prog 319 #[.slice (some ⟨b, off, none⟩) n cap] w fun e w' => e = .returned (.tuple #[.int .u64 (val (l.take 8) : Nat), .slice (cutA b off 8 cap) (n - 8) (cap - 8)]) ∧ ∃ q, w' = w.drewN q := by
  have HN : Hid (l.length = n) := hn
  clear hn
  unfold maxLen at hcap2
  have i1 : (8 : Int) ≤ (cap : Int) := by omega
  have i2 : (8 : Int) ≤ (n : Int) := by omega
  go_enter Tryz.func319, Tryz.ntmps319
  go_wp2_with (go_at_call 246; refine (width_u64 _).mono ?_; rintro e w' ⟨rfl, hw⟩; have hw2 := hw.symm; subst hw2; clear hw)
  go_loop [5, 13] (fun c i => ∃ k : Nat, k ≤ 8 ∧ i = .int .i64 k ∧ c = .int .u64 (val (l.take k) : Nat)) (fun _ i => 8 - (intOf i).toNat)
  case atStart => exact ⟨0, Nat.zero_le _, rfl, rfl⟩
  case round =>
    obtain ⟨k, hk, rfl, rfl⟩ := hrel
    by_cases hlt : k < 8
    · have hcx := hc k (by rw [HN.out]; omega)
      have HRow : Hid (RowAt w b off l) := hc
      clear hc
      have ha := at_lt hl k
      have hB : val (l.take k) < 72057594037927936 := by
        have h1 := val_lt (l.take k) (hl.take_ k)
        have h2 : (l.take k).length ≤ 7 := by rw [List.length_take, HN.out]; omega
        have h3 : 256 ^ (l.take k).length ≤ 256 ^ 7 := Nat.pow_le_pow_right (by omega) h2
        omega
      obtain ⟨C, hC⟩ : ∃ C, C = val (l.take k) := ⟨_, rfl⟩
      rw [← hC] at hB ⊢
      have HC : Hid (val (l.take (k + 1)) = C * 256 + at_ l k) := by
        show _ = _
        rw [take_at l k (by rw [HN.out]; omega), val_snoc, hC]
      clear hC
      have ho := shl_u64 C (at_ l k) hB ha
      go_wp2
      go_round
      case rel => exact ⟨k + 1, by omega, by go_num, by rw [HC.out]; exact int_eq (by omega)⟩
      case measure => simp [intOf]; omega
    · have ek : k = 8 := by omega
      subst ek
      have hB : val (l.take 8) < 18446744073709551616 := by
        have h1 := val_lt (l.take 8) (hl.take_ 8)
        have h2 : (l.take 8).length = 8 := by rw [List.length_take, HN.out]; omega
        rw [h2] at h1
        exact h1
      by_cases hcw : cap = 8
      · subst hcw
        obtain rfl : n = 8 := by omega
        clear hB
        go_wp2
        go_quiet (fail)
        go_wp2
        go_ret2
        refine ⟨?_, _, rfl⟩
        rw [cutA_end]
        rfl
      · clear hB
        go_wp2
        go_quiet (fail)
        go_wp2
        go_ret2
        refine ⟨?_, _, rfl⟩
        rw [cutA_far (by omega)]
        rfl

set_option maxRecDepth 100000 in
set_option maxHeartbeats 400000 in
theorem width_u8 (w : World) : Calls Tryz.prog 247 #[] w fun e w' => e = .returned (.int .i64 1) ∧ w' = w := by
  have hsg : IntKind.u8.signed = false := rfl
  have hb : bits .xor .u8 IntKind.u8.max 0 = 255 := by decide +kernel
  go_enter Tryz.func247, Tryz.ntmps247
  go_wp2
  go_ret
  refine ⟨?_, rfl⟩
  kernel_rfl

set_option maxRecDepth 100000 in
set_option maxHeartbeats 400000 in
theorem app_u8 (base g k cap : Nat) (xs : List Nat) (n : Nat) (w : World) (hown : w.ownsRow base 5 1 (.slice (some ⟨g, 0, none⟩) k cap) k (bs xs)) (hr : k + 1 ≤ cap) (hn : n < 256) :
    Calls Tryz.prog 184 #[.slice (some ⟨g, 0, none⟩) k cap, .int .u8 n] w fun e w' => e = .returned (.slice (some ⟨g, 0, none⟩) (k + 1) cap) ∧ w'.ownsRow base 5 1 (.slice (some ⟨g, 0, none⟩) (k + 1) cap) (k + 1) (bs (xs ++ be 1 n)) ∧ w.grownBy w' (some g) := by
  obtain ⟨i0, hi, hz0, hz1, hz2⟩ := info_parts Tryz.info5
  have HNN : Hid (n < 256) := hn
  skip
  go_enter Tryz.func184, Tryz.ntmps184
  go_wp2_with (go_at_call 247; refine (width_u8 _).mono ?_; rintro e w' ⟨rfl, hw⟩; have hw2 := hw.symm; subst hw2; clear hw)
  go_loopw [0, 5] (fun v i wr => ∃ j : Nat, j ≤ 1 ∧ i = .int .i64 ((1 : Int) - 1 - j) ∧ v = .slice (some ⟨g, 0, none⟩) (k + j) cap ∧ wr.ownsRow base 5 1 (.slice (some ⟨g, 0, none⟩) (k + j) cap) (k + j) (bs (xs ++ (List.range j).map (digit 1 n))) ∧ w.grownBy wr (some g)) (fun _ i _ => (intOf i + 1).toNat)
  case atStart => exact ⟨0, Nat.zero_le _, by go_num, rfl, by simpa using hown, grown_refl _ _⟩
  case round =>
    obtain ⟨j, hj, rfl, rfl, hownr, hgr⟩ := hrel
    by_cases hlt : j < 1
    · have HD : Hid ((n : Int) = ((digit 1 n 0 : Nat) : Int)) := by show _ = _; unfold digit; simp; omega
      obtain rfl : j = 0 := by omega
      rw [Nat.add_zero] at hownr
      go_wp2_with (at_builtin; refine wpList_append_fits _ rfl _ _ 164 rfl base 5 i0 1 Tryz.underlying164 hi hz1 g k cap _ rfl (hownr.alloc _) ⟨wr.heap.size, 0, none⟩ 1 1 [.int .u8 (n : Int)] rfl rfl ?c1 ?c2 ?c3 ?_)
      case c1 =>
        intro jj u hjj
        match jj, hjj with
        | 0, hjj => simp at hjj; subst hjj; simp [Addr.add]
      case c2 => intro u hu; simp at hu; subst hu; rfl
      case c3 => omega
      · intro w1 hown' hgrow
        have hG1 : w.grownBy w1 (some g) := grown_trans hgr (grown_trans (grown_alloc _ _ _) hgrow)
        have hO1 : w1.ownsRow base 5 1 (.slice (some ⟨g, 0, none⟩) (k + (0 + 1)) cap) (k + (0 + 1)) (bs (xs ++ (List.range (0 + 1)).map (digit 1 n))) := by
          have e := HD.out
          rw [bs_snoc, ← e]
          simpa using hown'
        clear hown' hgrow hownr hgr
        go_wp2
        go_roundw
        case rel => exact ⟨0 + 1, by omega, int_eq (by omega), rfl, hO1, hG1⟩
        case measure => simp [intOf] <;> omega
    · have ek : j = 1 := by omega
      subst ek
      go_wp2
      go_ret
      exact ⟨rfl, hownr, hgr⟩

theorem shl_u8 (C A : Nat) (hC : C < 72057594037927936) (ha : A < 256) : bits .or .u64 ((C : Int) * 256) (A : Int) = ((C * 256 + A : Nat) : Int) := by
  have h := u64_or_nat (C * 256) A (by omega) (by omega)
  rw [show ((C : Int) * 256) = ((C * 256 : Nat) : Int) by omega, h]
  congr 1
  rw [show C * 256 = C <<< 8 from (Nat.shiftLeft_eq C 8).symm, ← Nat.shiftLeft_add_eq_or_of_lt (show A < 2 ^ 8 from ha)]

set_option maxRecDepth 100000 in
set_option maxHeartbeats 400000 in
theorem take_u8 (b off n cap : Nat) (l : List Nat) (w : World) (hl : Byt l) (hn : l.length = n) (hw : 1 ≤ n) (hcap : n ≤ cap) (hcap2 : cap ≤ maxLen) (hc : RowAt w b off l) :
    Calls Tryz.prog 321 #[.slice (some ⟨b, off, none⟩) n cap] w fun e w' => e = .returned (.tuple #[.int .u8 (val (l.take 1) : Nat), .slice (cutA b off 1 cap) (n - 1) (cap - 1)]) ∧ ∃ q, w' = w.drewN q := by
  have HN : Hid (l.length = n) := hn
  clear hn
  unfold maxLen at hcap2
  have i1 : (1 : Int) ≤ (cap : Int) := by omega
  have i2 : (1 : Int) ≤ (n : Int) := by omega
  go_enter Tryz.func321, Tryz.ntmps321
  go_wp2_with (go_at_call 247; refine (width_u8 _).mono ?_; rintro e w' ⟨rfl, hw⟩; have hw2 := hw.symm; subst hw2; clear hw)
  go_loop [5, 13] (fun c i => ∃ k : Nat, k ≤ 1 ∧ i = .int .i64 k ∧ c = .int .u64 (val (l.take k) : Nat)) (fun _ i => 1 - (intOf i).toNat)
  case atStart => exact ⟨0, Nat.zero_le _, rfl, rfl⟩
  case round =>
    obtain ⟨k, hk, rfl, rfl⟩ := hrel
    by_cases hlt : k < 1
    · have hcx := hc k (by rw [HN.out]; omega)
      have HRow : Hid (RowAt w b off l) := hc
      clear hc
      have ha := at_lt hl k
      have hB : val (l.take k) < 72057594037927936 := by
        have h1 := val_lt (l.take k) (hl.take_ k)
        have h2 : (l.take k).length ≤ 7 := by rw [List.length_take, HN.out]; omega
        have h3 : 256 ^ (l.take k).length ≤ 256 ^ 7 := Nat.pow_le_pow_right (by omega) h2
        omega
      obtain ⟨C, hC⟩ : ∃ C, C = val (l.take k) := ⟨_, rfl⟩
      rw [← hC] at hB ⊢
      have HC : Hid (val (l.take (k + 1)) = C * 256 + at_ l k) := by
        show _ = _
        rw [take_at l k (by rw [HN.out]; omega), val_snoc, hC]
      clear hC
      have ho := shl_u8 C (at_ l k) hB ha
      go_wp2
      go_round
      case rel => exact ⟨k + 1, by omega, by go_num, by rw [HC.out]; exact int_eq (by omega)⟩
      case measure => simp [intOf]; omega
    · have ek : k = 1 := by omega
      subst ek
      have hB : val (l.take 1) < 256 := by
        have h1 := val_lt (l.take 1) (hl.take_ 1)
        have h2 : (l.take 1).length = 1 := by rw [List.length_take, HN.out]; omega
        rw [h2] at h1
        exact h1
      by_cases hcw : cap = 1
      · subst hcw
        obtain rfl : n = 1 := by omega
        skip
        go_wp2
        go_quiet (fail)
        go_wp2
        go_ret2
        refine ⟨?_, _, rfl⟩
        rw [cutA_end]
        rfl
      · skip
        go_wp2
        go_quiet (fail)
        go_wp2
        go_ret2
        refine ⟨?_, _, rfl⟩
        rw [cutA_far (by omega)]
        rfl

set_option maxRecDepth 100000 in
set_option maxHeartbeats 400000 in
theorem width_u32 (w : World) : Calls Tryz.prog 293 #[] w fun e w' => e = .returned (.int .i64 4) ∧ w' = w := by
  have hsg : IntKind.u32.signed = false := rfl
  have hb : bits .xor .u32 IntKind.u32.max 0 = 4294967295 := by decide +kernel
  go_enter Tryz.func293, Tryz.ntmps293
  go_wp2
  go_ret
  refine ⟨?_, rfl⟩
  kernel_rfl

set_option maxRecDepth 100000 in
set_option maxHeartbeats 400000 in
theorem app_u32 (base g k cap : Nat) (xs : List Nat) (n : Nat) (w : World) (hown : w.ownsRow base 5 1 (.slice (some ⟨g, 0, none⟩) k cap) k (bs xs)) (hr : k + 4 ≤ cap) (hn : n < 4294967296) :
    Calls Tryz.prog 248 #[.slice (some ⟨g, 0, none⟩) k cap, .int .u32 n] w fun e w' => e = .returned (.slice (some ⟨g, 0, none⟩) (k + 4) cap) ∧ w'.ownsRow base 5 1 (.slice (some ⟨g, 0, none⟩) (k + 4) cap) (k + 4) (bs (xs ++ be 4 n)) ∧ w.grownBy w' (some g) := by
  obtain ⟨i0, hi, hz0, hz1, hz2⟩ := info_parts Tryz.info5
  have HNN : Hid (n < 4294967296) := hn
  skip
  go_enter Tryz.func248, Tryz.ntmps248
  go_wp2_with (go_at_call 293; refine (width_u32 _).mono ?_; rintro e w' ⟨rfl, hw⟩; have hw2 := hw.symm; subst hw2; clear hw)
  go_loopw [0, 5] (fun v i wr => ∃ j : Nat, j ≤ 4 ∧ i = .int .i64 ((4 : Int) - 1 - j) ∧ v = .slice (some ⟨g, 0, none⟩) (k + j) cap ∧ wr.ownsRow base 5 1 (.slice (some ⟨g, 0, none⟩) (k + j) cap) (k + j) (bs (xs ++ (List.range j).map (digit 4 n))) ∧ w.grownBy wr (some g)) (fun _ i _ => (intOf i + 1).toNat)
  case atStart => exact ⟨0, Nat.zero_le _, by go_num, rfl, by simpa using hown, grown_refl _ _⟩
  case round =>
    obtain ⟨j, hj, rfl, rfl, hownr, hgr⟩ := hrel
    by_cases hlt : j < 4
    · have HD : Hid (((n : Int) / 2 ^ (8 * (3 - j)) % 256) = ((digit 4 n j : Nat) : Int)) := digit_int n 4 j
      skip
      skip
      go_wp2_with (at_builtin; refine wpList_append_fits _ rfl _ _ 164 rfl base 5 i0 1 Tryz.underlying164 hi hz1 g (k + j) cap _ rfl (hownr.alloc _) ⟨wr.heap.size, 0, none⟩ 1 1 [.int .u8 ((n : Int) / 2 ^ (8 * (3 - j)) % 256)] rfl rfl ?c1 ?c2 ?c3 ?_)
      case c1 =>
        intro jj u hjj
        match jj, hjj with
        | 0, hjj => simp at hjj; subst hjj; simp [Addr.add]
      case c2 => intro u hu; simp at hu; subst hu; rfl
      case c3 => omega
      · intro w1 hown' hgrow
        have hG1 : w.grownBy w1 (some g) := grown_trans hgr (grown_trans (grown_alloc _ _ _) hgrow)
        have hO1 : w1.ownsRow base 5 1 (.slice (some ⟨g, 0, none⟩) (k + (j + 1)) cap) (k + (j + 1)) (bs (xs ++ (List.range (j + 1)).map (digit 4 n))) := by
          rw [HD.out] at hown'
          rw [bs_snoc, ← Nat.add_assoc]
          exact hown'
        clear hown' hgrow hownr hgr
        go_wp2
        go_roundw
        case rel => exact ⟨j + 1, by omega, int_eq (by omega), rfl, hO1, hG1⟩
        case measure => simp [intOf] <;> omega
    · have ek : j = 4 := by omega
      subst ek
      go_wp2
      go_ret
      exact ⟨rfl, hownr, hgr⟩

end Go.Proofs.YtejiankgafjppaaGreatDoor
