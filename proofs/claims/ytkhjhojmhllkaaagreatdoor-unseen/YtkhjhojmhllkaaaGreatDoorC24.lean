import Derived.Test.YtkhjhojmhllkaaaGreatDoorC23
import Derived.Test.YtkhjhojmhllkaaaGreatDoorC14
import Derived.Deep.RegionHeld3
/- SHARDS: release, forget. -/
namespace Go.Proofs.YtkhjhojmhllkaaaGreatDoor
open Go.RowKit Go.Maps
open Sc

set_option maxRecDepth 100000 in
set_option maxHeartbeats 4000000 in
theorem release1_any (bs sp lg bV bT bH n tx : Nat) (k : ByteArray) (x : AGrip) (s : AShard) (w : World) (h : ShIn w sp lg bV bT bH n s) (hbs : w.heap[bs]? = some (.cells #[.pointer (some ⟨sp, 0, none⟩)] 72)) (htx : tx < 18446744073709551616) :
    Calls Tryz.prog 170 #[.agg #[.int .u64 (tx : Int), .string k], .agg #[.int .u8 (x.way : Int), .string x.val], .pointer (some ⟨bs, 0, none⟩)] w fun e w' => e = .returned (.bool (decide ((s.txn tx).state = 0))) ∧ Fr [] w w' := by
  have HI : Hid (ShIn w sp lg bV bT bH n s) := h
  have d0 := blk_cell hbs 0
  simp at d0
  have hbl : bs < w.heap.size := (Array.getElem?_eq_some_iff.1 hbs).1
  have z1 : ¬ bs = w.heap.size := by omega
  have z2 : ¬ bs = w.heap.size + 1 := by omega
  clear h hbs
  go_enter Tryz.func170, Tryz.ntmps170
  go_wp2_with fail
  refine (state_any sp lg bV bT bH n tx s _ (HI.out.fr (((Fr.refl [] w).alloc _).alloc _) (by simp) (by simp) (by simp) (by simp)) htx).mono ?_
  rintro e w1 ⟨rfl, q, rfl⟩
  go_wp2
  go_ret
  refine ⟨?_, frDrewN (((Fr.refl [] w).alloc _).alloc _) q⟩
  congr 2
  by_cases e : (s.txn tx).state = 0
  · simp [e]
  · simp [e]
/-- does a transaction that is known hold it? -/
def aliveH (s : AShard) (p : (Nat × ByteArray) × AGrip) : Bool := !decide ((s.txn p.1.1).state = 0)
set_option maxRecDepth 100000 in
set_option maxHeartbeats 4000000 in
theorem deleteH_any (bs sp lg bV bT bH n : Nat) (s : AShard) (w : World) (h : ShIn w sp lg bV bT bH n s) (hbs : w.heap[bs]? = some (.cells #[.pointer (some ⟨sp, 0, none⟩)] 72)) :
    Calls Tryz.prog 169 #[.map (some bH), .func (.func 170) #[] #[.pointer (some ⟨bs, 0, none⟩)]] w fun e w' => e = .returned (.tuple #[]) ∧ ShIn w' sp lg bV bT bH n { s with holds := s.holds.filter (aliveH s) } ∧ Fr [bH] w w' := by
  have HI : Hid (ShIn w sp lg bV bT bH n s) := h
  have HB : Hid (w.heap[bs]? = some (.cells #[.pointer (some ⟨sp, 0, none⟩)] 72)) := hbs
  have hbl : bs < w.heap.size := (Array.getElem?_eq_some_iff.1 hbs).1
  have hbH : bH < w.heap.size := h.lts.2.2.2.1
  have hne : bs ≠ bH := by rintro rfl; obtain ⟨es, c, e⟩ := h.holds.isMap; rw [hbs] at e; cases e
  clear h hbs
  go_enter Tryz.func169, Tryz.ntmps169
  go_wp2_with (first
    | (at_range; refine wpList_map_range (KR := KH) (ER := EG) rfl _ 139 146 rfl Tryz.underlying139 bH n s.holds rfl HI.out.holds ?_; intro w0 hrg0 hg0 hs0)
    | go_in)
  go_frame
  have HF0 : Hid (Fr [bH] w w0) := (Fr.of_grown hg0).mono (by simp)
  have HR0 : Hid (RangesAs KH EG w0 bH w.heap.size n (s.holds.filter fun _ => true) s.holds) := by
    have e : (s.holds.filter fun _ => true) = s.holds := List.filter_eq_self.2 (by simp)
    rw [e]; exact hrg0
  clear hrg0 hg0
  go_loopw [4] (fun _ wr => ∃ rem g, Hid (RangesAs KH EG wr bH w.heap.size n (s.holds.filter g) rem ∧ (∀ p ∈ s.holds, p ∉ rem → g p = aliveH s p) ∧ (∀ p ∈ rem, p ∈ s.holds) ∧ Fr [bH] w wr ∧ w.heap.size + 1 ≤ wr.heap.size)) (fun _ wr => wr.rangeLeft bH w.heap.size)
  case atStart => exact ⟨s.holds, fun _ => true, HR0.out, fun p h1 h2 => absurd h1 h2, fun p hp => hp, HF0.out, by omega⟩
  case round =>
    obtain ⟨rem, g, HX⟩ := hrel
    have hrg := HX.out.1
    go_wp2_with (first
      | (at_next; refine wpList_map_next (KR := KH) (ER := EG) rfl _ rfl bH w.heap.size n (s.holds.filter g) rem rfl hrg ?_ ?_)
      | go_in)
    · intro hnil
      go_wp2
      go_end0
      have e : s.holds.filter g = s.holds.filter (aliveH s) := List.filter_congr fun p hp => HX.out.2.1 p hp (by rw [hnil]; simp)
      refine ⟨rfl, ?_, HX.out.2.2.2.1⟩
      rw [← e]
      exact HI.out.setHolds HX.out.2.2.2.1 HX.out.1.owns (Nat.le_refl _)
    · intro tx k2 x w2 hm hrg2 hlt hg2 hs2 hen
      have hms : ((tx, k2), x) ∈ s.holds := HX.out.2.2.1 _ hm
      have hok : tx < 18446744073709551616 ∧ k2.size ≤ maxLen := by
        obtain ⟨_, _, _, _, hok⟩ := HI.out.holds
        exact (hok _ hms).1
      have HLT : Hid (w2.rangeLeft bH w.heap.size < wr.rangeLeft bH w.heap.size) := hlt
      have HRG2 : Hid (RangesAs KH EG w2 bH w.heap.size n (s.holds.filter g) (alDel rem (tx, k2))) := hrg2
      have HF2 : Hid (Fr [bH] w w2) := HX.out.2.2.2.1.andThen (Fr.of_grown1 hg2) (fun j hj hl => by simp at hj; omega)
      have hsz2 : w.heap.size + 1 ≤ w2.heap.size := by have := HX.out.2.2.2.2; omega
      have hen' : (Instr.entry (.pointer (some ⟨w.heap.size, 0, none⟩))).run Tryz.prog w2 = .ok (.tuple #[.agg #[.int .u64 (tx : Int), .string k2], .agg #[.int .u8 (x.way : Int), .string x.val]]) w2 := hen
      have HIN2 : Hid (ShIn w2 sp lg bV bT bH n { s with holds := s.holds.filter g }) := HI.out.setHolds HF2.out HRG2.out.owns (Nat.le_refl _)
      have HB2 : Hid (w2.heap[bs]? = some (.cells #[.pointer (some ⟨sp, 0, none⟩)] 72)) := (HF2.out.block bs hbl (by simp; exact hne)).trans HB.out
      have HONE : Hid (Once1 s.holds) := by obtain ⟨_, _, _, h3, _⟩ := HI.out.holds; exact h3
      have HMM : Hid (((tx, k2), x) ∈ rem ∧ ((tx, k2), x) ∈ s.holds) := ⟨hm, hms⟩
      have HG : Hid (g ((tx, k2), x) = true) := by
        obtain ⟨_, _, _, _, _, _, _, _, h6, _⟩ := hrg
        exact (List.mem_filter.1 (h6 _ hm)).2
      clear hrg hrg2 hm hms hen hg2 hs2 hlt
      go_wp2_with fail
      refine (release1_any bs sp lg bV bT bH n tx k2 x { s with holds := s.holds.filter g } _ (HIN2.out.fr (((Fr.refl [] w2).alloc _).alloc _) (by simp) (by simp) (by simp) (by simp)) (((((Fr.refl [] w2).alloc _).alloc _).block bs (by omega) (by simp)).trans HB2.out) hok.1).mono ?_
      rintro e w3 ⟨rfl, hf3'⟩
      have HF3 : Hid (Fr [] w2 w3) := (((Fr.refl [] w2).alloc _).alloc _).trans hf3'
      have hbx : w3.heap[w2.heap.size]? = some (.cells #[.int .u64 (tx : Int), .string k2] 148) := by
        rw [hf3'.block w2.heap.size (by simp; omega) (by simp), ((Fr.refl [] (w2.alloc (.cells #[.int .u64 (tx : Int), .string k2] 148))).alloc _).block w2.heap.size (by simp) (by simp)]
        exact heap_alloc_new _ _
      have k0 := blk_cell hbx 0
      have k1 := blk_cell hbx 1
      simp at k0 k1
      clear hf3' hbx
      have HAL : Hid (aliveH s ((tx, k2), x) = !decide ((s.txn tx).state = 0)) := rfl
      have HSZ : Hid (w.heap.size + 1 ≤ w3.heap.size) := Nat.le_trans hsz2 HF3.out.size
      have hst : ({ s with holds := s.holds.filter g } : AShard).txn tx = s.txn tx := rfl
      rw [hst]
      clear hst
      obtain ⟨r1, r2⟩ := HRG2.out.fr HF3.out (by simp) (by simp)
      have HR3 : Hid (RangesAs KH EG w3 bH w.heap.size n (s.holds.filter g) (alDel rem (tx, k2)) ∧ w3.rangeLeft bH w.heap.size < wr.rangeLeft bH w.heap.size) := ⟨r1, by rw [r2]; exact HLT.out⟩
      have HWF : Hid (Fr [bH] w w3) := HF2.out.trans (HF3.out.mono (by simp))
      have HREM : Hid (∀ p ∈ alDel rem (tx, k2), p ∈ s.holds) := fun p hp => HX.out.2.2.1 p (List.mem_filter.1 hp).1
      have HOLD : Hid (∀ p ∈ s.holds, p ∉ alDel rem (tx, k2) → p = ((tx, k2), x) ∨ p ∉ rem) := fun p hp hn => by
        by_cases hpr : p ∈ rem
        · have hpo : p.1 = (tx, k2) := Decidable.byContradiction fun hne => hn (List.mem_filter.2 ⟨hpr, by simp [hne]⟩)
          exact .inl (HONE.out.same hp HMM.out.2 hpo)
        · exact .inr hpr
      clear r1 r2
      by_cases hz : (s.txn tx).state = 0
      · have hd : decide ((s.txn tx).state = 0) = true := by simp [hz]
        rw [hd] at HAL ⊢
        clear hz hd
        go_wp2_with (first
          | (at_delete; refine wpList_map_ddel (KR := KH) (ER := EG) rfl _ _ 139 146 rfl Tryz.underlying139 bH w.heap.size n (s.holds.filter g) (alDel rem (tx, k2)) rfl HR3.out.1 (tx, k2) hok rfl ?_; intro w4 hr4 hl4 hg4)
          | go_in)
        go_frame
        go_wp2
        have hf4 : Fr [bH] w3 w4 := Fr.of_grown1 hg4
        have e4 : alDel (s.holds.filter g) (tx, k2) = s.holds.filter fun p => !decide (p.1 = (tx, k2)) && g p := List.filter_filter ..
        rw [e4] at hr4
        go_roundw
        case rel =>
          refine ⟨alDel (alDel rem (tx, k2)) (tx, k2), fun p => !decide (p.1 = (tx, k2)) && g p, hr4, fun p hp hn => ?_, fun p hp => HREM.out p (List.mem_filter.1 hp).1, HWF.out.trans hf4, Nat.le_trans HSZ.out hf4.size⟩
          have hn2 : p ∉ alDel rem (tx, k2) := fun hm => hn (List.mem_filter.2 ⟨hm, (List.mem_filter.1 hm).2⟩)
          rcases HOLD.out p hp hn2 with rfl | hnr
          · rw [HAL.out]; simp
          · have hpk : ¬ p.1 = (tx, k2) := fun e => hnr (by rw [HONE.out.same hp HMM.out.2 e]; exact HMM.out.1)
            rw [← HX.out.2.1 p hp hnr]
            simp [hpk]
        case measure => exact Nat.lt_of_le_of_lt hl4 HR3.out.2
      · have hd : decide ((s.txn tx).state = 0) = false := by simp [hz]
        rw [hd] at HAL ⊢
        clear hz hd
        go_wp2
        refine ⟨⟨alDel rem (tx, k2), g, HR3.out.1, fun p hp hn => ?_, HREM.out, HWF.out, HSZ.out⟩, HR3.out.2⟩
        rcases HOLD.out p hp hn with rfl | hnr
        · rw [HG.out, HAL.out]; rfl
        · exact HX.out.2.1 p hp hnr
end Go.Proofs.YtkhjhojmhllkaaaGreatDoor
/- SHARDS: release, forget. -/
namespace Go.Proofs.YtkhjhojmhllkaaaGreatDoor
open Go.RowKit Go.Maps
open Sc

def AShard.release (s : AShard) : AShard := { s with holds := s.holds.filter (aliveH s) }
def AShard.forget (s : AShard) (t : Nat) : AShard := AShard.release { s with txns := alDel s.txns t }
theorem ShIn.setTxns {w w' : World} {sp lg bV bT bH n m : Nat} {s : AShard} {ts : List (Nat × ATxn)} (h : ShIn w sp lg bV bT bH n s) (hf : Fr [bT] w w') (hm : MapAs KU ET w' bT m ts) (hn : n ≤ m) : ShIn w' sp lg bV bT bH m { s with txns := ts } :=
  { blk := (hf.block sp h.lts.1 (by simp; exact h.lts.2.2.2.2.2.1)).trans h.blk
    vals := (h.vals.fr hf (by simp; exact h.ne.1)).mono hn
    txns := hm
    holds := (h.holds.fr hf (by simp; exact fun e => h.ne.2.2 e.symm)).mono hn
    ne := h.ne
    ticks := h.ticks }
set_option maxRecDepth 100000 in
set_option maxHeartbeats 4000000 in
theorem release_any (sp lg bV bT bH n : Nat) (s : AShard) (w : World) (h : ShIn w sp lg bV bT bH n s) :
    Calls Tryz.prog 117 #[.pointer (some ⟨sp, 0, none⟩)] w fun e w' => e = .returned (.tuple #[]) ∧ ShIn w' sp lg bV bT bH n s.release ∧ Fr [bH] w w' := by
  have HI : Hid (ShIn w sp lg bV bT bH n s) := h
  have c3 := blk_cell h.blk 3
  simp at c3
  have hsp := h.lts.1
  have z1 : ¬ sp = w.heap.size := by omega
  have z2 : ¬ w.heap.size = sp := by omega
  clear h
  go_enter Tryz.func117, Tryz.ntmps117
  go_wp2_with fail
  refine (deleteH_any w.heap.size sp lg bV bT bH n s _ (HI.out.fr ((Fr.refl [] w).alloc _) (by simp) (by simp) (by simp) (by simp)) (heap_alloc_new _ _)).mono ?_
  rintro e w1 ⟨rfl, hs1, hf1⟩
  have HS1 : Hid (ShIn w1 sp lg bV bT bH n s.release) := hs1
  clear hs1
  go_wp2
  go_end0
  exact ⟨rfl, HS1.out, ((Fr.refl [bH] w).alloc _).trans hf1⟩
set_option maxRecDepth 100000 in
set_option maxHeartbeats 4000000 in
theorem forget_any (sp lg bV bT bH n t : Nat) (s : AShard) (w : World) (h : ShIn w sp lg bV bT bH n s) (ht : t < 18446744073709551616) :
    Calls Tryz.prog 79 #[.pointer (some ⟨sp, 0, none⟩), .int .u64 (t : Int)] w fun e w' => e = .returned (.tuple #[]) ∧ ShIn w' sp lg bV bT bH n (s.forget t) ∧ Fr [bT, bH] w w' := by
  have HI : Hid (ShIn w sp lg bV bT bH n s) := h
  have c2 := blk_cell h.blk 2
  simp at c2
  clear h
  go_enter Tryz.func79, Tryz.ntmps79
  go_wp2_with (first
    | (at_delete; refine wpList_map_del (KR := KU) (ER := ET) rfl _ _ 138 153 rfl Tryz.underlying138 bT n s.txns rfl HI.out.txns t ht rfl ?_; intro w1 hm1 hg1)
    | fail)
  have hin1 := HI.out.setTxns (Fr.of_grown1 hg1) hm1 (Nat.le_refl _)
  have hr := release_any sp lg bV bT bH n _ w1 hin1
  have HF1 : Hid (Fr [bT] w w1) := Fr.of_grown1 hg1
  clear hin1 hm1 hg1 c2
  go_wp2_with fail
  refine hr.mono ?_
  rintro e w2 ⟨rfl, hs2, hf2⟩
  have HS2 : Hid (ShIn w2 sp lg bV bT bH n (s.forget t)) := hs2
  clear hs2
  go_wp2
  go_end0
  exact ⟨rfl, HS2.out, (HF1.out.mono (by intro k _ hk; simp at hk; simp [hk])).trans (hf2.mono (by intro k _ hk; simp at hk; simp [hk]))⟩
end Go.Proofs.YtkhjhojmhllkaaaGreatDoor
/- SHARDS: Tick. -/
namespace Go.Proofs.YtkhjhojmhllkaaaGreatDoor
open Go.RowKit Go.Maps
open Sc

/-- nobody goes on with it -/
def idleT (s : AShard) (x : ATxn) : Bool := !decide (x.state = 3) && decide ((16 : Int) ≤ IntKind.u64.wrap ((s.ticks : Int) - (x.last : Int)))
def busyT (s : AShard) (p : Nat × ATxn) : Bool := !idleT s p.2
set_option maxRecDepth 100000 in
set_option maxHeartbeats 4000000 in
theorem tick1_any (bs sp lg bV bT bH n tx : Nat) (x : ATxn) (s : AShard) (w : World) (h : ShIn w sp lg bV bT bH n s) (hbs : w.heap[bs]? = some (.cells #[.pointer (some ⟨sp, 0, none⟩)] 72)) :
    Calls Tryz.prog 157 #[.int .u64 (tx : Int), .agg #[.int .i64 (x.state : Int), .int .i64 (x.done : Int), .int .u64 (x.last : Int)], .pointer (some ⟨bs, 0, none⟩)] w fun e w' => e = .returned (.bool (idleT s x)) ∧ Fr [] w w' := by
  have d0 := blk_cell hbs 0
  have c4 := blk_cell h.blk 4
  simp at d0 c4
  have hbl : bs < w.heap.size := (Array.getElem?_eq_some_iff.1 hbs).1
  have hsp := h.lts.1
  have z1 : ¬ bs = w.heap.size := by omega
  have z2 : ¬ sp = w.heap.size := by omega
  clear h hbs
  by_cases h3 : x.state = 3
  · have hb : ((x.state : Int) != 3) = false := by simp [h3]
    have hI : idleT s x = false := by simp [idleT, h3]
    rw [hI]
    clear h3 hI
    go_enter Tryz.func157, Tryz.ntmps157
    go_wp2
    go_quiet (fail)
    go_wp2
    go_ret
    exact ⟨rfl, frDrewN ((Fr.refl [] w).alloc _) _⟩
  · have hb : ((x.state : Int) != 3) = true := by simp; omega
    have hI : idleT s x = decide ((16 : Int) ≤ IntKind.u64.wrap ((s.ticks : Int) - (x.last : Int))) := by simp [idleT, h3]
    rw [hI]
    clear h3 hI
    go_enter Tryz.func157, Tryz.ntmps157
    go_wp2
    go_quiet (fail)
    go_wp2
    go_ret
    exact ⟨rfl, frDrewN ((Fr.refl [] w).alloc _) _⟩
set_option maxRecDepth 100000 in
set_option maxHeartbeats 4000000 in
theorem deleteT_any (bs sp lg bV bT bH n : Nat) (s : AShard) (w : World) (h : ShIn w sp lg bV bT bH n s) (hbs : w.heap[bs]? = some (.cells #[.pointer (some ⟨sp, 0, none⟩)] 72)) :
    Calls Tryz.prog 156 #[.map (some bT), .func (.func 157) #[] #[.pointer (some ⟨bs, 0, none⟩)]] w fun e w' => e = .returned (.tuple #[]) ∧ ShIn w' sp lg bV bT bH n { s with txns := s.txns.filter (busyT s) } ∧ Fr [bT] w w' := by
  have HI : Hid (ShIn w sp lg bV bT bH n s) := h
  have HB : Hid (w.heap[bs]? = some (.cells #[.pointer (some ⟨sp, 0, none⟩)] 72)) := hbs
  have hbl : bs < w.heap.size := (Array.getElem?_eq_some_iff.1 hbs).1
  have hbT2 : bT < w.heap.size := h.lts.2.2.1
  have hne : bs ≠ bT := by rintro rfl; obtain ⟨es, c, e⟩ := h.txns.isMap; rw [hbs] at e; cases e
  clear h hbs
  go_enter Tryz.func156, Tryz.ntmps156
  go_wp2_with (first
    | (at_range; refine wpList_map_range (KR := KU) (ER := ET) rfl _ 138 153 rfl Tryz.underlying138 bT n s.txns rfl HI.out.txns ?_; intro w0 hrg0 hg0 hs0)
    | go_in)
  go_frame
  have HF0 : Hid (Fr [bT] w w0) := (Fr.of_grown hg0).mono (by simp)
  have HR0 : Hid (RangesAs KU ET w0 bT w.heap.size n (s.txns.filter fun _ => true) s.txns) := by
    have e : (s.txns.filter fun _ => true) = s.txns := List.filter_eq_self.2 (by simp)
    rw [e]; exact hrg0
  clear hrg0 hg0
  go_loopw [4] (fun _ wr => ∃ rem g, Hid (RangesAs KU ET wr bT w.heap.size n (s.txns.filter g) rem ∧ (∀ p ∈ s.txns, p ∉ rem → g p = busyT s p) ∧ (∀ p ∈ rem, p ∈ s.txns) ∧ Fr [bT] w wr ∧ w.heap.size + 1 ≤ wr.heap.size)) (fun _ wr => wr.rangeLeft bT w.heap.size)
  case atStart => exact ⟨s.txns, fun _ => true, HR0.out, fun p h1 h2 => absurd h1 h2, fun p hp => hp, HF0.out, by omega⟩
  case round =>
    obtain ⟨rem, g, HX⟩ := hrel
    have hrg := HX.out.1
    go_wp2_with (first
      | (at_next; refine wpList_map_next (KR := KU) (ER := ET) rfl _ rfl bT w.heap.size n (s.txns.filter g) rem rfl hrg ?_ ?_)
      | go_in)
    · intro hnil
      go_wp2
      go_end0
      have e : s.txns.filter g = s.txns.filter (busyT s) := List.filter_congr fun p hp => HX.out.2.1 p hp (by rw [hnil]; simp)
      refine ⟨rfl, ?_, HX.out.2.2.2.1⟩
      rw [← e]
      exact HI.out.setTxns HX.out.2.2.2.1 HX.out.1.owns (Nat.le_refl _)
    · intro tx x w2 hm hrg2 hlt hg2 hs2 hen
      have hms : (tx, x) ∈ s.txns := HX.out.2.2.1 _ hm
      have hok : tx < 18446744073709551616 := by
        obtain ⟨_, _, _, _, hok⟩ := HI.out.txns
        exact (hok _ hms).1
      have HLT : Hid (w2.rangeLeft bT w.heap.size < wr.rangeLeft bT w.heap.size) := hlt
      have HRG2 : Hid (RangesAs KU ET w2 bT w.heap.size n (s.txns.filter g) (alDel rem tx)) := hrg2
      have HF2 : Hid (Fr [bT] w w2) := HX.out.2.2.2.1.andThen (Fr.of_grown1 hg2) (fun j hj hl => by simp at hj; omega)
      have hsz2 : w.heap.size + 1 ≤ w2.heap.size := by have := HX.out.2.2.2.2; omega
      have hen' : (Instr.entry (.pointer (some ⟨w.heap.size, 0, none⟩))).run Tryz.prog w2 = .ok (.tuple #[.int .u64 (tx : Int), .agg #[.int .i64 (x.state : Int), .int .i64 (x.done : Int), .int .u64 (x.last : Int)]]) w2 := hen
      have HIN2 : Hid (ShIn w2 sp lg bV bT bH n { s with txns := s.txns.filter g }) := HI.out.setTxns HF2.out HRG2.out.owns (Nat.le_refl _)
      have HB2 : Hid (w2.heap[bs]? = some (.cells #[.pointer (some ⟨sp, 0, none⟩)] 72)) := (HF2.out.block bs hbl (by simp; exact hne)).trans HB.out
      have HONE : Hid (Once1 s.txns) := by obtain ⟨_, _, _, h3, _⟩ := HI.out.txns; exact h3
      have HMM : Hid ((tx, x) ∈ rem ∧ (tx, x) ∈ s.txns) := ⟨hm, hms⟩
      have HG : Hid (g (tx, x) = true) := by
        obtain ⟨_, _, _, _, _, _, _, _, h6, _⟩ := hrg
        exact (List.mem_filter.1 (h6 _ hm)).2
      clear hrg hrg2 hm hms hen hg2 hs2 hlt
      go_wp2_with fail
      refine (tick1_any bs sp lg bV bT bH n tx x { s with txns := s.txns.filter g } _ (HIN2.out.fr ((Fr.refl [] w2).alloc _) (by simp) (by simp) (by simp) (by simp)) ((((Fr.refl [] w2).alloc _).block bs (by omega) (by simp)).trans HB2.out)).mono ?_
      rintro e w3 ⟨rfl, hf3'⟩
      have HF3 : Hid (Fr [] w2 w3) := ((Fr.refl [] w2).alloc _).trans hf3'
      clear hf3'
      have HAL : Hid (busyT s (tx, x) = !idleT s x) := rfl
      have HSZ : Hid (w.heap.size + 1 ≤ w3.heap.size) := Nat.le_trans hsz2 HF3.out.size
      have hst : idleT { s with txns := s.txns.filter g } x = idleT s x := rfl
      rw [hst]
      clear hst
      obtain ⟨r1, r2⟩ := HRG2.out.fr HF3.out (by simp) (by simp)
      have HR3 : Hid (RangesAs KU ET w3 bT w.heap.size n (s.txns.filter g) (alDel rem tx) ∧ w3.rangeLeft bT w.heap.size < wr.rangeLeft bT w.heap.size) := ⟨r1, by rw [r2]; exact HLT.out⟩
      have HWF : Hid (Fr [bT] w w3) := HF2.out.trans (HF3.out.mono (by simp))
      have HREM : Hid (∀ p ∈ alDel rem tx, p ∈ s.txns) := fun p hp => HX.out.2.2.1 p (List.mem_filter.1 hp).1
      have HOLD : Hid (∀ p ∈ s.txns, p ∉ alDel rem tx → p = (tx, x) ∨ p ∉ rem) := fun p hp hn => by
        by_cases hpr : p ∈ rem
        · have hpo : p.1 = tx := Decidable.byContradiction fun hne => hn (List.mem_filter.2 ⟨hpr, by simp [hne]⟩)
          exact .inl (HONE.out.same hp HMM.out.2 hpo)
        · exact .inr hpr
      clear r1 r2
      cases hd : idleT s x with
      | true =>
        rw [hd] at HAL
        clear hd
        go_wp2_with (first
          | (at_delete; refine wpList_map_ddel (KR := KU) (ER := ET) rfl _ _ 138 153 rfl Tryz.underlying138 bT w.heap.size n (s.txns.filter g) (alDel rem tx) rfl HR3.out.1 tx hok rfl ?_; intro w4 hr4 hl4 hg4)
          | go_in)
        go_frame
        go_wp2
        have hf4 : Fr [bT] w3 w4 := Fr.of_grown1 hg4
        have e4 : alDel (s.txns.filter g) tx = s.txns.filter fun p => !decide (p.1 = tx) && g p := List.filter_filter ..
        rw [e4] at hr4
        go_roundw
        case rel =>
          refine ⟨alDel (alDel rem tx) tx, fun p => !decide (p.1 = tx) && g p, hr4, fun p hp hn => ?_, fun p hp => HREM.out p (List.mem_filter.1 hp).1, HWF.out.trans hf4, Nat.le_trans HSZ.out hf4.size⟩
          have hn2 : p ∉ alDel rem tx := fun hm => hn (List.mem_filter.2 ⟨hm, (List.mem_filter.1 hm).2⟩)
          rcases HOLD.out p hp hn2 with rfl | hnr
          · rw [HAL.out]; simp
          · have hpk : ¬ p.1 = tx := fun e => hnr (by rw [HONE.out.same hp HMM.out.2 e]; exact HMM.out.1)
            rw [← HX.out.2.1 p hp hnr]
            simp [hpk]
        case measure => exact Nat.lt_of_le_of_lt hl4 HR3.out.2
      | false =>
        rw [hd] at HAL
        clear hd
        go_wp2
        refine ⟨⟨alDel rem tx, g, HR3.out.1, fun p hp hn => ?_, HREM.out, HWF.out, HSZ.out⟩, HR3.out.2⟩
        rcases HOLD.out p hp hn with rfl | hnr
        · rw [HG.out, HAL.out]; rfl
        · exact HX.out.2.1 p hp hnr
/-- a Tick goes by -/
def AShard.tick (s : AShard) : AShard :=
  let s1 : AShard := { s with ticks := s.ticks + 1 }
  AShard.release { s1 with txns := s1.txns.filter (busyT s1) }
end Go.Proofs.YtkhjhojmhllkaaaGreatDoor
/- SHARDS: Tick. -/
namespace Go.Proofs.YtkhjhojmhllkaaaGreatDoor
open Go.RowKit Go.Maps
open Sc

theorem ShIn.ticked {w : World} {sp lg bV bT bH n : Nat} {s : AShard} (h : ShIn w sp lg bV bT bH n s) (ht : s.ticks + 1 < 18446744073709551616) : ShIn (w.setCell ⟨sp, 4, none⟩ (.int .u64 ((s.ticks : Int) + 1))) sp lg bV bT bH n { s with ticks := s.ticks + 1 } := by
  have hf : Fr [sp] w (w.setCell ⟨sp, 4, none⟩ (.int .u64 ((s.ticks : Int) + 1))) := Fr.set1 (by simp) _ _
  obtain ⟨_, _, _, _, h1, h2, h3⟩ := h.lts
  refine { blk := ?_, vals := h.vals.fr hf (by simp; exact fun e => h1 e.symm), txns := h.txns.fr hf (by simp; exact fun e => h2 e.symm), holds := h.holds.fr hf (by simp; exact fun e => h3 e.symm), ne := h.ne, ticks := ht }
  have := blk_set h.blk 4 (.int .u64 ((s.ticks : Int) + 1))
  simp at this
  exact this
set_option maxRecDepth 100000 in
set_option maxHeartbeats 4000000 in
theorem tick_any (sp lg bV bT bH n : Nat) (s : AShard) (w : World) (h : ShIn w sp lg bV bT bH n s) (ht : s.ticks + 1 < 18446744073709551616) :
    Calls Tryz.prog 108 #[.pointer (some ⟨sp, 0, none⟩)] w fun e w' => e = .returned (.tuple #[]) ∧ ShIn w' sp lg bV bT bH n s.tick ∧ Fr [sp, bT, bH] w w' := by
  have HI : Hid (ShIn w sp lg bV bT bH n s) := h
  have c2 := blk_cell h.blk 2
  have c4 := blk_cell h.blk 4
  have f4 := blk_free h.blk 4
  simp at c2 c4
  have hsp := h.lts.1
  have z1 : ¬ sp = w.heap.size := by omega
  have z2 : ¬ w.heap.size = sp := by omega
  have j1 : IntKind.u64.wrap ((s.ticks : Int) + 1) = (s.ticks : Int) + 1 := by rw [IntKind.wrap_u64]; omega
  clear h
  go_enter Tryz.func108, Tryz.ntmps108
  go_wp2_with fail
  have hss : (w.setCell ⟨sp, 4, none⟩ (.int .u64 ((s.ticks : Int) + 1))).heap.size = w.heap.size := by simp
  have hbs := heap_alloc_new (w.setCell ⟨sp, 4, none⟩ (.int .u64 ((s.ticks : Int) + 1))) (.cells #[.pointer (some ⟨sp, 0, none⟩)] 72)
  rw [hss] at hbs
  have hbT := HI.out.lts.2.2.1
  refine (deleteT_any w.heap.size sp lg bV bT bH n { s with ticks := s.ticks + 1 } _ ((HI.out.ticked ht).fr ((Fr.refl [] _).alloc _) (by simp) (by simp) (by simp) (by simp)) hbs).mono ?_
  rintro e w1 ⟨rfl, hs1, hf1⟩
  have HF1 : Hid (Fr [sp, bT, bH] w w1) := ((Fr.set1 (S := [sp, bT, bH]) (w := w) (p := sp) (by simp) 4 (.int .u64 ((s.ticks : Int) + 1))).alloc _).trans (hf1.mono (by intro k _ hk; simp at hk; simp [hk]))
  have hb1 : w1.heap[w.heap.size]? = some (.cells #[.pointer (some ⟨sp, 0, none⟩)] 72) := (hf1.block w.heap.size (by simp) (by simp; omega)).trans hbs
  have k0 := blk_cell hb1 0
  simp at k0
  have hr := release_any sp lg bV bT bH n _ w1 hs1
  clear hs1 hf1 hb1 hbs hss
  go_wp2_with fail
  refine hr.mono ?_
  rintro e w2 ⟨rfl, hs2, hf2⟩
  have HS2 : Hid (ShIn w2 sp lg bV bT bH n s.tick) := hs2
  clear hs2 hr
  go_wp2
  go_end0
  exact ⟨rfl, HS2.out, HF1.out.trans (hf2.mono (by intro k _ hk; simp at hk; simp [hk]))⟩
end Go.Proofs.YtkhjhojmhllkaaaGreatDoor
/- SHARDS: apply. -/
namespace Go.Proofs.YtkhjhojmhllkaaaGreatDoor
open Go.RowKit Go.Maps
open Sc

theorem ShIn.setVals {w w' : World} {sp lg bV bT bH n m : Nat} {s : AShard} {vs : List (ByteArray × ByteArray)} (h : ShIn w sp lg bV bT bH n s) (hf : Fr [bV] w w') (hm : MapAs KS ES w' bV m vs) (hn : n ≤ m) : ShIn w' sp lg bV bT bH m { s with vals := vs } :=
  { blk := (hf.block sp h.lts.1 (by simp; exact h.lts.2.2.2.2.1)).trans h.blk
    vals := hm
    txns := (h.txns.fr hf (by simp; exact fun e => h.ne.1 e.symm)).mono hn
    holds := (h.holds.fr hf (by simp; exact fun e => h.ne.2.1 e.symm)).mono hn
    ne := h.ne
    ticks := h.ticks }
/-- m[k] = v, as an equation on the run -/
theorem MapAs.putRun {K V : Type} [DecidableEq K] {kt t e : TypeId} {KR : KeyRep Tryz.prog K kt} {ER : ElRep V} {w : World} {b n : Nat} {l : List (K × V)} (h : MapAs KR ER w b n l) (ht : Tryz.prog.underlying t = some (.map kt e)) (hn : n < maxLen) {k : K} (hk : KR.ok k) {v : V} (hv : ER.ok v) :
    ∃ w', (Instr.mapUpdate t (.map (some b)) (KR.kv k) (ER.ev v)).run Tryz.prog w = .ok () w' ∧ MapAs KR ER w' b (n + 1) (alPut l k v) ∧ w.grownBy w' (some b) := by
  obtain ⟨es, ho, hp, h1, hok⟩ := h
  obtain ⟨w', hr, ho', htr⟩ := ho.store KR.law ht hn (KR.key k hk) (ER.made v hv)
  exact ⟨w', hr, MapAs.ofPut hp h1 hok hk hv ho', htr.grown⟩
/-- what a key has behind a hold -/
def gripped (g : Option AGrip) (old : Option ByteArray) : Option ByteArray :=
  match g with
  | none => old
  | some g => if g.way = 1 then some g.val else if g.way = 2 then none else old
set_option maxRecDepth 100000 in
set_option maxHeartbeats 4000000 in
theorem apply_any (sp lg bV bT bH n t c : Nat) (s : AShard) (w : World) (h : ShIn w sp lg bV bT bH n s) (ht : t < 18446744073709551616) (hn : n + c < maxLen)
    (hc : ∀ L : List (ByteArray × AGrip), Once1 L → (∀ k, alLook L k = alLook s.holds (t, k)) → L.length ≤ c) (hv : ∀ p ∈ s.holds, p.2.val.size ≤ maxLen) :
    Calls Tryz.prog 93 #[.pointer (some ⟨sp, 0, none⟩), .int .u64 (t : Int)] w fun e w' => e = .returned (.tuple #[]) ∧ ∃ vs, ShIn w' sp lg bV bT bH (n + c) (AShard.forget { s with vals := vs } t) ∧ (∀ k, alLook vs k = gripped (alLook s.holds (t, k)) (alLook s.vals k)) ∧ Fr [bV, bT, bH] w w' := by
  have HI : Hid (ShIn w sp lg bV bT bH n s) := h
  have c1 := blk_cell h.blk 1
  simp at c1
  have ho := holdsOf_any sp lg bV bT bH n t s w h ht (by omega)
  clear h
  go_enter Tryz.func93, Tryz.ntmps93
  go_wp2_with fail
  refine ho.mono ?_
  clear ho
  rintro e w1 ⟨b, L, rfl, hb, hL, hlk, hf1⟩
  have HL : Hid (MapAs KS EG w1 b n L) := hL
  have HIN1 : Hid (ShIn w1 sp lg bV bT bH n s) := HI.out.fr hf1 (by simp) (by simp) (by simp) (by simp)
  have HF1 : Hid (Fr [] w w1) := hf1
  have HLK : Hid (∀ k, alLook L k = alLook s.holds (t, k)) := hlk
  clear hL hf1 hlk
  go_wp2_with (first
    | (at_range; refine wpList_map_range (KR := KS) (ER := EG) rfl _ 167 146 rfl Tryz.underlying167 b n L rfl HL.out ?_; intro w0 hrg0 hg0 hs0)
    | fail)
  go_frame
  have HF0 : Hid (Fr [bV] w1 w0) := (Fr.of_grown hg0).mono (by simp)
  have HR0 : Hid (RangesAs KS EG w0 b w1.heap.size n L L) := hrg0
  have HV0 : Hid (MapAs KS ES w0 bV n s.vals) := HIN1.out.vals.fr (Fr.of_grown hg0) (by simp)
  have hLc : L.length ≤ c := by obtain ⟨_, _, _, h3, _⟩ := HL.out; exact hc L h3 HLK.out
  have hbV : bV < w.heap.size := HI.out.lts.2.1
  have hbb := HL.out.lt
  have hneb : b ≠ bV := by omega
  have HC : Hid (∀ L : List (ByteArray × AGrip), Once1 L → (∀ k, alLook L k = alLook s.holds (t, k)) → L.length ≤ c) := hc
  have HVV : Hid (∀ p ∈ s.holds, p.2.val.size ≤ maxLen) := hv
  clear hrg0 hg0 hc hv
  go_loopw [4] (fun _ wr => ∃ rem vs m, Hid (RangesAs KS EG wr b w1.heap.size n L rem ∧ MapAs KS ES wr bV m vs ∧ m + rem.length ≤ n + L.length ∧ (∀ k, alLook vs k = if (alLook rem k).isSome = true then alLook s.vals k else gripped (alLook s.holds (t, k)) (alLook s.vals k)) ∧ Fr [bV] w1 wr ∧ w1.heap.size + 1 ≤ wr.heap.size)) (fun _ wr => wr.rangeLeft b w1.heap.size)
  case atStart =>
    refine ⟨L, s.vals, n, HR0.out, HV0.out, Nat.le_refl _, fun k => ?_, HF0.out, by omega⟩
    have := HLK.out k
    cases e : alLook L k with
    | none => rw [e] at this; rw [← this]; rfl
    | some v => rfl
  case round =>
    obtain ⟨rem, vs, m, HX⟩ := hrel
    have hrg := HX.out.1
    go_wp2_with (first
      | (at_next; refine wpList_map_next (KR := KS) (ER := EG) rfl _ rfl b w1.heap.size n L rem rfl hrg ?_ ?_)
      | go_in)
    · intro hnil
      have hin := HIN1.out.setVals HX.out.2.2.2.2.1 (HX.out.2.1.mono (n' := n + c) (by have := HX.out.2.2.1; omega)) (by omega)
      have hfo := forget_any sp lg bV bT bH (n + c) t _ wr hin ht
      clear hin hrg
      go_wp2_with fail
      refine hfo.mono ?_
      rintro e w5 ⟨rfl, hs5, hf5⟩
      have HS5 : Hid (ShIn w5 sp lg bV bT bH (n + c) (AShard.forget { s with vals := vs } t)) := hs5
      have HF5 : Hid (Fr [bT, bH] wr w5) := hf5
      clear hs5 hf5 hfo
      go_wp2
      go_end0
      refine ⟨rfl, vs, HS5.out, fun k => ?_, ((HF1.out.mono (by simp)).trans (HX.out.2.2.2.2.1.mono (by intro k _ hk; simp at hk; simp [hk]))).trans (HF5.out.mono (by intro k _ hk; simp at hk; rcases hk with rfl | rfl <;> simp))⟩
      rw [HX.out.2.2.2.1 k, hnil]
      rfl
    · intro k x w2 hm hrg2 hlt hg2 hs2 hen
      have hms : (k, x) ∈ L := by
        obtain ⟨_, _, _, _, _, _, _, _, h6, _⟩ := hrg
        exact h6 _ hm
      have hok : k.size ≤ maxLen := by
        obtain ⟨_, _, _, _, hok⟩ := hrg.owns
        exact (hok _ hms).1
      have HONE : Hid (Once1 L) := by obtain ⟨_, _, _, h3, _⟩ := hrg.owns; exact h3
      have HLX : Hid (alLook s.holds (t, k) = some x) := (HLK.out k).symm.trans (alLook_of HONE.out hms)
      have hxv : x.val.size ≤ maxLen := HVV.out _ (alLook_mem HLX.out)
      have HF2 : Hid (Fr [bV] w1 w2) := HX.out.2.2.2.2.1.andThen (Fr.of_grown1 hg2) (fun j hj hl => by simp at hj; omega)
      have HV2 : Hid (MapAs KS ES w2 bV m vs) := HX.out.2.1.fr (Fr.of_grown1 hg2) (by simp; have := HIN1.out.lts.2.1; omega)
      have hmb : m < maxLen := by
        have h1 := del_shorter hm
        have h2 := HX.out.2.2.1
        omega
      have HLN : Hid ((alDel rem k).length + 1 ≤ rem.length) := del_shorter hm
      have c1' := blk_cell ((HF2.out.block sp HIN1.out.lts.1 (by simp; exact HIN1.out.lts.2.2.2.2.1)).trans HIN1.out.blk) 1
      simp at c1'
      have hspl : sp < w2.heap.size := Nat.lt_of_lt_of_le HIN1.out.lts.1 HF2.out.size
      have z1 : ¬ sp = w2.heap.size := by omega
      have hsz2 : w1.heap.size + 1 ≤ w2.heap.size := by have := HX.out.2.2.2.2.2; omega
      have hen' : (Instr.entry (.pointer (some ⟨w1.heap.size, 0, none⟩))).run Tryz.prog w2 = .ok (.tuple #[.string k, .agg #[.int .u8 (x.way : Int), .string x.val]]) w2 := hen
      have GO : Hid (∀ W vs' m', Fr [bV] w2 W → MapAs KS ES W bV m' vs' → m' ≤ m + 1 → (∀ j, alLook vs' j = if j = k then gripped (some x) (alLook s.vals k) else alLook vs j) →
          (∃ rem vs m, Hid (RangesAs KS EG W b w1.heap.size n L rem ∧ MapAs KS ES W bV m vs ∧ m + rem.length ≤ n + L.length ∧ (∀ k, alLook vs k = if (alLook rem k).isSome = true then alLook s.vals k else gripped (alLook s.holds (t, k)) (alLook s.vals k)) ∧ Fr [bV] w1 W ∧ w1.heap.size + 1 ≤ W.heap.size)) ∧ W.rangeLeft b w1.heap.size < wr.rangeLeft b w1.heap.size) := fun W vs' m' hW hM hm' hl => by
        obtain ⟨r1, r2⟩ := hrg2.fr hW (by simp; exact hneb) (by simp; have := HIN1.out.lts.2.1; omega)
        refine ⟨⟨alDel rem k, vs', m', r1, hM, by have := HLN.out; have := HX.out.2.2.1; omega, fun j => ?_, HF2.out.trans hW, Nat.le_trans hsz2 hW.size⟩, by rw [r2]; exact hlt⟩
        rw [hl j, alLook_del]
        by_cases e : j = k
        · subst e
          rw [if_pos rfl, if_pos rfl, HLX.out]; rfl
        · rw [if_neg e, if_neg e]; exact HX.out.2.2.2.1 j
      have HOWN : Hid (alLook vs k = alLook s.vals k) := by
        have e := HX.out.2.2.2.1 k
        rw [alLook_of (by obtain ⟨_, _, _, _, _, _, _, h5, _⟩ := hrg; exact h5) hm] at e
        exact e
      clear hrg hrg2 hm hms hen hg2 hs2 hlt c1
      by_cases h1 : x.way = 1
      · have hb : ((x.way : Int) == 1) = true := by simp [h1]
        have hi : (x.way : Int) = 1 := by omega
        have HG : Hid (gripped (some x) (alLook s.vals k) = some x.val) := by unfold Hid; simp [gripped, h1]
        clear h1
        obtain ⟨w3, hrun3, hm3, hg3⟩ := MapAs.putRun (HV2.out.fr ((Fr.refl [] w2).alloc (.cells #[.int .u8 (x.way : Int), .string x.val] 146)).drew (by simp)) Tryz.underlying137 hmb (k := k) hok (v := x.val) hxv
        have hrun : (Instr.mapUpdate 137 (.map (some bV)) (.string k) (.string x.val)).run Tryz.prog (w2.alloc (.cells #[.int .u8 (x.way : Int), .string x.val] 146)).drew = .ok () w3 := hrun3
        have HM3 : Hid (MapAs KS ES w3 bV (m + 1) (alPut vs k x.val)) := hm3
        have HF3 : Hid (Fr [bV] w2 w3) := ((Fr.refl [bV] w2).alloc _).drew.trans (Fr.of_grown1 hg3)
        clear hrun3 hm3 hg3
        rw [hi] at hrun
        go_wp2
        go_region
        all_goals go_wp2
        exact GO.out w3 _ _ HF3.out HM3.out (Nat.le_refl _) (fun j => by rw [alLook_put, HG.out])
      · have hb : ((x.way : Int) == 1) = false := by simp; omega
        have hi : ¬ (x.way : Int) = 1 := by omega
        by_cases h2 : x.way = 2
        · have hb2 : ((x.way : Int) == 2) = true := by simp [h2]
          have hi2 : (x.way : Int) = 2 := by omega
          have HG : Hid (gripped (some x) (alLook s.vals k) = none) := by unfold Hid; simp [gripped, h2]
          clear h1 h2
          go_wp2_with (first
            | (at_delete; refine wpList_map_del (KR := KS) (ER := ES) rfl _ _ 137 9 rfl Tryz.underlying137 bV m vs rfl (HV2.out.fr ((Fr.refl [] w2).alloc _) (by simp)) k hok rfl ?_; intro w3 hm3 hg3)
            | go_in)
          go_frame
          go_wp2
          have HF3 : Hid (Fr [bV] w2 w3) := ((Fr.refl [bV] w2).alloc _).trans (Fr.of_grown1 hg3)
          have fin := GO.out w3 _ _ HF3.out hm3 (by omega) (fun j => by rw [alLook_del, HG.out])
          go_roundw
          case rel => exact fin.1
          case measure => exact fin.2
        · have hb2 : ((x.way : Int) == 2) = false := by simp; omega
          have HG : Hid (gripped (some x) (alLook s.vals k) = alLook s.vals k) := by unfold Hid; simp [gripped, h1, h2]
          clear h1 h2
          go_wp2
          refine GO.out _ vs m ((Fr.refl [bV] w2).alloc _) (HV2.out.fr ((Fr.refl [] w2).alloc _) (by simp)) (by omega) (fun j => ?_)
          by_cases e : j = k
          · subst e; rw [if_pos rfl, HG.out]; exact HOWN.out
          · rw [if_neg e]
end Go.Proofs.YtkhjhojmhllkaaaGreatDoor
/- SHARDS: take. -/
namespace Go.Proofs.YtkhjhojmhllkaaaGreatDoor
open Go.RowKit Go.Maps
open Sc

set_option maxRecDepth 100000 in
set_option maxHeartbeats 4000000 in
theorem take_any (sp lg bV bT bH n t : Nat) (k : ByteArray) (g : AGrip) (s : AShard) (w : World) (h : ShIn w sp lg bV bT bH n s) (ht : t < 18446744073709551616) (hk : k.size ≤ maxLen) (hn : n < maxLen) :
    Calls Tryz.prog 136 #[.pointer (some ⟨sp, 0, none⟩), .int .u64 (t : Int), .string k, .agg #[.int .u8 (g.way : Int), .string g.val]] w fun e w' => e = .returned (.tuple #[]) ∧ ShIn w' sp lg bV bT bH (n + 1) (s.take t k g) ∧ Fr [bH] w w' := by
  have hsp := h.lts
  obtain ⟨W, hW⟩ : ∃ W, W = (w.alloc (.cells #[.int .u8 (g.way : Int), .string g.val] 146)).alloc (.cells #[.int .u64 (t : Int), .string k] 148) := ⟨_, rfl⟩
  have hfW : Fr [] w W := by rw [hW]; exact ((Fr.refl [] w).alloc _).alloc _
  have hsW : W.heap.size = w.heap.size + 2 := by rw [hW]; simp
  have b1 : W.heap[w.heap.size]? = some (.cells #[.int .u8 (g.way : Int), .string g.val] 146) := by
    rw [hW]; exact (Below.heap_alloc _ _ _ (by simp)).trans (heap_alloc_new w _)
  have b2 : W.heap[w.heap.size + 1]? = some (.cells #[.int .u64 (t : Int), .string k] 148) := by
    rw [hW]; have := heap_alloc_new (w.alloc (.cells #[.int .u8 (g.way : Int), .string g.val] 146)) (.cells #[.int .u64 (t : Int), .string k] 148); rwa [World.size_alloc] at this
  have HIN : Hid (ShIn W sp lg bV bT bH n s) := h.fr hfW (by simp) (by simp) (by simp) (by simp)
  have HFW : Hid (Fr [] w W) := hfW
  have HS : Hid (∀ W', Fr [] W W' → W'.cell? ⟨w.heap.size, 0, none⟩ = some (.int .u8 (g.way : Int)) ∧ W'.cell? ⟨w.heap.size, 1, none⟩ = some (.string g.val) ∧ W'.cell? ⟨w.heap.size + 1, 0, none⟩ = some (.int .u64 (t : Int)) ∧ W'.cell? ⟨w.heap.size + 1, 1, none⟩ = some (.string k) ∧ W'.cell? ⟨sp, 3, none⟩ = some (.map (some bH)) ∧ (Instr.lookup 139 (.map (some bH)) (.agg #[.int .u64 (t : Int), .string k]) false).run Tryz.prog W' = .ok (.agg #[.int .u8 ((s.grip t k).way : Int), .string (s.grip t k).val]) W') := fun W' hf => by
    have e1 := (hf.block _ (by omega) (by simp)).trans b1
    have e2 := (hf.block _ (by omega) (by simp)).trans b2
    have hi := HIN.out.fr hf (by simp) (by simp) (by simp) (by simp)
    have x0 := blk_cell e1 0
    have x1 := blk_cell e1 1
    have y0 := blk_cell e2 0
    have y1 := blk_cell e2 1
    have z3 := blk_cell hi.blk 3
    simp at x0 x1 y0 y1 z3
    exact ⟨x0, x1, y0, y1, z3, hi.lookH ht hk⟩
  clear h b1 b2 hfW
  go_enter Tryz.func136, Tryz.ntmps136
  go_wp2
  rw [← hW]
  clear hW
  refine wp_region_held_drew (S := (fun w' => w'.cell? ⟨w.heap.size, 0, none⟩ = some (.int .u8 (g.way : Int)) ∧ w'.cell? ⟨w.heap.size, 1, none⟩ = some (.string g.val) ∧ w'.cell? ⟨w.heap.size + 1, 0, none⟩ = some (.int .u64 (t : Int)) ∧ w'.cell? ⟨w.heap.size + 1, 1, none⟩ = some (.string k) ∧ w'.cell? ⟨sp, 3, none⟩ = some (.map (some bH)) ∧ (Instr.lookup 139 (.map (some bH)) (.agg #[.int .u64 (t : Int), .string k]) false).run Tryz.prog w' = .ok (.agg #[.int .u8 ((s.grip t k).way : Int), .string (s.grip t k).val]) w')) (by kernel_rfl) (HS.out _ (Fr.refl [] W).drew) (fun hHeld => ?_)
  refine tkV 0 (.agg #[.int .u8 (g.way : Int), .string g.val]) ?_
  (try simp only [Act.put, List.setIfInBounds_toArray, List.set_cons_zero, List.set_cons_succ])
  cases hg : g.writes with
  | false =>
    have hgw := gwrites g W.drew
    rw [hg] at hgw
    refine wpAnyH_ready (rs := [1]) (by kernel_rfl) (by simp) ?_
    refine ryC (fun K hK => ?_) AllReadyH.nil
    go_simp
    refine (hgw).mono ?_
    rintro e w1 ⟨rfl, rfl⟩
    go_wp2_with fail
    refine hK.out _ _ (HS.out _ ((Fr.refl [] W).drew.alloc _)) (fun hHeld => ?_)
    clear hK K
    (try simp only [Act.put, List.setIfInBounds_toArray, List.set_cons_zero, List.set_cons_succ])
    refine tkV 2 (.bool false) ?_
    refine tkV 3 (.pointer (some ⟨sp, 0, none⟩)) ?_
    refine tkV 4 (.pointer (some ⟨sp, 0, none⟩)) ?_
    refine tkV 5 (.pointer (some ⟨sp, 3, none⟩)) ?_
    refine tkV 6 (.map (some bH)) ?_
    refine tkV 7 (.agg #[.int .u64 (t : Int), .string k]) ?_
    refine tkV 8 (.agg #[.int .u8 ((s.grip t k).way : Int), .string (s.grip t k).val]) ?_
    (try simp only [Act.put, List.setIfInBounds_toArray, List.set_cons_zero, List.set_cons_succ])
    have hgw2 := gwrites (s.grip t k) (W.drew.alloc (.cells #[.int .u8 (g.way : Int), .string g.val] 146))
    cases hg2 : (s.grip t k).writes with
    | true =>
      rw [hg2] at hgw2
      refine wpAnyH_ready (rs := [9]) (by kernel_rfl) (by simp) ?_
      refine ryC (fun K hK => ?_) AllReadyH.nil
      go_simp
      refine (hgw2).mono ?_
      rintro e w2 ⟨rfl, rfl⟩
      go_wp2_with fail
      refine hK.out _ _ (HS.out _ (((Fr.refl [] W).drew.alloc _).alloc _)) (fun hHeld => ?_)
      clear hK K
      (try simp only [Act.put, List.setIfInBounds_toArray, List.set_cons_zero, List.set_cons_succ])
      refine tkV 10 (.bool false) ?_
      refine tkV 11 (.bool false) ?_
      (try simp only [Act.put, List.setIfInBounds_toArray, List.set_cons_zero, List.set_cons_succ])
      refine wpAnyH_done (by kernel_rfl) ?_ _
      have HX : Hid (s.take t k g = s) := by show _ = _; unfold AShard.take; rw [if_neg (by simp [hg, hg2])]
      clear hHeld
      go_wp2
      go_end0
      rw [HX.out]
      refine ⟨rfl, (HIN.out.fr (((Fr.refl [] W).drew.alloc _).alloc _) (by simp) (by simp) (by simp) (by simp)).mono (by omega), ?_⟩
      exact (HFW.out.trans (((Fr.refl [] W).drew.alloc _).alloc _)).mono (by simp)
    | false =>
      rw [hg2] at hgw2
      refine wpAnyH_ready (rs := [9]) (by kernel_rfl) (by simp) ?_
      refine ryC (fun K hK => ?_) AllReadyH.nil
      go_simp
      refine (hgw2).mono ?_
      rintro e w2 ⟨rfl, rfl⟩
      go_wp2_with fail
      refine hK.out _ _ (HS.out _ (((Fr.refl [] W).drew.alloc _).alloc _)) (fun hHeld => ?_)
      clear hK K
      (try simp only [Act.put, List.setIfInBounds_toArray, List.set_cons_zero, List.set_cons_succ])
      refine tkV 10 (.bool true) ?_
      refine tkV 11 (.bool true) ?_
      (try simp only [Act.put, List.setIfInBounds_toArray, List.set_cons_zero, List.set_cons_succ])
      refine wpAnyH_done (by kernel_rfl) ?_ _
      have HX : Hid (s.take t k g = { s with holds := alPut s.holds (t, k) g }) := by show _ = _; unfold AShard.take; rw [if_pos (by simp [hg, hg2])]
      obtain ⟨W3, hW3⟩ : ∃ W3, W3 = ((W.alloc (.cells #[.int .u8 (g.way : Int), .string g.val] 146)).alloc (.cells #[.int .u8 ((s.grip t k).way : Int), .string (s.grip t k).val] 146)).drew := ⟨_, rfl⟩
      have hf3 : Fr [] W W3 := by rw [hW3]; exact (((Fr.refl [] W).alloc _).alloc _).drew
      obtain ⟨z0, z1, z2, z3, z4, z5⟩ := HS.out W3 hf3
      have hin3 := HIN.out.fr hf3 (by simp) (by simp) (by simp) (by simp)
      have HF3 : Hid (Fr [] W W3) := hf3
      rw [← hW3]
      clear hW3 hf3 hHeld z5
      obtain ⟨w5, hr5, hm5, hg5⟩ := (hin3.holds.fr (Fr.refl [] W3).drew (by simp)).putRun Tryz.underlying139 hn (k := (t, k)) ⟨ht, hk⟩ (v := g) trivial
      have hr5' : (Instr.mapUpdate 139 (.map (some bH)) (.agg #[.int .u64 (t : Int), .string k]) (.agg #[.int .u8 (g.way : Int), .string g.val])).run Tryz.prog W3.drew = .ok () w5 := hr5
      have hf5 : Fr [bH] W3 w5 := ((Fr.refl [bH] W3).drew).trans (Fr.of_grown1 hg5)
      have H5 : Hid (ShIn w5 sp lg bV bT bH (n + 1) { s with holds := alPut s.holds (t, k) g } ∧ Fr [bH] w w5) := ⟨hin3.setHolds hf5 hm5 (by omega), ((HFW.out.mono (by simp)).trans (HF3.out.mono (by simp))).trans hf5⟩
      clear hr5 hm5 hg5 hf5 hin3
      go_wp2
      go_region
      go_end0
      rw [HX.out]
      exact ⟨rfl, H5.out⟩
  | true =>
    have hgw := gwrites g W.drew
    rw [hg] at hgw
    refine wpAnyH_ready (rs := [1]) (by kernel_rfl) (by simp) ?_
    refine ryC (fun K hK => ?_) AllReadyH.nil
    go_simp
    refine (hgw).mono ?_
    rintro e w1 ⟨rfl, rfl⟩
    go_wp2_with fail
    refine hK.out _ _ (HS.out _ ((Fr.refl [] W).drew.alloc _)) (fun hHeld => ?_)
    clear hK K
    (try simp only [Act.put, List.setIfInBounds_toArray, List.set_cons_zero, List.set_cons_succ])
    refine tkV 2 (.bool true) ?_
    refine tkU 3 ?_
    refine tkU 4 ?_
    refine tkU 5 ?_
    refine tkU 6 ?_
    refine tkU 7 ?_
    refine tkU 8 ?_
    refine tkU 9 ?_
    refine tkU 10 ?_
    refine tkV 11 (.bool true) ?_
    (try simp only [Act.put, List.setIfInBounds_toArray, List.set_cons_zero, List.set_cons_succ])
    refine wpAnyH_done (by kernel_rfl) ?_ _
    have HX : Hid (s.take t k g = { s with holds := alPut s.holds (t, k) g }) := by show _ = _; unfold AShard.take; rw [if_pos (by simp [hg])]
    obtain ⟨W3, hW3⟩ : ∃ W3, W3 = (W.alloc (.cells #[.int .u8 (g.way : Int), .string g.val] 146)).drew := ⟨_, rfl⟩
    have hf3 : Fr [] W W3 := by rw [hW3]; exact ((Fr.refl [] W).alloc _).drew
    obtain ⟨z0, z1, z2, z3, z4, z5⟩ := HS.out W3 hf3
    have hin3 := HIN.out.fr hf3 (by simp) (by simp) (by simp) (by simp)
    have HF3 : Hid (Fr [] W W3) := hf3
    rw [← hW3]
    clear hW3 hf3 hHeld z5
    obtain ⟨w5, hr5, hm5, hg5⟩ := (hin3.holds.fr (Fr.refl [] W3).drew (by simp)).putRun Tryz.underlying139 hn (k := (t, k)) ⟨ht, hk⟩ (v := g) trivial
    have hr5' : (Instr.mapUpdate 139 (.map (some bH)) (.agg #[.int .u64 (t : Int), .string k]) (.agg #[.int .u8 (g.way : Int), .string g.val])).run Tryz.prog W3.drew = .ok () w5 := hr5
    have hf5 : Fr [bH] W3 w5 := ((Fr.refl [bH] W3).drew).trans (Fr.of_grown1 hg5)
    have H5 : Hid (ShIn w5 sp lg bV bT bH (n + 1) { s with holds := alPut s.holds (t, k) g } ∧ Fr [bH] w w5) := ⟨hin3.setHolds hf5 hm5 (by omega), ((HFW.out.mono (by simp)).trans (HF3.out.mono (by simp))).trans hf5⟩
    clear hr5 hm5 hg5 hf5 hin3
    go_wp2
    go_region
    go_end0
    rw [HX.out]
    exact ⟨rfl, H5.out⟩
end Go.Proofs.YtkhjhojmhllkaaaGreatDoor
/- SHARDS: refusal. -/

namespace Go.Proofs.YtkhjhojmhllkaaaGreatDoor
open Go.RowKit Go.Maps
open Sc

theorem ShIn.lenT {w : World} {sp lg bV bT bH n : Nat} {s : AShard} (h : ShIn w sp lg bV bT bH n s) (ty : TypeId) : (Builtin.len_ #[138] ty #[.map (some bT)]).run Tryz.prog w = .ok (.int .i64 (s.txns.length : Int)) w :=
  h.txns.lenRun Tryz.underlying138 ty
/-- the first errors, those that need not look at what is held -/
def AShard.refuse1 (s : AShard) (t : Nat) (seq : Int) (k v : ByteArray) : Nat :=
  if t = 0 then 7 else if k.size < 1 ∨ 16 < k.size ∨ 32 < v.size then 1 else if (s.txn t).state = 3 ∨ seq ≠ ((s.txn t).done : Int) then 4 else if (s.txn t).state = 2 then 3 else if (s.txn t).state = 0 ∧ 12 ≤ s.txns.length then 5 else 0
set_option maxRecDepth 100000 in
set_option maxHeartbeats 4000000 in
theorem refusal_zero (sp lg bV bT bH n : Nat) (seq : Int) (k : ByteArray) (g : AGrip) (s : AShard) (w : World) (h : ShIn w sp lg bV bT bH n s) (hlg : 1 ≤ lg := by first | assumption | omega) :
    Calls Tryz.prog 133 #[.pointer (some ⟨sp, 0, none⟩), .int .u64 0, .int .i64 seq, .string k, .agg #[.int .u8 (g.way : Int), .string g.val]] w fun e w' => e = .returned (errN 7) ∧ Fr [] w w' := by
  have hl : ∀ W, Fr [] w W → (Instr.lookup 138 (.map (some bT)) (.int .u64 0) false).run Tryz.prog W = .ok (.agg #[.int .i64 ((s.txn 0).state : Int), .int .i64 ((s.txn 0).done : Int), .int .u64 ((s.txn 0).last : Int)]) W := fun W hW => (h.fr hW (by simp) (by simp) (by simp) (by simp)).lookT (t := 0) (by decide)
  have l1 := hl _ ((Fr.refl [] w).alloc (.cells #[.int .u8 (g.way : Int), .string g.val] 146))
  have c0 := blk_cell h.blk 0
  have c2 := blk_cell h.blk 2
  simp at c0 c2
  rw [lgP_pos hlg] at c0
  clear hlg
  have hsp := h.lts.1
  have z1 : ¬ sp = w.heap.size := by omega
  clear h hl
  go_enter Tryz.func133, Tryz.ntmps133
  go_wp2
  go_ret
  exact ⟨by rw [errN_no (by decide)]; rfl, ((Fr.refl [] w).alloc _).alloc _⟩
set_option maxRecDepth 100000 in
set_option maxHeartbeats 8000000 in
theorem refusal_first (sp lg bV bT bH n t : Nat) (seq : Int) (k : ByteArray) (g : AGrip) (s : AShard) (w : World) (h : ShIn w sp lg bV bT bH n s) (ht : t < 18446744073709551616) (h0 : t ≠ 0) (h5 : s.refuse1 t seq k g.val ≠ 5) (hr : s.refuse1 t seq k g.val ≠ 0) (hlg : 1 ≤ lg := by first | assumption | omega) :
    Calls Tryz.prog 133 #[.pointer (some ⟨sp, 0, none⟩), .int .u64 (t : Int), .int .i64 seq, .string k, .agg #[.int .u8 (g.way : Int), .string g.val]] w fun e w' => e = .returned (errN (s.refuse1 t seq k g.val)) ∧ Fr [] w w' := by
  have hl : ∀ W, Fr [] w W → (Instr.lookup 138 (.map (some bT)) (.int .u64 (t : Int)) false).run Tryz.prog W = .ok (.agg #[.int .i64 ((s.txn t).state : Int), .int .i64 ((s.txn t).done : Int), .int .u64 ((s.txn t).last : Int)]) W := fun W hW => (h.fr hW (by simp) (by simp) (by simp) (by simp)).lookT ht
  have l1 := hl _ ((Fr.refl [] w).alloc (.cells #[.int .u8 (g.way : Int), .string g.val] 146))
  have c0 := blk_cell h.blk 0
  have c2 := blk_cell h.blk 2
  simp at c0 c2
  rw [lgP_pos hlg] at c0
  clear hlg
  have hsp := h.lts.1
  have z1 : ¬ sp = w.heap.size := by omega
  have i0 : ¬ (t : Int) = 0 := by omega
  clear h hl
  have H5 : Hid (s.refuse1 t seq k g.val ≠ 5) := h5
  clear h5
  unfold AShard.refuse1 at hr ⊢
  rw [if_neg h0] at hr ⊢
  by_cases b1 : k.size < 1
  · rw [if_pos (.inl b1)]
    have j1 : (k.size : Int) < 1 := by omega
    clear hr
    go_enter Tryz.func133, Tryz.ntmps133
    go_wp2
    go_ret
    exact ⟨by rw [errN_no (by decide)]; rfl, ((Fr.refl [] w).alloc _).alloc _⟩
  · have j1 : ¬ (k.size : Int) < 1 := by omega
    by_cases b2 : 16 < k.size
    · rw [if_pos (.inr (.inl b2))]
      have j2 : (16 : Int) < (k.size : Int) := by omega
      clear hr
      go_enter Tryz.func133, Tryz.ntmps133
      go_wp2
      go_ret
      exact ⟨by rw [errN_no (by decide)]; rfl, ((Fr.refl [] w).alloc _).alloc _⟩
    · have j2 : ¬ (16 : Int) < (k.size : Int) := by omega
      by_cases b3 : 32 < g.val.size
      · rw [if_pos (.inr (.inr b3))]
        have j3 : (32 : Int) < (g.val.size : Int) := by omega
        clear hr
        go_enter Tryz.func133, Tryz.ntmps133
        go_wp2
        go_ret
        exact ⟨by rw [errN_no (by decide)]; rfl, ((Fr.refl [] w).alloc _).alloc _⟩
      · have j3 : ¬ (32 : Int) < (g.val.size : Int) := by omega
        have nb : ¬ (k.size < 1 ∨ 16 < k.size ∨ 32 < g.val.size) := by omega
        rw [if_neg nb] at hr ⊢
        have E5 : Hid ((s.txn t).state ≠ 3 → seq = ((s.txn t).done : Int) → (s.txn t).state ≠ 2 → ((s.txn t).state = 0 ∧ 12 ≤ s.txns.length) → False) := fun a b c d => H5.out (by unfold AShard.refuse1; rw [if_neg h0, if_neg nb, if_neg (by omega), if_neg c, if_pos d])
        clear b1 b2 b3 nb
        by_cases d1 : (s.txn t).state = 3
        · rw [if_pos (.inl d1)]
          have j4 : ((s.txn t).state : Int) = 3 := by omega
          clear hr d1
          go_enter Tryz.func133, Tryz.ntmps133
          go_wp2
          go_ret
          exact ⟨by rw [errN_no (by decide)]; rfl, ((Fr.refl [] w).alloc _).alloc _⟩
        · have j4 : ¬ ((s.txn t).state : Int) = 3 := by omega
          by_cases d2 : seq = ((s.txn t).done : Int)
          · rw [if_neg (by omega)] at hr ⊢
            by_cases d3 : (s.txn t).state = 2
            · rw [if_pos d3]
              have j5 : ((s.txn t).state : Int) = 2 := by omega
              clear hr d1 d3
              go_enter Tryz.func133, Tryz.ntmps133
              go_wp2
              go_ret
              exact ⟨by rw [errN_no (by decide)]; rfl, ((Fr.refl [] w).alloc _).alloc _⟩
            · rw [if_neg d3] at hr ⊢
              rw [if_neg (E5.out d1 d2 d3)] at hr
              exact absurd rfl hr
          · rw [if_pos (.inr d2)]
            have j5 : (seq != ((s.txn t).done : Int)) = true := by simp [d2]
            clear hr d1 d2
            go_enter Tryz.func133, Tryz.ntmps133
            go_wp2
            go_ret
            exact ⟨by rw [errN_no (by decide)]; rfl, ((Fr.refl [] w).alloc _).alloc _⟩
end Go.Proofs.YtkhjhojmhllkaaaGreatDoor
