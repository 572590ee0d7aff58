import Derived.Test.YtkhjhojmhllkaaaGreatDoorC20
import Derived.Test.YtkhjhojmhllkaaaGreatDoorC07
import Derived.BigQuiet
import Derived.Test.YtkhjhojmhllkaaaGreatDoorC05
import Derived.Test.YtkhjhojmhllkaaaGreatDoorC12
import Derived.Test.YtkhjhojmhllkaaaGreatDoorC10
import Derived.Test.YtkhjhojmhllkaaaGreatDoorC14
import Derived.Test.YtkhjhojmhllkaaaGreatDoorC11
import Derived.Test.YtkhjhojmhllkaaaGreatDoorC18
/- SHARDS: how one lies in memory; State, Value, writes. -/
namespace Go.Proofs.YtkhjhojmhllkaaaGreatDoor
open Go.RowKit Go.Maps
open Sc

structure AShard where
  vals : List (ByteArray × ByteArray)
  txns : List (Nat × ATxn)
  holds : List ((Nat × ByteArray) × AGrip)
  ticks : Nat
/-- what is known of a transaction -/
def AShard.txn (s : AShard) (t : Nat) : ATxn := (alLook s.txns t).getD ⟨0, 0, 0⟩
/-- how a key is held -/
def AShard.grip (s : AShard) (t : Nat) (k : ByteArray) : AGrip := (alLook s.holds (t, k)).getD ⟨0, ByteArray.empty⟩
/-- where its ledger lies; 0: it has none yet -/
def lgP (lg : Nat) : Option Addr := if lg = 0 then none else some ⟨lg, 0, none⟩
theorem lgP_pos {lg : Nat} (h : 1 ≤ lg) : lgP lg = some ⟨lg, 0, none⟩ := if_neg (by omega)
abbrev shO (lg bV bT bH : Nat) (ticks : Nat) : Obj := .cells #[.pointer (lgP lg), .map (some bV), .map (some bT), .map (some bH), .int .u64 (ticks : Int)] 141
structure ShIn (w : World) (sp lg bV bT bH n : Nat) (s : AShard) : Prop where
  blk : w.heap[sp]? = some (shO lg bV bT bH s.ticks)
  vals : MapAs KS ES w bV n s.vals
  txns : MapAs KU ET w bT n s.txns
  holds : MapAs KH EG w bH n s.holds
  ne : bV ≠ bT ∧ bV ≠ bH ∧ bT ≠ bH
  ticks : s.ticks < 18446744073709551616
theorem ShIn.fr {w w' : World} {sp lg bV bT bH n : Nat} {s : AShard} {S : List Nat} (h : ShIn w sp lg bV bT bH n s) (hf : Fr S w w') (h1 : sp ∉ S) (h2 : bV ∉ S) (h3 : bT ∉ S) (h4 : bH ∉ S) : ShIn w' sp lg bV bT bH n s where
  blk := (hf.block sp (Array.getElem?_eq_some_iff.1 h.blk).1 h1).trans h.blk
  vals := h.vals.fr hf h2
  txns := h.txns.fr hf h3
  holds := h.holds.fr hf h4
  ne := h.ne
  ticks := h.ticks
section
variable {w : World} {sp lg bV bT bH n : Nat} {s : AShard}
theorem ShIn.lookT (h : ShIn w sp lg bV bT bH n s) {t : Nat} (ht : t < 18446744073709551616) :
    (Instr.lookup 138 (.map (some bT)) (.int .u64 (t : Int)) false).run Tryz.prog w = .ok (.agg #[.int .i64 ((s.txn t).state : Int), .int .i64 ((s.txn t).done : Int), .int .u64 ((s.txn t).last : Int)]) w :=
  h.txns.look Tryz.underlying138 (zeroTxn w) trivial (k := t) ht
theorem ShIn.lookV (h : ShIn w sp lg bV bT bH n s) {k : ByteArray} (hk : k.size ≤ maxLen) :
    (Instr.lookup 137 (.map (some bV)) (.string k) true).run Tryz.prog w = .ok (.tuple #[.string ((alLook s.vals k).getD ByteArray.empty), .bool (alLook s.vals k).isSome]) w :=
  h.vals.lookOk Tryz.underlying137 (zeroStr w) (by show (0 : Nat) ≤ maxLen; omega) (k := k) hk
theorem ShIn.lookH (h : ShIn w sp lg bV bT bH n s) {t : Nat} {k : ByteArray} (ht : t < 18446744073709551616) (hk : k.size ≤ maxLen) :
    (Instr.lookup 139 (.map (some bH)) (.agg #[.int .u64 (t : Int), .string k]) false).run Tryz.prog w = .ok (.agg #[.int .u8 ((s.grip t k).way : Int), .string (s.grip t k).val]) w :=
  h.holds.look Tryz.underlying139 (zeroGrip w) trivial (k := (t, k)) ⟨ht, hk⟩
theorem ShIn.lookHok (h : ShIn w sp lg bV bT bH n s) {t : Nat} {k : ByteArray} (ht : t < 18446744073709551616) (hk : k.size ≤ maxLen) :
    (Instr.lookup 139 (.map (some bH)) (.agg #[.int .u64 (t : Int), .string k]) true).run Tryz.prog w = .ok (.tuple #[.agg #[.int .u8 ((s.grip t k).way : Int), .string (s.grip t k).val], .bool (alLook s.holds (t, k)).isSome]) w :=
  h.holds.lookOk Tryz.underlying139 (zeroGrip w) trivial (k := (t, k)) ⟨ht, hk⟩
end
theorem fieldT0 (a b c : Int) (w : World) : (Instr.field 153 (.agg #[.int .i64 a, .int .i64 b, .int .u64 c]) 0).run Tryz.prog w = .ok (.int .i64 a) w := by kernel_rfl
theorem fieldT1 (a b c : Int) (w : World) : (Instr.field 153 (.agg #[.int .i64 a, .int .i64 b, .int .u64 c]) 1).run Tryz.prog w = .ok (.int .i64 b) w := by kernel_rfl
theorem fieldT2 (a b c : Int) (w : World) : (Instr.field 153 (.agg #[.int .i64 a, .int .i64 b, .int .u64 c]) 2).run Tryz.prog w = .ok (.int .u64 c) w := by kernel_rfl
theorem fieldG0 (a : Int) (v : ByteArray) (w : World) : (Instr.field 146 (.agg #[.int .u8 a, .string v]) 0).run Tryz.prog w = .ok (.int .u8 a) w := by kernel_rfl
theorem fieldG1 (a : Int) (v : ByteArray) (w : World) : (Instr.field 146 (.agg #[.int .u8 a, .string v]) 1).run Tryz.prog w = .ok (.string v) w := by kernel_rfl
theorem fieldH0 (a : Int) (v : ByteArray) (w : World) : (Instr.field 148 (.agg #[.int .u64 a, .string v]) 0).run Tryz.prog w = .ok (.int .u64 a) w := by kernel_rfl
theorem fieldH1 (a : Int) (v : ByteArray) (w : World) : (Instr.field 148 (.agg #[.int .u64 a, .string v]) 1).run Tryz.prog w = .ok (.string v) w := by kernel_rfl
set_option maxRecDepth 100000 in
set_option maxHeartbeats 2000000 in
theorem state_any (sp lg bV bT bH n t : Nat) (s : AShard) (w : World) (h : ShIn w sp lg bV bT bH n s) (ht : t < 18446744073709551616) :
    Calls Tryz.prog 77 #[.pointer (some ⟨sp, 0, none⟩), .int .u64 (t : Int)] w fun e w' => e = .returned (.int .i64 ((s.txn t).state : Int)) ∧ ∃ q, w' = w.drewN q := by
  have c2 := blk_cell h.blk 2
  simp at c2
  have hl := h.lookT ht
  have hf0 := fieldT0
  obtain ⟨T, hT⟩ : ∃ T, T = s.txn t := ⟨_, rfl⟩
  rw [← hT] at hl ⊢
  clear h hT
  go_enter Tryz.func77, Tryz.ntmps77
  go_wp2
  go_ret
  exact ⟨rfl, 0, rfl⟩
set_option maxRecDepth 100000 in
set_option maxHeartbeats 2000000 in
theorem value_any (sp lg bV bT bH n : Nat) (k : ByteArray) (s : AShard) (w : World) (h : ShIn w sp lg bV bT bH n s) (hk : k.size ≤ maxLen) :
    Calls Tryz.prog 48 #[.pointer (some ⟨sp, 0, none⟩), .string k] w fun e w' => e = .returned (.tuple #[.string ((alLook s.vals k).getD ByteArray.empty), .bool (alLook s.vals k).isSome]) ∧ ∃ q, w' = w.drewN q := by
  have c1 := blk_cell h.blk 1
  simp at c1
  have hl := h.lookV hk
  obtain ⟨V, hV⟩ : ∃ V, V = (alLook s.vals k).getD ByteArray.empty := ⟨_, rfl⟩
  obtain ⟨O, hO⟩ : ∃ O, O = (alLook s.vals k).isSome := ⟨_, rfl⟩
  rw [← hV, ← hO] at hl ⊢
  clear h hV hO
  go_enter Tryz.func48, Tryz.ntmps48
  go_wp2
  go_ret2
  exact ⟨rfl, 0, rfl⟩
end Go.Proofs.YtkhjhojmhllkaaaGreatDoor
/- SHARDS: writes, clashes. -/
namespace Go.Proofs.YtkhjhojmhllkaaaGreatDoor
open Go.RowKit Go.Maps
open Sc

def AGrip.writes (g : AGrip) : Bool := !decide (g.way = 0)
set_option maxRecDepth 100000 in
set_option maxHeartbeats 2000000 in
theorem gwrites (g : AGrip) (w : World) : Calls Tryz.prog 95 #[.agg #[.int .u8 (g.way : Int), .string g.val]] w fun e w' => e = .returned (.bool g.writes) ∧ w' = w.alloc (.cells #[.int .u8 (g.way : Int), .string g.val] 146) := by
  go_enter Tryz.func95, Tryz.ntmps95
  go_wp2
  go_ret
  refine ⟨?_, rfl⟩
  congr 2
  unfold AGrip.writes
  by_cases h : g.way = 0
  · simp [h]
  · simp [h]
/-- does another hold the key in such a way? -/
def clashAt (s : AShard) (t : Nat) (k : ByteArray) (wr : Bool) (o : Nat) : Bool :=
  (alLook s.holds (o, k)).isSome && (!decide (o = t) && ((s.grip o k).writes || wr))
def AShard.clash (s : AShard) (t : Nat) (k : ByteArray) (wr : Bool) : Bool := s.txns.any fun p => clashAt s t k wr p.1
set_option maxRecDepth 100000 in
set_option maxHeartbeats 4000000 in
theorem clashes_any (sp lg bV bT bH n t : Nat) (k : ByteArray) (g : AGrip) (s : AShard) (w : World) (h : ShIn w sp lg bV bT bH n s) (hk : k.size ≤ maxLen) :
    Calls Tryz.prog 134 #[.pointer (some ⟨sp, 0, none⟩), .int .u64 (t : Int), .string k, .agg #[.int .u8 (g.way : Int), .string g.val]] w fun e w' => e = .returned (.bool (s.clash t k g.writes)) ∧ Fr [] w w' := by
  have HI : Hid (ShIn w sp lg bV bT bH n s) := h
  have c2 := blk_cell h.blk 2
  simp at c2
  have hsp : sp < w.heap.size := (Array.getElem?_eq_some_iff.1 h.blk).1
  clear h
  go_enter Tryz.func134, Tryz.ntmps134
  go_wp2_with (first
    | (at_range; refine wpList_map_range (KR := KU) (ER := ET) rfl _ 138 153 rfl Tryz.underlying138 bT n s.txns rfl (HI.out.txns.fr ((Fr.refl [] w).alloc _) (by simp)) ?_; intro w0 hrg0 hg0 hs0)
    | go_in)
  have hsz1 : (w.alloc (.cells #[.int .u8 (g.way : Int), .string g.val] 146)).heap.size = w.heap.size + 1 := by simp
  rw [hsz1] at hrg0 hs0 ⊢
  clear hsz1
  go_frame
  have hf0 : Fr [] w w0 := ((Fr.refl [] w).alloc _).trans (Fr.of_grown hg0)
  have hgb0 : w0.heap[w.heap.size]? = some (.cells #[.int .u8 (g.way : Int), .string g.val] 146) := by
    rw [hg0.block w.heap.size (by simp) (by simp)]; exact heap_alloc_new _ _
  have HR0 : Hid (RangesAs KU ET w0 bT (w.heap.size + 1) n s.txns s.txns) := hrg0
  have hsz0 : w0.heap.size = w.heap.size + 2 := by omega
  have HF0 : Hid (Fr [] w w0) := hf0
  have HGB0 : Hid (w0.heap[w.heap.size]? = some (.cells #[.int .u8 (g.way : Int), .string g.val] 146)) := hgb0
  clear hrg0 hg0 hs0 hf0 hgb0
  go_loopw [9] (fun _ wr => ∃ rem, Hid (RangesAs KU ET wr bT (w.heap.size + 1) n s.txns rem ∧ (∀ p ∈ s.txns, p ∉ rem → clashAt s t k g.writes p.1 = false) ∧ Fr [] w wr ∧ wr.heap[w.heap.size]? = some (.cells #[.int .u8 (g.way : Int), .string g.val] 146) ∧ w.heap.size + 2 ≤ wr.heap.size)) (fun _ wr => wr.rangeLeft bT (w.heap.size + 1))
  case atStart => exact ⟨s.txns, HR0.out, fun p h1 h2 => absurd h1 h2, HF0.out, HGB0.out, by omega⟩
  case round =>
    obtain ⟨rem, HX⟩ := hrel
    have hrg := HX.out.1
    go_wp2_with (first
      | (at_next; refine wpList_map_next (KR := KU) (ER := ET) rfl _ rfl bT (w.heap.size + 1) n s.txns rem rfl hrg ?_ ?_)
      | go_in)
    · intro hnil
      go_wp2
      go_ret
      refine ⟨?_, HX.out.2.2.1⟩
      have hno : s.clash t k g.writes = false := by
        unfold AShard.clash
        rw [List.any_eq_false]
        intro p hp
        rw [HX.out.2.1 p hp (by rw [hnil]; simp)]
        simp
      rw [hno]; rfl
    · intro o x w2 hm hrg2 hlt hg2 hs2 hen
      have hms : (o, x) ∈ s.txns := by
        obtain ⟨_, _, _, _, _, _, _, _, h6, _⟩ := hrg
        exact h6 _ hm
      have ho : o < 18446744073709551616 := by
        obtain ⟨_, _, _, _, hok⟩ := hrg.owns
        exact (hok _ hms).1
      have hf2 : Fr [] w w2 := HX.out.2.2.1.andThen (Fr.of_grown1 hg2) (fun j hj hl => by simp at hj; omega)
      have hin2 := HI.out.fr hf2 (by simp) (by simp) (by simp) (by simp)
      have hgb2 : w2.heap[w.heap.size]? = some (.cells #[.int .u8 (g.way : Int), .string g.val] 146) := by
        rw [hg2.block w.heap.size (by have := HX.out.2.2.2.2; omega) (by simp)]; exact HX.out.2.2.2.1
      have c3 := blk_cell hin2.blk 3
      simp at c3
      have hl := hin2.lookHok ho hk
      have HH : Hid (clashAt s t k g.writes o = ((alLook s.holds (o, k)).isSome && (!decide (o = t) && ((s.grip o k).writes || g.writes)))) := rfl
      obtain ⟨G, hG⟩ : ∃ G, G = s.grip o k := ⟨_, rfl⟩
      obtain ⟨O, hO⟩ : ∃ O, O = (alLook s.holds (o, k)).isSome := ⟨_, rfl⟩
      rw [← hG, ← hO] at hl HH
      clear hG hO
      have HRG2 : Hid (RangesAs KU ET w2 bT (w.heap.size + 1) n s.txns (alDel rem o)) := hrg2
      have HF2 : Hid (Fr [] w w2) := hf2
      have HGB2 : Hid (w2.heap[w.heap.size]? = some (.cells #[.int .u8 (g.way : Int), .string g.val] 146)) := hgb2
      have hsz2 : w.heap.size + 2 ≤ w2.heap.size := by have := HX.out.2.2.2.2; omega
      have hen' : (Instr.entry (.pointer (some ⟨w.heap.size + 1, 0, none⟩))).run Tryz.prog w2 = .ok (.tuple #[.int .u64 (o : Int), .agg #[.int .i64 (x.state : Int), .int .i64 (x.done : Int), .int .u64 (x.last : Int)]]) w2 := hen
      have HM : Hid ((o, x) ∈ rem ∧ (o, x) ∈ s.txns) := ⟨hm, hms⟩
      have HLT : Hid (w2.rangeLeft bT (w.heap.size + 1) < wr.rangeLeft bT (w.heap.size + 1)) := hlt
      clear hrg hrg2 hf2 hin2 hgb2 hm hms hen hg2 hs2 hlt
      have GO : Hid (clashAt s t k g.writes o = false → ∀ W, Fr [] w2 W → (∃ rem, Hid (RangesAs KU ET W bT (w.heap.size + 1) n s.txns rem ∧ (∀ p ∈ s.txns, p ∉ rem → clashAt s t k g.writes p.1 = false) ∧ Fr [] w W ∧ W.heap[w.heap.size]? = some (.cells #[.int .u8 (g.way : Int), .string g.val] 146) ∧ w.heap.size + 2 ≤ W.heap.size)) ∧ W.rangeLeft bT (w.heap.size + 1) < wr.rangeLeft bT (w.heap.size + 1)) := fun hc W hW => by
        obtain ⟨r1, r2⟩ := HRG2.out.fr hW (by simp) (by simp)
        refine ⟨⟨alDel rem o, r1, fun p hp hn => ?_, HF2.out.trans hW, (hW.block _ (by omega) (by simp)).trans HGB2.out, Nat.le_trans hsz2 hW.size⟩, by rw [r2]; exact HLT.out⟩
        by_cases hpr : p ∈ rem
        · have hpo : p.1 = o := Decidable.byContradiction fun hne => hn (List.mem_filter.2 ⟨hpr, by simp [hne]⟩)
          rw [hpo]; exact hc
        · exact HX.out.2.1 p hp hpr
      have YES : Hid (clashAt s t k g.writes o = true → s.clash t k g.writes = true) := fun hc => by
        unfold AShard.clash
        rw [List.any_eq_true]
        exact ⟨_, HM.out.2, hc⟩
      cases O with
      | false =>
        have GO2 : Hid _ := GO.out (by rw [HH.out]; rfl)
        clear GO YES
        go_wp2
        exact GO2.out _ ((Fr.refl [] w2).alloc _)
      | true =>
        have q0 := blk_cell HGB2.out 0
        have q1 := blk_cell HGB2.out 1
        simp at q0 q1
        have z1 : w.heap.size < w2.heap.size := by omega
        have z2 : ¬ w.heap.size = w2.heap.size := by omega
        have z3 : ¬ w.heap.size = w2.heap.size + 1 := by omega
        by_cases hot : o = t
        · have GO2 : Hid _ := GO.out (by rw [HH.out]; simp [hot])
          have hb : ((o : Int) != (t : Int)) = false := by simp [hot]
          clear GO YES hot
          go_wp2
          exact GO2.out _ ((Fr.refl [] w2).alloc _)
        · have hb : ((o : Int) != (t : Int)) = true := by simp; omega
          by_cases hG0 : G.way = 0
          · have hb1 : ((G.way : Int) != 0) = false := by simp [hG0]
            have hGw : G.writes = false := by simp [AGrip.writes, hG0]
            by_cases hg0 : g.way = 0
            · have hb2 : ((g.way : Int) != 0) = false := by simp [hg0]
              have hgw : g.writes = false := by simp [AGrip.writes, hg0]
              have GO2 : Hid _ := GO.out (by rw [HH.out, hGw, hgw]; simp)
              clear GO YES hot hG0 hg0 hGw hgw
              go_wp2
              exact GO2.out _ ((((Fr.refl [] w2).alloc _).alloc _).alloc _)
            · have hb2 : ((g.way : Int) != 0) = true := by simp [hg0]
              have hgw : g.writes = true := by simp [AGrip.writes, hg0]
              have YES2 : Hid _ := YES.out (by rw [HH.out, hGw, hgw]; simp [hot])
              clear GO YES hot hG0 hg0 hGw hgw
              go_wp2
              go_ret
              exact ⟨by rw [YES2.out]; rfl, HF2.out.trans ((((Fr.refl [] w2).alloc _).alloc _).alloc _)⟩
          · have hb1 : ((G.way : Int) != 0) = true := by simp [hG0]
            have hGw : G.writes = true := by simp [AGrip.writes, hG0]
            have YES2 : Hid _ := YES.out (by rw [HH.out, hGw]; simp [hot])
            clear GO YES hot hG0 hGw
            go_wp2
            go_ret
            exact ⟨by rw [YES2.out]; rfl, HF2.out.trans (((Fr.refl [] w2).alloc _).alloc _)⟩
end Go.Proofs.YtkhjhojmhllkaaaGreatDoor
/- SHARDS: what turns of one; take, as mathematics. -/
namespace Go.Proofs.YtkhjhojmhllkaaaGreatDoor
open Go.RowKit Go.Maps
open Sc

theorem ShIn.mono {w : World} {sp lg bV bT bH n m : Nat} {s : AShard} (h : ShIn w sp lg bV bT bH n s) (hn : n ≤ m) : ShIn w sp lg bV bT bH m s :=
  { h with vals := h.vals.mono hn, txns := h.txns.mono hn, holds := h.holds.mono hn }
theorem ShIn.lts {w : World} {sp lg bV bT bH n : Nat} {s : AShard} (h : ShIn w sp lg bV bT bH n s) : sp < w.heap.size ∧ bV < w.heap.size ∧ bT < w.heap.size ∧ bH < w.heap.size ∧ sp ≠ bV ∧ sp ≠ bT ∧ sp ≠ bH := by
  refine ⟨(Array.getElem?_eq_some_iff.1 h.blk).1, h.vals.lt, h.txns.lt, h.holds.lt, ?_, ?_, ?_⟩
  · rintro rfl; obtain ⟨es, c, e⟩ := h.vals.isMap; rw [h.blk] at e; cases e
  · rintro rfl; obtain ⟨es, c, e⟩ := h.txns.isMap; rw [h.blk] at e; cases e
  · rintro rfl; obtain ⟨es, c, e⟩ := h.holds.isMap; rw [h.blk] at e; cases e
/-- what is held has turned -/
theorem ShIn.setHolds {w w' : World} {sp lg bV bT bH n m : Nat} {s : AShard} {hs : List ((Nat × ByteArray) × AGrip)} (h : ShIn w sp lg bV bT bH n s) (hf : Fr [bH] w w') (hm : MapAs KH EG w' bH m hs) (hn : n ≤ m) : ShIn w' sp lg bV bT bH m { s with holds := hs } :=
  { blk := (hf.block sp h.lts.1 (by simp; exact h.lts.2.2.2.2.2.2)).trans h.blk
    vals := (h.vals.fr hf (by simp; exact h.ne.2.1)).mono hn
    txns := (h.txns.fr hf (by simp; exact h.ne.2.2)).mono hn
    holds := hm
    ne := h.ne
    ticks := h.ticks }
def AShard.take (s : AShard) (t : Nat) (k : ByteArray) (g : AGrip) : AShard := if (g.writes || !(s.grip t k).writes) = true then { s with holds := alPut s.holds (t, k) g } else s
end Go.Proofs.YtkhjhojmhllkaaaGreatDoor
/- (*disk).Read. -/
namespace Go.Proofs.YtkhjhojmhllkaaaGreatDoor
open Go.RowKit
open Sc

/-- Read: the text, the error's number -/
def ADisk.read (d : ADisk) (nm : ByteArray) : Option ByteArray × Nat :=
  if d.down = true then (none, 10) else match d.now nm with | none => (none, 8) | some t => (some t, 0)
/-- what came of Read -/
def Got (t : Option ByteArray) (v : Value) (w' : World) : Prop :=
  match t with
  | none => v = .slice none 0 0
  | some t => Src w' v (bytesOf t)
def ReadPost (d : ADisk) (nm : ByteArray) (w : World) (e : Ending) (w' : World) : Prop :=
  ∃ v, e = .returned (.tuple #[v, errN (d.read nm).2]) ∧ Got (d.read nm).1 v w' ∧ Below w.heap.size w w'
set_option maxRecDepth 100000 in
set_option maxHeartbeats 1000000 in
theorem read_any (B p bD bN n nD nN : Nat) (pv : Value) (d : ADisk) (nm : ByteArray) (w : World) (h : DiskIn w B p bD bN pv d n nD nN) (hnm : nm.size ≤ maxLen) :
    Calls Tryz.prog 361 #[.pointer (some ⟨p, 0, none⟩), .string nm] w (ReadPost d nm w) := by
  have p1 := blk_cell h.blk 1
  have p5 := blk_cell h.blk 5
  simp at p1 p5
  have HI : Hid (DiskIn w B p bD bN pv d n nD nN) := h
  clear h
  cases hd : d.down with
  | true =>
    rw [hd] at p5
    have HD : Hid (d.down = true) := hd
    clear hd
    go_enter Tryz.func361, Tryz.ntmps361
    go_wp2
    go_ret2
    have e : d.read nm = (none, 10) := by unfold ADisk.read; rw [if_pos HD.out]
    refine ⟨.slice none 0 0, by rw [e]; rfl, by rw [e]; rfl, Below.refl _ _⟩
  | false =>
    rw [hd] at p5
    have HD : Hid (d.down = false) := hd
    clear hd
    rcases HI.out.now.look nm hnm with ⟨hN, hl⟩ | ⟨t, q, hN, hq, hl⟩
    · have HN : Hid (d.now nm = none) := hN
      clear hN
      go_enter Tryz.func361, Tryz.ntmps361
      go_wp2
      go_ret2
      have e : d.read nm = (none, 8) := by unfold ADisk.read; rw [if_neg (by rw [HD.out]; decide), HN.out]
      refine ⟨.slice none 0 0, by rw [e]; rfl, by rw [e]; rfl, Below.refl _ _⟩
    · have HN : Hid (d.now nm = some t) := hN
      have hc := text_cell hq
      have hsz : t.size ≤ maxLen := by
        have h1 := HI.out.leN nm t hN
        have h2 := HI.out.hN
        have h3 := HI.out.hn
        unfold maxLen
        omega
      have hrb := run_bytes w t
      clear hN hq
      go_enter Tryz.func361, Tryz.ntmps361
      go_wp2
      go_ret2
      have e : d.read nm = (some t, 0) := by unfold ADisk.read; rw [if_neg (by rw [HD.out]; decide), HN.out]
      refine ⟨_, by rw [e]; rfl, by rw [e]; exact src_str w t hsz, ?_⟩
      exact (Below.refl _ _).drew.alloc (Nat.le_refl _) _
end Go.Proofs.YtkhjhojmhllkaaaGreatDoor
/- OPENING OVER NOTHING: the small calls. -/
namespace Go.Proofs.YtkhjhojmhllkaaaGreatDoor
open Go.RowKit Go.Maps
open Sc

set_option maxRecDepth 100000 in
set_option maxHeartbeats 2000000 in
theorem names_empty (B p bD bN n nD : Nat) (pv : Value) (d : ADisk) (w : World) (h : DiskIn w B p bD bN pv d n nD 0) (hdn : d.down = false) :
    Calls Tryz.prog 360 #[.pointer (some ⟨p, 0, none⟩)] w fun e w' => e = .returned (.tuple #[.slice none 0 0, .nilIface]) ∧ Below w.heap.size w w' := by
  have c1 := blk_cell h.blk 1
  have c5 := blk_cell h.blk 5
  simp at c1 c5
  rw [hdn] at c5
  obtain ⟨D, hown, _⟩ := h.now
  have hsz := hown.size_le
  have hso := Tryz.sort_Strings_none
  clear h
  go_enter Tryz.func360, Tryz.ntmps360
  go_wp2_with (first
    | (at_range; refine wpList_range_own _ rfl _ 94 rfl 9 154 Tryz.lawS Tryz.underlying94 ptrElem bN 0 D rfl hown ?_; intro w0 hrg0 hg0 hs0)
    | go_in)
  go_frame
  have hbl : Below w.heap.size w w0 := ⟨hg0.os, hg0.tape, hg0.output, hg0.size, fun k hk => hg0.block k hk (by simp)⟩
  refine wp_loop_rounds 1 ?_
  rw [rounds_succ]
  go_wp2_with (first
    | (at_next; refine wpList_next_ranges _ rfl _ rfl 9 Tryz.lawS ptrElem encStr Value.pointer (fun key kl hk => by obtain ⟨x, hx, _⟩ := Maps.keyOf_str Tryz.underlying9 hk; exact ⟨x, hx⟩) (fun v y hv => ptrElem_shape hv) bN w.heap.size 0 _ _ _ rfl hrg0 ?_ ?_)
    | go_in)
  · intro _ _
    go_wp2_with fail
    refine (hso none 0 w0).mono ?_
    rintro e w1 ⟨rfl, rfl⟩
    go_wp2
    go_ret2
    exact ⟨rfl, hbl⟩
  · intro x c kl yd yp w2 cnt2 _ _ _ _ _ hlt
    omega
set_option maxRecDepth 100000 in
set_option maxHeartbeats 2000000 in
theorem insert_nil (w : World) : Calls Tryz.prog 256 #[.slice none 0 0, .int .i64 0, .int .i64 0] w fun e w' => e = .returned (.tuple #[]) ∧ w' = w := by
  go_enter Tryz.func256, Tryz.ntmps256
  go_wp2
  refine wp_loop_rounds 1 ?_
  rw [rounds_succ]
  go_wp2
  go_end0
  exact ⟨rfl, rfl⟩
set_option maxRecDepth 100000 in
set_option maxHeartbeats 2000000 in
theorem pdq_nil (k : Int) (w : World) : Calls Tryz.prog 233 #[.slice none 0 0, .int .i64 0, .int .i64 0, .int .i64 k] w fun e w' => e = .returned (.tuple #[]) ∧ w' = w := by
  go_enter Tryz.func233, Tryz.ntmps233
  go_wp2
  refine wp_loop_rounds 1 ?_
  rw [rounds_succ]
  go_wp2_with fail
  refine (insert_nil w).mono ?_
  rintro e w1 ⟨rfl, rfl⟩
  go_wp2
  refine bodyPost_ret (results_none rfl _ _ _) rfl ?_
  exact ⟨rfl, rfl⟩
set_option maxRecDepth 100000 in
set_option maxHeartbeats 2000000 in
theorem sortU_nil (w : World) : Calls Tryz.prog 190 #[.slice none 0 0] w fun e w' => e = .returned (.tuple #[]) ∧ w' = w := by
  go_enter Tryz.func190, Tryz.ntmps190
  go_wp2_with fail
  refine (Tryz.bits_Len 0 w (by omega) (by omega)).mono ?_
  rintro e w1 ⟨rfl, rfl⟩
  go_wp2_with fail
  refine (pdq_nil _ w1).mono ?_
  rintro e w1 ⟨rfl, rfl⟩
  go_wp2
  go_end0
  exact ⟨rfl, rfl⟩
set_option maxRecDepth 100000 in
set_option maxHeartbeats 2000000 in
theorem among_nil (w : World) : Calls Tryz.prog 174 #[.slice none 0 0] w fun e w' => e = .returned (.slice none 0 0) ∧ w' = w := by
  go_enter Tryz.func174, Tryz.ntmps174
  go_wp2
  refine wp_loop_rounds 1 ?_
  rw [rounds_succ]
  go_wp2_with fail
  refine (sortU_nil w).mono ?_
  rintro e w1 ⟨rfl, rfl⟩
  go_wp2
  go_ret
  exact ⟨rfl, rfl⟩
set_option maxRecDepth 100000 in
set_option maxHeartbeats 2000000 in
theorem search_nil (x : Int) (w : World) : Calls Tryz.prog 175 #[.slice none 0 0, .int .u64 x] w fun e w' => e = .returned (.tuple #[.int .i64 0, .bool false]) ∧ w' = w := by
  go_enter Tryz.func175, Tryz.ntmps175
  go_wp2
  refine wp_loop_rounds 1 ?_
  rw [rounds_succ]
  go_wp2
  go_ret2
  exact ⟨rfl, rfl⟩
set_option maxRecDepth 100000 in
set_option maxHeartbeats 2000000 in
theorem readMark_none (B p bD bN n nD nN : Nat) (pv : Value) (d : ADisk) (w : World) (h : DiskIn w B p bD bN pv d n nD nN) (hdn : d.down = false) (hno : d.now markNm = none) :
    Calls Tryz.prog 173 #[dskV p] w fun e w' => e = .returned (.tuple #[.int .u64 1, .nilIface]) ∧ Below w.heap.size w w' := by
  have hm := Tryz.mRead
  have hr := read_any B p bD bN n nD nN pv d markNm w h (by decide)
  have e : d.read markNm = (none, 8) := by unfold ADisk.read; rw [if_neg (by rw [hdn]; decide), hno]
  clear h
  go_enter Tryz.func173, Tryz.ntmps173
  go_wp2_with fail
  refine hr.mono ?_
  clear hr
  rintro e1 w1 ⟨v, rfl, hgot, hb⟩
  rw [e] at hgot ⊢
  obtain rfl : v = .slice none 0 0 := hgot
  rw [errN_no (by decide)]
  go_wp2_with fail
  refine (is_same 8 w1).mono ?_
  rintro e2 w2 ⟨rfl, rfl⟩
  go_wp2
  go_ret2
  exact ⟨rfl, hb⟩
end Go.Proofs.YtkhjhojmhllkaaaGreatDoor
/- OPENING OVER NOTHING: (*Log).read, journal.Open. -/
namespace Go.Proofs.YtkhjhojmhllkaaaGreatDoor
open Go.RowKit
open Sc

def log0 (nx : Nat) : ALog := ⟨[], 600, [], nx, 0, 0⟩
set_option maxRecDepth 100000 in
set_option maxHeartbeats 2000000 in
theorem read_empty (B lp p bD bN n nD : Nat) (pv : Value) (d : ADisk) (w : World) (h : LogIn w B lp p bD bN pv (.slice none 0 0) (.slice none 0 0) (log0 0) d n nD 0) (hdn : d.down = false) (hno : d.now markNm = none) :
    Calls Tryz.prog 124 #[.pointer (some ⟨lp, 0, none⟩)] w fun e w' => e = .returned (.tuple #[.slice none 0 0, .nilIface]) ∧ LogIn w' B lp p bD bN pv (.slice none 0 0) (.slice none 0 0) (log0 1) d n nD 0 ∧ OFr lp p w w' := by
  have c0 := blk_cell h.blk 0
  simp at c0
  have HI : Hid (LogIn w B lp p bD bN pv (.slice none 0 0) (.slice none 0 0) (log0 0) d n nD 0) := h
  clear h
  have hm := Tryz.mNames
  go_enter Tryz.func124, Tryz.ntmps124
  go_wp2_with fail
  refine (names_empty B p bD bN n nD pv d w HI.out.disk hdn).mono ?_
  rintro e w1 ⟨rfl, hb1⟩
  have hf1 : Fr [] w w1 := Fr.of_below hb1 _
  have hl1 := HI.out.new hf1
  have ho1 := HI.out.newO hf1
  have k0 := blk_cell hl1.blk 0
  simp at k0
  have H1 : Hid (LogIn w1 B lp p bD bN pv (.slice none 0 0) (.slice none 0 0) (log0 0) d n nD 0 ∧ OFr lp p w w1) := ⟨hl1, ho1⟩
  clear hl1 ho1 hf1 hb1 c0
  go_wp2_with fail
  refine (readMark_none B p bD bN n nD 0 pv d w1 H1.out.1.disk hdn hno).mono ?_
  rintro e w2 ⟨rfl, hb2⟩
  have hf2 : Fr [] w1 w2 := Fr.of_below hb2 _
  have hl2 := H1.out.1.new hf2
  have ho2 := H1.out.2.trans (H1.out.1.newO hf2)
  have m4 := blk_cell hl2.blk 4
  have f4 := blk_free hl2.blk 4
  simp at m4
  have H2 : Hid (LogIn w2 B lp p bD bN pv (.slice none 0 0) (.slice none 0 0) (log0 0) d n nD 0 ∧ OFr lp p w w2) := ⟨hl2, ho2⟩
  clear hl2 ho2 hf2 hb2 k0
  obtain ⟨W, hW⟩ : ∃ W, W = w2.setCell ⟨lp, 4, none⟩ (.int .u64 1) := ⟨_, rfl⟩
  have hf3 : Fr [lp] w2 W := by rw [hW]; exact Fr.set1 (by simp) _ _
  have hb3 : W.heap[lp]? = some (logO p (.slice none 0 0) (.slice none 0 0) (log0 1)) := by rw [hW]; have := blk_set H2.out.1.blk 4 (.int .u64 1); simp [log0] at this ⊢; exact this
  have hn := H2.out.1.disk.hn
  have hl3 : LogIn W B lp p bD bN pv (.slice none 0 0) (.slice none 0 0) (log0 1) d n nD 0 := H2.out.1.own1 hf3 hb3 H2.out.1.segsN H2.out.1.recsN H2.out.1.fillN (by show 1 ≤ n + 1; omega) H2.out.1.durN rfl rfl
  have ho3 : OFr lp p w W := H2.out.2.trans (H2.out.1.ofr hl3 hf3 (fun k hk _ => by simp at hk; simp [hk]) (.inl rfl) (Near.refl _ _) (Near.refl _ _) (Near.refl _ _))
  have m4' := blk_cell hl3.blk 4
  simp [log0] at m4'
  have H3 : Hid (LogIn W B lp p bD bN pv (.slice none 0 0) (.slice none 0 0) (log0 1) d n nD 0 ∧ OFr lp p w W) := ⟨hl3, ho3⟩
  clear hl3 ho3 hf3 hb3
  subst hW
  go_wp2_with fail
  refine (among_nil _).mono ?_
  rintro e w4 ⟨rfl, rfl⟩
  go_wp2_with fail
  refine (search_nil 1 _).mono ?_
  rintro e w4 ⟨rfl, rfl⟩
  go_wp2_with fail
  refine (namesOf_nil _).mono ?_
  rintro e w4 ⟨rfl, rfl⟩
  go_wp2
  refine wp_loop_rounds 1 ?_
  rw [rounds_succ]
  go_wp2
  go_ret2
  exact ⟨rfl, H3.out.1, H3.out.2⟩
/-- the disk turned by itself, under a log -/
theorem LogIn.dturned {w w' : World} {B lp p bD bN n nD nN nD' nN' : Nat} {pv sv rv pv' : Value} {l : ALog} {d d' : ADisk} (h : LogIn w B lp p bD bN pv sv rv l d n nD nN) (hd : DiskIn w' B p bD bN pv' d' n nD' nN') (hf : DFr p w w') : LogIn w' B lp p bD bN pv' sv rv l d' n nD' nN' ∧ OFr lp p w w' := by
  have hlp := (Array.getElem?_eq_some_iff.1 h.blk).1
  have hne : ∀ k, k < w.heap.size → (k = lp ∨ sv.ownBlock = some k ∨ rv.ownBlock = some k) → ¬ OwnD p w k := fun k _ hk ho => by
    have := h.sep k ((h.disk.ownD k).1 ho)
    rcases hk with e | e | e
    · exact this.1 e
    · exact this.2.1 e
    · exact this.2.2 e
  have hblk : w'.heap[lp]? = some (logO p sv rv l) := (hf.block lp hlp (hne lp hlp (.inl rfl))).trans h.blk
  have hrow : ∀ (e : TypeId) (k m : Nat) (v : Value) (xs : List Value), (∀ g, v.ownBlock = some g → g = lp ∨ sv.ownBlock = some g ∨ rv.ownBlock = some g) → w.ownsRow B e k v m xs → w'.ownsRow B e k v m xs := fun e k m v xs hv hr => by
    refine ⟨hr.1, ?_⟩
    rcases hr.2 with h1 | ⟨g, cap, cur, rfl, h2, h3, h4⟩
    · exact .inl h1
    · exact .inr ⟨g, cap, cur, rfl, h2, (hf.block g (Array.getElem?_eq_some_iff.1 h3).1 (hne g (Array.getElem?_eq_some_iff.1 h3).1 (hv g rfl))).trans h3, h4⟩
  have hl : LogIn w' B lp p bD bN pv' sv rv l d' n nD' nN' := { disk := hd, blk := hblk, base := h.base, segs := hrow _ _ _ _ _ (fun g hg => .inr (.inl hg)) h.segs, recs := hrow _ _ _ _ _ (fun g hg => .inr (.inr hg)) h.recs, segsN := h.segsN, recsN := h.recsN, fillN := h.fillN, nextN := h.nextN, durN := h.durN }
  refine ⟨hl, hf.os, hf.tape, hf.output, hf.size, fun k hk hn => hf.block k hk (fun ho => hn ?_), fun k hk ho => ?_⟩
  · rw [h.own]
    have := (h.disk.ownD k).1 ho
    simp at this
    rcases this with e | e | e | e <;> simp [e]
  · rw [h.own]
    rcases (hl.own k).1 ho with e | e | e | e | e | e | e
    · exact .inl e
    · exact .inr (.inl e)
    · exact .inr (.inr (.inl e))
    · exact .inr (.inr (.inr (.inl e)))
    · have := (h.disk.ownD k).1 (hf.stay k hk ((hd.ownD k).2 (by simp [e])))
      simp at this
      rcases this with e | e | e | e <;> simp [e]
    · exact .inr (.inr (.inr (.inr (.inr (.inl e)))))
    · exact .inr (.inr (.inr (.inr (.inr (.inr e)))))
set_option maxRecDepth 100000 in
set_option maxHeartbeats 2000000 in
theorem open1_any (B lp p bD bN n nD nN bd bu : Nat) (pv sv rv : Value) (l : ALog) (d : ADisk) (w : World) (h : LogIn w B lp p bD bN pv sv rv l d n nD nN) (hd : w.heap[bd]? = some (.cells #[dskV p] 133)) (hu : w.heap[bu]? = some (.cells #[.slice none 0 0] 188)) :
    Calls Tryz.prog 127 #[.pointer (some ⟨bd, 0, none⟩), .pointer (some ⟨bu, 0, none⟩)] w (PutL B lp p bD bN n [] (l, d.removeAll []) w) := by
  have c0 := blk_cell hd 0
  have c1 := blk_cell hu 0
  simp at c0 c1
  have HI : Hid (LogIn w B lp p bD bN pv sv rv l d n nD nN) := h
  clear h hd hu
  go_enter Tryz.func127, Tryz.ntmps127
  go_wp2_with fail
  refine (removeAll_nil B p bD bN n nD nN pv d w HI.out.disk).mono ?_
  rintro e w1 ⟨rfl, ⟨pv1, nD1, nN1, hd1⟩, hf1⟩
  obtain ⟨hl1, ho1⟩ := HI.out.dturned hd1 hf1
  have H1 : Hid (LogIn w1 B lp p bD bN pv1 sv rv l (d.removeAll []).1 n nD1 nN1 ∧ OFr lp p w w1) := ⟨hl1, ho1⟩
  clear hl1 ho1 hd1 hf1
  go_wp2
  go_ret
  exact ⟨rfl, ⟨pv1, sv, rv, nD1, nN1, H1.out.1⟩, H1.out.2.x⟩
/-- the two steps of Open -/
def ALog.opens (l : ALog) (d : ADisk) : ALog × ADisk × Nat :=
  if (l.sync d).2.2 = 0 then ((l.sync d).1, (l.sync d).2.1.removeAll []) else l.sync d
set_option maxRecDepth 100000 in
set_option maxHeartbeats 2000000 in
theorem inTurnO (B lp p bD bN n nD nN gst bd bu : Nat) (pv sv rv : Value) (l : ALog) (d : ADisk) (w : World) (h : LogIn w B lp p bD bN pv sv rv l d n nD nN) (hn : n ≤ 67108864)
    (hst : w.heap[gst]? = some (.cells #[.func (.func 126) #[.pointer (some ⟨lp, 0, none⟩)] #[], .func (.func 127) #[] #[.pointer (some ⟨bd, 0, none⟩), .pointer (some ⟨bu, 0, none⟩)]] 160)) (hd : w.heap[bd]? = some (.cells #[dskV p] 133)) (hu : w.heap[bu]? = some (.cells #[.slice none 0 0] 188)) :
    Calls Tryz.prog 125 #[.slice (some ⟨gst, 0, none⟩) 2 2] w (PutL B lp p bD bN n [] (l.opens d) w) := by
  have z0 := blk_cell hst 0
  simp at z0
  have HI : Hid (LogIn w B lp p bD bN pv sv rv l d n nD nN) := h
  have n1 := h.free hst (by decide) (by decide) (by decide) (by decide) (by decide)
  have n2 := h.free hd (by decide) (by decide) (by decide) (by decide) (by decide)
  have n3 := h.free hu (by decide) (by decide) (by decide) (by decide) (by decide)
  clear h
  go_enter Tryz.func125, Tryz.ntmps125
  go_wp2
  refine wp_loop_rounds 3 ?_
  rw [rounds_succ]
  go_wp2_with fail
  refine (lsync_any B lp p bD bN n nD nN pv sv rv l d w HI.out hn).mono ?_
  rintro e w1 ⟨rfl, ⟨pv1, sv1, rv1, nD1, nN1, hl1⟩, ho1⟩
  have hst1 := (ho1.block gst (Array.getElem?_eq_some_iff.1 hst).1 n1).trans hst
  have hd1 := (ho1.block bd (Array.getElem?_eq_some_iff.1 hd).1 n2).trans hd
  have hu1 := (ho1.block bu (Array.getElem?_eq_some_iff.1 hu).1 n3).trans hu
  have z1 := blk_cell hst1 1
  simp at z1
  have H1 : Hid (LogIn w1 B lp p bD bN pv1 sv1 rv1 (l.sync d).1 (l.sync d).2.1 n nD1 nN1 ∧ OFr lp p w w1) := ⟨hl1, ho1⟩
  have HB : Hid (w1.heap[bd]? = some (.cells #[dskV p] 133) ∧ w1.heap[bu]? = some (.cells #[.slice none 0 0] 188)) := ⟨hd1, hu1⟩
  clear hl1 ho1 hst1 hd1 hu1 hd hu hst z0
  by_cases hc : (l.sync d).2.2 = 0
  · have eo : l.opens d = ((l.sync d).1, (l.sync d).2.1.removeAll []) := by unfold ALog.opens; rw [if_pos hc]
    rw [hc, errN_ok]
    go_wp2
    rw [rounds_succ]
    go_wp2_with fail
    refine (open1_any B lp p bD bN n nD1 nN1 bd bu pv1 sv1 rv1 (l.sync d).1 (l.sync d).2.1 w1 H1.out.1 HB.out.1 HB.out.2).mono ?_
    rintro e w2 ⟨rfl, hl2, ho2⟩
    have H2 : Hid (PutL B lp p bD bN n [] ((l.sync d).1, (l.sync d).2.1.removeAll []) w (.returned (errN ((l.sync d).2.1.removeAll []).2)) w2) := ⟨rfl, hl2, H1.out.2.x.trans ho2⟩
    clear hl2 ho2
    by_cases hc2 : ((l.sync d).2.1.removeAll []).2 = 0
    · rw [hc2, errN_ok] at H2 ⊢
      go_wp2
      rw [rounds_succ]
      go_wp2
      go_ret
      rw [eo]; exact H2.out
    · rw [errN_no hc2] at H2 ⊢
      go_wp2
      go_ret
      rw [eo]; exact H2.out
  · have eo : l.opens d = l.sync d := by unfold ALog.opens; rw [if_neg hc]
    have H2 : Hid (PutL B lp p bD bN n [] (l.sync d) w (.returned (errN (l.sync d).2.2)) w1) := ⟨rfl, ⟨pv1, sv1, rv1, nD1, nN1, H1.out.1⟩, H1.out.2.x⟩
    rw [errN_no hc] at H2 ⊢
    go_wp2
    go_ret
    rw [eo]; exact H2.out
end Go.Proofs.YtkhjhojmhllkaaaGreatDoor
/- OPENING OVER NOTHING: journal.Open, shardcommit.OpenLog. -/
namespace Go.Proofs.YtkhjhojmhllkaaaGreatDoor
open Go.RowKit
open Sc

theorem DFr.ofO {w Wl w' : World} {B lp p bD bN n nD nN n' nD' nN' n2 nD2 nN2 : Nat} {pv pv' sv' rv' : Value} {l l' : ALog} {d d' d2 : ADisk} (h : DiskIn w B p bD bN pv d2 n2 nD2 nN2) (hl : LogIn Wl B lp p bD bN pv (.slice none 0 0) (.slice none 0 0) l d n nD nN) (hf : Fr [] w Wl) (hlp : w.heap.size ≤ lp) (ho : OFr lp p Wl w') (hl' : LogIn w' B lp p bD bN pv' sv' rv' l' d' n' nD' nN') : DFr p w w' := by
  have key : ∀ k, k < w.heap.size → Own lp p Wl k → OwnD p w k := fun k hk hO => by
    rw [h.ownD]
    rcases (hl.own k).1 hO with e | e | e | e | e | e | e
    · omega
    · simp [e]
    · simp [e]
    · simp [e]
    · simp [e]
    · cases e
    · cases e
  refine ⟨ho.os.trans hf.os, ho.tape.trans hf.tape, ho.output.trans hf.output, Nat.le_trans hf.size ho.size, fun k hk hn => ?_, fun k hk hD => ?_⟩
  · exact (ho.block k (Nat.lt_of_lt_of_le hk hf.size) (fun hO => hn (key k hk hO))).trans (hf.block k hk (by simp))
  · refine key k hk (ho.stay k (Nat.lt_of_lt_of_le hk hf.size) ?_)
    have := (hl'.disk.ownD k).1 hD
    rw [hl'.own]
    simp at this
    rcases this with e | e | e | e <;> simp [e]
/-- what stands behind an opening that went well -/
def OpenPost (B p bD bN n : Nat) (r : ALog × ADisk × Nat) (w : World) (e : Ending) (w' : World) : Prop :=
  ∃ lp, e = .returned (.tuple #[.pointer (some ⟨lp, 0, none⟩), .nilIface]) ∧ w.heap.size ≤ lp ∧ (∃ pv sv rv nD nN, LogIn w' B lp p bD bN pv sv rv r.1 r.2.1 n nD nN) ∧ DFr p w w'
set_option maxRecDepth 100000 in
set_option maxHeartbeats 4000000 in
theorem jopen_empty (B p bD bN n nD : Nat) (pv : Value) (d : ADisk) (w : World) (h : DiskIn w B p bD bN pv d n nD 0) (hdn : d.down = false) (hno : d.now markNm = none) (hr : ((log0 1).opens d).2.2 = 0) :
    Calls Tryz.prog 84 #[dskV p] w (OpenPost B p bD bN n ((log0 1).opens d) w) := by
  have hn := h.hn
  have hb0 := h.base
  obtain ⟨W, hW⟩ : ∃ W, W = (w.alloc (.cells #[dskV p] 133)).alloc (logO p (.slice none 0 0) (.slice none 0 0) (log0 0)) := ⟨_, rfl⟩
  have hf0 : Fr [] w W := by rw [hW]; exact ((Fr.refl [] w).alloc _).alloc _
  have hdb : W.heap[w.heap.size]? = some (.cells #[dskV p] 133) := by rw [hW, Below.heap_alloc _ _ w.heap.size (by simp)]; exact heap_alloc_new w _
  have hlb : W.heap[w.heap.size + 1]? = some (logO p (.slice none 0 0) (.slice none 0 0) (log0 0)) := by rw [hW]; have := heap_alloc_new (w.alloc (.cells #[dskV p] 133)) (logO p (.slice none 0 0) (.slice none 0 0) (log0 0)); rw [World.size_alloc] at this; exact this
  have hl0 : LogIn W B (w.heap.size + 1) p bD bN pv (.slice none 0 0) (.slice none 0 0) (log0 0) d n nD 0 := { disk := h.new hf0, blk := hlb, base := by omega, segs := World.ownsRow_nil _ _ _ _, recs := World.ownsRow_nil _ _ _ _, segsN := ⟨by simp [log0], by simp [log0]⟩, recsN := by simp [log0], fillN := by simp [log0], nextN := by simp [log0], durN := by simp [log0] }
  have HW : Hid (DiskIn w B p bD bN pv d n nD 0 ∧ Fr [] w W) := ⟨h, hf0⟩
  have H0 : Hid (LogIn W B (w.heap.size + 1) p bD bN pv (.slice none 0 0) (.slice none 0 0) (log0 0) d n nD 0) := hl0
  have HDB : Hid (W.heap[w.heap.size]? = some (.cells #[dskV p] 133)) := hdb
  have hnil := Tryz.eqNil p
  clear h hf0 hdb hlb hl0
  go_enter Tryz.func84, Tryz.ntmps84
  go_wp2_with fail
  have hW2 : W = (w.alloc (.cells #[dskV p] 133)).alloc (.cells #[dskV p, .slice none 0 0, .int .i64 600, .slice none 0 0, .int .u64 0, .int .u64 0, .nilIface] 187) := hW
  rw [← hW2]
  clear hW hW2
  refine (read_empty B (w.heap.size + 1) p bD bN n nD pv d W H0.out hdn hno).mono ?_
  rintro e w1 ⟨rfl, hl1, ho1⟩
  have hdb1 := (ho1.block w.heap.size (Array.getElem?_eq_some_iff.1 HDB.out).1 (H0.out.free HDB.out (by decide) (by decide) (by decide) (by decide) (by decide))).trans HDB.out
  obtain ⟨W2, hW2⟩ : ∃ W2, W2 = (w1.alloc (.cells #[.slice none 0 0] 188)).alloc (.cells #[.func (.func 126) #[.pointer (some ⟨w.heap.size + 1, 0, none⟩)] #[], .func (.func 127) #[] #[.pointer (some ⟨w.heap.size, 0, none⟩), .pointer (some ⟨w1.heap.size, 0, none⟩)]] 160) := ⟨_, rfl⟩
  have hf2 : Fr [] w1 W2 := by rw [hW2]; exact ((Fr.refl [] w1).alloc _).alloc _
  have hu2 : W2.heap[w1.heap.size]? = some (.cells #[.slice none 0 0] 188) := by rw [hW2, Below.heap_alloc _ _ w1.heap.size (by simp)]; exact heap_alloc_new w1 _
  have hst2 : W2.heap[w1.heap.size + 1]? = some (.cells #[.func (.func 126) #[.pointer (some ⟨w.heap.size + 1, 0, none⟩)] #[], .func (.func 127) #[] #[.pointer (some ⟨w.heap.size, 0, none⟩), .pointer (some ⟨w1.heap.size, 0, none⟩)]] 160) := by
    rw [hW2]; have := heap_alloc_new (w1.alloc (.cells #[.slice none 0 0] 188)) (.cells #[.func (.func 126) #[.pointer (some ⟨w.heap.size + 1, 0, none⟩)] #[], .func (.func 127) #[] #[.pointer (some ⟨w.heap.size, 0, none⟩), .pointer (some ⟨w1.heap.size, 0, none⟩)]] 160); rw [World.size_alloc] at this; exact this
  have hdb2 : W2.heap[w.heap.size]? = some (.cells #[dskV p] 133) := (hf2.block w.heap.size (Array.getElem?_eq_some_iff.1 hdb1).1 (by simp)).trans hdb1
  have HC : Hid (Calls Tryz.prog 125 #[.slice (some ⟨w1.heap.size + 1, 0, none⟩) 2 2] W2 (PutL B (w.heap.size + 1) p bD bN n [] ((log0 1).opens d) W2)) := inTurnO B (w.heap.size + 1) p bD bN n nD 0 (w1.heap.size + 1) w.heap.size w1.heap.size pv (.slice none 0 0) (.slice none 0 0) (log0 1) d W2 (hl1.new hf2) hn hst2 hdb2 hu2
  have HO : Hid (OFr (w.heap.size + 1) p W W2) := ho1.trans (hl1.newO hf2)
  clear hl1 ho1 hdb1 hf2 hu2 hst2 hdb2
  go_wp2_with fail
  rw [← hW2]
  clear hW2
  refine HC.out.mono ?_
  rintro e w3 ⟨rfl, ⟨pv3, sv3, rv3, nD3, nN3, hl3⟩, ho3⟩
  have H3 : Hid (LogIn w3 B (w.heap.size + 1) p bD bN pv3 sv3 rv3 ((log0 1).opens d).1 ((log0 1).opens d).2.1 n nD3 nN3) := hl3
  have HD : Hid (DFr p w w3) := DFr.ofO HW.out.1 H0.out HW.out.2 (by omega) (HO.out.trans ho3.ofr) hl3
  clear hl3 ho3
  rw [hr, errN_ok]
  go_wp2
  go_ret2
  exact ⟨w.heap.size + 1, rfl, by omega, ⟨pv3, sv3, rv3, nD3, nN3, H3.out⟩, HD.out⟩
set_option maxHeartbeats 1000000 in
theorem openLog_empty (B p bD bN n nD : Nat) (pv : Value) (d : ADisk) (w : World) (h : DiskIn w B p bD bN pv d n nD 0) (hdn : d.down = false) (hno : d.now markNm = none) (hr : ((log0 1).opens d).2.2 = 0) :
    Calls Tryz.prog 40 #[dskV p] w (OpenPost B p bD bN n ((log0 1).opens d) w) := by
  have HC : Hid (Calls Tryz.prog 84 #[dskV p] w (OpenPost B p bD bN n ((log0 1).opens d) w)) := jopen_empty B p bD bN n nD pv d w h hdn hno hr
  clear h
  go_enter Tryz.func40, Tryz.ntmps40
  go_wp2_with fail
  refine HC.out.mono ?_
  rintro e w1 ⟨lp, rfl, h1⟩
  have H1 : Hid (w.heap.size ≤ lp ∧ (∃ pv sv rv nD nN, LogIn w1 B lp p bD bN pv sv rv ((log0 1).opens d).1 ((log0 1).opens d).2.1 n nD nN) ∧ DFr p w w1) := h1
  clear h1
  go_wp2
  go_ret2
  exact ⟨lp, rfl, H1.out⟩
end Go.Proofs.YtkhjhojmhllkaaaGreatDoor
/- HOSTS: a log's Append, Force, Cut; Next, Is. (Written by mkhost.py.) -/
namespace Go.Proofs.YtkhjhojmhllkaaaGreatDoor
open Go.RowKit
open Sc

abbrev fallO (a b c d : Int) : Obj := .cells #[.int .i64 a, .int .i64 b, .int .i64 c, .int .i64 d] 28
/-- what stands behind a host's call -/
def HostPost (B hp lp p bD bN n : Nat) (v : Value) (l : ALog) (d : ADisk) (w : World) (e : Ending) (w' : World) : Prop :=
  e = .returned v ∧ HostIn w' B hp lp p bD bN l (d.knob (-1) (-1)) n ∧ OFr lp p w w'
theorem OFr.fall {w w' : World} {B lp p bD bN n nD nN q : Nat} {pv sv rv : Value} {l : ALog} {d : ADisk} {a b c k : Int} (hf : OFr lp p w w') (h : LogIn w B lp p bD bN pv sv rv l d n nD nN) (hh : w.heap[q]? = some (fallO a b c k)) : w'.heap[q]? = some (fallO a b c k) :=
  (hf.block q (Array.getElem?_eq_some_iff.1 hh).1 (h.free hh (by decide) (by decide) (by decide) (by decide) (by decide))).trans hh
/-- behind after and Told -/
theorem hostEnd {B hp lp p bD bN n : Nat} {l : ALog} {d : ADisk} {w w1 w2 w3 : World} {pv sv rv : Value} {nD nN : Nat} (h1 : LogIn w1 B lp p bD bN pv sv rv l d n nD nN) (ho1 : OFr lp p w w1) (hh1 : w1.heap[hp]? = some (hostO p true (.pointer (some ⟨lp, 0, none⟩)))) (hdn : d.down = false)
    (hf2 : Fr [p] w1 w2) (hb2 : w2.heap[p]? = some (dskO bD bN pv (-1) (-1) false)) (hf3 : Fr [] w2 w3) : HostIn w3 B hp lp p bD bN l (d.knob (-1) (-1)) n ∧ OFr lp p w w3 := by
  rw [← hdn] at hb2
  obtain ⟨h2, ho2⟩ := h1.knob (-1) (-1) hf2 hb2
  have h3 := h2.new hf3
  have ho3 := h2.newO hf3
  have ho := (ho1.trans ho2).trans ho3
  exact ⟨⟨(ho2.trans ho3).host h1 hh1, _, _, _, _, _, h3⟩, ho⟩
set_option maxRecDepth 100000 in
set_option maxHeartbeats 4000000 in
theorem hAppend (B hp lp p bD bN n : Nat) (kind : Nat) (s : ByteArray) (l : ALog) (d : ADisk) (a b c k : Int) (w : World) (h : HostIn w B hp lp p bD bN l d n) (hB : 2 ≤ B) (hmet : Met w) (hk : kind < 256) (hn : n + 3 < 67108864) (hsg : l.filled < 600 → l.segs ≠ []) (hpow : Pows w)
    (hdn : (l.append (d.knob a b) kind s).2.1.down = false) :
    Calls Tryz.prog 55 #[.pointer (some ⟨hp, 0, none⟩), .int .u8 (kind : Int), .string s, fallV a b c k] w
      (HostPost B hp lp p bD bN (n + 3) (.tuple #[.int .u64 ((l.append (d.knob a b) kind s).2.2.1 : Int), .int .i64 ((l.append (d.knob a b) kind s).2.2.2 : Int)]) (l.append (d.knob a b) kind s).1 (l.append (d.knob a b) kind s).2.1 w) := by
  obtain ⟨hh, pv, sv, rv, nD, nN, hl⟩ := h
  obtain ⟨W, hW⟩ : ∃ W, W = w.alloc (fallO a b c k) := ⟨_, rfl⟩
  have hf0 : Fr [] w W := by rw [hW]; exact (Fr.refl [] w).alloc _
  have hl0 := hl.new hf0
  have ho0 := hl.newO hf0
  have hh0 := ho0.host hl hh
  have hx0 : W.heap[w.heap.size]? = some (fallO a b c k) := by rw [hW]; exact heap_alloc_new w _
  have c4 := blk_cell hh0 4
  have x0 := blk_cell hx0 0
  have x1 := blk_cell hx0 1
  have x2 := blk_cell hx0 2
  have x3 := blk_cell hx0 3
  simp at c4 x0 x1 x2 x3
  rw [hW] at c4 x0 x1 x2 x3
  have HH : Hid (W.heap[hp]? = some (hostO p true (.pointer (some ⟨lp, 0, none⟩)))) := hh0
  have HX : Hid (W.heap[w.heap.size]? = some (fallO a b c k)) := hx0
  have HL : Hid (LogIn W B lp p bD bN pv sv rv l d n nD nN) := hl0
  have HO : Hid (OFr lp p w W) := ho0
  have HLw : Hid (LogIn w B lp p bD bN pv sv rv l d n nD nN) := hl
  clear hh hl hf0 hl0 ho0 hh0 hx0
  go_enter Tryz.func55, Tryz.ntmps55
  go_wp2_with fail
  rw [← hW]
  clear hW c4 x0 x1 x2 x3
  refine (before_any hp p bD bN pv _ true d.down d.left d.full a b c k W HH.out HL.out.disk.blk).mono ?_
  rintro e w1 ⟨rfl, hb1, hf1⟩
  obtain ⟨hl1, ho1⟩ := HL.out.knob a b hf1 hb1
  have HL1 : Hid (LogIn w1 B lp p bD bN pv sv rv l (d.knob a b) n nD nN) := hl1
  have HO1 : Hid (OFr lp p w w1) := HO.out.trans ho1
  have hh1 := ho1.host HL.out HH.out
  have k4 := blk_cell hh1 4
  simp at k4
  have HH1 : Hid (w1.heap[hp]? = some (hostO p true (.pointer (some ⟨lp, 0, none⟩)))) := hh1
  have HX1 : Hid (w1.heap[w.heap.size]? = some (fallO a b c k)) := ho1.fall HL.out HX.out
  have hpow1 : Pows w1 := HO1.out.pows HLw.out hB hpow
  clear hl1 ho1 hh1 hb1 hf1
  go_wp2_with fail
  have hap : Calls Tryz.prog 100 #[.pointer (some ⟨lp, 0, none⟩), .int .u8 (kind : Int), .string s] w1 (AppPost B lp p bD bN (n + 3) (l.append (d.knob a b) kind s) w1) := by
    by_cases hs : 255 < s.size
    · refine (lappend_no B lp p bD bN n nD nN kind pv sv rv l (d.knob a b) s w1 HL1.out hs (by omega)).mono ?_
      rintro e w2 ⟨he, ⟨pv2, sv2, rv2, nD2, nN2, hl2⟩, ho2⟩
      exact ⟨he, ⟨pv2, sv2, rv2, nD2, nN2, hl2.mores (by omega) (by omega)⟩, ho2⟩
    · exact lappend_yes B lp p bD bN n nD nN kind pv sv rv l (d.knob a b) s w1 HL1.out (by omega) hk (by omega) hB hsg hpow1
  refine hap.mono ?_
  clear hap
  obtain ⟨r, hr⟩ : ∃ r, r = l.append (d.knob a b) kind s := ⟨_, rfl⟩
  rw [← hr] at hdn
  rintro e w2 hpost
  rw [← hr] at hpost
  have HR : Hid (r = l.append (d.knob a b) kind s) := hr
  clear hr
  obtain ⟨rfl, ⟨pv2, sv2, rv2, nD2, nN2, hl2⟩, ho2⟩ := hpost
  have HL2 : Hid (LogIn w2 B lp p bD bN pv2 sv2 rv2 r.1 r.2.1 (n + 3) nD2 nN2) := hl2
  have HO2 : Hid (OFr lp p w w2) := HO1.out.trans ho2
  have hh2 := ho2.host HL1.out HH1.out
  have HH2 : Hid (w2.heap[hp]? = some (hostO p true (.pointer (some ⟨lp, 0, none⟩)))) := hh2
  have hx2 := ho2.fall HL1.out HX1.out
  have y0 := blk_cell hx2 0
  have y1 := blk_cell hx2 1
  have y2 := blk_cell hx2 2
  have y3 := blk_cell hx2 3
  simp at y0 y1 y2 y3
  have hmet2 : Met w2 := HO2.out.met HLw.out hB hmet
  clear hl2 ho2 hh2 k4 hx2
  go_wp2_with fail
  have hbd := HL2.out.disk.blk
  rw [hdn] at hbd
  refine (after_well hp p bD bN pv2 _ true r.2.1.left r.2.1.full a b c k w2 HH2.out hbd).mono ?_
  rintro e w3 ⟨rfl, hb3, hf3⟩
  have hmet3 : Met w3 := by
    have := (HL2.out.knob (-1) (-1) hf3 (by rw [hdn]; exact hb3)).2
    exact this.met HL2.out hB hmet2
  have HB3 : Hid (w3.heap[p]? = some (dskO bD bN pv2 (-1) (-1) false) ∧ Fr [p] w2 w3) := ⟨hb3, hf3⟩
  clear hb3 hf3 hbd y0 y1 y2 y3
  go_wp2_with fail
  refine (told_any r.2.2.2 w3 hmet3).mono ?_
  rintro e w4 ⟨rfl, hf4⟩
  have HF4 : Hid (Fr [] w3 w4) := hf4
  clear hf4
  go_wp2
  go_ret2
  obtain ⟨z1, z2⟩ := hostEnd HL2.out HO2.out HH2.out hdn HB3.out.2 HB3.out.1 HF4.out
  have hr := HR.out
  subst hr
  exact ⟨rfl, z1, z2⟩
set_option maxRecDepth 100000 in
set_option maxHeartbeats 4000000 in
theorem hForce (B hp lp p bD bN n : Nat) (l : ALog) (d : ADisk) (a b c k : Int) (w : World) (h : HostIn w B hp lp p bD bN l d n) (hB : 2 ≤ B) (hmet : Met w) (hn : n ≤ 67108864)
    (hdn : (l.force (d.knob a b)).2.1.down = false) :
    Calls Tryz.prog 57 #[.pointer (some ⟨hp, 0, none⟩), fallV a b c k] w
      (HostPost B hp lp p bD bN (n) (.int .i64 ((l.force (d.knob a b)).2.2 : Int)) (l.force (d.knob a b)).1 (l.force (d.knob a b)).2.1 w) := by
  obtain ⟨hh, pv, sv, rv, nD, nN, hl⟩ := h
  obtain ⟨W, hW⟩ : ∃ W, W = w.alloc (fallO a b c k) := ⟨_, rfl⟩
  have hf0 : Fr [] w W := by rw [hW]; exact (Fr.refl [] w).alloc _
  have hl0 := hl.new hf0
  have ho0 := hl.newO hf0
  have hh0 := ho0.host hl hh
  have hx0 : W.heap[w.heap.size]? = some (fallO a b c k) := by rw [hW]; exact heap_alloc_new w _
  have c4 := blk_cell hh0 4
  have x0 := blk_cell hx0 0
  have x1 := blk_cell hx0 1
  have x2 := blk_cell hx0 2
  have x3 := blk_cell hx0 3
  simp at c4 x0 x1 x2 x3
  rw [hW] at c4 x0 x1 x2 x3
  have HH : Hid (W.heap[hp]? = some (hostO p true (.pointer (some ⟨lp, 0, none⟩)))) := hh0
  have HX : Hid (W.heap[w.heap.size]? = some (fallO a b c k)) := hx0
  have HL : Hid (LogIn W B lp p bD bN pv sv rv l d n nD nN) := hl0
  have HO : Hid (OFr lp p w W) := ho0
  have HLw : Hid (LogIn w B lp p bD bN pv sv rv l d n nD nN) := hl
  clear hh hl hf0 hl0 ho0 hh0 hx0
  go_enter Tryz.func57, Tryz.ntmps57
  go_wp2_with fail
  rw [← hW]
  clear hW c4 x0 x1 x2 x3
  refine (before_any hp p bD bN pv _ true d.down d.left d.full a b c k W HH.out HL.out.disk.blk).mono ?_
  rintro e w1 ⟨rfl, hb1, hf1⟩
  obtain ⟨hl1, ho1⟩ := HL.out.knob a b hf1 hb1
  have HL1 : Hid (LogIn w1 B lp p bD bN pv sv rv l (d.knob a b) n nD nN) := hl1
  have HO1 : Hid (OFr lp p w w1) := HO.out.trans ho1
  have hh1 := ho1.host HL.out HH.out
  have k4 := blk_cell hh1 4
  simp at k4
  have HH1 : Hid (w1.heap[hp]? = some (hostO p true (.pointer (some ⟨lp, 0, none⟩)))) := hh1
  have HX1 : Hid (w1.heap[w.heap.size]? = some (fallO a b c k)) := ho1.fall HL.out HX.out
  clear hl1 ho1 hh1 hb1 hf1
  go_wp2_with fail
  have hap := force_any B lp p bD bN n nD nN pv sv rv l (d.knob a b) w1 HL1.out hn
  refine hap.mono ?_
  clear hap
  obtain ⟨r, hr⟩ : ∃ r, r = l.force (d.knob a b) := ⟨_, rfl⟩
  rw [← hr] at hdn
  rintro e w2 hpost
  rw [← hr] at hpost
  have HR : Hid (r = l.force (d.knob a b)) := hr
  clear hr
  obtain ⟨rfl, ⟨pv2, sv2, rv2, nD2, nN2, hl2⟩, ho2⟩ := hpost
  have HL2 : Hid (LogIn w2 B lp p bD bN pv2 sv2 rv2 r.1 r.2.1 (n) nD2 nN2) := hl2
  have HO2 : Hid (OFr lp p w w2) := HO1.out.trans ho2
  have hh2 := ho2.host HL1.out HH1.out
  have HH2 : Hid (w2.heap[hp]? = some (hostO p true (.pointer (some ⟨lp, 0, none⟩)))) := hh2
  have hx2 := ho2.fall HL1.out HX1.out
  have y0 := blk_cell hx2 0
  have y1 := blk_cell hx2 1
  have y2 := blk_cell hx2 2
  have y3 := blk_cell hx2 3
  simp at y0 y1 y2 y3
  have hmet2 : Met w2 := HO2.out.met HLw.out hB hmet
  clear hl2 ho2 hh2 k4 hx2
  go_wp2_with fail
  have hbd := HL2.out.disk.blk
  rw [hdn] at hbd
  refine (after_well hp p bD bN pv2 _ true r.2.1.left r.2.1.full a b c k w2 HH2.out hbd).mono ?_
  rintro e w3 ⟨rfl, hb3, hf3⟩
  have hmet3 : Met w3 := by
    have := (HL2.out.knob (-1) (-1) hf3 (by rw [hdn]; exact hb3)).2
    exact this.met HL2.out hB hmet2
  have HB3 : Hid (w3.heap[p]? = some (dskO bD bN pv2 (-1) (-1) false) ∧ Fr [p] w2 w3) := ⟨hb3, hf3⟩
  clear hb3 hf3 hbd y0 y1 y2 y3
  go_wp2_with fail
  refine (told_any r.2.2 w3 hmet3).mono ?_
  rintro e w4 ⟨rfl, hf4⟩
  have HF4 : Hid (Fr [] w3 w4) := hf4
  clear hf4
  go_wp2
  go_ret
  obtain ⟨z1, z2⟩ := hostEnd HL2.out HO2.out HH2.out hdn HB3.out.2 HB3.out.1 HF4.out
  have hr := HR.out
  subst hr
  exact ⟨rfl, z1, z2⟩
set_option maxRecDepth 100000 in
set_option maxHeartbeats 4000000 in
theorem hCut (B hp lp p bD bN n : Nat) (low : Nat) (l : ALog) (d : ADisk) (a b c k : Int) (w : World) (h : HostIn w B hp lp p bD bN l d n) (hB : 2 ≤ B) (hmet : Met w) (hn : n + 2 + l.segs.length ≤ 67108864) (hpow : Pows w) (hinv : l.failed = 0 → ∀ k s : Nat, l.segs[k]? = some s → ∃ r rs, l.recs = r :: rs ∧ r.lsn ≤ s ∧ s - r.lsn < l.recs.length)
    (hdn : (l.cut (d.knob a b) low).2.1.down = false) :
    Calls Tryz.prog 58 #[.pointer (some ⟨hp, 0, none⟩), .int .u64 (low : Int), fallV a b c k] w
      (HostPost B hp lp p bD bN (n + 2 + l.segs.length) (.int .i64 ((l.cut (d.knob a b) low).2.2 : Int)) (l.cut (d.knob a b) low).1 (l.cut (d.knob a b) low).2.1 w) := by
  obtain ⟨hh, pv, sv, rv, nD, nN, hl⟩ := h
  obtain ⟨W, hW⟩ : ∃ W, W = w.alloc (fallO a b c k) := ⟨_, rfl⟩
  have hf0 : Fr [] w W := by rw [hW]; exact (Fr.refl [] w).alloc _
  have hl0 := hl.new hf0
  have ho0 := hl.newO hf0
  have hh0 := ho0.host hl hh
  have hx0 : W.heap[w.heap.size]? = some (fallO a b c k) := by rw [hW]; exact heap_alloc_new w _
  have c4 := blk_cell hh0 4
  have x0 := blk_cell hx0 0
  have x1 := blk_cell hx0 1
  have x2 := blk_cell hx0 2
  have x3 := blk_cell hx0 3
  simp at c4 x0 x1 x2 x3
  rw [hW] at c4 x0 x1 x2 x3
  have HH : Hid (W.heap[hp]? = some (hostO p true (.pointer (some ⟨lp, 0, none⟩)))) := hh0
  have HX : Hid (W.heap[w.heap.size]? = some (fallO a b c k)) := hx0
  have HL : Hid (LogIn W B lp p bD bN pv sv rv l d n nD nN) := hl0
  have HO : Hid (OFr lp p w W) := ho0
  have HLw : Hid (LogIn w B lp p bD bN pv sv rv l d n nD nN) := hl
  clear hh hl hf0 hl0 ho0 hh0 hx0
  go_enter Tryz.func58, Tryz.ntmps58
  go_wp2_with fail
  rw [← hW]
  clear hW c4 x0 x1 x2 x3
  refine (before_any hp p bD bN pv _ true d.down d.left d.full a b c k W HH.out HL.out.disk.blk).mono ?_
  rintro e w1 ⟨rfl, hb1, hf1⟩
  obtain ⟨hl1, ho1⟩ := HL.out.knob a b hf1 hb1
  have HL1 : Hid (LogIn w1 B lp p bD bN pv sv rv l (d.knob a b) n nD nN) := hl1
  have HO1 : Hid (OFr lp p w w1) := HO.out.trans ho1
  have hh1 := ho1.host HL.out HH.out
  have k4 := blk_cell hh1 4
  simp at k4
  have HH1 : Hid (w1.heap[hp]? = some (hostO p true (.pointer (some ⟨lp, 0, none⟩)))) := hh1
  have HX1 : Hid (w1.heap[w.heap.size]? = some (fallO a b c k)) := ho1.fall HL.out HX.out
  have hpow1 : Pows w1 := HO1.out.pows HLw.out hB hpow
  clear hl1 ho1 hh1 hb1 hf1
  go_wp2_with fail
  have hap := cut_any B lp p bD bN n nD nN low pv sv rv l (d.knob a b) w1 HL1.out hn hB hpow1 hinv
  refine hap.mono ?_
  clear hap
  obtain ⟨r, hr⟩ : ∃ r, r = l.cut (d.knob a b) low := ⟨_, rfl⟩
  rw [← hr] at hdn
  rintro e w2 hpost
  rw [← hr] at hpost
  have HR : Hid (r = l.cut (d.knob a b) low) := hr
  clear hr
  obtain ⟨rfl, ⟨pv2, sv2, rv2, nD2, nN2, hl2⟩, ho2⟩ := hpost
  have HL2 : Hid (LogIn w2 B lp p bD bN pv2 sv2 rv2 r.1 r.2.1 (n + 2 + l.segs.length) nD2 nN2) := hl2
  have HO2 : Hid (OFr lp p w w2) := HO1.out.trans ho2
  have hh2 := ho2.host HL1.out HH1.out
  have HH2 : Hid (w2.heap[hp]? = some (hostO p true (.pointer (some ⟨lp, 0, none⟩)))) := hh2
  have hx2 := ho2.fall HL1.out HX1.out
  have y0 := blk_cell hx2 0
  have y1 := blk_cell hx2 1
  have y2 := blk_cell hx2 2
  have y3 := blk_cell hx2 3
  simp at y0 y1 y2 y3
  have hmet2 : Met w2 := HO2.out.met HLw.out hB hmet
  clear hl2 ho2 hh2 k4 hx2
  go_wp2_with fail
  have hbd := HL2.out.disk.blk
  rw [hdn] at hbd
  refine (after_well hp p bD bN pv2 _ true r.2.1.left r.2.1.full a b c k w2 HH2.out hbd).mono ?_
  rintro e w3 ⟨rfl, hb3, hf3⟩
  have hmet3 : Met w3 := by
    have := (HL2.out.knob (-1) (-1) hf3 (by rw [hdn]; exact hb3)).2
    exact this.met HL2.out hB hmet2
  have HB3 : Hid (w3.heap[p]? = some (dskO bD bN pv2 (-1) (-1) false) ∧ Fr [p] w2 w3) := ⟨hb3, hf3⟩
  clear hb3 hf3 hbd y0 y1 y2 y3
  go_wp2_with fail
  refine (told_any r.2.2 w3 hmet3).mono ?_
  rintro e w4 ⟨rfl, hf4⟩
  have HF4 : Hid (Fr [] w3 w4) := hf4
  clear hf4
  go_wp2
  go_ret
  obtain ⟨z1, z2⟩ := hostEnd HL2.out HO2.out HH2.out hdn HB3.out.2 HB3.out.1 HF4.out
  have hr := HR.out
  subst hr
  exact ⟨rfl, z1, z2⟩
set_option maxHeartbeats 1000000 in
theorem hNext (B hp lp p bD bN n : Nat) (l : ALog) (d : ADisk) (w : World) (h : HostIn w B hp lp p bD bN l d n) :
    Calls Tryz.prog 51 #[.pointer (some ⟨hp, 0, none⟩)] w fun e w' => e = .returned (.int .u64 (l.next : Int)) ∧ w' = w := by
  obtain ⟨hh, pv, sv, rv, nD, nN, hl⟩ := h
  have c4 := blk_cell hh 4
  have m4 := blk_cell hl.blk 4
  simp at c4 m4
  have hnx : Calls Tryz.prog 97 #[.pointer (some ⟨lp, 0, none⟩)] w fun e w' => e = .returned (.int .u64 (l.next : Int)) ∧ w' = w := by
    go_enter Tryz.func97, Tryz.ntmps97
    go_wp2
    go_ret
    exact ⟨rfl, rfl⟩
  clear hh hl
  go_enter Tryz.func51, Tryz.ntmps51
  go_wp2_with fail
  refine hnx.mono ?_
  rintro e w1 ⟨rfl, rfl⟩
  go_wp2
  go_ret
  exact ⟨rfl, rfl⟩
set_option maxHeartbeats 1000000 in
theorem hIs (p hp : Nat) (up : Bool) (lv : Value) (w : World) (hh : w.heap[hp]? = some (hostO p up lv)) :
    Calls Tryz.prog 24 #[.pointer (some ⟨hp, 0, none⟩)] w fun e w' => e = .returned (.bool up) ∧ w' = w := by
  have c3 := blk_cell hh 3
  simp at c3
  go_enter Tryz.func24, Tryz.ntmps24
  go_wp2
  go_ret
  exact ⟨rfl, rfl⟩
end Go.Proofs.YtkhjhojmhllkaaaGreatDoor
