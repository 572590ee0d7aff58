import Derived.Test.YtfkoflldjnlhaaaDoorWireScan
/- Scan through shardcommit and plain. -/
namespace Go.Proofs.YtfkoflldjnlhaaaDoor
open Go.RowKit
open Sc

/-- what a scan of the bytes l answers -/
def Scanned (l : List Nat) (w : World) (e : Ending) (w' : World) : Prop :=
  ∃ k v', e = .returned (.tuple #[v', .int .i64 ((st k l).2 : Nat)]) ∧ Ended l k ∧ w'.ownsRow w.heap.size 29 3 v' k (recsV (st k l).1) ∧ (k = 0 → v' = .slice none 0 0) ∧ Below w.heap.size w w'

set_option maxHeartbeats 400000 in
theorem scanW_nil (w : World) : Calls Tryd.prog 32 #[.slice none 0 0] w (Scanned [] w) := by
  have hnot : ∀ (x : Bool) (w : World), (Op.unary .not (.bool x)).run Tryd.prog w = .ok (.bool (!x)) w := fun _ _ => rfl
  go_enter Tryd.func32, Tryd.ntmps32
  go_wp2
  refine wp_loop_rounds 1 ?_
  rw [rounds_succ]
  go_wp2_with fail
  refine (firstFrame_short _ _ _ _ (by omega)).mono ?_
  rintro e w1 ⟨rfl, rfl⟩
  go_wp2
  go_ret2
  exact ⟨0, _, rfl, ended_nil, World.ownsRow_nil _ _ _ _, fun _ => rfl, (Below.refl _ _).alloc (Nat.le_refl _) _⟩

theorem scanW (v : Value) (l : List Nat) (w : World) (hs : Src w v l) (hb : Byt l) (hl : l.length ≤ 1099511627776) : Calls Tryd.prog 32 #[v] w (Scanned l w) := by
  rcases hs with ⟨rfl, rfl⟩ | ⟨b, off, cap, rfl, hrow, hlt, hc, hc2⟩
  · exact scanW_nil w
  · exact scanW_some b off cap l w hb hl hrow hlt hc hc2

set_option maxHeartbeats 400000 in
theorem scanS (v : Value) (l : List Nat) (w : World) (hs : Src w v l) (hb : Byt l) (hl : l.length ≤ 1099511627776) : Calls Tryd.prog 26 #[v] w (Scanned l w) := by
  have HS : Hid (Src w v l) := hs
  clear hs
  go_enter Tryd.func26, Tryd.ntmps26
  go_wp2_with fail
  refine (scanW v l _ HS.out hb hl).mono ?_
  rintro e w1 ⟨k, v1, rfl, he, ho, hn, hb1⟩
  go_wp2
  go_ret2
  exact ⟨k, v1, rfl, he, ho, hn, hb1⟩

theorem src_own {w : World} {base : Nat} {v : Value} {l : List Nat} (h : w.ownsRow base 5 1 v l.length (bs l)) : Src w v l := by
  by_cases h0 : 0 < l.length
  · obtain ⟨g, cap, rfl, _, h2, h3, h4, h5⟩ := own_shape h h0
    exact Or.inr ⟨g, 0, cap, rfl, h5, h2, h3, h4⟩
  · have hl : l = [] := List.eq_nil_of_length_eq_zero (by omega)
    subst hl
    rcases h.2 with ⟨rfl, _⟩ | ⟨g, cap, cur, rfl, _, hg, _, hm, _⟩
    · exact Or.inl ⟨rfl, rfl⟩
    · exact Or.inr ⟨g, 0, cap, rfl, (fun i hi => by simp at hi), (Array.getElem?_eq_some_iff.1 hg).1, Nat.zero_le _, hm⟩

set_option maxHeartbeats 1000000 in
theorem scanP (v : Value) (l : List Nat) (w : World) (hs : Src w v l) (hb : Byt l) (hl : l.length ≤ 1099511627776) : Calls Tryd.prog 14 #[v] w (Scanned l w) := by
  have HS : Hid (Src w v l) := hs
  clear hs
  go_enter Tryd.func14, Tryd.ntmps14
  go_wp2_with (at_builtin; refine wpList_own rfl _ rfl v l rfl HS.out hl ?_; intro v1 w1 ho1 hb1)
  have HO1 : Hid (w1.ownsRow w.heap.size 5 1 v1 l.length (bs l)) := ho1
  have HB1 : Hid (Below w.heap.size w w1) := hb1
  have hz1 : w.heap.size ≤ w1.heap.size := hb1.size
  clear ho1 hb1
  refine (scanS v1 l _ (src_own HO1.out) hb hl).mono ?_
  rintro e w2 ⟨k, v2, rfl, he, ho, hn, hb2⟩
  have HO2 : Hid (w2.ownsRow w.heap.size 5 1 v1 l.length (bs l)) := own_below HO1.out hb2
  have HB2 : Hid (Below w.heap.size w w2) := HB1.out.trans (hb2.mono hz1)
  have hz2 : w1.heap.size ≤ w2.heap.size := hb2.size
  have HR2 : Hid (w2.ownsRow w1.heap.size 29 3 v2 k (recsV (st k l).1)) := ho
  clear ho hb2
  go_wp2_with fail
  refine (scribble_grow w.heap.size l.length v1 (bs l) _ HO2.out hl).mono ?_
  rintro e w3 ⟨rfl, hg3⟩
  have HB3 : Hid (Below w.heap.size w w3) := HB2.out.grown hg3 (by omega) (fun q hq => (HO2.out.lt q hq).1)
  have HR3 : Hid (w3.ownsRow w1.heap.size 29 3 v2 k (recsV (st k l).1)) := HR2.out.kept hg3 (by
    cases hv : v2.ownBlock with
    | none => exact Or.inl rfl
    | some q => exact Or.inr (fun e => by
        have h1 := (HR2.out.lt q hv).1
        have h2 := (HO1.out.lt q e.symm).2
        omega))
  clear hg3
  go_wp2
  go_ret2
  refine ⟨k, v2, rfl, he, ?_, hn, HB3.out⟩
  refine ⟨HR3.out.1, ?_⟩
  rcases HR3.out.2 with h | ⟨g, cap, cur, h1, h2, h3⟩
  · exact .inl h
  · exact .inr ⟨g, cap, cur, h1, by omega, h3⟩
end Go.Proofs.YtfkoflldjnlhaaaDoor
