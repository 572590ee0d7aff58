import Derived.Test.YtfkoflldjnlhaaaDoorSame
/- scans: at any bytes both answer the same. -/
namespace Go.Proofs.YtfkoflldjnlhaaaDoor
open Go.RowKit
open Sc

set_option maxRecDepth 100000 in
set_option maxHeartbeats 1000000 in
theorem scans_any (v : Value) (l : List Nat) (w : World) (hs : Src w v l) (hb : Byt l) (hl : l.length ≤ 1099511627776) :
    Calls Tryd.prog 8 #[v] w fun e w' => e = .returned (.bool true) ∧ Below w.heap.size w w' := by
  have HS : Hid (Src w v l) := hs
  clear hs
  have hnil : ∀ w : World, (binOp .eql 22 (.slice none 0 0) (.slice none 0 0)).run Tryd.prog w = .ok (.bool true) w := fun w => by rfl
  go_enter Tryd.func8, Tryd.ntmps8
  go_wp2_with fail
  refine (scanP v l _ HS.out hb hl).mono ?_
  rintro e w1 ⟨k, v1, rfl, he1, ho1, hn1, hb1⟩
  have HO1 : Hid (w1.ownsRow w.heap.size 29 3 v1 k (recsV (st k l).1)) := ho1
  have HB1 : Hid (Below w.heap.size w w1) := hb1
  have hz1 := hb1.size
  have HE1 : Hid (Ended l k) := he1
  clear ho1 hb1 he1
  go_wp2_with fail
  refine (scanR v l _ (HS.out.below HB1.out) hb hl).mono ?_
  rintro e w2 ⟨k2, v2, rfl, he2, ho2, hn2, hb2⟩
  obtain rfl : k = k2 := ended_unique HE1.out he2
  have HR1 : Hid (RecsAt w2 v1 (st k l).1) := recsAt_own (ownR_below HO1.out hb2)
  have HR2 : Hid (RecsAt w2 v2 (st k l).1) := recsAt_own ho2
  have HB2 : Hid (Below w.heap.size w w2) := HB1.out.trans (hb2.mono hz1)
  have hkl := st_len l k
  have hk2 := st_ge l k
  have hk3 := st_le HE1.out.1
  clear ho2 hb2 he2 HO1
  obtain ⟨a1, c1, hv1, H1⟩ := HR1.out
  rw [hkl] at hv1
  have HV1 : Hid (v1 = .slice a1 k c1) := hv1
  have HN1 : Hid (k = 0 → v1 = .slice none 0 0) := hn1
  clear H1 hv1 hn1 hn2
  generalize (st k l).2 = E at *
  go_wp2_with fail
  refine (same_any v1 v2 (st k l).1 _ HR1.out HR2.out (by rw [hkl]; omega)).mono ?_
  rintro e w3 ⟨rfl, q, hw3⟩
  have HB3 : Hid (Below w.heap.size w w3) := by show Below _ _ _; rw [hw3]; exact below_drewN HB2.out q
  have hkE : k ≤ 1099511627776 := by omega
  clear hw3 hkl hk2 hk3 HE1 HR2
  by_cases hk0 : k = 0
  · have hv0 := HN1.out hk0
    subst hk0
    clear HN1 HV1 HR1
    subst hv0
    go_wp2
    go_ret
    exact ⟨rfl, HB3.out⟩
  · have hkp : (0 : Int) < (k : Int) := by omega
    have hv1 := HV1.out
    clear HN1 HR1 HV1
    subst hv1
    go_wp2
    go_ret
    exact ⟨rfl, HB3.out⟩
end Go.Proofs.YtfkoflldjnlhaaaDoor
