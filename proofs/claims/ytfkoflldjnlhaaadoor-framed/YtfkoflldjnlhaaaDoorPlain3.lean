import Derived.Test.YtfkoflldjnlhaaaDoorPlain2
/- package plain: DecodeMessage, EncodeMessage. -/
namespace Go.Proofs.YtfkoflldjnlhaaaDoor
open Go.RowKit
open Sc

theorem grown_of_below {w w' : World} (h : Below w.heap.size w w') (r : Option Nat) : w.grownBy w' r := ⟨h.os, h.tape, h.output, h.size, fun k hk _ => h.block k hk⟩
theorem own_below {w w' : World} {base n : Nat} {v : Value} {xs : List Value} (h : w.ownsRow base 5 1 v n xs) (hb : Below w.heap.size w w') : w'.ownsRow base 5 1 v n xs :=
  h.kept (grown_of_below hb none) (by cases v.ownBlock <;> simp)
theorem scribble_grow (base n : Nat) (v : Value) (xs : List Value) (w : World) (hown : w.ownsRow base 5 1 v n xs) (hn : n ≤ 1099511627776) :
    Calls Tryd.prog 24 #[v] w fun e w' => e = .returned (.tuple #[]) ∧ w.grownBy w' v.ownBlock := by
  have h2 := hown.2
  rcases h2 with ⟨rfl, rfl⟩ | ⟨g, cap, cur, rfl, hg, _⟩
  · refine (scribble_nil w).mono ?_
    rintro e w' ⟨rfl, rfl⟩
    exact ⟨rfl, grown_refl _ _⟩
  · refine (scribble_some base g n cap xs w hown hn).mono ?_
    rintro e w' ⟨rfl, hgr⟩
    exact ⟨rfl, hgr⟩
/-- four cells of a message in block B -/
def Four (w : World) (B : Nat) (k f t x : Int) : Prop := w.cell? ⟨B, 0, none⟩ = some (.int .i64 k) ∧ w.cell? ⟨B, 1, none⟩ = some (.int .i64 f) ∧ w.cell? ⟨B, 2, none⟩ = some (.int .i64 t) ∧ w.cell? ⟨B, 3, none⟩ = some (.int .u64 x)
def Free (w : World) (B : Nat) : Prop := ∀ i, w.frozen? ⟨B, i, none⟩ = false
theorem Four.of_block {w w' : World} {B : Nat} {k f t x : Int} (h : Four w B k f t x) (hb : w'.heap[B]? = w.heap[B]?) : Four w' B k f t x := by
  have e : ∀ i, w'.cell? ⟨B, i, none⟩ = w.cell? ⟨B, i, none⟩ := fun i => World.cell?_of_block (a := ⟨B, i, none⟩) hb
  exact ⟨(e 0).trans h.1, (e 1).trans h.2.1, (e 2).trans h.2.2.1, (e 3).trans h.2.2.2⟩
theorem Free.of_block {w w' : World} {B : Nat} (h : Free w B) (hb : w'.heap[B]? = w.heap[B]?) : Free w' B := fun i => (World.frozen?_of_block (a := ⟨B, i, none⟩) hb).trans (h i)

set_option maxRecDepth 100000 in
set_option maxHeartbeats 1000000 in
theorem decP (v : Value) (l : List Nat) (w : World) (hs : Src w v l) (hb : Byt l) (hl : l.length ≤ 1099511627776) (hg : Met w) :
    Calls Tryd.prog 11 #[v] w fun e w' => e = .returned (.tuple #[decV l, .int .i64 (decE l)]) ∧ Below w.heap.size w w' := by
  obtain ⟨k, f, t, x, hV⟩ := decV_form l
  have HV : Hid (decV l = .agg #[.int .i64 k, .int .i64 f, .int .i64 t, .int .u64 x]) := hV
  rw [hV]
  have HG : Hid (Met w) := hg
  have h0 := hg.lt
  have HS : Hid (Src (w.alloc (msgO 0 0 0 0)) v l) := hs.alloc _
  clear hV hs hg
  go_enter Tryd.func11, Tryd.ntmps11
  go_wp2_with (at_builtin; refine wpList_own rfl _ rfl v l rfl HS.out hl ?_; intro v1 w1 ho1 hb1)
  have ho1' : w1.ownsRow (w.heap.size + 1) 5 1 v1 l.length (bs l) := by
    have h := ho1
    rwa [World.size_alloc] at h
  have hb1' : Below (w.heap.size + 1) (w.alloc (msgO 0 0 0 0)) w1 := by
    have h := hb1
    rwa [World.size_alloc] at h
  clear ho1 hb1
  have hz1 : w.heap.size + 1 ≤ w1.heap.size := by have := hb1'.size; simp at this; omega
  refine (decS_own (w.heap.size + 1) l.length v1 l _ ho1' hb).mono ?_
  rintro e w2 ⟨rfl, hb2⟩
  rw [HV.out]
  have ho2 := own_below ho1' hb2
  have hz2 : w1.heap.size ≤ w2.heap.size := hb2.size
  have hb12 : Below (w.heap.size + 1) (w.alloc (msgO 0 0 0 0)) w2 := hb1'.trans (hb2.mono hz1)
  have HO2 : Hid (w2.ownsRow (w.heap.size + 1) 5 1 v1 l.length (bs l)) := ho2
  have HO1 : Hid (w1.ownsRow (w.heap.size + 1) 5 1 v1 l.length (bs l)) := ho1'
  have HB2 : Hid (Below (w.heap.size + 1) (w.alloc (msgO 0 0 0 0)) w2) := hb12
  clear ho2 hb12 ho1' hb1' hb2
  go_wp2_with fail
  refine (scribble_grow (w.heap.size + 1) l.length v1 (bs l) _ (HO2.out.alloc _) hl).mono ?_
  rintro e w3 ⟨rfl, hg3⟩
  have hown1 : ∀ q, v1.ownBlock = some q → w.heap.size + 1 ≤ q ∧ q < w1.heap.size := fun q hq => HO1.out.lt q hq
  have bM : w3.heap[w2.heap.size]? = (w2.alloc (msgO k f t x)).heap[w2.heap.size]? := hg3.block _ (by simp) (fun e => by have := (hown1 _ e.symm).2; omega)
  have bR : w3.heap[w.heap.size]? = (w.alloc (msgO 0 0 0 0)).heap[w.heap.size]? := by
    rw [hg3.block _ (by simp; omega) (fun e => by have := (hown1 _ e.symm).1; omega), Below.heap_alloc _ _ _ (by omega), HB2.out.block _ (by omega)]
  have hB3 : Below w.heap.size w w3 := (((((Below.refl _ _).alloc (Nat.le_refl _) _).trans (HB2.out.mono (by omega))).alloc (by omega) _)).grown hg3 (by simp; omega) (fun q hq => by have := (hown1 _ hq).1; omega)
  have f4 : Four w3 w2.heap.size k f t x := Four.of_block (w := w2.alloc (msgO k f t x)) ⟨by simp, by simp, by simp, by simp⟩ bM
  have r4 : Four w3 w.heap.size 0 0 0 0 := Four.of_block (w := w.alloc (msgO 0 0 0 0)) ⟨by simp, by simp, by simp, by simp⟩ bR
  have rF : Free w3 w.heap.size := Free.of_block (w := w.alloc (msgO 0 0 0 0)) (fun i => by simp) bR
  have hz3 : w2.heap.size < w3.heap.size := by have := hg3.size; simp at this; omega
  have HB3 : Hid (Below w.heap.size w w3) := hB3
  have HM3 : Hid (Met w3) := HG.out.below hB3 h0
  clear hg3 bM bR hB3 hown1
  obtain ⟨c0, c1, c2, c3⟩ := f4
  obtain ⟨r0, r1, r2, r3⟩ := r4
  have q0 := rF 0
  have q1 := rF 1
  have q2 := rF 2
  have q3 := rF 3
  clear rF
  have hz0 : w.heap.size < w3.heap.size := by omega
  have hne : ¬ w.heap.size = w2.heap.size := by omega
  go_wp2
  go_region_held3 (fun w' => w'.cell? ⟨w2.heap.size, 0, none⟩ = some (.int .i64 k) ∧ w'.cell? ⟨w2.heap.size, 1, none⟩ = some (.int .i64 f) ∧ w'.cell? ⟨w2.heap.size, 2, none⟩ = some (.int .i64 t) ∧ w'.cell? ⟨w2.heap.size, 3, none⟩ = some (.int .u64 x)) (go_keep)
    (first | (go_at_call 16; refine (toldE _ _ ?_).mono ?_; exact HM3.out; rintro e w4 ⟨rfl, hb4⟩; have m0 := (hb4.cell (p := ⟨w2.heap.size, 0, none⟩) hz3).trans c0; have s0 := (hb4.cell (p := ⟨w.heap.size, 0, none⟩) hz0).trans r0; have p0 := (hb4.frozen (p := ⟨w.heap.size, 0, none⟩) hz0).trans q0; have m1 := (hb4.cell (p := ⟨w2.heap.size, 1, none⟩) hz3).trans c1; have s1 := (hb4.cell (p := ⟨w.heap.size, 1, none⟩) hz0).trans r1; have p1 := (hb4.frozen (p := ⟨w.heap.size, 1, none⟩) hz0).trans q1; have m2 := (hb4.cell (p := ⟨w2.heap.size, 2, none⟩) hz3).trans c2; have s2 := (hb4.cell (p := ⟨w.heap.size, 2, none⟩) hz0).trans r2; have p2 := (hb4.frozen (p := ⟨w.heap.size, 2, none⟩) hz0).trans q2; have m3 := (hb4.cell (p := ⟨w2.heap.size, 3, none⟩) hz3).trans c3; have s3 := (hb4.cell (p := ⟨w.heap.size, 3, none⟩) hz0).trans r3; have p3 := (hb4.frozen (p := ⟨w.heap.size, 3, none⟩) hz0).trans q3))
  have HB4 : Hid (Below w.heap.size w w4) := HB3.out.drew.trans (hb4.mono (by show w.heap.size ≤ w3.heap.size; omega))
  clear hb4
  go_wp2
  rw [decE_told]
  refine bodyPost_ret (v := .tuple #[.agg #[.int .i64 k, .int .i64 f, .int .i64 t, .int .u64 x], .int .i64 (toldN (decOk l))]) (by simp [results, Tryd.results11, go_sem, s0, s1, s2, s3]) rfl ⟨rfl, ?_⟩
  exact (((HB4.out.setCell (Nat.le_refl _) _).setCell (Nat.le_refl _) _).setCell (Nat.le_refl _) _).setCell (Nat.le_refl _) _

set_option maxHeartbeats 400000 in
theorem encS_no (k f t x : Int) (w : World) (hs : soundB k f t x = false) :
    Calls Tryd.prog 21 #[.agg #[.int .i64 k, .int .i64 f, .int .i64 t, .int .u64 x]] w fun e w' => e = .returned (.tuple #[.slice none 0 0, .iface 24 (.int .i64 2)]) ∧ Below w.heap.size w w' := by
  go_enter Tryd.func21, Tryd.ntmps21
  go_wp2_with fail
  refine (encode_no k f t x _ hs).mono ?_
  rintro e w1 ⟨rfl, hb1⟩
  rw [World.size_alloc] at hb1
  go_wp2
  go_ret2
  exact ⟨rfl, ((Below.refl _ _).alloc (Nat.le_refl _) _).trans (hb1.mono (by omega))⟩
set_option maxHeartbeats 400000 in
theorem encP_no (k f t x : Int) (w : World) (hs : soundB k f t x = false) (hg : Met w) :
    Calls Tryd.prog 9 #[.agg #[.int .i64 k, .int .i64 f, .int .i64 t, .int .u64 x]] w fun e w' => e = .returned (.tuple #[.slice none 0 0, .int .i64 2]) ∧ Below w.heap.size w w' := by
  have HG : Hid (Met w) := hg
  have h0 := hg.lt
  clear hg
  go_enter Tryd.func9, Tryd.ntmps9
  go_wp2_with fail
  refine (encS_no k f t x _ hs).mono ?_
  rintro e w1 ⟨rfl, hb1⟩
  rw [World.size_alloc] at hb1
  have HB1 : Hid (Below w.heap.size w w1) := ((Below.refl _ _).alloc (Nat.le_refl _) _).trans (hb1.mono (by omega))
  clear hb1
  have hz1 := HB1.out.size
  go_wp2_with fail
  refine (told_err 2 _ (HG.out.below HB1.out h0)).mono ?_
  rintro e w2 ⟨rfl, hb2⟩
  have HB2 : Hid (Below w.heap.size w w2) := HB1.out.trans (hb2.mono hz1)
  clear hb2
  go_wp2
  go_ret2
  exact ⟨rfl, HB2.out⟩
set_option maxHeartbeats 400000 in
theorem encS_yes (k f t x : Nat) (w : World) (hs : soundB k f t x = true) (hk : k ≤ 8) (hf : f ≤ 8) (ht : t ≤ 8) (hx : x < 18446744073709551616) :
    Calls Tryd.prog 21 #[.agg #[.int .i64 k, .int .i64 f, .int .i64 t, .int .u64 x]] w fun e w' => ∃ g, e = .returned (.tuple #[.slice (some ⟨g, 0, none⟩) 15 15, .nilIface]) ∧ w.heap.size ≤ g ∧ RowAt w' g 0 (msgBytes k f t x) ∧ Below w.heap.size w w' := by
  have HX : Hid (x < 18446744073709551616) := hx
  clear hx
  go_enter Tryd.func21, Tryd.ntmps21
  go_wp2_with fail
  refine (encode_yes k f t x _ hs hk hf ht HX.out).mono ?_
  rintro e w1 ⟨g, rfl, hgg, hrow, hb1⟩
  rw [World.size_alloc] at hb1 hgg
  go_wp2
  go_ret2
  exact ⟨g, rfl, by omega, hrow, ((Below.refl _ _).alloc (Nat.le_refl _) _).trans (hb1.mono (by omega))⟩
set_option maxHeartbeats 400000 in
theorem encP_yes (k f t x : Nat) (w : World) (hs : soundB k f t x = true) (hk : k ≤ 8) (hf : f ≤ 8) (ht : t ≤ 8) (hx : x < 18446744073709551616) :
    Calls Tryd.prog 9 #[.agg #[.int .i64 k, .int .i64 f, .int .i64 t, .int .u64 x]] w fun e w' => ∃ g, e = .returned (.tuple #[.slice (some ⟨g, 0, none⟩) 15 15, .int .i64 0]) ∧ w.heap.size ≤ g ∧ RowAt w' g 0 (msgBytes k f t x) ∧ Below w.heap.size w w' := by
  have HX : Hid (x < 18446744073709551616) := hx
  clear hx
  go_enter Tryd.func9, Tryd.ntmps9
  go_wp2_with fail
  refine (encS_yes k f t x _ hs hk hf ht HX.out).mono ?_
  rintro e w1 ⟨g, rfl, hgg, hrow, hb1⟩
  rw [World.size_alloc] at hb1 hgg
  have HB1 : Hid (Below w.heap.size w w1) := ((Below.refl _ _).alloc (Nat.le_refl _) _).trans (hb1.mono (by omega))
  have HR1 : Hid (RowAt w1 g 0 (msgBytes k f t x)) := hrow
  have hgl : g < w1.heap.size := hrow.lt (by rw [msgBytes_len]; omega)
  clear hb1 hrow
  have hz1 := HB1.out.size
  go_wp2_with fail
  refine (told_nil _).mono ?_
  rintro e w2 ⟨rfl, hb2⟩
  have HB2 : Hid (Below w.heap.size w w2) := HB1.out.trans (hb2.mono hz1)
  have HR2 : Hid (RowAt w2 g 0 (msgBytes k f t x)) := HR1.out.below hb2 hgl
  clear hb2
  go_wp2
  go_ret2
  exact ⟨g, rfl, by omega, HR2.out, HB2.out⟩
end Go.Proofs.YtfkoflldjnlhaaaDoor
