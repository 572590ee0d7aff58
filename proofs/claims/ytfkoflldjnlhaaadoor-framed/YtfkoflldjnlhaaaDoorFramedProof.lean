import Derived.Test.YtfkoflldjnlhaaaDoorFramed
import Derived.Test.YtfkoflldjnlhaaaDoorLaid
import Derived.OpenShut
import Derived.Deep.Strs
/- THE LAW ON RECORDS: the row, proved. -/
namespace Go.Proofs.YtfkoflldjnlhaaaDoor
open Go.ChangeShapes Go.WideShapes Go.RowKit Go.Joins
open Go.ChangeMaps (setBlock shut_map_nil open_string shut_string keptBut_setBlock frozen?_setBlock heap_setBlock_same)
open Sc

theorem Tryd.cellsRec : Tryd.prog.cellsOf 29 = 3 := by kernel_rfl
theorem Tryd.cellsU64 : Tryd.prog.cellsOf 27 = 1 := by kernel_rfl
theorem Tryd.cellsU8 : Tryd.prog.cellsOf 5 = 1 := by kernel_rfl
theorem Tryd.cellsStr : Tryd.prog.cellsOf 9 = 1 := by kernel_rfl

theorem three_of {cs : List Value} (h : cs.length = 3) : ∃ a b c, cs = [a, b, c] := by
  match cs, h with
  | [a, b, c], _ => exact ⟨a, b, c, rfl⟩
set_option maxRecDepth 100000 in
/-- the records that were handed in -/
theorem recsIn_of {H : Type} {enc : TypeId × Value → H} {W : World} {v : Value} {d : DataW H} {p : List MemPlace} {a : Option Addr} {len cap : Nat} (hv : v = .slice a len cap) (h : DataW.Trod enc Tryd.prog W 0 (fun _ => true) true 22 v d p) : RecsIn W v len := by
  subst hv
  obtain ⟨fuel, hf⟩ := h
  rcases Deep.open_slice Tryd.underlying22 hf with ⟨hcs, _⟩ | ⟨a', len', cap', m, n, D, Pl, hcs, _, hl, _, hm, _, hx⟩
  · simp [Value.cells] at hcs
    obtain ⟨rfl, rfl, rfl⟩ := hcs
    exact ⟨none, 0, rfl, fun i hi => by omega⟩
  · simp [Value.cells] at hcs
    obtain ⟨rfl, rfl, rfl⟩ := hcs
    simp only [if_true] at hm
    refine ⟨_, cap, rfl, fun i hi => ?_⟩
    obtain ⟨cs', h1, h2⟩ := hx i (by omega)
    rw [Tryd.cellsRec] at h1
    obtain ⟨_, hlen, hcell⟩ := World.cells?_some h1
    obtain ⟨y0, y1, y2, n', _, _, g0, g1, g2⟩ := Deep.trod_struct3 Tryd.underlying29 h2
    obtain ⟨v0, v1, v2, rfl⟩ := three_of hlen
    · have g0' : DataW.trod enc Tryd.prog W 0 (fun _ => true) true n' 27 [v0] = some y0 := by simpa [Tryd.cellsU64] using g0
      have g1' : DataW.trod enc Tryd.prog W 0 (fun _ => true) true n' 5 [v1] = some y1 := by simpa [Tryd.cellsU8] using g1
      have g2' : DataW.trod enc Tryd.prog W 0 (fun _ => true) true n' 9 [v2] = some y2 := by simpa [Tryd.cellsStr] using g2
      obtain ⟨x, e0, _, wx⟩ := DataW.trod_int Tryd.underlying27 g0'
      obtain ⟨k, e1, _, wk⟩ := DataW.trod_int Tryd.underlying5 g1'
      obtain ⟨s, e2, _, _⟩ := DataW.trod_string Tryd.underlying9 g2'
      simp at e0 e1 e2
      subst e0 e1 e2
      have bx := bounds_u64 wx
      have bk := bounds_u8 wk
      obtain ⟨X, rfl⟩ := Int.eq_ofNat_of_zero_le bx.1
      obtain ⟨K, rfl⟩ := Int.eq_ofNat_of_zero_le bk.1
      have c0 := hcell 0 (by omega)
      have c1 := hcell 1 (by omega)
      have c2 := hcell 2 (by omega)
      rw [Deep.add_add] at c0 c1 c2
      obtain ⟨b, off, spot⟩ := a'
      have hspot : spot = none := by
        obtain ⟨cs0, z1, _⟩ := hx 0 (by omega)
        rw [Tryd.cellsRec] at z1
        obtain ⟨_, zl, zc⟩ := World.cells?_some z1
        obtain ⟨u0, u1, u2, rfl⟩ := three_of zl
        · have z0 := zc 0 (by omega)
          rw [Deep.add_add] at z0
          simpa [Addr.add] using World.cell?_spot z0
      subst hspot
      have ea : ∀ j, ((⟨b, off, none⟩ : Addr).add j) = ⟨b, off + j, none⟩ := fun j => by
        unfold Addr.add; split
        · rename_i h0; subst h0; rfl
        · rfl
      rw [ea] at c0 c1 c2
      simp only [Nat.add_zero] at c0
      refine ⟨b, off, rfl, World.block_lt_of_cell? W _ c0, X, K, s, by omega, by omega, c0, ?_, ?_⟩
      · rw [Nat.add_assoc]; exact c1
      · rw [Nat.add_assoc]; exact c2

/-- the walk at any records and text -/
theorem framed_any (v : Value) (n : Nat) (s : ByteArray) (w : World) (hv : RecsIn w v n) (hg : Met w) :
    Calls Tryd.prog 3 #[v, .string s] w fun e w' => e = .returned (.bool true) ∧ Below w.heap.size w w' := by
  by_cases h : 16384 < s.size ∨ 40 < n
  · exact framed_long v n s w hv h
  · exact framed_walk v n s w hv (by omega) (by omega) hg

set_option maxRecDepth 100000 in
theorem framed_lifted (os : Os) (started : os.Started) (H : Type) (enc : TypeId × Value → H) :
    ReturnsInHanded {} Tryd.checked os 3 .any (fun w args => (Rows.framedSpec.pre enc Tryd.prog Tryd.f3 [] false w args ∧ laidMetH Tryd.prog laidL w) ∧ sizedMet enc Tryd.prog Tryd.f3 (OpenSpec.ofChange Rows.framedSpec) false w args)
      (Rows.framedSpec.post enc Tryd.prog Tryd.f3 false true false false) := by
  refine returnsInHanded_of_change_and (C := Tryd.checked) (X := fun w _ => laidMetH Tryd.prog laidL w) (fun _ _ _ hh h => h.of_heap hh) Tryd.own started (by kernel_rfl) Tryd.func3
    (ChangeSpec.witness_at (enc := enc) (C := Tryd.checked) (os := os) (X := fun w _ => laidMetH Tryd.prog laidL w) false (laidWorld os) #[.slice none 0 0, .string ByteArray.empty] 8 rfl (by kernel_rfl) (by kernel_rfl) (by kernel_rfl) (by kernel_rfl) (by kernel_rfl) (laidWorld_met os _)) ?_
  intro W base args ds gs before hval0 hW _ _ hL _
  have hval : ∀ (j : Nat) t v, Tryd.f3.params[j]? = some t → args[j]? = some v → Value.okWide Tryd.prog W .any base t v := hval0
  have hW' := hW
  obtain ⟨p, q, hA0, hV0, rfl, hfz, hnd⟩ := hW
  have hA : DataW.TrodAll enc Tryd.prog W 0 (fun _ => true) true Tryd.f3.params.toList args.toList ds p := hA0
  have hV : DataW.TrodVars enc Tryd.prog W (fun _ => true) [] gs q := hV0
  rw [Tryd.params3] at hA hval
  obtain ⟨v0, v1, d0, d1, p0, p1, rfl, rfl, rfl, h0, h1⟩ := trodAll_two hA
  have h0k := h0
  have h1k := h1
  obtain ⟨rfl, rfl⟩ : gs = [] ∧ q = [] := by
    cases gs with
    | nil => exact ⟨rfl, hV⟩
    | cons g r => exact absurd hV (by intro h; cases h)
  obtain ⟨a, len, cap, hv⟩ := okWide_slice Tryd.underlying22 (hval 0 22 v0 rfl rfl)
  have hr := recsIn_of hv h0
  obtain ⟨s, rfl, rfl, rfl, hs⟩ := open_string Tryd.underlying9 (hval 1 9 v1 rfl rfl) h1
  simp only [List.append_nil] at hW'
  have hlt0 : ∀ x ∈ p0, x.block < W.heap.size := fun x hx => hW'.lt x hx
  have hg := met_of_laid hL
  have e1 : Rows.framedSpec.fn H ([d0, .lit (.string s.data.toList)] ++ []) = { results := [.lit (.bool true)], args := [d0, .lit (.string s.data.toList)] } := by simp [Rows.framedSpec]
  refine (framed_any v0 len s W hr hg).mono fun e W' ⟨he, hb⟩ => ?_
  subst he
  refine ⟨_, rfl, _, _, _, [], p0 ++ [], [], (by simpa using hW'), ?_, ?_, ?_, hb.frame _, fun h => by cases h⟩
  · rw [e1]; exact trodAll_mk1 (shut_bool Tryd.underlying4 true)
  · rw [e1]
    exact trodAll_mk2 (Below.trod Tryd.laidOut (by kernel_rfl) (of_decide_eq_true (by kernel_rfl)) h0k hb hlt0) (Below.trod Tryd.laidOut (by kernel_rfl) (of_decide_eq_true (by kernel_rfl)) h1k hb (by intro x hx; simp at hx))
  · rw [e1]; rfl

theorem framed_holds : Rows.FramedSaid :=
  OpenClaim.holds_of_wide 3 Tryd.f3 rfl rfl rfl rfl rfl rfl rfl ⟨rfl, rfl, rfl, rfl, rfl⟩ rfl rfl rfl rfl rfl (by kernel_rfl) Tryd.func3 (by kernel_rfl)
    (of_decide_eq_true (by kernel_rfl)) (by unfold Func.isWrapper; rw [if_neg (of_decide_eq_false (by kernel_rfl))]; exact ⟨rfl, rfl⟩)
    (fun os started H enc _ => framed_lifted os started H enc)
end Go.Proofs.YtfkoflldjnlhaaaDoor
