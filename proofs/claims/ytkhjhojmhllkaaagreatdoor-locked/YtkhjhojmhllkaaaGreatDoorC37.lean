import Derived.Test.YtkhjhojmhllkaaaGreatDoorRows
import Derived.Test.YtkhjhojmhllkaaaGreatDoorC04
import Derived.Test.YtkhjhojmhllkaaaGreatDoorC11
import Derived.ProofKit
import Derived.ChangeSame
import Derived.ChangeVars
import Derived.JoinedOf
import Derived.RowKit
import Derived.RowKitTokens
import Derived.LaidLaws
import Derived.LaidHandle
import Derived.Stop.Joined
import Derived.SizedLaws
import Derived.Lib.SmallJoins
import Derived.Lib.LaidTab
/- WHAT THE LISTED VARIABLES GIVE A WALK; a world that meets them. -/
namespace Go.Proofs.YtkhjhojmhllkaaaGreatDoor
open Go.ChangeShapes Go.WideShapes Go.RowKit

theorem Tryz.own : ownKnob Tryz.prog.godebug = none := by kernel_rfl
theorem Tryz.laidOut : laidOutB Tryz.prog = true := by kernel_rfl
theorem Tryz.et : Tryz.prog.globalNamed "errors.errorType" = some 0 := by kernel_rfl
theorem Tryz.rt : (Tryz.prog.cutTypes.find? (·.1 == "internal/reflectlite.rtype")).map (·.2) = some 252 := by kernel_rfl
theorem Tryz.oneRow : ((List.range 468).filter fun t => Tryz.prog.rowNamed t [101, 114, 114, 111, 114]) = [79] := by kernel_rfl
theorem Tryz.size : Tryz.prog.types.size = 468 := by kernel_rfl
/-- the list that the rows bear -/
def laidL : List (String × DataW Unit) := [("math/bits.deBruijn32tab", Rows.laid_math_bits_deBruijn32tab), ("math/bits.deBruijn64tab", Rows.laid_math_bits_deBruijn64tab), ("internal/strconv.uint64pow10", Rows.laid_internal_strconv_uint64pow10), ("errors.errorType", Rows.laid_errors_errorType), ("strconv.ErrRange", Rows.laid_strconv_ErrRange), ("strconv.ErrSyntax", Rows.laid_strconv_ErrSyntax)]
def laidD : List (String × DataW Unit) := [("math/bits.deBruijn32tab", Rows.laid_math_bits_deBruijn32tab), ("math/bits.deBruijn64tab", Rows.laid_math_bits_deBruijn64tab), ("internal/strconv.uint64pow10", Rows.laid_internal_strconv_uint64pow10), ("strconv.ErrRange", Rows.laid_strconv_ErrRange), ("strconv.ErrSyntax", Rows.laid_strconv_ErrSyntax)]
theorem laid_parts {W : World} (h : laidMetH Tryz.prog laidL W) : laidMet Tryz.prog laidD W ∧ handlesMet Tryz.prog [("errors.errorType", Rows.laid_errors_errorType)] W := h
theorem met_of_laid {W : World} (h : laidMetH Tryz.prog laidL W) : Met W := by
  have h' := laid_parts h
  obtain ⟨name, u, ty, e1, e2, e3, e4, e5⟩ := h'.2 _ (List.mem_singleton.2 rfl)
  have en : name = [101, 114, 114, 111, 114] := (Option.some.inj e1).symm
  subst en
  obtain rfl := Option.some.inj (Tryz.rt.symm.trans e2)
  have hm : ty ∈ (List.range 468).filter fun t => Tryz.prog.rowNamed t [101, 114, 114, 111, 114] := List.mem_filter.2 ⟨List.mem_range.2 (by rw [← Tryz.size]; exact e3), e4⟩
  rw [Tryz.oneRow] at hm
  obtain rfl := List.mem_singleton.1 hm
  have hh : typeHandle Tryz.prog 79 = .pointer (some ⟨6, 79, none⟩) := by kernel_rfl
  rw [hh] at e5
  have := World.var?_cell Tryz.et e5 0
  unfold Met
  simpa using this
theorem Tryz.powTy : (Tryz.prog.globals[1]?).map (·.type) = some 401 := by kernel_rfl
theorem pows_of_laid {W : World} (h : laidMetH Tryz.prog laidL W) : Pows W ∧ 2 ≤ W.heap.size := by
  obtain ⟨ps, ⟨g1, t1, cs1, fuel1, p1, q1, _, _, _, _, ⟨g2, t2, cs2, fuel2, p2, q2, _, _, _, _, ⟨g, t, cs, fuel, p, q, hg, ht, hvar, hd, _, _⟩, _⟩, _⟩, _⟩ := (laid_parts h).1
  obtain rfl := Option.some.inj (Tryz.powG.symm.trans hg)
  obtain rfl := Option.some.inj (Tryz.powTy.symm.trans ht)
  have e : (Rows.laid_internal_strconv_uint64pow10 : DataW Unit) = Lib.tabData .u64 Lib.pow10Tab := by kernel_rfl
  rw [e] at hd
  have hp : Pows W := by
    unfold Pows Lib.TabIs
    rw [hvar, ← Lib.cells_of_tab (n := 20) (k := .u64) (zs := Lib.pow10Tab) (e := 33) (by kernel_rfl) Tryz.underlying33 (by kernel_rfl) (by kernel_rfl) hd]
  refine ⟨hp, ?_⟩
  have hc := Lib.TabIs.cell hp Tryz.powG 0 (by decide)
  exact World.block_lt_of_cell? W _ hc
/-- a world that meets the condition: the settled one, the variables' cells laid -/
def setC (cs : Array Value) : Obj → Obj
  | .cells _ t frozen => .cells cs t frozen
  | o => o
def tab32 : List Int := [0, 1, 28, 2, 29, 14, 24, 3, 30, 22, 20, 15, 25, 17, 4, 8, 31, 27, 13, 23, 21, 19, 16, 7, 26, 12, 18, 6, 11, 5, 10, 9]
def tab64 : List Int := [0, 1, 56, 2, 57, 49, 28, 3, 61, 58, 42, 50, 38, 29, 17, 4, 62, 47, 59, 36, 45, 43, 51, 22, 53, 39, 33, 30, 24, 18, 12, 5, 63, 55, 48, 27, 60, 41, 37, 16, 46, 35, 44, 21, 52, 32, 23, 11, 54, 26, 40, 15, 34, 20, 31, 10, 25, 14, 19, 9, 13, 8, 7, 6]
def rangeS : ByteArray := ⟨#[118, 97, 108, 117, 101, 32, 111, 117, 116, 32, 111, 102, 32, 114, 97, 110, 103, 101]⟩
def syntaxS : ByteArray := ⟨#[105, 110, 118, 97, 108, 105, 100, 32, 115, 121, 110, 116, 97, 120]⟩
noncomputable def laidWorld (os : Os) : World :=
  let w0 := World.holding Tryz.prog os ⟨#[], #[], []⟩
  { w0 with heap := ((((((((w0.heap.modify 0 (setC #[.iface 252 (.agg #[.pointer (some ⟨6, 79, none⟩)])])).modify 1 (setC (Lib.pow10Tab.map fun z => Value.int .u64 z).toArray)).modify 2 (setC #[.iface 419 (.pointer (some ⟨6 + 5, 0, none⟩))])).modify 3 (setC #[.iface 419 (.pointer (some ⟨6 + 6, 0, none⟩))])).modify 4 (setC (tab32.map fun z => Value.int .u8 z).toArray)).modify 5 (setC (tab64.map fun z => Value.int .u8 z).toArray)).push (.cells #[.string syntaxS] 421)).push (.cells #[.string rangeS] 421)) }
theorem holding_size (os : Os) : (World.holding Tryz.prog os ⟨#[], #[], []⟩).heap.size = 6 + 5 := by kernel_rfl
set_option maxRecDepth 100000 in
theorem laidWorld_met (os : Os) (args : Array Value) : laidMetH Tryz.prog laidL ((laidWorld os).forCall (fun _ _ => 0) ⟨#[], args, []⟩).memory :=
  laidMetH_of_parts (laidMet_of_run' (l := laidD) 8 (by kernel_rfl) (by kernel_rfl)) (by kernel_rfl)
end Go.Proofs.YtkhjhojmhllkaaaGreatDoor
