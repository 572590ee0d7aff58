import Derived.Test.YtbdhmkfdofkloaaGreatDoorC44
import Derived.Test.YtbdhmkfdofkloaaGreatDoorC45
import Derived.Test.YtbdhmkfdofkloaaGreatDoorRows
import Derived.ProofKit
import Derived.ChangeSame
import Derived.ChangeVars
import Derived.JoinedOf
import Derived.RowKit
import Derived.RowKitTokens
import Derived.LaidLaws
import Derived.LaidHandle
import Derived.Stop.Joined
import Derived.SizedLaws
import Derived.Lib.SmallJoins
import Derived.OpenShut
import Derived.Deep.Strs
import Derived.Stop.LaidErr
/- A SCRIPT: what was handed in. (Written by mklgf.py, out of LogProof.) -/
namespace Go.Proofs.YtbdhmkfdofkloaaGreatDoor
open Go.ChangeShapes Go.WideShapes Go.RowKit Go.Joins
open Go.ChangeMaps (setBlock shut_map_nil open_string shut_string keptBut_setBlock frozen?_setBlock heap_setBlock_same)
open Sc

theorem Tryz.cellsStep : Tryz.prog.cellsOf 51 = 11 := by kernel_rfl
theorem Tryz.cellsFall : Tryz.prog.cellsOf 30 = 4 := by kernel_rfl
theorem Tryz.cellsI : Tryz.prog.cellsOf 3 = 1 := by kernel_rfl
theorem Tryz.cellsU64' : Tryz.prog.cellsOf 34 = 1 := by kernel_rfl
theorem Tryz.cellsStr' : Tryz.prog.cellsOf 9 = 1 := by kernel_rfl
theorem Tryz.cellsInts : Tryz.prog.cellsOf 26 = 1 := by kernel_rfl
theorem Tryz.bytesStep : Tryz.prog.bytesOf 51 = 120 := by kernel_rfl
theorem Tryz.bytesI : Tryz.prog.bytesOf 3 = 8 := by kernel_rfl
theorem eleven_of {cs : List Value} (h : cs.length = 11) : ∃ a b c d e f g i j k l, cs = [a, b, c, d, e, f, g, i, j, k, l] := by
  match cs, h with
  | [a, b, c, d, e, f, g, i, j, k, l], _ => exact ⟨a, b, c, d, e, f, g, i, j, k, l, rfl⟩
section
variable {H : Type} {enc : TypeId × Value → H} {P : Program} {w : World} {base : Nat} {spare : Nat → Bool} {held : Bool}
theorem trod_struct8 {t : TypeId} {f0 f1 f2 f3 f4 f5 f6 f7 : Field} {fuel : Nat} {cs : List Value} {x : DataW H × List MemPlace} (ht : P.underlying t = some (.struct #[f0, f1, f2, f3, f4, f5, f6, f7])) (h : DataW.trod enc P w base spare held fuel t cs = some x) :
    ∃ y0 y1 y2 y3 y4 y5 y6 y7 n, x.1 = .agg [y0.1, y1.1, y2.1, y3.1, y4.1, y5.1, y6.1, y7.1] ∧ DataW.trod enc P w base spare held n f0.type ((cs.drop f0.offset).take (P.cellsOf f0.type)) = some y0 ∧
      DataW.trod enc P w base spare held n f1.type ((cs.drop f1.offset).take (P.cellsOf f1.type)) = some y1 ∧ DataW.trod enc P w base spare held n f2.type ((cs.drop f2.offset).take (P.cellsOf f2.type)) = some y2 ∧
      DataW.trod enc P w base spare held n f3.type ((cs.drop f3.offset).take (P.cellsOf f3.type)) = some y3 ∧ DataW.trod enc P w base spare held n f4.type ((cs.drop f4.offset).take (P.cellsOf f4.type)) = some y4 ∧
      DataW.trod enc P w base spare held n f5.type ((cs.drop f5.offset).take (P.cellsOf f5.type)) = some y5 ∧ DataW.trod enc P w base spare held n f6.type ((cs.drop f6.offset).take (P.cellsOf f6.type)) = some y6 ∧
      DataW.trod enc P w base spare held n f7.type ((cs.drop f7.offset).take (P.cellsOf f7.type)) = some y7 := by
  obtain ⟨xs, n, _, rfl, hl, hlen, hf⟩ := DataW.trod_struct ht h
  match xs, hlen with
  | [y0, y1, y2, y3, y4, y5, y6, y7], _ => exact ⟨y0, y1, y2, y3, y4, y5, y6, y7, n, by simp, by simpa using hf 0 f0 rfl, by simpa using hf 1 f1 rfl, by simpa using hf 2 f2 rfl, by simpa using hf 3 f3 rfl, by simpa using hf 4 f4 rfl, by simpa using hf 5 f5 rfl, by simpa using hf 6 f6 rfl, by simpa using hf 7 f7 rfl⟩
theorem weightsAll_mem {e : TypeId} {d : DataW H} {k : Nat} : ∀ {l : List (DataW H)}, d ∈ l → k ∈ d.weights P e → k ∈ DataW.weightsAll P e l
  | x :: l, h, hk => by
    rcases List.mem_cons.1 h with rfl | h
    · simp [DataW.weightsAll, hk]
    · simp [DataW.weightsAll, weightsAll_mem h hk]
end
set_option maxRecDepth 100000 in
/-- the steps that were handed in -/
theorem steps_ofF {H : Type} {enc : TypeId × Value → H} {W : World} {v : Value} {d : DataW H} {p : List MemPlace} (h : DataW.Trod enc Tryz.prog W 0 (fun _ => true) true 22 v d p) (hv : ∃ a len cap, v = .slice a len cap) (hz : (DataW.weightsEach Tryz.prog [22] [d]).all (· ≤ reachBytes) = true) : ∃ L, StepsAt W v L ∧ ∀ (i : Nat) (a : AStep), L[i]? = some a → InR a := by
  obtain ⟨a0, len0, cap0, rfl⟩ := hv
  obtain ⟨fuel, hf⟩ := h
  rcases Deep.open_slice Tryz.underlying22 hf with ⟨hcs, _⟩ | ⟨a', len', cap', m, n, D, Pl, hcs, _, hl, _, hm, hd, hx⟩
  · simp [Value.cells] at hcs
    obtain ⟨rfl, rfl, rfl⟩ := hcs
    exact ⟨[], ⟨by simp, none, 0, rfl, by simp⟩, by simp⟩
  · simp [Value.cells] at hcs
    obtain ⟨rfl, rfl, rfl⟩ := hcs
    simp only [if_true] at hm
    have hd1 : d = .slice ((List.range len0).map D) ((List.range (m - len0)).map fun j => D (len0 + j)) := congrArg Prod.fst hd
    have hall := List.all_eq_true.1 hz
    have hrb : reachBytes ≤ 140737488355328 := by have := reachBytes_lt; omega
    have hwt : ∀ i, i < len0 → ∀ k ∈ (D i).weights Tryz.prog 51, k ≤ 140737488355328 := fun i hi k hk => by
      have := hall k (by
        rw [hd1]
        simp only [DataW.weightsEach, DataW.weights, Tryz.underlying22, List.append_nil]
        exact List.mem_cons_of_mem _ (List.mem_append_left _ (weightsAll_mem (List.mem_map.2 ⟨i, List.mem_range.2 hi, rfl⟩) hk)))
      simp at this; omega
    have hlen : len0 ≤ 281474976710656 := by
      have := sized_slice (j := 0) hz rfl (by rw [hd1]; rfl) Tryz.underlying22
      rw [Tryz.bytesStep] at this
      simp at this; omega
    have key : ∀ i, ∃ s : AStep, i < len0 → (∃ b off, (some a' : Option Addr) = some ⟨b, off, none⟩ ∧ b < W.heap.size ∧ StepCells W b (off + i * 11) s) ∧ s.key.size ≤ 281474976710656 ∧ s.s.size ≤ 281474976710656 ∧ s.sx ≤ 281474976710656 ∧ InR s := fun i => by
      by_cases hi : i < len0
      · obtain ⟨cs', h1, h2⟩ := hx i (by omega)
        rw [Tryz.cellsStep] at h1
        obtain ⟨_, hcl, hcell⟩ := World.cells?_some h1
        obtain ⟨y0, y1, y2, y3, y4, y5, y6, y7, n', hy, g0, g1, g2, g3, g4, g5, g6, g7⟩ := trod_struct8 Tryz.underlying51 h2
        obtain ⟨v0, v1, v2, v3, v4, v5, v6, v7, v8, v9, v10, rfl⟩ := eleven_of hcl
        have g0' : DataW.trod enc Tryz.prog W 0 (fun _ => true) true n' 3 [v0] = some y0 := by simpa [Tryz.cellsI] using g0
        have g1' : DataW.trod enc Tryz.prog W 0 (fun _ => true) true n' 34 [v1] = some y1 := by simpa [Tryz.cellsU64'] using g1
        have g2' : DataW.trod enc Tryz.prog W 0 (fun _ => true) true n' 3 [v2] = some y2 := by simpa [Tryz.cellsI] using g2
        have g3' : DataW.trod enc Tryz.prog W 0 (fun _ => true) true n' 3 [v3] = some y3 := by simpa [Tryz.cellsI] using g3
        have g4' : DataW.trod enc Tryz.prog W 0 (fun _ => true) true n' 9 [v4] = some y4 := by simpa [Tryz.cellsStr'] using g4
        have g5' : DataW.trod enc Tryz.prog W 0 (fun _ => true) true n' 9 [v5] = some y5 := by simpa [Tryz.cellsStr'] using g5
        have g6' : DataW.trod enc Tryz.prog W 0 (fun _ => true) true n' 26 [v6] = some y6 := by simpa [Tryz.cellsInts] using g6
        have g7' : DataW.trod enc Tryz.prog W 0 (fun _ => true) true n' 30 [v7, v8, v9, v10] = some y7 := by simpa [Tryz.cellsFall] using g7
        obtain ⟨q0, q1, q2, q3, n'', _, _, r0, r1, r2, r3⟩ := trod_struct4 Tryz.underlying30 g7'
        have r0' : DataW.trod enc Tryz.prog W 0 (fun _ => true) true n'' 3 [v7] = some q0 := by simpa [Tryz.cellsI] using r0
        have r1' : DataW.trod enc Tryz.prog W 0 (fun _ => true) true n'' 3 [v8] = some q1 := by simpa [Tryz.cellsI] using r1
        have r2' : DataW.trod enc Tryz.prog W 0 (fun _ => true) true n'' 3 [v9] = some q2 := by simpa [Tryz.cellsI] using r2
        have r3' : DataW.trod enc Tryz.prog W 0 (fun _ => true) true n'' 3 [v10] = some q3 := by simpa [Tryz.cellsI] using r3
        obtain ⟨x0, e0, _, _⟩ := DataW.trod_int Tryz.underlying3 g0'
        obtain ⟨x1, e1, _, wx1⟩ := DataW.trod_int Tryz.underlying34 g1'
        obtain ⟨x2, e2, _, _⟩ := DataW.trod_int Tryz.underlying3 g2'
        obtain ⟨x3, e3, _, wx3⟩ := DataW.trod_int Tryz.underlying3 g3'
        obtain ⟨x4, e4, ey4, _⟩ := DataW.trod_string Tryz.underlying9 g4'
        obtain ⟨x5, e5, ey5, _⟩ := DataW.trod_string Tryz.underlying9 g5'
        obtain ⟨x7, e7, _, wx7⟩ := DataW.trod_int Tryz.underlying3 r0'
        obtain ⟨x8, e8, _, wx8⟩ := DataW.trod_int Tryz.underlying3 r1'
        obtain ⟨x9, e9, _, _⟩ := DataW.trod_int Tryz.underlying3 r2'
        obtain ⟨x10, e10, _, wx10⟩ := DataW.trod_int Tryz.underlying3 r3'
        simp at e0 e1 e2 e3 e4 e5 e7 e8 e9 e10
        subst e0 e1 e2 e3 e4 e5 e7 e8 e9 e10
        have bx := bounds_u64 wx1
        have b3 := bounds_i64 wx3
        have b7 := bounds_i64 wx7
        have b8 := bounds_i64 wx8
        have b10 := bounds_i64 wx10
        obtain ⟨X1, rfl⟩ := Int.eq_ofNat_of_zero_le bx.1
        have hyw : ∀ k ∈ DataW.weightsEach Tryz.prog [3, 34, 3, 3, 9, 9, 26, 30] [y0.1, y1.1, y2.1, y3.1, y4.1, y5.1, y6.1, y7.1], k ≤ 140737488355328 := fun k hk => hwt i hi k (by
          have hy' : D i = .agg [y0.1, y1.1, y2.1, y3.1, y4.1, y5.1, y6.1, y7.1] := hy
          rw [hy']
          simpa [DataW.weights, Tryz.underlying51] using hk)
        have s4 : x4.size ≤ 281474976710656 := by
          have := hyw x4.data.toList.length (DataW.weights_mem_each (j := 4) rfl rfl _ (by rw [ey4]; simp [DataW.weights]))
          simp at this; omega
        have s5 : x5.size ≤ 281474976710656 := by
          have := hyw x5.data.toList.length (DataW.weights_mem_each (j := 5) rfl rfl _ (by rw [ey5]; simp [DataW.weights]))
          simp at this; omega
        obtain ⟨sa, sx, sy, ev6, s6⟩ : ∃ sa sx sy, v6 = .slice sa sx sy ∧ sx ≤ 281474976710656 := by
          rcases Deep.open_slice Tryz.underlying26 g6' with ⟨h6, _⟩ | ⟨a6, len6, cap6, m6, n6, D6, P6, h6, _, _, _, _, h6d, _⟩
          · simp at h6; exact ⟨none, 0, 0, h6, by omega⟩
          · simp at h6
            refine ⟨_, _, _, h6, ?_⟩
            have := hyw (((List.range len6).map D6).length + ((List.range (m6 - len6)).map fun j => D6 (len6 + j)).length |>.mul 8) (DataW.weights_mem_each (j := 6) rfl rfl _ (by
              rw [h6d]
              simp [DataW.weights, Tryz.underlying26, Tryz.bytesI]))
            simp at this; omega
        subst ev6
        obtain ⟨b, off, spot⟩ := a'
        have c0 := hcell 0 (by omega)
        have c1 := hcell 1 (by omega)
        have c2 := hcell 2 (by omega)
        have c3 := hcell 3 (by omega)
        have c4 := hcell 4 (by omega)
        have c5 := hcell 5 (by omega)
        have c6 := hcell 6 (by omega)
        have c7 := hcell 7 (by omega)
        have c8 := hcell 8 (by omega)
        have c9 := hcell 9 (by omega)
        have c10 := hcell 10 (by omega)
        rw [Deep.add_add] at c0 c1 c2 c3 c4 c5 c6 c7 c8 c9 c10
        have hspot : spot = none := by
          obtain ⟨cs0, z1, _⟩ := hx 0 (by omega)
          rw [Tryz.cellsStep] at z1
          obtain ⟨_, zl, zc⟩ := World.cells?_some z1
          obtain ⟨u0, u1, u2, u3, u4, u5, u6, u7, u8, u9, u10, rfl⟩ := eleven_of zl
          have z0 := zc 0 (by omega)
          rw [Deep.add_add] at z0
          simpa [Addr.add] using World.cell?_spot z0
        subst hspot
        have ea : ∀ j, ((⟨b, off, none⟩ : Addr).add j) = ⟨b, off + j, none⟩ := fun j => by
          unfold Addr.add; split
          · rename_i h0; subst h0; rfl
          · rfl
        rw [ea] at c0 c1 c2 c3 c4 c5 c6 c7 c8 c9 c10
        simp only [Nat.add_zero] at c0
        simp only [← Nat.add_assoc] at c1 c2 c3 c4 c5 c6 c7 c8 c9 c10
        exact ⟨⟨x0, X1, x2, x3, x4, x5, sa, sx, sy, x7, x8, x9, x10⟩, fun _ => ⟨⟨b, off, rfl, World.block_lt_of_cell? W _ c0, c0, c1, c2, c3, c4, c5, c6, c7, c8, c9, c10⟩, s4, s5, s6, by show _ ≤ x3; omega, by show x3 ≤ _; omega, by show _ ≤ x7; omega, by show _ ≤ x8; omega, by show _ ≤ x10; omega, by show x10 ≤ _; omega⟩⟩
      · exact ⟨⟨0, 0, 0, 0, ByteArray.empty, ByteArray.empty, none, 0, 0, 0, 0, 0, 0⟩, fun h => absurd h hi⟩
    obtain ⟨f, hf'⟩ := Classical.skolem.1 key
    have hat : ∀ (i : Nat) (s : AStep), ((List.range len0).map f)[i]? = some s → i < len0 ∧ s = f i := fun i s hs => by
      rw [List.getElem?_map] at hs
      have hi : i < len0 := by
        obtain ⟨j, hj, _⟩ := Option.map_eq_some_iff.1 hs
        have := (List.getElem?_eq_some_iff.1 hj).1
        simpa using this
      rw [List.getElem?_range hi] at hs
      simp at hs
      exact ⟨hi, hs.symm⟩
    refine ⟨(List.range len0).map f, ⟨by simpa using hlen, some a', cap0, by simp, fun i s hs => ?_⟩, fun i s hs => ?_⟩
    · obtain ⟨hi, rfl⟩ := hat i s hs
      obtain ⟨k1, k2, k3, k4, _⟩ := hf' i hi
      exact ⟨k1, k2, k3, k4⟩
    · obtain ⟨hi, rfl⟩ := hat i s hs
      exact (hf' i hi).2.2.2.2
theorem Tryz.gES : Tryz.prog.globalNamed "strconv.ErrSyntax" = some 2 := by kernel_rfl
theorem Tryz.gESType : (Tryz.prog.globals[2]?).map (·.type) = some 66 := by kernel_rfl
theorem Tryz.cellsES : Tryz.prog.cellsOf 313 = 1 := by kernel_rfl
theorem Tryz.cellsStr : Tryz.prog.cellsOf 9 = 1 := by kernel_rfl
theorem Tryz.starES : "*" ++ "errors.errorString" = "*errors.errorString" := by decide
theorem Tryz.rowES (u : TypeId) (h : Tryz.prog.typeName? 3 u = some "*errors.errorString") : u = 311 :=
  typeName_ptr_named (nm := "errors.errorString") (by rw [Tryz.starES]; kernel_rfl) (by kernel_rfl) (by decide) u (by rw [Tryz.starES]; exact h)
/-- the variable of strconv's error, as the rows list it -/
theorem errS_of_laid {W : World} (h : laidMetH Tryz.prog laidL W) : ErrS W ∧ 3 ≤ W.heap.size := by
  have h4 := (laid_parts h).1.tail.tail.tail.tail
  obtain ⟨a0, s0, hv0, -, -, -⟩ := laid_sentinel h4 Tryz.gES Tryz.gESType Tryz.underlying66 Tryz.rowES Tryz.underlying311 Tryz.underlying313 rfl rfl Tryz.underlying9 Tryz.cellsES Tryz.cellsStr
  have hc := World.var?_cell Tryz.gES hv0 0
  simp at hc
  exact ⟨⟨_, hc, .inr ⟨_, _, rfl⟩⟩, World.block_lt_of_cell? W _ hc⟩
set_option maxRecDepth 100000 in
set_option maxHeartbeats 1000000 in
theorem logFallen_any (v : Value) (L : List AStep) (w : World) (h : StepsAt w v L) (hin : ∀ (i : Nat) (a : AStep), L[i]? = some a → InR a) (hmet : Met w) (hpow : Pows w) (herr : ErrS w) (hB : 3 ≤ w.heap.size) :
    Calls Tryz.prog 3 #[v] w fun e w' => e = .returned (.bool true) ∧ Below w.heap.size w w' := by
  have HC : Hid (Calls Tryz.prog 5 #[v, .bool true] w fun e w' => e = .returned (.bool true) ∧ Below w.heap.size w w') := logsF_any v L w h hin hmet hpow herr hB
  obtain ⟨_, ao, cap, rfl, _⟩ := h
  go_enter Tryz.func3, Tryz.ntmps3
  go_wp2_with fail
  refine HC.out.mono ?_
  rintro e w1 ⟨rfl, hb⟩
  go_wp2
  go_ret
  exact ⟨rfl, hb⟩
end Go.Proofs.YtbdhmkfdofkloaaGreatDoor
