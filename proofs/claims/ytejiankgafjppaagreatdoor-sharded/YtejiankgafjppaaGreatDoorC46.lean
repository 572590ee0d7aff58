import Derived.Test.YtejiankgafjppaaGreatDoorC41
import Derived.Test.YtejiankgafjppaaGreatDoorC45
import Derived.Test.YtejiankgafjppaaGreatDoorC40
/- A KEEPER: work. -/
namespace Go.Proofs.YtejiankgafjppaaGreatDoor
open Go.RowKit Go.Maps
open Sc

section
variable [Inhabited Bs] (hp p sp gp bV bT bH lp bD bN m n kp mp c T : Nat) (s : AShard) (l : ALog) (d : ADisk) (cv uv : Value) (cs : List Value) (us : List Nat) (R : RSh) (w : World)
/-- what an operation leaves -/
structure Worked (w w' : World) (hp p sp gp bV bT bH lp bD bN m n kp mp c T : Nat) (l : ALog) (d : ADisk) (cv uv : Value) (cs : List Value) (us : List Nat) : Prop where
  kin : ∃ m' s' R', m' ≤ m + 2 ∧ KIn w' hp p sp gp bV bT bH lp bD bN m' n s' l d kp mp cv uv cs us R' ∧ Gd (c + 1) T s' R'
  fr : LFr w w'
theorem RS.row {w : World} {rp : Nat} {R : RSh} (h : RS w rp R) : ∃ ao cc, w.cell? ⟨rp, 1, none⟩ = some (.slice ao R.txns.length cc) ∧ ∀ (i : Nat) (x : RTx), R.txns[i]? = some x → ∃ g, ao = some ⟨g, 0, none⟩ ∧ w.cell? ⟨g, i * 5, none⟩ = some (.int .u64 (x.id : Int)) ∧ w.cell? ⟨g, i * 5 + 2, none⟩ = some (.int .i64 (x.ops : Int)) := by
  obtain ⟨tv, xv, ps, h⟩ := h
  have c1 := blk_cell h.blk 1
  simp at c1
  obtain ⟨ao, cc, e0, H⟩ := h.slice
  rw [e0, h.len] at c1
  refine ⟨ao, cc, c1, fun i x hx => ?_⟩
  obtain ⟨v, hp⟩ := h.at hx
  obtain ⟨g, e, a, _, b, _⟩ := H i _ hp
  exact ⟨g, e, a, b⟩
set_option maxRecDepth 100000 in
set_option maxHeartbeats 16000000 in
theorem work_any (kd sq nn f1 f2 f3 f4 : Int) (txn x y : Nat) (key sv : ByteArray) (ao : Option Addr) (h : KIn w hp p sp gp bV bT bH lp bD bN m n s l d kp mp cv uv cs us R) (hg : Gd c T s R) (hm : m ≤ 1000000) (hc : c ≤ 100000) (hus : us.length ≤ 100000) (hB : 2 ≤ (B0 : Nat)) (hmet : Met w) (ht : txn < 18446744073709551616) (hk : key.size ≤ 16384) :
    Calls Tryz.prog 79 #[.pointer (some ⟨kp, 0, none⟩), stepV kd txn sq nn key sv ao x y f1 f2 f3 f4] w fun e w' => e = .returned (.bool true) ∧ Worked w w' hp p sp gp bV bT bH lp bD bN m n kp mp c T l d cv uv cs us := by
  obtain ⟨W, hW⟩ : ∃ W, W = w.alloc (stepO kd txn sq nn key sv ao x y f1 f2 f3 f4) := ⟨_, rfl⟩
  have hf0 : Fr [] w W := by rw [hW]; exact (Fr.refl [] w).alloc _
  have hs0 : W.heap[w.heap.size]? = some (stepO kd txn sq nn key sv ao x y f1 f2 f3 f4) := by rw [hW]; exact heap_alloc_new w _
  have K0 := h.new hf0
  have hv : Once1 s.vals := by obtain ⟨_, _, _, h3, _⟩ := h.host.2.1.sh.vals; exact h3
  have L0 := LFr.new hf0 h.size
  have hT12 : R.txns.length ≤ 12 := hg.rel.len
  have k0 := blk_cell K0.kb 0
  have k1 := blk_cell K0.kb 1
  have k5 := blk_cell K0.kb 5
  have z0 := blk_cell hs0 0
  have z1 := blk_cell hs0 1
  have z2 := blk_cell hs0 2
  have z4 := blk_cell hs0 4
  have z5 := blk_cell hs0 5
  simp at k0 k1 k5 z0 z1 z2 z4 z5
  obtain ⟨uo, uc, eu, HU⟩ := u64_slice K0.used
  obtain ⟨xo, xc, x1, HX⟩ := K0.ref.row
  obtain ⟨nu, hnu⟩ : ∃ nu, nu = us.length := ⟨_, rfl⟩
  obtain ⟨nx, hnx⟩ : ∃ nx, nx = R.txns.length := ⟨_, rfl⟩
  rw [eu, ← hnu] at k5
  rw [← hnx] at x1 hT12
  have HNU : Hid (us.length = nu ∧ R.txns.length = nx) := ⟨hnu.symm, hnx.symm⟩
  rw [← hnu] at hus
  have hst := fun q => (K0.new ((Fr.refl [] W).drewM q)).ref.state (t := txn) (by omega)
  obtain ⟨st, hst0⟩ : ∃ st, st = R.state txn := ⟨_, rfl⟩
  rw [← hst0] at hst
  have HGU := toHid HU
  have HGX := toHid HX
  have HK := toHid (And.intro K0 (And.intro L0 (And.intro hg (And.intro hv (And.intro hmet hs0)))))
  clear h hg hs0 K0 L0 hf0 hv hnu hnx HU HX hst0 hmet eu
  go_enter Tryz.func79, Tryz.ntmps79
  go_wp2
  rw [← hW]
  obtain ⟨bx, hbx⟩ : ∃ bx, bx = w.heap.size := ⟨_, rfl⟩
  rw [← hbx] at z0 z1 z2 z4 z5 HK ⊢
  clear hW hbx
  go_quiet (first | (go_at_call 77; refine Calls.quiet_of (hst _)))
  clear hst
  go_wp2
  go_loopw [6] (fun i wr => ∃ j : Nat, j ≤ nu ∧ i = .int .i64 j ∧ ∃ q, wr = W.drewN q) (fun i _ => nu - (intOf i).toNat)
  case atStart => exact ⟨0, Nat.zero_le _, rfl, nq, rfl⟩
  case round =>
    obtain ⟨j, hj, rfl, q, rfl⟩ := hrel
    by_cases hgo : j < nu ∧ st = 0
    · obtain ⟨hlt, rfl⟩ := hgo
      obtain ⟨u, hu⟩ : ∃ u, us[j]? = some u := ⟨_, List.getElem?_eq_getElem (by rw [HNU.out.1]; exact hlt)⟩
      obtain ⟨g, rfl, x0⟩ := HGU.out j u hu
      have i0 : (0 : Int) ≤ (j : Int) := by omega
      have i1 : (j : Int) < (nu : Int) := by omega
      clear hu
      by_cases he : u = txn
      · subst he
        go_wp2
        go_quiet (fail)
        go_wp2
        go_ret
        have hfr : Fr [] W ((W.drewN q).drewN nq) := ((Fr.refl [] W).drewM q).drewM nq
        first
          | exact ⟨rfl, ⟨m, s, R, by omega, HK.out.1.new hfr, HK.out.2.2.1.mono (by omega) (Nat.le_refl _)⟩, HK.out.2.1.trans (LFr.new hfr HK.out.1.size)⟩
          | trace_state
      · have be : ((u : Int) == (txn : Int)) = false := by simp; omega
        go_wp2
        go_quiet (fail)
        go_wp2
        go_roundw
        case rel => exact ⟨j + 1, by omega, by go_num, _, by first | rfl | (rw [World.drewN_drewN])⟩
        case measure => simp [intOf]; omega
    · have hcase : (¬ (j : Int) < (nu : Int)) ∨ ((j : Int) < (nu : Int) ∧ ¬ ((st : Int) = 0)) := by omega
      clear hgo
      rcases hcase with hge | ⟨hlt, hst1⟩
      all_goals
        go_wp2
        go_loopw [7, 8] (fun sq i wr => ∃ (j : Nat) (z : Int), j ≤ nx ∧ i = .int .i64 j ∧ sq = .int .i64 z ∧ ∃ q, wr = W.drewN q) (fun _ i _ => nx - (intOf i).toNat)
        case atStart => exact ⟨0, _, Nat.zero_le _, rfl, rfl, _, rfl⟩
        case round =>
          obtain ⟨j, z, hj, rfl, rfl, q, rfl⟩ := hrel
          by_cases hlt2 : j < nx
          · obtain ⟨t, ht2⟩ : ∃ t, R.txns[j]? = some t := ⟨_, List.getElem?_eq_getElem (by rw [HNU.out.2]; exact hlt2)⟩
            obtain ⟨g, rfl, y0, y2⟩ := HGX.out j t ht2
            have i0 : (0 : Int) ≤ (j : Int) := by omega
            have i1 : (j : Int) < (nx : Int) := by omega
            obtain ⟨ti, hti⟩ : ∃ ti, ti = t.id := ⟨_, rfl⟩
            rw [← hti] at y0
            clear ht2 hti
            by_cases he : ti = txn
            · subst he
              go_wp2
              go_quiet (fail)
              go_wp2
              go_roundw
              case rel => exact ⟨j + 1, _, by omega, by go_num, rfl, _, by first | rfl | (rw [World.drewN_drewN])⟩
              case measure => simp [intOf]; omega
            · have be : ((ti : Int) == (txn : Int)) = false := by simp; omega
              go_wp2
              go_quiet (fail)
              go_wp2
              go_roundw
              case rel => exact ⟨j + 1, _, by omega, by go_num, rfl, _, by first | rfl | (rw [World.drewN_drewN])⟩
              case measure => simp [intOf]; omega
          · have i1 : ¬ (j : Int) < (nx : Int) := by omega
            have hmet := HK.out.2.2.2.2.1
            by_cases hk7 : kd = 7
            · rw [hk7] at z0
              have hop : ∀ w', Fr [] W w' → Calls Tryz.prog 28 #[.pointer (some ⟨hp, 0, none⟩), .int .u64 (txn : Int), .int .i64 z, .string key] w' fun e w2 => e = .returned (.tuple #[.string (s.get txn z key).2.1, .bool (s.get txn z key).2.2.1, .int .i64 ((s.get txn z key).2.2.2 : Int)]) ∧ (KIn w2 hp p sp gp bV bT bH lp bD bN (m + 2) n (s.get txn z key).1 l d kp mp cv uv cs us R ∧ LFr w w2 ∧ w2.heap[bx]? = some (stepO kd txn sq nn key sv ao x y f1 f2 f3 f4)) := fun w' hw' => by
                have K := HK.out.1.new hw'
                have hc := hGet_x B0 hp p sp gp bV bT bH lp bD bN m n txn z key s l d w' K.host hB ((HK.out.2.1.trans (LFr.new hw' HK.out.1.size)).met hB hmet) ht (by unfold maxLen; omega) (by unfold maxLen; omega) (by have := HK.out.2.2.1.state txn; omega) (by have := HK.out.2.2.1.done txn; omega)
                refine hc.mono ?_
                rintro e w2 ⟨rfl, hH, hS⟩
                have hs' : w'.heap[bx]? = some (stepO kd txn sq nn key sv ao x y f1 f2 f3 f4) := (hw'.block bx (Array.getElem?_eq_some_iff.1 HK.out.2.2.2.2.2).1 (by simp)).trans HK.out.2.2.2.2.2
                refine ⟨rfl, K.sfr hH hS, (HK.out.2.1.trans (LFr.new hw' HK.out.1.size)).trans (LFr.host K.host hS), hS.cells K.host.2.1 hs' (by decide) (by decide) (by decide) (by decide) (by decide) (by decide)⟩
              obtain ⟨e1, e2⟩ := HK.out.2.2.1.get HK.out.2.2.2.1 txn z key ht
              rw [e1] at hop
              have HGD := toHid e2
              obtain ⟨r, hr⟩ : ∃ r, r = (R.get txn z key).2 := ⟨_, rfl⟩
              rw [← hr] at hop
              have HRE := toHid hr
              obtain ⟨ra, rb, re⟩ := r
              simp only [] at hop
              clear e1 e2 hr
              go_wp2
              go_region_held3 (fun w' => w'.cell? ⟨kp, 0, none⟩ = some (.pointer (some ⟨hp, 0, none⟩)) ∧ w'.cell? ⟨bx, 1, none⟩ = some (.int .u64 (txn : Int)) ∧ w'.cell? ⟨bx, 4, none⟩ = some (.string key)) (simp [*])
                (first | (go_at_call 28; refine (hop _ (by first | exact ((Fr.refl [] W).drewM q).drew | exact (Fr.refl [] W).drewM _)).mono ?_; rintro e w2 ⟨rfl, hK2⟩; have a0 := blk_cell hK2.1.kb 0; have a1 := blk_cell hK2.2.2 1; have a4 := blk_cell hK2.2.2 4; have a5 := blk_cell hK2.2.2 5; have b1 := blk_cell hK2.1.kb 1; simp at a0 a1 a4 a5 b1; have H2 := toHid hK2; clear hK2 hop))
              all_goals
                clear k0 k1 k5 z0 z1 z2 z4 z5 x1
                have hrf : ∀ w', Fr [] w2 w' → Calls Tryz.prog 143 #[.pointer (some ⟨mp, 0, none⟩), .int .u64 (txn : Int), .int .i64 z, .string key] w' fun e w3 => e = .returned (.tuple #[.string (R.get txn z key).2.1, .bool (R.get txn z key).2.2.1, .int .i64 ((R.get txn z key).2.2.2 : Int)]) ∧ KIn w3 hp p sp gp bV bT bH lp bD bN (m + 2) n (s.get txn z key).1 l d kp mp cv uv cs us (R.get txn z key).1 ∧ LFr w w3 ∧ w3.heap[bx]? = some (stepO kd txn sq nn key sv ao x y f1 f2 f3 f4) := fun w' hw' => by
                  have K := H2.out.1.new hw'
                  have hc := rget_any mp txn z key R w' K.ref HK.out.2.2.1.rel.asc (by have := HK.out.2.2.1.rel.len; exact this) HK.out.2.2.1.four (fun x hx => by have := HK.out.2.2.1.ops x hx; omega) (HK.out.2.2.1.once txn) (by have := HK.out.2.2.1.table; omega)
                  refine hc.mono ?_
                  rintro e w3 ⟨rfl, hR, hBr⟩
                  have L := (LFr.new hw' H2.out.1.size).trans (hBr.lfr K.size)
                  exact ⟨rfl, K.rbr hBr hR, H2.out.2.1.trans L, L.step _ _ H2.out.2.2⟩
                rw [← HRE.out] at hrf
                simp only [] at hrf
                go_wp2
                go_region_held3 (fun w' => w'.cell? ⟨kp, 1, none⟩ = some (.pointer (some ⟨mp, 0, none⟩)) ∧ w'.cell? ⟨bx, 1, none⟩ = some (.int .u64 (txn : Int)) ∧ w'.cell? ⟨bx, 4, none⟩ = some (.string key)) (simp [*])
                  (first | (go_at_call 143; refine (hrf _ (by first | exact (Fr.refl [] w2).drew | exact Fr.refl [] w2 | exact (Fr.refl [] w2).drewM _ | exact ((Fr.refl [] w2).drewM _).drew)).mono ?_; rintro e w3 ⟨rfl, hK3⟩; have g0 := blk_cell hK3.1.kb 1; have g1 := blk_cell hK3.2.2 1; have g4 := blk_cell hK3.2.2 4; have g5 := blk_cell hK3.2.2 5; simp at g0 g1 g4 g5; have H3 := toHid hK3; clear hK3 hrf))
                all_goals
                  clear a0 a1 a4 a5 b1
                  go_wp2
                  first
                    | (go_quiet (fail)
                       go_wp2
                       go_ret
                       exact ⟨rfl, ⟨m + 2, _, _, Nat.le_refl _, H3.out.1.new ((Fr.refl [] w3).drewM _), HGD.out⟩, H3.out.2.1.trans (LFr.new ((Fr.refl [] w3).drewM _) H3.out.1.size)⟩)
                    | (go_ret
                       exact ⟨rfl, ⟨m + 2, _, _, Nat.le_refl _, H3.out.1, HGD.out⟩, H3.out.2.1⟩)
            by_cases hk8 : kd = 8
            · rw [hk8] at z0
              have hop : ∀ w', Fr [] W w' → Calls Tryz.prog 59 #[.pointer (some ⟨hp, 0, none⟩), .int .u64 (txn : Int), .int .i64 z, .string key, .string sv] w' fun e w2 => e = .returned (.int .i64 ((s.operate txn z key ⟨1, sv⟩).2 : Int)) ∧ (KIn w2 hp p sp gp bV bT bH lp bD bN (m + 2) n (s.operate txn z key ⟨1, sv⟩).1 l d kp mp cv uv cs us R ∧ LFr w w2 ∧ w2.heap[bx]? = some (stepO kd txn sq nn key sv ao x y f1 f2 f3 f4)) := fun w' hw' => by
                have K := HK.out.1.new hw'
                have hc := hPut_x B0 hp p sp gp bV bT bH lp bD bN m n txn z key s l d w' sv K.host hB ((HK.out.2.1.trans (LFr.new hw' HK.out.1.size)).met hB hmet) ht (by unfold maxLen; omega) (by have := HK.out.2.2.1.state txn; omega) (by have := HK.out.2.2.1.done txn; omega)
                refine hc.mono ?_
                rintro e w2 ⟨rfl, hH, hS⟩
                have hs' : w'.heap[bx]? = some (stepO kd txn sq nn key sv ao x y f1 f2 f3 f4) := (hw'.block bx (Array.getElem?_eq_some_iff.1 HK.out.2.2.2.2.2).1 (by simp)).trans HK.out.2.2.2.2.2
                refine ⟨rfl, K.sfr hH hS, (HK.out.2.1.trans (LFr.new hw' HK.out.1.size)).trans (LFr.host K.host hS), hS.cells K.host.2.1 hs' (by decide) (by decide) (by decide) (by decide) (by decide) (by decide)⟩
              obtain ⟨e1, e2⟩ := HK.out.2.2.1.put txn z key sv ht
              rw [e1] at hop
              have HGD := toHid e2
              obtain ⟨r, hr⟩ : ∃ r, r = (R.put txn z key sv).2 := ⟨_, rfl⟩
              rw [← hr] at hop
              have HRE := toHid hr
              clear e1 e2 hr
              go_wp2
              go_region_held3 (fun w' => w'.cell? ⟨kp, 0, none⟩ = some (.pointer (some ⟨hp, 0, none⟩)) ∧ w'.cell? ⟨bx, 1, none⟩ = some (.int .u64 (txn : Int)) ∧ w'.cell? ⟨bx, 4, none⟩ = some (.string key) ∧ w'.cell? ⟨bx, 5, none⟩ = some (.string sv)) (simp [*])
                (first | (go_at_call 59; refine (hop _ (by first | exact ((Fr.refl [] W).drewM q).drew | exact (Fr.refl [] W).drewM _)).mono ?_; rintro e w2 ⟨rfl, hK2⟩; have a0 := blk_cell hK2.1.kb 0; have a1 := blk_cell hK2.2.2 1; have a4 := blk_cell hK2.2.2 4; have a5 := blk_cell hK2.2.2 5; have b1 := blk_cell hK2.1.kb 1; simp at a0 a1 a4 a5 b1; have H2 := toHid hK2; clear hK2 hop))
              all_goals
                clear k0 k1 k5 z0 z1 z2 z4 z5 x1
                have hrf : ∀ w', Fr [] w2 w' → Calls Tryz.prog 144 #[.pointer (some ⟨mp, 0, none⟩), .int .u64 (txn : Int), .int .i64 z, .string key, .string sv] w' fun e w3 => e = .returned (.int .i64 ((R.put txn z key sv).2 : Int)) ∧ KIn w3 hp p sp gp bV bT bH lp bD bN (m + 2) n (s.operate txn z key ⟨1, sv⟩).1 l d kp mp cv uv cs us (R.put txn z key sv).1 ∧ LFr w w3 ∧ w3.heap[bx]? = some (stepO kd txn sq nn key sv ao x y f1 f2 f3 f4) := fun w' hw' => by
                  have K := H2.out.1.new hw'
                  have hc := rput_any mp txn z key R w' sv K.ref HK.out.2.2.1.rel.asc (by have := HK.out.2.2.1.rel.len; exact this) HK.out.2.2.1.four (fun x hx => by have := HK.out.2.2.1.ops x hx; omega) (HK.out.2.2.1.once txn)
                  refine hc.mono ?_
                  rintro e w3 ⟨rfl, hR, hBr⟩
                  have L := (LFr.new hw' H2.out.1.size).trans (hBr.lfr K.size)
                  exact ⟨rfl, K.rbr hBr hR, H2.out.2.1.trans L, L.step _ _ H2.out.2.2⟩
                rw [← HRE.out] at hrf
                go_wp2
                go_region_held3 (fun w' => w'.cell? ⟨kp, 1, none⟩ = some (.pointer (some ⟨mp, 0, none⟩)) ∧ w'.cell? ⟨bx, 1, none⟩ = some (.int .u64 (txn : Int)) ∧ w'.cell? ⟨bx, 4, none⟩ = some (.string key) ∧ w'.cell? ⟨bx, 5, none⟩ = some (.string sv)) (simp [*])
                  (first | (go_at_call 144; refine (hrf _ (by first | exact (Fr.refl [] w2).drew | exact Fr.refl [] w2 | exact (Fr.refl [] w2).drewM _ | exact ((Fr.refl [] w2).drewM _).drew)).mono ?_; rintro e w3 ⟨rfl, hK3⟩; have g0 := blk_cell hK3.1.kb 1; have g1 := blk_cell hK3.2.2 1; have g4 := blk_cell hK3.2.2 4; have g5 := blk_cell hK3.2.2 5; simp at g0 g1 g4 g5; have H3 := toHid hK3; clear hK3 hrf))
                all_goals
                  clear a0 a1 a4 a5 b1
                  go_wp2
                  first
                    | (go_quiet (fail)
                       go_wp2
                       go_ret
                       exact ⟨rfl, ⟨m + 2, _, _, Nat.le_refl _, H3.out.1.new ((Fr.refl [] w3).drewM _), HGD.out⟩, H3.out.2.1.trans (LFr.new ((Fr.refl [] w3).drewM _) H3.out.1.size)⟩)
                    | (go_ret
                       exact ⟨rfl, ⟨m + 2, _, _, Nat.le_refl _, H3.out.1, HGD.out⟩, H3.out.2.1⟩)
            · have z7 : (kd == 7) = false := by simpa using hk7
              have z8 : (kd == 8) = false := by simpa using hk8
              have hop : ∀ w', Fr [] W w' → Calls Tryz.prog 60 #[.pointer (some ⟨hp, 0, none⟩), .int .u64 (txn : Int), .int .i64 z, .string key] w' fun e w2 => e = .returned (.int .i64 ((s.operate txn z key ⟨2, ByteArray.empty⟩).2 : Int)) ∧ (KIn w2 hp p sp gp bV bT bH lp bD bN (m + 2) n (s.operate txn z key ⟨2, ByteArray.empty⟩).1 l d kp mp cv uv cs us R ∧ LFr w w2 ∧ w2.heap[bx]? = some (stepO kd txn sq nn key sv ao x y f1 f2 f3 f4)) := fun w' hw' => by
                have K := HK.out.1.new hw'
                have hc := hDelete_x B0 hp p sp gp bV bT bH lp bD bN m n txn z key s l d w' K.host hB ((HK.out.2.1.trans (LFr.new hw' HK.out.1.size)).met hB hmet) ht (by unfold maxLen; omega) (by have := HK.out.2.2.1.state txn; omega) (by have := HK.out.2.2.1.done txn; omega)
                refine hc.mono ?_
                rintro e w2 ⟨rfl, hH, hS⟩
                have hs' : w'.heap[bx]? = some (stepO kd txn sq nn key sv ao x y f1 f2 f3 f4) := (hw'.block bx (Array.getElem?_eq_some_iff.1 HK.out.2.2.2.2.2).1 (by simp)).trans HK.out.2.2.2.2.2
                refine ⟨rfl, K.sfr hH hS, (HK.out.2.1.trans (LFr.new hw' HK.out.1.size)).trans (LFr.host K.host hS), hS.cells K.host.2.1 hs' (by decide) (by decide) (by decide) (by decide) (by decide) (by decide)⟩
              obtain ⟨e1, e2⟩ := HK.out.2.2.1.delete txn z key ht
              rw [e1] at hop
              have HGD := toHid e2
              obtain ⟨r, hr⟩ : ∃ r, r = (R.delete txn z key).2 := ⟨_, rfl⟩
              rw [← hr] at hop
              have HRE := toHid hr
              clear e1 e2 hr
              go_wp2
              go_region_held3 (fun w' => w'.cell? ⟨kp, 0, none⟩ = some (.pointer (some ⟨hp, 0, none⟩)) ∧ w'.cell? ⟨bx, 1, none⟩ = some (.int .u64 (txn : Int)) ∧ w'.cell? ⟨bx, 4, none⟩ = some (.string key)) (simp [*])
                (first | (go_at_call 60; refine (hop _ (by first | exact ((Fr.refl [] W).drewM q).drew | exact (Fr.refl [] W).drewM _)).mono ?_; rintro e w2 ⟨rfl, hK2⟩; have a0 := blk_cell hK2.1.kb 0; have a1 := blk_cell hK2.2.2 1; have a4 := blk_cell hK2.2.2 4; have a5 := blk_cell hK2.2.2 5; have b1 := blk_cell hK2.1.kb 1; simp at a0 a1 a4 a5 b1; have H2 := toHid hK2; clear hK2 hop))
              all_goals
                clear k0 k1 k5 z0 z1 z2 z4 z5 x1
                have hrf : ∀ w', Fr [] w2 w' → Calls Tryz.prog 145 #[.pointer (some ⟨mp, 0, none⟩), .int .u64 (txn : Int), .int .i64 z, .string key] w' fun e w3 => e = .returned (.int .i64 ((R.delete txn z key).2 : Int)) ∧ KIn w3 hp p sp gp bV bT bH lp bD bN (m + 2) n (s.operate txn z key ⟨2, ByteArray.empty⟩).1 l d kp mp cv uv cs us (R.delete txn z key).1 ∧ LFr w w3 ∧ w3.heap[bx]? = some (stepO kd txn sq nn key sv ao x y f1 f2 f3 f4) := fun w' hw' => by
                  have K := H2.out.1.new hw'
                  have hc := rdelete_any mp txn z key R w' K.ref HK.out.2.2.1.rel.asc (by have := HK.out.2.2.1.rel.len; exact this) HK.out.2.2.1.four (fun x hx => by have := HK.out.2.2.1.ops x hx; omega) (HK.out.2.2.1.once txn)
                  refine hc.mono ?_
                  rintro e w3 ⟨rfl, hR, hBr⟩
                  have L := (LFr.new hw' H2.out.1.size).trans (hBr.lfr K.size)
                  exact ⟨rfl, K.rbr hBr hR, H2.out.2.1.trans L, L.step _ _ H2.out.2.2⟩
                rw [← HRE.out] at hrf
                go_wp2
                go_region_held3 (fun w' => w'.cell? ⟨kp, 1, none⟩ = some (.pointer (some ⟨mp, 0, none⟩)) ∧ w'.cell? ⟨bx, 1, none⟩ = some (.int .u64 (txn : Int)) ∧ w'.cell? ⟨bx, 4, none⟩ = some (.string key)) (simp [*])
                  (first | (go_at_call 145; refine (hrf _ (by first | exact (Fr.refl [] w2).drew | exact Fr.refl [] w2 | exact (Fr.refl [] w2).drewM _ | exact ((Fr.refl [] w2).drewM _).drew)).mono ?_; rintro e w3 ⟨rfl, hK3⟩; have g0 := blk_cell hK3.1.kb 1; have g1 := blk_cell hK3.2.2 1; have g4 := blk_cell hK3.2.2 4; have g5 := blk_cell hK3.2.2 5; simp at g0 g1 g4 g5; have H3 := toHid hK3; clear hK3 hrf))
                all_goals
                  clear a0 a1 a4 a5 b1
                  go_wp2
                  first
                    | (go_quiet (fail)
                       go_wp2
                       go_ret
                       exact ⟨rfl, ⟨m + 2, _, _, Nat.le_refl _, H3.out.1.new ((Fr.refl [] w3).drewM _), HGD.out⟩, H3.out.2.1.trans (LFr.new ((Fr.refl [] w3).drewM _) H3.out.1.size)⟩)
                    | (go_ret
                       exact ⟨rfl, ⟨m + 2, _, _, Nat.le_refl _, H3.out.1, HGD.out⟩, H3.out.2.1⟩)
end
end Go.Proofs.YtejiankgafjppaaGreatDoor
