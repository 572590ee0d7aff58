import Derived.Test.YtbdhmkfdofkloaaGreatDoorC17
/- SORTING NUMBERS (uint64), many of them: siftDown, heapSort. -/
namespace Go.Proofs.YtbdhmkfdofkloaaGreatDoor
open Go.RowKit Go.Maps
open Sc

theorem sift_end {hi f r : Nat} {d : Array Nat} (h : hi ≤ 2 * r + 1) : Go.Sort.siftDown ltN hi f r d = d := by
  rw [Go.Sort.siftDown, dif_pos (by omega)]
theorem sift_b {hi f r c e p p1 q : Nat} {d : Array Nat} (hc : c = 2 * r + 1) (he : e = c + 1) (hp : p = f + c) (hp1 : p1 = p + 1) (hq : q = f + r) (h1 : e < hi) (h2 : d[p]! < d[p1]!) :
    Go.Sort.siftDown ltN hi f r d = if d[q]! < d[p1]! then Go.Sort.siftDown ltN hi f e (Go.Sort.swp d q p1) else d := by
  subst hc he hp hp1 hq
  rw [Go.Sort.siftDown, dif_neg (by omega), if_pos (by simp [ltN]; exact ⟨h1, h2⟩)]
  simp only [show f + (2 * r + 2) = f + (2 * r + 1) + 1 by omega]
  by_cases h3 : d[f + r]! < d[f + (2 * r + 1) + 1]!
  · rw [if_neg (by simp [ltN, h3]), dif_pos (by omega), if_pos h3]
  · rw [if_pos (by simp [ltN]; omega), if_neg h3]
theorem sift_a {hi f r c e p p1 q : Nat} {d : Array Nat} (hc : c = 2 * r + 1) (he : e = c + 1) (hp : p = f + c) (hp1 : p1 = p + 1) (hq : q = f + r) (h0 : c < hi) (h2 : ¬ (e < hi ∧ d[p]! < d[p1]!)) :
    Go.Sort.siftDown ltN hi f r d = if d[q]! < d[p]! then Go.Sort.siftDown ltN hi f c (Go.Sort.swp d q p) else d := by
  subst hc he hp hp1 hq
  rw [Go.Sort.siftDown, dif_neg (by omega), if_neg (by simp [ltN]; intro h; have := fun h' => h2 ⟨h, h'⟩; omega)]
  by_cases h3 : d[f + r]! < d[f + (2 * r + 1)]!
  · rw [if_neg (by simp [ltN, h3]), if_pos h3]
  · rw [if_pos (by simp [ltN]; omega), if_neg h3]
set_option maxRecDepth 100000 in
set_option maxHeartbeats 4000000 in
theorem siftU (B g n cap lo hi f : Nat) (d : Array Nat) (w0 w : World) (h : SU w0 w B g n cap d) (hl : lo ≤ hi) (hb : f + hi ≤ n) (hn : n ≤ 67108864) :
    Calls Tryz.prog 189 #[.slice (some ⟨g, 0, none⟩) n cap, .int .i64 (lo : Int), .int .i64 (hi : Int), .int .i64 (f : Int)] w fun e w' => e = .returned (.tuple #[]) ∧ SU w0 w' B g n cap (Go.Sort.siftDown ltN hi f lo d) := by
  have H0 : Hid (SU w0 w B g n cap d) := h
  clear h
  go_enter Tryz.func189, Tryz.ntmps189
  go_wp2
  go_loopw [8] (fun i wr => ∃ r : Nat, i = .int .i64 r ∧ r ≤ hi ∧ ∃ d', SU w0 wr B g n cap d' ∧ Go.Sort.siftDown ltN hi f r d' = Go.Sort.siftDown ltN hi f lo d) (fun i _ => n + 5 - (intOf i).toNat)
  case atStart => exact ⟨lo, rfl, hl, d, H0.out, rfl⟩
  case round =>
    obtain ⟨r, rfl, hr, d1, hs1, he1⟩ := hrel
    have HS : Hid (SU w0 wr B g n cap d1) := hs1
    have HE : Hid (Go.Sort.siftDown ltN hi f r d1 = Go.Sort.siftDown ltN hi f lo d) := he1
    clear hs1 he1
    obtain ⟨c, hc⟩ : ∃ c, c = 2 * r + 1 := ⟨_, rfl⟩
    have jc0 : IntKind.i64.wrap (2 * (r : Int)) = 2 * (r : Int) := by rw [IntKind.wrap_i64]; omega
    have jc1 : IntKind.i64.wrap (2 * (r : Int) + 1) = (c : Int) := by rw [IntKind.wrap_i64]; omega
    have hcr : r < c := by omega
    have HC : Hid (c = 2 * r + 1) := hc
    clear hc
    by_cases hlt : c < hi
    · have j1 : (c : Int) < (hi : Int) := by omega
      obtain ⟨e, he⟩ : ∃ e, e = c + 1 := ⟨_, rfl⟩
      obtain ⟨p, hp⟩ : ∃ p, p = f + c := ⟨_, rfl⟩
      obtain ⟨p1, hp1⟩ : ∃ p1, p1 = p + 1 := ⟨_, rfl⟩
      obtain ⟨q, hq⟩ : ∃ q, q = f + r := ⟨_, rfl⟩
      have je : IntKind.i64.wrap ((c : Int) + 1) = (e : Int) := by rw [IntKind.wrap_i64]; omega
      have jp : IntKind.i64.wrap ((f : Int) + (c : Int)) = (p : Int) := by rw [IntKind.wrap_i64]; omega
      have jp1 : IntKind.i64.wrap ((p : Int) + 1) = (p1 : Int) := by rw [IntKind.wrap_i64]; omega
      have jp2 : IntKind.i64.wrap ((f : Int) + (e : Int)) = (p1 : Int) := by rw [IntKind.wrap_i64]; omega
      have jq : IntKind.i64.wrap ((f : Int) + (r : Int)) = (q : Int) := by rw [IntKind.wrap_i64]; omega
      have HQ : Hid (e = c + 1 ∧ p = f + c ∧ p1 = p + 1 ∧ q = f + r) := ⟨he, hp, hp1, hq⟩
      have cq := HS.out.at (k := q) (by omega)
      have cp := HS.out.at (k := p) (by omega)
      have fq : wr.frozen? ⟨g, q, none⟩ = false := HS.out.free _
      have fp : wr.frozen? ⟨g, p, none⟩ = false := HS.out.free _
      have bq : (q : Int) < (n : Int) := by omega
      have bp : (p : Int) < (n : Int) := by omega
      have nqp : q ≠ p := by omega
      have npq : p ≠ q := by omega
      by_cases heh : e < hi
      · have j2 : (e : Int) < (hi : Int) := by omega
        have cp1 := HS.out.at (k := p1) (by omega)
        have fp1 : wr.frozen? ⟨g, p1, none⟩ = false := HS.out.free _
        have bp1 : (p1 : Int) < (n : Int) := by omega
        have nqp1 : q ≠ p1 := by omega
        have npq1 : p1 ≠ q := by omega
        clear he hp hp1 hq
        by_cases hxy : ((d1[p]! : Nat) : Int) < ((d1[p1]! : Nat) : Int)
        · have hd : decide (((d1[p]! : Nat) : Int) < ((d1[p1]! : Nat) : Int)) = true := by simp only [hxy, decide_true]
          have HF : Hid (Go.Sort.siftDown ltN hi f r d1 = if d1[q]! < d1[p1]! then Go.Sort.siftDown ltN hi f e (Go.Sort.swp d1 q p1) else d1) := sift_b HC.out HQ.out.1 HQ.out.2.1 HQ.out.2.2.1 HQ.out.2.2.2 heh (by omega)
          go_wp2
          go_quiet (first | (go_at_call 116; refine Calls.quiet_of_same (lessU _ _ _)))
          obtain ⟨W1, hW1⟩ : ∃ W, W = wr.drewN nq := ⟨_, rfl⟩
          rw [← hW1]
          have HS1 : Hid (SU w0 W1 B g n cap d1) := by rw [hW1]; exact HS.out.drewN nq
          clear hW1 cq cp fq fp cp1 fp1
          have dq := HS1.out.at (k := q) (by omega)
          have dp := HS1.out.at (k := p1) (by omega)
          have fq : W1.frozen? ⟨g, q, none⟩ = false := HS1.out.free _
          have fp : W1.frozen? ⟨g, p1, none⟩ = false := HS1.out.free _
          by_cases hz : ((d1[q]! : Nat) : Int) < ((d1[p1]! : Nat) : Int)
          · have hzd : decide (((d1[q]! : Nat) : Int) < ((d1[p1]! : Nat) : Int)) = true := by simp only [hz, decide_true]
            go_wp2
            go_quiet (first | (go_at_call 116; refine Calls.quiet_of_same (lessU _ _ _)))
            go_wp2
            go_region
            all_goals go_wp2
            have hqq := HQ.out
            refine ⟨⟨e, rfl, by omega, _, ((HS1.out.drewN nq).swp q p1).drew, ?_⟩, by simp [intOf]; omega⟩
            rw [← HE.out, HF.out, if_pos (by omega)]
          · have hzd : decide (((d1[q]! : Nat) : Int) < ((d1[p1]! : Nat) : Int)) = false := by simp only [hz, decide_false]
            go_wp2
            go_quiet (first | (go_at_call 116; refine Calls.quiet_of_same (lessU _ _ _)))
            go_wp2
            · refine bodyPost_ret (results_none rfl _ _ _) rfl ?_
              refine ⟨rfl, ?_⟩
              rw [← HE.out, HF.out, if_neg (by omega)]
              exact HS1.out.drewN _
            · exfalso
              have hx : (!decide (d1[q]! < d1[p1]!)) = false := by assumption
              simp at hx
              omega
        · have hd : decide (((d1[p]! : Nat) : Int) < ((d1[p1]! : Nat) : Int)) = false := by simp only [hxy, decide_false]
          have HF : Hid (Go.Sort.siftDown ltN hi f r d1 = if d1[q]! < d1[p]! then Go.Sort.siftDown ltN hi f c (Go.Sort.swp d1 q p) else d1) := sift_a HC.out HQ.out.1 HQ.out.2.1 HQ.out.2.2.1 HQ.out.2.2.2 hlt (by omega)
          go_wp2
          go_quiet (first | (go_at_call 116; refine Calls.quiet_of_same (lessU _ _ _)))
          obtain ⟨W1, hW1⟩ : ∃ W, W = wr.drewN nq := ⟨_, rfl⟩
          rw [← hW1]
          have HS1 : Hid (SU w0 W1 B g n cap d1) := by rw [hW1]; exact HS.out.drewN nq
          clear hW1 cq cp fq fp cp1 fp1
          have dq := HS1.out.at (k := q) (by omega)
          have dp := HS1.out.at (k := p) (by omega)
          have fq : W1.frozen? ⟨g, q, none⟩ = false := HS1.out.free _
          have fp : W1.frozen? ⟨g, p, none⟩ = false := HS1.out.free _
          by_cases hz : ((d1[q]! : Nat) : Int) < ((d1[p]! : Nat) : Int)
          · have hzd : decide (((d1[q]! : Nat) : Int) < ((d1[p]! : Nat) : Int)) = true := by simp only [hz, decide_true]
            go_wp2
            go_quiet (first | (go_at_call 116; refine Calls.quiet_of_same (lessU _ _ _)))
            go_wp2
            go_region
            all_goals go_wp2
            have hqq := HQ.out
            refine ⟨⟨c, rfl, by omega, _, ((HS1.out.drewN nq).swp q p).drew, ?_⟩, by simp [intOf]; omega⟩
            rw [← HE.out, HF.out, if_pos (by omega)]
          · have hzd : decide (((d1[q]! : Nat) : Int) < ((d1[p]! : Nat) : Int)) = false := by simp only [hz, decide_false]
            go_wp2
            go_quiet (first | (go_at_call 116; refine Calls.quiet_of_same (lessU _ _ _)))
            go_wp2
            · refine bodyPost_ret (results_none rfl _ _ _) rfl ?_
              refine ⟨rfl, ?_⟩
              rw [← HE.out, HF.out, if_neg (by omega)]
              exact HS1.out.drewN _
            · exfalso
              have hx : (!decide (d1[q]! < d1[p]!)) = false := by assumption
              simp at hx
              omega
      · have j2 : ¬ (e : Int) < (hi : Int) := by omega
        clear he hp hp1 hq
        have HF : Hid (Go.Sort.siftDown ltN hi f r d1 = if d1[q]! < d1[p]! then Go.Sort.siftDown ltN hi f c (Go.Sort.swp d1 q p) else d1) := sift_a HC.out HQ.out.1 HQ.out.2.1 HQ.out.2.2.1 HQ.out.2.2.2 hlt (by omega)
        go_wp2
        go_quiet (first | (go_at_call 116; refine Calls.quiet_of_same (lessU _ _ _)))
        obtain ⟨W1, hW1⟩ : ∃ W, W = wr.drewN nq := ⟨_, rfl⟩
        rw [← hW1]
        have HS1 : Hid (SU w0 W1 B g n cap d1) := by rw [hW1]; exact HS.out.drewN nq
        clear hW1 cq cp fq fp
        have dq := HS1.out.at (k := q) (by omega)
        have dp := HS1.out.at (k := p) (by omega)
        have fq : W1.frozen? ⟨g, q, none⟩ = false := HS1.out.free _
        have fp : W1.frozen? ⟨g, p, none⟩ = false := HS1.out.free _
        by_cases hz : ((d1[q]! : Nat) : Int) < ((d1[p]! : Nat) : Int)
        · have hzd : decide (((d1[q]! : Nat) : Int) < ((d1[p]! : Nat) : Int)) = true := by simp only [hz, decide_true]
          go_wp2
          go_quiet (first | (go_at_call 116; refine Calls.quiet_of_same (lessU _ _ _)))
          go_wp2
          go_region
          all_goals go_wp2
          have hqq := HQ.out
          refine ⟨⟨c, rfl, by omega, _, ((HS1.out.drewN nq).swp q p).drew, ?_⟩, by simp [intOf]; omega⟩
          rw [← HE.out, HF.out, if_pos (by omega)]
        · have hzd : decide (((d1[q]! : Nat) : Int) < ((d1[p]! : Nat) : Int)) = false := by simp only [hz, decide_false]
          go_wp2
          go_quiet (first | (go_at_call 116; refine Calls.quiet_of_same (lessU _ _ _)))
          go_wp2
          · refine bodyPost_ret (results_none rfl _ _ _) rfl ?_
            refine ⟨rfl, ?_⟩
            rw [← HE.out, HF.out, if_neg (by omega)]
            exact HS1.out.drewN _
          · exfalso
            have hx : (!decide (d1[q]! < d1[p]!)) = false := by assumption
            simp at hx
            omega
    · have j1 : ¬ (c : Int) < (hi : Int) := by omega
      go_wp2
      go_end0
      refine ⟨rfl, ?_⟩
      have hc := HC.out
      rw [← HE.out, sift_end (by omega)]
      exact HS.out

end Go.Proofs.YtbdhmkfdofkloaaGreatDoor
/- SORTING NUMBERS (uint64), many of them: heapSort. -/
namespace Go.Proofs.YtbdhmkfdofkloaaGreatDoor
open Go.RowKit Go.Maps
open Sc

set_option maxRecDepth 100000 in
set_option maxHeartbeats 4000000 in
theorem heapU (B g n cap a b : Nat) (d : Array Nat) (w0 w : World) (h : SU w0 w B g n cap d) (hab : a < b) (hb : b ≤ n) (hn : n ≤ 67108864) :
    Calls Tryz.prog 173 #[.slice (some ⟨g, 0, none⟩) n cap, .int .i64 (a : Int), .int .i64 (b : Int)] w fun e w' => e = .returned (.tuple #[]) ∧ SU w0 w' B g n cap (Go.Sort.heapSort ltN d a b) := by
  have H0 : Hid (SU w0 w B g n cap d) := h
  obtain ⟨m, hm⟩ : ∃ m, m = b - a := ⟨_, rfl⟩
  have j1 : IntKind.i64.wrap ((b : Int) - (a : Int)) = (m : Int) := by rw [IntKind.wrap_i64]; omega
  have HM : Hid (m = b - a) := hm
  have hm1 : 1 ≤ m := by omega
  have hmn : a + m ≤ n := by omega
  clear h hm
  go_enter Tryz.func173, Tryz.ntmps173
  go_wp2
  go_loopw [9] (fun i wr => ∃ k : Nat, i = .int .i64 ((k : Int) - 1) ∧ k ≤ (m - 1) / 2 + 1 ∧ ∃ d', SU w0 wr B g n cap d' ∧ Go.Sort.heapBuild ltN m a k d' = Go.Sort.heapBuild ltN m a ((m - 1) / 2 + 1) d) (fun i _ => (intOf i + 1).toNat)
  case atStart =>
    refine ⟨(m - 1) / 2 + 1, ?_, by omega, d, H0.out, rfl⟩
    congr 1; omega
  case round =>
    obtain ⟨k, rfl, hk, d1, hs1, he1⟩ := hrel
    have HS : Hid (SU w0 wr B g n cap d1) := hs1
    have HE : Hid (Go.Sort.heapBuild ltN m a k d1 = Go.Sort.heapBuild ltN m a ((m - 1) / 2 + 1) d) := he1
    clear hs1 he1
    cases k with
    | zero =>
      rw [show (((0 : Nat) : Int) - 1) = -1 by omega]
      go_wp2
      go_loopw [10] (fun i wr => ∃ k : Nat, i = .int .i64 ((k : Int) - 1) ∧ k ≤ m ∧ ∃ d', SU w0 wr B g n cap d' ∧ Go.Sort.heapPop ltN a k d' = Go.Sort.heapSort ltN d a b) (fun i _ => (intOf i + 1).toNat)
      case atStart =>
        refine ⟨m, by first | rfl | (congr 1; omega), by omega, d1, HS.out, ?_⟩
        · have he := HE.out
          have hm := HM.out
          rw [Go.Sort.heapBuild] at he
          rw [Go.Sort.heapSort, ← hm, he]
      case round =>
        obtain ⟨k, rfl, hk2, d2, hs2, he2⟩ := hrel
        have HS2 : Hid (SU w0 wr B g n cap d2) := hs2
        have HE2 : Hid (Go.Sort.heapPop ltN a k d2 = Go.Sort.heapSort ltN d a b) := he2
        clear hs2 he2
        cases k with
        | zero =>
          go_wp2
          go_end0
          refine ⟨rfl, ?_⟩
          rw [← HE2.out]
          exact HS2.out
        | succ i =>
          have j3 : (((i + 1 : Nat) : Int) - 1) = (i : Int) := by omega
          rw [j3]
          have j2 : (0 : Int) ≤ (i : Int) := by omega
          by_cases hi0 : i = 0
          · subst hi0
            have c1 := HS2.out.at (k := a) (by omega)
            have f1 : wr.frozen? ⟨g, a, none⟩ = false := HS2.out.free _
            have b1 : (a : Int) < (n : Int) := by omega
            have j4 : IntKind.i64.wrap (a : Int) = (a : Int) := by rw [IntKind.wrap_i64]; omega
            have HF : Hid (Go.Sort.heapPop ltN a 0 (Go.Sort.siftDown ltN 0 a 0 (Go.Sort.swp d2 a a)) = Go.Sort.heapSort ltN d a b) := HE2.out
            go_wp2
            go_region
            all_goals go_wp2_with fail
            all_goals
              obtain ⟨W1, hW1⟩ : ∃ W, W = ((wr.setCell ⟨g, a, none⟩ (.int .u64 (d2[a]! : Nat))).setCell ⟨g, a, none⟩ (.int .u64 (d2[a]! : Nat))).drew := ⟨_, rfl⟩
              rw [← hW1]
              have hs3 : SU w0 W1 B g n cap (Go.Sort.swp d2 a a) := by rw [hW1]; exact (HS2.out.swp a a).drew
              refine (siftU B g n cap 0 0 a _ w0 W1 hs3 (Nat.zero_le _) (by omega) hn).mono ?_
              rintro e W2 ⟨rfl, hs4⟩
              have HS4 : Hid (SU w0 W2 B g n cap _) := hs4
              clear hs3 hs4 hW1
              go_wp2
              refine ⟨⟨0, by simp, by omega, _, HS4.out, HF.out⟩, by simp [intOf]⟩
          · obtain ⟨p, hp⟩ : ∃ p, p = a + i := ⟨_, rfl⟩
            have j4 : IntKind.i64.wrap ((a : Int) + (i : Int)) = (p : Int) := by rw [IntKind.wrap_i64]; omega
            have j5 : IntKind.i64.wrap ((i : Int) - 1) = (i : Int) - 1 := by rw [IntKind.wrap_i64]; omega
            have c1 := HS2.out.at (k := a) (by omega)
            have c2 := HS2.out.at (k := p) (by omega)
            have f1 : wr.frozen? ⟨g, a, none⟩ = false := HS2.out.free _
            have f2 : wr.frozen? ⟨g, p, none⟩ = false := HS2.out.free _
            have b1 : (a : Int) < (n : Int) := by omega
            have b2 : (p : Int) < (n : Int) := by omega
            have HF : Hid (Go.Sort.heapPop ltN a i (Go.Sort.siftDown ltN i a 0 (Go.Sort.swp d2 a p)) = Go.Sort.heapSort ltN d a b) := by rw [hp]; exact HE2.out
            have hpn : a + i ≤ n := by omega
            have nap : a ≠ p := by omega
            have npa : p ≠ a := by omega
            clear hp
            go_wp2
            go_region
            all_goals go_wp2_with fail
            all_goals
              obtain ⟨W1, hW1⟩ : ∃ W, W = ((wr.setCell ⟨g, a, none⟩ (.int .u64 (d2[p]! : Nat))).setCell ⟨g, p, none⟩ (.int .u64 (d2[a]! : Nat))).drew := ⟨_, rfl⟩
              rw [← hW1]
              have hs3 : SU w0 W1 B g n cap (Go.Sort.swp d2 a p) := by rw [hW1]; exact (HS2.out.swp a p).drew
              refine (siftU B g n cap 0 i a _ w0 W1 hs3 (Nat.zero_le _) hpn hn).mono ?_
              rintro e W2 ⟨rfl, hs4⟩
              have HS4 : Hid (SU w0 W2 B g n cap _) := hs4
              clear hs3 hs4 hW1
              go_wp2
              refine ⟨⟨i, by simp, by omega, _, HS4.out, HF.out⟩, by simp [intOf]⟩
    | succ i =>
      have j2 : (0 : Int) ≤ (i : Int) := by omega
      have j3 : (((i + 1 : Nat) : Int) - 1) = (i : Int) := by omega
      rw [j3]
      have j5 : IntKind.i64.wrap ((i : Int) - 1) = (i : Int) - 1 := by rw [IntKind.wrap_i64]; omega
      have HF : Hid (Go.Sort.heapBuild ltN m a i (Go.Sort.siftDown ltN m a i d1) = Go.Sort.heapBuild ltN m a ((m - 1) / 2 + 1) d) := HE.out
      go_wp2_with fail
      refine (siftU B g n cap i m a d1 w0 wr HS.out (by omega) hmn hn).mono ?_
      rintro e W2 ⟨rfl, hs4⟩
      have HS4 : Hid (SU w0 W2 B g n cap _) := hs4
      clear hs4
      go_wp2
      go_roundw
      case rel => exact ⟨i, by simp, by omega, _, HS4.out, HF.out⟩
      case measure => simp [intOf]
end Go.Proofs.YtbdhmkfdofkloaaGreatDoor
