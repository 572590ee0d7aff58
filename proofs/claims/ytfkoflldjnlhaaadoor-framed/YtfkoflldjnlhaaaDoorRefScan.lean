import Derived.Test.YtfkoflldjnlhaaaDoorPlainScan
/- The document's Scan. -/
namespace Go.Proofs.YtfkoflldjnlhaaaDoor
open Go.RowKit
open Sc

set_option maxHeartbeats 400000 in
theorem scanR_nil (w : World) : Calls Tryd.prog 19 #[.slice none 0 0] w (Scanned [] w) := by
  go_enter Tryd.func19, Tryd.ntmps19
  go_wp2
  refine wp_loop_rounds 1 ?_
  rw [rounds_succ]
  go_wp2
  go_ret2
  exact ⟨0, _, rfl, ended_nil, World.ownsRow_nil _ _ _ _, fun _ => rfl, Below.refl _ _⟩

/-- append(own, one record), within a region that draws its order -/
theorem wp_rec {w : World} {o : Oper} {a : Act} {K : Act → World → Prop} {Q : Exit → Act → World → Prop} (s x : Operand)
    (ho : o.op = .call { callee := .builtin .append, args := #[s, x], argTypes := #[22, 22] })
    (base : Nat) (v : Value) (n : Nat) (rs : List Rec) (r : Rec) (b : Nat) (hs : a.eval s = v) (hown : w.ownsRow base 29 3 v n (recsV rs)) (hx : a.eval x = .slice (some ⟨b, 0, none⟩) 1 1)
    (hc0 : w.cell? ⟨b, 0, none⟩ = some (.int .u64 (r.lsn : Int))) (hc1 : w.cell? ⟨b, 1, none⟩ = some (.int .u8 (r.kind : Int))) (hc2 : w.cell? ⟨b, 2, none⟩ = some (.string (str r.pay))) (hn : n ≤ 1099511627776) (hbase : base ≤ w.heap.size)
    (h : ∀ v' w', w'.ownsRow base 29 3 v' (n + 1) (recsV (rs ++ [r])) → w.grownBy w' v.ownBlock → K (a.put o.dst v') w') : o.wp Tryd.prog a w K Q := by
  obtain ⟨i0, hi, hz0, hz1, hz2⟩ := info_parts Tryd.infoRec
  refine wp_append_own _ s x 22 ho base 29 i0 _ 3 32 Tryd.underlying22 hi hz0 hz1 hz2 rfl (by decide) v n (recsV rs) hs hown ⟨b, 0, none⟩ 1 1 (recCells r) hx rfl ?_ ?_ (by unfold maxLen; omega) (by omega) hbase ?_
  · intro jj u hjj
    match jj, hjj with
    | 0, hjj => simp [recCells] at hjj; subst hjj; simpa [Addr.add] using hc0
    | 1, hjj => simp [recCells] at hjj; subst hjj; simpa [Addr.add] using hc1
    | 2, hjj => simp [recCells] at hjj; subst hjj; simpa [Addr.add] using hc2
  · intro u hu; simp [recCells] at hu; rcases hu with rfl | rfl | rfl <;> rfl
  · intro v' w' ho' hg' _
    refine h v' w' ?_ hg'
    rw [recsV_snoc]; exact ho'
theorem row_keep {w w' : World} {g off B : Nat} {l : List Nat} {r : Option Nat} (hg : w.grownBy w' r) (hB : g < B) (hr : ∀ q, r = some q → B ≤ q) (h : RowAt w g off l) : RowAt w' g off l := fun i hi => by
  have h1 := h i hi
  rw [World.cell?_of_block (a := ⟨g, off + i, none⟩) (hg.block g (World.block_lt_of_cell? w _ h1) (fun e => by have := hr g e.symm; omega))]; exact h1
set_option maxRecDepth 100000 in
set_option maxHeartbeats 2000000 in
theorem scanR_some (b off cap : Nat) (l : List Nat) (w : World) (hb : Byt l) (hl : l.length ≤ 1099511627776) (hrow : RowAt w b off l) (hlt : b < w.heap.size) (hcap : l.length ≤ cap) (hcap2 : cap ≤ maxLen) :
    Calls Tryd.prog 19 #[.slice (some ⟨b, off, none⟩) l.length cap] w (Scanned l w) := by
  obtain ⟨n, hn⟩ : ∃ n, n = l.length := ⟨_, rfl⟩
  rw [← hn] at hl hcap ⊢
  have HL : Hid (l.length = n) := hn.symm
  have HR : Hid (RowAt w b off l) := hrow
  clear hn hrow
  have hcap3 := hcap2
  unfold maxLen at hcap3
  go_enter Tryd.func19, Tryd.ntmps19
  go_wp2
  go_loopw [4, 5] (fun r e wr => ∃ k, Good l k ∧ e = .int .i64 ((st k l).2 : Nat) ∧ wr.ownsRow w.heap.size 29 3 r k (recsV (st k l).1) ∧ (k = 0 → r = .slice none 0 0) ∧ Below w.heap.size w wr) (fun _ e _ => n - (intOf e).toNat)
  case atStart => exact ⟨0, good_zero l, rfl, World.ownsRow_nil _ _ _ _, fun _ => rfl, Below.refl _ _⟩
  case round =>
    obtain ⟨k, hg, rfl, hown, hnil, hB⟩ := hrel
    have hle := st_le hg
    rw [HL.out] at hle
    have HG : Hid (Good l k) := hg
    obtain ⟨E, hE⟩ : ∃ E, E = (st k l).2 := ⟨_, rfl⟩
    rw [← hE] at hle ⊢
    have HE : Hid ((st k l).2 = E) := hE.symm
    clear hE hg
    have i0 : (0 : Int) ≤ (E : Int) := by omega
    have i1 : (E : Int) ≤ (n : Int) := by omega
    have i2 : (E : Int) ≤ (cap : Int) := by omega
    by_cases h15 : n - E < 15
    · have HO : Hid (frameOk (l.drop E) = false) := frameOk_ffno (ffOk_short (by rw [List.length_drop, HL.out]; omega))
      by_cases hcE : cap = E
      · subst hcE
        obtain rfl : n = cap := by omega
        go_wp2
        go_ret2
        exact ⟨k, _, by rw [HE.out]; rfl, ⟨HG.out, by rw [HE.out]; exact HO.out⟩, hown, hnil, hB⟩
      · go_wp2
        go_ret2
        exact ⟨k, _, by rw [HE.out]; rfl, ⟨HG.out, by rw [HE.out]; exact HO.out⟩, hown, hnil, hB⟩
    · have hcE : ¬ cap = E := by omega
      have HRr : Hid (RowAt wr b (off + E) (l.drop E)) := (HR.out.below hB hlt).drop E (by rw [HL.out]; exact hle)
      have hb' : Byt (l.drop E) := hb.drop E
      have HL' : Hid ((l.drop E).length = n - E) := by show _ = _; rw [List.length_drop, HL.out]
      have HEND : Hid (frameOk (l.drop E) = false → Ended l k) := fun h => ⟨HG.out, by rw [HE.out]; exact h⟩
      have HST : Hid (frameOk (l.drop E) = true → Good l (k + 1) ∧ (st (k + 1) l).2 = E + 15 + fLen (l.drop E) ∧ (st (k + 1) l).1 = (st k l).1 ++ [recOf (l.drop E)]) := fun h =>
        ⟨good_succ HG.out (by rw [HE.out]; exact h), by show (st k l).2 + 15 + fLen (l.drop (st k l).2) = _; rw [HE.out], by show (st k l).1 ++ [recOf (l.drop (st k l).2)] = _; rw [HE.out]⟩
      generalize l.drop E = m at HRr hb' HL' HEND HST
      have hB' : Hid (Below w.heap.size w wr) := hB
      have HOW : Hid (wr.ownsRow w.heap.size 29 3 u4 k (recsV (st k l).1)) := hown
      clear hB hown
      have j1 : (2 : Int) ≤ (cap : Int) - (E : Int) := by omega
      go_wp2_with fail
      refine (value_some b (off + E) 2 (cap - E) (m.take 2) _ (by rw [List.length_take, HL'.out]; omega) (hb'.take 2) (by omega) (fun i hi => (HRr.out.take 2) i (by rw [List.length_take, HL'.out]; omega))).mono ?_
      rintro e w1 ⟨rfl, hw1⟩
      have := hw1.symm
      subst this
      clear hw1
      have hfl := fLen_lt hb'
      have hfe : val (m.take 2) = fLen m := rfl
      rw [hfe]
      clear hfe
      obtain ⟨f, hf⟩ : ∃ f, f = fLen m := ⟨_, rfl⟩
      rw [← hf] at hfl ⊢
      have HFL : Hid (fLen m = f) := hf.symm
      clear hf
      by_cases h255 : f ≤ 255
      · have k1 : ¬ (255 : Int) < (f : Int) := by omega
        by_cases hcut : 15 + f ≤ n - E
        · have HF : Hid (ffOk m = true) := ffOk_yes (by rw [HL'.out]; omega) (by rw [HFL.out]; omega) (by rw [HFL.out, HL'.out]; omega)
          have j2 : (11 : Int) + (f : Int) ≤ (cap : Int) - (E : Int) := by omega
          have j3 : (15 : Int) + (f : Int) ≤ (cap : Int) - (E : Int) := by omega
          have j4 : (11 : Int) + (f : Int) ≤ (n : Int) - (E : Int) := by omega
          have j5 : ¬ cap - E = 11 + f := by omega
          go_wp2_with fail
          refine (sum_sub b (off + E) (11 + f) (cap - E) m _ hb' (by omega) (by rw [HL'.out]; omega) HRr.out).mono ?_
          rintro e w2 ⟨rfl, hw2⟩
          have := hw2.symm
          subst this
          clear hw2
          have hcl := crc_lt (m.take (11 + f)) (hb'.take _)
          have HSU : Hid (fSum m = (crc (m.take (11 + f)) == val ((m.drop (11 + f)).take 4))) := by show _ = _; unfold fSum; rw [HFL.out]
          generalize crc (m.take (11 + f)) = C at hcl HSU ⊢
          go_wp2_with fail
          rw [show 15 + f - (11 + f) = 4 by omega]
          refine (value_sub b (off + E) (11 + f) 4 _ m _ hb' (by omega) (by rw [HL'.out]; omega) HRr.out).mono ?_
          rintro e w3 ⟨rfl, hw3⟩
          have := hw3.symm
          subst this
          clear hw3
          generalize val ((m.drop (11 + f)).take 4) = D at HSU ⊢
          by_cases hCD : C = D
          · subst hCD
            have HF2 : Hid (frameOk m = true) := frameOk_yes HF.out (by rw [HSU.out]; simp)
            have k3 : ((C : Int) != (C : Int)) = false := by simp
            have c10 : wr.cell? ⟨b, off + E + 10, none⟩ = some (.int .u8 (at_ m 10 : Nat)) := HRr.out 10 (by rw [HL'.out]; omega)
            have hbz : b < wr.heap.size := Nat.lt_of_lt_of_le hlt hB'.out.size
            have hwz : w.heap.size ≤ wr.heap.size := hB'.out.size
            have hrow := HRr.out
            have hkn : k ≤ 1099511627776 := by
              have := st_ge l k
              rw [HE.out] at this
              omega
            obtain ⟨M, hM⟩ : ∃ M, M = cap - E := ⟨_, rfl⟩
            obtain ⟨N, hN⟩ : ∃ N, N = n - E := ⟨_, rfl⟩
            rw [← hN] at hcut HL'
            have hNM : N ≤ M := by omega
            have hMm : M ≤ 9223372036854775807 := by omega
            have HMN : Hid (M = cap - E ∧ N = n - E ∧ 15 + f ≤ N) := ⟨hM, hN, hcut⟩
            rw [← hM, ← hN]
            have hstr : ∀ w' : World, RowAt w' b (off + E) m → (convert 23 9 (.slice (some ⟨b, off + E + 11, none⟩) f (M - 11))).run Tryd.prog w' = .ok (.string (str (recOf m).pay)) w' := fun w' h => by
              have h2 := run_str w' b (off + E + 11) f (M - 11) ((m.drop 11).take f) (by rw [List.length_take, List.length_drop, HL'.out]; omega) ((h.drop 11 (by rw [HL'.out]; omega)).take f)
              rw [show (recOf m).pay = (m.drop 11).take f by unfold recOf; rw [HFL.out]]; exact h2
            have hlsn : (recOf m).lsn = val ((m.drop 2).take 8) := rfl
            have hkind : (recOf m).kind = at_ m 10 := rfl
            have HA : Hid (∀ j : Nat, j ≤ 15 + f → (j : Int) ≤ (M : Int)) := fun j hj => by omega
            have j6 : (10 : Int) ≤ (M : Int) := HA.out 10 (by omega)
            have j8 : (10 : Int) < (N : Int) := by omega
            have j9 : ¬ M = 2 := by omega
            have j10 : ¬ M = 11 := by omega
            have j11 : (11 : Int) + (f : Int) ≤ (M : Int) := by omega
            have j12 : (11 : Int) ≤ (11 : Int) + (f : Int) := by omega
            have j13 : (0 : Int) ≤ (11 : Int) + (f : Int) := by omega
            have hff : (11 + f) - 11 = f := by omega
            have hwr : IntKind.i64.wrap (11 + (f : Int)) = 11 + (f : Int) := by rw [IntKind.wrap_i64]; omega
            have hfn : (11 + (f : Int)).toNat = 11 + f := by omega
            have hfn2 : ((11 + (f : Int)) - 11).toNat = f := by omega
            clear j1 j2 j3 j4 j5 hM hN
            go_wp2
            go_region_held3 (fun w' => w'.cell? ⟨b, off + E + 10, none⟩ = some (.int .u8 (at_ m 10 : Nat)) ∧ RowAt w' b (off + E) m)
              (simp [*, World.cell?_alloc_some, RowAt_alloc, RowAt_drew])
              (first | (go_at_call 25; refine (value_sub b (off + E) 2 8 _ m _ hb' (by omega) (by rw [HL'.out]; omega) ?_).mono ?_; (simp [*]); rintro e w' ⟨rfl, rfl⟩) | (rw [if_pos (by rfl)]; refine wp_rec _ _ rfl w.heap.size u4 k (st k l).1 (recOf m) _ rfl ?_ rfl ?_ ?_ ?_ hkn ?_ ?_; (exact HOW.out.alloc _); (simp [hlsn]); (simp [hkind]); (simp); (simp; omega); intro v4 w4 ho4 hg4; have hr4 : RowAt w4 b (off + E) m := row_keep hg4 hlt (fun q hq => (HOW.out.lt q hq).1) (by simp [*]); have hc4 : w4.cell? ⟨b, off + E + 10, none⟩ = some (.int .u8 (at_ m 10 : Nat)) := hr4 10 (by rw [HL'.out]; omega)))
            obtain ⟨hgood, hst2, hst1⟩ := HST.out HF2.out
            rw [HFL.out] at hst2
            have hB4 : Below w.heap.size w w4 := (hB'.out.drew.alloc (by exact hwz) _).grown hg4 (by simp; omega) (fun q hq => (HOW.out.lt q hq).1)
            clear hg4
            have hEn : E + 15 + f ≤ n := by have := HMN.out; omega
            go_wp2
            go_roundw
            case rel => exact ⟨k + 1, hgood, by rw [hst2]; go_num, by rw [hst1]; exact ho4, fun h => absurd h (by omega), hB4⟩
            case measure => simp [intOf]; omega
          · have HF2 : Hid (frameOk m = false) := frameOk_sumno (by rw [HSU.out]; simpa using hCD)
            have k3 : ((C : Int) != (D : Int)) = true := by simp; omega
            clear hCD
            go_wp2
            go_ret2
            exact ⟨k, u4, by rw [HE.out]; rfl, HEND.out HF2.out, HOW.out, hnil, hB'.out⟩
        · have HF : Hid (frameOk m = false) := frameOk_ffno (ffOk_cut (by rw [HFL.out, HL'.out]; omega))
          have k2 : (n : Int) - (E : Int) < 15 + (f : Int) := by omega
          go_wp2
          go_ret2
          exact ⟨k, u4, by rw [HE.out]; rfl, HEND.out HF.out, HOW.out, hnil, hB'.out⟩
      · have HF : Hid (frameOk m = false) := frameOk_ffno (ffOk_big (by rw [HFL.out]; omega))
        have k1 : (255 : Int) < (f : Int) := by omega
        go_wp2
        go_ret2
        exact ⟨k, u4, by rw [HE.out]; rfl, HEND.out HF.out, HOW.out, hnil, hB'.out⟩
theorem scanR (v : Value) (l : List Nat) (w : World) (hs : Src w v l) (hb : Byt l) (hl : l.length ≤ 1099511627776) : Calls Tryd.prog 19 #[v] w (Scanned l w) := by
  rcases hs with ⟨rfl, rfl⟩ | ⟨b, off, cap, rfl, hrow, hlt, hc, hc2⟩
  · exact scanR_nil w
  · exact scanR_some b off cap l w hb hl hrow hlt hc hc2
end Go.Proofs.YtfkoflldjnlhaaaDoor
