import Derived.Test.YtnnhihkeffljbaaGreatDoorC24
/- (*book).looks: the log says what it must. -/
namespace Go.Proofs.YtnnhihkeffljbaaGreatDoor
open Go.RowKit
open Sc

abbrev bookO (hp : Nat) (av : Value) (b : ABook) : Obj := .cells #[.pointer (some ⟨hp, 0, none⟩), av, .int .i64 (b.forced : Int), .int .u64 (b.low : Int), .int .u64 (b.must : Int), .int .u64 (b.tries : Int), .bool false, .bool false, .slice none 0 0] 52
/-- the book in memory -/
structure BookIn (w : World) (B bp hp lp p bD bN : Nat) (av : Value) (b : ABook) (l : ALog) (d : ADisk) (n : Nat) : Prop where
  host : HostIn w B hp lp p bD bN l d n
  base : B ≤ bp ∧ B ≤ hp
  blk : w.heap[bp]? = some (bookO hp av b)
  all : w.ownsRow B 92 3 av b.all.length (recsV b.all)
  sep : ∀ k, av.ownBlock = some k → ¬ Own lp p w k
  len : b.all.length ≤ 1048576
  nums : b.forced ≤ 1048576 ∧ b.low < 18446744073709551616 ∧ b.must < 18446744073709551616 ∧ b.tries < 18446744073709551616
theorem BookOk.fstLe {b : ABook} {l : ALog} {d : ADisk} {fst t : Nat} {cs : List (List Rec)} (h : BookOk b l d fst cs t) : cs.flatten.length = b.all.length - fst ∧ fst ≤ b.all.length := ⟨h.flat, h.le⟩
theorem Fr.drewN {S : List Nat} {a w : World} (h : Fr S a w) : ∀ k, Fr S a (w.drewN k)
  | 0 => h
  | k + 1 => (Fr.drewN h k).drew
theorem bytesR_snoc {L : List Rec} {k : Nat} {r : Rec} (h : L[k]? = some r) : bytesR (L.take (k + 1)) = bytesR (L.take k) + (15 + r.pay.length) := by
  rw [List.take_add_one, h, bytesR_app]; simp [bytesR]
set_option maxRecDepth 100000 in
set_option maxHeartbeats 40000000 in
theorem looks_any (B bp hp lp p bD bN n fst t : Nat) (av : Value) (b : ABook) (l : ALog) (d : ADisk) (cs : List (List Rec)) (w : World) (h : BookIn w B bp hp lp p bD bN av b l d n) (hk : BookOk b l d fst cs t) :
    Calls Tryz.prog 23 #[.pointer (some ⟨bp, 0, none⟩)] w fun e w' => e = .returned (.bool true) ∧ Fr [] w w' := by
  have c0 := blk_cell h.blk 0
  have c1 := blk_cell h.blk 1
  have c3 := blk_cell h.blk 3
  have c4 := blk_cell h.blk 4
  simp at c0 c1 c3 c4
  have hlen := h.len
  have hmust := h.nums.2.2.1
  obtain ⟨hfl, hle⟩ := hk.fstLe
  obtain ⟨m, hm⟩ : ∃ m, m = b.all.length := ⟨_, rfl⟩
  obtain ⟨K, hK⟩ : ∃ K, K = cs.flatten.length := ⟨_, rfl⟩
  obtain ⟨mu, hmu⟩ : ∃ mu, mu = b.must := ⟨_, rfl⟩
  obtain ⟨lo, hlo⟩ : ∃ lo, lo = b.low := ⟨_, rfl⟩
  have hnx := hk.next
  have hlow := hk.low
  rw [← hm] at hlen hle hnx
  rw [← hm, ← hK] at hfl
  rw [← hmu] at c4 hmust
  rw [← hlo] at c3 hlow
  obtain rfl : fst = m - K := by omega
  have hKm : K ≤ m := by omega
  have HK : Hid (BookOk b l d (m - K) cs t) := hk
  have HE : Hid (m = b.all.length ∧ K = cs.flatten.length ∧ mu = b.must ∧ lo = b.low) := ⟨hm, hK, hmu, hlo⟩
  have hrecs : l.recs = cs.flatten := hk.log.recs
  have hbpl := (Array.getElem?_eq_some_iff.1 h.blk).1
  have hN : Calls Tryz.prog 45 #[.pointer (some ⟨hp, 0, none⟩)] w fun e w' => e = .returned (.int .u64 ((m : Int) + 1)) ∧ w' = w := by
    have := hNext B hp lp p bD bN n l d w h.host
    rw [hnx] at this
    simpa using this
  obtain ⟨hh, pv, sv, rv, nD, nN, hl⟩ := h.host
  have h4 := blk_cell hh 4
  have l3 := blk_cell hl.blk 3
  simp at h4 l3
  have hrr := hl.recs
  rw [hrecs] at hrr
  have hR := records_any hp lp rv cs.flatten (by omega) w h4 l3 (Array.getElem?_eq_some_iff.1 hl.blk).1 (recsSl_own hrr)
  have HR : Hid (Calls Tryz.prog 46 #[.pointer (some ⟨hp, 0, none⟩), .int .i64 0] w fun e W' => ∃ v, e = .returned (.tuple #[v, .bool true]) ∧ W'.ownsRow w.heap.size 92 3 v cs.flatten.length (recsV cs.flatten) ∧ Below w.heap.size w W') := hR
  have hall := h.all
  have q2 : ¬ (m : Int) < (K : Int) := by omega
  clear h hk hm hh hl h4 l3 hrr hR hnx hrecs hK hmu hlo hfl hle
  rcases hall.2 with ⟨rfl, h0⟩ | ⟨g, cap, cur, rfl, hb, hg, rest⟩
  · have hm0 : m = 0 := by rw [HE.out.1]; exact h0
    subst hm0
    have hk0 : K = 0 := by omega
    subst hk0
    clear q2 hlen hKm hlow
    go_enter Tryz.func23, Tryz.ntmps23
    go_wp2_with fail
    refine hN.mono ?_
    rintro e w1 ⟨rfl, rfl⟩
    go_wp2_with fail
    refine HR.out.mono ?_
    rintro e w2 ⟨v, rfl, hv, hb2⟩
    have d1 := (hb2.cell (p := ⟨bp, 1, none⟩) hbpl).trans c1
    have d3 := (hb2.cell (p := ⟨bp, 3, none⟩) hbpl).trans c3
    have d4 := (hb2.cell (p := ⟨bp, 4, none⟩) hbpl).trans c4
    have hat := recsAt_own hv
    have hF2 : Fr [] w1 w2 := Fr.of_below hb2 _
    obtain ⟨ao, cv, rfl, hcells⟩ := hat
    have HA : Hid (RecsAt w2 (.slice ao cs.flatten.length cv) cs.flatten) := ⟨ao, cv, rfl, hcells⟩
    have HF : Hid (Fr [] w1 w2) := hF2
    rw [← HE.out.2.1] at HA ⊢
    have HP : Hid (RecsAtO w2 (.slice none 0 0) 0 cs.flatten) := ⟨none, 0, by rw [← HE.out.2.1], fun i hi => by have := HE.out.2.1; omega⟩
    have hbig : cs.flatten.length ≤ 1099511627776 := by have := HE.out.2.1; omega
    have HB : Hid (cs.flatten.length ≤ 1099511627776) := hbig
    clear hcells hv hb2 hF2 hall HR c0 c1 c3 c4 h0 hbig
    go_wp2_with fail
    refine (same_piece _ _ 0 cs.flatten w2 HA.out HP.out HB.out).mono ?_
    rintro e w3 ⟨rfl, q, rfl⟩
    go_wp2
    all_goals refine wp_loop_rounds 1 ?_
    all_goals rw [rounds_succ]
    all_goals go_wp2
    all_goals go_ret
    all_goals exact ⟨rfl, HF.out.drewN _⟩
  · have hcap : m ≤ cap ∧ cap ≤ 9223372036854775807 := by
      rw [HE.out.1]; have := rest.2.1; unfold maxLen at this; exact ⟨rest.1, by omega⟩
    obtain ⟨hcap1, hcap2⟩ := hcap
    rw [← HE.out.1] at c1
    go_enter Tryz.func23, Tryz.ntmps23
    go_wp2_with fail
    refine hN.mono ?_
    rintro e w1 ⟨rfl, rfl⟩
    go_wp2_with fail
    refine HR.out.mono ?_
    rintro e w2 ⟨v, rfl, hv, hb2⟩
    have d1 := (hb2.cell (p := ⟨bp, 1, none⟩) hbpl).trans c1
    have d3 := (hb2.cell (p := ⟨bp, 3, none⟩) hbpl).trans c3
    have d4 := (hb2.cell (p := ⟨bp, 4, none⟩) hbpl).trans c4
    have hat := recsAt_own hv
    have hF2 : Fr [] w1 w2 := Fr.of_below hb2 _
    obtain ⟨ao, cv, rfl, hcells⟩ := hat
    have HA : Hid (RecsAt w2 (.slice ao cs.flatten.length cv) cs.flatten) := ⟨ao, cv, rfl, hcells⟩
    have HF : Hid (Fr [] w1 w2) := hF2
    rw [← HE.out.2.1] at HA ⊢
    have h1 : w2.ownsRow B 92 3 (.slice (some ⟨g, 0, none⟩) b.all.length cap) b.all.length (recsV b.all) := ownsRow_fr hall hF2 (by simp)
    have HP : Hid (∀ o, RecsAtO w2 (.slice (some ⟨g, o, none⟩) (m - (m - K)) (cap - (m - K))) o cs.flatten ∨ (cap = m - K ∨ o ≠ (m - K) * 3)) := fun o => by
      by_cases ho : o = (m - K) * 3
      · left
        have h2 := recsAtO_own h1 (m - K) (cap - (m - K)) HK.out.le
        rw [HK.out.all, ← HE.out.1] at h2
        rw [ho]; exact h2
      · exact .inr (.inr ho)
    have HP0 : Hid (cap = m - K → RecsAtO w2 (.slice (some ⟨g, 0, none⟩) (m - (m - K)) 0) 0 cs.flatten) := fun he => by
      have hz : K = 0 := by omega
      exact ⟨some ⟨g, 0, none⟩, 0, by rw [← HE.out.2.1]; congr 1; omega, fun i hi => by have := HE.out.2.1; omega⟩
    have HC : Hid (∀ i (hi : i < b.all.length), w2.cell? ⟨g, i * 3 + 2, none⟩ = some (.string (str b.all[i].pay))) := fun i hi => by
      obtain ⟨ao', cap', e', H'⟩ := recsAt_own h1
      obtain ⟨g', e2, _, _, a3⟩ := H' i hi
      cases e'
      cases e2
      exact a3
    have HB : Hid (cs.flatten.length ≤ 1099511627776) := by have := HE.out.2.1; show cs.flatten.length ≤ _; omega
    clear hcells hv hb2 hF2 hall HR c0 c1 c3 c4 hg rest h1
    by_cases hK0 : K = 0
    · subst hK0
      have HPz : Hid (∀ (a : Addr) (c : Nat), RecsAtO w2 (.slice (some a) 0 c) a.off cs.flatten) := fun a c => ⟨some a, c, by rw [← HE.out.2.1], fun i hi => by have := HE.out.2.1; omega⟩
      clear HP HP0 HC q2 hKm
      have q3 : ¬ (lo : Int) < (m : Int) + 1 ∨ ¬ (0 : Int) < (m : Int) := by omega
      clear hlow
      simp only [Nat.sub_zero] at *
      go_wp2_with fail
      · refine (same_piece _ _ _ cs.flatten w2 HA.out (HPz.out ⟨g, 0, none⟩ 0) HB.out).mono ?_
        rintro e w3 ⟨rfl, q, rfl⟩
        rcases q3 with q3 | q3
        all_goals go_wp2
        all_goals refine wp_loop_rounds 1 ?_
        all_goals rw [rounds_succ]
        all_goals go_wp2
        all_goals go_ret
        all_goals exact ⟨rfl, HF.out.drewN _⟩
      · refine (same_piece _ _ _ cs.flatten w2 HA.out (HPz.out ⟨g, m * 3, none⟩ (cap - m)) HB.out).mono ?_
        rintro e w3 ⟨rfl, q, rfl⟩
        rcases q3 with q3 | q3
        all_goals go_wp2
        all_goals refine wp_loop_rounds 1 ?_
        all_goals rw [rounds_succ]
        all_goals go_wp2
        all_goals go_ret
        all_goals exact ⟨rfl, HF.out.drewN _⟩
    · have hcc : ¬ cap = m - K := by omega
      clear HP0
      go_wp2_with fail
      refine (same_piece _ _ ((m - K) * 3) cs.flatten w2 HA.out ((HP.out _).resolve_right (by omega)) HB.out).mono ?_
      rintro e w3 ⟨rfl, q, rfl⟩
      have q3 : ¬ (lo : Int) < (m : Int) - (K : Int) + 1 ∨ ¬ (0 : Int) < (m : Int) - (K : Int) := by omega
      clear hlow hcc
      rcases q3 with q3 | q3
      all_goals go_wp2
      all_goals clear q3
      all_goals (
        go_loopw [8, 9] (fun sz i wr => ∃ x : Nat, m - K ≤ x ∧ x ≤ m ∧ i = .int .i64 (x : Int) ∧ sz = .int .i64 (bytesR (cs.flatten.take (x - (m - K))) : Nat) ∧ (x = m - K ∨ x < mu) ∧ ∃ q, wr = w2.drewN q) (fun _ i _ => m - (intOf i).toNat)
        case atStart => exact ⟨m - K, Nat.le_refl _, by omega, by congr 1; omega, by simp [bytesR], .inl rfl, _, rfl⟩
        case round =>
          obtain ⟨x, hx1, hx2, rfl, rfl, hx3, q2, rfl⟩ := hrel
          have hsm : bytesR (cs.flatten.take (x - (m - K))) < 870 := HK.out.small _ (by rw [← HE.out.2.2.1]; omega)
          have HZ : Hid (bytesR (cs.flatten.take (x - (m - K))) < 870) := hsm
          by_cases hxm : x < m
          · by_cases hxu : x + 1 < mu
            · have hxa : x < b.all.length := by rw [← HE.out.1]; exact hxm
              have hc := HC.out x hxa
              have hr : cs.flatten[x - (m - K)]? = some b.all[x] := by
                rw [← HK.out.all, List.getElem?_drop, show m - K + (x - (m - K)) = x by omega]
                exact List.getElem?_eq_getElem hxa
              have hsn := bytesR_snoc hr
              have hs2 : bytesR (cs.flatten.take (x - (m - K) + 1)) < 870 := HK.out.small _ (by rw [← HE.out.2.2.1]; omega)
              have hpl := str_size b.all[x].pay
              rw [hsn] at hs2
              generalize b.all[x] = r at hc hsn hs2 hpl
              have HN2 : Hid (bytesR (cs.flatten.take (x + 1 - (m - K))) = bytesR (cs.flatten.take (x - (m - K))) + (15 + r.pay.length)) := by
                show _ = _
                rw [← hsn, show x + 1 - (m - K) = x - (m - K) + 1 by omega]
              clear hsn hr hsm
              generalize bytesR (cs.flatten.take (x - (m - K))) = z at hs2 HN2 HZ ⊢
              generalize str r.pay = sp at hc hpl
              generalize r.pay.length = pl at hs2 HN2 hpl
              subst hpl
              go_wp2
              go_roundw
              case rel => exact ⟨x + 1, by omega, by omega, by congr 1, by rw [HN2.out]; congr 1; omega, .inr (by omega), _, rfl⟩
              case measure => simp [intOf]; omega
            · clear hsm
              generalize bytesR (cs.flatten.take (x - (m - K))) = z at HZ ⊢
              have hz9 : (z : Int) < 900 := by have := HZ.out; omega
              go_wp2
              go_ret
              exact ⟨rfl, HF.out.drewN _⟩
          · clear hsm
            generalize bytesR (cs.flatten.take (x - (m - K))) = z at HZ ⊢
            have hz9 : (z : Int) < 900 := by have := HZ.out; omega
            go_wp2
            go_ret
            exact ⟨rfl, HF.out.drewN _⟩)
end Go.Proofs.YtnnhihkeffljbaaGreatDoor
