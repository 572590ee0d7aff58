import Derived.Test.YtfkoflldjnlhaaaDoorPick
import Derived.Deep.CutRange
import Derived.BigQuiet
/- THE LAW ON TORN RECORDS, walked. -/
namespace Go.Proofs.YtfkoflldjnlhaaaDoor
open Go.RowKit
open Sc

theorem ab_1 : at_ (recBytes 7 2 (bytesOf ⟨#[97, 98]⟩)) 1 = 2 := by decide
theorem ab_9 : at_ (recBytes 7 2 (bytesOf ⟨#[97, 98]⟩)) 9 = 7 := by decide
theorem enc_ab (w : World) : Calls Tryd.prog 6 #[.agg #[.int .u64 7, .int .u8 2, .string ⟨#[97, 98]⟩]] w fun e w' => ∃ g, e = .returned (.tuple #[.slice (some ⟨g, 0, none⟩) 17 17, .int .i64 0]) ∧ w'.cell? ⟨g, 1, none⟩ = some (.int .u8 2) ∧ w'.cell? ⟨g, 9, none⟩ = some (.int .u8 7) ∧ Below w.heap.size w w' := by
  refine (encPR_yes 7 2 ⟨#[97, 98]⟩ w (by decide) (by omega) (by omega)).mono ?_
  rintro e w' ⟨g, rfl, hg, hr, hb⟩
  have h1 := hr 1 (by rw [recBytes_len]; omega)
  have h9 := hr 9 (by rw [recBytes_len]; omega)
  rw [ab_1] at h1
  rw [ab_9] at h9
  exact ⟨g, rfl, h1, h9, hb⟩

set_option maxRecDepth 100000 in
set_option maxHeartbeats 400000 in
theorem torn_long (v : Value) (n : Nat) (S : Nat → ByteArray) (c b : Int) (t : Bool) (w : World) (hv : StrsIn w v n S) (hn : 20 < n) :
    Calls Tryd.prog 5 #[v, .int .i64 c, .int .i64 b, .bool t] w fun e w' => e = .returned (.bool true) ∧ Below w.heap.size w w' := by
  obtain ⟨ao, cap, rfl, _⟩ := hv
  have h1 : (20 : Int) < (n : Int) := by omega
  go_enter Tryd.func5, Tryd.ntmps5
  go_wp2_with fail
  refine (enc_ab _).mono ?_
  rintro e w1 ⟨g, rfl, h1, h9, hb⟩
  have HB : Hid (Below w.heap.size w w1) := hb
  clear hb
  go_wp2
  go_ret
  exact ⟨rfl, HB.out⟩

theorem own_grown {w : World} {base : Nat} {v : Value} {S : Nat → ByteArray} {j : Nat} (h : w.ownsRow base 5 1 v ((cat S j).length + (rb S j).length) (bs (cat S j ++ rb S j))) (hz : 0 < (rb S j).length) :
    ∃ g c, v = .slice (some ⟨g, 0, none⟩) (cat S (j + 1)).length c ∧ w.ownsRow base 5 1 (.slice (some ⟨g, 0, none⟩) (cat S (j + 1)).length c) (cat S (j + 1)).length (bs (cat S (j + 1))) := by
  have hl : (cat S (j + 1)).length = (cat S j).length + (rb S j).length := by show (cat S j ++ rb S j).length = _; rw [List.length_append]
  obtain ⟨g, c, rfl, _⟩ := own_shape h (by omega)
  exact ⟨g, c, by rw [hl], by rw [hl]; exact h⟩
theorem xor_ne (Y r : Nat) : Y ^^^ 2 ^ r ≠ Y := fun h => by
  have h1 : Y ^^^ 2 ^ r = Y ^^^ 0 := by rw [Nat.xor_zero]; exact h
  have h2 := xorR _ _ _ h1
  have h3 : 0 < 2 ^ r := Nat.pow_pos (by omega)
  omega
theorem row_store {w : World} {g : Nat} {l : List Nat} (h : RowAt w g 0 l) (a y : Nat) : RowAt (w.setCell ⟨g, a, none⟩ (.int .u8 (y : Int))) g 0 (l.set a y) := fun i hi => by
  rw [List.length_set] at hi
  by_cases he : a = i
  · subst he
    have h1 := h a hi
    rw [Nat.zero_add] at h1 ⊢
    rw [World.cell?_setCell_same _ _ _ h1]
    simp [at_, hi]
  · rw [World.cell?_setCell_other _ _ _ _ (by simp), h i hi]
    simp [at_, he]
theorem ownI_shape {w : World} {base n : Nat} {v : Value} {xs : List Value} (h : w.ownsRow base 3 1 v n xs) (hn : 0 < n) : ∃ g cap, v = .slice (some ⟨g, 0, none⟩) n cap ∧ ∀ i u, xs[i]? = some u → w.cell? ⟨g, i, none⟩ = some u := by
  rcases h.2 with ⟨_, h0⟩ | ⟨g, cap, cur, rfl, hb, hg, rest⟩
  · omega
  · refine ⟨g, cap, rfl, fun i u hu => ?_⟩
    have := h.cells (g := g) rfl i u hu
    simpa [Addr.add_lit] using this
theorem byt_set {l : List Nat} (h : Byt l) (a y : Nat) (hy : y < 256) : Byt (l.set a y) := fun x hx => by
  rcases List.mem_or_eq_of_mem_set hx with h1 | h1
  · exact h x h1
  · omega
set_option maxRecDepth 100000 in
set_option maxHeartbeats 4000000 in
theorem torn_walk (v : Value) (n : Nat) (S : Nat → ByteArray) (c b : Int) (t : Bool) (w : World) (hv : StrsIn w v n S) (hn : n ≤ 20) (hg : Met w) (hc1 : -9223372036854775808 ≤ c) (hc2 : c ≤ 9223372036854775807) (hb1 : -9223372036854775808 ≤ b) (hb2 : b ≤ 9223372036854775807) :
    Calls Tryd.prog 5 #[v, .int .i64 c, .int .i64 b, .bool t] w fun e w' => e = .returned (.bool true) ∧ Below w.heap.size w w' := by
  obtain ⟨ao, cap, rfl, hr⟩ := hv
  have HRS : Hid (∀ i, i < n → ∃ b off, ao = some ⟨b, off, none⟩ ∧ b < w.heap.size ∧ w.cell? ⟨b, off + i, none⟩ = some (.string (S i))) := hr
  clear hr
  have h20 : ¬ (20 : Int) < (n : Int) := by omega
  have HG : Hid (Met w) := hg
  have h0 := hg.lt
  clear hg
  go_enter Tryd.func5, Tryd.ntmps5
  go_wp2_with fail
  refine (enc_ab _).mono ?_
  rintro e w0 ⟨g0, rfl, h1, h9, hb0⟩
  have HB0 : Hid (Below w.heap.size w w0) := hb0
  have hz0 := hb0.size
  clear hb0
  go_wp2
  go_loopw [11, 12, 13] (fun va ve i wr => ∃ j : Nat, j ≤ n ∧ i = .int .i64 j ∧ (∀ q, q < j → (S q).size ≤ 255) ∧ wr.ownsRow w.heap.size 5 1 va (cat S j).length (bs (cat S j)) ∧ wr.ownsRow w.heap.size 3 1 ve j (endsV S j) ∧ Below w.heap.size w wr) (fun _ _ i _ => n - (intOf i).toNat)
  case atStart => exact ⟨0, Nat.zero_le _, rfl, (fun q hq => by omega), World.ownsRow_nil _ _ _ _, World.ownsRow_nil _ _ _ _, HB0.out⟩
  case round =>
    obtain ⟨j, hj, rfl, hS, hoA, hoE, hB⟩ := hrel
    have HS : Hid (∀ q, q < j → (S q).size ≤ 255) := hS
    have HA : Hid (wr.ownsRow w.heap.size 5 1 u11 (cat S j).length (bs (cat S j))) := hoA
    have HE : Hid (wr.ownsRow w.heap.size 3 1 u12 j (endsV S j)) := hoE
    have HB : Hid (Below w.heap.size w wr) := hB
    have hz := hB.size
    have hcl := cat_le S j hS
    clear hS hoA hoE hB h1 h9
    by_cases hlt : j < n
    · obtain ⟨pb, off, rfl, hbl, cj⟩ := HRS.out j hlt
      have HC : Hid (w.cell? ⟨pb, off + j, none⟩ = some (.string (S j))) := cj
      have r0 := (HB.out.cell (p := ⟨pb, off + j, none⟩) hbl).trans cj
      clear cj
      have i0 : (0 : Int) ≤ (j : Int) := by omega
      have i1 : (j : Int) < (n : Int) := by omega
      by_cases ht : (S j).size ≤ 255
      · go_wp2_with fail
        refine (encPR_yes j j (S j) _ ht (by omega) (by omega)).mono ?_
        rintro e w1 ⟨g1, rfl, hg1, hr1, hb1'⟩
        have HBY : Hid (Byt (rb S j)) := recBytes_byt j j (bytesOf (S j)) (by omega) (bytesOf_byt (S j))
        have hrl := rb_len S j
        have hgl1 : g1 < w1.heap.size := hr1.lt (by rw [recBytes_len]; omega)
        have HS1 : Hid (Src w1 (.slice (some ⟨g1, 0, none⟩) (11 + (S j).size + 4) (15 + (S j).size)) (rb S j)) := Or.inr ⟨g1, 0, 15 + (S j).size, by rw [hrl, show 11 + (S j).size + 4 = 15 + (S j).size by omega], hr1, hgl1, by omega, by unfold maxLen; omega⟩
        have HB1 : Hid (Below w.heap.size w w1) := HB.out.trans (hb1'.mono hz)
        have r1 := (HB1.out.cell (p := ⟨pb, off + j, none⟩) hbl).trans HC.out
        have HA1 : Hid (w1.ownsRow w.heap.size 5 1 u11 (cat S j).length (bs (cat S j))) := own_below HA.out hb1'
        have HE1 : Hid (w1.ownsRow w.heap.size 3 1 u12 j (endsV S j)) := ownI_below HE.out hb1'
        have hz1 := hb1'.size
        clear hb1' hr1 HA HE r0
        have k1 : ¬ (255 : Int) < ((S j).size : Int) := by omega
        obtain ⟨L, hLL⟩ : ∃ L, L = 11 + (S j).size + 4 := ⟨_, rfl⟩
        rw [← hLL] at HS1 ⊢
        have k2 : ((L : Int) != ((S j).size : Int) + 15) = false := by simp; omega
        have hcs := cat_succ S j
        have HCS : Hid ((cat S (j + 1)).length = (cat S j).length + (15 + (S j).size)) := hcs
        have HRL : Hid ((rb S j).length = 15 + (S j).size) := hrl
        clear hcs hLL hrl
        go_wp2_with (first | (at_builtin; refine wpList_bytes rfl _ _ rfl w.heap.size u11 (cat S j).length (cat S j) (.slice (some ⟨g1, 0, none⟩) L (15 + (S j).size)) (rb S j) rfl HA1.out rfl HS1.out (by rw [HRL.out]; omega) (by omega) ?_; intro v2 w2 ho2' hg2; obtain ⟨g2, c2, hv2, ho2⟩ := own_grown ho2' (by rw [HRL.out]; omega); subst hv2) | (at_builtin; refine wpList_int rfl _ _ rfl w.heap.size u12 j (endsV S j) ((cat S (j + 1)).length : Nat) w2.heap.size rfl ((HE1.out.kept hg2 (own_apart' HA1.out HE1.out)).alloc _) rfl (by simp) (by omega) (by have := hg2.size; simp; omega) ?_; intro v3 w3 ho3 hg3))
        have hoE2 := HE1.out.kept hg2 (own_apart' HA1.out HE1.out)
        have hz2 := hg2.size
        have hB2 : Below w.heap.size w w2 := HB1.out.grown hg2 (by omega) (fun q hq => (HA1.out.lt q hq).1)
        have hB3 : Below w.heap.size w w3 := (hB2.alloc (by omega) _).grown hg3 (by simp; omega) (fun q hq => (hoE2.lt q hq).1)
        have hoA3 : w3.ownsRow w.heap.size 5 1 (.slice (some ⟨g2, 0, none⟩) (cat S (j + 1)).length c2) (cat S (j + 1)).length (bs (cat S (j + 1))) := (ho2.alloc _).kept hg3 (own_apart ho2 hoE2)
        have hoE3 : w3.ownsRow w.heap.size 3 1 v3 (j + 1) (endsV S (j + 1)) := by rw [endsV_succ]; exact ho3
        have hS3 : ∀ q, q < j + 1 → (S q).size ≤ 255 := fun q hq => by
          rcases Nat.lt_or_ge q j with h | h
          · exact HS.out q h
          · obtain rfl : q = j := by omega
            exact ht
        clear ho2 ho2' hg2 hg3 ho3 hoE2 hB2
        go_roundw
        case rel => exact ⟨j + 1, by omega, by go_num, hS3, hoA3, hoE3, hB3⟩
        case measure => simp [intOf]; omega
      · have ht' : 255 < (S j).size := by omega
        go_wp2_with fail
        refine (encPR_no j j (S j) _ ht' (HG.out.below HB.out h0)).mono ?_
        rintro e w1 ⟨rfl, hb1'⟩
        have HB1 : Hid (Below w.heap.size w w1) := HB.out.trans (hb1'.mono hz)
        have r1 := (HB1.out.cell (p := ⟨pb, off + j, none⟩) hbl).trans HC.out
        clear hb1'
        have k1 : (255 : Int) < ((S j).size : Int) := by omega
        go_wp2
        go_ret
        exact ⟨rfl, HB1.out⟩
    · obtain rfl : j = n := by omega
      by_cases hn0 : j = 0
      · subst hn0
        rcases HA.out.2 with ⟨hnil, _⟩ | ⟨gA, cA, cur, hsl, _⟩
        · clear HA
          subst hnil
          go_wp2
          go_ret
          exact ⟨rfl, HB.out⟩
        · have hsl' : u11 = .slice (some ⟨gA, 0, none⟩) 0 cA := hsl
          clear HA hsl
          subst hsl'
          go_wp2
          go_ret
          exact ⟨rfl, HB.out⟩
      · have hpos : 0 < (cat S j).length := by
          obtain ⟨i, rfl⟩ : ∃ i, j = i + 1 := ⟨j - 1, by omega⟩
          rw [cat_succ]; omega
        have hcl2 : (cat S j).length ≤ 5400 := by omega
        obtain ⟨gA, cA, hvA, hgA1, hgA2, hcA1, hcA2, hrA⟩ := own_shape HA.out hpos
        subst hvA
        have HRA : Hid (RowAt wr gA 0 (cat S j)) := hrA
        have hbyt := cat_byt S j (by omega)
        have HBYT : Hid (Byt (cat S j)) := hbyt
        clear hrA hbyt
        obtain ⟨M, hM⟩ : ∃ M, M = (cat S j).length := ⟨_, rfl⟩
        rw [← hM] at hpos hcl2 hcA1 ⊢
        have HM : Hid ((cat S j).length = M) := hM.symm
        have hfA := fun i => HA.out.frozenAt i
        have HAP : Hid (u12.ownBlock = none ∨ u12.ownBlock ≠ some gA) := own_apart' HA.out HE.out
        clear hM hcl HA
        have kM : ((M : Int) == 0) = false := by simp; omega
        go_upto_if 113 with (go_at_call 13; refine (pick_any c M _ hc1 hc2 hpos (by omega)).mono ?_; rintro e w' ⟨a, ha, rfl, hw'⟩; have := hw'.symm; subst this; clear hw')
        go_cut [11] from 114 to 128 (fun s11 wx => ∃ m cc, s11 = .slice (some ⟨gA, 0, none⟩) m.length cc ∧ RowAt wx gA 0 m ∧ gA < wx.heap.size ∧ m.length ≤ cc ∧ cc ≤ maxLen ∧ Byt m ∧ m.length ≤ M ∧ ((t = false ∧ m = (cat S j).take a) ∨ (t = true ∧ ∃ y, y < 256 ∧ y ≠ at_ (cat S j) a ∧ m = (cat S j).set a y)) ∧ wx.ownsRow w.heap.size 3 1 u12 j (endsV S j) ∧ Below w.heap.size w wx)
        case first =>
          cases t with
          | false =>
            have a1 : (a : Int) ≤ (cA : Int) := by omega
            have a0 : (0 : Int) ≤ (a : Int) := by omega
            go_wp2
            go_meet
            case rel =>
              have hl : ((cat S j).take a).length = a := by rw [List.length_take, HM.out]; omega
              exact ⟨(cat S j).take a, cA, by rw [hl], HRA.out.take a, hgA2, by omega, hcA2, HBYT.out.take_ a, by omega, .inl ⟨by first | rfl | trivial, rfl⟩, HE.out, HB.out⟩
          | true =>
            have a1 : (a : Int) < (M : Int) := by omega
            have a0 : (0 : Int) ≤ (a : Int) := by omega
            have hca : wr.cell? ⟨gA, a, none⟩ = some (.int .u8 (at_ (cat S j) a : Nat)) := by have h := HRA.out a (by rw [HM.out]; exact ha); rwa [Nat.zero_add] at h
            have hya := at_lt HBYT.out a
            generalize hY : at_ (cat S j) a = Y at hca hya
            have HY : Hid (at_ (cat S j) a = Y) := hY
            clear hY
            have hfa := hfA a
            clear hfA
            go_wp2
            go_region_with (first | (go_at_call 13; refine (pick_any b 8 _ hb1 hb2 (by omega) (by omega)).mono ?_; rintro e w' ⟨r, hr8, rfl, rfl⟩))
            all_goals
              rw [xor_bit Y r hya hr8]
              go_wp2
              go_meet
              case rel => exact ⟨(cat S j).set a (Y ^^^ 2 ^ r), cA, by rw [List.length_set, HM.out], (RowAt_drew.2 (row_store HRA.out a _)), (by simpa [World.setCell] using hgA2), by rw [List.length_set, HM.out]; exact hcA1, hcA2, byt_set HBYT.out a _ (xor_lt8 _ _ hya (pow_lt8 r hr8)), by rw [List.length_set, HM.out]; exact Nat.le_refl _, .inr ⟨by first | rfl | trivial, _, xor_lt8 _ _ hya (pow_lt8 r hr8), by rw [HY.out]; exact xor_ne Y r, rfl⟩, (HE.out.kept (grown_drew (grown_set wr gA a _)) HAP.out), (HB.out.setCell (by exact hgA1) _).drew⟩
        case rest =>
          obtain ⟨m, cc, hs11, hrm, hgm, hmc, hcm, hbm, hmM, hmod, hoE, hBc⟩ := hcut
          subst hs11
          have HRM : Hid (Src wc (.slice (some ⟨gA, 0, none⟩) m.length cc) m) := Or.inr ⟨gA, 0, cc, rfl, hrm, hgm, hmc, hcm⟩
          have HMOD : Hid ((t = false ∧ m = (cat S j).take a) ∨ (t = true ∧ ∃ y, y < 256 ∧ y ≠ at_ (cat S j) a ∧ m = (cat S j).set a y)) := hmod
          have HEc : Hid (wc.ownsRow w.heap.size 3 1 u12 j (endsV S j)) := hoE
          have HBc : Hid (Below w.heap.size w wc) := hBc
          have hzc := hBc.size
          clear hrm hgm hmod hoE hBc HRA HE HB hfA HAP
          obtain ⟨mL, hmL⟩ : ∃ mL, mL = m.length := ⟨_, rfl⟩
          rw [← hmL] at HRM hmc hmM ⊢
          have HML : Hid (m.length = mL) := hmL.symm
          clear hmL
          go_wp2_with fail
          refine (scanP _ m _ HRM.out hbm (by rw [HML.out]; omega)).mono ?_
          rintro e w2 ⟨K, v2, rfl, hended, hoR, _, hb2'⟩
          have HEN : Hid (Ended m K) := hended
          have HR2 : Hid (RecsAt w2 v2 (st K m).1) := recsAt_own hoR
          have HB2 : Hid (Below w.heap.size w w2) := HBc.out.trans (hb2'.mono hzc)
          have HE2 : Hid (w2.ownsRow w.heap.size 3 1 u12 j (endsV S j)) := ownI_below HEc.out hb2'
          clear hended hoR hb2' HRM HEc
          obtain ⟨gE, cE, hvE, hcE⟩ := ownI_shape HE2.out (by omega)
          have HCE : Hid (∀ q, q < j → w2.cell? ⟨gE, q, none⟩ = some (.int .i64 ((cat S (q + 1)).length : Nat))) := fun q hq => hcE q _ (endsV_at S j q hq)
          clear hcE HE2
          subst hvE
          go_wp2
          go_loopw [19] (fun i wr => ∃ q : Nat, q ≤ j ∧ i = .int .i64 q ∧ (cat S q).length ≤ a ∧ wr = w2) (fun i _ => j - (intOf i).toNat)
          case atStart => exact ⟨0, Nat.zero_le _, rfl, Nat.zero_le _, rfl⟩
          case round =>
            obtain ⟨W, hWj, rfl, hWa, rfl⟩ := hrel
            have hWlt : W < j := by
              rcases Nat.lt_or_ge W j with h | h
              · exact h
              · obtain rfl : W = j := by omega
                rw [HM.out] at hWa; omega
            have hce := HCE.out W hWlt
            have w0' : (0 : Int) ≤ (W : Int) := by omega
            have w1' : (W : Int) < (j : Int) := by omega
            have HWA : Hid ((cat S W).length ≤ a) := hWa
            clear hWa
            by_cases hnx : (cat S (W + 1)).length ≤ a
            · have HNX : Hid ((cat S (W + 1)).length ≤ a) := hnx
              generalize (cat S (W + 1)).length = N1 at hce hnx
              go_wp2
              go_roundw
              case rel => exact ⟨W + 1, by omega, by go_num, HNX.out, by first | rfl | trivial⟩
              case measure => simp [intOf]; omega
            · obtain ⟨t1, t2, t3, t4, t5⟩ := torn_read S j W a K t m hn HS.out hWlt HWA.out (by omega) HMOD.out HEN.out
              obtain ⟨aR, cR, hvR, hcR⟩ := HR2.out
              have hlK : (st K m).1.length = K := st_len m K
              have HCR : Hid (∀ i, i < W → ∃ g, aR = some ⟨g, 0, none⟩ ∧ wr.cell? ⟨g, i * 3, none⟩ = some (.int .u64 (i : Int)) ∧ wr.cell? ⟨g, i * 3 + 1, none⟩ = some (.int .u8 (i : Int)) ∧ wr.cell? ⟨g, i * 3 + 2, none⟩ = some (.string (S i))) := fun i hi => by
                have hi2 : i < (st K m).1.length := by rw [hlK]; omega
                obtain ⟨g, e1, e2, e3, e4⟩ := hcR i hi2
                have h4 := t4 i hi
                rw [List.getElem?_eq_getElem hi2] at h4
                have h5 := Option.some.inj h4
                rw [h5] at e2 e3 e4
                have e5 : str (bytesOf (S i)) = S i := str_bytesOf (S i)
                exact ⟨g, e1, e2, e3, by rw [← e5]; exact e4⟩
              rw [hlK] at hvR
              clear HR2 hcR hlK t4
              subst hvR
              have HT5 : Hid (K = W ∨ (t = true ∧ a < (cat S W).length + 2)) := t5
              have HPY : Hid (∀ i, i < W → ∃ pb off, ao = some ⟨pb, off, none⟩ ∧ wr.cell? ⟨pb, off + i, none⟩ = some (.string (S i))) := fun i hi => by
                obtain ⟨pb, off, e1, e2, e3⟩ := HRS.out i (by omega)
                exact ⟨pb, off, e1, (HB2.out.cell (p := ⟨pb, off + i, none⟩) e2).trans e3⟩
              clear t5 HMOD
              have hkb : K ≤ 1099511627776 := by
                have := st_ge m K
                rw [HML.out] at t3
                omega
              rw [HML.out] at t3
              have HEV : Hid (∀ V, W = V + 1 → wr.cell? ⟨gE, V, none⟩ = some (.int .i64 ((cat S W).length : Nat))) := fun V h => by
                have h2 := HCE.out V (by omega)
                rw [← h] at h2; exact h2
              have HD0 : Hid (W = 0 → (cat S W).length = 0) := fun h => by subst h; rfl
              generalize (cat S (W + 1)).length = N1 at hce hnx
              generalize (cat S W).length = HD at *
              generalize (st K m).2 = E at *
              have m1 : ¬ (K : Int) < (W : Int) := by omega
              have m2 : ¬ (E : Int) < 0 := by omega
              have m3 : ¬ (mL : Int) < (E : Int) := by omega
              by_cases hW0 : W = 0
              · obtain rfl : HD = 0 := HD0.out hW0
                subst hW0
                rcases HT5.out with hKW | ⟨htt, hah⟩
                · subst hKW
                  clear HT5 HD0 HEV HCR HPY
                  go_wp2
                  refine wp_loop_rounds 1 ?_
                  rw [rounds_succ]
                  go_wp2
                  go_ret
                  exact ⟨rfl, HB2.out⟩
                · subst htt
                  have m4 : (a : Int) < 2 := by omega
                  clear HT5 HD0 HEV HCR HPY
                  go_wp2
                  refine wp_loop_rounds 1 ?_
                  rw [rounds_succ]
                  go_wp2
                  all_goals go_ret
                  all_goals exact ⟨rfl, HB2.out⟩
              · obtain ⟨V, rfl⟩ : ∃ V, W = V + 1 := ⟨W - 1, by omega⟩
                have hev := HEV.out V rfl
                have v0 : (0 : Int) ≤ (V : Int) := by omega
                have v1 : (V : Int) < (j : Int) := by omega
                have m4 : ¬ (E : Int) < (HD : Int) := by omega
                clear hW0 HD0 HEV
                go_wp2
                go_loopw [20] (fun i wx => ∃ q : Nat, q ≤ V + 1 ∧ i = .int .i64 q ∧ ∃ d, wx = wr.drewN d) (fun i _ => V + 1 - (intOf i).toNat)
                case atStart => exact ⟨0, Nat.zero_le _, rfl, 0, rfl⟩
                case round =>
                  obtain ⟨q, hq, rfl, d, rfl⟩ := hrel
                  by_cases hqV : q < V + 1
                  · obtain ⟨gR, rfl, x0, x1, x2⟩ := HCR.out q hqV
                    obtain ⟨pb, off, rfl, y0⟩ := HPY.out q hqV
                    have q0 : (0 : Int) ≤ (q : Int) := by omega
                    have q1 : (q : Int) < (K : Int) := by omega
                    have q2 : (q : Int) < (j : Int) := by omega
                    have q3 : IntKind.u8.wrap (q : Int) = (q : Int) := by rw [IntKind.wrap_u8]; omega
                    have q4 : IntKind.u64.wrap (q : Int) = (q : Int) := by rw [IntKind.wrap_u64]; omega
                    generalize S q = sq at x2 y0
                    go_wp2
                    go_quiet (fail)
                    go_wp2
                    go_roundw
                    case rel => exact ⟨q + 1, by omega, by go_num, _, rfl⟩
                    case measure => simp [intOf]; omega
                  · obtain rfl : q = V + 1 := by omega
                    have hev2 : (wr.drewN d).cell? ⟨gE, V, none⟩ = some (.int .i64 (HD : Nat)) := by rw [World.cell?_drewN]; exact hev
                    have HB3 : Hid (Below w.heap.size w (wr.drewN d)) := below_drewN HB2.out d
                    rcases HT5.out with hKW | ⟨htt, hah⟩
                    · subst hKW
                      clear HT5 HCR HPY
                      go_wp2
                      go_ret
                      exact ⟨rfl, HB3.out⟩
                    · subst htt
                      have m5 : (a : Int) < (HD : Int) + 2 := by omega
                      clear HT5 HCR HPY
                      go_wp2
                      all_goals go_ret
                      all_goals exact ⟨rfl, HB3.out⟩
end Go.Proofs.YtfkoflldjnlhaaaDoor
