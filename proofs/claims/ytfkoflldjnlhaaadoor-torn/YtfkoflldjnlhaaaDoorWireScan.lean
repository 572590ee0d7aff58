import Derived.Test.YtfkoflldjnlhaaaDoorWireRec
/- Scan in package wire. -/
namespace Go.Proofs.YtfkoflldjnlhaaaDoor
open Go.RowKit
open Sc

/-- records as cells -/
def recCells (r : Rec) : List Value := [.int .u64 (r.lsn : Int), .int .u8 (r.kind : Int), .string (str r.pay)]
def recsV (rs : List Rec) : List Value := rs.flatMap recCells
theorem recsV_snoc (rs : List Rec) (r : Rec) : recsV (rs ++ [r]) = recsV rs ++ recCells r := by simp [recsV]
theorem recsV_len (rs : List Rec) : (recsV rs).length = rs.length * 3 := by
  induction rs with
  | nil => rfl
  | cons r rs ih => simp only [recsV, List.flatMap_cons, List.length_append, List.length_cons] at *; rw [ih]; simp [recCells]; omega
theorem Tryd.infoRec : (Tryd.prog.info? 29).map (fun i => (i.zero, i.size, i.bytes)) = some (some (.agg #[.int .u64 0, .int .u8 0, .string ByteArray.empty]), 3, 32) := by kernel_rfl

/-- append(own, one record) -/
theorem wpList_rec {w : World} {ops : Array Oper} {rest : List Oper} {o : Oper} {a : Act} {Q : Exit → Act → World → Prop} (hgd : o.guard = none) (s x : Operand)
    (ho : o.op = .call { callee := .builtin .append, args := #[s, x], argTypes := #[22, 22] })
    (base : Nat) (v : Value) (n : Nat) (rs : List Rec) (r : Rec) (b : Nat) (hs : a.eval s = v) (hown : w.ownsRow base 29 3 v n (recsV rs)) (hx : a.eval x = .slice (some ⟨b, 0, none⟩) 1 1)
    (hc0 : w.cell? ⟨b, 0, none⟩ = some (.int .u64 (r.lsn : Int))) (hc1 : w.cell? ⟨b, 1, none⟩ = some (.int .u8 (r.kind : Int))) (hc2 : w.cell? ⟨b, 2, none⟩ = some (.string (str r.pay))) (hn : n ≤ 1099511627776) (hbase : base ≤ w.heap.size)
    (h : ∀ v' w', w'.ownsRow base 29 3 v' (n + 1) (recsV (rs ++ [r])) → w.grownBy w' v.ownBlock → wpList Tryd.prog ops Q rest (a.put o.dst v') w') : wpList Tryd.prog ops Q (o :: rest) a w := by
  obtain ⟨i0, hi, hz0, hz1, hz2⟩ := info_parts Tryd.infoRec
  refine wpList_append_own _ hgd s x 22 ho base 29 i0 _ 3 32 Tryd.underlying22 hi hz0 hz1 hz2 rfl (by decide) v n (recsV rs) hs hown ⟨b, 0, none⟩ 1 1 (recCells r) hx rfl ?_ ?_ (by unfold maxLen; omega) (by omega) hbase ?_
  · intro jj u hjj
    match jj, hjj with
    | 0, hjj => simp [recCells] at hjj; subst hjj; simpa [Addr.add] using hc0
    | 1, hjj => simp [recCells] at hjj; subst hjj; simpa [Addr.add] using hc1
    | 2, hjj => simp [recCells] at hjj; subst hjj; simpa [Addr.add] using hc2
  · intro u hu; simp [recCells] at hu; rcases hu with rfl | rfl | rfl <;> rfl
  · intro v' w' ho' hg' _
    refine h v' w' ?_ hg'
    rw [recsV_snoc]; exact ho'

theorem ownR_below {w w' : World} {base n : Nat} {v : Value} {xs : List Value} (h : w.ownsRow base 29 3 v n xs) (hb : Below w.heap.size w w') : w'.ownsRow base 29 3 v n xs :=
  h.kept (grown_of_below hb none) (by cases v.ownBlock <;> simp)
theorem sealed_frame (l : List Nat) (f : Nat) (hf : fLen l = f) (h : 15 + f ≤ l.length) : sealed (l.take (15 + f)) = fSum l := by
  unfold sealed fSum
  rw [hf, List.length_take, Nat.min_eq_left h, List.take_take, show min (15 + f - 4) (15 + f) = 11 + f by omega, show 15 + f - 4 = 11 + f by omega, List.drop_take, show 15 + f - (11 + f) = 4 by omega]
theorem rec_frame (l : List Nat) (f : Nat) (hf : fLen l = f) : recOf l = ⟨val (((l.take (11 + f)).drop 2).take 8), at_ (l.take (11 + f)) 10, (l.take (11 + f)).drop 11⟩ := by
  unfold recOf
  rw [hf, at_take _ _ _ (by omega), List.drop_take, List.drop_take, List.take_take, show min 8 (11 + f - 2) = 8 by omega, show 11 + f - 11 = f by omega]
theorem ownR_base {w : World} {B n : Nat} {v : Value} {xs : List Value} (h : w.ownsRow (B + 1) 29 3 v n xs) : w.ownsRow B 29 3 v n xs := by
  refine ⟨h.1, ?_⟩
  rcases h.2 with h | ⟨g, cap, cur, h1, h2, h3⟩
  · exact .inl h
  · exact .inr ⟨g, cap, cur, h1, by omega, h3⟩
theorem RowAt.take {w : World} {b off : Nat} {l : List Nat} (h : RowAt w b off l) (m : Nat) : RowAt w b off (l.take m) := fun i hi => by
  rw [List.length_take] at hi
  rw [at_take l m i (by omega)]; exact h i (by omega)
theorem ffOk_parts {l : List Nat} (h : ffOk l = true) : 15 ≤ l.length ∧ fLen l ≤ 255 ∧ 15 + fLen l ≤ l.length := by
  unfold ffOk at h
  simp only [Bool.and_eq_true, decide_eq_true_eq] at h
  exact ⟨h.1, h.2.1, h.2.2⟩
theorem ended_nil : Ended [] 0 := ⟨good_zero _, rfl⟩

set_option maxRecDepth 100000 in
set_option maxHeartbeats 2000000 in
theorem scanW_some (b off cap : Nat) (l : List Nat) (w : World) (hb : Byt l) (hl : l.length ≤ 1099511627776) (hrow : RowAt w b off l) (hlt : b < w.heap.size) (hcap : l.length ≤ cap) (hcap2 : cap ≤ maxLen) :
    Calls Tryd.prog 32 #[.slice (some ⟨b, off, none⟩) l.length cap] w fun e w' => ∃ k v', e = .returned (.tuple #[v', .int .i64 ((st k l).2 : Nat)]) ∧ Ended l k ∧ w'.ownsRow w.heap.size 29 3 v' k (recsV (st k l).1) ∧ (k = 0 → v' = .slice none 0 0) ∧ Below w.heap.size w w' := by
  obtain ⟨n, hn⟩ : ∃ n, n = l.length := ⟨_, rfl⟩
  rw [← hn] at hl hcap ⊢
  have HL : Hid (l.length = n) := hn.symm
  have HR : Hid (RowAt w b off l) := hrow
  clear hn hrow
  have hcap3 := hcap2
  unfold maxLen at hcap3
  have hnot : ∀ (x : Bool) (w : World), (Op.unary .not (.bool x)).run Tryd.prog w = .ok (.bool (!x)) w := fun _ _ => rfl
  go_enter Tryd.func32, Tryd.ntmps32
  go_wp2
  go_loopw [5, 6] (fun r e wr => ∃ k, Good l k ∧ e = .int .i64 ((st k l).2 : Nat) ∧ wr.ownsRow (w.heap.size + 1) 29 3 r k (recsV (st k l).1) ∧ (k = 0 → r = .slice none 0 0) ∧ (∃ d, Maker wr w.heap.size d) ∧ Below w.heap.size w wr) (fun _ e _ => n - (intOf e).toNat)
  case atStart => exact ⟨0, good_zero l, rfl, World.ownsRow_nil _ _ _ _, fun _ => rfl, ⟨false, maker_new w⟩, (Below.refl _ _).alloc (Nat.le_refl _) _⟩
  case round =>
    obtain ⟨k, hg, rfl, hown, hnil, ⟨d, hm⟩, hB⟩ := hrel
    have hle := st_le hg
    rw [HL.out] at hle
    have HG : Hid (Good l k) := hg
    obtain ⟨E, hE⟩ : ∃ E, E = (st k l).2 := ⟨_, rfl⟩
    rw [← hE] at hle ⊢
    have HE : Hid ((st k l).2 = E) := hE.symm
    clear hE hg
    have i0 : (0 : Int) ≤ (E : Int) := by omega
    have i1 : (E : Int) ≤ (n : Int) := by omega
    have i2 : (E : Int) ≤ (cap : Int) := by omega
    by_cases h15 : n - E < 15
    · have HO : Hid (frameOk (l.drop E) = false) := frameOk_ffno (ffOk_short (by rw [List.length_drop, HL.out]; omega))
      by_cases hcE : cap = E
      · subst hcE
        obtain rfl : n = cap := by omega
        go_wp2_with fail
        refine (firstFrame_short _ _ _ _ (by omega)).mono ?_
        rintro e w1 ⟨rfl, hw1⟩
        have := hw1.symm
        subst this
        clear hw1
        go_wp2
        go_ret2
        exact ⟨k, _, by rw [HE.out]; rfl, ⟨HG.out, by rw [HE.out]; exact HO.out⟩, ownR_base hown, hnil, hB⟩
      · go_wp2_with fail
        refine (firstFrame_short _ _ _ _ (by omega)).mono ?_
        rintro e w1 ⟨rfl, hw1⟩
        have := hw1.symm
        subst this
        clear hw1
        go_wp2
        go_ret2
        exact ⟨k, _, by rw [HE.out]; rfl, ⟨HG.out, by rw [HE.out]; exact HO.out⟩, ownR_base hown, hnil, hB⟩
    · have hcE : ¬ cap = E := by omega
      have HRr : Hid (RowAt wr b (off + E) (l.drop E)) := (HR.out.below hB hlt).drop E (by rw [HL.out]; exact hle)
      have hb' : Byt (l.drop E) := hb.drop E
      have HL' : Hid ((l.drop E).length = n - E) := by show _ = _; rw [List.length_drop, HL.out]
      have HEND : Hid (frameOk (l.drop E) = false → Ended l k) := fun h => ⟨HG.out, by rw [HE.out]; exact h⟩
      have HST : Hid (frameOk (l.drop E) = true → Good l (k + 1) ∧ (st (k + 1) l).2 = E + (15 + fLen (l.drop E)) ∧ (st (k + 1) l).1 = (st k l).1 ++ [recOf (l.drop E)]) := fun h =>
        ⟨good_succ HG.out (by rw [HE.out]; exact h), by show (st k l).2 + 15 + fLen (l.drop (st k l).2) = _; rw [HE.out]; omega, by show (st k l).1 ++ [recOf (l.drop (st k l).2)] = _; rw [HE.out]⟩
      generalize l.drop E = m at HRr hb' HL' HEND HST
      have hB' : Hid (Below w.heap.size w wr) := hB
      clear hB
      go_wp2_with fail
      refine (firstFrame_some b (off + E) (n - E) (cap - E) m _ HL'.out hb' (by omega) (by omega) (by omega) (by unfold maxLen; omega) HRr.out).mono ?_
      rintro e w1 ⟨rfl, q1, hw1⟩
      have HB1 : Hid (Below w.heap.size w w1) := by show Below _ _ _; rw [hw1]; exact below_drewN hB'.out _
      have ho1 : w1.ownsRow (w.heap.size + 1) 29 3 u5 k (recsV (st k l).1) := by rw [hw1]; exact hown.kept (grown_drewN wr q1 none) (by cases u5.ownBlock <;> simp)
      have HM1 : Hid (Maker w1 w.heap.size d) := hm.of_block (by rw [hw1, heap_drewN])
      have HR1 : Hid (RowAt w1 b (off + E) m) := by show RowAt _ _ _ _; rw [hw1]; exact HRr.out.drewN q1
      have hz1 : w.heap.size < w1.heap.size := HM1.out.lt
      clear hw1 hown hm HRr hB'
      rcases (Bool.eq_false_or_eq_true (ffOk m)).symm with hff | hff
      · have HF : Hid (frameOk m = false) := frameOk_ffno hff
        rw [ffV_no hff, hff]
        clear hff
        go_wp2
        go_ret2
        exact ⟨k, u5, by rw [HE.out]; rfl, HEND.out HF.out, ownR_base ho1, hnil, HB1.out⟩
      · have HF : Hid (ffOk m = true) := hff
        obtain ⟨hf1, hf2, hf3⟩ := ffOk_parts hff
        rw [ffV_yes hff, hff]
        clear hff
        rw [HL'.out] at hf1 hf3
        obtain ⟨f, hf⟩ : ∃ f, f = fLen m := ⟨_, rfl⟩
        rw [← hf] at hf2 hf3 ⊢
        have HFL : Hid (fLen m = f) := hf.symm
        clear hf
        have HO1 : Hid (w1.ownsRow (w.heap.size + 1) 29 3 u5 k (recsV (st k l).1)) := ho1
        clear ho1
        go_wp2_with fail
        refine (unseal_any w.heap.size b (off + E) (15 + f) (15 + f) d (m.take (15 + f)) _ HM1.out (by omega) (by rw [List.length_take, HL'.out]; omega) (hb'.take _) (by omega) (by omega) (by omega) (by unfold maxLen; omega) (HR1.out.take _)).mono ?_
        rintro e w2 ⟨rfl, hm2, hg2⟩
        have HO2 : Hid (w2.ownsRow (w.heap.size + 1) 29 3 u5 k (recsV (st k l).1)) := HO1.out.kept hg2 (Or.inr (by intro e; have := (HO1.out.lt _ e).1; omega))
        have HB2 : Hid (Below w.heap.size w w2) := HB1.out.grown hg2 (by omega) (fun q hq => by cases hq; exact Nat.le_refl _)
        have HR2 : Hid (RowAt w2 b (off + E) m) := row_grown HR1.out hg2 (by omega)
        have HM2 : Hid (Maker w2 w.heap.size true) := hm2
        have hz2 : w1.heap.size ≤ w2.heap.size := hg2.size
        have hse := sealed_frame m f HFL.out (by rw [HL'.out]; omega)
        clear hm2 hg2 HR1 HM1 HO1 HB1
        rcases (Bool.eq_false_or_eq_true (fSum m)).symm with hsu | hsu
        · have HF2 : Hid (frameOk m = false) := frameOk_sumno hsu
          rw [hsu] at hse
          rw [unsV_no hse, hse]
          clear hse hsu
          go_wp2
          go_ret2
          exact ⟨k, u5, by rw [HE.out]; rfl, HEND.out HF2.out, ownR_base HO2.out, hnil, HB2.out⟩
        · have HF2 : Hid (frameOk m = true) := frameOk_yes HF.out hsu
          rw [hsu] at hse
          rw [unsV_yes hse, hse, show 15 + f - 4 = 11 + f by omega]
          clear hse hsu
          go_wp2_with fail
          refine (readRecord_any b (off + E) f (m.take (11 + f)) _ (by rw [List.length_take, HL'.out]; omega) (by omega) (hb'.take _) (HR2.out.take _)).mono ?_
          rintro e w3 ⟨rfl, hb3⟩
          have HO3 : Hid (w3.ownsRow (w.heap.size + 1) 29 3 u5 k (recsV (st k l).1)) := ownR_below HO2.out hb3
          have HB3 : Hid (Below w.heap.size w w3) := HB2.out.trans (hb3.mono (by omega))
          have HM3 : Hid (Maker w3 w.heap.size true) := HM2.out.of_block (hb3.block _ (by omega))
          have hz3 : w2.heap.size ≤ w3.heap.size := hb3.size
          have hrc := rec_frame m f HFL.out
          have hc0 : (recOf m).lsn = val (((m.take (11 + f)).drop 2).take 8) := by rw [hrc]
          have hc1 : (recOf m).kind = at_ (m.take (11 + f)) 10 := by rw [hrc]
          have hc2 : (recOf m).pay = (m.take (11 + f)).drop 11 := by rw [hrc]
          rw [← hc0, ← hc1, ← hc2]
          clear hb3 HR2 HO2 HB2 HM2 hrc hc0 hc1 hc2
          have hkn : k ≤ 1099511627776 := by
            have := st_ge l k
            rw [HE.out] at this
            omega
          go_wp2_with (at_builtin; refine wpList_rec rfl _ _ rfl (w.heap.size + 1) u5 k (st k l).1 (recOf m) w3.heap.size rfl (HO3.out.alloc _) rfl (by simp) (by simp) (by simp) hkn (by simp; omega) ?_; intro v4 w4 ho4 hg4)
          obtain ⟨hgood, hst2, hst1⟩ := HST.out HF2.out
          rw [HFL.out] at hst2
          have hB4 : Below w.heap.size w w4 := (HB3.out.alloc (by omega) _).grown hg4 (by simp; omega) (fun q hq => by have := (HO3.out.lt q hq).1; omega)
          have hm4 : Maker w4 w.heap.size true := (HM3.out.alloc _).of_block (hg4.block _ (by simp; omega) (fun e => by have := (HO3.out.lt _ e.symm).1; omega))
          clear hg4
          go_roundw
          case rel => exact ⟨k + 1, hgood, by rw [hst2]; go_num, by rw [hst1]; exact ho4, fun h => absurd h (by omega), ⟨true, hm4⟩, hB4⟩
          case measure => simp [intOf]; omega
end Go.Proofs.YtfkoflldjnlhaaaDoor
