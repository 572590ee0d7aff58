import Derived.Test.YtnnhihkeffljbaaGreatDoorC06
/- Scan in package wire. -/
namespace Go.Proofs.YtnnhihkeffljbaaGreatDoor
open Go.RowKit
open Sc

/-- records as cells -/
def recCells (r : Rec) : List Value := [.int .u64 (r.lsn : Int), .int .u8 (r.kind : Int), .string (str r.pay)]
def recsV (rs : List Rec) : List Value := rs.flatMap recCells
theorem recsV_snoc (rs : List Rec) (r : Rec) : recsV (rs ++ [r]) = recsV rs ++ recCells r := by simp [recsV]
theorem recsV_len (rs : List Rec) : (recsV rs).length = rs.length * 3 := by
  induction rs with
  | nil => rfl
  | cons r rs ih => simp only [recsV, List.flatMap_cons, List.length_append, List.length_cons] at *; rw [ih]; simp [recCells]; omega
theorem Tryz.infoRec : (Tryz.prog.info? 92).map (fun i => (i.zero, i.size, i.bytes)) = some (some (.agg #[.int .u64 0, .int .u8 0, .string ByteArray.empty]), 3, 32) := by kernel_rfl

/-- append(own, one record) -/
theorem wpList_rec {w : World} {ops : Array Oper} {rest : List Oper} {o : Oper} {a : Act} {Q : Exit → Act → World → Prop} (hgd : o.guard = none) (s x : Operand)
    (ho : o.op = .call { callee := .builtin .append, args := #[s, x], argTypes := #[50, 50] })
    (base : Nat) (v : Value) (n : Nat) (rs : List Rec) (r : Rec) (b : Nat) (hs : a.eval s = v) (hown : w.ownsRow base 92 3 v n (recsV rs)) (hx : a.eval x = .slice (some ⟨b, 0, none⟩) 1 1)
    (hc0 : w.cell? ⟨b, 0, none⟩ = some (.int .u64 (r.lsn : Int))) (hc1 : w.cell? ⟨b, 1, none⟩ = some (.int .u8 (r.kind : Int))) (hc2 : w.cell? ⟨b, 2, none⟩ = some (.string (str r.pay))) (hn : n ≤ 1099511627776) (hbase : base ≤ w.heap.size)
    (h : ∀ v' w', w'.ownsRow base 92 3 v' (n + 1) (recsV (rs ++ [r])) → w.grownBy w' v.ownBlock → wpList Tryz.prog ops Q rest (a.put o.dst v') w') : wpList Tryz.prog ops Q (o :: rest) a w := by
  obtain ⟨i0, hi, hz0, hz1, hz2⟩ := info_parts Tryz.infoRec
  refine wpList_append_own _ hgd s x 50 ho base 92 i0 _ 3 32 Tryz.underlying50 hi hz0 hz1 hz2 rfl (by decide) v n (recsV rs) hs hown ⟨b, 0, none⟩ 1 1 (recCells r) hx rfl ?_ ?_ (by unfold maxLen; omega) (by omega) hbase ?_
  · intro jj u hjj
    match jj, hjj with
    | 0, hjj => simp [recCells] at hjj; subst hjj; simpa [Addr.add] using hc0
    | 1, hjj => simp [recCells] at hjj; subst hjj; simpa [Addr.add] using hc1
    | 2, hjj => simp [recCells] at hjj; subst hjj; simpa [Addr.add] using hc2
  · intro u hu; simp [recCells] at hu; rcases hu with rfl | rfl | rfl <;> rfl
  · intro v' w' ho' hg' _
    refine h v' w' ?_ hg'
    rw [recsV_snoc]; exact ho'

theorem ownR_below {w w' : World} {base n : Nat} {v : Value} {xs : List Value} (h : w.ownsRow base 92 3 v n xs) (hb : Below w.heap.size w w') : w'.ownsRow base 92 3 v n xs :=
  h.kept (grown_of_below hb none) (by cases v.ownBlock <;> simp)
theorem sealed_frame (l : List Nat) (f : Nat) (hf : fLen l = f) (h : 15 + f ≤ l.length) : sealed (l.take (15 + f)) = fSum l := by
  unfold sealed fSum
  rw [hf, List.length_take, Nat.min_eq_left h, List.take_take, show min (15 + f - 4) (15 + f) = 11 + f by omega, show 15 + f - 4 = 11 + f by omega, List.drop_take, show 15 + f - (11 + f) = 4 by omega]
theorem rec_frame (l : List Nat) (f : Nat) (hf : fLen l = f) : recOf l = ⟨val (((l.take (11 + f)).drop 2).take 8), at_ (l.take (11 + f)) 10, (l.take (11 + f)).drop 11⟩ := by
  unfold recOf
  rw [hf, at_take _ _ _ (by omega), List.drop_take, List.drop_take, List.take_take, show min 8 (11 + f - 2) = 8 by omega, show 11 + f - 11 = f by omega]
theorem ownR_base {w : World} {B n : Nat} {v : Value} {xs : List Value} (h : w.ownsRow (B + 1) 92 3 v n xs) : w.ownsRow B 92 3 v n xs := by
  refine ⟨h.1, ?_⟩
  rcases h.2 with h | ⟨g, cap, cur, h1, h2, h3⟩
  · exact .inl h
  · exact .inr ⟨g, cap, cur, h1, by omega, h3⟩
theorem RowAt.take {w : World} {b off : Nat} {l : List Nat} (h : RowAt w b off l) (m : Nat) : RowAt w b off (l.take m) := fun i hi => by
  rw [List.length_take] at hi
  rw [at_take l m i (by omega)]; exact h i (by omega)
theorem ffOk_parts {l : List Nat} (h : ffOk l = true) : 15 ≤ l.length ∧ fLen l ≤ 255 ∧ 15 + fLen l ≤ l.length := by
  unfold ffOk at h
  simp only [Bool.and_eq_true, decide_eq_true_eq] at h
  exact ⟨h.1, h.2.1, h.2.2⟩
theorem ended_nil : Ended [] 0 := ⟨good_zero _, rfl⟩

set_option maxRecDepth 100000 in
set_option maxHeartbeats 2000000 in
theorem scanW_some (b off cap : Nat) (l : List Nat) (w : World) (hb : Byt l) (hl : l.length ≤ 1099511627776) (hrow : RowAt w b off l) (hlt : b < w.heap.size) (hcap : l.length ≤ cap) (hcap2 : cap ≤ maxLen) :
    Calls Tryz.prog 156 #[.slice (some ⟨b, off, none⟩) l.length cap] w fun e w' => ∃ k v', e = .returned (.tuple #[v', .int .i64 ((st k l).2 : Nat)]) ∧ Ended l k ∧ w'.ownsRow w.heap.size 92 3 v' k (recsV (st k l).1) ∧ (k = 0 → v' = .slice none 0 0) ∧ Below w.heap.size w w' := by
  obtain ⟨n, hn⟩ : ∃ n, n = l.length := ⟨_, rfl⟩
  rw [← hn] at hl hcap ⊢
  have HL : Hid (l.length = n) := hn.symm
  have HR : Hid (RowAt w b off l) := hrow
  clear hn hrow
  have hcap3 := hcap2
  unfold maxLen at hcap3
  have hnot : ∀ (x : Bool) (w : World), (Op.unary .not (.bool x)).run Tryz.prog w = .ok (.bool (!x)) w := fun _ _ => rfl
  go_enter Tryz.func156, Tryz.ntmps156
  go_wp2
  go_loopw [5, 6] (fun r e wr => ∃ k, Good l k ∧ e = .int .i64 ((st k l).2 : Nat) ∧ wr.ownsRow (w.heap.size + 1) 92 3 r k (recsV (st k l).1) ∧ (k = 0 → r = .slice none 0 0) ∧ (∃ d, Maker wr w.heap.size d) ∧ Below w.heap.size w wr) (fun _ e _ => n - (intOf e).toNat)
  case atStart => exact ⟨0, good_zero l, rfl, World.ownsRow_nil _ _ _ _, fun _ => rfl, ⟨false, maker_new w⟩, (Below.refl _ _).alloc (Nat.le_refl _) _⟩
  case round =>
    obtain ⟨k, hg, rfl, hown, hnil, ⟨d, hm⟩, hB⟩ := hrel
    have hle := st_le hg
    rw [HL.out] at hle
    have HG : Hid (Good l k) := hg
    obtain ⟨E, hE⟩ : ∃ E, E = (st k l).2 := ⟨_, rfl⟩
    rw [← hE] at hle ⊢
    have HE : Hid ((st k l).2 = E) := hE.symm
    clear hE hg
    have i0 : (0 : Int) ≤ (E : Int) := by omega
    have i1 : (E : Int) ≤ (n : Int) := by omega
    have i2 : (E : Int) ≤ (cap : Int) := by omega
    by_cases h15 : n - E < 15
    · have HO : Hid (frameOk (l.drop E) = false) := frameOk_ffno (ffOk_short (by rw [List.length_drop, HL.out]; omega))
      by_cases hcE : cap = E
      · subst hcE
        obtain rfl : n = cap := by omega
        go_wp2_with fail
        refine (firstFrame_short _ _ _ _ (by omega)).mono ?_
        rintro e w1 ⟨rfl, hw1⟩
        have := hw1.symm
        subst this
        clear hw1
        go_wp2
        go_ret2
        exact ⟨k, _, by rw [HE.out]; rfl, ⟨HG.out, by rw [HE.out]; exact HO.out⟩, ownR_base hown, hnil, hB⟩
      · go_wp2_with fail
        refine (firstFrame_short _ _ _ _ (by omega)).mono ?_
        rintro e w1 ⟨rfl, hw1⟩
        have := hw1.symm
        subst this
        clear hw1
        go_wp2
        go_ret2
        exact ⟨k, _, by rw [HE.out]; rfl, ⟨HG.out, by rw [HE.out]; exact HO.out⟩, ownR_base hown, hnil, hB⟩
    · have hcE : ¬ cap = E := by omega
      have HRr : Hid (RowAt wr b (off + E) (l.drop E)) := (HR.out.below hB hlt).drop E (by rw [HL.out]; exact hle)
      have hb' : Byt (l.drop E) := hb.drop E
      have HL' : Hid ((l.drop E).length = n - E) := by show _ = _; rw [List.length_drop, HL.out]
      have HEND : Hid (frameOk (l.drop E) = false → Ended l k) := fun h => ⟨HG.out, by rw [HE.out]; exact h⟩
      have HST : Hid (frameOk (l.drop E) = true → Good l (k + 1) ∧ (st (k + 1) l).2 = E + (15 + fLen (l.drop E)) ∧ (st (k + 1) l).1 = (st k l).1 ++ [recOf (l.drop E)]) := fun h =>
        ⟨good_succ HG.out (by rw [HE.out]; exact h), by show (st k l).2 + 15 + fLen (l.drop (st k l).2) = _; rw [HE.out]; omega, by show (st k l).1 ++ [recOf (l.drop (st k l).2)] = _; rw [HE.out]⟩
      generalize l.drop E = m at HRr hb' HL' HEND HST
      have hB' : Hid (Below w.heap.size w wr) := hB
      clear hB
      go_wp2_with fail
      refine (firstFrame_some b (off + E) (n - E) (cap - E) m _ HL'.out hb' (by omega) (by omega) (by omega) (by unfold maxLen; omega) HRr.out).mono ?_
      rintro e w1 ⟨rfl, q1, hw1⟩
      have HB1 : Hid (Below w.heap.size w w1) := by show Below _ _ _; rw [hw1]; exact below_drewN hB'.out _
      have ho1 : w1.ownsRow (w.heap.size + 1) 92 3 u5 k (recsV (st k l).1) := by rw [hw1]; exact hown.kept (grown_drewN wr q1 none) (by cases u5.ownBlock <;> simp)
      have HM1 : Hid (Maker w1 w.heap.size d) := hm.of_block (by rw [hw1, heap_drewN])
      have HR1 : Hid (RowAt w1 b (off + E) m) := by show RowAt _ _ _ _; rw [hw1]; exact HRr.out.drewN q1
      have hz1 : w.heap.size < w1.heap.size := HM1.out.lt
      clear hw1 hown hm HRr hB'
      rcases (Bool.eq_false_or_eq_true (ffOk m)).symm with hff | hff
      · have HF : Hid (frameOk m = false) := frameOk_ffno hff
        rw [ffV_no hff, hff]
        clear hff
        go_wp2
        go_ret2
        exact ⟨k, u5, by rw [HE.out]; rfl, HEND.out HF.out, ownR_base ho1, hnil, HB1.out⟩
      · have HF : Hid (ffOk m = true) := hff
        obtain ⟨hf1, hf2, hf3⟩ := ffOk_parts hff
        rw [ffV_yes hff, hff]
        clear hff
        rw [HL'.out] at hf1 hf3
        obtain ⟨f, hf⟩ : ∃ f, f = fLen m := ⟨_, rfl⟩
        rw [← hf] at hf2 hf3 ⊢
        have HFL : Hid (fLen m = f) := hf.symm
        clear hf
        have HO1 : Hid (w1.ownsRow (w.heap.size + 1) 92 3 u5 k (recsV (st k l).1)) := ho1
        clear ho1
        go_wp2_with fail
        refine (unseal_any w.heap.size b (off + E) (15 + f) (15 + f) d (m.take (15 + f)) _ HM1.out (by omega) (by rw [List.length_take, HL'.out]; omega) (hb'.take _) (by omega) (by omega) (by omega) (by unfold maxLen; omega) (HR1.out.take _)).mono ?_
        rintro e w2 ⟨rfl, hm2, hg2⟩
        have HO2 : Hid (w2.ownsRow (w.heap.size + 1) 92 3 u5 k (recsV (st k l).1)) := HO1.out.kept hg2 (Or.inr (by intro e; have := (HO1.out.lt _ e).1; omega))
        have HB2 : Hid (Below w.heap.size w w2) := HB1.out.grown hg2 (by omega) (fun q hq => by cases hq; exact Nat.le_refl _)
        have HR2 : Hid (RowAt w2 b (off + E) m) := row_grown HR1.out hg2 (by omega)
        have HM2 : Hid (Maker w2 w.heap.size true) := hm2
        have hz2 : w1.heap.size ≤ w2.heap.size := hg2.size
        have hse := sealed_frame m f HFL.out (by rw [HL'.out]; omega)
        clear hm2 hg2 HR1 HM1 HO1 HB1
        rcases (Bool.eq_false_or_eq_true (fSum m)).symm with hsu | hsu
        · have HF2 : Hid (frameOk m = false) := frameOk_sumno hsu
          rw [hsu] at hse
          rw [unsV_no hse, hse]
          clear hse hsu
          go_wp2
          go_ret2
          exact ⟨k, u5, by rw [HE.out]; rfl, HEND.out HF2.out, ownR_base HO2.out, hnil, HB2.out⟩
        · have HF2 : Hid (frameOk m = true) := frameOk_yes HF.out hsu
          rw [hsu] at hse
          rw [unsV_yes hse, hse, show 15 + f - 4 = 11 + f by omega]
          clear hse hsu
          go_wp2_with fail
          refine (readRecord_any b (off + E) f (m.take (11 + f)) _ (by rw [List.length_take, HL'.out]; omega) (by omega) (hb'.take _) (HR2.out.take _)).mono ?_
          rintro e w3 ⟨rfl, hb3⟩
          have HO3 : Hid (w3.ownsRow (w.heap.size + 1) 92 3 u5 k (recsV (st k l).1)) := ownR_below HO2.out hb3
          have HB3 : Hid (Below w.heap.size w w3) := HB2.out.trans (hb3.mono (by omega))
          have HM3 : Hid (Maker w3 w.heap.size true) := HM2.out.of_block (hb3.block _ (by omega))
          have hz3 : w2.heap.size ≤ w3.heap.size := hb3.size
          have hrc := rec_frame m f HFL.out
          have hc0 : (recOf m).lsn = val (((m.take (11 + f)).drop 2).take 8) := by rw [hrc]
          have hc1 : (recOf m).kind = at_ (m.take (11 + f)) 10 := by rw [hrc]
          have hc2 : (recOf m).pay = (m.take (11 + f)).drop 11 := by rw [hrc]
          rw [← hc0, ← hc1, ← hc2]
          clear hb3 HR2 HO2 HB2 HM2 hrc hc0 hc1 hc2
          have hkn : k ≤ 1099511627776 := by
            have := st_ge l k
            rw [HE.out] at this
            omega
          go_wp2_with (at_builtin; refine wpList_rec rfl _ _ rfl (w.heap.size + 1) u5 k (st k l).1 (recOf m) w3.heap.size rfl (HO3.out.alloc _) rfl (by simp) (by simp) (by simp) hkn (by simp; omega) ?_; intro v4 w4 ho4 hg4)
          obtain ⟨hgood, hst2, hst1⟩ := HST.out HF2.out
          rw [HFL.out] at hst2
          have hB4 : Below w.heap.size w w4 := (HB3.out.alloc (by omega) _).grown hg4 (by simp; omega) (fun q hq => by have := (HO3.out.lt q hq).1; omega)
          have hm4 : Maker w4 w.heap.size true := (HM3.out.alloc _).of_block (hg4.block _ (by simp; omega) (fun e => by have := (HO3.out.lt _ e.symm).1; omega))
          clear hg4
          go_roundw
          case rel => exact ⟨k + 1, hgood, by rw [hst2]; go_num, by rw [hst1]; exact ho4, fun h => absurd h (by omega), ⟨true, hm4⟩, hB4⟩
          case measure => simp [intOf]; omega
end Go.Proofs.YtnnhihkeffljbaaGreatDoor
/- Scan through shardcommit and plain. -/
namespace Go.Proofs.YtnnhihkeffljbaaGreatDoor
open Go.RowKit
open Sc

/-- what a scan of the bytes l answers -/
def Scanned (l : List Nat) (w : World) (e : Ending) (w' : World) : Prop :=
  ∃ k v', e = .returned (.tuple #[v', .int .i64 ((st k l).2 : Nat)]) ∧ Ended l k ∧ w'.ownsRow w.heap.size 92 3 v' k (recsV (st k l).1) ∧ (k = 0 → v' = .slice none 0 0) ∧ Below w.heap.size w w'

set_option maxHeartbeats 400000 in
theorem scanW_nil (w : World) : Calls Tryz.prog 156 #[.slice none 0 0] w (Scanned [] w) := by
  have hnot : ∀ (x : Bool) (w : World), (Op.unary .not (.bool x)).run Tryz.prog w = .ok (.bool (!x)) w := fun _ _ => rfl
  go_enter Tryz.func156, Tryz.ntmps156
  go_wp2
  refine wp_loop_rounds 1 ?_
  rw [rounds_succ]
  go_wp2_with fail
  refine (firstFrame_short _ _ _ _ (by omega)).mono ?_
  rintro e w1 ⟨rfl, rfl⟩
  go_wp2
  go_ret2
  exact ⟨0, _, rfl, ended_nil, World.ownsRow_nil _ _ _ _, fun _ => rfl, (Below.refl _ _).alloc (Nat.le_refl _) _⟩

theorem scanW (v : Value) (l : List Nat) (w : World) (hs : Src w v l) (hb : Byt l) (hl : l.length ≤ 1099511627776) : Calls Tryz.prog 156 #[v] w (Scanned l w) := by
  rcases hs with ⟨rfl, rfl⟩ | ⟨b, off, cap, rfl, hrow, hlt, hc, hc2⟩
  · exact scanW_nil w
  · exact scanW_some b off cap l w hb hl hrow hlt hc hc2

theorem src_own {w : World} {base : Nat} {v : Value} {l : List Nat} (h : w.ownsRow base 5 1 v l.length (bs l)) : Src w v l := by
  by_cases h0 : 0 < l.length
  · obtain ⟨g, cap, rfl, _, h2, h3, h4, h5⟩ := own_shape h h0
    exact Or.inr ⟨g, 0, cap, rfl, h5, h2, h3, h4⟩
  · have hl : l = [] := List.eq_nil_of_length_eq_zero (by omega)
    subst hl
    rcases h.2 with ⟨rfl, _⟩ | ⟨g, cap, cur, rfl, _, hg, _, hm, _⟩
    · exact Or.inl ⟨rfl, rfl⟩
    · exact Or.inr ⟨g, 0, cap, rfl, (fun i hi => by simp at hi), (Array.getElem?_eq_some_iff.1 hg).1, Nat.zero_le _, hm⟩

end Go.Proofs.YtnnhihkeffljbaaGreatDoor
/- The document's Scan. -/
namespace Go.Proofs.YtnnhihkeffljbaaGreatDoor
open Go.RowKit
open Sc

/-- append(own, one record), within a region that draws its order -/
theorem wp_rec {w : World} {o : Oper} {a : Act} {K : Act → World → Prop} {Q : Exit → Act → World → Prop} (s x : Operand)
    (ho : o.op = .call { callee := .builtin .append, args := #[s, x], argTypes := #[50, 50] })
    (base : Nat) (v : Value) (n : Nat) (rs : List Rec) (r : Rec) (b : Nat) (hs : a.eval s = v) (hown : w.ownsRow base 92 3 v n (recsV rs)) (hx : a.eval x = .slice (some ⟨b, 0, none⟩) 1 1)
    (hc0 : w.cell? ⟨b, 0, none⟩ = some (.int .u64 (r.lsn : Int))) (hc1 : w.cell? ⟨b, 1, none⟩ = some (.int .u8 (r.kind : Int))) (hc2 : w.cell? ⟨b, 2, none⟩ = some (.string (str r.pay))) (hn : n ≤ 1099511627776) (hbase : base ≤ w.heap.size)
    (h : ∀ v' w', w'.ownsRow base 92 3 v' (n + 1) (recsV (rs ++ [r])) → w.grownBy w' v.ownBlock → K (a.put o.dst v') w') : o.wp Tryz.prog a w K Q := by
  obtain ⟨i0, hi, hz0, hz1, hz2⟩ := info_parts Tryz.infoRec
  refine wp_append_own _ s x 50 ho base 92 i0 _ 3 32 Tryz.underlying50 hi hz0 hz1 hz2 rfl (by decide) v n (recsV rs) hs hown ⟨b, 0, none⟩ 1 1 (recCells r) hx rfl ?_ ?_ (by unfold maxLen; omega) (by omega) hbase ?_
  · intro jj u hjj
    match jj, hjj with
    | 0, hjj => simp [recCells] at hjj; subst hjj; simpa [Addr.add] using hc0
    | 1, hjj => simp [recCells] at hjj; subst hjj; simpa [Addr.add] using hc1
    | 2, hjj => simp [recCells] at hjj; subst hjj; simpa [Addr.add] using hc2
  · intro u hu; simp [recCells] at hu; rcases hu with rfl | rfl | rfl <;> rfl
  · intro v' w' ho' hg' _
    refine h v' w' ?_ hg'
    rw [recsV_snoc]; exact ho'
theorem row_keep {w w' : World} {g off B : Nat} {l : List Nat} {r : Option Nat} (hg : w.grownBy w' r) (hB : g < B) (hr : ∀ q, r = some q → B ≤ q) (h : RowAt w g off l) : RowAt w' g off l := fun i hi => by
  have h1 := h i hi
  rw [World.cell?_of_block (a := ⟨g, off + i, none⟩) (hg.block g (World.block_lt_of_cell? w _ h1) (fun e => by have := hr g e.symm; omega))]; exact h1
end Go.Proofs.YtnnhihkeffljbaaGreatDoor
/- sameRecords; what both scans answer, compared. -/
namespace Go.Proofs.YtnnhihkeffljbaaGreatDoor
open Go.RowKit
open Sc

theorem recsV_at : ∀ (rs : List Rec) (i : Nat) (h : i < rs.length), (recsV rs)[i * 3]? = some (.int .u64 (rs[i].lsn : Int)) ∧ (recsV rs)[i * 3 + 1]? = some (.int .u8 (rs[i].kind : Int)) ∧ (recsV rs)[i * 3 + 2]? = some (.string (str rs[i].pay))
  | [], i, h => absurd h (Nat.not_lt_zero _)
  | r :: rs, 0, _ => ⟨rfl, rfl, rfl⟩
  | r :: rs, i + 1, h => by
    have ih := recsV_at rs i (by simpa using h)
    have e : ∀ j, (recsV (r :: rs))[(i + 1) * 3 + j]? = (recsV rs)[i * 3 + j]? := fun j => by
      show (recCells r ++ recsV rs)[(i + 1) * 3 + j]? = _
      rw [List.getElem?_append_right (by simp [recCells]; omega)]
      congr 1
      simp [recCells]; omega
    exact ⟨(e 0).trans ih.1, (e 1).trans ih.2.1, (e 2).trans ih.2.2⟩
/-- the records rs, as a slice value holds them -/
def RecsAt (w : World) (v : Value) (rs : List Rec) : Prop :=
  ∃ ao cap, v = .slice ao rs.length cap ∧ ∀ i (h : i < rs.length), ∃ g, ao = some ⟨g, 0, none⟩ ∧ w.cell? ⟨g, i * 3, none⟩ = some (.int .u64 (rs[i].lsn : Int)) ∧ w.cell? ⟨g, i * 3 + 1, none⟩ = some (.int .u8 (rs[i].kind : Int)) ∧ w.cell? ⟨g, i * 3 + 2, none⟩ = some (.string (str rs[i].pay))
theorem recsAt_own {w : World} {base n : Nat} {v : Value} {rs : List Rec} (h : w.ownsRow base 92 3 v n (recsV rs)) : RecsAt w v rs := by
  have hl : rs.length = n := by have := h.1; rw [recsV_len] at this; omega
  rcases h.2 with ⟨rfl, h0⟩ | ⟨g, cap, cur, rfl, hb, hg, rest⟩
  · exact ⟨none, 0, by rw [hl, h0], fun i hi => by omega⟩
  · refine ⟨_, cap, by rw [hl], fun i hi => ⟨g, rfl, ?_⟩⟩
    have hc : ∀ j u, (recsV rs)[j]? = some u → w.cell? ⟨g, j, none⟩ = some u := fun j u hu => by
      have := h.cells (g := g) rfl j u hu
      simpa [Addr.add_lit] using this
    obtain ⟨h1, h2, h3⟩ := recsV_at rs i hi
    exact ⟨hc _ _ h1, hc _ _ h2, hc _ _ h3⟩

set_option maxHeartbeats 1000000 in
theorem same_any (v1 v2 : Value) (rs : List Rec) (w : World) (h1 : RecsAt w v1 rs) (h2 : RecsAt w v2 rs) (hn : rs.length ≤ 1099511627776) :
    Calls Tryz.prog 47 #[v1, v2] w fun e w' => e = .returned (.bool true) ∧ ∃ q, w' = w.drewN q := by
  obtain ⟨a1, c1, rfl, H1⟩ := h1
  obtain ⟨a2, c2, rfl, H2⟩ := h2
  have G1 : Hid (∀ i (h : i < rs.length), ∃ g, a1 = some ⟨g, 0, none⟩ ∧ w.cell? ⟨g, i * 3, none⟩ = some (.int .u64 (rs[i].lsn : Int)) ∧ w.cell? ⟨g, i * 3 + 1, none⟩ = some (.int .u8 (rs[i].kind : Int)) ∧ w.cell? ⟨g, i * 3 + 2, none⟩ = some (.string (str rs[i].pay))) := H1
  have G2 : Hid (∀ i (h : i < rs.length), ∃ g, a2 = some ⟨g, 0, none⟩ ∧ w.cell? ⟨g, i * 3, none⟩ = some (.int .u64 (rs[i].lsn : Int)) ∧ w.cell? ⟨g, i * 3 + 1, none⟩ = some (.int .u8 (rs[i].kind : Int)) ∧ w.cell? ⟨g, i * 3 + 2, none⟩ = some (.string (str rs[i].pay))) := H2
  clear H1 H2
  obtain ⟨n, hnn⟩ : ∃ n, n = rs.length := ⟨_, rfl⟩
  rw [← hnn] at hn ⊢
  have HN : Hid (rs.length = n) := hnn.symm
  clear hnn
  go_enter Tryz.func47, Tryz.ntmps47
  go_wp2
  go_loopw [5] (fun i wr => ∃ k : Nat, k ≤ n ∧ i = .int .i64 k ∧ ∃ q, wr = w.drewN q) (fun i _ => n - (intOf i).toNat)
  case atStart => exact ⟨0, Nat.zero_le _, rfl, 0, rfl⟩
  case round =>
    obtain ⟨k, hk, rfl, q, rfl⟩ := hrel
    by_cases hlt : k < n
    · obtain ⟨g1, rfl, x0, x1, x2⟩ := G1.out k (by rw [HN.out]; exact hlt)
      obtain ⟨g2, rfl, y0, y1, y2⟩ := G2.out k (by rw [HN.out]; exact hlt)
      have i0 : (0 : Int) ≤ (k : Int) := by omega
      have i1 : (k : Int) < (n : Int) := by omega
      generalize rs[k]'(by rw [HN.out]; exact hlt) = r at x0 x1 x2 y0 y1 y2
      generalize str r.pay = sp at x2 y2
      go_wp2
      go_quiet (fail)
      go_wp2
      go_roundw
      case rel => exact ⟨k + 1, by omega, by go_num, _, rfl⟩
      case measure => simp [intOf]; omega
    · go_wp2
      go_ret
      exact ⟨rfl, q, rfl⟩
end Go.Proofs.YtnnhihkeffljbaaGreatDoor
