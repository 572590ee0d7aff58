import Derived.Test.YtejiankgafjppaaGreatDoorC24
import Derived.Test.YtejiankgafjppaaGreatDoorC31
import Derived.Test.YtejiankgafjppaaGreatDoorC13
import Derived.Test.YtejiankgafjppaaGreatDoorC17
import Derived.Test.YtejiankgafjppaaGreatDoorC18
import Derived.Test.YtejiankgafjppaaGreatDoorC29
/- A SHARD READS ITS ENTRIES: readPrepared, readDecided, read. -/
namespace Go.Proofs.YtejiankgafjppaaGreatDoor
open Go.RowKit Go.Maps
open Sc

/-- the holds of an entry are taken -/
def AShard.takes (s : AShard) (t : Nat) : List (ByteArray × AGrip) → AShard
  | [] => s
  | x :: r => (s.take t x.1 x.2).takes t r
theorem AShard.takes_snoc : ∀ (ys : List (ByteArray × AGrip)) (s : AShard) (t : Nat) (x : ByteArray × AGrip), s.takes t (ys ++ [x]) = (s.takes t ys).take t x.1 x.2
  | [], _, _, _ => rfl
  | y :: ys, s, t, x => AShard.takes_snoc ys (s.take t y.1 y.2) t x
/-- how much is left -/
def fldLen (w : World) (fp : Nat) : Nat := match w.cell? ⟨fp, 0, none⟩ with
  | some (.slice _ n _) => n
  | _ => 0
theorem FldIn.len {w : World} {fp : Nat} {rest : List Nat} (h : FldIn w fp rest) : fldLen w fp = rest.length := by
  obtain ⟨b, off, cap, h1, _⟩ := h
  have c0 := blk_cell h1 0
  simp at c0
  unfold fldLen
  rw [c0]
/-- one that is prepared -/
def AShard.prepd (s : AShard) (t : Nat) (xs : List (ByteArray × AGrip)) : AShard := ({ s with txns := alPut s.txns t ⟨3, 0, 0⟩ } : AShard).takes t xs
theorem holdB_cons (x : ByteArray × AGrip) (xs : List (ByteArray × AGrip)) : holdsB (x :: xs) = x.2.way :: (x.1.size :: bytesOf x.1 ++ (x.2.val.size :: bytesOf x.2.val ++ holdsB xs)) := by
  simp [holdsB, holdB]
theorem FldAt.more {n : Nat} {w : World} {fp : Nat} {x : ByteArray × AGrip} {xs : List (ByteArray × AGrip)} (_h : FldAt n w fp (holdsB (x :: xs))) : 0 < (holdsB (x :: xs)).length := by rw [holdB_cons]; simp
set_option maxRecDepth 100000 in
set_option maxHeartbeats 4000000 in
theorem readPrep_any (n sp lg bV bT bH m fp t : Nat) (s : AShard) (xs : List (ByteArray × AGrip)) (w : World) (h : ShIn w sp lg bV bT bH m s) (hf : FldAt n w fp (be 8 t ++ holdsB xs)) (ht : t < 18446744073709551616) (h0 : t ≠ 0) (hst : (s.txn t).state = 0) (hsm : ∀ x ∈ xs, SmallH x ∧ x.2.way ≤ 2) (hl : xs.length ≤ 16) (hm : m + 32 < maxLen) (hlow : sp < n ∧ bV < n ∧ bT < n ∧ bH < n) :
    Calls Tryz.prog 237 #[.pointer (some ⟨sp, 0, none⟩), .pointer (some ⟨fp, 0, none⟩)] w fun e w' => e = .returned (.bool true) ∧ ShIn w' sp lg bV bT bH (m + 1 + xs.length) (s.prepd t xs) ∧ Fr [fp, bT, bH] w w' := by
  have hnum := num64_any n fp (be 8 t ++ holdsB xs) w hf (by simp [be_len])
  have e1 : val ((be 8 t ++ holdsB xs).take 8) = t := by
    rw [List.take_left' (by rw [be_len])]
    exact val_be 8 t (by simpa using ht)
  have e2 : (be 8 t ++ holdsB xs).drop 8 = holdsB xs := List.drop_left' (by rw [be_len])
  rw [e1, e2] at hnum
  have HI : Hid (ShIn w sp lg bV bT bH m s) := h
  have hfl := hf.low
  have i0 : ¬ (t : Int) = 0 := by omega
  have i0b : ((t : Int) == 0) = false := beq_eq_false_iff_ne.2 i0
  clear e1 e2 h hf
  go_enter Tryz.func237, Tryz.ntmps237
  go_wp2_with fail
  refine hnum.mono ?_
  clear hnum
  rintro e w1 ⟨rfl, hf1, hfr1⟩
  have hin1 := HI.out.fr hfr1 (by simp; omega) (by simp; omega) (by simp; omega) (by simp; omega)
  have hsa := state_eq sp lg bV bT bH m t s w1 hin1 ht
  rw [hst] at hsa
  have H1 : Hid (ShIn w1 sp lg bV bT bH m s ∧ FldAt n w1 fp (holdsB xs) ∧ Fr [fp] w w1) := ⟨hin1, hf1, hfr1⟩
  clear hin1 hf1 hfr1 hst
  go_wp2_with fail
  refine hsa.mono ?_
  clear hsa
  rintro e w2 ⟨rfl, rfl⟩
  have c2 := blk_cell H1.out.1.blk 2
  simp at c2
  obtain ⟨w3, hr3, hm3, hg3⟩ := H1.out.1.txns.putRun Tryz.underlying182 (by omega) (k := t) ht (v := (⟨3, 0, 0⟩ : ATxn)) trivial
  change (Instr.mapUpdate _ _ (.int .u64 (t : Int)) (.agg #[.int .i64 3, .int .i64 0, .int .u64 0])).run _ _ = _ at hr3
  have hf3 : Fr [bT] w2 w3 := Fr.of_grown1 hg3
  have H3 : Hid (ShIn w3 sp lg bV bT bH (m + 1) { s with txns := alPut s.txns t ⟨3, 0, 0⟩ } ∧ FldAt n w3 fp (holdsB xs) ∧ Fr [fp, bT, bH] w w3) := by
    refine ⟨H1.out.1.setTxns hf3 hm3 (by omega), H1.out.2.1.fr hf3 (by simp; omega), ?_⟩
    exact (H1.out.2.2.mono (by intro k _ hk; simp at hk ⊢; exact .inl hk)).trans (hf3.mono (by intro k _ hk; simp at hk ⊢; exact .inr (.inl hk)))
  have HS : Hid (∀ x ∈ xs, SmallH x ∧ x.2.way ≤ 2) := hsm
  have HP : Hid (s.prepd t xs = ({ s with txns := alPut s.txns t ⟨3, 0, 0⟩ } : AShard).takes t xs) := rfl
  clear hm3 hg3 hf3 hsm
  go_wp2
  go_loopw [26] (fun _ wr => ∃ ys zs, Hid (xs = ys ++ zs ∧ FldAt n wr fp (holdsB zs) ∧ ShIn wr sp lg bV bT bH (m + 1 + ys.length) (({ s with txns := alPut s.txns t ⟨3, 0, 0⟩ } : AShard).takes t ys) ∧ Fr [fp, bT, bH] w wr)) (fun _ wr => fldLen wr fp)
  case atStart => exact ⟨[], xs, rfl, H3.out.2.1, H3.out.1, H3.out.2.2⟩
  case round =>
    obtain ⟨ys, zs, HX⟩ := hrel
    have hmo := more_any n fp (holdsB zs) wr HX.out.2.1
    cases zs with
    | nil =>
      have hri := right_any n fp (holdsB []) wr HX.out.2.1
      simp only [show decide (0 < (holdsB []).length) = false from rfl, Bool.not_false] at hmo hri
      go_wp2_with fail
      refine hmo.mono ?_
      rintro e w4 ⟨rfl, rfl⟩
      go_wp2_with fail
      refine hri.mono ?_
      rintro e w5 ⟨rfl, rfl⟩
      go_wp2
      go_ret
      have hxy : xs = ys := by rw [HX.out.1]; simp
      exact ⟨rfl, by rw [HP.out, hxy]; exact HX.out.2.2.1, HX.out.2.2.2⟩
    | cons x zs =>
      have hpos : decide (0 < (holdsB (x :: zs)).length) = true := decide_eq_true HX.out.2.1.more
      rw [hpos] at hmo
      have hx := HS.out x (by rw [HX.out.1]; simp)
      obtain ⟨⟨z1, z2, z3⟩, z4⟩ := hx
      have hfw := HX.out.2.1
      have HLEN : Hid (fldLen wr fp = (holdsB (x :: zs)).length) := hfw.fld.len
      have HLT : Hid ((holdsB zs).length < (holdsB (x :: zs)).length) := by show _ < _; rw [holdB_cons]; simp; omega
      rw [holdB_cons] at hfw
      have hn8 := num8_any n fp _ wr hfw (by simp)
      simp only [List.take_succ_cons, List.take_zero, List.drop_succ_cons, List.drop_zero] at hn8
      have ev : val [x.2.way] = x.2.way := by simp [val]
      rw [ev] at hn8
      clear hpos hfw ev
      go_wp2_with fail
      refine hmo.mono ?_
      clear hmo
      rintro e w4 ⟨rfl, rfl⟩
      go_wp2_with fail
      refine hn8.mono ?_
      clear hn8
      rintro e w5 ⟨rfl, hf5, hfr5⟩
      have ht6 := text_fld n fp x.1.size (bytesOf x.1) (x.2.val.size :: bytesOf x.2.val ++ holdsB zs) w5 hf5 (bytesOf_len _) (by omega)
      have H5 : Hid (Fr [fp] w4 w5) := hfr5
      clear hf5 hfr5
      go_wp2_with fail
      refine ht6.mono ?_
      clear ht6
      rintro e w6 ⟨rfl, hf6, hfr6⟩
      have ht7 := text_fld n fp x.2.val.size (bytesOf x.2.val) (holdsB zs) w6 hf6 (bytesOf_len _) (by omega)
      have H6 : Hid (Fr [fp] w4 w6) := H5.out.trans hfr6
      clear hf6 hfr6
      go_wp2_with fail
      refine ht7.mono ?_
      clear ht7
      rintro e w7 ⟨rfl, hf7, hfr7⟩
      rw [strOf_bytes, strOf_bytes]
      have hfr47 : Fr [fp] w4 w7 := H6.out.trans hfr7
      have hin7 := HX.out.2.2.1.fr hfr47 (by simp; omega) (by simp; omega) (by simp; omega) (by simp; omega)
      have H7 : Hid (FldAt n w7 fp (holdsB zs) ∧ Fr [fp, bT, bH] w w7) := ⟨hf7, HX.out.2.2.2.trans (hfr47.mono (by intro k _ hk; simp at hk ⊢; exact .inl hk))⟩
      have hyl : ys.length + 1 ≤ xs.length := by rw [HX.out.1]; simp
      have hta := take_any sp lg bV bT bH (m + 1 + ys.length) t x.1 x.2 _ w7 hin7 ht (by unfold maxLen; omega) (by omega)
      have i2 : ¬ (2 : Int) < (x.2.way : Int) := by omega
      clear hf7 hfr7 hfr47 hin7
      go_wp2_with fail
      refine hta.mono ?_
      clear hta
      rintro e w8 ⟨rfl, hin8, hfr8⟩
      have H8 : Hid (ShIn w8 sp lg bV bT bH (m + 1 + ys.length + 1) ((({ s with txns := alPut s.txns t ⟨3, 0, 0⟩ } : AShard).takes t ys).take t x.1 x.2) ∧ FldAt n w8 fp (holdsB zs) ∧ Fr [fp, bT, bH] w w8) := ⟨hin8, H7.out.1.fr hfr8 (by simp; omega), H7.out.2.trans (hfr8.mono (by intro k _ hk; simp at hk ⊢; exact .inr (.inr hk)))⟩
      clear hin8 hfr8
      go_wp2
      go_roundw
      case rel =>
        have HR : Hid (ShIn w8 sp lg bV bT bH (m + 1 + (ys ++ [x]).length) (({ s with txns := alPut s.txns t ⟨3, 0, 0⟩ } : AShard).takes t (ys ++ [x]))) := by show ShIn _ _ _ _ _ _ _ _; rw [AShard.takes_snoc, List.length_append]; exact H8.out.1
        exact ⟨ys ++ [x], zs, by rw [HX.out.1]; simp, H8.out.2.1, HR.out, H8.out.2.2⟩
      case measure => rw [H8.out.2.1.fld.len, HLEN.out]; exact HLT.out
section
variable (n sp lg bV bT bH m fp t c : Nat) (s : AShard) (w : World)
set_option maxRecDepth 100000 in
set_option maxHeartbeats 2000000 in
theorem readDec_commit (h : ShIn w sp lg bV bT bH m s) (hf : FldAt n w fp (be 8 t)) (ht : t < 18446744073709551616) (hst : (s.txn t).state = 3) (hm : m + c < maxLen) (hc : s.count t ≤ c) (hv : s.Small) (hlow : sp < n ∧ bV < n ∧ bT < n ∧ bH < n) :
    Calls Tryz.prog 238 #[.pointer (some ⟨sp, 0, none⟩), .pointer (some ⟨fp, 0, none⟩), .func (.func 135) #[.pointer (some ⟨sp, 0, none⟩)] #[]] w fun e w' => e = .returned (.bool true) ∧ ∃ s', Committed s s' t ∧ ShIn w' sp lg bV bT bH (m + c) s' ∧ Fr [fp, bV, bT, bH] w w' := by
  have hnum := num64_any n fp (be 8 t) w hf (Nat.le_of_eq (be_len 8 t).symm)
  have e1 : val ((be 8 t).take 8) = t := by rw [List.take_of_length_le (Nat.le_of_eq (be_len 8 t))]; exact val_be 8 t (by simpa using ht)
  have e2 : (be 8 t).drop 8 = [] := List.drop_of_length_le (Nat.le_of_eq (be_len 8 t))
  rw [e1, e2] at hnum
  have HI : Hid (ShIn w sp lg bV bT bH m s ∧ s.count t ≤ c ∧ s.Small) := ⟨h, hc, hv⟩
  have hfl := hf.low
  clear e1 e2 h hf hc hv
  go_enter Tryz.func238, Tryz.ntmps238
  go_wp2_with fail
  refine hnum.mono ?_
  clear hnum
  rintro e w1 ⟨rfl, hf1, hfr1⟩
  have hin1 := HI.out.1.fr hfr1 (by simp; omega) (by simp; omega) (by simp; omega) (by simp; omega)
  have hsa := state_eq sp lg bV bT bH m t s w1 hin1 ht
  rw [hst] at hsa
  have hso : Once1 s.holds := by obtain ⟨_, _, _, h3, _⟩ := hin1.holds; exact h3
  have hap := apply_any sp lg bV bT bH m t c s w1 hin1 ht hm (fun L h1 h2 => by rw [AShard.count_of hso h1 h2]; exact HI.out.2.1) (fun p hp => by have := (HI.out.2.2 p hp).2.1; simp at this; unfold maxLen; omega)
  have H1 : Hid (FldAt n w1 fp [] ∧ Fr [fp] w w1) := ⟨hf1, hfr1⟩
  clear hin1 hf1 hfr1 hst hso
  go_wp2_with fail
  refine hsa.mono ?_
  clear hsa
  rintro e w2 ⟨rfl, rfl⟩
  go_wp2_with fail
  refine hap.mono ?_
  clear hap
  rintro e w3 ⟨rfl, vs, hin3, hlk, hfr3⟩
  have hf3 := H1.out.1.fr hfr3 (by simp; omega)
  have hri := right_any n fp [] w3 hf3
  have H3 : Hid (ShIn w3 sp lg bV bT bH (m + c) (AShard.forget { s with vals := vs } t) ∧ Committed s (AShard.forget { s with vals := vs } t) t ∧ Fr [fp, bV, bT, bH] w w3) := ⟨hin3, ⟨vs, rfl, hlk⟩, (H1.out.2.mono (by intro k _ hk; simp at hk ⊢; exact .inl hk)).trans (hfr3.mono (by intro k _ hk; simp at hk ⊢; exact .inr hk))⟩
  clear hin3 hlk hfr3 hf3
  simp only [List.length_nil, Nat.lt_irrefl, decide_false, Bool.not_false] at hri
  go_wp2_with fail
  refine hri.mono ?_
  rintro e w4 ⟨rfl, rfl⟩
  go_wp2
  go_ret
  exact ⟨rfl, _, H3.out.2.1, H3.out.1, H3.out.2.2⟩
set_option maxRecDepth 100000 in
set_option maxHeartbeats 2000000 in
theorem readDec_abort (h : ShIn w sp lg bV bT bH m s) (hf : FldAt n w fp (be 8 t)) (ht : t < 18446744073709551616) (hst : (s.txn t).state = 3) (hlow : sp < n ∧ bV < n ∧ bT < n ∧ bH < n) :
    Calls Tryz.prog 238 #[.pointer (some ⟨sp, 0, none⟩), .pointer (some ⟨fp, 0, none⟩), .func (.func 131) #[.pointer (some ⟨sp, 0, none⟩)] #[]] w fun e w' => e = .returned (.bool true) ∧ ShIn w' sp lg bV bT bH m (s.forget t) ∧ Fr [fp, bV, bT, bH] w w' := by
  have hnum := num64_any n fp (be 8 t) w hf (Nat.le_of_eq (be_len 8 t).symm)
  have e1 : val ((be 8 t).take 8) = t := by rw [List.take_of_length_le (Nat.le_of_eq (be_len 8 t))]; exact val_be 8 t (by simpa using ht)
  have e2 : (be 8 t).drop 8 = [] := List.drop_of_length_le (Nat.le_of_eq (be_len 8 t))
  rw [e1, e2] at hnum
  have HI : Hid (ShIn w sp lg bV bT bH m s) := h
  have hfl := hf.low
  clear e1 e2 h hf
  go_enter Tryz.func238, Tryz.ntmps238
  go_wp2_with fail
  refine hnum.mono ?_
  clear hnum
  rintro e w1 ⟨rfl, hf1, hfr1⟩
  have hin1 := HI.out.fr hfr1 (by simp; omega) (by simp; omega) (by simp; omega) (by simp; omega)
  have hsa := state_eq sp lg bV bT bH m t s w1 hin1 ht
  rw [hst] at hsa
  have hfo := forget_any sp lg bV bT bH m t s w1 hin1 ht
  have H1 : Hid (FldAt n w1 fp [] ∧ Fr [fp] w w1) := ⟨hf1, hfr1⟩
  clear hin1 hf1 hfr1 hst
  go_wp2_with fail
  refine hsa.mono ?_
  clear hsa
  rintro e w2 ⟨rfl, rfl⟩
  go_wp2_with fail
  refine hfo.mono ?_
  clear hfo
  rintro e w3 ⟨rfl, hin3, hfr3⟩
  have hf3 := H1.out.1.fr hfr3 (by simp; omega)
  have hri := right_any n fp [] w3 hf3
  have H3 : Hid (ShIn w3 sp lg bV bT bH m (s.forget t) ∧ Fr [fp, bV, bT, bH] w w3) := ⟨hin3, (H1.out.2.mono (by intro k _ hk; simp at hk ⊢; exact .inl hk)).trans (hfr3.mono (by intro k _ hk; simp at hk ⊢; exact .inr (.inr hk)))⟩
  clear hin3 hfr3 hf3
  simp only [List.length_nil, Nat.lt_irrefl, decide_false, Bool.not_false] at hri
  go_wp2_with fail
  refine hri.mono ?_
  rintro e w4 ⟨rfl, rfl⟩
  go_wp2
  go_ret
  exact ⟨rfl, H3.out.1, H3.out.2⟩
end
/-- a key and its value in an entry -/
def valB (k v : ByteArray) : List Nat := k.size :: bytesOf k ++ (v.size :: bytesOf v)
set_option maxRecDepth 100000 in
set_option maxHeartbeats 2000000 in
theorem readVal_any (n sp lg bV bT bH m fp : Nat) (s : AShard) (k v : ByteArray) (w : World) (h : ShIn w sp lg bV bT bH m s) (hf : FldAt n w fp (valB k v)) (hk : k.size < 256) (hv : v.size < 256) (hm : m < maxLen) (hlow : sp < n ∧ bV < n ∧ bT < n ∧ bH < n) :
    Calls Tryz.prog 239 #[.pointer (some ⟨sp, 0, none⟩), .pointer (some ⟨fp, 0, none⟩)] w fun e w' => e = .returned (.bool true) ∧ ShIn w' sp lg bV bT bH (m + 1) { s with vals := alPut s.vals k v } ∧ Fr [fp, bV, bT, bH] w w' := by
  have ht1 := text_fld n fp k.size (bytesOf k) (v.size :: bytesOf v) w hf (bytesOf_len _) hk
  have HI : Hid (ShIn w sp lg bV bT bH m s) := h
  have hfl := hf.low
  clear h hf
  go_enter Tryz.func239, Tryz.ntmps239
  go_wp2_with fail
  refine ht1.mono ?_
  clear ht1
  rintro e w1 ⟨rfl, hf1, hfr1⟩
  have ht2 := text_fld n fp v.size (bytesOf v) [] w1 (by rw [List.append_nil]; exact hf1) (bytesOf_len _) hv
  have H1 : Hid (Fr [fp] w w1) := hfr1
  clear hf1 hfr1
  go_wp2_with fail
  refine ht2.mono ?_
  clear ht2
  rintro e w2 ⟨rfl, hf2, hfr2⟩
  rw [strOf_bytes, strOf_bytes]
  have hfr02 : Fr [fp] w w2 := H1.out.trans hfr2
  have hin2 := HI.out.fr hfr02 (by simp; omega) (by simp; omega) (by simp; omega) (by simp; omega)
  have c1 := blk_cell hin2.blk 1
  simp at c1
  obtain ⟨w3, hr3, hm3, hg3⟩ := hin2.vals.putRun Tryz.underlying181 hm (k := k) (show k.size ≤ maxLen by unfold maxLen; omega) (v := v) (show v.size ≤ maxLen by unfold maxLen; omega)
  change (Instr.mapUpdate _ _ (.string k) (.string v)).run _ _ = _ at hr3
  have hf3 : Fr [bV] w2 w3 := Fr.of_grown1 hg3
  have hri := right_any n fp [] w3 (hf2.fr hf3 (by simp; omega))
  simp only [List.length_nil, Nat.lt_irrefl, decide_false, Bool.not_false] at hri
  have H3 : Hid (ShIn w3 sp lg bV bT bH (m + 1) { s with vals := alPut s.vals k v } ∧ Fr [fp, bV, bT, bH] w w3) := ⟨hin2.setVals hf3 hm3 (by omega), (hfr02.mono (by intro j _ hj; simp at hj ⊢; exact .inl hj)).trans (hf3.mono (by intro j _ hj; simp at hj ⊢; exact .inr (.inl hj)))⟩
  clear hin2 hfr02 hfr2 hf2 hm3 hg3 hf3
  go_wp2_with fail
  refine hri.mono ?_
  rintro e w4 ⟨rfl, rfl⟩
  go_wp2
  go_ret
  exact ⟨rfl, H3.out⟩
/-- an entry that can be read, and what stands behind it -/
inductive Entr (K : AShard → Prop) (s : AShard) : Rec → Prop
  | prep (i t : Nat) (xs : List (ByteArray × AGrip)) (ht : t < 18446744073709551616) (h0 : t ≠ 0) (hst : (s.txn t).state = 0) (hsm : ∀ x ∈ xs, SmallH x ∧ x.2.way ≤ 2) (hl : xs.length ≤ 16) (hK : K (s.prepd t xs)) : Entr K s ⟨i, 1, be 8 t ++ holdsB xs⟩
  | comm (i t : Nat) (ht : t < 18446744073709551616) (hst : (s.txn t).state = 3) (hc : s.count t ≤ 16) (hv : s.Small) (hK : ∀ s', Committed s s' t → K s') : Entr K s ⟨i, 2, be 8 t⟩
  | abrt (i t : Nat) (ht : t < 18446744073709551616) (hst : (s.txn t).state = 3) (hK : K (s.forget t)) : Entr K s ⟨i, 3, be 8 t⟩
  | vald (i : Nat) (k v : ByteArray) (hk : k.size < 256) (hv : v.size < 256) (hK : K { s with vals := alPut s.vals k v }) : Entr K s ⟨i, 4, valB k v⟩
set_option maxRecDepth 100000 in
set_option maxHeartbeats 2000000 in
theorem read_ent (n sp lg bV bT bH m fp : Nat) (s : AShard) (r : Rec) (w : World) (h : ShIn w sp lg bV bT bH m s) (hf : FldAt n w fp r.pay) (K : AShard → Prop) (he : Entr K s r) (hm : m + 32 < maxLen) (hlow : sp < n ∧ bV < n ∧ bT < n ∧ bH < n) :
    Calls Tryz.prog 174 #[.pointer (some ⟨sp, 0, none⟩), .int .u8 (r.kind : Int), .pointer (some ⟨fp, 0, none⟩)] w fun e w' => e = .returned (.bool true) ∧ ∃ s', K s' ∧ ShIn w' sp lg bV bT bH (m + 20) s' ∧ Fr [fp, bV, bT, bH] w w' := by
  cases he with
  | prep i t xs ht h0 hst hsm hl hK =>
    have hc := readPrep_any n sp lg bV bT bH m fp t s xs w h hf ht h0 hst hsm hl hm hlow
    clear h hf
    go_enter Tryz.func174, Tryz.ntmps174
    go_wp2_with fail
    refine hc.mono ?_
    clear hc
    rintro e w1 ⟨rfl, hin, hfr⟩
    have H1 : Hid (ShIn w1 sp lg bV bT bH (m + 20) (s.prepd t xs) ∧ Fr [fp, bV, bT, bH] w w1) := ⟨hin.mono (by omega), hfr.mono (by intro k _ hk; simp at hk ⊢; rcases hk with e | e | e <;> simp [e])⟩
    clear hin hfr
    go_wp2
    go_ret
    exact ⟨rfl, _, hK, H1.out⟩
  | comm i t ht hst hc hv hK =>
    have hcc := readDec_commit n sp lg bV bT bH m fp t 16 s w h hf ht hst (by omega) hc hv hlow
    clear h hf
    go_enter Tryz.func174, Tryz.ntmps174
    go_wp2_with fail
    refine hcc.mono ?_
    clear hcc
    rintro e w1 ⟨rfl, s', hco, hin, hfr⟩
    have H1 : Hid (Committed s s' t ∧ ShIn w1 sp lg bV bT bH (m + 20) s' ∧ Fr [fp, bV, bT, bH] w w1) := ⟨hco, hin.mono (by omega), hfr⟩
    clear hin hfr hco
    go_wp2
    go_ret
    exact ⟨rfl, s', hK s' H1.out.1, H1.out.2⟩
  | abrt i t ht hst hK =>
    have hcc := readDec_abort n sp lg bV bT bH m fp t s w h hf ht hst hlow
    clear h hf
    go_enter Tryz.func174, Tryz.ntmps174
    go_wp2_with fail
    refine hcc.mono ?_
    clear hcc
    rintro e w1 ⟨rfl, hin, hfr⟩
    have H1 : Hid (ShIn w1 sp lg bV bT bH (m + 20) (s.forget t) ∧ Fr [fp, bV, bT, bH] w w1) := ⟨hin.mono (by omega), hfr⟩
    clear hin hfr
    go_wp2
    go_ret
    exact ⟨rfl, _, hK, H1.out⟩
  | vald i k v hk hv hK =>
    have hcc := readVal_any n sp lg bV bT bH m fp s k v w h hf hk hv (by omega) hlow
    clear h hf
    go_enter Tryz.func174, Tryz.ntmps174
    go_wp2_with fail
    refine hcc.mono ?_
    clear hcc
    rintro e w1 ⟨rfl, hin, hfr⟩
    have H1 : Hid (ShIn w1 sp lg bV bT bH (m + 20) { s with vals := alPut s.vals k v } ∧ Fr [fp, bV, bT, bH] w w1) := ⟨hin.mono (by omega), hfr⟩
    clear hin hfr
    go_wp2
    go_ret
    exact ⟨rfl, _, hK, H1.out⟩
end Go.Proofs.YtejiankgafjppaaGreatDoor
/- Scan through shardcommit and plain. -/
namespace Go.Proofs.YtejiankgafjppaaGreatDoor
open Go.RowKit
open Sc

/-- what a scan of the bytes l answers -/
def Scanned (l : List Nat) (w : World) (e : Ending) (w' : World) : Prop :=
  ∃ k v', e = .returned (.tuple #[v', .int .i64 ((st k l).2 : Nat)]) ∧ Ended l k ∧ w'.ownsRow w.heap.size 44 3 v' k (recsV (st k l).1) ∧ (k = 0 → v' = .slice none 0 0) ∧ Below w.heap.size w w'

end Go.Proofs.YtejiankgafjppaaGreatDoor
/- sameRecords; what both scans answer, compared. -/
namespace Go.Proofs.YtejiankgafjppaaGreatDoor
open Go.RowKit
open Sc

theorem recsV_at : ∀ (rs : List Rec) (i : Nat) (h : i < rs.length), (recsV rs)[i * 3]? = some (.int .u64 (rs[i].lsn : Int)) ∧ (recsV rs)[i * 3 + 1]? = some (.int .u8 (rs[i].kind : Int)) ∧ (recsV rs)[i * 3 + 2]? = some (.string (str rs[i].pay))
  | [], i, h => absurd h (Nat.not_lt_zero _)
  | r :: rs, 0, _ => ⟨rfl, rfl, rfl⟩
  | r :: rs, i + 1, h => by
    have ih := recsV_at rs i (by simpa using h)
    have e : ∀ j, (recsV (r :: rs))[(i + 1) * 3 + j]? = (recsV rs)[i * 3 + j]? := fun j => by
      show (recCells r ++ recsV rs)[(i + 1) * 3 + j]? = _
      rw [List.getElem?_append_right (by simp [recCells]; omega)]
      congr 1
      simp [recCells]; omega
    exact ⟨(e 0).trans ih.1, (e 1).trans ih.2.1, (e 2).trans ih.2.2⟩
/-- the records rs, as a slice value holds them -/
def RecsAt (w : World) (v : Value) (rs : List Rec) : Prop :=
  ∃ ao cap, v = .slice ao rs.length cap ∧ ∀ i (h : i < rs.length), ∃ g, ao = some ⟨g, 0, none⟩ ∧ w.cell? ⟨g, i * 3, none⟩ = some (.int .u64 (rs[i].lsn : Int)) ∧ w.cell? ⟨g, i * 3 + 1, none⟩ = some (.int .u8 (rs[i].kind : Int)) ∧ w.cell? ⟨g, i * 3 + 2, none⟩ = some (.string (str rs[i].pay))
theorem recsAt_own {w : World} {base n : Nat} {v : Value} {rs : List Rec} (h : w.ownsRow base 44 3 v n (recsV rs)) : RecsAt w v rs := by
  have hl : rs.length = n := by have := h.1; rw [recsV_len] at this; omega
  rcases h.2 with ⟨rfl, h0⟩ | ⟨g, cap, cur, rfl, hb, hg, rest⟩
  · exact ⟨none, 0, by rw [hl, h0], fun i hi => by omega⟩
  · refine ⟨_, cap, by rw [hl], fun i hi => ⟨g, rfl, ?_⟩⟩
    have hc : ∀ j u, (recsV rs)[j]? = some u → w.cell? ⟨g, j, none⟩ = some u := fun j u hu => by
      have := h.cells (g := g) rfl j u hu
      simpa [Addr.add_lit] using this
    obtain ⟨h1, h2, h3⟩ := recsV_at rs i hi
    exact ⟨hc _ _ h1, hc _ _ h2, hc _ _ h3⟩

end Go.Proofs.YtejiankgafjppaaGreatDoor
/- A DISK THAT IS WELL, and a log over it: the mathematics. -/
namespace Go.Proofs.YtejiankgafjppaaGreatDoor
open Go.RowKit
open Sc

theorem dec_ne (u : Nat) : Lib.decDigits u ≠ [] := by
  rw [Lib.decDigits]; split <;> simp
theorem dig_inj {a b : Nat} (ha : a < 10) (hb : b < 10) (h : UInt8.ofNat (48 + a) = UInt8.ofNat (48 + b)) : a = b := by
  have h2 := congrArg UInt8.toNat h
  simp at h2
  omega
theorem dec_inj : ∀ (n a b : Nat), a < n → Lib.decDigits a = Lib.decDigits b → a = b := by
  intro n
  induction n with
  | zero => intro a b h; omega
  | succ n ih =>
    intro a b hn h
    rw [Lib.decDigits, Lib.decDigits.eq_def b] at h
    split at h
    · split at h
      · rename_i ha hb
        simp only [List.cons.injEq, and_true] at h
        exact dig_inj ha hb h
      · have := congrArg List.length h
        have h3 : 0 < (Lib.decDigits (b / 10)).length := List.length_pos_iff.2 (dec_ne _)
        rw [List.length_append] at this; simp only [List.length_cons, List.length_nil] at this; omega
    · split at h
      · have := congrArg List.length h
        have h3 : 0 < (Lib.decDigits (a / 10)).length := List.length_pos_iff.2 (dec_ne _)
        rw [List.length_append] at this; simp only [List.length_cons, List.length_nil] at this; omega
      · rename_i ha hb
        obtain ⟨h1, h2⟩ := List.append_inj' h rfl
        simp only [List.cons.injEq, and_true] at h2
        have h3 := dig_inj (by omega) (by omega) h2
        have h4 := ih (a / 10) (b / 10) (by omega) h1
        omega
theorem segName_data (u : Nat) : (segName u).data.toList = [115, 101, 103, 109, 101, 110, 116, 45] ++ Lib.decDigits u := by
  unfold segName
  rw [ByteArray.data_append]
  simp
theorem segName_inj {a b : Nat} (h : segName a = segName b) : a = b := by
  have h2 := congrArg (fun x : ByteArray => x.data.toList) h
  simp only [segName_data] at h2
  exact dec_inj (a + 1) a b (by omega) (List.append_cancel_left h2)
theorem segName_mark (u : Nat) : segName u ≠ markNm ∧ segName u ≠ markNew := by
  constructor
  · intro h
    have h2 := congrArg (fun x : ByteArray => x.data.toList) h
    simp only [segName_data] at h2
    simp [markNm] at h2
  · intro h
    have h2 := congrArg (fun x : ByteArray => x.data.toList) h
    simp only [segName_data] at h2
    simp [markNew] at h2

/-- a disk that is well, so many calls behind its beginning -/
structure ADisk.Well (d : ADisk) (c : Nat) : Prop where
  up : d.down = false
  left : -1 - (c : Int) ≤ d.left ∧ d.left < 0
  full : -1 - (c : Int) ≤ d.full ∧ d.full < 0
theorem ADisk.Well.mono {d : ADisk} {c c' : Nat} (h : d.Well c) (hc : c ≤ c') : d.Well c' :=
  ⟨h.up, ⟨by have := h.left.1; omega, h.left.2⟩, ⟨by have := h.full.1; omega, h.full.2⟩⟩
theorem writesW {d : ADisk} {c : Nat} (h : d.Well c) (hc : c < 1099511627776) : d.writes.2 = 0 ∧ d.writes.1.Well (c + 1) ∧ d.writes.1.now = d.now ∧ d.writes.1.pending = d.pending := by
  have h1 := h.left
  have h2 := h.full
  have e := wr_ok (d := d) (by rw [h.up]; simp; omega) (by omega)
  have e1 : wrap64 (d.left - 1) = d.left - 1 := by unfold wrap64; omega
  have e2 : wrap64 (d.full - 1) = d.full - 1 := by unfold wrap64; omega
  rw [e1, e2] at e
  rw [e]
  exact ⟨rfl, ⟨h.up, by simp; omega, by simp; omega⟩, rfl, rfl⟩
theorem syncW {d : ADisk} {c : Nat} (h : d.Well c) (hc : c < 1099511627776) : d.sync.2 = 0 ∧ d.sync.1.Well (c + 1) ∧ d.sync.1.now = d.now := by
  obtain ⟨a1, a2, a3, a4⟩ := writesW h hc
  rw [sync_ok a1]
  exact ⟨rfl, ⟨a2.up, a2.left, a2.full⟩, a3⟩
theorem tellW {d : ADisk} {c : Nat} {o : AOp} (h : d.Well c) (hc : c < 1099511627776) (h1 : 2 < o.kind → d.now o.name ≠ none) (h2 : ¬ (o.kind = 4 ∧ o.name = o.to)) :
    (d.tell o).2 = 0 ∧ (d.tell o).1.Well (c + 1) ∧ (d.tell o).1.now = doOp d.now o := by
  obtain ⟨a1, a2, a3, a4⟩ := writesW h hc
  have e : d.tell o = ({ d.writes.1 with now := doOp d.writes.1.now o, pending := d.writes.1.pending ++ [o] }, 0) := by
    unfold ADisk.tell
    simp only
    rw [a1, if_neg (by omega), if_neg (by omega), if_neg (by rw [a3]; rintro ⟨x, y⟩; exact h1 y x), if_neg h2]
  rw [e]
  refine ⟨rfl, ⟨a2.up, a2.left, a2.full⟩, ?_⟩
  simp only
  rw [a3]
/-! ### the segments -/
def starts : Nat → List (List Rec) → List Nat
  | _, [] => []
  | n, c :: cs => n :: starts (n + c.length) cs
theorem starts_len : ∀ (cs : List (List Rec)) (n : Nat), (starts n cs).length = cs.length
  | [], _ => rfl
  | c :: cs, n => by simp [starts, starts_len cs]
theorem starts_snoc : ∀ (cs : List (List Rec)) (n : Nat) (c : List Rec), starts n (cs ++ [c]) = starts n cs ++ [n + cs.flatten.length]
  | [], _, _ => by simp [starts]
  | b :: cs, n, c => by
    simp only [List.cons_append, starts, starts_snoc cs]
    simp; omega
theorem starts_set : ∀ (cs : List (List Rec)) (n : Nat) (a b : List Rec), starts n (cs ++ [a]) = starts n (cs ++ [b]) := by
  intro cs n a b; rw [starts_snoc, starts_snoc]
/-- the bytes of records -/
def bytesR : List Rec → Nat
  | [] => 0
  | r :: l => 15 + r.pay.length + bytesR l
theorem bytesR_app (a b : List Rec) : bytesR (a ++ b) = bytesR a + bytesR b := by
  induction a with
  | nil => simp [bytesR]
  | cons r a ih => simp [bytesR, ih]; omega
end Go.Proofs.YtejiankgafjppaaGreatDoor
/- A LOG OVER A DISK THAT IS WELL: what it has, what its calls leave. -/
namespace Go.Proofs.YtejiankgafjppaaGreatDoor
open Go.RowKit
open Sc

/-- the log is as it must be: the records below fst + 1 are gone, the others lie in the segments cs -/
structure LogOk (l : ALog) (d : ADisk) (fst : Nat) (cs : List (List Rec)) : Prop where
  fail : l.failed = 0
  segs : l.segs = starts (fst + 1) cs
  recs : l.recs = cs.flatten
  next : l.next = fst + cs.flatten.length + 1
  nums : ∀ (k : Nat) (r : Rec), cs.flatten[k]? = some r → r.lsn = fst + 1 + k
  ne : ∀ c ∈ cs, c ≠ []
  size : ∀ c ∈ cs, bytesR c < 870
  none : cs = [] → l.filled = 600
  fill : ∀ ds c, cs = ds ++ [c] → l.filled = bytesR c
  files : ∀ s ∈ l.segs, d.now (segName s) ≠ Option.none
section
variable {l : ALog} {d : ADisk} {fst c : Nat} {cs : List (List Rec)}
theorem LogOk.syncs (_h : LogOk l d fst cs) (hw : d.Well c) (hc : c < 1099511627776) : l.sync d = ({ l with durable := l.next }, d.sync.1, 0) := by
  unfold ALog.sync
  rw [if_pos (syncW hw hc).1]
theorem LogOk.synced (h : LogOk l d fst cs) (hw : d.Well c) (hc : c < 1099511627776) (u : Nat) : LogOk { l with durable := u } d.sync.1 fst cs where
  fail := h.fail
  segs := h.segs
  recs := h.recs
  next := h.next
  nums := h.nums
  ne := h.ne
  size := h.size
  none := h.none
  fill := h.fill
  files := fun s hs => by rw [(syncW hw hc).2.2]; exact h.files s hs
theorem LogOk.wrS (h : LogOk l d fst cs) (hw : d.Well c) (hc : c < 1099511627776) : l.wr d (l.sync d) = ({ l with durable := l.next }, d.sync.1, 0) := by
  unfold ALog.wr
  rw [if_pos h.fail, h.syncs hw hc]
  simp only [h.fail.symm]
theorem LogOk.last (h : LogOk l d fst cs) (hf : l.filled < 600) : ∃ ds cl, cs = ds ++ [cl] := by
  rcases List.eq_nil_or_concat cs with e | ⟨ds, cl, e⟩
  · have := h.none e; omega
  · exact ⟨ds, cl, by simpa using e⟩
theorem LogOk.segsNe (h : LogOk l d fst cs) (hf : l.filled < 600) : l.segs ≠ [] := by
  obtain ⟨ds, cl, rfl⟩ := h.last hf
  rw [h.segs, starts_snoc]
  simp
theorem flat_snoc (cs : List (List Rec)) (a : List Rec) : (cs ++ [a]).flatten = cs.flatten ++ a := by simp
theorem nums_snoc {L : List Rec} {f : Nat} (h : ∀ (k : Nat) (r : Rec), L[k]? = some r → r.lsn = f + k) (x : Rec) (hx : x.lsn = f + L.length) : ∀ (k : Nat) (r : Rec), (L ++ [x])[k]? = some r → r.lsn = f + k := by
  intro k r hr
  rw [List.getElem?_append] at hr
  split at hr
  · exact h k r hr
  · rename_i hk
    have : k - L.length = 0 := by
      have := (List.getElem?_eq_some_iff.1 hr).1
      simp at this; omega
    rw [this] at hr
    simp at hr
    subst hr
    omega
theorem file_has {m : Files} {nm t : ByteArray} {s : Nat} (h : m (segName s) ≠ none) : doOp m ⟨2, nm, ByteArray.empty, t⟩ (segName s) ≠ none := by
  show (m.set nm (some _)) (segName s) ≠ none
  unfold Files.set
  split
  · simp
  · exact h
theorem file_new {m : Files} {t : ByteArray} {s : Nat} : doOp m ⟨2, segName s, ByteArray.empty, t⟩ (segName s) ≠ none := by
  show (m.set (segName s) (some _)) (segName s) ≠ none
  rw [Files.set_same]; simp
/-- what an Append leaves -/
structure AppOk (l : ALog) (d : ADisk) (fst : Nat) (cs : List (List Rec)) (c : Nat) (x : Rec) (r : ALog × ADisk × Nat × Nat) : Prop where
  ret : r.2.2.1 = l.next ∧ r.2.2.2 = 0
  log : ∃ cs', LogOk r.1 r.2.1 fst cs' ∧ cs'.flatten = cs.flatten ++ [x]
  well : r.2.1.Well (c + 2)
  two : ∀ s, r.1.segs[1]? = some s → l.segs[1]? = some s ∨ s = l.next
  sum : 600 * r.1.segs.length + r.1.filled ≤ 600 * l.segs.length + l.filled + (15 + x.pay.length)
theorem LogOk.append (h : LogOk l d fst cs) (hw : d.Well c) (hc : c + 2 < 1099511627776) (kind : Nat) (s : ByteArray) (hs : s.size ≤ 255) :
    AppOk l d fst cs c ⟨l.next, kind, bytesOf s⟩ (l.append d kind s) := by
  obtain ⟨by_, hby⟩ : ∃ b, b = recBytes l.next kind (bytesOf s) := ⟨_, rfl⟩
  have hlen := bytesOf_len s
  by_cases hf : l.filled < 600
  · obtain ⟨ds, cl, rfl⟩ := h.last hf
    have hseg : l.segs = starts (fst + 1) ds ++ [fst + 1 + ds.flatten.length] := by rw [h.segs, starts_snoc]
    have hlast : l.segs.getLastD 0 = fst + 1 + ds.flatten.length := by rw [hseg]; simp
    obtain ⟨a1, a2, a3⟩ := tellW (d := d) (o := ⟨2, segName (l.segs.getLastD 0), ByteArray.empty, str by_⟩) hw (by omega) (by simp) (by simp)
    have hroom : l.room d = (l, d, 0) := by unfold ALog.room; rw [if_pos hf]
    have hput : l.put d by_ = (l, (d.tell ⟨2, segName (l.segs.getLastD 0), ByteArray.empty, str by_⟩).1, 0) := by
      unfold ALog.put; rw [hroom]; simp only [if_true]; rw [a1]
    have hwr : l.wr d (l.put d by_) = (l, (d.tell ⟨2, segName (l.segs.getLastD 0), ByteArray.empty, str by_⟩).1, 0) := by
      unfold ALog.wr; rw [if_pos h.fail, hput]; simp only [h.fail.symm]
    have happ : l.append d kind s = ({ l with filled := l.filled + (15 + s.size), recs := l.recs ++ [⟨l.next, kind, bytesOf s⟩], next := l.next + 1 }, (d.tell ⟨2, segName (l.segs.getLastD 0), ByteArray.empty, str by_⟩).1, l.next, 0) := by
      unfold ALog.append; rw [if_neg (by omega), ← hby, hwr]; simp
    rw [happ]
    have hfill := h.fill ds cl rfl
    refine { ret := ⟨rfl, rfl⟩, log := ⟨ds ++ [cl ++ [⟨l.next, kind, bytesOf s⟩]], ?_, by rw [flat_snoc, flat_snoc, List.append_assoc]⟩, well := a2.mono (by omega), two := fun s hs => .inl hs, sum := by simp; omega }
    refine { fail := h.fail, segs := ?_, recs := ?_, next := ?_, nums := ?_, ne := ?_, size := ?_, none := by simp, fill := ?_, files := ?_ }
    · show l.segs = _; rw [h.segs, starts_set]
    · show l.recs ++ _ = _; rw [h.recs, flat_snoc, flat_snoc, List.append_assoc]
    · show l.next + 1 = _; rw [h.next, flat_snoc, flat_snoc]; simp; omega
    · rw [flat_snoc, ← List.append_assoc, ← flat_snoc]
      exact nums_snoc h.nums _ (by show l.next = _; rw [h.next]; omega)
    · intro b hb
      rcases List.mem_append.1 hb with hb | hb
      · exact h.ne b (by simp [hb])
      · simp at hb; subst hb; simp
    · intro b hb
      rcases List.mem_append.1 hb with hb | hb
      · exact h.size b (by simp [hb])
      · simp at hb; subst hb; rw [bytesR_app]; simp [bytesR]; omega
    · intro es b he
      obtain ⟨_, e2⟩ := List.append_inj' he rfl
      simp only [List.cons.injEq, and_true] at e2
      subst e2
      show l.filled + _ = _
      rw [bytesR_app, hfill]; simp [bytesR]; omega
    · intro x hx
      show (d.tell _).1.now _ ≠ _
      rw [a3]
      exact file_has (h.files x hx)
  · have hs1 := h.syncs hw (by omega)
    obtain ⟨s1, s2, s3⟩ := syncW hw (by omega)
    obtain ⟨a1, a2, a3⟩ := tellW (d := d.sync.1) (o := ⟨2, segName l.next, ByteArray.empty, str by_⟩) s2 (by omega) (by simp) (by simp)
    have hroom : l.room d = ({ l with durable := l.next, segs := l.segs ++ [l.next], filled := 0 }, d.sync.1, 0) := by
      unfold ALog.room; rw [if_neg hf, hs1]; simp
    have hput : l.put d by_ = ({ l with durable := l.next, segs := l.segs ++ [l.next], filled := 0 }, (d.sync.1.tell ⟨2, segName l.next, ByteArray.empty, str by_⟩).1, 0) := by
      unfold ALog.put; rw [hroom]; simp only [if_true]
      rw [show (l.segs ++ [l.next]).getLastD 0 = l.next by simp, a1]
    have hwr : l.wr d (l.put d by_) = ({ l with durable := l.next, segs := l.segs ++ [l.next], filled := 0 }, (d.sync.1.tell ⟨2, segName l.next, ByteArray.empty, str by_⟩).1, 0) := by
      unfold ALog.wr; rw [if_pos h.fail, hput]; simp only [h.fail.symm]
    have happ : l.append d kind s = ({ l with durable := l.next, segs := l.segs ++ [l.next], filled := 0 + (15 + s.size), recs := l.recs ++ [⟨l.next, kind, bytesOf s⟩], next := l.next + 1 }, (d.sync.1.tell ⟨2, segName l.next, ByteArray.empty, str by_⟩).1, l.next, 0) := by
      unfold ALog.append; rw [if_neg (by omega), ← hby, hwr]; simp
    rw [happ]
    refine { ret := ⟨rfl, rfl⟩, log := ⟨cs ++ [[⟨l.next, kind, bytesOf s⟩]], ?_, by rw [flat_snoc]⟩, well := a2, two := fun x hx => ?_, sum := by simp; omega }
    · refine { fail := h.fail, segs := ?_, recs := ?_, next := ?_, nums := ?_, ne := ?_, size := ?_, none := by simp, fill := ?_, files := ?_ }
      · show l.segs ++ [l.next] = _; rw [h.segs, starts_snoc, h.next]; congr 2; omega
      · show l.recs ++ _ = _; rw [h.recs, flat_snoc]
      · show l.next + 1 = _; rw [h.next, flat_snoc]; simp; omega
      · rw [flat_snoc]
        exact nums_snoc h.nums _ (by show l.next = _; rw [h.next]; omega)
      · intro b hb
        rcases List.mem_append.1 hb with hb | hb
        · exact h.ne b hb
        · simp at hb; subst hb; simp
      · intro b hb
        rcases List.mem_append.1 hb with hb | hb
        · exact h.size b hb
        · simp at hb; subst hb; simp [bytesR]; omega
      · intro es b he
        obtain ⟨_, e2⟩ := List.append_inj' he rfl
        simp only [List.cons.injEq, and_true] at e2
        subst e2
        show 0 + _ = _
        simp [bytesR]; omega
      · intro x hx
        show (d.sync.1.tell _).1.now _ ≠ _
        rw [a3]
        rcases List.mem_append.1 hx with hx | hx
        · exact file_has (by rw [s3]; exact h.files x hx)
        · simp at hx; subst hx; exact file_new
    · change (l.segs ++ [l.next])[1]? = some x at hx
      rw [List.getElem?_append] at hx
      split at hx
      · exact .inl hx
      · right
        have := List.mem_of_getElem? hx
        simpa using this
/-- what a Cut leaves -/
structure CutOk (l : ALog) (d : ADisk) (fst : Nat) (cs : List (List Rec)) (c low : Nat) (r : ALog × ADisk × Nat) : Prop where
  ret : r.2.2 = 0
  log : ∃ fst' cs', LogOk r.1 r.2.1 fst' cs' ∧ fst ≤ fst' ∧ cs'.flatten = cs.flatten.drop (fst' - fst) ∧ (fst' = fst ∨ fst' + 1 ≤ low) ∧ fst' + cs'.flatten.length = fst + cs.flatten.length
  well : r.2.1.Well (c + 6 + l.segs.length)
  two : ∀ x, r.1.segs[1]? = some x → low < x ∧ ∃ y, l.segs[1]? = some y ∧ y ≤ x
  sum : 600 * r.1.segs.length + r.1.filled ≤ 600 * l.segs.length + l.filled
end
end Go.Proofs.YtejiankgafjppaaGreatDoor
/- THE BOOK, the mathematics: a log as it must stand, over a disk that is well. -/
namespace Go.Proofs.YtejiankgafjppaaGreatDoor
open Go.RowKit
open Sc

structure ABook where
  all : List Rec
  forced : Nat
  low : Nat
  must : Nat
  tries : Nat
/-- the log is as the book says: fst records are gone, cs are the segments; t bytes were appended -/
structure BookOk (b : ABook) (l : ALog) (d : ADisk) (fst : Nat) (cs : List (List Rec)) (t : Nat) : Prop where
  log : LogOk l d fst cs
  up : d.down = false
  le : fst ≤ b.all.length
  all : b.all.drop fst = cs.flatten
  low : fst + 1 ≤ b.low ∨ fst = 0
  must : b.must ≤ b.all.length + 1
  two : ∀ s, l.segs[1]? = some s → b.must ≤ s
  sum : 600 * l.segs.length + l.filled ≤ t + 600
section
variable {b : ABook} {l : ALog} {d : ADisk} {fst t : Nat} {cs : List (List Rec)}
/-- the book behind a Cut -/
def ABook.cut (b : ABook) (top : Nat) : ABook := ⟨b.all, b.all.length, if b.low < top then top else b.low, if b.must < top then top else b.must, if b.tries < top then top else b.tries⟩
end
end Go.Proofs.YtejiankgafjppaaGreatDoor
/- sameRecords, the second list a piece of a longer one. -/
namespace Go.Proofs.YtejiankgafjppaaGreatDoor
open Go.RowKit
open Sc

/-- the records rs, as a slice value holds them, from the cell o on -/
def RecsAtO (w : World) (v : Value) (o : Nat) (rs : List Rec) : Prop :=
  ∃ ao cap, v = .slice ao rs.length cap ∧ ∀ i (h : i < rs.length), ∃ g, ao = some ⟨g, o, none⟩ ∧ w.cell? ⟨g, o + i * 3, none⟩ = some (.int .u64 (rs[i].lsn : Int)) ∧ w.cell? ⟨g, o + i * 3 + 1, none⟩ = some (.int .u8 (rs[i].kind : Int)) ∧ w.cell? ⟨g, o + i * 3 + 2, none⟩ = some (.string (str rs[i].pay))
theorem recsSl_own {w : World} {base n : Nat} {v : Value} {rs : List Rec} (h : w.ownsRow base 44 3 v n (recsV rs)) : RecsSl w.heap.size w v rs := by
  have hl : rs.length = n := by have := h.1; rw [recsV_len] at this; omega
  have hlt := h.lt
  obtain ⟨ao, cap, e, H⟩ := recsAt_own h
  rcases h.2 with ⟨e1, h0⟩ | ⟨g, cap', cur, e1, hb, hg, rest⟩
  · left
    exact ⟨e1, List.eq_nil_of_length_eq_zero (by omega)⟩
  · right
    refine ⟨g, cap', by rw [e1, hl], (hlt g (by rw [e1]; rfl)).2, fun k r hk => ?_⟩
    obtain ⟨hk1, hk2⟩ := List.getElem?_eq_some_iff.1 hk
    obtain ⟨g2, e2, a1, a2, a3⟩ := H k hk1
    rw [e1] at e
    cases e
    cases e2
    rw [hk2] at a1 a2 a3
    exact ⟨a1, a2, a3⟩
end Go.Proofs.YtejiankgafjppaaGreatDoor
