import Derived.Test.YtbdhmkfdofkloaaGreatDoorC37
import Derived.Deep.CutRange
import Derived.BigQuiet
/- THE LAW ON WHAT IS KEPT: the walk. -/
namespace Go.Proofs.YtbdhmkfdofkloaaGreatDoor
open Go.RowKit Go.Maps
open Sc

set_option maxHeartbeats 400000 in
theorem kpick (c : Int) (n : Nat) (w : World) (hc1 : -9223372036854775808 ≤ c) (hc2 : c ≤ 9223372036854775807) (hn : 0 < n) (hn2 : n ≤ 1099511627776) :
    Calls Tryz.prog 11 #[.int .i64 c, .int .i64 n] w fun e w' => ∃ r : Nat, r < n ∧ e = .returned (.int .i64 r) ∧ w' = w := by
  have hn0 : ¬ (n : Int) = 0 := by omega
  by_cases h : c < 0
  · go_enter Tryz.func11, Tryz.ntmps11
    go_wp2
    go_ret
    have e : -(c + 1).tmod (n : Int) = (-(c + 1)) % (n : Int) := by
      rw [← Int.neg_tmod, Int.tmod_eq_emod_of_nonneg (by omega)]
    have h1 := Int.emod_nonneg (-(c + 1)) hn0
    have h2 := Int.emod_lt_of_pos (-(c + 1)) (show (0 : Int) < (n : Int) by omega)
    refine ⟨((-(c + 1)) % (n : Int)).toNat, by omega, ret_nat ?_, rfl⟩
    rw [e]; omega
  · go_enter Tryz.func11, Tryz.ntmps11
    go_wp2
    go_ret
    have h1 := Int.emod_nonneg c hn0
    have h2 := Int.emod_lt_of_pos c (show (0 : Int) < (n : Int) by omega)
    exact ⟨(c % (n : Int)).toNat, by omega, ret_nat (by omega), rfl⟩
/-- n texts, handed in -/
def TxtsIn (w : World) (v : Value) (n : Nat) (S : Nat → ByteArray) : Prop :=
  ∃ ao cap, v = .slice ao n cap ∧ ∀ i, i < n → ∃ b off, ao = some ⟨b, off, none⟩ ∧ b < w.heap.size ∧ w.cell? ⟨b, off + i, none⟩ = some (.string (S i))
/-- n numbers, handed in -/
def NumsIn (w : World) (v : Value) (n : Nat) (S : Nat → Int) : Prop :=
  ∃ ao cap, v = .slice ao n cap ∧ ∀ i, i < n → ∃ b off, ao = some ⟨b, off, none⟩ ∧ b < w.heap.size ∧ w.cell? ⟨b, off + i, none⟩ = some (.int .i64 (S i)) ∧ -9223372036854775808 ≤ S i ∧ S i ≤ 9223372036854775807
section
variable {w0 wr w' : World} {B hp lp p bD bN bw n f : Nat} {va va' : Value} {A A' R : List ByteArray} {l : ALog} {d : ADisk} {ss : List Sg} {c1 : List Rec}
/-- nothing is written but a row of texts -/
theorem KW.rowed {S : List Nat} (h : KW w0 wr B hp lp p bD bN bw n va A R f l d ss c1) (hf : Fr S wr w') (hS : Wide wr S) (hb : ∀ q ∈ S, B ≤ q) (hr : w'.ownsRow B 9 1 va' A'.length (namesV A')) : KW w0 w' B hp lp p bD bN bw n va' A' R f l d ss c1 := by
  have hfl : w'.heap[bw]? = some (fallO (-1) (-1) 0 0) := by
    refine (hf.block bw (Array.getElem?_eq_some_iff.1 h.mem.fall).1 (fun hm => ?_)).trans h.mem.fall
    obtain ⟨c, e, _⟩ := hS bw hm (Array.getElem?_eq_some_iff.1 h.mem.fall).1
    rw [h.mem.fall] at e; cases e
  exact { h with mem := ⟨hfl, hr, h.mem.bel.trans (hf.below h.mem.bs hb), h.mem.bh, h.mem.bb, Nat.le_trans h.mem.bs hf.size⟩, host := h.host.wide hf hS }
theorem KW.fresh (h : KW w0 wr B hp lp p bD bN bw n va A R f l d ss c1) (hf : Fr [] wr w') : KW w0 w' B hp lp p bD bN bw n va A R f l d ss c1 :=
  h.rowed hf (by intro q hq; simp at hq) (by simp) (ownsRow_fr h.mem.row hf (by simp))
theorem KW.glob (h : KW w0 wr B hp lp p bD bN bw n va A R f l d ss c1) (hB : 3 ≤ B) (hg : Met w0 ∧ Pows w0 ∧ ErrS w0) : Met wr ∧ Pows wr ∧ ErrS wr :=
  ⟨hg.1.below h.mem.bel (by omega), hg.2.1.of_block (h.mem.bel.block 1 (by omega)), hg.2.2.below h.mem.bel (by omega)⟩
end
theorem KC.glob {w0 wr : World} {B hp p bD bN bw n f : Nat} {va : Value} {A R : List ByteArray} {F : Files} {ss : List Sg} (h : KC w0 wr B hp p bD bN bw n va A R f F ss) (hB : 3 ≤ B) (hg : Met w0 ∧ Pows w0 ∧ ErrS w0) : Met wr ∧ Pows wr ∧ ErrS wr :=
  ⟨hg.1.below h.mem.bel (by omega), hg.2.1.of_block (h.mem.bel.block 1 (by omega)), hg.2.2.below h.mem.bel (by omega)⟩
theorem KW.more {w0 wr : World} {B hp lp p bD bN bw n n' f : Nat} {va : Value} {A R : List ByteArray} {l : ALog} {d : ADisk} {ss : List Sg} {c1 : List Rec} (h : KW w0 wr B hp lp p bD bN bw n va A R f l d ss c1) (hn : n ≤ n') (hn' : n' ≤ 67108864) : KW w0 wr B hp lp p bD bN bw n' va A R f l d ss c1 := by
  obtain ⟨hh, pv, sv, rv, nD, nN, hl⟩ := h.host
  exact { h with host := ⟨hh, pv, sv, rv, nD, nN, hl.mores hn hn'⟩ }
theorem str_bytesOf' (s : ByteArray) : str (bytesOf s) = s := by
  apply ByteArray.ext
  rw [str_data]
  unfold bytesOf
  apply Array.ext'
  simp [List.map_map, Function.comp_def]
/-- what the host says that it holds -/
def RowsAt (w : World) (ao : Option Addr) (R : List ByteArray) : Prop :=
  ∀ (k : Nat) (x : ByteArray), R[k]? = some x → ∃ g, ao = some ⟨g, 0, none⟩ ∧ w.cell? ⟨g, k * 3, none⟩ = some (.int .u64 ((k + 1 : Nat) : Int)) ∧ w.cell? ⟨g, k * 3 + 1, none⟩ = some (.int .u8 3) ∧ w.cell? ⟨g, k * 3 + 2, none⟩ = some (.string x)
theorem kRecords {w0 wr : World} {B hp lp p bD bN bw n f : Nat} {va : Value} {A R : List ByteArray} {l : ALog} {d : ADisk} {ss : List Sg} {c1 : List Rec} (h : KW w0 wr B hp lp p bD bN bw n va A R f l d ss c1) (hR : R.length ≤ 1000) :
    Calls Tryz.prog 13 #[.pointer (some ⟨hp, 0, none⟩), .int .i64 0] wr fun e w' => ∃ ao cap, e = .returned (.tuple #[.slice ao R.length cap, .bool true]) ∧ RowsAt w' ao R ∧ KW w0 w' B hp lp p bD bN bw n va A R f l d ss c1 := by
  obtain ⟨hh, pv, sv, rv, nD, nN, hl⟩ := h.host
  have h4 := blk_cell hh 4
  have l3 := blk_cell hl.blk 3
  simp at h4 l3
  have hrr := hl.recs
  have hrecs : l.recs = recF 1 R := by rw [h.lg.recs, h.recs]
  rw [hrecs] at hrr
  refine (records_any hp lp rv (recF 1 R) (by rw [recF_len]; omega) wr h4 l3 (Array.getElem?_eq_some_iff.1 hl.blk).1 (recsSl_own hrr)).mono ?_
  rintro e w' ⟨v, rfl, hv, hb⟩
  obtain ⟨ao, cv, rfl, hc⟩ := recsAt_own hv
  refine ⟨ao, cv, by rw [recF_len], fun k x hk => ?_, h.fresh (Fr.of_below hb [])⟩
  have hlt : k < (recF 1 R).length := by rw [recF_len]; exact (List.getElem?_eq_some_iff.1 hk).1
  obtain ⟨g, e, a1, a2, a3⟩ := hc k hlt
  have hat := recF_at R 1 k x hk
  rw [List.getElem?_eq_getElem hlt] at hat
  have hat := Option.some.inj hat
  rw [hat] at a1 a2 a3
  refine ⟨g, e, by rw [a1]; simp; omega, by rw [a2]; rfl, by rw [a3]; simp only []; rw [str_bytesOf']⟩
theorem stands_none : Stands (fun _ => none) 1 [] where
  mark := .inl ⟨rfl, rfl⟩
  pos := Nat.le_refl _
  ne := by simp
  files := by intro k s h; simp at h
  junk := by simp
  size := by simp
  nums := by intro k r h; simp at h
  fine := by intro r h; simp at h
  other := fun nm h => absurd rfl h
  dead := by intro t h; cases h
  big := by simp [nextOf]
def firstB : ByteArray := ⟨#[102, 105, 114, 115, 116]⟩
/-- the state at the head of the loop -/
def KH (w0 wr : World) (B hp p bD bw i : Nat) (va fo : Value) : Prop :=
  ∃ (A : List ByteArray) (f lp bN : Nat) (l : ALog) (d : ADisk) (ss : List Sg) (c1 : List Rec), fo = .int .i64 (f : Int) ∧ 1 ≤ f ∧ 1 ≤ A.length ∧ A.length ≤ i + 1 ∧ KW w0 wr B hp lp p bD bN bw (1100 + 20 * i) va A A f l d ss c1
set_option maxRecDepth 100000 in
set_option maxHeartbeats 8000000 in
theorem kept_walk (v fv : Value) (P m : Nat) (S : Nat → ByteArray) (I : Nat → Int) (kept part : Int) (w : World) (hv : TxtsIn w v P S) (hfv : NumsIn w fv m I) (hmet : Met w) (hpow : Pows w) (herr : ErrS w) (hB : 3 ≤ w.heap.size) :
    Calls Tryz.prog 4 #[v, fv, .int .i64 kept, .int .i64 part] w fun e w' => e = .returned (.bool true) ∧ Below w.heap.size w w' := by
  obtain ⟨pa, pcap, rfl, hpx⟩ := hv
  obtain ⟨fa, fcap, rfl, hfx⟩ := hfv
  have HG : Hid (Met w ∧ Pows w ∧ ErrS w) := ⟨hmet, hpow, herr⟩
  have HPX : Hid (∀ i, i < P → ∃ b off, pa = some ⟨b, off, none⟩ ∧ b < w.heap.size ∧ w.cell? ⟨b, off + i, none⟩ = some (.string (S i))) := hpx
  have HFX : Hid (∀ i, i < m → ∃ b off, fa = some ⟨b, off, none⟩ ∧ b < w.heap.size ∧ w.cell? ⟨b, off + i, none⟩ = some (.int .i64 (I i)) ∧ -9223372036854775808 ≤ I i ∧ I i ≤ 9223372036854775807) := hfx
  obtain ⟨B, hBe⟩ : ∃ B, B = w.heap.size := ⟨_, rfl⟩
  rw [← hBe] at hB ⊢
  have HBE : Hid (B = w.heap.size) := hBe
  clear hpx hfx hmet hpow herr hBe
  go_enter Tryz.func4, Tryz.ntmps4
  go_wp2_with fail
  refine (newHost_any w 1010 (by omega)).mono ?_
  rintro e w1 ⟨hp, p, bD, bN, rfl, hh1, hd1, hhp1, hb1⟩
  rw [← HBE.out] at hd1 hhp1 hb1
  have H1 : Hid (w1.heap[hp]? = some (hostO p false (.pointer none)) ∧ DiskIn w1 B p bD bN (.slice none 0 0) ⟨fun _ => none, fun _ => none, [], -1, -1, false⟩ 1010 0 0 ∧ B ≤ hp ∧ Below B w w1) := ⟨hh1, hd1, hhp1, hb1⟩
  clear hh1 hd1 hhp1 hb1
  go_wp2_with fail
  refine (well_any w1).mono ?_
  rintro e w2 ⟨rfl, hb2⟩
  have H2 : Hid (Below w1.heap.size w1 w2) := hb2
  clear hb2
  go_wp2_with fail
  obtain ⟨W, hW⟩ : ∃ W, W = w2.alloc (fallO (-1) (-1) 0 0) := ⟨_, rfl⟩
  have hfW : Fr [] w1 W := by rw [hW]; exact (Fr.of_below H2.out []).alloc _
  obtain ⟨bw, hbw⟩ : ∃ bw, bw = w2.heap.size := ⟨_, rfl⟩
  have hbs1 : B ≤ w1.heap.size := H1.out.2.1.base.2.2.2
  have hk0 : KC w W B hp p bD bN bw 1010 (.slice none 0 0) [] [] 0 (fun _ => none) [] := by
    refine ⟨⟨by rw [hW, hbw]; exact heap_alloc_new w2 _, World.ownsRow_nil _ _ _ _, H1.out.2.2.2.trans (hfW.below hbs1 (by simp)), H1.out.2.2.1, by have := H2.out.size; omega, by have := hfW.size; omega⟩, ⟨(hfW.block hp (Array.getElem?_eq_some_iff.1 H1.out.1).1 (by simp)).trans H1.out.1, _, _, _, H1.out.2.1.new hfW⟩, stands_none, by simp [recF], .inr (fun _ => rfl), by simp, by simp⟩
  have hW2 : W = w2.alloc (.cells #[.int .i64 (-1), .int .i64 (-1), .int .i64 0, .int .i64 0] 30) := hW
  rw [← hW2, ← hbw]
  have hg0 := hk0.glob hB HG.out
  have hop := kOpen hk0 hB hg0.1 hg0.2.1 hg0.2.2 (by omega) (by omega) (by simp)
  clear hW hW2 hk0 hfW hg0 H2 hbw
  refine hop.mono ?_
  clear hop
  rintro e w3 ⟨rfl, lp, l3, d3, ss3, c3, hk3⟩
  have hg3 := hk3.glob hB HG.out
  have x0 := blk_cell hk3.mem.fall 0
  have x1 := blk_cell hk3.mem.fall 1
  have x2 := blk_cell hk3.mem.fall 2
  have x3 := blk_cell hk3.mem.fall 3
  simp at x0 x1 x2 x3
  have hap := kAppend firstB hk3 (by omega) hg3.1 hg3.2.1 (by decide) (by omega) (by simp)
  clear hk3 hg3
  go_wp2_with fail
  refine hap.mono ?_
  clear hap x0 x1 x2 x3
  rintro e w4 ⟨rfl, l4, d4, ss4, c4, hk4⟩
  have hg4 := hk4.glob hB HG.out
  have x0 := blk_cell hk4.mem.fall 0
  have x1 := blk_cell hk4.mem.fall 1
  have x2 := blk_cell hk4.mem.fall 2
  have x3 := blk_cell hk4.mem.fall 3
  simp at x0 x1 x2 x3
  have hfo := kForce hk4 (by omega) hg4.1 (by omega)
  clear hk4 hg4
  go_wp2_with fail
  refine hfo.mono ?_
  clear hfo x0 x1 x2 x3
  rintro e w5 ⟨rfl, l5, d5, ss5, c5, hk5⟩
  simp only [List.nil_append, List.length_singleton] at hk5 ⊢
  have HK5 : Hid (KW w w5 B hp lp p bD bN bw (1010 + 2 + 3) (.slice none 0 0) [] [firstB] 1 l5 d5 ss5 c5) := hk5
  clear hk5
  by_cases h60 : 60 < P
  · have l60 : (60 : Int) < (P : Int) := by omega
    go_wp2
    go_ret
    exact ⟨rfl, HK5.out.mem.bel⟩
  · have l60 : ¬ (60 : Int) < (P : Int) := by omega
    obtain ⟨W6, hW6⟩ : ∃ W6, W6 = w5.alloc (.cells #[.string firstB] 9) := ⟨_, rfl⟩
    have hf6 : Fr [] w5 W6 := by rw [hW6]; exact (Fr.refl [] w5).alloc _
    have hk6 : KW w W6 B hp lp p bD bN bw 1100 (.slice (some ⟨w5.heap.size, 0, none⟩) 1 1) [firstB] [firstB] 1 l5 d5 ss5 c5 := by
      refine (HK5.out.rowed hf6 (by intro q hq; simp at hq) (by simp) ?_).more (by omega) (by omega)
      refine ⟨rfl, .inr ⟨w5.heap.size, 1, #[.string firstB], rfl, HK5.out.mem.bs, by rw [hW6]; exact heap_alloc_new w5 _, Nat.le_refl _, by decide, rfl, rfl⟩⟩
    have HK6 : Hid (KW w W6 B hp lp p bD bN bw 1100 (.slice (some ⟨w5.heap.size, 0, none⟩) 1 1) [firstB] [firstB] 1 l5 d5 ss5 c5) := hk6
    clear hk6 hf6 HK5
    have hW6' : W6 = w5.alloc (.cells #[.string ⟨#[102, 105, 114, 115, 116]⟩] 9) := hW6
    obtain ⟨g6, hg6⟩ : ∃ g6, g6 = w5.heap.size := ⟨_, rfl⟩
    go_wp2
    rw [← hW6', ← hg6]
    rw [← hg6] at HK6
    clear hW6 hW6' hg6 H1 hbs1
    go_loopw [15, 16, 17] (fun va fo i wr => ∃ k : Nat, k ≤ P ∧ i = .int .i64 k ∧ KH w wr B hp p bD bw k va fo) (fun _ _ i _ => P - (intOf i).toNat)
    case atStart => exact ⟨0, Nat.zero_le _, rfl, [firstB], 1, lp, bN, l5, d5, ss5, c5, rfl, Nat.le_refl _, Nat.le_refl _, Nat.le_refl _, HK6.out⟩
    case round =>
      clear HK6
      obtain ⟨k, hk, rfl, A, f, lp, bN, l, d, ss, c1, rfl, hf1, hA1, hA2, hkw⟩ := hrel
      by_cases hlt : k < P
      · obtain ⟨b, off, rfl, hbl, hpc⟩ := HPX.out k hlt
        have hbl' : b < B := by rw [HBE.out]; exact hbl
        have cp := (hkw.mem.bel.cell (p := ⟨b, off + k, none⟩) hbl').trans hpc
        have i0 : (0 : Int) ≤ (k : Int) := by omega
        have i1 : (k : Int) < (P : Int) := by omega
        by_cases h255 : 255 < (S k).size
        · have l255 : (255 : Int) < ((S k).size : Int) := by omega
          go_wp2
          go_ret
          exact ⟨rfl, hkw.mem.bel⟩
        · have l255 : ¬ (255 : Int) < ((S k).size : Int) := by omega
          obtain ⟨g, cap, rfl⟩ := own_pos hkw.mem.row (by omega)
          have HKW := toHd2 hkw
          have hfd := hkw.fresh (Fr.refl [] wr).drew
          have hg := hfd.glob hB HG.out
          have HAP := toHd2 (kAppend (S k) hfd (by omega) hg.1 hg.2.1 (by omega) (by omega) (by omega))
          clear hfd hg hkw
          have x0 := blk_cell HKW.out.mem.fall 0
          have x1 := blk_cell HKW.out.mem.fall 1
          have x2 := blk_cell HKW.out.mem.fall 2
          have x3 := blk_cell HKW.out.mem.fall 3
          simp at x0 x1 x2 x3
          go_upto_region 17 with fail
          go_cut [11] from 54 to 182 (fun s11 wx => s11 = .int .i64 0 ∧ ∃ l' d' ss' c1', KW w wx B hp lp p bD bN bw (1100 + 20 * k + 3) (.slice (some ⟨g, 0, none⟩) A.length cap) A (A ++ [S k]) f l' d' ss' c1')
          case first =>
            go_region_with (first | (go_at_call 9; refine HAP.out.mono ?_; rintro e wx ⟨rfl, hex⟩; have HEX := toHd2 hex; clear hex))
            all_goals go_wp2
            all_goals go_meet
            all_goals exact ⟨rfl, HEX.out⟩
          case rest =>
            obtain ⟨rfl, l2, d2, ss2, c2, hk2⟩ := hcut
            clear HKW HAP x0 x1 x2 x3 cp
            have cp := (hk2.mem.bel.cell (p := ⟨b, off + k, none⟩) hbl').trans hpc
            have hal := hk2.fresh ((Fr.refl [] wc).alloc (.cells #[.string (S k)] 9))
            have HAL := toHd2 hal
            have hcel : (wc.alloc (.cells #[.string (S k)] 9)).cell? ⟨wc.heap.size, 0, none⟩ = some (.string (S k)) := by
              have := blk_cell (heap_alloc_new wc (.cells #[.string (S k)] 9)) 0
              simpa only [List.getElem?_toArray, List.getElem?_cons_zero] using this
            have HCEL := toHd2 hcel
            clear hal hcel hk2
            go_upto_region 22 with (first | (at_builtin; refine wpList_all rfl _ _ rfl B _ A.length A (S k) wc.heap.size rfl HAL.out.mem.row rfl HCEL.out (by omega) (by omega) HAL.out.mem.bs ?_; intro v3 w3 S3 hown3 hf3 hw3 hb3; obtain ⟨g3, cap3, rfl⟩ := own_pos hown3 (by omega); have HO3 := toHd2 hown3; have HF3 := toHd2 (And.intro hf3 (And.intro hw3 hb3)); clear hown3 hf3 hw3 hb3) | fail)
            have e3 : (A ++ [S k]).length = A.length + 1 := by simp
            have hk3 : KW w w3 B hp lp p bD bN bw (1100 + 20 * k + 3) (.slice (some ⟨g3, 0, none⟩) (A.length + 1) cap3) (A ++ [S k]) (A ++ [S k]) f l2 d2 ss2 c2 := HAL.out.rowed HF3.out.1 HF3.out.2.1 HF3.out.2.2 (by rw [e3]; exact HO3.out)
            obtain ⟨A3, hA3⟩ : ∃ A3, A3 = A ++ [S k] := ⟨_, rfl⟩
            obtain ⟨m3, hm3⟩ : ∃ m3, m3 = A.length + 1 := ⟨_, rfl⟩
            rw [← hA3, ← hm3] at hk3
            rw [← hA3, ← hm3] at e3
            rw [← hm3]
            have HK3 := toHd2 hk3
            have HL3 := toHd2 e3
            have hmb : 1 ≤ m3 ∧ m3 ≤ k + 2 := by omega
            clear hk3 e3 HAL HCEL HF3 HO3 hA3 hm3 hA1 hA2 cp
            by_cases hm : k < m
            · obtain ⟨fb, foff, rfl, hfl, hfc, hf3, hf4⟩ := HFX.out k hm
              have hfl' : fb < B := by rw [HBE.out]; exact hfl
              have cf := (HK3.out.mem.bel.cell (p := ⟨fb, foff + k, none⟩) hfl').trans hfc
              have j1 : (k : Int) < (m : Int) := by omega
              go_wp2_with fail
              refine (kpick (I k) 6 w3 hf3 hf4 (by omega) (by omega)).mono ?_
              rintro e w4 ⟨c, hc, rfl, rfl⟩
              clear cf hfc hf3 hf4 hfl hfl'
              have x0 := blk_cell HK3.out.mem.fall 0
              have x1 := blk_cell HK3.out.mem.fall 1
              have x2 := blk_cell HK3.out.mem.fall 2
              have x3 := blk_cell HK3.out.mem.fall 3
              simp at x0 x1 x2 x3
              by_cases hc1 : c = 1
              · subst hc1
                have hg := HK3.out.glob hB HG.out
                have hfo := kForce HK3.out (by omega) hg.1 (by omega)
                go_wp2_with fail
                refine hfo.mono ?_
                rintro e w4 ⟨rfl, l4, d4, ss4, c4, hk4⟩
                have HK4 := toHd2 (hk4.more (n' := 1100 + 20 * (k + 1)) (by omega) (by omega))
                clear hfo hk4 x0 x1 x2 x3
                go_wp2
                go_roundw
                case rel => exact ⟨k + 1, by omega, by simp, A3, A3.length, lp, bN, l4, d4, ss4, c4, by rw [HL3.out], by rw [HL3.out]; omega, by rw [HL3.out]; omega, by rw [HL3.out]; omega, HK4.out⟩
                case measure => simp [intOf]; omega
              · have n1 : ¬ (c : Int) = 1 := by omega
                by_cases hc2 : c = 2
                · subst hc2
                  clear n1 hc1
                  have hlo := kLose (kept / 2 ^ (k % 8)) (wrap64 (part + (k : Int))) HK3.out hf1 (by unfold wrap64; omega) (by unfold wrap64; omega)
                  go_wp2_with fail
                  refine hlo.mono ?_
                  clear hlo x0 x1 x2 x3
                  rintro e w5 ⟨rfl, bN5, R, F5, ss5, hk5⟩
                  have hR5 := hk5.fa
                  have hf5 := hk5.ff
                  have hRl : R.length ≤ m3 := by rw [hR5, List.length_take, HL3.out]; omega
                  have hg5 := hk5.glob hB HG.out
                  have hop := kOpen hk5 hB hg5.1 hg5.2.1 hg5.2.2 (by omega) (by omega) (by omega)
                  have x0 := blk_cell hk5.mem.fall 0
                  have x1 := blk_cell hk5.mem.fall 1
                  have x2 := blk_cell hk5.mem.fall 2
                  have x3 := blk_cell hk5.mem.fall 3
                  simp at x0 x1 x2 x3
                  have HR5 := toHd2 hR5
                  clear hk5 hg5 hR5 HK3
                  go_wp2_with fail
                  refine hop.mono ?_
                  clear hop x0 x1 x2 x3
                  rintro e w6 ⟨rfl, lp6, l6, d6, ss6, c6, hk6⟩
                  have hre := kRecords hk6 (by omega)
                  clear hk6
                  go_wp2_with fail
                  refine hre.mono ?_
                  clear hre
                  rintro e w7 ⟨ao, cv, rfl, hrow, hk7⟩
                  obtain ⟨r, hr⟩ : ∃ r, r = R.length := ⟨_, rfl⟩
                  rw [← hr] at hf5 hRl ⊢
                  have hrow3 := hk7.mem.row
                  rw [HL3.out] at hrow3
                  have HK7 := toHd2 (hk7.more (n' := 1100 + 20 * (k + 1)) (by omega) (by omega))
                  have HRW := toHd2 hrow
                  have HR := toHd2 hr
                  have HO7 := toHd2 hrow3
                  clear hk7 hrow hr hrow3
                  have t1 : ¬ (r : Int) < (f : Int) := by omega
                  have t2 : ¬ (m3 : Int) < (r : Int) := by omega
                  go_wp2
                  have hcap : m3 ≤ cap3 ∧ cap3 ≤ 9223372036854775807 := by
                    rcases HO7.out.2 with ⟨e, _⟩ | ⟨g', cap', cur, e, _, _, b3, b4, _⟩
                    · simp at e
                    · simp only [Value.slice.injEq, Option.some.injEq, Addr.mk.injEq, and_true, true_and] at e
                      obtain ⟨rfl, rfl⟩ := e
                      unfold maxLen at b4
                      exact ⟨b3, by omega⟩
                  obtain ⟨hcap1, hcap2⟩ := hcap
                  go_loopw [21] (fun jv wx => ∃ j : Nat, j ≤ r ∧ jv = .int .i64 j ∧ ∃ q, wx = w7.drewN q) (fun jv _ => r - (intOf jv).toNat)
                  case atStart => exact ⟨0, Nat.zero_le _, rfl, 0, rfl⟩
                  case round =>
                    obtain ⟨j, hj, rfl, q, rfl⟩ := hrel
                    by_cases hjl : j < r
                    · have hjR : j < R.length := by rw [← HR.out]; exact hjl
                      obtain ⟨x, hx⟩ : ∃ x, R[j]? = some x := ⟨_, List.getElem?_eq_getElem hjR⟩
                      have hxA : A3[j]? = some x := by
                        have := hx
                        rw [HR5.out, List.getElem?_take_of_lt hjR] at this
                        exact this
                      obtain ⟨g7, rfl, y0, y1, y2⟩ := HRW.out j x hx
                      have y0' : w7.cell? ⟨g7, j * 3, none⟩ = some (.int .u64 ((j : Int) + 1)) := by rw [y0]; simp
                      have z0 : w7.cell? ⟨g3, j, none⟩ = some (.string x) := by
                        have := HO7.out.cells (g := g3) rfl j (.string x) (by unfold namesV; rw [List.getElem?_map, hxA]; rfl)
                        simpa [Addr.add_lit] using this
                      have i0 : (0 : Int) ≤ (j : Int) := by omega
                      have i1 : (j : Int) < (r : Int) := by omega
                      have i2 : (j : Int) < (m3 : Int) := by omega
                      clear y0 hx hxA hjR
                      go_wp2
                      go_quiet (fail)
                      go_wp2
                      go_roundw
                      case rel => exact ⟨j + 1, by omega, by go_num, _, rfl⟩
                      case measure => simp [intOf]; omega
                    · obtain rfl : j = r := by omega
                      have hrow8 : w7.ownsRow B 9 1 (.slice (some ⟨g3, 0, none⟩) j cap3) R.length (namesV R) := by
                        have h1 := own_cut HO7.out hRl
                        have h2 : namesV R = (namesV A3).take j := by
                          have h3 := HR5.out
                          rw [← HR.out] at h3
                          rw [h3]; unfold namesV; rw [List.map_take]
                        rw [h2, ← HR.out]; exact h1
                      have hk8 := (HK7.out.rowed (Fr.refl [] w7) (by intro q hq; simp at hq) (by simp) hrow8).fresh (w' := w7.drewN q) (frDrewN (Fr.refl [] w7) q)
                      have HK8 := toHd2 hk8
                      have u0 : (0 : Int) ≤ (j : Int) := by omega
                      have u1 : (j : Int) ≤ (cap3 : Int) := by omega
                      clear hk8 hrow8
                      go_wp2
                      go_roundw
                      case rel => exact ⟨k + 1, by omega, by simp, R, R.length, lp6, bN5, l6, d6, ss6, c6, by rw [← HR.out], by rw [← HR.out]; omega, by rw [← HR.out]; omega, by rw [← HR.out]; omega, HK8.out⟩
                      case measure => simp [intOf]; omega
                · have n2 : ¬ (c : Int) = 2 := by omega
                  have HK4 := toHd2 (HK3.out.more (n' := 1100 + 20 * (k + 1)) (by omega) (by omega))
                  go_wp2
                  go_roundw
                  case rel => exact ⟨k + 1, by omega, by simp, A3, f, lp, bN, l2, d2, ss2, c2, rfl, hf1, by rw [HL3.out]; omega, by rw [HL3.out]; omega, HK4.out⟩
                  case measure => simp [intOf]; omega
            · have j1 : ¬ (k : Int) < (m : Int) := by omega
              have HK4 := toHd2 (HK3.out.more (n' := 1100 + 20 * (k + 1)) (by omega) (by omega))
              go_wp2
              go_roundw
              case rel => exact ⟨k + 1, by omega, by simp, A3, f, lp, bN, l2, d2, ss2, c2, rfl, hf1, by rw [HL3.out]; omega, by rw [HL3.out]; omega, HK4.out⟩
              case measure => simp [intOf]; omega
      · obtain rfl : k = P := by omega
        go_wp2
        go_ret
        exact ⟨rfl, hkw.mem.bel⟩
end Go.Proofs.YtbdhmkfdofkloaaGreatDoor
