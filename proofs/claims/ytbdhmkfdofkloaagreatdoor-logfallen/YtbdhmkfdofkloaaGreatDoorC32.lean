import Derived.Test.YtbdhmkfdofkloaaGreatDoorC31
import Derived.Test.YtbdhmkfdofkloaaGreatDoorC13
import Derived.Test.YtbdhmkfdofkloaaGreatDoorC22
import Derived.Test.YtbdhmkfdofkloaaGreatDoorC21
import Derived.Deep.CutRange
/- THE POWER FAILS: (*disk).crash, whatever was told. -/
namespace Go.Proofs.YtbdhmkfdofkloaaGreatDoor
open Go.RowKit
open Sc

theorem crashF_congr (b b' : Nat → Bool) (torn q q' : Nat) : ∀ (os : List AOp) (i : Nat) (s : Cuts × Files), (∀ j, i ≤ j → j < i + os.length → b j = b' j) → (i ≤ torn → torn < i + os.length → q = q') → crashF b torn q i os s = crashF b' torn q' i os s
  | [], _, _, _, _ => rfl
  | o :: os, i, s, h1, h2 => by
    show crashF b torn q (i + 1) os (crashStep (b i) (decide (i = torn)) q o s) = crashF b' torn q' (i + 1) os (crashStep (b' i) (decide (i = torn)) q' o s)
    have e1 : b i = b' i := h1 i (Nat.le_refl _) (by simp)
    have e2 : crashStep (b i) (decide (i = torn)) q o s = crashStep (b' i) (decide (i = torn)) q' o s := by
      rw [e1]
      by_cases ht : i = torn
      · rw [h2 (by omega) (by simp; omega)]
      · have hd : decide (i = torn) = false := decide_eq_false ht
        rw [hd]
        unfold crashStep
        simp
    rw [e2]
    exact crashF_congr b b' torn q q' os (i + 1) _ (fun j hj hl => h1 j (by omega) (by simp; omega)) (fun hj hl => h2 (by omega) (by simp; omega))
/-- how far a failure of power has come -/
def CrS (torn : Nat) (F : Files) (ops : List AOp) (s : Cuts × Files) : Prop := ∃ b q, s = crashF b torn q 0 ops (fun _ => false, F)
theorem CrS.first (torn : Nat) (F : Files) : CrS torn F [] (fun _ => false, F) := ⟨fun _ => false, 0, rfl⟩
theorem CrS.step {torn : Nat} {F : Files} {ops : List AOp} {s : Cuts × Files} (h : CrS torn F ops s) (c : Bool) (q' : Nat) (o : AOp) : CrS torn F (ops ++ [o]) (crashStep c (decide (ops.length = torn)) q' o s) := by
  obtain ⟨b, q, rfl⟩ := h
  refine ⟨fun j => if j = ops.length then c else b j, if torn = ops.length then q' else q, ?_⟩
  rw [crashF_snoc]
  have e := crashF_congr b (fun j => if j = ops.length then c else b j) torn q (if torn = ops.length then q' else q) ops 0 (fun _ => false, F) (fun j _ hj => by rw [if_neg (by omega)]) (fun _ hj => by rw [if_neg (by omega)])
  rw [← e]
  simp only [Nat.zero_add, if_true]
  by_cases ht : ops.length = torn
  · rw [if_pos ht.symm]
  · have hd : decide (ops.length = torn) = false := decide_eq_false ht
    rw [hd]
    unfold crashStep
    simp
theorem CrS.left {torn : Nat} {F : Files} {ops : List AOp} {s : Cuts × Files} (h : CrS torn F ops s) : Left F ops s.2 := by
  obtain ⟨b, q, rfl⟩ := h; exact ⟨b, torn, q, rfl⟩
theorem Ok.cut {o : AOp} {c : Nat} (h : o.Ok c) (q : Nat) : AOp.Ok { o with data := o.data.extract 0 q } c :=
  ⟨h.kind, h.name, h.to, by have := h.data; simp [ByteArray.size_extract]; omega⟩
theorem crashStep_le {b t : Bool} {q c d : Nat} {o : AOp} {s : Cuts × Files} (h : s.2.Le d) (ho : o.Ok c) : (crashStep b t q o s).2.Le (d + c) := by
  have hm : s.2.Le (d + c) := fun k t hk => Nat.le_trans (h k t hk) (Nat.le_add_right _ _)
  unfold crashStep
  split
  · exact hm
  · split
    · exact hm
    · split
      · exact doOp_le h (Ok.cut ho q)
      · exact doOp_le h ho
theorem toHd2 {p : Prop} (h : p) : Hid p := h
/-- where the loop of crash stands -/
structure CrL (w1 wr : World) (bD bc nD torn : Nat) (d : ADisk) (i : Nat) (s : Cuts × Files) : Prop where
  crs : CrS torn d.durable (d.pending.take i) s
  dur : FileMap wr bD (nD + i) s.2
  cut : CutMap wr bc i s.1
  fr : Fr [bD, bc] w1 wr
  le : s.2.Le ((nD + i) * 4096)
set_option maxRecDepth 100000 in
set_option maxHeartbeats 8000000 in
theorem crash_any (B p bD bN n nD nN : Nat) (pv : Value) (d : ADisk) (kept part : Int) (w : World) (h : DiskIn w B p bD bN pv d n nD nN) (hp1 : -9223372036854775808 ≤ part) (hp2 : part ≤ 9223372036854775807) :
    Calls Tryz.prog 31 #[.pointer (some ⟨p, 0, none⟩), .int .i64 kept, .int .i64 part] w fun e w' => e = .returned (.tuple #[]) ∧ ∃ F' bN' nD', Left d.durable d.pending F' ∧ DiskIn w' B p bD bN' (.slice none 0 0) ⟨F', F', [], -1, -1, false⟩ n nD' nD' ∧ w.heap.size ≤ bN' ∧ Fr [p, bD] w w' := by
  have hmm := @run_makeMap Tryz.prog
  have hn := h.hn
  have hbase := h.base
  have hD := h.hD
  obtain ⟨len, hlen⟩ : ∃ len, len = d.pending.length := ⟨_, rfl⟩
  obtain ⟨pa, pc, rfl⟩ : ∃ a c, pv = .slice a len c := by
    have := h.pen
    rw [← hlen] at this
    rcases this.2 with ⟨e, h0⟩ | ⟨g, cap, cur, e, _⟩
    · rw [h0]; exact ⟨_, _, e⟩
    · exact ⟨_, _, e⟩
  have hpl : p < w.heap.size := (Array.getElem?_eq_some_iff.1 h.blk).1
  have hbDl := h.dur.lt
  have c2 := blk_cell h.blk 2
  simp at c2
  have hlenr : ∀ (ty : TypeId) (W : World), (Builtin.len_ #[55] ty #[.slice pa len pc]).run Tryz.prog W = .ok (.int .i64 len) W := fun ty W => by simp [go_sem]
  obtain ⟨W, hW⟩ : ∃ W, W = w.alloc (.map #[] 0) := ⟨_, rfl⟩
  have hfW : Fr [] w W := by rw [hW]; exact (Fr.refl [] w).alloc _
  have hIW := h.new hfW
  have b2 := blk_cell hIW.blk 2
  simp at b2
  have H0 : Hid (DiskIn W B p bD bN (.slice pa len pc) d n nD nN ∧ Fr [] w W ∧ CutMap W w.heap.size 0 (fun _ => false) ∧ len = d.pending.length ∧ W.heap.size = w.heap.size + 1) := ⟨hIW, hfW, by rw [hW]; exact CutMap.made w, hlen, by rw [hW]; simp⟩
  have jl : IntKind.i64.wrap ((len : Int) + 1) = ((len + 1 : Nat) : Int) := by rw [IntKind.wrap_i64]; omega
  have hlenn : len ≤ n := by omega
  clear hfW hIW hlen
  go_enter Tryz.func31, Tryz.ntmps31
  go_wp2_with fail
  refine (ppick_any part (len + 1) w hp1 hp2 (by omega) (by omega)).mono ?_
  rintro e w1 ⟨torn, htn, rfl, rfl⟩
  go_wp2
  rw [← hW]
  clear hW
  go_loopw [24] (fun i wr => ∃ k : Nat, k ≤ len ∧ i = .int .i64 k ∧ ∃ s, Hid (CrL W wr bD w1.heap.size nD torn d k s)) (fun i _ => len - (intOf i).toNat)
  case atStart => exact ⟨0, Nat.zero_le _, rfl, _, ⟨CrS.first torn d.durable, H0.out.1.dur, H0.out.2.2.1, Fr.refl _ _, H0.out.1.leD⟩⟩
  case round =>
    obtain ⟨k, hk, rfl, s, hR⟩ := hrel
    by_cases hlt : k < len
    · have hkl : k < d.pending.length := by rw [← H0.out.2.2.2.1]; exact hlt
      obtain ⟨o, ho⟩ : ∃ o, d.pending[k]? = some o := ⟨_, List.getElem?_eq_getElem hkl⟩
      have hok : o.Ok 4096 := H0.out.1.ops o (List.mem_of_getElem? ho)
      have hpen := H0.out.1.pen
      rw [← H0.out.2.2.2.1] at hpen
      obtain ⟨g, cap, hgc⟩ := own_pos hpen (by omega)
      simp only [Value.slice.injEq, true_and] at hgc
      obtain ⟨rfl, rfl⟩ := hgc
      have hbcl := hR.out.cut.lt
      have hRz : W.heap.size ≤ wr.heap.size := hR.out.fr.size
      have hneP : p ≠ bD ∧ p ≠ w1.heap.size := ⟨fun e => H0.out.1.dur.ne_cells H0.out.1.blk e.symm, by omega⟩
      have hgne : g ≠ bD ∧ g ≠ w1.heap.size := by
        obtain ⟨c, hc⟩ := own_cells hpen rfl
        refine ⟨fun e => H0.out.1.dur.ne_cells hc e.symm, fun e => ?_⟩
        obtain ⟨es, c', h1⟩ := H0.out.2.2.1.isMap
        rw [← e, hc] at h1; cases h1
      have hrow : wr.ownsRow B 107 4 (.slice (some ⟨g, 0, none⟩) len pc) len (opsV d.pending) := ownsRow_fr hpen hR.out.fr (fun q hq => by
        simp [Value.ownBlock] at hq; subst hq; simp; exact hgne)
      obtain ⟨c0, c1, c2', c3⟩ := pend_cells hrow k o ho
      have hpb := (hR.out.fr.block p (Nat.lt_of_lt_of_le hpl H0.out.2.1.size) (by simp; exact hneP)).trans H0.out.1.blk
      have p0 := blk_cell hpb 0
      simp at p0
      have hpw : p < wr.heap.size := World.block_lt_of_cell? wr ⟨p, 0, none⟩ p0
      have HO : Hid (o.Ok 4096 ∧ d.pending[k]? = some o ∧ (d.pending.take k).length = k) := ⟨hok, ho, by rw [List.length_take]; omega⟩
      have htk : Hid (d.pending.take (k + 1) = d.pending.take k ++ [o]) := by show _ = _; rw [List.take_add_one, ho]; rfl
      have hnk : nD + k < n := by omega
      have HLE : Hid (s.2.Le 4200000000000) := fun x t ht => by
        have h1 := hR.out.le x t ht
        have h6 : (nD + k) * 4096 ≤ n * 4096 := Nat.mul_le_mul_right _ (by omega)
        omega
      clear hok ho hrow hpen hgne hneP
      have i0 : (0 : Int) ≤ (k : Int) := by omega
      have i1 : (k : Int) < (len : Int) := by omega
      obtain ⟨kd, nm, tt, da⟩ := o
      simp only at c0 c1 c2' c3
      go_upto_region 5 with fail
      go_cut [34] from 25 to 79 (fun s34 wx => (∃ c : Bool, s34 = .bool c) ∧ wx = wr.alloc (.cells #[.int .i64 (kd : Int), .string nm, .string tt, .string da] 107))
      case first =>
        go_wp2
        go_meet
        exact ⟨⟨_, rfl⟩, rfl⟩
      case rest =>
        obtain ⟨⟨c, rfl⟩, hwc⟩ := hcut
        obtain ⟨bo, hbo⟩ : ∃ bo, bo = wr.heap.size := ⟨_, rfl⟩
        have hbw : wc.heap[bo]? = some (.cells #[.int .i64 (kd : Int), .string nm, .string tt, .string da] 107 (0, 0)) := by rw [hwc, hbo]; exact heap_alloc_new wr _
        have hcw : wc.heap.size = wr.heap.size + 1 := by rw [hwc]; simp
        have hfc : Fr [] wr wc := by rw [hwc]; exact (Fr.refl [] wr).alloc _
        have p0' : wc.cell? ⟨p, 0, none⟩ = some (.map (some bD)) := (World.cell?_of_block (a := ⟨p, 0, none⟩) (hfc.block p hpw (by simp))).trans p0
        have HC : Hid (CrL W wc bD w1.heap.size nD torn d k s) := ⟨hR.out.crs, hR.out.dur.fr hfc (by simp) (by simp), hR.out.cut.blk (hfc.block _ hbcl (by simp)), hR.out.fr.trans (hfc.mono (by simp)), hR.out.le⟩
        have q0 := blk_cell hbw 0
        have q1 := blk_cell hbw 1
        have q2 := blk_cell hbw 2
        have q3 := blk_cell hbw 3
        have r3 := blk_free hbw 3
        simp at q0 q1 q2 q3
        have HBO : Hid (bo = wr.heap.size ∧ wc.heap[bo]? = some (.cells #[.int .i64 (kd : Int), .string nm, .string tt, .string da] 107 (0, 0)) ∧ wc.heap.size = wr.heap.size + 1) := ⟨hbo, hbw, hcw⟩
        have hbcw : w1.heap.size < wc.heap.size := by omega
        have hbone : bo ≠ w1.heap.size := by omega
        have hbD := hR.out.dur.lt
        have hboD : bo ≠ bD := by omega
        rw [← hbo]
        clear hwc hR hbw hcw hfc p0 c0 c1 c2' c3 hbo
        cases c with
        | true =>
          by_cases hk2 : kd = 2
          · subst hk2
            go_wp2_with (first | (at_mapUpdate; refine wpList_cut_put rfl _ _ _ rfl w1.heap.size k s.1 rfl HC.out.cut (by unfold maxLen; omega) nm HO.out.1.name rfl rfl ?_; intro w2 hc2 hg2) | fail)
            have hx : CrL W w2 bD w1.heap.size nD torn d (k + 1) (crashStep false (decide ((d.pending.take k).length = torn)) 0 ⟨2, nm, tt, da⟩ s) := by
              refine ⟨by rw [htk.out]; exact HC.out.crs.step false 0 _, ?_, ?_, HC.out.fr.trans ((Fr.of_grown1 hg2).mono (by intro j _ hj; simp at hj; simp [hj])), ?_⟩
              · unfold crashStep
                simp only [if_true]
                refine (HC.out.dur.fr (Fr.of_grown1 hg2) (by simp; omega) ?_).mono (by omega)
                intro q hq t ht; simp at hq; subst hq
                obtain ⟨es, c', h1⟩ := HC.out.cut.isMap
                rw [h1] at ht; cases ht
              · unfold crashStep
                simp only [if_true]
                exact hc2
              · have := crashStep_le (b := false) (t := decide ((d.pending.take k).length = torn)) (q := 0) HC.out.le HO.out.1
                rw [show (nD + (k + 1)) * 4096 = (nD + k) * 4096 + 4096 by omega]; exact this
            have HX : Hid (CrL W w2 bD w1.heap.size nD torn d (k + 1) (crashStep false (decide ((d.pending.take k).length = torn)) 0 ⟨2, nm, tt, da⟩ s)) := hx
            clear hx hc2 hg2
            go_roundw
            case rel => exact ⟨k + 1, by omega, by simp, _, HX.out⟩
            case measure => simp [intOf]; omega
          · have k2 : ¬ (kd : Int) = 2 := by omega
            have hx : CrL W wc bD w1.heap.size nD torn d (k + 1) (crashStep false (decide ((d.pending.take k).length = torn)) 0 ⟨kd, nm, tt, da⟩ s) := by
              have es : crashStep false (decide ((d.pending.take k).length = torn)) 0 ⟨kd, nm, tt, da⟩ s = s := by unfold crashStep; simp only [if_true]; rw [if_neg hk2]
              have hst := HC.out.crs.step false 0 ⟨kd, nm, tt, da⟩
              rw [es] at hst ⊢
              exact ⟨by rw [htk.out]; exact hst, HC.out.dur.mono (by omega), HC.out.cut.mono (by omega), HC.out.fr, fun x t ht => Nat.le_trans (HC.out.le x t ht) (Nat.mul_le_mul_right _ (by omega))⟩
            have HX : Hid (CrL W wc bD w1.heap.size nD torn d (k + 1) (crashStep false (decide ((d.pending.take k).length = torn)) 0 ⟨kd, nm, tt, da⟩ s)) := hx
            clear hx
            go_wp2
            go_roundw
            case rel => exact ⟨k + 1, by omega, by simp, _, HX.out⟩
            case measure => simp [intOf]; omega
        | false =>
          have hlk := HC.out.cut.look nm HO.out.1.name
          by_cases hcc : kd = 2 ∧ s.1 nm = true
          · obtain ⟨rfl, hc1⟩ := hcc
            rw [if_pos hc1] at hlk
            have hx : CrL W wc bD w1.heap.size nD torn d (k + 1) (crashStep true (decide ((d.pending.take k).length = torn)) 0 ⟨2, nm, tt, da⟩ s) := by
              have es : crashStep true (decide ((d.pending.take k).length = torn)) 0 ⟨2, nm, tt, da⟩ s = s := by unfold crashStep; rw [if_neg (by simp), if_pos ⟨rfl, hc1⟩]
              have hst := HC.out.crs.step true 0 ⟨2, nm, tt, da⟩
              rw [es] at hst ⊢
              exact ⟨by rw [htk.out]; exact hst, HC.out.dur.mono (by omega), HC.out.cut.mono (by omega), HC.out.fr, fun x t ht => Nat.le_trans (HC.out.le x t ht) (Nat.mul_le_mul_right _ (by omega))⟩
            have HX : Hid (CrL W wc bD w1.heap.size nD torn d (k + 1) (crashStep true (decide ((d.pending.take k).length = torn)) 0 ⟨2, nm, tt, da⟩ s)) := hx
            clear hx
            go_wp2
            go_roundw
            case rel => exact ⟨k + 1, by omega, by simp, _, HX.out⟩
            case measure => simp [intOf]; omega
          · go_upto_region 8 with fail
            go_cut [50] from 25 to 79 (fun s50 wx => s50 = .bool false ∧ wx = wc)
            case first =>
              by_cases hk2 : kd = 2
              · subst hk2
                have hc1 : ¬ s.1 nm = true := fun e => hcc ⟨rfl, e⟩
                rw [if_neg hc1] at hlk
                go_wp2
                go_meet
                exact ⟨rfl, rfl⟩
              · have k2 : ¬ (kd : Int) = 2 := by omega
                go_wp2
                go_meet
                exact ⟨rfl, rfl⟩
            case rest =>
              obtain ⟨rfl, hww⟩ := hcut
              subst hww
              clear hlk
              go_upto_region 9 with fail
              go_cut [58] from 25 to 79 (fun s58 wx => s58 = .bool (decide (k = torn ∧ kd < 3)) ∧ wx = wc)
              case first =>
                by_cases h1 : k = torn
                · subst h1
                  by_cases h2 : kd < 3
                  · have h2i : (kd : Int) < 3 := by omega
                    go_wp2
                    go_meet
                    exact ⟨by simp [h2], rfl⟩
                  · have h2i : ¬ (kd : Int) < 3 := by omega
                    go_wp2
                    go_meet
                    exact ⟨by simp [h2], rfl⟩
                · have h1i : ¬ (k : Int) = (torn : Int) := by omega
                  go_wp2
                  go_meet
                  exact ⟨by simp [h1], rfl⟩
              case rest =>
                obtain ⟨rfl, hww⟩ := hcut
                subst hww
                by_cases htt : k = torn ∧ kd < 3
                · rw [decide_eq_true htt]
                  have HTT : Hid (k = torn ∧ kd < 3) := htt
                  clear htt
                  have jd : IntKind.i64.wrap ((da.size : Int) + 1) = ((da.size + 1 : Nat) : Int) := by have := HO.out.1.data; simp only at this; rw [IntKind.wrap_i64]; omega
                  go_upto_region 10 with fail
                  go_cut [70] from 25 to 79 (fun _ wx => ∃ q, wx.heap[bo]? = some (.cells #[.int .i64 (kd : Int), .string nm, .string tt, .string (da.extract 0 q)] 107 (0, 0)) ∧ Fr [bo] wc wx)
                  case first =>
                    have hdl : da.size ≤ 4096 := HO.out.1.data
                    have hpk : ∀ W', Calls Tryz.prog 53 #[.int .i64 (IntKind.i64.wrap (part.tdiv 7)), .int .i64 ((da.size : Int) + 1)] W' fun e w' => ∃ r : Nat, r ≤ da.size ∧ e = .returned (.int .i64 r) ∧ w' = W' := fun W' => by
                      have h1 := ppick_any (IntKind.i64.wrap (part.tdiv 7)) (da.size + 1) W' (by rw [IntKind.wrap_i64]; omega) (by rw [IntKind.wrap_i64]; omega) (by omega) (by omega)
                      have e1 : ((da.size + 1 : Nat) : Int) = (da.size : Int) + 1 := by omega
                      rw [e1] at h1
                      refine h1.mono ?_
                      rintro e w' ⟨r, h2, h3, h4⟩
                      exact ⟨r, by omega, h3, h4⟩
                    go_region_with (first | (go_at_call 53; refine (hpk _).mono ?_; rintro e w3 ⟨r, hr, rfl, rfl⟩; have hri : (r : Int) ≤ (da.size : Int) := by omega))
                    all_goals go_wp2
                    all_goals go_meet
                    all_goals exact ⟨r, by have := blk_set HBO.out.2.1 3 (.string (da.extract 0 r)); simp at this; exact this, ((Fr.refl [bo] wc).setCell (.inl (by simp)) _).drew⟩
                  case rest =>
                    obtain ⟨q, hbq, hfq⟩ := hcut
                    have hd2 : FileMap wc bD (nD + k) s.2 := HC.out.dur.fr hfq (by simp; exact fun e => hboD e.symm) (by intro x hx t ht; simp at hx; subst hx; rw [HBO.out.2.1] at ht; cases ht)
                    have hc2 : CutMap wc w1.heap.size k s.1 := HC.out.cut.blk (hfq.block _ hbcw (by simp; exact fun e => hbone e.symm))
                    have hzc : w1.heap.size < wc.heap.size := Nat.lt_of_lt_of_le hbcw hfq.size
                    have hpo : p ≠ bo := by have := HBO.out.1; omega
                    have hpc : p ≠ w1.heap.size := by omega
                    have p2' : wc.cell? ⟨p, 0, none⟩ = some (.map (some bD)) := (World.cell?_of_block (a := ⟨p, 0, none⟩) (hfq.block p (by have := HBO.out.2.2; omega) (by simpa using hpo))).trans p0'
                    have t1 := blk_cell hbq 1
                    simp at t1
                    have HQ : Hid (CrS torn d.durable (d.pending.take k) s ∧ Fr [bD, w1.heap.size] W wc ∧ FileMap wc bD (nD + k) s.2 ∧ CutMap wc w1.heap.size k s.1 ∧ wc.heap[bo]? = some (.cells #[.int .i64 (kd : Int), .string nm, .string tt, .string (da.extract 0 q)] 107 (0, 0)) ∧ s.2.Le ((nD + k) * 4096)) := by
                      refine ⟨HC.out.crs, HC.out.fr.andThen hfq (fun j hj hjl => ?_), hd2, hc2, hbq, HC.out.le⟩
                      simp at hj
                      have := HBO.out.1
                      have := HC.out.fr.size
                      have := HBO.out.2.2
                      have h9 := hRz
                      omega
                    clear hd2 hc2 hbq hfq HC q0 q1 q2 q3 r3 p0'
                    go_wp2_with (first | (at_mapUpdate; refine wpList_cut_put rfl _ _ _ rfl w1.heap.size k s.1 rfl HQ.out.2.2.2.1 (by unfold maxLen; omega) nm HO.out.1.name rfl rfl ?_; intro w2 hc3 hg3) | fail)
                    have hfg : Fr [w1.heap.size] wc w2 := Fr.of_grown1 hg3
                    have hbo2 : wc.heap.size ≤ w2.heap.size := hfg.size
                    have hbow : bo < wc.heap.size := (Array.getElem?_eq_some_iff.1 HQ.out.2.2.2.2.1).1
                    have hbq2 := (hfg.block bo hbow (by simpa using hbone)).trans HQ.out.2.2.2.2.1
                    have p3 : w2.cell? ⟨p, 0, none⟩ = some (.map (some bD)) := (World.cell?_of_block (a := ⟨p, 0, none⟩) (hfg.block p (by omega) (by simpa using hpc))).trans p2'
                    have y0 := blk_cell hbq2 0
                    have y1 := blk_cell hbq2 1
                    have y2 := blk_cell hbq2 2
                    have y3 := blk_cell hbq2 3
                    simp at y0 y1 y2 y3
                    have HD2 : Hid (FileMap w2 bD (nD + k) s.2) := HQ.out.2.2.1.fr hfg (by simp; omega) (by
                      intro x hx t ht; simp at hx; subst hx
                      obtain ⟨es, c', h1⟩ := HQ.out.2.2.2.1.isMap
                      rw [h1] at ht; cases ht)
                    have HC3 : Hid (CutMap w2 w1.heap.size (k + 1) (s.1.set nm) ∧ Fr [w1.heap.size] wc w2) := ⟨hc3, hfg⟩
                    have HES : Hid (crashStep true (decide ((d.pending.take k).length = torn)) q ⟨kd, nm, tt, da⟩ s = (s.1.set nm, doOp s.2 ⟨kd, nm, tt, da.extract 0 q⟩)) := by
                      show _ = _
                      unfold crashStep
                      rw [if_neg (by simp), if_neg (fun e => hcc ⟨e.1, e.2⟩), if_pos ⟨by rw [HO.out.2.2]; exact decide_eq_true HTT.out.1, HTT.out.2⟩]
                    have HST := toHd2 (HQ.out.1.step true q ⟨kd, nm, tt, da⟩)
                    have HLN := toHd2 (crashStep_le (b := true) (t := decide ((d.pending.take k).length = torn)) (q := q) HQ.out.2.2.2.2.2 HO.out.1)
                    clear hc3 hg3 hfg hbq2 p2' t1 hcc
                    go_region_with (first | (go_at_call 54; refine (do_any bD (nD + k) 4096 _ ⟨kd, nm, tt, da.extract 0 q⟩ _ (HD2.out.fr (Fr.refl [] w2).drew (by simp) (by simp)) (by unfold maxLen; omega) (Ok.cut HO.out.1 q) (by omega) HLE.out).mono ?_; rintro e w4 ⟨rfl, hF4, hg4⟩))
                    all_goals (
                      have hx : CrL W w4 bD w1.heap.size nD torn d (k + 1) (s.1.set nm, doOp s.2 ⟨kd, nm, tt, da.extract 0 q⟩) := by
                        have hfr4 : Fr [bD] w2 w4 := (Fr.refl [bD] w2).drew.trans (Fr.of_grown1 hg4)
                        have hst := HST.out
                        have hln := HLN.out
                        rw [HES.out] at hst hln
                        refine ⟨by rw [htk.out]; exact hst, hF4, HC3.out.1.blk (hfr4.block _ (by omega) (by simp; omega)), (HQ.out.2.1.trans (HC3.out.2.mono (by intro j _ hj; simp at hj; simp [hj]))).trans (hfr4.mono (by intro j _ hj; simp at hj; simp [hj])), ?_⟩
                        rw [show (nD + (k + 1)) * 4096 = (nD + k) * 4096 + 4096 by omega]; exact hln
                      have HX : Hid (CrL W w4 bD w1.heap.size nD torn d (k + 1) (s.1.set nm, doOp s.2 ⟨kd, nm, tt, da.extract 0 q⟩)) := hx
                      clear hx hF4 hg4
                      go_wp2
                      go_roundw
                      case rel => exact ⟨k + 1, by omega, by simp, _, HX.out⟩
                      case measure => simp [intOf]; omega)
                · rw [decide_eq_false htt]
                  have hes : crashStep true (decide ((d.pending.take k).length = torn)) 0 ⟨kd, nm, tt, da⟩ s = (s.1, doOp s.2 ⟨kd, nm, tt, da⟩) := by
                    unfold crashStep
                    rw [if_neg (by simp), if_neg (fun e => hcc ⟨e.1, e.2⟩), if_neg (fun e => htt ⟨by have := of_decide_eq_true e.1; rw [HO.out.2.2] at this; exact this, e.2⟩)]
                  have HES : Hid (crashStep true (decide ((d.pending.take k).length = torn)) 0 ⟨kd, nm, tt, da⟩ s = (s.1, doOp s.2 ⟨kd, nm, tt, da⟩)) := hes
                  have HST := toHd2 (HC.out.crs.step true 0 ⟨kd, nm, tt, da⟩)
                  have HLN := toHd2 (crashStep_le (b := true) (t := decide ((d.pending.take k).length = torn)) (q := 0) HC.out.le HO.out.1)
                  clear hes hcc htt
                  go_wp2
                  go_region_with (first | (go_at_call 54; refine (do_any bD (nD + k) 4096 _ ⟨kd, nm, tt, da⟩ _ (HC.out.dur.fr (Fr.refl [] wc).drew (by simp) (by simp)) (by unfold maxLen; omega) HO.out.1 (by omega) HLE.out).mono ?_; rintro e w2 ⟨rfl, hF2, hg2⟩))
                  all_goals (
                    have hx : CrL W w2 bD w1.heap.size nD torn d (k + 1) (s.1, doOp s.2 ⟨kd, nm, tt, da⟩) := by
                      have hfr2 : Fr [bD] wc w2 := (Fr.refl [bD] wc).drew.trans (Fr.of_grown1 hg2)
                      have hst := HST.out
                      have hln := HLN.out
                      rw [HES.out] at hst hln
                      refine ⟨by rw [htk.out]; exact hst, hF2, (HC.out.cut.blk (hfr2.block _ hbcw (by simp; omega))).mono (by omega), HC.out.fr.trans (hfr2.mono (by intro j _ hj; simp at hj; simp [hj])), ?_⟩
                      rw [show (nD + (k + 1)) * 4096 = (nD + k) * 4096 + 4096 by omega]; exact hln
                    have HX : Hid (CrL W w2 bD w1.heap.size nD torn d (k + 1) (s.1, doOp s.2 ⟨kd, nm, tt, da⟩)) := hx
                    clear hx hF2 hg2
                    go_wp2
                    go_roundw
                    case rel => exact ⟨k + 1, by omega, by simp, _, HX.out⟩
                    case measure => simp [intOf]; omega)
    · obtain rfl : k = len := by omega
      have hneP : p ≠ bD ∧ p ≠ w1.heap.size := ⟨fun e => H0.out.1.dur.ne_cells H0.out.1.blk e.symm, by omega⟩
      have hRz : W.heap.size ≤ wr.heap.size := hR.out.fr.size
      have hpb := (hR.out.fr.block p (Nat.lt_of_lt_of_le hpl H0.out.2.1.size) (by simp; exact hneP)).trans H0.out.1.blk
      have b3 := blk_cell hpb 3
      have b4 := blk_cell hpb 4
      have f3 := blk_free hpb 3
      have f4 := blk_free hpb 4
      simp at b3 b4
      obtain ⟨W2, hW2⟩ : ∃ W2, W2 = (wr.setCell ⟨p, 3, none⟩ (.int .i64 (-1))).setCell ⟨p, 4, none⟩ (.int .i64 (-1)) := ⟨_, rfl⟩
      have hf2 : Fr [p] wr W2 := by rw [hW2]; exact (Fr.set1 (by simp) _ _).trans (Fr.set1 (by simp) _ _)
      have hb2 : W2.heap[p]? = some (.cells #[.map (some bD), .map (some bN), .slice pa k pc, .int .i64 (-1), .int .i64 (-1), .bool d.down] 57) := by
        have := blk_set (blk_set hpb 3 (.int .i64 (-1))) 4 (.int .i64 (-1))
        simp at this
        rw [hW2]; exact this
      have hdu : FileMap W2 bD (nD + k) s.2 := hR.out.dur.fr hf2 (by simp; exact fun e => hneP.1 e.symm) (by
        intro x hx t ht; simp at hx; subst hx; rw [hpb] at ht; cases ht)
      have hup := up_any B p bD n (nD + k) (.slice pa k pc) (.map (some bN)) ⟨s.2, d.now, d.pending, -1, -1, d.down⟩ W2 hb2 ⟨hbase.1, hbase.2.1, by have := hf2.size; have := H0.out.2.1.size; omega⟩ hdu (by rw [H0.out.2.2.2.1]; exact hD) hn hR.out.le
      have ht : d.pending.take k = d.pending := List.take_of_length_le (by rw [H0.out.2.2.2.1]; exact Nat.le_refl _)
      have hlf := hR.out.crs.left
      rw [ht] at hlf
      have hfin : Fr [p, bD] w1 W2 := by
        have a1 : Fr [p, bD] w1 W := H0.out.2.1.mono (by simp)
        have a2 : Fr [p, bD] w1 wr := a1.andThen hR.out.fr (fun j hj hjl => by
          simp at hj
          rcases hj with e | e
          · simp [e]
          · omega)
        exact a2.trans (hf2.mono (by intro j _ hj; simp at hj; simp [hj]))
      have HF : Hid (Fr [p, bD] w1 W2 ∧ Left d.durable d.pending s.2 ∧ w1.heap.size ≤ W2.heap.size) := ⟨hfin, hlf, hfin.size⟩
      clear hfin hlf hdu hb2 hf2 hpb ht hR
      go_wp2_with fail
      rw [← hW2]
      refine hup.mono ?_
      clear hup
      rintro e w3 ⟨rfl, hd3, hf3⟩
      have H3 : Hid (DiskIn w3 B p bD W2.heap.size (.slice none 0 0) ⟨s.2, s.2, [], -1, -1, false⟩ n (nD + k) (nD + k) ∧ Fr [p] W2 w3) := ⟨hd3, hf3⟩
      clear hd3 hf3
      go_wp2
      go_end0
      exact ⟨rfl, s.2, W2.heap.size, nD + k, HF.out.2.1, H3.out.1, HF.out.2.2, HF.out.1.trans (H3.out.2.mono (by intro j _ hj; simp at hj; simp [hj]))⟩
end Go.Proofs.YtbdhmkfdofkloaaGreatDoor
