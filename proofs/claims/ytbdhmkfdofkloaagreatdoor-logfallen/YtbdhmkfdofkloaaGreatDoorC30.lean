import Derived.Test.YtbdhmkfdofkloaaGreatDoorC29
/- LOGS OF MANY SEGMENTS: (*Log).read, whatever segments stand. -/
namespace Go.Proofs.YtbdhmkfdofkloaaGreatDoor
open Go.RowKit Go.Maps
open Sc

theorem nodup_len : ∀ (m : Nat) (l : List Nat), l.Nodup → (∀ x ∈ l, x < m) → l.length ≤ m
  | 0, l, _, h => by
    cases l with
    | nil => simp
    | cons x l => have := h x (by simp); omega
  | m + 1, l, hn, h => by
    have ih := nodup_len m (l.erase m) (hn.erase m) (fun x hx => by
      have h1 := h x (List.mem_of_mem_erase hx)
      have h2 : x ≠ m := fun e => by subst e; exact (List.Nodup.not_mem_erase hn) hx
      omega)
    by_cases hm : m ∈ l
    · rw [List.length_erase_of_mem hm] at ih; omega
    · rw [List.erase_of_not_mem hm] at ih; omega
theorem nm_len {cl : List Nm} {m : Nat} (hn : cl.Nodup) (h : ∀ u, (.inl u : Nm) ∈ cl → u < m) : cl.length ≤ m + 2 := by
  have h1 := nodup_len (m + 2) (cl.map fun o => match o with | .inl u => u + 2 | .inr z => if z then 1 else 0) (by
    unfold List.Nodup
    rw [List.pairwise_map]
    refine hn.imp (fun {a b} hab e => hab ?_)
    rcases a with u | z <;> rcases b with v | y
    · simp at e; rw [e]
    · cases y <;> simp at e
    · cases z <;> simp at e
    · cases z <;> cases y <;> simp at e <;> rfl) (by
    intro x hx
    obtain ⟨o, ho, rfl⟩ := List.mem_map.1 hx
    rcases o with u | z
    · have := h u ho; simp; omega
    · cases z <;> simp)
  simpa using h1
theorem readMark_all (B p bD bN n nD nN mk : Nat) (ss : List Sg) (pv : Value) (d : ADisk) (w : World) (h : DiskIn w B p bD bN pv d n nD nN) (hdn : d.down = false) (hst : Stands d.now mk ss) :
    Calls Tryz.prog 86 #[dskV p] w fun e w' => e = .returned (.tuple #[.int .u64 (mk : Int), .nilIface]) ∧ Below w.heap.size w w' := by
  rcases hst.mark with ⟨rfl, h0⟩ | h0
  · exact readMark_none B p bD bN n nD nN pv d w h hdn h0
  · exact readMark_some B p bD bN n nD nN mk pv d w h hdn h0 (by have := hst.big; unfold nextOf at this; omega)
/-- .. nothing of it being read yet -/
structure Rdn (w wr : World) (B lp p bD bN : Nat) (pv : Value) (l : ALog) (d : ADisk) (n nD nN : Nat) : Prop where
  fr : Fr [lp] w wr
  log : LogIn wr B lp p bD bN pv (.slice none 0 0) (.slice none 0 0) l d n nD nN
theorem Rdn.new {w wr wq : World} {B lp p bD bN n nD nN : Nat} {pv : Value} {l : ALog} {d : ADisk} (h : Rdn w wr B lp p bD bN pv l d n nD nN) (hf : Fr [] wr wq) : Rdn w wq B lp p bD bN pv l d n nD nN := ⟨h.fr.trans (hf.mono (by simp)), h.log.new hf⟩
theorem Rdn.rdg {w wr : World} {B lp p bD bN n nD nN : Nat} {pv : Value} {l : ALog} {d : ADisk} (h : Rdn w wr B lp p bD bN pv l d n nD nN) : Rdg w wr B lp p bD bN pv l d n nD nN := ⟨h.fr, _, _, h.log, (fun k hk => by cases hk), (fun k hk => by cases hk)⟩
theorem Rdg.from {w w6 wr : World} {B lp p bD bN n nD nN : Nat} {pv : Value} {l : ALog} {d : ADisk} (hf : Fr [lp] w w6) (h : Rdg w6 wr B lp p bD bN pv l d n nD nN) : Rdg w wr B lp p bD bN pv l d n nD nN := by
  obtain ⟨sv, rv, h1, h2, h3⟩ := h.log
  exact ⟨hf.trans h.fr, sv, rv, h1, fun k hk => Nat.le_trans hf.size (h2 k hk), fun k hk => Nat.le_trans hf.size (h3 k hk)⟩
/-- what comes of read -/
def ReadAll (B lp p bD bN n nD nN mk : Nat) (ss : List Sg) (pv : Value) (d : ADisk) (w : World) (e : Ending) (w' : World) : Prop :=
  ∃ v us, e = .returned (.tuple #[v, .nilIface]) ∧ w'.ownsRow w.heap.size 9 1 v us.length (namesV (us.map segName)) ∧ Useless d.now mk ss us ∧ Rdg w w' B lp p bD bN pv (readL mk ss) d n nD nN
set_option maxRecDepth 100000 in
set_option maxHeartbeats 8000000 in
theorem read_all (B lp p bD bN n nD nN mk : Nat) (ss : List Sg) (pv : Value) (d : ADisk) (w : World) (h : LogIn w B lp p bD bN pv (.slice none 0 0) (.slice none 0 0) (log0 0) d n nD nN) (hB : 3 ≤ B) (hdn : d.down = false) (hst : Stands d.now mk ss) (hne : tailL d.now mk ss ≠ []) (hpow : Pows w) (herr : ErrS w) (hlen : nextOf mk ss ≤ n) (hsn : ss.length + 1 ≤ n) (hn4 : n + 8 ≤ 1000000000) :
    Calls Tryz.prog 60 #[.pointer (some ⟨lp, 0, none⟩)] w (ReadAll B lp p bD bN n nD nN mk ss pv d w) := by
  have c0 := blk_cell h.blk 0
  simp at c0
  have hBw := h.disk.base.2.2.2
  have hlpw : lp < w.heap.size := (Array.getElem?_eq_some_iff.1 h.blk).1
  have HI : Hid (LogIn w B lp p bD bN pv (.slice none 0 0) (.slice none 0 0) (log0 0) d n nD nN) := h
  have HP : Hid (Pows w ∧ ErrS w) := ⟨hpow, herr⟩
  have HX : Hid (Stands d.now mk ss ∧ tailL d.now mk ss ≠ []) := ⟨hst, hne⟩
  have HLB : Hid (lp < w.heap.size ∧ B ≤ lp) := ⟨hlpw, h.base⟩
  have HSEP : Hid ((w.heap[lp]? ≠ none ∧ ∀ c fr, w.heap[lp]? ≠ some (.cells c 9 fr)) ∧ (p ≠ lp ∧ bD ≠ lp ∧ bN ≠ lp ∧ pv.ownBlock ≠ some lp)) := by
    refine ⟨⟨by rw [h.blk]; simp, fun c fr e => by rw [h.blk] at e; cases e⟩, (h.sep p (by simp)).1, (h.sep bD (by simp)).1, (h.sep bN (by simp)).1, fun e => (h.sep lp (by simp [e])).1 rfl⟩
  have hR0 : Rdn w w B lp p bD bN pv (log0 0) d n nD nN := ⟨Fr.refl _ _, h⟩
  have HLOW : Hid (∀ W', Fr [lp] w W' → Pows W' ∧ ErrS W') := fun W' ho => by
    have hnb : ∀ k, k < B → W'.heap[k]? = w.heap[k]? := fun k hk => ho.block k (by omega) (by simp; have := h.base; omega)
    refine ⟨hpow.of_block (hnb 1 (by omega)), ?_⟩
    obtain ⟨ev, e1, e2⟩ := herr
    exact ⟨ev, (World.cell?_of_block (a := ⟨2, 0, none⟩) (hnb 2 (by omega))).trans e1, e2⟩
  clear h hpow hst herr hne
  have hm := Tryz.mNames
  have hlenU := Tryz.lenUL
  go_enter Tryz.func60, Tryz.ntmps60
  go_wp2_with fail
  refine (names_any B p bD bN n nD nN pv d w HI.out.disk hdn).mono ?_
  rintro e w1 ⟨v1, ns, rfl, hns, hrow1, hb1⟩
  obtain ⟨cl, ecl, hnd, hmem⟩ := HX.out.1.names hns
  have hcln : cl.Nodup := map_nodup (by rw [← ecl]; exact hns.1)
  have hu64 : ∀ u ∈ segN cl, u < nextOf mk ss + 1 := fun u hu => by
    rcases HX.out.1.other _ ((hmem u).1 hu) with e | e | ⟨v, e, _, h3⟩
    · exact absurd e (segName_mark u).1
    · exact absurd e (segName_mark u).2
    · obtain rfl := segName_inj e
      have hmn : mk ≤ nextOf mk ss := Nat.le_add_right _ _
      rcases h3 with h3 | h3 | h3
      · omega
      · have := (HX.out.1.start h3).2.2; omega
      · omega
  have hcl1 : cl.length ≤ nextOf mk ss + 1 + 2 := nm_len hcln (fun u hu => hu64 u (segN_mem.2 hu))
  have hsne : segN cl ≠ [] := fun e => by
    obtain ⟨u, hu⟩ := List.exists_mem_of_ne_nil _ HX.out.2
    have := (hmem u).2 ((HX.out.1.tail_mem u).1 hu).1
    rw [e] at this; simp at this
  have hcl0 : 0 < cl.length := by have := segN_le cl; have := List.length_pos_iff.2 hsne; omega
  have hcll : cl.length = ns.length := by rw [ecl, List.length_map]
  rw [← hcll] at hrow1
  obtain ⟨g1, k1, rfl⟩ := own_pos hrow1 hcl0
  have hR1 := hR0.new (Fr.of_below hb1 _)
  have hl1 := hR1.log
  have k0 := blk_cell hl1.blk 0
  simp at k0
  have hnm1 : NmAt w1 g1 cl := fun k o hk => by
    have := hrow1.cells (g := g1) rfl k (.string (nmA o)) (by rw [ecl]; simp [hk])
    simpa [Addr.add_lit] using this
  have hg1 := (hrow1.lt g1 rfl).2
  have hg1w := (hrow1.lt g1 rfl).1
  have H1 : Hid (Rdn w w1 B lp p bD bN pv (log0 0) d n nD nN ∧ NmAt w1 g1 cl) := ⟨hR1, hnm1⟩
  have HCL : Hid ((segN cl).Nodup ∧ (∀ u, u ∈ segN cl ↔ d.now (segName u) ≠ none) ∧ (∀ u ∈ segN cl, u < nextOf mk ss + 1) ∧ segN cl ≠ []) := ⟨hnd, hmem, hu64, hsne⟩
  clear hR0 hR1 hl1 hb1 c0 hnm1 hrow1 hns ecl hcll hnd hmem hcln hu64 hsne
  go_wp2_with fail
  refine (readMark_all B p bD bN n nD nN mk ss pv d w1 H1.out.1.log.disk hdn HX.out.1).mono ?_
  rintro e w2 ⟨rfl, hb2⟩
  have hR2 := H1.out.1.new (Fr.of_below hb2 _)
  have hl2 := hR2.log
  have m4 := blk_cell hl2.blk 4
  have f4 := blk_free hl2.blk 4
  simp at m4
  have hg2 : g1 < w2.heap.size := Nat.lt_of_lt_of_le hg1 hb2.size
  have hsn2 : NmAt w2 g1 cl := fun k o hk => (hb2.cell (p := ⟨g1, k, none⟩) hg1).trans (H1.out.2 k o hk)
  obtain ⟨W, hW⟩ : ∃ W, W = w2.setCell ⟨lp, 4, none⟩ (.int .u64 (mk : Int)) := ⟨_, rfl⟩
  have hf3 : Fr [lp] w2 W := by rw [hW]; exact Fr.set1 (by simp) _ _
  have hb3 : W.heap[lp]? = some (logO p (.slice none 0 0) (.slice none 0 0) (readL mk [])) := by
    rw [hW]
    have := blk_set hl2.blk 4 (.int .u64 (mk : Int))
    simp [log0, readL, nextOf, fillOf, starts] at this ⊢
    exact this
  have hmk1 : mk ≤ nextOf mk ss := Nat.le_add_right _ _
  have hl3 : LogIn W B lp p bD bN pv (.slice none 0 0) (.slice none 0 0) (readL mk []) d n nD nN := hl2.own1 hf3 hb3 (by simp [readL, starts]) (by simp [readL]) (by show fillOf [] ≤ 4096; simp [fillOf]) (by show nextOf mk [] ≤ n + 1; rw [nextOf_nil]; omega) hl2.durN (by simp [log0, readL, starts]) (by simp [log0, readL])
  have hR3 : Rdn w W B lp p bD bN pv (readL mk []) d n nD nN := ⟨hR2.fr.trans hf3, hl3⟩
  have hglp : g1 ≠ lp := by have := HLB.out.1; omega
  have hsn3 : NmAt W g1 cl := fun k u hk => (World.cell?_of_block (a := ⟨g1, k, none⟩) (hf3.block g1 hg2 (by simpa using hglp))).trans (hsn2 k u hk)
  have hg3 : g1 < W.heap.size := Nat.lt_of_lt_of_le hg2 hf3.size
  have hWs : w.heap.size ≤ W.heap.size := hR3.fr.size
  have has := among_all g1 k1 cl W hg3 hsn3 (fun u hu => by have := HCL.out.2.2.1 u hu; omega) HCL.out.2.2.2 (by omega) HCL.out.1 (HLOW.out W hR3.fr).1 (HLOW.out W hR3.fr).2 (by omega)
  have m4' := blk_cell hl3.blk 4
  simp [readL, nextOf_nil] at m4'
  have H3 : Hid (Rdn w W B lp p bD bN pv (readL mk []) d n nD nN) := hR3
  clear hR2 hR3 hl2 hl3 hf3 hb3 hsn3 hsn2 hb2 H1 k0
  obtain ⟨M, hM⟩ : ∃ M, M = (segN cl).length := ⟨_, rfl⟩
  have HM : Hid (M = (segN cl).length) := hM
  rw [← hM] at has
  have hMle : M ≤ 1000000000 := by have := segN_le cl; omega
  clear hM
  subst hW
  go_wp2_with fail
  refine has.mono ?_
  clear has
  rintro e w4 ⟨g4, c4, l4, rfl, hpm, hasc, hrow4, hb4⟩
  have hl4n : l4.length = M := by rw [hpm.length_eq, HM.out]
  have hl4a : l4.Pairwise (· < ·) := by
    have h1 : l4.Pairwise (· ≤ ·) := AscTo.pairwise (by rw [hl4n]; exact hasc)
    have h2 : l4.Nodup := hpm.nodup_iff.2 HCL.out.1
    exact (h1.and h2).imp (fun {a b} hab => Nat.lt_of_le_of_ne hab.1 hab.2)
  have hl4m : ∀ u, u ∈ l4 ↔ d.now (segName u) ≠ none := fun u => by rw [hpm.mem_iff]; exact HCL.out.2.1 u
  have hR4 := H3.out.new (Fr.of_below hb4 _)
  have hl4 := hR4.log
  have HS4 : Hid (∀ (k u : Nat), l4[k]? = some u → w4.cell? ⟨g4, k, none⟩ = some (.int .u64 (u : Int))) := fun k u hk => by
    have := hrow4.cells (g := g4) rfl k (.int .u64 (u : Int)) (by unfold u64s; simp [hk])
    simpa [Addr.add_lit] using this
  have hg4 := hrow4.lt g4 rfl
  have n4 := blk_cell hl4.blk 4
  simp [readL, nextOf_nil] at n4
  have hsr := search_all g4 c4 M mk l4 w4 HS4.out hl4n hl4a hMle
  have H4 : Hid (Rdn w w4 B lp p bD bN pv (readL mk []) d n nD nN) := hR4
  have HL4 : Hid (l4.Pairwise (· < ·) ∧ (∀ u, u ∈ l4 ↔ d.now (segName u) ≠ none) ∧ l4.length = M) := ⟨hl4a, hl4m, hl4n⟩
  have hc4 : M ≤ c4 := by
    rcases hrow4.2 with ⟨h', _⟩ | ⟨g', cap', cur, h', _, _, hnc, _⟩
    · simp at h'
    · simp only [Value.slice.injEq, Option.some.injEq, Addr.mk.injEq, and_true, true_and] at h'
      obtain ⟨_, rfl⟩ := h'; exact hnc
  have hg4w : w.heap.size ≤ g4 := by have := hg4.1; have := hWs; simp at *; omega
  have hw4s := hR4.fr.size
  clear hR4 hl4 hrow4 m4' hpm hasc hl4a hl4m hl4n hb4
  go_wp2_with fail
  refine hsr.mono ?_
  clear hsr
  rintro e w5 ⟨k, bo, rfl, hkM, hkp, rfl⟩
  have hparts := HX.out.1.parted HL4.out.1 HL4.out.2.1 hkp
  have husl := HX.out.1.useless HL4.out.1 HL4.out.2.1 hkp
  have hkM2 : k < M := by
    rcases Nat.lt_or_ge k M with h | h
    · exact h
    · exfalso
      apply HX.out.2
      rw [← hparts, List.drop_of_length_le (by rw [HL4.out.2.2]; exact h)]
  have HT : Hid (l4.drop k = tailL d.now mk ss ∧ Useless d.now mk ss (l4.take k ++ deadL d.now mk ss) ∧ M - k = ss.length + (deadL d.now mk ss).length) := by
    refine ⟨hparts, husl, ?_⟩
    rw [← tail_len (F := d.now) mk ss, ← hparts, List.length_drop, HL4.out.2.2]
  have hno := namesOf_some g4 0 k c4 (l4.take k) w5 (by rw [List.length_take, HL4.out.2.2]; omega) (by omega) (fun j x hj => by
    rw [List.getElem?_take] at hj
    split at hj
    · refine ⟨by simpa using HS4.out j x hj, ?_⟩
      have h1 := (HL4.out.2.1 x).1 (List.mem_of_getElem? hj)
      have h2 := HCL.out.2.2.1 x ((HCL.out.2.1 x).2 h1)
      omega
    · cases hj) hg4.2 (HLOW.out w5 H4.out.fr).1 (by omega)
  clear hparts husl hkp
  have i1 : (k : Int) ≤ (M : Int) := by omega
  have i2 : (k : Int) ≤ (c4 : Int) := by omega
  have i3 : k < c4 := by omega
  have i4 : ¬ (c4 : Int) - (k : Int) = 0 := by omega
  have i5 : ¬ c4 - k = 0 := by omega
  have i6 : ¬ k = c4 := by omega
  go_wp2_with fail
  refine hno.mono ?_
  clear hno
  rintro e w6 ⟨v6, rfl, hrow6, hb6⟩
  have hR6 := H4.out.new (Fr.of_below hb6 _)
  have hw56 := hb6.size
  have HS6 : Hid (∀ (j u : Nat), (tailL d.now mk ss)[j]? = some u → w6.cell? ⟨g4, k + j, none⟩ = some (.int .u64 (u : Int))) := fun j u hj => by
    rw [← HT.out.1, List.getElem?_drop] at hj
    exact (hb6.cell (p := ⟨g4, k + j, none⟩) hg4.2).trans (HS4.out _ u hj)
  have HR6 : Hid (Rdn w w6 B lp p bD bN pv (readL mk []) d n nD nN ∧ w6.ownsRow w.heap.size 9 1 v6 (l4.take k ++ (deadL d.now mk ss).take (0 - ss.length)).length (namesV ((l4.take k ++ (deadL d.now mk ss).take (0 - ss.length)).map segName))) := by
    refine ⟨hR6, ?_⟩
    simp only [Nat.zero_sub, List.take_zero, List.append_nil]
    rw [List.length_take, HL4.out.2.2, Nat.min_eq_left (by omega)]
    exact own_base0 hrow6 hw4s
  have hg46 : g4 < w6.heap.size := by have := hg4.2; omega
  obtain ⟨T, hT⟩ : ∃ T, T = M - k := ⟨_, rfl⟩
  have HTT : Hid (T = M - k) := hT
  have jT : (M : Int) - (k : Int) = (T : Int) := by omega
  clear hrow6 hb6 hR6 n4 H4
  go_wp2
  go_loopw [58, 9] (fun i v wr => ∃ j : Nat, j ≤ T ∧ i = .int .i64 j ∧ Hid (Newer w.heap.size v ∧ Rdg w wr B lp p bD bN pv (readL mk (ss.take j)) d n nD nN ∧ wr.ownsRow w.heap.size 9 1 v (l4.take k ++ (deadL d.now mk ss).take (j - ss.length)).length (namesV ((l4.take k ++ (deadL d.now mk ss).take (j - ss.length)).map segName)) ∧ (j ≤ ss.length → Rdg w6 wr B lp p bD bN pv (readL mk (ss.take j)) d n nD nN))) (fun i _ _ => T - (intOf i).toNat)
  case atStart =>
    have h6 : Rdg w6 w6 B lp p bD bN pv (readL mk (ss.take 0)) d n nD nN := Rdn.rdg ⟨Fr.refl _ _, HR6.out.1.log⟩
    exact ⟨0, Nat.zero_le _, rfl, (fun q hq => (HR6.out.2.lt q hq).1), Rdg.from HR6.out.1.fr h6, HR6.out.2, fun _ => h6⟩
  case round =>
    obtain ⟨j, hjT, rfl, hR⟩ := hrel
    by_cases hlt : j < T
    · obtain ⟨u, hu⟩ : ∃ u, (tailL d.now mk ss)[j]? = some u := ⟨_, List.getElem?_eq_getElem (by rw [tail_len]; have := HT.out.2.2; have := HTT.out; omega)⟩
      have hdl : (deadL d.now mk ss).length ≤ 1 := by rcases dead_cases d.now mk ss with e | e <;> rw [e.1] <;> simp
      have hjs : j ≤ ss.length := by have := HT.out.2.2; have := HTT.out; omega
      have hQ := hR.out.2.2.2 hjs
      have hbk : wr.heap[g4]? = w6.heap[g4]? := hQ.fr.block g4 hg46 (by simp; omega)
      have ck := (World.cell?_of_block (a := ⟨g4, k + j, none⟩) hbk).trans (HS6.out j u hu)
      have l1 : (j : Int) < (T : Int) := by omega
      have hlw := HLOW.out wr hR.out.2.1.fr
      obtain ⟨sv, rv, hl, hns, hnr⟩ := hQ.log
      rcases Nat.lt_or_ge j ss.length with hjl | hjl
      · obtain ⟨s, hs⟩ : ∃ s, ss[j]? = some s := ⟨_, List.getElem?_eq_getElem hjl⟩
        have eu : u = nextOf mk (ss.take j) := by rw [tail_at mk ss hjl] at hu; exact (Option.some.inj hu).symm
        obtain ⟨x1, x2, x3, x4, x5, x6, x7⟩ := HX.out.1.at_ hs
        have hro := readOnG B lp p bD bN n nD nN pv sv rv (readL mk (ss.take j)) d s.1 s.2 wr hl hdn x1 x2 x3 x5 x4 hlw.1 (by have h1 := x7; have h2 := hlen; unfold nextOf at h1 h2; show ((chunks (ss.take j)).flatten).length + s.1.length ≤ n; omega) (by show (starts _ _).length + 1 ≤ n; rw [starts_len]; simp; omega) (by show nextOf mk (ss.take j) + s.1.length ≤ n + 1; omega) (by rw [encR_bytes]; omega)
        have es : (⟨(readL mk (ss.take j)).segs ++ [(readL mk (ss.take j)).next], fillS (s.1, s.2), (readL mk (ss.take j)).recs ++ s.1, (readL mk (ss.take j)).next + s.1.length, (readL mk (ss.take j)).durable, (readL mk (ss.take j)).failed⟩ : ALog) = readL mk (ss.take (j + 1)) := by rw [takeS_at hs, readL_snoc]; rfl
        rw [es] at hro
        have en : (readL mk (ss.take j)).next = u := by rw [eu]; rfl
        rw [en] at hro
        have HW : Hid (Rdg w6 wr B lp p bD bN pv (readL mk (ss.take j)) d n nD nN ∧ Newer w6.heap.size sv ∧ Newer w6.heap.size rv ∧ (wr.ownsRow B 34 1 sv (readL mk (ss.take j)).segs.length (u64s (readL mk (ss.take j)).segs)) ∧ (wr.ownsRow B 44 3 rv (readL mk (ss.take j)).recs.length (recsV (readL mk (ss.take j)).recs))) := ⟨hQ, hns, hnr, hl.segs, hl.recs⟩
        have HJ : Hid (j < ss.length) := hjl
        clear hl hQ x1 x2 x3 x4 x5 x6 x7 eu es en hs hu hlw hns hnr hjl hjs
        go_wp2_with fail
        refine hro.mono ?_
        clear hro
        rintro e w7 ⟨rfl, ⟨sv7, rv7, hl7, hs7, hr7⟩, hf7⟩
        have hq7 : Rdg w6 w7 B lp p bD bN pv (readL mk (ss.take (j + 1))) d n nD nN := by
          refine ⟨HW.out.1.fr.andThen hf7 (fun q hq hql => ?_), sv7, rv7, hl7, HW.out.2.1.near hs7 HW.out.1.fr.size, HW.out.2.2.1.near hr7 HW.out.1.fr.size⟩
          rcases List.mem_cons.1 hq with e | hq
          · simp [e]
          · rcases List.mem_append.1 hq with hq | hq
            · simp at hq; have := HW.out.2.1 q hq; omega
            · simp at hq; have := HW.out.2.2.1 q hq; omega
        have hv7 : w7.ownsRow w.heap.size 9 1 u9 (l4.take k ++ (deadL d.now mk ss).take (j + 1 - ss.length)).length (namesV ((l4.take k ++ (deadL d.now mk ss).take (j + 1 - ss.length)).map segName)) := by
          have hjl := HJ.out
          have h0 := hR.out.2.2.1
          rw [show j - ss.length = 0 by omega] at h0
          rw [show j + 1 - ss.length = 0 by omega]
          refine ownsRow_fr h0 hf7 (fun q hq hm => ?_)
          obtain ⟨c, hc⟩ := own_cells h0 hq
          rcases List.mem_cons.1 hm with e | hm
          · have := hR.out.1 q hq; omega
          · rcases List.mem_append.1 hm with hm | hm
            · simp at hm; exact own_ne HW.out.2.2.2.1 hc (by decide) hm
            · simp at hm; exact own_ne HW.out.2.2.2.2 hc (by decide) hm
        have H7 : Hid (Newer w.heap.size u9 ∧ Rdg w w7 B lp p bD bN pv (readL mk (ss.take (j + 1))) d n nD nN ∧ w7.ownsRow w.heap.size 9 1 u9 (l4.take k ++ (deadL d.now mk ss).take (j + 1 - ss.length)).length (namesV ((l4.take k ++ (deadL d.now mk ss).take (j + 1 - ss.length)).map segName)) ∧ (j + 1 ≤ ss.length → Rdg w6 w7 B lp p bD bN pv (readL mk (ss.take (j + 1))) d n nD nN)) := ⟨hR.out.1, Rdg.from HR6.out.1.fr hq7, hv7, fun _ => hq7⟩
        clear hq7 hv7 hl7 hs7 hr7 hf7
        go_wp2
        go_roundw
        case rel => exact ⟨j + 1, by omega, by simp, H7.out⟩
        case measure => simp [intOf]; omega
      · obtain rfl : j = ss.length := by omega
        have hnl : ss.take ss.length = ss := List.take_length
        rcases dead_cases d.now mk ss with hdd | hdd
        · exfalso
          have h1 := HT.out.2.2
          have h2 := HTT.out
          rw [hdd.1] at h1
          simp at h1
          omega
        · obtain ⟨t, ht⟩ : ∃ t, d.now (segName (nextOf mk ss)) = some t := Option.ne_none_iff_exists'.1 hdd.2
          obtain ⟨b, rfl, hb⟩ := HX.out.1.dead t ht
          have eu : u = nextOf mk ss := by
            unfold tailL at hu
            rw [hdd.1, List.getElem?_append_right (by rw [starts_len]; simp)] at hu
            rw [starts_len] at hu
            simp at hu
            exact hu.symm
          rw [hnl] at hl
          have hro := readOn0 B lp p bD bN n nD nN pv sv rv (readL mk ss) d b wr hl hdn hb ht hlw.1
          have en : (readL mk ss).next = u := by rw [eu]; rfl
          rw [en] at hro
          have hu64 : u < 18446744073709551616 := by rw [eu]; have := HX.out.1.big; omega
          have HU : Hid (u = nextOf mk ss ∧ deadL d.now mk ss = [nextOf mk ss]) := ⟨eu, hdd.1⟩
          have h00 := hR.out.2.2.1
          rw [Nat.sub_self, List.take_zero, List.append_nil] at h00
          have HV : Hid (wr.ownsRow w.heap.size 9 1 u9 (l4.take k).length (namesV ((l4.take k).map segName))) := h00
          have hwr := hR.out.2.1.fr.size
          have hkl : (l4.take k).length ≤ 1000000000 := by rw [List.length_take]; omega
          clear hl hQ hu hlw hns hnr hjs ht hb hdd en eu h00 hnl hdl
          go_wp2_with fail
          refine hro.mono ?_
          clear hro
          rintro e w7 ⟨rfl, hb7⟩
          have hq7 := hR.out.2.1.new (Fr.of_below hb7 _)
          have hv7 := own_grow0 HV.out hb7
          have hp7 := (HLOW.out w7 hq7.fr).1
          have HB7 : Hid (Rdg w w7 B lp p bD bN pv (readL mk (ss.take ss.length)) d n nD nN ∧ w7.ownsRow w.heap.size 9 1 u9 (l4.take k).length (namesV ((l4.take k).map segName))) := ⟨hq7, hv7⟩
          clear hq7 hv7 hb7
          go_wp2_with fail
          refine (segmentName_any u w7 hu64 hp7).mono ?_
          rintro e w8 ⟨rfl, hb8⟩
          have hq8 := HB7.out.1.new (Fr.of_below hb8 _)
          have hv8 := own_grow0 HB7.out.2 hb8
          have hw8 := hq8.fr.size
          have HB8 : Hid (Rdg w w8 B lp p bD bN pv (readL mk (ss.take ss.length)) d n nD nN ∧ w8.ownsRow w.heap.size 9 1 u9 (l4.take k).length (namesV ((l4.take k).map segName))) := ⟨hq8, hv8⟩
          clear hq8 hv8 hb8 HB7
          go_wp2_with (at_builtin; refine wpList_name rfl _ _ rfl w.heap.size u9 (l4.take k).length ((l4.take k).map segName) (segName u) w8.heap.size rfl (HB8.out.2.alloc _) rfl (by simp) (by omega) (by simp; omega) ?_; intro v9 w9 ho9 hg9)
          have hq9 := Rdg.texts HI.out.disk HLB.out.1 HSEP.out.1 HSEP.out.2 (HB8.out.1.new ((Fr.refl [] w8).alloc (.cells #[.string (segName u)] 9))) (HB8.out.2.alloc _) hR.out.1 hg9
          have H9 : Hid (Newer w.heap.size v9 ∧ Rdg w w9 B lp p bD bN pv (readL mk (ss.take ss.length)) d n nD nN ∧ w9.ownsRow w.heap.size 9 1 v9 (l4.take k ++ (deadL d.now mk ss).take (ss.length + 1 - ss.length)).length (namesV ((l4.take k ++ (deadL d.now mk ss).take (ss.length + 1 - ss.length)).map segName))) := by
            refine ⟨fun q hq => (ho9.lt q hq).1, hq9, ?_⟩
            rw [show ss.length + 1 - ss.length = 1 by omega, HU.out.2, ← HU.out.1]
            simpa using ho9
          clear hq9 ho9 hg9
          go_roundw
          case rel => exact ⟨ss.length + 1, by omega, by simp, H9.out.1, by rw [List.take_of_length_le (by omega : ss.length ≤ ss.length + 1)]; have := H9.out.2.1; rwa [List.take_length] at this, H9.out.2.2, fun h => by omega⟩
          case measure => simp [intOf]; omega
    · obtain rfl : j = T := by omega
      have l1 : ¬ (j : Int) < (j : Int) := by omega
      have HFIN : Hid (j = ss.length + (deadL d.now mk ss).length) := by have := HT.out.2.2; have := HTT.out; show _ = _; omega
      go_wp2
      go_ret2
      obtain ⟨_, h2, h3, _⟩ := hR.out
      have e2 : ss.take j = ss := List.take_of_length_le (by have := HFIN.out; omega)
      have e3 : (deadL d.now mk ss).take (j - ss.length) = deadL d.now mk ss := List.take_of_length_le (by have := HFIN.out; omega)
      rw [e2] at h2
      rw [e3] at h3
      exact ⟨_, _, rfl, h3, HT.out.2.1, h2⟩
end Go.Proofs.YtbdhmkfdofkloaaGreatDoor
