import Derived.Test.YtejiankgafjppabGreatDoorC42
import Derived.Test.YtejiankgafjppabGreatDoorC34
import Derived.Test.YtejiankgafjppabGreatDoorC39
import Derived.Test.YtejiankgafjppabGreatDoorC32
import Derived.Test.YtejiankgafjppabGreatDoorC33
import Derived.Test.YtejiankgafjppabGreatDoorC37
/- THE NAMES OF FEW SEGMENTS; a log so far as it is read. Mathematics. -/
namespace Go.Proofs.YtejiankgafjppabGreatDoor
open Go.RowKit
open Sc

theorem namesF_nodup (fst : Nat) (cs : List (List Rec)) (h : ∀ c ∈ cs, c ≠ []) : (namesF fst cs).Nodup := by
  have h1 : ((starts (fst + 1) cs).map segName).Nodup := by
    refine List.Pairwise.map _ (fun a b hab e => ?_) (starts_asc cs (fst + 1) h).1
    have := segName_inj e
    omega
  unfold namesF
  by_cases h0 : fst = 0
  · simp only [h0, if_true, List.nil_append]
    rw [h0] at h1
    exact h1
  · simp only [h0, if_false, List.singleton_append]
    refine List.nodup_cons.2 ⟨?_, h1⟩
    intro hm
    obtain ⟨s, _, e⟩ := List.mem_map.1 hm
    exact (segName_mark s).1 e
theorem names_len {fst : Nat} {cs : List (List Rec)} {ns : List ByteArray} (h : ∀ c ∈ cs, c ≠ []) (hn : NamesOk (filesOf fst cs) ns) : ns.length ≤ cs.length + 1 := by
  have hp : ns.Perm (namesF fst cs) := (List.perm_ext_iff_of_nodup hn.1 (namesF_nodup fst cs h)).2 (fun k => by rw [hn.2, namesF_all])
  rw [hp.length_eq]
  unfold namesF
  rw [List.length_append, List.length_map, starts_len]
  split <;> simp <;> omega
theorem names_cl0 (P : Nat → Prop) : ∀ (ns : List ByteArray), (∀ k ∈ ns, k = markNm ∨ ∃ s, P s ∧ k = segName s) → ∃ cl : List (Option Nat), ns = cl.map nmOf
  | [], _ => ⟨[], rfl⟩
  | k :: ns, h => by
    obtain ⟨cl, e⟩ := names_cl0 P ns (fun x hx => h x (by simp [hx]))
    rcases h k (by simp) with hk | ⟨s, _, hk⟩
    · exact ⟨none :: cl, by simp [nmOf, hk, e]⟩
    · exact ⟨some s :: cl, by simp [nmOf, hk, e]⟩
theorem nmOf_inj {a b : Option Nat} (h : nmOf a = nmOf b) : a = b := by
  cases a with
  | none =>
    cases b with
    | none => rfl
    | some v => exact absurd h.symm (segName_mark v).1
  | some u =>
    cases b with
    | none => exact absurd h (segName_mark u).1
    | some v => rw [segName_inj h]
theorem names_cl {fst : Nat} {cs : List (List Rec)} {ns : List ByteArray} (h : ∀ c ∈ cs, c ≠ []) (hn : NamesOk (filesOf fst cs) ns) : ∃ cl, ns = cl.map nmOf ∧ (segO cl).Perm (starts (fst + 1) cs) := by
  obtain ⟨cl, e⟩ := names_cl0 (fun _ => True) ns (fun k hk => by
    have h1 := (namesF_all fst cs k).1 ((hn.2 k).1 hk)
    unfold namesF at h1
    rcases List.mem_append.1 h1 with h1 | h1
    · left
      by_cases h0 : fst = 0
      · simp [h0] at h1
      · simpa [h0] using h1
    · obtain ⟨s, _, rfl⟩ := List.mem_map.1 h1
      exact .inr ⟨s, trivial, rfl⟩)
  refine ⟨cl, e, ?_⟩
  have hcl : cl.Nodup := by
    have := hn.1
    rw [e] at this
    exact (List.pairwise_map.1 this).imp (fun {a b} hab e => hab (by rw [e]))
  have hsn : (segO cl).Nodup := by
    unfold segO
    refine List.Pairwise.filterMap id (fun a b hab x hx y hy e => hab ?_) hcl
    simp at hx hy
    rw [hx, hy, e]
  refine (List.perm_ext_iff_of_nodup hsn ((starts_asc cs (fst + 1) h).1.imp (fun {a b} (hab : a < b) => Nat.ne_of_lt hab))).2 (fun u => ?_)
  have h1 : u ∈ segO cl ↔ some u ∈ cl := by unfold segO; simp [List.mem_filterMap]
  have h2 : some u ∈ cl ↔ segName u ∈ ns := by
    rw [e, List.mem_map]
    exact ⟨fun hx => ⟨some u, hx, rfl⟩, fun ⟨o, ho, e⟩ => by rw [← nmOf_inj (a := o) (b := some u) e]; exact ho⟩
  rw [h1, h2, hn.2, filesOf_seg]
  constructor
  · intro hx
    refine Classical.byContradiction fun hc => hx (segF_none cs _ _ (fun s hs e => hc ?_))
    rw [segName_inj e]; exact hs
  · exact segF_some cs _ u
/-- a log so far as it is read -/
def logK (fst : Nat) (cs : List (List Rec)) (k : Nat) : ALog := ⟨starts (fst + 1) (cs.take k), if k = 0 then 600 else bytesR ((cs.take k).getLastD []), (cs.take k).flatten, fst + 1 + (cs.take k).flatten.length, 0, 0⟩
theorem logK_all (fst : Nat) (cs : List (List Rec)) (h : cs ≠ []) : logK fst cs cs.length = logM fst cs := by
  unfold logK logM
  rw [List.take_length, if_neg (by intro e; exact h (List.eq_nil_of_length_eq_zero e))]
theorem takeC_at {cs : List (List Rec)} {k : Nat} {c : List Rec} (h : cs[k]? = some c) : cs.take (k + 1) = cs.take k ++ [c] := by rw [List.take_add_one, h]; rfl
theorem logK_succ (fst : Nat) (cs : List (List Rec)) (k : Nat) (c : List Rec) (h : cs[k]? = some c) :
    logK fst cs (k + 1) = ⟨(logK fst cs k).segs ++ [(logK fst cs k).next], (encR c).length, (logK fst cs k).recs ++ c, (logK fst cs k).next + c.length, (logK fst cs k).durable, (logK fst cs k).failed⟩ := by
  unfold logK
  rw [takeC_at h, starts_snoc, flat_snoc, if_neg (by omega), encR_bytes]
  simp
  omega
theorem asc_eq {a b : List Nat} (hp : a.Perm b) (ha : AscTo a a.length) (hb : b.Pairwise (· < ·)) : a = b :=
  List.Perm.eq_of_pairwise (le := (· ≤ ·)) (fun _ _ _ _ h1 h2 => Nat.le_antisymm h1 h2) ha.pairwise (hb.imp (fun h => Nat.le_of_lt h)) hp
end Go.Proofs.YtejiankgafjppabGreatDoor
/- RECOVERY OVER FEW SEGMENTS: (*Log).read. -/
namespace Go.Proofs.YtejiankgafjppabGreatDoor
open Go.RowKit Go.Maps
open Sc

/-- a disk that has few segments of a log, all whole -/
structure FewD (d : ADisk) (fst : Nat) (cs : List (List Rec)) : Prop where
  now : d.now = filesOf fst cs
  ne : ∀ c ∈ cs, c ≠ []
  some_ : cs ≠ []
  few : cs.length ≤ 3
  size : ∀ c ∈ cs, bytesR c < 870
  nums : ∀ (k : Nat) (r : Rec), cs.flatten[k]? = some r → r.lsn = fst + 1 + k
  fine : ∀ r ∈ cs.flatten, r.kind < 256 ∧ r.pay.length ≤ 255 ∧ Byt r.pay
  n64 : fst + 1 + cs.flatten.length < 18446744073709551616
theorem FewD.at_ {d : ADisk} {fst : Nat} {cs : List (List Rec)} (h : FewD d fst cs) {k : Nat} {c : List Rec} (hk : cs[k]? = some c) :
    FineX c ∧ (∀ (j : Nat) (r : Rec), c[j]? = some r → r.lsn = (logK fst cs k).next + j) ∧ c ≠ [] ∧ d.now (segName (logK fst cs k).next) = some (str (encR c)) ∧ (encR c).length ≤ 4096 ∧ (cs.take k).flatten.length + c.length ≤ cs.flatten.length := by
  have hm := List.mem_of_getElem? hk
  have hsp : cs.flatten = (cs.take k).flatten ++ (c ++ (cs.drop (k + 1)).flatten) := by
    have h1 := flat_split (k + 1) cs
    rw [takeC_at hk, flat_snoc, List.append_assoc] at h1
    exact h1
  have hat : ∀ (j : Nat) (r : Rec), c[j]? = some r → cs.flatten[(cs.take k).flatten.length + j]? = some r := fun j r hj => by
    rw [hsp, List.getElem?_append_right (by omega), show (cs.take k).flatten.length + j - (cs.take k).flatten.length = j by omega, List.getElem?_append_left (List.getElem?_eq_some_iff.1 hj).1]
    exact hj
  refine ⟨fun r hr => ?_, fun j r hj => ?_, h.ne c hm, ?_, ?_, ?_⟩
  · obtain ⟨j, hj⟩ := List.mem_iff_getElem?.1 hr
    have h1 := hat j r hj
    have h2 := h.nums _ r h1
    have h3 := (List.getElem?_eq_some_iff.1 h1).1
    obtain ⟨f1, f2, f3⟩ := h.fine r (List.mem_of_getElem? h1)
    have := h.n64
    exact ⟨f1, f2, f3, by omega⟩
  · have := h.nums _ r (hat j r hj)
    show r.lsn = fst + 1 + (cs.take k).flatten.length + j
    omega
  · show d.now (segName (fst + 1 + (cs.take k).flatten.length)) = _
    rw [h.now, filesOf_seg]
    exact segF_at cs (fst + 1) k c h.ne hk
  · rw [encR_bytes]; have := h.size c hm; omega
  · rw [hsp]; simp
theorem readMark_any (B p bD bN n nD nN fst : Nat) (cs : List (List Rec)) (pv : Value) (d : ADisk) (w : World) (h : DiskIn w B p bD bN pv d n nD nN) (hdn : d.down = false) (hno : d.now = filesOf fst cs) (hf : fst + 1 < 18446744073709551616) :
    Calls Tryz.prog 195 #[dskV p] w fun e w' => e = .returned (.tuple #[.int .u64 ((fst + 1 : Nat) : Int), .nilIface]) ∧ Below w.heap.size w w' := by
  by_cases h0 : fst = 0
  · subst h0
    exact readMark_none B p bD bN n nD nN pv d w h hdn (by rw [hno]; unfold filesOf; rw [if_pos rfl]; exact (segF_mark cs 1).1)
  · exact readMark_some B p bD bN n nD nN (fst + 1) pv d w h hdn (by rw [hno]; unfold filesOf; rw [if_neg h0, Files.set_same]) hf
theorem flat_len : ∀ {cs : List (List Rec)}, (∀ c ∈ cs, c ≠ []) → cs.length ≤ cs.flatten.length
  | [], _ => Nat.le_refl _
  | c :: cs, h => by
    have h1 : 0 < c.length := List.length_pos_iff.2 (h c (by simp))
    have h2 := flat_len (cs := cs) (fun x hx => h x (by simp [hx]))
    simp at h2 ⊢
    omega
set_option maxRecDepth 100000 in
set_option maxHeartbeats 4000000 in
theorem read_few (B lp p bD bN n nD nN fst : Nat) (cs : List (List Rec)) (pv : Value) (d : ADisk) (w : World) (h : LogIn w B lp p bD bN pv (.slice none 0 0) (.slice none 0 0) (log0 0) d n nD nN) (hB : 3 ≤ B) (hdn : d.down = false) (hfw : FewD d fst cs) (hpow : Pows w) (herr : ErrS w) (hlen : fst + 1 + cs.flatten.length ≤ n) :
    Calls Tryz.prog 141 #[.pointer (some ⟨lp, 0, none⟩)] w fun e w' => e = .returned (.tuple #[.slice none 0 0, .nilIface]) ∧ (∃ sv rv, LogIn w' B lp p bD bN pv sv rv (logM fst cs) d n nD nN) ∧ OFr lp p w w' := by
  have c0 := blk_cell h.blk 0
  simp at c0
  have hBw := h.disk.base.2.2.2
  have hn := h.disk.hn
  have HI : Hid (LogIn w B lp p bD bN pv (.slice none 0 0) (.slice none 0 0) (log0 0) d n nD nN) := h
  have HP : Hid (Pows w ∧ ErrS w) := ⟨hpow, herr⟩
  have HX : Hid (FewD d fst cs) := hfw
  have hfew := hfw.few
  clear h hpow hfw herr
  have hm := Tryz.mNames
  have hlenU := Tryz.lenUT
  go_enter Tryz.func141, Tryz.ntmps141
  go_wp2_with fail
  refine (names_any B p bD bN n nD nN pv d w HI.out.disk hdn).mono ?_
  rintro e w1 ⟨v1, ns, rfl, hns, hrow1, hb1⟩
  rw [HX.out.now] at hns
  have hnl := names_len HX.out.ne hns
  obtain ⟨cl, ecl, hperm⟩ := names_cl HX.out.ne hns
  have hcll : cl.length = ns.length := by rw [ecl, List.length_map]
  have hsl : (segO cl).length = cs.length := by rw [hperm.length_eq, starts_len]
  have hcp : 0 < cs.length := List.length_pos_iff.2 HX.out.some_
  have hcl0 : 0 < cl.length := by have := segO_le cl; omega
  rw [← hcll] at hrow1
  obtain ⟨g1, k1, rfl⟩ := own_pos hrow1 hcl0
  have hf1 : Fr [] w w1 := Fr.of_below hb1 _
  have hl1 := HI.out.new hf1
  have ho1 := HI.out.newO hf1
  have k0 := blk_cell hl1.blk 0
  simp at k0
  have hnm1 : NmCells w1 g1 cl := fun k o hk => by
    have := hrow1.cells (g := g1) rfl k (.string (nmOf o)) (by rw [ecl]; simp [hk])
    simpa [Addr.add_lit] using this
  have hg1 := (hrow1.lt g1 rfl).2
  have H1 : Hid (LogIn w1 B lp p bD bN pv (.slice none 0 0) (.slice none 0 0) (log0 0) d n nD nN ∧ OFr lp p w w1 ∧ NmCells w1 g1 cl) := ⟨hl1, ho1, hnm1⟩
  have hcl4 : cl.length ≤ 4 := by omega
  have HCL : Hid ((segO cl).Perm (starts (fst + 1) cs) ∧ (segO cl).length = cs.length) := ⟨hperm, hsl⟩
  clear hl1 ho1 hf1 hb1 c0 hnm1 hrow1 hns hperm ecl hcll hsl hnl
  go_wp2_with fail
  refine (readMark_any B p bD bN n nD nN fst cs pv d w1 H1.out.1.disk hdn HX.out.now (by have := HX.out.n64; omega)).mono ?_
  rintro e w2 ⟨rfl, hb2⟩
  obtain ⟨f1, hf1e⟩ : ∃ f1, f1 = fst + 1 := ⟨_, rfl⟩
  rw [← hf1e]
  have HF1 : Hid (f1 = fst + 1) := hf1e
  have hf2 : Fr [] w1 w2 := Fr.of_below hb2 _
  have hl2 := H1.out.1.new hf2
  have ho2 := H1.out.2.1.trans (H1.out.1.newO hf2)
  have m4 := blk_cell hl2.blk 4
  have f4 := blk_free hl2.blk 4
  simp at m4
  have hg2 : g1 < w2.heap.size := Nat.lt_of_lt_of_le hg1 hb2.size
  have hsn2 : NmCells w2 g1 cl := fun k o hk => (hb2.cell (p := ⟨g1, k, none⟩) hg1).trans (H1.out.2.2 k o hk)
  have H2 : Hid (LogIn w2 B lp p bD bN pv (.slice none 0 0) (.slice none 0 0) (log0 0) d n nD nN ∧ OFr lp p w w2 ∧ NmCells w2 g1 cl) := ⟨hl2, ho2, hsn2⟩
  have hglp : g1 ≠ lp := fun e => by
    obtain ⟨o, ho⟩ : ∃ o, cl[0]? = some o := ⟨_, List.getElem?_eq_getElem hcl0⟩
    have hx := H2.out.2.2 0 o ho
    have hy := blk_cell hl2.blk 0
    rw [e] at hx
    rw [hx] at hy
    simp at hy
  clear hl2 ho2 hf2 hb2 k0 hsn2
  obtain ⟨W, hW⟩ : ∃ W, W = w2.setCell ⟨lp, 4, none⟩ (.int .u64 (f1 : Int)) := ⟨_, rfl⟩
  have hf3 : Fr [lp] w2 W := by rw [hW]; exact Fr.set1 (by simp) _ _
  have hb3 : W.heap[lp]? = some (logO p (.slice none 0 0) (.slice none 0 0) (logK fst cs 0)) := by rw [hW]; have := blk_set H2.out.1.blk 4 (.int .u64 (f1 : Int)); simp [log0, logK, starts, ← hf1e] at this ⊢; exact this
  have hl3 : LogIn W B lp p bD bN pv (.slice none 0 0) (.slice none 0 0) (logK fst cs 0) d n nD nN := H2.out.1.own1 hf3 hb3 H2.out.1.segsN H2.out.1.recsN H2.out.1.fillN (by show fst + 1 + (cs.take 0).flatten.length ≤ n + 1; simp; omega) H2.out.1.durN rfl rfl
  have ho3 : OFr lp p w W := H2.out.2.1.trans (H2.out.1.ofr hl3 hf3 (fun k hk _ => by simp at hk; simp [hk]) (.inl rfl) (Near.refl _ _) (Near.refl _ _) (Near.refl _ _))
  have hsn3 : NmCells W g1 cl := fun k u hk => (World.cell?_of_block (a := ⟨g1, k, none⟩) (hf3.block g1 hg2 (by simpa using hglp))).trans (H2.out.2.2 k u hk)
  have hg3 : g1 < W.heap.size := Nat.lt_of_lt_of_le hg2 hf3.size
  have lowF : ∀ W', OFr lp p w W' → Pows W' ∧ ErrS W' := fun W' ho => by
    have hnb : ∀ k, k < B → W'.heap[k]? = w.heap[k]? := fun k hk => ho.block k (by omega) (fun hw => by have := HI.out.ge hw; omega)
    refine ⟨HP.out.1.of_block (hnb 1 (by omega)), ?_⟩
    obtain ⟨ev, e1, e2⟩ := HP.out.2
    exact ⟨ev, (World.cell?_of_block (a := ⟨2, 0, none⟩) (hnb 2 (by omega))).trans e1, e2⟩
  have HLF := toHid lowF
  have hBW := hl3.disk.base.2.2.2
  have has := among_mix g1 k1 cl W hg3 hsn3 (by
    intro u hu
    have h1 := HCL.out.1.mem_iff.1 hu
    have h2 := starts_lt cs (fst + 1) HX.out.ne u h1
    have := HX.out.n64
    omega) (by intro e; have hsl := HCL.out.2; rw [e] at hsl; simp at hsl; omega) (by omega) (lowF W ho3).1 (lowF W ho3).2 (by omega)
  have m4' := blk_cell hl3.blk 4
  simp [logK, ← hf1e] at m4'
  have H3 : Hid (LogIn W B lp p bD bN pv (.slice none 0 0) (.slice none 0 0) (logK fst cs 0) d n nD nN ∧ OFr lp p w W) := ⟨hl3, ho3⟩
  clear hl3 ho3 hf3 hb3 hsn3 lowF hf1e
  rw [HCL.out.2] at has
  subst hW
  go_wp2_with fail
  refine has.mono ?_
  clear has
  rintro e w4 ⟨g4, c4, l4, rfl, hpm, hasc, hrow4, hb4⟩
  have el4 : l4 = starts (fst + 1) cs := asc_eq (hpm.trans HCL.out.1) (by rw [hpm.length_eq, HCL.out.2]; exact hasc) (starts_asc cs (fst + 1) HX.out.ne).1
  subst el4
  have hf4 : Fr [] _ w4 := Fr.of_below hb4 _
  have hl4 := H3.out.1.new hf4
  have ho4 := H3.out.2.trans (H3.out.1.newO hf4)
  have HS4 : Hid (∀ (k u : Nat), (starts (fst + 1) cs)[k]? = some u → w4.cell? ⟨g4, k, none⟩ = some (.int .u64 (u : Int))) := fun k u hk => by
    have := hrow4.cells (g := g4) rfl k (.int .u64 (u : Int)) (by unfold u64s; simp [hk])
    simpa [Addr.add_lit] using this
  have hG4 := own_cells hrow4 rfl
  have hg4b := (hrow4.lt g4 rfl).1
  have n4 := blk_cell hl4.blk 4
  simp [logK, ← HF1.out] at n4
  have H4 : Hid (LogIn w4 B lp p bD bN pv (.slice none 0 0) (.slice none 0 0) (logK fst cs 0) d n nD nN ∧ OFr lp p w w4) := ⟨hl4, ho4⟩
  have hst0 : (starts (fst + 1) cs)[0]? = some (fst + 1) := by
    have := starts_at cs (fst + 1) 0 hcp
    simpa using this
  have hsr := search_few g4 c4 (starts (fst + 1) cs) (fst + 1) w4 HS4.out (starts_asc cs (fst + 1) HX.out.ne).1 hst0 (by rw [starts_len]; exact hfew)
  rw [starts_len, ← HF1.out] at hsr
  clear hl4 ho4 hf4 hrow4 m4' hpm hasc hst0
  have HNO : Hid (¬ Own lp p w4 g4 ∧ g4 < w4.heap.size) := by
    refine ⟨fun ho => ?_, (Array.getElem?_eq_some_iff.1 hG4.choose_spec).1⟩
    rcases (H4.out.1.own g4).1 ho with e | e | e | e | e | e | e
    · have := (Array.getElem?_eq_some_iff.1 H3.out.1.blk).1; omega
    · have := (Array.getElem?_eq_some_iff.1 H3.out.1.disk.blk).1; omega
    · have := H3.out.1.disk.dur.lt; omega
    · have := H3.out.1.disk.now.lt; omega
    · have := (H3.out.1.disk.pen.lt g4 e).2; omega
    · cases e
    · cases e
  clear hG4 hg4b
  go_wp2_with fail
  refine hsr.mono ?_
  clear hsr
  rintro e w5 ⟨rfl, rfl⟩
  obtain ⟨M, hM⟩ : ∃ M, M = cs.length := ⟨_, rfl⟩
  have HM : Hid (M = cs.length) := hM
  rw [← hM] at hfew hcp ⊢
  have HFL : Hid (cs.length ≤ cs.flatten.length) := flat_len HX.out.ne
  clear hM
  go_wp2_with fail
  refine (namesOf_zero g4 c4 w5).mono ?_
  rintro e w6 ⟨rfl, rfl⟩
  go_wp2
  go_loopw [58, 9] (fun i v wr => ∃ k : Nat, k ≤ M ∧ i = .int .i64 k ∧ v = .slice none 0 0 ∧ Hid ((∃ sv rv, LogIn wr B lp p bD bN pv sv rv (logK fst cs k) d n nD nN) ∧ OFr lp p w wr ∧ OFr lp p w6 wr ∧ ¬ Own lp p wr g4)) (fun i _ _ => M - (intOf i).toNat)
  case atStart => exact ⟨0, Nat.zero_le _, rfl, rfl, ⟨_, _, H4.out.1⟩, H4.out.2, OFr.refl _ _ _, HNO.out.1⟩
  case round =>
    obtain ⟨k, hk, rfl, rfl, hR⟩ := hrel
    by_cases hlt : k < M
    · obtain ⟨c, hc⟩ : ∃ c, cs[k]? = some c := ⟨_, List.getElem?_eq_getElem (by have := HM.out; omega)⟩
      obtain ⟨⟨sv, rv, hl⟩, ho, ho6, hno⟩ := hR.out
      obtain ⟨x1, x2, x3, x4, x5, x6⟩ := HX.out.at_ hc
      have hbk : wr.heap[g4]? = w6.heap[g4]? := ho6.block g4 HNO.out.2 HNO.out.1
      have ck := (World.cell?_of_block (a := ⟨g4, k, none⟩) hbk).trans (HS4.out k (logK fst cs k).next (starts_at cs (fst + 1) k (by have := HM.out; omega)))
      have hkr : (logK fst cs k).recs.length = (cs.take k).flatten.length := rfl
      have hks : (logK fst cs k).segs.length ≤ k := by show (starts _ _).length ≤ k; rw [starts_len, List.length_take]; omega
      have hkn : (logK fst cs k).next = fst + 1 + (cs.take k).flatten.length := rfl
      have hro := readOn_any B lp p bD bN n nD nN pv sv rv (logK fst cs k) d c wr hl hdn x1 x2 x3 x4 (HLF.out wr ho).1 (by rw [hkr]; omega) (by have := HM.out; have := HFL.out; omega) (by rw [hkn]; omega) x5
      rw [← logK_succ fst cs k c hc] at hro
      obtain ⟨nx, hnx⟩ : ∃ nx, nx = (logK fst cs k).next := ⟨_, rfl⟩
      rw [← hnx] at ck hro
      have HW : Hid (OFr lp p w wr ∧ OFr lp p w6 wr ∧ ¬ Own lp p wr g4 ∧ g4 < wr.heap.size) := ⟨ho, ho6, hno, Nat.lt_of_lt_of_le HNO.out.2 ho6.size⟩
      clear hl ho ho6 hno x1 x2 x3 x4 x5 x6 hbk hkr hks hkn hnx hR
      go_wp2_with fail
      refine hro.mono ?_
      clear hro
      rintro e w7 ⟨rfl, hl7, ho7⟩
      have H7 : Hid ((∃ sv rv, LogIn w7 B lp p bD bN pv sv rv (logK fst cs (k + 1)) d n nD nN) ∧ OFr lp p w w7 ∧ OFr lp p w6 w7 ∧ ¬ Own lp p w7 g4) := ⟨hl7, HW.out.1.trans ho7, HW.out.2.1.trans ho7, fun hx => HW.out.2.2.1 (ho7.stay g4 HW.out.2.2.2 hx)⟩
      clear hl7 ho7
      go_wp2
      go_roundw
      case rel => exact ⟨k + 1, by omega, by simp, rfl, H7.out⟩
      case measure => simp [intOf]; omega
    · obtain rfl : k = M := by omega
      go_wp2
      go_ret2
      obtain ⟨hl, ho, _⟩ := hR.out
      rw [HM.out, logK_all fst cs HX.out.some_] at hl
      exact ⟨rfl, hl, ho⟩
end Go.Proofs.YtejiankgafjppabGreatDoor
/- RECOVERY OVER FEW SEGMENTS: journal.Open. (Written by mkrcf.py, from RecF.) -/
namespace Go.Proofs.YtejiankgafjppabGreatDoor
open Go.RowKit Go.Maps
open Sc

set_option maxRecDepth 100000 in
set_option maxHeartbeats 4000000 in
theorem jopen_few (B p bD bN n nD nN fst : Nat) (cs : List (List Rec)) (pv : Value) (d : ADisk) (w : World) (h : DiskIn w B p bD bN pv d n nD nN) (hB : 3 ≤ B) (hdn : d.down = false) (hfw : FewD d fst cs) (hpow : Pows w) (herr : ErrS w) (hlen : fst + 1 + cs.flatten.length ≤ n) (hr : ((logM fst cs).opens d).2.2 = 0) :
    Calls Tryz.prog 82 #[dskV p] w (OpenPost B p bD bN n ((logM fst cs).opens d) w) := by
  have hn := h.hn
  have hb0 := h.base
  obtain ⟨W, hW⟩ : ∃ W, W = (w.alloc (.cells #[dskV p] 153)).alloc (logO p (.slice none 0 0) (.slice none 0 0) (log0 0)) := ⟨_, rfl⟩
  have hf0 : Fr [] w W := by rw [hW]; exact ((Fr.refl [] w).alloc _).alloc _
  have hdb : W.heap[w.heap.size]? = some (.cells #[dskV p] 153) := by rw [hW, Below.heap_alloc _ _ w.heap.size (by simp)]; exact heap_alloc_new w _
  have hlb : W.heap[w.heap.size + 1]? = some (logO p (.slice none 0 0) (.slice none 0 0) (log0 0)) := by rw [hW]; have := heap_alloc_new (w.alloc (.cells #[dskV p] 153)) (logO p (.slice none 0 0) (.slice none 0 0) (log0 0)); rw [World.size_alloc] at this; exact this
  have hl0 : LogIn W B (w.heap.size + 1) p bD bN pv (.slice none 0 0) (.slice none 0 0) (log0 0) d n nD nN := { disk := h.new hf0, blk := hlb, base := by omega, segs := World.ownsRow_nil _ _ _ _, recs := World.ownsRow_nil _ _ _ _, segsN := ⟨by simp [log0], by simp [log0]⟩, recsN := by simp [log0], fillN := by simp [log0], nextN := by simp [log0], durN := by simp [log0] }
  have HW : Hid (DiskIn w B p bD bN pv d n nD nN ∧ Fr [] w W) := ⟨h, hf0⟩
  have H0 : Hid (LogIn W B (w.heap.size + 1) p bD bN pv (.slice none 0 0) (.slice none 0 0) (log0 0) d n nD nN) := hl0
  have HDB : Hid (W.heap[w.heap.size]? = some (.cells #[dskV p] 153)) := hdb
  have HX : Hid (FewD d fst cs ∧ Pows W ∧ ErrS W) := ⟨hfw, hpow.of_block (hf0.block 1 (by omega) (by simp)), by obtain ⟨ev, e1, e2⟩ := herr; exact ⟨ev, (World.cell?_of_block (a := ⟨2, 0, none⟩) (hf0.block 2 (by omega) (by simp))).trans e1, e2⟩⟩
  have hnil := Tryz.eqNil p
  clear h hf0 hdb hlb hl0 hfw hpow herr
  go_enter Tryz.func82, Tryz.ntmps82
  go_wp2_with fail
  have hW2 : W = (w.alloc (.cells #[dskV p] 153)).alloc (.cells #[dskV p, .slice none 0 0, .int .i64 600, .slice none 0 0, .int .u64 0, .int .u64 0, .nilIface] 229) := hW
  rw [← hW2]
  clear hW hW2
  refine (read_few B (w.heap.size + 1) p bD bN n nD nN fst cs pv d W H0.out hB hdn HX.out.1 HX.out.2.1 HX.out.2.2 hlen).mono ?_
  rintro e w1 ⟨rfl, ⟨sv, rv, hl1⟩, ho1⟩
  have hdb1 := (ho1.block w.heap.size (Array.getElem?_eq_some_iff.1 HDB.out).1 (H0.out.free HDB.out (by decide) (by decide) (by decide) (by decide) (by decide))).trans HDB.out
  obtain ⟨W2, hW2⟩ : ∃ W2, W2 = (w1.alloc (.cells #[.slice none 0 0] 65)).alloc (.cells #[.func (.func 143) #[.pointer (some ⟨w.heap.size + 1, 0, none⟩)] #[], .func (.func 144) #[] #[.pointer (some ⟨w.heap.size, 0, none⟩), .pointer (some ⟨w1.heap.size, 0, none⟩)]] 96) := ⟨_, rfl⟩
  have hf2 : Fr [] w1 W2 := by rw [hW2]; exact ((Fr.refl [] w1).alloc _).alloc _
  have hu2 : W2.heap[w1.heap.size]? = some (.cells #[.slice none 0 0] 65) := by rw [hW2, Below.heap_alloc _ _ w1.heap.size (by simp)]; exact heap_alloc_new w1 _
  have hst2 : W2.heap[w1.heap.size + 1]? = some (.cells #[.func (.func 143) #[.pointer (some ⟨w.heap.size + 1, 0, none⟩)] #[], .func (.func 144) #[] #[.pointer (some ⟨w.heap.size, 0, none⟩), .pointer (some ⟨w1.heap.size, 0, none⟩)]] 96) := by
    rw [hW2]; have := heap_alloc_new (w1.alloc (.cells #[.slice none 0 0] 65)) (.cells #[.func (.func 143) #[.pointer (some ⟨w.heap.size + 1, 0, none⟩)] #[], .func (.func 144) #[] #[.pointer (some ⟨w.heap.size, 0, none⟩), .pointer (some ⟨w1.heap.size, 0, none⟩)]] 96); rw [World.size_alloc] at this; exact this
  have hdb2 : W2.heap[w.heap.size]? = some (.cells #[dskV p] 153) := (hf2.block w.heap.size (Array.getElem?_eq_some_iff.1 hdb1).1 (by simp)).trans hdb1
  have HC : Hid (Calls Tryz.prog 142 #[.slice (some ⟨w1.heap.size + 1, 0, none⟩) 2 2] W2 (PutL B (w.heap.size + 1) p bD bN n [] ((logM fst cs).opens d) W2)) := inTurnO B (w.heap.size + 1) p bD bN n nD nN (w1.heap.size + 1) w.heap.size w1.heap.size pv sv rv (logM fst cs) d W2 (hl1.new hf2) hn hst2 hdb2 hu2
  have HO : Hid (OFr (w.heap.size + 1) p W W2) := ho1.trans (hl1.newO hf2)
  clear hl1 ho1 hdb1 hf2 hu2 hst2 hdb2
  go_wp2_with fail
  rw [← hW2]
  clear hW2
  refine HC.out.mono ?_
  rintro e w3 ⟨rfl, ⟨pv3, sv3, rv3, nD3, nN3, hl3⟩, ho3⟩
  have H3 : Hid (LogIn w3 B (w.heap.size + 1) p bD bN pv3 sv3 rv3 ((logM fst cs).opens d).1 ((logM fst cs).opens d).2.1 n nD3 nN3) := hl3
  have HD : Hid (DFr p w w3) := DFr.ofO HW.out.1 H0.out HW.out.2 (by omega) (HO.out.trans ho3.ofr) hl3
  clear hl3 ho3
  rw [hr, errN_ok]
  go_wp2
  go_ret2
  exact ⟨w.heap.size + 1, rfl, by omega, ⟨pv3, sv3, rv3, nD3, nN3, H3.out⟩, HD.out⟩
end Go.Proofs.YtejiankgafjppabGreatDoor
/- A SHARD OVER A LOG OF MANY SEGMENTS: the power fails behind a checkpoint; it is opened again. -/
namespace Go.Proofs.YtejiankgafjppabGreatDoor
open Go.RowKit Go.Maps
open Sc

theorem ckAll_one (nx : Nat) (v : ByteArray) : ckAll nx [(kk, v)] = [⟨nx, 254, []⟩, ⟨nx + 1, 132, valB kk v⟩, ⟨nx + 2, 255, []⟩] := by
  unfold ckAll ckR valEs
  rw [sortV_one]
  simp [notedR]
/-- a disk that a checkpoint left, nothing being open -/
structure CkD (d : ADisk) (n fst : Nat) (cs : List (List Rec)) (v : ByteArray) : Prop where
  few : FewD d fst cs
  pen : d.pending = []
  dur : d.durable = d.now
  up : d.down = false
  recs : ∃ pre nx, cs.flatten = pre ++ ckAll nx [(kk, v)] ∧ (∀ r ∈ pre, r.lsn < nx) ∧ 0 < nx
  len : fst + 1 + cs.flatten.length ≤ n
def Ld (w : World) (B hp M : Nat) (v : ByteArray) : Prop := ∃ n d fst cs, n ≤ 11 + M ∧ HCl w B hp n d ∧ CkD d n fst cs v
section
variable (B hp M : Nat) (v : ByteArray) (w : World)
theorem lxLose (kept : Int) (h : Lz w B hp M (sV v)) (hhp : B ≤ hp) (hM : M ≤ 1000000) :
    Calls Tryz.prog 17 #[.pointer (some ⟨hp, 0, none⟩), .int .i64 kept, .int .i64 0] w fun e w' => e = .returned (.tuple #[]) ∧ Ld w' B hp M v ∧ HFr B w w' := by
  obtain ⟨m, n, l, d, fst, cs, pre, nx, h1, h2, h3, h4, h5, h6, h7, h8, h9, h10⟩ := h
  have hnx : l.next ≤ n + 1 := by
    obtain ⟨p, sp, gp, bV, bT, bH, lp, bD, bN, hh, hs, hb⟩ := h3
    obtain ⟨pv, sv, rv, nD, nN, hl⟩ := hs.lg
    exact hl.nextN
  have hln := h4.ok.next
  refine (hLose_s B hp m n (sV v) l d kept w h3 hhp h6.1).mono ?_
  rintro e w' ⟨rfl, ⟨p, bD, bN, pv, nD, nN, hh, hd⟩, hf⟩
  have hn : n + 1 ≤ 67108864 := by omega
  refine ⟨rfl, ⟨n + 1, d.up.knob (-1) (-1), fst, cs, by omega, ⟨p, bD, bN, pv, nD, nN, hh, hd.mores (by omega) hn⟩, ?_⟩, hf⟩
  refine { few := { now := ?_, ne := h4.ok.ne, some_ := ?_, few := h7, size := h4.ok.size, nums := h4.ok.nums, fine := h4.fine, n64 := by omega }, pen := rfl, dur := rfl, up := rfl, recs := ⟨pre, nx, h8, h9, h10⟩, len := by omega }
  · show d.durable = _
    rw [h6.2]; exact h4.now
  · intro e
    rw [e, ckAll_one] at h8
    simp at h8
theorem lxOpen (h : Ld w B hp M v) (hB : 3 ≤ B) (hhp : B ≤ hp) (hmet : Met w) (hpow : Pows w) (herr : ErrS w) (hM : M ≤ 1000000) (hv : v.size ≤ 32) :
    Calls Tryz.prog 18 #[.pointer (some ⟨hp, 0, none⟩), wellV] w fun e w' => e = .returned (.int .i64 0) ∧ (∃ m n l d, m ≤ 67108864 ∧ HSt w' B hp m n (sV v) l d) ∧ HFr B w w' := by
  obtain ⟨n, d, fst, cs, h1, ⟨p, bD, bN, pv, nD, nN, hh, hd⟩, hc⟩ := h
  obtain ⟨pre, nx, hr1, hr2, hr3⟩ := hc.recs
  have hw : (d.knob (-1) (-1)).Well 0 := well_knob hc.up
  have hfew : FewD (d.knob (-1) (-1)) fst cs := { hc.few with now := hc.few.now }
  have hop := opensE (logM fst cs) hw
  obtain ⟨R, hR⟩ : ∃ R, R = (logM fst cs).opens (d.knob (-1) (-1)) := ⟨_, rfl⟩
  have r0 : R.2.2 = 0 := by rw [hR, hop]
  have r1 : R.2.1.down = false := by rw [hR, hop]; exact hc.up
  have r2 : R.1.recs = cs.flatten := by rw [hR, hop]; rfl
  have hkz : kk.size = 1 := rfl
  rw [ckAll_one] at hr1
  obtain ⟨k1, k2⟩ := counted_ck pre nx (valB kk v) hr3 hr2
  rw [← hr1, ← r2] at k1 k2
  have hfin : ∀ r ∈ R.1.recs, r.kind < 256 ∧ r.pay.length ≤ 255 ∧ Byt r.pay := fun r hr => hc.few.fine r (by rw [← r2]; exact hr)
  have hlen : R.1.recs.length ≤ n := by rw [r2]; have := hc.len; omega
  have hnn := hd.hn
  refine (hOpen_g B hp p bD bN n nD nN pv d (-1) (-1) 0 0 (fun _ s => s = sV v) R w hh hd (by omega) hhp hmet (fun W hW hbW => ?_) r1).mono ?_
  · have hpre : ShPreQ (fun q s => (q = [] ∧ s = sh0) ∨ (q ≠ [] ∧ s = sV v)) B p bD bN n R W := by
      refine { disk := ⟨_, _, _, _, hW⟩, jop := fun W' hW' => ?_, k256 := fun r hr => (hfin r hr).1, cp := by rw [k1]; exact Nat.ne_of_gt hr3, byt := fun r hr => ⟨(hfin r hr).2.2, by have := (hfin r hr).2.1; omega⟩, none := .inl ⟨rfl, rfl⟩, ents := ?_, few := by rw [k2]; unfold maxLen; simp, num := hd.hn }
      · rw [hR]
        have hb1 := hW.base.2.2.2
        refine jopen_few B p bD bN n nD nN fst cs pv (d.knob (-1) (-1)) W' (hW.new hW') hB hc.up hfew ((hpow.of_block (hbW.block 1 (by omega))).of_block (hW'.block 1 (by omega) (by simp))) ?_ hc.len (by rw [← hR]; exact r0)
        obtain ⟨ev, e1, e2⟩ := herr.below hbW (by omega)
        exact ⟨ev, (World.cell?_of_block (a := ⟨2, 0, none⟩) (hW'.block 2 (by omega) (by simp))).trans e1, e2⟩
      · intro q x s' hq hJ
        rw [k2] at hq
        have hq1 : q = [] ∧ x = ⟨nx + 1, 132, valB kk v⟩ := by
          cases q with
          | nil => simpa using hq
          | cons y q => have := hq.length_le; simp at this
        obtain ⟨rfl, rfl⟩ := hq1
        rcases hJ with ⟨_, rfl⟩ | ⟨hne, _⟩
        · have e4 : (132 : Nat) % 128 = 4 := by decide
          dsimp only
          rw [e4]
          exact Entr.vald (nx + 1) kk v (by omega) (by omega) (show _ ∨ _ from Or.inr ⟨by simp, rfl⟩)
        · exact absurd rfl hne
    refine (openShard_q _ B p bD bN n R W hpre).mono ?_
    rintro e w2 ⟨sp, gp, bV, bT, bH, lp, s', rfl, hJ, hrest⟩
    have hs' : s' = sV v := by
      rcases hJ with ⟨e, _⟩ | ⟨_, e⟩
      · rw [k2] at e; simp at e
      · exact e
    exact ⟨sp, gp, bV, bT, bH, lp, s', rfl, hs', hrest⟩
  · rintro e w' ⟨rfl, s', rfl, hH, hF⟩
    exact ⟨rfl, ⟨_, n, _, _, by omega, hH⟩, hF⟩
end
end Go.Proofs.YtejiankgafjppabGreatDoor
/- HOSTS OF A SHARD: Size. -/
namespace Go.Proofs.YtejiankgafjppabGreatDoor
open Go.RowKit Go.Maps Go.Sort
open Sc

abbrev bA (x : List UInt8) : ByteArray := ⟨x.toArray⟩
theorem weighs_snoc (m : Files) (l : List (List UInt8)) (x : List UInt8) : weighs m ((l ++ [x]).map bA) = weighs m (l.map bA) + weigh m (bA x) := by rw [List.map_append, weighs_app]; simp [weighs]
set_option maxRecDepth 100000 in
set_option maxHeartbeats 4000000 in
theorem size_dsk (B hp p bD bN n nD nN : Nat) (pv lv : Value) (up : Bool) (d : ADisk) (w : World) (hh : w.heap[hp]? = some (hostS p up lv)) (h : DiskIn w B p bD bN pv d n nD nN) (hW : ∀ ks : List ByteArray, ks.Nodup → (∀ k ∈ ks, d.durable k ≠ none) → weighs d.durable ks ≤ 3000) :
    Calls Tryz.prog 16 #[.pointer (some ⟨hp, 0, none⟩)] w fun e w' => ∃ z : Nat, z ≤ 3000 ∧ e = .returned (.int .i64 (z : Int)) ∧ Below w.heap.size w w' := by
  have c2 := blk_cell hh 2
  have c0 := blk_cell h.blk 0
  simp at c2 c0
  have hhl : hp < w.heap.size := (Array.getElem?_eq_some_iff.1 hh).1
  obtain ⟨D, hown, h5⟩ := h.dur
  have hsz := hown.size_le
  have hnD := h.hD
  have hn := h.hn
  have HW : Hid (∀ ks : List ByteArray, ks.Nodup → (∀ k ∈ ks, d.durable k ≠ none) → weighs d.durable ks ≤ 3000) := hW
  have H5 : Hid (∀ k : ByteArray, (d.durable k = none → Maps.has D (keyL k) = false) ∧ (∀ t, d.durable k = some t → Maps.has D (keyL k) = true ∧ k.size ≤ maxLen ∧ ∃ q : Nat, (∀ z, D.atKey (keyL k) z = .lit (.int .i64 (q : Int))) ∧ w.heap[q]? = some (textO t))) := h5
  clear h h5 hh hW
  go_enter Tryz.func16, Tryz.ntmps16
  go_wp2_with (first
    | (at_range; refine wpList_range_own _ rfl _ 97 rfl 9 101 Tryz.lawS Tryz.underlying97 ptrElem bD nD D rfl hown ?_; intro w0 hrg0 hg0 hs0)
    | go_in)
  go_frame
  have hbl : Below w.heap.size w w0 := ⟨hg0.os, hg0.tape, hg0.output, hg0.size, fun k hk => hg0.block k hk (by simp)⟩
  have HS : Hid (w0.ranges Tryz.prog 9 ptrElem bD w.heap.size nD D (Maps.has D) (Maps.size D) ∧ Below w.heap.size w w0) := ⟨hrg0, hbl⟩
  clear hrg0 hg0 hbl
  go_loopw [3] (fun v wr => ∃ (left : Lit → Bool) (cnt : Nat) (ss : List (List UInt8)) (z : Nat), v = .int .i64 (z : Int) ∧ Hid (z = weighs d.durable (ss.map bA) ∧ wr.ranges Tryz.prog 9 ptrElem bD w.heap.size nD D left cnt ∧ Collected D left ss ∧ Below w.heap.size w wr ∧ w.heap.size + 1 ≤ wr.heap.size))
    (fun _ wr => wr.rangeLeft bD w.heap.size)
  case atStart => exact ⟨_, _, [], 0, rfl, rfl, HS.out.1, Collected.start D, HS.out.2, by omega⟩
  case round =>
    obtain ⟨left, cnt, ss, z, rfl, HX⟩ := hrel
    have hrg := HX.out.2.1
    have HK : Hid (∀ ss' left', Collected D left' ss' → weighs d.durable (ss'.map bA) ≤ 3000) := fun ss' left' hC => HW.out _ (by
      refine List.Pairwise.map _ (fun a b hab e => hab ?_) hC.1
      have := congrArg (fun x : ByteArray => x.data.toList) e
      simpa using this) (fun k hk hno => by
        obtain ⟨x, hx, rfl⟩ := List.mem_map.1 hk
        have h1 := ((hC.2 x).1 hx).1
        have h2 := (H5.out (bA x)).1 hno
        rw [keyLB] at h1
        rw [h1] at h2; cases h2)
    go_wp2_with (first
      | (at_next; refine wpList_next_ranges _ rfl _ rfl 9 Tryz.lawS ptrElem encStr Value.pointer (fun key kl hk => by obtain ⟨x, hx, _⟩ := Maps.keyOf_str Tryz.underlying9 hk; exact ⟨x, hx⟩) (fun v y hv => ptrElem_shape hv) bD w.heap.size nD _ _ _ rfl hrg ?_ ?_)
      | go_in)
    · intro hc0 hl0
      go_wp2
      go_ret
      exact ⟨z, by rw [HX.out.1]; exact HK.out ss left HX.out.2.2.1, rfl, HX.out.2.2.2.1⟩
    · intro x c kl yd yp w2 cnt2 hkey hlk hv hat hrg2 hlt hg2 hs2 hen
      obtain ⟨x', ex, rfl, hxl⟩ := Maps.keyOf_str Tryz.underlying9 hkey
      obtain rfl : x = x' := encStr_inj ex
      have hhas := has_true_of_atKey hat
      obtain ⟨t, ht⟩ : ∃ t, d.durable (bA x) = some t := by
        cases hd : d.durable (bA x) with
        | none => have := (H5.out (bA x)).1 hd; rw [← keyLB, hhas] at this; cases this
        | some t => exact ⟨t, rfl⟩
      obtain ⟨_, _, q, hq1, hq2⟩ := (H5.out (bA x)).2 t ht
      have hyd : yd = .lit (.int .i64 (q : Int)) := by rw [← hat (.map []), keyLB, hq1]
      rw [hyd] at hv
      have hcp : Value.pointer c = .pointer (some ⟨q, 0, none⟩) := ptrElem_inv hv
      cases hcp
      have hC2 := HX.out.2.2.1.step hlk hat
      have hz2 := HX.out.2.2.2.2
      have hB2 : Below w.heap.size w w2 := HX.out.2.2.2.1.grown hg2 (by omega) (fun j hj => by cases hj; omega)
      have hql : q < w.heap.size := (Array.getElem?_eq_some_iff.1 hq2).1
      have cq := cell_blk0 ((hB2.block q hql).trans hq2) 0
      simp at cq
      have hwz := HK.out _ _ hC2
      rw [weighs_snoc, ← HX.out.1] at hwz
      have hwx : weigh d.durable (bA x) = x.length + t.size := by unfold weigh; rw [ht]; rfl
      rw [hwx] at hwz
      have HN : Hid (z + (x.length + t.size) = weighs d.durable ((ss ++ [x]).map bA) ∧ w2.ranges Tryz.prog 9 ptrElem bD w.heap.size nD D (fun zz => left zz && !zz.sameKey (.string x)) cnt2 ∧ Collected D (fun zz => left zz && !zz.sameKey (.string x)) (ss ++ [x]) ∧ Below w.heap.size w w2 ∧ w.heap.size + 1 ≤ w2.heap.size ∧ w2.rangeLeft bD w.heap.size < wr.rangeLeft bD w.heap.size) := ⟨by rw [weighs_snoc, hwx, ← HX.out.1], hrg2, hC2, hB2, by rw [hs2]; exact hz2, by rw [hrg2.left_eq, hrg.left_eq]; exact hlt⟩
      have hxz : (bA x).size = x.length := rfl
      clear hs2 hrg hrg2 hlt hC2 hB2 hhas hq1 hq2 hyd hv hat hg2 hlk hkey
      go_wp2
      exact ⟨⟨_, cnt2, ss ++ [x], z + (x.length + t.size), by simp, HN.out.1, HN.out.2.1, HN.out.2.2.1, HN.out.2.2.2.1, HN.out.2.2.2.2.1⟩, HN.out.2.2.2.2.2⟩
theorem hSize_s (B hp m n : Nat) (s : AShard) (l : ALog) (d : ADisk) (w : World) (h : HSt w B hp m n s l d) (hW : ∀ ks : List ByteArray, ks.Nodup → (∀ k ∈ ks, d.durable k ≠ none) → weighs d.durable ks ≤ 3000) :
    Calls Tryz.prog 16 #[.pointer (some ⟨hp, 0, none⟩)] w fun e w' => ∃ z : Nat, z ≤ 3000 ∧ e = .returned (.int .i64 (z : Int)) ∧ HSt w' B hp m n s l d ∧ HFr B w w' := by
  obtain ⟨p, sp, gp, bV, bT, bH, lp, bD, bN, hh, hs, hb⟩ := h
  obtain ⟨pv, sv, rv, nD, nN, hl⟩ := hs.lg
  refine (size_dsk B hp p bD bN n nD nN pv _ true d w hh hl.disk hW).mono ?_
  rintro e w' ⟨z, hz, rfl, hbl⟩
  have hf : Fr [] w w' := Fr.of_below hbl _
  obtain ⟨k1, k2⟩ := hs.new hf
  exact ⟨z, hz, rfl, ⟨p, sp, gp, bV, bT, bH, lp, bD, bN, k2.cells hs hh (by decide) (by decide) (by decide) (by decide) (by decide) (by decide), k1, hb⟩, k2.hfr hs hb⟩
end Go.Proofs.YtejiankgafjppabGreatDoor
/- A SHARD AS SPACED USES IT: its Size behind a checkpoint; the law's shard. (Written by mklxc.py, from LvC.) -/
namespace Go.Proofs.YtejiankgafjppabGreatDoor
open Go.RowKit Go.Maps
open Sc

theorem lzSize (B hp M : Nat) (v : ByteArray) (w : World) (h : Lz w B hp M (sV v)) (hM : M ≤ 1000000) :
    Calls Tryz.prog 16 #[.pointer (some ⟨hp, 0, none⟩)] w fun e w' => ∃ z : Nat, z ≤ 3000 ∧ e = .returned (.int .i64 (z : Int)) ∧ Lz w' B hp M (sV v) ∧ HFr B w w' := by
  obtain ⟨m, n, l, d, fst, cs, pre, nx, h1, h2, h3, h4, h5, h6, h7, h8⟩ := h
  have hnx : l.next ≤ n + 1 := by
    obtain ⟨p, sp, gp, bV, bT, bH, lp, bD, bN, hh, hs, hb⟩ := h3
    obtain ⟨pv, sv, rv, nD, nN, hl⟩ := hs.lg
    exact hl.nextN
  have hln := h4.ok.next
  refine (hSize_s B hp m n (sV v) l d w h3 (fun ks hk1 hk2 => ?_)).mono ?_
  · rw [h6.2, h4.now] at hk2 ⊢
    refine Nat.le_trans (weighs_sub _ ks (namesF fst cs) hk1 (fun k hk => (namesF_all fst cs k).1 (hk2 k hk))) (Nat.le_trans (weighs_all fst cs h4.ok.size h7 (fun s hs => ?_)) (by decide))
    have := starts_lt cs (fst + 1) h4.ok.ne s hs
    omega
  · rintro e w' ⟨z, hz, rfl, hs, hf⟩
    exact ⟨z, hz, rfl, ⟨m, n, l, d, fst, cs, pre, nx, h1, h2, hs, h4, h5, h6, h7, h8⟩, hf⟩
set_option maxRecDepth 100000 in
set_option maxHeartbeats 4000000 in
theorem shard_fn2 (w : World) (hmet : Met w) (hpow : Pows w) (hB : 2 ≤ w.heap.size) :
    Calls Tryz.prog 9 #[] w fun e w' => ∃ hp, e = .returned (.pointer (some ⟨hp, 0, none⟩)) ∧ w.heap.size ≤ hp ∧ Lx w' w.heap.size hp 100 1 (sV vOld) ∧ HFr w.heap.size w w' := by
  go_enter Tryz.func9, Tryz.ntmps9
  go_wp2_with fail
  refine (newHost_s w 10 (by decide)).mono ?_
  rintro e w1 ⟨hp, p, bD, bN, rfl, hh1, hd1, hhp, hb1⟩
  have H1 := toHid (show w1.heap[hp]? = some (hostS p false (.pointer none)) ∧ DiskIn w1 w.heap.size p bD bN (.slice none 0 0) ⟨fun _ => none, fun _ => none, [], -1, -1, false⟩ 10 0 0 ∧ Below w.heap.size w w1 from ⟨hh1, hd1, hb1⟩)
  clear hh1 hd1 hb1
  go_wp2_with fail
  refine (well_fn w1).mono ?_
  rintro e w2 ⟨rfl, hf2⟩
  obtain ⟨W, hW⟩ : ∃ W, W = w2.alloc (fallO (-1) (-1) 0 0) := ⟨_, rfl⟩
  have hfW : Fr [] w1 W := by rw [hW]; exact hf2.alloc _
  have hx : W.heap[w2.heap.size]? = some (fallO (-1) (-1) 0 0) := by rw [hW]; exact heap_alloc_new w2 _
  obtain ⟨x0, x1, x2, x3⟩ := fall_cells hx
  have hh := (hfW.block hp (Array.getElem?_eq_some_iff.1 H1.out.1).1 (by simp)).trans H1.out.1
  have hd := H1.out.2.1.new hfW
  have hbW : Below w.heap.size w W := H1.out.2.2.trans (hfW.below H1.out.2.1.base.2.2.2 (by simp))
  have hmW : Met W := hmet.below hbW (by omega)
  have hpW : Pows W := hpow.of_block (hbW.block 1 (by omega))
  have hop := lvOpen0 hp p bD bN w.heap.size W hh hd hB hhp hmW
  have HW := toHid (show W.heap[w2.heap.size]? = some (fallO (-1) (-1) 0 0) ∧ Below w.heap.size w W from ⟨hx, hbW⟩)
  rw [hW] at x0 x1 x2 x3
  clear hf2 hfW hx hh hd hbW
  go_wp2_with fail
  have hW' : W = w2.alloc (.cells #[.int .i64 (-1), .int .i64 (-1), .int .i64 0, .int .i64 0] 25) := hW
  rw [← hW']
  refine hop.mono ?_
  clear hop hW hW' x0 x1 x2 x3
  rintro e w3 ⟨rfl, hl3, hf3⟩
  have hm3 := hf3.met hB hmW
  have hp3 := hf3.pows hB hpW
  have hx3 := hf3.fall _ _ _ _ _ HW.out.1
  have hpu := lvPut w.heap.size hp 0 1 kk sh0 [] w3 vOld hl3 hB hm3 (by decide) (by decide) (by decide) (by decide) 0
  rw [opOne] at hpu
  have H3 := toHid (show w3.heap[w2.heap.size]? = some (fallO (-1) (-1) 0 0) ∧ HFr w.heap.size W w3 from ⟨hx3, hf3⟩)
  clear hl3 hf3 hx3
  go_wp2_with fail
  refine hpu.mono ?_
  clear hpu
  rintro e w4 ⟨rfl, hl4, hf4⟩
  have hm4 := hf4.met hB hm3
  have hp4 := hf4.pows hB hp3
  have hx4 := hf4.fall _ _ _ _ _ H3.out.1
  obtain ⟨x0, x1, x2, x3⟩ := fall_cells hx4
  have hpr := lvPrepW w.heap.size hp 3 1 kk ⟨[], [(1, ⟨1, 1, 0⟩)], [((1, kk), ⟨1, vOld⟩)], 0⟩ [] w4 ⟨1, vOld⟩ hl4 hB hm4 hp4 (by decide) (by decide) (by decide) rfl (by decide) (small1 _ _ _ _ ⟨by decide, by decide⟩) (fun L h1 h2 => one_list h1 h2) rfl (byt_app (be_byt0 _ _) bytO.1) (by have := bytO.2; simp only [List.length_append, be_len]; omega) (pre_few (show [eP1] <+: fullE 1 from ⟨_, rfl⟩) (fullFew 1 (by decide))) (pre_fine (show [eP1] <+: fullE 1 from ⟨_, rfl⟩) (fullFine 1 (by decide)))
  have H4 := toHid (show w4.heap[w2.heap.size]? = some (fallO (-1) (-1) 0 0) ∧ HFr w.heap.size W w4 from ⟨hx4, H3.out.2.trans hf4⟩)
  clear hl4 hf4 hx4
  go_wp2_with fail
  refine hpr.mono ?_
  clear hpr x0 x1 x2 x3
  rintro e w5 ⟨rfl, hl5, hf5⟩
  have hm5 := hf5.met hB hm4
  have hp5 := hf5.pows hB hp4
  have hx5 := hf5.fall _ _ _ _ _ H4.out.1
  obtain ⟨x0, x1, x2, x3⟩ := fall_cells hx5
  have hco := lvComm w.heap.size hp 6 1 ⟨[], [(1, ⟨3, 0, 0⟩)], [((1, kk), ⟨1, vOld⟩)], 0⟩ [eP1] w5 hl5 hB hm5 hp5 (by decide) (by decide) (by decide) rfl (by decide) (by intro p hp; simp at hp; subst hp; exact show vOld.size ≤ maxLen by decide) (pre_few (show [eP1, eC1] <+: fullE 1 from ⟨_, rfl⟩) (fullFew 1 (by decide))) (pre_fine (show [eP1, eC1] <+: fullE 1 from ⟨_, rfl⟩) (fullFine 1 (by decide)))
  have H5 := toHid (show w5.heap[w2.heap.size]? = some (fallO (-1) (-1) 0 0) ∧ HFr w.heap.size W w5 from ⟨hx5, H4.out.2.trans hf5⟩)
  clear hl5 hf5 hx5
  go_wp2_with fail
  refine hco.mono ?_
  clear hco x0 x1 x2 x3
  rintro e w6 ⟨rfl, ⟨s', hcm, hl6⟩, hf6⟩
  obtain ⟨vs, rfl, hvs, hoth⟩ := commV (fun q _ => rfl) hcm
  have hone : vs = [(kk, vOld)] := only_list (by obtain ⟨_, _, _, _, _, _, _, h4, _⟩ := hl6; exact h4.once) hvs hoth
  subst hone
  have hva := lvValue w.heap.size hp (6 + 20) kk (sV vOld) _ w6 hl6 (by decide)
  rw [show (sV vOld).vals = [(kk, vOld)] from rfl, hvs] at hva
  have H6 := toHid (show HFr w.heap.size W w6 from H5.out.2.trans hf6)
  clear hl6 hf6 hvs hoth hcm
  go_wp2_with fail
  refine hva.mono ?_
  clear hva
  rintro e w7 ⟨rfl, hl7, hf7⟩
  have H7 := toHid (show Lx w7 w.heap.size hp 100 1 (sV vOld) ∧ HFr w.heap.size W w7 from ⟨(hl7.x (by simp)).mono (by omega) (by omega), H6.out.trans hf7⟩)
  clear hl7 hf7
  go_wp2
  go_ret
  exact ⟨hp, rfl, hhp, H7.out.1, (HFr.ofBelow HW.out.2).trans H7.out.2⟩
end Go.Proofs.YtejiankgafjppabGreatDoor
