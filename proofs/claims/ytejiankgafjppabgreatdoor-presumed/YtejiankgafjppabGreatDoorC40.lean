import Derived.Test.YtejiankgafjppabGreatDoorC37
import Derived.Test.YtejiankgafjppabGreatDoorC39
/- THE COORDINATOR: read, Open, OpenCoordinator. -/
namespace Go.Proofs.YtejiankgafjppabGreatDoor
open Go.RowKit Go.Shelf Go.Maps
open Sc

set_option maxHeartbeats 2000000 in
theorem cread_res (n cp bT m fp M : Nat) (c : ACo) (w : World) (h : CoZ w cp bT m c) (hf : FldAt n w fp (be 8 M)) (hM : M < 18446744073709551616) (hle : c.limit ≤ M) (hlow : cp < n ∧ bT < n) :
    Calls Tryz.prog 148 #[.pointer (some ⟨cp, 0, none⟩), .int .u8 1, .pointer (some ⟨fp, 0, none⟩)] w fun e w' => e = .returned (.bool true) ∧ CoZ w' cp bT m { c with limit := M } ∧ Fr [fp, cp, bT] w w' := by
  have hc := readRes_any n cp bT m fp M c w h hf hM hle hlow
  clear h hf
  go_enter Tryz.func148, Tryz.ntmps148
  go_wp2_with fail
  refine hc.mono ?_
  clear hc
  rintro e w1 ⟨rfl, hin, hfr⟩
  have H1 := toHid (show CoZ w1 cp bT m { c with limit := M } ∧ Fr [fp, cp, bT] w w1 from ⟨hin, hfr.mono (fun k _ hk => by simp at hk; rcases hk with e | e <;> simp [e])⟩)
  clear hin hfr
  go_wp2
  go_ret
  exact ⟨rfl, H1.out⟩
set_option maxHeartbeats 2000000 in
theorem cread_com (n cp bT m fp t : Nat) (xs : List Nat) (c : ACo) (w : World) (h : CoZ w cp bT m c) (hf : FldAt n w fp (be 8 t ++ xs)) (ht : t < 18446744073709551616) (h0 : t ≠ 0) (hlt : t < c.limit) (hst : (c.tx t).state = 0) (hr : Rising xs) (hm : m + 1 < maxLen) (hlow : cp < n ∧ bT < n) :
    Calls Tryz.prog 148 #[.pointer (some ⟨cp, 0, none⟩), .int .u8 2, .pointer (some ⟨fp, 0, none⟩)] w fun e w' => e = .returned (.bool true) ∧ CoZ w' cp bT (m + 1) { c with txns := alPut c.txns t ⟨6, partsL xs 2, 0⟩ } ∧ Fr [fp, cp, bT] w w' := by
  have hc := readCom_any n cp bT m fp t xs c w h hf ht h0 hlt hst hr hm hlow
  clear h hf
  go_enter Tryz.func148, Tryz.ntmps148
  go_wp2_with fail
  refine hc.mono ?_
  clear hc
  rintro e w1 ⟨rfl, hin, hfr⟩
  have H1 := toHid (show CoZ w1 cp bT (m + 1) { c with txns := alPut c.txns t ⟨6, partsL xs 2, 0⟩ } ∧ Fr [fp, cp, bT] w w1 from ⟨hin, hfr.mono (fun k _ hk => by simp at hk; rcases hk with e | e <;> simp [e])⟩)
  clear hin hfr
  go_wp2
  go_ret
  exact ⟨rfl, H1.out⟩
/-- the entries that Presumed's coordinator notes -/
abbrev eR : Rec := ⟨1, 1, be 8 17⟩
abbrev eC (ys : List Nat) : Rec := ⟨2, 2, be 8 1 ++ ys⟩
/-- what stands behind the first k of them -/
def cst (ys : List Nat) (k : Nat) : ACo := if k = 0 then ⟨[], 0, 1, 0⟩ else if k = 1 then ⟨[], 0, 17, 0⟩ else ⟨[(1, ⟨6, partsL ys 2, 0⟩)], 0, 17, 0⟩
inductive Ents (ys : List Nat) : List Rec → Prop
  | none : Ents ys []
  | res : Ents ys [eR]
  | com (h : Rising ys) : Ents ys [eR, eC ys]
theorem Ents.len {ys : List Nat} {rs : List Rec} (h : Ents ys rs) : rs.length ≤ 2 := by cases h <;> simp
/-- an entry is read -/
theorem cread_ent (ys : List Nat) (rs pre : List Rec) (x : Rec) (n cp bT fp : Nat) (A : World) (he : Ents ys rs) (hp : pre ++ [x] <+: rs) (h : CoZ A cp bT pre.length (cst ys pre.length)) (hlow : cp < n ∧ bT < n) (hf : FldAt n A fp x.pay) :
    Calls Tryz.prog 148 #[.pointer (some ⟨cp, 0, none⟩), .int .u8 (x.kind : Int), .pointer (some ⟨fp, 0, none⟩)] A fun e w' => e = .returned (.bool true) ∧ CoZ w' cp bT (pre ++ [x]).length (cst ys (pre ++ [x]).length) ∧ Fr [fp, cp, bT] A w' := by
  have hlen := hp.length_le
  have hl2 := he.len
  rw [List.length_append, List.length_singleton] at hlen
  have hx : rs[pre.length]? = some x := by
    obtain ⟨r, hr⟩ := hp
    rw [← hr]
    simp
  cases he with
  | none => simp at hlen
  | res =>
    have h0 : pre.length = 0 := by have : ([eR] : List Rec).length = 1 := rfl; omega
    rw [h0] at hx h
    simp at hx
    subst hx
    refine (cread_res n cp bT 0 fp 17 _ A h hf (by decide) (show (1 : Nat) ≤ 17 by decide) hlow).mono ?_
    rintro e w' ⟨rfl, h1, h2⟩
    refine ⟨rfl, ?_, h2⟩
    rw [List.length_append, h0]
    exact ⟨h1.blk, h1.txns.mono (by omega), h1.nums⟩
  | com hr =>
    have h01 : pre.length = 0 ∨ pre.length = 1 := by have : ([eR, eC ys] : List Rec).length = 2 := rfl; omega
    rcases h01 with h0 | h0
    · rw [h0] at hx h
      simp at hx
      subst hx
      refine (cread_res n cp bT 0 fp 17 _ A h hf (by decide) (show (1 : Nat) ≤ 17 by decide) hlow).mono ?_
      rintro e w' ⟨rfl, h1, h2⟩
      refine ⟨rfl, ?_, h2⟩
      rw [List.length_append, h0]
      exact ⟨h1.blk, h1.txns.mono (by omega), h1.nums⟩
    · rw [h0] at hx h
      simp at hx
      subst hx
      refine (cread_com n cp bT 1 fp 1 ys _ A h hf (by decide) (by decide) (show (1 : Nat) < 17 by decide) rfl hr (by decide) hlow).mono ?_
      rintro e w' ⟨rfl, h1, h2⟩
      refine ⟨rfl, ?_, h2⟩
      rw [List.length_append, h0]
      exact h1
/-- what stands behind an opening of a coordinator -/
def CoPost (ys : List Nat) (B p bD bN n : Nat) (R : ALog × ADisk × Nat) (w : World) (e : Ending) (w' : World) : Prop :=
  ∃ cp gp bT lp, e = .returned (.tuple #[.pointer (some ⟨cp, 0, none⟩), .nilIface]) ∧ CL w' B cp gp bT R.1.recs.length lp p bD bN n { cst ys R.1.recs.length with next := (cst ys R.1.recs.length).limit } R.1 R.2.1 ∧ (w.heap.size ≤ cp ∧ w.heap.size ≤ bT) ∧ SDFr p [] w w'
/-- what an opening needs -/
structure CoPre (ys : List Nat) (B p bD bN n : Nat) (R : ALog × ADisk × Nat) (w : World) : Prop where
  disk : ∃ pv d nD nN, DiskIn w B p bD bN pv d n nD nN
  jop : ∀ W, Fr [] w W → Calls Tryz.prog 82 #[dskV p] W (OpenPost B p bD bN n R W)
  plain : PlainR R.1.recs
  first : firstN R.1.recs R.1.next = 1
  byt : ∀ r ∈ R.1.recs, Byt r.pay ∧ r.pay.length ≤ 4096
  ents : Ents ys R.1.recs
  num : n ≤ 67108864
theorem cst_nums (ys : List Nat) (k : Nat) : (cst ys k).next < 18446744073709551616 ∧ (cst ys k).limit < 18446744073709551616 ∧ (cst ys k).ticks < 18446744073709551616 := by
  unfold cst
  split
  · decide
  · split <;> exact ⟨show (0 : Nat) < _ by decide, show (17 : Nat) < _ by decide, show (0 : Nat) < _ by decide⟩
set_option maxRecDepth 100000 in
set_option maxHeartbeats 4000000 in
theorem coOpen_any (ys : List Nat) (B p bD bN n : Nat) (R : ALog × ADisk × Nat) (w : World) (h : CoPre ys B p bD bN n R w) :
    Calls Tryz.prog 84 #[dskV p] w (CoPost ys B p bD bN n R w) := by
  have hmm := @run_makeMap Tryz.prog
  obtain ⟨pv, d, nD, nN, hd⟩ := h.disk
  have hbase := hd.base
  have hnl := hd.now.lt
  have hdl := hd.dur.lt
  obtain ⟨W, hW⟩ : ∃ W, W = (w.alloc (.map #[] 0)).alloc (coO 0 w.heap.size ⟨[], 0, 1, 0⟩ (.slice none 0 0) (.slice none 0 0)) := ⟨_, rfl⟩
  have hfr : Fr [] w W := by rw [hW]; exact ((Fr.refl [] w).alloc _).alloc _
  have hsz : W.heap.size = w.heap.size + 2 := by rw [hW]; simp
  have hb0 : W.heap[w.heap.size + 1]? = some (coO 0 w.heap.size ⟨[], 0, 1, 0⟩ (.slice none 0 0) (.slice none 0 0)) := by
    rw [hW]; have := heap_alloc_new (w.alloc (.map #[] 0)) (coO 0 w.heap.size ⟨[], 0, 1, 0⟩ (.slice none 0 0) (.slice none 0 0)); rwa [World.size_alloc] at this
  have hin : CoZ W (w.heap.size + 1) w.heap.size 0 (cst ys 0) := by
    refine ⟨hb0, ?_, cst_nums ys 0⟩
    rw [hW]; exact (MapAs.made (KR := KU) (ER := EX) w).fr ((Fr.refl [] _).alloc _) (by simp)
  have hlo := cled_open B p bD bN n (w.heap.size + 1) w.heap.size R (fun pre A => CoZ A (w.heap.size + 1) w.heap.size pre.length (cst ys pre.length)) W hin (fun pre A A' hA _ hb => hA.keep hb) ⟨_, hb0⟩ hin.txns.isMap ⟨_, _, _, _, hd.new hfr⟩ ⟨by omega, by omega⟩
    (fun W' hW' => h.jop W' (hfr.trans hW')) h.plain h.first h.byt (fun pre x n' fp A hp hA h1 h2 hfa => cread_ent ys R.1.recs pre x n' _ _ fp A h.ents hp hA ⟨h1, h2⟩ hfa) h.num
  have HF := toHid (show Fr [] w W ∧ DiskIn w B p bD bN pv d n nD nN from ⟨hfr, hd⟩)
  clear h hfr hd hin hb0
  go_enter Tryz.func84, Tryz.ntmps84
  go_wp2_with fail
  have hW2 : W = (w.alloc (.map #[] 0)).alloc (.cells #[.pointer none, .map (some w.heap.size), .int .u64 0, .int .u64 1, .int .u64 0, .slice none 0 0, .slice none 0 0] 147) := hW
  rw [← hW2]
  clear hW hW2
  refine hlo.mono ?_
  clear hlo
  rintro e w1 ⟨gp, lp, rfl, hin1, ⟨pv1, sv1, rv1, nD1, nN1, hl1⟩, hg1, hgp, hsd1⟩
  have c0 := blk_cell hin1.blk 0
  have c2 := blk_cell hin1.blk 2
  have c3 := blk_cell hin1.blk 3
  have f0 := blk_free hin1.blk 0
  have f2 := blk_free hin1.blk 2
  simp at c0 c2 c3
  obtain ⟨K, hK⟩ : ∃ K, K = cst ys R.1.recs.length := ⟨_, rfl⟩
  have hnums := cst_nums ys R.1.recs.length
  have HK := toHid hK
  rw [← hK] at hin1 c2 c3 hnums
  clear hK
  obtain ⟨W2, hW2⟩ : ∃ W2, W2 = (w1.setCell ⟨w.heap.size + 1, 0, none⟩ (.pointer (some ⟨gp, 0, none⟩))).setCell ⟨w.heap.size + 1, 2, none⟩ (.int .u64 (K.limit : Int)) := ⟨_, rfl⟩
  have hf2 : Fr [w.heap.size + 1] w1 W2 := by rw [hW2]; exact (Fr.set1 (by simp) _ _).trans (Fr.set1 (by simp) _ _)
  have hgp1 : 1 ≤ gp := by omega
  have hb2 : W2.heap[w.heap.size + 1]? = some (coO gp w.heap.size { K with next := K.limit } (.slice none 0 0) (.slice none 0 0)) := by
    have := blk_set (blk_set hin1.blk 0 (.pointer (some ⟨gp, 0, none⟩))) 2 (.int .u64 (K.limit : Int))
    simp at this
    rw [hW2]; unfold coO; rw [lgP_pos hgp1]; exact this
  have HS := toHid (show CL W2 B (w.heap.size + 1) gp w.heap.size R.1.recs.length lp p bD bN n { K with next := K.limit } R.1 R.2.1 ∧ SDFr p [] w W2 from by
    refine ⟨⟨⟨⟨_, _, 0, 0, [], [], hb2, World.ownsRow_nil _ _ _ _, World.ownsRow_nil _ _ _ _, Nat.zero_le _, Nat.zero_le _⟩, hin1.txns.fr hf2 (by simp), ⟨by omega, by omega, by have := hf2.size; have := hsd1.size; omega⟩, ⟨hnums.2.1, hnums.2.1, hnums.2.2⟩⟩, ⟨pv1, sv1, rv1, nD1, nN1, hl1.apart hf2 (fun k hk _ => ?_)⟩, (hf2.block gp (Array.getElem?_eq_some_iff.1 hg1).1 (by simp; omega)).trans hg1, ⟨by omega, by omega⟩, hgp1⟩, ?_⟩
    · simp at hk
      subst hk
      exact ⟨hl1.free hin1.blk (by decide) (by decide) (by decide) (by decide) (by decide), fun t e => by rw [hin1.blk] at e; cases e⟩
    · have hf0 := HF.out.1
      have hd0 := HF.out.2
      refine ⟨hf2.os.trans (hsd1.os.trans hf0.os), hf2.tape.trans (hsd1.tape.trans hf0.tape), hf2.output.trans (hsd1.output.trans hf0.output), by have := hf2.size; have := hsd1.size; omega, fun k hk ho _ => ?_⟩
      rw [hf2.block k (by have := hsd1.size; omega) (by simp; omega), hsd1.block k (by omega) (fun ho' => ho ((hd0.ownD k).2 (((hd0.new hf0).ownD k).1 ho'))) (by simp; omega), hf0.block k hk (by simp)])
  have d2 : (w1.setCell ⟨w.heap.size + 1, 0, none⟩ (.pointer (some ⟨gp, 0, none⟩))).cell? ⟨w.heap.size + 1, 2, none⟩ = some (.int .u64 (K.next : Int)) := by
    have := blk_cell (blk_set hin1.blk 0 (.pointer (some ⟨gp, 0, none⟩))) 2
    simpa using this
  have d3 : (w1.setCell ⟨w.heap.size + 1, 0, none⟩ (.pointer (some ⟨gp, 0, none⟩))).cell? ⟨w.heap.size + 1, 3, none⟩ = some (.int .u64 (K.limit : Int)) := by
    have := blk_cell (blk_set hin1.blk 0 (.pointer (some ⟨gp, 0, none⟩))) 3
    simpa using this
  have g2 : (w1.setCell ⟨w.heap.size + 1, 0, none⟩ (.pointer (some ⟨gp, 0, none⟩))).frozen? ⟨w.heap.size + 1, 2, none⟩ = false := blk_free (blk_set hin1.blk 0 (.pointer (some ⟨gp, 0, none⟩))) 2
  clear hin1 hl1 hg1 hsd1 hf2 hb2 c2 c3 f2
  go_wp2
  rw [← hW2]
  go_ret2
  exact ⟨w.heap.size + 1, gp, w.heap.size, lp, rfl, by rw [← HK.out]; exact HS.out.1, ⟨by omega, by omega⟩, HS.out.2⟩
set_option maxHeartbeats 1000000 in
theorem openCo_any (ys : List Nat) (B p bD bN n : Nat) (R : ALog × ADisk × Nat) (w : World) (h : CoPre ys B p bD bN n R w) :
    Calls Tryz.prog 47 #[dskV p] w (CoPost ys B p bD bN n R w) := by
  have HC := toHid (coOpen_any ys B p bD bN n R w h)
  clear h
  go_enter Tryz.func47, Tryz.ntmps47
  go_wp2_with fail
  refine HC.out.mono ?_
  rintro e w1 ⟨cp, gp, bT, lp, rfl, h1⟩
  have H1 := toHid h1
  clear h1
  go_wp2
  go_ret2
  exact ⟨cp, gp, bT, lp, rfl, H1.out⟩
end Go.Proofs.YtejiankgafjppabGreatDoor
