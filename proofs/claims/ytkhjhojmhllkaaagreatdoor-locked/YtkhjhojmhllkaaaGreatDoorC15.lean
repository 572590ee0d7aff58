import Derived.Test.YtkhjhojmhllkaaaGreatDoorC14
import Derived.Deep.CutRange
/- (*Log).Append, where the payload is not too long. -/
namespace Go.Proofs.YtkhjhojmhllkaaaGreatDoor
open Go.RowKit
open Sc

theorem wp_recat {w : World} {o : Oper} {a : Act} {K : Act → World → Prop} {Q : Exit → Act → World → Prop} (s x : Operand)
    (ho : o.op = .call { callee := .builtin .append, args := #[s, x], argTypes := #[50, 50] })
    (base : Nat) (v : Value) (n : Nat) (rs : List Rec) (r : Rec) (b : Nat) (hs : a.eval s = v) (hown : w.ownsRow base 103 3 v n (recsV rs)) (hx : a.eval x = .slice (some ⟨b, 0, none⟩) 1 1)
    (hc0 : w.cell? ⟨b, 0, none⟩ = some (.int .u64 (r.lsn : Int))) (hc1 : w.cell? ⟨b, 1, none⟩ = some (.int .u8 (r.kind : Int))) (hc2 : w.cell? ⟨b, 2, none⟩ = some (.string (str r.pay))) (hn : n ≤ 1099511627776) (hbase : base ≤ w.heap.size)
    (h : ∀ v' w', w'.ownsRow base 103 3 v' (n + 1) (recsV (rs ++ [r])) → w.grownBy w' v.ownBlock → (v'.ownBlock = v.ownBlock ∨ v'.ownBlock = some w.heap.size) → K (a.put o.dst v') w') : o.wp Tryz.prog a w K Q := by
  obtain ⟨i0, hi, hz0, hz1, hz2⟩ := info_parts Tryz.infoRec
  refine wp_append_at s x 50 ho base 103 i0 _ 3 32 Tryz.underlying50 hi hz0 hz1 hz2 rfl (by decide) v n (recsV rs) hs hown ⟨b, 0, none⟩ 1 1 (recCells r) hx rfl ?_ ?_ (by unfold maxLen; omega) (by omega) hbase ?_
  · intro jj u hjj
    match jj, hjj with
    | 0, hjj => simp [recCells] at hjj; subst hjj; simpa [Addr.add] using hc0
    | 1, hjj => simp [recCells] at hjj; subst hjj; simpa [Addr.add] using hc1
    | 2, hjj => simp [recCells] at hjj; subst hjj; simpa [Addr.add] using hc2
  · intro u hu; simp [recCells] at hu; rcases hu with rfl | rfl | rfl <;> rfl
  · intro v' w' ho' hg' hl'
    refine h v' w' ?_ hg' hl'
    rw [recsV_snoc]; exact ho'
/-- a record more -/
theorem LogIn.recsApp {w w4 : World} {B lp p bD bN n nD nN : Nat} {pv sv rv v4 : Value} {l : ALog} {d : ADisk} {ob : Obj} {r : Rec} (h : LogIn w B lp p bD bN pv sv rv l d n nD nN) (hn : n < 67108864) (hg : (w.alloc ob).drew.grownBy w4 rv.ownBlock) (ho : w4.ownsRow B 103 3 v4 (l.recs.length + 1) (recsV (l.recs ++ [r]))) (hnr : Near w.heap.size rv v4) :
    LogIn (w4.setCell ⟨lp, 3, none⟩ v4) B lp p bD bN pv sv v4 { l with recs := l.recs ++ [r] } d (n + 1) nD nN ∧ OFr lp p w (w4.setCell ⟨lp, 3, none⟩ v4) ∧ Fr (lp :: rv.ownBlock.toList) w (w4.setCell ⟨lp, 3, none⟩ v4) := by
  have hb4 : w4.heap[lp]? = some (logO p sv rv l) := (keepL h hg (own_ne h.recs h.blk (by decide)) 0).2.2
  obtain ⟨W, hW⟩ : ∃ W, W = w4.setCell ⟨lp, 3, none⟩ v4 := ⟨_, rfl⟩
  rw [← hW]
  have hfw : Fr [lp] w4 W := by rw [hW]; exact Fr.set1 (by simp) _ _
  have hf : Fr (lp :: rv.ownBlock.toList) w W := ((((Fr.refl _ w).alloc _).drew).trans ((Fr.of_grown hg).mono (fun k _ hk => List.mem_cons_of_mem _ hk))).trans (hfw.mono (by intro k _ hk; simp at hk; simp [hk]))
  have hb : W.heap[lp]? = some (logO p sv v4 { l with recs := l.recs ++ [r] }) := by
    rw [hW]
    have := blk_set hb4 3 v4
    simpa using this
  have hr : W.ownsRow B 103 3 v4 (l.recs ++ [r]).length (recsV (l.recs ++ [r])) := by
    have := ownsRow_fr ho hfw (fun g hg => by simp; intro e; subst e; exact own_ne ho hb4 (by decide) hg)
    simpa using this
  have hs : W.ownsRow B 33 1 sv l.segs.length (u64s l.segs) := ownsRow_fr h.segs hf (fun g hg hm => by
    rcases List.mem_cons.1 hm with e | hm
    · subst e; exact own_ne h.segs h.blk (by decide) hg
    · simp at hm; obtain ⟨c, hcc⟩ := own_cells h.recs hm; exact own_ne h.segs hcc (by decide) hg)
  have hl2 := h.rows (n' := n + 1) hf (by intro k hk _; rcases List.mem_cons.1 hk with e | hk; exact .inl e; simp at hk; exact .inr (.inr hk)) hb hs hr (by omega) (by omega)
    ⟨by have := h.segsN.1; simp; omega, h.segsN.2⟩ (by have := h.recsN; simp; omega) h.fillN (by have := h.nextN; simp; omega) h.durN
  exact ⟨hl2, h.ofr hl2 hf (by intro k hk _; rcases List.mem_cons.1 hk with e | hk; simp [e]; simp at hk; simp [hk]) (.inl rfl) (Near.refl _ _) (Near.refl _ _) hnr, hf⟩
set_option maxRecDepth 100000 in
set_option maxHeartbeats 8000000 in
theorem lappend_yes (B lp p bD bN n nD nN kind : Nat) (pv sv rv : Value) (l : ALog) (d : ADisk) (s : ByteArray) (w : World) (h : LogIn w B lp p bD bN pv sv rv l d n nD nN) (hs : s.size ≤ 255) (hk : kind < 256) (hn : n + 2 < 67108864) (hB : 2 ≤ B) (hsg : l.filled < 600 → l.segs ≠ []) (hpow : Pows w) :
    Calls Tryz.prog 100 #[.pointer (some ⟨lp, 0, none⟩), .int .u8 (kind : Int), .string s] w (AppPost B lp p bD bN (n + 3) (l.append d kind s) w) := by
  have hlp := (Array.getElem?_eq_some_iff.1 h.blk).1
  have c4 := blk_cell h.blk 4
  simp at c4
  have c4' : ∀ ob, (w.alloc ob).cell? ⟨lp, 4, none⟩ = some (.int .u64 (l.next : Int)) := fun ob => (World.cell?_of_block (a := ⟨lp, 4, none⟩) (Below.heap_alloc w ob lp hlp)).trans c4
  have hnx : l.next < 18446744073709551616 := by have := h.nextN; omega
  have HI : Hid (LogIn w B lp p bD bN pv sv rv l d n nD nN) := h
  have hsz := h.disk.base.2.2.2
  clear h
  go_enter Tryz.func100, Tryz.ntmps100
  go_wp2_with fail
  refine (encodeR_own l.next kind s _ hs hk hnx).mono ?_
  rintro e w1 ⟨g, rfl, hg, hrow, hb1⟩
  rw [World.size_alloc] at hb1 hg hrow
  have hf1 : Fr [] w w1 := ((Fr.refl [] w).alloc _).trans (Fr.of_below (by rw [World.size_alloc]; exact hb1) [])
  have hbl : w1.heap[w.heap.size]? = some (.cells #[.pointer (some ⟨lp, 0, none⟩)] 71) := (hb1.block w.heap.size (by omega)).trans (heap_alloc_new w _)
  have hgl := (own_lt hrow).2
  have hlen : (recBytes l.next kind (bytesOf s)).length = 11 + s.size + 4 := by rw [recBytes_len, bytesOf_len]; omega
  have HBL : Hid (w1.heap[w.heap.size]? = some (.cells #[.pointer (some ⟨lp, 0, none⟩)] 71)) := hbl
  have HROW : Hid (w1.ownsRow (w.heap.size + 1 + 1) 5 1 (.slice (some ⟨g, 0, none⟩) (11 + s.size + 4) (15 + s.size)) (11 + s.size + 4) (bs (recBytes l.next kind (bytesOf s)))) := hrow
  have HF1 : Hid (Fr [] w w1) := hf1
  have HLEN : Hid ((recBytes l.next kind (bytesOf s)).length = 11 + s.size + 4) := hlen
  have b0 := blk_cell hbl 0
  simp at b0
  have hz1 : w.heap.size < w1.heap.size := (Array.getElem?_eq_some_iff.1 hbl).1
  have b0' : ∀ ob, (w1.alloc ob).cell? ⟨w.heap.size, 0, none⟩ = some (.pointer (some ⟨lp, 0, none⟩)) := fun ob => (World.cell?_of_block (a := ⟨w.heap.size, 0, none⟩) (Below.heap_alloc w1 ob _ hz1)).trans b0
  clear hb1 hrow hf1 hbl hlen c4 c4'
  go_wp2_with fail
  obtain ⟨W2, hW2⟩ : ∃ W2, W2 = (w1.alloc (.cells #[.slice (some ⟨g, 0, none⟩) (11 + s.size + 4) (15 + s.size)] 206)).alloc (.cells #[.func (.func 143) #[.pointer (some ⟨lp, 0, none⟩)] #[], .func (.func 144) #[] #[.pointer (some ⟨w.heap.size, 0, none⟩), .pointer (some ⟨w1.heap.size, 0, none⟩)]] 160) := ⟨_, rfl⟩
  rw [← hW2]
  have hfW : Fr [] w W2 := by rw [hW2]; exact (HF1.out.alloc _).alloc _
  have hsW : W2.heap.size = w1.heap.size + 1 + 1 := by rw [hW2]; simp
  have hst : W2.heap[w1.heap.size + 1]? = some (.cells #[.func (.func 143) #[.pointer (some ⟨lp, 0, none⟩)] #[], .func (.func 144) #[] #[.pointer (some ⟨w.heap.size, 0, none⟩), .pointer (some ⟨w1.heap.size, 0, none⟩)]] 160) := by
    rw [hW2]
    have := heap_alloc_new (w1.alloc (.cells #[.slice (some ⟨g, 0, none⟩) (11 + s.size + 4) (15 + s.size)] 206)) (.cells #[.func (.func 143) #[.pointer (some ⟨lp, 0, none⟩)] #[], .func (.func 144) #[] #[.pointer (some ⟨w.heap.size, 0, none⟩), .pointer (some ⟨w1.heap.size, 0, none⟩)]] 160)
    rw [World.size_alloc] at this; exact this
  have hbb : W2.heap[w1.heap.size]? = some (.cells #[.slice (some ⟨g, 0, none⟩) (11 + s.size + 4) (15 + s.size)] 206) := by
    rw [hW2, Below.heap_alloc _ _ _ (by simp)]; exact heap_alloc_new _ _
  have hbl : W2.heap[w.heap.size]? = some (.cells #[.pointer (some ⟨lp, 0, none⟩)] 71) := by
    rw [hW2, Below.heap_alloc _ _ _ (by simp; omega), Below.heap_alloc _ _ _ hz1]; exact HBL.out
  have hrW : W2.ownsRow (w.heap.size + 1 + 1) 5 1 (.slice (some ⟨g, 0, none⟩) (11 + s.size + 4) (15 + s.size)) (11 + s.size + 4) (bs (recBytes l.next kind (bytesOf s))) := by rw [hW2]; exact (HROW.out.alloc _).alloc _
  have hpW : Pows W2 := hpow.of_block (hfW.block 1 (by omega) (by simp))
  have hc := writeA B lp p bD bN n nD nN w.heap.size w1.heap.size g (15 + s.size) (w.heap.size + 1 + 1) (w1.heap.size + 1) pv sv rv l d (recBytes l.next kind (bytesOf s)) W2 (HI.out.new hfW) (by omega) hB hsg hst hbl (by rw [HLEN.out]; exact hbb) (by rw [HLEN.out]; exact hrW) (by rw [HLEN.out]; omega) hpW
  refine hc.mono ?_
  clear hc hst hbb hrW hpW hW2
  obtain ⟨R, hR⟩ : ∃ R, R = l.wr d (l.put d (recBytes l.next kind (bytesOf s))) := ⟨_, rfl⟩
  have HR : Hid (l.wr d (l.put d (recBytes l.next kind (bytesOf s))) = R) := hR.symm
  rw [← hR]
  clear hR
  rintro e w2 ⟨rfl, ⟨pv2, sv2, rv2, nD2, nN2, hl2⟩, ho2⟩
  have HFW : Hid (Fr [] w W2) := hfW
  have ho3 : OFr lp p w w2 := by
    have h1 : OFx [g] lp p w w2 := (HI.out.newO hfW).x.trans ho2
    exact ⟨h1.os, h1.tape, h1.output, h1.size, fun k hk hn => h1.block k hk hn (by simp; omega), h1.stay⟩
  have HO : Hid (OFr lp p w w2) := ho3
  have H2 : Hid (LogIn w2 B lp p bD bN pv2 sv2 rv2 R.1 R.2.1 (n + 2) nD2 nN2) := hl2
  have hbl2 : w2.heap[w.heap.size]? = some (.cells #[.pointer (some ⟨lp, 0, none⟩)] 71) := (ho2.block w.heap.size (by omega) ((HI.out.new hfW).free hbl (by decide) (by decide) (by decide) (by decide) (by decide)) (by simp; omega)).trans hbl
  have HBL2 : Hid (w2.heap[w.heap.size]? = some (.cells #[.pointer (some ⟨lp, 0, none⟩)] 71)) := hbl2
  have d0 := blk_cell hbl2 0
  have k2 := blk_cell hl2.blk 2
  have k3 := blk_cell hl2.blk 3
  have k4 := blk_cell hl2.blk 4
  have g2 := blk_free hl2.blk 2
  have g3 := blk_free hl2.blk 3
  have g4 := blk_free hl2.blk 4
  simp at d0 k2 k3 k4
  have hz2 : w1.heap.size + 1 + 1 ≤ w2.heap.size := by have := ho2.size; omega
  have hlp2 : lp < w2.heap.size := by omega
  clear ho2 hl2 ho3 hbl2 hbl hfW b0 b0' hsW
  by_cases hc : R.2.2 = 0
  · rw [hc, errN_ok]
    go_wp2
    go_cut [11] from 37 to 44 (fun s11 wx => ∃ rb, s11 = .pointer (some ⟨rb, 0, none⟩) ∧ w2.heap.size ≤ rb ∧ wx.heap[rb]? = some (.cells #[.int .u64 (R.1.next : Int), .int .u8 (kind : Int), .string s] 103) ∧ Fr [] w2 wx)
    case first =>
      have dA : ∀ ob, (w2.alloc ob).cell? ⟨w.heap.size, 0, none⟩ = some (.pointer (some ⟨lp, 0, none⟩)) := fun ob => (World.cell?_of_block (a := ⟨w.heap.size, 0, none⟩) (Below.heap_alloc w2 ob w.heap.size (by omega))).trans d0
      have kA : ∀ ob, (w2.alloc ob).cell? ⟨lp, 4, none⟩ = some (.int .u64 (R.1.next : Int)) := fun ob => (World.cell?_of_block (a := ⟨lp, 4, none⟩) (Below.heap_alloc w2 ob _ hlp2)).trans k4
      have n1 := World.new_ne w2 ⟨w.heap.size, 0, none⟩ d0
      have n2 := World.new_ne w2 ⟨lp, 4, none⟩ k4
      go_region_held3 (fun w' => w'.cell? ⟨w.heap.size, 0, none⟩ = some (.pointer (some ⟨lp, 0, none⟩)) ∧ w'.cell? ⟨lp, 4, none⟩ = some (.int .u64 (R.1.next : Int)))
        (go_keep)
        (first | (go_at_call 135; refine (cloneS s (w2.alloc (.cells #[.int .u64 0, .int .u8 0, .string ⟨#[]⟩] 103)).drew (by omega)).mono ?_; rintro e w3 ⟨rfl, hb3⟩; have m0 : w3.cell? ⟨w.heap.size, 0, none⟩ = some (.pointer (some ⟨lp, 0, none⟩)) := (hb3.cell (p := ⟨w.heap.size, 0, none⟩) (by simp; omega)).trans (dA _); have m4 : w3.cell? ⟨lp, 4, none⟩ = some (.int .u64 (R.1.next : Int)) := (hb3.cell (p := ⟨lp, 4, none⟩) (by simp; omega)).trans (kA _); have r0 : w3.cell? ⟨w2.heap.size, 0, none⟩ = some (.int .u64 0) := (hb3.cell (p := ⟨w2.heap.size, 0, none⟩) (by simp)).trans (by simp); have r1 : w3.cell? ⟨w2.heap.size, 1, none⟩ = some (.int .u8 0) := (hb3.cell (p := ⟨w2.heap.size, 1, none⟩) (by simp)).trans (by simp); have r2 : w3.cell? ⟨w2.heap.size, 2, none⟩ = some (.string ⟨#[]⟩) := (hb3.cell (p := ⟨w2.heap.size, 2, none⟩) (by simp)).trans (by simp); have rf : ∀ i, w3.frozen? ⟨w2.heap.size, i, none⟩ = false := (fun i => (hb3.frozen (p := ⟨w2.heap.size, i, none⟩) (by simp)).trans (by simp))) | (go_at_call 135; refine (cloneS s w2.drew (by omega)).mono ?_; rintro e w3 ⟨rfl, hb3⟩; have m0 : w3.cell? ⟨w.heap.size, 0, none⟩ = some (.pointer (some ⟨lp, 0, none⟩)) := (hb3.cell (p := ⟨w.heap.size, 0, none⟩) (by simp; omega)).trans d0; have m4 : w3.cell? ⟨lp, 4, none⟩ = some (.int .u64 (R.1.next : Int)) := (hb3.cell (p := ⟨lp, 4, none⟩) (by simp; omega)).trans k4))
      · go_wp2_with fail
        go_meet
        case rel =>
          have hf3 : Fr [] w2 w3 := ((Fr.refl [] w2).drew).trans (Fr.of_below hb3 [])
          exact ⟨w3.heap.size, rfl, hf3.size, heap_alloc_new _ _, hf3.alloc _⟩
      · go_wp2_with fail
        go_meet
        case rel =>
          have hf3 : Fr [] w2 w3 := (((Fr.refl [] w2).alloc _).drew).trans (Fr.of_below hb3 [])
          have hz : w3.heap[w2.heap.size]? = some (.cells #[.int .u64 0, .int .u8 0, .string ⟨#[]⟩] 103) := (hb3.block w2.heap.size (by simp)).trans (heap_alloc_new w2 _)
          refine ⟨w2.heap.size, rfl, Nat.le_refl _, ?_, ((hf3.setCell (Or.inr (Nat.le_refl _)) _).setCell (Or.inr (Nat.le_refl _)) _).setCell (Or.inr (Nat.le_refl _)) _⟩
          have := blk_set (blk_set (blk_set hz 0 (.int .u64 (R.1.next : Int))) 1 (.int .u8 (kind : Int))) 2 (.string s)
          simpa using this
    case rest =>
      obtain ⟨rb, hs11, hrb1, hrb2, hfc⟩ := hcut
      subst hs11
      have hlc : LogIn wc B lp p bD bN pv2 sv2 rv2 R.1 R.2.1 (n + 2) nD2 nN2 := H2.out.new hfc
      have hoc : OFr lp p w wc := HO.out.trans (H2.out.newO hfc)
      have hblc : wc.heap[w.heap.size]? = some (.cells #[.pointer (some ⟨lp, 0, none⟩)] 71) := (hfc.block w.heap.size (by omega) (by simp)).trans HBL2.out
      have HC : Hid (LogIn wc B lp p bD bN pv2 sv2 rv2 R.1 R.2.1 (n + 2) nD2 nN2) := hlc
      have HOC : Hid (OFr lp p w wc) := hoc
      have HRB : Hid (wc.heap[rb]? = some (.cells #[.int .u64 (R.1.next : Int), .int .u8 (kind : Int), .string s] 103)) := hrb2
      have HBC : Hid (wc.heap[w.heap.size]? = some (.cells #[.pointer (some ⟨lp, 0, none⟩)] 71)) := hblc
      have d0 := blk_cell hblc 0
      have k2 := blk_cell hlc.blk 2
      have k3 := blk_cell hlc.blk 3
      have k4 := blk_cell hlc.blk 4
      have g2 := blk_free hlc.blk 2
      have g3 := blk_free hlc.blk 3
      have g4 := blk_free hlc.blk 4
      have r0 := blk_cell hrb2 0
      have r1 := blk_cell hrb2 1
      have r2 := blk_cell hrb2 2
      simp at d0 k2 k3 k4 r0 r1 r2
      have hzc := hfc.size
      have hlpc : lp < wc.heap.size := by omega
      have hne1 : lp ≠ w.heap.size := by omega
      have hne2 : lp ≠ rb := by omega
      have hne3 : w.heap.size ≠ rb := by omega
      clear hlc hoc hblc hrb2 hfc
      have hfl : R.1.filled < 600 := by have := HR.out; rw [← this] at hc ⊢; exact wr_filled hc
      go_wp2
      obtain ⟨l9, hl9⟩ : ∃ l9, l9 = ({ R.1 with filled := R.1.filled + (15 + s.size) } : ALog) := ⟨_, rfl⟩
      have hF : (R.1.filled : Int) + (11 + (s.size : Int) + 4) = (l9.filled : Int) := by rw [hl9]; simp; omega
      rw [hF]
      obtain ⟨W9, hW9⟩ : ∃ W9, W9 = wc.setCell ⟨lp, 2, none⟩ (.int .i64 (l9.filled : Int)) := ⟨_, rfl⟩
      rw [← hW9]
      have hf9 : Fr [lp] wc W9 := by rw [hW9]; exact Fr.set1 (by simp) _ _
      have hb9 : W9.heap[lp]? = some (logO p sv2 rv2 l9) := by rw [hW9, hl9]; have := blk_set HC.out.blk 2 (.int .i64 ((R.1.filled + (15 + s.size) : Nat) : Int)); simp at this ⊢; exact this
      have hl9' : LogIn W9 B lp p bD bN pv2 sv2 rv2 l9 R.2.1 (n + 2) nD2 nN2 := HC.out.own1 hf9 hb9 (by rw [hl9]; exact HC.out.segsN) (by rw [hl9]; exact HC.out.recsN) (by rw [hl9]; simp; omega) (by rw [hl9]; exact HC.out.nextN) (by rw [hl9]; exact HC.out.durN) (by rw [hl9]) (by rw [hl9])
      have H9 : Hid (LogIn W9 B lp p bD bN pv2 sv2 rv2 l9 R.2.1 (n + 2) nD2 nN2) := hl9'
      have HO9 : Hid (OFr lp p w W9) := HOC.out.trans (HC.out.ofr hl9' hf9 (by intro k hk _; simp at hk; simp [hk]) (.inl rfl) (Near.refl _ _) (Near.refl _ _) (Near.refl _ _))
      have hbl9 : W9.heap[w.heap.size]? = some (.cells #[.pointer (some ⟨lp, 0, none⟩)] 71) := (hf9.block w.heap.size (by omega) (by simp; omega)).trans HBC.out
      have hrl : rb < wc.heap.size := (Array.getElem?_eq_some_iff.1 HRB.out).1
      have hrb9 : W9.heap[rb]? = some (.cells #[.int .u64 (R.1.next : Int), .int .u8 (kind : Int), .string s] 103) := (hf9.block rb hrl (by simp; omega)).trans HRB.out
      have HBL9 : Hid (W9.heap[w.heap.size]? = some (.cells #[.pointer (some ⟨lp, 0, none⟩)] 71)) := hbl9
      have HRB9 : Hid (W9.heap[rb]? = some (.cells #[.int .u64 (R.1.next : Int), .int .u8 (kind : Int), .string s] 103)) := hrb9
      have hz9 : wc.heap.size ≤ W9.heap.size := hf9.size
      clear d0 k2 k3 k4 g2 g3 g4 r0 r1 r2
      have d0 := blk_cell hbl9 0
      have k3 := blk_cell hb9 3
      have k4 := blk_cell hb9 4
      have g3 := blk_free hb9 3
      have r0 := blk_cell hrb9 0
      have r1 := blk_cell hrb9 1
      have r2 := blk_cell hrb9 2
      have hn9 : l9.next = R.1.next := by rw [hl9]
      simp at d0 k3 k4 r0 r1 r2
      have HN9 : Hid (l9.next = R.1.next) := hn9
      have HL9 : Hid (l9 = { R.1 with filled := R.1.filled + (15 + s.size) }) := hl9
      have al : ∀ (b i : Nat) (ob : Obj), b < W9.heap.size → (W9.alloc ob).cell? ⟨b, i, none⟩ = W9.cell? ⟨b, i, none⟩ := fun b i ob hb => World.cell?_of_block (a := ⟨b, i, none⟩) (Below.heap_alloc W9 ob b hb)
      have d0' : ∀ ob, (W9.alloc ob).cell? ⟨w.heap.size, 0, none⟩ = some (.pointer (some ⟨lp, 0, none⟩)) := fun ob => (al _ _ ob (by omega)).trans d0
      have k3' : ∀ ob, (W9.alloc ob).cell? ⟨lp, 3, none⟩ = some rv2 := fun ob => (al _ _ ob (by omega)).trans k3
      clear al hl9' hb9 hf9 hbl9 hrb9 hF hW9 hl9 hn9
      have hstr : str (bytesOf s) = s := strOf_bytes s
      have HNR : Hid (rv2.ownBlock ≠ some rb) := fun e => by have := (H2.out.recs.lt _ e).2; omega
      have hno : ∀ q c t, W9.heap[q]? = some (.cells c t (0, 0)) → t ≠ 103 → rv2.ownBlock ≠ some q := fun q c t hq ht => own_ne H9.out.recs hq (fun e => ht e.symm)
      go_cut [60] from 53 to 62 (fun _ wx => ∃ rvx, LogIn wx B lp p bD bN pv2 sv2 rvx { l9 with recs := l9.recs ++ [⟨R.1.next, kind, bytesOf s⟩] } R.2.1 (n + 3) nD2 nN2 ∧ OFr lp p w wx ∧ wx.heap[w.heap.size]? = some (.cells #[.pointer (some ⟨lp, 0, none⟩)] 71) ∧ (rv2.ownBlock ≠ some rb → wx.heap[rb]? = some (.cells #[.int .u64 (R.1.next : Int), .int .u8 (kind : Int), .string s] 103)))
      case first =>
        go_region_law (first | (rw [if_pos (by rfl)]; refine wp_recat _ _ rfl B rv2 l9.recs.length l9.recs ⟨R.1.next, kind, bytesOf s⟩ W9.heap.size rfl ?_ rfl ?_ ?_ ?_ ?_ ?_ ?_; (exact H9.out.recs.alloc _); (simp); (simp); (simp [hstr]); (have := H9.out.recsN; omega); (have := H9.out.disk.base.2.2.2; simp; omega); intro v4 w4 ho4 hg4 hl4; obtain ⟨q4, cap4, rfl⟩ := own_some ho4; obtain ⟨q1, q2, q3⟩ := keepL H9.out hg4 (own_ne H9.out.recs H9.out.blk (by decide)) 3; rw [k3] at q1; have e0 : w4.cell? ⟨w.heap.size, 0, none⟩ = some (.pointer (some ⟨lp, 0, none⟩)) := (World.cell?_of_block (a := ⟨w.heap.size, 0, none⟩) (hg4.block w.heap.size (by simp; omega) (fun e => own_ne H9.out.recs HBL9.out (by decide) e.symm))).trans (d0' _); have HL4 : Hid (Near W9.heap.size rv2 (.slice (some ⟨q4, 0, none⟩) (l9.recs.length + 1) cap4)) := Near.of_at hl4 (by simp); clear hl4))
        all_goals (
          go_wp2_with fail
          go_meet
          case rel =>
            obtain ⟨t1, t2, t3⟩ := H9.out.recsApp (by omega) hg4 ho4 HL4.out
            exact ⟨_, t1, HO9.out.trans t2, (t3.block w.heap.size (by omega) (by intro hm; rcases List.mem_cons.1 hm with e | hm; omega; simp at hm; exact hno _ _ _ HBL9.out (by decide) hm)).trans HBL9.out, fun hx => (t3.block rb (by omega) (by intro hm; rcases List.mem_cons.1 hm with e | hm; omega; simp at hm; exact hx hm)).trans HRB9.out⟩)
      case rest =>
        obtain ⟨rvx, hlx, hox, hbx, hrx⟩ := hcut
        have hrx' := hrx HNR.out
        have d1 := blk_cell hbx 0
        have x4 := blk_cell hlx.blk 4
        have y4 := blk_free hlx.blk 4
        have r0' := blk_cell hrx' 0
        simp at d1 x4 r0'
        have HX : Hid (LogIn wc B lp p bD bN pv2 sv2 rvx { l9 with recs := l9.recs ++ [⟨R.1.next, kind, bytesOf s⟩] } R.2.1 (n + 3) nD2 nN2) := hlx
        have HOX : Hid (OFr lp p w wc) := hox
        have hnn : l9.next ≤ n + 3 := by have := H9.out.nextN; omega
        clear hlx hox hbx hrx hrx'
        go_wp2
        go_ret2
        have e : l.append d kind s = ({ l9 with recs := l9.recs ++ [⟨R.1.next, kind, bytesOf s⟩], next := l9.next + 1 }, R.2.1, R.1.next, 0) := by
          unfold ALog.append
          rw [if_neg (by omega), HR.out, if_pos hc, HL9.out]
        rw [e]
        obtain ⟨WF, hWF⟩ : ∃ WF, WF = wc.setCell ⟨lp, 4, none⟩ (.int .u64 ((l9.next + 1 : Nat) : Int)) := ⟨_, rfl⟩
        have hff : Fr [lp] wc WF := by rw [hWF]; exact Fr.set1 (by simp) _ _
        have hbf : WF.heap[lp]? = some (logO p sv2 rvx { l9 with recs := l9.recs ++ [⟨R.1.next, kind, bytesOf s⟩], next := l9.next + 1 }) := by
          rw [hWF]; have := blk_set HX.out.blk 4 (.int .u64 ((l9.next + 1 : Nat) : Int)); simp at this ⊢; exact this
        have hlf : LogIn WF B lp p bD bN pv2 sv2 rvx { l9 with recs := l9.recs ++ [⟨R.1.next, kind, bytesOf s⟩], next := l9.next + 1 } R.2.1 (n + 3) nD2 nN2 := HX.out.own1 hff hbf HX.out.segsN HX.out.recsN HX.out.fillN (by simp; omega) HX.out.durN rfl rfl
        have hof : OFr lp p w WF := HOX.out.trans (HX.out.ofr hlf hff (by intro k hk _; simp at hk; simp [hk]) (.inl rfl) (Near.refl _ _) (Near.refl _ _) (Near.refl _ _))
        rw [hWF] at hlf hof
        exact ⟨rfl, ⟨pv2, sv2, rvx, nD2, nN2, hlf⟩, hof⟩
  · rw [errN_no hc]
    go_wp2
    go_ret2
    have e : l.append d kind s = (R.1, R.2.1, 0, R.2.2) := by unfold ALog.append; rw [if_neg (by omega), HR.out, if_neg hc]
    rw [e]
    exact ⟨by simp only; rw [errN_no hc]; rfl, ⟨pv2, sv2, rv2, nD2, nN2, H2.out.more (by omega)⟩, HO.out⟩
end Go.Proofs.YtkhjhojmhllkaaaGreatDoor
