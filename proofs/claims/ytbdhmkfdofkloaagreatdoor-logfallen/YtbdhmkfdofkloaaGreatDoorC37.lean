import Derived.Test.YtbdhmkfdofkloaaGreatDoorC36
/- LOGS WHOSE DISKS FAIL, the mathematics: Append and Force that may fail. -/
namespace Go.Proofs.YtbdhmkfdofkloaaGreatDoor
open Go.RowKit
open Sc

/-- what a disk may hold of the records Y from mk on: f of them at least; or from a later one on, up to T -/
def Lft (mk T : Nat) (Y : List Rec) (f : Nat) (F : Files) : Prop :=
  ∃ (mk' : Nat) (ss : List Sg) (k : Nat), Stands F mk' ss ∧ Bare F mk' ss ∧ mk ≤ mk' ∧ (mk' = mk ∨ mk' ≤ T) ∧ f ≤ k ∧ k ≤ Y.length ∧ mk' - mk ≤ k ∧ (chunks ss).flatten = (Y.take k).drop (mk' - mk)
theorem Lft.of {F : Files} {mk T f k : Nat} {Y : List Rec} {ss : List Sg} (h1 : Stands F mk ss) (h2 : Bare F mk ss) (hf : f ≤ k) (hk : k ≤ Y.length) (e : (chunks ss).flatten = Y.take k) : Lft mk T Y f F :=
  ⟨mk, ss, k, h1, h2, Nat.le_refl _, .inl rfl, hf, hk, by omega, by rw [e]; simp⟩
theorem Lft.more {F : Files} {mk T f : Nat} {Y : List Rec} (h : Lft mk T Y f F) (Z : List Rec) : Lft mk T (Y ++ Z) f F := by
  obtain ⟨mk', ss, k, a1, a2, a3, a4, a5, a6, a7, a8⟩ := h
  refine ⟨mk', ss, k, a1, a2, a3, a4, a5, by rw [List.length_append]; omega, a7, ?_⟩
  rw [a8, List.take_append_of_le_length a6]
theorem Lft.less {F : Files} {mk T f f' : Nat} {Y : List Rec} (h : Lft mk T Y f F) (hf : f' ≤ f) : Lft mk T Y f' F := by
  obtain ⟨mk', ss, k, a1, a2, a3, a4, a5, a6, a7, a8⟩ := h
  exact ⟨mk', ss, k, a1, a2, a3, a4, by omega, a6, a7, a8⟩
theorem take_moreH (X c : List Rec) (k : Nat) : (X ++ c).take (X.length + k) = X ++ c.take k := by
  rw [List.take_append, List.take_of_length_le (by omega)]
  congr 2; omega
section
variable {l : ALog} {d : ADisk} {mk : Nat} {ss : List Sg} {c1 : List Rec}
theorem LgS.crashB (h : LgS l d mk ss c1) (hb : Bare d.durable mk ss) {F' : Files} (hl : Left d.durable d.pending F') :
    ∃ ss' k, k ≤ c1.length ∧ Stands F' mk ss' ∧ Bare F' mk ss' ∧ (chunks ss').flatten = (chunks ss).flatten ++ c1.take k := by
  have same : ∃ ss' k, k ≤ c1.length ∧ Stands d.durable mk ss' ∧ Bare d.durable mk ss' ∧ (chunks ss').flatten = (chunks ss).flatten ++ c1.take k := ⟨ss, 0, Nat.zero_le _, h.st, hb, by simp⟩
  rcases h.mode with ⟨h1, h2, h3, h4, h5⟩ | ⟨ds, c0, h0, h1, h2, h3, h4, h5, h6⟩ | ⟨h1, h2, h3, h4, h5, h6⟩
  · rw [h2] at hl
    rw [left_nil hl]
    exact same
  · obtain ⟨ss', k, a1, a2, _, a4, _⟩ := h.crash hl
    refine ⟨ss', k, a1, a2, .inl ?_, a4⟩
    intro e
    rw [e, h0, chunks_snoc, flat_snoc] at a4
    have := congrArg List.length a4
    have hp : 0 < c0.length := List.length_pos_iff.2 (h.st.ne (c0, []) (by rw [h0]; simp))
    simp at this
    omega
  · rw [h2] at hl
    rcases left_recs h.fin1 hl with e | ⟨k, t, hk, hj, e⟩
    · rw [e]; exact same
    · rw [e]
      have hbt := bytesR_take' c1 k
      by_cases hk0 : c1.take k = []
      · rw [hk0]
        have e1 : encR [] ++ t = t := by simp [encR]
        rw [e1]
        refine ⟨ss, 0, Nat.zero_le _, h.st.dead_ h.clean hj, ?_, by simp⟩
        rcases hb with hb | ⟨hb1, hb2⟩
        · exact .inl hb
        · by_cases hs : ss = []
          · subst hs
            refine .inr ⟨hb1, fun nm hnm => ?_⟩
            by_cases e : nm = segName (nextOf mk [])
            · rw [e, nextOf_nil, hb1]
            · rw [plus_other _ _ e] at hnm; exact hb2 nm hnm
          · exact .inl hs
      · exact ⟨ss ++ [(c1.take k, t)], k, hk, h.st.more h.clean hk0 (num_take h.num1 k) (fineP_take h.fin1 k) hj (by omega) (by rw [List.length_take]; have := h.big; omega), .inl (by simp), by rw [chunks_snoc, flat_snoc]⟩
/-- it is synced, if the disk is well -/
theorem LgS.syncedB (h : LgS l d mk ss c1) (hb : Bare d.durable mk ss) {d' : ADisk} (e1 : d'.durable = d.pending.foldl doOp d.durable) (e2 : d'.now = d.now) (e3 : d'.pending = []) :
    ∃ ss', LgS { l with durable := l.next } d' mk ss' [] ∧ Bare d'.durable mk ss' ∧ (chunks ss').flatten = (chunks ss).flatten ++ c1 ∧ d'.now = d'.durable := by
  obtain ⟨ss', a1, a2, _⟩ := h.synced e1 e2 e3
  refine ⟨ss', a1, ?_, a2, ?_⟩
  · by_cases hs : ss' = []
    · rw [hs] at a2
      have hz := congrArg List.length a2
      simp only [List.map_nil, List.flatten_nil, List.length_nil, List.length_append] at hz
      have hc : c1 = [] := List.length_eq_zero_iff.1 (by omega)
      have hss : ss = [] := by
        cases ss with
        | nil => rfl
        | cons s r =>
          have := List.length_pos_iff.2 (h.st.ne s (by simp))
          simp at hz
          omega
      rcases h.mode with ⟨h1, h2, h3, h4, h5⟩ | ⟨ds, c0, h0, h1, _⟩ | ⟨h1, _⟩
      · rw [e1, h2, hs, ← hss]; exact hb
      · exact absurd hc h1
      · exact absurd hc h1
    · exact .inl hs
  · rcases a1.mode with ⟨h1, h2, h3, h4, h5⟩ | ⟨ds, c0, h0, h1, _⟩ | ⟨h1, _⟩
    · exact h3
    · exact absurd rfl h1
    · exact absurd rfl h1
theorem LgS.durK (h : LgS l d mk ss c1) : l.durable - mk = (chunks ss).flatten.length ∧ mk ≤ l.durable := by
  have := h.dur; unfold nextOf at this; omega
/-- between calls: what is sure -/
theorem LgS.sure (h : LgS l d mk ss c1) (hb : Bare d.durable mk ss) (T : Nat) : Sure (Lft mk T ((chunks ss).flatten ++ c1) (l.durable - mk)) d where
  left := fun F hF => by
    obtain ⟨ss', k, a1, a2, a3, a4⟩ := h.crashB hb hF
    refine Lft.of (k := (chunks ss).flatten.length + k) a2 a3 (by rw [h.durK.1]; omega) (by rw [List.length_append]; omega) ?_
    rw [a4, take_moreH]
  now := fun _ => by
    obtain ⟨ss', a1, a2, a3, a4⟩ := h.syncedB hb (d' := { d with durable := d.pending.foldl doOp d.durable, pending := [] }) rfl rfl rfl
    have e : d.now = d.pending.foldl doOp d.durable := a4
    refine ⟨?_, e.symm⟩
    rw [e]
    refine Lft.of (k := ((chunks ss).flatten ++ c1).length) a1.st a2 (by rw [h.durK.1, List.length_append]; omega) (Nat.le_refl _) ?_
    rw [List.take_length]; exact a3
/-- a log that has failed -/
structure Hung (l : ALog) (d : ADisk) (mk T : Nat) (X Y : List Rec) : Prop where
  fail : l.failed ≠ 0
  recs : l.recs = X
  next : l.next = mk + X.length
  dur : mk ≤ l.durable ∧ l.durable ≤ l.next
  segs : l.filled < 600 → l.segs ≠ []
  sure : Sure (Lft mk T Y (l.durable - mk)) d
/-- how a call ends that failed: the disk is full, and the log hangs; or it is down -/
def Fell (l' : ALog) (d' : ADisk) (c : Nat) (mk T : Nat) (X Y : List Rec) : Prop :=
  (c = 9 ∧ d'.down = false ∨ c = 10 ∧ d'.down = true) ∧ Hung l' d' mk T X Y
theorem LgS.sg' (h : LgS l d mk ss c1) : l.filled < 600 → l.segs ≠ [] := h.sg
theorem LgS.fell (h : LgS l d mk ss c1) (hb : Bare d.durable mk ss) (hd : d.down = false) {d' : ADisk} {c T : Nat} {Z : List Rec} (e1 : d'.durable = d.durable) (e2 : d'.now = d.now) (e3 : d'.pending = d.pending) (hc : c = 9 ∧ d'.down = false ∨ c = 10 ∧ d'.down = true) : Fell { l with failed := c } d' c mk T ((chunks ss).flatten ++ c1) ((chunks ss).flatten ++ c1 ++ Z) := by
  refine ⟨hc, ⟨by show c ≠ 0; omega, h.recs, ?_, ⟨h.durK.2, ?_⟩, h.sg', ((h.sure hb T).same hd e1 e3 e2).mono (fun F hF => hF.more Z)⟩⟩
  · show l.next = _
    rw [h.next, List.length_append]; unfold nextOf; omega
  · show l.durable ≤ l.next
    rw [h.dur, h.next]; omega
/-- a record more, whatever the disk says -/
theorem LgS.appendX (h : LgS l d mk ss c1) (hb : Bare d.durable mk ss) (hd : d.down = false) (T kind : Nat) (hk : kind < 256) (s : ByteArray) (hs : s.size ≤ 255) (hbg : l.next + 1 < 18446744073709551616) :
    ((l.append d kind s).2.2.1 = l.next ∧ (l.append d kind s).2.2.2 = 0 ∧ (l.append d kind s).2.1.down = false ∧ ∃ ss' c1', LgS (l.append d kind s).1 (l.append d kind s).2.1 mk ss' c1' ∧ Bare (l.append d kind s).2.1.durable mk ss' ∧ (chunks ss').flatten ++ c1' = (chunks ss).flatten ++ c1 ++ [⟨l.next, kind, bytesOf s⟩] ∧ (chunks ss).flatten.length ≤ (chunks ss').flatten.length) ∨
    ((l.append d kind s).2.2.1 = 0 ∧ Fell (l.append d kind s).1 (l.append d kind s).2.1 (l.append d kind s).2.2.2 mk T ((chunks ss).flatten ++ c1) ((chunks ss).flatten ++ c1 ++ [⟨l.next, kind, bytesOf s⟩])) := by
  have hlen := bytesOf_len s
  have hxf : (⟨l.next, kind, bytesOf s⟩ : Rec).kind < 256 ∧ (⟨l.next, kind, bytesOf s⟩ : Rec).pay.length ≤ 255 ∧ Byt (⟨l.next, kind, bytesOf s⟩ : Rec).pay := ⟨hk, by show (bytesOf s).length ≤ 255; omega, bytesOf_byt s⟩
  -- how it ends where the put has failed
  have bad : ∀ (l2 : ALog) (d2 : ADisk) (c : Nat), l.put d (recBytes l.next kind (bytesOf s)) = (l2, d2, c) → c ≠ 0 → l.append d kind s = ({ l2 with failed := c }, d2, 0, c) := fun l2 d2 c e hc => by
    have hwr : l.wr d (l.put d (recBytes l.next kind (bytesOf s))) = ({ l2 with failed := c }, d2, c) := by unfold ALog.wr; rw [if_pos h.nofail, e]
    unfold ALog.append; rw [if_neg (by omega), hwr]; simp only; rw [if_neg hc]
  by_cases hf : l.filled < 600
  · have hroom : l.room d = (l, d, 0) := by unfold ALog.room; rw [if_pos hf]
    obtain ⟨o, ho⟩ : ∃ o : AOp, o = ⟨2, segName (l.segs.getLastD 0), ByteArray.empty, str (recBytes l.next kind (bytesOf s))⟩ := ⟨_, rfl⟩
    have hput : l.put d (recBytes l.next kind (bytesOf s)) = (l, (d.tell o).1, (d.tell o).2) := by
      unfold ALog.put; rw [hroom]; simp only [if_true]; rw [ho]
    rcases tell_cases d o (by rw [ho]; simp) with tc | tc | tc
    · left
      have hwr : l.wr d (l.put d (recBytes l.next kind (bytesOf s))) = (l, (d.tell o).1, 0) := by
        unfold ALog.wr; rw [if_pos h.nofail, hput, tc.1]; simp only [h.nofail.symm]
      have happ : l.append d kind s = ({ l with filled := l.filled + (15 + s.size), recs := l.recs ++ [⟨l.next, kind, bytesOf s⟩], next := l.next + 1 }, (d.tell o).1, l.next, 0) := by
        unfold ALog.append; rw [if_neg (by omega), hwr]; simp
      rw [happ]
      refine ⟨rfl, rfl, tc.2.2.2.2, ss, c1 ++ [⟨l.next, kind, bytesOf s⟩], ?_, by show Bare (d.tell o).1.durable mk ss; rw [tc.2.1]; exact hb, by rw [List.append_assoc], Nat.le_refl _⟩
      have := h.told (x := ⟨l.next, kind, bytesOf s⟩) (d' := (d.tell o).1) hf hxf rfl hbg tc.2.1 (by rw [tc.2.2.1, ho]; rfl) (by rw [tc.2.2.2.1, ho]; rfl)
      simp only at this
      rw [hlen] at this
      exact this
    · right
      rw [bad l (d.tell o).1 9 (by rw [hput, tc.1]) (by omega)]
      exact ⟨rfl, h.fell hb hd tc.2.1 tc.2.2.1 tc.2.2.2.1 (.inl ⟨rfl, tc.2.2.2.2⟩)⟩
    · right
      rw [bad l (d.tell o).1 10 (by rw [hput, tc.1]) (by omega)]
      have ht := h.told (x := ⟨l.next, kind, bytesOf s⟩) (d' := { d with pending := d.pending ++ [o], now := doOp d.now o }) hf hxf rfl hbg rfl (by show doOp d.now o = _; rw [ho]; rfl) (by show d.pending ++ [o] = _; rw [ho]; rfl)
      have hsu := ht.sure (by exact hb) T
      refine ⟨rfl, .inr ⟨rfl, tc.2.2.2.2⟩, ⟨by simp, h.recs, ?_, ⟨h.durK.2, ?_⟩, h.sg', ⟨fun F hF => ?_, fun hx => ?_⟩⟩⟩
      · show l.next = _; rw [h.next, List.length_append]; unfold nextOf; omega
      · show l.durable ≤ l.next; rw [h.dur, h.next]; omega
      · have := hsu.left F (by rw [tc.2.1, tc.2.2.2.1] at hF; exact hF)
        rw [← List.append_assoc] at this
        exact this
      · rw [tc.2.2.2.2] at hx; cases hx
  · rcases sync_cases d with sc | sc
    · obtain ⟨ss2, h2, hb2, hfl, hnd⟩ := h.syncedB hb (d' := d.sync.1) sc.2.1 sc.2.2.1 sc.2.2.2.1
      have hs1 : l.sync d = ({ l with durable := l.next }, d.sync.1, 0) := by unfold ALog.sync; rw [if_pos sc.1]
      have hroom : l.room d = ({ l with durable := l.next, segs := l.segs ++ [l.next], filled := 0 }, d.sync.1, 0) := by
        unfold ALog.room; rw [if_neg hf, hs1]; simp
      obtain ⟨o, ho⟩ : ∃ o : AOp, o = ⟨2, segName l.next, ByteArray.empty, str (recBytes l.next kind (bytesOf s))⟩ := ⟨_, rfl⟩
      have hput : l.put d (recBytes l.next kind (bytesOf s)) = ({ l with durable := l.next, segs := l.segs ++ [l.next], filled := 0 }, (d.sync.1.tell o).1, (d.sync.1.tell o).2) := by
        unfold ALog.put; rw [hroom]; simp only [if_true]
        rw [show (l.segs ++ [l.next]).getLastD 0 = l.next by simp, ho]
      have hnx : l.next = mk + ((chunks ss).flatten ++ c1).length := by rw [h.next, List.length_append]; unfold nextOf; omega
      have hll : l.next - mk = ((chunks ss).flatten ++ c1).length := by omega
      rcases tell_cases d.sync.1 o (by rw [ho]; simp) with tc | tc | tc
      · left
        have hwr : l.wr d (l.put d (recBytes l.next kind (bytesOf s))) = ({ l with durable := l.next, segs := l.segs ++ [l.next], filled := 0 }, (d.sync.1.tell o).1, 0) := by
          unfold ALog.wr; rw [if_pos h.nofail, hput, tc.1]; simp only [h.nofail.symm]
        have happ : l.append d kind s = ({ l with durable := l.next, segs := l.segs ++ [l.next], filled := 0 + (15 + s.size), recs := l.recs ++ [⟨l.next, kind, bytesOf s⟩], next := l.next + 1 }, (d.sync.1.tell o).1, l.next, 0) := by
          unfold ALog.append; rw [if_neg (by omega), hwr]; simp
        rw [happ]
        refine ⟨rfl, rfl, tc.2.2.2.2, ss2, [⟨l.next, kind, bytesOf s⟩], ?_, by show Bare (d.sync.1.tell o).1.durable mk ss2; rw [tc.2.1]; exact hb2, by rw [hfl], by rw [hfl]; simp⟩
        have := h2.toldNew (x := ⟨l.next, kind, bytesOf s⟩) (d' := (d.sync.1.tell o).1) hxf rfl hbg tc.2.1 (by rw [tc.2.2.1, ho]; rfl) (by rw [tc.2.2.2.1, ho]; rfl)
        simp only at this
        rw [hlen] at this
        exact this
      · right
        rw [bad _ (d.sync.1.tell o).1 9 (by rw [hput, tc.1]) (by omega)]
        refine ⟨rfl, .inl ⟨rfl, tc.2.2.2.2⟩, ⟨by simp, h.recs, hnx, ⟨by show mk ≤ l.next; omega, Nat.le_refl _⟩, fun _ => by simp, ?_⟩⟩
        have := (h2.sure hb2 T).same (d' := (d.sync.1.tell o).1) sc.2.2.2.2 tc.2.1 tc.2.2.2.1 tc.2.2.1
        rw [hfl, List.append_nil] at this
        exact this.mono (fun F hF => hF.more _)
      · right
        rw [bad _ (d.sync.1.tell o).1 10 (by rw [hput, tc.1]) (by omega)]
        have ht := h2.toldNew (x := ⟨l.next, kind, bytesOf s⟩) (d' := { d.sync.1 with pending := d.sync.1.pending ++ [o], now := doOp d.sync.1.now o }) hxf rfl hbg rfl (by show doOp d.sync.1.now o = _; rw [ho]; rfl) (by show d.sync.1.pending ++ [o] = _; rw [ho]; rfl)
        have hsu := ht.sure (by exact hb2) T
        refine ⟨rfl, .inr ⟨rfl, tc.2.2.2.2⟩, ⟨by simp, h.recs, hnx, ⟨by show mk ≤ l.next; omega, Nat.le_refl _⟩, fun _ => by simp, ⟨fun F hF => ?_, fun hx => ?_⟩⟩⟩
        · have := hsu.left F (by rw [tc.2.1, tc.2.2.2.1] at hF; exact hF)
          rw [hfl] at this
          exact this
        · rw [tc.2.2.2.2] at hx; cases hx
    · right
      have hs1 : l.sync d = (l, d.sync.1, d.sync.2) := by unfold ALog.sync; rw [if_neg sc.1]
      have hroom : l.room d = (l, d.sync.1, d.sync.2) := by
        unfold ALog.room; rw [if_neg hf, hs1]; simp only; rw [if_neg sc.1]
      have hput : l.put d (recBytes l.next kind (bytesOf s)) = (l, d.sync.1, d.sync.2) := by
        unfold ALog.put; rw [hroom]; simp only; rw [if_neg sc.1]
      rw [bad _ _ _ hput sc.1]
      exact ⟨rfl, h.fell hb hd sc.2.1 sc.2.2.1 sc.2.2.2.1 sc.2.2.2.2⟩
/-- all is durable, or the disk has failed -/
theorem LgS.forceX (h : LgS l d mk ss c1) (hb : Bare d.durable mk ss) (hd : d.down = false) (T : Nat) :
    ((l.force d).2.2 = 0 ∧ (l.force d).2.1.down = false ∧ ∃ ss', LgS (l.force d).1 (l.force d).2.1 mk ss' [] ∧ Bare (l.force d).2.1.durable mk ss' ∧ (chunks ss').flatten = (chunks ss).flatten ++ c1) ∨
    Fell (l.force d).1 (l.force d).2.1 (l.force d).2.2 mk T ((chunks ss).flatten ++ c1) ((chunks ss).flatten ++ c1) := by
  unfold ALog.force
  by_cases hq : l.durable = l.next
  · rw [if_pos hq]
    have hc : c1 = [] := by
      have h1 := h.dur; have h2 := h.next
      exact List.length_eq_zero_iff.1 (by omega)
    subst hc
    exact .inl ⟨rfl, hd, ss, h, hb, by simp⟩
  · rw [if_neg hq]
    rcases sync_cases d with sc | sc
    · left
      obtain ⟨ss2, h2, hb2, hfl, _⟩ := h.syncedB hb (d' := d.sync.1) sc.2.1 sc.2.2.1 sc.2.2.2.1
      have hs1 : l.sync d = ({ l with durable := l.next }, d.sync.1, 0) := by unfold ALog.sync; rw [if_pos sc.1]
      have hwr : l.wr d (l.sync d) = ({ l with durable := l.next }, d.sync.1, 0) := by
        unfold ALog.wr; rw [if_pos h.nofail, hs1]; simp only [h.nofail.symm]
      rw [hwr]
      exact ⟨rfl, sc.2.2.2.2, ss2, h2, hb2, hfl⟩
    · right
      have hs1 : l.sync d = (l, d.sync.1, d.sync.2) := by unfold ALog.sync; rw [if_neg sc.1]
      have hwr : l.wr d (l.sync d) = ({ l with failed := d.sync.2 }, d.sync.1, d.sync.2) := by
        unfold ALog.wr; rw [if_pos h.nofail, hs1]
      rw [hwr]
      have := h.fell (T := T) (Z := []) hb hd sc.2.1 sc.2.2.1 sc.2.2.2.1 sc.2.2.2.2
      rw [List.append_nil] at this
      exact this
end
end Go.Proofs.YtbdhmkfdofkloaaGreatDoor
/- LOGS WHOSE DISKS FAIL, the mathematics: Cut that may fail. -/
namespace Go.Proofs.YtbdhmkfdofkloaaGreatDoor
open Go.RowKit
open Sc

theorem tellG (d : ADisk) (o : AOp) (h0 : 2 < o.kind → d.now o.name ≠ none) (h4 : o.kind = 4 → o.name ≠ o.to) : ((d.tell o).2 = 0 ∧ (d.tell o).1.durable = d.durable ∧ (d.tell o).1.now = doOp d.now o ∧ (d.tell o).1.pending = d.pending ++ [o] ∧ (d.tell o).1.down = false) ∨
    ((d.tell o).2 = 9 ∧ (d.tell o).1.durable = d.durable ∧ (d.tell o).1.now = d.now ∧ (d.tell o).1.pending = d.pending ∧ (d.tell o).1.down = false) ∨
    ((d.tell o).2 = 10 ∧ (d.tell o).1.durable = d.durable ∧ (d.tell o).1.now = d.now ∧ (d.tell o).1.pending = d.pending ++ [o] ∧ (d.tell o).1.down = true) := by
  have hs := writes_same d
  unfold ADisk.tell
  rcases writes_up d with ⟨h, hd⟩ | ⟨h, hd⟩ | ⟨h, hd⟩
  · left
    simp only [h]
    have hn : ¬ (d.writes.1.now o.name = none ∧ 2 < o.kind) := fun e => h0 e.2 (by have := e.1; rw [hs] at this; exact this)
    rw [if_neg (by omega), if_neg (by omega), if_neg hn, if_neg (fun e => h4 e.1 e.2)]
    refine ⟨rfl, ?_, ?_, ?_, hd⟩
    · show d.writes.1.durable = _; rw [hs]
    · show doOp d.writes.1.now o = _; rw [hs]
    · show d.writes.1.pending ++ [o] = _; rw [hs]
  · right; left
    simp only [h]
    rw [if_neg (by omega), if_pos trivial]
    exact ⟨rfl, by rw [hs], by rw [hs], by rw [hs], hd⟩
  · right; right
    simp only [h]
    rw [if_pos trivial]
    refine ⟨rfl, ?_, ?_, ?_, hd⟩
    · show d.writes.1.durable = _; rw [hs]
    · show d.writes.1.now = _; rw [hs]
    · show d.writes.1.pending ++ [o] = _; rw [hs]
/-- the files behind a mark that was set -/
def Files.marked (F : Files) (first : Nat) : Files := ((F.set markNew (some (str (recBytes first 0 [])))).set markNm (some (str (recBytes first 0 [])))).set markNew none
/-- the files while it is set -/
def Marking (F : Files) (first : Nat) (G : Files) : Prop := G = F ∨ (∃ x, G = F.set markNew x) ∨ G = F.marked first
theorem mark_ren (F : Files) (first : Nat) : doOp (F.set markNew (some (str (recBytes first 0 [])))) ⟨4, markNew, markNm, ByteArray.empty⟩ = F.marked first := by
  unfold doOp Files.marked
  simp
  rw [Files.set_same]
/-- a mark is set, or the disk has failed -/
theorem setMarkX {d : ADisk} {F : Files} (first : Nat) (e1 : d.durable = F) (e2 : d.pending = []) (e3 : d.now = F) :
    ((d.setMark first).2 = 0 ∧ (d.setMark first).1.down = false ∧ (d.setMark first).1.pending = [] ∧ (d.setMark first).1.durable = F.marked first ∧ (d.setMark first).1.now = F.marked first) ∨
    ((d.setMark first).2 ≠ 0 ∧ ((d.setMark first).2 = 9 ∧ (d.setMark first).1.down = false ∨ (d.setMark first).2 = 10 ∧ (d.setMark first).1.down = true) ∧ Sure (Marking F first) (d.setMark first).1) := by
  obtain ⟨o, ho⟩ : ∃ o : AOp, o = ⟨1, markNew, ByteArray.empty, str (recBytes first 0 [])⟩ := ⟨_, rfl⟩
  obtain ⟨q, hq⟩ : ∃ q : AOp, q = ⟨4, markNew, markNm, ByteArray.empty⟩ := ⟨_, rfl⟩
  have hset : d.setMark first = if (d.tell o).2 = 0 then (if (d.tell o).1.sync.2 = 0 then (if ((d.tell o).1.sync.1.tell q).2 = 0 then ((d.tell o).1.sync.1.tell q).1.sync else (d.tell o).1.sync.1.tell q) else (d.tell o).1.sync) else d.tell o := by
    rw [ho, hq]; rfl
  have hdo : doOp F o = F.set markNew (some (str (recBytes first 0 []))) := by rw [ho]; rfl
  have hleft : ∀ G, Left F [o] G → Marking F first G := fun G hG => by
    rcases left_one hG (by rw [ho]; simp) with e | e | ⟨_, z, e⟩
    · exact .inl e
    · exact .inr (.inl ⟨_, e.trans hdo⟩)
    · exact .inr (.inl ⟨some ((str (recBytes first 0 [])).extract 0 z), by rw [e, ho]; rfl⟩)
  have hleft2 : ∀ G, Left (F.set markNew (some (str (recBytes first 0 [])))) [q] G → Marking F first G := fun G hG => by
    rcases left_one hG (by rw [hq]; simp) with e | e | ⟨h1, _⟩
    · exact .inr (.inl ⟨_, e⟩)
    · exact .inr (.inr (by rw [e, hq, mark_ren]))
    · rw [hq] at h1; simp at h1
  rcases tellG d o (by rw [ho]; simp) (by rw [ho]; simp) with t1 | t1 | t1
  · rw [if_pos t1.1] at hset
    rcases sync_cases (d.tell o).1 with s1 | s1
    · rw [if_pos s1.1] at hset
      have ed : (d.tell o).1.sync.1.durable = F.set markNew (some (str (recBytes first 0 []))) := by rw [s1.2.1, t1.2.2.2.1, t1.2.1, e1, e2]; exact hdo
      have en : (d.tell o).1.sync.1.now = F.set markNew (some (str (recBytes first 0 []))) := by rw [s1.2.2.1, t1.2.2.1, e3]; exact hdo
      rcases tellG (d.tell o).1.sync.1 q (fun _ => by rw [en, hq]; simp [Files.set_same]) (fun _ => by rw [hq]; exact mark_ne.2) with t2 | t2 | t2
      · rw [if_pos t2.1] at hset
        have en2 : ((d.tell o).1.sync.1.tell q).1.now = F.marked first := by rw [t2.2.2.1, en, hq, mark_ren]
        have ep2 : ((d.tell o).1.sync.1.tell q).1.pending = [q] := by rw [t2.2.2.2.1, s1.2.2.2.1]; rfl
        have efold : ((d.tell o).1.sync.1.tell q).1.pending.foldl doOp ((d.tell o).1.sync.1.tell q).1.durable = F.marked first := by
          rw [ep2, t2.2.1, ed]
          show doOp (F.set markNew (some (str (recBytes first 0 [])))) q = _
          rw [hq, mark_ren]
        rcases sync_cases ((d.tell o).1.sync.1.tell q).1 with s2 | s2
        · left
          rw [hset]
          exact ⟨s2.1, s2.2.2.2.2, s2.2.2.2.1, by rw [s2.2.1, efold], by rw [s2.2.2.1, en2]⟩
        · right
          rw [hset]
          refine ⟨s2.1, s2.2.2.2.2, ⟨fun G hG => hleft2 G ?_, fun _ => ⟨.inr (.inr (by rw [s2.2.2.1, en2])), by rw [s2.2.1, s2.2.2.2.1, s2.2.2.1, efold, en2]⟩⟩⟩
          rw [s2.2.1, s2.2.2.2.1, ep2, t2.2.1, ed] at hG
          exact hG
      · right
        rw [if_neg (by omega)] at hset
        rw [hset]
        exact ⟨by omega, .inl ⟨t2.1, t2.2.2.2.2⟩, Sure.rest (.inr (.inl ⟨_, by rw [t2.2.1, ed]⟩)) (by rw [t2.2.2.2.1, s1.2.2.2.1]) (by rw [t2.2.2.1, t2.2.1, en, ed])⟩
      · right
        rw [if_neg (by omega)] at hset
        rw [hset]
        refine ⟨by omega, .inr ⟨t2.1, t2.2.2.2.2⟩, ⟨fun G hG => hleft2 G ?_, fun hx => by rw [t2.2.2.2.2] at hx; cases hx⟩⟩
        rw [t2.2.1, t2.2.2.2.1, s1.2.2.2.1, ed] at hG
        exact hG
    · right
      rw [if_neg s1.1] at hset
      rw [hset]
      refine ⟨s1.1, s1.2.2.2.2, ⟨fun G hG => hleft G ?_, fun _ => ⟨.inr (.inl ⟨_, by rw [s1.2.2.1, t1.2.2.1, e3]; exact hdo⟩), ?_⟩⟩⟩
      · rw [s1.2.1, s1.2.2.2.1, t1.2.1, t1.2.2.2.1, e1, e2] at hG
        exact hG
      · rw [s1.2.1, s1.2.2.2.1, s1.2.2.1, t1.2.1, t1.2.2.2.1, t1.2.2.1, e1, e2, e3]; rfl
  · right
    rw [if_neg (by omega)] at hset
    rw [hset]
    exact ⟨by omega, .inl ⟨t1.1, t1.2.2.2.2⟩, Sure.rest (.inl (by rw [t1.2.1, e1])) (by rw [t1.2.2.2.1, e2]) (by rw [t1.2.2.1, t1.2.1, e1, e3])⟩
  · right
    rw [if_neg (by omega)] at hset
    rw [hset]
    refine ⟨by omega, .inr ⟨t1.1, t1.2.2.2.2⟩, ⟨fun G hG => hleft G ?_, fun hx => by rw [t1.2.2.2.2] at hx; cases hx⟩⟩
    rw [t1.2.1, t1.2.2.2.1, e1, e2] at hG
    exact hG
section
variable {F : Files} {mk : Nat} {ss : List Sg}
theorem Stands.newMark (h : Stands F mk ss) (x : Option ByteArray) : Stands (F.set markNew x) mk ss := by
  have hseg : ∀ u, (F.set markNew x) (segName u) = F (segName u) := fun u => Files.set_other _ _ (segName_mark u).2
  refine { mark := ?_, pos := h.pos, ne := h.ne, files := fun k s hk => by rw [hseg]; exact h.files k s hk, junk := h.junk, size := h.size, nums := h.nums, fine := h.fine, other := fun nm hnm => ?_, dead := fun t ht => h.dead t (by rw [← hseg]; exact ht), big := h.big }
  · rw [Files.set_other _ _ (fun e => mark_ne.2 e.symm)]; exact h.mark
  · by_cases e : nm = markNew
    · exact .inr (.inl e)
    · rw [Files.set_other _ _ e] at hnm; exact h.other nm hnm
theorem take_drop_sg (ss : List Sg) (g k : Nat) : ss.take (g + k) = ss.take g ++ (ss.drop g).take k := by
  rw [List.take_add]
theorem nextOf_app (mk : Nat) (a b : List Sg) : nextOf mk (a ++ b) = nextOf (nextOf mk a) b := by
  unfold nextOf chunks; simp; omega
theorem Stands.marked (h : Stands F mk ss) {g : Nat} (hg : g < ss.length) : Stands (F.marked (nextOf mk (ss.take g))) (nextOf mk (ss.take g)) (ss.drop g) := by
  have hseg : ∀ u, (F.marked (nextOf mk (ss.take g))) (segName u) = F (segName u) := fun u => by
    unfold Files.marked
    rw [Files.set_other _ _ (segName_mark u).2, Files.set_other _ _ (segName_mark u).1, Files.set_other _ _ (segName_mark u).2]
  have hall : nextOf (nextOf mk (ss.take g)) (ss.drop g) = nextOf mk ss := by rw [← nextOf_app, List.take_append_drop]
  have hsp : (chunks ss).flatten = (chunks (ss.take g)).flatten ++ (chunks (ss.drop g)).flatten := by
    rw [← List.flatten_append, ← List.map_append, List.take_append_drop]
  have hst : starts mk (chunks ss) = starts mk (chunks (ss.take g)) ++ starts (nextOf mk (ss.take g)) (chunks (ss.drop g)) := by
    have := starts_drop (chunks ss) mk g
    have h2 : starts mk (chunks (ss.take g)) = (starts mk (chunks ss)).take g := by
      apply List.ext_getElem?
      intro i
      rw [List.getElem?_take]
      split
      · rename_i hi
        rw [starts_at _ _ i (by simp; omega), starts_at _ _ i (by simp; omega), chunks_take, List.take_take, Nat.min_eq_left (by omega)]
      · rw [List.getElem?_eq_none (by rw [starts_len]; simp; omega)]
    rw [h2]
    have h3 : starts (nextOf mk (ss.take g)) (chunks (ss.drop g)) = (starts mk (chunks ss)).drop g := by
      rw [this]; unfold nextOf; rw [chunks_take]; congr 1; simp [chunks, List.map_drop]
    rw [h3, List.take_append_drop]
  refine { mark := .inr ?_, pos := Nat.le_trans h.pos (by unfold nextOf; omega), ne := fun s hs => h.ne s (List.mem_of_mem_drop hs), files := fun k s hk => ?_, junk := fun s hs => h.junk s (List.mem_of_mem_drop hs), size := fun s hs => h.size s (List.mem_of_mem_drop hs), nums := fun k r hk => ?_, fine := fun r hr => h.fine r (by rw [hsp]; exact List.mem_append_right _ hr), other := fun nm hnm => ?_, dead := fun t ht => h.dead t (by rw [hall, hseg] at ht; exact ht), big := by rw [hall]; exact h.big }
  · unfold Files.marked
    rw [Files.set_other _ _ (fun e => mark_ne.2 e.symm), Files.set_same]
  · rw [hseg, ← nextOf_app, ← take_drop_sg]
    rw [List.getElem?_drop] at hk
    exact h.files (g + k) s hk
  · have := h.nums ((chunks (ss.take g)).flatten.length + k) r (by rw [hsp, List.getElem?_append_right (by omega)]; rw [← hk]; congr 1; omega)
    rw [this]; unfold nextOf; omega
  · by_cases e1 : nm = markNm
    · exact .inl e1
    · by_cases e2 : nm = markNew
      · exact .inr (.inl e2)
      · unfold Files.marked at hnm
        rw [Files.set_other _ _ e2, Files.set_other _ _ e1, Files.set_other _ _ e2] at hnm
        rcases h.other nm hnm with h1 | h1 | ⟨u, h1, h2, h3⟩
        · exact .inl h1
        · exact .inr (.inl h1)
        · refine .inr (.inr ⟨u, h1, h2, ?_⟩)
          rw [hall]
          rcases h3 with h3 | h3 | h3
          · left; unfold nextOf; omega
          · rw [hst] at h3
            rcases List.mem_append.1 h3 with h3 | h3
            · left
              exact starts_lt _ mk (fun c hc => h.ne' c (by
                obtain ⟨s, hs, rfl⟩ := List.mem_map.1 hc
                exact List.mem_map.2 ⟨s, List.mem_of_mem_take hs, rfl⟩)) u h3
            · exact .inr (.inl h3)
          · exact .inr (.inr h3)
theorem fillOf_drop {g : Nat} (hg : g < ss.length) : fillOf (ss.drop g) = fillOf ss := by
  unfold fillOf
  rw [List.getLast?_drop, if_neg (by omega)]
end
section
variable {l : ALog} {d : ADisk} {mk : Nat} {ss : List Sg} {c1 : List Rec}
/-- how a Cut ends that has done it -/
structure CutX (l : ALog) (mk : Nat) (X : List Rec) (low : Nat) (r : ALog × ADisk × Nat) (mk' : Nat) (ss' : List Sg) : Prop where
  ret : r.2.2 = 0
  up : r.2.1.down = false
  log : LgS r.1 r.2.1 mk' ss' []
  bare : Bare r.2.1.durable mk' ss'
  ge : mk ≤ mk'
  le : mk' = mk ∨ mk' ≤ low ∧ mk' < l.next
  len : mk' - mk ≤ X.length
  recs : (chunks ss').flatten = X.drop (mk' - mk)
  two : ∀ x, r.1.segs[1]? = some x → low < x
theorem LgS.cutX (h : LgS l d mk ss c1) (hb : Bare d.durable mk ss) (hd : d.down = false) (low T : Nat) (hT : low ≤ T ∨ l.next ≤ T) :
    (∃ mk' ss', CutX l mk ((chunks ss).flatten ++ c1) low (l.cut d low) mk' ss') ∨
    Fell (l.cut d low).1 (l.cut d low).2.1 (l.cut d low).2.2 mk T ((chunks ss).flatten ++ c1) ((chunks ss).flatten ++ c1) := by
  obtain ⟨p1, p2⟩ := segsBelow_spec l.segs low
  obtain ⟨X, hX⟩ : ∃ X, X = (chunks ss).flatten ++ c1 := ⟨_, rfl⟩
  have hnx : l.next = mk + X.length := by rw [h.next, hX, List.length_append]; unfold nextOf; omega
  rcases sync_cases d with sc | sc
  · obtain ⟨ss2, h2, hb2, hfl, hnd⟩ := h.syncedB hb (d' := d.sync.1) sc.2.1 sc.2.2.1 sc.2.2.2.1
    have hs1 : l.sync d = ({ l with durable := l.next }, d.sync.1, 0) := by unfold ALog.sync; rw [if_pos sc.1]
    rw [← hX] at hfl ⊢
    by_cases hg : segsBelow l.segs low = 0
    · left
      have hwr : l.wr d (l.sync d) = ({ l with durable := l.next }, d.sync.1, 0) := by
        unfold ALog.wr; rw [if_pos h.nofail, hs1]; simp only [h.nofail.symm]
      have e : l.cut d low = ({ l with durable := l.next }, d.sync.1, 0) := by unfold ALog.cut; rw [if_pos hg, hwr]
      rw [hg] at p2
      rw [e]
      exact ⟨mk, ss2, ⟨rfl, sc.2.2.2.2, h2, hb2, Nat.le_refl _, .inl rfl, by omega, by rw [hfl]; simp, fun x hx => p2 x hx⟩⟩
    · have hsegs : l.segs = starts mk (chunks ss2) ∧ l.filled = fillOf ss2 := by
        rcases h2.mode with ⟨h1, h2, h3, h4, h5⟩ | ⟨ds, c0, h0, h1, _⟩ | ⟨h1, _⟩
        · exact ⟨h4, h5⟩
        · exact absurd rfl h1
        · exact absurd rfl h1
      have hlt := segsBelow_lt hg
      obtain ⟨g, hgd⟩ : ∃ g, g = segsBelow l.segs low := ⟨_, rfl⟩
      rw [← hgd] at p1 p2 hlt hg
      have hgl : g < ss2.length := by rw [hsegs.1, starts_len] at hlt; simpa using hlt
      obtain ⟨first, hfd⟩ : ∃ first, first = nextOf mk (ss2.take g) := ⟨_, rfl⟩
      have hat : l.segs[g]? = some first := by
        rw [hsegs.1, starts_at _ _ g (by simpa using hgl), hfd]; unfold nextOf; rw [chunks_take]
      have hfirst : l.segs.getD g 0 = first := by rw [List.getD_eq_getElem?_getD, hat]; rfl
      have hlow : first ≤ low := by
        rcases p1 with e | ⟨x, hx, hl⟩
        · exact absurd e hg
        · rw [hat] at hx; cases hx; exact hl
      have hst := h2.st.marked hgl
      rw [← hfd] at hst
      have hsp : (chunks ss2).flatten = (chunks (ss2.take g)).flatten ++ (chunks (ss2.drop g)).flatten := by
        rw [← List.flatten_append, ← List.map_append, List.take_append_drop]
      have hfm : first - mk = (chunks (ss2.take g)).flatten.length ∧ mk ≤ first := by rw [hfd]; unfold nextOf; omega
      have hdr : (chunks (ss2.drop g)).flatten = X.drop (first - mk) := by rw [← hfl, hfm.1, hsp, List.drop_left' rfl]
      have hdne : ss2.drop g ≠ [] := fun e => by have := congrArg List.length e; rw [List.length_drop] at this; simp at this; omega
      have hpos : 0 < (chunks (ss2.drop g)).flatten.length := by
        cases hh : ss2.drop g with
        | nil => exact absurd hh hdne
        | cons s r =>
          have := List.length_pos_iff.2 (h2.st.ne s (List.mem_of_mem_drop (by rw [hh]; simp)))
          simp; omega
      have hXl : X.length = (chunks (ss2.take g)).flatten.length + (chunks (ss2.drop g)).flatten.length := by rw [← hfl, hsp, List.length_append]
      have hfn : first < l.next := by omega
      have hasc := (starts_asc (chunks ss2) mk h2.st.ne').1
      rw [← hsegs.1] at hasc
      have hnod : (l.segs.take g).Nodup := (hasc.imp (fun {a b} (hab : a < b) => Nat.ne_of_lt hab)).sublist (List.take_sublist _ _)
      have hdrop : starts first (chunks (ss2.drop g)) = l.segs.drop g := by
        rw [hsegs.1, starts_drop, hfd]; unfold nextOf; rw [chunks_take]; congr 1; simp [chunks, List.map_drop]
      have hnot : ∀ s ∈ l.segs.take g, s ∉ starts first (chunks (ss2.drop g)) := fun s hm hs => by
        rw [hdrop] at hs
        have := hasc
        rw [← List.take_append_drop g l.segs, List.pairwise_append] at this
        exact Nat.lt_irrefl _ (this.2.2 s hm s hs)
      have hseg : ∀ u, (d.sync.1.durable.marked first) (segName u) = d.sync.1.durable (segName u) := fun u => by
        unfold Files.marked
        rw [Files.set_other _ _ (segName_mark u).2, Files.set_other _ _ (segName_mark u).1, Files.set_other _ _ (segName_mark u).2]
      have bad : ∀ (d2 : ADisk) (c : Nat), l.cutS d g first = ({ l with durable := l.next }, d2, c) → c ≠ 0 → l.cut d low = ({ l with durable := l.next, failed := c }, d2, c) := fun d2 c e hc => by
        unfold ALog.cut
        rw [← hgd, if_neg hg]
        simp only
        have hwr : l.wr d (l.cutS d g (l.segs.getD g 0)) = ({ l with durable := l.next, failed := c }, d2, c) := by unfold ALog.wr; rw [if_pos h.nofail, hfirst, e]
        rw [hwr]
        simp only
        rw [if_neg hc]
      have hung : ∀ (d2 : ADisk) (c : Nat), c ≠ 0 → Sure (Lft mk T X X.length) d2 → Hung { l with durable := l.next, failed := c } d2 mk T X X := fun d2 c hc hs =>
        ⟨hc, by rw [hX]; exact h.recs, hnx, ⟨by show mk ≤ l.next; omega, Nat.le_refl _⟩, h.sg', by show Sure (Lft mk T X (l.next - mk)) d2; rw [show l.next - mk = X.length by omega]; exact hs⟩
      have keep : ∀ (G : Files), Stands G mk ss2 → Lft mk T X X.length G := fun G hG => Lft.of hG (.inl (fun e => hdne (by rw [e]; simp))) (Nat.le_refl _) (Nat.le_refl _) (by rw [hfl, List.take_length])
      have past : ∀ (G : Files), Stands G first (ss2.drop g) → Lft mk T X X.length G := fun G hG => ⟨first, ss2.drop g, X.length, hG, .inl hdne, hfm.2, .inr (by omega), Nat.le_refl _, Nat.le_refl _, by omega, by rw [List.take_length, hdr]⟩
      rcases setMarkX (d := d.sync.1) first rfl sc.2.2.2.1 hnd with ⟨m1, m2, m3, m4, m5⟩ | ⟨m1, m2, m3⟩
      · have hcS : l.cutS d g first = ({ l with durable := l.next }, (d.sync.1.setMark first).1.removeAll ((l.segs.take g).map segName)) := by
          unfold ALog.cutS; rw [hs1]; simp only [if_true]; rw [if_pos m1]
        have hnd2 : ((l.segs.take g).map segName).Nodup := by
          unfold List.Nodup
          rw [List.pairwise_map]
          exact List.Pairwise.imp (fun hne e => hne (segName_inj e)) hnod
        have hmem : ∀ m ∈ (l.segs.take g).map segName, ∃ u, m = segName u ∧ u ∉ starts first (chunks (ss2.drop g)) := fun m hm => by
          obtain ⟨u, hu, rfl⟩ := List.mem_map.1 hm
          exact ⟨u, rfl, hnot u hu⟩
        rcases removeAllX ((l.segs.take g).map segName) [] (d := (d.sync.1.setMark first).1) m4 m3 (by rw [m5]; rfl) m2 hnd2 (fun s hs => by
          obtain ⟨u, hu, rfl⟩ := List.mem_map.1 hs
          rw [m5, hseg]
          exact (h2.st.start (by rw [← hsegs.1]; exact List.mem_of_mem_take hu)).1) with ⟨r1, r2, r3, r4, r5⟩ | ⟨r1, r2, r3⟩
        · left
          have hsan : (d.sync.1.durable.marked first).sans ((l.segs.take g).map segName) ((d.sync.1.setMark first).1.removeAll ((l.segs.take g).map segName)).1.durable := by rw [r5]; exact fold_rems _ _
          have hst3 := hst.some_ hmem hsan
          have hwr : l.wr d (l.cutS d g (l.segs.getD g 0)) = ({ l with durable := l.next }, ((d.sync.1.setMark first).1.removeAll ((l.segs.take g).map segName)).1, 0) := by
            unfold ALog.wr; rw [if_pos h.nofail, hfirst, hcS]; simp only [r1]; simp only [h.nofail.symm]
          have hhead : (l.recs.headD ⟨0, 0, []⟩).lsn = mk := by
            have hr := h2.recs
            simp only [List.append_nil] at hr
            rw [hr]
            cases hf : (chunks ss2).flatten with
            | nil => have h9 := congrArg List.length hf; rw [hfl] at h9; simp only [List.length_nil] at h9; omega
            | cons r rs => have := h2.st.nums 0 r (by rw [hf]; rfl); simpa using this
          have e : l.cut d low = ({ l with durable := l.next, recs := l.recs.drop (first - mk), segs := l.segs.drop g }, ((d.sync.1.setMark first).1.removeAll ((l.segs.take g).map segName)).1, 0) := by
            unfold ALog.cut
            rw [← hgd, if_neg hg]
            simp only
            rw [hwr]
            simp only [if_true]
            rw [hhead, hfirst]
          rw [e]
          have hcl : Clean ((d.sync.1.setMark first).1.removeAll ((l.segs.take g).map segName)).1.durable first (ss2.drop g) := fun u hu => by
            by_cases hm : segName u ∈ (l.segs.take g).map segName
            · exact absurd ((hsan _).1 hm) hu
            · rw [(hsan _).2 hm, hseg] at hu
              have := h2.clean u hu
              rw [← hsegs.1, ← List.take_append_drop g l.segs] at this
              rcases List.mem_append.1 this with h3 | h3
              · exact absurd (List.mem_map.2 ⟨u, h3, rfl⟩) hm
              · rw [hdrop]; exact h3
          have hall : nextOf first (ss2.drop g) = l.next := by unfold nextOf; omega
          refine ⟨first, ss2.drop g, ⟨rfl, r2, ⟨hst3, hcl, begun_of hdne, ?_, ?_, h.nofail, hall.symm, by simp, by intro r hr; simp at hr, by rw [hall]; have := h2.big; have := h2.next; simp at *; omega, .rest rfl r3 r4 hdrop.symm (by show l.filled = _; rw [fillOf_drop hgl, hsegs.2])⟩, .inl hdne, hfm.2, .inr ⟨hlow, hfn⟩, by omega, hdr, fun x hx => ?_⟩⟩
          · show l.recs.drop (first - mk) = _
            have hr := h2.recs
            simp only [List.append_nil] at hr
            rw [hr, hfl, hdr, List.append_nil]
          · show l.next = _
            rw [hall]; simp
          · change (l.segs.drop g)[1]? = some x at hx
            rw [List.getElem?_drop] at hx
            exact p2 x hx
        · right
          rw [bad _ _ (by rw [hcS]) r1]
          refine ⟨r2, hung _ _ r1 (r3.mono (fun G hG => ?_))⟩
          obtain ⟨ms, a1, a2⟩ := hG
          exact past G (hst.some_ (fun m hm => hmem m (by simpa using a1 m hm)) a2)
      · right
        have hcS : l.cutS d g first = ({ l with durable := l.next }, (d.sync.1.setMark first).1, (d.sync.1.setMark first).2) := by
          unfold ALog.cutS; rw [hs1]; simp only [if_true]; rw [if_neg m1]
        rw [bad _ _ hcS m1]
        refine ⟨m2, hung _ _ m1 (m3.mono (fun G hG => ?_))⟩
        rcases hG with e | ⟨x, e⟩ | e
        · rw [e]; exact keep _ h2.st
        · rw [e]; exact keep _ (h2.st.newMark x)
        · rw [e]; exact past _ hst
  · right
    have hs1 : l.sync d = (l, d.sync.1, d.sync.2) := by unfold ALog.sync; rw [if_neg sc.1]
    have e : l.cut d low = ({ l with failed := d.sync.2 }, d.sync.1, d.sync.2) := by
      unfold ALog.cut
      split
      · unfold ALog.wr; rw [if_pos h.nofail, hs1]
      · have hcS : ∀ g f, l.cutS d g f = (l, d.sync.1, d.sync.2) := fun g f => by unfold ALog.cutS; rw [hs1]; simp only; rw [if_neg sc.1]
        simp only
        unfold ALog.wr
        rw [if_pos h.nofail, hcS]
        simp only
        rw [if_neg sc.1]
    rw [e]
    have := h.fell (T := T) (Z := []) hb hd sc.2.1 sc.2.2.1 sc.2.2.2.1 sc.2.2.2.2
    rw [List.append_nil] at this
    exact this
end
end Go.Proofs.YtbdhmkfdofkloaaGreatDoor
