import Derived.Test.YtbdhmkfdofkloaaGreatDoorC38
import Derived.Test.YtbdhmkfdofkloaaGreatDoorC07
import Derived.Laws.AppendOwnNone
/- THE BOOK AND ITS LOG OVER A DISK THAT FAILS, the mathematics. -/
namespace Go.Proofs.YtbdhmkfdofkloaaGreatDoor
open Go.RowKit
open Sc

/-- the book, and a log from mk on -/
structure BFit (b : ABook) (mk : Nat) : Prop where
  pos : 1 ≤ mk
  le : mk ≤ b.all.length + 1
  low : mk = 1 ∨ mk ≤ b.low
  lt : b.low ≤ b.tries
  must : b.must ≤ b.all.length + 1
  fo : b.forced ≤ b.all.length
  mf : b.must ≤ b.forced + 1
  sm : ∀ j, mk + j ≤ b.must → bytesR ((b.all.drop (mk - 1)).take j) < 870
/-- its log is open and well -/
structure BOpen (b : ABook) (l : ALog) (d : ADisk) (mk : Nat) (ss : List Sg) (c1 : List Rec) : Prop where
  fit : BFit b mk
  lg : LgS l d mk ss c1
  ba : Bare d.durable mk ss
  up : d.down = false
  recs : (chunks ss).flatten ++ c1 = b.all.drop (mk - 1)
  dur : b.forced + 1 ≤ l.durable
/-- its log is open and has failed -/
structure BHung (b : ABook) (M : List Rec) (l : ALog) (d : ADisk) (mk : Nat) : Prop where
  fit : BFit b mk
  hg : Hung l d mk b.tries (b.all.drop (mk - 1)) (b.all.drop (mk - 1) ++ M)
  up : d.down = false
  f9 : l.failed = 9
  dur : b.forced + 1 ≤ l.durable
  sg : l.segs.length ≤ b.all.length + 2
  one : M.length ≤ 1
/-- its disk went down -/
structure BGone (b : ABook) (M : List Rec) (d : ADisk) (mk : Nat) : Prop where
  fit : BFit b mk
  sure : Sure (Lft mk b.tries (b.all.drop (mk - 1) ++ M) (b.forced + 1 - mk)) d
  up : d.down = false
  one : M.length ≤ 1
def BSt (o : Option ALog) (d : ADisk) (b : ABook) (M : List Rec) (sk hu : Bool) : Prop :=
  (∃ l mk ss c1, o = some l ∧ hu = false ∧ M = [] ∧ BOpen b l d mk ss c1) ∨
  (∃ l mk, o = some l ∧ hu = true ∧ sk = true ∧ BHung b M l d mk) ∨
  (∃ mk, o = none ∧ hu = true ∧ sk = true ∧ BGone b M d mk)
/-- what a call leaves of a log and its disk -/
def After (l : ALog) (d : ADisk) (a b : Int) (o : Option ALog) (d' : ADisk) : Prop :=
  (d.down = false ∧ o = some l ∧ d' = d.knob a b) ∨ (d.down = true ∧ o = none ∧ ∃ F, Left d.durable d.pending F ∧ d' = fallen F)
/-! ### logs, whatever they come through -/
section
variable {l : ALog} {d : ADisk}
def Upp (l r : ALog) : Prop := l.durable ≤ r.durable ∧ r.segs.length ≤ l.segs.length + 1
theorem sync_uppD (h : l.durable ≤ l.next) : l.durable ≤ (l.sync d).1.durable ∧ (l.sync d).1.segs = l.segs := by
  unfold ALog.sync
  split
  · exact ⟨h, rfl⟩
  · exact ⟨Nat.le_refl _, rfl⟩
theorem sync_upp (h : l.durable ≤ l.next) : Upp l (l.sync d).1 := ⟨(sync_uppD h).1, by rw [(sync_uppD h).2]; omega⟩
theorem room_upp (h : l.durable ≤ l.next) : Upp l (l.room d).1 := by
  unfold ALog.room
  split
  · exact ⟨Nat.le_refl _, Nat.le_succ _⟩
  · split
    · refine ⟨(sync_uppD h).1, ?_⟩
      show ((l.sync d).1.segs ++ [_]).length ≤ _
      rw [(sync_uppD h).2]; simp
    · exact sync_upp h
theorem put_upp (h : l.durable ≤ l.next) (x : List Nat) : Upp l (l.put d x).1 := by
  unfold ALog.put
  split
  · exact room_upp h
  · exact room_upp h
theorem wr_upp {r : ALog × ADisk × Nat} (h : Upp l r.1) : Upp l (l.wr d r).1 := by
  unfold ALog.wr
  split
  · exact h
  · exact ⟨Nat.le_refl _, Nat.le_succ _⟩
theorem wr_failed {r : ALog × ADisk × Nat} : (l.wr d r).1.failed = (l.wr d r).2.2 := by
  unfold ALog.wr
  split
  · rfl
  · rfl
theorem append_upp (h : l.durable ≤ l.next) (kind : Nat) (s : ByteArray) : Upp l (l.append d kind s).1 := by
  unfold ALog.append
  split
  · exact ⟨Nat.le_refl _, Nat.le_succ _⟩
  · split
    · exact wr_upp (put_upp h _)
    · exact wr_upp (put_upp h _)
theorem append_failed {kind : Nat} {s : ByteArray} (hs : s.size ≤ 255) (h : (l.append d kind s).2.2.2 ≠ 0) : (l.append d kind s).1.failed = (l.append d kind s).2.2.2 := by
  unfold ALog.append at h ⊢
  rw [if_neg (by omega)] at h ⊢
  split
  · rename_i h0; rw [if_pos h0] at h; exact absurd rfl h
  · exact wr_failed
theorem force_upp (h : l.durable ≤ l.next) : Upp l (l.force d).1 := by
  unfold ALog.force
  split
  · exact ⟨Nat.le_refl _, Nat.le_succ _⟩
  · exact wr_upp (sync_upp h)
theorem force_failed (h : (l.force d).2.2 ≠ 0) : (l.force d).1.failed = (l.force d).2.2 := by
  unfold ALog.force at h ⊢
  split
  · rename_i h0; rw [if_pos h0] at h; exact absurd rfl h
  · exact wr_failed
theorem cutS_upp (h : l.durable ≤ l.next) (g f : Nat) : Upp l (l.cutS d g f).1 := by
  unfold ALog.cutS
  split
  · split
    · exact sync_upp h
    · exact sync_upp h
  · exact sync_upp h
theorem cut_upp (h : l.durable ≤ l.next) (low : Nat) : Upp l (l.cut d low).1 := by
  unfold ALog.cut
  split
  · exact wr_upp (sync_upp h)
  · simp only
    split
    · have := wr_upp (d := d) (cutS_upp (d := d) h (segsBelow l.segs low) (l.segs.getD (segsBelow l.segs low) 0))
      refine ⟨this.1, ?_⟩
      show (List.drop _ _).length ≤ _
      rw [List.length_drop]
      have := this.2
      omega
    · exact wr_upp (cutS_upp h _ _)
theorem cut_failed {low : Nat} (h : (l.cut d low).2.2 ≠ 0) : (l.cut d low).1.failed = (l.cut d low).2.2 := by
  unfold ALog.cut at h ⊢
  split
  · exact wr_failed
  · rename_i h1
    rw [if_neg h1] at h
    simp only at h ⊢
    split
    · rename_i h0; rw [if_pos h0] at h; exact absurd rfl h
    · exact wr_failed
/-- over a log that has failed nothing is done -/
theorem append_hung {kind : Nat} {s : ByteArray} (hf : l.failed ≠ 0) (hs : s.size ≤ 255) : l.append d kind s = (l, d, 0, l.failed) := by
  have e : ∀ r, l.wr d r = (l, d, l.failed) := fun r => by unfold ALog.wr; rw [if_neg hf]
  unfold ALog.append
  rw [if_neg (by omega), e]
  simp only
  rw [if_neg hf]
theorem append_big {kind : Nat} {s : ByteArray} (hs : 255 < s.size) : l.append d kind s = (l, d, 0, 1) := by
  unfold ALog.append
  rw [if_pos hs]
theorem force_hung (hf : l.failed ≠ 0) : l.force d = (l, d, 0) ∧ l.durable = l.next ∨ l.force d = (l, d, l.failed) := by
  unfold ALog.force
  split
  · rename_i h; exact .inl ⟨rfl, h⟩
  · right; unfold ALog.wr; rw [if_neg hf]
theorem cut_hung {low : Nat} (hf : l.failed ≠ 0) : l.cut d low = (l, d, l.failed) := by
  have e : ∀ r, l.wr d r = (l, d, l.failed) := fun r => by unfold ALog.wr; rw [if_neg hf]
  unfold ALog.cut
  split
  · exact e _
  · simp only
    rw [e]
    simp only
    rw [if_neg hf]
variable {mk : Nat} {ss : List Sg} {c1 : List Rec}
theorem LgS.nextX (h : LgS l d mk ss c1) : l.next = mk + ((chunks ss).flatten ++ c1).length := by
  rw [h.next, List.length_append]; unfold nextOf; omega
theorem LgS.durLe (h : LgS l d mk ss c1) : l.durable ≤ l.next := by rw [h.dur, h.next]; omega
theorem LgS.segsLen (h : LgS l d mk ss c1) : l.segs.length ≤ ((chunks ss).flatten ++ c1).length := by
  have hn : ∀ c ∈ chunks ss, c ≠ [] := fun c hc => by
    obtain ⟨s, hs, e⟩ := List.mem_map.1 hc
    exact e ▸ h.st.ne s hs
  have hl := flat_len' hn
  rw [List.length_append]
  rcases h.mode with ⟨h1, h2, h3, h4, h5⟩ | ⟨ds, c0, h0, h1, h2, h3, h4, h5, h6⟩ | ⟨h1, h2, h3, h4, h5, h6⟩
  · rw [h4, starts_len]; omega
  · rw [h4, starts_len]; omega
  · have := List.length_pos_iff.2 h1
    rw [h4, List.length_append, starts_len]; simp only [List.length_singleton]; omega
theorem LgS.hinv (h : LgS l d mk ss c1) : ∀ k s : Nat, l.segs[k]? = some s → ∃ r rs, l.recs = r :: rs ∧ r.lsn ≤ s ∧ s - r.lsn < l.recs.length := by
  intro k s hs
  have hm := List.mem_of_getElem? hs
  have hb : mk ≤ s ∧ s < mk + ((chunks ss).flatten ++ c1).length := by
    have hst : s ∈ starts mk (chunks ss) → mk ≤ s ∧ s < mk + ((chunks ss).flatten ++ c1).length := fun hm => by
      have := (h.st.start hm).2
      rw [List.length_append]
      unfold nextOf at this
      omega
    rcases h.mode with ⟨h1, h2, h3, h4, h5⟩ | ⟨ds, c0, h0, h1, h2, h3, h4, h5, h6⟩ | ⟨h1, h2, h3, h4, h5, h6⟩
    · exact hst (by rw [← h4]; exact hm)
    · exact hst (by rw [← h4]; exact hm)
    · rw [h4, List.mem_append] at hm
      rcases hm with hm | hm
      · exact hst hm
      · simp only [List.mem_singleton] at hm
        have := List.length_pos_iff.2 h1
        rw [hm, List.length_append]
        unfold nextOf
        omega
  have hnum : ∀ r, ((chunks ss).flatten ++ c1)[0]? = some r → r.lsn = mk := fun r hr => by
    by_cases he : 0 < (chunks ss).flatten.length
    · rw [List.getElem?_append_left he] at hr
      have := h.st.nums 0 r hr
      omega
    · rw [List.getElem?_append_right (by omega)] at hr
      have := h.num1 (0 - (chunks ss).flatten.length) r hr
      unfold nextOf at this
      omega
  rw [h.recs]
  cases hx : (chunks ss).flatten ++ c1 with
  | nil => rw [hx] at hb; simp at hb; omega
  | cons r rs =>
    have := hnum r (by rw [hx]; rfl)
    rw [hx] at hb
    exact ⟨r, rs, rfl, by omega, by omega⟩
end
/-! ### what the book says of a disk -/
def BQ (b : ABook) (M : List Rec) (mk : Nat) (ss : List Sg) : Prop :=
  (mk = 1 ∨ mk ≤ b.tries) ∧ 1 ≤ mk ∧ (∀ j, mk + j ≤ b.must → bytesR (((b.all ++ M).drop (mk - 1)).take j) < 870) ∧ ∃ k, b.forced ≤ k ∧ k ≤ (b.all ++ M).length ∧ mk - 1 ≤ k ∧ (chunks ss).flatten = ((b.all ++ M).take k).drop (mk - 1)
theorem drop_back (A M : List Rec) (k : Nat) (h : k ≤ A.length) : (A ++ M).drop k = A.drop k ++ M := by
  rw [List.drop_append_of_le_length h]
theorem take_front (A M : List Rec) (j : Nat) (h : j ≤ A.length) : (A ++ M).take j = A.take j := by
  rw [List.take_append_of_le_length h]
theorem BFit.holds {b : ABook} {M : List Rec} {mk f : Nat} {F : Files} (h : BFit b mk) (hf : b.forced + 1 ≤ f + mk) (hl : Lft mk b.tries (b.all.drop (mk - 1) ++ M) f F) : Holds (BQ b M) F := by
  obtain ⟨mk', ss, k, a1, a2, a3, a4, a5, a6, a7, a8⟩ := hl
  have hp := h.pos
  have hle := h.le
  have hmu := h.must
  have hlt := h.lt
  have hlen : (b.all.drop (mk - 1) ++ M).length = b.all.length - (mk - 1) + M.length := by rw [List.length_append, List.length_drop]
  refine ⟨mk', ss, a1, a2, ?_, by omega, fun j hj => ?_, k + (mk - 1), by omega, by rw [List.length_append]; omega, by omega, ?_⟩
  · rcases a4 with e | e
    · rcases h.low with e2 | e2
      · exact .inl (e.trans e2)
      · exact .inr (by omega)
    · exact .inr e
  · rw [drop_back _ _ _ (by omega), take_front _ _ _ (by rw [List.length_drop]; omega)]
    have h1 := h.sm (mk' - mk + j) (by omega)
    rw [List.take_add, bytesR_app, List.drop_drop] at h1
    rw [show mk' - 1 = mk - 1 + (mk' - mk) by omega]
    omega
  · rw [a8, ← drop_back _ _ _ (by omega), show k + (mk - 1) = (mk - 1) + k by omega]
    rw [show mk' - 1 = (mk - 1) + (mk' - mk) by omega, ← List.drop_drop, List.drop_take (i := mk - 1)]
    congr 2
    omega
theorem BSt.sure {o : Option ALog} {d : ADisk} {b : ABook} {M : List Rec} {sk hu : Bool} (h : BSt o d b M sk hu) : d.down = false ∧ Sure (Holds (BQ b M)) d := by
  rcases h with ⟨l, mk, ss, c1, _, _, rfl, h⟩ | ⟨l, mk, _, _, _, h⟩ | ⟨mk, _, _, _, h⟩
  · refine ⟨h.up, (h.lg.sure h.ba b.tries).mono (fun F hF => h.fit.holds (f := l.durable - mk) ?_ ?_)⟩
    · have := h.dur; have := h.lg.durK.2; omega
    · rw [h.recs] at hF; rw [List.append_nil]; exact hF
  · refine ⟨h.up, h.hg.sure.mono (fun F hF => h.fit.holds (f := l.durable - mk) ?_ hF)⟩
    have := h.dur; have := h.hg.dur.1; omega
  · exact ⟨h.up, h.sure.mono (fun F hF => h.fit.holds (f := b.forced + 1 - mk) (by omega) hF)⟩
theorem BSt.mf {o : Option ALog} {d : ADisk} {b : ABook} {M : List Rec} {sk hu : Bool} (h : BSt o d b M sk hu) : b.must ≤ b.forced + 1 ∧ b.forced ≤ b.all.length := by
  rcases h with ⟨l, mk, ss, c1, _, _, rfl, h⟩ | ⟨l, mk, _, _, _, h⟩ | ⟨mk, _, _, _, h⟩
  · exact ⟨h.fit.mf, h.fit.fo⟩
  · exact ⟨h.fit.mf, h.fit.fo⟩
  · exact ⟨h.fit.mf, h.fit.fo⟩
theorem BSt.one {o : Option ALog} {d : ADisk} {b : ABook} {M : List Rec} {sk hu : Bool} (h : BSt o d b M sk hu) : M.length ≤ 1 := by
  rcases h with ⟨l, mk, ss, c1, _, _, rfl, h⟩ | ⟨l, mk, _, _, _, h⟩ | ⟨mk, _, _, _, h⟩
  · simp
  · exact h.one
  · exact h.one
theorem BQ.len {b : ABook} {M : List Rec} {mk : Nat} {ss : List Sg} {k : Nat} (h2 : k ≤ (b.all ++ M).length) (h3 : mk - 1 ≤ k) (h0 : 1 ≤ mk) (h4 : (chunks ss).flatten = ((b.all ++ M).take k).drop (mk - 1)) : nextOf mk ss = k + 1 := by
  unfold nextOf
  rw [h4, List.length_drop, List.length_take, Nat.min_eq_left h2]
  omega
theorem BQ.next {b : ABook} {M : List Rec} {mk : Nat} {ss : List Sg} (h : BQ b M mk ss) : nextOf mk ss ≤ (b.all ++ M).length + 1 := by
  obtain ⟨_, h0, _, k, _, h2, h3, h4⟩ := h
  rw [BQ.len h2 h3 h0 h4]
  omega
/-- the book behind again -/
def ABook.anew (b : ABook) (M : List Rec) (k : Nat) : ABook := { b with all := (b.all ++ M).take k, forced := k, low := min b.tries (k + 1), must := min b.must (k + 1) }
theorem BQ.opened {b : ABook} {M : List Rec} {mk : Nat} {ss : List Sg} {l : ALog} {d : ADisk} (h : BQ b M mk ss) (hl : LgS l d mk ss []) (hb : Bare d.durable mk ss) (hd : d.down = false) :
    ∃ k, b.forced ≤ k ∧ k ≤ (b.all ++ M).length ∧ l.next = k + 1 ∧ BOpen (b.anew M k) l d mk ss [] := by
  obtain ⟨h1, h0, hs, k, hf, h2, h3, h4⟩ := h
  have hnx := BQ.len h2 h3 h0 h4
  have hlen : ((b.all ++ M).take k).length = k := by rw [List.length_take, Nat.min_eq_left h2]
  refine ⟨k, hf, h2, by rw [hl.next, hnx]; simp, ⟨⟨h0, ?_, ?_, Nat.min_le_left _ _, ?_, ?_, Nat.min_le_right _ _, fun j hj => ?_⟩, hl, hb, hd, ?_, ?_⟩⟩
  · show mk ≤ ((b.all ++ M).take k).length + 1; omega
  · show mk = 1 ∨ mk ≤ min b.tries (k + 1)
    rcases h1 with h1 | h1
    · exact .inl h1
    · exact .inr (by omega)
  · show min b.must (k + 1) ≤ ((b.all ++ M).take k).length + 1
    rw [hlen]; exact Nat.min_le_right _ _
  · show k ≤ ((b.all ++ M).take k).length; omega
  · have hj' : mk + j ≤ min b.must (k + 1) := hj
    show bytesR ((((b.all ++ M).take k).drop (mk - 1)).take j) < 870
    rw [List.drop_take, List.take_take, Nat.min_eq_left (by omega)]
    exact hs j (by omega)
  · show (chunks ss).flatten ++ [] = ((b.all ++ M).take k).drop (mk - 1)
    rw [List.append_nil, h4]
  · show k + 1 ≤ l.durable
    rw [hl.dur, hnx]; exact Nat.le_refl _
/-- an open log, that has nothing to be forced: it is what lies there -/
theorem BOpen.still {b : ABook} {l : ALog} {d : ADisk} {mk : Nat} {ss : List Sg} (h : BOpen b l d mk ss []) : Sure (Holds (fun a s => a = mk ∧ s = ss)) d := by
  rcases h.lg.mode with ⟨_, h2, h3, _, _⟩ | ⟨_, _, _, h1, _⟩ | ⟨h1, _⟩
  · exact Sure.rest ⟨mk, ss, h.lg.st, h.ba, rfl, rfl⟩ h2 h3
  · exact absurd rfl h1
  · exact absurd rfl h1
theorem BOpen.next {b : ABook} {l : ALog} {d : ADisk} {mk : Nat} {ss : List Sg} {c1 : List Rec} (h : BOpen b l d mk ss c1) : l.next = b.all.length + 1 := by
  rw [h.lg.nextX, h.recs, List.length_drop]
  have := h.fit.pos; have := h.fit.le; omega
theorem BOpen.look {b : ABook} {l : ALog} {d : ADisk} {mk : Nat} {ss : List Sg} {c1 : List Rec} (h : BOpen b l d mk ss c1) : LookOk b l (mk - 1) (b.all.drop (mk - 1)) := by
  have hp := h.fit.pos
  have hle := h.fit.le
  refine ⟨by rw [h.lg.recs, h.recs], h.next, by omega, rfl, ?_, fun j hj => ?_⟩
  · rcases h.fit.low with e | e
    · exact .inr (by omega)
    · exact .inl (by omega)
  · rcases hj with rfl | hj
    · simp [bytesR]
    · exact h.fit.sm j (by omega)
theorem BHung.next {b : ABook} {M : List Rec} {l : ALog} {d : ADisk} {mk : Nat} (h : BHung b M l d mk) : l.next = b.all.length + 1 := by
  rw [h.hg.next, List.length_drop]
  have := h.fit.pos; have := h.fit.le; omega
theorem BHung.look {b : ABook} {M : List Rec} {l : ALog} {d : ADisk} {mk : Nat} (h : BHung b M l d mk) : LookOk b l (mk - 1) (b.all.drop (mk - 1)) := by
  have hp := h.fit.pos
  have hle := h.fit.le
  refine ⟨h.hg.recs, h.next, by omega, rfl, ?_, fun j hj => ?_⟩
  · rcases h.fit.low with e | e
    · exact .inr (by omega)
    · exact .inl (by omega)
  · rcases hj with rfl | hj
    · simp [bytesR]
    · exact h.fit.sm j (by omega)
theorem BSt.look {l : ALog} {d : ADisk} {b : ABook} {M : List Rec} {sk hu : Bool} (h : BSt (some l) d b M sk hu) : ∃ fst X, LookOk b l fst X := by
  rcases h with ⟨l, mk, ss, c1, e, _, rfl, h⟩ | ⟨l, mk, e, _, _, h⟩ | ⟨mk, e, _⟩
  · cases e; exact ⟨_, _, h.look⟩
  · cases e; exact ⟨_, _, h.look⟩
  · cases e
theorem BSt.sg {l : ALog} {d : ADisk} {b : ABook} {M : List Rec} {sk hu : Bool} (h : BSt (some l) d b M sk hu) : l.segs.length ≤ b.all.length + 2 ∧ (l.filled < 600 → l.segs ≠ []) ∧ (l.failed = 0 → ∀ k s : Nat, l.segs[k]? = some s → ∃ r rs, l.recs = r :: rs ∧ r.lsn ≤ s ∧ s - r.lsn < l.recs.length) := by
  rcases h with ⟨l, mk, ss, c1, e, _, rfl, h⟩ | ⟨l, mk, e, _, _, h⟩ | ⟨mk, e, _⟩
  · cases e
    refine ⟨?_, h.lg.sg, fun _ => h.lg.hinv⟩
    have := h.lg.segsLen
    rw [h.recs, List.length_drop] at this
    omega
  · cases e
    exact ⟨h.sg, h.hg.segs, fun h0 => by rw [h.f9] at h0; cases h0⟩
  · cases e
/-! ### the calls -/
theorem Hung.knob {l : ALog} {d : ADisk} {mk T : Nat} {X Y : List Rec} (h : Hung l d mk T X Y) (a b : Int) : Hung l (d.knob a b) mk T X Y :=
  ⟨h.fail, h.recs, h.next, h.dur, h.segs, h.sure.knob a b⟩
/-- a call that failed -/
theorem fellSt {b : ABook} {M : List Rec} {l : ALog} {d : ADisk} {mk c : Nat} {x y : Int} {o : Option ALog} {d' : ADisk} (hb : BFit b mk) (hf : Fell l d c mk b.tries (b.all.drop (mk - 1)) (b.all.drop (mk - 1) ++ M)) (hfl : l.failed = c) (hd : b.forced + 1 ≤ l.durable) (hs : l.segs.length ≤ b.all.length + 2) (hM : M.length ≤ 1) (ha : After l d x y o d') : BSt o d' b M true true := by
  obtain ⟨hc, hh⟩ := hf
  rcases ha with ⟨a1, rfl, rfl⟩ | ⟨a1, rfl, F, a2, rfl⟩
  · refine .inr (.inl ⟨l, mk, rfl, rfl, rfl, hb, hh.knob _ _, a1, ?_, hd, hs, hM⟩)
    rcases hc with ⟨e, _⟩ | ⟨_, e⟩
    · rw [hfl, e]
    · rw [a1] at e; cases e
  · refine .inr (.inr ⟨mk, rfl, rfl, rfl, hb, fallen_sure ((hh.sure.left F a2).less (by omega)), rfl, hM⟩)
theorem hungSt {b : ABook} {M : List Rec} {l : ALog} {d : ADisk} {mk : Nat} {x y x' y' : Int} {o : Option ALog} {d' : ADisk} (h : BHung b M l d mk) (ha : After l (d.knob x y) x' y' o d') : BSt o d' b M true true := by
  rcases ha with ⟨a1, rfl, rfl⟩ | ⟨a1, _⟩
  · exact .inr (.inl ⟨l, mk, rfl, rfl, rfl, h.fit, (h.hg.knob _ _).knob _ _, a1, h.f9, h.dur, h.sg, h.one⟩)
  · have : d.down = true := a1
    rw [h.up] at this; cases this
theorem BOpen.knob {b : ABook} {l : ALog} {d : ADisk} {mk : Nat} {ss : List Sg} {c1 : List Rec} (h : BOpen b l d mk ss c1) (x y : Int) : BOpen b l (d.knob x y) mk ss c1 :=
  ⟨h.fit, h.lg.knob x y, h.ba, h.up, h.recs, h.dur⟩
theorem openSt {b : ABook} {l : ALog} {d : ADisk} {mk : Nat} {ss : List Sg} {c1 : List Rec} {x y : Int} {o : Option ALog} {d' : ADisk} {sk : Bool} (h : BOpen b l d mk ss c1) (ha : After l d x y o d') : BSt o d' b [] sk false := by
  rcases ha with ⟨a1, rfl, rfl⟩ | ⟨a1, _⟩
  · exact .inl ⟨l, mk, ss, c1, rfl, rfl, rfl, h.knob x y⟩
  · rw [h.up] at a1; cases a1
section
variable {l : ALog} {d : ADisk} {b : ABook} {M : List Rec} {sk hu : Bool} {x y x' y' : Int}
theorem BSt.append (h : BSt (some l) d b M sk hu) (hsk : sk = false → x < 0 ∧ y < 0) (hx : -9223372036854775808 ≤ x) (hy : -9223372036854775808 ≤ y) (kind : Nat) (hk : kind < 256) (s : ByteArray) (hbg : b.all.length ≤ 1048576) :
    (255 < s.size ∧ (l.append (d.knob x y) kind s).2.2.1 = 0 ∧ (l.append (d.knob x y) kind s).2.2.2 = 1 ∧ ∀ o d', After (l.append (d.knob x y) kind s).1 (l.append (d.knob x y) kind s).2.1 x' y' o d' → BSt o d' b M sk hu) ∨
    (s.size ≤ 255 ∧ hu = false ∧ M = [] ∧ (l.append (d.knob x y) kind s).2.2.1 = b.all.length + 1 ∧ (l.append (d.knob x y) kind s).2.2.2 = 0 ∧ ∀ o d', After (l.append (d.knob x y) kind s).1 (l.append (d.knob x y) kind s).2.1 x' y' o d' → BSt o d' { b with all := b.all ++ [⟨b.all.length + 1, kind, bytesOf s⟩] } [] sk false) ∨
    (s.size ≤ 255 ∧ sk = true ∧ (l.append (d.knob x y) kind s).2.2.1 = 0 ∧ ((l.append (d.knob x y) kind s).2.2.2 = 9 ∨ (l.append (d.knob x y) kind s).2.2.2 = 10) ∧ ∀ o d', After (l.append (d.knob x y) kind s).1 (l.append (d.knob x y) kind s).2.1 x' y' o d' → BSt o d' b (if hu then M else [⟨b.all.length + 1, kind, bytesOf s⟩]) true true) := by
  by_cases hs : 255 < s.size
  · left
    rw [append_big hs]
    refine ⟨hs, rfl, rfl, fun o d' ha => ?_⟩
    rcases h with ⟨l, mk, ss, c1, e, rfl, rfl, h⟩ | ⟨l, mk, e, rfl, rfl, h⟩ | ⟨mk, e, _⟩
    · cases e; exact openSt (h.knob x y) ha
    · cases e; exact hungSt h ha
    · cases e
  · right
    have hs' : s.size ≤ 255 := by omega
    rcases h with ⟨l, mk, ss, c1, e, rfl, rfl, h⟩ | ⟨l, mk, e, rfl, rfl, h⟩ | ⟨mk, e, _⟩
    · cases e
      have hnx := h.next
      have hsl := h.lg.segsLen
      rw [h.recs, List.length_drop] at hsl
      have hup := append_upp (l := l) (d := d.knob x y) h.lg.durLe kind s
      have hk2 := h.knob x y
      rcases hk2.lg.appendX hk2.ba hk2.up b.tries kind hk s hs' (by omega) with ⟨e1, e2, e3, ss', c1', e4, e5, e6, e7⟩ | ⟨e1, e2⟩
      · left
        refine ⟨hs', rfl, rfl, by rw [e1, hnx], e2, fun o d' ha => openSt (mk := mk) (ss := ss') (c1 := c1') ⟨⟨h.fit.pos, ?_, h.fit.low, h.fit.lt, ?_, ?_, h.fit.mf, fun j hj => ?_⟩, e4, e5, e3, ?_, ?_⟩ ha⟩
        · show mk ≤ (b.all ++ [_]).length + 1
          rw [List.length_append]; have := h.fit.le; omega
        · show b.must ≤ (b.all ++ [_]).length + 1
          rw [List.length_append]; have := h.fit.must; omega
        · show b.forced ≤ (b.all ++ [_]).length
          rw [List.length_append]; have := h.fit.fo; omega
        · show bytesR (((b.all ++ [_]).drop (mk - 1)).take j) < 870
          have hj' : mk + j ≤ b.must := hj
          have := h.fit.le; have := h.fit.must; have := h.fit.pos
          rw [drop_back _ _ _ (by omega), take_front _ _ _ (by rw [List.length_drop]; omega)]
          exact h.fit.sm j hj'
        · show (chunks ss').flatten ++ c1' = (b.all ++ [_]).drop (mk - 1)
          have := h.fit.le; have := h.fit.pos
          rw [e6, h.recs, drop_back _ _ _ (by omega), hnx]
        · show b.forced + 1 ≤ _
          have := h.dur; have := hup.1; omega
      · right
        have hc : (l.append (d.knob x y) kind s).2.2.2 = 9 ∨ (l.append (d.knob x y) kind s).2.2.2 = 10 := by
          rcases e2.1 with e | e
          · exact .inl e.1
          · exact .inr e.1
        have hsk2 : sk = true := by
          cases hq : sk with
          | true => rfl
          | false =>
            have := append_calm (l := l) (d := d.knob x y) kind s h.lg.nofail (knob_calm h.up (hsk hq).1 (hsk hq).2 hx hy 2)
            omega
        refine ⟨hs', hsk2, e1, hc, fun o d' ha => ?_⟩
        rw [if_neg (by simp)]
        rw [h.recs, hnx] at e2
        exact fellSt h.fit e2 (append_failed hs' (by omega)) (by have := h.dur; have := hup.1; omega) (by have := hup.2; omega) (by simp) ha
    · cases e
      right
      have ea := append_hung (d := d.knob x y) (kind := kind) h.hg.fail hs'
      rw [ea]
      exact ⟨hs', rfl, rfl, .inl h.f9, fun o d' ha => by rw [if_pos rfl]; exact hungSt h ha⟩
    · cases e
theorem BSt.force (h : BSt (some l) d b M sk hu) (hsk : sk = false → x < 0 ∧ y < 0) (hx : -9223372036854775808 ≤ x) (hy : -9223372036854775808 ≤ y) :
    ((l.force (d.knob x y)).2.2 = 0 ∧ ∀ o d', After (l.force (d.knob x y)).1 (l.force (d.knob x y)).2.1 x' y' o d' → BSt o d' { b with forced := b.all.length } M sk hu) ∨
    (sk = true ∧ ((l.force (d.knob x y)).2.2 = 9 ∨ (l.force (d.knob x y)).2.2 = 10) ∧ ∀ o d', After (l.force (d.knob x y)).1 (l.force (d.knob x y)).2.1 x' y' o d' → BSt o d' b M true true) := by
  have fit' : ∀ mk, BFit b mk → BFit { b with forced := b.all.length } mk := fun mk h => ⟨h.pos, h.le, h.low, h.lt, h.must, Nat.le_refl _, h.must, h.sm⟩
  rcases h with ⟨l, mk, ss, c1, e, rfl, rfl, h⟩ | ⟨l, mk, e, rfl, rfl, h⟩ | ⟨mk, e, _⟩
  · cases e
    have hnx := h.next
    have hsl := h.lg.segsLen
    rw [h.recs, List.length_drop] at hsl
    have hup := force_upp (l := l) (d := d.knob x y) h.lg.durLe
    have hk2 := h.knob x y
    rcases hk2.lg.forceX hk2.ba hk2.up b.tries with ⟨e1, e2, ss', e3, e4, e5⟩ | e2
    · left
      refine ⟨e1, fun o d' ha => openSt (mk := mk) (ss := ss') (c1 := []) ⟨fit' mk h.fit, e3, e4, e2, ?_, ?_⟩ ha⟩
      · rw [List.append_nil, e5]; exact h.recs
      · show b.all.length + 1 ≤ _
        have h1 := e3.dur
        have h2 := congrArg List.length e5
        rw [h.recs, List.length_drop] at h2
        unfold nextOf at h1
        have := h.fit.pos; have := h.fit.le
        omega
    · right
      have hc : (l.force (d.knob x y)).2.2 = 9 ∨ (l.force (d.knob x y)).2.2 = 10 := by
        rcases e2.1 with e | e
        · exact .inl e.1
        · exact .inr e.1
      have hsk2 : sk = true := by
        cases hq : sk with
        | true => rfl
        | false =>
          have := force_calm (l := l) (d := d.knob x y) h.lg.nofail (knob_calm h.up (hsk hq).1 (hsk hq).2 hx hy 1)
          omega
      refine ⟨hsk2, hc, fun o d' ha => ?_⟩
      rw [h.recs] at e2
      exact fellSt (M := []) h.fit (by rw [List.append_nil]; exact e2) (force_failed (by omega)) (by have := h.dur; have := hup.1; omega) (by have := hup.2; omega) (by simp) ha
  · cases e
    rcases force_hung (d := d.knob x y) h.hg.fail with ⟨e, hdn⟩ | e
    · left
      rw [e]
      refine ⟨rfl, fun o d' ha => hungSt (mk := mk) (d := d) (x := x) (y := y) ⟨fit' mk h.fit, h.hg, h.up, h.f9, ?_, h.sg, h.one⟩ ha⟩
      show b.all.length + 1 ≤ _
      rw [hdn, h.next]; exact Nat.le_refl _
    · right
      rw [e]
      exact ⟨rfl, .inl h.f9, fun o d' ha => hungSt h ha⟩
  · cases e
/-- more may be gone -/
theorem Lft.tries {mk T T' : Nat} {Y : List Rec} {f : Nat} {F : Files} (h : Lft mk T Y f F) (hT : T ≤ T') : Lft mk T' Y f F := by
  obtain ⟨mk', ss, k, a1, a2, a3, a4, a5, a6, a7, a8⟩ := h
  exact ⟨mk', ss, k, a1, a2, a3, by omega, a5, a6, a7, a8⟩
theorem BSt.tries {o : Option ALog} (h : BSt o d b M sk hu) {T : Nat} (hT : b.tries ≤ T) : BSt o d { b with tries := T } M sk hu := by
  have fit' : ∀ mk, BFit b mk → BFit { b with tries := T } mk := fun mk h => ⟨h.pos, h.le, h.low, Nat.le_trans h.lt hT, h.must, h.fo, h.mf, h.sm⟩
  rcases h with ⟨l, mk, ss, c1, e, rfl, rfl, h⟩ | ⟨l, mk, e, rfl, rfl, h⟩ | ⟨mk, e, rfl, rfl, h⟩
  · exact .inl ⟨l, mk, ss, c1, e, rfl, rfl, fit' mk h.fit, h.lg, h.ba, h.up, h.recs, h.dur⟩
  · exact .inr (.inl ⟨l, mk, e, rfl, rfl, fit' mk h.fit, ⟨h.hg.fail, h.hg.recs, h.hg.next, h.hg.dur, h.hg.segs, h.hg.sure.mono (fun F hF => hF.tries hT)⟩, h.up, h.f9, h.dur, h.sg, h.one⟩)
  · exact .inr (.inr ⟨mk, e, rfl, rfl, fit' mk h.fit, h.sure.mono (fun F hF => hF.tries hT), h.up, h.one⟩)
/-- the first segment's records are few bytes -/
theorem first_small {F : Files} {mk : Nat} {ss : List Sg} (h : Stands F mk ss) {low j : Nat} (h2 : ∀ x, (starts mk (chunks ss))[1]? = some x → low < x) (hj : mk + j ≤ low) : bytesR ((chunks ss).flatten.take j) < 870 := by
  cases ss with
  | nil => simp [bytesR]
  | cons s rest =>
    have hs := h.size s (by simp)
    cases rest with
    | nil =>
      have e : (chunks [s]).flatten = s.1 := by simp
      rw [e]
      have := bytesR_take' s.1 j
      omega
    | cons s2 rest =>
      have hx := h2 (mk + s.1.length) (by rw [starts_at _ _ 1 (by simp)]; simp)
      have e : (chunks (s :: s2 :: rest)).flatten = s.1 ++ (chunks (s2 :: rest)).flatten := by simp
      rw [e, take_front _ _ _ (by omega)]
      have := bytesR_take' s.1 j
      omega
theorem BSt.cut (h : BSt (some l) d b M sk hu) (hsk : sk = false → x < 0 ∧ y < 0) (hx : -9223372036854775808 ≤ x) (hy : -9223372036854775808 ≤ y) (low top : Nat) (ht : top = min low (b.all.length + 1)) (htr : top ≤ b.tries) (hbg : b.all.length ≤ 900000) :
    (hu = false ∧ (l.cut (d.knob x y) low).2.2 = 0 ∧ ∀ o d', After (l.cut (d.knob x y) low).1 (l.cut (d.knob x y) low).2.1 x' y' o d' → BSt o d' { b with forced := b.all.length, low := max b.low top, must := max b.must top } M sk false) ∨
    (sk = true ∧ ((l.cut (d.knob x y) low).2.2 = 9 ∨ (l.cut (d.knob x y) low).2.2 = 10) ∧ ∀ o d', After (l.cut (d.knob x y) low).1 (l.cut (d.knob x y) low).2.1 x' y' o d' → BSt o d' b M true true) := by
  rcases h with ⟨l, mk, ss, c1, e, rfl, rfl, h⟩ | ⟨l, mk, e, rfl, rfl, h⟩ | ⟨mk, e, _⟩
  · cases e
    have hnx := h.next
    have hsl := h.lg.segsLen
    rw [h.recs, List.length_drop] at hsl
    have hup := cut_upp (l := l) (d := d.knob x y) h.lg.durLe low
    have hk2 := h.knob x y
    rcases hk2.lg.cutX hk2.ba hk2.up low b.tries (by omega) with ⟨mk', ss', hc⟩ | e2
    · left
      have hrec := hc.recs
      have hle := hc.len
      rw [h.recs, List.length_drop] at hle
      rw [h.recs, List.drop_drop] at hrec
      have hp := h.fit.pos
      have hlq := h.fit.le
      have hge := hc.ge
      rw [show mk - 1 + (mk' - mk) = mk' - 1 by omega] at hrec
      refine ⟨rfl, hc.ret, fun o d' ha => openSt (mk := mk') (ss := ss') (c1 := []) ⟨⟨by omega, ?_, ?_, ?_, ?_, Nat.le_refl _, ?_, fun j hj => ?_⟩, hc.log, hc.bare, hc.up, ?_, ?_⟩ ha⟩
      · show mk' ≤ b.all.length + 1; omega
      · show mk' = 1 ∨ mk' ≤ max b.low top
        rcases hc.le with e | e
        · rcases h.fit.low with e2 | e2
          · exact .inl (e.trans e2)
          · exact .inr (by omega)
        · exact .inr (by omega)
      · show max b.low top ≤ b.tries
        have := h.fit.lt; omega
      · show max b.must top ≤ b.all.length + 1
        have := h.fit.must; omega
      · show max b.must top ≤ b.all.length + 1
        have := h.fit.must; omega
      · show bytesR ((b.all.drop (mk' - 1)).take j) < 870
        have hj' : mk' + j ≤ max b.must top := hj
        by_cases hm : mk' + j ≤ b.must
        · have h1 := h.fit.sm (mk' - mk + j) (by omega)
          rw [List.take_add, bytesR_app, List.drop_drop] at h1
          rw [show mk' - 1 = mk - 1 + (mk' - mk) by omega]
          omega
        · rw [← hrec]
          refine first_small hc.log.st (low := low) (fun z hz => hc.two z ?_) (by omega)
          rcases hc.log.mode with ⟨_, _, _, h4, _⟩ | ⟨_, _, _, h1, _⟩ | ⟨h1, _⟩
          · rw [h4]; exact hz
          · exact absurd rfl h1
          · exact absurd rfl h1
      · show (chunks ss').flatten ++ [] = b.all.drop (mk' - 1)
        rw [List.append_nil, hrec]
      · show b.all.length + 1 ≤ _
        have h1 := hc.log.dur
        have h2 := congrArg List.length hrec
        rw [List.length_drop] at h2
        unfold nextOf at h1
        omega
    · right
      have hc : (l.cut (d.knob x y) low).2.2 = 9 ∨ (l.cut (d.knob x y) low).2.2 = 10 := by
        rcases e2.1 with e | e
        · exact .inl e.1
        · exact .inr e.1
      have hsk2 : sk = true := by
        cases hq : sk with
        | true => rfl
        | false =>
          have := cut_calm (l := l) (d := d.knob x y) low h.lg.nofail (knob_calm h.up (hsk hq).1 (hsk hq).2 hx hy _) (by omega)
          omega
      refine ⟨hsk2, hc, fun o d' ha => ?_⟩
      rw [h.recs] at e2
      exact fellSt (M := []) h.fit (by rw [List.append_nil]; exact e2) (cut_failed (by omega)) (by have := h.dur; have := hup.1; omega) (by have := hup.2; omega) (by simp) ha
  · cases e
    right
    have e := cut_hung (d := d.knob x y) (low := low) h.hg.fail
    rw [e]
    exact ⟨rfl, .inl h.f9, fun o d' ha => hungSt h ha⟩
  · cases e
end
end Go.Proofs.YtbdhmkfdofkloaaGreatDoor
/- append from any slice, nil or not. -/
namespace Go.Proofs.YtbdhmkfdofkloaaGreatDoor
open Go.RowKit

/-- what append takes from: m elements that lie one behind another, or nil -/
def ASrc (w : World) (x : Value) (m : Nat) (news : List Value) : Prop :=
  (∃ ad c, x = .slice (some ad) m c ∧ ∀ j u, news[j]? = some u → w.cell? (ad.add j) = some u) ∨ (x = .slice none 0 0 ∧ m = 0 ∧ news = [])
theorem wp_asrc {P : Program} {w : World} {o : Oper} {a : Act} {K : Act → World → Prop} {Q : Exit → Act → World → Prop} (s x : Operand) (t : TypeId)
    (ho : o.op = .call { callee := .builtin .append, args := #[s, x], argTypes := #[t, t] })
    (base : Nat) (e : TypeId) (i : TypeInfo) (z : Value) (size bytes : Nat) (ht : P.underlying t = some (.slice e)) (hi : P.info? e = some i) (hz : i.zero = some z)
    (hsize : i.size = size) (hby : i.bytes = bytes) (hzs : z.cells.size = size) (hsz : 0 < size)
    (v : Value) (n : Nat) (xs : List Value) (hs : a.eval s = v) (hown : w.ownsRow base e size v n xs)
    (m : Nat) (news : List Value) (hx : ASrc w (a.eval x) m news) (hl : news.length = m * size) (h1 : ∀ u ∈ news, u.oneCell' = true)
    (h63 : n + m ≤ maxLen) (hbytes : (n + m) * bytes ≤ 140737488355328) (hbase : base ≤ w.heap.size)
    (h : ∀ v' w', w'.ownsRow base e size v' (n + m) (xs ++ news) → w.grownBy w' v.ownBlock → (v'.ownBlock = v.ownBlock ∨ v'.ownBlock = some w.heap.size) → K (a.put o.dst v') w') : o.wp P a w K Q := by
  rcases hx with ⟨ad, c, hx, hnews⟩ | ⟨hx, rfl, rfl⟩
  · exact wp_append_at s x t ho base e i z size bytes ht hi hz hsize hby hzs hsz v n xs hs hown ad m c news hx hl hnews h1 h63 hbytes hbase h
  · have hrun := run_append_owned_none (P := P) (w := w) base t o.type e i size ht hi v n xs hown
    unfold Oper.wp
    simp [execOp, ho, resolve, invoke, builtin, hs, hx, hrun, Result.andThen]
    exact h v w (by simpa using hown) ⟨rfl, rfl, rfl, Nat.le_refl _, fun _ _ _ => rfl⟩ (.inl rfl)
theorem wpList_asrc {P : Program} {w : World} {ops : Array Oper} {rest : List Oper} {o : Oper} {a : Act} {Q : Exit → Act → World → Prop} (hgd : o.guard = none) (s x : Operand) (t : TypeId)
    (ho : o.op = .call { callee := .builtin .append, args := #[s, x], argTypes := #[t, t] })
    (base : Nat) (e : TypeId) (i : TypeInfo) (z : Value) (size bytes : Nat) (ht : P.underlying t = some (.slice e)) (hi : P.info? e = some i) (hz : i.zero = some z)
    (hsize : i.size = size) (hby : i.bytes = bytes) (hzs : z.cells.size = size) (hsz : 0 < size)
    (v : Value) (n : Nat) (xs : List Value) (hs : a.eval s = v) (hown : w.ownsRow base e size v n xs)
    (m : Nat) (news : List Value) (hx : ASrc w (a.eval x) m news) (hl : news.length = m * size) (h1 : ∀ u ∈ news, u.oneCell' = true)
    (h63 : n + m ≤ maxLen) (hbytes : (n + m) * bytes ≤ 140737488355328) (hbase : base ≤ w.heap.size)
    (h : ∀ v' w', w'.ownsRow base e size v' (n + m) (xs ++ news) → w.grownBy w' v.ownBlock → (v'.ownBlock = v.ownBlock ∨ v'.ownBlock = some w.heap.size) → wpList P ops Q rest (a.put o.dst v') w') :
    wpList P ops Q (o :: rest) a w := by
  refine wpList_plain hgd fun K hK => ?_
  exact wp_asrc s x t ho base e i z size bytes ht hi hz hsize hby hzs hsz v n xs hs hown m news hx hl h1 h63 hbytes hbase (fun v' w' a b c => hK _ _ (h v' w' a b c))
/-- all of a row -/
theorem asrc_row {w : World} {base : Nat} {e : TypeId} {size n : Nat} {v : Value} {xs : List Value} (h : w.ownsRow base e size v n xs) : ASrc w v n xs := by
  rcases h.2 with ⟨rfl, rfl⟩ | ⟨g, cap, cur, rfl, rest⟩
  · exact .inr ⟨rfl, rfl, List.eq_nil_of_length_eq_zero (by rw [h.1]; simp)⟩
  · exact .inl ⟨_, _, rfl, h.cells (g := g) rfl⟩
/-- its first ones -/
theorem asrc_take {w : World} {base : Nat} {e : TypeId} {size n : Nat} {g c m c' : Nat} {xs : List Value} (h : w.ownsRow base e size (.slice (some ⟨g, 0, none⟩) n c) n xs) (k : Nat) : ASrc w (.slice (some ⟨g, 0, none⟩) m c') m (xs.take k) :=
  .inl ⟨_, _, rfl, fun j u hu => h.cells (g := g) rfl j u (by
    rw [List.getElem?_take] at hu
    split at hu
    · exact hu
    · cases hu)⟩
theorem own_slc {w : World} {base : Nat} {e : TypeId} {size n : Nat} {v : Value} {xs : List Value} (h : w.ownsRow base e size v n xs) : ∃ o c, v = .slice o n c := by
  rcases h.2 with ⟨rfl, rfl⟩ | ⟨g, cap, cur, rfl, _⟩
  · exact ⟨_, _, rfl⟩
  · exact ⟨_, _, rfl⟩
end Go.Proofs.YtbdhmkfdofkloaaGreatDoor
