import Derived.Test.YtbdhmkfdofkloaaGreatDoorC34
import Derived.Test.YtbdhmkfdofkloaaGreatDoorC30
import Derived.Test.YtbdhmkfdofkloaaGreatDoorC25
import Derived.Test.YtbdhmkfdofkloaaGreatDoorC32
/- LOGS WHOSE DISKS FAIL, the mathematics: a log between its calls; the power fails; it is forced. -/
namespace Go.Proofs.YtbdhmkfdofkloaaGreatDoor
open Go.RowKit
open Sc

/-- where what was appended since the last Sync lies -/
inductive Mode (l : ALog) (d : ADisk) (mk : Nat) (ss : List Sg) (c1 : List Rec) : Prop
  | rest (h1 : c1 = []) (h2 : d.pending = []) (h3 : d.now = d.durable) (h4 : l.segs = starts mk (chunks ss)) (h5 : l.filled = fillOf ss)
  | last (ds : List Sg) (c0 : List Rec) (h0 : ss = ds ++ [(c0, [])]) (h1 : c1 ≠ []) (h2 : d.pending = opsR (segName (nextOf mk ds)) c1) (h3 : d.now = d.durable.plus (segName (nextOf mk ds)) (str (encR c1))) (h4 : l.segs = starts mk (chunks ss)) (h5 : l.filled = bytesR c0 + bytesR c1) (h6 : bytesR c0 + bytesR c1 < 870)
  | fresh (h1 : c1 ≠ []) (h2 : d.pending = opsR (segName (nextOf mk ss)) c1) (h3 : d.now = d.durable.plus (segName (nextOf mk ss)) (str (encR c1))) (h4 : l.segs = starts mk (chunks ss) ++ [nextOf mk ss]) (h5 : l.filled = bytesR c1) (h6 : bytesR c1 < 870)
/-- a log between its calls: ss is durable, c1 was appended since -/
structure LgS (l : ALog) (d : ADisk) (mk : Nat) (ss : List Sg) (c1 : List Rec) : Prop where
  st : Stands d.durable mk ss
  clean : Clean d.durable mk ss
  beg : Begun d.durable mk ss
  recs : l.recs = (chunks ss).flatten ++ c1
  next : l.next = nextOf mk ss + c1.length
  nofail : l.failed = 0
  dur : l.durable = nextOf mk ss
  num1 : ∀ (k : Nat) (r : Rec), c1[k]? = some r → r.lsn = nextOf mk ss + k
  fin1 : FineP c1
  big : nextOf mk ss + c1.length < 18446744073709551616
  mode : Mode l d mk ss c1
theorem str_take (l : List Nat) (q : Nat) : (str l).extract 0 q = str (l.take q) := by
  apply ByteArray.ext
  rw [str_data, ByteArray.data_extract, str_data]
  simp
theorem bytesR_take' (l : List Rec) (k : Nat) : bytesR (l.take k) ≤ bytesR l := by
  have h := bytesR_app (l.take k) (l.drop k)
  rw [List.take_append_drop] at h
  omega
theorem fineP_take {c : List Rec} (h : FineP c) (k : Nat) : FineP (c.take k) := fun r hr => h r (List.mem_of_mem_take hr)
theorem junk_cut {r : Rec} (h : r.kind < 256 ∧ r.pay.length ≤ 255 ∧ Byt r.pay) {q : Nat} (hq : q < 15 + r.pay.length) : Junk ((recBytes r.lsn r.kind r.pay).take q) where
  byt := (recBytes_byt r.lsn r.kind r.pay h.1 h.2.2).take_ q
  no := frame_cut r.lsn r.kind r.pay h.2.1 q hq
  le := by rw [List.length_take, recBytes_len]; have := h.2.1; omega
/-- what a failure of power leaves of appends: the first ones, and a beginning -/
theorem left_recs {F F' : Files} {nm : ByteArray} {c : List Rec} (hf : FineP c) (h : Left F (opsR nm c) F') : F' = F ∨ ∃ k t, k ≤ c.length ∧ Junk t ∧ F' = F.plus nm (str (encR (c.take k) ++ t)) := by
  rw [opsR_map] at h
  rcases left_apps h with h | ⟨k, hk, _, h⟩ | ⟨k, z, q, hz, h⟩
  · exact .inl h
  · right
    rw [List.length_map] at hk
    refine ⟨k, [], hk, junk_nil, ?_⟩
    rw [h, ← List.map_take, join_recs, List.append_nil]
  · right
    rw [List.getElem?_map] at hz
    cases hr : c[k]? with
    | none => rw [hr] at hz; cases hz
    | some r =>
      rw [hr] at hz
      simp at hz
      subst hz
      have hkl := (List.getElem?_eq_some_iff.1 hr).1
      rw [← List.map_take, join_recs, str_take, ← str_app] at h
      by_cases hq : q < 15 + r.pay.length
      · exact ⟨k, _, by omega, junk_cut (hf r (List.mem_of_getElem? hr)) hq, h⟩
      · refine ⟨k + 1, [], by omega, junk_nil, ?_⟩
        have e1 : (recBytes r.lsn r.kind r.pay).take q = recBytes r.lsn r.kind r.pay := List.take_of_length_le (by rw [recBytes_len]; omega)
        rw [h, e1, List.append_nil, List.take_add_one, hr]
        simp [encR]
theorem begun_of {F : Files} {mk : Nat} {ss : List Sg} (h : ss ≠ []) : Begun F mk ss := .inl (by
  unfold tailL
  intro e
  have := congrArg List.length e
  rw [List.length_append, starts_len] at this
  simp at this
  exact h this.1)
section
variable {l : ALog} {d : ADisk} {mk : Nat} {ss : List Sg} {c1 : List Rec}
theorem num_take (h : ∀ (k : Nat) (r : Rec), c1[k]? = some r → r.lsn = nextOf mk ss + k) (j : Nat) : ∀ (k : Nat) (r : Rec), (c1.take j)[k]? = some r → r.lsn = nextOf mk ss + k := fun k r hk => by
  rw [List.getElem?_take] at hk
  split at hk
  · exact h k r hk
  · cases hk
/-- the power fails -/
theorem LgS.crash (h : LgS l d mk ss c1) {F' : Files} (hl : Left d.durable d.pending F') :
    ∃ ss' k, k ≤ c1.length ∧ Stands F' mk ss' ∧ Begun F' mk ss' ∧ (chunks ss').flatten = (chunks ss).flatten ++ c1.take k ∧ ss'.length ≤ ss.length + 1 := by
  have same : ∃ ss' k, k ≤ c1.length ∧ Stands d.durable mk ss' ∧ Begun d.durable mk ss' ∧ (chunks ss').flatten = (chunks ss).flatten ++ c1.take k ∧ ss'.length ≤ ss.length + 1 := ⟨ss, 0, Nat.zero_le _, h.st, h.beg, by simp, by omega⟩
  rcases h.mode with ⟨h1, h2, h3, h4, h5⟩ | ⟨ds, c0, h0, h1, h2, h3, h4, h5, h6⟩ | ⟨h1, h2, h3, h4, h5, h6⟩
  · rw [h2] at hl
    rw [left_nil hl]
    exact same
  · rw [h2] at hl
    rcases left_recs h.fin1 hl with e | ⟨k, t, hk, hj, e⟩
    · rw [e]; exact same
    · rw [e]
      have hst := h.st
      have hcl := h.clean
      have hn1 := num_take h.num1 k
      have hbg := h.big
      rw [h0] at hst hcl hn1 hbg
      have hb := bytesR_take' c1 k
      refine ⟨ds ++ [(c0 ++ c1.take k, t)], k, hk, hst.longer hcl hn1 (fineP_take h.fin1 k) hj (by omega) (by rw [List.length_take]; omega), begun_of (by simp), ?_, by rw [h0]; simp⟩
      rw [h0, chunks_snoc, chunks_snoc, flat_snoc, flat_snoc, List.append_assoc]
  · rw [h2] at hl
    rcases left_recs h.fin1 hl with e | ⟨k, t, hk, hj, e⟩
    · rw [e]; exact same
    · rw [e]
      have hb := bytesR_take' c1 k
      by_cases hk0 : c1.take k = []
      · rw [hk0]
        have e1 : encR [] ++ t = t := by simp [encR]
        rw [e1]
        refine ⟨ss, 0, Nat.zero_le _, h.st.dead_ h.clean hj, .inl ?_, by simp, by omega⟩
        unfold tailL deadL
        rw [plus_same]
        simp
      · exact ⟨ss ++ [(c1.take k, t)], k, hk, h.st.more h.clean hk0 (num_take h.num1 k) (fineP_take h.fin1 k) hj (by omega) (by rw [List.length_take]; have := h.big; omega), begun_of (by simp), by rw [chunks_snoc, flat_snoc], by simp⟩
/-- all is durable -/
theorem LgS.synced (h : LgS l d mk ss c1) {d' : ADisk} (e1 : d'.durable = d.pending.foldl doOp d.durable) (e2 : d'.now = d.now) (e3 : d'.pending = []) :
    ∃ ss', LgS { l with durable := l.next } d' mk ss' [] ∧ (chunks ss').flatten = (chunks ss).flatten ++ c1 ∧ ss'.length ≤ ss.length + 1 := by
  rcases h.mode with ⟨h1, h2, h3, h4, h5⟩ | ⟨ds, c0, h0, h1, h2, h3, h4, h5, h6⟩ | ⟨h1, h2, h3, h4, h5, h6⟩
  · subst h1
    have ed : d'.durable = d.durable := by rw [e1, h2]; rfl
    refine ⟨ss, ⟨by rw [ed]; exact h.st, by rw [ed]; exact h.clean, by rw [ed]; exact h.beg, by simpa using h.recs, by simpa using h.next, h.nofail, by simpa using h.next, by simp, by intro r hr; simp at hr, by simpa using h.big, .rest rfl e3 (by rw [e2, h3, ed]) h4 h5⟩, by simp, by omega⟩
  · have ed : d'.durable = d.durable.plus (segName (nextOf mk ds)) (str (encR c1)) := by rw [e1, h2, fold_recs _ _ _ h1]
    have hst := h.st
    have hcl := h.clean
    have hn1 := h.num1
    have hbg := h.big
    have hnx := h.next
    have hrc := h.recs
    rw [h0] at hst hcl hn1 hbg hnx hrc
    have hst2 := hst.longer (t := []) hcl hn1 h.fin1 junk_nil h6 hbg
    rw [List.append_nil, ← ed] at hst2
    have enx : nextOf mk (ds ++ [(c0 ++ c1, [])]) = nextOf mk (ds ++ [(c0, [])]) + c1.length := by rw [nextOf_last, nextOf_last, List.length_append]; omega
    refine ⟨ds ++ [(c0 ++ c1, [])], ⟨hst2, by rw [ed]; exact hcl.longer _, begun_of (by simp), ?_, ?_, h.nofail, ?_, by simp, by intro r hr; simp at hr, by rw [enx]; simpa using hbg, .rest rfl e3 (by rw [e2, h3, ed]) ?_ ?_⟩, ?_, by rw [h0]; simp⟩
    · show l.recs = _
      rw [hrc, chunks_snoc, chunks_snoc, flat_snoc, flat_snoc]; simp
    · show l.next = _; rw [hnx, enx]; simp
    · show l.next = _; rw [hnx, enx]
    · show l.segs = _; rw [h4, h0, chunks_snoc, chunks_snoc]; exact starts_set _ _ _ _
    · show l.filled = _; rw [h5, fillOf_snoc]; simp [fillS, bytesR_app]
    · rw [h0, chunks_snoc, chunks_snoc, flat_snoc, flat_snoc, List.append_assoc]
  · have ed : d'.durable = d.durable.plus (segName (nextOf mk ss)) (str (encR c1)) := by rw [e1, h2, fold_recs _ _ _ h1]
    have hst2 := h.st.more (t := []) h.clean h1 h.num1 h.fin1 junk_nil h6 h.big
    rw [List.append_nil, ← ed] at hst2
    have enx : nextOf mk (ss ++ [(c1, [])]) = nextOf mk ss + c1.length := nextOf_last mk ss c1 []
    refine ⟨ss ++ [(c1, [])], ⟨hst2, by rw [ed]; exact h.clean.more _, begun_of (by simp), ?_, ?_, h.nofail, ?_, by simp, by intro r hr; simp at hr, by rw [enx]; simpa using h.big, .rest rfl e3 (by rw [e2, h3, ed]) ?_ ?_⟩, by rw [chunks_snoc, flat_snoc], by simp⟩
    · show l.recs = _; rw [h.recs, chunks_snoc, flat_snoc]; simp
    · show l.next = _; rw [h.next, enx]; simp
    · show l.next = _; rw [h.next, enx]
    · show l.segs = _; rw [h4, chunks_snoc, starts_snoc]; rfl
    · show l.filled = _; rw [h5, fillOf_snoc]; simp [fillS]
end
end Go.Proofs.YtbdhmkfdofkloaaGreatDoor
/- THE BOOK, the mathematics: a log as it must stand, over a disk that is well. -/
namespace Go.Proofs.YtbdhmkfdofkloaaGreatDoor
open Go.RowKit
open Sc

theorem knob_well {d : ADisk} (h : d.down = false) : (d.knob (-1) (-1)).Well 0 := ⟨h, by simp [ADisk.knob], by simp [ADisk.knob]⟩
end Go.Proofs.YtbdhmkfdofkloaaGreatDoor
/- LOGS WHOSE DISKS FAIL, the mathematics: a record more; it is opened again. -/
namespace Go.Proofs.YtbdhmkfdofkloaaGreatDoor
open Go.RowKit
open Sc

section
variable {l : ALog} {d d' : ADisk} {mk : Nat} {ss : List Sg} {c1 : List Rec} {x : Rec}
theorem num_snoc (h : ∀ (k : Nat) (r : Rec), c1[k]? = some r → r.lsn = nextOf mk ss + k) (hx : x.lsn = nextOf mk ss + c1.length) : ∀ (k : Nat) (r : Rec), (c1 ++ [x])[k]? = some r → r.lsn = nextOf mk ss + k := nums_snoc h x hx
theorem fine_snoc (h : FineP c1) (hx : x.kind < 256 ∧ x.pay.length ≤ 255 ∧ Byt x.pay) : FineP (c1 ++ [x]) := fun r hr => by
  rcases List.mem_append.1 hr with hr | hr
  · exact h r hr
  · simp at hr; subst hr; exact hx
theorem bytesR_one (r : Rec) : bytesR [r] = 15 + r.pay.length := by simp [bytesR]
/-- a record more, in the segment that is there -/
theorem LgS.told (h : LgS l d mk ss c1) (hf : l.filled < 600) (hx : x.kind < 256 ∧ x.pay.length ≤ 255 ∧ Byt x.pay) (hn : x.lsn = l.next) (hb : l.next + 1 < 18446744073709551616)
    (e1 : d'.durable = d.durable) (e2 : d'.now = doOp d.now (appOp (segName (l.segs.getLastD 0)) (str (recBytes x.lsn x.kind x.pay)))) (e3 : d'.pending = d.pending ++ [appOp (segName (l.segs.getLastD 0)) (str (recBytes x.lsn x.kind x.pay))]) :
    LgS { l with filled := l.filled + (15 + x.pay.length), recs := l.recs ++ [x], next := l.next + 1 } d' mk ss (c1 ++ [x]) := by
  have hlsn : x.lsn = nextOf mk ss + c1.length := by rw [hn, h.next]
  have common : Mode { l with filled := l.filled + (15 + x.pay.length), recs := l.recs ++ [x], next := l.next + 1 } d' mk ss (c1 ++ [x]) → LgS { l with filled := l.filled + (15 + x.pay.length), recs := l.recs ++ [x], next := l.next + 1 } d' mk ss (c1 ++ [x]) := fun hm =>
    ⟨by rw [e1]; exact h.st, by rw [e1]; exact h.clean, by rw [e1]; exact h.beg, by show l.recs ++ [x] = _; rw [h.recs, List.append_assoc], by show l.next + 1 = _; rw [h.next]; simp; omega, h.nofail, h.dur, num_snoc h.num1 hlsn, fine_snoc h.fin1 hx, by have := h.next; simp; omega, hm⟩
  apply common
  rw [doOp_plus] at e2
  rcases h.mode with ⟨h1, h2, h3, h4, h5⟩ | ⟨ds, c0, h0, h1, h2, h3, h4, h5, h6⟩ | ⟨h1, h2, h3, h4, h5, h6⟩
  · subst h1
    obtain ⟨ds, c0, h0, hfl⟩ : ∃ ds c0, ss = ds ++ [(c0, [])] ∧ l.filled = bytesR c0 := by
      rcases List.eq_nil_or_concat ss with e | ⟨ds, s, e⟩
      · rw [e] at h5; simp [fillOf] at h5; omega
      · have e' : ss = ds ++ [s] := by simpa using e
        rw [e', fillOf_snoc] at h5
        unfold fillS at h5
        split at h5
        · rename_i ht
          exact ⟨ds, s.1, by rw [e']; congr 2; exact Prod.ext rfl ht, h5⟩
        · omega
    have elast : l.segs.getLastD 0 = nextOf mk ds := by rw [h4, h0, chunks_snoc, starts_snoc]; simp [nextOf]
    rw [elast] at e2 e3
    refine .last ds c0 h0 (by simp) (by rw [e3, h2]; simp [opsR]) ?_ h4 ?_ ?_
    · rw [e2, h3, e1]; simp [encR]
    · show l.filled + _ = _; rw [hfl]; simp [bytesR]
    · simp [bytesR]; have := hx.2.1; omega
  · have elast : l.segs.getLastD 0 = nextOf mk ds := by rw [h4, h0, chunks_snoc, starts_snoc]; simp [nextOf]
    rw [elast] at e2 e3
    refine .last ds c0 h0 (by simp) (by rw [e3, h2, opsR_snoc]) ?_ h4 ?_ ?_
    · rw [e2, h3, plus_plus, ← str_app, encR_snoc, e1]
    · show l.filled + _ = _; rw [h5, bytesR_app, bytesR_one]; omega
    · rw [bytesR_app, bytesR_one]; have := hx.2.1; omega
  · have elast : l.segs.getLastD 0 = nextOf mk ss := by rw [h4]; simp
    rw [elast] at e2 e3
    refine .fresh (by simp) (by rw [e3, h2, opsR_snoc]) ?_ h4 ?_ ?_
    · rw [e2, h3, plus_plus, ← str_app, encR_snoc, e1]
    · show l.filled + _ = _; rw [h5, bytesR_app, bytesR_one]
    · rw [bytesR_app, bytesR_one]; have := hx.2.1; omega
/-- .. in a new one -/
theorem LgS.toldNew (h : LgS l d mk ss []) (hx : x.kind < 256 ∧ x.pay.length ≤ 255 ∧ Byt x.pay) (hn : x.lsn = l.next) (hb : l.next + 1 < 18446744073709551616)
    (e1 : d'.durable = d.durable) (e2 : d'.now = doOp d.now (appOp (segName l.next) (str (recBytes x.lsn x.kind x.pay)))) (e3 : d'.pending = d.pending ++ [appOp (segName l.next) (str (recBytes x.lsn x.kind x.pay))]) :
    LgS { l with segs := l.segs ++ [l.next], filled := 0 + (15 + x.pay.length), recs := l.recs ++ [x], next := l.next + 1 } d' mk ss [x] := by
  have enx : l.next = nextOf mk ss := by have := h.next; simpa using this
  rcases h.mode with ⟨h1, h2, h3, h4, h5⟩ | ⟨ds, c0, h0, h1, _⟩ | ⟨h1, _⟩
  · rw [doOp_plus] at e2
    refine ⟨by rw [e1]; exact h.st, by rw [e1]; exact h.clean, by rw [e1]; exact h.beg, by show l.recs ++ [x] = _; rw [h.recs]; simp, by show l.next + 1 = _; rw [enx]; simp, h.nofail, h.dur, fun k r hk => ?_, fun r hr => ?_, by simp; omega, .fresh (by simp) (by rw [e3, h2, enx]; simp [opsR]) (by rw [e2, h3, e1, enx]; simp [encR]) ?_ ?_ ?_⟩
    · have : k = 0 := by have := (List.getElem?_eq_some_iff.1 hk).1; simp at this; exact this
      subst this
      simp at hk
      subst hk
      rw [hn, enx]; rfl
    · simp at hr; subst hr; exact hx
    · show l.segs ++ [l.next] = _; rw [h4, enx]
    · show 0 + _ = _; simp [bytesR]
    · simp [bytesR]; have := hx.2.1; omega
  · exact absurd rfl h1
  · exact absurd rfl h1
/-- what a record more leaves -/
structure AppS (l : ALog) (mk : Nat) (ss : List Sg) (c1 : List Rec) (x : Rec) (r : ALog × ADisk × Nat × Nat) : Prop where
  ret : r.2.2.1 = l.next ∧ r.2.2.2 = 0
  up : r.2.1.down = false
  st : ∃ ss' c1', LgS r.1 r.2.1 mk ss' c1' ∧ (chunks ss').flatten ++ c1' = (chunks ss).flatten ++ c1 ++ [x] ∧ (chunks ss).flatten.length ≤ (chunks ss').flatten.length ∧ ss'.length ≤ ss.length + 1
theorem LgS.append (h : LgS l d mk ss c1) (hw : d.Well 0) (kind : Nat) (hk : kind < 256) (s : ByteArray) (hs : s.size ≤ 255) (hb : l.next + 1 < 18446744073709551616) :
    AppS l mk ss c1 ⟨l.next, kind, bytesOf s⟩ (l.append d kind s) := by
  have hlen := bytesOf_len s
  have hxf : (⟨l.next, kind, bytesOf s⟩ : Rec).kind < 256 ∧ (⟨l.next, kind, bytesOf s⟩ : Rec).pay.length ≤ 255 ∧ Byt (⟨l.next, kind, bytesOf s⟩ : Rec).pay := ⟨hk, by show (bytesOf s).length ≤ 255; omega, bytesOf_byt s⟩
  by_cases hf : l.filled < 600
  · have hroom : l.room d = (l, d, 0) := by unfold ALog.room; rw [if_pos hf]
    obtain ⟨t1, t2, t3⟩ := tellW (d := d) (o := ⟨2, segName (l.segs.getLastD 0), ByteArray.empty, str (recBytes l.next kind (bytesOf s))⟩) hw (by omega) (by simp) (by simp)
    rcases tell_cases d ⟨2, segName (l.segs.getLastD 0), ByteArray.empty, str (recBytes l.next kind (bytesOf s))⟩ (by simp) with tc | tc | tc
    · have hput : l.put d (recBytes l.next kind (bytesOf s)) = (l, (d.tell ⟨2, segName (l.segs.getLastD 0), ByteArray.empty, str (recBytes l.next kind (bytesOf s))⟩).1, 0) := by
        unfold ALog.put; rw [hroom]; simp only [if_true]; rw [t1]
      have hwr : l.wr d (l.put d (recBytes l.next kind (bytesOf s))) = (l, (d.tell ⟨2, segName (l.segs.getLastD 0), ByteArray.empty, str (recBytes l.next kind (bytesOf s))⟩).1, 0) := by
        unfold ALog.wr; rw [if_pos h.nofail, hput]; simp only [h.nofail.symm]
      have happ : l.append d kind s = ({ l with filled := l.filled + (15 + s.size), recs := l.recs ++ [⟨l.next, kind, bytesOf s⟩], next := l.next + 1 }, (d.tell ⟨2, segName (l.segs.getLastD 0), ByteArray.empty, str (recBytes l.next kind (bytesOf s))⟩).1, l.next, 0) := by
        unfold ALog.append; rw [if_neg (by omega), hwr]; simp
      rw [happ]
      refine ⟨⟨rfl, rfl⟩, t2.up, ss, c1 ++ [⟨l.next, kind, bytesOf s⟩], ?_, by rw [List.append_assoc], Nat.le_refl _, by omega⟩
      have := h.told (x := ⟨l.next, kind, bytesOf s⟩) hf hxf rfl hb tc.2.1 tc.2.2.1 tc.2.2.2.1
      simp only at this
      rw [hlen] at this
      exact this
    · omega
    · omega
  · rcases sync_cases d with sc | sc
    · obtain ⟨s1, s2, s3⟩ := syncW hw (by omega)
      obtain ⟨ss2, h2, hfl, hsl⟩ := h.synced sc.2.1 sc.2.2.1 sc.2.2.2.1
      have hs1 : l.sync d = ({ l with durable := l.next }, d.sync.1, 0) := by unfold ALog.sync; rw [if_pos sc.1]
      have hroom : l.room d = ({ l with durable := l.next, segs := l.segs ++ [l.next], filled := 0 }, d.sync.1, 0) := by
        unfold ALog.room; rw [if_neg hf, hs1]; simp
      obtain ⟨t1, t2, t3⟩ := tellW (d := d.sync.1) (o := ⟨2, segName l.next, ByteArray.empty, str (recBytes l.next kind (bytesOf s))⟩) s2 (by omega) (by simp) (by simp)
      rcases tell_cases d.sync.1 ⟨2, segName l.next, ByteArray.empty, str (recBytes l.next kind (bytesOf s))⟩ (by simp) with tc | tc | tc
      · have hput : l.put d (recBytes l.next kind (bytesOf s)) = ({ l with durable := l.next, segs := l.segs ++ [l.next], filled := 0 }, (d.sync.1.tell ⟨2, segName l.next, ByteArray.empty, str (recBytes l.next kind (bytesOf s))⟩).1, 0) := by
          unfold ALog.put; rw [hroom]; simp only [if_true]
          rw [show (l.segs ++ [l.next]).getLastD 0 = l.next by simp, t1]
        have hwr : l.wr d (l.put d (recBytes l.next kind (bytesOf s))) = ({ l with durable := l.next, segs := l.segs ++ [l.next], filled := 0 }, (d.sync.1.tell ⟨2, segName l.next, ByteArray.empty, str (recBytes l.next kind (bytesOf s))⟩).1, 0) := by
          unfold ALog.wr; rw [if_pos h.nofail, hput]; simp only [h.nofail.symm]
        have happ : l.append d kind s = ({ l with durable := l.next, segs := l.segs ++ [l.next], filled := 0 + (15 + s.size), recs := l.recs ++ [⟨l.next, kind, bytesOf s⟩], next := l.next + 1 }, (d.sync.1.tell ⟨2, segName l.next, ByteArray.empty, str (recBytes l.next kind (bytesOf s))⟩).1, l.next, 0) := by
          unfold ALog.append; rw [if_neg (by omega), hwr]; simp
        rw [happ]
        refine ⟨⟨rfl, rfl⟩, t2.up, ss2, [⟨l.next, kind, bytesOf s⟩], ?_, by rw [hfl], by rw [hfl]; simp, hsl⟩
        have := h2.toldNew (x := ⟨l.next, kind, bytesOf s⟩) hxf rfl hb tc.2.1 tc.2.2.1 tc.2.2.2.1
        simp only at this
        rw [hlen] at this
        exact this
      · omega
      · omega
    · have := (syncW hw (by omega)).1; omega
theorem LgS.force (h : LgS l d mk ss c1) (hw : d.Well 0) :
    (l.force d).2.2 = 0 ∧ (l.force d).2.1.down = false ∧ ∃ ss', LgS (l.force d).1 (l.force d).2.1 mk ss' [] ∧ (chunks ss').flatten = (chunks ss).flatten ++ c1 ∧ ss'.length ≤ ss.length + 1 := by
  unfold ALog.force
  by_cases hq : l.durable = l.next
  · rw [if_pos hq]
    have hc : c1 = [] := by
      have h1 := h.dur; have h2 := h.next
      exact List.length_eq_zero_iff.1 (by omega)
    subst hc
    exact ⟨rfl, hw.up, ss, h, by simp, by omega⟩
  · rw [if_neg hq]
    obtain ⟨s1, s2, s3⟩ := syncW hw (by omega)
    rcases sync_cases d with sc | sc
    · obtain ⟨ss2, h2, hfl, hsl⟩ := h.synced sc.2.1 sc.2.2.1 sc.2.2.2.1
      have hs1 : l.sync d = ({ l with durable := l.next }, d.sync.1, 0) := by unfold ALog.sync; rw [if_pos sc.1]
      have hwr : l.wr d (l.sync d) = ({ l with durable := l.next }, d.sync.1, 0) := by
        unfold ALog.wr; rw [if_pos h.nofail, hs1]; simp only [h.nofail.symm]
      rw [hwr]
      exact ⟨rfl, s2.up, ss2, h2, hfl, hsl⟩
    · omega
theorem LgS.knob (h : LgS l d mk ss c1) (a b : Int) : LgS l (d.knob a b) mk ss c1 :=
  ⟨h.st, h.clean, h.beg, h.recs, h.next, h.nofail, h.dur, h.num1, h.fin1, h.big, by
    rcases h.mode with ⟨h1, h2, h3, h4, h5⟩ | ⟨ds, c0, h0, h1, h2, h3, h4, h5, h6⟩ | ⟨h1, h2, h3, h4, h5, h6⟩
    · exact .rest h1 h2 h3 h4 h5
    · exact .last ds c0 h0 h1 h2 h3 h4 h5 h6
    · exact .fresh h1 h2 h3 h4 h5 h6⟩
theorem LgS.sg (h : LgS l d mk ss c1) : l.filled < 600 → l.segs ≠ [] := fun hf => by
  rcases h.mode with ⟨h1, h2, h3, h4, h5⟩ | ⟨ds, c0, h0, h1, h2, h3, h4, h5, h6⟩ | ⟨h1, h2, h3, h4, h5, h6⟩
  · intro e
    rw [h4] at e
    have := congrArg List.length e
    rw [starts_len] at this
    simp at this
    rw [this] at h5
    simp [fillOf] at h5
    omega
  · rw [h4, h0, chunks_snoc, starts_snoc]; simp
  · rw [h4]; simp
end
end Go.Proofs.YtbdhmkfdofkloaaGreatDoor
/- LOGS WHOSE DISKS FAIL, the mathematics: opened behind a failure, over a disk that is well. -/
namespace Go.Proofs.YtbdhmkfdofkloaaGreatDoor
open Go.RowKit
open Sc

/-- F without the files of such names -/
def Files.sans (F : Files) (ns : List ByteArray) (G : Files) : Prop := ∀ k, (k ∈ ns → G k = none) ∧ (k ∉ ns → G k = F k)
section
variable {F G : Files} {mk : Nat} {ss : List Sg} {us : List Nat}
theorem mem_segs {u : Nat} : segName u ∈ us.map segName ↔ u ∈ us := by
  rw [List.mem_map]
  constructor
  · rintro ⟨v, hv, e⟩; rw [← segName_inj e]; exact hv
  · intro h; exact ⟨u, h, rfl⟩
theorem mark_segs : markNm ∉ us.map segName ∧ markNew ∉ us.map segName := by
  constructor
  · intro h; obtain ⟨v, _, e⟩ := List.mem_map.1 h; exact (segName_mark v).1 e
  · intro h; obtain ⟨v, _, e⟩ := List.mem_map.1 h; exact (segName_mark v).2 e
theorem Stands.sans (h : Stands F mk ss) (hu : Useless F mk ss us) (hg : F.sans (us.map segName) G) : Stands G mk ss ∧ Clean G mk ss := by
  have hseg : ∀ u, u ∈ starts mk (chunks ss) → G (segName u) = F (segName u) := fun u hs => (hg _).2 (fun hm => ((hu.2 u).1 (mem_segs.1 hm)).2 hs)
  have hcl : Clean G mk ss := fun u hn => by
    by_cases hm : u ∈ us
    · exact absurd ((hg (segName u)).1 (mem_segs.2 hm)) hn
    · rw [(hg (segName u)).2 (fun h => hm (mem_segs.1 h))] at hn
      exact Classical.byContradiction fun hs => hm ((hu.2 u).2 ⟨hn, hs⟩)
  refine ⟨{ mark := by rw [(hg markNm).2 mark_segs.1]; exact h.mark, pos := h.pos, ne := h.ne, files := fun k s hk => ?_, junk := h.junk, size := h.size, nums := h.nums, fine := h.fine, other := fun nm hnm => ?_, dead := fun t ht => ?_, big := h.big }, hcl⟩
  · have hkl : k < ss.length := (List.getElem?_eq_some_iff.1 hk).1
    have h1 : nextOf mk (ss.take k) ∈ starts mk (chunks ss) := by
      have := starts_at (chunks ss) mk k (by simpa using hkl)
      refine List.mem_of_getElem? (i := k) ?_
      rw [this]; unfold nextOf; rw [chunks_take]
    rw [hseg _ h1]; exact h.files k s hk
  · have : F nm ≠ none := by
      by_cases hm : nm ∈ us.map segName
      · exact absurd ((hg nm).1 hm) hnm
      · rw [(hg nm).2 hm] at hnm; exact hnm
    exact h.other nm this
  · exfalso
    have h1 := hcl (nextOf mk ss) (by rw [ht]; simp)
    have := starts_lt _ mk h.ne' _ h1
    unfold nextOf at this
    omega
end
theorem fold_snoc (l : List AOp) (o : AOp) (F : Files) : (l ++ [o]).foldl doOp F = doOp (l.foldl doOp F) o := by simp
theorem removeAllY : ∀ (l : List Nat) {d : ADisk} {c : Nat}, d.Well c → d.pending.foldl doOp d.durable = d.now → c + l.length < 1099511627776 → l.Nodup → (∀ s ∈ l, d.now (segName s) ≠ none) →
    (d.removeAll (l.map segName)).2 = 0 ∧ (d.removeAll (l.map segName)).1.down = false ∧ (d.removeAll (l.map segName)).1.pending = [] ∧ (d.removeAll (l.map segName)).1.now = (d.removeAll (l.map segName)).1.durable ∧ d.now.sans (l.map segName) (d.removeAll (l.map segName)).1.durable := by
  intro l
  induction l with
  | nil =>
    intro d c h hd hc _ _
    obtain ⟨s1, s2, s3⟩ := syncW h (by simpa using hc)
    rcases sync_cases d with sc | sc
    · show d.sync.2 = 0 ∧ d.sync.1.down = false ∧ d.sync.1.pending = [] ∧ d.sync.1.now = d.sync.1.durable ∧ _
      refine ⟨s1, s2.up, sc.2.2.2.1, by rw [sc.2.2.1, sc.2.1, hd], fun k => ⟨by simp, fun _ => ?_⟩⟩
      show d.sync.1.durable k = _
      rw [sc.2.1, hd]
    · omega
  | cons x l ih =>
    intro d c h hd hc hnd hf
    have hx := hf x (by simp)
    obtain ⟨t1, t2, t3⟩ := tellW (d := d) (o := ⟨3, segName x, ByteArray.empty, ByteArray.empty⟩) h (by simp at hc; omega) (fun _ => hx) (by simp)
    have hnd2 := List.nodup_cons.1 hnd
    obtain ⟨a1, a2, a3, a4⟩ := writesW h (by simp at hc; omega)
    have hs := writes_same d
    have et : d.tell ⟨3, segName x, ByteArray.empty, ByteArray.empty⟩ = ({ d.writes.1 with now := doOp d.writes.1.now ⟨3, segName x, ByteArray.empty, ByteArray.empty⟩, pending := d.writes.1.pending ++ [⟨3, segName x, ByteArray.empty, ByteArray.empty⟩] }, 0) := by
      unfold ADisk.tell
      simp only [a1]
      rw [if_neg (by omega), if_neg (by omega), if_neg (by rw [a3]; exact fun e => hx e.1), if_neg (by simp)]
    have hnow : (d.tell ⟨3, segName x, ByteArray.empty, ByteArray.empty⟩).1.now = d.now.set (segName x) none := by rw [t3]; rfl
    have hcon : (d.tell ⟨3, segName x, ByteArray.empty, ByteArray.empty⟩).1.pending.foldl doOp (d.tell ⟨3, segName x, ByteArray.empty, ByteArray.empty⟩).1.durable = (d.tell ⟨3, segName x, ByteArray.empty, ByteArray.empty⟩).1.now := by
      have ed0 : d.writes.1.durable = d.durable := by rw [hs]
      rw [et]
      show (d.writes.1.pending ++ [(⟨3, segName x, ByteArray.empty, ByteArray.empty⟩ : AOp)]).foldl doOp d.writes.1.durable = doOp d.writes.1.now ⟨3, segName x, ByteArray.empty, ByteArray.empty⟩
      rw [fold_snoc, a3, a4, ed0, hd]
    have hr : d.removeAll ((x :: l).map segName) = (d.tell ⟨3, segName x, ByteArray.empty, ByteArray.empty⟩).1.removeAll (l.map segName) := by
      show (if (d.tell ⟨3, segName x, ByteArray.empty, ByteArray.empty⟩).2 = 0 then _ else _) = _
      rw [if_pos t1]
    rw [hr]
    obtain ⟨r1, r2, r3, r4, r5⟩ := ih t2 hcon (by simp at hc; omega) hnd2.2 (fun s hs => by
      rw [hnow, Files.set_other _ _ (seg_ne (fun e => by subst e; exact hnd2.1 hs))]
      exact hf s (by simp [hs]))
    refine ⟨r1, r2, r3, r4, fun k => ⟨fun hk => ?_, fun hk => ?_⟩⟩
    · by_cases h2 : k ∈ l.map segName
      · exact (r5 k).1 h2
      · rw [(r5 k).2 h2, hnow]
        rw [List.map_cons, List.mem_cons] at hk
        rcases hk with e | e
        · rw [e, Files.set_same]
        · exact absurd e h2
    · rw [List.map_cons, List.mem_cons, not_or] at hk
      rw [(r5 k).2 hk.2, hnow, Files.set_other _ _ hk.1]
theorem LgS.opened {F : Files} {mk : Nat} {ss : List Sg} {us : List Nat} (h : Stands F mk ss) (hne : ss ≠ [] ∨ ∀ k, F k = none) (hu : Useless F mk ss us) (hl : us.length < 1099511627770) :
    ((readL mk ss).opensU ((fallen F).knob (-1) (-1)) (us.map segName)).2.2 = 0 ∧ ((readL mk ss).opensU ((fallen F).knob (-1) (-1)) (us.map segName)).2.1.down = false ∧ LgS ((readL mk ss).opensU ((fallen F).knob (-1) (-1)) (us.map segName)).1 ((readL mk ss).opensU ((fallen F).knob (-1) (-1)) (us.map segName)).2.1 mk ss [] := by
  have hw : ((fallen F).knob (-1) (-1)).Well 0 := knob_well rfl
  obtain ⟨s1, s2, s3⟩ := syncW hw (by omega)
  rcases sync_cases ((fallen F).knob (-1) (-1)) with sc | sc
  · have hs1 : (readL mk ss).sync ((fallen F).knob (-1) (-1)) = ({ readL mk ss with durable := (readL mk ss).next }, ((fallen F).knob (-1) (-1)).sync.1, 0) := by unfold ALog.sync; rw [if_pos sc.1]
    have ho : (readL mk ss).opensU ((fallen F).knob (-1) (-1)) (us.map segName) = ({ readL mk ss with durable := (readL mk ss).next }, ((fallen F).knob (-1) (-1)).sync.1.removeAll (us.map segName)) := by
      unfold ALog.opensU; rw [hs1]; simp only [if_true]
    have e0 : ((fallen F).knob (-1) (-1)).sync.1.now = F := sc.2.2.1
    have ed : ((fallen F).knob (-1) (-1)).sync.1.durable = F := by rw [sc.2.1]; rfl
    obtain ⟨r1, r2, r3, r4, r5⟩ := removeAllY us s2 (by rw [sc.2.2.2.1, ed, e0]; rfl) (by omega) hu.1 (fun s hs => by rw [e0]; exact ((hu.2 s).1 hs).1)
    rw [e0] at r5
    rw [ho]
    obtain ⟨g1, g2⟩ := h.sans hu r5
    have hbg : Begun (((fallen F).knob (-1) (-1)).sync.1.removeAll (us.map segName)).1.durable mk ss := by
      rcases hne with hne | hne
      · exact begun_of hne
      · right
        intro k
        by_cases hk : k ∈ us.map segName
        · exact (r5 k).1 hk
        · rw [(r5 k).2 hk]; exact hne k
    refine ⟨r1, r2, g1, g2, hbg, by simp [readL], by simp [readL], rfl, by simp [readL], by simp, by intro r hr; simp at hr, by simpa using h.big, .rest rfl r3 r4 rfl rfl⟩
  · omega
end Go.Proofs.YtbdhmkfdofkloaaGreatDoor
