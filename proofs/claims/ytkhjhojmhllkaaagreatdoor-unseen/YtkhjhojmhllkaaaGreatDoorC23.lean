import Derived.Test.YtkhjhojmhllkaaaGreatDoorC22
import Derived.Test.YtkhjhojmhllkaaaGreatDoorC18
import Derived.Test.YtkhjhojmhllkaaaGreatDoorC06
import Derived.Test.YtkhjhojmhllkaaaGreatDoorC19
import Derived.Stop.RegionWithIn
import Derived.Test.YtkhjhojmhllkaaaGreatDoorC21
/- A LOG OVER A DISK THAT IS WELL: what it has, what its calls leave. -/
namespace Go.Proofs.YtkhjhojmhllkaaaGreatDoor
open Go.RowKit
open Sc

/-- the log is as it must be: the records below fst + 1 are gone, the others lie in the segments cs -/
structure LogOk (l : ALog) (d : ADisk) (fst : Nat) (cs : List (List Rec)) : Prop where
  fail : l.failed = 0
  segs : l.segs = starts (fst + 1) cs
  recs : l.recs = cs.flatten
  next : l.next = fst + cs.flatten.length + 1
  nums : ∀ (k : Nat) (r : Rec), cs.flatten[k]? = some r → r.lsn = fst + 1 + k
  ne : ∀ c ∈ cs, c ≠ []
  size : ∀ c ∈ cs, bytesR c < 870
  none : cs = [] → l.filled = 600
  fill : ∀ ds c, cs = ds ++ [c] → l.filled = bytesR c
  files : ∀ s ∈ l.segs, d.now (segName s) ≠ Option.none
section
variable {l : ALog} {d : ADisk} {fst c : Nat} {cs : List (List Rec)}
theorem flat_split (k : Nat) (cs : List (List Rec)) : cs.flatten = (cs.take k).flatten ++ (cs.drop k).flatten := by
  rw [← List.flatten_append, List.take_append_drop]
theorem LogOk.inside (h : LogOk l d fst cs) {k : Nat} (hk : k < cs.length) : (cs.take k).flatten.length < cs.flatten.length := by
  have h1 := flat_split k cs
  have h2 : cs.drop k = cs[k] :: cs.drop (k + 1) := by simp
  have h3 : 0 < cs[k].length := List.length_pos_iff.2 (h.ne _ (by simp))
  have h4 := congrArg List.length h1
  rw [List.length_append, h2, List.flatten_cons, List.length_append] at h4
  omega
theorem LogOk.hinv (h : LogOk l d fst cs) (k s : Nat) (hk : l.segs[k]? = some s) : ∃ r rs, l.recs = r :: rs ∧ r.lsn ≤ s ∧ s - r.lsn < l.recs.length := by
  rw [h.segs] at hk
  have hkl : k < cs.length := by
    have := (List.getElem?_eq_some_iff.1 hk).1
    rw [starts_len] at this; exact this
  rw [starts_at cs (fst + 1) k hkl] at hk
  have hi := h.inside hkl
  have hs : s = fst + 1 + (cs.take k).flatten.length := by simpa using hk.symm
  rw [h.recs]
  cases hf : cs.flatten with
  | nil => rw [hf] at hi; simp at hi
  | cons r rs =>
    have := h.nums 0 r (by rw [hf]; rfl)
    refine ⟨r, rs, rfl, by omega, ?_⟩
    rw [hf] at hi
    omega
theorem LogOk.syncs (_h : LogOk l d fst cs) (hw : d.Well c) (hc : c < 1099511627776) : l.sync d = ({ l with durable := l.next }, d.sync.1, 0) := by
  unfold ALog.sync
  rw [if_pos (syncW hw hc).1]
theorem LogOk.synced (h : LogOk l d fst cs) (hw : d.Well c) (hc : c < 1099511627776) (u : Nat) : LogOk { l with durable := u } d.sync.1 fst cs where
  fail := h.fail
  segs := h.segs
  recs := h.recs
  next := h.next
  nums := h.nums
  ne := h.ne
  size := h.size
  none := h.none
  fill := h.fill
  files := fun s hs => by rw [(syncW hw hc).2.2]; exact h.files s hs
theorem LogOk.wrS (h : LogOk l d fst cs) (hw : d.Well c) (hc : c < 1099511627776) : l.wr d (l.sync d) = ({ l with durable := l.next }, d.sync.1, 0) := by
  unfold ALog.wr
  rw [if_pos h.fail, h.syncs hw hc]
  simp only [h.fail.symm]
theorem LogOk.force (h : LogOk l d fst cs) (hw : d.Well c) (hc : c < 1099511627776) :
    (l.force d).2.2 = 0 ∧ LogOk (l.force d).1 (l.force d).2.1 fst cs ∧ (l.force d).2.1.Well (c + 1) ∧ (l.force d).1.segs = l.segs ∧ (l.force d).1.filled = l.filled ∧ (l.force d).1.next = l.next := by
  unfold ALog.force
  by_cases hq : l.durable = l.next
  · rw [if_pos hq]
    exact ⟨rfl, h, hw.mono (by omega), rfl, rfl, rfl⟩
  · rw [if_neg hq, h.wrS hw hc]
    exact ⟨rfl, h.synced hw hc _, (syncW hw hc).2.1, rfl, rfl, rfl⟩
theorem LogOk.last (h : LogOk l d fst cs) (hf : l.filled < 600) : ∃ ds cl, cs = ds ++ [cl] := by
  rcases List.eq_nil_or_concat cs with e | ⟨ds, cl, e⟩
  · have := h.none e; omega
  · exact ⟨ds, cl, by simpa using e⟩
theorem LogOk.segsNe (h : LogOk l d fst cs) (hf : l.filled < 600) : l.segs ≠ [] := by
  obtain ⟨ds, cl, rfl⟩ := h.last hf
  rw [h.segs, starts_snoc]
  simp
theorem flat_snoc (cs : List (List Rec)) (a : List Rec) : (cs ++ [a]).flatten = cs.flatten ++ a := by simp
theorem nums_snoc {L : List Rec} {f : Nat} (h : ∀ (k : Nat) (r : Rec), L[k]? = some r → r.lsn = f + k) (x : Rec) (hx : x.lsn = f + L.length) : ∀ (k : Nat) (r : Rec), (L ++ [x])[k]? = some r → r.lsn = f + k := by
  intro k r hr
  rw [List.getElem?_append] at hr
  split at hr
  · exact h k r hr
  · rename_i hk
    have : k - L.length = 0 := by
      have := (List.getElem?_eq_some_iff.1 hr).1
      simp at this; omega
    rw [this] at hr
    simp at hr
    subst hr
    omega
theorem file_has {m : Files} {nm t : ByteArray} {s : Nat} (h : m (segName s) ≠ none) : doOp m ⟨2, nm, ByteArray.empty, t⟩ (segName s) ≠ none := by
  show (m.set nm (some _)) (segName s) ≠ none
  unfold Files.set
  split
  · simp
  · exact h
theorem file_new {m : Files} {t : ByteArray} {s : Nat} : doOp m ⟨2, segName s, ByteArray.empty, t⟩ (segName s) ≠ none := by
  show (m.set (segName s) (some _)) (segName s) ≠ none
  rw [Files.set_same]; simp
/-- what an Append leaves -/
structure AppOk (l : ALog) (d : ADisk) (fst : Nat) (cs : List (List Rec)) (c : Nat) (x : Rec) (r : ALog × ADisk × Nat × Nat) : Prop where
  ret : r.2.2.1 = l.next ∧ r.2.2.2 = 0
  log : ∃ cs', LogOk r.1 r.2.1 fst cs' ∧ cs'.flatten = cs.flatten ++ [x]
  well : r.2.1.Well (c + 2)
  two : ∀ s, r.1.segs[1]? = some s → l.segs[1]? = some s ∨ s = l.next
  sum : 600 * r.1.segs.length + r.1.filled ≤ 600 * l.segs.length + l.filled + (15 + x.pay.length)
theorem LogOk.append (h : LogOk l d fst cs) (hw : d.Well c) (hc : c + 2 < 1099511627776) (kind : Nat) (s : ByteArray) (hs : s.size ≤ 255) :
    AppOk l d fst cs c ⟨l.next, kind, bytesOf s⟩ (l.append d kind s) := by
  obtain ⟨by_, hby⟩ : ∃ b, b = recBytes l.next kind (bytesOf s) := ⟨_, rfl⟩
  have hlen := bytesOf_len s
  by_cases hf : l.filled < 600
  · obtain ⟨ds, cl, rfl⟩ := h.last hf
    have hseg : l.segs = starts (fst + 1) ds ++ [fst + 1 + ds.flatten.length] := by rw [h.segs, starts_snoc]
    have hlast : l.segs.getLastD 0 = fst + 1 + ds.flatten.length := by rw [hseg]; simp
    obtain ⟨a1, a2, a3⟩ := tellW (d := d) (o := ⟨2, segName (l.segs.getLastD 0), ByteArray.empty, str by_⟩) hw (by omega) (by simp) (by simp)
    have hroom : l.room d = (l, d, 0) := by unfold ALog.room; rw [if_pos hf]
    have hput : l.put d by_ = (l, (d.tell ⟨2, segName (l.segs.getLastD 0), ByteArray.empty, str by_⟩).1, 0) := by
      unfold ALog.put; rw [hroom]; simp only [if_true]; rw [a1]
    have hwr : l.wr d (l.put d by_) = (l, (d.tell ⟨2, segName (l.segs.getLastD 0), ByteArray.empty, str by_⟩).1, 0) := by
      unfold ALog.wr; rw [if_pos h.fail, hput]; simp only [h.fail.symm]
    have happ : l.append d kind s = ({ l with filled := l.filled + (15 + s.size), recs := l.recs ++ [⟨l.next, kind, bytesOf s⟩], next := l.next + 1 }, (d.tell ⟨2, segName (l.segs.getLastD 0), ByteArray.empty, str by_⟩).1, l.next, 0) := by
      unfold ALog.append; rw [if_neg (by omega), ← hby, hwr]; simp
    rw [happ]
    have hfill := h.fill ds cl rfl
    refine { ret := ⟨rfl, rfl⟩, log := ⟨ds ++ [cl ++ [⟨l.next, kind, bytesOf s⟩]], ?_, by rw [flat_snoc, flat_snoc, List.append_assoc]⟩, well := a2.mono (by omega), two := fun s hs => .inl hs, sum := by simp; omega }
    refine { fail := h.fail, segs := ?_, recs := ?_, next := ?_, nums := ?_, ne := ?_, size := ?_, none := by simp, fill := ?_, files := ?_ }
    · show l.segs = _; rw [h.segs, starts_set]
    · show l.recs ++ _ = _; rw [h.recs, flat_snoc, flat_snoc, List.append_assoc]
    · show l.next + 1 = _; rw [h.next, flat_snoc, flat_snoc]; simp; omega
    · rw [flat_snoc, ← List.append_assoc, ← flat_snoc]
      exact nums_snoc h.nums _ (by show l.next = _; rw [h.next]; omega)
    · intro b hb
      rcases List.mem_append.1 hb with hb | hb
      · exact h.ne b (by simp [hb])
      · simp at hb; subst hb; simp
    · intro b hb
      rcases List.mem_append.1 hb with hb | hb
      · exact h.size b (by simp [hb])
      · simp at hb; subst hb; rw [bytesR_app]; simp [bytesR]; omega
    · intro es b he
      obtain ⟨_, e2⟩ := List.append_inj' he rfl
      simp only [List.cons.injEq, and_true] at e2
      subst e2
      show l.filled + _ = _
      rw [bytesR_app, hfill]; simp [bytesR]; omega
    · intro x hx
      show (d.tell _).1.now _ ≠ _
      rw [a3]
      exact file_has (h.files x hx)
  · have hs1 := h.syncs hw (by omega)
    obtain ⟨s1, s2, s3⟩ := syncW hw (by omega)
    obtain ⟨a1, a2, a3⟩ := tellW (d := d.sync.1) (o := ⟨2, segName l.next, ByteArray.empty, str by_⟩) s2 (by omega) (by simp) (by simp)
    have hroom : l.room d = ({ l with durable := l.next, segs := l.segs ++ [l.next], filled := 0 }, d.sync.1, 0) := by
      unfold ALog.room; rw [if_neg hf, hs1]; simp
    have hput : l.put d by_ = ({ l with durable := l.next, segs := l.segs ++ [l.next], filled := 0 }, (d.sync.1.tell ⟨2, segName l.next, ByteArray.empty, str by_⟩).1, 0) := by
      unfold ALog.put; rw [hroom]; simp only [if_true]
      rw [show (l.segs ++ [l.next]).getLastD 0 = l.next by simp, a1]
    have hwr : l.wr d (l.put d by_) = ({ l with durable := l.next, segs := l.segs ++ [l.next], filled := 0 }, (d.sync.1.tell ⟨2, segName l.next, ByteArray.empty, str by_⟩).1, 0) := by
      unfold ALog.wr; rw [if_pos h.fail, hput]; simp only [h.fail.symm]
    have happ : l.append d kind s = ({ l with durable := l.next, segs := l.segs ++ [l.next], filled := 0 + (15 + s.size), recs := l.recs ++ [⟨l.next, kind, bytesOf s⟩], next := l.next + 1 }, (d.sync.1.tell ⟨2, segName l.next, ByteArray.empty, str by_⟩).1, l.next, 0) := by
      unfold ALog.append; rw [if_neg (by omega), ← hby, hwr]; simp
    rw [happ]
    refine { ret := ⟨rfl, rfl⟩, log := ⟨cs ++ [[⟨l.next, kind, bytesOf s⟩]], ?_, by rw [flat_snoc]⟩, well := a2, two := fun x hx => ?_, sum := by simp; omega }
    · refine { fail := h.fail, segs := ?_, recs := ?_, next := ?_, nums := ?_, ne := ?_, size := ?_, none := by simp, fill := ?_, files := ?_ }
      · show l.segs ++ [l.next] = _; rw [h.segs, starts_snoc, h.next]; congr 2; omega
      · show l.recs ++ _ = _; rw [h.recs, flat_snoc]
      · show l.next + 1 = _; rw [h.next, flat_snoc]; simp; omega
      · rw [flat_snoc]
        exact nums_snoc h.nums _ (by show l.next = _; rw [h.next]; omega)
      · intro b hb
        rcases List.mem_append.1 hb with hb | hb
        · exact h.ne b hb
        · simp at hb; subst hb; simp
      · intro b hb
        rcases List.mem_append.1 hb with hb | hb
        · exact h.size b hb
        · simp at hb; subst hb; simp [bytesR]; omega
      · intro es b he
        obtain ⟨_, e2⟩ := List.append_inj' he rfl
        simp only [List.cons.injEq, and_true] at e2
        subst e2
        show 0 + _ = _
        simp [bytesR]; omega
      · intro x hx
        show (d.sync.1.tell _).1.now _ ≠ _
        rw [a3]
        rcases List.mem_append.1 hx with hx | hx
        · exact file_has (by rw [s3]; exact h.files x hx)
        · simp at hx; subst hx; exact file_new
    · change (l.segs ++ [l.next])[1]? = some x at hx
      rw [List.getElem?_append] at hx
      split at hx
      · exact .inl hx
      · right
        have := List.mem_of_getElem? hx
        simpa using this
/-- what a Cut leaves -/
structure CutOk (l : ALog) (d : ADisk) (fst : Nat) (cs : List (List Rec)) (c low : Nat) (r : ALog × ADisk × Nat) : Prop where
  ret : r.2.2 = 0
  log : ∃ fst' cs', LogOk r.1 r.2.1 fst' cs' ∧ fst ≤ fst' ∧ cs'.flatten = cs.flatten.drop (fst' - fst) ∧ (fst' = fst ∨ fst' + 1 ≤ low) ∧ fst' + cs'.flatten.length = fst + cs.flatten.length
  well : r.2.1.Well (c + 6 + l.segs.length)
  two : ∀ x, r.1.segs[1]? = some x → low < x ∧ ∃ y, l.segs[1]? = some y ∧ y ≤ x
  sum : 600 * r.1.segs.length + r.1.filled ≤ 600 * l.segs.length + l.filled
theorem LogOk.cut (h : LogOk l d fst cs) (hw : d.Well c) (hc : c + 6 + l.segs.length < 1099511627776) (low : Nat) : CutOk l d fst cs c low (l.cut d low) := by
  obtain ⟨p1, p2⟩ := segsBelow_spec l.segs low
  obtain ⟨s1, s2, s3⟩ := syncW hw (by omega)
  by_cases hg : segsBelow l.segs low = 0
  · have e : l.cut d low = ({ l with durable := l.next }, d.sync.1, 0) := by unfold ALog.cut; rw [if_pos hg, h.wrS hw (by omega)]
    rw [e]
    rw [hg] at p2
    refine { ret := rfl, log := ⟨fst, cs, h.synced hw (by omega) _, Nat.le_refl _, by simp, .inl rfl, rfl⟩, well := s2.mono (by omega), two := fun x hx => ⟨p2 x hx, x, hx, Nat.le_refl _⟩, sum := by simp }
  · have hlt := segsBelow_lt hg
    obtain ⟨g, hgd⟩ : ∃ g, g = segsBelow l.segs low := ⟨_, rfl⟩
    rw [← hgd] at p1 p2 hlt hg
    have hgl : g < cs.length := by rw [h.segs, starts_len] at hlt; exact hlt
    have hat : l.segs[g]? = some (fst + 1 + (cs.take g).flatten.length) := by rw [h.segs]; exact starts_at cs (fst + 1) g hgl
    have hfirst : l.segs.getD g 0 = fst + 1 + (cs.take g).flatten.length := by rw [List.getD_eq_getElem?_getD, hat]; rfl
    have hlow : fst + 1 + (cs.take g).flatten.length ≤ low := by
      rcases p1 with e | ⟨x, hx, hl⟩
      · exact absurd e hg
      · rw [hat] at hx; cases hx; exact hl
    obtain ⟨hasc, _⟩ := starts_asc cs (fst + 1) h.ne
    rw [← h.segs] at hasc
    obtain ⟨m1, m2, m3⟩ := setMarkW (l.segs.getD g 0) s2 (by omega)
    have hnd : (l.segs.take g).Nodup := (hasc.imp (fun {a b} (hab : a < b) => Nat.ne_of_lt hab)).sublist (List.take_sublist _ _)
    have htl : (l.segs.take g).length = g := by rw [List.length_take]; omega
    obtain ⟨r1, r2, r3⟩ := removeAllW (l.segs.take g) m2 (by omega) hnd (fun s hs => by rw [m3, s3]; exact h.files s (List.mem_of_mem_take hs))
    have hcutS : l.cutS d g (l.segs.getD g 0) = ({ l with durable := l.next }, ((d.sync.1.setMark (l.segs.getD g 0)).1.removeAll ((l.segs.take g).map segName)).1, 0) := by
      unfold ALog.cutS
      rw [h.syncs hw (by omega)]
      simp only [if_true]
      rw [if_pos m1]
      exact Prod.ext rfl (Prod.ext rfl r1)
    have hwr : l.wr d (l.cutS d g (l.segs.getD g 0)) = ({ l with durable := l.next }, ((d.sync.1.setMark (l.segs.getD g 0)).1.removeAll ((l.segs.take g).map segName)).1, 0) := by
      unfold ALog.wr; rw [if_pos h.fail, hcutS]; simp only [h.fail.symm]
    have hhead : (l.recs.headD ⟨0, 0, []⟩).lsn = fst + 1 := by
      have hi := h.inside hgl
      rw [h.recs]
      cases hf : cs.flatten with
      | nil => rw [hf] at hi; simp at hi
      | cons r rs => have := h.nums 0 r (by rw [hf]; rfl); simpa using this
    have e : l.cut d low = ({ l with durable := l.next, recs := l.recs.drop (cs.take g).flatten.length, segs := l.segs.drop g }, ((d.sync.1.setMark (l.segs.getD g 0)).1.removeAll ((l.segs.take g).map segName)).1, 0) := by
      unfold ALog.cut
      rw [← hgd, if_neg hg]
      simp only
      rw [hwr]
      simp only [if_true]
      rw [hhead, hfirst, show fst + 1 + (cs.take g).flatten.length - (fst + 1) = (cs.take g).flatten.length by omega]
    rw [e]
    have hsp := flat_split g cs
    have hdr : cs.flatten.drop (cs.take g).flatten.length = (cs.drop g).flatten := by
      rw [hsp, List.drop_left' (by simp)]
    have hsl := congrArg List.length hsp
    rw [List.length_append] at hsl
    refine { ret := rfl, log := ⟨fst + (cs.take g).flatten.length, cs.drop g, ?_, by omega, ?_, .inr (by omega), by omega⟩, well := r2.mono (by omega), two := fun x hx => ?_, sum := ?_ }
    · refine { fail := h.fail, segs := ?_, recs := ?_, next := ?_, nums := ?_, ne := fun b hb => h.ne b (List.mem_of_mem_drop hb), size := fun b hb => h.size b (List.mem_of_mem_drop hb), none := ?_, fill := ?_, files := ?_ }
      · show l.segs.drop g = _
        rw [h.segs, starts_drop]; congr 1; omega
      · show l.recs.drop _ = _
        rw [h.recs, hdr]
      · show l.next = _
        rw [h.next]; omega
      · intro k r hr
        have := h.nums ((cs.take g).flatten.length + k) r (by rw [hsp, List.getElem?_append_right (by omega)]; rw [← hr]; congr 1; omega)
        omega
      · intro he
        have := congrArg List.length he
        rw [List.length_drop] at this; simp at this; omega
      · intro ds b he
        refine h.fill (cs.take g ++ ds) b ?_
        rw [List.append_assoc, ← he, List.take_append_drop]
      · intro s hs
        have hmem : s ∉ l.segs.take g := fun hm => by
          have := hasc
          rw [← List.take_append_drop g l.segs, List.pairwise_append] at this
          exact Nat.lt_irrefl _ (this.2.2 s hm s hs)
        show (ADisk.removeAll _ _).1.now _ ≠ _
        rw [r3 s hmem, m3, s3]
        exact h.files s (List.mem_of_mem_drop hs)
    · rw [show fst + (cs.take g).flatten.length - fst = (cs.take g).flatten.length by omega, hdr]
    · change (l.segs.drop g)[1]? = some x at hx
      rw [List.getElem?_drop] at hx
      refine ⟨p2 x hx, ?_⟩
      have hgx := (List.getElem?_eq_some_iff.1 hx).1
      refine ⟨l.segs[1], by rw [List.getElem?_eq_getElem], ?_⟩
      rw [List.pairwise_iff_getElem] at hasc
      have h2 := hasc 1 (g + 1) (by omega) hgx (by omega)
      have h3 := (List.getElem?_eq_some_iff.1 hx).2
      omega
    · show 600 * (l.segs.drop g).length + l.filled ≤ _
      rw [List.length_drop]; omega
end
end Go.Proofs.YtkhjhojmhllkaaaGreatDoor
/- THE BOOK, the mathematics: a log as it must stand, over a disk that is well. -/
namespace Go.Proofs.YtkhjhojmhllkaaaGreatDoor
open Go.RowKit
open Sc

structure ABook where
  all : List Rec
  forced : Nat
  low : Nat
  must : Nat
  tries : Nat
/-- the log is as the book says: fst records are gone, cs are the segments; t bytes were appended -/
structure BookOk (b : ABook) (l : ALog) (d : ADisk) (fst : Nat) (cs : List (List Rec)) (t : Nat) : Prop where
  log : LogOk l d fst cs
  up : d.down = false
  le : fst ≤ b.all.length
  all : b.all.drop fst = cs.flatten
  low : fst + 1 ≤ b.low ∨ fst = 0
  must : b.must ≤ b.all.length + 1
  two : ∀ s, l.segs[1]? = some s → b.must ≤ s
  sum : 600 * l.segs.length + l.filled ≤ t + 600
theorem LogOk.knob {l : ALog} {d : ADisk} {fst : Nat} {cs : List (List Rec)} (h : LogOk l d fst cs) (x y : Int) : LogOk l (d.knob x y) fst cs :=
  ⟨h.fail, h.segs, h.recs, h.next, h.nums, h.ne, h.size, h.none, h.fill, h.files⟩
theorem knob_well {d : ADisk} (h : d.down = false) : (d.knob (-1) (-1)).Well 0 := ⟨h, by simp [ADisk.knob], by simp [ADisk.knob]⟩
theorem bytesR_take (l : List Rec) (k : Nat) : bytesR (l.take k) ≤ bytesR l := by
  have := bytesR_app (l.take k) (l.drop k)
  rw [List.take_append_drop] at this
  omega
section
variable {b : ABook} {l : ALog} {d : ADisk} {fst t : Nat} {cs : List (List Rec)}
theorem BookOk.knob (h : BookOk b l d fst cs t) (x y : Int) : BookOk b l (d.knob x y) fst cs t :=
  ⟨h.log.knob x y, h.up, h.le, h.all, h.low, h.must, h.two, h.sum⟩
theorem BookOk.flat (h : BookOk b l d fst cs t) : cs.flatten.length = b.all.length - fst := by rw [← h.all, List.length_drop]
theorem BookOk.next (h : BookOk b l d fst cs t) : l.next = b.all.length + 1 := by
  have h1 := h.log.next
  have h2 := h.flat
  have h3 := h.le
  omega
/-- what is below the mark and still there is of one segment -/
theorem BookOk.small (h : BookOk b l d fst cs t) (k : Nat) (hm : k = 0 ∨ fst + k < b.must) : bytesR (cs.flatten.take k) < 870 := by
  rcases hm with e | hm
  · subst e; simp [bytesR]
  cases hcs : cs with
  | nil => simp [bytesR]
  | cons c0 rest =>
    have hs0 := h.log.size c0 (by rw [hcs]; simp)
    cases hr : rest with
    | nil => simp; have := bytesR_take c0 k; omega
    | cons c1 more =>
      have h1 : l.segs[1]? = some (fst + 1 + c0.length) := by
        rw [h.log.segs, starts_at cs (fst + 1) 1 (by rw [hcs, hr]; simp), hcs]; simp
      have h2 := h.two _ h1
      have h3 : k ≤ c0.length := by omega
      rw [List.flatten_cons, List.take_append_of_le_length h3]
      have := bytesR_take c0 k
      omega
theorem BookOk.append (h : BookOk b l d fst cs t) {c : Nat} (hw : d.Well c) (hc : c + 2 < 1099511627776) (kind : Nat) (s : ByteArray) (hs : s.size ≤ 255) :
    (l.append d kind s).2.2.1 = b.all.length + 1 ∧ (l.append d kind s).2.2.2 = 0 ∧ ∃ cs', BookOk { b with all := b.all ++ [⟨b.all.length + 1, kind, bytesOf s⟩] } (l.append d kind s).1 (l.append d kind s).2.1 fst cs' (t + 15 + s.size) := by
  obtain ⟨⟨r1, r2⟩, ⟨cs', g1, g2⟩, g3, g4, g5⟩ := h.log.append hw hc kind s hs
  have hn := h.next
  have hle := h.le
  rw [hn] at r1 g2
  refine ⟨r1, r2, cs', ?_⟩
  refine { log := g1, up := g3.up, le := by simp; omega, all := ?_, low := h.low, must := by have := h.must; simp; omega, two := ?_, sum := ?_ }
  · show (b.all ++ _).drop fst = _
    rw [g2, List.drop_append_of_le_length hle, h.all]
  · intro x hx
    rcases g4 x hx with hx | hx
    · exact h.two x hx
    · have := h.must; show b.must ≤ x; omega
  · have := h.sum; have := bytesOf_len s; simp only at g5; omega
theorem BookOk.force (h : BookOk b l d fst cs t) {c : Nat} (hw : d.Well c) (hc : c < 1099511627776) :
    (l.force d).2.2 = 0 ∧ BookOk { b with forced := b.all.length } (l.force d).1 (l.force d).2.1 fst cs t := by
  obtain ⟨g1, g2, g3, g4, g5, g6⟩ := h.log.force hw hc
  exact ⟨g1, { log := g2, up := g3.up, le := h.le, all := h.all, low := h.low, must := h.must, two := fun s hs => h.two s (by rw [← g4]; exact hs), sum := by rw [g4, g5]; exact h.sum }⟩
/-- the book behind a Cut -/
def ABook.cut (b : ABook) (top : Nat) : ABook := ⟨b.all, b.all.length, if b.low < top then top else b.low, if b.must < top then top else b.must, if b.tries < top then top else b.tries⟩
theorem BookOk.cut (h : BookOk b l d fst cs t) {c : Nat} (hw : d.Well c) (hc : c + 6 + l.segs.length < 1099511627776) (low top : Nat) (ht : top ≤ low) (ht2 : top ≤ b.all.length + 1) (ht3 : b.all.length + 1 ≤ low → top = b.all.length + 1) (ht4 : low ≤ b.all.length + 1 → top = low) :
    (l.cut d low).2.2 = 0 ∧ ∃ fst' cs', BookOk (b.cut top) (l.cut d low).1 (l.cut d low).2.1 fst' cs' t := by
  obtain ⟨r1, ⟨fst', cs', g1, g2, g3, g4, g5⟩, g6, g7, g8⟩ := h.log.cut hw hc low
  have hle := h.le
  have hfl := h.flat
  refine ⟨r1, fst', cs', ?_⟩
  refine { log := g1, up := g6.up, le := by show fst' ≤ b.all.length; omega, all := ?_, low := ?_, must := ?_, two := ?_, sum := by have := h.sum; omega }
  · show b.all.drop fst' = _
    rw [g3, ← h.all, List.drop_drop]; congr 1; omega
  · show fst' + 1 ≤ (if b.low < top then top else b.low) ∨ fst' = 0
    have h1 := h.low
    by_cases hl : b.low < top
    · rw [if_pos hl]; rcases g4 with e | e <;> omega
    · rw [if_neg hl]; rcases g4 with e | e <;> omega
  · show (if b.must < top then top else b.must) ≤ b.all.length + 1
    have := h.must
    split <;> omega
  · intro x hx
    show (if b.must < top then top else b.must) ≤ x
    obtain ⟨a1, y, a2, a3⟩ := g7 x hx
    have := h.two y a2
    split <;> omega
theorem BookOk.segsLen (h : BookOk b l d fst cs t) : 600 * l.segs.length ≤ t + 600 := by have := h.sum; omega
end
end Go.Proofs.YtkhjhojmhllkaaaGreatDoor
/- sameRecords, the second list a piece of a longer one. -/
namespace Go.Proofs.YtkhjhojmhllkaaaGreatDoor
open Go.RowKit
open Sc

/-- the records rs, as a slice value holds them, from the cell o on -/
def RecsAtO (w : World) (v : Value) (o : Nat) (rs : List Rec) : Prop :=
  ∃ ao cap, v = .slice ao rs.length cap ∧ ∀ i (h : i < rs.length), ∃ g, ao = some ⟨g, o, none⟩ ∧ w.cell? ⟨g, o + i * 3, none⟩ = some (.int .u64 (rs[i].lsn : Int)) ∧ w.cell? ⟨g, o + i * 3 + 1, none⟩ = some (.int .u8 (rs[i].kind : Int)) ∧ w.cell? ⟨g, o + i * 3 + 2, none⟩ = some (.string (str rs[i].pay))
set_option maxHeartbeats 1000000 in
theorem same_piece (v1 v2 : Value) (o : Nat) (rs : List Rec) (w : World) (h1 : RecsAt w v1 rs) (h2 : RecsAtO w v2 o rs) (hn : rs.length ≤ 1099511627776) :
    Calls Tryz.prog 53 #[v1, v2] w fun e w' => e = .returned (.bool true) ∧ ∃ q, w' = w.drewN q := by
  obtain ⟨a1, c1, rfl, H1⟩ := h1
  obtain ⟨a2, c2, rfl, H2⟩ := h2
  have G1 : Hid (∀ i (h : i < rs.length), ∃ g, a1 = some ⟨g, 0, none⟩ ∧ w.cell? ⟨g, i * 3, none⟩ = some (.int .u64 (rs[i].lsn : Int)) ∧ w.cell? ⟨g, i * 3 + 1, none⟩ = some (.int .u8 (rs[i].kind : Int)) ∧ w.cell? ⟨g, i * 3 + 2, none⟩ = some (.string (str rs[i].pay))) := H1
  have G2 : Hid (∀ i (h : i < rs.length), ∃ g, a2 = some ⟨g, o, none⟩ ∧ w.cell? ⟨g, o + i * 3, none⟩ = some (.int .u64 (rs[i].lsn : Int)) ∧ w.cell? ⟨g, o + i * 3 + 1, none⟩ = some (.int .u8 (rs[i].kind : Int)) ∧ w.cell? ⟨g, o + i * 3 + 2, none⟩ = some (.string (str rs[i].pay))) := H2
  clear H1 H2
  obtain ⟨n, hnn⟩ : ∃ n, n = rs.length := ⟨_, rfl⟩
  rw [← hnn] at hn ⊢
  have HN : Hid (rs.length = n) := hnn.symm
  clear hnn
  go_enter Tryz.func53, Tryz.ntmps53
  go_wp2
  go_loopw [5] (fun i wr => ∃ k : Nat, k ≤ n ∧ i = .int .i64 k ∧ ∃ q, wr = w.drewN q) (fun i _ => n - (intOf i).toNat)
  case atStart => exact ⟨0, Nat.zero_le _, rfl, 0, rfl⟩
  case round =>
    obtain ⟨k, hk, rfl, q, rfl⟩ := hrel
    by_cases hlt : k < n
    · obtain ⟨g1, rfl, x0, x1, x2⟩ := G1.out k (by rw [HN.out]; exact hlt)
      obtain ⟨g2, rfl, y0, y1, y2⟩ := G2.out k (by rw [HN.out]; exact hlt)
      have i0 : (0 : Int) ≤ (k : Int) := by omega
      have i1 : (k : Int) < (n : Int) := by omega
      generalize rs[k]'(by rw [HN.out]; exact hlt) = r at x0 x1 x2 y0 y1 y2
      generalize str r.pay = sp at x2 y2
      go_wp2
      go_quiet (fail)
      go_wp2
      go_roundw
      case rel => exact ⟨k + 1, by omega, by go_num, _, rfl⟩
      case measure => simp [intOf]; omega
    · go_wp2
      go_ret
      exact ⟨rfl, q, rfl⟩
/-- a row of records, cut at its beginning -/
theorem recsAtO_own {w : World} {base n : Nat} {g cap : Nat} {all : List Rec} (h : w.ownsRow base 103 3 (.slice (some ⟨g, 0, none⟩) n cap) n (recsV all)) (f c : Nat) (hf : f ≤ all.length) : RecsAtO w (.slice (some ⟨g, f * 3, none⟩) (all.length - f) c) (f * 3) (all.drop f) := by
  have hall := recsAt_own h
  obtain ⟨ao, cap2, e, H⟩ := hall
  refine ⟨_, c, by rw [List.length_drop], fun i hi => ⟨g, rfl, ?_⟩⟩
  rw [List.length_drop] at hi
  obtain ⟨g', e2, a1, a2, a3⟩ := H (f + i) (by omega)
  cases e
  cases e2
  rw [List.getElem_drop]
  have h1 : (f + i) * 3 = f * 3 + i * 3 := by omega
  rw [h1] at a1 a2 a3
  exact ⟨a1, a2, a3⟩
theorem recsSl_own {w : World} {base n : Nat} {v : Value} {rs : List Rec} (h : w.ownsRow base 103 3 v n (recsV rs)) : RecsSl w.heap.size w v rs := by
  have hl : rs.length = n := by have := h.1; rw [recsV_len] at this; omega
  have hlt := h.lt
  obtain ⟨ao, cap, e, H⟩ := recsAt_own h
  rcases h.2 with ⟨e1, h0⟩ | ⟨g, cap', cur, e1, hb, hg, rest⟩
  · left
    exact ⟨e1, List.eq_nil_of_length_eq_zero (by omega)⟩
  · right
    refine ⟨g, cap', by rw [e1, hl], (hlt g (by rw [e1]; rfl)).2, fun k r hk => ?_⟩
    obtain ⟨hk1, hk2⟩ := List.getElem?_eq_some_iff.1 hk
    obtain ⟨g2, e2, a1, a2, a3⟩ := H k hk1
    rw [e1] at e
    cases e
    cases e2
    rw [hk2] at a1 a2 a3
    exact ⟨a1, a2, a3⟩
end Go.Proofs.YtkhjhojmhllkaaaGreatDoor
/- LEDGERS: Open over a log without records. -/
namespace Go.Proofs.YtkhjhojmhllkaaaGreatDoor
open Go.RowKit Go.Shelf Go.Maps
open Sc

/-- nothing has turned but what is a disk's, and these, and new blocks -/
structure SDFr (p : Nat) (S : List Nat) (w w' : World) : Prop where
  os : w'.os = w.os
  tape : w'.tape = w.tape
  output : w'.output = w.output
  size : w.heap.size ≤ w'.heap.size
  block : ∀ k, k < w.heap.size → ¬ OwnD p w k → k ∉ S → w'.heap[k]? = w.heap[k]?
theorem DiskIn.freeDMap {w : World} {B p bD bN n nD nN k : Nat} {pv : Value} {d : ADisk} (h : DiskIn w B p bD bN pv d n nD nN) (hm : ∃ es c, w.heap[k]? = some (.map es c)) (h1 : k ≠ bD) (h2 : k ≠ bN) : ¬ OwnD p w k := by
  obtain ⟨es, c, hk⟩ := hm
  intro ho
  have := (h.ownD k).1 ho
  simp at this
  rcases this with e | e | e | e
  · rw [e, h.blk] at hk; cases hk
  · exact h1 e
  · exact h2 e
  · obtain ⟨c2, hc⟩ := own_cells h.pen e; rw [hc] at hk; cases hk
theorem ShIn.blocks {w w' : World} {sp lg bV bT bH n : Nat} {s : AShard} (h : ShIn w sp lg bV bT bH n s) (hb : ∀ k ∈ [sp, bV, bT, bH], w'.heap[k]? = w.heap[k]?) : ShIn w' sp lg bV bT bH n s := by
  have mv : ∀ {K V : Type} [DecidableEq K] {kt : TypeId} {KR : KeyRep Tryz.prog K kt} {ER : ElRep V} {b k : Nat} {L : List (K × V)}, MapAs KR ER w b k L → b ∈ [sp, bV, bT, bH] → MapAs KR ER w' b k L := by
    intro K V _ kt KR ER b k L hM hb'
    obtain ⟨es, ⟨es', c, h1, h2⟩, r⟩ := hM
    exact ⟨es, ⟨es', c, (hb b hb').trans h1, h2⟩, r⟩
  exact { blk := (hb sp (by simp)).trans h.blk, vals := mv h.vals (by simp), txns := mv h.txns (by simp), holds := mv h.holds (by simp), ne := h.ne, ticks := h.ticks }
theorem toHid {p : Prop} (h : p) : Hid p := h
set_option maxRecDepth 100000 in
set_option maxHeartbeats 4000000 in
theorem led0_in (N : Nat) (hN : 14 ≤ N) (B p bD bN n : Nat) (fc sp : Nat) (R : ALog × ADisk × Nat) (hR : R.1.recs = []) (w : World) (hd : ∃ pv d nD nN, DiskIn w B p bD bN pv d n nD nN)
    (hJ : ∀ W, Fr [] w W → Calls Tryz.prog 84 #[dskV p] W (OpenPost B p bD bN n R W)) (hfi : firstN R.1.recs R.1.next = 1) :
    CallsIn Fence.wide N Tryz.prog 129 #[dskV p, .func (.func fc) #[.pointer (some ⟨sp, 0, none⟩)] #[]] w fun e w' => ∃ gp lp, e = .returned (.tuple #[.pointer (some ⟨gp, 0, none⟩), .nilIface]) ∧ (∃ pv sv rv nD nN, LogIn w' B lp p bD bN pv sv rv R.1 R.2.1 n nD nN) ∧ w'.heap[gp]? = some (ledO lp) ∧ w.heap.size ≤ gp ∧ SDFr p [] w w' := by
  have hpl : PlainR R.1.recs := by rw [hR]; exact nofun
  have hro : Fence.wide.round = none := rfl
  have h1 : 1 ≤ N := by omega
  have hf1 : Fence.wide.fn 84 := trivial
  have hf2 : Fence.wide.fn 177 := trivial
  have hf3 : Fence.wide.fn 178 := trivial
  have hf4 : Fence.wide.fn 179 := trivial
  have hf5 : Fence.wide.fn 222 := trivial
  have hf6 : Fence.wide.fn 180 := trivial
  obtain ⟨W0, hW0⟩ : ∃ W0, W0 = ((w.alloc (.cells #[.func (.func fc) #[.pointer (some ⟨sp, 0, none⟩)] #[]] 195)).alloc (.cells #[.pointer none] 136)).alloc (.cells #[.nilIface] 79) := ⟨_, rfl⟩
  have hfr0 : Fr [] w W0 := by rw [hW0]; exact (((Fr.refl [] w).alloc _).alloc _).alloc _
  have hs0 : W0.heap.size = w.heap.size + 3 := by rw [hW0]; simp
  have r0 : W0.heap[w.heap.size]? = some (.cells #[.func (.func fc) #[.pointer (some ⟨sp, 0, none⟩)] #[]] 195 (0, 0)) := by rw [hW0, Below.heap_alloc _ _ w.heap.size (by simp; omega), Below.heap_alloc _ _ w.heap.size (by simp)]; exact heap_alloc_new w _
  have r1 : W0.heap[w.heap.size + 1]? = some (.cells #[.pointer none] 136 (0, 0)) := by
    rw [hW0, Below.heap_alloc _ _ (w.heap.size + 1) (by simp)]
    have := heap_alloc_new (w.alloc (.cells #[.func (.func fc) #[.pointer (some ⟨sp, 0, none⟩)] #[]] 195)) (.cells #[.pointer none] 136)
    rwa [World.size_alloc] at this
  have r2 : W0.heap[w.heap.size + 2]? = some (.cells #[.nilIface] 79 (0, 0)) := by
    rw [hW0]
    have := heap_alloc_new ((w.alloc (.cells #[.func (.func fc) #[.pointer (some ⟨sp, 0, none⟩)] #[]] 195)).alloc (.cells #[.pointer none] 136)) (.cells #[.nilIface] 79)
    rwa [World.size_alloc, World.size_alloc] at this
  have hJ0 := (callsIn_wide (n := N - 1)).2 (hJ W0 hfr0)
  obtain ⟨pv0, d0, nD0, nN0, hd0⟩ := hd
  have HD0 := hd0.new hfr0
  refine callsIn_of_wp_marks Tryz.func129 rfl trivial ?_ hro
  simp only [Tryz.ntmps129, List.size_toArray, List.length_cons, List.length_nil, Nat.reduceAdd, Nat.reduceSub, Array.replicate_succ, Array.replicate_zero, List.push_toArray, List.append_toArray, List.nil_append, List.cons_append]
  gi_wp2_with fail
  rw [← hW0]
  refine hJ0.mono ?_
  clear hJ0 hW0
  rintro e w1 ⟨lp, rfl, hlp, ⟨pv, sv, rv, nD, nN, hl1⟩, hdf1⟩
  have fD : ∀ k ∈ [w.heap.size, w.heap.size + 1, w.heap.size + 2], w1.heap[k]? = W0.heap[k]? := by
    intro k hk
    simp at hk
    rcases hk with rfl | rfl | rfl
    · exact hdf1.block _ (by omega) (HD0.freeD r0 (by decide) (by decide))
    · exact hdf1.block _ (by omega) (HD0.freeD r1 (by decide) (by decide))
    · exact hdf1.block _ (by omega) (HD0.freeD r2 (by decide) (by decide))
  have q0 := (fD w.heap.size (by simp)).trans r0
  have q1 := (fD (w.heap.size + 1) (by simp)).trans r1
  have q2 := (fD (w.heap.size + 2) (by simp)).trans r2
  have hz1 := hdf1.size
  have hsd1 : SDFr p [] w w1 := ⟨hdf1.os.trans hfr0.os, hdf1.tape.trans hfr0.tape, hdf1.output.trans hfr0.output, by omega, fun k hk ho _ => (hdf1.block k (by omega) (fun ho' => ho (by
    have := (HD0.ownD k).1 ho'
    exact (hd0.ownD k).2 this))).trans (hfr0.block k hk (by simp))⟩
  clear hdf1 fD r0 r1 r2 hfr0 HD0 hd0
  obtain ⟨W2, hW2⟩ : ∃ W2, W2 = w1.alloc (ledO lp) := ⟨_, rfl⟩
  have hfr2 : Fr [] w1 W2 := by rw [hW2]; exact (Fr.refl [] w1).alloc _
  have hz2 : W2.heap.size = w1.heap.size + 1 := by rw [hW2]; simp
  have g2 : W2.heap[w1.heap.size]? = some (ledO lp) := by rw [hW2]; exact heap_alloc_new w1 _
  have hl2 := hl1.new hfr2
  have lr2 : LogRecs W2 lp rv R.1.recs := ⟨(Array.getElem?_eq_some_iff.1 hl2.blk).1, by have := blk_cell hl2.blk 3; simpa using this, recsSl_own hl2.recs⟩
  have nx2 : W2.cell? ⟨lp, 4, none⟩ = some (.int .u64 (R.1.next : Int)) := by have := blk_cell hl2.blk 4; simpa using this
  have gc2 : W2.cell? ⟨w1.heap.size, 0, none⟩ = some (.pointer (some ⟨lp, 0, none⟩)) := by have := blk_cell g2 0; simpa using this
  have hlen : R.1.recs.length ≤ 67108864 := by rw [hR]; decide
  have hcp := lastCp_in (N - 1) (by omega) w1.heap.size lp rv R.1.recs hlen hpl W2 gc2 lr2
  have b0 := (hfr2.block w.heap.size (by omega) (by simp)).trans q0
  have b1 := (hfr2.block (w.heap.size + 1) (by omega) (by simp)).trans q1
  have b2 := (hfr2.block (w.heap.size + 2) (by omega) (by simp)).trans q2
  clear q0 q1 q2
  gi_wp2_with fail
  have hW2' : W2 = w1.alloc (.cells #[.pointer (some ⟨lp, 0, none⟩)] 205) := hW2
  rw [← hW2']
  refine hcp.mono ?_
  clear hcp hW2 hW2'
  rintro e w3 ⟨rfl, hb3⟩
  have hz3 := hb3.size
  have hfo := firstOf_in (N - 1) (by omega) lp R.1.next rv R.1.recs hlen w3 (lr2.below hb3) ((hb3.cell (p := ⟨lp, 4, none⟩) lr2.lt).trans nx2)
  rw [hfi] at hfo
  gi_wp2_with fail
  refine hfo.mono ?_
  clear hfo
  rintro e w4 ⟨rfl, hb4⟩
  have hz4 := hb4.size
  have hfa := ledAll_fn (N - 1) w1.heap.size w4
  gi_wp2_with fail
  refine hfa.mono ?_
  clear hfa
  rintro e w5 ⟨rfl, hw5⟩
  have hB5 : Below W2.heap.size W2 w5 := by rw [hw5]; exact (hb3.trans (hb4.mono hz3)).alloc (by omega) _
  have hz5 : w5.heap.size = w4.heap.size + 1 := by rw [hw5]; simp
  have a5 : w5.heap[w4.heap.size]? = some (.cells #[.pointer (some ⟨w1.heap.size, 0, none⟩)] 136 (0, 0)) := by rw [hw5]; exact heap_alloc_new w4 _
  have hfr5 : Fr [] W2 w5 := Fr.of_below hB5 []
  have hl5 := hl2.new hfr5
  have lr5 := lr2.below hB5
  have g5 := (hfr5.block w1.heap.size (by omega) (by simp)).trans g2
  have c0 := (hfr5.block w.heap.size (by omega) (by simp)).trans b0
  have c1 := (hfr5.block (w.heap.size + 1) (by omega) (by simp)).trans b1
  have c2 := (hfr5.block (w.heap.size + 2) (by omega) (by simp)).trans b2
  have hsd5 : SDFr p [] w w5 := ⟨hfr5.os.trans (hfr2.os.trans hsd1.os), hfr5.tape.trans (hfr2.tape.trans hsd1.tape), hfr5.output.trans (hfr2.output.trans hsd1.output), by omega, fun k hk ho hS => (hfr5.block k (by omega) (by simp)).trans ((hfr2.block k (by omega) (by simp)).trans (hsd1.block k hk ho hS))⟩
  clear hw5 hB5 hfr5 hl2 lr2 g2 b0 b1 b2 hsd1 hb3 hb4 nx2 gc2 hl1 hfr2
  gi_wp2
  have z4 : w5.cell? ⟨w4.heap.size, 0, none⟩ = some (.pointer (some ⟨w1.heap.size, 0, none⟩)) := by have := blk_cell a5 0; simpa using this
  have z5 : w5.cell? ⟨w1.heap.size, 0, none⟩ = some (.pointer (some ⟨lp, 0, none⟩)) := by have := blk_cell g5 0; simpa using this
  refine wpIn_range_mine hro h1 (gf := 222) (lb := #[.pointer (some ⟨w4.heap.size, 0, none⟩)]) rfl hf5 (enters_of Tryz.func222 (by kernel_rfl) rfl)
    (encs := fun x : Rec => #[.int .u8 (x.kind : Int), .string (str x.pay)]) (rs := R.1.recs) (S := rowsOf rv) (fun _ => rfl) lr5.rows
    (fun Wx hbx _ => ledAllP (N - 1) (by omega) _ w4.heap.size w1.heap.size lp rv R.1.recs hlen hpl Wx ((hbx.cell (p := ⟨w4.heap.size, 0, none⟩) (by show w4.heap.size < _; omega)).trans z4) ((hbx.cell (p := ⟨w1.heap.size, 0, none⟩) (by show w1.heap.size < _; omega)).trans z5) (lr5.below hbx))
    (fun _ A => Fr [] w5 A) (fun Wx hbx => Fr.of_below hbx _)
    (fun s A B hs hb => ⟨hb.os.trans hs.os, hb.tape.trans hs.tape, hb.output.trans hs.output, Nat.le_trans hs.size hb.size, fun k hk hS => (hb.block k (by omega)).trans (hs.block k hk hS)⟩)
    (fun s A r hs => ⟨hs.os, hs.tape, hs.output, by rw [size_put0]; exact hs.size, fun k hk hS => (World.putObj_heap_other (by omega)).trans (hs.block k hk hS)⟩)
    (fun _ _ _ => True) (fun _ _ _ _ h => h)
    ?assign ?body ?done
  case assign => intro pre x A K _ _ hpre; rw [hR] at hpre; simp at hpre
  case body => intro pre x a' A _ _ _ hpre; rw [hR] at hpre; simp at hpre
  case done =>
    intro W hfW hsW hK
    have t1 := (hfW.block (w.heap.size + 1) (by omega) (by simp)).trans c1
    have t2 := (hfW.block (w.heap.size + 2) (by omega) (by simp)).trans c2
    have u1 := blk_cell t1 0
    have u2 := blk_cell t2 0
    have f1 := blk_free t1 0
    have f2 := blk_free t2 0
    simp at u1 u2 f1 f2
    obtain ⟨W6, hW6⟩ : ∃ W6, W6 = (W.setCell ⟨w.heap.size + 1, 0, none⟩ (.pointer (some ⟨w1.heap.size, 0, none⟩))).setCell ⟨w.heap.size + 1 + 1, 0, none⟩ .nilIface := ⟨_, rfl⟩
    have hf6 : Fr [w.heap.size + 1, w.heap.size + 2] W W6 := by rw [hW6]; exact (Fr.set1 (by simp) _ _).trans (Fr.set1 (by simp) _ _)
    have s1 : W6.heap[w.heap.size + 1]? = some (.cells #[.pointer (some ⟨w1.heap.size, 0, none⟩)] 136 (0, 0)) := by
      rw [hW6]
      have := blk_set t1 0 (.pointer (some ⟨w1.heap.size, 0, none⟩))
      rw [Below.heap_setCell _ _ _ _ (by show w.heap.size + 1 ≠ w.heap.size + 1 + 1; omega)]
      simpa using this
    have s2 : W6.heap[w.heap.size + 1 + 1]? = some (.cells #[.nilIface] 79 (0, 0)) := by
      rw [hW6]
      have t2' : (W.setCell ⟨w.heap.size + 1, 0, none⟩ (.pointer (some ⟨w1.heap.size, 0, none⟩))).heap[w.heap.size + 1 + 1]? = some (.cells #[.nilIface] 79 (0, 0)) := (Below.heap_setCell _ _ _ _ (by show w.heap.size + 1 + 1 ≠ w.heap.size + 1; omega)).trans t2
      have := blk_set t2' 0 .nilIface
      simpa using this
    have hK6 : W6.heap[w5.heap.size]? = some (.deferred (some [])) := (hf6.block _ (by omega) (by simp; omega)).trans hK
    have HW := toHid hfW
    clear hfW
    gi_wp2
    rw [← hW6]
    clear hW6
    refine ⟨by simp, .inl ⟨_, _, rfl, run_takeDeferred hK6, ?_⟩⟩
    obtain ⟨W7, hW7⟩ : ∃ W7, W7 = W6.putObj w5.heap.size (.deferred none) := ⟨_, rfl⟩
    have blk7 : ∀ k, k ≠ w5.heap.size → W7.heap[k]? = W6.heap[k]? := fun k hk => by rw [hW7]; exact World.putObj_heap_other hk
    have hf7 : Fr [w.heap.size + 1, w.heap.size + 2] w5 W7 := by
      refine ⟨?_, ?_, ?_, ?_, fun k hk hS => ?_⟩
      · rw [hW7]; exact hf6.os.trans HW.out.os
      · rw [hW7]; exact hf6.tape.trans HW.out.tape
      · rw [hW7]; exact hf6.output.trans HW.out.output
      · rw [hW7, size_put0]; have := hf6.size; have := HW.out.size; omega
      · simp at hS
        rw [blk7 k (by omega), hf6.block k (by omega) (by simp; omega), HW.out.block k hk (by simp)]
    have hl7 := hl5.apart hf7 (fun k hk _ => by
      simp at hk
      rcases hk with rfl | rfl
      · exact ⟨hl5.free c1 (by decide) (by decide) (by decide) (by decide) (by decide), fun t e => by rw [c1] at e; cases e⟩
      · exact ⟨hl5.free c2 (by decide) (by decide) (by decide) (by decide) (by decide), fun t e => by rw [c2] at e; cases e⟩)
    have q1 := blk_cell ((blk7 (w.heap.size + 1) (by omega)).trans s1) 0
    have q2 := blk_cell ((blk7 (w.heap.size + 1 + 1) (by omega)).trans s2) 0
    simp at q1 q2
    have g7 := (hf7.block w1.heap.size (by omega) (by simp; omega)).trans g5
    have hsd7 : SDFr p [] w W7 := ⟨hf7.os.trans hsd5.os, hf7.tape.trans hsd5.tape, hf7.output.trans hsd5.output, by have := hf7.size; omega, fun k hk ho hS => (hf7.block k (by omega) (by simp; omega)).trans (hsd5.block k hk ho hS)⟩
    rw [← hW7]
    refine ⟨.tuple #[.pointer (some ⟨w1.heap.size, 0, none⟩), .nilIface], ?_, w1.heap.size, lp, rfl, ⟨pv, sv, rv, nD, nN, hl7⟩, g7, by omega, hsd7⟩
    simp only [results, Tryz.f129]
    simp [go_sem, q1, q2]
theorem led0 (B p bD bN n : Nat) (fc sp : Nat) (R : ALog × ADisk × Nat) (hR : R.1.recs = []) (w : World) (hd : ∃ pv d nD nN, DiskIn w B p bD bN pv d n nD nN)
    (hJ : ∀ W, Fr [] w W → Calls Tryz.prog 84 #[dskV p] W (OpenPost B p bD bN n R W)) (hfi : firstN R.1.recs R.1.next = 1) :
    Calls Tryz.prog 129 #[dskV p, .func (.func fc) #[.pointer (some ⟨sp, 0, none⟩)] #[]] w fun e w' => ∃ gp lp, e = .returned (.tuple #[.pointer (some ⟨gp, 0, none⟩), .nilIface]) ∧ (∃ pv sv rv nD nN, LogIn w' B lp p bD bN pv sv rv R.1 R.2.1 n nD nN) ∧ w'.heap[gp]? = some (ledO lp) ∧ w.heap.size ≤ gp ∧ SDFr p [] w w' :=
  (callsIn_wide (n := 14)).1 (led0_in 14 (Nat.le_refl _) B p bD bN n fc sp R hR w hd hJ hfi)
end Go.Proofs.YtkhjhojmhllkaaaGreatDoor
/- SHARDS: holdsOf. -/
namespace Go.Proofs.YtkhjhojmhllkaaaGreatDoor
open Go.RowKit Go.Maps
open Sc

theorem del_shorter {K V : Type} [DecidableEq K] {l : List (K × V)} {k : K} {v : V} (h : (k, v) ∈ l) : (alDel l k).length + 1 ≤ l.length := by
  have : (alDel l k).length < l.length := by
    unfold alDel
    rw [List.length_filter_lt_length_iff_exists]
    exact ⟨_, h, by simp⟩
  omega
theorem alLook_put {K V : Type} [DecidableEq K] {l : List (K × V)} {k j : K} {v : V} : alLook (alPut l k v) j = if j = k then some v else alLook l j := by
  by_cases e : j = k
  · subst e
    rw [if_pos rfl]
    simp [alLook, alPut]
  · rw [if_neg e]
    have h1 := alLook_del (rem := l) (k := k) (j := j)
    rw [if_neg e] at h1
    rw [← h1]
    have e2 : ¬ k = j := fun x => e x.symm
    simp [alLook, alPut, e2]
theorem mkHeld (W : World) : (Instr.makeMap 167 none).run Tryz.prog W = .ok (.map (some W.heap.size)) (W.alloc (.map #[] 0)) := by
  simp [Instr.makeMap]
set_option maxRecDepth 100000 in
set_option maxHeartbeats 4000000 in
theorem holdsOf_any (sp lg bV bT bH n t : Nat) (s : AShard) (w : World) (h : ShIn w sp lg bV bT bH n s) (ht : t < 18446744073709551616) (hn : n < maxLen) :
    Calls Tryz.prog 114 #[.pointer (some ⟨sp, 0, none⟩), .int .u64 (t : Int)] w fun e w' => ∃ b L, e = .returned (.map (some b)) ∧ w.heap.size ≤ b ∧ MapAs KS EG w' b n L ∧ (∀ k, alLook L k = alLook s.holds (t, k)) ∧ Fr [] w w' := by
  have HI : Hid (ShIn w sp lg bV bT bH n s) := h
  have c3 := blk_cell h.blk 3
  simp at c3
  have hsp : sp < w.heap.size := (Array.getElem?_eq_some_iff.1 h.blk).1
  clear h
  have hmk := mkHeld
  go_enter Tryz.func114, Tryz.ntmps114
  go_wp2_with (first
    | (at_range; refine wpList_map_range (KR := KH) (ER := EG) rfl _ 139 146 rfl Tryz.underlying139 bH n s.holds rfl (HI.out.holds.fr ((Fr.refl [] w).alloc _) (by simp)) ?_; intro w0 hrg0 hg0 hs0)
    | go_in)
  have hsz1 : (w.alloc (.map #[] 0)).heap.size = w.heap.size + 1 := by simp
  rw [hsz1] at hrg0 hs0 ⊢
  clear hsz1
  go_frame
  have HF0 : Hid (Fr [] w w0) := ((Fr.refl [] w).alloc _).trans (Fr.of_grown hg0)
  have HM0 : Hid (MapAs KS EG w0 w.heap.size 0 []) := (MapAs.made w).fr (Fr.of_grown hg0) (by simp)
  have HR0 : Hid (RangesAs KH EG w0 bH (w.heap.size + 1) n s.holds s.holds) := hrg0
  have hlen := HI.out.holds.len
  clear hrg0 hg0
  go_loopw [6] (fun _ wr => ∃ rem L m, Hid (RangesAs KH EG wr bH (w.heap.size + 1) n s.holds rem ∧ MapAs KS EG wr w.heap.size m L ∧ m + rem.length ≤ n ∧ (∀ k, alLook L k = if (alLook rem (t, k)).isSome = true then none else alLook s.holds (t, k)) ∧ Fr [] w wr ∧ w.heap.size + 2 ≤ wr.heap.size)) (fun _ wr => wr.rangeLeft bH (w.heap.size + 1))
  case atStart =>
    refine ⟨s.holds, [], 0, HR0.out, HM0.out, by omega, fun k => ?_, HF0.out, by omega⟩
    cases alLook s.holds (t, k) with
    | none => rfl
    | some v => rfl
  case round =>
    obtain ⟨rem, L, m, HX⟩ := hrel
    have hrg := HX.out.1
    go_wp2_with (first
      | (at_next; refine wpList_map_next (KR := KH) (ER := EG) rfl _ rfl bH (w.heap.size + 1) n s.holds rem rfl hrg ?_ ?_)
      | go_in)
    · intro hnil
      go_wp2
      go_ret
      refine ⟨w.heap.size, L, rfl, Nat.le_refl _, HX.out.2.1.mono (by have := HX.out.2.2.1; omega), fun k => ?_, HX.out.2.2.2.2.1⟩
      rw [HX.out.2.2.2.1 k, hnil]
      rfl
    · intro tx k2 x w2 hm hrg2 hlt hg2 hs2 hen
      have hms : ((tx, k2), x) ∈ s.holds := by
        obtain ⟨_, _, _, _, _, _, _, _, h6, _⟩ := hrg
        exact h6 _ hm
      have hok : tx < 18446744073709551616 ∧ k2.size ≤ maxLen := by
        obtain ⟨_, _, _, _, hok⟩ := hrg.owns
        exact (hok _ hms).1
      have HLT : Hid (w2.rangeLeft bH (w.heap.size + 1) < wr.rangeLeft bH (w.heap.size + 1)) := hlt
      have HRG2 : Hid (RangesAs KH EG w2 bH (w.heap.size + 1) n s.holds (alDel rem (tx, k2))) := hrg2
      have HF2 : Hid (Fr [] w w2) := HX.out.2.2.2.2.1.andThen (Fr.of_grown1 hg2) (fun j hj hl => by simp at hj; omega)
      have HM2 : Hid (MapAs KS EG w2 w.heap.size m L) := HX.out.2.1.fr (Fr.of_grown1 hg2) (by simp)
      have hsz2 : w.heap.size + 2 ≤ w2.heap.size := by have := HX.out.2.2.2.2.2; omega
      have hen' : (Instr.entry (.pointer (some ⟨w.heap.size + 1, 0, none⟩))).run Tryz.prog w2 = .ok (.tuple #[.agg #[.int .u64 (tx : Int), .string k2], .agg #[.int .u8 (x.way : Int), .string x.val]]) w2 := hen
      have HMM : Hid (((tx, k2), x) ∈ rem ∧ ((tx, k2), x) ∈ s.holds) := ⟨hm, hms⟩
      have HONE : Hid (Once1 s.holds) := by obtain ⟨_, _, _, h3, _⟩ := hrg.owns; exact h3
      clear hrg hrg2 hm hms hen hg2 hs2 hlt
      have hmb : m < maxLen := by
        have h1 := del_shorter HMM.out.1
        have h2 := HX.out.2.2.1
        omega
      by_cases htt : tx = t
      · subst htt
        go_wp2_with (first
          | (at_mapUpdate; refine wpList_map_put (KR := KS) (ER := EG) rfl _ _ _ 167 146 rfl Tryz.underlying167 w.heap.size m L rfl (HM2.out.fr (((Fr.refl [] w2).alloc _).alloc _) (by simp)) hmb k2 hok.2 rfl x trivial rfl ?_; intro w3 hm3 hg3)
          | go_in)
        go_frame
        go_wp2
        have hf3 : Fr [w.heap.size] w2 w3 := (((Fr.refl [w.heap.size] w2).alloc _).alloc _).trans (Fr.of_grown1 hg3)
        have hbl : bH < w.heap.size := HI.out.lts.2.2.2.1
        obtain ⟨r1, r2⟩ := HRG2.out.fr hf3 (by simp; omega) (by simp)
        go_roundw
        case rel =>
          refine ⟨alDel rem (tx, k2), alPut L k2 x, m + 1, r1, hm3, ?_, fun k => ?_, HF2.out.andThen hf3 (fun j hj hl => by simp at hj; omega), Nat.le_trans hsz2 hf3.size⟩
          · have h1 := del_shorter HMM.out.1
            have h2 := HX.out.2.2.1
            omega
          · rw [alLook_put, alLook_del]
            by_cases e : k = k2
            · subst e
              rw [if_pos rfl, if_pos (rfl : (tx, k) = (tx, k))]
              exact (alLook_of HONE.out HMM.out.2).symm
            · have e1 : ¬ (tx, k) = (tx, k2) := by simp [e]
              rw [if_neg e, if_neg e1]
              exact HX.out.2.2.2.1 k
        case measure => rw [r2]; exact HLT.out
      · have hb : ((tx : Int) == (t : Int)) = false := by simp; omega
        go_wp2
        obtain ⟨r1, r2⟩ := HRG2.out.fr (((Fr.refl [] w2).alloc (.cells #[.int .u64 (tx : Int), .string k2] 148)).alloc (.cells #[.int .u8 (x.way : Int), .string x.val] 146)) (by simp) (by simp)
        refine ⟨⟨alDel rem (tx, k2), L, m, r1, HM2.out.fr (((Fr.refl [] w2).alloc _).alloc _) (by simp), ?_, fun k => ?_, HF2.out.trans (((Fr.refl [] w2).alloc _).alloc _), Nat.le_trans hsz2 (by simp; omega)⟩, by rw [r2]; exact HLT.out⟩
        · have h1 := del_shorter HMM.out.1
          have h2 := HX.out.2.2.1
          omega
        · have e1 : ¬ (t, k) = (tx, k2) := fun e => htt (congrArg Prod.fst e).symm
          rw [alLook_del, if_neg e1]
          exact HX.out.2.2.2.1 k
end Go.Proofs.YtkhjhojmhllkaaaGreatDoor
/- SHARDS: anyWrites. -/
namespace Go.Proofs.YtkhjhojmhllkaaaGreatDoor
open Go.RowKit Go.Maps
open Sc

def anyW (L : List (ByteArray × AGrip)) : Bool := L.any fun p => p.2.writes
set_option maxRecDepth 100000 in
set_option maxHeartbeats 4000000 in
theorem anyWrites_any (b n : Nat) (L : List (ByteArray × AGrip)) (w : World) (h : MapAs KS EG w b n L) :
    Calls Tryz.prog 115 #[.map (some b)] w fun e w' => e = .returned (.bool (anyW L)) ∧ Fr [] w w' := by
  have HI : Hid (MapAs KS EG w b n L) := h
  clear h
  go_enter Tryz.func115, Tryz.ntmps115
  go_wp2_with (first
    | (at_range; refine wpList_map_range (KR := KS) (ER := EG) rfl _ 167 146 rfl Tryz.underlying167 b n L rfl HI.out ?_; intro w0 hrg0 hg0 hs0)
    | go_in)
  go_frame
  have HF0 : Hid (Fr [] w w0) := Fr.of_grown hg0
  have HR0 : Hid (RangesAs KS EG w0 b w.heap.size n L L) := hrg0
  clear hrg0 hg0
  go_loopw [4] (fun _ wr => ∃ rem, Hid (RangesAs KS EG wr b w.heap.size n L rem ∧ (∀ p ∈ L, p ∉ rem → p.2.writes = false) ∧ Fr [] w wr ∧ w.heap.size + 1 ≤ wr.heap.size)) (fun _ wr => wr.rangeLeft b w.heap.size)
  case atStart => exact ⟨L, HR0.out, fun p h1 h2 => absurd h1 h2, HF0.out, by omega⟩
  case round =>
    obtain ⟨rem, HX⟩ := hrel
    have hrg := HX.out.1
    go_wp2_with (first
      | (at_next; refine wpList_map_next (KR := KS) (ER := EG) rfl _ rfl b w.heap.size n L rem rfl hrg ?_ ?_)
      | go_in)
    · intro hnil
      go_wp2
      go_ret
      refine ⟨?_, HX.out.2.2.1⟩
      have hno : anyW L = false := by
        unfold anyW
        rw [List.any_eq_false]
        intro p hp
        rw [HX.out.2.1 p hp (by rw [hnil]; simp)]
        simp
      rw [hno]; rfl
    · intro k x w2 hm hrg2 hlt hg2 hs2 hen
      have hms : (k, x) ∈ L := by
        obtain ⟨_, _, _, _, _, _, _, _, h6, _⟩ := hrg
        exact h6 _ hm
      have HF2 : Hid (Fr [] w w2) := HX.out.2.2.1.andThen (Fr.of_grown1 hg2) (fun j hj hl => by simp at hj; omega)
      have hsz2 : w.heap.size + 1 ≤ w2.heap.size := by have := HX.out.2.2.2; omega
      have hen' : (Instr.entry (.pointer (some ⟨w.heap.size, 0, none⟩))).run Tryz.prog w2 = .ok (.tuple #[.string k, .agg #[.int .u8 (x.way : Int), .string x.val]]) w2 := hen
      have GO : Hid (x.writes = false → ∀ W, Fr [] w2 W → (∃ rem, Hid (RangesAs KS EG W b w.heap.size n L rem ∧ (∀ p ∈ L, p ∉ rem → p.2.writes = false) ∧ Fr [] w W ∧ w.heap.size + 1 ≤ W.heap.size)) ∧ W.rangeLeft b w.heap.size < wr.rangeLeft b w.heap.size) := fun hc W hW => by
        obtain ⟨r1, r2⟩ := hrg2.fr hW (by simp) (by simp)
        refine ⟨⟨alDel rem k, r1, fun p hp hn => ?_, HF2.out.trans hW, Nat.le_trans hsz2 hW.size⟩, by rw [r2]; exact hlt⟩
        by_cases hpr : p ∈ rem
        · have hpo : p.1 = k := Decidable.byContradiction fun hne => hn (List.mem_filter.2 ⟨hpr, by simp [hne]⟩)
          have hone : Once1 L := by obtain ⟨_, _, _, h3, _⟩ := hrg.owns; exact h3
          have := hone.same hp hms hpo
          rw [this]; exact hc
        · exact HX.out.2.1 p hp hpr
      have YES : Hid (x.writes = true → anyW L = true) := fun hc => by
        unfold anyW
        rw [List.any_eq_true]
        exact ⟨_, hms, hc⟩
      clear hrg hrg2 hm hms hen hg2 hs2 hlt
      by_cases hx : x.way = 0
      · have hb : ((x.way : Int) != 0) = false := by simp [hx]
        have GO2 : Hid _ := GO.out (by simp [AGrip.writes, hx])
        clear GO YES hx
        go_wp2
        exact GO2.out _ (((Fr.refl [] w2).alloc _).alloc _)
      · have hb : ((x.way : Int) != 0) = true := by simp [hx]
        have YES2 : Hid _ := YES.out (by simp [AGrip.writes, hx])
        clear GO YES hx
        go_wp2
        go_ret
        exact ⟨by rw [YES2.out]; rfl, HF2.out.trans (((Fr.refl [] w2).alloc _).alloc _)⟩
end Go.Proofs.YtkhjhojmhllkaaaGreatDoor
/- MAPS, BY LISTS OF WHAT THEY HOLD: to delete while ranging. -/
namespace Go.Proofs.YtkhjhojmhllkaaaGreatDoor
open Go.RowKit Go.Maps
open Sc

section
variable {P : Program} {K V : Type} [DecidableEq K] {kt : TypeId} {KR : KeyRep P K kt} {ER : ElRep V} {w : World} {ops : Array Oper} {rest : List Oper} {o : Oper} {a : Act} {Q : Exit → Act → World → Prop}
/-- delete(m, k) in a round, at the operation -/
theorem wpList_map_ddel (hg : o.guard = none) (m x : Operand) (t e : TypeId) (hop : o.op = Op.call { callee := Callee.builtin Builtin.delete, args := #[m, x], argTypes := #[t, kt] }) (ht : P.underlying t = some (.map kt e)) (b r n : Nat) (l rem : List (K × V)) (hm : a.eval m = .map (some b)) (hM : RangesAs KR ER w b r n l rem)
    (k : K) (hk : KR.ok k) (hx : a.eval x = KR.kv k)
    (hK : ∀ w', RangesAs KR ER w' b r n (alDel l k) (alDel rem k) → w'.rangeLeft b r ≤ w.rangeLeft b r → w.grownBy w' (some b) → wpList P ops Q rest (a.put o.dst (.tuple #[])) w') : wpList P ops Q (o :: rest) a w := by
  obtain ⟨es, left, cnt, hrg, hp, h1, hok, h5, h6, h7⟩ := hM
  refine wpList_delete_ranges w hg m x t kt hop e KR.law ht ER.R b r n _ left cnt hm hrg _ (KR.kl k) hx (KR.key k hk) ?_
  intro w' cnt' hrg' hle htr
  have hle' : w'.rangeLeft b r ≤ w.rangeLeft b r := by rw [hrg'.left_eq, hrg.left_eq]; exact hle
  rw [DataW.del_eq] at hrg'
  refine hK w' ⟨_, _, cnt', hrg', filter_of hp hok hk, h1.del k, fun p hp => hok p (List.mem_filter.1 hp).1, h5.del k, fun p hp => ?_, fun j hj => ?_⟩ hle' htr.grown
  · have := List.mem_filter.1 hp
    exact List.mem_filter.2 ⟨h6 p this.1, this.2⟩
  · rw [h7 j hj, KR.same hj hk, alLook_del]
    by_cases e : j = k
    · simp [e]
    · simp [e]
end
end Go.Proofs.YtkhjhojmhllkaaaGreatDoor
