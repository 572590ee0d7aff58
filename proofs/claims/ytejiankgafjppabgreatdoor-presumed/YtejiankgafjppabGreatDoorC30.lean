import Derived.Test.YtejiankgafjppabGreatDoorC29
import Derived.Test.YtejiankgafjppabGreatDoorC21
import Derived.Test.YtejiankgafjppabGreatDoorC06
import Derived.Test.YtejiankgafjppabGreatDoorC25
/- A LOG OVER A DISK THAT IS WELL: what it has, what its calls leave. -/
namespace Go.Proofs.YtejiankgafjppabGreatDoor
open Go.RowKit
open Sc

/-- the log is as it must be: the records below fst + 1 are gone, the others lie in the segments cs -/
structure LogOk (l : ALog) (d : ADisk) (fst : Nat) (cs : List (List Rec)) : Prop where
  fail : l.failed = 0
  segs : l.segs = starts (fst + 1) cs
  recs : l.recs = cs.flatten
  next : l.next = fst + cs.flatten.length + 1
  nums : ∀ (k : Nat) (r : Rec), cs.flatten[k]? = some r → r.lsn = fst + 1 + k
  ne : ∀ c ∈ cs, c ≠ []
  size : ∀ c ∈ cs, bytesR c < 870
  none : cs = [] → l.filled = 600
  fill : ∀ ds c, cs = ds ++ [c] → l.filled = bytesR c
  files : ∀ s ∈ l.segs, d.now (segName s) ≠ Option.none
section
variable {l : ALog} {d : ADisk} {fst c : Nat} {cs : List (List Rec)}
theorem flat_split (k : Nat) (cs : List (List Rec)) : cs.flatten = (cs.take k).flatten ++ (cs.drop k).flatten := by
  rw [← List.flatten_append, List.take_append_drop]
theorem LogOk.inside (h : LogOk l d fst cs) {k : Nat} (hk : k < cs.length) : (cs.take k).flatten.length < cs.flatten.length := by
  have h1 := flat_split k cs
  have h2 : cs.drop k = cs[k] :: cs.drop (k + 1) := by simp
  have h3 : 0 < cs[k].length := List.length_pos_iff.2 (h.ne _ (by simp))
  have h4 := congrArg List.length h1
  rw [List.length_append, h2, List.flatten_cons, List.length_append] at h4
  omega
theorem LogOk.hinv (h : LogOk l d fst cs) (k s : Nat) (hk : l.segs[k]? = some s) : ∃ r rs, l.recs = r :: rs ∧ r.lsn ≤ s ∧ s - r.lsn < l.recs.length := by
  rw [h.segs] at hk
  have hkl : k < cs.length := by
    have := (List.getElem?_eq_some_iff.1 hk).1
    rw [starts_len] at this; exact this
  rw [starts_at cs (fst + 1) k hkl] at hk
  have hi := h.inside hkl
  have hs : s = fst + 1 + (cs.take k).flatten.length := by simpa using hk.symm
  rw [h.recs]
  cases hf : cs.flatten with
  | nil => rw [hf] at hi; simp at hi
  | cons r rs =>
    have := h.nums 0 r (by rw [hf]; rfl)
    refine ⟨r, rs, rfl, by omega, ?_⟩
    rw [hf] at hi
    omega
theorem LogOk.syncs (_h : LogOk l d fst cs) (hw : d.Well c) (hc : c < 1099511627776) : l.sync d = ({ l with durable := l.next }, d.sync.1, 0) := by
  unfold ALog.sync
  rw [if_pos (syncW hw hc).1]
theorem LogOk.synced (h : LogOk l d fst cs) (hw : d.Well c) (hc : c < 1099511627776) (u : Nat) : LogOk { l with durable := u } d.sync.1 fst cs where
  fail := h.fail
  segs := h.segs
  recs := h.recs
  next := h.next
  nums := h.nums
  ne := h.ne
  size := h.size
  none := h.none
  fill := h.fill
  files := fun s hs => by rw [(syncW hw hc).2.2]; exact h.files s hs
theorem LogOk.wrS (h : LogOk l d fst cs) (hw : d.Well c) (hc : c < 1099511627776) : l.wr d (l.sync d) = ({ l with durable := l.next }, d.sync.1, 0) := by
  unfold ALog.wr
  rw [if_pos h.fail, h.syncs hw hc]
  simp only [h.fail.symm]
theorem LogOk.force (h : LogOk l d fst cs) (hw : d.Well c) (hc : c < 1099511627776) :
    (l.force d).2.2 = 0 ∧ LogOk (l.force d).1 (l.force d).2.1 fst cs ∧ (l.force d).2.1.Well (c + 1) ∧ (l.force d).1.segs = l.segs ∧ (l.force d).1.filled = l.filled ∧ (l.force d).1.next = l.next := by
  unfold ALog.force
  by_cases hq : l.durable = l.next
  · rw [if_pos hq]
    exact ⟨rfl, h, hw.mono (by omega), rfl, rfl, rfl⟩
  · rw [if_neg hq, h.wrS hw hc]
    exact ⟨rfl, h.synced hw hc _, (syncW hw hc).2.1, rfl, rfl, rfl⟩
theorem LogOk.last (h : LogOk l d fst cs) (hf : l.filled < 600) : ∃ ds cl, cs = ds ++ [cl] := by
  rcases List.eq_nil_or_concat cs with e | ⟨ds, cl, e⟩
  · have := h.none e; omega
  · exact ⟨ds, cl, by simpa using e⟩
theorem LogOk.segsNe (h : LogOk l d fst cs) (hf : l.filled < 600) : l.segs ≠ [] := by
  obtain ⟨ds, cl, rfl⟩ := h.last hf
  rw [h.segs, starts_snoc]
  simp
theorem flat_snoc (cs : List (List Rec)) (a : List Rec) : (cs ++ [a]).flatten = cs.flatten ++ a := by simp
theorem nums_snoc {L : List Rec} {f : Nat} (h : ∀ (k : Nat) (r : Rec), L[k]? = some r → r.lsn = f + k) (x : Rec) (hx : x.lsn = f + L.length) : ∀ (k : Nat) (r : Rec), (L ++ [x])[k]? = some r → r.lsn = f + k := by
  intro k r hr
  rw [List.getElem?_append] at hr
  split at hr
  · exact h k r hr
  · rename_i hk
    have : k - L.length = 0 := by
      have := (List.getElem?_eq_some_iff.1 hr).1
      simp at this; omega
    rw [this] at hr
    simp at hr
    subst hr
    omega
theorem file_has {m : Files} {nm t : ByteArray} {s : Nat} (h : m (segName s) ≠ none) : doOp m ⟨2, nm, ByteArray.empty, t⟩ (segName s) ≠ none := by
  show (m.set nm (some _)) (segName s) ≠ none
  unfold Files.set
  split
  · simp
  · exact h
theorem file_new {m : Files} {t : ByteArray} {s : Nat} : doOp m ⟨2, segName s, ByteArray.empty, t⟩ (segName s) ≠ none := by
  show (m.set (segName s) (some _)) (segName s) ≠ none
  rw [Files.set_same]; simp
/-- what an Append leaves -/
structure AppOk (l : ALog) (d : ADisk) (fst : Nat) (cs : List (List Rec)) (c : Nat) (x : Rec) (r : ALog × ADisk × Nat × Nat) : Prop where
  ret : r.2.2.1 = l.next ∧ r.2.2.2 = 0
  log : ∃ cs', LogOk r.1 r.2.1 fst cs' ∧ cs'.flatten = cs.flatten ++ [x]
  well : r.2.1.Well (c + 2)
  two : ∀ s, r.1.segs[1]? = some s → l.segs[1]? = some s ∨ s = l.next
  sum : 600 * r.1.segs.length + r.1.filled ≤ 600 * l.segs.length + l.filled + (15 + x.pay.length)
theorem LogOk.append (h : LogOk l d fst cs) (hw : d.Well c) (hc : c + 2 < 1099511627776) (kind : Nat) (s : ByteArray) (hs : s.size ≤ 255) :
    AppOk l d fst cs c ⟨l.next, kind, bytesOf s⟩ (l.append d kind s) := by
  obtain ⟨by_, hby⟩ : ∃ b, b = recBytes l.next kind (bytesOf s) := ⟨_, rfl⟩
  have hlen := bytesOf_len s
  by_cases hf : l.filled < 600
  · obtain ⟨ds, cl, rfl⟩ := h.last hf
    have hseg : l.segs = starts (fst + 1) ds ++ [fst + 1 + ds.flatten.length] := by rw [h.segs, starts_snoc]
    have hlast : l.segs.getLastD 0 = fst + 1 + ds.flatten.length := by rw [hseg]; simp
    obtain ⟨a1, a2, a3⟩ := tellW (d := d) (o := ⟨2, segName (l.segs.getLastD 0), ByteArray.empty, str by_⟩) hw (by omega) (by simp) (by simp)
    have hroom : l.room d = (l, d, 0) := by unfold ALog.room; rw [if_pos hf]
    have hput : l.put d by_ = (l, (d.tell ⟨2, segName (l.segs.getLastD 0), ByteArray.empty, str by_⟩).1, 0) := by
      unfold ALog.put; rw [hroom]; simp only [if_true]; rw [a1]
    have hwr : l.wr d (l.put d by_) = (l, (d.tell ⟨2, segName (l.segs.getLastD 0), ByteArray.empty, str by_⟩).1, 0) := by
      unfold ALog.wr; rw [if_pos h.fail, hput]; simp only [h.fail.symm]
    have happ : l.append d kind s = ({ l with filled := l.filled + (15 + s.size), recs := l.recs ++ [⟨l.next, kind, bytesOf s⟩], next := l.next + 1 }, (d.tell ⟨2, segName (l.segs.getLastD 0), ByteArray.empty, str by_⟩).1, l.next, 0) := by
      unfold ALog.append; rw [if_neg (by omega), ← hby, hwr]; simp
    rw [happ]
    have hfill := h.fill ds cl rfl
    refine { ret := ⟨rfl, rfl⟩, log := ⟨ds ++ [cl ++ [⟨l.next, kind, bytesOf s⟩]], ?_, by rw [flat_snoc, flat_snoc, List.append_assoc]⟩, well := a2.mono (by omega), two := fun s hs => .inl hs, sum := by simp; omega }
    refine { fail := h.fail, segs := ?_, recs := ?_, next := ?_, nums := ?_, ne := ?_, size := ?_, none := by simp, fill := ?_, files := ?_ }
    · show l.segs = _; rw [h.segs, starts_set]
    · show l.recs ++ _ = _; rw [h.recs, flat_snoc, flat_snoc, List.append_assoc]
    · show l.next + 1 = _; rw [h.next, flat_snoc, flat_snoc]; simp; omega
    · rw [flat_snoc, ← List.append_assoc, ← flat_snoc]
      exact nums_snoc h.nums _ (by show l.next = _; rw [h.next]; omega)
    · intro b hb
      rcases List.mem_append.1 hb with hb | hb
      · exact h.ne b (by simp [hb])
      · simp at hb; subst hb; simp
    · intro b hb
      rcases List.mem_append.1 hb with hb | hb
      · exact h.size b (by simp [hb])
      · simp at hb; subst hb; rw [bytesR_app]; simp [bytesR]; omega
    · intro es b he
      obtain ⟨_, e2⟩ := List.append_inj' he rfl
      simp only [List.cons.injEq, and_true] at e2
      subst e2
      show l.filled + _ = _
      rw [bytesR_app, hfill]; simp [bytesR]; omega
    · intro x hx
      show (d.tell _).1.now _ ≠ _
      rw [a3]
      exact file_has (h.files x hx)
  · have hs1 := h.syncs hw (by omega)
    obtain ⟨s1, s2, s3⟩ := syncW hw (by omega)
    obtain ⟨a1, a2, a3⟩ := tellW (d := d.sync.1) (o := ⟨2, segName l.next, ByteArray.empty, str by_⟩) s2 (by omega) (by simp) (by simp)
    have hroom : l.room d = ({ l with durable := l.next, segs := l.segs ++ [l.next], filled := 0 }, d.sync.1, 0) := by
      unfold ALog.room; rw [if_neg hf, hs1]; simp
    have hput : l.put d by_ = ({ l with durable := l.next, segs := l.segs ++ [l.next], filled := 0 }, (d.sync.1.tell ⟨2, segName l.next, ByteArray.empty, str by_⟩).1, 0) := by
      unfold ALog.put; rw [hroom]; simp only [if_true]
      rw [show (l.segs ++ [l.next]).getLastD 0 = l.next by simp, a1]
    have hwr : l.wr d (l.put d by_) = ({ l with durable := l.next, segs := l.segs ++ [l.next], filled := 0 }, (d.sync.1.tell ⟨2, segName l.next, ByteArray.empty, str by_⟩).1, 0) := by
      unfold ALog.wr; rw [if_pos h.fail, hput]; simp only [h.fail.symm]
    have happ : l.append d kind s = ({ l with durable := l.next, segs := l.segs ++ [l.next], filled := 0 + (15 + s.size), recs := l.recs ++ [⟨l.next, kind, bytesOf s⟩], next := l.next + 1 }, (d.sync.1.tell ⟨2, segName l.next, ByteArray.empty, str by_⟩).1, l.next, 0) := by
      unfold ALog.append; rw [if_neg (by omega), ← hby, hwr]; simp
    rw [happ]
    refine { ret := ⟨rfl, rfl⟩, log := ⟨cs ++ [[⟨l.next, kind, bytesOf s⟩]], ?_, by rw [flat_snoc]⟩, well := a2, two := fun x hx => ?_, sum := by simp; omega }
    · refine { fail := h.fail, segs := ?_, recs := ?_, next := ?_, nums := ?_, ne := ?_, size := ?_, none := by simp, fill := ?_, files := ?_ }
      · show l.segs ++ [l.next] = _; rw [h.segs, starts_snoc, h.next]; congr 2; omega
      · show l.recs ++ _ = _; rw [h.recs, flat_snoc]
      · show l.next + 1 = _; rw [h.next, flat_snoc]; simp; omega
      · rw [flat_snoc]
        exact nums_snoc h.nums _ (by show l.next = _; rw [h.next]; omega)
      · intro b hb
        rcases List.mem_append.1 hb with hb | hb
        · exact h.ne b hb
        · simp at hb; subst hb; simp
      · intro b hb
        rcases List.mem_append.1 hb with hb | hb
        · exact h.size b hb
        · simp at hb; subst hb; simp [bytesR]; omega
      · intro es b he
        obtain ⟨_, e2⟩ := List.append_inj' he rfl
        simp only [List.cons.injEq, and_true] at e2
        subst e2
        show 0 + _ = _
        simp [bytesR]; omega
      · intro x hx
        show (d.sync.1.tell _).1.now _ ≠ _
        rw [a3]
        rcases List.mem_append.1 hx with hx | hx
        · exact file_has (by rw [s3]; exact h.files x hx)
        · simp at hx; subst hx; exact file_new
    · change (l.segs ++ [l.next])[1]? = some x at hx
      rw [List.getElem?_append] at hx
      split at hx
      · exact .inl hx
      · right
        have := List.mem_of_getElem? hx
        simpa using this
/-- what a Cut leaves -/
structure CutOk (l : ALog) (d : ADisk) (fst : Nat) (cs : List (List Rec)) (c low : Nat) (r : ALog × ADisk × Nat) : Prop where
  ret : r.2.2 = 0
  log : ∃ fst' cs', LogOk r.1 r.2.1 fst' cs' ∧ fst ≤ fst' ∧ cs'.flatten = cs.flatten.drop (fst' - fst) ∧ (fst' = fst ∨ fst' + 1 ≤ low) ∧ fst' + cs'.flatten.length = fst + cs.flatten.length
  well : r.2.1.Well (c + 6 + l.segs.length)
  two : ∀ x, r.1.segs[1]? = some x → low < x ∧ ∃ y, l.segs[1]? = some y ∧ y ≤ x
  sum : 600 * r.1.segs.length + r.1.filled ≤ 600 * l.segs.length + l.filled
theorem LogOk.cut (h : LogOk l d fst cs) (hw : d.Well c) (hc : c + 6 + l.segs.length < 1099511627776) (low : Nat) : CutOk l d fst cs c low (l.cut d low) := by
  obtain ⟨p1, p2⟩ := segsBelow_spec l.segs low
  obtain ⟨s1, s2, s3⟩ := syncW hw (by omega)
  by_cases hg : segsBelow l.segs low = 0
  · have e : l.cut d low = ({ l with durable := l.next }, d.sync.1, 0) := by unfold ALog.cut; rw [if_pos hg, h.wrS hw (by omega)]
    rw [e]
    rw [hg] at p2
    refine { ret := rfl, log := ⟨fst, cs, h.synced hw (by omega) _, Nat.le_refl _, by simp, .inl rfl, rfl⟩, well := s2.mono (by omega), two := fun x hx => ⟨p2 x hx, x, hx, Nat.le_refl _⟩, sum := by simp }
  · have hlt := segsBelow_lt hg
    obtain ⟨g, hgd⟩ : ∃ g, g = segsBelow l.segs low := ⟨_, rfl⟩
    rw [← hgd] at p1 p2 hlt hg
    have hgl : g < cs.length := by rw [h.segs, starts_len] at hlt; exact hlt
    have hat : l.segs[g]? = some (fst + 1 + (cs.take g).flatten.length) := by rw [h.segs]; exact starts_at cs (fst + 1) g hgl
    have hfirst : l.segs.getD g 0 = fst + 1 + (cs.take g).flatten.length := by rw [List.getD_eq_getElem?_getD, hat]; rfl
    have hlow : fst + 1 + (cs.take g).flatten.length ≤ low := by
      rcases p1 with e | ⟨x, hx, hl⟩
      · exact absurd e hg
      · rw [hat] at hx; cases hx; exact hl
    obtain ⟨hasc, _⟩ := starts_asc cs (fst + 1) h.ne
    rw [← h.segs] at hasc
    obtain ⟨m1, m2, m3⟩ := setMarkW (l.segs.getD g 0) s2 (by omega)
    have hnd : (l.segs.take g).Nodup := (hasc.imp (fun {a b} (hab : a < b) => Nat.ne_of_lt hab)).sublist (List.take_sublist _ _)
    have htl : (l.segs.take g).length = g := by rw [List.length_take]; omega
    obtain ⟨r1, r2, r3⟩ := removeAllW (l.segs.take g) m2 (by omega) hnd (fun s hs => by rw [m3, s3]; exact h.files s (List.mem_of_mem_take hs))
    have hcutS : l.cutS d g (l.segs.getD g 0) = ({ l with durable := l.next }, ((d.sync.1.setMark (l.segs.getD g 0)).1.removeAll ((l.segs.take g).map segName)).1, 0) := by
      unfold ALog.cutS
      rw [h.syncs hw (by omega)]
      simp only [if_true]
      rw [if_pos m1]
      exact Prod.ext rfl (Prod.ext rfl r1)
    have hwr : l.wr d (l.cutS d g (l.segs.getD g 0)) = ({ l with durable := l.next }, ((d.sync.1.setMark (l.segs.getD g 0)).1.removeAll ((l.segs.take g).map segName)).1, 0) := by
      unfold ALog.wr; rw [if_pos h.fail, hcutS]; simp only [h.fail.symm]
    have hhead : (l.recs.headD ⟨0, 0, []⟩).lsn = fst + 1 := by
      have hi := h.inside hgl
      rw [h.recs]
      cases hf : cs.flatten with
      | nil => rw [hf] at hi; simp at hi
      | cons r rs => have := h.nums 0 r (by rw [hf]; rfl); simpa using this
    have e : l.cut d low = ({ l with durable := l.next, recs := l.recs.drop (cs.take g).flatten.length, segs := l.segs.drop g }, ((d.sync.1.setMark (l.segs.getD g 0)).1.removeAll ((l.segs.take g).map segName)).1, 0) := by
      unfold ALog.cut
      rw [← hgd, if_neg hg]
      simp only
      rw [hwr]
      simp only [if_true]
      rw [hhead, hfirst, show fst + 1 + (cs.take g).flatten.length - (fst + 1) = (cs.take g).flatten.length by omega]
    rw [e]
    have hsp := flat_split g cs
    have hdr : cs.flatten.drop (cs.take g).flatten.length = (cs.drop g).flatten := by
      rw [hsp, List.drop_left' (by simp)]
    have hsl := congrArg List.length hsp
    rw [List.length_append] at hsl
    refine { ret := rfl, log := ⟨fst + (cs.take g).flatten.length, cs.drop g, ?_, by omega, ?_, .inr (by omega), by omega⟩, well := r2.mono (by omega), two := fun x hx => ?_, sum := ?_ }
    · refine { fail := h.fail, segs := ?_, recs := ?_, next := ?_, nums := ?_, ne := fun b hb => h.ne b (List.mem_of_mem_drop hb), size := fun b hb => h.size b (List.mem_of_mem_drop hb), none := ?_, fill := ?_, files := ?_ }
      · show l.segs.drop g = _
        rw [h.segs, starts_drop]; congr 1; omega
      · show l.recs.drop _ = _
        rw [h.recs, hdr]
      · show l.next = _
        rw [h.next]; omega
      · intro k r hr
        have := h.nums ((cs.take g).flatten.length + k) r (by rw [hsp, List.getElem?_append_right (by omega)]; rw [← hr]; congr 1; omega)
        omega
      · intro he
        have := congrArg List.length he
        rw [List.length_drop] at this; simp at this; omega
      · intro ds b he
        refine h.fill (cs.take g ++ ds) b ?_
        rw [List.append_assoc, ← he, List.take_append_drop]
      · intro s hs
        have hmem : s ∉ l.segs.take g := fun hm => by
          have := hasc
          rw [← List.take_append_drop g l.segs, List.pairwise_append] at this
          exact Nat.lt_irrefl _ (this.2.2 s hm s hs)
        show (ADisk.removeAll _ _).1.now _ ≠ _
        rw [r3 s hmem, m3, s3]
        exact h.files s (List.mem_of_mem_drop hs)
    · rw [show fst + (cs.take g).flatten.length - fst = (cs.take g).flatten.length by omega, hdr]
    · change (l.segs.drop g)[1]? = some x at hx
      rw [List.getElem?_drop] at hx
      refine ⟨p2 x hx, ?_⟩
      have hgx := (List.getElem?_eq_some_iff.1 hx).1
      refine ⟨l.segs[1], by rw [List.getElem?_eq_getElem], ?_⟩
      rw [List.pairwise_iff_getElem] at hasc
      have h2 := hasc 1 (g + 1) (by omega) hgx (by omega)
      have h3 := (List.getElem?_eq_some_iff.1 hx).2
      omega
    · show 600 * (l.segs.drop g).length + l.filled ≤ _
      rw [List.length_drop]; omega
end
end Go.Proofs.YtejiankgafjppabGreatDoor
/- THE BOOK, the mathematics: a log as it must stand, over a disk that is well. -/
namespace Go.Proofs.YtejiankgafjppabGreatDoor
open Go.RowKit
open Sc

structure ABook where
  all : List Rec
  forced : Nat
  low : Nat
  must : Nat
  tries : Nat
/-- the log is as the book says: fst records are gone, cs are the segments; t bytes were appended -/
structure BookOk (b : ABook) (l : ALog) (d : ADisk) (fst : Nat) (cs : List (List Rec)) (t : Nat) : Prop where
  log : LogOk l d fst cs
  up : d.down = false
  le : fst ≤ b.all.length
  all : b.all.drop fst = cs.flatten
  low : fst + 1 ≤ b.low ∨ fst = 0
  must : b.must ≤ b.all.length + 1
  two : ∀ s, l.segs[1]? = some s → b.must ≤ s
  sum : 600 * l.segs.length + l.filled ≤ t + 600
theorem LogOk.knob {l : ALog} {d : ADisk} {fst : Nat} {cs : List (List Rec)} (h : LogOk l d fst cs) (x y : Int) : LogOk l (d.knob x y) fst cs :=
  ⟨h.fail, h.segs, h.recs, h.next, h.nums, h.ne, h.size, h.none, h.fill, h.files⟩
theorem knob_well {d : ADisk} (h : d.down = false) : (d.knob (-1) (-1)).Well 0 := ⟨h, by simp [ADisk.knob], by simp [ADisk.knob]⟩
theorem bytesR_take (l : List Rec) (k : Nat) : bytesR (l.take k) ≤ bytesR l := by
  have := bytesR_app (l.take k) (l.drop k)
  rw [List.take_append_drop] at this
  omega
section
variable {b : ABook} {l : ALog} {d : ADisk} {fst t : Nat} {cs : List (List Rec)}
theorem BookOk.knob (h : BookOk b l d fst cs t) (x y : Int) : BookOk b l (d.knob x y) fst cs t :=
  ⟨h.log.knob x y, h.up, h.le, h.all, h.low, h.must, h.two, h.sum⟩
theorem BookOk.flat (h : BookOk b l d fst cs t) : cs.flatten.length = b.all.length - fst := by rw [← h.all, List.length_drop]
theorem BookOk.next (h : BookOk b l d fst cs t) : l.next = b.all.length + 1 := by
  have h1 := h.log.next
  have h2 := h.flat
  have h3 := h.le
  omega
/-- what is below the mark and still there is of one segment -/
theorem BookOk.small (h : BookOk b l d fst cs t) (k : Nat) (hm : k = 0 ∨ fst + k < b.must) : bytesR (cs.flatten.take k) < 870 := by
  rcases hm with e | hm
  · subst e; simp [bytesR]
  cases hcs : cs with
  | nil => simp [bytesR]
  | cons c0 rest =>
    have hs0 := h.log.size c0 (by rw [hcs]; simp)
    cases hr : rest with
    | nil => simp; have := bytesR_take c0 k; omega
    | cons c1 more =>
      have h1 : l.segs[1]? = some (fst + 1 + c0.length) := by
        rw [h.log.segs, starts_at cs (fst + 1) 1 (by rw [hcs, hr]; simp), hcs]; simp
      have h2 := h.two _ h1
      have h3 : k ≤ c0.length := by omega
      rw [List.flatten_cons, List.take_append_of_le_length h3]
      have := bytesR_take c0 k
      omega
theorem BookOk.append (h : BookOk b l d fst cs t) {c : Nat} (hw : d.Well c) (hc : c + 2 < 1099511627776) (kind : Nat) (s : ByteArray) (hs : s.size ≤ 255) :
    (l.append d kind s).2.2.1 = b.all.length + 1 ∧ (l.append d kind s).2.2.2 = 0 ∧ ∃ cs', BookOk { b with all := b.all ++ [⟨b.all.length + 1, kind, bytesOf s⟩] } (l.append d kind s).1 (l.append d kind s).2.1 fst cs' (t + 15 + s.size) := by
  obtain ⟨⟨r1, r2⟩, ⟨cs', g1, g2⟩, g3, g4, g5⟩ := h.log.append hw hc kind s hs
  have hn := h.next
  have hle := h.le
  rw [hn] at r1 g2
  refine ⟨r1, r2, cs', ?_⟩
  refine { log := g1, up := g3.up, le := by simp; omega, all := ?_, low := h.low, must := by have := h.must; simp; omega, two := ?_, sum := ?_ }
  · show (b.all ++ _).drop fst = _
    rw [g2, List.drop_append_of_le_length hle, h.all]
  · intro x hx
    rcases g4 x hx with hx | hx
    · exact h.two x hx
    · have := h.must; show b.must ≤ x; omega
  · have := h.sum; have := bytesOf_len s; simp only at g5; omega
theorem BookOk.force (h : BookOk b l d fst cs t) {c : Nat} (hw : d.Well c) (hc : c < 1099511627776) :
    (l.force d).2.2 = 0 ∧ BookOk { b with forced := b.all.length } (l.force d).1 (l.force d).2.1 fst cs t := by
  obtain ⟨g1, g2, g3, g4, g5, g6⟩ := h.log.force hw hc
  exact ⟨g1, { log := g2, up := g3.up, le := h.le, all := h.all, low := h.low, must := h.must, two := fun s hs => h.two s (by rw [← g4]; exact hs), sum := by rw [g4, g5]; exact h.sum }⟩
/-- the book behind a Cut -/
def ABook.cut (b : ABook) (top : Nat) : ABook := ⟨b.all, b.all.length, if b.low < top then top else b.low, if b.must < top then top else b.must, if b.tries < top then top else b.tries⟩
theorem BookOk.cut (h : BookOk b l d fst cs t) {c : Nat} (hw : d.Well c) (hc : c + 6 + l.segs.length < 1099511627776) (low top : Nat) (ht : top ≤ low) (ht2 : top ≤ b.all.length + 1) (ht3 : b.all.length + 1 ≤ low → top = b.all.length + 1) (ht4 : low ≤ b.all.length + 1 → top = low) :
    (l.cut d low).2.2 = 0 ∧ ∃ fst' cs', BookOk (b.cut top) (l.cut d low).1 (l.cut d low).2.1 fst' cs' t := by
  obtain ⟨r1, ⟨fst', cs', g1, g2, g3, g4, g5⟩, g6, g7, g8⟩ := h.log.cut hw hc low
  have hle := h.le
  have hfl := h.flat
  refine ⟨r1, fst', cs', ?_⟩
  refine { log := g1, up := g6.up, le := by show fst' ≤ b.all.length; omega, all := ?_, low := ?_, must := ?_, two := ?_, sum := by have := h.sum; omega }
  · show b.all.drop fst' = _
    rw [g3, ← h.all, List.drop_drop]; congr 1; omega
  · show fst' + 1 ≤ (if b.low < top then top else b.low) ∨ fst' = 0
    have h1 := h.low
    by_cases hl : b.low < top
    · rw [if_pos hl]; rcases g4 with e | e <;> omega
    · rw [if_neg hl]; rcases g4 with e | e <;> omega
  · show (if b.must < top then top else b.must) ≤ b.all.length + 1
    have := h.must
    split <;> omega
  · intro x hx
    show (if b.must < top then top else b.must) ≤ x
    obtain ⟨a1, y, a2, a3⟩ := g7 x hx
    have := h.two y a2
    split <;> omega
theorem BookOk.segsLen (h : BookOk b l d fst cs t) : 600 * l.segs.length ≤ t + 600 := by have := h.sum; omega
end
end Go.Proofs.YtejiankgafjppabGreatDoor
/- sameRecords, the second list a piece of a longer one. -/
namespace Go.Proofs.YtejiankgafjppabGreatDoor
open Go.RowKit
open Sc

/-- the records rs, as a slice value holds them, from the cell o on -/
def RecsAtO (w : World) (v : Value) (o : Nat) (rs : List Rec) : Prop :=
  ∃ ao cap, v = .slice ao rs.length cap ∧ ∀ i (h : i < rs.length), ∃ g, ao = some ⟨g, o, none⟩ ∧ w.cell? ⟨g, o + i * 3, none⟩ = some (.int .u64 (rs[i].lsn : Int)) ∧ w.cell? ⟨g, o + i * 3 + 1, none⟩ = some (.int .u8 (rs[i].kind : Int)) ∧ w.cell? ⟨g, o + i * 3 + 2, none⟩ = some (.string (str rs[i].pay))
/-- a row of records, cut at its beginning -/
theorem recsAtO_own {w : World} {base n : Nat} {g cap : Nat} {all : List Rec} (h : w.ownsRow base 288 3 (.slice (some ⟨g, 0, none⟩) n cap) n (recsV all)) (f c : Nat) (hf : f ≤ all.length) : RecsAtO w (.slice (some ⟨g, f * 3, none⟩) (all.length - f) c) (f * 3) (all.drop f) := by
  have hall := recsAt_own h
  obtain ⟨ao, cap2, e, H⟩ := hall
  refine ⟨_, c, by rw [List.length_drop], fun i hi => ⟨g, rfl, ?_⟩⟩
  rw [List.length_drop] at hi
  obtain ⟨g', e2, a1, a2, a3⟩ := H (f + i) (by omega)
  cases e
  cases e2
  rw [List.getElem_drop]
  have h1 : (f + i) * 3 = f * 3 + i * 3 := by omega
  rw [h1] at a1 a2 a3
  exact ⟨a1, a2, a3⟩
theorem recsSl_own {w : World} {base n : Nat} {v : Value} {rs : List Rec} (h : w.ownsRow base 288 3 v n (recsV rs)) : RecsSl w.heap.size w v rs := by
  have hl : rs.length = n := by have := h.1; rw [recsV_len] at this; omega
  have hlt := h.lt
  obtain ⟨ao, cap, e, H⟩ := recsAt_own h
  rcases h.2 with ⟨e1, h0⟩ | ⟨g, cap', cur, e1, hb, hg, rest⟩
  · left
    exact ⟨e1, List.eq_nil_of_length_eq_zero (by omega)⟩
  · right
    refine ⟨g, cap', by rw [e1, hl], (hlt g (by rw [e1]; rfl)).2, fun k r hk => ?_⟩
    obtain ⟨hk1, hk2⟩ := List.getElem?_eq_some_iff.1 hk
    obtain ⟨g2, e2, a1, a2, a3⟩ := H k hk1
    rw [e1] at e
    cases e
    cases e2
    rw [hk2] at a1 a2 a3
    exact ⟨a1, a2, a3⟩
end Go.Proofs.YtejiankgafjppabGreatDoor
