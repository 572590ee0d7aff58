import Derived.Test.YtnnhihkeffljbaaGreatDoorC20
import Derived.Test.YtnnhihkeffljbaaGreatDoorC18
import Derived.Test.YtnnhihkeffljbaaGreatDoorC06
/- A DISK THAT IS WELL, and a log over it: the mathematics. -/
namespace Go.Proofs.YtnnhihkeffljbaaGreatDoor
open Go.RowKit
open Sc

theorem dec_ne (u : Nat) : Lib.decDigits u ≠ [] := by
  rw [Lib.decDigits]; split <;> simp
theorem dig_inj {a b : Nat} (ha : a < 10) (hb : b < 10) (h : UInt8.ofNat (48 + a) = UInt8.ofNat (48 + b)) : a = b := by
  have h2 := congrArg UInt8.toNat h
  simp at h2
  omega
theorem dec_inj : ∀ (n a b : Nat), a < n → Lib.decDigits a = Lib.decDigits b → a = b := by
  intro n
  induction n with
  | zero => intro a b h; omega
  | succ n ih =>
    intro a b hn h
    rw [Lib.decDigits, Lib.decDigits.eq_def b] at h
    split at h
    · split at h
      · rename_i ha hb
        simp only [List.cons.injEq, and_true] at h
        exact dig_inj ha hb h
      · have := congrArg List.length h
        have h3 : 0 < (Lib.decDigits (b / 10)).length := List.length_pos_iff.2 (dec_ne _)
        rw [List.length_append] at this; simp only [List.length_cons, List.length_nil] at this; omega
    · split at h
      · have := congrArg List.length h
        have h3 : 0 < (Lib.decDigits (a / 10)).length := List.length_pos_iff.2 (dec_ne _)
        rw [List.length_append] at this; simp only [List.length_cons, List.length_nil] at this; omega
      · rename_i ha hb
        obtain ⟨h1, h2⟩ := List.append_inj' h rfl
        simp only [List.cons.injEq, and_true] at h2
        have h3 := dig_inj (by omega) (by omega) h2
        have h4 := ih (a / 10) (b / 10) (by omega) h1
        omega
theorem segName_data (u : Nat) : (segName u).data.toList = [115, 101, 103, 109, 101, 110, 116, 45] ++ Lib.decDigits u := by
  unfold segName
  rw [ByteArray.data_append]
  simp
theorem segName_inj {a b : Nat} (h : segName a = segName b) : a = b := by
  have h2 := congrArg (fun x : ByteArray => x.data.toList) h
  simp only [segName_data] at h2
  exact dec_inj (a + 1) a b (by omega) (List.append_cancel_left h2)
theorem segName_mark (u : Nat) : segName u ≠ markNm ∧ segName u ≠ markNew := by
  constructor
  · intro h
    have h2 := congrArg (fun x : ByteArray => x.data.toList) h
    simp only [segName_data] at h2
    simp [markNm] at h2
  · intro h
    have h2 := congrArg (fun x : ByteArray => x.data.toList) h
    simp only [segName_data] at h2
    simp [markNew] at h2

/-- a disk that is well, so many calls behind its beginning -/
structure ADisk.Well (d : ADisk) (c : Nat) : Prop where
  up : d.down = false
  left : -1 - (c : Int) ≤ d.left ∧ d.left < 0
  full : -1 - (c : Int) ≤ d.full ∧ d.full < 0
theorem ADisk.Well.mono {d : ADisk} {c c' : Nat} (h : d.Well c) (hc : c ≤ c') : d.Well c' :=
  ⟨h.up, ⟨by have := h.left.1; omega, h.left.2⟩, ⟨by have := h.full.1; omega, h.full.2⟩⟩
theorem writesW {d : ADisk} {c : Nat} (h : d.Well c) (hc : c < 1099511627776) : d.writes.2 = 0 ∧ d.writes.1.Well (c + 1) ∧ d.writes.1.now = d.now ∧ d.writes.1.pending = d.pending := by
  have h1 := h.left
  have h2 := h.full
  have e := wr_ok (d := d) (by rw [h.up]; simp; omega) (by omega)
  have e1 : wrap64 (d.left - 1) = d.left - 1 := by unfold wrap64; omega
  have e2 : wrap64 (d.full - 1) = d.full - 1 := by unfold wrap64; omega
  rw [e1, e2] at e
  rw [e]
  exact ⟨rfl, ⟨h.up, by simp; omega, by simp; omega⟩, rfl, rfl⟩
theorem syncW {d : ADisk} {c : Nat} (h : d.Well c) (hc : c < 1099511627776) : d.sync.2 = 0 ∧ d.sync.1.Well (c + 1) ∧ d.sync.1.now = d.now := by
  obtain ⟨a1, a2, a3, a4⟩ := writesW h hc
  rw [sync_ok a1]
  exact ⟨rfl, ⟨a2.up, a2.left, a2.full⟩, a3⟩
theorem tellW {d : ADisk} {c : Nat} {o : AOp} (h : d.Well c) (hc : c < 1099511627776) (h1 : 2 < o.kind → d.now o.name ≠ none) (h2 : ¬ (o.kind = 4 ∧ o.name = o.to)) :
    (d.tell o).2 = 0 ∧ (d.tell o).1.Well (c + 1) ∧ (d.tell o).1.now = doOp d.now o := by
  obtain ⟨a1, a2, a3, a4⟩ := writesW h hc
  have e : d.tell o = ({ d.writes.1 with now := doOp d.writes.1.now o, pending := d.writes.1.pending ++ [o] }, 0) := by
    unfold ADisk.tell
    simp only
    rw [a1, if_neg (by omega), if_neg (by omega), if_neg (by rw [a3]; rintro ⟨x, y⟩; exact h1 y x), if_neg h2]
  rw [e]
  refine ⟨rfl, ⟨a2.up, a2.left, a2.full⟩, ?_⟩
  simp only
  rw [a3]
theorem removeAllW : ∀ (l : List Nat) {d : ADisk} {c : Nat}, d.Well c → c + l.length < 1099511627776 → l.Nodup → (∀ s ∈ l, d.now (segName s) ≠ none) →
    (d.removeAll (l.map segName)).2 = 0 ∧ (d.removeAll (l.map segName)).1.Well (c + l.length + 1) ∧ ∀ s, s ∉ l → (d.removeAll (l.map segName)).1.now (segName s) = d.now (segName s) := by
  intro l
  induction l with
  | nil =>
    intro d c h hc _ _
    obtain ⟨a1, a2, a3⟩ := syncW h (by simpa using hc)
    exact ⟨a1, a2, fun s _ => by show d.sync.1.now _ = _; rw [a3]⟩
  | cons x l ih =>
    intro d c h hc hnd hf
    simp only [List.length_cons] at hc
    obtain ⟨a1, a2, a3⟩ := tellW (o := ⟨3, segName x, ByteArray.empty, ByteArray.empty⟩) h (by omega) (fun _ => hf x (by simp)) (by simp)
    have e : d.removeAll ((x :: l).map segName) = (d.tell ⟨3, segName x, ByteArray.empty, ByteArray.empty⟩).1.removeAll (l.map segName) := by
      rw [List.map_cons, ADisk.removeAll, if_pos a1]
    have hn := List.nodup_cons.1 hnd
    have hnow : ∀ s, s ≠ x → (d.tell ⟨3, segName x, ByteArray.empty, ByteArray.empty⟩).1.now (segName s) = d.now (segName s) := fun s hs => by
      rw [a3]
      show (d.now.set (segName x) none) (segName s) = _
      exact Files.set_other _ _ (fun e => hs (segName_inj e))
    obtain ⟨b1, b2, b3⟩ := ih a2 (by omega) hn.2 (fun s hs => by rw [hnow s (fun e => hn.1 (e ▸ hs))]; exact hf s (by simp [hs]))
    rw [e]
    refine ⟨b1, ?_, fun s hs => ?_⟩
    · have : c + 1 + l.length + 1 = c + (x :: l).length + 1 := by simp; omega
      rw [this] at b2; exact b2
    · simp at hs
      rw [b3 s hs.2, hnow s hs.1]
theorem setMarkW {d : ADisk} {c : Nat} (first : Nat) (h : d.Well c) (hc : c + 4 < 1099511627776) :
    (d.setMark first).2 = 0 ∧ (d.setMark first).1.Well (c + 4) ∧ ∀ s, (d.setMark first).1.now (segName s) = d.now (segName s) := by
  obtain ⟨a1, a2, a3⟩ := tellW (o := ⟨1, markNew, ByteArray.empty, str (recBytes first 0 [])⟩) h (by omega) (by simp) (by simp)
  obtain ⟨b1, b2, b3⟩ := syncW a2 (by omega)
  have hm : (d.tell ⟨1, markNew, ByteArray.empty, str (recBytes first 0 [])⟩).1.sync.1.now markNew ≠ none := by
    rw [b3, a3]
    show (d.now.set markNew (some _)) markNew ≠ none
    rw [Files.set_same]; exact Option.some_ne_none _
  obtain ⟨c1, c2, c3⟩ := tellW (o := ⟨4, markNew, markNm, ByteArray.empty⟩) b2 (by omega) (fun _ => hm) (fun h => mark_ne.2 h.2)
  obtain ⟨d1, d2, d3⟩ := syncW c2 (by omega)
  have e : d.setMark first = ((d.tell ⟨1, markNew, ByteArray.empty, str (recBytes first 0 [])⟩).1.sync.1.tell ⟨4, markNew, markNm, ByteArray.empty⟩).1.sync := by
    unfold ADisk.setMark
    simp only
    rw [if_pos a1, if_pos b1, if_pos c1]
  rw [e]
  refine ⟨d1, d2, fun s => ?_⟩
  have h1 := segName_mark s
  rw [d3, c3]
  show doOp _ ⟨4, markNew, markNm, ByteArray.empty⟩ (segName s) = _
  obtain ⟨t, ht⟩ : ∃ t, (d.tell ⟨1, markNew, ByteArray.empty, str (recBytes first 0 [])⟩).1.sync.1.now markNew = some t := Option.ne_none_iff_exists'.1 hm
  unfold doOp
  simp only [show ¬ (4 = 1) by omega, show ¬ (4 = 2) by omega, show ¬ (4 = 3) by omega, if_false, if_true, ht]
  rw [Files.set_other _ _ h1.2, Files.set_other _ _ h1.1, b3, a3]
  show (d.now.set markNew _) (segName s) = _
  exact Files.set_other _ _ h1.2

/-! ### the segments -/
def starts : Nat → List (List Rec) → List Nat
  | _, [] => []
  | n, c :: cs => n :: starts (n + c.length) cs
theorem starts_len : ∀ (cs : List (List Rec)) (n : Nat), (starts n cs).length = cs.length
  | [], _ => rfl
  | c :: cs, n => by simp [starts, starts_len cs]
theorem starts_at : ∀ (cs : List (List Rec)) (n k : Nat), k < cs.length → (starts n cs)[k]? = some (n + (cs.take k).flatten.length)
  | [], _, _, h => absurd h (by simp)
  | c :: cs, n, 0, _ => by simp [starts]
  | c :: cs, n, k + 1, h => by
    have := starts_at cs (n + c.length) k (by simpa using h)
    simp only [starts, List.getElem?_cons_succ, this]
    simp; omega
theorem starts_snoc : ∀ (cs : List (List Rec)) (n : Nat) (c : List Rec), starts n (cs ++ [c]) = starts n cs ++ [n + cs.flatten.length]
  | [], _, _ => by simp [starts]
  | b :: cs, n, c => by
    simp only [List.cons_append, starts, starts_snoc cs]
    simp; omega
theorem starts_drop : ∀ (cs : List (List Rec)) (n k : Nat), (starts n cs).drop k = starts (n + (cs.take k).flatten.length) (cs.drop k)
  | [], _, k => by simp [starts]
  | c :: cs, n, 0 => by simp
  | c :: cs, n, k + 1 => by
    simp only [starts, List.drop_succ_cons, starts_drop cs]
    simp [Nat.add_assoc]
theorem starts_set : ∀ (cs : List (List Rec)) (n : Nat) (a b : List Rec), starts n (cs ++ [a]) = starts n (cs ++ [b]) := by
  intro cs n a b; rw [starts_snoc, starts_snoc]
theorem starts_asc : ∀ (cs : List (List Rec)) (n : Nat), (∀ c ∈ cs, c ≠ []) → (starts n cs).Pairwise (· < ·) ∧ ∀ s ∈ starts n cs, n ≤ s
  | [], _, _ => by simp [starts]
  | c :: cs, n, h => by
    obtain ⟨h1, h2⟩ := starts_asc cs (n + c.length) (fun d hd => h d (by simp [hd]))
    have hc : 0 < c.length := List.length_pos_iff.2 (h c (by simp))
    refine ⟨?_, ?_⟩
    · simp only [starts, List.pairwise_cons]
      exact ⟨fun s hs => by have := h2 s hs; omega, h1⟩
    · intro s hs
      simp only [starts, List.mem_cons] at hs
      rcases hs with e | hs
      · omega
      · have := h2 s hs; omega
theorem belowFrom_spec {segs : List Nat} {low : Nat} : ∀ (f k : Nat), (belowFrom segs low f k = k ∨ ∃ x, segs[belowFrom segs low f k]? = some x ∧ x ≤ low) ∧ (segs.length ≤ k + f → ∀ x, segs[belowFrom segs low f k + 1]? = some x → low < x) := by
  intro f
  induction f with
  | zero =>
    intro k
    refine ⟨.inl rfl, fun h x hx => ?_⟩
    rw [List.getElem?_eq_none (by simpa [belowFrom] using by omega)] at hx
    cases hx
  | succ f ih =>
    intro k
    by_cases hk : k + 1 < segs.length
    · obtain ⟨s, hs⟩ : ∃ s, segs[k + 1]? = some s := ⟨_, List.getElem?_eq_getElem hk⟩
      by_cases hl : s ≤ low
      · rw [below_step hs hl]
        obtain ⟨h1, h2⟩ := ih (k + 1)
        refine ⟨.inr ?_, fun h => h2 (by omega)⟩
        rcases h1 with e | h1
        · rw [e]; exact ⟨s, hs, hl⟩
        · exact h1
      · rw [below_stop hs hl]
        refine ⟨.inl rfl, fun _ x hx => ?_⟩
        rw [hs] at hx; cases hx; omega
    · rw [below_none (by omega)]
      refine ⟨.inl rfl, fun _ x hx => ?_⟩
      rw [List.getElem?_eq_none (by omega)] at hx; cases hx
theorem segsBelow_spec (segs : List Nat) (low : Nat) : (segsBelow segs low = 0 ∨ ∃ x, segs[segsBelow segs low]? = some x ∧ x ≤ low) ∧ ∀ x, segs[segsBelow segs low + 1]? = some x → low < x := by
  obtain ⟨h1, h2⟩ := belowFrom_spec (segs := segs) (low := low) segs.length 0
  exact ⟨h1, h2 (by omega)⟩
/-- the bytes of records -/
def bytesR : List Rec → Nat
  | [] => 0
  | r :: l => 15 + r.pay.length + bytesR l
theorem bytesR_app (a b : List Rec) : bytesR (a ++ b) = bytesR a + bytesR b := by
  induction a with
  | nil => simp [bytesR]
  | cons r a ih => simp [bytesR, ih]; omega
end Go.Proofs.YtnnhihkeffljbaaGreatDoor
/- A LOG OVER A DISK THAT IS WELL: what it has, what its calls leave. -/
namespace Go.Proofs.YtnnhihkeffljbaaGreatDoor
open Go.RowKit
open Sc

/-- the log is as it must be: the records below fst + 1 are gone, the others lie in the segments cs -/
structure LogOk (l : ALog) (d : ADisk) (fst : Nat) (cs : List (List Rec)) : Prop where
  fail : l.failed = 0
  segs : l.segs = starts (fst + 1) cs
  recs : l.recs = cs.flatten
  next : l.next = fst + cs.flatten.length + 1
  nums : ∀ (k : Nat) (r : Rec), cs.flatten[k]? = some r → r.lsn = fst + 1 + k
  ne : ∀ c ∈ cs, c ≠ []
  size : ∀ c ∈ cs, bytesR c < 870
  none : cs = [] → l.filled = 600
  fill : ∀ ds c, cs = ds ++ [c] → l.filled = bytesR c
  files : ∀ s ∈ l.segs, d.now (segName s) ≠ Option.none
section
variable {l : ALog} {d : ADisk} {fst c : Nat} {cs : List (List Rec)}
theorem flat_split (k : Nat) (cs : List (List Rec)) : cs.flatten = (cs.take k).flatten ++ (cs.drop k).flatten := by
  rw [← List.flatten_append, List.take_append_drop]
theorem LogOk.inside (h : LogOk l d fst cs) {k : Nat} (hk : k < cs.length) : (cs.take k).flatten.length < cs.flatten.length := by
  have h1 := flat_split k cs
  have h2 : cs.drop k = cs[k] :: cs.drop (k + 1) := by simp
  have h3 : 0 < cs[k].length := List.length_pos_iff.2 (h.ne _ (by simp))
  have h4 := congrArg List.length h1
  rw [List.length_append, h2, List.flatten_cons, List.length_append] at h4
  omega
theorem LogOk.hinv (h : LogOk l d fst cs) (k s : Nat) (hk : l.segs[k]? = some s) : ∃ r rs, l.recs = r :: rs ∧ r.lsn ≤ s ∧ s - r.lsn < l.recs.length := by
  rw [h.segs] at hk
  have hkl : k < cs.length := by
    have := (List.getElem?_eq_some_iff.1 hk).1
    rw [starts_len] at this; exact this
  rw [starts_at cs (fst + 1) k hkl] at hk
  have hi := h.inside hkl
  have hs : s = fst + 1 + (cs.take k).flatten.length := by simpa using hk.symm
  rw [h.recs]
  cases hf : cs.flatten with
  | nil => rw [hf] at hi; simp at hi
  | cons r rs =>
    have := h.nums 0 r (by rw [hf]; rfl)
    refine ⟨r, rs, rfl, by omega, ?_⟩
    rw [hf] at hi
    omega
theorem LogOk.syncs (_h : LogOk l d fst cs) (hw : d.Well c) (hc : c < 1099511627776) : l.sync d = ({ l with durable := l.next }, d.sync.1, 0) := by
  unfold ALog.sync
  rw [if_pos (syncW hw hc).1]
theorem LogOk.synced (h : LogOk l d fst cs) (hw : d.Well c) (hc : c < 1099511627776) (u : Nat) : LogOk { l with durable := u } d.sync.1 fst cs where
  fail := h.fail
  segs := h.segs
  recs := h.recs
  next := h.next
  nums := h.nums
  ne := h.ne
  size := h.size
  none := h.none
  fill := h.fill
  files := fun s hs => by rw [(syncW hw hc).2.2]; exact h.files s hs
theorem LogOk.wrS (h : LogOk l d fst cs) (hw : d.Well c) (hc : c < 1099511627776) : l.wr d (l.sync d) = ({ l with durable := l.next }, d.sync.1, 0) := by
  unfold ALog.wr
  rw [if_pos h.fail, h.syncs hw hc]
  simp only [h.fail.symm]
theorem LogOk.force (h : LogOk l d fst cs) (hw : d.Well c) (hc : c < 1099511627776) :
    (l.force d).2.2 = 0 ∧ LogOk (l.force d).1 (l.force d).2.1 fst cs ∧ (l.force d).2.1.Well (c + 1) ∧ (l.force d).1.segs = l.segs ∧ (l.force d).1.filled = l.filled ∧ (l.force d).1.next = l.next := by
  unfold ALog.force
  by_cases hq : l.durable = l.next
  · rw [if_pos hq]
    exact ⟨rfl, h, hw.mono (by omega), rfl, rfl, rfl⟩
  · rw [if_neg hq, h.wrS hw hc]
    exact ⟨rfl, h.synced hw hc _, (syncW hw hc).2.1, rfl, rfl, rfl⟩
theorem LogOk.last (h : LogOk l d fst cs) (hf : l.filled < 600) : ∃ ds cl, cs = ds ++ [cl] := by
  rcases List.eq_nil_or_concat cs with e | ⟨ds, cl, e⟩
  · have := h.none e; omega
  · exact ⟨ds, cl, by simpa using e⟩
theorem LogOk.segsNe (h : LogOk l d fst cs) (hf : l.filled < 600) : l.segs ≠ [] := by
  obtain ⟨ds, cl, rfl⟩ := h.last hf
  rw [h.segs, starts_snoc]
  simp
theorem flat_snoc (cs : List (List Rec)) (a : List Rec) : (cs ++ [a]).flatten = cs.flatten ++ a := by simp
theorem nums_snoc {L : List Rec} {f : Nat} (h : ∀ (k : Nat) (r : Rec), L[k]? = some r → r.lsn = f + k) (x : Rec) (hx : x.lsn = f + L.length) : ∀ (k : Nat) (r : Rec), (L ++ [x])[k]? = some r → r.lsn = f + k := by
  intro k r hr
  rw [List.getElem?_append] at hr
  split at hr
  · exact h k r hr
  · rename_i hk
    have : k - L.length = 0 := by
      have := (List.getElem?_eq_some_iff.1 hr).1
      simp at this; omega
    rw [this] at hr
    simp at hr
    subst hr
    omega
theorem file_has {m : Files} {nm t : ByteArray} {s : Nat} (h : m (segName s) ≠ none) : doOp m ⟨2, nm, ByteArray.empty, t⟩ (segName s) ≠ none := by
  show (m.set nm (some _)) (segName s) ≠ none
  unfold Files.set
  split
  · simp
  · exact h
theorem file_new {m : Files} {t : ByteArray} {s : Nat} : doOp m ⟨2, segName s, ByteArray.empty, t⟩ (segName s) ≠ none := by
  show (m.set (segName s) (some _)) (segName s) ≠ none
  rw [Files.set_same]; simp
/-- what an Append leaves -/
structure AppOk (l : ALog) (d : ADisk) (fst : Nat) (cs : List (List Rec)) (c : Nat) (x : Rec) (r : ALog × ADisk × Nat × Nat) : Prop where
  ret : r.2.2.1 = l.next ∧ r.2.2.2 = 0
  log : ∃ cs', LogOk r.1 r.2.1 fst cs' ∧ cs'.flatten = cs.flatten ++ [x]
  well : r.2.1.Well (c + 2)
  two : ∀ s, r.1.segs[1]? = some s → l.segs[1]? = some s ∨ s = l.next
  sum : 600 * r.1.segs.length + r.1.filled ≤ 600 * l.segs.length + l.filled + (15 + x.pay.length)
theorem LogOk.append (h : LogOk l d fst cs) (hw : d.Well c) (hc : c + 2 < 1099511627776) (kind : Nat) (s : ByteArray) (hs : s.size ≤ 255) :
    AppOk l d fst cs c ⟨l.next, kind, bytesOf s⟩ (l.append d kind s) := by
  obtain ⟨by_, hby⟩ : ∃ b, b = recBytes l.next kind (bytesOf s) := ⟨_, rfl⟩
  have hlen := bytesOf_len s
  by_cases hf : l.filled < 600
  · obtain ⟨ds, cl, rfl⟩ := h.last hf
    have hseg : l.segs = starts (fst + 1) ds ++ [fst + 1 + ds.flatten.length] := by rw [h.segs, starts_snoc]
    have hlast : l.segs.getLastD 0 = fst + 1 + ds.flatten.length := by rw [hseg]; simp
    obtain ⟨a1, a2, a3⟩ := tellW (d := d) (o := ⟨2, segName (l.segs.getLastD 0), ByteArray.empty, str by_⟩) hw (by omega) (by simp) (by simp)
    have hroom : l.room d = (l, d, 0) := by unfold ALog.room; rw [if_pos hf]
    have hput : l.put d by_ = (l, (d.tell ⟨2, segName (l.segs.getLastD 0), ByteArray.empty, str by_⟩).1, 0) := by
      unfold ALog.put; rw [hroom]; simp only [if_true]; rw [a1]
    have hwr : l.wr d (l.put d by_) = (l, (d.tell ⟨2, segName (l.segs.getLastD 0), ByteArray.empty, str by_⟩).1, 0) := by
      unfold ALog.wr; rw [if_pos h.fail, hput]; simp only [h.fail.symm]
    have happ : l.append d kind s = ({ l with filled := l.filled + (15 + s.size), recs := l.recs ++ [⟨l.next, kind, bytesOf s⟩], next := l.next + 1 }, (d.tell ⟨2, segName (l.segs.getLastD 0), ByteArray.empty, str by_⟩).1, l.next, 0) := by
      unfold ALog.append; rw [if_neg (by omega), ← hby, hwr]; simp
    rw [happ]
    have hfill := h.fill ds cl rfl
    refine { ret := ⟨rfl, rfl⟩, log := ⟨ds ++ [cl ++ [⟨l.next, kind, bytesOf s⟩]], ?_, by rw [flat_snoc, flat_snoc, List.append_assoc]⟩, well := a2.mono (by omega), two := fun s hs => .inl hs, sum := by simp; omega }
    refine { fail := h.fail, segs := ?_, recs := ?_, next := ?_, nums := ?_, ne := ?_, size := ?_, none := by simp, fill := ?_, files := ?_ }
    · show l.segs = _; rw [h.segs, starts_set]
    · show l.recs ++ _ = _; rw [h.recs, flat_snoc, flat_snoc, List.append_assoc]
    · show l.next + 1 = _; rw [h.next, flat_snoc, flat_snoc]; simp; omega
    · rw [flat_snoc, ← List.append_assoc, ← flat_snoc]
      exact nums_snoc h.nums _ (by show l.next = _; rw [h.next]; omega)
    · intro b hb
      rcases List.mem_append.1 hb with hb | hb
      · exact h.ne b (by simp [hb])
      · simp at hb; subst hb; simp
    · intro b hb
      rcases List.mem_append.1 hb with hb | hb
      · exact h.size b (by simp [hb])
      · simp at hb; subst hb; rw [bytesR_app]; simp [bytesR]; omega
    · intro es b he
      obtain ⟨_, e2⟩ := List.append_inj' he rfl
      simp only [List.cons.injEq, and_true] at e2
      subst e2
      show l.filled + _ = _
      rw [bytesR_app, hfill]; simp [bytesR]; omega
    · intro x hx
      show (d.tell _).1.now _ ≠ _
      rw [a3]
      exact file_has (h.files x hx)
  · have hs1 := h.syncs hw (by omega)
    obtain ⟨s1, s2, s3⟩ := syncW hw (by omega)
    obtain ⟨a1, a2, a3⟩ := tellW (d := d.sync.1) (o := ⟨2, segName l.next, ByteArray.empty, str by_⟩) s2 (by omega) (by simp) (by simp)
    have hroom : l.room d = ({ l with durable := l.next, segs := l.segs ++ [l.next], filled := 0 }, d.sync.1, 0) := by
      unfold ALog.room; rw [if_neg hf, hs1]; simp
    have hput : l.put d by_ = ({ l with durable := l.next, segs := l.segs ++ [l.next], filled := 0 }, (d.sync.1.tell ⟨2, segName l.next, ByteArray.empty, str by_⟩).1, 0) := by
      unfold ALog.put; rw [hroom]; simp only [if_true]
      rw [show (l.segs ++ [l.next]).getLastD 0 = l.next by simp, a1]
    have hwr : l.wr d (l.put d by_) = ({ l with durable := l.next, segs := l.segs ++ [l.next], filled := 0 }, (d.sync.1.tell ⟨2, segName l.next, ByteArray.empty, str by_⟩).1, 0) := by
      unfold ALog.wr; rw [if_pos h.fail, hput]; simp only [h.fail.symm]
    have happ : l.append d kind s = ({ l with durable := l.next, segs := l.segs ++ [l.next], filled := 0 + (15 + s.size), recs := l.recs ++ [⟨l.next, kind, bytesOf s⟩], next := l.next + 1 }, (d.sync.1.tell ⟨2, segName l.next, ByteArray.empty, str by_⟩).1, l.next, 0) := by
      unfold ALog.append; rw [if_neg (by omega), ← hby, hwr]; simp
    rw [happ]
    refine { ret := ⟨rfl, rfl⟩, log := ⟨cs ++ [[⟨l.next, kind, bytesOf s⟩]], ?_, by rw [flat_snoc]⟩, well := a2, two := fun x hx => ?_, sum := by simp; omega }
    · refine { fail := h.fail, segs := ?_, recs := ?_, next := ?_, nums := ?_, ne := ?_, size := ?_, none := by simp, fill := ?_, files := ?_ }
      · show l.segs ++ [l.next] = _; rw [h.segs, starts_snoc, h.next]; congr 2; omega
      · show l.recs ++ _ = _; rw [h.recs, flat_snoc]
      · show l.next + 1 = _; rw [h.next, flat_snoc]; simp; omega
      · rw [flat_snoc]
        exact nums_snoc h.nums _ (by show l.next = _; rw [h.next]; omega)
      · intro b hb
        rcases List.mem_append.1 hb with hb | hb
        · exact h.ne b hb
        · simp at hb; subst hb; simp
      · intro b hb
        rcases List.mem_append.1 hb with hb | hb
        · exact h.size b hb
        · simp at hb; subst hb; simp [bytesR]; omega
      · intro es b he
        obtain ⟨_, e2⟩ := List.append_inj' he rfl
        simp only [List.cons.injEq, and_true] at e2
        subst e2
        show 0 + _ = _
        simp [bytesR]; omega
      · intro x hx
        show (d.sync.1.tell _).1.now _ ≠ _
        rw [a3]
        rcases List.mem_append.1 hx with hx | hx
        · exact file_has (by rw [s3]; exact h.files x hx)
        · simp at hx; subst hx; exact file_new
    · change (l.segs ++ [l.next])[1]? = some x at hx
      rw [List.getElem?_append] at hx
      split at hx
      · exact .inl hx
      · right
        have := List.mem_of_getElem? hx
        simpa using this
/-- what a Cut leaves -/
structure CutOk (l : ALog) (d : ADisk) (fst : Nat) (cs : List (List Rec)) (c low : Nat) (r : ALog × ADisk × Nat) : Prop where
  ret : r.2.2 = 0
  log : ∃ fst' cs', LogOk r.1 r.2.1 fst' cs' ∧ fst ≤ fst' ∧ cs'.flatten = cs.flatten.drop (fst' - fst) ∧ (fst' = fst ∨ fst' + 1 ≤ low) ∧ fst' + cs'.flatten.length = fst + cs.flatten.length
  well : r.2.1.Well (c + 6 + l.segs.length)
  two : ∀ x, r.1.segs[1]? = some x → low < x ∧ ∃ y, l.segs[1]? = some y ∧ y ≤ x
  sum : 600 * r.1.segs.length + r.1.filled ≤ 600 * l.segs.length + l.filled
theorem LogOk.cut (h : LogOk l d fst cs) (hw : d.Well c) (hc : c + 6 + l.segs.length < 1099511627776) (low : Nat) : CutOk l d fst cs c low (l.cut d low) := by
  obtain ⟨p1, p2⟩ := segsBelow_spec l.segs low
  obtain ⟨s1, s2, s3⟩ := syncW hw (by omega)
  by_cases hg : segsBelow l.segs low = 0
  · have e : l.cut d low = ({ l with durable := l.next }, d.sync.1, 0) := by unfold ALog.cut; rw [if_pos hg, h.wrS hw (by omega)]
    rw [e]
    rw [hg] at p2
    refine { ret := rfl, log := ⟨fst, cs, h.synced hw (by omega) _, Nat.le_refl _, by simp, .inl rfl, rfl⟩, well := s2.mono (by omega), two := fun x hx => ⟨p2 x hx, x, hx, Nat.le_refl _⟩, sum := by simp }
  · have hlt := segsBelow_lt hg
    obtain ⟨g, hgd⟩ : ∃ g, g = segsBelow l.segs low := ⟨_, rfl⟩
    rw [← hgd] at p1 p2 hlt hg
    have hgl : g < cs.length := by rw [h.segs, starts_len] at hlt; exact hlt
    have hat : l.segs[g]? = some (fst + 1 + (cs.take g).flatten.length) := by rw [h.segs]; exact starts_at cs (fst + 1) g hgl
    have hfirst : l.segs.getD g 0 = fst + 1 + (cs.take g).flatten.length := by rw [List.getD_eq_getElem?_getD, hat]; rfl
    have hlow : fst + 1 + (cs.take g).flatten.length ≤ low := by
      rcases p1 with e | ⟨x, hx, hl⟩
      · exact absurd e hg
      · rw [hat] at hx; cases hx; exact hl
    obtain ⟨hasc, _⟩ := starts_asc cs (fst + 1) h.ne
    rw [← h.segs] at hasc
    obtain ⟨m1, m2, m3⟩ := setMarkW (l.segs.getD g 0) s2 (by omega)
    have hnd : (l.segs.take g).Nodup := (hasc.imp (fun {a b} (hab : a < b) => Nat.ne_of_lt hab)).sublist (List.take_sublist _ _)
    have htl : (l.segs.take g).length = g := by rw [List.length_take]; omega
    obtain ⟨r1, r2, r3⟩ := removeAllW (l.segs.take g) m2 (by omega) hnd (fun s hs => by rw [m3, s3]; exact h.files s (List.mem_of_mem_take hs))
    have hcutS : l.cutS d g (l.segs.getD g 0) = ({ l with durable := l.next }, ((d.sync.1.setMark (l.segs.getD g 0)).1.removeAll ((l.segs.take g).map segName)).1, 0) := by
      unfold ALog.cutS
      rw [h.syncs hw (by omega)]
      simp only [if_true]
      rw [if_pos m1]
      exact Prod.ext rfl (Prod.ext rfl r1)
    have hwr : l.wr d (l.cutS d g (l.segs.getD g 0)) = ({ l with durable := l.next }, ((d.sync.1.setMark (l.segs.getD g 0)).1.removeAll ((l.segs.take g).map segName)).1, 0) := by
      unfold ALog.wr; rw [if_pos h.fail, hcutS]; simp only [h.fail.symm]
    have hhead : (l.recs.headD ⟨0, 0, []⟩).lsn = fst + 1 := by
      have hi := h.inside hgl
      rw [h.recs]
      cases hf : cs.flatten with
      | nil => rw [hf] at hi; simp at hi
      | cons r rs => have := h.nums 0 r (by rw [hf]; rfl); simpa using this
    have e : l.cut d low = ({ l with durable := l.next, recs := l.recs.drop (cs.take g).flatten.length, segs := l.segs.drop g }, ((d.sync.1.setMark (l.segs.getD g 0)).1.removeAll ((l.segs.take g).map segName)).1, 0) := by
      unfold ALog.cut
      rw [← hgd, if_neg hg]
      simp only
      rw [hwr]
      simp only [if_true]
      rw [hhead, hfirst, show fst + 1 + (cs.take g).flatten.length - (fst + 1) = (cs.take g).flatten.length by omega]
    rw [e]
    have hsp := flat_split g cs
    have hdr : cs.flatten.drop (cs.take g).flatten.length = (cs.drop g).flatten := by
      rw [hsp, List.drop_left' (by simp)]
    have hsl := congrArg List.length hsp
    rw [List.length_append] at hsl
    refine { ret := rfl, log := ⟨fst + (cs.take g).flatten.length, cs.drop g, ?_, by omega, ?_, .inr (by omega), by omega⟩, well := r2.mono (by omega), two := fun x hx => ?_, sum := ?_ }
    · refine { fail := h.fail, segs := ?_, recs := ?_, next := ?_, nums := ?_, ne := fun b hb => h.ne b (List.mem_of_mem_drop hb), size := fun b hb => h.size b (List.mem_of_mem_drop hb), none := ?_, fill := ?_, files := ?_ }
      · show l.segs.drop g = _
        rw [h.segs, starts_drop]; congr 1; omega
      · show l.recs.drop _ = _
        rw [h.recs, hdr]
      · show l.next = _
        rw [h.next]; omega
      · intro k r hr
        have := h.nums ((cs.take g).flatten.length + k) r (by rw [hsp, List.getElem?_append_right (by omega)]; rw [← hr]; congr 1; omega)
        omega
      · intro he
        have := congrArg List.length he
        rw [List.length_drop] at this; simp at this; omega
      · intro ds b he
        refine h.fill (cs.take g ++ ds) b ?_
        rw [List.append_assoc, ← he, List.take_append_drop]
      · intro s hs
        have hmem : s ∉ l.segs.take g := fun hm => by
          have := hasc
          rw [← List.take_append_drop g l.segs, List.pairwise_append] at this
          exact Nat.lt_irrefl _ (this.2.2 s hm s hs)
        show (ADisk.removeAll _ _).1.now _ ≠ _
        rw [r3 s hmem, m3, s3]
        exact h.files s (List.mem_of_mem_drop hs)
    · rw [show fst + (cs.take g).flatten.length - fst = (cs.take g).flatten.length by omega, hdr]
    · change (l.segs.drop g)[1]? = some x at hx
      rw [List.getElem?_drop] at hx
      refine ⟨p2 x hx, ?_⟩
      have hgx := (List.getElem?_eq_some_iff.1 hx).1
      refine ⟨l.segs[1], by rw [List.getElem?_eq_getElem], ?_⟩
      rw [List.pairwise_iff_getElem] at hasc
      have h2 := hasc 1 (g + 1) (by omega) hgx (by omega)
      have h3 := (List.getElem?_eq_some_iff.1 hx).2
      omega
    · show 600 * (l.segs.drop g).length + l.filled ≤ _
      rw [List.length_drop]; omega
end
end Go.Proofs.YtnnhihkeffljbaaGreatDoor
/- HOSTS: before, after, and a log's calls. -/
namespace Go.Proofs.YtnnhihkeffljbaaGreatDoor
open Go.RowKit
open Sc

abbrev hostO (p : Nat) (up : Bool) (lv : Value) : Obj := .cells #[.int .i64 1, .int .i64 0, .pointer (some ⟨p, 0, none⟩), .bool up, lv, .pointer none, .pointer none, .pointer none] 65
abbrev fallV (a b c d : Int) : Value := .agg #[.int .i64 a, .int .i64 b, .int .i64 c, .int .i64 d]
def ADisk.knob (d : ADisk) (a b : Int) : ADisk := { d with left := a, full := b }
set_option maxRecDepth 100000 in
set_option maxHeartbeats 1000000 in
theorem before_any (hp p bD bN : Nat) (pv lv : Value) (up dn : Bool) (l f a b c k : Int) (w : World) (hh : w.heap[hp]? = some (hostO p up lv)) (hd : w.heap[p]? = some (dskO bD bN pv l f dn)) :
    Calls Tryz.prog 28 #[.pointer (some ⟨hp, 0, none⟩), fallV a b c k] w fun e w' => e = .returned (.tuple #[]) ∧ w'.heap[p]? = some (dskO bD bN pv a b dn) ∧ Fr [p] w w' := by
  have hhl : hp < w.heap.size := (Array.getElem?_eq_some_iff.1 hh).1
  have hpl : p < w.heap.size := (Array.getElem?_eq_some_iff.1 hd).1
  have hne : ¬ hp = p := by intro e; subst e; rw [hh] at hd; cases hd
  have hne2 : ¬ p = hp := fun e => hne e.symm
  have hz1 : ¬ p = w.heap.size := by omega
  have hz2 : ¬ w.heap.size = p := by omega
  obtain ⟨W, hW⟩ : ∃ W, W = w.alloc (.cells #[.int .i64 a, .int .i64 b, .int .i64 c, .int .i64 k] 28) := ⟨_, rfl⟩
  have hhW : W.heap[hp]? = some (hostO p up lv) := by rw [hW, Below.heap_alloc w _ hp hhl]; exact hh
  have hdW : W.heap[p]? = some (dskO bD bN pv l f dn) := by rw [hW, Below.heap_alloc w _ p hpl]; exact hd
  have hfW : W.heap[w.heap.size]? = some (.cells #[.int .i64 a, .int .i64 b, .int .i64 c, .int .i64 k] 28 (0, 0)) := by rw [hW]; exact heap_alloc_new w _
  have c2 := blk_cell hhW 2
  have c3 := blk_cell hdW 3
  have c4 := blk_cell hdW 4
  have c5 := blk_cell hdW 5
  have f3 := blk_free hdW 3
  have f4 := blk_free hdW 4
  have x0 := blk_cell hfW 0
  have x1 := blk_cell hfW 1
  simp at c2 c3 c4 c5 x0 x1
  have HD : Hid (W.heap[p]? = some (dskO bD bN pv l f dn)) := hdW
  have HF : Hid (Fr [p] w W) := by rw [hW]; exact (Fr.refl [p] w).alloc _
  clear hd hh hhW hdW hfW
  clear c5
  go_enter Tryz.func28, Tryz.ntmps28
  go_wp2
  rw [← hW]
  clear hW
  go_region_held3 (fun w' => w'.cell? ⟨hp, 2, none⟩ = some (.pointer (some ⟨p, 0, none⟩)) ∧ w'.cell? ⟨w.heap.size, 0, none⟩ = some (.int .i64 a) ∧ w'.cell? ⟨w.heap.size, 1, none⟩ = some (.int .i64 b)) (simp [setCell_far, *]) (fail)
  go_end0
  refine ⟨rfl, ?_, HF.out.trans (((Fr.set1 (by simp) _ _).trans (Fr.set1 (by simp) _ _)).drew)⟩
  have := blk_set (blk_set HD.out 3 (.int .i64 a)) 4 (.int .i64 b)
  simp at this
  exact this
set_option maxRecDepth 100000 in
set_option maxHeartbeats 1000000 in
theorem after_well (hp p bD bN : Nat) (pv lv : Value) (up : Bool) (l f a b c k : Int) (w : World) (hh : w.heap[hp]? = some (hostO p up lv)) (hd : w.heap[p]? = some (dskO bD bN pv l f false)) :
    Calls Tryz.prog 30 #[.pointer (some ⟨hp, 0, none⟩), fallV a b c k] w fun e w' => e = .returned (.tuple #[]) ∧ w'.heap[p]? = some (dskO bD bN pv (-1) (-1) false) ∧ Fr [p] w w' := by
  have hhl : hp < w.heap.size := (Array.getElem?_eq_some_iff.1 hh).1
  have hpl : p < w.heap.size := (Array.getElem?_eq_some_iff.1 hd).1
  have hne : ¬ hp = p := by intro e; subst e; rw [hh] at hd; cases hd
  have hne2 : ¬ p = hp := fun e => hne e.symm
  have hz1 : ¬ p = w.heap.size := by omega
  have hz2 : ¬ w.heap.size = p := by omega
  obtain ⟨W, hW⟩ : ∃ W, W = w.alloc (.cells #[.int .i64 a, .int .i64 b, .int .i64 c, .int .i64 k] 28) := ⟨_, rfl⟩
  have hhW : W.heap[hp]? = some (hostO p up lv) := by rw [hW, Below.heap_alloc w _ hp hhl]; exact hh
  have hdW : W.heap[p]? = some (dskO bD bN pv l f false) := by rw [hW, Below.heap_alloc w _ p hpl]; exact hd
  have hfW : W.heap[w.heap.size]? = some (.cells #[.int .i64 a, .int .i64 b, .int .i64 c, .int .i64 k] 28 (0, 0)) := by rw [hW]; exact heap_alloc_new w _
  have c2 := blk_cell hhW 2
  have c3 := blk_cell hdW 3
  have c4 := blk_cell hdW 4
  have c5 := blk_cell hdW 5
  have f3 := blk_free hdW 3
  have f4 := blk_free hdW 4
  have x0 := blk_cell hfW 0
  have x1 := blk_cell hfW 1
  simp at c2 c3 c4 c5 x0 x1
  have HD : Hid (W.heap[p]? = some (dskO bD bN pv l f false)) := hdW
  have HF : Hid (Fr [p] w W) := by rw [hW]; exact (Fr.refl [p] w).alloc _
  clear hd hh hhW hdW hfW
  go_enter Tryz.func30, Tryz.ntmps30
  have d2 := c2
  have d5 := c5
  rw [hW] at d2 d5
  go_wp2
  rw [← hW]
  clear hW d2 d5
  go_region_held3 (fun w' => w'.cell? ⟨hp, 2, none⟩ = some (.pointer (some ⟨p, 0, none⟩))) (simp [setCell_far, *]) (fail)
  go_end0
  refine ⟨rfl, ?_, HF.out.trans (((Fr.set1 (by simp) _ _).trans (Fr.set1 (by simp) _ _)).drew)⟩
  have := blk_set (blk_set HD.out 3 (.int .i64 (-1))) 4 (.int .i64 (-1))
  simp at this
  exact this
section
variable {w w' : World} {B hp lp p bD bN n nD nN : Nat} {pv sv rv : Value} {l : ALog} {d : ADisk}
theorem LogIn.knob (h : LogIn w B lp p bD bN pv sv rv l d n nD nN) (a b : Int) (hf : Fr [p] w w') (hb : w'.heap[p]? = some (dskO bD bN pv a b d.down)) :
    LogIn w' B lp p bD bN pv sv rv l (d.knob a b) n nD nN ∧ OFr lp p w w' := by
  have h1 : LogIn w' B lp p bD bN pv sv rv l (d.knob a b) n nD nN := h.turned (h.disk.turn hf a b d.down hb) hf (fun k hk _ => h.sep k (by simp at hk; simp [hk])) (Nat.le_refl _)
  exact ⟨h1, h.ofr h1 hf (fun k hk _ => by simp at hk; simp [hk]) (.inl rfl) (Near.refl _ _) (Near.refl _ _) (Near.refl _ _)⟩
theorem OFr.low (hf : OFr lp p w w') (h : LogIn w B lp p bD bN pv sv rv l d n nD nN) {k : Nat} (hk : k < B) : w'.heap[k]? = w.heap[k]? :=
  hf.block k (Nat.lt_of_lt_of_le hk h.disk.base.2.2.2) (fun ho => by have := h.ge ho; omega)
theorem OFr.met (hf : OFr lp p w w') (h : LogIn w B lp p bD bN pv sv rv l d n nD nN) (hB : 2 ≤ B) (hm : Met w) : Met w' := by
  unfold Met at *
  rw [World.cell?_of_block (a := ⟨0, 0, none⟩) (hf.low h (by show 0 < B; omega))]; exact hm
theorem OFr.pows (hf : OFr lp p w w') (h : LogIn w B lp p bD bN pv sv rv l d n nD nN) (hB : 2 ≤ B) (hm : Pows w) : Pows w' :=
  hm.of_block (hf.low h (by omega))
theorem OFr.host (hf : OFr lp p w w') (h : LogIn w B lp p bD bN pv sv rv l d n nD nN) {up : Bool} {lv : Value} (hh : w.heap[hp]? = some (hostO p up lv)) : w'.heap[hp]? = some (hostO p up lv) :=
  (hf.block hp (Array.getElem?_eq_some_iff.1 hh).1 (h.free hh (by decide) (by decide) (by decide) (by decide) (by decide))).trans hh
end
/-- an open host of a log -/
structure HostIn (w : World) (B hp lp p bD bN : Nat) (l : ALog) (d : ADisk) (n : Nat) : Prop where
  blk : w.heap[hp]? = some (hostO p true (.pointer (some ⟨lp, 0, none⟩)))
  log : ∃ pv sv rv nD nN, LogIn w B lp p bD bN pv sv rv l d n nD nN
/-- the answer of Told -/
theorem told_any (c : Nat) (w : World) (hg : Met w) : Calls Tryz.prog 31 #[errN c] w fun e w' => e = .returned (.int .i64 (c : Int)) ∧ Fr [] w w' := by
  by_cases hc : c = 0
  · subst hc
    rw [errN_ok]
    refine (told_nil w).mono ?_
    rintro e w1 ⟨rfl, hb⟩
    exact ⟨rfl, Fr.of_below hb _⟩
  · rw [errN_no hc]
    refine (told_err (c : Int) w hg).mono ?_
    rintro e w1 ⟨rfl, hb⟩
    exact ⟨rfl, Fr.of_below hb _⟩
end Go.Proofs.YtnnhihkeffljbaaGreatDoor
