import Derived.Test.YtejiankgafjppabGreatDoorC34
/- A LOG OVER A DISK THAT IS WELL: what its files hold; what Append, Keep and Cut leave of that. Mathematics. -/
namespace Go.Proofs.YtejiankgafjppabGreatDoor
open Go.RowKit
open Sc

/-- what is durable, and what was told since, are what is there -/
def ADisk.Con (d : ADisk) : Prop := d.pending.foldl doOp d.durable = d.now
/-- all is durable -/
def ADisk.Set (d : ADisk) : Prop := d.pending = [] ∧ d.durable = d.now
theorem ADisk.Set.con {d : ADisk} (h : d.Set) : d.Con := by unfold ADisk.Con; rw [h.1, h.2]; rfl
theorem syncS {d : ADisk} {c : Nat} (h : d.Well c) (hc : c < 1099511627776) (hd : d.Con) : d.sync.1.Set := by
  rw [syncE h hc]
  exact ⟨rfl, hd⟩
theorem tellX {d : ADisk} {c : Nat} {o : AOp} (h : d.Well c) (hc : c < 1099511627776) (h1 : 2 < o.kind → d.now o.name ≠ none) (h2 : ¬ (o.kind = 4 ∧ o.name = o.to)) : d.tell o = ({ d with left := d.left - 1, full := d.full - 1, now := doOp d.now o, pending := d.pending ++ [o] }, 0) := by
  unfold ADisk.tell
  simp only [writesE h hc]
  rw [if_neg (by omega), if_neg (by omega), if_neg (by rintro ⟨x, y⟩; exact h1 y x), if_neg h2]
theorem tellC {d : ADisk} {c : Nat} {o : AOp} (h : d.Well c) (hc : c < 1099511627776) (h1 : 2 < o.kind → d.now o.name ≠ none) (h2 : ¬ (o.kind = 4 ∧ o.name = o.to)) (hd : d.Con) : (d.tell o).1.Con := by
  rw [tellX h hc h1 h2]
  unfold ADisk.Con at hd ⊢
  simp only [List.foldl_append, List.foldl_cons, List.foldl_nil, hd]
/-- files but these -/
def Files.less : Files → List ByteArray → Files
  | m, [] => m
  | m, x :: l => (m.set x none).less l
theorem Files.less_not : ∀ (l : List ByteArray) (m : Files) (k : ByteArray), k ∉ l → m.less l k = m k
  | [], _, _, _ => rfl
  | x :: l, m, k, h => by
    simp at h
    rw [Files.less, Files.less_not l _ k h.2, Files.set_other _ _ h.1]
theorem Files.less_mem : ∀ (l : List ByteArray) (m : Files) (k : ByteArray), k ∈ l → m.less l k = none
  | x :: l, m, k, h => by
    rw [Files.less]
    by_cases hk : k ∈ l
    · exact Files.less_mem l _ k hk
    · rw [Files.less_not l _ k hk]
      have : k = x := by simp at h; rcases h with h | h; exact h; exact absurd h hk
      rw [this, Files.set_same]
theorem removeAllX : ∀ (l : List Nat) {d : ADisk} {c : Nat}, d.Well c → d.Con → c + l.length < 1099511627776 → l.Nodup → (∀ s ∈ l, d.now (segName s) ≠ none) →
    (d.removeAll (l.map segName)).1.now = d.now.less (l.map segName) ∧ (d.removeAll (l.map segName)).1.Set := by
  intro l
  induction l with
  | nil =>
    intro d c h hd hc _ _
    refine ⟨?_, syncS h (by simpa using hc) hd⟩
    show d.sync.1.now = _
    rw [(syncW h (by simpa using hc)).2.2]
    rfl
  | cons x l ih =>
    intro d c h hd hc hnd hf
    simp only [List.length_cons] at hc
    obtain ⟨a1, a2, a3⟩ := tellW (o := ⟨3, segName x, ByteArray.empty, ByteArray.empty⟩) h (by omega) (fun _ => hf x (by simp)) (by simp)
    have a4 := tellC (o := ⟨3, segName x, ByteArray.empty, ByteArray.empty⟩) h (by omega) (fun _ => hf x (by simp)) (by simp) hd
    have e : d.removeAll ((x :: l).map segName) = (d.tell ⟨3, segName x, ByteArray.empty, ByteArray.empty⟩).1.removeAll (l.map segName) := by
      rw [List.map_cons, ADisk.removeAll, if_pos a1]
    have hn := List.nodup_cons.1 hnd
    have hnow : (d.tell ⟨3, segName x, ByteArray.empty, ByteArray.empty⟩).1.now = d.now.set (segName x) none := a3
    obtain ⟨b1, b2⟩ := ih a2 a4 (by omega) hn.2 (fun s hs => by
      rw [hnow, Files.set_other _ _ (fun e => by rw [segName_inj e] at hs; exact hn.1 hs)]
      exact hf s (by simp [hs]))
    rw [e]
    refine ⟨?_, b2⟩
    rw [b1, hnow]
    rfl
theorem setMarkX {d : ADisk} {c : Nat} (first : Nat) (h : d.Well c) (hd : d.Con) (hc : c + 4 < 1099511627776) (hnew : d.now markNew = none) :
    (d.setMark first).1.now = d.now.set markNm (some (str (recBytes first 0 []))) ∧ (d.setMark first).1.Set := by
  obtain ⟨a1, a2, a3⟩ := tellW (o := ⟨1, markNew, ByteArray.empty, str (recBytes first 0 [])⟩) h (by omega) (by simp) (by simp)
  have a4 := tellC (o := ⟨1, markNew, ByteArray.empty, str (recBytes first 0 [])⟩) h (by omega) (by simp) (by simp) hd
  obtain ⟨b1, b2, b3⟩ := syncW a2 (by omega)
  have b4 := (syncS a2 (by omega) a4).con
  have hm : (d.tell ⟨1, markNew, ByteArray.empty, str (recBytes first 0 [])⟩).1.sync.1.now markNew = some (str (recBytes first 0 [])) := by
    rw [b3, a3]
    show (d.now.set markNew (some _)) markNew = _
    rw [Files.set_same]
  have hm' : (d.tell ⟨1, markNew, ByteArray.empty, str (recBytes first 0 [])⟩).1.sync.1.now markNew ≠ none := by rw [hm]; simp
  obtain ⟨c1, c2, c3⟩ := tellW (o := ⟨4, markNew, markNm, ByteArray.empty⟩) b2 (by omega) (fun _ => hm') (fun h => mark_ne.2 h.2)
  have c4 := tellC (o := ⟨4, markNew, markNm, ByteArray.empty⟩) b2 (by omega) (fun _ => hm') (fun h => mark_ne.2 h.2) b4
  obtain ⟨d1, d2, d3⟩ := syncW c2 (by omega)
  have e : d.setMark first = ((d.tell ⟨1, markNew, ByteArray.empty, str (recBytes first 0 [])⟩).1.sync.1.tell ⟨4, markNew, markNm, ByteArray.empty⟩).1.sync := by
    unfold ADisk.setMark
    simp only
    rw [if_pos a1, if_pos b1, if_pos c1]
  rw [e]
  refine ⟨?_, syncS c2 (by omega) c4⟩
  rw [d3, c3]
  unfold doOp
  simp only [show ¬ (4 = 1) by omega, show ¬ (4 = 2) by omega, show ¬ (4 = 3) by omega, if_false, if_true, hm]
  rw [b3, a3]
  show ((d.now.set markNew _).set markNm _).set markNew none = _
  funext k
  unfold Files.set
  by_cases h1 : k = markNew
  · subst h1; simp [mark_ne.2, hnew]
  · by_cases h2 : k = markNm <;> simp [h1, h2, mark_ne.2.symm]
/-! ### the files of a log -/
def segF : Nat → List (List Rec) → Files
  | _, [] => fun _ => none
  | n, c :: cs => (segF (n + c.length) cs).set (segName n) (some (str (encR c)))
/-- the files of a log whose records below fst + 1 are gone -/
def filesOf (fst : Nat) (cs : List (List Rec)) : Files := if fst = 0 then segF 1 cs else (segF (fst + 1) cs).set markNm (some (str (recBytes (fst + 1) 0 [])))
theorem segF_none : ∀ (cs : List (List Rec)) (n : Nat) (k : ByteArray), (∀ s ∈ starts n cs, k ≠ segName s) → segF n cs k = none
  | [], _, _, _ => rfl
  | c :: cs, n, k, h => by
    rw [segF, Files.set_other _ _ (h n (by simp [starts]))]
    exact segF_none cs _ k (fun s hs => h s (by simp [starts, hs]))
theorem segF_some : ∀ (cs : List (List Rec)) (n s : Nat), s ∈ starts n cs → segF n cs (segName s) ≠ none
  | [], _, _, h => by simp [starts] at h
  | c :: cs, n, s, h => by
    rw [segF]
    unfold Files.set
    split
    · simp
    · rename_i hne
      simp only [starts, List.mem_cons] at h
      rcases h with rfl | h
      · exact absurd rfl hne
      · exact segF_some cs _ s h
theorem segF_mark (cs : List (List Rec)) (n : Nat) : segF n cs markNm = none ∧ segF n cs markNew = none :=
  ⟨segF_none cs n _ (fun s _ e => (segName_mark s).1 e.symm), segF_none cs n _ (fun s _ e => (segName_mark s).2 e.symm)⟩
theorem segF_snoc : ∀ (cs : List (List Rec)) (n : Nat) (c : List Rec), (∀ b ∈ cs, b ≠ []) → segF n (cs ++ [c]) = (segF n cs).set (segName (n + cs.flatten.length)) (some (str (encR c)))
  | [], n, c, _ => by simp [segF]
  | b :: cs, n, c, h => by
    have hb : 0 < b.length := List.length_pos_iff.2 (h b (by simp))
    rw [List.cons_append, segF, segF_snoc cs _ c (fun x hx => h x (by simp [hx])), segF]
    funext k
    have hne : segName n ≠ segName (n + b.length + cs.flatten.length) := fun e => by have := segName_inj e; omega
    have he : n + b.length + cs.flatten.length = n + (b :: cs).flatten.length := by simp; omega
    rw [he] at hne ⊢
    unfold Files.set
    by_cases h1 : k = segName n
    · subst h1; rw [if_pos rfl, if_neg hne, if_pos rfl]
    · simp [h1]
theorem segF_at : ∀ (cs : List (List Rec)) (n j : Nat) (c : List Rec), (∀ b ∈ cs, b ≠ []) → cs[j]? = some c → segF n cs (segName (n + (cs.take j).flatten.length)) = some (str (encR c))
  | [], _, _, _, _, h => by simp at h
  | b :: cs, n, 0, c, _, h => by simp at h; subst h; simp [segF, Files.set]
  | b :: cs, n, j + 1, c, hn, h => by
    have hb : 0 < b.length := List.length_pos_iff.2 (hn b (by simp))
    have := segF_at cs (n + b.length) j c (fun x hx => hn x (by simp [hx])) (by simpa using h)
    rw [segF, Files.set_other]
    · rw [← this]; congr 2; simp; omega
    · intro e; have := segName_inj e; simp only [List.take_succ_cons, List.flatten_cons, List.length_append] at this; omega
theorem Files.set_set (m : Files) (k : ByteArray) (a b : Option ByteArray) : (m.set k a).set k b = m.set k b := by
  funext x; unfold Files.set; by_cases h : x = k <;> simp [h]
theorem segF_drop (cs : List (List Rec)) (n g : Nat) (h : ∀ b ∈ cs, b ≠ []) : (segF n cs).less ((starts n (cs.take g)).map segName) = segF (n + (cs.take g).flatten.length) (cs.drop g) := by
  induction g generalizing n cs with
  | zero => simp [starts, Files.less]
  | succ g ih =>
    cases cs with
    | nil => simp [starts, Files.less]
    | cons b cs =>
      have hb : 0 < b.length := List.length_pos_iff.2 (h b (by simp))
      have := ih cs (n + b.length) (fun x hx => h x (by simp [hx]))
      simp only [List.take_succ_cons, List.drop_succ_cons, starts, List.map_cons]
      rw [show n + (b :: cs.take g).flatten.length = n + b.length + (cs.take g).flatten.length by simp; omega, ← this]
      show ((segF n (b :: cs)).set (segName n) none).less _ = _
      congr 1
      rw [segF]
      rw [Files.set_set]
      funext k
      unfold Files.set
      split
      · rename_i e
        subst e
        exact (segF_none cs _ _ (fun s hs e => by
          have h1 := segName_inj e
          have := (starts_asc cs (n + b.length) (fun x hx => h x (by simp [hx]))).2 s hs
          omega)).symm
      · rfl
theorem starts_inj : ∀ (a b : List (List Rec)) (n : Nat), starts n a = starts n b → a.flatten = b.flatten → a = b
  | [], [], _, _, _ => rfl
  | [], c :: b, n, h, _ => by simp [starts] at h
  | c :: a, [], n, h, _ => by simp [starts] at h
  | [c], [c'], n, _, h => by simpa using h
  | [c], c' :: y :: b, n, h, _ => by simp [starts] at h
  | c :: x :: a, [c'], n, h, _ => by simp [starts] at h
  | c :: x :: a, c' :: y :: b, n, h, hf => by
    simp only [starts, List.cons.injEq, true_and] at h
    have hl : c.length = c'.length := by omega
    have hf' : c ++ (x :: a).flatten = c' ++ (y :: b).flatten := by simpa using hf
    obtain ⟨e1, e2⟩ := List.append_inj hf' hl
    subst e1
    rw [starts_inj (x :: a) (y :: b) (n + c.length) (by simp only [starts, List.cons.injEq, true_and]; exact h.2) e2]
/-! ### what Append and Cut come to -/
section
variable {l : ALog} {d : ADisk} {fst c : Nat} {cs : List (List Rec)}
theorem LogOk.app1 (h : LogOk l d fst cs) (hw : d.Well c) (hc : c + 2 < 1099511627776) (kind : Nat) (s : ByteArray) (hs : s.size ≤ 255) (hf : l.filled < 600) :
    l.append d kind s = ({ l with filled := l.filled + (15 + s.size), recs := l.recs ++ [⟨l.next, kind, bytesOf s⟩], next := l.next + 1 }, (d.tell ⟨2, segName (l.segs.getLastD 0), ByteArray.empty, str (recBytes l.next kind (bytesOf s))⟩).1, l.next, 0) := by
  obtain ⟨by_, hby⟩ : ∃ b, b = recBytes l.next kind (bytesOf s) := ⟨_, rfl⟩
  obtain ⟨a1, a2, a3⟩ := tellW (d := d) (o := ⟨2, segName (l.segs.getLastD 0), ByteArray.empty, str by_⟩) hw (by omega) (by simp) (by simp)
  have hroom : l.room d = (l, d, 0) := by unfold ALog.room; rw [if_pos hf]
  have hput : l.put d by_ = (l, (d.tell ⟨2, segName (l.segs.getLastD 0), ByteArray.empty, str by_⟩).1, 0) := by
    unfold ALog.put; rw [hroom]; simp only [if_true]; rw [a1]
  have hwr : l.wr d (l.put d by_) = (l, (d.tell ⟨2, segName (l.segs.getLastD 0), ByteArray.empty, str by_⟩).1, 0) := by
    unfold ALog.wr; rw [if_pos h.fail, hput]; simp only [h.fail.symm]
  unfold ALog.append; rw [if_neg (by omega), ← hby, hwr]; simp
theorem LogOk.app2 (h : LogOk l d fst cs) (hw : d.Well c) (hc : c + 2 < 1099511627776) (kind : Nat) (s : ByteArray) (hs : s.size ≤ 255) (hf : ¬ l.filled < 600) :
    l.append d kind s = ({ l with durable := l.next, segs := l.segs ++ [l.next], filled := 0 + (15 + s.size), recs := l.recs ++ [⟨l.next, kind, bytesOf s⟩], next := l.next + 1 }, (d.sync.1.tell ⟨2, segName l.next, ByteArray.empty, str (recBytes l.next kind (bytesOf s))⟩).1, l.next, 0) := by
  obtain ⟨by_, hby⟩ : ∃ b, b = recBytes l.next kind (bytesOf s) := ⟨_, rfl⟩
  have hs1 := h.syncs hw (by omega)
  obtain ⟨s1, s2, s3⟩ := syncW hw (by omega)
  obtain ⟨a1, a2, a3⟩ := tellW (d := d.sync.1) (o := ⟨2, segName l.next, ByteArray.empty, str by_⟩) s2 (by omega) (by simp) (by simp)
  have hroom : l.room d = ({ l with durable := l.next, segs := l.segs ++ [l.next], filled := 0 }, d.sync.1, 0) := by
    unfold ALog.room; rw [if_neg hf, hs1]; simp
  have hput : l.put d by_ = ({ l with durable := l.next, segs := l.segs ++ [l.next], filled := 0 }, (d.sync.1.tell ⟨2, segName l.next, ByteArray.empty, str by_⟩).1, 0) := by
    unfold ALog.put; rw [hroom]; simp only [if_true]
    rw [show (l.segs ++ [l.next]).getLastD 0 = l.next by simp, a1]
  have hwr : l.wr d (l.put d by_) = ({ l with durable := l.next, segs := l.segs ++ [l.next], filled := 0 }, (d.sync.1.tell ⟨2, segName l.next, ByteArray.empty, str by_⟩).1, 0) := by
    unfold ALog.wr; rw [if_pos h.fail, hput]; simp only [h.fail.symm]
  unfold ALog.append; rw [if_neg (by omega), ← hby, hwr]; simp
theorem LogOk.cut2 (h : LogOk l d fst cs) (hw : d.Well c) (hc : c + 6 + l.segs.length < 1099511627776) (low g : Nat) (hgd : g = segsBelow l.segs low) (hg : g ≠ 0) :
    (l.cut d low).2.1 = ((d.sync.1.setMark (fst + 1 + (cs.take g).flatten.length)).1.removeAll ((starts (fst + 1) (cs.take g)).map segName)).1 ∧ (l.cut d low).1.segs = l.segs.drop g ∧ g < cs.length := by
  obtain ⟨s1, s2, s3⟩ := syncW hw (by omega)
  have hlt : g < l.segs.length := by rw [hgd] at hg ⊢; exact segsBelow_lt hg
  have hgl : g < cs.length := by rw [h.segs, starts_len] at hlt; exact hlt
  have hat : l.segs[g]? = some (fst + 1 + (cs.take g).flatten.length) := by rw [h.segs]; exact starts_at cs (fst + 1) g hgl
  have hfirst : l.segs.getD g 0 = fst + 1 + (cs.take g).flatten.length := by rw [List.getD_eq_getElem?_getD, hat]; rfl
  obtain ⟨hasc, _⟩ := starts_asc cs (fst + 1) h.ne
  rw [← h.segs] at hasc
  obtain ⟨m1, m2, m3⟩ := setMarkW (l.segs.getD g 0) s2 (by omega)
  have hnd : (l.segs.take g).Nodup := (hasc.imp (fun {a b} (hab : a < b) => Nat.ne_of_lt hab)).sublist (List.take_sublist _ _)
  have htl : (l.segs.take g).length = g := by rw [List.length_take]; omega
  obtain ⟨r1, r2, r3⟩ := removeAllW (l.segs.take g) m2 (by omega) hnd (fun s hs => by rw [m3, s3]; exact h.files s (List.mem_of_mem_take hs))
  have hcutS : l.cutS d g (l.segs.getD g 0) = ({ l with durable := l.next }, ((d.sync.1.setMark (l.segs.getD g 0)).1.removeAll ((l.segs.take g).map segName)).1, 0) := by
    unfold ALog.cutS
    rw [h.syncs hw (by omega)]
    simp only [if_true]
    rw [if_pos m1]
    exact Prod.ext rfl (Prod.ext rfl r1)
  have hwr : l.wr d (l.cutS d g (l.segs.getD g 0)) = ({ l with durable := l.next }, ((d.sync.1.setMark (l.segs.getD g 0)).1.removeAll ((l.segs.take g).map segName)).1, 0) := by
    unfold ALog.wr; rw [if_pos h.fail, hcutS]; simp only [h.fail.symm]
  have htk : l.segs.take g = starts (fst + 1) (cs.take g) := by
    have h1 : cs = cs.take g ++ cs.drop g := (List.take_append_drop g cs).symm
    have h2 : ∀ (a b : List (List Rec)) (n : Nat), starts n (a ++ b) = starts n a ++ starts (n + a.flatten.length) b := by
      intro a
      induction a with
      | nil => intro b n; simp [starts]
      | cons x a ih => intro b n; simp only [List.cons_append, starts, ih]; simp [Nat.add_assoc]
    rw [h.segs]
    conv => lhs; rw [h1, h2]
    rw [List.take_left' (by rw [starts_len, List.length_take]; omega)]
  have e : l.cut d low = ({ { l with durable := l.next } with recs := l.recs.drop (l.segs.getD g 0 - (l.recs.headD ⟨0, 0, []⟩).lsn), segs := l.segs.drop g }, ((d.sync.1.setMark (l.segs.getD g 0)).1.removeAll ((l.segs.take g).map segName)).1, 0) := by
    unfold ALog.cut
    rw [← hgd, if_neg hg]
    simp only
    rw [hwr]
    simp
  rw [e, hfirst, htk]
  exact ⟨rfl, rfl, hgl⟩
end
/-- a log over a disk that is well: also what its files hold -/
structure Mu (l : ALog) (d : ADisk) (fst : Nat) (cs : List (List Rec)) : Prop where
  ok : LogOk l d fst cs
  now : d.now = filesOf fst cs
  con : d.Con
  dur : l.durable ≤ l.next
  fine : ∀ r ∈ cs.flatten, r.kind < 256 ∧ r.pay.length ≤ 255 ∧ Byt r.pay
section
variable {l : ALog} {d : ADisk} {fst c : Nat} {cs : List (List Rec)}
theorem filesOf_new (fst : Nat) (cs : List (List Rec)) : filesOf fst cs markNew = none := by
  unfold filesOf
  split
  · exact (segF_mark cs _).2
  · rw [Files.set_other _ _ mark_ne.2]; exact (segF_mark cs _).2
theorem filesOf_seg (fst : Nat) (cs : List (List Rec)) (s : Nat) : filesOf fst cs (segName s) = segF (fst + 1) cs (segName s) := by
  unfold filesOf
  split
  · rename_i h; rw [h]
  · exact Files.set_other _ _ (segName_mark s).1
theorem filesOf_set (fst : Nat) (cs cs' : List (List Rec)) (s : Nat) (v : Option ByteArray) (h : segF (fst + 1) cs' = (segF (fst + 1) cs).set (segName s) v) : filesOf fst cs' = (filesOf fst cs).set (segName s) v := by
  unfold filesOf
  split
  · rename_i e; rw [e] at h; exact h
  · rw [h]
    funext k
    unfold Files.set
    by_cases h1 : k = markNm
    · simp [h1, (segName_mark s).1.symm]
    · simp [h1]
theorem Mu.append (h : Mu l d fst cs) (hw : d.Well c) (hc : c + 2 < 1099511627776) (kind : Nat) (s : ByteArray) (hs : s.size ≤ 255) (hk : kind < 256) :
    (l.append d kind s).2.2.1 = l.next ∧ (l.append d kind s).2.2.2 = 0 ∧ (l.append d kind s).2.1.Well (c + 2) ∧ (l.append d kind s).1.next = l.next + 1 ∧ (l.append d kind s).1.durable ≤ l.next ∧
      ∃ cs', Mu (l.append d kind s).1 (l.append d kind s).2.1 fst cs' ∧ cs'.flatten = cs.flatten ++ [⟨l.next, kind, bytesOf s⟩] ∧ cs'.length ≤ cs.length + 1 := by
  have hA := h.ok.append hw hc kind s hs
  obtain ⟨cs', hL, hfl⟩ := hA.log
  have hfine : ∀ r ∈ cs'.flatten, r.kind < 256 ∧ r.pay.length ≤ 255 ∧ Byt r.pay := by
    intro r hr
    rw [hfl] at hr
    rcases List.mem_append.1 hr with hr | hr
    · exact h.fine r hr
    · simp at hr; subst hr; exact ⟨hk, by rw [bytesOf_len]; exact hs, bytesOf_byt s⟩
  have hnx := h.ok.next
  refine ⟨hA.ret.1, hA.ret.2, hA.well, ?_, ?_, cs', ?_, hfl, ?_⟩
  · rw [hL.next, hfl, hnx]; simp; omega
  · by_cases hf : l.filled < 600
    · rw [h.ok.app1 hw hc kind s hs hf]; exact h.dur
    · rw [h.ok.app2 hw hc kind s hs hf]; exact Nat.le_refl _
  · by_cases hf : l.filled < 600
    · have e := h.ok.app1 hw hc kind s hs hf
      obtain ⟨ds, cl, rfl⟩ := h.ok.last hf
      have hlast : l.segs.getLastD 0 = fst + 1 + ds.flatten.length := by rw [h.ok.segs, starts_snoc]; simp
      have hne : ∀ b ∈ ds, b ≠ [] := fun b hb => h.ok.ne b (by simp [hb])
      have ecs : cs' = ds ++ [cl ++ [⟨l.next, kind, bytesOf s⟩]] := by
        refine starts_inj _ _ (fst + 1) ?_ (by rw [hfl, flat_snoc, flat_snoc, List.append_assoc])
        rw [← hL.segs, e, starts_set ds (fst + 1) _ cl]
        exact h.ok.segs
      obtain ⟨a1, a2, a3⟩ := tellW (d := d) (o := ⟨2, segName (l.segs.getLastD 0), ByteArray.empty, str (recBytes l.next kind (bytesOf s))⟩) hw (by omega) (by simp) (by simp)
      refine { ok := hL, now := ?_, con := ?_, dur := ?_, fine := hfine }
      · rw [e]
        show (d.tell _).1.now = _
        rw [a3, doOp_app, hlast]
        rw [ecs]
        obtain ⟨x, hx⟩ : ∃ x : Rec, x = ⟨l.next, kind, bytesOf s⟩ := ⟨_, rfl⟩
        rw [← hx]
        have ex : str (recBytes l.next kind (bytesOf s)) = str (recBytes x.lsn x.kind x.pay) := by rw [hx]
        rw [filesOf_set fst (ds ++ [cl]) (ds ++ [cl ++ [x]]) (fst + 1 + ds.flatten.length) (some (str (encR (cl ++ [x])))) (by
          rw [segF_snoc ds _ _ hne, segF_snoc ds _ _ hne, Files.set_set]), ← h.now, ex]
        congr 2
        have : d.now (segName (fst + 1 + ds.flatten.length)) = some (str (encR cl)) := by
          rw [h.now, filesOf_seg, segF_snoc ds _ _ hne, Files.set_same]
        rw [this, encR_snoc, str_app]
        rfl
      · rw [e]
        exact tellC hw (by omega) (by simp) (by simp) h.con
      · rw [e]; have := h.dur; simp; omega
    · have e := h.ok.app2 hw hc kind s hs hf
      obtain ⟨s1, s2, s3⟩ := syncW hw (by omega)
      have s4 := (syncS hw (by omega) h.con).con
      have hne := h.ok.ne
      have ecs : cs' = cs ++ [[⟨l.next, kind, bytesOf s⟩]] := by
        refine starts_inj _ _ (fst + 1) ?_ (by rw [hfl, flat_snoc])
        rw [← hL.segs, e, starts_snoc, ← h.ok.segs]
        show l.segs ++ [l.next] = _
        rw [hnx]; congr 2; omega
      obtain ⟨a1, a2, a3⟩ := tellW (d := d.sync.1) (o := ⟨2, segName l.next, ByteArray.empty, str (recBytes l.next kind (bytesOf s))⟩) s2 (by omega) (by simp) (by simp)
      have hnx' : l.next = fst + 1 + cs.flatten.length := by omega
      refine { ok := hL, now := ?_, con := ?_, dur := ?_, fine := hfine }
      · rw [e]
        show (d.sync.1.tell _).1.now = _
        rw [a3, doOp_app, s3]
        rw [ecs]
        obtain ⟨x, hx⟩ : ∃ x : Rec, x = ⟨l.next, kind, bytesOf s⟩ := ⟨_, rfl⟩
        rw [← hx]
        have ex : str (recBytes l.next kind (bytesOf s)) = str (recBytes x.lsn x.kind x.pay) := by rw [hx]
        rw [filesOf_set fst cs (cs ++ [[x]]) l.next (some (str (encR [x]))) (by
          rw [segF_snoc cs _ _ hne, ← hnx']), ← h.now, ex]
        congr 2
        have : d.now (segName l.next) = none := by
          rw [h.now, filesOf_seg]
          refine segF_none cs _ _ (fun x hx e => ?_)
          have e2 := segName_inj e
          subst e2
          rw [hnx'] at hx
          have : ∀ (a : List (List Rec)) (n : Nat), (∀ b ∈ a, b ≠ []) → ∀ x ∈ starts n a, x < n + a.flatten.length := by
            intro a
            induction a with
            | nil => intro n _ x hx; simp [starts] at hx
            | cons b a ih =>
              intro n hb x hx
              have h0 : 0 < b.length := List.length_pos_iff.2 (hb b (by simp))
              simp only [starts, List.mem_cons] at hx
              rcases hx with rfl | hx
              · simp; omega
              · have := ih (n + b.length) (fun y hy => hb y (by simp [hy])) x hx
                simp; simp at this; omega
          have := this cs (fst + 1) hne _ hx
          omega
        rw [this]
        simp [encR]
      · rw [e]
        exact tellC s2 (by omega) (by simp) (by simp) s4
      · rw [e]; simp
  · have hl2 : cs'.length = (l.append d kind s).1.segs.length := by rw [hL.segs, starts_len]
    have hl1 : cs.length = l.segs.length := by rw [h.ok.segs, starts_len]
    rw [hl2, hl1]
    by_cases hf : l.filled < 600
    · rw [h.ok.app1 hw hc kind s hs hf]; exact Nat.le_succ _
    · rw [h.ok.app2 hw hc kind s hs hf]; simp
theorem Mu.note (h : Mu l d fst cs) (hw : d.Well c) (hc : c + 2 < 1099511627776) (kind : Nat) (s : ByteArray) (hs : s.size ≤ 255) (hk : kind < 256) :
    (l.note d kind s).2.2 = 0 ∧ (l.note d kind s).2.1.Well (c + 2) ∧ (l.note d kind s).1.next = l.next + 1 ∧ (l.note d kind s).1.durable ≤ l.next ∧ ∃ cs', Mu (l.note d kind s).1 (l.note d kind s).2.1 fst cs' ∧ cs'.flatten = cs.flatten ++ [⟨l.next, kind, bytesOf s⟩] ∧ cs'.length ≤ cs.length + 1 := by
  obtain ⟨_, a2, a3, a4, a5, a6⟩ := h.append hw hc kind s hs hk
  exact ⟨a2, a3, a4, a5, a6⟩
theorem Mu.syncd (h : Mu l d fst cs) (hw : d.Well c) (hc : c < 1099511627776) : Mu { l with durable := l.next } d.sync.1 fst cs ∧ d.sync.1.Set ∧ d.sync.1.Well (c + 1) := by
  obtain ⟨s1, s2, s3⟩ := syncW hw hc
  have s4 := syncS hw hc h.con
  exact ⟨{ ok := h.ok.synced hw hc _, now := by rw [s3]; exact h.now, con := s4.con, dur := Nat.le_refl _, fine := h.fine }, s4, s2⟩
theorem Mu.keep (h : Mu l d fst cs) (hw : d.Well c) (hc : c + 3 < 1099511627776) (kind : Nat) (s : ByteArray) (hs : s.size ≤ 255) (hk : kind < 256) :
    (l.keep d kind s).2.2 = 0 ∧ (l.keep d kind s).2.1.Well (c + 3) ∧ (l.keep d kind s).2.1.Set ∧ (l.keep d kind s).1.next = l.next + 1 ∧ ∃ cs', Mu (l.keep d kind s).1 (l.keep d kind s).2.1 fst cs' ∧ cs'.flatten = cs.flatten ++ [⟨l.next, kind, bytesOf s⟩] ∧ cs'.length ≤ cs.length + 1 := by
  obtain ⟨a1, a2, a3, a4, cs', a5, a6, a7⟩ := h.note hw (by omega) kind s hs hk
  obtain ⟨b1, b2, b3⟩ := a5.syncd a2 (by omega)
  have e : l.keep d kind s = ({ (l.note d kind s).1 with durable := (l.note d kind s).1.next }, (l.note d kind s).2.1.sync.1, 0) := by
    unfold ALog.keep
    rw [if_pos a1]
    unfold ALog.force
    rw [if_neg (by omega), a5.ok.wrS a2 (by omega)]
  rw [e]
  exact ⟨rfl, b3, b2, a3, cs', b1, a6, a7⟩
theorem Mu.cut (h : Mu l d fst cs) (hw : d.Well c) (hc : c + 6 + l.segs.length < 1099511627776) (low : Nat) :
    (l.cut d low).2.2 = 0 ∧ (l.cut d low).2.1.Well (c + 6 + l.segs.length) ∧ (l.cut d low).2.1.Set ∧ ∃ fst' cs', Mu (l.cut d low).1 (l.cut d low).2.1 fst' cs' ∧ fst ≤ fst' ∧ cs'.flatten = cs.flatten.drop (fst' - fst) ∧ (fst' = fst ∨ fst' + 1 ≤ low) ∧ fst' + cs'.flatten.length = fst + cs.flatten.length ∧ ∀ x, (l.cut d low).1.segs[1]? = some x → low < x := by
  have hA := h.ok.cut hw hc low
  obtain ⟨fst', cs', hL, k1, k2, k3, k4⟩ := hA.log
  have hfine : ∀ r ∈ cs'.flatten, r.kind < 256 ∧ r.pay.length ≤ 255 ∧ Byt r.pay := fun r hr => h.fine r (List.mem_of_mem_drop (by rw [← k2]; exact hr))
  have htwo : ∀ x, (l.cut d low).1.segs[1]? = some x → low < x := fun x hx => (hA.two x hx).1
  by_cases hg : segsBelow l.segs low = 0
  · have e : l.cut d low = ({ l with durable := l.next }, d.sync.1, 0) := by unfold ALog.cut; rw [if_pos hg, h.ok.wrS hw (by omega)]
    obtain ⟨b1, b2, b3⟩ := h.syncd hw (by omega)
    refine ⟨hA.ret, hA.well, by rw [e]; exact b2, fst, cs, by rw [e]; exact b1, Nat.le_refl _, by simp, .inl rfl, rfl, htwo⟩
  · obtain ⟨g, hgd⟩ : ∃ g, g = segsBelow l.segs low := ⟨_, rfl⟩
    rw [← hgd] at hg
    obtain ⟨e1, e2, hgl⟩ := h.ok.cut2 hw hc low g hgd hg
    have hi := h.ok.inside hgl
    have hne := h.ok.ne
    have hdne : cs.drop g ≠ [] := by intro e; have := congrArg List.length e; rw [List.length_drop] at this; simp at this; omega
    have hsg : starts (fst' + 1) cs' = starts (fst + 1 + (cs.take g).flatten.length) (cs.drop g) := by
      rw [← hL.segs, e2, h.ok.segs, starts_drop]
    have efst : fst' = fst + (cs.take g).flatten.length := by
      cases hd : cs.drop g with
      | nil => exact absurd hd hdne
      | cons x r =>
        rw [hd] at hsg
        cases cs' with
        | nil => simp [starts] at hsg
        | cons y r' => simp only [starts, List.cons.injEq] at hsg; omega
    have ecs : cs' = cs.drop g := by
      refine starts_inj _ _ (fst' + 1) (by rw [hsg, efst]; congr 1; omega) ?_
      rw [k2, efst, flat_split g cs, List.drop_left' (by omega)]
    have hpos : 0 < (cs.take g).flatten.length := by
      have h1 : cs.take g = cs[0]'(by omega) :: (cs.take g).drop 1 := by
        cases cs with
        | nil => simp at hgl
        | cons x r =>
          cases g with
          | zero => exact absurd rfl hg
          | succ g => simp
      have h2 : 0 < (cs[0]'(by omega)).length := List.length_pos_iff.2 (hne _ (by simp))
      rw [h1, List.flatten_cons, List.length_append]; omega
    obtain ⟨s1, s2, s3⟩ := syncW hw (by omega)
    have s4 := (syncS hw (by omega) h.con).con
    have hnew : d.sync.1.now markNew = none := by rw [s3, h.now]; exact filesOf_new _ _
    obtain ⟨m1, m2⟩ := setMarkX (fst + 1 + (cs.take g).flatten.length) s2 s4 (by omega) hnew
    obtain ⟨_, m4, m5⟩ := setMarkW (fst + 1 + (cs.take g).flatten.length) s2 (by omega)
    have htl : (starts (fst + 1) (cs.take g)).length = g := by rw [starts_len, List.length_take]; omega
    obtain ⟨hasc, _⟩ := starts_asc (cs.take g) (fst + 1) (fun b hb => hne b (List.mem_of_mem_take hb))
    have hnd : (starts (fst + 1) (cs.take g)).Nodup := hasc.imp (fun {a b} (hab : a < b) => Nat.ne_of_lt hab)
    have hsub : ∀ s ∈ starts (fst + 1) (cs.take g), s ∈ starts (fst + 1) cs := by
      have h2 : ∀ (a b : List (List Rec)) (n : Nat), starts n (a ++ b) = starts n a ++ starts (n + a.flatten.length) b := by
        intro a
        induction a with
        | nil => intro b n; simp [starts]
        | cons x a ih => intro b n; simp only [List.cons_append, starts, ih]; simp [Nat.add_assoc]
      intro s hs
      have h3 : starts (fst + 1) cs = starts (fst + 1) (cs.take g) ++ starts (fst + 1 + (cs.take g).flatten.length) (cs.drop g) := by rw [← h2, List.take_append_drop]
      rw [h3]; simp [hs]
    have hsl : l.segs.length = cs.length := by rw [h.ok.segs, starts_len]
    obtain ⟨r1, r2⟩ := removeAllX (starts (fst + 1) (cs.take g)) m4 m2.con (by omega) hnd (fun s hs => by
      rw [m5, s3]; exact h.ok.files s (by rw [h.ok.segs]; exact hsub s hs))
    refine ⟨hA.ret, hA.well, by rw [e1]; exact r2, fst', cs', { ok := hL, now := ?_, con := by rw [e1]; exact r2.con, dur := ?_, fine := hfine }, k1, k2, k3, k4, htwo⟩
    · rw [e1, r1, m1, s3, h.now, ecs]
      have hf1 : filesOf fst' (cs.drop g) = (segF (fst' + 1) (cs.drop g)).set markNm (some (str (recBytes (fst' + 1) 0 []))) := by
        unfold filesOf; rw [if_neg (by omega)]
      rw [hf1, show fst' + 1 = fst + 1 + (cs.take g).flatten.length by omega, ← segF_drop cs (fst + 1) g hne]
      funext k
      have hmk : ∀ s, markNm ≠ segName s := fun s e => (segName_mark s).1 e.symm
      by_cases h1 : k = markNm
      · subst h1
        have : markNm ∉ (starts (fst + 1) (cs.take g)).map segName := by simp; intro s _ e; exact hmk s e.symm
        rw [Files.less_not _ _ _ this, Files.set_same, Files.set_same]
      · rw [Files.set_other _ _ h1]
        by_cases h2 : k ∈ (starts (fst + 1) (cs.take g)).map segName
        · rw [Files.less_mem _ _ _ h2, Files.less_mem _ _ _ h2]
        · rw [Files.less_not _ _ _ h2, Files.less_not _ _ _ h2, Files.set_other _ _ h1]
          unfold filesOf
          split
          · rename_i e; rw [e]
          · rw [Files.set_other _ _ h1]
    · have e3 : (l.cut d low).1.durable ≤ (l.cut d low).1.next := by
        unfold ALog.cut
        rw [← hgd, if_neg hg]
        simp only
        have hcs : (l.wr d (l.cutS d g (l.segs.getD g 0))).1.durable ≤ (l.wr d (l.cutS d g (l.segs.getD g 0))).1.next := by
          unfold ALog.wr
          rw [if_pos h.ok.fail]
          unfold ALog.cutS
          rw [h.ok.syncs hw (by omega)]
          simp only [if_true]
          split <;> exact Nat.le_refl _
        split
        · exact hcs
        · exact hcs
      exact e3
end
end Go.Proofs.YtejiankgafjppabGreatDoor
/- FEW SEGMENTS, FEW BYTES; a ledger with checkpoints. Mathematics. -/
namespace Go.Proofs.YtejiankgafjppabGreatDoor
open Go.RowKit
open Sc

/-! ### few segments, few bytes -/
theorem starts_lt : ∀ (a : List (List Rec)) (n : Nat), (∀ b ∈ a, b ≠ []) → ∀ x ∈ starts n a, x < n + a.flatten.length := by
  intro a
  induction a with
  | nil => intro n _ x hx; simp [starts] at hx
  | cons b a ih =>
    intro n hb x hx
    have h0 : 0 < b.length := List.length_pos_iff.2 (hb b (by simp))
    simp only [starts, List.mem_cons] at hx
    rcases hx with rfl | hx
    · simp; omega
    · have := ih (n + b.length) (fun y hy => hb y (by simp [hy])) x hx
      simp; simp at this; omega
theorem few_segs {l : ALog} {d : ADisk} {fst low : Nat} {cs : List (List Rec)} (h : LogOk l d fst cs) (h1 : ∀ x, l.segs[1]? = some x → low < x) (h2 : l.next ≤ low + 3) : cs.length ≤ 3 := by
  refine Nat.le_of_not_lt fun hc => ?_
  have hl : l.segs.length = cs.length := by rw [h.segs, starts_len]
  obtain ⟨hasc, _⟩ := starts_asc cs (fst + 1) h.ne
  rw [← h.segs] at hasc
  have a1 := h1 l.segs[1] (List.getElem?_eq_getElem (by omega))
  rw [List.pairwise_iff_getElem] at hasc
  have a2 := hasc 1 2 (by omega) (by omega) (by omega)
  have a3 := hasc 2 3 (by omega) (by omega) (by omega)
  have a4 := starts_lt cs (fst + 1) h.ne l.segs[3] (by rw [← h.segs]; exact List.getElem_mem _)
  have := h.next
  omega
/-- the names of a log's files -/
def namesF (fst : Nat) (cs : List (List Rec)) : List ByteArray := (if fst = 0 then [] else [markNm]) ++ (starts (fst + 1) cs).map segName
theorem namesF_all (fst : Nat) (cs : List (List Rec)) (k : ByteArray) : filesOf fst cs k ≠ none ↔ k ∈ namesF fst cs := by
  unfold namesF
  constructor
  · intro h
    rw [List.mem_append]
    by_cases h1 : k = markNm
    · left
      subst h1
      by_cases h0 : fst = 0
      · unfold filesOf at h; rw [if_pos h0] at h; exact absurd (segF_mark cs 1).1 h
      · simp [h0]
    · right
      rw [List.mem_map]
      refine Classical.byContradiction fun hn => ?_
      have : segF (fst + 1) cs k = none := segF_none cs _ k (fun s hs e => hn ⟨s, hs, e.symm⟩)
      unfold filesOf at h
      split at h
      · rename_i h0; subst h0; exact h this
      · rw [Files.set_other _ _ h1] at h; exact h this
  · intro h
    rcases List.mem_append.1 h with h | h
    · by_cases h0 : fst = 0
      · simp [h0] at h
      · simp [h0] at h
        subst h
        unfold filesOf
        rw [if_neg h0, Files.set_same]; simp
    · obtain ⟨s, hs, rfl⟩ := List.mem_map.1 h
      rw [filesOf_seg]
      exact segF_some cs _ s hs
/-- what a file weighs, with its name -/
def weigh (m : Files) (k : ByteArray) : Nat := k.size + ((m k).getD ByteArray.empty).size
def weighs (m : Files) (l : List ByteArray) : Nat := (l.map (weigh m)).sum
theorem weighs_cons (m : Files) (x : ByteArray) (l : List ByteArray) : weighs m (x :: l) = weigh m x + weighs m l := by simp [weighs]
theorem weighs_app (m : Files) (a b : List ByteArray) : weighs m (a ++ b) = weighs m a + weighs m b := by simp [weighs]
theorem weighs_sub (m : Files) : ∀ (ss L : List ByteArray), ss.Nodup → (∀ k ∈ ss, k ∈ L) → weighs m ss ≤ weighs m L
  | [], _, _, _ => by simp [weighs]
  | x :: ss, L, hn, hs => by
    obtain ⟨a, b, rfl⟩ := List.append_of_mem (hs x (by simp))
    obtain ⟨h1, h2⟩ := List.nodup_cons.1 hn
    have := weighs_sub m ss (a ++ b) h2 (fun k hk => by
      have := hs k (by simp [hk])
      simp at this ⊢
      rcases this with h | h | h
      · exact .inl h
      · subst h; exact absurd hk h1
      · exact .inr h)
    rw [weighs_cons, weighs_app, weighs_cons]
    rw [weighs_app] at this
    omega
theorem encR_bytes (rs : List Rec) : (encR rs).length = bytesR rs := by
  induction rs with
  | nil => rfl
  | cons r rs ih => simp only [encR, List.flatMap_cons, List.length_append, recBytes_len] at *; rw [ih]; simp [bytesR]
theorem segF_size : ∀ (cs : List (List Rec)) (n s : Nat) (t : ByteArray), (∀ c ∈ cs, bytesR c < 870) → segF n cs (segName s) = some t → t.size ≤ 869
  | [], _, _, _, _, h => by simp [segF] at h
  | c :: cs, n, s, t, hc, h => by
    rw [segF] at h
    unfold Files.set at h
    split at h
    · simp at h
      subst h
      rw [str_size, encR_bytes]
      have := hc c (by simp)
      omega
    · exact segF_size cs _ s t (fun x hx => hc x (by simp [hx])) h
theorem weighs_all (fst : Nat) (cs : List (List Rec)) (hc : ∀ c ∈ cs, bytesR c < 870) (h3 : cs.length ≤ 3) (h64 : ∀ s ∈ starts (fst + 1) cs, s < 18446744073709551616) : weighs (filesOf fst cs) (namesF fst cs) ≤ 2710 := by
  unfold namesF
  rw [weighs_app]
  have h1 : weighs (filesOf fst cs) (if fst = 0 then [] else [markNm]) ≤ 19 := by
    by_cases h0 : fst = 0
    · simp [h0, weighs]
    · simp only [h0, if_false]
      rw [weighs_cons]
      have : filesOf fst cs markNm = some (str (recBytes (fst + 1) 0 [])) := by unfold filesOf; rw [if_neg h0, Files.set_same]
      unfold weigh
      rw [this]
      simp only [Option.getD_some, str_size, recBytes_len, List.length_nil]
      have hm : markNm.size = 4 := rfl
      simp [weighs, hm]
  have h2 : ∀ (ss : List Nat), (∀ s ∈ ss, s < 18446744073709551616) → weighs (filesOf fst cs) (ss.map segName) ≤ 897 * ss.length := by
    intro ss
    induction ss with
    | nil => intro _; simp [weighs]
    | cons s ss ih =>
      intro hs
      have h0 := ih (fun x hx => hs x (by simp [hx]))
      rw [List.map_cons, weighs_cons, List.length_cons]
      have hz := segName_size s (hs s (by simp))
      have hw : weigh (filesOf fst cs) (segName s) ≤ 897 := by
        unfold weigh
        rw [filesOf_seg]
        cases ht : segF (fst + 1) cs (segName s) with
        | none => simp; omega
        | some t => have := segF_size cs _ s t hc ht; simp; omega
      omega
  have h4 := h2 (starts (fst + 1) cs) h64
  rw [starts_len] at h4
  have : 897 * cs.length ≤ 897 * 3 := Nat.mul_le_mul_left _ h3
  omega
/-! ### a ledger's checkpoints -/
/-- between which numbers the last checkpoint stands: (the last that began, begin, end) -/
def cpStep (x : Nat × Nat × Nat) (r : Rec) : Nat × Nat × Nat := if r.kind = 254 then (r.lsn, x.2) else if r.kind = 255 ∧ 0 < x.1 then (x.1, x.1, r.lsn) else x
def cpOf (rs : List Rec) : Nat × Nat × Nat := rs.foldl cpStep (0, 0, 0)
theorem cpOf_snoc (rs : List Rec) (r : Rec) : cpOf (rs ++ [r]) = cpStep (cpOf rs) r := by simp [cpOf]
/-- the records that count -/
def counts (b e : Nat) (r : Rec) : Bool := (decide (r.kind < 128) && decide (e < r.lsn)) || (decide (b < r.lsn) && decide (r.lsn < e))
/-- those of a ledger -/
def counted (rs : List Rec) : List Rec := rs.filter (counts (cpOf rs).2.1 (cpOf rs).2.2)
/-- what a checkpoint leaves: three records at the end -/
theorem counted_ck (rs : List Rec) (b : Nat) (pay : List Nat) (hb : 0 < b) (hlt : ∀ r ∈ rs, r.lsn < b) : cpOf (rs ++ [⟨b, 254, []⟩, ⟨b + 1, 132, pay⟩, ⟨b + 2, 255, []⟩]) = (b, b, b + 2) ∧ counted (rs ++ [⟨b, 254, []⟩, ⟨b + 1, 132, pay⟩, ⟨b + 2, 255, []⟩]) = [⟨b + 1, 132, pay⟩] := by
  have e1 : cpOf (rs ++ [⟨b, 254, []⟩, ⟨b + 1, 132, pay⟩, ⟨b + 2, 255, []⟩]) = (b, b, b + 2) := by
    unfold cpOf
    rw [List.foldl_append]
    simp [cpStep, hb]
  refine ⟨e1, ?_⟩
  unfold counted
  rw [e1, List.filter_append]
  have e2 : rs.filter (counts b (b + 2)) = [] := by
    rw [List.filter_eq_nil_iff]
    intro r hr
    have := hlt r hr
    unfold counts
    have h1 : ¬ b + 2 < r.lsn := by omega
    have h2 : ¬ b < r.lsn := by omega
    simp [h1, h2]
  simp only
  rw [e2]
  have c1 : counts b (b + 2) ⟨b, 254, []⟩ = false := by simp [counts]
  have c2 : counts b (b + 2) ⟨b + 1, 132, pay⟩ = true := by simp [counts]
  have c3 : counts b (b + 2) ⟨b + 2, 255, []⟩ = false := by simp [counts]
  simp [c1, c2, c3]
/-- a log as it is read -/
def logM (fst : Nat) (cs : List (List Rec)) : ALog := ⟨starts (fst + 1) cs, bytesR (cs.getLastD []), cs.flatten, fst + 1 + cs.flatten.length, 0, 0⟩
end Go.Proofs.YtejiankgafjppabGreatDoor
