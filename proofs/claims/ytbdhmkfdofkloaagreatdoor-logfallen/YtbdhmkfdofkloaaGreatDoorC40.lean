import Derived.Test.YtbdhmkfdofkloaaGreatDoorC38
import Derived.Test.YtbdhmkfdofkloaaGreatDoorC39
import Derived.Deep.CutRange
/- THE BOOK IN MEMORY, over a host that may fall. -/
namespace Go.Proofs.YtbdhmkfdofkloaaGreatDoor
open Go.RowKit
open Sc

/-- the host, with what its log is -/
def HLo (w : World) (B hp p bD bN : Nat) (lo : Option Nat) (o : Option ALog) (d : ADisk) (n : Nat) : Prop :=
  (∃ lp l, lo = some lp ∧ o = some l ∧ HostIn w B hp lp p bD bN l d n) ∨ (lo = none ∧ o = none ∧ HostCl w B hp p bD bN d n)
/-- the book's own memory -/
structure BkM (w : World) (B bp hp p : Nat) (lo : Option Nat) (av mv : Value) (b : ABook) (M : List Rec) (sk hu : Bool) : Prop where
  base : B ≤ bp ∧ B ≤ hp
  blk : w.heap[bp]? = some (bookG hp av mv b sk hu)
  all : w.ownsRow B 44 3 av b.all.length (recsV b.all)
  may : w.ownsRow B 44 3 mv M.length (recsV M)
  sepB : ¬ OwnHo hp p lo w bp
  sepA : ∀ k, av.ownBlock = some k → ¬ OwnHo hp p lo w k
  sepM : ∀ k, mv.ownBlock = some k → ¬ OwnHo hp p lo w k
  ne : ∀ k, av.ownBlock = some k → mv.ownBlock ≠ some k
  len : b.all.length ≤ 1048576
  nums : b.forced ≤ 1048576 ∧ b.low < 18446744073709551616 ∧ b.must < 18446744073709551616 ∧ b.tries < 18446744073709551616
theorem DiskIn.ltD {w : World} {B p bD bN n nD nN k : Nat} {pv : Value} {d : ADisk} (h : DiskIn w B p bD bN pv d n nD nN) (hk : OwnD p w k) : k < w.heap.size := by
  have := (h.ownD k).1 hk
  simp at this
  rcases this with e | e | e | e
  · rw [e]; exact (Array.getElem?_eq_some_iff.1 h.blk).1
  · rw [e]; exact h.dur.lt
  · rw [e]; exact h.now.lt
  · exact (h.pen.lt k e).2
/-- the steps of a script that lie about stay -/
def Stp (w w' : World) : Prop := ∀ (q : Nat) (c : Array Value), w.heap[q]? = some (.cells c 51 (0, 0)) → w'.heap[q]? = some (.cells c 51 (0, 0))
structure BlS (B : Nat) (w w' : World) : Prop where
  bel : Below B w w'
  stp : Stp w w'
theorem BlS.trans {B : Nat} {a b c : World} (h : BlS B a b) (k : BlS B b c) : BlS B a c := ⟨h.bel.trans k.bel, fun q x hq => k.stp q x (h.stp q x hq)⟩
theorem BlS.drew {B : Nat} {a b : World} (h : BlS B a b) : BlS B a b.drew := ⟨h.bel.drew, fun q x hq => h.stp q x hq⟩
theorem Fr.blS {S : List Nat} {B : Nat} {w w' : World} (hf : Fr S w w') (hb : B ≤ w.heap.size) (hS : ∀ k ∈ S, B ≤ k) (hS2 : ∀ k ∈ S, ∃ c t f, w.heap[k]? = some (.cells c t f) ∧ t ≠ 51) : BlS B w w' :=
  ⟨hf.below hb hS, fun q c hq => (hf.block q (Array.getElem?_eq_some_iff.1 hq).1 (fun hm => by
    obtain ⟨c', t, f, h1, h2⟩ := hS2 q hm
    rw [hq] at h1
    cases h1
    exact h2 rfl)).trans hq⟩
theorem Fr.blN {B : Nat} {w w' : World} (hf : Fr [] w w') (hb : B ≤ w.heap.size) : BlS B w w' := hf.blS hb (by simp) (by simp)
theorem HEi.blS {w w' : World} {B hp p bD bN n : Nat} {lo lo' : Option Nat} {d : ADisk} (h : HEi w B hp p bD bN lo d n) (hh : B ≤ hp) (hf : HFr hp p lo lo' w w') : BlS B w w' :=
  ⟨h.below hh hf, fun q _ hq => (hf.block q (Array.getElem?_eq_some_iff.1 hq).1 (h.step hq)).trans hq⟩
section
variable {w w' : World} {B bp hp p bD bN n : Nat} {lo lo' : Option Nat} {o : Option ALog} {d : ADisk} {av mv : Value} {b b' : ABook} {M : List Rec} {sk sk' hu hu' : Bool} {S : List Nat}
theorem HLo.ei (h : HLo w B hp p bD bN lo o d n) : HEi w B hp p bD bN lo d n := by
  rcases h with ⟨lp, l, h1, _, h⟩ | ⟨h1, _, h⟩
  · exact .inl ⟨lp, l, h1, h⟩
  · exact .inr ⟨h1, h⟩
theorem HLo.mores (h : HLo w B hp p bD bN lo o d n) {m : Nat} (hm : n ≤ m) (hm2 : m ≤ 1000000000) : HLo w B hp p bD bN lo o d m := by
  rcases h with ⟨lp, l, h1, h2, hh', pv', sv', rv', nD', nN', hl'⟩ | ⟨h1, h2, h⟩
  · exact .inl ⟨lp, l, h1, h2, hh', pv', sv', rv', nD', nN', hl'.mores hm hm2⟩
  · exact .inr ⟨h1, h2, h.mores hm hm2⟩
theorem HLo.foreign (h : HLo w B hp p bD bN lo o d n) (hf : Fr S w w') (hS : ∀ k ∈ S, ¬ OwnHo hp p lo w k ∧ ∀ t, w.heap[k]? ≠ some (textO t)) : HLo w' B hp p bD bN lo o d n ∧ ∀ k, OwnHo hp p lo w' k → OwnHo hp p lo w k := by
  rcases h with ⟨lp, l, rfl, h2, hh, pv, sv, rv, nD, nN, hl⟩ | ⟨rfl, h2, hh, pv, nD, nN, hd⟩
  · have hS' : ∀ k ∈ S, ¬ Own lp p w k ∧ ∀ t, w.heap[k]? ≠ some (textO t) := fun k hk => ⟨fun ho => (hS k hk).1 ((ownHo_some k).2 (.inr ho)), (hS k hk).2⟩
    have hl' := hl.foreign hf hS'
    have hne : hp ∉ S := fun hm => (hS hp hm).1 (.inl rfl)
    refine ⟨.inl ⟨lp, l, rfl, h2, (hf.block hp (Array.getElem?_eq_some_iff.1 hh).1 hne).trans hh, pv, sv, rv, nD, nN, hl'⟩, fun k hk => ?_⟩
    rcases (ownHo_some k).1 hk with e | e
    · exact .inl e
    · refine (ownHo_some k).2 (.inr ?_)
      rw [hl.own]; rw [hl'.own] at e; exact e
  · have key : ∀ k, OwnD p w k → k ∉ S := fun k hk hm => (hS k hm).1 ((ownHo_none k).2 (.inr hk))
    have hd' := hd.fr hf (key p ((hd.ownD p).2 (by simp))) (key bD ((hd.ownD bD).2 (by simp))) (key bN ((hd.ownD bN).2 (by simp))) (fun g hg => key g ((hd.ownD g).2 (by simp [hg]))) (fun q hq => (hS q hq).2)
    have hne : hp ∉ S := fun hm => (hS hp hm).1 (.inl rfl)
    refine ⟨.inr ⟨rfl, h2, (hf.block hp (Array.getElem?_eq_some_iff.1 hh).1 hne).trans hh, pv, nD, nN, hd'⟩, fun k hk => ?_⟩
    rcases (ownHo_none k).1 hk with e | e
    · exact .inl e
    · refine (ownHo_none k).2 (.inr ?_)
      rw [hd.ownD]; rw [hd'.ownD] at e; exact e
theorem HLo.new (h : HLo w B hp p bD bN lo o d n) (hf : Fr [] w w') : HLo w' B hp p bD bN lo o d n ∧ HFr hp p lo lo w w' := by
  refine ⟨(h.foreign hf (by simp)).1, (h.ei.new hf).2⟩
theorem HLo.base (h : HLo w B hp p bD bN lo o d n) : B ≤ w.heap.size := h.ei.base
/-- a call of the host -/
theorem BkM.hfr (h : BkM w B bp hp p lo av mv b M sk hu) (hf : HFr hp p lo lo' w w') : BkM w' B bp hp p lo' av mv b M sk hu := by
  have hbl := (Array.getElem?_eq_some_iff.1 h.blk).1
  have row : ∀ {v : Value} {n : Nat} {xs : List Value}, w.ownsRow B 44 3 v n xs → (∀ k, v.ownBlock = some k → ¬ OwnHo hp p lo w k) → w'.ownsRow B 44 3 v n xs := fun {v n xs} hr hs => by
    refine ⟨hr.1, ?_⟩
    rcases hr.2 with h1 | ⟨g, cap, cur, rfl, h2, h3, h4⟩
    · exact .inl h1
    · exact .inr ⟨g, cap, cur, rfl, h2, (hf.block g (Array.getElem?_eq_some_iff.1 h3).1 (hs g rfl)).trans h3, h4⟩
  exact ⟨h.base, (hf.block bp hbl h.sepB).trans h.blk, row h.all h.sepA, row h.may h.sepM, fun ho => h.sepB (hf.stay bp hbl ho), fun k hk ho => h.sepA k hk (hf.stay k (h.all.lt k hk).2 ho), fun k hk ho => h.sepM k hk (hf.stay k (h.may.lt k hk).2 ho), h.ne, h.len, h.nums⟩
theorem BkM.text (h : BkM w B bp hp p lo av mv b M sk hu) : ∀ t, w.heap[bp]? ≠ some (textO t) := fun t => by rw [h.blk]; intro e; cases e
/-- the book's own block alone was written -/
theorem BkM.set (h : BkM w B bp hp p lo av mv b M sk hu) (hl : HLo w B hp p bD bN lo o d n) (hf : Fr [bp] w w') (hb : w'.heap[bp]? = some (bookG hp av mv b' sk' hu')) (e : b'.all = b.all) (hn : b'.forced ≤ 1048576 ∧ b'.low < 18446744073709551616 ∧ b'.must < 18446744073709551616 ∧ b'.tries < 18446744073709551616) : HLo w' B hp p bD bN lo o d n ∧ BkM w' B bp hp p lo av mv b' M sk' hu' ∧ BlS B w w' := by
  obtain ⟨h1, h2⟩ := hl.foreign hf (by intro k hk; simp at hk; subst hk; exact ⟨h.sepB, h.text⟩)
  have hA : ∀ g, av.ownBlock = some g → g ∉ [bp] := fun g hg => by simp; intro e; subst e; exact own_ne h.all h.blk (by decide) hg
  have hM : ∀ g, mv.ownBlock = some g → g ∉ [bp] := fun g hg => by simp; intro e; subst e; exact own_ne h.may h.blk (by decide) hg
  exact ⟨h1, ⟨h.base, hb, by rw [e]; exact ownsRow_fr h.all hf hA, ownsRow_fr h.may hf hM, fun ho => h.sepB (h2 _ ho), fun k hk ho => h.sepA k hk (h2 _ ho), fun k hk ho => h.sepM k hk (h2 _ ho), h.ne, by rw [e]; exact h.len, hn⟩, hf.blS hl.base (by intro k hk; simp at hk; rw [hk]; exact h.base.1) (by intro k hk; simp at hk; rw [hk]; exact ⟨_, _, _, h.blk, by decide⟩)⟩
theorem HLo.old (hl : HLo w B hp p bD bN lo o d n) {w1 : World} (hf1 : Fr [] w w1) : ∀ k, OwnHo hp p lo w1 k → k < w.heap.size := fun k hk => by
  have hk0 : OwnHo hp p lo w k := (hl.foreign hf1 (by simp)).2 k hk
  rcases hl with ⟨lp, l, rfl, _, hh, pv, sv, rv, nD, nN, hlg⟩ | ⟨rfl, _, hh, pv, nD, nN, hd⟩
  · rcases (ownHo_some k).1 hk0 with e | e
    · rw [e]; exact (Array.getElem?_eq_some_iff.1 hh).1
    · exact hlg.ltO e
  · rcases (ownHo_none k).1 hk0 with e | e
    · rw [e]; exact (Array.getElem?_eq_some_iff.1 hh).1
    · exact hd.ltD e
/-- other records in place of the book's: a row that is new -/
theorem BkM.setAnew (h : BkM w B bp hp p lo av mv b M sk hu) (hl : HLo w B hp p bD bN lo o d n) {w1 : World} {v : Value} {A : List Rec} (hf1 : Fr [] w w1) (hr : w1.ownsRow w.heap.size 44 3 v A.length (recsV A)) (hf : Fr [bp] w1 w') (hb : w'.heap[bp]? = some (bookG hp v (.slice none 0 0) b' sk' hu')) (e : b'.all = A) (hA : A.length ≤ 1048576) (hn : b'.forced ≤ 1048576 ∧ b'.low < 18446744073709551616 ∧ b'.must < 18446744073709551616 ∧ b'.tries < 18446744073709551616) : HLo w' B hp p bD bN lo o d n ∧ BkM w' B bp hp p lo v (.slice none 0 0) b' [] sk' hu' ∧ Below B w w' := by
  obtain ⟨hl1, hr1⟩ := hl.new hf1
  have h1 := h.hfr hr1
  obtain ⟨h2, h3⟩ := hl1.foreign hf (by intro k hk; simp at hk; subst hk; exact ⟨h1.sepB, h1.text⟩)
  have hV : ∀ g, v.ownBlock = some g → g ∉ [bp] := fun g hg => by simp; intro e; subst e; exact own_ne hr h1.blk (by decide) hg
  have hbs := hl.base
  have old := hl.old hf1
  refine ⟨h2, ⟨h.base, hb, ?_, World.ownsRow_nil _ _ _ _, fun ho => h1.sepB (h3 _ ho), fun k hk ho => ?_, fun k hk => (by cases hk), fun k _ hm => (by cases hm), by rw [e]; exact hA, hn⟩, (hf1.below hbs (by simp)).trans (hf.below (Nat.le_trans hbs hf1.size) (by intro k hk; simp at hk; rw [hk]; exact h.base.1))⟩
  · rw [e]; exact Joins.ownsRow_le (ownsRow_fr hr hf hV) hbs
  · have := old k (h3 _ ho); have := (hr.lt k hk).1; omega
/-- what a call that failed would have appended -/
theorem BkM.setMay (h : BkM w B bp hp p lo av mv b M sk hu) (hl : HLo w B hp p bD bN lo o d n) {w1 : World} {v : Value} {A : List Rec} (hf1 : Fr [] w w1) (hr : w1.ownsRow w.heap.size 44 3 v A.length (recsV A)) (hf : Fr [bp] w1 w') (hb : w'.heap[bp]? = some (bookG hp av v b sk hu)) : HLo w' B hp p bD bN lo o d n ∧ BkM w' B bp hp p lo av v b A sk hu ∧ BlS B w w' := by
  obtain ⟨hl1, hr1⟩ := hl.new hf1
  have h1 := h.hfr hr1
  obtain ⟨h2, h3⟩ := hl1.foreign hf (by intro k hk; simp at hk; subst hk; exact ⟨h1.sepB, h1.text⟩)
  have hM : ∀ g, av.ownBlock = some g → g ∉ [bp] := fun g hg => by simp; intro e; subst e; exact own_ne h1.all h1.blk (by decide) hg
  have hV : ∀ g, v.ownBlock = some g → g ∉ [bp] := fun g hg => by simp; intro e; subst e; exact own_ne hr h1.blk (by decide) hg
  have hbs := hl.base
  have old := hl.old hf1
  refine ⟨h2, ⟨h.base, hb, ownsRow_fr h1.all hf hM, Joins.ownsRow_le (ownsRow_fr hr hf hV) hbs, fun ho => h1.sepB (h3 _ ho), fun k hk ho => h1.sepA k hk (h3 _ ho), fun k hk ho => ?_, fun k hk hm => ?_, h.len, h.nums⟩, (hf1.blN hbs).trans (hf.blS (Nat.le_trans hbs hf1.size) (by intro k hk; simp at hk; rw [hk]; exact h.base.1) (by intro k hk; simp at hk; rw [hk]; exact ⟨_, _, _, h1.blk, by decide⟩))⟩
  · have := old k (h3 _ ho); have := (hr.lt k hk).1; omega
  · have := (h.all.lt k hk).2; have := (hr.lt k hm).1; omega
/-- a record more -/
theorem BkM.allApp (h : BkM w B bp hp p lo av mv b M sk hu) (hl : HLo w B hp p bD bN lo o d n) {w4 : World} {v4 : Value} {ob : Obj} {r : Rec} (hg : (w.alloc ob).drew.grownBy w4 av.ownBlock) (ho : w4.ownsRow B 44 3 v4 (b.all.length + 1) (recsV (b.all ++ [r]))) (hnr : Near w.heap.size av v4) (hlen : b.all.length + 1 ≤ 1048576) :
    HLo (w4.setCell ⟨bp, 1, none⟩ v4) B hp p bD bN lo o d n ∧ BkM (w4.setCell ⟨bp, 1, none⟩ v4) B bp hp p lo v4 mv { b with all := b.all ++ [r] } M sk hu ∧ BlS B w (w4.setCell ⟨bp, 1, none⟩ v4) := by
  have hbpl := (Array.getElem?_eq_some_iff.1 h.blk).1
  have hfg : Fr av.ownBlock.toList w w4 := (((Fr.refl _ w).alloc _).drew).trans (Fr.of_grown hg)
  have hb4 : w4.heap[bp]? = some (bookG hp av mv b sk hu) := (hfg.block bp hbpl (by simp; exact own_ne h.all h.blk (by decide))).trans h.blk
  obtain ⟨W, hW⟩ : ∃ W, W = w4.setCell ⟨bp, 1, none⟩ v4 := ⟨_, rfl⟩
  rw [← hW]
  have hfw : Fr [bp] w4 W := by rw [hW]; exact Fr.set1 (by simp) _ _
  have hf : Fr (bp :: av.ownBlock.toList) w W := (hfg.mono (fun k _ hk => List.mem_cons_of_mem _ hk)).trans (hfw.mono (by intro k _ hk; simp at hk; simp [hk]))
  have hb : W.heap[bp]? = some (bookG hp v4 mv { b with all := b.all ++ [r] } sk hu) := by
    rw [hW]
    have := blk_set hb4 1 v4
    simp at this ⊢
    exact this
  have hr : W.ownsRow B 44 3 v4 (b.all ++ [r]).length (recsV (b.all ++ [r])) := by
    have := ownsRow_fr ho hfw (fun g hg => by simp; intro e; subst e; exact own_ne ho hb4 (by decide) hg)
    simpa using this
  have hS : ∀ k ∈ bp :: av.ownBlock.toList, ¬ OwnHo hp p lo w k ∧ ∀ t, w.heap[k]? ≠ some (textO t) := by
    intro k hk
    rcases List.mem_cons.1 hk with e | hk
    · subst e
      exact ⟨h.sepB, h.text⟩
    · simp at hk
      obtain ⟨c, hc⟩ := own_cells h.all hk
      exact ⟨h.sepA k hk, fun t => by rw [hc]; intro e; cases e⟩
  obtain ⟨h2, h3⟩ := hl.foreign hf hS
  have hM : ∀ g, mv.ownBlock = some g → g ∉ bp :: av.ownBlock.toList := fun g hg hm => by
    rcases List.mem_cons.1 hm with e | hm
    · subst e; exact own_ne h.may h.blk (by decide) hg
    · simp at hm; exact h.ne g hm hg
  have hold := hl.old (Fr.refl [] w)
  refine ⟨h2, ⟨h.base, hb, hr, ownsRow_fr h.may hf hM, fun ho => h.sepB (h3 _ ho), fun k hk ho => ?_, fun k hk ho => h.sepM k hk (h3 _ ho), fun k hk hm => ?_, by simpa using hlen, h.nums⟩, hf.blS hl.base ?_ ?_⟩
  · rcases hnr k hk with e | e
    · exact h.sepA k e (h3 _ ho)
    · have := hold k (h3 _ ho); omega
  · rcases hnr k hk with e | e
    · exact h.ne k e hm
    · have := (h.may.lt k hm).2; omega
  · intro k hk
    rcases List.mem_cons.1 hk with e | hk
    · rw [e]; exact h.base.1
    · simp at hk; exact (h.all.lt k hk).1
  · intro k hk
    rcases List.mem_cons.1 hk with e | hk
    · rw [e]; exact ⟨_, _, _, h.blk, by decide⟩
    · simp at hk
      obtain ⟨c, hc⟩ := own_cells h.all hk
      exact ⟨_, _, _, hc, by decide⟩
theorem BkM.look (h : BkM w B bp hp p lo av mv b M sk hu) {lp : Nat} {l : ALog} (hh : HostIn w B hp lp p bD bN l d n) : LookIn w B bp hp lp p bD bN av b l d n := by
  have c0 := blk_cell h.blk 0
  have c1 := blk_cell h.blk 1
  have c3 := blk_cell h.blk 3
  have c4 := blk_cell h.blk 4
  simp at c0 c1 c3 c4
  exact ⟨hh, (Array.getElem?_eq_some_iff.1 h.blk).1, c0, c1, c3, c4, h.all, h.len, h.nums.2.2.1⟩
end
end Go.Proofs.YtbdhmkfdofkloaaGreatDoor
/- A HOST'S CALLS, whatever its disk does. -/
namespace Go.Proofs.YtbdhmkfdofkloaaGreatDoor
open Go.RowKit
open Sc

/-- what stands behind a host's call -/
def HoX (B hp p bD n : Nat) (lo : Option Nat) (v : Value) (l : ALog) (d : ADisk) (w : World) (e : Ending) (w' : World) : Prop :=
  e = .returned v ∧ ∃ bN' lo' o' d', After l d (-1) (-1) o' d' ∧ HLo w' B hp p bD bN' lo' o' d' n ∧ HFr hp p lo lo' w w'
section
variable {w : World} {B hp p bD bN n : Nat} {lo : Option Nat} {l : ALog} {d : ADisk}
theorem hAppX (kind : Nat) (s : ByteArray) (a b c k : Int) (h : HLo w B hp p bD bN lo (some l) d n) (hB : 2 ≤ B) (hhp : B ≤ hp) (hmet : Met w) (hpow : Pows w) (hk : kind < 256) (hn : n + 3 < 1000000000) (hsg : l.filled < 600 → l.segs ≠ []) (hk1 : -9223372036854775808 ≤ k) (hk2 : k ≤ 9223372036854775807) :
    Calls Tryz.prog 9 #[.pointer (some ⟨hp, 0, none⟩), .int .u8 (kind : Int), .string s, fallV a b c k] w
      (HoX B hp p bD (n + 3) lo (.tuple #[.int .u64 ((l.append (d.knob a b) kind s).2.2.1 : Int), .int .i64 ((l.append (d.knob a b) kind s).2.2.2 : Int)]) (l.append (d.knob a b) kind s).1 (l.append (d.knob a b) kind s).2.1 w) := by
  rcases h with ⟨lp, l, rfl, e, h⟩ | ⟨_, e, _⟩
  · cases e
    cases hdn : (l.append (d.knob a b) kind s).2.1.down with
    | false =>
      refine (hAppend B hp lp p bD bN n kind s l d a b c k w h hB hmet hk hn hsg hpow hdn).mono ?_
      rintro e w' ⟨he, hh, ho⟩
      exact ⟨he, bN, some lp, _, _, .inl ⟨hdn, rfl, rfl⟩, .inl ⟨lp, _, rfl, rfl, hh⟩, ho.hfr⟩
    | true =>
      refine (hAppendD B hp lp p bD bN n kind s l d a b c k w h hB hmet hk hn hsg hpow hdn hhp hk1 hk2).mono ?_
      rintro e w' ⟨he, F', bN', hF, hh, ho⟩
      exact ⟨he, bN', none, none, _, .inr ⟨hdn, rfl, F', hF, rfl⟩, .inr ⟨rfl, rfl, hh⟩, ho⟩
  · cases e
theorem hForX (a b c k : Int) (h : HLo w B hp p bD bN lo (some l) d n) (hB : 2 ≤ B) (hhp : B ≤ hp) (hmet : Met w) (hn : n ≤ 1000000000) (hk1 : -9223372036854775808 ≤ k) (hk2 : k ≤ 9223372036854775807) :
    Calls Tryz.prog 10 #[.pointer (some ⟨hp, 0, none⟩), fallV a b c k] w
      (HoX B hp p bD n lo (.int .i64 ((l.force (d.knob a b)).2.2 : Int)) (l.force (d.knob a b)).1 (l.force (d.knob a b)).2.1 w) := by
  rcases h with ⟨lp, l, rfl, e, h⟩ | ⟨_, e, _⟩
  · cases e
    cases hdn : (l.force (d.knob a b)).2.1.down with
    | false =>
      refine (hForce B hp lp p bD bN n l d a b c k w h hB hmet hn hdn).mono ?_
      rintro e w' ⟨he, hh, ho⟩
      exact ⟨he, bN, some lp, _, _, .inl ⟨hdn, rfl, rfl⟩, .inl ⟨lp, _, rfl, rfl, hh⟩, ho.hfr⟩
    | true =>
      refine (hForceD B hp lp p bD bN n l d a b c k w h hB hmet hn hdn hhp hk1 hk2).mono ?_
      rintro e w' ⟨he, F', bN', hF, hh, ho⟩
      exact ⟨he, bN', none, none, _, .inr ⟨hdn, rfl, F', hF, rfl⟩, .inr ⟨rfl, rfl, hh⟩, ho⟩
  · cases e
theorem hCutX (low : Nat) (a b c k : Int) (h : HLo w B hp p bD bN lo (some l) d n) (hB : 2 ≤ B) (hhp : B ≤ hp) (hmet : Met w) (hpow : Pows w) (hn : n + 2 + l.segs.length ≤ 1000000000) (hinv : l.failed = 0 → ∀ k s : Nat, l.segs[k]? = some s → ∃ r rs, l.recs = r :: rs ∧ r.lsn ≤ s ∧ s - r.lsn < l.recs.length) (hk1 : -9223372036854775808 ≤ k) (hk2 : k ≤ 9223372036854775807) :
    Calls Tryz.prog 37 #[.pointer (some ⟨hp, 0, none⟩), .int .u64 (low : Int), fallV a b c k] w
      (HoX B hp p bD (n + 2 + l.segs.length) lo (.int .i64 ((l.cut (d.knob a b) low).2.2 : Int)) (l.cut (d.knob a b) low).1 (l.cut (d.knob a b) low).2.1 w) := by
  rcases h with ⟨lp, l, rfl, e, h⟩ | ⟨_, e, _⟩
  · cases e
    cases hdn : (l.cut (d.knob a b) low).2.1.down with
    | false =>
      refine (hCut B hp lp p bD bN n low l d a b c k w h hB hmet hn hpow hinv hdn).mono ?_
      rintro e w' ⟨he, hh, ho⟩
      exact ⟨he, bN, some lp, _, _, .inl ⟨hdn, rfl, rfl⟩, .inl ⟨lp, _, rfl, rfl, hh⟩, ho.hfr⟩
    | true =>
      refine (hCutD B hp lp p bD bN n low l d a b c k w h hB hmet hn hpow hinv hdn hhp hk1 hk2).mono ?_
      rintro e w' ⟨he, F', bN', hF, hh, ho⟩
      exact ⟨he, bN', none, none, _, .inr ⟨hdn, rfl, F', hF, rfl⟩, .inr ⟨rfl, rfl, hh⟩, ho⟩
  · cases e
end
end Go.Proofs.YtbdhmkfdofkloaaGreatDoor
/- (*book).step over a disk that may fail: Force. -/
namespace Go.Proofs.YtbdhmkfdofkloaaGreatDoor
open Go.RowKit
open Sc

/-- what stands behind a step -/
def StX (B bp hp p bD n K : Nat) (sk : Bool) (w : World) (e : Ending) (w' : World) : Prop :=
  e = .returned (.bool true) ∧ BlS B w w' ∧ ∃ bN' lo' o' d' av' mv' b' M' hu', HLo w' B hp p bD bN' lo' o' d' n ∧ BkM w' B bp hp p lo' av' mv' b' M' sk hu' ∧ BSt o' d' b' M' sk hu' ∧ b'.all.length + M'.length ≤ K
set_option maxRecDepth 100000 in
set_option maxHeartbeats 8000000 in
theorem stepX_force {w : World} {B bp hp p bD bN n : Nat} {lo : Option Nat} {l : ALog} {d : ADisk} {av mv : Value} {b : ABook} {M : List Rec} {sk hu : Bool} (txn x y : Nat) (sq nn : Int) (key s : ByteArray) (ao : Option Addr) (f1 f2 f3 f4 : Int)
    (h : BkM w B bp hp p lo av mv b M sk hu) (hl : HLo w B hp p bD bN lo (some l) d n) (hst : BSt (some l) d b M sk hu) (hB : 3 ≤ B) (hmet : Met w) (hn : n ≤ 1000000000) (hsk : sk = false → f1 < 0 ∧ f2 < 0)
    (h11 : -9223372036854775808 ≤ f1) (h21 : -9223372036854775808 ≤ f2) (h41 : -9223372036854775808 ≤ f4) (h42 : f4 ≤ 9223372036854775807) :
    Calls Tryz.prog 18 #[.pointer (some ⟨bp, 0, none⟩), stepV 5 txn sq nn key s ao x y f1 f2 f3 f4] w (StX B bp hp p bD n (b.all.length + M.length) sk w) := by
  obtain ⟨W, hW⟩ : ∃ W, W = w.alloc (stepO 5 txn sq nn key s ao x y f1 f2 f3 f4) := ⟨_, rfl⟩
  have hf0 : Fr [] w W := by rw [hW]; exact (Fr.refl [] w).alloc _
  obtain ⟨hl0, hr0⟩ := hl.new hf0
  have hm0 := h.hfr hr0
  have hs0 : W.heap[w.heap.size]? = some (stepO 5 txn sq nn key s ao x y f1 f2 f3 f4) := by rw [hW]; exact heap_alloc_new w _
  have hB0 : BlS B w W := hf0.blN hl.base
  have hb0 := hB0.bel
  have hmet0 : Met W := hmet.below hb0 (by omega)
  have hfo := hst.force (x' := -1) (y' := -1) hsk h11 h21
  obtain ⟨a0, ac, hav⟩ := own_slc hm0.all
  obtain ⟨m, hm⟩ : ∃ m, m = b.all.length := ⟨_, rfl⟩
  have hlen := h.len
  have c0 := blk_cell hm0.blk 0
  have c1 := blk_cell hm0.blk 1
  have z0 := blk_cell hs0 0
  have z7 := blk_cell hs0 7
  have z8 := blk_cell hs0 8
  have z9 := blk_cell hs0 9
  have z10 := blk_cell hs0 10
  simp at c0 c1 z0 z7 z8 z9 z10
  rw [hav, ← hm] at c1
  rw [← hm] at hlen
  obtain ⟨hlD, hrD⟩ := hl0.new ((Fr.refl [] W).drew)
  have HI : Hid (HLo W.drew B hp p bD bN lo (some l) d n ∧ BkM W.drew B bp hp p lo av mv b M sk hu ∧ BlS B w W.drew ∧ Met W.drew ∧ W.drew.heap[w.heap.size]? = some (stepO 5 txn sq nn key s ao x y f1 f2 f3 f4)) := ⟨hlD, hm0.hfr hrD, hB0.drew, hmet0, hs0⟩
  have HM : Hid (m = b.all.length ∧ av = .slice a0 m ac) := ⟨hm, by rw [hm]; exact hav⟩
  obtain ⟨R, hR⟩ : ∃ R, R = l.force (d.knob f1 f2) := ⟨_, rfl⟩
  rw [← hR] at hfo
  have HR : Hid (R = l.force (d.knob f1 f2)) := hR
  have HF := hfo
  have hhp : B ≤ hp := h.base.2
  clear h hl hst hmet hf0 hl0 hr0 hm0 hs0 hb0 hB0 hmet0 hlD hrD hm hav hR hfo hsk
  rw [hW] at c0 c1 z0 z7 z8 z9 z10
  go_enter Tryz.func18, Tryz.ntmps18
  go_wp2_with fail
  rw [← hW]
  rw [← hW] at c0 c1 z0 z7 z8 z9 z10
  clear hW
  go_region_held3 (fun w' => w'.cell? ⟨bp, 0, none⟩ = some (.pointer (some ⟨hp, 0, none⟩)) ∧ w'.cell? ⟨w.heap.size, 7, none⟩ = some (.int .i64 f1) ∧ w'.cell? ⟨w.heap.size, 8, none⟩ = some (.int .i64 f2) ∧ w'.cell? ⟨w.heap.size, 9, none⟩ = some (.int .i64 f3) ∧ w'.cell? ⟨w.heap.size, 10, none⟩ = some (.int .i64 f4))
    (simp [*])
    (first | (go_at_call 10; refine (hForX f1 f2 f3 f4 HI.out.1 (by omega) hhp HI.out.2.2.2.1 hn h41 h42).mono ?_; rw [← HR.out]; rintro e w2 ⟨rfl, bN2, lo2, o2, d2, hA2, hl2, hr2⟩; have hm2 := HI.out.2.1.hfr hr2; have hs2 := (hr2.block w.heap.size (Array.getElem?_eq_some_iff.1 HI.out.2.2.2.2).1 (HI.out.1.ei.step HI.out.2.2.2.2)).trans HI.out.2.2.2.2; have y0 := blk_cell hm2.blk 0; have y7 := blk_cell hs2 7; have y8 := blk_cell hs2 8; have y9 := blk_cell hs2 9; have y10 := blk_cell hs2 10; simp at y0 y7 y8 y9 y10; have hb2 : BlS B W.drew w2 := HI.out.1.ei.blS hhp hr2; have H2 : Hid (HLo w2 B hp p bD bN2 lo2 o2 d2 n ∧ BkM w2 B bp hp p lo2 av mv b M sk hu ∧ BlS B w w2 ∧ After R.1 R.2.1 (-1) (-1) o2 d2) := ⟨hl2, hm2, HI.out.2.2.1.trans hb2, hA2⟩; clear hA2 hl2 hr2 hm2 hs2 hb2))
  clear c0 c1 z0 z7 z8 z9 z10 y7 y8 y9 y10 HI
  have k1 := blk_cell H2.out.2.1.blk 1
  have k2 := blk_cell H2.out.2.1.blk 2
  have k7 := blk_cell H2.out.2.1.blk 7
  have t2 := blk_free H2.out.2.1.blk 2
  simp at k1 k2 k7
  rw [HM.out.2] at k1
  rcases HF with ⟨e0, hB2⟩ | ⟨hsk, e9, hB2⟩
  · have HB2 : Hid (BSt o2 d2 { b with forced := b.all.length } M sk hu) := hB2 _ _ H2.out.2.2.2
    rw [e0]
    clear hB2 e0 HR
    have fin : ∀ W2, W2 = w2.setCell ⟨bp, 2, none⟩ (.int .i64 (m : Int)) → StX B bp hp p bD n (b.all.length + M.length) sk w (.returned (.bool true)) W2 := fun W2 hW2 => by
      have hf : Fr [bp] w2 W2 := by rw [hW2]; exact Fr.set1 (by simp) _ _
      have hb : W2.heap[bp]? = some (bookG hp av mv { b with forced := b.all.length } sk hu) := by
        rw [hW2]
        have := blk_set H2.out.2.1.blk 2 (.int .i64 (m : Int))
        rw [this, HM.out.1]; rfl
      obtain ⟨q1, q2, q3⟩ := H2.out.2.1.set H2.out.1 hf hb rfl ⟨H2.out.2.1.len, H2.out.2.1.nums.2⟩
      exact ⟨rfl, H2.out.2.2.1.trans q3, bN2, lo2, o2, d2, av, mv, _, M, hu, q1, q2, HB2.out, Nat.le_refl _⟩
    have FIN : Hid (∀ W2, W2 = w2.setCell ⟨bp, 2, none⟩ (.int .i64 (m : Int)) → StX B bp hp p bD n (b.all.length + M.length) sk w (.returned (.bool true)) W2) := fin
    clear fin
    cases hu
    · have hdone : Calls Tryz.prog 36 #[.pointer (some ⟨bp, 0, none⟩), .int .i64 0, .int .i64 0] w2 fun ev w' => ev = .returned (.tuple #[.bool true, .bool true]) ∧ w' = w2 := by
        have := done_good bp hp 0 av mv b sk false w2 H2.out.2.1.blk (.inr rfl)
        simpa using this
      go_wp2_with fail
      refine hdone.mono ?_
      clear hdone
      rintro e w3 ⟨rfl, rfl⟩
      go_wp2
      go_ret
      exact FIN.out _ rfl
    · go_wp2
      go_ret
      exact FIN.out _ rfl
  · subst hsk
    have HB2 : Hid (BSt o2 d2 b M true true) := hB2 _ _ H2.out.2.2.2
    obtain ⟨c, hc⟩ : ∃ c, c = R.2.2 := ⟨_, rfl⟩
    rw [← hc] at e9 ⊢
    have hdone := done_fell bp hp c av mv b hu w2 H2.out.2.1.blk e9
    have hcz : ¬ (c : Int) = 0 := by omega
    have hcb : ((c : Int) == 0) = false := by simp; omega
    clear hB2 hc HR e9
    cases hu
    all_goals (
      go_wp2_with fail
      refine hdone.mono ?_
      clear hdone
      rintro e w3 ⟨rfl, hb3, hf3⟩
      have H3 : Hid (w3.heap[bp]? = some (bookG hp av mv b true true) ∧ Fr [bp] w2 w3) := ⟨hb3, hf3⟩
      clear hb3 hf3
      go_wp2
      go_ret
      obtain ⟨q1, q2, q3⟩ := H2.out.2.1.set H2.out.1 H3.out.2 H3.out.1 rfl H2.out.2.1.nums
      exact ⟨rfl, H2.out.2.2.1.trans q3, bN2, lo2, o2, d2, av, mv, _, M, true, q1, q2, HB2.out, Nat.le_refl _⟩)
end Go.Proofs.YtbdhmkfdofkloaaGreatDoor
/- (*book).step over a disk that may fail: Append of a record that is too big. -/
namespace Go.Proofs.YtbdhmkfdofkloaaGreatDoor
open Go.RowKit
open Sc

set_option maxRecDepth 100000 in
set_option maxHeartbeats 8000000 in
theorem stepX_big {w : World} {B bp hp p bD bN n : Nat} {lo : Option Nat} {l : ALog} {d : ADisk} {av mv : Value} {b : ABook} {M : List Rec} {sk hu : Bool} (txn x y kind : Nat) (sq nn : Int) (key s : ByteArray) (ao : Option Addr) (f1 f2 f3 f4 : Int)
    (h : BkM w B bp hp p lo av mv b M sk hu) (hl : HLo w B hp p bD bN lo (some l) d n) (hst : BSt (some l) d b M sk hu) (hB : 3 ≤ B) (hmet : Met w) (hpow : Pows w) (hn : n + 3 < 1000000000) (hsk : sk = false → f1 < 0 ∧ f2 < 0) (hkd : kind < 256) (hwr : IntKind.u8.wrap nn = (kind : Int)) (hml : b.all.length + 1 ≤ 1048576) (hs : 255 < s.size)
    (h11 : -9223372036854775808 ≤ f1) (h21 : -9223372036854775808 ≤ f2) (h41 : -9223372036854775808 ≤ f4) (h42 : f4 ≤ 9223372036854775807) :
    Calls Tryz.prog 18 #[.pointer (some ⟨bp, 0, none⟩), stepV 4 txn sq nn key s ao x y f1 f2 f3 f4] w (StX B bp hp p bD (n + 3) (b.all.length + M.length + 1) sk w) := by
  obtain ⟨W, hW⟩ : ∃ W, W = w.alloc (stepO 4 txn sq nn key s ao x y f1 f2 f3 f4) := ⟨_, rfl⟩
  have hf0 : Fr [] w W := by rw [hW]; exact (Fr.refl [] w).alloc _
  obtain ⟨hl0, hr0⟩ := hl.new hf0
  have hm0 := h.hfr hr0
  have hs0 : W.heap[w.heap.size]? = some (stepO 4 txn sq nn key s ao x y f1 f2 f3 f4) := by rw [hW]; exact heap_alloc_new w _
  have hB0 : BlS B w W := hf0.blN hl.base
  have hb0 := hB0.bel
  have hmet0 : Met W := hmet.below hb0 (by omega)
  have hpow0 : Pows W := hpow.of_block (hb0.block 1 (by omega))
  have hfo := hst.append (x' := -1) (y' := -1) hsk h11 h21 kind hkd s (by omega)
  have hsg := hst.sg.2.1
  obtain ⟨a0, ac, hav⟩ := own_slc hm0.all
  obtain ⟨m, hm⟩ : ∃ m, m = b.all.length := ⟨_, rfl⟩
  have c0 := blk_cell hm0.blk 0
  have c1 := blk_cell hm0.blk 1
  have c7 := blk_cell hm0.blk 7
  have z0 := blk_cell hs0 0
  have z3 := blk_cell hs0 3
  have z5 := blk_cell hs0 5
  have z7 := blk_cell hs0 7
  have z8 := blk_cell hs0 8
  have z9 := blk_cell hs0 9
  have z10 := blk_cell hs0 10
  simp at c0 c1 c7 z0 z3 z5 z7 z8 z9 z10
  rw [hav, ← hm] at c1
  rw [← hm] at hml
  obtain ⟨hlD, hrD⟩ := hl0.new ((Fr.refl [] W).drew)
  have HI : Hid (HLo W.drew B hp p bD bN lo (some l) d n ∧ BkM W.drew B bp hp p lo av mv b M sk hu ∧ BlS B w W.drew ∧ Met W.drew ∧ Pows W.drew ∧ W.drew.heap[w.heap.size]? = some (stepO 4 txn sq nn key s ao x y f1 f2 f3 f4)) := ⟨hlD, hm0.hfr hrD, hB0.drew, hmet0, hpow0, hs0⟩
  have HM : Hid (m = b.all.length ∧ av = .slice a0 m ac ∧ (l.filled < 600 → l.segs ≠ [])) := ⟨hm, by rw [hm]; exact hav, hsg⟩
  obtain ⟨R, hR⟩ : ∃ R, R = l.append (d.knob f1 f2) kind s := ⟨_, rfl⟩
  rw [← hR, ← hm] at hfo
  have HR : Hid (R = l.append (d.knob f1 f2) kind s) := hR
  have HF := hfo
  have hhp : B ≤ hp := h.base.2
  clear h hl hst hmet hpow hf0 hl0 hr0 hm0 hs0 hb0 hB0 hmet0 hpow0 hlD hrD hm hav hR hfo hsk hsg
  rw [hW] at c0 c1 c7 z0 z3 z5 z7 z8 z9 z10
  go_enter Tryz.func18, Tryz.ntmps18
  go_wp2_with fail
  rw [← hW]
  rw [← hW] at c0 c1 c7 z0 z3 z5 z7 z8 z9 z10
  clear hW
  go_region_held3 (fun w' => w'.cell? ⟨bp, 0, none⟩ = some (.pointer (some ⟨hp, 0, none⟩)) ∧ w'.cell? ⟨w.heap.size, 3, none⟩ = some (.int .i64 nn) ∧ w'.cell? ⟨w.heap.size, 5, none⟩ = some (.string s) ∧ w'.cell? ⟨w.heap.size, 7, none⟩ = some (.int .i64 f1) ∧ w'.cell? ⟨w.heap.size, 8, none⟩ = some (.int .i64 f2) ∧ w'.cell? ⟨w.heap.size, 9, none⟩ = some (.int .i64 f3) ∧ w'.cell? ⟨w.heap.size, 10, none⟩ = some (.int .i64 f4))
    (simp [*])
    (first | (go_at_call 9; refine (hAppX kind s f1 f2 f3 f4 HI.out.1 (by omega) hhp HI.out.2.2.2.1 HI.out.2.2.2.2.1 hkd hn HM.out.2.2 h41 h42).mono ?_; rw [← HR.out]; rintro e w2 ⟨rfl, bN2, lo2, o2, d2, hA2, hl2, hr2⟩; have hm2 := HI.out.2.1.hfr hr2; have hs2 := (hr2.block w.heap.size (Array.getElem?_eq_some_iff.1 HI.out.2.2.2.2.2).1 (HI.out.1.ei.step HI.out.2.2.2.2.2)).trans HI.out.2.2.2.2.2; have y0 := blk_cell hm2.blk 0; have y3 := blk_cell hs2 3; have y5 := blk_cell hs2 5; have y7 := blk_cell hs2 7; have y8 := blk_cell hs2 8; have y9 := blk_cell hs2 9; have y10 := blk_cell hs2 10; simp at y0 y3 y5 y7 y8 y9 y10; have hb2 : BlS B W.drew w2 := HI.out.1.ei.blS hhp hr2; have H2 : Hid (HLo w2 B hp p bD bN2 lo2 o2 d2 (n + 3) ∧ BkM w2 B bp hp p lo2 av mv b M sk hu ∧ BlS B w w2 ∧ After R.1 R.2.1 (-1) (-1) o2 d2 ∧ w2.heap[w.heap.size]? = some (stepO 4 txn sq nn key s ao x y f1 f2 f3 f4)) := ⟨hl2, hm2, HI.out.2.2.1.trans hb2, hA2, hs2⟩; clear hA2 hl2 hr2 hm2 hs2 hb2))
  clear c0 c1 c7 z0 z3 z5 z7 z8 z9 z10 y7 y8 y9 y10 HI
  rcases HF with ⟨_, e1, e2, hB2⟩ | ⟨hq, _⟩ | ⟨hq, _⟩
  · have HB2 : Hid (BSt o2 d2 b M sk hu) := hB2 _ _ H2.out.2.2.2.1
    rw [e1, e2]
    have hdone : Calls Tryz.prog 36 #[.pointer (some ⟨bp, 0, none⟩), .int .i64 1, .int .i64 1] w2 fun ev w' => ev = .returned (.tuple #[.bool false, .bool true]) ∧ w' = w2 := by
      have := done_good bp hp 1 av mv b sk hu w2 H2.out.2.1.blk (.inl (by omega))
      simpa using this
    clear hB2 e1 e2 HR
    go_wp2_with fail
    refine hdone.mono ?_
    clear hdone
    rintro e w3 ⟨rfl, rfl⟩
    go_wp2
    go_ret
    have hf : Fr [] w3 (w3.alloc (.cells #[.int .u64 ((m : Int) + 1), .int .u8 (kind : Int), .string s] 44)) := (Fr.refl [] w3).alloc _
    obtain ⟨q1, q2⟩ := H2.out.1.new hf
    exact ⟨rfl, H2.out.2.2.1.trans (hf.blN H2.out.1.base), bN2, lo2, o2, d2, av, mv, b, M, hu, q1, H2.out.2.1.hfr q2, HB2.out, by omega⟩
  · omega
  · omega
end Go.Proofs.YtbdhmkfdofkloaaGreatDoor
