import Derived.Test.YtbdhmkfdofkloaaGreatDoorC34
import Derived.Test.YtbdhmkfdofkloaaGreatDoorC35
import Derived.Test.YtbdhmkfdofkloaaGreatDoorC36
import Derived.Maps.AppendAt
import Derived.Test.YtbdhmkfdofkloaaGreatDoorC23
import Derived.Test.YtbdhmkfdofkloaaGreatDoorC28
import Derived.Deep.CutRange
/- THE LAW ON WHAT IS KEPT: its own row of texts; a host's calls beside it. -/
namespace Go.Proofs.YtbdhmkfdofkloaaGreatDoor
open Go.RowKit Go.Maps
open Sc

/-- blocks that are rows of texts, of two at least -/
def Wide (w : World) (S : List Nat) : Prop := ∀ q ∈ S, q < w.heap.size → ∃ c : Array Value, w.heap[q]? = some (.cells c 9 (0, 0)) ∧ 2 ≤ c.size
theorem Wide.text {w : World} {S : List Nat} (h : Wide w S) : ∀ q ∈ S, ∀ t, w.heap[q]? ≠ some (textO t) := fun q hq t e => by
  obtain ⟨c, h1, h2⟩ := h q hq (Array.getElem?_eq_some_iff.1 e).1
  rw [h1] at e
  have := Option.some.inj e
  simp only [Obj.cells.injEq] at this
  rw [this.1] at h2
  simp at h2
section
variable {w w' : World} {B hp lp p bD bN n nD nN : Nat} {pv sv rv : Value} {l : ALog} {d : ADisk} {S : List Nat}
theorem LogIn.wide (h : LogIn w B lp p bD bN pv sv rv l d n nD nN) (hf : Fr S w w') (hS : Wide w S) : LogIn w' B lp p bD bN pv sv rv l d n nD nN := by
  have hno : ∀ k, Own lp p w k → k < w.heap.size → k ∉ S := fun k hk hl hm => by
    obtain ⟨c, h1, _⟩ := hS k hm hl
    exact h.free h1 (by decide) (by decide) (by decide) (by decide) (by decide) hk
  have hno' : ∀ k, (k = lp ∨ k = p ∨ k = bD ∨ k = bN ∨ pv.ownBlock = some k ∨ sv.ownBlock = some k ∨ rv.ownBlock = some k) → k < w.heap.size → k ∉ S := fun k hk => hno k ((h.own k).2 hk)
  have hpl := (Array.getElem?_eq_some_iff.1 h.disk.blk).1
  have hd : DiskIn w' B p bD bN pv d n nD nN := h.disk.fr hf (hno' p (by simp) hpl) (hno' bD (by simp) h.disk.dur.lt) (hno' bN (by simp) h.disk.now.lt) (fun g hg => hno' g (by simp [hg]) (h.disk.pen.lt g hg).2) hS.text
  exact h.turned hd hf (fun k hk hkl => ⟨fun e => hno' k (by simp [e]) hkl hk, fun e => hno' k (by simp [e]) hkl hk, fun e => hno' k (by simp [e]) hkl hk⟩) (Nat.le_refl _)
theorem HostIn.wide (h : HostIn w B hp lp p bD bN l d n) (hf : Fr S w w') (hS : Wide w S) : HostIn w' B hp lp p bD bN l d n := by
  obtain ⟨hh, pv, sv, rv, nD, nN, hl⟩ := h
  have hhl := (Array.getElem?_eq_some_iff.1 hh).1
  refine ⟨(hf.block hp hhl (fun hm => ?_)).trans hh, pv, sv, rv, nD, nN, hl.wide hf hS⟩
  obtain ⟨c, h1, _⟩ := hS hp hm hhl
  rw [hh] at h1; cases h1
theorem own_cut {base m k : Nat} {xs : List Value} {g cap : Nat} (h : w.ownsRow base 9 1 (.slice (some ⟨g, 0, none⟩) m cap) m xs) (hk : k ≤ m) : w.ownsRow base 9 1 (.slice (some ⟨g, 0, none⟩) k cap) k (xs.take k) := by
  refine ⟨by rw [List.length_take, h.1]; omega, ?_⟩
  rcases h.2 with ⟨e, _⟩ | ⟨g', cap', cur, e, h1, h2, h3, h4, h5, h6⟩
  · simp at e
  · simp only [Value.slice.injEq, Option.some.injEq, Addr.mk.injEq, and_true, true_and] at e
    obtain ⟨rfl, rfl⟩ := e
    refine .inr ⟨g, cap, cur, rfl, h1, h2, by omega, h4, h5, ?_⟩
    have := congrArg (List.take k) h6
    rw [List.take_take] at this
    rw [← this]
    congr 1
    omega
end
/-- append(all, one text) -/
theorem wpList_all {w : World} {ops : Array Oper} {rest : List Oper} {o : Oper} {a : Act} {Q : Exit → Act → World → Prop} (hgd : o.guard = none) (s x : Operand)
    (ho : o.op = .call { callee := .builtin .append, args := #[s, x], argTypes := #[25, 25] })
    (base : Nat) (v : Value) (n : Nat) (l : List ByteArray) (r : ByteArray) (b : Nat) (hs : a.eval s = v) (hown : w.ownsRow base 9 1 v n (namesV l)) (hx : a.eval x = .slice (some ⟨b, 0, none⟩) 1 1)
    (hb : w.cell? ⟨b, 0, none⟩ = some (.string r)) (hn : n ≤ 1073741824) (h1n : 1 ≤ n) (hbase : base ≤ w.heap.size)
    (h : ∀ v' w' S, w'.ownsRow base 9 1 v' (n + 1) (namesV (l ++ [r])) → Fr S w w' → Wide w S → (∀ q ∈ S, base ≤ q) → wpList Tryz.prog ops Q rest (a.put o.dst v') w') : wpList Tryz.prog ops Q (o :: rest) a w := by
  obtain ⟨i0, hi, hz0, hz1, hz2⟩ := info_parts Tryz.infoStr
  have hcell : ∀ (j : Nat) (u : Value), [Value.string r][j]? = some u → w.cell? ((⟨b, 0, none⟩ : Addr).add j) = some u := fun jj u hjj => by
    match jj, hjj with
    | 0, hjj => simp at hjj; subst hjj; simpa [Addr.add] using hb
  have h1c : ∀ u ∈ [Value.string r], u.oneCell' = true := by intro u hu; simp at hu; subst hu; rfl
  rcases hown.2 with ⟨_, h0⟩ | ⟨g, cap, cur, e, g1, g2, g3, g4, g5, g6⟩
  · omega
  · subst e
    by_cases hcap : n + 1 ≤ cap
    · refine wpList_append_own_at _ hgd s x 25 ho base 9 i0 _ 1 16 Tryz.underlying25 hi hz0 hz1 hz2 rfl (by decide) _ n (namesV l) hs hown ⟨b, 0, none⟩ 1 1 [.string r] hx rfl hcell h1c (by unfold maxLen; omega) (by omega) hbase ?_
      intro v' w' ho' hg' _ _
      refine h v' w' [g] (by rw [namesV_snoc]; exact ho') (Fr.of_grown1 hg') (fun q hq _ => ?_) (fun q hq => by simp at hq; subst hq; exact g1)
      simp at hq; subst hq
      exact ⟨cur, g2, by rw [g5]; omega⟩
    · refine wpList_append_grows _ hgd s x 25 ho 9 i0 _ 1 16 Tryz.underlying25 hi hz0 hz1 hz2 rfl (by decide) (some ⟨g, 0, none⟩) n cap (namesV l) hs (by simp) (by simpa [namesV] using hown.1) (fun b' hb' j u hj => by cases hb'; exact hown.cells (g := g) rfl j u hj) ⟨b, 0, none⟩ 1 1 [.string r] hx rfl hcell h1c (by omega) (by unfold maxLen; omega) (by omega) ?_
      intro v' w' ho' hg'
      refine h v' w' [] (by rw [namesV_snoc]; exact own_base0 ho' hbase) ((Fr.of_grown hg').mono (by simp)) (by intro q hq; simp at hq) (by simp)
/-! ### texts as records -/
def recF : Nat → List ByteArray → List Rec
  | _, [] => []
  | k, a :: r => ⟨k, 3, bytesOf a⟩ :: recF (k + 1) r
theorem recF_len : ∀ (A : List ByteArray) (k : Nat), (recF k A).length = A.length
  | [], _ => rfl
  | a :: A, k => by simp [recF, recF_len A]
theorem recF_snoc : ∀ (A : List ByteArray) (k : Nat) (x : ByteArray), recF k (A ++ [x]) = recF k A ++ [⟨k + A.length, 3, bytesOf x⟩]
  | [], k, x => by simp [recF]
  | a :: A, k, x => by
    rw [List.cons_append]
    show _ :: recF (k + 1) (A ++ [x]) = _
    rw [recF_snoc A]
    simp [recF]; omega
theorem recF_take : ∀ (A : List ByteArray) (k j : Nat), recF k (A.take j) = (recF k A).take j
  | [], _, _ => by simp [recF]
  | a :: A, k, 0 => by simp [recF]
  | a :: A, k, j + 1 => by simp [recF, recF_take A]
theorem recF_at : ∀ (A : List ByteArray) (k j : Nat) (x : ByteArray), A[j]? = some x → (recF k A)[j]? = some ⟨k + j, 3, bytesOf x⟩
  | [], _, _, _, h => by simp at h
  | a :: A, k, 0, x, h => by simp at h; subst h; simp [recF]
  | a :: A, k, j + 1, x, h => by
    simp at h
    have := recF_at A (k + 1) j x h
    simp only [recF, List.getElem?_cons_succ, this]
    congr 2; omega
theorem flat_len' : ∀ {cs : List (List Rec)}, (∀ c ∈ cs, c ≠ []) → cs.length ≤ cs.flatten.length
  | [], _ => Nat.le_refl _
  | c :: cs, h => by
    have h1 : 0 < c.length := List.length_pos_iff.2 (h c (by simp))
    have h2 := flat_len' (cs := cs) (fun x hx => h x (by simp [hx]))
    simp at h2 ⊢
    omega
theorem useless_two {F : Files} {ss : List Sg} {us : List Nat} (h : Stands F 1 ss) (hu : Useless F 1 ss us) : us.length ≤ 2 := by
  have h1 : ∀ u ∈ us, u = 0 ∨ u = nextOf 1 ss := fun u hm => by
    obtain ⟨h2, h3⟩ := (hu.2 u).1 hm
    rcases h.other _ h2 with e | e | ⟨v, e, _, h4⟩
    · exact absurd e (segName_mark u).1
    · exact absurd e (segName_mark u).2
    · obtain rfl := segName_inj e
      rcases h4 with h4 | h4 | h4
      · left; omega
      · exact absurd h4 h3
      · exact .inr h4
  have h2 := nodup_len 2 (us.map fun u => if u = 0 then 0 else 1) (by
    unfold List.Nodup
    rw [List.pairwise_map]
    refine (List.pairwise_iff_forall_sublist.2 ?_)
    intro a b hab e
    have ha := h1 a (hab.subset (by simp))
    have hb := h1 b (hab.subset (by simp))
    have hne : a ≠ b := by
      have := hu.1
      unfold List.Nodup at this
      exact (List.pairwise_iff_forall_sublist.1 this) hab
    split at e <;> split at e <;> simp at e
    · omega
    · rcases ha with ha | ha
      · omega
      · rcases hb with hb | hb
        · omega
        · omega) (by
    intro x hx
    obtain ⟨u, _, rfl⟩ := List.mem_map.1 hx
    split <;> omega)
  simpa using h2
end Go.Proofs.YtbdhmkfdofkloaaGreatDoor
/- THE LAW ON WHAT IS KEPT: its states, and what the host's calls make of them. -/
namespace Go.Proofs.YtbdhmkfdofkloaaGreatDoor
open Go.RowKit Go.Maps
open Sc

/-- the law's own memory -/
structure KM (w0 wr : World) (B hp bw : Nat) (va : Value) (A : List ByteArray) : Prop where
  fall : wr.heap[bw]? = some (fallO (-1) (-1) 0 0)
  row : wr.ownsRow B 9 1 va A.length (namesV A)
  bel : Below B w0 wr
  bh : B ≤ hp
  bb : B ≤ bw
  bs : B ≤ wr.heap.size
section
variable {w0 w w' : World} {B hp lp p bD bN n nD nN bw : Nat} {pv sv rv va : Value} {l : ALog} {d : ADisk} {A : List ByteArray} {lo lo' : Option Nat} {up : Bool} {lv : Value}
theorem KM.turn (h : KM w0 w B hp bw va A) (hfree : ∀ (q : Nat) (c : Array Value) (t : TypeId), w.heap[q]? = some (.cells c t (0, 0)) → t ≠ 57 → t ≠ 107 → t ≠ 100 → t ≠ 34 → t ≠ 44 → t ≠ 63 → ¬ OwnHo hp p lo w q) (hf : HFr hp p lo lo' w w') (hb : Below B w w') : KM w0 w' B hp bw va A := by
  refine ⟨(hf.block bw (Array.getElem?_eq_some_iff.1 h.fall).1 (hfree bw _ _ h.fall (by decide) (by decide) (by decide) (by decide) (by decide) (by decide))).trans h.fall, ⟨h.row.1, ?_⟩, h.bel.trans hb, h.bh, h.bb, Nat.le_trans h.bs hf.size⟩
  rcases h.row.2 with h3 | ⟨g, cap, cur, e, b1, b2, b3⟩
  · exact .inl h3
  · exact .inr ⟨g, cap, cur, e, b1, (hf.block g (Array.getElem?_eq_some_iff.1 b2).1 (hfree g _ _ b2 (by decide) (by decide) (by decide) (by decide) (by decide) (by decide))).trans b2, b3⟩
theorem HostIn.freeHo (h : HostIn w B hp lp p bD bN l d n) (q : Nat) (c : Array Value) (t : TypeId) (hq : w.heap[q]? = some (.cells c t (0, 0))) (h1 : t ≠ 57) (h2 : t ≠ 107) (h3 : t ≠ 100) (h4 : t ≠ 34) (h5 : t ≠ 44) (h6 : t ≠ 63) : ¬ OwnHo hp p (some lp) w q := by
  obtain ⟨hh, pv, sv, rv, nD, nN, hl⟩ := h
  rw [ownHo_some]
  rintro (e | e)
  · rw [e, hh] at hq; cases hq; exact h6 rfl
  · exact hl.free hq h1 h2 h3 h4 h5 e
theorem HostCl.freeHo (h : HostCl w B hp p bD bN d n) (q : Nat) (c : Array Value) (t : TypeId) (hq : w.heap[q]? = some (.cells c t (0, 0))) (h1 : t ≠ 57) (h2 : t ≠ 107) (_ : t ≠ 100) (_ : t ≠ 34) (_ : t ≠ 44) (h6 : t ≠ 63) : ¬ OwnHo hp p none w q := by
  obtain ⟨hh, pv, nD, nN, hd⟩ := h
  rw [ownHo_none]
  rintro (e | e)
  · rw [e, hh] at hq; cases hq; exact h6 rfl
  · exact hd.freeD hq h1 h2 e
theorem HostIn.belowH (h : HostIn w B hp lp p bD bN l d n) (hh : B ≤ hp) (hf : HFr hp p (some lp) lo' w w') : Below B w w' := by
  obtain ⟨_, pv, sv, rv, nD, nN, hl⟩ := h
  refine ⟨hf.os, hf.tape, hf.output, hf.size, fun k hk => hf.block k (Nat.lt_of_lt_of_le hk hl.disk.base.2.2.2) (fun ho => ?_)⟩
  rcases (ownHo_some k).1 ho with e | e
  · omega
  · have := hl.ge e; omega
end
/-- the host is open -/
structure KW (w0 wr : World) (B hp lp p bD bN bw n : Nat) (va : Value) (A R : List ByteArray) (f : Nat) (l : ALog) (d : ADisk) (ss : List Sg) (c1 : List Rec) : Prop where
  mem : KM w0 wr B hp bw va A
  host : HostIn wr B hp lp p bD bN l d n
  up : d.down = false
  lg : LgS l d 1 ss c1
  recs : (chunks ss).flatten ++ c1 = recF 1 R
  ff : f ≤ (chunks ss).flatten.length
/-- it is not -/
structure KC (w0 wr : World) (B hp p bD bN bw n : Nat) (va : Value) (A R : List ByteArray) (f : Nat) (F : Files) (ss : List Sg) : Prop where
  mem : KM w0 wr B hp bw va A
  host : HostCl wr B hp p bD bN (fallen F) n
  st : Stands F 1 ss
  recs : (chunks ss).flatten = recF 1 R
  ne : ss ≠ [] ∨ ∀ k, F k = none
  ff : f ≤ R.length
  fa : R = A.take R.length
section
variable {w0 wr : World} {B hp lp p bD bN bw n f : Nat} {va : Value} {A R : List ByteArray} {l : ALog} {d : ADisk} {ss : List Sg} {c1 : List Rec} {F : Files}
theorem ne_of_flat {ss : List Sg} (h : 0 < (chunks ss).flatten.length) : ss ≠ [] := fun e => by subst e; simp at h
theorem take_more (X c : List Rec) (k : Nat) : (X ++ c).take (X.length + k) = X ++ c.take k := by
  rw [List.take_append, List.take_of_length_le (by omega)]
  congr 2; omega
theorem KW.next (h : KW w0 wr B hp lp p bD bN bw n va A R f l d ss c1) : l.next = 1 + R.length := by
  rw [h.lg.next]
  have := congrArg List.length h.recs
  rw [List.length_append, recF_len] at this
  unfold nextOf
  omega
theorem kAppend (s : ByteArray) (h : KW w0 wr B hp lp p bD bN bw n va A R f l d ss c1) (hB : 2 ≤ B) (hmet : Met wr) (hpow : Pows wr) (hs : s.size ≤ 255) (hn : n + 3 < 67108864) (hR : R.length ≤ 1000) :
    Calls Tryz.prog 9 #[.pointer (some ⟨hp, 0, none⟩), .int .u8 3, .string s, fallV (-1) (-1) 0 0] wr fun e w' => e = .returned (.tuple #[.int .u64 ((1 + R.length : Nat) : Int), .int .i64 0]) ∧ ∃ l' d' ss' c1', KW w0 w' B hp lp p bD bN bw (n + 3) va A (R ++ [s]) f l' d' ss' c1' := by
  have hw : (d.knob (-1) (-1)).Well 0 := knob_well h.up
  have hnx := h.next
  have ha := (h.lg.knob (-1) (-1)).append hw 3 (by omega) s hs (by omega)
  refine (hAppend B hp lp p bD bN n 3 s l d (-1) (-1) 0 0 wr h.host hB hmet (by omega) hn h.lg.sg hpow ha.up).mono ?_
  rintro e w' ⟨he, hh, ho⟩
  obtain ⟨ss', c1', hl', hfl, hle, _⟩ := ha.st
  have hf : HFr hp p (some lp) (some lp) wr w' := ho.hfr
  have hb := h.host.belowH h.mem.bh hf
  refine ⟨?_, (l.append (d.knob (-1) (-1)) 3 s).1, (l.append (d.knob (-1) (-1)) 3 s).2.1.knob (-1) (-1), ss', c1', ⟨h.mem.turn h.host.freeHo hf hb, hh, ha.up, hl'.knob _ _, ?_, Nat.le_trans h.ff hle⟩⟩
  · rw [he, ha.ret.1, ha.ret.2, hnx]; rfl
  · rw [hfl, h.recs, recF_snoc, hnx]
theorem kForce (h : KW w0 wr B hp lp p bD bN bw n va A R f l d ss c1) (hB : 2 ≤ B) (hmet : Met wr) (hn : n ≤ 67108864) :
    Calls Tryz.prog 10 #[.pointer (some ⟨hp, 0, none⟩), fallV (-1) (-1) 0 0] wr fun e w' => e = .returned (.int .i64 0) ∧ ∃ l' d' ss' c1', KW w0 w' B hp lp p bD bN bw n va A R R.length l' d' ss' c1' := by
  have hw : (d.knob (-1) (-1)).Well 0 := knob_well h.up
  obtain ⟨a1, a2, ss', hl', hfl, _⟩ := (h.lg.knob (-1) (-1)).force hw
  refine (hForce B hp lp p bD bN n l d (-1) (-1) 0 0 wr h.host hB hmet hn a2).mono ?_
  rintro e w' ⟨he, hh, ho⟩
  have hf : HFr hp p (some lp) (some lp) wr w' := ho.hfr
  have hb := h.host.belowH h.mem.bh hf
  have hrec : (chunks ss').flatten = recF 1 R := by rw [hfl, h.recs]
  exact ⟨by rw [he, a1]; rfl, (l.force (d.knob (-1) (-1))).1, (l.force (d.knob (-1) (-1))).2.1.knob (-1) (-1), ss', [], ⟨h.mem.turn h.host.freeHo hf hb, hh, a2, hl'.knob _ _, by rw [hrec]; simp, by rw [hrec, recF_len]; exact Nat.le_refl _⟩⟩
theorem kLose (kept part : Int) (h : KW w0 wr B hp lp p bD bN bw n va A A f l d ss c1) (hf1 : 1 ≤ f) (h1 : -9223372036854775808 ≤ part) (h2 : part ≤ 9223372036854775807) :
    Calls Tryz.prog 12 #[.pointer (some ⟨hp, 0, none⟩), .int .i64 kept, .int .i64 part] wr fun e w' => e = .returned (.tuple #[]) ∧ ∃ bN' R F ss', KC w0 w' B hp p bD bN' bw n va A R f F ss' := by
  obtain ⟨hh, pv, sv, rv, nD, nN, hl⟩ := h.host
  refine (lLose B hp p bD bN n nD nN pv _ true d kept part (some lp) wr hh ⟨_, rfl⟩ hl.disk h1 h2).mono ?_
  rintro e w' ⟨he, F', bN', hleft, hcl, hf⟩
  have hb := h.host.belowH h.mem.bh hf
  obtain ⟨ss', k, hk, hst, _, hfl, _⟩ := h.lg.crash hleft
  have hlen := congrArg List.length h.recs
  rw [List.length_append, recF_len] at hlen
  have hpos : 0 < (chunks ss).flatten.length := by have := h.ff; omega
  have hR : (chunks ss').flatten = recF 1 (A.take ((chunks ss).flatten.length + k)) := by
    rw [recF_take, ← h.recs, hfl, take_more]
  refine ⟨he, bN', A.take ((chunks ss).flatten.length + k), F', ss', ⟨h.mem.turn h.host.freeHo hf hb, hcl, hst, hR, ?_, ?_, ?_⟩⟩
  · exact .inl (ne_of_flat (by rw [hfl, List.length_append]; omega))
  · rw [List.length_take]; have := h.ff; omega
  · rw [List.length_take, Nat.min_eq_left (by omega)]
theorem kOpen (h : KC w0 wr B hp p bD bN bw n va A R f F ss) (hB : 3 ≤ B) (hmet : Met wr) (hpow : Pows wr) (herr : ErrS wr) (hn1 : 1010 ≤ n) (hn : n + 20 ≤ 67108864) (hR : R.length ≤ 1000) :
    Calls Tryz.prog 8 #[.pointer (some ⟨hp, 0, none⟩), fallV (-1) (-1) 0 0] wr fun e w' => e = .returned (.int .i64 0) ∧ ∃ lp l d ss' c1, KW w0 w' B hp lp p bD bN bw (n + 2) va A R R.length l d ss' c1 := by
  obtain ⟨hh, pv, nD, nN, hd⟩ := h.host
  have hflen : (chunks ss).flatten.length = R.length := by rw [h.recs, recF_len]
  have hsl : ss.length ≤ R.length := by have := flat_len' h.st.ne'; simp only [List.length_map] at this; omega
  have hop : ∀ us, Useless F 1 ss us → us.length ≤ 2 := fun us hu => useless_two h.st hu
  refine (hOpen_all B hp p bD bN n nD nN 1 ss pv _ false none (fallen F) (-1) (-1) 0 0 wr hh ⟨_, rfl⟩ (by simp) hd hB h.mem.bh hmet rfl h.st (h.ne.elim begun_of .inr) hpow herr (by unfold nextOf; omega) (by omega) (by omega) (fun us hu => by have := hop us hu; omega) (fun us hu _ => (LgS.opened h.st h.ne hu (by have := hop us hu; omega)).2.1) (by omega) (by omega)).mono ?_
  rintro e w' ⟨us, hu, he, hb, hcase⟩
  have h2 := hop us hu
  obtain ⟨g1, g2, g3⟩ := LgS.opened h.st h.ne hu (by omega)
  rcases hcase with ⟨_, lp, hhost, hf⟩ | ⟨h0, _⟩ | ⟨h0, _⟩
  · refine ⟨by rw [he, g1]; rfl, lp, ((readL 1 ss).opensU ((fallen F).knob (-1) (-1)) (us.map segName)).1, ((readL 1 ss).opensU ((fallen F).knob (-1) (-1)) (us.map segName)).2.1.knob (-1) (-1), ss, [], ⟨h.mem.turn h.host.freeHo hf hb, ?_, g2, g3.knob _ _, by rw [h.recs]; simp, by omega⟩⟩
    obtain ⟨hh', pv', sv', rv', nD', nN', hl'⟩ := hhost
    exact ⟨hh', pv', sv', rv', nD', nN', hl'.mores (by omega) (by omega)⟩
  · exact absurd g1 h0
  · exact absurd g1 h0
end
end Go.Proofs.YtbdhmkfdofkloaaGreatDoor
/- sameRecords, the second list a piece of a longer one. -/
namespace Go.Proofs.YtbdhmkfdofkloaaGreatDoor
open Go.RowKit
open Sc

theorem recsSl_own {w : World} {base n : Nat} {v : Value} {rs : List Rec} (h : w.ownsRow base 44 3 v n (recsV rs)) : RecsSl w.heap.size w v rs := by
  have hl : rs.length = n := by have := h.1; rw [recsV_len] at this; omega
  have hlt := h.lt
  obtain ⟨ao, cap, e, H⟩ := recsAt_own h
  rcases h.2 with ⟨e1, h0⟩ | ⟨g, cap', cur, e1, hb, hg, rest⟩
  · left
    exact ⟨e1, List.eq_nil_of_length_eq_zero (by omega)⟩
  · right
    refine ⟨g, cap', by rw [e1, hl], (hlt g (by rw [e1]; rfl)).2, fun k r hk => ?_⟩
    obtain ⟨hk1, hk2⟩ := List.getElem?_eq_some_iff.1 hk
    obtain ⟨g2, e2, a1, a2, a3⟩ := H k hk1
    rw [e1] at e
    cases e
    cases e2
    rw [hk2] at a1 a2 a3
    exact ⟨a1, a2, a3⟩
end Go.Proofs.YtbdhmkfdofkloaaGreatDoor
/- (*book).step, whatever it is; small; Well. -/
namespace Go.Proofs.YtbdhmkfdofkloaaGreatDoor
open Go.RowKit
open Sc

set_option maxHeartbeats 1000000 in
theorem well_any (w : World) : Calls Tryz.prog 7 #[] w fun e w' => e = .returned (fallV (-1) (-1) 0 0) ∧ Below w.heap.size w w' := by
  go_enter Tryz.func7, Tryz.ntmps7
  go_wp2
  refine bodyPost_ret (v := fallV (-1) (-1) 0 0) (by simp [results, Tryz.results7, go_sem]) rfl ⟨rfl, (Below.refl _ _).alloc (Nat.le_refl _) _⟩
end Go.Proofs.YtbdhmkfdofkloaaGreatDoor
