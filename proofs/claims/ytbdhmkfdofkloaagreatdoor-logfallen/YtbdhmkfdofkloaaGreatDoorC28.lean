import Derived.Test.YtbdhmkfdofkloaaGreatDoorC07
import Derived.Test.YtbdhmkfdofkloaaGreatDoorC27
/- THE POWER FAILS, the mathematics: what may be left of what was told. -/
namespace Go.Proofs.YtbdhmkfdofkloaaGreatDoor
open Go.RowKit

abbrev Cuts := ByteArray → Bool
def Cuts.set (c : Cuts) (k : ByteArray) : Cuts := fun x => if x = k then true else c x
/-- what one op leaves -/
def crashStep (b torn : Bool) (q : Nat) (o : AOp) (s : Cuts × Files) : Cuts × Files :=
  if b = false then (if o.kind = 2 then s.1.set o.name else s.1, s.2)
  else if o.kind = 2 ∧ s.1 o.name = true then s
  else if torn = true ∧ o.kind < 3 then (s.1.set o.name, doOp s.2 { o with data := o.data.extract 0 q })
  else (s.1, doOp s.2 o)
def crashF (b : Nat → Bool) (torn q : Nat) : Nat → List AOp → Cuts × Files → Cuts × Files
  | _, [], s => s
  | i, o :: os, s => crashF b torn q (i + 1) os (crashStep (b i) (decide (i = torn)) q o s)
theorem crashF_snoc (b : Nat → Bool) (torn q : Nat) : ∀ (os : List AOp) (i : Nat) (o : AOp) (s : Cuts × Files),
    crashF b torn q i (os ++ [o]) s = crashStep (b (i + os.length)) (decide (i + os.length = torn)) q o (crashF b torn q i os s)
  | [], i, o, s => by simp [crashF]
  | x :: os, i, o, s => by
    rw [List.cons_append]
    show crashF b torn q (i + 1) (os ++ [o]) _ = _
    rw [crashF_snoc b torn q os (i + 1) o]
    simp only [List.length_cons]
    rw [show i + 1 + os.length = i + (os.length + 1) by omega]
    rfl
/-- what a failure of power may leave of files F of which ops were told -/
def Left (F : Files) (ops : List AOp) (F' : Files) : Prop := ∃ b torn q, F' = (crashF b torn q 0 ops (fun _ => false, F)).2
theorem left_nil {F F' : Files} (h : Left F [] F') : F' = F := by
  obtain ⟨b, t, q, rfl⟩ := h; rfl
theorem Files.ext {m m' : Files} (h : ∀ k, m k = m' k) : m = m' := funext h
/-! ### appends to one file -/
def appOp (nm x : ByteArray) : AOp := ⟨2, nm, ByteArray.empty, x⟩
def joinB : List ByteArray → ByteArray
  | [] => ByteArray.empty
  | x :: l => x ++ joinB l
theorem joinB_snoc : ∀ (l : List ByteArray) (x : ByteArray), joinB (l ++ [x]) = joinB l ++ x
  | [], x => by simp [joinB]
  | y :: l, x => by
    rw [List.cons_append]
    show y ++ joinB (l ++ [x]) = (y ++ joinB l) ++ x
    rw [joinB_snoc l x, ByteArray.append_assoc]
/-- F with y behind what nm had -/
def Files.plus (F : Files) (nm y : ByteArray) : Files := F.set nm (some ((F nm).getD ByteArray.empty ++ y))
theorem plus_plus (F : Files) (nm x y : ByteArray) : (F.plus nm x).plus nm y = F.plus nm (x ++ y) := by
  apply Files.ext
  intro k
  unfold Files.plus
  by_cases h : k = nm
  · subst h; simp [Files.set_same, ByteArray.append_assoc]
  · rw [Files.set_other _ _ h, Files.set_other _ _ h, Files.set_other _ _ h]
theorem doOp_plus (F : Files) (nm x : ByteArray) : doOp F (appOp nm x) = F.plus nm x := rfl
/-- how far a run of appends has come: all so far; or it is cut off -/
def RunSt (F : Files) (nm : ByteArray) (xs : List ByteArray) (i : Nat) (s : Cuts × Files) : Prop :=
  (s.1 nm = false ∧ (i = 0 ∧ s.2 = F ∨ 0 < i ∧ s.2 = F.plus nm (joinB (xs.take i)))) ∨
  (s.1 nm = true ∧ (s.2 = F ∨ ∃ k y z, xs[k]? = some z ∧ (∃ q, y = z.extract 0 q) ∧ s.2 = F.plus nm (joinB (xs.take k) ++ y)))
theorem run_step {F : Files} {nm : ByteArray} {xs : List ByteArray} {i : Nat} {s : Cuts × Files} {x : ByteArray} (hx : xs[i]? = some x) (h : RunSt F nm xs i s) (b t : Bool) (q : Nat) : RunSt F nm xs (i + 1) (crashStep b t q (appOp nm x) s) := by
  have htk : xs.take (i + 1) = xs.take i ++ [x] := by rw [List.take_add_one, hx]; rfl
  unfold crashStep
  by_cases hb : b = false
  · rw [if_pos hb]
    right
    refine ⟨by simp [appOp, Cuts.set], ?_⟩
    rcases h with ⟨_, h⟩ | ⟨_, h⟩
    · rcases h with ⟨_, h⟩ | ⟨hi, h⟩
      · exact .inl h
      · right
        obtain ⟨j, rfl⟩ : ∃ j, i = j + 1 := ⟨i - 1, by omega⟩
        obtain ⟨z, hz⟩ : ∃ z, xs[j]? = some z := ⟨_, List.getElem?_eq_getElem (by have := (List.getElem?_eq_some_iff.1 hx).1; omega)⟩
        refine ⟨j, z, z, hz, ⟨z.size, by simp⟩, ?_⟩
        rw [← joinB_snoc]
        have : xs.take (j + 1) = xs.take j ++ [z] := by rw [List.take_add_one, hz]; rfl
        rw [← this]; exact h
    · exact h
  · rw [if_neg hb]
    rcases h with ⟨hc, h⟩ | ⟨hc, h⟩
    · rw [if_neg (by intro e; have := e.2; simp only [appOp] at this; rw [hc] at this; cases this)]
      by_cases ht : t = true
      · rw [if_pos ⟨ht, by simp [appOp]⟩]
        right
        refine ⟨by simp [appOp, Cuts.set], .inr ⟨i, x.extract 0 q, x, hx, ⟨q, rfl⟩, ?_⟩⟩
        show doOp s.2 (appOp nm (x.extract 0 q)) = _
        rw [doOp_plus]
        rcases h with ⟨rfl, h⟩ | ⟨_, h⟩
        · rw [h]; simp [joinB]
        · rw [h, plus_plus]
      · rw [if_neg (by intro e; exact ht e.1)]
        left
        refine ⟨hc, .inr ⟨by omega, ?_⟩⟩
        show doOp s.2 (appOp nm x) = _
        rw [doOp_plus, htk, joinB_snoc]
        rcases h with ⟨rfl, h⟩ | ⟨_, h⟩
        · rw [h]; simp [joinB]
        · rw [h, plus_plus]
    · rw [if_pos ⟨by simp [appOp], hc⟩]
      exact .inr ⟨hc, h⟩
theorem run_all {F : Files} {nm : ByteArray} (xs : List ByteArray) (b : Nat → Bool) (torn q : Nat) : ∀ i, i ≤ xs.length → RunSt F nm xs i (crashF b torn q 0 ((xs.take i).map (appOp nm)) (fun _ => false, F))
  | 0, _ => .inl ⟨rfl, .inl ⟨rfl, rfl⟩⟩
  | i + 1, hi => by
    obtain ⟨x, hx⟩ : ∃ x, xs[i]? = some x := ⟨_, List.getElem?_eq_getElem (by omega)⟩
    have htk : xs.take (i + 1) = xs.take i ++ [x] := by rw [List.take_add_one, hx]; rfl
    rw [htk, List.map_append, List.map_cons, List.map_nil, crashF_snoc]
    exact run_step hx (run_all xs b torn q i (by omega)) _ _ _
/-- of appends to one file some are left, the first ones, and a beginning of the next -/
theorem left_apps {F F' : Files} {nm : ByteArray} {xs : List ByteArray} (h : Left F (xs.map (appOp nm)) F') :
    F' = F ∨ (∃ k, k ≤ xs.length ∧ 0 < k ∧ F' = F.plus nm (joinB (xs.take k))) ∨ ∃ k z q, xs[k]? = some z ∧ F' = F.plus nm (joinB (xs.take k) ++ z.extract 0 q) := by
  obtain ⟨b, t, q, rfl⟩ := h
  have := run_all (F := F) (nm := nm) xs b t q xs.length (Nat.le_refl _)
  rw [List.take_length] at this
  rcases this with ⟨_, h⟩ | ⟨_, h⟩
  · rcases h with ⟨_, h⟩ | ⟨h0, h⟩
    · exact .inl h
    · exact .inr (.inl ⟨xs.length, Nat.le_refl _, h0, h⟩)
  · rcases h with h | ⟨k, y, z, hz, ⟨q', rfl⟩, h⟩
    · exact .inl h
    · exact .inr (.inr ⟨k, z, q', hz, h⟩)
/-! ### removes -/
def remOp (nm : ByteArray) : AOp := ⟨3, nm, ByteArray.empty, ByteArray.empty⟩
/-- of removes some are done -/
theorem left_rems : ∀ (ns : List ByteArray) {F : Files} {b : Nat → Bool} {torn q i : Nat} {c : Cuts}, ∃ ms : List ByteArray, (∀ m ∈ ms, m ∈ ns) ∧ ∀ k, (k ∈ ms → (crashF b torn q i (ns.map remOp) (c, F)).2 k = none) ∧ (k ∉ ms → (crashF b torn q i (ns.map remOp) (c, F)).2 k = F k)
  | [], F, b, torn, q, i, c => ⟨[], by simp, fun k => ⟨by simp, fun _ => rfl⟩⟩
  | n :: ns, F, b, torn, q, i, c => by
    have e : crashF b torn q i ((n :: ns).map remOp) (c, F) = crashF b torn q (i + 1) (ns.map remOp) (crashStep (b i) (decide (i = torn)) q (remOp n) (c, F)) := rfl
    rw [e]
    unfold crashStep
    by_cases hb : b i = false
    · rw [if_pos hb]
      obtain ⟨ms, h1, h2⟩ := left_rems ns (F := F) (b := b) (torn := torn) (q := q) (i := i + 1) (c := if (remOp n).kind = 2 then Cuts.set c (remOp n).name else c)
      exact ⟨ms, fun m hm => List.mem_cons_of_mem _ (h1 m hm), h2⟩
    · rw [if_neg hb, if_neg (by simp [remOp]), if_neg (by simp [remOp])]
      obtain ⟨ms, h1, h2⟩ := left_rems ns (F := doOp F (remOp n)) (b := b) (torn := torn) (q := q) (i := i + 1) (c := c)
      refine ⟨n :: ms, fun m hm => ?_, fun k => ⟨fun hk => ?_, fun hk => ?_⟩⟩
      · rcases List.mem_cons.1 hm with e | hm
        · simp [e]
        · exact List.mem_cons_of_mem _ (h1 m hm)
      · by_cases h3 : k ∈ ms
        · exact (h2 k).1 h3
        · rcases List.mem_cons.1 hk with e | hk
          · refine ((h2 k).2 h3).trans ?_
            show (F.set n none) k = none
            rw [e, Files.set_same]
          · exact absurd hk h3
      · simp only [List.mem_cons, not_or] at hk
        refine ((h2 k).2 hk.2).trans ?_
        show (F.set n none) k = F k
        rw [Files.set_other _ _ hk.1]
/-- one op that is no append -/
theorem left_one {F F' : Files} {o : AOp} (h : Left F [o] F') (hk : o.kind ≠ 2) : F' = F ∨ F' = doOp F o ∨ o.kind = 1 ∧ ∃ q, F' = doOp F { o with data := o.data.extract 0 q } := by
  obtain ⟨b, t, q, rfl⟩ := h
  have e : crashF b t q 0 [o] (fun _ => false, F) = crashStep (b 0) (decide (0 = t)) q o (fun _ => false, F) := rfl
  rw [e]
  unfold crashStep
  by_cases hb : b 0 = false
  · rw [if_pos hb]; exact .inl rfl
  · rw [if_neg hb, if_neg (fun e => hk e.1)]
    by_cases ht : decide (0 = t) = true ∧ o.kind < 3
    · rw [if_pos ht]
      by_cases h1 : o.kind = 1
      · exact .inr (.inr ⟨h1, q, rfl⟩)
      · left
        have : o.kind = 0 := by omega
        show doOp F _ = F
        unfold doOp
        simp [this]
    · rw [if_neg ht]; exact .inr (.inl rfl)
end Go.Proofs.YtbdhmkfdofkloaaGreatDoor
/- LOGS WHOSE DISKS FAIL, the mathematics: files out of which a log is read again. -/
namespace Go.Proofs.YtbdhmkfdofkloaaGreatDoor
open Go.RowKit
open Sc

theorem toHd {p : Prop} (h : p) : Hid p := h
/-- a segment: its whole records, and what lies behind them -/
abbrev Sg := List Rec × List Nat
def sgB (s : Sg) : List Nat := encR s.1 ++ s.2
abbrev chunks (ss : List Sg) : List (List Rec) := ss.map Prod.fst
/-- bytes that begin with no whole record -/
structure Junk (t : List Nat) : Prop where
  byt : Byt t
  no : frameOk t = false
  le : t.length ≤ 300
theorem junk_nil : Junk [] := ⟨by intro x hx; simp at hx, frameOk_ffno (ffOk_short (by simp)), by simp⟩
/-- the number behind the last record -/
def nextOf (mk : Nat) (ss : List Sg) : Nat := mk + (chunks ss).flatten.length
/-- how far a segment counts as filled -/
def fillS (s : Sg) : Nat := if s.2 = [] then bytesR s.1 else 600
def fillOf (ss : List Sg) : Nat := match ss.getLast? with | none => 600 | some s => fillS s
/-- records that may lie in a log -/
def FineP (rs : List Rec) : Prop := ∀ r ∈ rs, r.kind < 256 ∧ r.pay.length ≤ 255 ∧ Byt r.pay
/-- the files F hold a log of the segments ss from record mk on; besides may lie what is of no use -/
structure Stands (F : Files) (mk : Nat) (ss : List Sg) : Prop where
  mark : (mk = 1 ∧ F markNm = none) ∨ F markNm = some (str (recBytes mk 0 []))
  pos : 1 ≤ mk
  ne : ∀ s ∈ ss, s.1 ≠ []
  files : ∀ (k : Nat) (s : Sg), ss[k]? = some s → F (segName (nextOf mk (ss.take k))) = some (str (sgB s))
  junk : ∀ s ∈ ss, Junk s.2
  size : ∀ s ∈ ss, bytesR s.1 < 870
  nums : ∀ (k : Nat) (r : Rec), (chunks ss).flatten[k]? = some r → r.lsn = mk + k
  fine : FineP (chunks ss).flatten
  other : ∀ nm, F nm ≠ none → nm = markNm ∨ nm = markNew ∨ ∃ u, nm = segName u ∧ u < 18446744073709551616 ∧ (u < mk ∨ u ∈ starts mk (chunks ss) ∨ u = nextOf mk ss)
  dead : ∀ t, F (segName (nextOf mk ss)) = some t → ∃ b, t = str b ∧ Junk b
  big : nextOf mk ss < 18446744073709551616
/-- the log that is read -/
def readL (mk : Nat) (ss : List Sg) : ALog := ⟨starts mk (chunks ss), fillOf ss, (chunks ss).flatten, nextOf mk ss, 0, 0⟩
theorem chunks_take (ss : List Sg) (k : Nat) : chunks (ss.take k) = (chunks ss).take k := by simp [chunks, List.map_take]
theorem takeS_at {ss : List Sg} {k : Nat} {s : Sg} (h : ss[k]? = some s) : ss.take (k + 1) = ss.take k ++ [s] := by rw [List.take_add_one, h]; rfl
theorem chunks_snoc (ss : List Sg) (s : Sg) : chunks (ss ++ [s]) = chunks ss ++ [s.1] := by simp [chunks]
theorem nextOf_snoc (mk : Nat) (ss : List Sg) (s : Sg) : nextOf mk (ss ++ [s]) = nextOf mk ss + s.1.length := by unfold nextOf; rw [chunks_snoc, flat_snoc]; simp; omega
theorem nextOf_nil (mk : Nat) : nextOf mk [] = mk := by simp [nextOf]
theorem fillOf_snoc (ss : List Sg) (s : Sg) : fillOf (ss ++ [s]) = fillS s := by unfold fillOf; simp
theorem readL_snoc (mk : Nat) (ss : List Sg) (s : Sg) : readL mk (ss ++ [s]) = ⟨(readL mk ss).segs ++ [(readL mk ss).next], fillS s, (readL mk ss).recs ++ s.1, (readL mk ss).next + s.1.length, 0, 0⟩ := by
  unfold readL
  rw [fillOf_snoc, nextOf_snoc, chunks_snoc, starts_snoc, flat_snoc]
  rfl
theorem nextOf_take_le (mk : Nat) (ss : List Sg) (k : Nat) : nextOf mk (ss.take k) ≤ nextOf mk ss := by
  unfold nextOf
  rw [chunks_take]
  have := congrArg List.length (flat_split k (chunks ss))
  rw [List.length_append] at this
  omega
/-- what is read of a file of a segment -/
theorem sg_ended {s : Sg} (hf : FineX s.1) (hj : Junk s.2) : Byt (sgB s) ∧ Ended (sgB s) s.1.length ∧ (st s.1.length (sgB s)).1 = s.1 ∧ (st s.1.length (sgB s)).2 = (encR s.1).length := by
  obtain ⟨h1, h2, h3⟩ := fx_good s.1 hf s.2
  refine ⟨?_, ⟨h1, ?_⟩, h2, h3⟩
  · intro x hx
    rcases List.mem_append.1 hx with hx | hx
    · exact fx_byt hf x hx
    · exact hj.byt x hx
  · show frameOk ((encR s.1 ++ s.2).drop (st s.1.length (encR s.1 ++ s.2)).2) = false
    rw [h3, drop_app _ _ _ rfl]; exact hj.no
section
variable {F : Files} {mk : Nat} {ss : List Sg}
theorem Stands.ne' (h : Stands F mk ss) : ∀ c ∈ chunks ss, c ≠ [] := by
  intro c hc
  obtain ⟨s, hs, rfl⟩ := List.mem_map.1 hc
  exact h.ne s hs
/-- the k-th segment -/
theorem Stands.at_ (h : Stands F mk ss) {k : Nat} {s : Sg} (hk : ss[k]? = some s) :
    FineX s.1 ∧ (∀ (j : Nat) (r : Rec), s.1[j]? = some r → r.lsn = nextOf mk (ss.take k) + j) ∧ s.1 ≠ [] ∧ F (segName (nextOf mk (ss.take k))) = some (str (sgB s)) ∧ Junk s.2 ∧ bytesR s.1 < 870 ∧ nextOf mk (ss.take k) + s.1.length ≤ nextOf mk ss := by
  have hm := List.mem_of_getElem? hk
  have hc : (chunks ss)[k]? = some s.1 := by simp [chunks, hk]
  have hsp : (chunks ss).flatten = ((chunks ss).take k).flatten ++ (s.1 ++ ((chunks ss).drop (k + 1)).flatten) := by
    have h1 := flat_split (k + 1) (chunks ss)
    rw [takeC_at hc, flat_snoc, List.append_assoc] at h1
    exact h1
  have hat : ∀ (j : Nat) (r : Rec), s.1[j]? = some r → (chunks ss).flatten[((chunks ss).take k).flatten.length + j]? = some r := fun j r hj => by
    rw [hsp, List.getElem?_append_right (by omega), show ((chunks ss).take k).flatten.length + j - ((chunks ss).take k).flatten.length = j by omega, List.getElem?_append_left (List.getElem?_eq_some_iff.1 hj).1]
    exact hj
  have hnx : nextOf mk (ss.take k) = mk + ((chunks ss).take k).flatten.length := by unfold nextOf; rw [chunks_take]
  refine ⟨fun r hr => ?_, fun j r hj => ?_, h.ne s hm, h.files k s hk, h.junk s hm, h.size s hm, ?_⟩
  · obtain ⟨j, hj⟩ := List.mem_iff_getElem?.1 hr
    have h1 := hat j r hj
    have h2 := h.nums _ r h1
    have h3 := (List.getElem?_eq_some_iff.1 h1).1
    obtain ⟨f1, f2, f3⟩ := h.fine r (List.mem_of_getElem? h1)
    have h4 : nextOf mk ss = mk + (chunks ss).flatten.length := rfl
    have := h.big
    exact ⟨f1, f2, f3, by omega⟩
  · have := h.nums _ r (hat j r hj)
    omega
  · rw [hnx]
    have := congrArg List.length hsp
    simp only [List.length_append] at this
    show _ ≤ mk + (chunks ss).flatten.length
    omega
end
end Go.Proofs.YtbdhmkfdofkloaaGreatDoor
/- LOGS OF MANY SEGMENTS: segmentsAmong. -/
namespace Go.Proofs.YtbdhmkfdofkloaaGreatDoor
open Go.RowKit Go.Maps
open Sc

/-- a segment's name, or the mark's, or that of the mark which is to take its place -/
abbrev Nm := Nat ⊕ Bool
def othNm (z : Bool) : ByteArray := if z then markNew else markNm
def nmA : Nm → ByteArray
  | .inl u => segName u
  | .inr z => othNm z
def segN (l : List Nm) : List Nat := l.filterMap fun o => match o with | .inl u => some u | .inr _ => none
theorem segN_seg (l : List Nm) (u : Nat) : segN (l ++ [.inl u]) = segN l ++ [u] := by simp [segN]
theorem segN_oth (l : List Nm) (z : Bool) : segN (l ++ [.inr z]) = segN l := by simp [segN]
theorem segN_le (l : List Nm) : (segN l).length ≤ l.length := by unfold segN; exact List.length_filterMap_le _ _
def NmAt (w : World) (g : Nat) (cl : List Nm) : Prop := ∀ (k : Nat) (o : Nm), cl[k]? = some o → w.cell? ⟨g, k, none⟩ = some (.string (nmA o))
theorem trim_oth (z : Bool) : (⟨(Lib.trimPrefix (othNm z).data.toList [115, 101, 103, 109, 101, 110, 116, 45]).toArray⟩ : ByteArray) = othNm z := by
  cases z <;> decide
theorem parse_oth (z : Bool) : Lib.parseUintB 64 (othNm z).data.toList = .«syntax» := by cases z <;> rfl
theorem oth_size (z : Bool) : (othNm z).size ≤ 281474976710656 := by cases z <;> decide
set_option maxRecDepth 100000 in
set_option maxHeartbeats 4000000 in
theorem among_all (g cap : Nat) (cl : List Nm) (w : World) (hg : g < w.heap.size) (hc : NmAt w g cl) (hu : ∀ u ∈ segN cl, u < 18446744073709551616) (h0 : segN cl ≠ []) (hl : cl.length ≤ 1000000000) (hnd : (segN cl).Nodup) (hpow : Pows w) (herr : ErrS w) (h1 : 2 < w.heap.size) :
    Calls Tryz.prog 87 #[.slice (some ⟨g, 0, none⟩) cl.length cap] w fun e w' => ∃ g' cap' l', e = .returned (.slice (some ⟨g', 0, none⟩) (segN cl).length cap') ∧ l'.Perm (segN cl) ∧ AscTo l' (segN cl).length ∧ w'.ownsRow w.heap.size 34 1 (.slice (some ⟨g', 0, none⟩) (segN cl).length cap') (segN cl).length (u64s l') ∧ Below w.heap.size w w' := by
  obtain ⟨m, hm⟩ : ∃ m, m = cl.length := ⟨_, rfl⟩
  rw [← hm] at hl ⊢
  have HM : Hid (m = cl.length) := hm
  have HU : Hid ((∀ u ∈ segN cl, u < 18446744073709551616) ∧ NmAt w g cl ∧ Pows w ∧ ErrS w) := ⟨hu, hc, hpow, herr⟩
  have hmp : 0 < (segN cl).length := List.length_pos_iff.2 h0
  have hs12 : (segN cl).length ≤ 1000000000 := by have := segN_le cl; omega
  obtain ⟨i0, hi, hz0, hz1, hz2⟩ := info_parts Tryz.infoU64
  have hlen := Tryz.lenStr
  have HND : Hid ((segN cl).Nodup) := hnd
  clear hm hc hu hpow h0 herr hnd
  go_enter Tryz.func87, Tryz.ntmps87
  go_wp2
  go_loopw [12, 3] (fun i v wr => ∃ k : Nat, k ≤ m ∧ i = .int .i64 k ∧ Hid (wr.ownsRow w.heap.size 34 1 v (segN (cl.take k)).length (u64s (segN (cl.take k))) ∧ Below w.heap.size w wr)) (fun i _ _ => m - (intOf i).toNat)
  case atStart => exact ⟨0, Nat.zero_le _, rfl, World.ownsRow_nil _ _ _ _, Below.refl _ _⟩
  case round =>
    obtain ⟨k, hk, rfl, hR⟩ := hrel
    by_cases hlt : k < m
    · obtain ⟨o, ho⟩ : ∃ o, cl[k]? = some o := ⟨_, List.getElem?_eq_getElem (by have := HM.out; omega)⟩
      have ck : wr.cell? ⟨g, k, none⟩ = some (.string (nmA o)) := (hR.out.2.cell (p := ⟨g, k, none⟩) hg).trans (HU.out.2.1 k o ho)
      have HT : Hid (cl.take (k + 1) = cl.take k ++ [o]) := by show _ = _; rw [List.take_add_one, ho]; rfl
      have hs1 := hR.out.2.size
      have hkl : (segN (cl.take k)).length ≤ 1000000000 := by have := segN_le (cl.take k); rw [List.length_take] at this; omega
      cases o with
      | inr z =>
        obtain ⟨ev, hv1, hv2⟩ := HU.out.2.2.2
        have hv3 := (hR.out.2.cell (p := ⟨2, 0, none⟩) h1).trans hv1
        have hps := Tryz.strconv_ParseUint_10_at64_syntax (othNm z) (oth_size z) (parse_oth z) ev wr hv3 hv2
        change wr.cell? ⟨g, k, none⟩ = some (.string (othNm z)) at ck
        clear hv1 hv2 hv3 ho
        go_wp2_with fail
        refine (Tryz.strings_CutPrefix _ _ wr).mono ?_
        rintro e w1 ⟨rfl, rfl⟩
        simp only [trim_oth]
        go_wp2_with fail
        refine hps.mono ?_
        clear hps
        rintro e w2 ⟨Nn, rfl, _, _, hb2⟩
        have HB2 : Hid (Below w1.heap.size w1 w2) := hb2
        clear hb2
        go_wp2
        go_roundw
        case rel => exact ⟨k + 1, by omega, by simp, by rw [HT.out, segN_oth]; exact own_grow0 hR.out.1 HB2.out, hR.out.2.trans (HB2.out.mono hs1)⟩
        case measure => simp [intOf]; omega
      | inl u =>
        change wr.cell? ⟨g, k, none⟩ = some (.string (segName u)) at ck
        have hu64 : u < 18446744073709551616 := HU.out.1 u (by unfold segN; rw [List.mem_filterMap]; exact ⟨.inl u, List.mem_of_getElem? ho, rfl⟩)
        have hpa := parse_dec u hu64
        have hsz := segName_size u hu64
        have hds : (Lib.decDigits u).length ≤ 28 := by
          have : (segName u).size = 8 + (Lib.decDigits u).length := by unfold segName; simp [ByteArray.size]; omega
          omega
        clear ho
        go_wp2_with fail
        refine (Tryz.strings_CutPrefix _ _ wr).mono ?_
        rintro e w1 ⟨rfl, rfl⟩
        simp only [trim_seg]
        go_wp2_with fail
        refine (Tryz.strconv_ParseUint_10_at64_ok ⟨(Lib.decDigits u).toArray⟩ (by simp [ByteArray.size]; omega) u (by simpa using hpa) w1).mono ?_
        rintro e w2 ⟨rfl, hw2⟩
        have hb2 : Below w1.heap.size w1 w2 := by
          rcases hw2 with rfl | rfl
          · exact Below.refl _ _
          · exact below_bytes _ _
        clear hw2
        have hp2 : Pows w2 := HU.out.2.2.1.of_block ((hb2.block 1 (by omega)).trans (hR.out.2.block 1 (by omega)))
        go_wp2_with fail
        refine (segmentName_any u w2 hu64 hp2).mono ?_
        rintro e w3 ⟨rfl, hb3⟩
        have hb13 : Below w1.heap.size w1 w3 := hb2.trans (hb3.mono hb2.size)
        have hrow3 := own_grow0 hR.out.1 hb13
        have HB3 : Hid (Below w.heap.size w w3) := hR.out.2.trans (hb13.mono hs1)
        have hs3 := HB3.out.size
        clear hb2 hb3 hb13 hp2 hpa
        go_wp2_with (first
          | (at_builtin; refine wpList_append_own _ rfl _ _ 98 rfl w.heap.size 34 i0 _ 1 8 Tryz.underlying98 hi hz0 hz1 hz2 rfl (by decide) _ (segN (cl.take k)).length _ rfl (hrow3.alloc _) ⟨w3.heap.size, 0, none⟩ 1 1 [.int .u64 (u : Int)] rfl rfl (cells_new _ #[.int .u64 (u : Int)] _) (by intro x hx; simp at hx; subst hx; rfl) (by unfold maxLen; omega) (by omega) (by simp; omega) ?_; intro v' w4 hown' hgrow _)
          | fail)
        go_roundw
        case rel =>
          refine ⟨k + 1, by omega, by simp, by rw [HT.out, segN_seg, u64s_snoc, List.length_append]; exact hown', ?_⟩
          exact (HB3.out.alloc hs3 _).grown hgrow (by simp; omega) (fun j hj => (hrow3.lt j hj).1)
        case measure => simp [intOf]; omega
    · obtain rfl : k = m := by omega
      have e : cl.take k = cl := List.take_of_length_le (by rw [HM.out]; exact Nat.le_refl _)
      rw [e] at hR
      obtain ⟨gg, cc, rfl⟩ := own_pos hR.out.1 hmp
      obtain ⟨M, hM⟩ : ∃ M, M = (segN cl).length := ⟨_, rfl⟩
      have HMM : Hid (M = (segN cl).length) := hM
      rw [← hM] at hR hmp hs12 ⊢
      clear hM
      go_wp2_with fail
      refine (sortU_all w.heap.size gg M cc (segN cl) wr hR.out.1 HMM.out.symm hs12 HND.out).mono ?_
      rintro e w2 ⟨rfl, l', hs2, ha2⟩
      have HY : Hid (SrtIn wr w2 w.heap.size gg M cc (segN cl) l' ∧ AscTo l' M) := ⟨hs2, ha2⟩
      clear hs2 ha2
      go_wp2
      go_ret
      have hgl := (hR.out.1.lt gg rfl).1
      refine ⟨gg, cc, l', by rw [← HMM.out]; rfl, HY.out.1.perm, by rw [← HMM.out]; exact HY.out.2, by rw [← HMM.out]; exact HY.out.1.row, hR.out.2.trans ?_⟩
      have hf := HY.out.1.fr
      exact ⟨hf.os, hf.tape, hf.output, hf.size, fun k hk => hf.block k (by have := hR.out.2.size; omega) (by simp; omega)⟩
end Go.Proofs.YtbdhmkfdofkloaaGreatDoor
/- LOGS OF MANY SEGMENTS: which segments there are; what is of no use. -/
namespace Go.Proofs.YtbdhmkfdofkloaaGreatDoor
open Go.RowKit Go.Maps
open Sc

/-- the segment behind the last record, if there is one -/
noncomputable def deadL (F : Files) (mk : Nat) (ss : List Sg) : List Nat := if F (segName (nextOf mk ss)) = none then [] else [nextOf mk ss]
/-- the segments from mk on -/
noncomputable def tailL (F : Files) (mk : Nat) (ss : List Sg) : List Nat := starts mk (chunks ss) ++ deadL F mk ss
theorem deadL_mem {F : Files} {mk : Nat} {ss : List Sg} {u : Nat} : u ∈ deadL F mk ss ↔ u = nextOf mk ss ∧ F (segName (nextOf mk ss)) ≠ none := by
  unfold deadL
  split
  · rename_i h; simp [h]
  · rename_i h; simp [h]
theorem nmA_inj {a b : Nm} (h : nmA a = nmA b) : a = b := by
  have hm : markNm ≠ markNew := by decide
  rcases a with u | z <;> rcases b with v | y
  · exact congrArg _ (segName_inj h)
  · exfalso; cases y
    · exact (segName_mark u).1 h
    · exact (segName_mark u).2 h
  · exfalso; cases z
    · exact (segName_mark v).1 h.symm
    · exact (segName_mark v).2 h.symm
  · cases z <;> cases y
    · rfl
    · exact absurd h hm
    · exact absurd h.symm hm
    · rfl
theorem names_nm : ∀ (ns : List ByteArray), (∀ k ∈ ns, ∃ o, k = nmA o) → ∃ cl : List Nm, ns = cl.map nmA
  | [], _ => ⟨[], rfl⟩
  | k :: ns, h => by
    obtain ⟨o, ho⟩ := h k (by simp)
    obtain ⟨cl, hc⟩ := names_nm ns (fun x hx => h x (by simp [hx]))
    exact ⟨o :: cl, by rw [List.map_cons, ← ho, ← hc]⟩
theorem segN_mem {cl : List Nm} {u : Nat} : u ∈ segN cl ↔ (.inl u : Nm) ∈ cl := by
  unfold segN
  rw [List.mem_filterMap]
  constructor
  · rintro ⟨o, ho, h⟩
    rcases o with v | z
    · simp at h; subst h; exact ho
    · simp at h
  · intro h
    exact ⟨_, h, rfl⟩
theorem segN_nodup : ∀ {cl : List Nm}, cl.Nodup → (segN cl).Nodup
  | [], _ => by simp [segN]
  | o :: cl, h => by
    have h2 := List.nodup_cons.1 h
    have ih := segN_nodup h2.2
    rcases o with u | z
    · have e : segN ((.inl u : Nm) :: cl) = u :: segN cl := by simp [segN]
      rw [e, List.nodup_cons]
      exact ⟨fun hm => h2.1 (segN_mem.1 hm), ih⟩
    · have e : segN ((.inr z : Nm) :: cl) = segN cl := by simp [segN]
      rw [e]; exact ih
theorem map_nodup {cl : List Nm} (h : (cl.map nmA).Nodup) : cl.Nodup := by
  unfold List.Nodup at *
  rw [List.pairwise_map] at h
  exact h.imp (fun {a b} hab e => hab (by rw [e]))
section
variable {F : Files} {mk : Nat} {ss : List Sg}
/-- the names that the files have, as the log means them -/
theorem Stands.names (h : Stands F mk ss) {ns : List ByteArray} (hn : NamesOk F ns) : ∃ cl : List Nm, ns = cl.map nmA ∧ (segN cl).Nodup ∧ ∀ u, u ∈ segN cl ↔ F (segName u) ≠ none := by
  obtain ⟨cl, hc⟩ := names_nm ns (fun k hk => by
    rcases h.other k ((hn.2 k).1 hk) with e | e | ⟨u, e, _⟩
    · exact ⟨.inr false, e⟩
    · exact ⟨.inr true, e⟩
    · exact ⟨.inl u, e⟩)
  refine ⟨cl, hc, segN_nodup (map_nodup (by rw [← hc]; exact hn.1)), fun u => ?_⟩
  rw [segN_mem, ← hn.2 (segName u), hc, List.mem_map]
  constructor
  · intro hm; exact ⟨_, hm, rfl⟩
  · rintro ⟨o, ho, he⟩
    have : o = .inl u := nmA_inj he
    rw [this] at ho; exact ho
theorem Stands.start (h : Stands F mk ss) {u : Nat} (hu : u ∈ starts mk (chunks ss)) : F (segName u) ≠ none ∧ mk ≤ u ∧ u < nextOf mk ss := by
  refine ⟨?_, (starts_asc _ mk h.ne').2 u hu, starts_lt _ mk h.ne' u hu⟩
  obtain ⟨k, hk⟩ := List.mem_iff_getElem?.1 hu
  have hkl := (List.getElem?_eq_some_iff.1 hk).1
  rw [starts_len] at hkl
  have h1 := starts_at (chunks ss) mk k hkl
  rw [hk] at h1
  have hkl2 : k < ss.length := by simpa using hkl
  have h2 := h.files k ss[k] (List.getElem?_eq_getElem hkl2)
  have h3 : u = nextOf mk (ss.take k) := by unfold nextOf; rw [chunks_take]; exact Option.some.inj h1
  rw [h3, h2]; simp
theorem Stands.tail_mem (h : Stands F mk ss) (u : Nat) : u ∈ tailL F mk ss ↔ F (segName u) ≠ none ∧ mk ≤ u := by
  unfold tailL
  rw [List.mem_append, deadL_mem]
  constructor
  · rintro (hu | ⟨rfl, hu⟩)
    · exact ⟨(h.start hu).1, (h.start hu).2.1⟩
    · exact ⟨hu, Nat.le_add_right _ _⟩
  · rintro ⟨h1, h2⟩
    rcases h.other _ h1 with e | e | ⟨v, e, _, h3⟩
    · exact absurd e (segName_mark u).1
    · exact absurd e (segName_mark u).2
    · obtain rfl := segName_inj e
      rcases h3 with h3 | h3 | h3
      · omega
      · exact .inl h3
      · exact .inr ⟨h3, by rw [← h3]; exact h1⟩
theorem Stands.tail_asc (h : Stands F mk ss) : (tailL F mk ss).Pairwise (· < ·) := by
  unfold tailL
  rw [List.pairwise_append]
  refine ⟨(starts_asc _ mk h.ne').1, ?_, fun a ha b hb => ?_⟩
  · unfold deadL; split <;> simp
  · obtain ⟨rfl, _⟩ := deadL_mem.1 hb
    exact (h.start ha).2.2
theorem asc_drop {l : List Nat} (h : l.Pairwise (· < ·)) (k : Nat) : (l.drop k).Pairwise (· < ·) := h.sublist (List.drop_sublist _ _)
theorem asc_nodup {l : List Nat} (h : l.Pairwise (· < ·)) : l.Nodup := h.imp (fun {a b} (hab : a < b) => Nat.ne_of_lt hab)
theorem asc_same {a b : List Nat} (ha : a.Pairwise (· < ·)) (hb : b.Pairwise (· < ·)) (h : ∀ u, u ∈ a ↔ u ∈ b) : a = b := by
  have hp : a.Perm b := (List.perm_ext_iff_of_nodup (asc_nodup ha) (asc_nodup hb)).2 h
  exact List.Perm.eq_of_pairwise (le := (· ≤ ·)) (fun _ _ _ _ h1 h2 => Nat.le_antisymm h1 h2) (ha.imp (fun h => Nat.le_of_lt h)) (hb.imp (fun h => Nat.le_of_lt h)) hp
/-- the segments, in order, parted at the mark -/
theorem Stands.parted (h : Stands F mk ss) {l : List Nat} (hl : l.Pairwise (· < ·)) (hm : ∀ u, u ∈ l ↔ F (segName u) ≠ none) {k : Nat} (hk : ∀ (j u : Nat), l[j]? = some u → (j < k → u < mk) ∧ (k ≤ j → mk ≤ u)) : l.drop k = tailL F mk ss := by
  refine asc_same (asc_drop hl k) h.tail_asc (fun u => ?_)
  rw [h.tail_mem, ← hm]
  constructor
  · intro hu
    obtain ⟨j, hj⟩ := List.mem_iff_getElem?.1 hu
    rw [List.getElem?_drop] at hj
    exact ⟨List.mem_of_getElem? hj, (hk _ u hj).2 (by omega)⟩
  · rintro ⟨h1, h2⟩
    obtain ⟨j, hj⟩ := List.mem_iff_getElem?.1 h1
    rcases Nat.lt_or_ge j k with hjk | hjk
    · have := (hk j u hj).1 hjk; omega
    · refine List.mem_iff_getElem?.2 ⟨j - k, ?_⟩
      rw [List.getElem?_drop, show k + (j - k) = j by omega]; exact hj
/-- what is of no use: each once -/
def Useless (F : Files) (mk : Nat) (ss : List Sg) (us : List Nat) : Prop := us.Nodup ∧ ∀ u, u ∈ us ↔ F (segName u) ≠ none ∧ u ∉ starts mk (chunks ss)
theorem Stands.useless (h : Stands F mk ss) {l : List Nat} (hl : l.Pairwise (· < ·)) (hm : ∀ u, u ∈ l ↔ F (segName u) ≠ none) {k : Nat} (hk : ∀ (j u : Nat), l[j]? = some u → (j < k → u < mk) ∧ (k ≤ j → mk ≤ u)) : Useless F mk ss (l.take k ++ deadL F mk ss) := by
  have hp := h.parted hl hm hk
  have hlow : ∀ u ∈ l.take k, u < mk ∧ u ∈ l := fun u hu => by
    obtain ⟨j, hj⟩ := List.mem_iff_getElem?.1 hu
    have hjl := (List.getElem?_eq_some_iff.1 hj).1
    rw [List.length_take] at hjl
    rw [List.getElem?_take, if_pos (by omega)] at hj
    exact ⟨(hk j u hj).1 (by omega), List.mem_of_getElem? hj⟩
  constructor
  · rw [List.nodup_append]
    refine ⟨(asc_nodup hl).sublist (List.take_sublist _ _), by unfold deadL; split <;> simp, fun a ha b hb => ?_⟩
    obtain ⟨rfl, _⟩ := deadL_mem.1 hb
    have := (hlow a ha).1
    have h2 : mk ≤ nextOf mk ss := Nat.le_add_right _ _
    omega
  · intro u
    rw [List.mem_append, deadL_mem]
    constructor
    · rintro (hu | ⟨rfl, hu⟩)
      · refine ⟨(hm u).1 (hlow u hu).2, fun hs => ?_⟩
        have := (h.start hs).2.1
        have := (hlow u hu).1
        omega
      · exact ⟨hu, fun hs => by have := (h.start hs).2.2; omega⟩
    · rintro ⟨h1, h2⟩
      have h3 := (hm u).2 h1
      rw [← List.take_append_drop k l, hp, List.mem_append] at h3
      rcases h3 with h3 | h3
      · exact .inl h3
      · unfold tailL at h3
        rw [List.mem_append, deadL_mem] at h3
        rcases h3 with h3 | h3
        · exact absurd h3 h2
        · exact .inr h3
theorem tail_at (mk : Nat) (ss : List Sg) {k : Nat} (hk : k < ss.length) : (tailL F mk ss)[k]? = some (nextOf mk (ss.take k)) := by
  unfold tailL
  rw [List.getElem?_append_left (by rw [starts_len]; simpa using hk), starts_at _ _ _ (by simpa using hk)]
  unfold nextOf
  rw [chunks_take]
theorem tail_len (mk : Nat) (ss : List Sg) : (tailL F mk ss).length = ss.length + (deadL F mk ss).length := by
  unfold tailL; rw [List.length_append, starts_len]; simp
theorem dead_cases (F : Files) (mk : Nat) (ss : List Sg) : (deadL F mk ss = [] ∧ F (segName (nextOf mk ss)) = none) ∨ (deadL F mk ss = [nextOf mk ss] ∧ F (segName (nextOf mk ss)) ≠ none) := by
  unfold deadL
  split
  · rename_i h; exact .inl ⟨rfl, h⟩
  · rename_i h; exact .inr ⟨rfl, h⟩
end
end Go.Proofs.YtbdhmkfdofkloaaGreatDoor
/- LOGS OF MANY SEGMENTS: readSegment, whatever lies behind the records. -/
namespace Go.Proofs.YtbdhmkfdofkloaaGreatDoor
open Go.RowKit Go.Maps
open Sc

set_option maxRecDepth 100000 in
set_option maxHeartbeats 4000000 in
theorem readSegG (f B p bD bN n nD nN : Nat) (pv : Value) (d : ADisk) (rs : List Rec) (tl : List Nat) (w : World) (h : DiskIn w B p bD bN pv d n nD nN) (hdn : d.down = false) (hrs : FineX rs) (hno : ∀ (k : Nat) (r : Rec), rs[k]? = some r → r.lsn = f + k) (hf : f + rs.length < 18446744073709551616) (hne : rs ≠ []) (htl : Junk tl) (hnow : d.now (segName f) = some (str (sgB (rs, tl)))) (hpow : Pows w) (hlen : rs.length ≤ 1000000000) (hby : (encR rs).length ≤ 4096) :
    Calls Tryz.prog 118 #[dskV p, .int .u64 (f : Int)] w fun e w' => ∃ v, e = .returned (.tuple #[v, .int .i64 (fillS (rs, tl) : Int), .nilIface]) ∧ w'.ownsRow w.heap.size 44 3 v rs.length (recsV rs) ∧ Below w.heap.size w w' := by
  have hm := Tryz.mRead
  have hna := Tryz.nilRead p
  have HI : Hid (DiskIn w B p bD bN pv d n nD nN ∧ d.read (segName f) = (some (str (sgB (rs, tl))), 0)) := ⟨h, by unfold ADisk.read; rw [if_neg (by rw [hdn]; decide), hnow]⟩
  have HF : Hid ((FineX rs ∧ ∀ (k : Nat) (r : Rec), rs[k]? = some r → r.lsn = f + k) ∧ Byt (sgB (rs, tl)) ∧ Ended (sgB (rs, tl)) rs.length ∧ (st rs.length (sgB (rs, tl))).1 = rs ∧ (st rs.length (sgB (rs, tl))).2 = (encR rs).length) := ⟨⟨hrs, hno⟩, sg_ended (s := (rs, tl)) hrs htl⟩
  have HSL : Hid ((sgB (rs, tl)).length = (encR rs).length + tl.length) := by show _ = _; simp [sgB]
  have hsl4 : (sgB (rs, tl)).length ≤ 5000 := by rw [HSL.out]; have := htl.le; omega
  have htl3 := htl.le
  clear h hnow hrs hno htl
  go_enter Tryz.func118, Tryz.ntmps118
  go_wp2
  go_region_held3 (fun _ => True)
    (trivial)
    (first
      | (go_at_call 50; refine (segmentName_any f w.drew (by omega) (show Pows w.drew from hpow)).mono ?_; rintro e w1 ⟨rfl, hb0⟩; have HB1 : Hid (Below w.heap.size w w1) := ⟨hb0.os, hb0.tape, hb0.output, hb0.size, hb0.block⟩; clear hb0)
      | (go_at_call 237; refine (read_any B p bD bN n nD nN pv d (segName f) w1 (HI.out.1.new (Fr.of_below HB1.out [])) (by have := segName_size f (by omega); unfold maxLen; omega)).mono ?_; rintro e w2 ⟨v2, rfl, hg2, hb2⟩))
  all_goals clear hm hna
  all_goals rw [HI.out.2] at hg2 ⊢
  all_goals rw [errN_ok]
  all_goals
    have hsrc : Src w2 v2 (sgB (rs, tl)) := by
      have : Src w2 v2 (bytesOf (str (sgB (rs, tl)))) := hg2
      rwa [bytesOf_str HF.out.2.1] at this
    have hpos : 0 < (encR rs).length := by
      cases hr : rs with
      | nil => exact absurd hr hne
      | cons r l => simp [encR, recBytes_len]; omega
    have hrp : 0 < rs.length := List.length_pos_iff.2 hne
    have hsc := scanW v2 (sgB (rs, tl)) w2 hsrc HF.out.2.1 (by omega)
    have HB2 : Hid (Below w.heap.size w w2) := HB1.out.trans (hb2.mono HB1.out.size)
    obtain ⟨b2, o2, c2, rfl⟩ : ∃ b2 o2 c2, v2 = .slice (some ⟨b2, o2, none⟩) (sgB (rs, tl)).length c2 := by
      rcases hsrc with ⟨_, e⟩ | ⟨b, off, cap, e, _⟩
      · have hsl := HSL.out; rw [e] at hsl; simp at hsl; omega
      · exact ⟨b, off, cap, e⟩
    clear hg2 hb2 hsrc
    go_wp2_with fail
    refine hsc.mono ?_
    clear hsc
    rintro e w3 ⟨k, v3, rfl, hE, hrow, _, hb3⟩
    obtain ⟨z1, z2, z3⟩ := HF.out.2.2
    obtain rfl := ended_unique hE z1
    rw [z2] at hrow
    rw [z3]
    obtain ⟨g3, c3, rfl⟩ := own_pos hrow hrp
    have HB3 : Hid (Below w.heap.size w w3) := HB2.out.trans (hb3.mono HB2.out.size)
    have HR3 : Hid (w3.ownsRow w2.heap.size 44 3 (.slice (some ⟨g3, 0, none⟩) rs.length c3) rs.length (recsV rs)) := hrow
    have hg3 := (hrow.lt g3 rfl).2
    have HC : Hid (∀ (k : Nat) (r : Rec), rs[k]? = some r → w3.cell? ⟨g3, k * 3, none⟩ = some (.int .u64 (r.lsn : Int)) ∧ w3.cell? ⟨g3, k * 3 + 1, none⟩ = some (.int .u8 (r.kind : Int)) ∧ w3.cell? ⟨g3, k * 3 + 2, none⟩ = some (.string (str r.pay))) := fun k r hk => by
      obtain ⟨hk1, rfl⟩ := List.getElem?_eq_some_iff.1 hk
      obtain ⟨a1, a2, a3⟩ := recsV_at rs k hk1
      have q1 := hrow.cells (g := g3) rfl _ _ a1
      have q2 := hrow.cells (g := g3) rfl _ _ a2
      have q3 := hrow.cells (g := g3) rfl _ _ a3
      simp only [Addr.add_lit, Nat.zero_add] at q1 q2 q3
      exact ⟨q1, q2, q3⟩
    clear hE z1 z2 z3 hrow hb3
    obtain ⟨m, hm0⟩ : ∃ m, m = rs.length := ⟨_, rfl⟩
    have HM : Hid (m = rs.length) := hm0
    rw [← hm0] at HR3 hlen hrp hf ⊢
    clear hm0
    obtain ⟨eb, heb⟩ : ∃ eb, eb = (encR rs).length := ⟨_, rfl⟩
    obtain ⟨sl, hsl0⟩ : ∃ sl, sl = (sgB (rs, tl)).length := ⟨_, rfl⟩
    rw [← heb] at hby hpos HSL ⊢
    rw [← hsl0] at HSL hsl4 ⊢
    have HE : Hid (eb = (encR rs).length ∧ (sl = eb + tl.length)) := ⟨heb, HSL.out⟩
    have hle : eb ≤ sl := by have := HSL.out; omega
    clear heb HSL hsl0
    go_wp2
    go_loopw [33] (fun i wr => ∃ k : Nat, k ≤ m ∧ i = .int .i64 k ∧ Hid (Below w3.heap.size w3 wr)) (fun i _ => m - (intOf i).toNat)
    case atStart => exact ⟨0, Nat.zero_le _, rfl, Below.refl _ _⟩
    case round =>
      obtain ⟨k, hk, rfl, hR⟩ := hrel
      by_cases hlt : k < m
      · obtain ⟨r, hr⟩ : ∃ r, rs[k]? = some r := ⟨_, List.getElem?_eq_getElem (by have := HM.out; omega)⟩
        obtain ⟨q1, q2, q3⟩ := HC.out k r hr
        have y1 := HF.out.1.2 k r hr
        rw [y1] at q1
        have r1 := (hR.out.cell (p := ⟨g3, k * 3, none⟩) hg3).trans q1
        have r2 := (hR.out.cell (p := ⟨g3, k * 3 + 1, none⟩) hg3).trans q2
        have r3 := (hR.out.cell (p := ⟨g3, k * 3 + 2, none⟩) hg3).trans q3
        have j1 : IntKind.u64.wrap (k : Int) = (k : Int) := by rw [IntKind.wrap_u64]; omega
        have j2 : IntKind.u64.wrap ((f : Int) + (k : Int)) = (f : Int) + (k : Int) := by rw [IntKind.wrap_u64]; omega
        have hrs := hR.out.size
        clear q1 q2 q3 y1 hr
        go_wp2
        go_roundw
        case rel => exact ⟨k + 1, by omega, by simp, hR.out.alloc hrs _⟩
        case measure => simp [intOf]; omega
      · obtain rfl : k = m := by omega
        have hrow9 : wr.ownsRow w.heap.size 44 3 (.slice (some ⟨g3, 0, none⟩) k c3) rs.length (recsV rs) := by
          rw [← HM.out]
          exact own_grow0 (own_base0 HR3.out HB2.out.size) hR.out
        have H9 : Hid (wr.ownsRow w.heap.size 44 3 (.slice (some ⟨g3, 0, none⟩) k c3) rs.length (recsV rs) ∧ Below w.heap.size w wr) := ⟨hrow9, HB3.out.trans (hR.out.mono HB3.out.size)⟩
        clear hrow9
        by_cases htl : tl = []
        · have hq : eb = sl := by rw [HE.out.2, htl]; rfl
          subst hq
          have hd : decide ((eb : Int) < (eb : Int)) = false := by simp
          go_wp2
          go_ret3
          exact ⟨.slice (some ⟨g3, 0, none⟩) k c3, by unfold fillS; rw [if_pos htl, ← encR_bytes, ← HE.out.1]; rfl, H9.out⟩
        · have hq : (eb : Int) < (sl : Int) := by have := HE.out.2; have : 0 < tl.length := List.length_pos_iff.2 htl; omega
          go_wp2
          go_ret3
          exact ⟨.slice (some ⟨g3, 0, none⟩) k c3, by unfold fillS; rw [if_neg htl]; rfl, H9.out⟩
end Go.Proofs.YtbdhmkfdofkloaaGreatDoor
