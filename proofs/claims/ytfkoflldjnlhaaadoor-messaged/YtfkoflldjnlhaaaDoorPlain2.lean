import Derived.Test.YtfkoflldjnlhaaaDoorPlain
import Derived.Laws.AppendOwnNone
/- package plain: DecodeMessage, EncodeMessage. -/
namespace Go.Proofs.YtfkoflldjnlhaaaDoor
open Go.RowKit
open Sc

theorem decV_form (l : List Nat) : ∃ k f t x : Int, decV l = .agg #[.int .i64 k, .int .i64 f, .int .i64 t, .int .u64 x] := by
  unfold decV; split
  · exact ⟨_, _, _, _, rfl⟩
  · exact ⟨_, _, _, _, rfl⟩

set_option maxRecDepth 100000 in
set_option maxHeartbeats 400000 in
theorem decS_own (base n : Nat) (v : Value) (l : List Nat) (w : World) (hown : w.ownsRow base 5 1 v n (bs l)) (hb : Byt l) :
    Calls Tryd.prog 23 #[v] w fun e w' => e = .returned (.tuple #[decV l, errV (decOk l)]) ∧ Below w.heap.size w w' := by
  obtain ⟨k, f, t, x, hV⟩ := decV_form l
  rw [hV]
  have HO := hown.alloc (msgO 0 0 0 0)
  have HOH : Hid ((w.alloc (msgO 0 0 0 0)).ownsRow base 5 1 v n (bs l)) := HO
  have HV : Hid (decV l = .agg #[.int .i64 k, .int .i64 f, .int .i64 t, .int .u64 x]) := hV
  clear HO hV hown
  go_enter Tryd.func23, Tryd.ntmps23
  go_wp2_with fail
  refine (decode_own base n v l _ HOH.out hb).mono ?_
  rintro e w1 ⟨rfl, hb1⟩
  rw [HV.out]
  have hb1' : Below (w.heap.size + 1) (w.alloc (msgO 0 0 0 0)) w1 := by rw [World.size_alloc] at hb1; exact hb1
  have hc1 : ∀ i, w1.cell? ⟨w.heap.size, i, none⟩ = (w.alloc (msgO 0 0 0 0)).cell? ⟨w.heap.size, i, none⟩ := fun i => hb1'.cell (p := ⟨w.heap.size, i, none⟩) (by simp)
  have hf1 : ∀ i, w1.frozen? ⟨w.heap.size, i, none⟩ = false := fun i => by rw [hb1'.frozen (p := ⟨w.heap.size, i, none⟩) (by simp)]; simp
  have HB1 : Hid (Below w.heap.size w w1) := ((Below.refl _ _).alloc (Nat.le_refl _) _).trans (hb1'.mono (by omega))
  clear hb1 hb1'
  go_wp2
  exact bodyPost_ret (v := .tuple #[.agg #[.int .i64 k, .int .i64 f, .int .i64 t, .int .u64 x], errV (decOk l)]) (by simp [results, Tryd.results23, go_sem, hc1]) rfl ⟨rfl, (((HB1.out.setCell (Nat.le_refl _) _).setCell (Nat.le_refl _) _).setCell (Nat.le_refl _) _).setCell (Nat.le_refl _) _⟩

def toldN (b : Bool) : Int := if b = true then 0 else 2
theorem decE_told (l : List Nat) : decE l = toldN (decOk l) := rfl
theorem toldE (b : Bool) (w : World) (hg : Met w) : Calls Tryd.prog 16 #[errV b] w fun e w' => e = .returned (.int .i64 (toldN b)) ∧ Below w.heap.size w w' := by
  cases b with
  | true => rw [errV_yes]; exact told_nil w
  | false => rw [errV_no]; exact told_err 2 w hg

/-- a slice that holds the bytes l: nil, or somewhere -/
def Src (w : World) (v : Value) (l : List Nat) : Prop :=
  (v = .slice none 0 0 ∧ l = []) ∨ ∃ b off cap, v = .slice (some ⟨b, off, none⟩) l.length cap ∧ RowAt w b off l ∧ b < w.heap.size ∧ l.length ≤ cap ∧ cap ≤ maxLen

theorem Src.alloc {w : World} {v : Value} {l : List Nat} (h : Src w v l) (o : Obj) : Src (w.alloc o) v l := by
  rcases h with h | ⟨b, off, cap, h1, h2, h3, h4⟩
  · exact Or.inl h
  · exact Or.inr ⟨b, off, cap, h1, (RowAt_alloc h3).2 h2, by simp; omega, h4⟩
theorem Src.below {w w' : World} {v : Value} {l : List Nat} (h : Src w v l) (hb : Below w.heap.size w w') : Src w' v l := by
  rcases h with h | ⟨b, off, cap, h1, h2, h3, h4⟩
  · exact Or.inl h
  · exact Or.inr ⟨b, off, cap, h1, h2.below hb h3, Nat.lt_of_lt_of_le h3 hb.size, h4⟩

/-- own := append([]byte(nil), b...) -/
theorem wpList_own {w : World} {ops : Array Oper} {rest : List Oper} {o : Oper} {a : Act} {Q : Exit → Act → World → Prop} (hgd : o.guard = none) (x : Operand)
    (ho : o.op = .call { callee := .builtin .append, args := #[.const (.slice none 0 0), x], argTypes := #[23, 23] })
    (v : Value) (l : List Nat) (hx : a.eval x = v) (hs : Src w v l) (hl : l.length ≤ 1099511627776)
    (h : ∀ v' w', w'.ownsRow w.heap.size 5 1 v' l.length (bs l) → Below w.heap.size w w' → wpList Tryd.prog ops Q rest (a.put o.dst v') w') : wpList Tryd.prog ops Q (o :: rest) a w := by
  obtain ⟨i0, hi, hz0, hz1, hz2⟩ := info_parts Tryd.info5
  rcases hs with ⟨rfl, rfl⟩ | ⟨b, off, cap, rfl, hrow, hlt, _, _⟩
  · exact wpList_append_own_none hgd _ x 23 ho w.heap.size 5 i0 1 Tryd.underlying23 hi (.slice none 0 0) 0 [] rfl (World.ownsRow_nil _ _ _ _) hx
      (h _ _ (World.ownsRow_nil _ _ _ _) (Below.refl _ _))
  · refine wpList_append_own w hgd _ x 23 ho w.heap.size 5 i0 (.int .u8 0) 1 1 Tryd.underlying23 hi hz0 hz1 hz2 rfl (by decide) (.slice none 0 0) 0 [] rfl (World.ownsRow_nil _ _ _ _) ⟨b, off, none⟩ l.length cap (bs l) hx (by rw [bs_len]; omega) ?_ ?_ (by unfold maxLen; omega) (by omega) (Nat.le_refl _) ?_
    · intro j u hj
      have hjl : j < l.length := by
        have := (List.getElem?_eq_some_iff.1 hj).1; rwa [bs_len] at this
      rw [bs_at l j hjl] at hj
      cases hj
      have := hrow j hjl
      simpa [Addr.add_lit] using this
    · intro u hu
      unfold bs at hu
      obtain ⟨y, _, rfl⟩ := List.mem_map.1 hu
      rfl
    · intro v' w' hown hgr _
      refine h v' w' (by simpa using hown) ((Below.refl _ _).grown hgr (Nat.le_refl _) (fun q hq => by simp [Value.ownBlock] at hq))
end Go.Proofs.YtfkoflldjnlhaaaDoor
