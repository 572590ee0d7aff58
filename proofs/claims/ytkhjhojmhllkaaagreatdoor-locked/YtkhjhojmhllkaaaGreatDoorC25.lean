import Derived.Test.YtkhjhojmhllkaaaGreatDoorC24
import Derived.Test.YtkhjhojmhllkaaaGreatDoorC14
import Derived.Test.YtkhjhojmhllkaaaGreatDoorC01
import Derived.Test.YtkhjhojmhllkaaaGreatDoorC07
import Derived.Test.YtkhjhojmhllkaaaGreatDoorC05
import Derived.Lib.AppendStr
import Derived.Test.YtkhjhojmhllkaaaGreatDoorC22
/- SHARDS: refusal, whole. -/
namespace Go.Proofs.YtkhjhojmhllkaaaGreatDoor
open Go.RowKit Go.Maps
open Sc

set_option maxRecDepth 100000 in
set_option maxHeartbeats 8000000 in
theorem refusal_many (sp lg bV bT bH n t : Nat) (seq : Int) (k : ByteArray) (g : AGrip) (s : AShard) (w : World) (h : ShIn w sp lg bV bT bH n s) (ht : t < 18446744073709551616) (h0 : t ≠ 0) (hb : ¬ (k.size < 1 ∨ 16 < k.size ∨ 32 < g.val.size)) (hst : (s.txn t).state = 0) (hsq : seq = ((s.txn t).done : Int)) (h12 : 12 ≤ s.txns.length) (hlg : 1 ≤ lg := by first | assumption | omega) :
    Calls Tryz.prog 133 #[.pointer (some ⟨sp, 0, none⟩), .int .u64 (t : Int), .int .i64 seq, .string k, .agg #[.int .u8 (g.way : Int), .string g.val]] w fun e w' => e = .returned (errN 5) ∧ Fr [] w w' := by
  have hl : ∀ W, Fr [] w W → (Instr.lookup 138 (.map (some bT)) (.int .u64 (t : Int)) false).run Tryz.prog W = .ok (.agg #[.int .i64 ((s.txn t).state : Int), .int .i64 ((s.txn t).done : Int), .int .u64 ((s.txn t).last : Int)]) W := fun W hW => (h.fr hW (by simp) (by simp) (by simp) (by simp)).lookT ht
  have l1 := hl _ ((Fr.refl [] w).alloc (.cells #[.int .u8 (g.way : Int), .string g.val] 146))
  have hn : ∀ W, Fr [] w W → ∀ ty, (Builtin.len_ #[138] ty #[.map (some bT)]).run Tryz.prog W = .ok (.int .i64 (s.txns.length : Int)) W := fun W hW ty => (h.fr hW (by simp) (by simp) (by simp) (by simp)).lenT ty
  have l2 := hn _ (((Fr.refl [] w).alloc (.cells #[.int .u8 (g.way : Int), .string g.val] 146)).alloc (.cells #[.int .i64 ((s.txn t).state : Int), .int .i64 ((s.txn t).done : Int), .int .u64 ((s.txn t).last : Int)] 153))
  have c0 := blk_cell h.blk 0
  have c2 := blk_cell h.blk 2
  simp at c0 c2
  rw [lgP_pos hlg] at c0
  clear hlg
  have hsp := h.lts.1
  have z1 : ¬ sp = w.heap.size := by omega
  have i0 : ¬ (t : Int) = 0 := by omega
  have j1 : ¬ (k.size : Int) < 1 := by omega
  have j2 : ¬ (16 : Int) < (k.size : Int) := by omega
  have j3 : ¬ (32 : Int) < (g.val.size : Int) := by omega
  have j4 : ((s.txn t).state : Int) = 0 := by omega
  have j6 : (12 : Int) ≤ (s.txns.length : Int) := by omega
  rw [j4] at l1 l2
  subst hsq
  clear h hl hn hb hst h12 j4
  go_enter Tryz.func133, Tryz.ntmps133
  go_wp2
  go_ret
  exact ⟨by rw [errN_no (by decide)]; rfl, ((Fr.refl [] w).alloc _).alloc _⟩

/-- how many keys a transaction holds -/
def AShard.count (s : AShard) (t : Nat) : Nat := (s.holds.filter fun p => decide (p.1.1 = t)).length
theorem once_keys {K V : Type} [DecidableEq K] {l : List (K × V)} (h : Once1 l) : (l.map (·.1)).Nodup := by
  unfold List.Nodup
  rw [List.pairwise_map]
  exact h
theorem AShard.count_of {s : AShard} {t : Nat} {L : List (ByteArray × AGrip)} (hs : Once1 s.holds) (hL : Once1 L) (h : ∀ k, alLook L k = alLook s.holds (t, k)) : L.length = s.count t := by
  have n1 := once_keys hL
  have n2 : ((s.holds.filter fun p => decide (p.1.1 = t)).map (·.1.2)).Nodup := by
    unfold List.Nodup
    rw [List.pairwise_map]
    refine (hs.filter _).imp_of_mem ?_
    intro a b ha hb hne e
    have ha2 := (List.mem_filter.1 ha).2
    have hb2 := (List.mem_filter.1 hb).2
    simp at ha2 hb2
    exact hne (Prod.ext (ha2.trans hb2.symm) e)
  have hp : (L.map (·.1)).Perm ((s.holds.filter fun p => decide (p.1.1 = t)).map (·.1.2)) := by
    rw [List.perm_ext_iff_of_nodup n1 n2]
    intro k
    constructor
    · intro hk
      obtain ⟨p, hp, rfl⟩ := List.mem_map.1 hk
      have := alLook_of hL (k := p.1) (v := p.2) hp
      rw [h] at this
      exact List.mem_map.2 ⟨_, List.mem_filter.2 ⟨alLook_mem this, by simp⟩, rfl⟩
    · intro hk
      obtain ⟨p, hp, rfl⟩ := List.mem_map.1 hk
      obtain ⟨hp1, hp2⟩ := List.mem_filter.1 hp
      simp at hp2
      have : alLook s.holds (t, p.1.2) = some p.2 := alLook_of hs (by rw [← hp2]; exact hp1)
      rw [← h] at this
      exact List.mem_map.2 ⟨_, alLook_mem this, rfl⟩
  have := hp.length_eq
  simpa [AShard.count] using this
/-- the last error: a fifth key -/
def AShard.refuse2 (s : AShard) (t : Nat) (k : ByteArray) : Nat := if (alLook s.holds (t, k)).isSome = false ∧ 4 ≤ s.count t then 5 else 0
set_option maxRecDepth 100000 in
set_option maxHeartbeats 8000000 in
theorem refusal_rest (sp lg bV bT bH n t : Nat) (seq : Int) (k : ByteArray) (g : AGrip) (s : AShard) (w : World) (h : ShIn w sp lg bV bT bH n s) (ht : t < 18446744073709551616) (h0 : t ≠ 0) (hb : ¬ (k.size < 1 ∨ 16 < k.size ∨ 32 < g.val.size)) (hst : (s.txn t).state = 0 ∨ (s.txn t).state = 1) (hsq : seq = ((s.txn t).done : Int)) (h12 : (s.txn t).state = 0 → s.txns.length < 12) (hn : n < maxLen) (hlg : 1 ≤ lg := by first | assumption | omega) :
    Calls Tryz.prog 133 #[.pointer (some ⟨sp, 0, none⟩), .int .u64 (t : Int), .int .i64 seq, .string k, .agg #[.int .u8 (g.way : Int), .string g.val]] w fun e w' => e = .returned (errN (s.refuse2 t k)) ∧ Fr [] w w' := by
  have hkm : k.size ≤ maxLen := by unfold maxLen; omega
  obtain ⟨W, hW⟩ : ∃ W, W = (w.alloc (.cells #[.int .u8 (g.way : Int), .string g.val] 146)).alloc (.cells #[.int .i64 ((s.txn t).state : Int), .int .i64 ((s.txn t).done : Int), .int .u64 ((s.txn t).last : Int)] 153) := ⟨_, rfl⟩
  have hfW : Fr [] w W := by rw [hW]; exact ((Fr.refl [] w).alloc _).alloc _
  have hinW := h.fr hfW (by simp) (by simp) (by simp) (by simp)
  have hl : ∀ W, Fr [] w W → (Instr.lookup 138 (.map (some bT)) (.int .u64 (t : Int)) false).run Tryz.prog W = .ok (.agg #[.int .i64 ((s.txn t).state : Int), .int .i64 ((s.txn t).done : Int), .int .u64 ((s.txn t).last : Int)]) W := fun W hW => (h.fr hW (by simp) (by simp) (by simp) (by simp)).lookT ht
  have l1 := hl _ ((Fr.refl [] w).alloc (.cells #[.int .u8 (g.way : Int), .string g.val] 146))
  have l2 := hinW.lenT
  have hho := holdsOf_any sp lg bV bT bH n t s W hinW ht hn
  have HO : Hid (Once1 s.holds) := by obtain ⟨_, _, _, h3, _⟩ := h.holds; exact h3
  rw [hW] at l2 hho
  have HFW : Hid (Fr [] w ((w.alloc (.cells #[.int .u8 (g.way : Int), .string g.val] 146)).alloc (.cells #[.int .i64 ((s.txn t).state : Int), .int .i64 ((s.txn t).done : Int), .int .u64 ((s.txn t).last : Int)] 153))) := by rw [← hW]; exact hfW
  have c0 := blk_cell h.blk 0
  have c2 := blk_cell h.blk 2
  simp at c0 c2
  rw [lgP_pos hlg] at c0
  clear hlg
  have hsp := h.lts.1
  have z1 : ¬ sp = w.heap.size := by omega
  have i0 : ¬ (t : Int) = 0 := by omega
  have j1 : ¬ (k.size : Int) < 1 := by omega
  have j2 : ¬ (16 : Int) < (k.size : Int) := by omega
  have j3 : ¬ (32 : Int) < (g.val.size : Int) := by omega
  subst hsq
  clear h hl hb hinW hfW hW
  rcases hst with hst | hst
  · have j4 : ((s.txn t).state : Int) = 0 := by omega
    have j6 : ¬ (12 : Int) ≤ (s.txns.length : Int) := by have := h12 hst; omega
    rw [j4] at l1 l2 hho HFW
    clear hst h12 j4
    go_enter Tryz.func133, Tryz.ntmps133
    go_wp2_with fail
    refine hho.mono ?_
    clear hho
    rintro e w1 ⟨b, L, rfl, hb, hL, hlk, hf1⟩
    have HC : Hid (L.length = s.count t) := AShard.count_of HO.out (by obtain ⟨_, _, _, h3, _⟩ := hL; exact h3) hlk
    have q1 := hL.lookOk Tryz.underlying167 (zeroGrip w1) trivial (k := k) hkm
    rw [hlk k] at q1
    have HF : Hid (Fr [] w w1) := HFW.out.trans hf1
    have HM : Hid (MapAs KS EG w1 b n L) := hL
    obtain ⟨G, hG⟩ : ∃ G, G = (alLook s.holds (t, k)).getD ⟨0, ByteArray.empty⟩ := ⟨_, rfl⟩
    rw [← hG] at q1
    have q1' : (Instr.lookup 167 (.map (some b)) (.string k) true).run Tryz.prog w1 = .ok (.tuple #[.agg #[.int .u8 (G.way : Int), .string G.val], .bool (alLook s.holds (t, k)).isSome]) w1 := q1
    have q2 : ∀ ty, (Builtin.len_ #[167] ty #[.map (some b)]).run Tryz.prog (w1.alloc (.cells #[.int .u8 (G.way : Int), .string G.val] 146)) = .ok (.int .i64 (s.count t : Int)) (w1.alloc (.cells #[.int .u8 (G.way : Int), .string G.val] 146)) := fun ty => by
      rw [← HC.out]; exact (HM.out.fr ((Fr.refl [] w1).alloc _) (by simp)).lenRun Tryz.underlying167 ty
    clear hL hlk hf1 q1 hG l1 l2 c0 c2
    cases hO : (alLook s.holds (t, k)).isSome with
    | true =>
      rw [hO] at q1'
      have HR : Hid (s.refuse2 t k = 0) := by show _ = _; unfold AShard.refuse2; rw [if_neg (by simp [hO])]
      clear hO
      go_wp2
      go_ret
      rw [HR.out]
      exact ⟨rfl, HF.out.alloc _⟩
    | false =>
      rw [hO] at q1'
      by_cases h4 : 4 ≤ s.count t
      · have HR : Hid (s.refuse2 t k = 5) := by show _ = _; unfold AShard.refuse2; rw [if_pos ⟨hO, h4⟩]
        have j7 : (4 : Int) ≤ (s.count t : Int) := by omega
        clear hO h4
        go_wp2
        go_ret
        rw [HR.out]
        exact ⟨by rw [errN_no (by decide)]; rfl, HF.out.alloc _⟩
      · have HR : Hid (s.refuse2 t k = 0) := by show _ = _; unfold AShard.refuse2; rw [if_neg (by omega)]
        have j7 : ¬ (4 : Int) ≤ (s.count t : Int) := by omega
        clear hO h4
        go_wp2
        go_ret
        rw [HR.out]
        exact ⟨rfl, HF.out.alloc _⟩
  · have j4 : ((s.txn t).state : Int) = 1 := by omega
    rw [j4] at l1 l2 hho HFW
    clear hst h12 j4
    go_enter Tryz.func133, Tryz.ntmps133
    go_wp2_with fail
    refine hho.mono ?_
    clear hho
    rintro e w1 ⟨b, L, rfl, hb, hL, hlk, hf1⟩
    have HC : Hid (L.length = s.count t) := AShard.count_of HO.out (by obtain ⟨_, _, _, h3, _⟩ := hL; exact h3) hlk
    have q1 := hL.lookOk Tryz.underlying167 (zeroGrip w1) trivial (k := k) hkm
    rw [hlk k] at q1
    have HF : Hid (Fr [] w w1) := HFW.out.trans hf1
    have HM : Hid (MapAs KS EG w1 b n L) := hL
    obtain ⟨G, hG⟩ : ∃ G, G = (alLook s.holds (t, k)).getD ⟨0, ByteArray.empty⟩ := ⟨_, rfl⟩
    rw [← hG] at q1
    have q1' : (Instr.lookup 167 (.map (some b)) (.string k) true).run Tryz.prog w1 = .ok (.tuple #[.agg #[.int .u8 (G.way : Int), .string G.val], .bool (alLook s.holds (t, k)).isSome]) w1 := q1
    have q2 : ∀ ty, (Builtin.len_ #[167] ty #[.map (some b)]).run Tryz.prog (w1.alloc (.cells #[.int .u8 (G.way : Int), .string G.val] 146)) = .ok (.int .i64 (s.count t : Int)) (w1.alloc (.cells #[.int .u8 (G.way : Int), .string G.val] 146)) := fun ty => by
      rw [← HC.out]; exact (HM.out.fr ((Fr.refl [] w1).alloc _) (by simp)).lenRun Tryz.underlying167 ty
    clear hL hlk hf1 q1 hG l1 l2 c0 c2
    cases hO : (alLook s.holds (t, k)).isSome with
    | true =>
      rw [hO] at q1'
      have HR : Hid (s.refuse2 t k = 0) := by show _ = _; unfold AShard.refuse2; rw [if_neg (by simp [hO])]
      clear hO
      go_wp2
      go_ret
      rw [HR.out]
      exact ⟨rfl, HF.out.alloc _⟩
    | false =>
      rw [hO] at q1'
      by_cases h4 : 4 ≤ s.count t
      · have HR : Hid (s.refuse2 t k = 5) := by show _ = _; unfold AShard.refuse2; rw [if_pos ⟨hO, h4⟩]
        have j7 : (4 : Int) ≤ (s.count t : Int) := by omega
        clear hO h4
        go_wp2
        go_ret
        rw [HR.out]
        exact ⟨by rw [errN_no (by decide)]; rfl, HF.out.alloc _⟩
      · have HR : Hid (s.refuse2 t k = 0) := by show _ = _; unfold AShard.refuse2; rw [if_neg (by omega)]
        have j7 : ¬ (4 : Int) ≤ (s.count t : Int) := by omega
        clear hO h4
        go_wp2
        go_ret
        rw [HR.out]
        exact ⟨rfl, HF.out.alloc _⟩
end Go.Proofs.YtkhjhojmhllkaaaGreatDoor
/- SHARDS: operate. -/
namespace Go.Proofs.YtkhjhojmhllkaaaGreatDoor
open Go.RowKit Go.Maps
open Sc

/-- what an operation says -/
def AShard.refuse (s : AShard) (t : Nat) (seq : Int) (k v : ByteArray) : Nat := if s.refuse1 t seq k v = 0 then s.refuse2 t k else s.refuse1 t seq k v
theorem refuse1_cases (s : AShard) (t : Nat) (seq : Int) (k v : ByteArray) (h0 : t ≠ 0) :
    (s.refuse1 t seq k v ≠ 0 ∧ s.refuse1 t seq k v ≠ 5) ∨ (s.refuse1 t seq k v = 5 ∧ ¬ (k.size < 1 ∨ 16 < k.size ∨ 32 < v.size) ∧ seq = ((s.txn t).done : Int) ∧ (s.txn t).state = 0 ∧ 12 ≤ s.txns.length) ∨
    (s.refuse1 t seq k v = 0 ∧ ¬ (k.size < 1 ∨ 16 < k.size ∨ 32 < v.size) ∧ seq = ((s.txn t).done : Int) ∧ (s.txn t).state ≠ 3 ∧ (s.txn t).state ≠ 2 ∧ ¬ ((s.txn t).state = 0 ∧ 12 ≤ s.txns.length)) := by
  unfold AShard.refuse1
  rw [if_neg h0]
  by_cases hb : k.size < 1 ∨ 16 < k.size ∨ 32 < v.size
  · rw [if_pos hb]; exact .inl ⟨by decide, by decide⟩
  · rw [if_neg hb]
    by_cases hd : (s.txn t).state = 3 ∨ seq ≠ ((s.txn t).done : Int)
    · rw [if_pos hd]; exact .inl ⟨by decide, by decide⟩
    · rw [if_neg hd]
      by_cases h2 : (s.txn t).state = 2
      · rw [if_pos h2]; exact .inl ⟨by decide, by decide⟩
      · rw [if_neg h2]
        by_cases h5 : (s.txn t).state = 0 ∧ 12 ≤ s.txns.length
        · rw [if_pos h5]; exact .inr (.inl ⟨rfl, hb, by omega, h5.1, h5.2⟩)
        · rw [if_neg h5]; exact .inr (.inr ⟨rfl, hb, by omega, by omega, h2, h5⟩)
theorem refusal_any (sp lg bV bT bH n t : Nat) (seq : Int) (k : ByteArray) (g : AGrip) (s : AShard) (w : World) (h : ShIn w sp lg bV bT bH n s) (ht : t < 18446744073709551616) (hn : n < maxLen) (hst : (s.txn t).state ≤ 3) (hlg : 1 ≤ lg := by first | assumption | omega) :
    Calls Tryz.prog 133 #[.pointer (some ⟨sp, 0, none⟩), .int .u64 (t : Int), .int .i64 seq, .string k, .agg #[.int .u8 (g.way : Int), .string g.val]] w fun e w' => e = .returned (errN (s.refuse t seq k g.val)) ∧ Fr [] w w' := by
  unfold AShard.refuse
  by_cases h0 : t = 0
  · subst h0
    have e : s.refuse1 0 seq k g.val = 7 := by unfold AShard.refuse1; rw [if_pos rfl]
    rw [e, if_neg (by decide)]
    exact refusal_zero sp lg bV bT bH n seq k g s w h
  · rcases refuse1_cases s t seq k g.val h0 with ⟨e1, e2⟩ | ⟨e, hb, hq, h1, h2⟩ | ⟨e, hb, hq, h1, h2, h3⟩
    · rw [if_neg e1]
      exact refusal_first sp lg bV bT bH n t seq k g s w h ht h0 e2 e1
    · rw [e, if_neg (by decide)]
      exact refusal_many sp lg bV bT bH n t seq k g s w h ht h0 hb h1 hq h2
    · rw [e, if_pos rfl]
      exact refusal_rest sp lg bV bT bH n t seq k g s w h ht h0 hb (by omega) hq (by omega) hn
/-- an operation: what is left, and what it says -/
def AShard.operate (s : AShard) (t : Nat) (seq : Int) (k : ByteArray) (g : AGrip) : AShard × Nat :=
  if s.refuse t seq k g.val = 0 then
    if s.clash t k g.writes = true then ({ s with txns := alPut s.txns t ⟨2, (s.txn t).done, s.ticks⟩ }, 3)
    else (({ s with txns := alPut s.txns t ⟨1, (s.txn t).done + 1, s.ticks⟩ } : AShard).take t k g, 0)
  else (s, s.refuse t seq k g.val)
theorem refuse_small {s : AShard} {t : Nat} {seq : Int} {k v : ByteArray} (h : s.refuse t seq k v = 0) : t ≠ 0 ∧ k.size ≤ 16 ∧ v.size ≤ 32 := by
  unfold AShard.refuse at h
  by_cases h0 : t = 0
  · subst h0
    have e : s.refuse1 0 seq k v = 7 := by unfold AShard.refuse1; rw [if_pos rfl]
    rw [e, if_neg (by decide)] at h
    exact absurd h (by decide)
  · rcases refuse1_cases s t seq k v h0 with ⟨e1, e2⟩ | ⟨e, _⟩ | ⟨e, hb, _⟩
    · rw [if_neg e1] at h; exact absurd h e1
    · rw [e, if_neg (by decide)] at h; exact absurd h (by decide)
    · exact ⟨h0, by omega, by omega⟩
set_option maxRecDepth 100000 in
set_option maxHeartbeats 8000000 in
theorem operate_any (sp lg bV bT bH n t : Nat) (seq : Int) (k : ByteArray) (g : AGrip) (s : AShard) (w : World) (h : ShIn w sp lg bV bT bH n s) (ht : t < 18446744073709551616) (hn : n + 2 < maxLen) (hst : (s.txn t).state ≤ 3) (hdn : (s.txn t).done < 4611686018427387904) (hlg : 1 ≤ lg := by first | assumption | omega) :
    Calls Tryz.prog 94 #[.pointer (some ⟨sp, 0, none⟩), .int .u64 (t : Int), .int .i64 seq, .string k, .agg #[.int .u8 (g.way : Int), .string g.val]] w fun e w' => e = .returned (errN (s.operate t seq k g).2) ∧ ShIn w' sp lg bV bT bH (n + 2) (s.operate t seq k g).1 ∧ Fr [bT, bH] w w' := by
  obtain ⟨W0, hW0⟩ : ∃ W0, W0 = w.alloc (.cells #[.int .u8 (g.way : Int), .string g.val] 146) := ⟨_, rfl⟩
  have hf0 : Fr [] w W0 := by rw [hW0]; exact (Fr.refl [] w).alloc _
  have hb0 : W0.heap[w.heap.size]? = some (.cells #[.int .u8 (g.way : Int), .string g.val] 146) := by rw [hW0]; exact heap_alloc_new w _
  have hin0 := h.fr hf0 (by simp) (by simp) (by simp) (by simp)
  have hrf := refusal_any sp lg bV bT bH n t seq k g s W0 hin0 ht (by omega) hst
  rw [hW0] at hrf
  have H0 : Hid (Fr [] w W0 ∧ W0.heap[w.heap.size]? = some (.cells #[.int .u8 (g.way : Int), .string g.val] 146) ∧ ShIn W0 sp lg bV bT bH n s) := ⟨hf0, hb0, hin0⟩
  have HW : Hid (W0 = w.alloc (.cells #[.int .u8 (g.way : Int), .string g.val] 146)) := hW0
  have hsp := h.lts
  clear h hf0 hb0 hin0 hW0
  go_enter Tryz.func94, Tryz.ntmps94
  go_wp2_with fail
  refine hrf.mono ?_
  clear hrf
  rintro e w1 ⟨rfl, hf1⟩
  rw [← HW.out] at hf1
  have hin1 := H0.out.2.2.fr hf1 (by simp) (by simp) (by simp) (by simp)
  have hb1 := (hf1.block _ (Array.getElem?_eq_some_iff.1 H0.out.2.1).1 (by simp)).trans H0.out.2.1
  have hl1 := (Array.getElem?_eq_some_iff.1 hb1).1
  have HF1 : Hid (Fr [] w w1) := H0.out.1.trans hf1
  have c2 := blk_cell hin1.blk 2
  have c4 := blk_cell hin1.blk 4
  have l1 := hin1.lookT ht
  simp at c2 c4
  have H1 : Hid (ShIn w1 sp lg bV bT bH n s ∧ w1.heap[w.heap.size]? = some (.cells #[.int .u8 (g.way : Int), .string g.val] 146)) := ⟨hin1, hb1⟩
  clear hf1 hin1 hb1 H0 HW
  by_cases hr : s.refuse t seq k g.val = 0
  · rw [hr, errN_ok]
    obtain ⟨_, hks, hvs⟩ := refuse_small hr
    have g0 := blk_cell H1.out.2 0
    have g1 := blk_cell H1.out.2 1
    simp at g0 g1
    have hw1 : w.heap.size ≤ w1.heap.size := HF1.out.size
    have z0 := H1.out.1.lts
    have z1 : ¬ sp = w1.heap.size := by omega
    have z2 : ¬ w.heap.size = w1.heap.size := by omega
    have z3 : ¬ w1.heap.size = w.heap.size := by omega
    have hkm : k.size ≤ maxLen := by unfold maxLen; omega
    go_wp2_with fail
    refine (clashes_any sp lg bV bT bH n t k g s _ (H1.out.1.fr ((Fr.refl [] w1).alloc _) (by simp) (by simp) (by simp) (by simp)) hkm).mono ?_
    rintro e w4 ⟨rfl, hf4⟩
    have hin4 := (H1.out.1.fr ((Fr.refl [] w1).alloc (.cells #[.int .i64 ((s.txn t).state : Int), .int .i64 ((s.txn t).done : Int), .int .u64 (s.ticks : Int)] 153)) (by simp) (by simp) (by simp) (by simp)).fr hf4 (by simp) (by simp) (by simp) (by simp)
    have hg4 : w4.heap[w.heap.size]? = some (.cells #[.int .u8 (g.way : Int), .string g.val] 146) := (hf4.block _ (by simp; omega) (by simp)).trans ((Below.heap_alloc _ _ _ hl1).trans H1.out.2)
    have ht4 : w4.heap[w1.heap.size]? = some (.cells #[.int .i64 ((s.txn t).state : Int), .int .i64 ((s.txn t).done : Int), .int .u64 (s.ticks : Int)] 153) := (hf4.block _ (by simp) (by simp)).trans (heap_alloc_new w1 _)
    have HF4 : Hid (Fr [] w w4) := (HF1.out.alloc _).trans hf4
    have hs4 : w1.heap.size < w4.heap.size := (Array.getElem?_eq_some_iff.1 ht4).1
    have H4 : Hid (ShIn w4 sp lg bV bT bH n s ∧ w4.heap[w.heap.size]? = some (.cells #[.int .u8 (g.way : Int), .string g.val] 146) ∧ w4.heap[w1.heap.size]? = some (.cells #[.int .i64 ((s.txn t).state : Int), .int .i64 ((s.txn t).done : Int), .int .u64 (s.ticks : Int)] 153)) := ⟨hin4, hg4, ht4⟩
    clear hin4 hg4 ht4 hf4 g0 g1 c2 c4 l1 H1 z0 z1 z2 z3
    have PUT : Hid (∀ (a b : Nat) (W : World), Fr [w1.heap.size] w4 W → W.heap[w1.heap.size]? = some (.cells #[.int .i64 (a : Int), .int .i64 (b : Int), .int .u64 (s.ticks : Int)] 153) → ∃ w', (Instr.mapUpdate 138 (.map (some bT)) (.int .u64 (t : Int)) (.agg #[.int .i64 (a : Int), .int .i64 (b : Int), .int .u64 (s.ticks : Int)])).run Tryz.prog W.drew = .ok () w' ∧ ShIn w' sp lg bV bT bH (n + 1) { s with txns := alPut s.txns t ⟨a, b, s.ticks⟩ } ∧ Fr [bT] W w' ∧ Fr [bT, bH] w w' ∧ w'.heap[w.heap.size]? = some (.cells #[.int .u8 (g.way : Int), .string g.val] 146) ∧ W.cell? ⟨sp, 2, none⟩ = some (.map (some bT))) := by
      intro a b W hf hb
      have hl := H4.out.1.lts
      have hl0 := HF1.out.size
      have hw := hl1
      have hinW := H4.out.1.fr hf (by simp; omega) (by simp; omega) (by simp; omega) (by simp; omega)
      obtain ⟨w5, hr5, hm5, hg5⟩ := (hinW.txns.fr (Fr.refl [] W).drew (by simp)).putRun Tryz.underlying138 (by omega) (k := t) ht (v := (⟨a, b, s.ticks⟩ : ATxn)) trivial
      have hf5 : Fr [bT] W w5 := ((Fr.refl [bT] W).drew).trans (Fr.of_grown1 hg5)
      have cc := blk_cell hinW.blk 2
      simp at cc
      refine ⟨w5, hr5, hinW.setTxns hf5 hm5 (by omega), hf5, ?_, ?_, cc⟩
      · have h1 : Fr [bT, bH] w W := (HF4.out.mono (by simp)).andThen hf (fun j hj hlt => by simp at hj; omega)
        exact h1.trans (hf5.mono (by intro k _ hk; simp at hk ⊢; exact .inl hk))
      · exact (hf5.block _ (by have := hf.size; omega) (by simp; omega)).trans ((hf.block _ (by omega) (by simp; omega)).trans H4.out.2.1)
    have t0 := blk_cell H4.out.2.2 0
    have t1 := blk_cell H4.out.2.2 1
    have t2 := blk_cell H4.out.2.2 2
    have f0 := blk_free H4.out.2.2 0
    have f1 := blk_free H4.out.2.2 1
    simp at t0 t1 t2
    cases hc : s.clash t k g.writes with
    | true =>
      have HO : Hid (s.operate t seq k g = ({ s with txns := alPut s.txns t ⟨2, (s.txn t).done, s.ticks⟩ }, 3)) := by show _ = _; unfold AShard.operate; rw [if_pos hr, if_pos hc]
      obtain ⟨W5, hW5⟩ : ∃ W5, W5 = w4.setCell ⟨w1.heap.size, 0, none⟩ (.int .i64 2) := ⟨_, rfl⟩
      have hf5 : Fr [w1.heap.size] w4 W5 := by rw [hW5]; exact Fr.set1 (by simp) _ _
      have hb5 : W5.heap[w1.heap.size]? = some (.cells #[.int .i64 ((2 : Nat) : Int), .int .i64 ((s.txn t).done : Int), .int .u64 (s.ticks : Int)] 153) := by rw [hW5]; have := blk_set H4.out.2.2 0 (.int .i64 2); simpa using this
      obtain ⟨w6, hr6, hin6, _, hf6, _, cc⟩ := PUT.out 2 (s.txn t).done W5 hf5 hb5
      have u0 := blk_cell hb5 0
      have u1 := blk_cell hb5 1
      have u2 := blk_cell hb5 2
      simp at u0 u1 u2 hr6
      have H6 : Hid (ShIn w6 sp lg bV bT bH (n + 1) { s with txns := alPut s.txns t ⟨2, (s.txn t).done, s.ticks⟩ } ∧ Fr [bT, bH] w w6) := ⟨hin6, hf6⟩
      clear hin6 hf6 hb5 hf5 PUT hr hc
      go_wp2
      rw [← hW5]
      clear hW5 t0 t1 t2 f0 f1
      go_region
      go_wp2
      go_ret
      rw [HO.out]
      exact ⟨by show _ = Ending.returned (errN 3); rw [errN_no (by decide)]; rfl, H6.out.1.mono (by omega), H6.out.2⟩
    | false =>
      have HO : Hid (s.operate t seq k g = (({ s with txns := alPut s.txns t ⟨1, (s.txn t).done + 1, s.ticks⟩ } : AShard).take t k g, 0)) := by show _ = _; unfold AShard.operate; rw [if_pos hr, if_neg (by rw [hc]; decide)]
      obtain ⟨W5, hW5⟩ : ∃ W5, W5 = (w4.setCell ⟨w1.heap.size, 0, none⟩ (.int .i64 1)).setCell ⟨w1.heap.size, 1, none⟩ (.int .i64 ((s.txn t).done + 1 : Int)) := ⟨_, rfl⟩
      have hf5 : Fr [w1.heap.size] w4 W5 := by rw [hW5]; exact (Fr.set1 (by simp) _ _).trans (Fr.set1 (by simp) _ _)
      have hb5 : W5.heap[w1.heap.size]? = some (.cells #[.int .i64 ((1 : Nat) : Int), .int .i64 (((s.txn t).done + 1 : Nat) : Int), .int .u64 (s.ticks : Int)] 153) := by rw [hW5]; have := blk_set (blk_set H4.out.2.2 0 (.int .i64 1)) 1 (.int .i64 ((s.txn t).done + 1 : Int)); simpa using this
      obtain ⟨w6, hr6, hin6, hx6, hf6, hg6, cc⟩ := PUT.out 1 ((s.txn t).done + 1) W5 hf5 hb5
      have u0 := blk_cell hb5 0
      have u1 := blk_cell hb5 1
      have u2 := blk_cell hb5 2
      have v0 := blk_cell hg6 0
      have v1 := blk_cell hg6 1
      have vf := blk_free hg6 1
      simp at u0 u1 u2 hr6 v0 v1
      have j1 : IntKind.i64.wrap (((s.txn t).done : Int) + 1) = ((s.txn t).done : Int) + 1 := by rw [IntKind.wrap_i64]; omega
      have hl6 := (Array.getElem?_eq_some_iff.1 hg6).1
      have H6 : Hid (ShIn w6 sp lg bV bT bH (n + 1) { s with txns := alPut s.txns t ⟨1, (s.txn t).done + 1, s.ticks⟩ } ∧ Fr [bT, bH] w w6 ∧ w6.heap[w.heap.size]? = some (.cells #[.int .u8 (g.way : Int), .string g.val] 146)) := ⟨hin6, hf6, hg6⟩
      clear hin6 hf6 hb5 hf5 PUT hr hc hg6 hx6
      go_wp2
      rw [← hW5]
      clear hW5 t0 t1 t2 f0 f1
      go_region
      clear u0 u1 u2 hr6 cc j1
      go_wp2_with fail
      refine (cloneS g.val w6 (by omega)).mono ?_
      rintro e w7 ⟨rfl, hb7⟩
      have hf7 : Fr [] w6 w7 := Fr.of_below hb7 []
      have hg7 := (hf7.block _ hl6 (by simp)).trans H6.out.2.2
      have x0 := blk_cell hg7 0
      have x1 := blk_cell hg7 1
      have xf := blk_free hg7 1
      simp at x0 x1
      obtain ⟨W8, hW8⟩ : ∃ W8, W8 = w7.setCell ⟨w.heap.size, 1, none⟩ (.string g.val) := ⟨_, rfl⟩
      have hf8 : Fr [w.heap.size] w7 W8 := by rw [hW8]; exact Fr.set1 (by simp) _ _
      have hg8 : W8.heap[w.heap.size]? = some (.cells #[.int .u8 (g.way : Int), .string g.val] 146) := by rw [hW8]; have := blk_set hg7 1 (.string g.val); simpa using this
      have hin8 := (H6.out.1.fr hf7 (by simp) (by simp) (by simp) (by simp)).fr hf8 (by simp; omega) (by simp; omega) (by simp; omega) (by simp; omega)
      have hF8 : Fr [bT, bH] w W8 := (H6.out.2.1.trans (hf7.mono (by simp))).andThen hf8 (fun j hj hl => by simp at hj; omega)
      have y0 := blk_cell hg8 0
      have y1 := blk_cell hg8 1
      simp at y0 y1
      have hs8 := (Array.getElem?_eq_some_iff.1 hg8).1
      have H8 : Hid (ShIn W8 sp lg bV bT bH (n + 1) { s with txns := alPut s.txns t ⟨1, (s.txn t).done + 1, s.ticks⟩ } ∧ Fr [bT, bH] w W8) := ⟨hin8, hF8⟩
      clear hin8 hF8 hg8 hf8 hg7 hf7 hb7
      go_wp2
      rw [← hW8]
      clear hW8 v0 v1 vf x0 x1 xf
      go_region_held3 (fun w' => w'.cell? ⟨w.heap.size, 0, none⟩ = some (.int .u8 (g.way : Int)) ∧ w'.cell? ⟨w.heap.size, 1, none⟩ = some (.string g.val))
        (simp [*])
        (first
          | (go_at_call 135; refine (cloneS k W8.drew (by omega)).mono ?_; rintro e w9 ⟨rfl, hb9⟩; have hb9' : Below W8.heap.size W8 w9 := ⟨hb9.os, hb9.tape, hb9.output, hb9.size, hb9.block⟩; have p0 := (hb9'.cell (p := ⟨w.heap.size, 0, none⟩) hs8).trans y0; have p1 := (hb9'.cell (p := ⟨w.heap.size, 1, none⟩) hs8).trans y1; have H9 : Hid (Fr [] W8 w9) := Fr.of_below hb9' []; clear hb9 hb9')
          | (go_at_call 136; refine (take_any sp lg bV bT bH (n + 1) t k g _ w9 (H8.out.1.fr H9.out (by simp) (by simp) (by simp) (by simp)) ht hkm (by omega)).mono ?_; rintro e w10 ⟨rfl, hin10, hf10⟩; have H10 : Hid (ShIn w10 sp lg bV bT bH (n + 1 + 1) (({ s with txns := alPut s.txns t ⟨1, (s.txn t).done + 1, s.ticks⟩ } : AShard).take t k g) ∧ Fr [bT, bH] w w10) := ⟨hin10, (H8.out.2.trans (H9.out.mono (by simp))).trans (hf10.mono (by intro j _ hj; simp at hj ⊢; exact .inr hj))⟩; have q0 : w10.cell? ⟨w.heap.size, 0, none⟩ = some (.int .u8 (g.way : Int)) := (World.cell?_of_block (a := ⟨w.heap.size, 0, none⟩) (hf10.block w.heap.size (Nat.lt_of_lt_of_le hs8 H9.out.size) (by simp; omega))).trans p0; have q1 : w10.cell? ⟨w.heap.size, 1, none⟩ = some (.string g.val) := (World.cell?_of_block (a := ⟨w.heap.size, 1, none⟩) (hf10.block w.heap.size (Nat.lt_of_lt_of_le hs8 H9.out.size) (by simp; omega))).trans p1; clear hin10 hf10))
      all_goals go_wp2
      all_goals go_ret
      all_goals rw [HO.out]
      all_goals exact ⟨rfl, H10.out⟩
  · have HO : Hid (s.operate t seq k g = (s, s.refuse t seq k g.val)) := by show _ = _; unfold AShard.operate; rw [if_neg hr]
    rw [errN_no hr]
    go_wp2
    go_ret
    rw [HO.out]
    exact ⟨by rw [errN_no hr]; rfl, H1.out.1.mono (by omega), HF1.out.mono (by simp)⟩
end Go.Proofs.YtkhjhojmhllkaaaGreatDoor
/- SHARDS: Get, Put, Delete. -/
namespace Go.Proofs.YtkhjhojmhllkaaaGreatDoor
open Go.RowKit Go.Maps
open Sc

section
variable (sp lg bV bT bH n t : Nat) (seq : Int) (k : ByteArray) (s : AShard) (w : World)
set_option maxRecDepth 100000 in
set_option maxHeartbeats 2000000 in
theorem put_op (v : ByteArray) (h : ShIn w sp lg bV bT bH n s) (ht : t < 18446744073709551616) (hn : n + 2 < maxLen) (hst : (s.txn t).state ≤ 3) (hdn : (s.txn t).done < 4611686018427387904) (hlg : 1 ≤ lg := by first | assumption | omega) :
    Calls Tryz.prog 75 #[.pointer (some ⟨sp, 0, none⟩), .int .u64 (t : Int), .int .i64 seq, .string k, .string v] w fun e w' => e = .returned (errN (s.operate t seq k ⟨1, v⟩).2) ∧ ShIn w' sp lg bV bT bH (n + 2) (s.operate t seq k ⟨1, v⟩).1 ∧ Fr [bT, bH] w w' := by
  have ho := operate_any sp lg bV bT bH n t seq k ⟨1, v⟩ s w h ht hn hst hdn
  clear h
  go_enter Tryz.func75, Tryz.ntmps75
  go_wp2_with fail
  refine ho.mono ?_
  clear ho
  rintro e w1 ⟨rfl, h1⟩
  have H1 : Hid _ := h1
  clear h1
  go_wp2
  go_ret
  exact ⟨rfl, H1.out⟩
set_option maxRecDepth 100000 in
set_option maxHeartbeats 2000000 in
theorem delete_op (h : ShIn w sp lg bV bT bH n s) (ht : t < 18446744073709551616) (hn : n + 2 < maxLen) (hst : (s.txn t).state ≤ 3) (hdn : (s.txn t).done < 4611686018427387904) (hlg : 1 ≤ lg := by first | assumption | omega) :
    Calls Tryz.prog 76 #[.pointer (some ⟨sp, 0, none⟩), .int .u64 (t : Int), .int .i64 seq, .string k] w fun e w' => e = .returned (errN (s.operate t seq k ⟨2, ByteArray.empty⟩).2) ∧ ShIn w' sp lg bV bT bH (n + 2) (s.operate t seq k ⟨2, ByteArray.empty⟩).1 ∧ Fr [bT, bH] w w' := by
  have ho := operate_any sp lg bV bT bH n t seq k ⟨2, ByteArray.empty⟩ s w h ht hn hst hdn
  clear h
  go_enter Tryz.func76, Tryz.ntmps76
  go_wp2_with fail
  refine ho.mono ?_
  clear ho
  rintro e w1 ⟨rfl, h1⟩
  have H1 : Hid _ := h1
  clear h1
  go_wp2
  go_ret
  exact ⟨rfl, H1.out⟩
end
/-- what Get leaves, and says -/
def AShard.get (s : AShard) (t : Nat) (seq : Int) (k : ByteArray) : AShard × ByteArray × Bool × Nat :=
  if (s.operate t seq k ⟨0, ByteArray.empty⟩).2 = 0 then
    if ((s.operate t seq k ⟨0, ByteArray.empty⟩).1.grip t k).writes = true then ((s.operate t seq k ⟨0, ByteArray.empty⟩).1, ((s.operate t seq k ⟨0, ByteArray.empty⟩).1.grip t k).val, decide (((s.operate t seq k ⟨0, ByteArray.empty⟩).1.grip t k).way = 1), 0)
    else ((s.operate t seq k ⟨0, ByteArray.empty⟩).1, (alLook (s.operate t seq k ⟨0, ByteArray.empty⟩).1.vals k).getD ByteArray.empty, (alLook (s.operate t seq k ⟨0, ByteArray.empty⟩).1.vals k).isSome, 0)
  else ((s.operate t seq k ⟨0, ByteArray.empty⟩).1, ByteArray.empty, false, (s.operate t seq k ⟨0, ByteArray.empty⟩).2)
set_option maxRecDepth 100000 in
set_option maxHeartbeats 4000000 in
theorem get_op (sp lg bV bT bH n t : Nat) (seq : Int) (k : ByteArray) (s : AShard) (w : World) (h : ShIn w sp lg bV bT bH n s) (ht : t < 18446744073709551616) (hk : k.size ≤ maxLen) (hn : n + 2 < maxLen) (hst : (s.txn t).state ≤ 3) (hdn : (s.txn t).done < 4611686018427387904) (hlg : 1 ≤ lg := by first | assumption | omega) :
    Calls Tryz.prog 47 #[.pointer (some ⟨sp, 0, none⟩), .int .u64 (t : Int), .int .i64 seq, .string k] w fun e w' => e = .returned (.tuple #[.string (s.get t seq k).2.1, .bool (s.get t seq k).2.2.1, errN (s.get t seq k).2.2.2]) ∧ ShIn w' sp lg bV bT bH (n + 2) (s.get t seq k).1 ∧ Fr [bT, bH] w w' := by
  have ho := operate_any sp lg bV bT bH n t seq k ⟨0, ByteArray.empty⟩ s w h ht hn hst hdn
  clear h
  have HG : Hid (s.get t seq k = if (s.operate t seq k ⟨0, ByteArray.empty⟩).2 = 0 then
    if ((s.operate t seq k ⟨0, ByteArray.empty⟩).1.grip t k).writes = true then ((s.operate t seq k ⟨0, ByteArray.empty⟩).1, ((s.operate t seq k ⟨0, ByteArray.empty⟩).1.grip t k).val, decide (((s.operate t seq k ⟨0, ByteArray.empty⟩).1.grip t k).way = 1), 0)
    else ((s.operate t seq k ⟨0, ByteArray.empty⟩).1, (alLook (s.operate t seq k ⟨0, ByteArray.empty⟩).1.vals k).getD ByteArray.empty, (alLook (s.operate t seq k ⟨0, ByteArray.empty⟩).1.vals k).isSome, 0)
  else ((s.operate t seq k ⟨0, ByteArray.empty⟩).1, ByteArray.empty, false, (s.operate t seq k ⟨0, ByteArray.empty⟩).2)) := rfl
  obtain ⟨R, hR⟩ : ∃ R, R = s.operate t seq k ⟨0, ByteArray.empty⟩ := ⟨_, rfl⟩
  rw [← hR] at ho HG
  clear hR
  go_enter Tryz.func47, Tryz.ntmps47
  go_wp2_with fail
  refine ho.mono ?_
  clear ho
  rintro e w1 ⟨rfl, hin1, hf1⟩
  have H1 : Hid (ShIn w1 sp lg bV bT bH (n + 2) R.1 ∧ Fr [bT, bH] w w1) := ⟨hin1, hf1⟩
  have c3 := blk_cell hin1.blk 3
  simp at c3
  have l3 := hin1.lookH ht hk
  obtain ⟨G, hG⟩ : ∃ G, G = R.1.grip t k := ⟨_, rfl⟩
  rw [← hG] at l3 HG
  clear hG hin1 hf1
  by_cases hc : R.2 = 0
  · rw [hc, errN_ok]
    cases hg : G.writes with
    | true =>
      have hG2 : Hid (s.get t seq k = (R.1, G.val, decide (G.way = 1), 0)) := by show _ = _; rw [HG.out, if_pos hc, if_pos hg]
      have hgw := gwrites G (w1.alloc (.cells #[.int .u8 (G.way : Int), .string G.val] 146))
      rw [hg] at hgw
      have HGW : Hid (G.writes = true) := hg
      clear HG hg hc
      go_wp2_with fail
      refine hgw.mono ?_
      clear hgw
      rintro e w2 ⟨rfl, rfl⟩
      go_wp2
      go_quiet (fail)
      go_wp2
      go_ret3
      rw [hG2.out]
      have hb : ((G.way : Int) == 1) = decide (G.way = 1) := by
        by_cases e : G.way = 1
        · simp [e]
        · have : ¬ (G.way : Int) = 1 := by omega
          simp [e, this]
      refine ⟨by rw [← hb]; rfl, H1.out.1.fr ((frDrewN (((Fr.refl [] w1).alloc _).alloc _) _)) (by simp) (by simp) (by simp) (by simp), H1.out.2.trans ((frDrewN (((Fr.refl [] w1).alloc _).alloc _) _).mono (by simp))⟩
    | false =>
      have hG2 : Hid (s.get t seq k = (R.1, (alLook R.1.vals k).getD ByteArray.empty, (alLook R.1.vals k).isSome, 0)) := by show _ = _; rw [HG.out, if_pos hc, if_neg (by rw [hg]; decide)]
      have hgw := gwrites G (w1.alloc (.cells #[.int .u8 (G.way : Int), .string G.val] 146))
      rw [hg] at hgw
      clear HG hg hc
      go_wp2_with fail
      refine hgw.mono ?_
      clear hgw
      rintro e w2 ⟨rfl, rfl⟩
      have hfa := (((Fr.refl [] w1).alloc (.cells #[.int .u8 (G.way : Int), .string G.val] 146)).alloc (.cells #[.int .u8 (G.way : Int), .string G.val] 146))
      have hva := value_any sp lg bV bT bH (n + 2) k R.1 _ (H1.out.1.fr hfa (by simp) (by simp) (by simp) (by simp)) hk
      have HFA : Hid _ := hfa
      clear hfa
      go_wp2_with fail
      refine hva.mono ?_
      clear hva
      rintro e w3 ⟨rfl, q, rfl⟩
      go_wp2
      go_ret3
      rw [hG2.out]
      exact ⟨rfl, H1.out.1.fr (frDrewN HFA.out q) (by simp) (by simp) (by simp) (by simp), H1.out.2.trans ((frDrewN HFA.out q).mono (by simp))⟩
  · have hG2 : Hid (s.get t seq k = (R.1, ByteArray.empty, false, R.2)) := by show _ = _; rw [HG.out, if_neg hc]
    clear HG
    rw [errN_no hc]
    go_wp2
    go_ret3
    rw [hG2.out]
    exact ⟨by rw [errN_no hc]; rfl, H1.out⟩
end Go.Proofs.YtkhjhojmhllkaaaGreatDoor
/- NUMBERS AS BYTES in package wire, whatever room there is. (Written by mkappn.py.) -/
namespace Go.Proofs.YtkhjhojmhllkaaaGreatDoor
open Go.RowKit
open Sc

/-- nothing has turned but blocks of one type, and new ones -/
structure TFr (t : TypeId) (w w' : World) : Prop where
  os : w'.os = w.os
  tape : w'.tape = w.tape
  output : w'.output = w.output
  size : w.heap.size ≤ w'.heap.size
  block : ∀ k, k < w.heap.size → (∀ c, w.heap[k]? ≠ some (.cells c t (0, 0))) → w'.heap[k]? = w.heap[k]?
theorem TFr.refl (t : TypeId) (w : World) : TFr t w w := ⟨rfl, rfl, rfl, Nat.le_refl _, fun _ _ _ => rfl⟩
theorem TFr.trans {t : TypeId} {a b c : World} (h : TFr t a b) (k : TFr t b c) : TFr t a c :=
  ⟨k.os.trans h.os, k.tape.trans h.tape, k.output.trans h.output, Nat.le_trans h.size k.size,
    fun i hi hn => (k.block i (Nat.lt_of_lt_of_le hi h.size) (fun c e => hn c ((h.block i hi hn).symm.trans e))).trans (h.block i hi hn)⟩
theorem TFr.alloc {t : TypeId} {a w : World} (h : TFr t a w) (o : Obj) : TFr t a (w.alloc o) :=
  ⟨h.os, h.tape, h.output, Nat.le_trans h.size (by simp), fun k hk hn => (Below.heap_alloc w o k (Nat.lt_of_lt_of_le hk h.size)).trans (h.block k hk hn)⟩
theorem TFr.grown {t : TypeId} {a b c : World} {r : Option Nat} (h : TFr t a b) (hg : b.grownBy c r) (hr : ∀ q, r = some q → ∃ x, b.heap[q]? = some (.cells x t (0, 0))) : TFr t a c :=
  h.trans ⟨hg.os, hg.tape, hg.output, hg.size, fun k hk hn => hg.block k hk (fun e => by obtain ⟨x, hx⟩ := hr k e.symm; exact hn x hx)⟩

set_option maxRecDepth 100000 in
set_option maxHeartbeats 400000 in
theorem grow_u64 (base : Nat) (v : Value) (xs : List Nat) (n m : Nat) (w : World) (hown : w.ownsRow base 5 1 v m (bs xs)) (hn : n < 18446744073709551616) (hm : m ≤ 1099511627776) (hbase : base ≤ w.heap.size) :
    Calls Tryz.prog 132 #[v, .int .u64 n] w fun e w' => ∃ v', e = .returned v' ∧ w'.ownsRow base 5 1 v' (m + 8) (bs (xs ++ be 8 n)) ∧ Below base w w' ∧ TFr 5 w w' := by
  obtain ⟨i0, hi, hz0, hz1, hz2⟩ := info_parts Tryz.info5
  have HNN : Hid (n < 18446744073709551616) := hn
  clear hn
  go_enter Tryz.func132, Tryz.ntmps132
  go_wp2_with (go_at_call 187; refine (width_u64 _).mono ?_; rintro e w' ⟨rfl, hw⟩; have hw2 := hw.symm; subst hw2; clear hw)
  go_loopw [0, 5] (fun v i wr => ∃ j : Nat, j ≤ 8 ∧ i = .int .i64 ((8 : Int) - 1 - j) ∧ wr.ownsRow base 5 1 v (m + j) (bs (xs ++ (List.range j).map (digit 8 n))) ∧ Below base w wr ∧ TFr 5 w wr) (fun _ i _ => (intOf i + 1).toNat)
  case atStart => exact ⟨0, Nat.zero_le _, by go_num, by simpa using hown, Below.refl _ _, TFr.refl _ _⟩
  case round =>
    obtain ⟨j, hj, rfl, hownr, hbel, htf⟩ := hrel
    by_cases hlt : j < 8
    · have HD : Hid (((n : Int) / 2 ^ (8 * (7 - j)) % 256) = ((digit 8 n j : Nat) : Int)) := digit_int n 8 j
      go_wp2_with (at_builtin; refine wpList_append_own _ rfl _ _ 206 rfl base 5 i0 (.int .u8 0) 1 1 Tryz.underlying206 hi hz0 hz1 hz2 rfl (by decide) _ _ _ rfl (hownr.alloc _) ⟨wr.heap.size, 0, none⟩ 1 1 [.int .u8 ((n : Int) / 2 ^ (8 * (7 - j)) % 256)] rfl rfl ?c1 ?c2 ?c3 ?c4 ?c5 ?_)
      case c1 =>
        intro jj u hjj
        match jj, hjj with
        | 0, hjj => simp at hjj; subst hjj; simp [Addr.add]
      case c2 => intro u hu; simp at hu; subst hu; rfl
      case c3 => unfold maxLen; omega
      case c4 => omega
      case c5 => have := hbel.size; simp; omega
      · intro v' w1 hown' hgrow _
        have hs1 := hbel.size
        have hB1 : Below base w w1 := Below.grown (hbel.alloc (by omega) _) hgrow (by simp; omega) (fun q hq => (hownr.lt q hq).1)
        have hT1 : TFr 5 w w1 := (htf.alloc _).grown hgrow (fun q hq => own_cells (hownr.alloc _) hq)
        have hO1 : w1.ownsRow base 5 1 v' (m + (j + 1)) (bs (xs ++ (List.range (j + 1)).map (digit 8 n))) := by
          rw [HD.out] at hown'
          rw [bs_snoc, ← Nat.add_assoc]
          exact hown'
        clear hown' hgrow hownr hbel htf
        go_wp2
        go_roundw
        case rel => exact ⟨j + 1, by omega, int_eq (by omega), hO1, hB1, hT1⟩
        case measure => simp [intOf] <;> omega
    · have ek : j = 8 := by omega
      subst ek
      go_wp2
      go_ret
      exact ⟨_, rfl, hownr, hbel, htf⟩
set_option maxRecDepth 100000 in
set_option maxHeartbeats 400000 in
theorem grow_u8 (base : Nat) (v : Value) (xs : List Nat) (n m : Nat) (w : World) (hown : w.ownsRow base 5 1 v m (bs xs)) (hn : n < 256) (hm : m ≤ 1099511627776) (hbase : base ≤ w.heap.size) :
    Calls Tryz.prog 167 #[v, .int .u8 n] w fun e w' => ∃ v', e = .returned v' ∧ w'.ownsRow base 5 1 v' (m + 1) (bs (xs ++ be 1 n)) ∧ Below base w w' ∧ TFr 5 w w' := by
  obtain ⟨i0, hi, hz0, hz1, hz2⟩ := info_parts Tryz.info5
  have HNN : Hid (n < 256) := hn
  go_enter Tryz.func167, Tryz.ntmps167
  go_wp2_with (go_at_call 215; refine (width_u8 _).mono ?_; rintro e w' ⟨rfl, hw⟩; have hw2 := hw.symm; subst hw2; clear hw)
  go_loopw [0, 5] (fun v i wr => ∃ j : Nat, j ≤ 1 ∧ i = .int .i64 ((1 : Int) - 1 - j) ∧ wr.ownsRow base 5 1 v (m + j) (bs (xs ++ (List.range j).map (digit 1 n))) ∧ Below base w wr ∧ TFr 5 w wr) (fun _ i _ => (intOf i + 1).toNat)
  case atStart => exact ⟨0, Nat.zero_le _, by go_num, by simpa using hown, Below.refl _ _, TFr.refl _ _⟩
  case round =>
    obtain ⟨j, hj, rfl, hownr, hbel, htf⟩ := hrel
    by_cases hlt : j < 1
    · have HD : Hid ((n : Int) = ((digit 1 n 0 : Nat) : Int)) := by show _ = _; unfold digit; simp; omega
      obtain rfl : j = 0 := by omega
      rw [Nat.add_zero] at hownr
      go_wp2_with (at_builtin; refine wpList_append_own _ rfl _ _ 206 rfl base 5 i0 (.int .u8 0) 1 1 Tryz.underlying206 hi hz0 hz1 hz2 rfl (by decide) _ _ _ rfl (hownr.alloc _) ⟨wr.heap.size, 0, none⟩ 1 1 [.int .u8 (n : Int)] rfl rfl ?c1 ?c2 ?c3 ?c4 ?c5 ?_)
      case c1 =>
        intro jj u hjj
        match jj, hjj with
        | 0, hjj => simp at hjj; subst hjj; simp [Addr.add]
      case c2 => intro u hu; simp at hu; subst hu; rfl
      case c3 => unfold maxLen; omega
      case c4 => omega
      case c5 => have := hbel.size; simp; omega
      · intro v' w1 hown' hgrow _
        have hs1 := hbel.size
        have hB1 : Below base w w1 := Below.grown (hbel.alloc (by omega) _) hgrow (by simp; omega) (fun q hq => (hownr.lt q hq).1)
        have hT1 : TFr 5 w w1 := (htf.alloc _).grown hgrow (fun q hq => own_cells (hownr.alloc _) hq)
        have hO1 : w1.ownsRow base 5 1 v' (m + (0 + 1)) (bs (xs ++ (List.range (0 + 1)).map (digit 1 n))) := by
          rw [HD.out] at hown'
          rw [bs_snoc, ← Nat.add_assoc]
          simpa using hown'
        clear hown' hgrow hownr hbel htf
        go_wp2
        go_roundw
        case rel => exact ⟨0 + 1, by omega, int_eq (by omega), hO1, hB1, hT1⟩
        case measure => simp [intOf] <;> omega
    · have ek : j = 1 := by omega
      subst ek
      go_wp2
      go_ret
      exact ⟨_, rfl, hownr, hbel, htf⟩
end Go.Proofs.YtkhjhojmhllkaaaGreatDoor
/- THE ENTRIES of a shard's ledger: decidedEntry. -/
namespace Go.Proofs.YtkhjhojmhllkaaaGreatDoor
open Go.RowKit
open Sc

set_option maxRecDepth 100000 in
set_option maxHeartbeats 2000000 in
theorem decided_any (t : Nat) (w : World) (ht : t < 18446744073709551616) :
    Calls Tryz.prog 91 #[.int .u64 (t : Int)] w fun e w' => e = .returned (.string (str (be 8 t))) ∧ Below w.heap.size w w' := by
  have hg := grow_u64 w.heap.size (.slice none 0 0) [] t 0 w (World.ownsRow_nil _ _ _ _) ht (by omega) (Nat.le_refl _)
  go_enter Tryz.func91, Tryz.ntmps91
  go_wp2_with fail
  refine hg.mono ?_
  clear hg
  rintro e w1 ⟨v', rfl, ho, hb, _⟩
  obtain ⟨g, cap, rfl⟩ := own_pos ho (by omega)
  have hcv := run_str w1 g 0 (0 + 8) cap (be 8 t) (by rw [be_len]) (own_row (by simpa using ho))
  clear ho
  go_wp2
  go_ret
  exact ⟨rfl, hb⟩
set_option maxRecDepth 100000 in
set_option maxHeartbeats 2000000 in
theorem text_any (base : Nat) (v : Value) (xs : List Nat) (m : Nat) (s : ByteArray) (w : World) (hown : w.ownsRow base 5 1 v m (bs xs)) (hs : s.size < 256) (hm : m ≤ 1048576) (hbase : base ≤ w.heap.size) :
    Calls Tryz.prog 168 #[v, .string s] w fun e w' => ∃ v', e = .returned v' ∧ w'.ownsRow base 5 1 v' (m + 1 + s.size) (bs (xs ++ [s.size] ++ bytesOf s)) ∧ Below base w w' ∧ TFr 5 w w' := by
  have hg := grow_u8 base v xs s.size m w hown hs (by omega) hbase
  have j1 : IntKind.u8.wrap (s.size : Int) = (s.size : Int) := by rw [IntKind.wrap_u8]; omega
  clear hown
  go_enter Tryz.func168, Tryz.ntmps168
  go_wp2_with fail
  refine hg.mono ?_
  clear hg
  rintro e w1 ⟨v1, rfl, ho, hb, ht⟩
  obtain ⟨i0, hi, hz0, hz1, hz2⟩ := info_parts Tryz.info5
  have hl := hb.size
  have hlow : ∀ q, v1.ownBlock = some q → base ≤ q := fun q hq => (ho.lt q hq).1
  go_wp2_with (first
    | (at_builtin; refine Lib.wpList_append_own_string _ rfl _ _ 206 9 rfl base 5 i0 Tryz.underlying206 Tryz.underlying9 hi hz0 hz1 hz2 v1 (m + 1) (bs (xs ++ be 1 s.size)) rfl ho s rfl (by unfold maxLen; omega) (by omega) (by omega) ?_; intro v2 w2 ho2 hg2 _)
    | fail)
  have hb2 : Below base w w2 := Below.grown hb hg2 (by omega) hlow
  have e1 : be 1 s.size = [s.size] := by
    unfold be
    have : digit 1 s.size 0 = s.size := by unfold digit; simp; omega
    simp [List.range_succ, this]
  have e2 : Lib.strCells s = bs (bytesOf s) := by
    unfold Lib.strCells bs bytesOf
    rw [List.map_map]
    rfl
  have ht2 : TFr 5 w w2 := ht.grown hg2 (fun q hq => own_cells ho hq)
  rw [e1, e2, ← bs_app] at ho2
  clear ho hg2
  go_wp2
  go_ret
  exact ⟨_, rfl, ho2, hb2, ht2⟩
end Go.Proofs.YtkhjhojmhllkaaaGreatDoor
/- A SHARD AND ITS LEDGER: Commit, Abort. -/
namespace Go.Proofs.YtkhjhojmhllkaaaGreatDoor
open Go.RowKit Go.Maps
open Sc

/-- nothing has turned but what is the shard's or its log's, and new blocks -/
structure SFr (sp bV bT bH lp p : Nat) (w w' : World) : Prop where
  os : w'.os = w.os
  tape : w'.tape = w.tape
  output : w'.output = w.output
  size : w.heap.size ≤ w'.heap.size
  block : ∀ k, k < w.heap.size → ¬ Own lp p w k → k ∉ [sp, bV, bT, bH] → w'.heap[k]? = w.heap[k]?
  stay : ∀ k, k < w.heap.size → Own lp p w' k → Own lp p w k
theorem SFr.trans {sp bV bT bH lp p : Nat} {a b c : World} (h : SFr sp bV bT bH lp p a b) (k : SFr sp bV bT bH lp p b c) : SFr sp bV bT bH lp p a c :=
  ⟨k.os.trans h.os, k.tape.trans h.tape, k.output.trans h.output, Nat.le_trans h.size k.size,
    fun i hi hn hm => (k.block i (Nat.lt_of_lt_of_le hi h.size) (fun ho => hn (h.stay i hi ho)) hm).trans (h.block i hi hn hm),
    fun i hi ho => h.stay i hi (k.stay i (Nat.lt_of_lt_of_le hi h.size) ho)⟩
theorem OFr.s {sp bV bT bH lp p : Nat} {a b : World} (h : OFr lp p a b) : SFr sp bV bT bH lp p a b := ⟨h.os, h.tape, h.output, h.size, fun i hi hn _ => h.block i hi hn, h.stay⟩
/-- a shard, its ledger's log, and its disk -/
structure SL (w : World) (B sp gp bV bT bH m lp p bD bN n : Nat) (s : AShard) (l : ALog) (d : ADisk) : Prop where
  sh : ShIn w sp gp bV bT bH m s
  lg : ∃ pv sv rv nD nN, LogIn w B lp p bD bN pv sv rv l d n nD nN
  ap : ShLog w sp gp bV bT bH bD bN lp
  gp1 : 1 ≤ gp
section
variable {w w' : World} {B sp gp bV bT bH m m' lp p bD bN n n' : Nat} {s s' : AShard} {l l' : ALog} {d d' : ADisk}
theorem SL.turn {S : List Nat} (h : SL w B sp gp bV bT bH m lp p bD bN n s l d) (hs : ShIn w' sp gp bV bT bH m' s') (hf : Fr S w w') (hS : ∀ k ∈ S, k ∈ [sp, bV, bT, bH]) : SL w' B sp gp bV bT bH m' lp p bD bN n s' l d ∧ SFr sp bV bT bH lp p w w' := by
  obtain ⟨pv, sv, rv, nD, nN, hl⟩ := h.lg
  obtain ⟨h1, h2⟩ := hl.shard h.sh h.ap hf hS
  refine ⟨⟨hs, ⟨pv, sv, rv, nD, nN, h1⟩, h2, h.gp1⟩, hf.os, hf.tape, hf.output, hf.size, fun k hk _ hm => hf.block k hk (fun hx => hm (hS k hx)), fun k _ ho => ?_⟩
  rw [hl.own]
  exact (h1.own k).1 ho
theorem SL.new (h : SL w B sp gp bV bT bH m lp p bD bN n s l d) (hf : Fr [] w w') : SL w' B sp gp bV bT bH m lp p bD bN n s l d ∧ SFr sp bV bT bH lp p w w' :=
  h.turn (h.sh.fr hf (by simp) (by simp) (by simp) (by simp)) hf (by simp)
theorem SL.log (h : SL w B sp gp bV bT bH m lp p bD bN n s l d) (hf : OFr lp p w w') (hl : ∃ pv sv rv nD nN, LogIn w' B lp p bD bN pv sv rv l' d' n' nD nN) : SL w' B sp gp bV bT bH m lp p bD bN n' s l' d' ∧ SFr sp bV bT bH lp p w w' := by
  obtain ⟨pv, sv, rv, nD, nN, h1⟩ := h.lg
  obtain ⟨a, b⟩ := h.sh.ofr h1 h.ap hf
  exact ⟨⟨a, hl, b, h.gp1⟩, hf.s⟩
theorem SL.pows (h : SL w B sp gp bV bT bH m lp p bD bN n s l d) (hf : SFr sp bV bT bH lp p w w') (hB : 2 ≤ B) (hs : B ≤ sp ∧ B ≤ bV ∧ B ≤ bT ∧ B ≤ bH) (hp : Pows w) : Pows w' := by
  obtain ⟨pv, sv, rv, nD, nN, hl⟩ := h.lg
  exact hp.of_block (hf.block 1 (by have := hl.disk.base.2.2.2; omega) (fun ho => by have := hl.ge ho; omega) (by simp; omega))
end
set_option maxRecDepth 100000 in
set_option maxHeartbeats 2000000 in
theorem state_eq (sp lg bV bT bH n t : Nat) (s : AShard) (w : World) (h : ShIn w sp lg bV bT bH n s) (ht : t < 18446744073709551616) :
    Calls Tryz.prog 77 #[.pointer (some ⟨sp, 0, none⟩), .int .u64 (t : Int)] w fun e w' => e = .returned (.int .i64 ((s.txn t).state : Int)) ∧ w' = w := by
  have c2 := blk_cell h.blk 2
  simp at c2
  have hl := h.lookT ht
  have hf0 := fieldT0
  obtain ⟨T, hT⟩ : ∃ T, T = s.txn t := ⟨_, rfl⟩
  rw [← hT] at hl ⊢
  clear h hT
  go_enter Tryz.func77, Tryz.ntmps77
  go_wp2
  go_ret
  exact ⟨rfl, rfl⟩
set_option maxRecDepth 100000 in
set_option maxHeartbeats 4000000 in
theorem commit_none (sp gp bV bT bH m t : Nat) (s : AShard) (w : World) (h : ShIn w sp gp bV bT bH m s) (ht : t < 18446744073709551616) (hst : t = 0 ∨ (s.txn t).state ≠ 3) :
    Calls Tryz.prog 46 #[.pointer (some ⟨sp, 0, none⟩), .int .u64 (t : Int)] w fun e w' => e = .returned (errN (if t = 0 then 7 else if (s.txn t).state = 0 then 0 else 4)) ∧ w' = w := by
  have hsa := state_eq sp gp bV bT bH m t s w h ht
  clear h
  by_cases h0 : t = 0
  · rw [if_pos h0]
    subst h0
    clear hst hsa
    go_enter Tryz.func46, Tryz.ntmps46
    go_wp2
    go_ret
    exact ⟨by rw [errN_no (by decide)]; rfl, rfl⟩
  · rw [if_neg h0]
    have i0 : ¬ (t : Int) = 0 := by omega
    by_cases hz : (s.txn t).state = 0
    · rw [if_pos hz]
      rw [hz] at hsa
      clear hst
      go_enter Tryz.func46, Tryz.ntmps46
      go_wp2_with fail
      refine hsa.mono ?_
      clear hsa
      rintro e w1 ⟨rfl, rfl⟩
      go_wp2
      go_ret
      exact ⟨rfl, rfl⟩
    · rw [if_neg hz]
      have j1 : ¬ ((s.txn t).state : Int) = 0 := by omega
      have j2 : (((s.txn t).state : Int) != 3) = true := by simp; omega
      clear hst
      go_enter Tryz.func46, Tryz.ntmps46
      go_wp2_with fail
      refine hsa.mono ?_
      rintro e w1 ⟨rfl, rfl⟩
      go_wp2_with fail
      refine hsa.mono ?_
      rintro e w2 ⟨rfl, rfl⟩
      clear hsa
      go_wp2
      go_ret
      exact ⟨by rw [errN_no (by decide)]; rfl, rfl⟩
/-- what Commit of one that is prepared leaves -/
def Committed (s s' : AShard) (t : Nat) : Prop := ∃ vs, s' = AShard.forget { s with vals := vs } t ∧ ∀ k, alLook vs k = gripped (alLook s.holds (t, k)) (alLook s.vals k)
section
variable (B sp gp bV bT bH m lp p bD bN n t c : Nat) (s : AShard) (l : ALog) (d : ADisk) (w : World)
set_option maxRecDepth 100000 in
set_option maxHeartbeats 4000000 in
theorem commit_yes (h : SL w B sp gp bV bT bH m lp p bD bN n s l d) (ht : t < 18446744073709551616) (h0 : t ≠ 0) (hst : (s.txn t).state = 3) (hn : n + 3 < 67108864) (hB : 2 ≤ B) (hsg : l.filled < 600 → l.segs ≠ []) (hpow : Pows w) (hm : m + c < maxLen) (hc : s.count t ≤ c) (hv : ∀ p ∈ s.holds, p.2.val.size ≤ maxLen) :
    Calls Tryz.prog 46 #[.pointer (some ⟨sp, 0, none⟩), .int .u64 (t : Int)] w fun e w' => e = .returned (errN (l.keep d 2 (str (be 8 t))).2.2) ∧ (∃ s', SL w' B sp gp bV bT bH (m + c) lp p bD bN (n + 3) s' (l.keep d 2 (str (be 8 t))).1 (l.keep d 2 (str (be 8 t))).2.1 ∧ (if (l.keep d 2 (str (be 8 t))).2.2 = 0 then Committed s s' t else s' = s)) ∧ SFr sp bV bT bH lp p w w' := by
  have hsa := state_eq sp gp bV bT bH m t s w h.sh ht
  rw [hst] at hsa
  have i0 : ¬ (t : Int) = 0 := by omega
  have c0 := blk_cell h.sh.blk 0
  simp at c0
  rw [lgP_pos h.gp1] at c0
  have hsp := h.sh.lts.1
  have hde := decided_any t w.drew ht
  have HO : Hid (Once1 s.holds) := by obtain ⟨_, _, _, h3, _⟩ := h.sh.holds; exact h3
  have HK : Hid (∀ w1, Fr [] w w1 → Calls Tryz.prog 92 #[.pointer (some ⟨gp, 0, none⟩), .int .u8 2, .string (str (be 8 t))] w1 fun e w2 => e = .returned (errN (l.keep d 2 (str (be 8 t))).2.2) ∧ SL w2 B sp gp bV bT bH m lp p bD bN (n + 3) s (l.keep d 2 (str (be 8 t))).1 (l.keep d 2 (str (be 8 t))).2.1 ∧ SFr sp bV bT bH lp p w w2) := fun w1 hf1 => by
    obtain ⟨h1, hs1⟩ := h.new hf1
    obtain ⟨pv, sv, rv, nD, nN, hl⟩ := h1.lg
    have hp1 : Pows w1 := hpow.of_block (hf1.block 1 (by obtain ⟨_, _, _, _, _, h2⟩ := h.lg; have := h2.disk.base.2.2.2; omega) (by simp))
    refine (keep_any B gp lp p bD bN n nD nN 2 pv sv rv l d (str (be 8 t)) w1 h1.ap.led hl (by omega) hn hB hsg hp1).mono ?_
    rintro e w2 ⟨he, hl2, ho2⟩
    obtain ⟨h2, hs2⟩ := h1.log ho2 hl2
    exact ⟨he, h2, hs1.trans hs2⟩
  have HH : Hid (SL w B sp gp bV bT bH m lp p bD bN n s l d) := h
  have HC : Hid (s.count t ≤ c ∧ ∀ p ∈ s.holds, p.2.val.size ≤ maxLen) := ⟨hc, hv⟩
  clear h hc hv hsg
  obtain ⟨R, hR⟩ : ∃ R, R = l.keep d 2 (str (be 8 t)) := ⟨_, rfl⟩
  rw [← hR] at HK ⊢
  clear hR
  go_enter Tryz.func46, Tryz.ntmps46
  go_wp2_with fail
  refine hsa.mono ?_
  rintro e w1 ⟨rfl, rfl⟩
  go_wp2_with fail
  refine hsa.mono ?_
  rintro e w2 ⟨rfl, rfl⟩
  clear hsa
  go_wp2
  go_region_held3 (fun w' => w'.cell? ⟨sp, 0, none⟩ = some (.pointer (some ⟨gp, 0, none⟩)))
    (simp [*])
    (first
      | (go_at_call 91; refine hde.mono ?_; rintro e w3 ⟨rfl, hb3⟩; have hf3 : Fr [] w2 w3 := ⟨hb3.os, hb3.tape, hb3.output, hb3.size, fun k hk _ => hb3.block k hk⟩; have p0 : w3.cell? ⟨sp, 0, none⟩ = some (.pointer (some ⟨gp, 0, none⟩)) := (World.cell?_of_block (a := ⟨sp, 0, none⟩) (hf3.block sp hsp (by simp))).trans c0; have H3 : Hid (Fr [] w2 w3) := hf3; clear hb3 hf3)
      | (go_at_call 92; refine (HK.out w3 H3.out).mono ?_; rintro e w4 ⟨rfl, h4, hs4⟩; have q0 : w4.cell? ⟨sp, 0, none⟩ = some (.pointer (some ⟨gp, 0, none⟩)) := (blk_cell h4.sh.blk 0).trans (by simp [lgP_pos h4.gp1]); have H4 : Hid (SL w4 B sp gp bV bT bH m lp p bD bN (n + 3) s R.1 R.2.1 ∧ SFr sp bV bT bH lp p w2 w4) := ⟨h4, hs4⟩; clear h4 hs4))
  by_cases hr : R.2.2 = 0
  · rw [hr, errN_ok]
    go_wp2_with fail
    refine (apply_any sp gp bV bT bH m t c s w4 H4.out.1.sh ht hm (fun L h1 h2 => by rw [AShard.count_of HO.out h1 h2]; exact HC.out.1) HC.out.2).mono ?_
    rintro e w5 ⟨rfl, vs, hs5, hlk, hf5⟩
    obtain ⟨h5, hx5⟩ := H4.out.1.turn hs5 hf5 (by simp)
    have H5 : Hid (SL w5 B sp gp bV bT bH (m + c) lp p bD bN (n + 3) (AShard.forget { s with vals := vs } t) R.1 R.2.1 ∧ SFr sp bV bT bH lp p w2 w5) := ⟨h5, H4.out.2.trans hx5⟩
    clear hs5 hf5 h5 hx5
    go_wp2
    go_ret
    exact ⟨rfl, ⟨_, H5.out.1, ⟨vs, rfl, hlk⟩⟩, H5.out.2⟩
  · rw [errN_no hr]
    go_wp2
    go_ret
    exact ⟨by rw [errN_no hr]; rfl, ⟨H4.out.1.sh.mono (Nat.le_add_right _ _), H4.out.1.lg, H4.out.1.ap, H4.out.1.gp1⟩, H4.out.2⟩
set_option maxRecDepth 100000 in
set_option maxHeartbeats 4000000 in
theorem abort_none (h : ShIn w sp gp bV bT bH m s) (ht : t < 18446744073709551616) (hst : t = 0 ∨ (s.txn t).state ≠ 3) :
    Calls Tryz.prog 45 #[.pointer (some ⟨sp, 0, none⟩), .int .u64 (t : Int)] w fun e w' => e = .returned (errN (if t = 0 then 7 else 0)) ∧ ShIn w' sp gp bV bT bH m (if t = 0 then s else s.forget t) ∧ Fr [bT, bH] w w' := by
  have hsa := state_eq sp gp bV bT bH m t s w h ht
  by_cases h0 : t = 0
  · rw [if_pos h0, if_pos h0]
    subst h0
    have HI : Hid (ShIn w sp gp bV bT bH m s) := h
    clear hst hsa h
    go_enter Tryz.func45, Tryz.ntmps45
    go_wp2
    go_ret
    exact ⟨by rw [errN_no (by decide)]; rfl, HI.out, Fr.refl _ _⟩
  · rw [if_neg h0, if_neg h0]
    have i0 : ¬ (t : Int) = 0 := by omega
    have j1 : ¬ ((s.txn t).state : Int) = 3 := by omega
    have hfo := forget_any sp gp bV bT bH m t s w h ht
    clear hst h
    go_enter Tryz.func45, Tryz.ntmps45
    go_wp2_with fail
    refine hsa.mono ?_
    rintro e w1 ⟨rfl, rfl⟩
    go_wp2_with fail
    refine hfo.mono ?_
    clear hsa hfo
    rintro e w2 ⟨rfl, h2, hf2⟩
    have H2 : Hid (ShIn w2 sp gp bV bT bH m (s.forget t) ∧ Fr [bT, bH] w1 w2) := ⟨h2, hf2⟩
    clear h2 hf2
    go_wp2
    go_ret
    exact ⟨rfl, H2.out⟩
set_option maxRecDepth 100000 in
set_option maxHeartbeats 4000000 in
theorem abort_yes (h : SL w B sp gp bV bT bH m lp p bD bN n s l d) (ht : t < 18446744073709551616) (h0 : t ≠ 0) (hst : (s.txn t).state = 3) (hn : n + 3 < 67108864) (hB : 2 ≤ B) (hsg : l.filled < 600 → l.segs ≠ []) (hpow : Pows w) :
    Calls Tryz.prog 45 #[.pointer (some ⟨sp, 0, none⟩), .int .u64 (t : Int)] w fun e w' => e = .returned (errN (l.note d 3 (str (be 8 t))).2.2) ∧ SL w' B sp gp bV bT bH m lp p bD bN (n + 3) (if (l.note d 3 (str (be 8 t))).2.2 = 0 then s.forget t else s) (l.note d 3 (str (be 8 t))).1 (l.note d 3 (str (be 8 t))).2.1 ∧ SFr sp bV bT bH lp p w w' := by
  have hsa := state_eq sp gp bV bT bH m t s w h.sh ht
  rw [hst] at hsa
  have i0 : ¬ (t : Int) = 0 := by omega
  have c0 := blk_cell h.sh.blk 0
  simp at c0
  rw [lgP_pos h.gp1] at c0
  have hsp := h.sh.lts.1
  have hde := decided_any t w.drew ht
  have HK : Hid (∀ w1, Fr [] w w1 → Calls Tryz.prog 90 #[.pointer (some ⟨gp, 0, none⟩), .int .u8 3, .string (str (be 8 t))] w1 fun e w2 => e = .returned (errN (l.note d 3 (str (be 8 t))).2.2) ∧ SL w2 B sp gp bV bT bH m lp p bD bN (n + 3) s (l.note d 3 (str (be 8 t))).1 (l.note d 3 (str (be 8 t))).2.1 ∧ SFr sp bV bT bH lp p w w2) := fun w1 hf1 => by
    obtain ⟨h1, hs1⟩ := h.new hf1
    obtain ⟨pv, sv, rv, nD, nN, hl⟩ := h1.lg
    have hp1 : Pows w1 := hpow.of_block (hf1.block 1 (by obtain ⟨_, _, _, _, _, h2⟩ := h.lg; have := h2.disk.base.2.2.2; omega) (by simp))
    refine (note_any B gp lp p bD bN n nD nN 3 pv sv rv l d (str (be 8 t)) w1 h1.ap.led hl (by omega) hn hB hsg hp1).mono ?_
    rintro e w2 ⟨he, hl2, ho2⟩
    obtain ⟨h2, hs2⟩ := h1.log ho2 hl2
    exact ⟨he, h2, hs1.trans hs2⟩
  clear h hsg
  obtain ⟨R, hR⟩ : ∃ R, R = l.note d 3 (str (be 8 t)) := ⟨_, rfl⟩
  rw [← hR] at HK ⊢
  clear hR
  go_enter Tryz.func45, Tryz.ntmps45
  go_wp2_with fail
  refine hsa.mono ?_
  rintro e w2 ⟨rfl, rfl⟩
  clear hsa
  go_wp2
  go_region_held3 (fun w' => w'.cell? ⟨sp, 0, none⟩ = some (.pointer (some ⟨gp, 0, none⟩)))
    (simp [*])
    (first
      | (go_at_call 91; refine hde.mono ?_; rintro e w3 ⟨rfl, hb3⟩; have hf3 : Fr [] w2 w3 := ⟨hb3.os, hb3.tape, hb3.output, hb3.size, fun k hk _ => hb3.block k hk⟩; have p0 : w3.cell? ⟨sp, 0, none⟩ = some (.pointer (some ⟨gp, 0, none⟩)) := (World.cell?_of_block (a := ⟨sp, 0, none⟩) (hf3.block sp hsp (by simp))).trans c0; have H3 : Hid (Fr [] w2 w3) := hf3; clear hb3 hf3)
      | (go_at_call 90; refine (HK.out w3 H3.out).mono ?_; rintro e w4 ⟨rfl, h4, hs4⟩; have q0 : w4.cell? ⟨sp, 0, none⟩ = some (.pointer (some ⟨gp, 0, none⟩)) := (blk_cell h4.sh.blk 0).trans (by simp [lgP_pos h4.gp1]); have H4 : Hid (SL w4 B sp gp bV bT bH m lp p bD bN (n + 3) s R.1 R.2.1 ∧ SFr sp bV bT bH lp p w2 w4) := ⟨h4, hs4⟩; clear h4 hs4))
  by_cases hr : R.2.2 = 0
  · rw [hr, errN_ok]
    go_wp2_with fail
    refine (forget_any sp gp bV bT bH m t s w4 H4.out.1.sh ht).mono ?_
    rintro e w5 ⟨rfl, hs5, hf5⟩
    obtain ⟨h5, hx5⟩ := H4.out.1.turn hs5 hf5 (by simp)
    have H5 : Hid (SL w5 B sp gp bV bT bH m lp p bD bN (n + 3) (s.forget t) R.1 R.2.1 ∧ SFr sp bV bT bH lp p w2 w5) := ⟨h5, H4.out.2.trans hx5⟩
    clear hs5 hf5 h5 hx5
    go_wp2
    go_ret
    exact ⟨rfl, H5.out.1, H5.out.2⟩
  · rw [errN_no hr]
    go_wp2
    go_ret
    exact ⟨by rw [errN_no hr]; rfl, H4.out.1, H4.out.2⟩
end
end Go.Proofs.YtkhjhojmhllkaaaGreatDoor
