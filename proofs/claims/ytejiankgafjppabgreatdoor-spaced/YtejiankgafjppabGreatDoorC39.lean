import Derived.Test.YtejiankgafjppabGreatDoorC35
import Derived.Test.YtejiankgafjppabGreatDoorC38
import Derived.Test.YtejiankgafjppabGreatDoorC32
import Derived.Test.YtejiankgafjppabGreatDoorC22
import Derived.Test.YtejiankgafjppabGreatDoorC37
/- A SHARD OVER A LOG OF MANY SEGMENTS, as Spaced uses it: each call's contract. -/
namespace Go.Proofs.YtejiankgafjppabGreatDoor
open Go.RowKit Go.Maps
open Sc

section
variable {l : ALog} {d : ADisk} {fst : Nat} {cs : List (List Rec)}
theorem Mu.knob (h : Mu l d fst cs) (a b : Int) : Mu l (d.knob a b) fst cs where
  ok := { h.ok with files := h.ok.files }
  now := h.now
  con := h.con
  dur := h.dur
  fine := h.fine
theorem ADisk.Set.knob (h : d.Set) (a b : Int) : (d.knob a b).Set := h
theorem well_knob (h : d.down = false) : (d.knob (-1) (-1)).Well 0 := ⟨h, by simp [ADisk.knob], by simp [ADisk.knob]⟩
/-- a log of one segment -/
theorem One.mu {rs : List Rec} (h : One l d rs) (hne : rs ≠ []) : Mu l d 0 [rs] := by
  rcases h.file with ⟨e, _⟩ | ⟨_, sg, fi, so⟩
  · exact absurd e hne
  have hnow : d.now = filesOf 0 [rs] := by
    funext k
    rw [so]
    simp [filesOf, segF, Files.set]
  refine { ok := { fail := h.failed, segs := by rw [sg]; rfl, recs := by rw [h.recs]; simp, next := by rw [h.next]; simp; omega, nums := fun k r hk => ?_, ne := fun c hc => by simp at hc; subst hc; exact hne, size := fun c hc => ?_, none := fun e => by simp at e, fill := fun ds c e => ?_, files := fun s hs => ?_ }, now := hnow, con := by unfold ADisk.Con; rw [h.pen, h.dur]; rfl, dur := Nat.le_of_eq h.durN, fine := fun r hr => ?_ }
  · simp at hk
    have := (h.fine k r hk).1
    omega
  · simp at hc; subst hc
    have := h.few
    rw [encR_bytes] at this
    omega
  · have : c = rs := by
      cases ds with
      | nil => simpa using e.symm
      | cons x ds => simp at e
    rw [this, fi, encR_bytes]
  · rw [sg] at hs
    simp at hs
    subst hs
    rw [so, if_pos rfl]; simp
  · simp at hr
    obtain ⟨k, hk⟩ := List.mem_iff_getElem?.1 hr
    have := h.fine k r hk
    exact ⟨this.2.1, this.2.2.1, this.2.2.2.1⟩
end
/-- an open shard over a log of at most G segments, all durable -/
def Lx (w : World) (B hp M G : Nat) (s : AShard) : Prop := ∃ m n l d fst cs, m ≤ M ∧ n ≤ 10 + M ∧ HSt w B hp m n s l d ∧ Mu l d fst cs ∧ d.Well 0 ∧ d.Set ∧ cs.length ≤ G
/-- one behind a checkpoint -/
def Lz (w : World) (B hp M : Nat) (s : AShard) : Prop := ∃ m n l d fst cs pre nx, m ≤ M ∧ n ≤ 10 + M ∧ HSt w B hp m n s l d ∧ Mu l d fst cs ∧ d.Well 0 ∧ d.Set ∧ cs.length ≤ 3 ∧ cs.flatten = pre ++ ckAll nx s.vals ∧ (∀ r ∈ pre, r.lsn < nx) ∧ 0 < nx
theorem Lz.x {w : World} {B hp M : Nat} {s : AShard} (h : Lz w B hp M s) : Lx w B hp M 3 s := by
  obtain ⟨m, n, l, d, fst, cs, pre, nx, h1, h2, h3, h4, h5, h6, h7, _⟩ := h
  exact ⟨m, n, l, d, fst, cs, h1, h2, h3, h4, h5, h6, h7⟩
theorem Lx.mono {w : World} {B hp M M' G G' : Nat} {s : AShard} (h : Lx w B hp M G s) (hM : M ≤ M') (hG : G ≤ G') : Lx w B hp M' G' s := by
  obtain ⟨m, n, l, d, fst, cs, h1, h2, h3, h4, h5, h6, h7⟩ := h
  exact ⟨m, n, l, d, fst, cs, by omega, by omega, h3, h4, h5, h6, by omega⟩
theorem Lv.x {w : World} {B hp M : Nat} {s : AShard} {rs : List Rec} (h : Lv w B hp M s rs) (hne : rs ≠ []) : Lx w B hp M 1 s := by
  obtain ⟨m, n, l, d, h1, h2, h3, h4, h5⟩ := h
  exact ⟨m, n, l, d, 0, [rs], h1, h3, h4, h5.mu hne, h5.well, ⟨h5.pen, h5.dur⟩, by simp⟩
/-- what is committed: one value -/
abbrev sV (v : ByteArray) : AShard := ⟨[(kk, v)], [], [], 0⟩
abbrev sP (u v : ByteArray) (t : Nat) (x : ATxn) : AShard := ⟨[(kk, u)], [(t, x)], [((t, kk), ⟨1, v⟩)], 0⟩
theorem opPut (u v : ByteArray) (t : Nat) (ht : t ≠ 0) (hv : v.size ≤ 32) : AShard.operate (sV u) t 0 kk ⟨1, v⟩ = (sP u v t ⟨1, 1, 0⟩, 0) := by
  have h1 : AShard.txn (sV u) t = ⟨0, 0, 0⟩ := rfl
  have h2 : AShard.refuse (sV u) t 0 kk v = 0 := by
    unfold AShard.refuse AShard.refuse1 AShard.refuse2
    rw [h1, if_neg ht]
    have h3 : ¬ (kk.size < 1 ∨ 16 < kk.size ∨ 32 < v.size) := by
      have : kk.size = 1 := rfl
      omega
    rw [if_neg h3]
    rfl
  unfold AShard.operate
  rw [show (AGrip.mk 1 v).val = v from rfl, h2]
  rfl
theorem only_list {vs : List (ByteArray × ByteArray)} {v : ByteArray} (h1 : Once1 vs) (h2 : alLook vs kk = some v) (h3 : ∀ q, q ≠ kk → alLook vs q = none) : vs = [(kk, v)] := by
  have key : ∀ p ∈ vs, p = (kk, v) := fun p hp => by
    have := alLook_of h1 (k := p.1) (v := p.2) hp
    by_cases e : p.1 = kk
    · rw [e, h2] at this
      cases this
      exact Prod.ext e rfl
    · rw [h3 _ e] at this; cases this
  have hne : vs ≠ [] := by intro e; rw [e] at h2; simp [alLook] at h2
  match vs, h1, key, hne with
  | [], _, _, hne => exact absurd rfl hne
  | [x], _, key, _ => rw [key x (by simp)]
  | x :: y :: r, h1, key, _ =>
    have e1 := key x (by simp)
    have e2 := key y (by simp)
    have := (List.pairwise_cons.1 h1).1 y (by simp)
    rw [e1, e2] at this
    exact absurd rfl this
theorem HSt.once {w : World} {B hp m n : Nat} {s : AShard} {l : ALog} {d : ADisk} (h : HSt w B hp m n s l d) : Once1 s.vals := by
  obtain ⟨p, sp, gp, bV, bT, bH, lp, bD, bN, hh, hs, hb⟩ := h
  obtain ⟨_, _, _, h3, _⟩ := hs.sh.vals
  exact h3
theorem commV {vs : List (ByteArray × ByteArray)} {t : Nat} {x : ATxn} {v : ByteArray} {s' : AShard} (hvs : ∀ q, q ≠ kk → alLook vs q = none) (h : Committed ⟨vs, [(t, x)], [((t, kk), ⟨1, v⟩)], 0⟩ s' t) : ∃ vs', s' = ⟨vs', [], [], 0⟩ ∧ alLook vs' kk = some v ∧ ∀ q, q ≠ kk → alLook vs' q = none := by
  obtain ⟨vs', rfl, h2⟩ := h
  refine ⟨vs', forgetT vs' t x ⟨1, v⟩, ?_, fun q hq => ?_⟩
  · rw [h2]; simp [alLook, gripped]
  · rw [h2]
    have : alLook [((t, kk), (⟨1, v⟩ : AGrip))] (t, q) = none := by simp [alLook]; exact fun e => hq e.symm
    rw [this, hvs q hq]; rfl
section
variable (B hp M G t : Nat) (u v : ByteArray) (w : World)
theorem lxPut (h : Lx w B hp M G (sV u)) (hB : 2 ≤ B) (hmet : Met w) (ht : t < 18446744073709551616) (h0 : t ≠ 0) (hM : M ≤ 100000) (hv : v.size ≤ 32) :
    Calls Tryz.prog 12 #[.pointer (some ⟨hp, 0, none⟩), .int .u64 (t : Int), .int .i64 0, .string kk, .string v] w fun e w' => e = .returned (.int .i64 0) ∧ Lx w' B hp (M + 3) G (sP u v t ⟨1, 1, 0⟩) ∧ HFr B w w' := by
  obtain ⟨m, n, l, d, fst, cs, h1, h2, h3, h4⟩ := h
  have hc := hPut_s B hp m n t 0 kk (sV u) l d w v h3 hB hmet ht (by unfold maxLen; omega) (by show 0 ≤ 3; omega) (by show 0 < 4611686018427387904; omega)
  rw [opPut u v t h0 hv] at hc
  refine hc.mono ?_
  rintro e w' ⟨rfl, hs, hf⟩
  exact ⟨rfl, ⟨_, n, l, d, fst, cs, by omega, by omega, hs, h4⟩, hf⟩
theorem lxPrep (h : Lx w B hp M G (sP u v t ⟨1, 1, 0⟩)) (hB : 2 ≤ B) (hmet : Met w) (hpow : Pows w) (ht : t < 18446744073709551616) (h0 : t ≠ 0) (hM : M ≤ 100000) (hv : v.size ≤ 32) :
    Calls Tryz.prog 13 #[.pointer (some ⟨hp, 0, none⟩), .int .u64 (t : Int), wellV] w fun e w' => e = .returned (.tuple #[.int .i64 2, .int .i64 0]) ∧ Lx w' B hp (M + 3) (G + 1) (sP u v t ⟨3, 0, 0⟩) ∧ HFr B w w' := by
  obtain ⟨m, n, l, d, fst, cs, h1, h2, ⟨p, sp, gp, bV, bT, bH, lp, bD, bN, hh, hs, hb⟩, h4, h5, h6, h7⟩ := h
  have hso : sortG [(kk, (⟨1, v⟩ : AGrip))] = [(kk, ⟨1, v⟩)] := by unfold sortG sortK; simp [alLook]
  have hkz : kk.size = 1 := rfl
  have hlen : (be 8 t ++ holdsB [(kk, (⟨1, v⟩ : AGrip))]).length ≤ 255 := by simp [be_len, holdsB, holdB, bytesOf_len]; omega
  obtain ⟨k1, k2, k3, k4, cs', k5, k6, k7⟩ := (h4.knob (-1) (-1)).keep (well_knob h5.up) (by omega) 1 (str (be 8 t ++ holdsB [(kk, (⟨1, v⟩ : AGrip))])) (by rw [str_size]; exact hlen) (by omega)
  refine (hPrep_s B hp sp gp bV bT bH m lp p bD bN n t (sP u v t ⟨1, 1, 0⟩) l d (-1) (-1) 0 0 w (fun v' x s' l' d' m' n' => v' = 2 ∧ x = 0 ∧ s' = sP u v t ⟨3, 0, 0⟩ ∧ Mu l' d' fst cs' ∧ d'.down = false ∧ d'.Set ∧ m' = m + 1 ∧ n' = n + 3) hh hs hb hB hmet (fun w1 hs1 hf1 => ?_)).mono ?_
  · refine (prepare_any B sp gp bV bT bH m lp p bD bN n t (sP u v t ⟨1, 1, 0⟩) l (d.knob (-1) (-1)) w1 hs1 ht (by omega) hB h4.ok.segsNe (hf1.pows hB hpow) (by omega) (by simp [AShard.count]) (small1 _ _ _ _ ⟨hv, show 1 < 256 by decide⟩)).mono ?_
    rintro e w2 ⟨L, hL1, hL2, rfl, hs2, hx2⟩
    have hL := one_list hL1 hL2
    subst hL
    have hst : (AShard.txn (sP u v t ⟨1, 1, 0⟩) t).state = 1 := by simp [AShard.txn, alLook]
    have hpr : (sP u v t ⟨1, 1, 0⟩).prepare l (d.knob (-1) (-1)) t [(kk, ⟨1, v⟩)] = (sP u v t ⟨3, 0, 0⟩, (l.keep (d.knob (-1) (-1)) 1 (str (be 8 t ++ holdsB [(kk, ⟨1, v⟩)]))).1, (l.keep (d.knob (-1) (-1)) 1 (str (be 8 t ++ holdsB [(kk, ⟨1, v⟩)]))).2.1, 2, 0) := by
      unfold AShard.prepare AShard.prep
      rw [if_neg h0, if_neg (by omega), if_pos hst, if_pos (by simp [anyW, AGrip.writes]), hso, if_pos k1]
      simp [alPut, alDel]
    rw [hpr] at hs2 ⊢
    exact ⟨2, 0, _, _, _, _, _, ⟨rfl, rfl, rfl, k5, k2.up, k3, rfl, rfl⟩, rfl, hs2, k2.up, hx2⟩
  · rintro e w' ⟨v', x, s', l', d', m', n', ⟨rfl, rfl, rfl, hO, hdn, hS, rfl, rfl⟩, rfl, hH, hF⟩
    exact ⟨rfl, ⟨_, _, _, _, fst, cs', by omega, by omega, hH, hO.knob _ _, well_knob hdn, hS.knob _ _, by omega⟩, hF⟩
theorem lxComm (h : Lx w B hp M G (sP u v t ⟨3, 0, 0⟩)) (hB : 2 ≤ B) (hmet : Met w) (hpow : Pows w) (ht : t < 18446744073709551616) (h0 : t ≠ 0) (hM : M ≤ 100000) (hv : v.size ≤ 32) :
    Calls Tryz.prog 14 #[.pointer (some ⟨hp, 0, none⟩), .int .u64 (t : Int), wellV] w fun e w' => e = .returned (.int .i64 0) ∧ Lx w' B hp (M + 20) (G + 1) (sV v) ∧ HFr B w w' := by
  obtain ⟨m, n, l, d, fst, cs, h1, h2, ⟨p, sp, gp, bV, bT, bH, lp, bD, bN, hh, hs, hb⟩, h4, h5, h6, h7⟩ := h
  obtain ⟨k1, k2, k3, k4, cs', k5, k6, k7⟩ := (h4.knob (-1) (-1)).keep (well_knob h5.up) (by omega) 2 (str (be 8 t)) (by rw [str_size, be_len]; decide) (by omega)
  refine (hComm_s B hp sp gp bV bT bH m lp p bD bN n t (sP u v t ⟨3, 0, 0⟩) l d (-1) (-1) 0 0 w (fun _ x s' l' d' m' n' => x = 0 ∧ Committed (sP u v t ⟨3, 0, 0⟩) s' t ∧ Mu l' d' fst cs' ∧ d'.down = false ∧ d'.Set ∧ m' = m + 16 ∧ n' = n + 3) hh hs hb hB hmet (fun w1 hs1 hf1 => ?_)).mono ?_
  · refine (commit_yes B sp gp bV bT bH m lp p bD bN n t 16 (sP u v t ⟨3, 0, 0⟩) l (d.knob (-1) (-1)) w1 hs1 ht h0 (by simp [AShard.txn, alLook]) (by omega) hB h4.ok.segsNe (hf1.pows hB hpow) (by unfold maxLen; omega) (by simp [AShard.count]) (by intro q hq; simp at hq; subst hq; show v.size ≤ maxLen; unfold maxLen; omega)).mono ?_
    rintro e w2 ⟨rfl, ⟨s', hs2, hcm⟩, hx2⟩
    rw [k1] at hcm ⊢
    rw [if_pos rfl] at hcm
    exact ⟨0, 0, _, _, _, _, _, ⟨rfl, hcm, k5, k2.up, k3, rfl, rfl⟩, rfl, hs2, k2.up, hx2⟩
  · rintro e w' ⟨v', x, s', l', d', m', n', ⟨rfl, hcm, hO, hdn, hS, rfl, rfl⟩, rfl, hH, hF⟩
    obtain ⟨vs', rfl, e1, e2⟩ := commV (fun q hq => by simp [alLook]; exact fun e => hq e.symm) hcm
    have hvs := only_list hH.once e1 e2
    rw [show (AShard.mk vs' [] [] 0).vals = vs' from rfl] at hvs
    subst hvs
    exact ⟨rfl, ⟨_, _, _, _, fst, cs', by omega, by omega, hH, hO.knob _ _, well_knob hdn, hS.knob _ _, by omega⟩, hF⟩
set_option maxRecDepth 100000 in
theorem ck_num {n n' M G : Nat} (h : n' ≤ n + G + 500) (h2 : n ≤ 10 + M) : n' ≤ 10 + (M + G + 500) := by omega
theorem sortV_one (v : ByteArray) : sortV [(kk, v)] = [(kk, v)] := by unfold sortV sortK; simp [alLook]
theorem smallV_one (v : ByteArray) (hv : v.size ≤ 32) : SmallV [(kk, v)] := by
  have hkz : kk.size = 1 := rfl
  refine ⟨fun x hx => ?_, by rw [sortV_one]; simp⟩
  rw [sortV_one] at hx
  simp at hx
  subst hx
  exact ⟨by show kk.size < 256; omega, by show v.size < 256; omega, by simp [valB, bytesOf_len]; omega⟩
theorem lxCk (h : Lx w B hp M G (sV v)) (hB : 2 ≤ B) (hmet : Met w) (hpow : Pows w) (hM : M ≤ 100000) (hG : G ≤ 1000) (hv : v.size ≤ 32) :
    Calls Tryz.prog 15 #[.pointer (some ⟨hp, 0, none⟩), wellV] w fun e w' => e = .returned (.int .i64 0) ∧ Lz w' B hp (M + G + 500) (sV v) ∧ HFr B w w' := by
  obtain ⟨m, n, l, d, fst, cs, h1, h2, ⟨p, sp, gp, bV, bT, bH, lp, bD, bN, hh, hs, hb⟩, h4, h5, h6, h7⟩ := h
  have hel : (valEs [(kk, v)]).length = 1 := by unfold valEs; rw [sortV_one]; rfl
  refine (hCk_s B hp sp gp bV bT bH m lp p bD bN n (sV v) l d (-1) (-1) 0 0 w (fun _ x s' l' d' m' n' => x = 0 ∧ s' = sV v ∧ m' = m ∧ n' ≤ n + G + 500 ∧ d'.down = false ∧ d'.Set ∧ ∃ fst' cs', Mu l' d' fst' cs' ∧ l'.next = l.next + 3 ∧ fst ≤ fst' ∧ (fst' = fst ∨ fst' + 1 ≤ l.next) ∧ cs'.flatten = (cs.flatten ++ ckAll l.next [(kk, v)]).drop (fst' - fst) ∧ ∀ x, l'.segs[1]? = some x → l.next < x) hh hs hb hB hmet (fun w1 hs1 hf1 => ?_)).mono ?_
  · refine (sck_any B sp gp bV bT bH m lp p bD bN n fst 0 G (sV v) l (d.knob (-1) (-1)) cs w1 hs1 (h4.knob _ _) (well_knob h5.up) rfl (by omega) (smallV_one v hv) (by omega) (by omega) (by omega) h7 hB hb (hf1.pows hB hpow)).mono ?_
    rintro e w2 ⟨rfl, n', hn', ⟨l', d', fst', cs', c1, c2, c3, c4, c5, c6, c7, c8, c9⟩, hfr⟩
    rw [hel] at c5
    exact ⟨0, 0, _, _, _, m, n', ⟨rfl, rfl, rfl, hn', c3, c4, fst', cs', c2, c5, c6, c7, c8, c9⟩, congrArg Ending.returned errN_ok.symm, c1, c3, hfr⟩
  · rintro e w' ⟨v', x, s', l', d', m', n', ⟨rfl, rfl, rfl, hn', hdn, hS, fst', cs', c2, c5, c6, c7, c8, c9⟩, rfl, hH, hF⟩
    have hnx := h4.ok.next
    have hlen : fst' - fst ≤ cs.flatten.length := by omega
    have e1 : m' ≤ M + G + 500 := by omega
    have e2 := ck_num hn' h2
    have e3 := few_segs c2.ok c9 (Nat.le_of_eq c5)
    have e4 : 0 < l.next := by omega
    refine ⟨rfl, ⟨m', n', l', d'.knob (-1) (-1), fst', cs', cs.flatten.drop (fst' - fst), l.next, e1, e2, hH, c2.knob _ _, well_knob hdn, hS.knob _ _, e3, ?_, ?_, e4⟩, hF⟩
    · rw [c8, List.drop_append_of_le_length hlen]
    · intro r hr
      obtain ⟨k, hk⟩ := List.mem_iff_getElem?.1 (List.mem_of_mem_drop hr)
      have h1 := h4.ok.nums k r hk
      have h2 := (List.getElem?_eq_some_iff.1 hk).1
      omega
end
end Go.Proofs.YtejiankgafjppabGreatDoor
/- (*Host).Open of a shard, whatever OpenShard leaves. (Written by mkshk.py, from HoO.) -/
namespace Go.Proofs.YtejiankgafjppabGreatDoor
open Go.RowKit Go.Maps
open Sc

set_option maxRecDepth 100000 in
set_option maxHeartbeats 4000000 in
theorem hOpen_g (B hp p bD bN n nD nN : Nat) (pv : Value) (d : ADisk) (a b c k : Int) (J : List Rec → AShard → Prop) (R : ALog × ADisk × Nat) (w : World) (hh : w.heap[hp]? = some (hostS p false (.pointer none))) (h : DiskIn w B p bD bN pv d n nD nN) (hB : 2 ≤ B) (hhp : B ≤ hp) (hmet : Met w)
    (hpre : ∀ W, DiskIn W B p bD bN pv (d.knob a b) n nD nN → Below B w W → Calls Tryz.prog 46 #[dskV p] W (ShPost J B p bD bN n R W)) (hdn2 : R.2.1.down = false) :
    Calls Tryz.prog 18 #[.pointer (some ⟨hp, 0, none⟩), fallV a b c k] w fun e w' => e = .returned (.int .i64 0) ∧ ∃ s', J R.1.recs s' ∧ HSt w' B hp (20 * R.1.recs.length) n s' R.1 (R.2.1.knob (-1) (-1)) ∧ HFr B w w' := by
  obtain ⟨W, hW⟩ : ∃ W, W = w.alloc (fallO a b c k) := ⟨_, rfl⟩
  have hf0 : Fr [] w W := by rw [hW]; exact (Fr.refl [] w).alloc _
  have hd0 := h.new hf0
  have hpl := (Array.getElem?_eq_some_iff.1 hh).1
  have hh0 : W.heap[hp]? = some (hostS p false (.pointer none)) := (hf0.block hp hpl (by simp)).trans hh
  have hx0 : W.heap[w.heap.size]? = some (fallO a b c k) := by rw [hW]; exact heap_alloc_new w _
  have hb0 : HFr B w W := HFr.new hf0 h.base.2.2.2
  have x0 := blk_cell hx0 0
  have x1 := blk_cell hx0 1
  have x2 := blk_cell hx0 2
  have x3 := blk_cell hx0 3
  simp at x0 x1 x2 x3
  rw [hW] at x0 x1 x2 x3
  have hmet0 : Met W := hb0.met hB hmet
  have HH : Hid (W.heap[hp]? = some (hostS p false (.pointer none)) ∧ W.heap[w.heap.size]? = some (fallO a b c k) ∧ DiskIn W B p bD bN pv d n nD nN ∧ HFr B w W) := ⟨hh0, hx0, hd0, hb0⟩
  clear hh hf0 hd0 hh0 hx0 hb0 h hmet
  go_enter Tryz.func18, Tryz.ntmps18
  go_wp2_with fail
  rw [← hW]
  clear hW x0 x1 x2 x3
  refine (before_s hp p bD bN pv _ false d.down d.left d.full a b c k W HH.out.1 HH.out.2.2.1.blk).mono ?_
  rintro e w1 ⟨rfl, hb1, hf1⟩
  have hd1 : DiskIn w1 B p bD bN pv (d.knob a b) n nD nN := HH.out.2.2.1.turn hf1 a b d.down hb1
  have hne : hp ≠ p := by intro e; have := HH.out.1; rw [e, HH.out.2.2.1.blk] at this; cases this
  have hh1 : w1.heap[hp]? = some (hostS p false (.pointer none)) := (hf1.block hp (Array.getElem?_eq_some_iff.1 HH.out.1).1 (by simpa using hne)).trans HH.out.1
  have fal1 : ∀ (q : Nat) (x y z u : Int), W.heap[q]? = some (fallO x y z u) → w1.heap[q]? = some (fallO x y z u) := fun q x y z u hq => (hf1.block q (Array.getElem?_eq_some_iff.1 hq).1 (by simp; intro e; rw [e, HH.out.2.2.1.blk] at hq; cases hq)).trans hq
  have hx1 := fal1 _ _ _ _ _ HH.out.2.1
  have hr1 : HFr B W w1 := ⟨hf1.below HH.out.2.2.1.base.2.2.2 (by intro j hj; simp at hj; rw [hj]; exact HH.out.2.2.1.base.1), fal1⟩
  have H1 : Hid (w1.heap[hp]? = some (hostS p false (.pointer none)) ∧ w1.heap[w.heap.size]? = some (fallO a b c k) ∧ DiskIn w1 B p bD bN pv (d.knob a b) n nD nN ∧ HFr B w w1) := ⟨hh1, hx1, hd1, HH.out.2.2.2.trans hr1⟩
  have hmet1 : Met w1 := hr1.met hB hmet0
  clear hb1 hf1 hd1 hh1 hx1 hr1 fal1
  go_wp2_with fail
  refine (close_s hp p false _ ⟨_, rfl⟩ w1 H1.out.1).mono ?_
  rintro e w2 ⟨rfl, hh2, hf2⟩
  have hd2 : DiskIn w2 B p bD bN pv (d.knob a b) n nD nN := by
    refine H1.out.2.2.1.fr hf2 (by simpa using fun e => hne e.symm) ?_ ?_ ?_ ?_
    · simp; exact H1.out.2.2.1.dur.ne_cells H1.out.1
    · simp; exact H1.out.2.2.1.now.ne_cells H1.out.1
    · intro g hg; simp; intro e; subst e; exact own_ne H1.out.2.2.1.pen H1.out.1 (by decide) hg
    · intro q hq t; simp at hq; subst hq; rw [H1.out.1]; intro e; cases e
  have fal2 : ∀ (q : Nat) (x y z u : Int), w1.heap[q]? = some (fallO x y z u) → w2.heap[q]? = some (fallO x y z u) := fun q x y z u hq => (hf2.block q (Array.getElem?_eq_some_iff.1 hq).1 (by simp; intro e; rw [e, H1.out.1] at hq; cases hq)).trans hq
  have hx2 := fal2 _ _ _ _ _ H1.out.2.1
  have hr2 : HFr B w1 w2 := ⟨hf2.below H1.out.2.2.1.base.2.2.2 (by intro j hj; simp at hj; omega), fal2⟩
  have hc0 := blk_cell hh2 0
  have hc2 := blk_cell hh2 2
  simp at hc0 hc2
  have hop := hpre w2 hd2 (H1.out.2.2.2.below.trans hr2.below)
  have H2 : Hid (w2.heap[hp]? = some (hostS p false (.pointer none)) ∧ w2.heap[w.heap.size]? = some (fallO a b c k) ∧ DiskIn w2 B p bD bN pv (d.knob a b) n nD nN ∧ HFr B w w2) := ⟨hh2, hx2, hd2, H1.out.2.2.2.trans hr2⟩
  have hmet2 : Met w2 := hr2.met hB hmet1
  clear hh2 hf2 hd2 hx2 hr2 fal2 hpre
  go_wp2_with fail
  refine hop.mono ?_
  clear hop
  rintro e w3 ⟨sp, gp, bV, bT, bH, lp, s', rfl, hre, hs3, hlow, hx3⟩
  have cel3 : ∀ {q : Nat} {c : Array Value} {t : TypeId}, w2.heap[q]? = some (.cells c t (0, 0)) → t ≠ 100 → t ≠ 150 → w3.heap[q]? = some (.cells c t (0, 0)) := fun {q c t} hq t1 t2 => (hx3.block q (Array.getElem?_eq_some_iff.1 hq).1 (H2.out.2.2.1.freeD hq t1 t2) (by simp)).trans hq
  have hh3 := cel3 H2.out.1 (by decide) (by decide)
  have hfa3 := cel3 H2.out.2.1 (by decide) (by decide)
  have hr3 : HFr B w2 w3 := ⟨⟨hx3.os, hx3.tape, hx3.output, hx3.size, fun q hq => hx3.block q (Nat.lt_of_lt_of_le hq H2.out.2.2.1.base.2.2.2) (fun ho => by have := H2.out.2.2.1.geD ho; omega) (by simp)⟩, fun q x y z u hq => cel3 hq (by decide) (by decide)⟩
  have hBw := H2.out.2.2.1.base.2.2.2
  have hb3 : B ≤ sp ∧ B ≤ bV ∧ B ≤ bT ∧ B ≤ bH := ⟨by omega, by omega, by omega, by omega⟩
  have hmet3 : Met w3 := hr3.met hB hmet2
  obtain ⟨W4, hW4⟩ : ∃ W4, W4 = (w3.setCell ⟨hp, 5, none⟩ (.pointer (some ⟨sp, 0, none⟩))).setCell ⟨hp, 3, none⟩ (.bool true) := ⟨_, rfl⟩
  have hh4 : W4.heap[hp]? = some (hostS p true (.pointer (some ⟨sp, 0, none⟩))) := by
    have := blk_set (blk_set hh3 5 (.pointer (some ⟨sp, 0, none⟩))) 3 (.bool true)
    simp at this
    rw [hW4]; exact this
  have hf4 : Fr [hp] w3 W4 := by rw [hW4]; exact (Fr.set1 (by simp) _ _).trans (Fr.set1 (by simp) _ _)
  have hs4 := hs3.other hf4 hh3 (by decide) (by decide) (by decide) (by decide) (by decide) (by decide) (by decide) (by decide)
  have hxh : w.heap.size ≠ hp := by omega
  have fal4 : ∀ (q : Nat) (x y z u : Int), w3.heap[q]? = some (fallO x y z u) → W4.heap[q]? = some (fallO x y z u) := fun q x y z u hq => (hf4.block q (Array.getElem?_eq_some_iff.1 hq).1 (by simp; intro e; rw [e, hh3] at hq; cases hq)).trans hq
  have hx4 := fal4 _ _ _ _ _ hfa3
  have hr4 : HFr B w3 W4 := ⟨hf4.below (by have := hr3.below.size; omega) (by intro j hj; simp at hj; omega), fal4⟩
  have hmet4 : Met W4 := hr4.met hB hmet3
  have y0 := blk_cell hx4 0
  have y1 := blk_cell hx4 1
  have y2 := blk_cell hx4 2
  have y3 := blk_cell hx4 3
  simp at y0 y1 y2 y3
  rw [hW4] at y0 y1 y2 y3
  obtain ⟨pv4, hd4⟩ : ∃ pv, W4.heap[p]? = some (dskO bD bN pv R.2.1.left R.2.1.full R.2.1.down) := by obtain ⟨pv, sv, rv, nD, nN, hl⟩ := hs4.lg; exact ⟨pv, hl.disk.blk⟩
  have H4 : Hid (W4.heap[hp]? = some (hostS p true (.pointer (some ⟨sp, 0, none⟩))) ∧ SL W4 B sp gp bV bT bH (20 * R.1.recs.length) lp p bD bN n s' R.1 R.2.1 ∧ HFr B w W4 ∧ W4.heap[p]? = some (dskO bD bN pv4 R.2.1.left R.2.1.full R.2.1.down) ∧ J R.1.recs s') := ⟨hh4, hs4, (H2.out.2.2.2.trans hr3).trans hr4, hd4, hre⟩
  have c3 := blk_cell hh3 3
  have c5 := blk_cell hh3 5
  have f3 := blk_free hh3 3
  have f5 := blk_free hh3 5
  have c2 := blk_cell hh3 2
  simp at c3 c5 c2
  clear hc0 hc2 hh3 hfa3 hr3 hs3 hx3 cel3 hh4 hf4 hx4 hs4 hr4 fal4 hd4 hre
  go_wp2_with fail
  rw [← hW4]
  clear hW4 y0 y1 y2 y3 c3 c5 f3 f5 c2
  have hbd := H4.out.2.2.2.1
  rw [hdn2] at hbd
  refine (after_s hp p bD bN pv4 _ true R.2.1.left R.2.1.full a b c k W4 H4.out.1 hbd).mono ?_
  clear hbd
  rintro e w5 ⟨rfl, hb5, hf5⟩
  rw [← hdn2] at hb5
  obtain ⟨hs5, hx5⟩ := H4.out.2.1.knob (-1) (-1) hf5 hb5 H4.out.2.2.2.1
  have hh5 := hx5.cells H4.out.2.1 H4.out.1 (by decide) (by decide) (by decide) (by decide) (by decide) (by decide)
  have hr5 := hx5.hfr H4.out.2.1 hb3
  have hmet5 : Met w5 := hr5.met hB hmet4
  have H5 : Hid (w5.heap[hp]? = some (hostS p true (.pointer (some ⟨sp, 0, none⟩))) ∧ SL w5 B sp gp bV bT bH (20 * R.1.recs.length) lp p bD bN n s' R.1 (R.2.1.knob (-1) (-1)) ∧ HFr B w w5 ∧ J R.1.recs s') := ⟨hh5, hs5, H4.out.2.2.1.trans hr5, H4.out.2.2.2.2⟩
  clear hb5 hf5 hs5 hx5 hh5 hr5
  go_wp2_with fail
  refine (told_any 0 w5 hmet5).mono ?_
  rintro e w6 ⟨rfl, hf6⟩
  obtain ⟨hs6, hx6⟩ := H5.out.2.1.new hf6
  have H6 : Hid (J R.1.recs s' ∧ HSt w6 B hp (20 * R.1.recs.length) n s' R.1 (R.2.1.knob (-1) (-1)) ∧ HFr B w w6) := ⟨H5.out.2.2.2, ⟨p, sp, gp, bV, bT, bH, lp, bD, bN, hx6.cells H5.out.2.1 H5.out.1 (by decide) (by decide) (by decide) (by decide) (by decide) (by decide), hs6, hb3⟩, H5.out.2.2.1.trans (hx6.hfr H5.out.2.1 hb3)⟩
  clear hs6 hx6 hf6
  go_wp2
  go_ret
  exact ⟨rfl, s', H6.out⟩
end Go.Proofs.YtejiankgafjppabGreatDoor
/- LEDGERS WITH CHECKPOINTS: lastCheckpoint. (From LedB.) -/
namespace Go.Proofs.YtejiankgafjppabGreatDoor
open Go.RowKit Go.Shelf
open Sc

/-- what lastCheckpoint has behind these -/
def cpS {rs : List Rec} (pre : List { x : Rec // x ∈ rs }) : Nat × Nat × Nat := cpOf (pre.map (·.1))
theorem cpS_snoc {rs : List Rec} (pre : List { x : Rec // x ∈ rs }) (x : { x : Rec // x ∈ rs }) : cpS (pre ++ [x]) = cpStep (cpS pre) x.1 := by unfold cpS; rw [List.map_append, List.map_cons, List.map_nil, cpOf_snoc]
theorem KpS.dr {S : List Nat} {W X : World} (h : KpS S W X) : KpS S W X.drew := ⟨h.size, h.same⟩
theorem KeepsOthers.dr {W X : World} (h : KeepsOthers W X) : KeepsOthers W X.drew := ⟨h.size, h.same⟩
theorem KpS.setC {S : List Nat} {W : World} {n b : Nat} (h : ∀ k ∈ S, k < n) (hb : n ≤ b) (v : Value) : KpS S W (W.setCell ⟨b, 0, none⟩ v) :=
  ⟨by simp, fun k hk _ => Below.heap_setCell _ _ _ k (by have := h k hk; simp; omega)⟩
set_option maxRecDepth 100000 in
set_option maxHeartbeats 4000000 in
theorem lastCq_in (n : Nat) (hn : 4 ≤ n) (gp lp : Nat) (rv : Value) (rs : List Rec) (hlen : rs.length ≤ 67108864) (w : World) (hg : w.cell? ⟨gp, 0, none⟩ = some (.pointer (some ⟨lp, 0, none⟩))) (hL : LogRecs w lp rv rs) :
    CallsIn Fence.wide n Tryz.prog 199 #[.pointer (some ⟨gp, 0, none⟩)] w fun e w' => e = .returned (.tuple #[.int .u64 ((cpOf rs).2.1 : Int), .int .u64 ((cpOf rs).2.2 : Int)]) ∧ Below w.heap.size w w' := by
  have hro : Fence.wide.round = none := rfl
  have h1 : 1 ≤ n := by omega
  have hf2 : Fence.wide.fn 244 := trivial
  have hf3 : Fence.wide.fn 293 := trivial
  have hgl : gp < w.heap.size := World.block_lt_of_cell? w ⟨gp, 0, none⟩ hg
  obtain ⟨W3, hW3⟩ : ∃ W3, W3 = ((w.alloc (.cells #[.int .u64 0] 28)).alloc (.cells #[.int .u64 0] 28)).alloc (.cells #[.int .u64 0] 28) := ⟨_, rfl⟩
  have hB3 : Below w.heap.size w W3 := by rw [hW3]; exact (((Below.refl _ w).alloc (Nat.le_refl _) _).alloc (by simp) _).alloc (by simp; omega) _
  have c0 : W3.cell? ⟨gp, 0, none⟩ = some (.pointer (some ⟨lp, 0, none⟩)) := (hB3.cell (p := ⟨gp, 0, none⟩) hgl).trans hg
  rw [hW3] at c0
  refine callsIn_of_wp_marks Tryz.func199 rfl trivial ?_ hro
  simp only [Tryz.ntmps199, List.size_toArray, List.length_cons, List.length_nil, Nat.reduceAdd, Nat.reduceSub, Array.replicate_succ, Array.replicate_zero, List.push_toArray, List.append_toArray, List.nil_append, List.cons_append]
  gi_wp2_with (gi_at_call 244; refine (all_in Fence.wide (n - 1) hf2 hro _ _).mono ?_; rintro e w' ⟨rfl, rfl⟩)
  have bA := Boxed.new W3 82 (.pointer (some ⟨lp, 0, none⟩))
  have hs3 : W3.heap.size = w.heap.size + 3 := by rw [hW3]; simp
  have b4 : Boxed W3 (w.heap.size + 1 + 1) 28 (.int .u64 0) := by
    have := Boxed.new ((w.alloc (.cells #[.int .u64 0] 28)).alloc (.cells #[.int .u64 0] 28)) 28 (.int .u64 0)
    rw [World.size_alloc, World.size_alloc, ← hW3] at this
    exact this
  have b3 : Boxed W3 (w.heap.size + 1) 28 (.int .u64 0) := by
    have := (Boxed.new (w.alloc (.cells #[.int .u64 0] 28)) 28 (.int .u64 0)).alloc (.cells #[.int .u64 0] 28)
    rw [World.size_alloc, ← hW3] at this
    exact this
  have b2 : Boxed W3 w.heap.size 28 (.int .u64 0) := by
    have := ((Boxed.new w 28 (.int .u64 0)).alloc (.cells #[.int .u64 0] 28)).alloc (.cells #[.int .u64 0] 28)
    rw [← hW3] at this
    exact this
  rw [← hW3]
  clear hW3 c0
  have b2' := b2.alloc (.cells #[.pointer (some ⟨lp, 0, none⟩)] 82)
  have b3' := b3.alloc (.cells #[.pointer (some ⟨lp, 0, none⟩)] 82)
  have b4' := b4.alloc (.cells #[.pointer (some ⟨lp, 0, none⟩)] 82)
  have hB4 : Below w.heap.size w (W3.alloc (.cells #[.pointer (some ⟨lp, 0, none⟩)] 82)) := hB3.alloc hB3.size _
  have hs4 : (W3.alloc (.cells #[.pointer (some ⟨lp, 0, none⟩)] 82)).heap.size = w.heap.size + 4 := by rw [World.size_alloc, hs3]
  have hL4 := hL.below hB4
  rw [hs3] at bA
  obtain ⟨W0, hW0⟩ : ∃ W0, W0 = W3.alloc (.cells #[.pointer (some ⟨lp, 0, none⟩)] 82) := ⟨_, rfl⟩
  rw [← hW0] at bA b2' b3' b4' hB4 hs4 hL4 ⊢
  clear hW0 b2 b3 b4 hB3 hs3
  refine wpIn_rangeFunc_ownH hro h1 (gf := 293) (lb := #[.pointer (some ⟨w.heap.size + 1 + 1 + 1, 0, none⟩)]) rfl hf3 (enters_of Tryz.func293 (by kernel_rfl) rfl)
    (allK_stops (n - 1) (by omega) (w.heap.size + 1 + 1 + 1) lp rv rs W0 hlen (by omega) hL4.lt bA.cell hL4.cell hL4.recs) (fun h k => h.trans k) (KpS.book hL4.rows) (Below.refl _ _) (fun _ => rfl)
    (fun pre W => ((Boxed W w.heap.size 28 (.int .u64 ((cpS pre).2.1 : Int)) ∧ Boxed W (w.heap.size + 1) 28 (.int .u64 ((cpS pre).2.2 : Int))) ∧ Boxed W (w.heap.size + 1 + 1) 28 (.int .u64 ((cpS pre).1 : Int))) ∧ Below w.heap.size w W)
    (fun _ _ _ => False)
    (OwnFrom.and (OwnFrom.and (OwnFrom.and (Own.from (boxed_own _ _ _) _) (Own.from (boxed_own _ _ _) _)) (Own.from (boxed_own _ _ _) _)) (ownFrom_below (Nat.le_refl _) (by omega)))
    (fun _ _ _ _ _ hs _ _ => hs)
    ⟨⟨⟨b2', b3'⟩, b4'⟩, hB4⟩
    (fun x a' W => ∃ Bx, w.heap.size + 1 + 1 < Bx ∧ W.heap[Bx]? = some (.cells #[.int .u64 (x.1.lsn : Int), .int .u8 (x.1.kind : Int), .string (str x.1.pay)] 288 (0, 0)) ∧ a' = { tmps := #[.pointer (some ⟨gp, 0, none⟩), undef, .pointer (some ⟨w.heap.size, 0, none⟩), .pointer (some ⟨w.heap.size + 1, 0, none⟩), .pointer (some ⟨w.heap.size + 1 + 1, 0, none⟩), .pointer (some ⟨Bx, 0, none⟩), .pointer (some ⟨gp, 0, none⟩), .pointer (some ⟨gp, 0, none⟩), .pointer (some ⟨gp, 0, none⟩), .pointer (some ⟨lp, 0, none⟩), .func (.func 293) #[] #[.pointer (some ⟨w.heap.size + 1 + 1 + 1, 0, none⟩)], recA x.1, undef, undef, undef, undef, undef, undef, undef, undef, undef, undef, undef, undef, undef, undef, undef, undef, undef, undef, undef], defers := [] })
    (fun x a' _ X Y row hs hg hr => by
      obtain ⟨Bx, h1, h2, h3⟩ := hs
      exact ⟨Bx, h1, (hg.block Bx (Array.getElem?_eq_some_iff.1 h2).1 (fun e => by obtain ⟨_, o, ho, hc⟩ := hr Bx e.symm; rw [h2] at ho; cases ho; cases hc)).trans h2, h3⟩)
    ?assign ?body ?done ?stop
  case assign =>
    have hsem := @Oper.semAt_some
    rintro l pre x W K ⟨⟨⟨hv2, hv3⟩, hv4⟩, hB1⟩ hK
    gi_wp2
    exact hK _ _ ((KeepsOthers.alloc _ _).from _) (KpS.alloc _ _) ⟨⟨⟨hv2.alloc _, hv3.alloc _⟩, hv4.alloc _⟩, hB1.alloc hB1.size _⟩ ⟨W.heap.size, hv4.lt, World.alloc_heap_new W _, rfl⟩
  case body =>
    have hsem := @Oper.semAt_some
    rintro l pre x a' W hl2 _ ⟨⟨⟨hv2, hv3⟩, hv4⟩, hB⟩ ⟨Bx, hBx, bX, rfl⟩ hlt
    have HS : Hid (cpS (pre ++ [x]) = cpStep (cpS pre) x.1) := cpS_snoc pre x
    obtain ⟨c, hc⟩ : ∃ c, c = cpS pre := ⟨_, rfl⟩
    rw [← hc] at hv2 hv3 hv4 HS
    obtain ⟨ca, cb, ce⟩ := c
    clear hc
    have x0 := cell_blk0 bX 0
    have x1 := cell_blk0 bX 1
    simp at x0 x1
    have c2 := hv2.cell
    have c3 := hv3.cell
    have c4 := hv4.cell
    have f2 := hv2.frozen
    have f3 := hv3.frozen
    have f4 := hv4.frozen
    have hrw := hL.rows
    by_cases k1 : x.1.kind = 254
    · have HE : Hid (cpS (pre ++ [x]) = (x.1.lsn, cb, ce)) := by show _ = _; rw [HS.out]; simp [cpStep, k1]
      rw [k1] at x1
      simp at x1
      clear HS
      gi_wp2
      refine ⟨(KeepsOthers.setCell W _ _).from _, KpS.setC (b := w.heap.size + 1 + 1) hrw (by omega) _, ⟨⟨?_, ?_⟩, ?_⟩, hB.setCell (p := ⟨w.heap.size + 1 + 1, 0, none⟩) (by show w.heap.size ≤ w.heap.size + 1 + 1; omega) _⟩
      · rw [HE.out]; exact hv2.other (by omega) _
      · rw [HE.out]; exact hv3.other (by omega) _
      · rw [HE.out]; exact hv4.set _
    · have k1' : ¬ (x.1.kind : Int) = 254 := by omega
      by_cases k2 : x.1.kind = 255
      · by_cases k3 : 0 < ca
        · have HE : Hid (cpS (pre ++ [x]) = (ca, ca, x.1.lsn)) := by show _ = _; rw [HS.out]; simp [cpStep, k2, k3]
          rw [k2] at x1
          simp at x1
          have k3' : (0 : Int) < (ca : Int) := by omega
          clear HS k1 k1'
          have HKP : Hid (KpS (rowsOf rv) W ((W.setCell ⟨w.heap.size, 0, none⟩ (.int .u64 (ca : Int))).setCell ⟨w.heap.size + 1, 0, none⟩ (.int .u64 (x.1.lsn : Int))).drew) := ((KpS.setC (b := w.heap.size) hrw (Nat.le_refl _) _).trans (KpS.setC (b := w.heap.size + 1) hrw (by omega) _)).dr
          have HOK : Hid (((Boxed ((W.setCell ⟨w.heap.size, 0, none⟩ (.int .u64 (ca : Int))).setCell ⟨w.heap.size + 1, 0, none⟩ (.int .u64 (x.1.lsn : Int))).drew w.heap.size 28 (.int .u64 ((cpS (pre ++ [x])).2.1 : Int)) ∧ Boxed ((W.setCell ⟨w.heap.size, 0, none⟩ (.int .u64 (ca : Int))).setCell ⟨w.heap.size + 1, 0, none⟩ (.int .u64 (x.1.lsn : Int))).drew (w.heap.size + 1) 28 (.int .u64 ((cpS (pre ++ [x])).2.2 : Int))) ∧ Boxed ((W.setCell ⟨w.heap.size, 0, none⟩ (.int .u64 (ca : Int))).setCell ⟨w.heap.size + 1, 0, none⟩ (.int .u64 (x.1.lsn : Int))).drew (w.heap.size + 1 + 1) 28 (.int .u64 ((cpS (pre ++ [x])).1 : Int))) ∧ Below w.heap.size w ((W.setCell ⟨w.heap.size, 0, none⟩ (.int .u64 (ca : Int))).setCell ⟨w.heap.size + 1, 0, none⟩ (.int .u64 (x.1.lsn : Int))).drew) := by
            refine ⟨⟨⟨?_, ?_⟩, ?_⟩, ((hB.setCell (p := ⟨w.heap.size, 0, none⟩) (Nat.le_refl _) _).setCell (p := ⟨w.heap.size + 1, 0, none⟩) (by show w.heap.size ≤ w.heap.size + 1; omega) _).drew⟩
            · rw [HE.out]; exact (hv2.set _).other (by omega) _
            · rw [HE.out]; exact (hv3.other (by omega) _).set _
            · rw [HE.out]; exact (hv4.other (by omega) _).other (by omega) _
          gi_wp2
          gi_region
          all_goals gi_wp2
          all_goals exact ⟨(KeepsOthers.dr ((KeepsOthers.setCell W _ _).trans (KeepsOthers.setCell _ _ _))).from _, HKP.out, HOK.out⟩
        · have HE : Hid (cpS (pre ++ [x]) = (ca, cb, ce)) := by show _ = _; rw [HS.out]; simp [cpStep, k2, k3]
          rw [k2] at x1
          simp at x1
          have k3' : ¬ (0 : Int) < (ca : Int) := by omega
          clear HS k1 k1'
          gi_wp2
          exact ⟨KeepsFrom.refl _ _, KpS.refl _, ⟨⟨by rw [HE.out]; exact hv2, by rw [HE.out]; exact hv3⟩, by rw [HE.out]; exact hv4⟩, hB⟩
      · have HE : Hid (cpS (pre ++ [x]) = (ca, cb, ce)) := by show _ = _; rw [HS.out]; simp [cpStep, k1, k2]
        have k2' : ¬ (x.1.kind : Int) = 255 := by omega
        clear HS k1 k2
        gi_wp2
        exact ⟨KeepsFrom.refl _ _, KpS.refl _, ⟨⟨by rw [HE.out]; exact hv2, by rw [HE.out]; exact hv3⟩, by rw [HE.out]; exact hv4⟩, hB⟩
  case done =>
    rintro D ys W hD hys ⟨⟨⟨hv2, hv3⟩, hv4⟩, hB⟩ hK
    have hcy : cpS ys = cpOf rs := by unfold cpS; rw [hys]
    rw [hcy] at hv2 hv3 hv4
    obtain ⟨cb, hcb⟩ : ∃ cb, cb = (cpOf rs).2.1 := ⟨_, rfl⟩
    obtain ⟨ce, hce⟩ : ∃ ce, ce = (cpOf rs).2.2 := ⟨_, rfl⟩
    rw [← hcb] at hv2
    rw [← hce] at hv3
    have HBE : Hid (cb = (cpOf rs).2.1 ∧ ce = (cpOf rs).2.2) := ⟨hcb, hce⟩
    clear hcb hce hcy
    have c2 := hv2.cell
    have c3 := hv3.cell
    have f2 := hv2.frozen
    have f3 := hv3.frozen
    gi_wp2
    gi_region
    gi_wp2
    obtain ⟨W6, hW6⟩ : ∃ W6, W6 = ((W.setCell ⟨w.heap.size, 0, none⟩ (.int .u64 (cb : Int))).setCell ⟨w.heap.size + 1, 0, none⟩ (.int .u64 (ce : Int))).drew := ⟨_, rfl⟩
    rw [← hW6]
    have v2 : Boxed W6 w.heap.size 28 (.int .u64 (cb : Int)) := by rw [hW6]; exact (hv2.set _).other (by omega) _
    have v3 : Boxed W6 (w.heap.size + 1) 28 (.int .u64 (ce : Int)) := by rw [hW6]; exact (hv3.other (by omega) _).set _
    have hB6 : Below w.heap.size w W6 := by rw [hW6]; exact ((hB.setCell (p := ⟨w.heap.size, 0, none⟩) (Nat.le_refl _) _).setCell (p := ⟨w.heap.size + 1, 0, none⟩) (by show w.heap.size ≤ w.heap.size + 1; omega) _).drew
    have hK6 : W6.heap[D]? = some (.deferred (some [])) := by
      rw [hW6]
      exact (Below.heap_setCell _ _ _ D (by show D ≠ w.heap.size + 1; omega)).trans ((Below.heap_setCell _ _ _ D (by show D ≠ w.heap.size; omega)).trans hK)
    clear hW6
    refine ⟨by simp, .inl ⟨_, _, rfl, run_takeDeferred hK6, ?_⟩⟩
    have q2 := (v2.kept (grownBy_putObj' W6 D (.deferred none)) (by simp; omega)).cell
    have q3 := (v3.kept (grownBy_putObj' W6 D (.deferred none)) (by simp; omega)).cell
    refine ⟨.tuple #[.int .u64 (cb : Int), .int .u64 (ce : Int)], ?_, by rw [← HBE.out.1, ← HBE.out.2], hB6.trans (belowK_b (w := w) (Nat.le_refl _) W6 D _ _ (by omega) hK6 rfl rfl)⟩
    simp only [results, Tryz.f199]
    simp [go_sem, q2, q3]
  case stop =>
    rintro D c pre W _ _ h _
    exact h.elim
end Go.Proofs.YtejiankgafjppabGreatDoor
