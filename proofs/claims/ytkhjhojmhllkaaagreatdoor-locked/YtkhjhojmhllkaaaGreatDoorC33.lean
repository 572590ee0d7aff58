import Derived.Test.YtkhjhojmhllkaaaGreatDoorC32
/- A SHARD AS THE LAWS USE IT: open, all durable, few entries: each call's contract. -/
namespace Go.Proofs.YtkhjhojmhllkaaaGreatDoor
open Go.RowKit Go.Maps
open Sc

/-- what Note says -/
theorem One.note {l : ALog} {d : ADisk} {rs : List Rec} (h : One l d rs) {kind : Nat} {s : ByteArray} (hs : s.size ≤ 255) : (l.note d kind s).2.2 = 0 ∧ (l.note d kind s).2.1.down = false := by
  have hnx := h.next
  have hw := h.well
  obtain ⟨o, ho⟩ : ∃ o : AOp, o = ⟨2, segName 1, ByteArray.empty, str (recBytes l.next kind (bytesOf s))⟩ := ⟨_, rfl⟩
  -- what the room gives
  obtain ⟨d1, hd1, w1, e1, p1⟩ : ∃ d1 : ADisk, l.room d = ({ l with segs := [1], filled := (encR rs).length, durable := l.durable }, d1, 0) ∧ d1.Well 1 ∧ d1.now = d.now ∧ d1.pending = [] ∧ d1.durable = d.durable := by
    rcases h.file with ⟨r0, sg, fi, _⟩ | ⟨_, sg, fi, _⟩
    · refine ⟨{ d with left := d.left - 1, full := d.full - 1 }, ?_, well_dec hw _ _ _, rfl, h.pen, rfl⟩
      unfold ALog.room
      have es : l.sync d = ({ l with durable := l.next }, { d with left := d.left - 1, full := d.full - 1, durable := d.pending.foldl doOp d.durable, pending := [] }, 0) := by
        unfold ALog.sync; rw [syncE hw (by omega)]; rfl
      rw [if_neg (by omega), es]
      simp only [if_true]
      rw [h.pen, sg, hnx, h.durN, hnx, r0]
      have : d.pending = [] := h.pen
      obtain ⟨a, b, c, e, f, g⟩ := d
      simp at this
      subst this
      rfl
    · refine ⟨d, ?_, hw.mono (by omega), rfl, h.pen, rfl⟩
      unfold ALog.room
      rw [if_pos (by rw [fi]; exact h.few)]
      obtain ⟨a, b, c, e, f, g⟩ := l
      simp at sg fi
      subst sg fi
      rfl
  obtain ⟨d2, hd2⟩ : ∃ d2 : ADisk, d2 = { d1 with left := d1.left - 1, full := d1.full - 1, now := doOp d1.now o, pending := d1.pending ++ [o] } := ⟨_, rfl⟩
  have w2 : d2.Well 2 := by rw [hd2]; exact well_dec w1 _ _ _
  have hput : l.put d (recBytes l.next kind (bytesOf s)) = ({ l with segs := [1], filled := (encR rs).length, durable := l.durable }, d2, 0) := by
    unfold ALog.put
    rw [hd1]
    simp only [if_true, List.getLastD_cons, List.getLastD_nil]
    rw [tellE w1 (by omega) rfl]
    rw [hd2, ho]
  have hwr : l.wr d (l.put d (recBytes l.next kind (bytesOf s))) = ({ l with segs := [1], filled := (encR rs).length, durable := l.durable, failed := 0 }, d2, 0) := by
    unfold ALog.wr
    rw [if_pos h.failed, hput]
  have hap : l.note d kind s = ({ l with segs := [1], filled := (encR rs).length + (15 + s.size), durable := l.durable, failed := 0, recs := rs ++ [⟨1 + rs.length, kind, bytesOf s⟩], next := l.next + 1 }, d2, 0) := by
    unfold ALog.note ALog.append
    rw [if_neg (by omega), hwr]
    simp only [if_true, h.recs, hnx]
  rw [hap]
  exact ⟨rfl, w2.up⟩
/-- an open shard, all durable -/
def Lv (w : World) (B hp M : Nat) (s : AShard) (rs : List Rec) : Prop := ∃ m n l d, m ≤ M ∧ 10 ≤ n ∧ n ≤ 10 + M ∧ HSt w B hp m n s l d ∧ One l d rs
/-- an open shard -/
def Lw (w : World) (B hp M : Nat) (s : AShard) : Prop := ∃ m n l d, m ≤ M ∧ n ≤ 10 + M ∧ HSt w B hp m n s l d
/-- one that is not open -/
def Lc (w : World) (B hp M : Nat) (rs : List Rec) : Prop := ∃ n d, 10 ≤ n ∧ n ≤ 10 + M ∧ HCl w B hp n d ∧ OneD d rs
theorem Lv.w {w : World} {B hp M : Nat} {s : AShard} {rs : List Rec} (h : Lv w B hp M s rs) : Lw w B hp M s := by obtain ⟨m, n, l, d, h1, h2, h3, h4, _⟩ := h; exact ⟨m, n, l, d, h1, h3, h4⟩
theorem Lv.few {w : World} {B hp M : Nat} {s : AShard} {rs : List Rec} (h : Lv w B hp M s rs) : (encR rs).length < 600 ∧ FineR rs := by obtain ⟨m, n, l, d, h1, h2, h3, h4, h5⟩ := h; exact ⟨h5.few, h5.fine⟩
theorem be_byt0 (k n : Nat) : Byt (be k n) := be_lt k n
abbrev wellV : Value := fallV (-1) (-1) 0 0
section
variable (B hp M t : Nat) (k : ByteArray) (s : AShard) (rs : List Rec) (w : World)
theorem lvOpen0 (hp p bD bN B : Nat) (w : World) (hh : w.heap[hp]? = some (hostS p false (.pointer none))) (h : DiskIn w B p bD bN (.slice none 0 0) ⟨fun _ => none, fun _ => none, [], -1, -1, false⟩ 10 0 0) (hB : 2 ≤ B) (hhp : B ≤ hp) (hmet : Met w) :
    Calls Tryz.prog 16 #[.pointer (some ⟨hp, 0, none⟩), wellV] w fun e w' => e = .returned (.int .i64 0) ∧ Lv w' B hp 0 sh0 [] ∧ HFs B w w' := by
  have hw : ADisk.Well ⟨fun _ => none, fun _ => none, [], -1, -1, false⟩ 0 := ⟨rfl, by simp, by simp⟩
  obtain ⟨o1, o2, o3, o4, o5⟩ := One.first (d := ⟨fun _ => none, fun _ => none, [], -1, -1, false⟩) (fun _ => rfl) rfl rfl hw
  refine (hOpen_s B hp p bD bN 10 0 0 _ _ (-1) (-1) 0 0 _ ((log0 1).opens ⟨fun _ => none, fun _ => none, [], -1, -1, false⟩) w hh h hB hhp hmet (fun W hW _ => shPre_none hW (fun _ => rfl) rfl rfl hw) o2).mono ?_
  rintro e w' ⟨rfl, s', hr, hs, hf⟩
  subst hr
  rw [o3] at hs
  exact ⟨rfl, ⟨_, 10, _, _, Nat.le_refl _, by omega, by omega, hs, o5⟩, hf⟩
theorem lvLose (kept : Int) (h : Lv w B hp M s rs) (hhp : B ≤ hp) (hne : rs ≠ []) :
    Calls Tryz.prog 15 #[.pointer (some ⟨hp, 0, none⟩), .int .i64 kept, .int .i64 0] w fun e w' => e = .returned (.tuple #[]) ∧ Lc w' B hp M rs ∧ HFs B w w' := by
  obtain ⟨m, n, l, d, h1, h2, h3, h4, h5⟩ := h
  refine (hLose_s B hp m n s l d kept w h4 hhp h5.pen).mono ?_
  rintro e w' ⟨rfl, hc, hf⟩
  exact ⟨rfl, ⟨n, _, h2, h3, hc, h5.lost hne⟩, hf⟩
theorem lvOpen1 (J : List Rec → AShard → Prop) (h : Lc w B hp M rs) (hB : 2 ≤ B) (hhp : B ≤ hp) (hmet : Met w) (hpow : Pows w) (hN : Noted J rs) (hM : 200 ≤ M) :
    Calls Tryz.prog 16 #[.pointer (some ⟨hp, 0, none⟩), wellV] w fun e w' => e = .returned (.int .i64 0) ∧ (∃ s', J rs s' ∧ Lv w' B hp M s' rs) ∧ HFs B w w' := by
  obtain ⟨n, d, h1, h2, ⟨p, bD, bN, pv, nD, nN, hh, hd⟩, h4⟩ := h
  have hk : OneD (d.knob (-1) (-1)) rs := { h4 with well := ⟨h4.well.up, by simp [ADisk.knob], by simp [ADisk.knob]⟩ }
  obtain ⟨o1, o2, o3, o4, o5⟩ := One.opened hk
  refine (hOpen_s B hp p bD bN n nD nN pv d (-1) (-1) 0 0 J ((logR rs (1 + rs.length)).opens (d.knob (-1) (-1))) w hh hd hB hhp hmet (fun W hW hb => shPre_one hW hB hk hN (hpow.of_block (hb.block 1 (by omega))) h1) o2).mono ?_
  rintro e w' ⟨rfl, s', hr, hs, hf⟩
  rw [o3] at hs hr
  exact ⟨rfl, ⟨s', hr, _, n, _, _, by have := hN.2.1; omega, h1, h2, hs, o5⟩, hf⟩
theorem lvPut (v : ByteArray) (h : Lv w B hp M s rs) (hB : 2 ≤ B) (hmet : Met w) (ht : t < 18446744073709551616) (hM : M ≤ 1000) (hst : (s.txn t).state ≤ 3) (hdn : (s.txn t).done < 4611686018427387904) (seq : Int) :
    Calls Tryz.prog 32 #[.pointer (some ⟨hp, 0, none⟩), .int .u64 (t : Int), .int .i64 seq, .string k, .string v] w fun e w' => e = .returned (.int .i64 ((s.operate t seq k ⟨1, v⟩).2 : Int)) ∧ Lv w' B hp (M + 3) (s.operate t seq k ⟨1, v⟩).1 rs ∧ HFs B w w' := by
  obtain ⟨m, n, l, d, h1, h2, h3, h4, h5⟩ := h
  refine (hPut_s B hp m n t seq k s l d w v h4 hB hmet ht (by unfold maxLen; omega) hst hdn).mono ?_
  rintro e w' ⟨rfl, hs, hf⟩
  exact ⟨rfl, ⟨_, n, l, d, by omega, h2, by omega, hs, h5⟩, hf⟩
theorem lvDelete (h : Lv w B hp M s rs) (hB : 2 ≤ B) (hmet : Met w) (ht : t < 18446744073709551616) (hM : M ≤ 1000) (hst : (s.txn t).state ≤ 3) (hdn : (s.txn t).done < 4611686018427387904) (seq : Int) :
    Calls Tryz.prog 33 #[.pointer (some ⟨hp, 0, none⟩), .int .u64 (t : Int), .int .i64 seq, .string k] w fun e w' => e = .returned (.int .i64 ((s.operate t seq k ⟨2, ByteArray.empty⟩).2 : Int)) ∧ Lv w' B hp (M + 3) (s.operate t seq k ⟨2, ByteArray.empty⟩).1 rs ∧ HFs B w w' := by
  obtain ⟨m, n, l, d, h1, h2, h3, h4, h5⟩ := h
  refine (hDelete_s B hp m n t seq k s l d w h4 hB hmet ht (by unfold maxLen; omega) hst hdn).mono ?_
  rintro e w' ⟨rfl, hs, hf⟩
  exact ⟨rfl, ⟨_, n, l, d, by omega, h2, by omega, hs, h5⟩, hf⟩
theorem lvGet (h : Lv w B hp M s rs) (hB : 2 ≤ B) (hmet : Met w) (ht : t < 18446744073709551616) (hk : k.size ≤ maxLen) (hM : M ≤ 1000) (hst : (s.txn t).state ≤ 3) (hdn : (s.txn t).done < 4611686018427387904) (seq : Int) :
    Calls Tryz.prog 19 #[.pointer (some ⟨hp, 0, none⟩), .int .u64 (t : Int), .int .i64 seq, .string k] w fun e w' => e = .returned (.tuple #[.string (s.get t seq k).2.1, .bool (s.get t seq k).2.2.1, .int .i64 ((s.get t seq k).2.2.2 : Int)]) ∧ Lv w' B hp (M + 3) (s.get t seq k).1 rs ∧ HFs B w w' := by
  obtain ⟨m, n, l, d, h1, h2, h3, h4, h5⟩ := h
  refine (hGet_s B hp m n t seq k s l d w h4 hB hmet ht hk (by unfold maxLen; omega) hst hdn).mono ?_
  rintro e w' ⟨rfl, hs, hf⟩
  exact ⟨rfl, ⟨_, n, l, d, by omega, h2, by omega, hs, h5⟩, hf⟩
theorem lvValue (h : Lv w B hp M s rs) (hk : k.size ≤ maxLen) :
    Calls Tryz.prog 20 #[.pointer (some ⟨hp, 0, none⟩), .string k] w fun e w' => e = .returned (.tuple #[.string ((alLook s.vals k).getD ByteArray.empty), .bool (alLook s.vals k).isSome]) ∧ Lv w' B hp M s rs ∧ HFs B w w' := by
  obtain ⟨m, n, l, d, h1, h2, h3, h4, h5⟩ := h
  refine (hValue_s B hp m n k s l d w h4 hk).mono ?_
  rintro e w' ⟨rfl, hs, hf⟩
  exact ⟨rfl, ⟨m, n, l, d, h1, h2, h3, hs, h5⟩, hf⟩
theorem lvWaiting (h : Lv w B hp M s rs) (hl : s.txns.length ≤ 12) :
    Calls Tryz.prog 21 #[.pointer (some ⟨hp, 0, none⟩)] w fun e w' => ∃ v ss, e = .returned v ∧ ss.Perm (s.txns.map (·.1)) ∧ ss.Pairwise (· ≤ ·) ∧ w'.ownsRow w.heap.size 33 1 v (waits (atT s.txns ss)).length (u64s (waits (atT s.txns ss))) ∧ Lv w' B hp M s rs ∧ HFs B w w' := by
  obtain ⟨m, n, l, d, h1, h2, h3, h4, h5⟩ := h
  refine (hWaiting_s B hp m n s l d w h4 hl).mono ?_
  rintro e w' ⟨v, ss, rfl, a1, a2, a3, hs, hf⟩
  exact ⟨v, ss, rfl, a1, a2, a3, ⟨m, n, l, d, h1, h2, h3, hs, h5⟩, hf⟩
/-- Prepare of one that writes a key -/
theorem lvPrepW (g : AGrip) (h : Lv w B hp M s rs) (hB : 2 ≤ B) (hmet : Met w) (hpow : Pows w) (ht : t < 18446744073709551616) (h0 : t ≠ 0) (hM : M ≤ 1000) (hst : (s.txn t).state = 1) (hc : s.count t ≤ 16) (hv : s.Small) (hone : ∀ L : List (ByteArray × AGrip), Once1 L → (∀ q, alLook L q = alLook s.holds (t, q)) → L = [(k, g)]) (hwr : g.writes = true)
    (hby : Byt (be 8 t ++ holdsB [(k, g)])) (hlen : (be 8 t ++ holdsB [(k, g)]).length ≤ 255) (h6 : (encR (rs ++ [⟨1 + rs.length, 1, be 8 t ++ holdsB [(k, g)]⟩])).length < 600) (hf : FineR (rs ++ [⟨1 + rs.length, 1, be 8 t ++ holdsB [(k, g)]⟩])) :
    Calls Tryz.prog 14 #[.pointer (some ⟨hp, 0, none⟩), .int .u64 (t : Int), wellV] w fun e w' => e = .returned (.tuple #[.int .i64 2, .int .i64 0]) ∧ Lv w' B hp (M + 3) { s with txns := alPut s.txns t ⟨3, 0, 0⟩ } (rs ++ [⟨1 + rs.length, 1, be 8 t ++ holdsB [(k, g)]⟩]) ∧ HFs B w w' := by
  obtain ⟨m, n, l, d, h1, h2, h3, ⟨p, sp, gp, bV, bT, bH, lp, bD, bN, hh, hs, hb⟩, h5⟩ := h
  have hso : sortG [(k, g)] = [(k, g)] := by
    unfold sortG sortK
    simp [alLook]
  have hk5 := h5.knob
  have hke := hk5.keep (kind := 1) (s := str (be 8 t ++ holdsB [(k, g)])) (by rw [str_size]; exact hlen) (by rw [bytesOf_str hby]; exact hf) (by rw [bytesOf_str hby]; exact h6)
  rw [bytesOf_str hby] at hke
  obtain ⟨k1, k2, k3⟩ := hke
  refine (hPrep_s B hp sp gp bV bT bH m lp p bD bN n t s l d (-1) (-1) 0 0 w (fun v x s' l' d' m' n' => v = 2 ∧ x = 0 ∧ s' = { s with txns := alPut s.txns t ⟨3, 0, 0⟩ } ∧ One l' (d'.knob (-1) (-1)) (rs ++ [⟨1 + rs.length, 1, be 8 t ++ holdsB [(k, g)]⟩]) ∧ m' = m + 1 ∧ n' = n + 3) hh hs hb hB hmet (fun w1 hs1 hf1 => ?_)).mono ?_
  · refine (prepare_any B sp gp bV bT bH m lp p bD bN n t s l (d.knob (-1) (-1)) w1 hs1 ht (by omega) hB h5.sg (hf1.pows hB hpow) (by omega) hc hv).mono ?_
    rintro e w2 ⟨L, hL1, hL2, rfl, hs2, hx2⟩
    have hL := hone L hL1 hL2
    subst hL
    have hpr : s.prepare l (d.knob (-1) (-1)) t [(k, g)] = ({ s with txns := alPut s.txns t ⟨3, 0, 0⟩ }, (l.keep (d.knob (-1) (-1)) 1 (str (be 8 t ++ holdsB [(k, g)]))).1, (l.keep (d.knob (-1) (-1)) 1 (str (be 8 t ++ holdsB [(k, g)]))).2.1, 2, 0) := by
      unfold AShard.prepare AShard.prep
      rw [if_neg h0, if_neg (by omega), if_pos hst, if_pos (by simp [anyW, hwr]), hso, if_pos k1]
    rw [hpr] at hs2 ⊢
    exact ⟨2, 0, _, _, _, _, _, ⟨rfl, rfl, rfl, k3, rfl, rfl⟩, rfl, hs2, k2, hx2⟩
  · rintro e w' ⟨v, x, s', l', d', m', n', ⟨rfl, rfl, rfl, hO, rfl, rfl⟩, rfl, hS, hF⟩
    exact ⟨rfl, ⟨_, _, _, _, by omega, by omega, by omega, hS, hO⟩, hF⟩
/-- Prepare of one that keeps nothing -/
theorem lvPrepN (v : Nat) (h : Lv w B hp M s rs) (hB : 2 ≤ B) (hmet : Met w) (hpow : Pows w) (ht : t < 18446744073709551616) (hM : M ≤ 1000) (hc : s.count t ≤ 16) (hv : s.Small) (hone : ∀ (l : ALog) (d : ADisk) (L : List (ByteArray × AGrip)), Once1 L → (∀ q, alLook L q = alLook s.holds (t, q)) → s.prepare l d t L = (s.forget t, l, d, v, 0)) :
    Calls Tryz.prog 14 #[.pointer (some ⟨hp, 0, none⟩), .int .u64 (t : Int), wellV] w fun e w' => e = .returned (.tuple #[.int .i64 (v : Int), .int .i64 0]) ∧ Lv w' B hp (M + 3) (s.forget t) rs ∧ HFs B w w' := by
  obtain ⟨m, n, l, d, h1, h2, h3, ⟨p, sp, gp, bV, bT, bH, lp, bD, bN, hh, hs, hb⟩, h5⟩ := h
  refine (hPrep_s B hp sp gp bV bT bH m lp p bD bN n t s l d (-1) (-1) 0 0 w (fun v' x s' l' d' m' n' => v' = v ∧ x = 0 ∧ s' = s.forget t ∧ l' = l ∧ d' = d.knob (-1) (-1) ∧ m' = m + 1 ∧ n' = n + 3) hh hs hb hB hmet (fun w1 hs1 hf1 => ?_)).mono ?_
  · refine (prepare_any B sp gp bV bT bH m lp p bD bN n t s l (d.knob (-1) (-1)) w1 hs1 ht (by omega) hB h5.sg (hf1.pows hB hpow) (by omega) hc hv).mono ?_
    rintro e w2 ⟨L, hL1, hL2, rfl, hs2, hx2⟩
    rw [hone l (d.knob (-1) (-1)) L hL1 hL2] at hs2 ⊢
    exact ⟨v, 0, _, _, _, _, _, ⟨rfl, rfl, rfl, rfl, rfl, rfl, rfl⟩, rfl, hs2, h5.well.up, hx2⟩
  · rintro e w' ⟨v, x, s', l', d', m', n', ⟨rfl, rfl, rfl, rfl, rfl, rfl, rfl⟩, rfl, hS, hF⟩
    exact ⟨rfl, ⟨_, _, _, _, by omega, by omega, by omega, hS, h5.knob.knob⟩, hF⟩
/-- CommitHere of one that is prepared -/
theorem lvComm (h : Lv w B hp M s rs) (hB : 2 ≤ B) (hmet : Met w) (hpow : Pows w) (ht : t < 18446744073709551616) (h0 : t ≠ 0) (hM : M ≤ 1000) (hst : (s.txn t).state = 3) (hc : s.count t ≤ 16) (hv : ∀ p ∈ s.holds, p.2.val.size ≤ maxLen) (h6 : (encR (rs ++ [⟨1 + rs.length, 2, be 8 t⟩])).length < 600) (hf : FineR (rs ++ [⟨1 + rs.length, 2, be 8 t⟩])) :
    Calls Tryz.prog 18 #[.pointer (some ⟨hp, 0, none⟩), .int .u64 (t : Int), wellV] w fun e w' => e = .returned (.int .i64 0) ∧ (∃ s', Committed s s' t ∧ Lv w' B hp (M + 20) s' (rs ++ [⟨1 + rs.length, 2, be 8 t⟩])) ∧ HFs B w w' := by
  obtain ⟨m, n, l, d, h1, h2, h3, ⟨p, sp, gp, bV, bT, bH, lp, bD, bN, hh, hs, hb⟩, h5⟩ := h
  have hby : Byt (be 8 t) := be_byt0 8 t
  have hk5 := h5.knob
  have hke := hk5.keep (kind := 2) (s := str (be 8 t)) (by rw [str_size, be_len]; decide) (by rw [bytesOf_str hby]; exact hf) (by rw [bytesOf_str hby]; exact h6)
  rw [bytesOf_str hby] at hke
  obtain ⟨k1, k2, k3⟩ := hke
  refine (hComm_s B hp sp gp bV bT bH m lp p bD bN n t s l d (-1) (-1) 0 0 w (fun v x s' l' d' m' n' => x = 0 ∧ Committed s s' t ∧ One l' (d'.knob (-1) (-1)) (rs ++ [⟨1 + rs.length, 2, be 8 t⟩]) ∧ m' = m + 16 ∧ n' = n + 3) hh hs hb hB hmet (fun w1 hs1 hf1 => ?_)).mono ?_
  · refine (commit_yes B sp gp bV bT bH m lp p bD bN n t 16 s l (d.knob (-1) (-1)) w1 hs1 ht h0 hst (by omega) hB h5.sg (hf1.pows hB hpow) (by unfold maxLen; omega) hc hv).mono ?_
    rintro e w2 ⟨rfl, ⟨s', hs2, hcm⟩, hx2⟩
    rw [k1] at hcm ⊢
    rw [if_pos rfl] at hcm
    exact ⟨0, 0, _, _, _, _, _, ⟨rfl, hcm, k3, rfl, rfl⟩, rfl, hs2, k2, hx2⟩
  · rintro e w' ⟨v, x, s', l', d', m', n', ⟨rfl, hcm, hO, rfl, rfl⟩, rfl, hS, hF⟩
    exact ⟨rfl, ⟨s', hcm, _, _, _, _, by omega, by omega, by omega, hS, hO⟩, hF⟩
/-- AbortHere of one that is not prepared -/
theorem lvAbrtN (h : Lv w B hp M s rs) (hB : 2 ≤ B) (hmet : Met w) (ht : t < 18446744073709551616) (h0 : t ≠ 0) (hst : (s.txn t).state ≠ 3) :
    Calls Tryz.prog 17 #[.pointer (some ⟨hp, 0, none⟩), .int .u64 (t : Int), wellV] w fun e w' => e = .returned (.int .i64 0) ∧ Lv w' B hp M (s.forget t) rs ∧ HFs B w w' := by
  obtain ⟨m, n, l, d, h1, h2, h3, ⟨p, sp, gp, bV, bT, bH, lp, bD, bN, hh, hs, hb⟩, h5⟩ := h
  refine (hAbrt_s B hp sp gp bV bT bH m lp p bD bN n t s l d (-1) (-1) 0 0 w (fun v x s' l' d' m' n' => x = 0 ∧ s' = s.forget t ∧ l' = l ∧ d' = d.knob (-1) (-1) ∧ m' = m ∧ n' = n) hh hs hb hB hmet (fun w1 hs1 hf1 => ?_)).mono ?_
  · refine (abort_none sp gp bV bT bH m t s w1 hs1.sh ht (.inr hst)).mono ?_
    rintro e w2 ⟨rfl, hin2, hf2⟩
    rw [if_neg h0] at hin2 ⊢
    obtain ⟨hs2, hx2⟩ := hs1.ops hin2 hf2
    exact ⟨0, 0, _, _, _, _, _, ⟨rfl, rfl, rfl, rfl, rfl, rfl⟩, rfl, hs2, h5.well.up, hx2⟩
  · rintro e w' ⟨v, x, s', l', d', m', n', ⟨rfl, rfl, rfl, rfl, rfl, rfl⟩, rfl, hS, hF⟩
    exact ⟨rfl, ⟨_, _, _, _, by omega, by omega, by omega, hS, h5.knob.knob⟩, hF⟩
theorem lwPut (v : ByteArray) (h : Lw w B hp M s) (hB : 2 ≤ B) (hmet : Met w) (ht : t < 18446744073709551616) (hM : M ≤ 1000) (hst : (s.txn t).state ≤ 3) (hdn : (s.txn t).done < 4611686018427387904) (seq : Int) :
    Calls Tryz.prog 32 #[.pointer (some ⟨hp, 0, none⟩), .int .u64 (t : Int), .int .i64 seq, .string k, .string v] w fun e w' => e = .returned (.int .i64 ((s.operate t seq k ⟨1, v⟩).2 : Int)) ∧ Lw w' B hp (M + 3) (s.operate t seq k ⟨1, v⟩).1 ∧ HFs B w w' := by
  obtain ⟨m, n, l, d, h1, h3, h4⟩ := h
  refine (hPut_s B hp m n t seq k s l d w v h4 hB hmet ht (by unfold maxLen; omega) hst hdn).mono ?_
  rintro e w' ⟨rfl, hs, hf⟩
  exact ⟨rfl, ⟨_, n, l, d, by omega, by omega, hs⟩, hf⟩
theorem lwDelete (h : Lw w B hp M s) (hB : 2 ≤ B) (hmet : Met w) (ht : t < 18446744073709551616) (hM : M ≤ 1000) (hst : (s.txn t).state ≤ 3) (hdn : (s.txn t).done < 4611686018427387904) (seq : Int) :
    Calls Tryz.prog 33 #[.pointer (some ⟨hp, 0, none⟩), .int .u64 (t : Int), .int .i64 seq, .string k] w fun e w' => e = .returned (.int .i64 ((s.operate t seq k ⟨2, ByteArray.empty⟩).2 : Int)) ∧ Lw w' B hp (M + 3) (s.operate t seq k ⟨2, ByteArray.empty⟩).1 ∧ HFs B w w' := by
  obtain ⟨m, n, l, d, h1, h3, h4⟩ := h
  refine (hDelete_s B hp m n t seq k s l d w h4 hB hmet ht (by unfold maxLen; omega) hst hdn).mono ?_
  rintro e w' ⟨rfl, hs, hf⟩
  exact ⟨rfl, ⟨_, n, l, d, by omega, by omega, hs⟩, hf⟩
theorem lwGet (h : Lw w B hp M s) (hB : 2 ≤ B) (hmet : Met w) (ht : t < 18446744073709551616) (hk : k.size ≤ maxLen) (hM : M ≤ 1000) (hst : (s.txn t).state ≤ 3) (hdn : (s.txn t).done < 4611686018427387904) (seq : Int) :
    Calls Tryz.prog 19 #[.pointer (some ⟨hp, 0, none⟩), .int .u64 (t : Int), .int .i64 seq, .string k] w fun e w' => e = .returned (.tuple #[.string (s.get t seq k).2.1, .bool (s.get t seq k).2.2.1, .int .i64 ((s.get t seq k).2.2.2 : Int)]) ∧ Lw w' B hp (M + 3) (s.get t seq k).1 ∧ HFs B w w' := by
  obtain ⟨m, n, l, d, h1, h3, h4⟩ := h
  refine (hGet_s B hp m n t seq k s l d w h4 hB hmet ht hk (by unfold maxLen; omega) hst hdn).mono ?_
  rintro e w' ⟨rfl, hs, hf⟩
  exact ⟨rfl, ⟨_, n, l, d, by omega, by omega, hs⟩, hf⟩
theorem lwValue (h : Lw w B hp M s) (hk : k.size ≤ maxLen) :
    Calls Tryz.prog 20 #[.pointer (some ⟨hp, 0, none⟩), .string k] w fun e w' => e = .returned (.tuple #[.string ((alLook s.vals k).getD ByteArray.empty), .bool (alLook s.vals k).isSome]) ∧ Lw w' B hp M s ∧ HFs B w w' := by
  obtain ⟨m, n, l, d, h1, h3, h4⟩ := h
  refine (hValue_s B hp m n k s l d w h4 hk).mono ?_
  rintro e w' ⟨rfl, hs, hf⟩
  exact ⟨rfl, ⟨m, n, l, d, h1, h3, hs⟩, hf⟩
/-- AbortHere of one that is prepared -/
theorem lvAbrtP (h : Lv w B hp M s rs) (hB : 2 ≤ B) (hmet : Met w) (hpow : Pows w) (ht : t < 18446744073709551616) (h0 : t ≠ 0) (hM : M ≤ 1000) (hst : (s.txn t).state = 3) :
    Calls Tryz.prog 17 #[.pointer (some ⟨hp, 0, none⟩), .int .u64 (t : Int), wellV] w fun e w' => e = .returned (.int .i64 0) ∧ Lw w' B hp (M + 3) (s.forget t) ∧ HFs B w w' := by
  obtain ⟨m, n, l, d, h1, h2, h3, ⟨p, sp, gp, bV, bT, bH, lp, bD, bN, hh, hs, hb⟩, h5⟩ := h
  obtain ⟨k1, k2⟩ := h5.knob.note (kind := 3) (s := str (be 8 t)) (by rw [str_size, be_len]; decide)
  refine (hAbrt_s B hp sp gp bV bT bH m lp p bD bN n t s l d (-1) (-1) 0 0 w (fun v x s' l' d' m' n' => x = 0 ∧ s' = s.forget t ∧ m' = m ∧ n' = n + 3) hh hs hb hB hmet (fun w1 hs1 hf1 => ?_)).mono ?_
  · refine (abort_yes B sp gp bV bT bH m lp p bD bN n t s l (d.knob (-1) (-1)) w1 hs1 ht h0 hst (by omega) hB h5.sg (hf1.pows hB hpow)).mono ?_
    rintro e w2 ⟨rfl, hs2, hx2⟩
    rw [k1] at hs2 ⊢
    rw [if_pos rfl] at hs2
    exact ⟨0, 0, _, _, _, _, _, ⟨rfl, rfl, rfl, rfl⟩, rfl, hs2, k2, hx2⟩
  · rintro e w' ⟨v, x, s', l', d', m', n', ⟨rfl, rfl, rfl, rfl⟩, rfl, hS, hF⟩
    exact ⟨rfl, ⟨_, _, _, _, by omega, by omega, hS⟩, hF⟩
end
end Go.Proofs.YtkhjhojmhllkaaaGreatDoor
/- THE STATES THAT THE LAWS GO THROUGH. -/
namespace Go.Proofs.YtkhjhojmhllkaaaGreatDoor
open Go.RowKit Go.Maps
open Sc

abbrev kk : ByteArray := ⟨#[107]⟩
abbrev vOld : ByteArray := ⟨#[111, 108, 100]⟩
abbrev vNew : ByteArray := ⟨#[110, 101, 119]⟩
/-- how an operation of the laws grips the key -/
def gW (a : Nat) : AGrip := if a = 0 then ⟨0, ByteArray.empty⟩ else if a = 1 then ⟨1, vNew⟩ else ⟨2, ByteArray.empty⟩
section
variable (vs : List (ByteArray × ByteArray))
theorem opFirst (t a : Nat) (ht : t = 2 ∨ t = 4) (ha : a < 3) : AShard.operate ⟨vs, [], [], 0⟩ t 0 kk (gW a) = (⟨vs, [(t, ⟨1, 1, 0⟩)], [((t, kk), gW a)], 0⟩, 0) := by
  obtain rfl | rfl | rfl : a = 0 ∨ a = 1 ∨ a = 2 := by omega
  all_goals rcases ht with rfl | rfl <;> rfl
theorem opOne : AShard.operate ⟨vs, [], [], 0⟩ 1 0 kk ⟨1, vOld⟩ = (⟨vs, [(1, ⟨1, 1, 0⟩)], [((1, kk), ⟨1, vOld⟩)], 0⟩, 0) := by rfl
theorem opClash (x : ATxn) (hx : x = ⟨1, 1, 0⟩ ∨ x = ⟨3, 0, 0⟩) (a b : Nat) (ha : a < 3) (hb : b < 3) (hab : 0 < a ∨ 0 < b) : AShard.operate ⟨vs, [(2, x)], [((2, kk), gW a)], 0⟩ 3 0 kk (gW b) = (⟨vs, [(3, ⟨2, 0, 0⟩), (2, x)], [((2, kk), gW a)], 0⟩, 3) := by
  obtain rfl | rfl | rfl : a = 0 ∨ a = 1 ∨ a = 2 := by omega
  all_goals obtain rfl | rfl | rfl : b = 0 ∨ b = 1 ∨ b = 2 := by omega
  all_goals first
    | omega
    | (rcases hx with rfl | rfl <;> rfl)
theorem opBoth (x : ATxn) (hx : x = ⟨1, 1, 0⟩ ∨ x = ⟨3, 0, 0⟩) : AShard.operate ⟨vs, [(2, x)], [((2, kk), gW 0)], 0⟩ 3 0 kk (gW 0) = (⟨vs, [(3, ⟨1, 1, 0⟩), (2, x)], [((3, kk), gW 0), ((2, kk), gW 0)], 0⟩, 0) := by
  rcases hx with rfl | rfl <;> rfl
theorem opThird (b : Nat) (hb : b < 3) : AShard.operate ⟨vs, [], [], 0⟩ 3 0 kk (gW b) = (⟨vs, [(3, ⟨1, 1, 0⟩)], [((3, kk), gW b)], 0⟩, 0) := by
  obtain rfl | rfl | rfl : b = 0 ∨ b = 1 ∨ b = 2 := by omega
  all_goals rfl
theorem forgetD (x : ATxn) (hx : x = ⟨1, 1, 0⟩ ∨ x = ⟨3, 0, 0⟩) (g : AGrip) : AShard.forget ⟨vs, [(3, ⟨2, 0, 0⟩), (2, x)], [((2, kk), g)], 0⟩ 3 = ⟨vs, [(2, x)], [((2, kk), g)], 0⟩ := by rcases hx with rfl | rfl <;> rfl
theorem forgetB (x : ATxn) (hx : x = ⟨1, 1, 0⟩ ∨ x = ⟨3, 0, 0⟩) (g h : AGrip) : AShard.forget ⟨vs, [(3, ⟨1, 1, 0⟩), (2, x)], [((3, kk), g), ((2, kk), h)], 0⟩ 3 = ⟨vs, [(2, x)], [((2, kk), h)], 0⟩ := by rcases hx with rfl | rfl <;> rfl
theorem forgetT (t : Nat) (x : ATxn) (g : AGrip) : AShard.forget ⟨vs, [(t, x)], [((t, kk), g)], 0⟩ t = ⟨vs, [], [], 0⟩ := by simp [AShard.forget, AShard.release, alDel, aliveH, AShard.txn, alLook]
theorem forgetN (t : Nat) : AShard.forget ⟨vs, [], [], 0⟩ t = ⟨vs, [], [], 0⟩ := by rfl
theorem commT {t : Nat} {x : ATxn} {g : AGrip} {s' : AShard} (h : Committed ⟨vs, [(t, x)], [((t, kk), g)], 0⟩ s' t) : ∃ vs', s' = ⟨vs', [], [], 0⟩ ∧ alLook vs' kk = gripped (some g) (alLook vs kk) := by
  obtain ⟨vs', rfl, h2⟩ := h
  refine ⟨vs', forgetT vs' t x g, ?_⟩
  rw [h2]
  simp [alLook]
theorem one_list {k : ByteArray} {g : AGrip} {t : Nat} {L : List (ByteArray × AGrip)} (h1 : Once1 L) (h2 : ∀ q, alLook L q = alLook [((t, k), g)] (t, q)) : L = [(k, g)] := by
  have key : ∀ p ∈ L, p = (k, g) := fun p hp => by
    have := alLook_of h1 (k := p.1) (v := p.2) hp
    rw [h2] at this
    simp [alLook, List.find?] at this
    by_cases e : k = p.1
    · simp [e] at this; exact Prod.ext e.symm this.symm
    · simp [e] at this
  have hne : L ≠ [] := by
    intro e
    have := h2 k
    rw [e] at this
    simp [alLook] at this
  match L, h1, key, hne with
  | [], _, _, hne => exact absurd rfl hne
  | [x], _, key, _ => rw [key x (by simp)]
  | x :: y :: r, h1, key, _ =>
    have e1 := key x (by simp)
    have e2 := key y (by simp)
    have := (List.pairwise_cons.1 h1).1 y (by simp)
    rw [e1, e2] at this
    exact absurd rfl this
/-- the entries that the laws note -/
def eP1 : Rec := ⟨1, 1, be 8 1 ++ holdsB [(kk, ⟨1, vOld⟩)]⟩
def eC1 : Rec := ⟨2, 2, be 8 1⟩
def eP2 (a : Nat) : Rec := ⟨3, 1, be 8 2 ++ holdsB [(kk, gW a)]⟩
def eC2 : Rec := ⟨4, 2, be 8 2⟩
def fullE (a : Nat) : List Rec := [eP1, eC1, eP2 a, eC2]
theorem byt_app {a b : List Nat} (ha : Byt a) (hb : Byt b) : Byt (a ++ b) := fun x hx => by rcases List.mem_append.1 hx with h | h; exact ha x h; exact hb x h
theorem bytG (a : Nat) (ha : a < 3) : Byt (holdsB [(kk, gW a)]) ∧ (holdsB [(kk, gW a)]).length ≤ 10 := by
  obtain rfl | rfl | rfl : a = 0 ∨ a = 1 ∨ a = 2 := by omega
  all_goals exact ⟨by unfold Byt; decide, by decide⟩
theorem bytO : Byt (holdsB [(kk, ⟨1, vOld⟩)]) ∧ (holdsB [(kk, ⟨1, vOld⟩)]).length ≤ 10 := ⟨by unfold Byt; decide, by decide⟩
theorem fullFine (a : Nat) (ha : a < 3) : FineR (fullE a) := by
  intro k r hk
  have hl : k < 4 := by have := (List.getElem?_eq_some_iff.1 hk).1; simpa [fullE] using this
  have b1 := bytO
  have b2 := bytG a ha
  obtain rfl | rfl | rfl | rfl : k = 0 ∨ k = 1 ∨ k = 2 ∨ k = 3 := by omega
  all_goals simp [fullE] at hk; subst hk
  · exact ⟨rfl, by decide, by simp only [eP1, List.length_append, be_len]; omega, byt_app (be_byt0 _ _) b1.1, by decide⟩
  · exact ⟨rfl, by decide, by simp only [eC1, be_len]; omega, be_byt0 _ _, by decide⟩
  · exact ⟨rfl, by show 1 < 256; decide, by simp only [eP2, List.length_append, be_len]; omega, byt_app (be_byt0 _ _) b2.1, by show 3 < 18446744073709551616; decide⟩
  · exact ⟨rfl, by decide, by simp only [eC2, be_len]; omega, be_byt0 _ _, by decide⟩
theorem fullFew (a : Nat) (ha : a < 3) : (encR (fullE a)).length < 600 := by
  have b1 := bytO.2
  have b2 := (bytG a ha).2
  rw [encR_len]
  simp only [fullE, bytesR0, eP1, eC1, eP2, eC2, List.length_append, be_len]
  omega
theorem pre_fine {rs ss : List Rec} (h : rs <+: ss) (hf : FineR ss) : FineR rs := by
  obtain ⟨r, rfl⟩ := h
  intro k x hk
  exact hf k x (by rw [List.getElem?_append_left (List.getElem?_eq_some_iff.1 hk).1]; exact hk)
theorem pre_few {rs ss : List Rec} (h : rs <+: ss) (hf : (encR ss).length < 600) : (encR rs).length < 600 := by
  obtain ⟨r, rfl⟩ := h
  simp [encR] at hf ⊢
  omega
/-- what stands behind so many of the entries -/
def Jr (a : Nat) (pre : List Rec) (s : AShard) : Prop := match pre.length with
  | 0 => s = sh0
  | 1 => s = ⟨[], [(1, ⟨3, 0, 0⟩)], [((1, kk), ⟨1, vOld⟩)], 0⟩
  | 2 => ∃ vs, s = ⟨vs, [], [], 0⟩ ∧ alLook vs kk = some vOld
  | 3 => ∃ vs, s = ⟨vs, [(2, ⟨3, 0, 0⟩)], [((2, kk), gW a)], 0⟩ ∧ alLook vs kk = some vOld
  | _ => ∃ vs, s = ⟨vs, [], [], 0⟩ ∧ alLook vs kk = gripped (some (gW a)) (some vOld)
theorem notedE (a : Nat) (h1 : 1 ≤ a) (ha : a < 3) {rs : List Rec} (h : rs <+: fullE a) : Noted (Jr a) rs := by
  refine ⟨fun r hr => ?_, ?_, rfl, fun pre x s' hp hJ => ?_⟩
  · have := h.subset hr
    simp [fullE] at this
    rcases this with rfl | rfl | rfl | rfl
    · decide
    · decide
    · show 1 < 128; decide
    · decide
  · have := h.length_le; simp [fullE] at this; omega
  · have hp' := hp.trans h
    have hg : ∀ (m : Nat) (vs : List (ByteArray × ByteArray)) (T : List (Nat × ATxn)) (k : Nat), AShard.Small ⟨vs, T, [((k, kk), gW a)], m⟩ := by
      intro m vs T k p hp
      simp at hp
      subst hp
      obtain rfl | rfl : a = 1 ∨ a = 2 := by omega
      · exact show SmallH (kk, gW 1) from ⟨by decide, by decide, by decide⟩
      · exact show SmallH (kk, gW 2) from ⟨by decide, by decide, by decide⟩
    match pre, hp', hJ with
    | [], hp', hJ =>
      simp [fullE] at hp'
      subst hp'
      have hJ : s' = sh0 := hJ
      subst hJ
      exact .prep 1 1 [(kk, ⟨1, vOld⟩)] (by decide) (by decide) rfl (by intro x hx; simp at hx; subst hx; exact ⟨⟨by decide, by decide, by decide⟩, by decide⟩) (by decide) rfl
    | [y], hp', hJ =>
      simp [fullE] at hp'
      obtain ⟨rfl, rfl⟩ := hp'
      have hJ : s' = ⟨[], [(1, ⟨3, 0, 0⟩)], [((1, kk), ⟨1, vOld⟩)], 0⟩ := hJ
      subst hJ
      exact .comm 2 1 (by decide) rfl (by decide) (by intro p hp; simp at hp; subst hp; exact ⟨by decide, by decide, by decide⟩) (fun s' hc => commT [] hc)
    | [y, z], hp', hJ =>
      simp [fullE] at hp'
      obtain ⟨rfl, rfl, rfl⟩ := hp'
      have hJ : ∃ vs, s' = ⟨vs, [], [], 0⟩ ∧ alLook vs kk = some vOld := hJ
      obtain ⟨vs, rfl, hv⟩ := hJ
      refine .prep 3 2 [(kk, gW a)] (by decide) (by decide) rfl ?_ (by simp) ⟨vs, ?_, hv⟩
      · intro x hx; simp at hx; subst hx
        obtain rfl | rfl : a = 1 ∨ a = 2 := by omega
        all_goals exact ⟨⟨by decide, by decide, by decide⟩, by decide⟩
      · obtain rfl | rfl : a = 1 ∨ a = 2 := by omega
        all_goals rfl
    | [y, z, u], hp', hJ =>
      simp [fullE] at hp'
      obtain ⟨rfl, rfl, rfl, rfl⟩ := hp'
      have hJ : ∃ vs, s' = ⟨vs, [(2, ⟨3, 0, 0⟩)], [((2, kk), gW a)], 0⟩ ∧ alLook vs kk = some vOld := hJ
      obtain ⟨vs, rfl, hv⟩ := hJ
      refine .comm 4 2 (by decide) rfl (by simp [AShard.count]) (hg _ _ _ _) (fun s' hc => ?_)
      obtain ⟨vs', e1, e2⟩ := commT vs hc
      rw [hv] at e2
      exact ⟨vs', e1, e2⟩
    | y :: z :: u :: v :: r, hp', hJ => have := hp'.length_le; simp [fullE] at this
end
end Go.Proofs.YtkhjhojmhllkaaaGreatDoor
/- THE LAWS' HELPERS: pick, does, shard, Well. -/
namespace Go.Proofs.YtkhjhojmhllkaaaGreatDoor
open Go.RowKit Go.Maps
open Sc

/-- what pick answers -/
def pk (c : Int) (n : Nat) : Nat := ((if c < 0 then -(c + 1) else c) % (n : Int)).toNat
theorem ret_int' {a b : Int} (h : a = b) : Ending.returned (.int .i64 a) = .returned (.int .i64 b) := by rw [h]
theorem pk_lt (c : Int) (n : Nat) (hn : 0 < n) : pk c n < n := by
  unfold pk
  have h1 := Int.emod_nonneg (if c < 0 then -(c + 1) else c) (show (n : Int) ≠ 0 by omega)
  have h2 := Int.emod_lt_of_pos (if c < 0 then -(c + 1) else c) (show (0 : Int) < (n : Int) by omega)
  omega
set_option maxHeartbeats 400000 in
theorem pick_fn (c : Int) (n : Nat) (w : World) (hc1 : -9223372036854775808 ≤ c) (hc2 : c ≤ 9223372036854775807) (hn : 0 < n) (hn2 : n ≤ 1099511627776) :
    Calls Tryz.prog 12 #[.int .i64 c, .int .i64 (n : Int)] w fun e w' => e = .returned (.int .i64 (pk c n : Int)) ∧ w' = w := by
  have hn0 : ¬ (n : Int) = 0 := by omega
  by_cases h : c < 0
  · go_enter Tryz.func12, Tryz.ntmps12
    go_wp2
    go_ret
    have e : -(c + 1).tmod (n : Int) = (-(c + 1)) % (n : Int) := by
      rw [← Int.neg_tmod, Int.tmod_eq_emod_of_nonneg (by omega)]
    have h1 := Int.emod_nonneg (-(c + 1)) hn0
    refine ⟨ret_int' ?_, rfl⟩
    unfold pk
    rw [e, if_pos h]; omega
  · go_enter Tryz.func12, Tryz.ntmps12
    go_wp2
    go_ret
    have h1 := Int.emod_nonneg c hn0
    refine ⟨ret_int' ?_, rfl⟩
    unfold pk
    rw [if_neg (by omega)]; omega
section
variable (B hp M t : Nat) (s : AShard) (rs : List Rec) (w : World)
theorem get_state (s : AShard) (t : Nat) : (s.get t 0 kk).1 = (s.operate t 0 kk ⟨0, ByteArray.empty⟩).1 ∧ (s.get t 0 kk).2.2.2 = (s.operate t 0 kk ⟨0, ByteArray.empty⟩).2 := by
  unfold AShard.get
  by_cases h : (s.operate t 0 kk ⟨0, ByteArray.empty⟩).2 = 0
  · rw [if_pos h]
    split <;> exact ⟨rfl, h.symm⟩
  · rw [if_neg h]
    exact ⟨rfl, rfl⟩
/-- does, of a shard of which P is known -/
theorem does_gen (a : Nat) (ha : a < 3) (P : AShard → World → Prop) 
    (hG : Calls Tryz.prog 19 #[.pointer (some ⟨hp, 0, none⟩), .int .u64 (t : Int), .int .i64 0, .string kk] w fun e w' => e = .returned (.tuple #[.string (s.get t 0 kk).2.1, .bool (s.get t 0 kk).2.2.1, .int .i64 ((s.get t 0 kk).2.2.2 : Int)]) ∧ P (s.get t 0 kk).1 w')
    (hP : Calls Tryz.prog 32 #[.pointer (some ⟨hp, 0, none⟩), .int .u64 (t : Int), .int .i64 0, .string kk, .string vNew] w fun e w' => e = .returned (.int .i64 ((s.operate t 0 kk ⟨1, vNew⟩).2 : Int)) ∧ P (s.operate t 0 kk ⟨1, vNew⟩).1 w')
    (hD : Calls Tryz.prog 33 #[.pointer (some ⟨hp, 0, none⟩), .int .u64 (t : Int), .int .i64 0, .string kk] w fun e w' => e = .returned (.int .i64 ((s.operate t 0 kk ⟨2, ByteArray.empty⟩).2 : Int)) ∧ P (s.operate t 0 kk ⟨2, ByteArray.empty⟩).1 w') :
    Calls Tryz.prog 13 #[.pointer (some ⟨hp, 0, none⟩), .int .u64 (t : Int), .int .i64 0, .int .i64 (a : Int)] w fun e w' => e = .returned (.int .i64 ((s.operate t 0 kk (gW a)).2 : Int)) ∧ P (s.operate t 0 kk (gW a)).1 w' := by
  obtain rfl | rfl | rfl : a = 0 ∨ a = 1 ∨ a = 2 := by omega
  · clear hP hD
    rw [(get_state s t).1, (get_state s t).2] at hG
    go_enter Tryz.func13, Tryz.ntmps13
    go_wp2_with fail
    refine hG.mono ?_
    clear hG
    rintro e w1 ⟨rfl, hp⟩
    have H1 := toHid hp
    clear hp
    go_wp2
    go_ret
    exact ⟨rfl, H1.out⟩
  · clear hG hD
    go_enter Tryz.func13, Tryz.ntmps13
    go_wp2_with fail
    refine hP.mono ?_
    clear hP
    rintro e w1 ⟨rfl, hp⟩
    have H1 := toHid hp
    clear hp
    go_wp2
    go_ret
    exact ⟨rfl, H1.out⟩
  · clear hG hP
    go_enter Tryz.func13, Tryz.ntmps13
    go_wp2_with fail
    refine hD.mono ?_
    clear hD
    rintro e w1 ⟨rfl, hp⟩
    have H1 := toHid hp
    clear hp
    go_wp2
    go_ret
    exact ⟨rfl, H1.out⟩
theorem does_v (a : Nat) (ha : a < 3) (h : Lv w B hp M s rs) (hB : 2 ≤ B) (hmet : Met w) (ht : t < 18446744073709551616) (hM : M ≤ 1000) (hst : (s.txn t).state ≤ 3) (hdn : (s.txn t).done < 4611686018427387904) :
    Calls Tryz.prog 13 #[.pointer (some ⟨hp, 0, none⟩), .int .u64 (t : Int), .int .i64 0, .int .i64 (a : Int)] w fun e w' => e = .returned (.int .i64 ((s.operate t 0 kk (gW a)).2 : Int)) ∧ Lv w' B hp (M + 3) (s.operate t 0 kk (gW a)).1 rs ∧ HFs B w w' :=
  does_gen hp t s w a ha (fun s' w' => Lv w' B hp (M + 3) s' rs ∧ HFs B w w') (lvGet B hp M t kk s rs w h hB hmet ht (by decide) hM hst hdn 0) (lvPut B hp M t kk s rs w vNew h hB hmet ht hM hst hdn 0) (lvDelete B hp M t kk s rs w h hB hmet ht hM hst hdn 0)
theorem does_w (a : Nat) (ha : a < 3) (h : Lw w B hp M s) (hB : 2 ≤ B) (hmet : Met w) (ht : t < 18446744073709551616) (hM : M ≤ 1000) (hst : (s.txn t).state ≤ 3) (hdn : (s.txn t).done < 4611686018427387904) :
    Calls Tryz.prog 13 #[.pointer (some ⟨hp, 0, none⟩), .int .u64 (t : Int), .int .i64 0, .int .i64 (a : Int)] w fun e w' => e = .returned (.int .i64 ((s.operate t 0 kk (gW a)).2 : Int)) ∧ Lw w' B hp (M + 3) (s.operate t 0 kk (gW a)).1 ∧ HFs B w w' :=
  does_gen hp t s w a ha (fun s' w' => Lw w' B hp (M + 3) s' ∧ HFs B w w') (lwGet B hp M t kk s w h hB hmet ht (by decide) hM hst hdn 0) (lwPut B hp M t kk s w vNew h hB hmet ht hM hst hdn 0) (lwDelete B hp M t kk s w h hB hmet ht hM hst hdn 0)
end
set_option maxHeartbeats 1000000 in
theorem well_fn (w : World) : Calls Tryz.prog 11 #[] w fun e w' => e = .returned wellV ∧ Fr [] w w' := by
  go_enter Tryz.func11, Tryz.ntmps11
  go_wp2
  exact bodyPost_ret (v := wellV) (by simp [results, Tryz.results11, go_sem]) rfl ⟨rfl, (Fr.refl [] w).alloc _⟩
theorem fall_cells {w : World} {q : Nat} (h : w.heap[q]? = some (fallO (-1) (-1) 0 0)) : w.cell? ⟨q, 0, none⟩ = some (.int .i64 (-1)) ∧ w.cell? ⟨q, 1, none⟩ = some (.int .i64 (-1)) ∧ w.cell? ⟨q, 2, none⟩ = some (.int .i64 0) ∧ w.cell? ⟨q, 3, none⟩ = some (.int .i64 0) := by
  have x0 := blk_cell h 0
  have x1 := blk_cell h 1
  have x2 := blk_cell h 2
  have x3 := blk_cell h 3
  simp at x0 x1 x2 x3
  exact ⟨x0, x1, x2, x3⟩
theorem Lv.new {w w' : World} {B hp M : Nat} {s : AShard} {rs : List Rec} (h : Lv w B hp M s rs) (hf : Fr [] w w') : Lv w' B hp M s rs ∧ HFs B w w' := by
  obtain ⟨m, n, l, d, h1, h2, h3, h4, h5⟩ := h
  obtain ⟨a, b⟩ := h4.new hf
  exact ⟨⟨m, n, l, d, h1, h2, h3, a, h5⟩, b⟩
theorem HFs.ofBelow {w w' : World} (h : Below w.heap.size w w') : HFs w.heap.size w w' := ⟨h, fun k _ _ _ _ hk => (h.block k (Array.getElem?_eq_some_iff.1 hk).1).trans hk⟩
theorem small1 (vs : List (ByteArray × ByteArray)) (T : List (Nat × ATxn)) (t : Nat) (g : AGrip) (hg : g.val.size ≤ 32 ∧ g.way < 256) : AShard.Small ⟨vs, T, [((t, kk), g)], 0⟩ := by
  intro p hp
  simp at hp
  subst hp
  exact show SmallH (kk, g) from ⟨show kk.size ≤ 16 by decide, hg.1, hg.2⟩
set_option maxRecDepth 100000 in
set_option maxHeartbeats 4000000 in
theorem shard_fn (w : World) (hmet : Met w) (hpow : Pows w) (hB : 2 ≤ w.heap.size) :
    Calls Tryz.prog 10 #[] w fun e w' => ∃ hp vs, e = .returned (.pointer (some ⟨hp, 0, none⟩)) ∧ w.heap.size ≤ hp ∧ Lv w' w.heap.size hp 100 ⟨vs, [], [], 0⟩ [eP1, eC1] ∧ alLook vs kk = some vOld ∧ HFs w.heap.size w w' := by
  go_enter Tryz.func10, Tryz.ntmps10
  go_wp2_with fail
  refine (newHost_s w 10 (by decide)).mono ?_
  rintro e w1 ⟨hp, p, bD, bN, rfl, hh1, hd1, hhp, hb1⟩
  have H1 := toHid (show w1.heap[hp]? = some (hostS p false (.pointer none)) ∧ DiskIn w1 w.heap.size p bD bN (.slice none 0 0) ⟨fun _ => none, fun _ => none, [], -1, -1, false⟩ 10 0 0 ∧ Below w.heap.size w w1 from ⟨hh1, hd1, hb1⟩)
  clear hh1 hd1 hb1
  go_wp2_with fail
  refine (well_fn w1).mono ?_
  rintro e w2 ⟨rfl, hf2⟩
  obtain ⟨W, hW⟩ : ∃ W, W = w2.alloc (fallO (-1) (-1) 0 0) := ⟨_, rfl⟩
  have hfW : Fr [] w1 W := by rw [hW]; exact hf2.alloc _
  have hx : W.heap[w2.heap.size]? = some (fallO (-1) (-1) 0 0) := by rw [hW]; exact heap_alloc_new w2 _
  obtain ⟨x0, x1, x2, x3⟩ := fall_cells hx
  have hh := (hfW.block hp (Array.getElem?_eq_some_iff.1 H1.out.1).1 (by simp)).trans H1.out.1
  have hd := H1.out.2.1.new hfW
  have hbW : Below w.heap.size w W := H1.out.2.2.trans (hfW.below H1.out.2.1.base.2.2.2 (by simp))
  have hmW : Met W := hmet.below hbW (by omega)
  have hpW : Pows W := hpow.of_block (hbW.block 1 (by omega))
  have hop := lvOpen0 hp p bD bN w.heap.size W hh hd hB hhp hmW
  have HW := toHid (show W.heap[w2.heap.size]? = some (fallO (-1) (-1) 0 0) ∧ Below w.heap.size w W from ⟨hx, hbW⟩)
  rw [hW] at x0 x1 x2 x3
  clear hf2 hfW hx hh hd hbW
  go_wp2_with fail
  have hW' : W = w2.alloc (.cells #[.int .i64 (-1), .int .i64 (-1), .int .i64 0, .int .i64 0] 28) := hW
  rw [← hW']
  refine hop.mono ?_
  clear hop hW hW' x0 x1 x2 x3
  rintro e w3 ⟨rfl, hl3, hf3⟩
  have hm3 := hf3.met hB hmW
  have hp3 := hf3.pows hB hpW
  have hx3 := hf3.fall _ _ _ _ _ HW.out.1
  have hpu := lvPut w.heap.size hp 0 1 kk sh0 [] w3 vOld hl3 hB hm3 (by decide) (by decide) (by decide) (by decide) 0
  rw [opOne] at hpu
  have H3 := toHid (show w3.heap[w2.heap.size]? = some (fallO (-1) (-1) 0 0) ∧ HFs w.heap.size W w3 from ⟨hx3, hf3⟩)
  clear hl3 hf3 hx3
  go_wp2_with fail
  refine hpu.mono ?_
  clear hpu
  rintro e w4 ⟨rfl, hl4, hf4⟩
  have hm4 := hf4.met hB hm3
  have hp4 := hf4.pows hB hp3
  have hx4 := hf4.fall _ _ _ _ _ H3.out.1
  obtain ⟨x0, x1, x2, x3⟩ := fall_cells hx4
  have hpr := lvPrepW w.heap.size hp 3 1 kk ⟨[], [(1, ⟨1, 1, 0⟩)], [((1, kk), ⟨1, vOld⟩)], 0⟩ [] w4 ⟨1, vOld⟩ hl4 hB hm4 hp4 (by decide) (by decide) (by decide) rfl (by decide) (small1 _ _ _ _ ⟨by decide, by decide⟩) (fun L h1 h2 => one_list h1 h2) rfl (byt_app (be_byt0 _ _) bytO.1) (by have := bytO.2; simp only [List.length_append, be_len]; omega) (pre_few (show [eP1] <+: fullE 1 from ⟨_, rfl⟩) (fullFew 1 (by decide))) (pre_fine (show [eP1] <+: fullE 1 from ⟨_, rfl⟩) (fullFine 1 (by decide)))
  have H4 := toHid (show w4.heap[w2.heap.size]? = some (fallO (-1) (-1) 0 0) ∧ HFs w.heap.size W w4 from ⟨hx4, H3.out.2.trans hf4⟩)
  clear hl4 hf4 hx4
  go_wp2_with fail
  refine hpr.mono ?_
  clear hpr x0 x1 x2 x3
  rintro e w5 ⟨rfl, hl5, hf5⟩
  have hm5 := hf5.met hB hm4
  have hp5 := hf5.pows hB hp4
  have hx5 := hf5.fall _ _ _ _ _ H4.out.1
  obtain ⟨x0, x1, x2, x3⟩ := fall_cells hx5
  have hco := lvComm w.heap.size hp 6 1 ⟨[], [(1, ⟨3, 0, 0⟩)], [((1, kk), ⟨1, vOld⟩)], 0⟩ [eP1] w5 hl5 hB hm5 hp5 (by decide) (by decide) (by decide) rfl (by decide) (by intro p hp; simp at hp; subst hp; exact show vOld.size ≤ maxLen by decide) (pre_few (show [eP1, eC1] <+: fullE 1 from ⟨_, rfl⟩) (fullFew 1 (by decide))) (pre_fine (show [eP1, eC1] <+: fullE 1 from ⟨_, rfl⟩) (fullFine 1 (by decide)))
  have H5 := toHid (show w5.heap[w2.heap.size]? = some (fallO (-1) (-1) 0 0) ∧ HFs w.heap.size W w5 from ⟨hx5, H4.out.2.trans hf5⟩)
  clear hl5 hf5 hx5
  go_wp2_with fail
  refine hco.mono ?_
  clear hco x0 x1 x2 x3
  rintro e w6 ⟨rfl, ⟨s', hcm, hl6⟩, hf6⟩
  obtain ⟨vs, rfl, hvs⟩ := commT [] hcm
  have hvs' : alLook vs kk = some vOld := hvs
  have hva := lvValue w.heap.size hp (6 + 20) kk ⟨vs, [], [], 0⟩ _ w6 hl6 (by decide)
  rw [show (AShard.mk vs [] [] 0).vals = vs from rfl, hvs'] at hva
  have H6 := toHid (show HFs w.heap.size W w6 ∧ alLook vs kk = some vOld from ⟨H5.out.2.trans hf6, hvs'⟩)
  clear hl6 hf6 hvs hvs' hcm
  go_wp2_with fail
  refine hva.mono ?_
  clear hva
  rintro e w7 ⟨rfl, hl7, hf7⟩
  have H7 := toHid (show Lv w7 w.heap.size hp 100 ⟨vs, [], [], 0⟩ [eP1, eC1] ∧ alLook vs kk = some vOld ∧ HFs w.heap.size W w7 from ⟨by obtain ⟨m, n, l, d, h1, h2, h3, h4, h5⟩ := hl7; exact ⟨m, n, l, d, by omega, h2, by omega, h4, h5⟩, H6.out.2, H6.out.1.trans hf7⟩)
  clear hl7 hf7
  go_wp2
  go_ret
  exact ⟨hp, vs, rfl, hhp, H7.out.1, H7.out.2.1, (HFs.ofBelow HW.out.2).trans H7.out.2.2⟩
end Go.Proofs.YtkhjhojmhllkaaaGreatDoor
