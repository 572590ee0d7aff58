import Derived.Test.YtejiankgafjppabGreatDoorC42
/- A COORDINATOR AS Presumed USES IT: each call's contract. -/
namespace Go.Proofs.YtejiankgafjppabGreatDoor
open Go.RowKit Go.Shelf Go.Maps
open Sc

/-- what Note says -/
theorem One.noteC {l : ALog} {d : ADisk} {rs : List Rec} (h : One l d rs) {kind : Nat} {s : ByteArray} (hs : s.size ≤ 255) : (l.note d kind s).2.2 = 0 ∧ (l.note d kind s).2.1.down = false := by
  have hnx := h.next
  have hw := h.well
  obtain ⟨o, ho⟩ : ∃ o : AOp, o = ⟨2, segName 1, ByteArray.empty, str (recBytes l.next kind (bytesOf s))⟩ := ⟨_, rfl⟩
  -- what the room gives
  obtain ⟨d1, hd1, w1, e1, p1⟩ : ∃ d1 : ADisk, l.room d = ({ l with segs := [1], filled := (encR rs).length, durable := l.durable }, d1, 0) ∧ d1.Well 1 ∧ d1.now = d.now ∧ d1.pending = [] ∧ d1.durable = d.durable := by
    rcases h.file with ⟨r0, sg, fi, _⟩ | ⟨_, sg, fi, _⟩
    · refine ⟨{ d with left := d.left - 1, full := d.full - 1 }, ?_, well_dec hw _ _ _, rfl, h.pen, rfl⟩
      unfold ALog.room
      have es : l.sync d = ({ l with durable := l.next }, { d with left := d.left - 1, full := d.full - 1, durable := d.pending.foldl doOp d.durable, pending := [] }, 0) := by
        unfold ALog.sync; rw [syncE hw (by omega)]; rfl
      rw [if_neg (by omega), es]
      simp only [if_true]
      rw [h.pen, sg, hnx, h.durN, hnx, r0]
      have : d.pending = [] := h.pen
      obtain ⟨a, b, c, e, f, g⟩ := d
      simp at this
      subst this
      rfl
    · refine ⟨d, ?_, hw.mono (by omega), rfl, h.pen, rfl⟩
      unfold ALog.room
      rw [if_pos (by rw [fi]; exact h.few)]
      obtain ⟨a, b, c, e, f, g⟩ := l
      simp at sg fi
      subst sg fi
      rfl
  obtain ⟨d2, hd2⟩ : ∃ d2 : ADisk, d2 = { d1 with left := d1.left - 1, full := d1.full - 1, now := doOp d1.now o, pending := d1.pending ++ [o] } := ⟨_, rfl⟩
  have w2 : d2.Well 2 := by rw [hd2]; exact well_dec w1 _ _ _
  have hput : l.put d (recBytes l.next kind (bytesOf s)) = ({ l with segs := [1], filled := (encR rs).length, durable := l.durable }, d2, 0) := by
    unfold ALog.put
    rw [hd1]
    simp only [if_true, List.getLastD_cons, List.getLastD_nil]
    rw [tellE w1 (by omega) rfl]
    rw [hd2, ho]
  have hwr : l.wr d (l.put d (recBytes l.next kind (bytesOf s))) = ({ l with segs := [1], filled := (encR rs).length, durable := l.durable, failed := 0 }, d2, 0) := by
    unfold ALog.wr
    rw [if_pos h.failed, hput]
  have hap : l.note d kind s = ({ l with segs := [1], filled := (encR rs).length + (15 + s.size), durable := l.durable, failed := 0, recs := rs ++ [⟨1 + rs.length, kind, bytesOf s⟩], next := l.next + 1 }, d2, 0) := by
    unfold ALog.note ALog.append
    rw [if_neg (by omega), hwr]
    simp only [if_true, h.recs, hnx]
  rw [hap]
  exact ⟨rfl, w2.up⟩
/-- an open coordinator, all durable -/
def Pv (w : World) (B hp M : Nat) (c : ACo) (rs : List Rec) : Prop := ∃ m n l d, m ≤ M ∧ 10 ≤ n ∧ n ≤ 10 + M ∧ HCt w B hp m n c l d ∧ One l d rs
/-- an open coordinator -/
def Pw (w : World) (B hp M : Nat) (c : ACo) : Prop := ∃ m n l d, m ≤ M ∧ n ≤ 10 + M ∧ HCt w B hp m n c l d
/-- one that is not open -/
def Pc (w : World) (B hp M : Nat) (rs : List Rec) : Prop := ∃ n d, 10 ≤ n ∧ n ≤ 10 + M ∧ HCc w B hp n d ∧ OneD d rs
theorem Pv.w {w : World} {B hp M : Nat} {c : ACo} {rs : List Rec} (h : Pv w B hp M c rs) : Pw w B hp M c := by obtain ⟨m, n, l, d, h1, h2, h3, h4, _⟩ := h; exact ⟨m, n, l, d, h1, h3, h4⟩
theorem Pv.mono {w : World} {B hp M M' : Nat} {c : ACo} {rs : List Rec} (h : Pv w B hp M c rs) (hM : M ≤ M') : Pv w B hp M' c rs := by
  obtain ⟨m, n, l, d, h1, h2, h3, h4, h5⟩ := h
  exact ⟨m, n, l, d, by omega, h2, by omega, h4, h5⟩
theorem Pv.new {w w' : World} {B hp M : Nat} {c : ACo} {rs : List Rec} (h : Pv w B hp M c rs) (hf : Fr [] w w') : Pv w' B hp M c rs ∧ IFr B w w' := by
  obtain ⟨m, n, l, d, h1, h2, h3, h4, h5⟩ := h
  obtain ⟨a, b⟩ := h4.new hf
  exact ⟨⟨m, n, l, d, h1, h2, h3, a, h5⟩, b⟩
abbrev wellC : Value := fallV (-1) (-1) 0 0
theorem coPre_none {B p bD bN n nD : Nat} {pv : Value} {d : ADisk} {w : World} (ys : List Nat) (hd : DiskIn w B p bD bN pv d n nD 0) (hno : ∀ k, d.now k = none) (hdu : d.durable = d.now) (hpe : d.pending = []) (hw : d.Well 0) : CoPre ys B p bD bN n ((log0 1).opens d) w := by
  obtain ⟨o1, o2, o3, o4, o5⟩ := One.first hno hdu hpe hw
  refine { disk := ⟨_, _, _, _, hd⟩, jop := fun W hW => jopen_empty B p bD bN n nD pv d W (hd.new hW) hw.up (hno _) o1, plain := ?_, first := ?_, byt := ?_, ents := ?_, num := hd.hn }
  · rw [o3]; intro r hr; cases hr
  · rw [o3, o4]; rfl
  · rw [o3]; intro r hr; cases hr
  · rw [o3]; exact .none
theorem coPre_one {B p bD bN n nD nN : Nat} {pv : Value} {d : ADisk} {rs : List Rec} {w : World} (ys : List Nat) (hd : DiskIn w B p bD bN pv d n nD nN) (hB : 2 ≤ B) (h : OneD d rs) (hN : Ents ys rs) (hk : ∀ r ∈ rs, r.kind < 128) (hpow : Pows w) (hn : 10 ≤ n) : CoPre ys B p bD bN n ((logR rs (1 + rs.length)).opens d) w := by
  obtain ⟨o1, o2, o3, o4, o5⟩ := One.opened h
  have hl := hN.len
  refine { disk := ⟨_, _, _, _, hd⟩, jop := fun W hW => ?_, plain := ?_, first := ?_, byt := ?_, ents := ?_, num := hd.hn }
  · exact jopen_one B p bD bN n nD nN pv d rs W (hd.new hW) hB h.well.up h.fine h.ne h.sole (hpow.of_block (hW.block 1 (by have := hd.base.2.2.2; omega) (by simp))) (by omega) (by omega) (by have := h.few; omega) o1
  · rw [o3]; intro r hr
    obtain ⟨k, hk'⟩ := List.mem_iff_getElem?.1 hr
    exact ⟨hk r hr, by have := (h.fine k r hk').1; omega⟩
  · rw [o3]
    cases rs with
    | nil => exact absurd rfl h.ne
    | cons r rs => exact (h.fine 0 r rfl).1
  · rw [o3]; intro r hr
    obtain ⟨k, hk'⟩ := List.mem_iff_getElem?.1 hr
    have := h.fine k r hk'
    exact ⟨this.2.2.2.1, by omega⟩
  · rw [o3]; exact hN
section
variable (B hp M t : Nat) (c : ACo) (rs : List Rec) (w : World)
theorem pvOpen0 (hp p bD bN B : Nat) (w : World) (hh : w.heap[hp]? = some (hostC p false (.pointer none))) (h : DiskIn w B p bD bN (.slice none 0 0) ⟨fun _ => none, fun _ => none, [], -1, -1, false⟩ 10 0 0) (hB : 2 ≤ B) (hhp : B ≤ hp) (hmet : Met w) :
    Calls Tryz.prog 18 #[.pointer (some ⟨hp, 0, none⟩), wellC] w fun e w' => e = .returned (.int .i64 0) ∧ Pv w' B hp 0 ⟨[], 1, 1, 0⟩ [] ∧ IFr B w w' := by
  have hw : ADisk.Well ⟨fun _ => none, fun _ => none, [], -1, -1, false⟩ 0 := ⟨rfl, by decide, by decide⟩
  obtain ⟨o1, o2, o3, o4, o5⟩ := One.first (d := ⟨fun _ => none, fun _ => none, [], -1, -1, false⟩) (fun _ => rfl) rfl rfl hw
  refine (hOpen_c B hp p bD bN 10 0 0 _ _ (-1) (-1) 0 0 [] ((log0 1).opens ⟨fun _ => none, fun _ => none, [], -1, -1, false⟩) w hh h hB hhp hmet (fun W hW _ => coPre_none [] hW (fun _ => rfl) rfl rfl hw) o2).mono ?_
  rintro e w' ⟨rfl, hs, hf⟩
  rw [o3] at hs
  exact ⟨rfl, ⟨_, 10, _, _, Nat.le_refl _, Nat.le_refl _, Nat.le_refl _, hs, o5⟩, hf⟩
theorem pvOpen1 (ys : List Nat) (hM : M ≤ 1000) (h : Pc w B hp M rs) (hB : 2 ≤ B) (hhp : B ≤ hp) (hmet : Met w) (hpow : Pows w) (hN : Ents ys rs) (hk : ∀ r ∈ rs, r.kind < 128) :
    Calls Tryz.prog 18 #[.pointer (some ⟨hp, 0, none⟩), wellC] w fun e w' => e = .returned (.int .i64 0) ∧ Pv w' B hp (M + 2) { cst ys rs.length with next := (cst ys rs.length).limit } rs ∧ IFr B w w' := by
  obtain ⟨n, d, h1, h2, ⟨p, bD, bN, pv, nD, nN, hh, hd⟩, h3⟩ := h
  have hk3 : OneD (d.knob (-1) (-1)) rs := { h3 with well := ⟨h3.well.up, by simp [ADisk.knob], by simp [ADisk.knob]⟩ }
  obtain ⟨o1, o2, o3, o4, o5⟩ := One.opened hk3
  refine (hOpen_c B hp p bD bN n nD nN pv d (-1) (-1) 0 0 ys ((logR rs (1 + rs.length)).opens (d.knob (-1) (-1))) w hh hd hB hhp hmet (fun W hW hb => coPre_one ys hW hB hk3 hN hk (hpow.of_block (hb.block 1 (by omega))) h1) o2).mono ?_
  rintro e w' ⟨rfl, hs, hf⟩
  rw [o3] at hs
  have := hN.len
  exact ⟨rfl, ⟨_, n, _, _, by omega, h1, by omega, hs, o5⟩, hf⟩
theorem pvLose (kept : Int) (h : Pv w B hp M c rs) (hhp : B ≤ hp) (hne : rs ≠ []) :
    Calls Tryz.prog 17 #[.pointer (some ⟨hp, 0, none⟩), .int .i64 kept, .int .i64 0] w fun e w' => e = .returned (.tuple #[]) ∧ Pc w' B hp M rs ∧ IFr B w w' := by
  obtain ⟨m, n, l, d, h1, h2, h3, h4, h5⟩ := h
  refine (hLose_c B hp m n c l d kept w h4 hhp h5.pen).mono ?_
  rintro e w' ⟨rfl, hs, hf⟩
  exact ⟨rfl, ⟨n, _, h2, h3, hs, h5.lost hne⟩, hf⟩
theorem pwAnswer (h : Pw w B hp M c) (ht : t < 18446744073709551616) :
    Calls Tryz.prog 22 #[.pointer (some ⟨hp, 0, none⟩), .int .u64 (t : Int)] w fun e w' => e = .returned (.int .i64 (answerOf (c.tx t).state : Int)) ∧ w' = w := by
  obtain ⟨m, n, l, d, h1, h3, h4⟩ := h
  exact hAnswer_c B hp m n t c l d w h4 ht
/-- Begin, of a coordinator that has none -/
theorem pvBegin (h : Pv w B hp M ⟨[], 1, 1, 0⟩ []) (hB : 2 ≤ B) (hmet : Met w) (hpow : Pows w) (hM : M ≤ 1000) :
    Calls Tryz.prog 21 #[.pointer (some ⟨hp, 0, none⟩), wellC] w fun e w' => e = .returned (.tuple #[.int .u64 1, .int .i64 0]) ∧ Pv w' B hp (M + 3) ⟨[(1, ⟨4, [0, 0, 0, 0, 0, 0, 0, 0, 0], 0⟩)], 2, 17, 0⟩ [eR] ∧ IFr B w w' := by
  obtain ⟨m, n, l, d, h1, h2, h3, ⟨p, cp, gp, bT, lp, bD, bN, hh, hs⟩, h5⟩ := h
  have hby : Byt (be 8 17) := be_lt 8 17
  have hfine : FineR ([] ++ [⟨1 + ([] : List Rec).length, 1, be 8 17⟩]) := by
    intro k r hk
    match k, hk with
    | 0, hk => simp at hk; subst hk; refine ⟨by decide, by decide, by decide, hby, ?_⟩; decide
    | k + 1, hk => simp at hk
  have hke := h5.knob.keep (kind := 1) (s := str (be 8 17)) (by rw [str_size, be_len]; decide) (by rw [bytesOf_str hby]; exact hfine) (by rw [bytesOf_str hby]; decide)
  rw [bytesOf_str hby] at hke
  obtain ⟨k1, k2, k3⟩ := hke
  refine (hBegin_c B hp cp gp bT m lp p bD bN n ⟨[], 1, 1, 0⟩ l d (-1) (-1) 0 0 w (fun v x s' l' d' m' n' => v = 1 ∧ x = 0 ∧ s' = ⟨[(1, ⟨4, [0, 0, 0, 0, 0, 0, 0, 0, 0], 0⟩)], 2, 17, 0⟩ ∧ One l' (d'.knob (-1) (-1)) [eR] ∧ m' = m + 1 ∧ n' = n + 3) hh hs hB hmet (fun w1 hs1 hf1 => ?_)).mono ?_
  · refine (begin_any B cp gp bT m lp p bD bN n ⟨[], 1, 1, 0⟩ l (d.knob (-1) (-1)) w1 hs1 (by decide) rfl (by decide) (by omega) (by omega) hB h5.sg (hf1.pows hB hpow) k1).mono ?_
    rintro e w2 ⟨rfl, hs2, hx2⟩
    exact ⟨1, 0, _, _, _, _, _, ⟨rfl, rfl, rfl, k3, rfl, rfl⟩, rfl, hs2, k2, hx2⟩
  · rintro e w' ⟨v, x, s', l', d', m', n', ⟨rfl, rfl, rfl, hO, rfl, rfl⟩, rfl, hS, hF⟩
    exact ⟨rfl, ⟨_, _, _, _, by omega, by omega, by omega, hS, hO⟩, hF⟩
end
end Go.Proofs.YtejiankgafjppabGreatDoor
/- A COORDINATOR AS Presumed USES IT: Commit, Vote, Done of its one transaction. -/
namespace Go.Proofs.YtejiankgafjppabGreatDoor
open Go.RowKit Go.Shelf Go.Maps
open Sc

/-- nothing is known -/
abbrev cz (nx : Nat) : ACo := ⟨[], nx, 17, 0⟩
/-- transaction 1 is -/
abbrev co1 (nx st : Nat) (ps : List Nat) : ACo := ⟨[(1, ⟨st, ps, 0⟩)], nx, 17, 0⟩
theorem z9 : ∀ k, k < 9 → ([0, 0, 0, 0, 0, 0, 0, 0, 0] : List Nat).getD k 0 ≠ 1 := by decide
section
variable (B hp M nx k v : Nat) (ps : List Nat) (rs : List Rec) (w : World)
theorem pvCommit (g cap b0 : Nat) (xs : List Nat) (h : Pv w B hp M (co1 nx 4 [0, 0, 0, 0, 0, 0, 0, 0, 0]) rs) (hB : 2 ≤ B) (hmet : Met w) (hr : Rising xs) (hrow : w.ownsRow b0 3 1 (.slice (some ⟨g, 0, none⟩) xs.length cap) xs.length (ints xs)) (hM : M ≤ 1000) :
    Calls Tryz.prog 23 #[.pointer (some ⟨hp, 0, none⟩), .int .u64 1, .slice (some ⟨g, 0, none⟩) xs.length cap, wellC] w fun e w' => e = .returned (.int .i64 0) ∧ Pv w' B hp (M + 10) (co1 nx 5 (partsL xs 1)) rs ∧ IFr B w w' := by
  obtain ⟨m, n, l, d, h1, h2, h3, h4, h5⟩ := h
  refine (hCommit_c B hp m n 1 g cap b0 xs _ l d (-1) (-1) 0 0 w h4 hB hmet h5.well.up (by decide) rfl hr hrow (by omega)).mono ?_
  rintro e w' ⟨rfl, hs, hf⟩
  exact ⟨rfl, ⟨_, _, _, _, by omega, h2, by omega, hs, h5.knob⟩, hf⟩
theorem pvVote_not (h : Pv w B hp M (cz nx) rs) (hB : 2 ≤ B) (hmet : Met w) (hk : k < 9) (hv : v = 2 ∨ v = 3 ∨ v = 4) :
    Calls Tryz.prog 24 #[.pointer (some ⟨hp, 0, none⟩), .int .u64 1, .int .i64 (k : Int), .int .i64 (v : Int), wellC] w fun e w' => e = .returned (.int .i64 0) ∧ Pv w' B hp M (cz nx) rs ∧ IFr B w w' := by
  obtain ⟨m, n, l, d, h1, h2, h3, ⟨p, cp, gp, bT, lp, bD, bN, hh, hs⟩, h5⟩ := h
  refine (hVote_c B hp cp gp bT m lp p bD bN n 1 k v (cz nx) l d (-1) (-1) 0 0 w (fun _ x s' l' d' m' n' => x = 0 ∧ s' = cz nx ∧ l' = l ∧ d' = d.knob (-1) (-1) ∧ m' = m ∧ n' = n) hh hs hB hmet (fun w1 hs1 hf1 => ?_)).mono ?_
  · refine (vote_not B cp gp bT m 1 k v hv hk (cz nx) w1 hs1.co (by decide) (z9 k hk)).mono ?_
    rintro e w2 ⟨rfl, hf2⟩
    obtain ⟨hs2, hx2⟩ := hs1.new hf2
    exact ⟨0, 0, _, _, _, _, _, ⟨rfl, rfl, rfl, rfl, rfl, rfl⟩, rfl, hs2, h5.well.up, hx2⟩
  · rintro e w' ⟨_, x, s', l', d', m', n', ⟨rfl, rfl, rfl, rfl, rfl, rfl⟩, rfl, hS, hF⟩
    exact ⟨rfl, ⟨_, _, _, _, h1, h2, h3, hS, h5.knob.knob⟩, hF⟩
theorem pvVote_no (h : Pv w B hp M (co1 nx 5 ps) rs) (hB : 2 ≤ B) (hmet : Met w) (hM : M ≤ 1000) (hk : k < 9) (haw : ps.getD k 0 = 1) :
    Calls Tryz.prog 24 #[.pointer (some ⟨hp, 0, none⟩), .int .u64 1, .int .i64 (k : Int), .int .i64 3, wellC] w fun e w' => e = .returned (.int .i64 0) ∧ Pv w' B hp (M + 11) (cz nx) rs ∧ IFr B w w' := by
  obtain ⟨m, n, l, d, h1, h2, h3, ⟨p, cp, gp, bT, lp, bD, bN, hh, hs⟩, h5⟩ := h
  refine (hVote_c B hp cp gp bT m lp p bD bN n 1 k 3 (co1 nx 5 ps) l d (-1) (-1) 0 0 w (fun _ x s' l' d' m' n' => x = 0 ∧ s' = cz nx ∧ l' = l ∧ d' = d.knob (-1) (-1) ∧ m' = m + 11 ∧ n' = n) hh hs hB hmet (fun w1 hs1 hf1 => ?_)).mono ?_
  · refine (vote_no B cp gp bT m 1 k 3 rfl hk (co1 nx 5 ps) w1 hs1.co (by decide) haw (by omega)).mono ?_
    rintro e w2 ⟨rfl, hc2, hf2⟩
    obtain ⟨hs2, hx2⟩ := hs1.turn hc2 hf2
    exact ⟨0, 0, _, _, _, _, _, ⟨rfl, rfl, rfl, rfl, rfl, rfl⟩, rfl, hs2, h5.well.up, hx2⟩
  · rintro e w' ⟨_, x, s', l', d', m', n', ⟨rfl, rfl, rfl, rfl, rfl, rfl⟩, rfl, hS, hF⟩
    exact ⟨rfl, ⟨_, _, _, _, by omega, h2, by omega, hS, h5.knob.knob⟩, hF⟩
theorem pvVote_wait (h : Pv w B hp M (co1 nx 5 ps) rs) (hB : 2 ≤ B) (hmet : Met w) (hM : M ≤ 1000) (hk : k < 9) (hv : v = 2 ∨ v = 4) (haw : ps.getD k 0 = 1) (hany : (ps.set k v).any isAw = true) :
    Calls Tryz.prog 24 #[.pointer (some ⟨hp, 0, none⟩), .int .u64 1, .int .i64 (k : Int), .int .i64 (v : Int), wellC] w fun e w' => e = .returned (.int .i64 0) ∧ Pv w' B hp (M + 11) (co1 nx 5 (ps.set k v)) rs ∧ IFr B w w' := by
  obtain ⟨m, n, l, d, h1, h2, h3, ⟨p, cp, gp, bT, lp, bD, bN, hh, hs⟩, h5⟩ := h
  refine (hVote_c B hp cp gp bT m lp p bD bN n 1 k v (co1 nx 5 ps) l d (-1) (-1) 0 0 w (fun _ x s' l' d' m' n' => x = 0 ∧ s' = co1 nx 5 (ps.set k v) ∧ l' = l ∧ d' = d.knob (-1) (-1) ∧ m' = m + 1 ∧ n' = n) hh hs hB hmet (fun w1 hs1 hf1 => ?_)).mono ?_
  · refine (vote_wait B cp gp bT m 1 k v hv hk (co1 nx 5 ps) w1 hs1.co (by decide) haw hany (by omega)).mono ?_
    rintro e w2 ⟨rfl, hc2, hf2⟩
    obtain ⟨hs2, hx2⟩ := hs1.turn hc2 hf2
    exact ⟨0, 0, _, _, _, _, _, ⟨rfl, rfl, rfl, rfl, rfl, rfl⟩, rfl, hs2, h5.well.up, hx2⟩
  · rintro e w' ⟨_, x, s', l', d', m', n', ⟨rfl, rfl, rfl, rfl, rfl, rfl⟩, rfl, hS, hF⟩
    exact ⟨rfl, ⟨_, _, _, _, by omega, h2, by omega, hS, h5.knob.knob⟩, hF⟩
theorem ok1 {c : ACo} {w1 : World} {B cp gp bT m : Nat} (h : CoIn w1 B cp gp bT m c) (t k v : Nat) (hv : v < 256) : ATx.Ok { c.tx t with parts := (c.tx t).parts.set k v } := set_ok (h.okT t) hv
theorem pvVote_none (h : Pv w B hp M (co1 nx 5 ps) rs) (hB : 2 ≤ B) (hmet : Met w) (hM : M ≤ 1000) (hk : k < 9) (hv : v = 2 ∨ v = 4) (haw : ps.getD k 0 = 1) (hany : (ps.set k v).any isAw = false) (hno : (ps.set k v).any hasY = false) :
    Calls Tryz.prog 24 #[.pointer (some ⟨hp, 0, none⟩), .int .u64 1, .int .i64 (k : Int), .int .i64 (v : Int), wellC] w fun e w' => e = .returned (.int .i64 0) ∧ Pv w' B hp (M + 11) (cz nx) rs ∧ IFr B w w' := by
  obtain ⟨m, n, l, d, h1, h2, h3, ⟨p, cp, gp, bT, lp, bD, bN, hh, hs⟩, h5⟩ := h
  refine (hVote_c B hp cp gp bT m lp p bD bN n 1 k v (co1 nx 5 ps) l d (-1) (-1) 0 0 w (fun _ x s' l' d' m' n' => x = 0 ∧ s' = cz nx ∧ l' = l ∧ d' = d.knob (-1) (-1) ∧ m' = m + 10 ∧ n' = n) hh hs hB hmet (fun w1 hs1 hf1 => ?_)).mono ?_
  · refine (vote_last B cp gp bT m 1 k v hv hk (co1 nx 5 ps) w1 hs1.co (by decide) haw hany (fun w2 => CL w2 B cp gp bT (m + 10) lp p bD bN n (cz nx) l (d.knob (-1) (-1)) ∧ CFr B cp bT lp p w1 w2) (fun W hW => ?_)).mono ?_
    · obtain ⟨hsW, hxW⟩ := hs1.new hW
      refine (ccommit_none B cp gp bT m 1 (co1 nx 5 ps) _ (ok1 hs1.co 1 k v (by omega)) hno W hsW.co (by decide) (by omega)).mono ?_
      rintro e w2 ⟨rfl, hc2, hf2⟩
      obtain ⟨hs2, hx2⟩ := hsW.turn hc2 hf2
      exact ⟨rfl, hs2, hxW.trans hx2⟩
    · rintro e w2 ⟨rfl, hs2, hx2⟩
      exact ⟨0, 0, _, _, _, _, _, ⟨rfl, rfl, rfl, rfl, rfl, rfl⟩, rfl, hs2, h5.well.up, hx2⟩
  · rintro e w' ⟨_, x, s', l', d', m', n', ⟨rfl, rfl, rfl, rfl, rfl, rfl⟩, rfl, hS, hF⟩
    exact ⟨rfl, ⟨_, _, _, _, by omega, h2, by omega, hS, h5.knob.knob⟩, hF⟩
theorem ys_byt {ys : List Nat} (hy : ∀ y ∈ ys, y < 9) : Byt (be 8 1 ++ ys) := fun x hx => by
  rcases List.mem_append.1 hx with e | e
  · exact be_lt 8 1 x e
  · have := hy x e; omega
theorem pvVote_yes (h : Pv w B hp M (co1 nx 5 ps) [eR]) (hB : 2 ≤ B) (hmet : Met w) (hpow : Pows w) (hM : M ≤ 1000) (hk : k < 9) (hv : v = 2 ∨ v = 4) (haw : ps.getD k 0 = 1) (hany : (ps.set k v).any isAw = false) (hyes : (ps.set k v).any hasY = true) :
    Calls Tryz.prog 24 #[.pointer (some ⟨hp, 0, none⟩), .int .u64 1, .int .i64 (k : Int), .int .i64 (v : Int), wellC] w fun e w' => e = .returned (.int .i64 0) ∧ Pv w' B hp (M + 11) (co1 nx 6 (ps.set k v)) [eR, eC (meant hasY (ps.set k v))] ∧ IFr B w w' := by
  obtain ⟨m, n, l, d, h1, h2, h3, ⟨p, cp, gp, bT, lp, bD, bN, hh, hs⟩, h5⟩ := h
  obtain ⟨ys, hys⟩ : ∃ ys, ys = meant hasY (ps.set k v) := ⟨_, rfl⟩
  have hy9 : ∀ y ∈ ys, y < 9 := fun y hy => meant_lt (by rw [hys] at hy; exact hy)
  have hyl : ys.length ≤ 9 := by rw [hys]; exact meant_len
  have hby := ys_byt hy9
  have hlen : (be 8 1 ++ ys).length ≤ 17 := by rw [List.length_append, be_len]; omega
  have hfine : FineR ([eR] ++ [⟨1 + ([eR] : List Rec).length, 2, be 8 1 ++ ys⟩]) := by
    intro j r hj
    match j, hj with
    | 0, hj => exact h5.fine 0 r hj
    | 1, hj => simp at hj; subst hj; exact ⟨show (2 : Nat) = 1 + 1 by decide, show (2 : Nat) < 256 by decide, show (be 8 1 ++ ys).length ≤ 255 by omega, hby, show (2 : Nat) < 18446744073709551616 by decide⟩
    | j + 2, hj => simp at hj
  have h6 : (encR ([eR] ++ [⟨1 + ([eR] : List Rec).length, 2, be 8 1 ++ ys⟩])).length < 600 := by
    rw [encR_snoc, List.length_append, recBytes_len]
    have : (encR [eR]).length = 23 := by decide
    show (encR [eR]).length + (15 + (be 8 1 ++ ys).length) < 600
    omega
  have hke := h5.knob.keep (kind := 2) (s := str (be 8 1 ++ ys)) (by rw [str_size]; omega) (by rw [bytesOf_str hby]; exact hfine) (by rw [bytesOf_str hby]; exact h6)
  rw [bytesOf_str hby] at hke
  obtain ⟨k1, k2, k3⟩ := hke
  rw [← hys]
  refine (hVote_c B hp cp gp bT m lp p bD bN n 1 k v (co1 nx 5 ps) l d (-1) (-1) 0 0 w (fun _ x s' l' d' m' n' => x = 0 ∧ s' = co1 nx 6 (ps.set k v) ∧ One l' (d'.knob (-1) (-1)) [eR, eC ys] ∧ m' = m + 11 ∧ n' = n + 3) hh hs hB hmet (fun w1 hs1 hf1 => ?_)).mono ?_
  · refine (vote_last B cp gp bT m 1 k v hv hk (co1 nx 5 ps) w1 hs1.co (by decide) haw hany (fun w2 => CL w2 B cp gp bT (m + 11) lp p bD bN (n + 3) (co1 nx 6 (ps.set k v)) (l.keep (d.knob (-1) (-1)) 2 (str (be 8 1 ++ ys))).1 (l.keep (d.knob (-1) (-1)) 2 (str (be 8 1 ++ ys))).2.1 ∧ CFr B cp bT lp p w1 w2) (fun W hW => ?_)).mono ?_
    · obtain ⟨hsW, hxW⟩ := hs1.new hW
      have hcy := ccommit_yes B cp gp bT m lp p bD bN n 1 (co1 nx 5 ps) l (d.knob (-1) (-1)) { (co1 nx 5 ps).tx 1 with parts := ((co1 nx 5 ps).tx 1).parts.set k v } (ok1 hs1.co 1 k v (by omega)) hyes W hsW (by decide) (by omega) (by omega) hB h5.sg ((hf1.trans (hxW.hfr hs1)).pows hB hpow) (by
        have e : meant hasY ({ (co1 nx 5 ps).tx 1 with parts := ((co1 nx 5 ps).tx 1).parts.set k v } : ATx).parts = ys := hys.symm
        rw [e]; exact k1)
      have e : meant hasY ({ (co1 nx 5 ps).tx 1 with parts := ((co1 nx 5 ps).tx 1).parts.set k v } : ATx).parts = ys := hys.symm
      rw [e] at hcy
      refine hcy.mono ?_
      rintro e w2 ⟨rfl, hs2, hx2⟩
      exact ⟨rfl, hs2, hxW.trans hx2⟩
    · rintro e w2 ⟨rfl, hs2, hx2⟩
      exact ⟨0, 0, _, _, _, _, _, ⟨rfl, rfl, k3, rfl, rfl⟩, rfl, hs2, k2, hx2⟩
  · rintro e w' ⟨_, x, s', l', d', m', n', ⟨rfl, rfl, hO, rfl, rfl⟩, rfl, hS, hF⟩
    exact ⟨rfl, ⟨_, _, _, _, by omega, by omega, by omega, hS, hO⟩, hF⟩
theorem pvDone_more (h : Pv w B hp M (co1 nx 6 ps) rs) (hB : 2 ≤ B) (hmet : Met w) (hM : M ≤ 1000) (hk : k < 9) (hpt : ps.getD k 0 = 2) (hany : (ps.set k 5).any isToC = true) :
    Calls Tryz.prog 25 #[.pointer (some ⟨hp, 0, none⟩), .int .u64 1, .int .i64 (k : Int), wellC] w fun e w' => e = .returned (.int .i64 0) ∧ Pv w' B hp (M + 11) (co1 nx 6 (ps.set k 5)) rs ∧ IFr B w w' := by
  obtain ⟨m, n, l, d, h1, h2, h3, ⟨p, cp, gp, bT, lp, bD, bN, hh, hs⟩, h5⟩ := h
  refine (hDone_c B hp cp gp bT m lp p bD bN n 1 k (co1 nx 6 ps) l d (-1) (-1) 0 0 w (fun _ x s' l' d' m' n' => x = 0 ∧ s' = co1 nx 6 (ps.set k 5) ∧ l' = l ∧ d' = d.knob (-1) (-1) ∧ m' = m + 1 ∧ n' = n) hh hs hB hmet (fun w1 hs1 hf1 => ?_)).mono ?_
  · refine (done_more B cp gp bT m 1 k hk (co1 nx 6 ps) w1 hs1.co (by decide) rfl hpt hany (by omega)).mono ?_
    rintro e w2 ⟨rfl, hc2, hf2⟩
    obtain ⟨hs2, hx2⟩ := hs1.turn hc2 hf2
    exact ⟨0, 0, _, _, _, _, _, ⟨rfl, rfl, rfl, rfl, rfl, rfl⟩, rfl, hs2, h5.well.up, hx2⟩
  · rintro e w' ⟨_, x, s', l', d', m', n', ⟨rfl, rfl, rfl, rfl, rfl, rfl⟩, rfl, hS, hF⟩
    exact ⟨rfl, ⟨_, _, _, _, by omega, h2, by omega, hS, h5.knob.knob⟩, hF⟩
theorem pvDone_last (h : Pv w B hp M (co1 nx 6 ps) rs) (hB : 2 ≤ B) (hmet : Met w) (hpow : Pows w) (hM : M ≤ 1000) (hk : k < 9) (hpt : ps.getD k 0 = 2) (hany : (ps.set k 5).any isToC = false) :
    Calls Tryz.prog 25 #[.pointer (some ⟨hp, 0, none⟩), .int .u64 1, .int .i64 (k : Int), wellC] w fun e w' => e = .returned (.int .i64 0) ∧ Pw w' B hp (M + 11) (cz nx) ∧ IFr B w w' := by
  obtain ⟨m, n, l, d, h1, h2, h3, ⟨p, cp, gp, bT, lp, bD, bN, hh, hs⟩, h5⟩ := h
  obtain ⟨k1, k2⟩ := h5.knob.noteC (kind := 3) (s := str (be 8 1)) (by rw [str_size, be_len]; decide)
  refine (hDone_c B hp cp gp bT m lp p bD bN n 1 k (co1 nx 6 ps) l d (-1) (-1) 0 0 w (fun _ x s' l' d' m' n' => x = 0 ∧ s' = cz nx ∧ m' = m ∧ n' = n + 3) hh hs hB hmet (fun w1 hs1 hf1 => ?_)).mono ?_
  · refine (done_last B cp gp bT m lp p bD bN n 1 k hk (co1 nx 6 ps) l (d.knob (-1) (-1)) w1 hs1 (by decide) rfl hpt hany (by omega) hB h5.sg (hf1.pows hB hpow) k1).mono ?_
    rintro e w2 ⟨rfl, hs2, hx2⟩
    exact ⟨0, 0, _, _, _, _, _, ⟨rfl, rfl, rfl, rfl⟩, rfl, hs2, k2, hx2⟩
  · rintro e w' ⟨_, x, s', l', d', m', n', ⟨rfl, rfl, rfl, rfl⟩, rfl, hS, hF⟩
    exact ⟨rfl, ⟨_, _, _, _, by omega, by omega, hS⟩, hF⟩
end
end Go.Proofs.YtejiankgafjppabGreatDoor
