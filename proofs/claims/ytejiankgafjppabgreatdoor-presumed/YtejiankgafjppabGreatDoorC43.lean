import Derived.Test.YtejiankgafjppabGreatDoorC40
import Derived.Test.YtejiankgafjppabGreatDoorC42
import Derived.Test.YtejiankgafjppabGreatDoorC30
import Derived.Test.YtejiankgafjppabGreatDoorC39
/- A LOG OF ONE SEGMENT, ALL OF IT DURABLE: what Keep leaves; the power fails; it is opened again. -/
namespace Go.Proofs.YtejiankgafjppabGreatDoor
open Go.RowKit Go.Maps
open Sc

theorem writesE {d : ADisk} {c : Nat} (h : d.Well c) (hc : c < 1099511627776) : d.writes = ({ d with left := d.left - 1, full := d.full - 1 }, 0) := by
  have h1 := h.left
  have h2 := h.full
  have e := wr_ok (d := d) (by rw [h.up]; simp; omega) (by omega)
  have e1 : wrap64 (d.left - 1) = d.left - 1 := by unfold wrap64; omega
  have e2 : wrap64 (d.full - 1) = d.full - 1 := by unfold wrap64; omega
  rw [e1, e2] at e
  exact e
theorem syncE {d : ADisk} {c : Nat} (h : d.Well c) (hc : c < 1099511627776) : d.sync = ({ d with left := d.left - 1, full := d.full - 1, durable := d.pending.foldl doOp d.durable, pending := [] }, 0) := by
  unfold ADisk.sync
  simp only [writesE h hc, if_true]
theorem tellE {d : ADisk} {c : Nat} {o : AOp} (h : d.Well c) (hc : c < 1099511627776) (h1 : o.kind = 2) : d.tell o = ({ d with left := d.left - 1, full := d.full - 1, now := doOp d.now o, pending := d.pending ++ [o] }, 0) := by
  unfold ADisk.tell
  simp only [writesE h hc]
  rw [if_neg (by omega), if_neg (by omega), if_neg (by omega), if_neg (by omega)]
theorem str_app (a b : List Nat) : str (a ++ b) = str a ++ str b := by
  apply ByteArray.ext
  rw [ByteArray.data_append, str_data0, str_data0, str_data0]
  simp
theorem doOp_app (m : Files) (nm t : ByteArray) : doOp m ⟨2, nm, ByteArray.empty, t⟩ = m.set nm (some ((m nm).getD ByteArray.empty ++ t)) := rfl
/-- a log whose records fill one segment at most, all durable, between calls -/
structure One (l : ALog) (d : ADisk) (rs : List Rec) : Prop where
  next : l.next = 1 + rs.length
  recs : l.recs = rs
  failed : l.failed = 0
  file : (rs = [] ∧ l.segs = [] ∧ l.filled = 600 ∧ ∀ k, d.now k = none) ∨ (rs ≠ [] ∧ l.segs = [1] ∧ l.filled = (encR rs).length ∧ SoleD d (str (encR rs)))
  dur : d.durable = d.now
  pen : d.pending = []
  fine : FineR rs
  few : (encR rs).length < 600
  durN : l.durable = l.next
  well : d.Well 0
theorem One.sg {l : ALog} {d : ADisk} {rs : List Rec} (h : One l d rs) : l.filled < 600 → l.segs ≠ [] := by
  intro hf
  rcases h.file with ⟨_, _, e, _⟩ | ⟨_, e, _⟩
  · omega
  · rw [e]; simp
theorem One.knob {l : ALog} {d : ADisk} {rs : List Rec} (h : One l d rs) : One l (d.knob (-1) (-1)) rs := { h with well := ⟨h.well.up, by simp [ADisk.knob], by simp [ADisk.knob]⟩ }
theorem well_dec {d : ADisk} {c : Nat} (h : d.Well c) (f g : Files) (p : List AOp) : ADisk.Well ⟨f, g, p, d.left - 1, d.full - 1, d.down⟩ (c + 1) := ⟨h.up, by have := h.left; simp; omega, by have := h.full; simp; omega⟩
theorem sole_set {m : Files} {t : ByteArray} (h : ∀ k, k ≠ segName 1 → m k = none) : ∀ k, m.set (segName 1) (some t) k = if k = segName 1 then some t else none := by
  intro k
  unfold Files.set
  by_cases e : k = segName 1
  · simp [e]
  · simp [e, h k e]
/-- what Keep leaves, between calls -/
theorem One.keep {l : ALog} {d : ADisk} {rs : List Rec} (h : One l d rs) {kind : Nat} {s : ByteArray} (hs : s.size ≤ 255) (hf : FineR (rs ++ [⟨1 + rs.length, kind, bytesOf s⟩])) (h6 : (encR (rs ++ [⟨1 + rs.length, kind, bytesOf s⟩])).length < 600) :
    (l.keep d kind s).2.2 = 0 ∧ (l.keep d kind s).2.1.down = false ∧ One (l.keep d kind s).1 ((l.keep d kind s).2.1.knob (-1) (-1)) (rs ++ [⟨1 + rs.length, kind, bytesOf s⟩]) := by
  have hnx := h.next
  have hw := h.well
  obtain ⟨o, ho⟩ : ∃ o : AOp, o = ⟨2, segName 1, ByteArray.empty, str (recBytes l.next kind (bytesOf s))⟩ := ⟨_, rfl⟩
  -- what the room gives
  obtain ⟨d1, hd1, w1, e1, p1⟩ : ∃ d1 : ADisk, l.room d = ({ l with segs := [1], filled := (encR rs).length, durable := l.durable }, d1, 0) ∧ d1.Well 1 ∧ d1.now = d.now ∧ d1.pending = [] ∧ d1.durable = d.durable := by
    rcases h.file with ⟨r0, sg, fi, _⟩ | ⟨_, sg, fi, _⟩
    · refine ⟨{ d with left := d.left - 1, full := d.full - 1 }, ?_, well_dec hw _ _ _, rfl, h.pen, rfl⟩
      unfold ALog.room
      have es : l.sync d = ({ l with durable := l.next }, { d with left := d.left - 1, full := d.full - 1, durable := d.pending.foldl doOp d.durable, pending := [] }, 0) := by
        unfold ALog.sync; rw [syncE hw (by omega)]; rfl
      rw [if_neg (by omega), es]
      simp only [if_true]
      rw [h.pen, sg, hnx, h.durN, hnx, r0]
      have : d.pending = [] := h.pen
      obtain ⟨a, b, c, e, f, g⟩ := d
      simp at this
      subst this
      rfl
    · refine ⟨d, ?_, hw.mono (by omega), rfl, h.pen, rfl⟩
      unfold ALog.room
      rw [if_pos (by rw [fi]; exact h.few)]
      obtain ⟨a, b, c, e, f, g⟩ := l
      simp at sg fi
      subst sg fi
      rfl
  obtain ⟨d2, hd2⟩ : ∃ d2 : ADisk, d2 = { d1 with left := d1.left - 1, full := d1.full - 1, now := doOp d1.now o, pending := d1.pending ++ [o] } := ⟨_, rfl⟩
  have w2 : d2.Well 2 := by rw [hd2]; exact well_dec w1 _ _ _
  have hput : l.put d (recBytes l.next kind (bytesOf s)) = ({ l with segs := [1], filled := (encR rs).length, durable := l.durable }, d2, 0) := by
    unfold ALog.put
    rw [hd1]
    simp only [if_true, List.getLastD_cons, List.getLastD_nil]
    rw [tellE w1 (by omega) rfl]
    rw [hd2, ho]
  have hwr : l.wr d (l.put d (recBytes l.next kind (bytesOf s))) = ({ l with segs := [1], filled := (encR rs).length, durable := l.durable, failed := 0 }, d2, 0) := by
    unfold ALog.wr
    rw [if_pos h.failed, hput]
  have hap : l.note d kind s = ({ l with segs := [1], filled := (encR rs).length + (15 + s.size), durable := l.durable, failed := 0, recs := rs ++ [⟨1 + rs.length, kind, bytesOf s⟩], next := l.next + 1 }, d2, 0) := by
    unfold ALog.note ALog.append
    rw [if_neg (by omega), hwr]
    simp only [if_true, h.recs, hnx]
  obtain ⟨d3, hd3⟩ : ∃ d3 : ADisk, d3 = { d2 with left := d2.left - 1, full := d2.full - 1, durable := d2.pending.foldl doOp d2.durable, pending := [] } := ⟨_, rfl⟩
  have w3 : d3.Well 3 := by rw [hd3]; exact well_dec w2 _ _ _
  have hkp : l.keep d kind s = ({ l with segs := [1], filled := (encR rs).length + (15 + s.size), durable := l.next + 1, failed := 0, recs := rs ++ [⟨1 + rs.length, kind, bytesOf s⟩], next := l.next + 1 }, d3, 0) := by
    unfold ALog.keep
    rw [hap]
    simp only [if_true]
    unfold ALog.force
    rw [if_neg (by simp; have := h.durN; omega)]
    unfold ALog.wr ALog.sync
    simp only [if_true]
    rw [syncE w2 (by omega)]
    simp only [if_true]
    rw [← hd3]
  have hno3 : d3.now = doOp d.now o := by rw [hd3, hd2]; simp only; rw [e1]
  have hdu3 : d3.durable = doOp d.now o := by
    rw [hd3, hd2]
    simp only [p1.1, p1.2, List.nil_append, List.foldl_cons, List.foldl_nil, h.dur]
  have hre : str (encR (rs ++ [⟨1 + rs.length, kind, bytesOf s⟩])) = str (encR rs) ++ str (recBytes l.next kind (bytesOf s)) := by rw [encR_snoc, str_app, hnx]
  have hso : ∀ k, doOp d.now o k = if k = segName 1 then some (str (encR (rs ++ [⟨1 + rs.length, kind, bytesOf s⟩]))) else none := by
    rw [ho, doOp_app, hre]
    rcases h.file with ⟨r0, _, _, hn⟩ | ⟨_, _, _, hn⟩
    · have e0 : (d.now (segName 1)).getD ByteArray.empty = str (encR rs) := by rw [hn, r0]; rfl
      rw [e0]
      exact sole_set (fun k _ => hn k)
    · have e0 : (d.now (segName 1)).getD ByteArray.empty = str (encR rs) := by rw [hn, if_pos rfl]; rfl
      rw [e0]
      exact sole_set (fun k hk => by rw [hn, if_neg hk])
  rw [hkp]
  refine ⟨rfl, w3.up, { next := by simp [hnx]; omega, recs := rfl, failed := rfl, file := .inr ⟨by simp, rfl, ?_, fun k => ?_⟩, dur := ?_, pen := by show d3.pending = []; rw [hd3], fine := hf, few := h6, durN := rfl, well := ⟨w3.up, by simp [ADisk.knob], by simp [ADisk.knob]⟩ }⟩
  · simp only
    rw [encR_snoc, List.length_append, recBytes_len, bytesOf_len]
  · show d3.now k = _
    rw [hno3]
    exact hso k
  · show d3.durable = d3.now
    rw [hno3, hdu3]
/-- a disk that has such a log, nothing being open -/
structure OneD (d : ADisk) (rs : List Rec) : Prop where
  sole : SoleD d (str (encR rs))
  dur : d.durable = d.now
  pen : d.pending = []
  fine : FineR rs
  few : (encR rs).length < 600
  ne : rs ≠ []
  well : d.Well 0
theorem One.lost {l : ALog} {d : ADisk} {rs : List Rec} (h : One l d rs) (hne : rs ≠ []) : OneD (d.up.knob (-1) (-1)) rs where
  sole := fun k => by
    rcases h.file with ⟨e, _⟩ | ⟨_, _, _, hs⟩
    · exact absurd e hne
    · show d.durable k = _; rw [h.dur]; exact hs k
  dur := rfl
  pen := rfl
  fine := h.fine
  few := h.few
  ne := hne
  well := ⟨rfl, by simp [ADisk.knob], by simp [ADisk.knob]⟩
theorem opensE {d : ADisk} (l : ALog) (h : d.Well 0) : l.opens d = ({ l with durable := l.next }, { d with left := d.left - 1 - 1, full := d.full - 1 - 1, durable := d.pending.foldl doOp d.durable, pending := [] }, 0) := by
  have es : l.sync d = ({ l with durable := l.next }, { d with left := d.left - 1, full := d.full - 1, durable := d.pending.foldl doOp d.durable, pending := [] }, 0) := by
    unfold ALog.sync; rw [syncE h (by omega)]; rfl
  unfold ALog.opens
  rw [es]
  simp only [if_true]
  have w1 : ADisk.Well { d with left := d.left - 1, full := d.full - 1, durable := d.pending.foldl doOp d.durable, pending := [] } 1 := well_dec h _ _ _
  unfold ADisk.removeAll
  rw [syncE w1 (by omega)]
  rfl
theorem One.opened {d : ADisk} {rs : List Rec} (h : OneD d rs) : ((logR rs (1 + rs.length)).opens d).2.2 = 0 ∧ ((logR rs (1 + rs.length)).opens d).2.1.down = false ∧ ((logR rs (1 + rs.length)).opens d).1.recs = rs ∧ ((logR rs (1 + rs.length)).opens d).1.next = 1 + rs.length ∧ One ((logR rs (1 + rs.length)).opens d).1 (((logR rs (1 + rs.length)).opens d).2.1.knob (-1) (-1)) rs := by
  rw [opensE _ h.well]
  refine ⟨rfl, h.well.up, rfl, rfl, { next := rfl, recs := rfl, failed := rfl, file := .inr ⟨h.ne, rfl, rfl, h.sole⟩, dur := ?_, pen := rfl, fine := h.fine, few := h.few, durN := rfl, well := ⟨h.well.up, by simp [ADisk.knob], by simp [ADisk.knob]⟩ }⟩
  show d.pending.foldl doOp d.durable = d.now
  rw [h.pen, h.dur]; rfl
theorem One.first {d : ADisk} (hno : ∀ k, d.now k = none) (hdu : d.durable = d.now) (hpe : d.pending = []) (hw : d.Well 0) : ((log0 1).opens d).2.2 = 0 ∧ ((log0 1).opens d).2.1.down = false ∧ ((log0 1).opens d).1.recs = [] ∧ ((log0 1).opens d).1.next = 1 ∧ One ((log0 1).opens d).1 (((log0 1).opens d).2.1.knob (-1) (-1)) [] := by
  rw [opensE _ hw]
  refine ⟨rfl, hw.up, rfl, rfl, { next := rfl, recs := rfl, failed := rfl, file := .inl ⟨rfl, rfl, rfl, hno⟩, dur := ?_, pen := rfl, fine := fun k r hk => by simp at hk, few := by decide, durN := rfl, well := ⟨hw.up, by simp [ADisk.knob], by simp [ADisk.knob]⟩ }⟩
  show d.pending.foldl doOp d.durable = d.now
  rw [hpe, hdu]; rfl
/-- records that a ledger noted -/
def Noted (J : List Rec → AShard → Prop) (rs : List Rec) : Prop := (∀ r ∈ rs, r.kind < 128) ∧ rs.length ≤ 10 ∧ J [] sh0 ∧ ∀ pre x s', pre ++ [x] <+: rs → J pre s' → Entr (J (pre ++ [x])) s' x
theorem shPre_one {J : List Rec → AShard → Prop} {B p bD bN n nD nN : Nat} {pv : Value} {d : ADisk} {rs : List Rec} {w : World} (hd : DiskIn w B p bD bN pv d n nD nN) (hB : 2 ≤ B) (h : OneD d rs) (hN : Noted J rs) (hpow : Pows w) (hn : 10 ≤ n) : ShPre J B p bD bN n ((logR rs (1 + rs.length)).opens d) w := by
  obtain ⟨o1, o2, o3, o4, o5⟩ := One.opened h
  refine { disk := ⟨_, _, _, _, hd⟩, jop := fun W hW => ?_, plain := ?_, first := ?_, byt := ?_, none := hN.2.2.1, ents := ?_, few := ?_, num := hd.hn }
  · exact jopen_one B p bD bN n nD nN pv d rs W (hd.new hW) hB h.well.up h.fine h.ne h.sole (hpow.of_block (hW.block 1 (by have := hd.base.2.2.2; omega) (by simp))) (by have := hN.2.1; omega) (by omega) (by have := h.few; omega) o1
  · rw [o3]; intro r hr
    obtain ⟨k, hk⟩ := List.mem_iff_getElem?.1 hr
    exact ⟨hN.1 r hr, by have := (h.fine k r hk).1; omega⟩
  · rw [o3]
    cases rs with
    | nil => exact absurd rfl h.ne
    | cons r rs => exact (h.fine 0 r rfl).1
  · rw [o3]; intro r hr
    obtain ⟨k, hk⟩ := List.mem_iff_getElem?.1 hr
    have := h.fine k r hk
    exact ⟨this.2.2.2.1, by omega⟩
  · rw [o3]; exact hN.2.2.2
  · rw [o3]; have := hN.2.1; unfold maxLen; omega
theorem shPre_none {B p bD bN n nD : Nat} {pv : Value} {d : ADisk} {w : World} (hd : DiskIn w B p bD bN pv d n nD 0) (hno : ∀ k, d.now k = none) (hdu : d.durable = d.now) (hpe : d.pending = []) (hw : d.Well 0) : ShPre (fun _ s => s = sh0) B p bD bN n ((log0 1).opens d) w := by
  obtain ⟨o1, o2, o3, o4, o5⟩ := One.first hno hdu hpe hw
  refine { disk := ⟨_, _, _, _, hd⟩, jop := fun W hW => jopen_empty B p bD bN n nD pv d W (hd.new hW) hw.up (hno _) o1, plain := ?_, first := ?_, byt := ?_, none := rfl, ents := ?_, few := ?_, num := hd.hn }
  · rw [o3]; intro r hr; cases hr
  · rw [o3, o4]; rfl
  · rw [o3]; intro r hr; cases hr
  · rw [o3]; intro pre x s' hp; have := hp.length_le; simp at this
  · rw [o3]; decide
end Go.Proofs.YtejiankgafjppabGreatDoor
/- THE COORDINATOR: read, Open, OpenCoordinator. -/
namespace Go.Proofs.YtejiankgafjppabGreatDoor
open Go.RowKit Go.Shelf Go.Maps
open Sc

set_option maxHeartbeats 2000000 in
theorem cread_res (n cp bT m fp M : Nat) (c : ACo) (w : World) (h : CoZ w cp bT m c) (hf : FldAt n w fp (be 8 M)) (hM : M < 18446744073709551616) (hle : c.limit ≤ M) (hlow : cp < n ∧ bT < n) :
    Calls Tryz.prog 148 #[.pointer (some ⟨cp, 0, none⟩), .int .u8 1, .pointer (some ⟨fp, 0, none⟩)] w fun e w' => e = .returned (.bool true) ∧ CoZ w' cp bT m { c with limit := M } ∧ Fr [fp, cp, bT] w w' := by
  have hc := readRes_any n cp bT m fp M c w h hf hM hle hlow
  clear h hf
  go_enter Tryz.func148, Tryz.ntmps148
  go_wp2_with fail
  refine hc.mono ?_
  clear hc
  rintro e w1 ⟨rfl, hin, hfr⟩
  have H1 := toHid (show CoZ w1 cp bT m { c with limit := M } ∧ Fr [fp, cp, bT] w w1 from ⟨hin, hfr.mono (fun k _ hk => by simp at hk; rcases hk with e | e <;> simp [e])⟩)
  clear hin hfr
  go_wp2
  go_ret
  exact ⟨rfl, H1.out⟩
set_option maxHeartbeats 2000000 in
theorem cread_com (n cp bT m fp t : Nat) (xs : List Nat) (c : ACo) (w : World) (h : CoZ w cp bT m c) (hf : FldAt n w fp (be 8 t ++ xs)) (ht : t < 18446744073709551616) (h0 : t ≠ 0) (hlt : t < c.limit) (hst : (c.tx t).state = 0) (hr : Rising xs) (hm : m + 1 < maxLen) (hlow : cp < n ∧ bT < n) :
    Calls Tryz.prog 148 #[.pointer (some ⟨cp, 0, none⟩), .int .u8 2, .pointer (some ⟨fp, 0, none⟩)] w fun e w' => e = .returned (.bool true) ∧ CoZ w' cp bT (m + 1) { c with txns := alPut c.txns t ⟨6, partsL xs 2, 0⟩ } ∧ Fr [fp, cp, bT] w w' := by
  have hc := readCom_any n cp bT m fp t xs c w h hf ht h0 hlt hst hr hm hlow
  clear h hf
  go_enter Tryz.func148, Tryz.ntmps148
  go_wp2_with fail
  refine hc.mono ?_
  clear hc
  rintro e w1 ⟨rfl, hin, hfr⟩
  have H1 := toHid (show CoZ w1 cp bT (m + 1) { c with txns := alPut c.txns t ⟨6, partsL xs 2, 0⟩ } ∧ Fr [fp, cp, bT] w w1 from ⟨hin, hfr.mono (fun k _ hk => by simp at hk; rcases hk with e | e <;> simp [e])⟩)
  clear hin hfr
  go_wp2
  go_ret
  exact ⟨rfl, H1.out⟩
/-- the entries that Presumed's coordinator notes -/
abbrev eR : Rec := ⟨1, 1, be 8 17⟩
abbrev eC (ys : List Nat) : Rec := ⟨2, 2, be 8 1 ++ ys⟩
/-- what stands behind the first k of them -/
def cst (ys : List Nat) (k : Nat) : ACo := if k = 0 then ⟨[], 0, 1, 0⟩ else if k = 1 then ⟨[], 0, 17, 0⟩ else ⟨[(1, ⟨6, partsL ys 2, 0⟩)], 0, 17, 0⟩
inductive Ents (ys : List Nat) : List Rec → Prop
  | none : Ents ys []
  | res : Ents ys [eR]
  | com (h : Rising ys) : Ents ys [eR, eC ys]
theorem Ents.len {ys : List Nat} {rs : List Rec} (h : Ents ys rs) : rs.length ≤ 2 := by cases h <;> simp
/-- an entry is read -/
theorem cread_ent (ys : List Nat) (rs pre : List Rec) (x : Rec) (n cp bT fp : Nat) (A : World) (he : Ents ys rs) (hp : pre ++ [x] <+: rs) (h : CoZ A cp bT pre.length (cst ys pre.length)) (hlow : cp < n ∧ bT < n) (hf : FldAt n A fp x.pay) :
    Calls Tryz.prog 148 #[.pointer (some ⟨cp, 0, none⟩), .int .u8 (x.kind : Int), .pointer (some ⟨fp, 0, none⟩)] A fun e w' => e = .returned (.bool true) ∧ CoZ w' cp bT (pre ++ [x]).length (cst ys (pre ++ [x]).length) ∧ Fr [fp, cp, bT] A w' := by
  have hlen := hp.length_le
  have hl2 := he.len
  rw [List.length_append, List.length_singleton] at hlen
  have hx : rs[pre.length]? = some x := by
    obtain ⟨r, hr⟩ := hp
    rw [← hr]
    simp
  cases he with
  | none => simp at hlen
  | res =>
    have h0 : pre.length = 0 := by have : ([eR] : List Rec).length = 1 := rfl; omega
    rw [h0] at hx h
    simp at hx
    subst hx
    refine (cread_res n cp bT 0 fp 17 _ A h hf (by decide) (show (1 : Nat) ≤ 17 by decide) hlow).mono ?_
    rintro e w' ⟨rfl, h1, h2⟩
    refine ⟨rfl, ?_, h2⟩
    rw [List.length_append, h0]
    exact ⟨h1.blk, h1.txns.mono (by omega), h1.nums⟩
  | com hr =>
    have h01 : pre.length = 0 ∨ pre.length = 1 := by have : ([eR, eC ys] : List Rec).length = 2 := rfl; omega
    rcases h01 with h0 | h0
    · rw [h0] at hx h
      simp at hx
      subst hx
      refine (cread_res n cp bT 0 fp 17 _ A h hf (by decide) (show (1 : Nat) ≤ 17 by decide) hlow).mono ?_
      rintro e w' ⟨rfl, h1, h2⟩
      refine ⟨rfl, ?_, h2⟩
      rw [List.length_append, h0]
      exact ⟨h1.blk, h1.txns.mono (by omega), h1.nums⟩
    · rw [h0] at hx h
      simp at hx
      subst hx
      refine (cread_com n cp bT 1 fp 1 ys _ A h hf (by decide) (by decide) (show (1 : Nat) < 17 by decide) rfl hr (by decide) hlow).mono ?_
      rintro e w' ⟨rfl, h1, h2⟩
      refine ⟨rfl, ?_, h2⟩
      rw [List.length_append, h0]
      exact h1
/-- what stands behind an opening of a coordinator -/
def CoPost (ys : List Nat) (B p bD bN n : Nat) (R : ALog × ADisk × Nat) (w : World) (e : Ending) (w' : World) : Prop :=
  ∃ cp gp bT lp, e = .returned (.tuple #[.pointer (some ⟨cp, 0, none⟩), .nilIface]) ∧ CL w' B cp gp bT R.1.recs.length lp p bD bN n { cst ys R.1.recs.length with next := (cst ys R.1.recs.length).limit } R.1 R.2.1 ∧ (w.heap.size ≤ cp ∧ w.heap.size ≤ bT) ∧ SDFr p [] w w'
/-- what an opening needs -/
structure CoPre (ys : List Nat) (B p bD bN n : Nat) (R : ALog × ADisk × Nat) (w : World) : Prop where
  disk : ∃ pv d nD nN, DiskIn w B p bD bN pv d n nD nN
  jop : ∀ W, Fr [] w W → Calls Tryz.prog 82 #[dskV p] W (OpenPost B p bD bN n R W)
  plain : PlainR R.1.recs
  first : firstN R.1.recs R.1.next = 1
  byt : ∀ r ∈ R.1.recs, Byt r.pay ∧ r.pay.length ≤ 4096
  ents : Ents ys R.1.recs
  num : n ≤ 67108864
theorem cst_nums (ys : List Nat) (k : Nat) : (cst ys k).next < 18446744073709551616 ∧ (cst ys k).limit < 18446744073709551616 ∧ (cst ys k).ticks < 18446744073709551616 := by
  unfold cst
  split
  · decide
  · split <;> exact ⟨show (0 : Nat) < _ by decide, show (17 : Nat) < _ by decide, show (0 : Nat) < _ by decide⟩
set_option maxRecDepth 100000 in
set_option maxHeartbeats 4000000 in
theorem coOpen_any (ys : List Nat) (B p bD bN n : Nat) (R : ALog × ADisk × Nat) (w : World) (h : CoPre ys B p bD bN n R w) :
    Calls Tryz.prog 84 #[dskV p] w (CoPost ys B p bD bN n R w) := by
  have hmm := @run_makeMap Tryz.prog
  obtain ⟨pv, d, nD, nN, hd⟩ := h.disk
  have hbase := hd.base
  have hnl := hd.now.lt
  have hdl := hd.dur.lt
  obtain ⟨W, hW⟩ : ∃ W, W = (w.alloc (.map #[] 0)).alloc (coO 0 w.heap.size ⟨[], 0, 1, 0⟩ (.slice none 0 0) (.slice none 0 0)) := ⟨_, rfl⟩
  have hfr : Fr [] w W := by rw [hW]; exact ((Fr.refl [] w).alloc _).alloc _
  have hsz : W.heap.size = w.heap.size + 2 := by rw [hW]; simp
  have hb0 : W.heap[w.heap.size + 1]? = some (coO 0 w.heap.size ⟨[], 0, 1, 0⟩ (.slice none 0 0) (.slice none 0 0)) := by
    rw [hW]; have := heap_alloc_new (w.alloc (.map #[] 0)) (coO 0 w.heap.size ⟨[], 0, 1, 0⟩ (.slice none 0 0) (.slice none 0 0)); rwa [World.size_alloc] at this
  have hin : CoZ W (w.heap.size + 1) w.heap.size 0 (cst ys 0) := by
    refine ⟨hb0, ?_, cst_nums ys 0⟩
    rw [hW]; exact (MapAs.made (KR := KU) (ER := EX) w).fr ((Fr.refl [] _).alloc _) (by simp)
  have hlo := cled_open B p bD bN n (w.heap.size + 1) w.heap.size R (fun pre A => CoZ A (w.heap.size + 1) w.heap.size pre.length (cst ys pre.length)) W hin (fun pre A A' hA _ hb => hA.keep hb) ⟨_, hb0⟩ hin.txns.isMap ⟨_, _, _, _, hd.new hfr⟩ ⟨by omega, by omega⟩
    (fun W' hW' => h.jop W' (hfr.trans hW')) h.plain h.first h.byt (fun pre x n' fp A hp hA h1 h2 hfa => cread_ent ys R.1.recs pre x n' _ _ fp A h.ents hp hA ⟨h1, h2⟩ hfa) h.num
  have HF := toHid (show Fr [] w W ∧ DiskIn w B p bD bN pv d n nD nN from ⟨hfr, hd⟩)
  clear h hfr hd hin hb0
  go_enter Tryz.func84, Tryz.ntmps84
  go_wp2_with fail
  have hW2 : W = (w.alloc (.map #[] 0)).alloc (.cells #[.pointer none, .map (some w.heap.size), .int .u64 0, .int .u64 1, .int .u64 0, .slice none 0 0, .slice none 0 0] 147) := hW
  rw [← hW2]
  clear hW hW2
  refine hlo.mono ?_
  clear hlo
  rintro e w1 ⟨gp, lp, rfl, hin1, ⟨pv1, sv1, rv1, nD1, nN1, hl1⟩, hg1, hgp, hsd1⟩
  have c0 := blk_cell hin1.blk 0
  have c2 := blk_cell hin1.blk 2
  have c3 := blk_cell hin1.blk 3
  have f0 := blk_free hin1.blk 0
  have f2 := blk_free hin1.blk 2
  simp at c0 c2 c3
  obtain ⟨K, hK⟩ : ∃ K, K = cst ys R.1.recs.length := ⟨_, rfl⟩
  have hnums := cst_nums ys R.1.recs.length
  have HK := toHid hK
  rw [← hK] at hin1 c2 c3 hnums
  clear hK
  obtain ⟨W2, hW2⟩ : ∃ W2, W2 = (w1.setCell ⟨w.heap.size + 1, 0, none⟩ (.pointer (some ⟨gp, 0, none⟩))).setCell ⟨w.heap.size + 1, 2, none⟩ (.int .u64 (K.limit : Int)) := ⟨_, rfl⟩
  have hf2 : Fr [w.heap.size + 1] w1 W2 := by rw [hW2]; exact (Fr.set1 (by simp) _ _).trans (Fr.set1 (by simp) _ _)
  have hgp1 : 1 ≤ gp := by omega
  have hb2 : W2.heap[w.heap.size + 1]? = some (coO gp w.heap.size { K with next := K.limit } (.slice none 0 0) (.slice none 0 0)) := by
    have := blk_set (blk_set hin1.blk 0 (.pointer (some ⟨gp, 0, none⟩))) 2 (.int .u64 (K.limit : Int))
    simp at this
    rw [hW2]; unfold coO; rw [lgP_pos hgp1]; exact this
  have HS := toHid (show CL W2 B (w.heap.size + 1) gp w.heap.size R.1.recs.length lp p bD bN n { K with next := K.limit } R.1 R.2.1 ∧ SDFr p [] w W2 from by
    refine ⟨⟨⟨⟨_, _, 0, 0, [], [], hb2, World.ownsRow_nil _ _ _ _, World.ownsRow_nil _ _ _ _, Nat.zero_le _, Nat.zero_le _⟩, hin1.txns.fr hf2 (by simp), ⟨by omega, by omega, by have := hf2.size; have := hsd1.size; omega⟩, ⟨hnums.2.1, hnums.2.1, hnums.2.2⟩⟩, ⟨pv1, sv1, rv1, nD1, nN1, hl1.apart hf2 (fun k hk _ => ?_)⟩, (hf2.block gp (Array.getElem?_eq_some_iff.1 hg1).1 (by simp; omega)).trans hg1, ⟨by omega, by omega⟩, hgp1⟩, ?_⟩
    · simp at hk
      subst hk
      exact ⟨hl1.free hin1.blk (by decide) (by decide) (by decide) (by decide) (by decide), fun t e => by rw [hin1.blk] at e; cases e⟩
    · have hf0 := HF.out.1
      have hd0 := HF.out.2
      refine ⟨hf2.os.trans (hsd1.os.trans hf0.os), hf2.tape.trans (hsd1.tape.trans hf0.tape), hf2.output.trans (hsd1.output.trans hf0.output), by have := hf2.size; have := hsd1.size; omega, fun k hk ho _ => ?_⟩
      rw [hf2.block k (by have := hsd1.size; omega) (by simp; omega), hsd1.block k (by omega) (fun ho' => ho ((hd0.ownD k).2 (((hd0.new hf0).ownD k).1 ho'))) (by simp; omega), hf0.block k hk (by simp)])
  have d2 : (w1.setCell ⟨w.heap.size + 1, 0, none⟩ (.pointer (some ⟨gp, 0, none⟩))).cell? ⟨w.heap.size + 1, 2, none⟩ = some (.int .u64 (K.next : Int)) := by
    have := blk_cell (blk_set hin1.blk 0 (.pointer (some ⟨gp, 0, none⟩))) 2
    simpa using this
  have d3 : (w1.setCell ⟨w.heap.size + 1, 0, none⟩ (.pointer (some ⟨gp, 0, none⟩))).cell? ⟨w.heap.size + 1, 3, none⟩ = some (.int .u64 (K.limit : Int)) := by
    have := blk_cell (blk_set hin1.blk 0 (.pointer (some ⟨gp, 0, none⟩))) 3
    simpa using this
  have g2 : (w1.setCell ⟨w.heap.size + 1, 0, none⟩ (.pointer (some ⟨gp, 0, none⟩))).frozen? ⟨w.heap.size + 1, 2, none⟩ = false := blk_free (blk_set hin1.blk 0 (.pointer (some ⟨gp, 0, none⟩))) 2
  clear hin1 hl1 hg1 hsd1 hf2 hb2 c2 c3 f2
  go_wp2
  rw [← hW2]
  go_ret2
  exact ⟨w.heap.size + 1, gp, w.heap.size, lp, rfl, by rw [← HK.out]; exact HS.out.1, ⟨by omega, by omega⟩, HS.out.2⟩
set_option maxHeartbeats 1000000 in
theorem openCo_any (ys : List Nat) (B p bD bN n : Nat) (R : ALog × ADisk × Nat) (w : World) (h : CoPre ys B p bD bN n R w) :
    Calls Tryz.prog 47 #[dskV p] w (CoPost ys B p bD bN n R w) := by
  have HC := toHid (coOpen_any ys B p bD bN n R w h)
  clear h
  go_enter Tryz.func47, Tryz.ntmps47
  go_wp2_with fail
  refine HC.out.mono ?_
  rintro e w1 ⟨cp, gp, bT, lp, rfl, h1⟩
  have H1 := toHid h1
  clear h1
  go_wp2
  go_ret2
  exact ⟨cp, gp, bT, lp, rfl, H1.out⟩
end Go.Proofs.YtejiankgafjppabGreatDoor
/- HOSTS OF A COORDINATOR: before, after, close; Begin, Vote, Done, Answer. (Written by mkhoc.py.) -/
namespace Go.Proofs.YtejiankgafjppabGreatDoor
open Go.RowKit Go.Maps
open Sc

abbrev hostC (p : Nat) (up : Bool) (lv : Value) : Obj := .cells #[.int .i64 3, .int .i64 0, .pointer (some ⟨p, 0, none⟩), .bool up, .pointer none, .pointer none, lv, .pointer none] 87
set_option maxRecDepth 100000 in
set_option maxHeartbeats 1000000 in
theorem before_c (hp p bD bN : Nat) (pv lv : Value) (up dn : Bool) (l f a b c k : Int) (w : World) (hh : w.heap[hp]? = some (hostC p up lv)) (hd : w.heap[p]? = some (dskO bD bN pv l f dn)) :
    Calls Tryz.prog 37 #[.pointer (some ⟨hp, 0, none⟩), fallV a b c k] w fun e w' => e = .returned (.tuple #[]) ∧ w'.heap[p]? = some (dskO bD bN pv a b dn) ∧ Fr [p] w w' := by
  have hhl : hp < w.heap.size := (Array.getElem?_eq_some_iff.1 hh).1
  have hpl : p < w.heap.size := (Array.getElem?_eq_some_iff.1 hd).1
  have hne : ¬ hp = p := by intro e; subst e; rw [hh] at hd; cases hd
  have hne2 : ¬ p = hp := fun e => hne e.symm
  have hz1 : ¬ p = w.heap.size := by omega
  have hz2 : ¬ w.heap.size = p := by omega
  obtain ⟨W, hW⟩ : ∃ W, W = w.alloc (.cells #[.int .i64 a, .int .i64 b, .int .i64 c, .int .i64 k] 25) := ⟨_, rfl⟩
  have hhW : W.heap[hp]? = some (hostC p up lv) := by rw [hW, Below.heap_alloc w _ hp hhl]; exact hh
  have hdW : W.heap[p]? = some (dskO bD bN pv l f dn) := by rw [hW, Below.heap_alloc w _ p hpl]; exact hd
  have hfW : W.heap[w.heap.size]? = some (.cells #[.int .i64 a, .int .i64 b, .int .i64 c, .int .i64 k] 25 (0, 0)) := by rw [hW]; exact heap_alloc_new w _
  have c2 := blk_cell hhW 2
  have c3 := blk_cell hdW 3
  have c4 := blk_cell hdW 4
  have c5 := blk_cell hdW 5
  have f3 := blk_free hdW 3
  have f4 := blk_free hdW 4
  have x0 := blk_cell hfW 0
  have x1 := blk_cell hfW 1
  simp at c2 c3 c4 c5 x0 x1
  have HD : Hid (W.heap[p]? = some (dskO bD bN pv l f dn)) := hdW
  have HF : Hid (Fr [p] w W) := by rw [hW]; exact (Fr.refl [p] w).alloc _
  clear hd hh hhW hdW hfW
  clear c5
  go_enter Tryz.func37, Tryz.ntmps37
  go_wp2
  rw [← hW]
  clear hW
  go_region_held3 (fun w' => w'.cell? ⟨hp, 2, none⟩ = some (.pointer (some ⟨p, 0, none⟩)) ∧ w'.cell? ⟨w.heap.size, 0, none⟩ = some (.int .i64 a) ∧ w'.cell? ⟨w.heap.size, 1, none⟩ = some (.int .i64 b)) (simp [setCell_far, *]) (fail)
  go_end0
  refine ⟨rfl, ?_, HF.out.trans (((Fr.set1 (by simp) _ _).trans (Fr.set1 (by simp) _ _)).drew)⟩
  have := blk_set (blk_set HD.out 3 (.int .i64 a)) 4 (.int .i64 b)
  simp at this
  exact this
set_option maxRecDepth 100000 in
set_option maxHeartbeats 1000000 in
theorem after_c (hp p bD bN : Nat) (pv lv : Value) (up : Bool) (l f a b c k : Int) (w : World) (hh : w.heap[hp]? = some (hostC p up lv)) (hd : w.heap[p]? = some (dskO bD bN pv l f false)) :
    Calls Tryz.prog 39 #[.pointer (some ⟨hp, 0, none⟩), fallV a b c k] w fun e w' => e = .returned (.tuple #[]) ∧ w'.heap[p]? = some (dskO bD bN pv (-1) (-1) false) ∧ Fr [p] w w' := by
  have hhl : hp < w.heap.size := (Array.getElem?_eq_some_iff.1 hh).1
  have hpl : p < w.heap.size := (Array.getElem?_eq_some_iff.1 hd).1
  have hne : ¬ hp = p := by intro e; subst e; rw [hh] at hd; cases hd
  have hne2 : ¬ p = hp := fun e => hne e.symm
  have hz1 : ¬ p = w.heap.size := by omega
  have hz2 : ¬ w.heap.size = p := by omega
  obtain ⟨W, hW⟩ : ∃ W, W = w.alloc (.cells #[.int .i64 a, .int .i64 b, .int .i64 c, .int .i64 k] 25) := ⟨_, rfl⟩
  have hhW : W.heap[hp]? = some (hostC p up lv) := by rw [hW, Below.heap_alloc w _ hp hhl]; exact hh
  have hdW : W.heap[p]? = some (dskO bD bN pv l f false) := by rw [hW, Below.heap_alloc w _ p hpl]; exact hd
  have hfW : W.heap[w.heap.size]? = some (.cells #[.int .i64 a, .int .i64 b, .int .i64 c, .int .i64 k] 25 (0, 0)) := by rw [hW]; exact heap_alloc_new w _
  have c2 := blk_cell hhW 2
  have c3 := blk_cell hdW 3
  have c4 := blk_cell hdW 4
  have c5 := blk_cell hdW 5
  have f3 := blk_free hdW 3
  have f4 := blk_free hdW 4
  have x0 := blk_cell hfW 0
  have x1 := blk_cell hfW 1
  simp at c2 c3 c4 c5 x0 x1
  have HD : Hid (W.heap[p]? = some (dskO bD bN pv l f false)) := hdW
  have HF : Hid (Fr [p] w W) := by rw [hW]; exact (Fr.refl [p] w).alloc _
  clear hd hh hhW hdW hfW
  go_enter Tryz.func39, Tryz.ntmps39
  have d2 := c2
  have d5 := c5
  rw [hW] at d2 d5
  go_wp2
  rw [← hW]
  clear hW d2 d5
  go_region_held3 (fun w' => w'.cell? ⟨hp, 2, none⟩ = some (.pointer (some ⟨p, 0, none⟩))) (simp [setCell_far, *]) (fail)
  go_end0
  refine ⟨rfl, ?_, HF.out.trans (((Fr.set1 (by simp) _ _).trans (Fr.set1 (by simp) _ _)).drew)⟩
  have := blk_set (blk_set HD.out 3 (.int .i64 (-1))) 4 (.int .i64 (-1))
  simp at this
  exact this
set_option maxRecDepth 100000 in
set_option maxHeartbeats 1000000 in
theorem close_c (hp p : Nat) (up : Bool) (lv : Value) (hlv : ∃ x, lv = .pointer x) (w : World) (hh : w.heap[hp]? = some (hostC p up lv)) :
    Calls Tryz.prog 43 #[.pointer (some ⟨hp, 0, none⟩)] w fun e w' => e = .returned (.tuple #[]) ∧ w'.heap[hp]? = some (hostC p false (.pointer none)) ∧ Fr [hp] w w' := by
  obtain ⟨x, rfl⟩ := hlv
  have c3 := blk_cell hh 3
  have c4 := blk_cell hh 4
  have c5 := blk_cell hh 5
  have c6 := blk_cell hh 6
  have c7 := blk_cell hh 7
  have f3 := blk_free hh 3
  have f4 := blk_free hh 4
  have f5 := blk_free hh 5
  have f6 := blk_free hh 6
  have f7 := blk_free hh 7
  simp at c3 c4 c5 c6 c7
  have HH : Hid (w.heap[hp]? = some (hostC p up (.pointer x))) := hh
  clear hh
  go_enter Tryz.func43, Tryz.ntmps43
  go_wp2
  go_end0
  refine ⟨rfl, ?_, ((((Fr.set1 (by simp) _ _).trans (Fr.set1 (by simp) _ _)).trans (Fr.set1 (by simp) _ _)).trans (Fr.set1 (by simp) _ _)).trans (Fr.set1 (by simp) _ _)⟩
  have := blk_set (blk_set (blk_set (blk_set (blk_set HH.out 3 (.bool false)) 4 (.pointer none)) 5 (.pointer none)) 6 (.pointer none)) 7 (.pointer none)
  simp at this
  exact this
/-- an open host of a coordinator -/
def HCt (w : World) (B hp m n : Nat) (c : ACo) (l : ALog) (d : ADisk) : Prop :=
  ∃ p cp gp bT lp bD bN, w.heap[hp]? = some (hostC p true (.pointer (some ⟨cp, 0, none⟩))) ∧ CL w B cp gp bT m lp p bD bN n c l d
section
variable {w w' : World} {B hp m n : Nat} {c : ACo} {l : ALog} {d : ADisk}
theorem HCt.new (h : HCt w B hp m n c l d) (hf : Fr [] w w') : HCt w' B hp m n c l d ∧ IFr B w w' := by
  obtain ⟨p, cp, gp, bT, lp, bD, bN, hh, hs⟩ := h
  obtain ⟨hs1, hx1⟩ := hs.new hf
  exact ⟨⟨p, cp, gp, bT, lp, bD, bN, hx1.cells hs hh (by decide) (by decide) (by decide) (by decide) (by decide) (by decide) (by decide) (by decide), hs1⟩, hx1.hfr hs⟩
end
set_option maxRecDepth 100000 in
set_option maxHeartbeats 4000000 in
theorem hBegin_c (B hp cp gp bT m lp p bD bN n  : Nat) (s : ACo) (l : ALog) (d : ADisk) (a b c k : Int) (w : World) (Q : Nat → Nat → ACo → ALog → ADisk → Nat → Nat → Prop) (hh : w.heap[hp]? = some (hostC p true (.pointer (some ⟨cp, 0, none⟩)))) (hs : CL w B cp gp bT m lp p bD bN n s l d) (hB : 2 ≤ B) (hmet : Met w)
    (hX : ∀ w1, CL w1 B cp gp bT m lp p bD bN n s l (d.knob a b) → IFr B w w1 → Calls Tryz.prog 52 #[.pointer (some ⟨cp, 0, none⟩)] w1 fun e w2 => ∃ v x s' l' d' m' n', Q v x s' l' d' m' n' ∧ e = .returned (.tuple #[.int .u64 (v : Int), errN x]) ∧ CL w2 B cp gp bT m' lp p bD bN n' s' l' d' ∧ d'.down = false ∧ CFr B cp bT lp p w1 w2) :
    Calls Tryz.prog 21 #[.pointer (some ⟨hp, 0, none⟩), fallV a b c k] w fun e w' => ∃ v x s' l' d' m' n', Q v x s' l' d' m' n' ∧ e = .returned (.tuple #[.int .u64 (v : Int), .int .i64 (x : Int)]) ∧ HCt w' B hp m' n' s' l' (d'.knob (-1) (-1)) ∧ IFr B w w' := by
  obtain ⟨W, hW⟩ : ∃ W, W = w.alloc (fallO a b c k) := ⟨_, rfl⟩
  have hf0 : Fr [] w W := by rw [hW]; exact (Fr.refl [] w).alloc _
  obtain ⟨hs0, hx0⟩ := hs.new hf0
  have hh0 := hx0.cells hs hh (by decide) (by decide) (by decide) (by decide) (by decide) (by decide) (by decide) (by decide)
  have hfa0 : W.heap[w.heap.size]? = some (fallO a b c k) := by rw [hW]; exact heap_alloc_new w _
  have hr0 := hx0.hfr hs
  have c6 := blk_cell hh0 6
  have x0 := blk_cell hfa0 0
  have x1 := blk_cell hfa0 1
  have x2 := blk_cell hfa0 2
  have x3 := blk_cell hfa0 3
  simp at c6 x0 x1 x2 x3
  rw [hW] at c6 x0 x1 x2 x3
  obtain ⟨pv0, hd0⟩ : ∃ pv, W.heap[p]? = some (dskO bD bN pv d.left d.full d.down) := by obtain ⟨pv, sv, rv, nD, nN, hl⟩ := hs0.lg; exact ⟨pv, hl.disk.blk⟩
  have H0 : Hid (CL W B cp gp bT m lp p bD bN n s l d ∧ W.heap[hp]? = some (hostC p true (.pointer (some ⟨cp, 0, none⟩))) ∧ W.heap[w.heap.size]? = some (fallO a b c k) ∧ IFr B w W ∧ W.heap[p]? = some (dskO bD bN pv0 d.left d.full d.down)) := ⟨hs0, hh0, hfa0, hr0, hd0⟩
  clear hs hh hf0 hs0 hx0 hh0 hfa0 hr0 hd0
  go_enter Tryz.func21, Tryz.ntmps21
  go_wp2_with fail
  rw [← hW]
  clear hW c6 x0 x1 x2 x3
  refine (before_c hp p bD bN pv0 _ true d.down d.left d.full a b c k W H0.out.2.1 H0.out.2.2.2.2).mono ?_
  rintro e w1 ⟨rfl, hb1, hf1⟩
  obtain ⟨hs1, hx1⟩ := H0.out.1.knob a b hf1 hb1 H0.out.2.2.2.2
  have hh1 := hx1.cells H0.out.1 H0.out.2.1 (by decide) (by decide) (by decide) (by decide) (by decide) (by decide) (by decide) (by decide)
  have hfa1 := hx1.cells H0.out.1 H0.out.2.2.1 (by decide) (by decide) (by decide) (by decide) (by decide) (by decide) (by decide) (by decide)
  have hr1 := H0.out.2.2.2.1.trans (hx1.hfr H0.out.1)
  have hap := hX w1 hs1 hr1
  have k6 := blk_cell hh1 6
  simp at k6
  have H1 : Hid (CL w1 B cp gp bT m lp p bD bN n s l (d.knob a b) ∧ w1.heap[hp]? = some (hostC p true (.pointer (some ⟨cp, 0, none⟩))) ∧ w1.heap[w.heap.size]? = some (fallO a b c k) ∧ IFr B w w1) := ⟨hs1, hh1, hfa1, hr1⟩
  clear hs1 hx1 hh1 hfa1 hr1 hb1 hf1 hX H0
  go_wp2_with fail
  refine hap.mono ?_
  clear hap
  rintro e w2 ⟨v, x, s', l', d', m', n', hQ, rfl, hs2, hdn, hx2⟩
  have hh2 := hx2.cells H1.out.1 H1.out.2.1 (by decide) (by decide) (by decide) (by decide) (by decide) (by decide) (by decide) (by decide)
  have hfa2 := hx2.cells H1.out.1 H1.out.2.2.1 (by decide) (by decide) (by decide) (by decide) (by decide) (by decide) (by decide) (by decide)
  have hr2 := H1.out.2.2.2.trans (hx2.hfr H1.out.1)
  have y0 := blk_cell hfa2 0
  have y1 := blk_cell hfa2 1
  have y2 := blk_cell hfa2 2
  have y3 := blk_cell hfa2 3
  simp at y0 y1 y2 y3
  have hmet2 : Met w2 := hr2.met hB hmet
  obtain ⟨pv2, hd2⟩ : ∃ pv, w2.heap[p]? = some (dskO bD bN pv d'.left d'.full d'.down) := by obtain ⟨pv, sv, rv, nD, nN, hl⟩ := hs2.lg; exact ⟨pv, hl.disk.blk⟩
  have H2 : Hid (CL w2 B cp gp bT m' lp p bD bN n' s' l' d' ∧ w2.heap[hp]? = some (hostC p true (.pointer (some ⟨cp, 0, none⟩))) ∧ IFr B w w2 ∧ w2.heap[p]? = some (dskO bD bN pv2 d'.left d'.full d'.down) ∧ Q v x s' l' d' m' n') := ⟨hs2, hh2, hr2, hd2, hQ⟩
  clear hs2 hx2 hh2 hfa2 hr2 hd2 hQ k6 H1
  go_wp2_with fail
  have hbd := H2.out.2.2.2.1
  rw [hdn] at hbd
  refine (after_c hp p bD bN pv2 _ true d'.left d'.full a b c k w2 H2.out.2.1 hbd).mono ?_
  clear hbd y0 y1 y2 y3
  rintro e w3 ⟨rfl, hb3, hf3⟩
  rw [← hdn] at hb3
  obtain ⟨hs3, hx3⟩ := H2.out.1.knob (-1) (-1) hf3 hb3 H2.out.2.2.2.1
  have hh3 := hx3.cells H2.out.1 H2.out.2.1 (by decide) (by decide) (by decide) (by decide) (by decide) (by decide) (by decide) (by decide)
  have hr3' := hx3.hfr H2.out.1
  have hmet3 : Met w3 := hr3'.met hB hmet2
  have H3 : Hid (CL w3 B cp gp bT m' lp p bD bN n' s' l' (d'.knob (-1) (-1)) ∧ w3.heap[hp]? = some (hostC p true (.pointer (some ⟨cp, 0, none⟩))) ∧ IFr B w w3 ∧ Q v x s' l' d' m' n') := ⟨hs3, hh3, H2.out.2.2.1.trans hr3', H2.out.2.2.2.2⟩
  clear hs3 hx3 hh3 hr3' hb3 hf3 H2
  go_wp2_with fail
  refine (told_any x w3 hmet3).mono ?_
  rintro e w4 ⟨rfl, hf4⟩
  obtain ⟨hs4, hx4⟩ := H3.out.1.new hf4
  have hh4 := hx4.cells H3.out.1 H3.out.2.1 (by decide) (by decide) (by decide) (by decide) (by decide) (by decide) (by decide) (by decide)
  have hr4 := H3.out.2.2.1.trans (hx4.hfr H3.out.1)
  have H4 : Hid (Q v x s' l' d' m' n' ∧ HCt w4 B hp m' n' s' l' (d'.knob (-1) (-1)) ∧ IFr B w w4) := ⟨H3.out.2.2.2, ⟨p, cp, gp, bT, lp, bD, bN, hh4, hs4⟩, hr4⟩
  clear hs4 hx4 hh4 hr4 hf4 H3
  go_wp2
  go_ret2
  exact ⟨v, x, s', l', d', m', n', H4.out.1, rfl, H4.out.2⟩
set_option maxRecDepth 100000 in
set_option maxHeartbeats 4000000 in
theorem hVote_c (B hp cp gp bT m lp p bD bN n t kk vv : Nat) (s : ACo) (l : ALog) (d : ADisk) (a b c k : Int) (w : World) (Q : Nat → Nat → ACo → ALog → ADisk → Nat → Nat → Prop) (hh : w.heap[hp]? = some (hostC p true (.pointer (some ⟨cp, 0, none⟩)))) (hs : CL w B cp gp bT m lp p bD bN n s l d) (hB : 2 ≤ B) (hmet : Met w)
    (hX : ∀ w1, CL w1 B cp gp bT m lp p bD bN n s l (d.knob a b) → IFr B w w1 → Calls Tryz.prog 55 #[.pointer (some ⟨cp, 0, none⟩), .int .u64 (t : Int), .int .i64 (kk : Int), .int .i64 (vv : Int)] w1 fun e w2 => ∃ v x s' l' d' m' n', Q v x s' l' d' m' n' ∧ e = .returned (errN x) ∧ CL w2 B cp gp bT m' lp p bD bN n' s' l' d' ∧ d'.down = false ∧ CFr B cp bT lp p w1 w2) :
    Calls Tryz.prog 24 #[.pointer (some ⟨hp, 0, none⟩), .int .u64 (t : Int), .int .i64 (kk : Int), .int .i64 (vv : Int), fallV a b c k] w fun e w' => ∃ v x s' l' d' m' n', Q v x s' l' d' m' n' ∧ e = .returned (.int .i64 (x : Int)) ∧ HCt w' B hp m' n' s' l' (d'.knob (-1) (-1)) ∧ IFr B w w' := by
  obtain ⟨W, hW⟩ : ∃ W, W = w.alloc (fallO a b c k) := ⟨_, rfl⟩
  have hf0 : Fr [] w W := by rw [hW]; exact (Fr.refl [] w).alloc _
  obtain ⟨hs0, hx0⟩ := hs.new hf0
  have hh0 := hx0.cells hs hh (by decide) (by decide) (by decide) (by decide) (by decide) (by decide) (by decide) (by decide)
  have hfa0 : W.heap[w.heap.size]? = some (fallO a b c k) := by rw [hW]; exact heap_alloc_new w _
  have hr0 := hx0.hfr hs
  have c6 := blk_cell hh0 6
  have x0 := blk_cell hfa0 0
  have x1 := blk_cell hfa0 1
  have x2 := blk_cell hfa0 2
  have x3 := blk_cell hfa0 3
  simp at c6 x0 x1 x2 x3
  rw [hW] at c6 x0 x1 x2 x3
  obtain ⟨pv0, hd0⟩ : ∃ pv, W.heap[p]? = some (dskO bD bN pv d.left d.full d.down) := by obtain ⟨pv, sv, rv, nD, nN, hl⟩ := hs0.lg; exact ⟨pv, hl.disk.blk⟩
  have H0 : Hid (CL W B cp gp bT m lp p bD bN n s l d ∧ W.heap[hp]? = some (hostC p true (.pointer (some ⟨cp, 0, none⟩))) ∧ W.heap[w.heap.size]? = some (fallO a b c k) ∧ IFr B w W ∧ W.heap[p]? = some (dskO bD bN pv0 d.left d.full d.down)) := ⟨hs0, hh0, hfa0, hr0, hd0⟩
  clear hs hh hf0 hs0 hx0 hh0 hfa0 hr0 hd0
  go_enter Tryz.func24, Tryz.ntmps24
  go_wp2_with fail
  rw [← hW]
  clear hW c6 x0 x1 x2 x3
  refine (before_c hp p bD bN pv0 _ true d.down d.left d.full a b c k W H0.out.2.1 H0.out.2.2.2.2).mono ?_
  rintro e w1 ⟨rfl, hb1, hf1⟩
  obtain ⟨hs1, hx1⟩ := H0.out.1.knob a b hf1 hb1 H0.out.2.2.2.2
  have hh1 := hx1.cells H0.out.1 H0.out.2.1 (by decide) (by decide) (by decide) (by decide) (by decide) (by decide) (by decide) (by decide)
  have hfa1 := hx1.cells H0.out.1 H0.out.2.2.1 (by decide) (by decide) (by decide) (by decide) (by decide) (by decide) (by decide) (by decide)
  have hr1 := H0.out.2.2.2.1.trans (hx1.hfr H0.out.1)
  have hap := hX w1 hs1 hr1
  have k6 := blk_cell hh1 6
  simp at k6
  have H1 : Hid (CL w1 B cp gp bT m lp p bD bN n s l (d.knob a b) ∧ w1.heap[hp]? = some (hostC p true (.pointer (some ⟨cp, 0, none⟩))) ∧ w1.heap[w.heap.size]? = some (fallO a b c k) ∧ IFr B w w1) := ⟨hs1, hh1, hfa1, hr1⟩
  clear hs1 hx1 hh1 hfa1 hr1 hb1 hf1 hX H0
  go_wp2_with fail
  refine hap.mono ?_
  clear hap
  rintro e w2 ⟨v, x, s', l', d', m', n', hQ, rfl, hs2, hdn, hx2⟩
  have hh2 := hx2.cells H1.out.1 H1.out.2.1 (by decide) (by decide) (by decide) (by decide) (by decide) (by decide) (by decide) (by decide)
  have hfa2 := hx2.cells H1.out.1 H1.out.2.2.1 (by decide) (by decide) (by decide) (by decide) (by decide) (by decide) (by decide) (by decide)
  have hr2 := H1.out.2.2.2.trans (hx2.hfr H1.out.1)
  have y0 := blk_cell hfa2 0
  have y1 := blk_cell hfa2 1
  have y2 := blk_cell hfa2 2
  have y3 := blk_cell hfa2 3
  simp at y0 y1 y2 y3
  have hmet2 : Met w2 := hr2.met hB hmet
  obtain ⟨pv2, hd2⟩ : ∃ pv, w2.heap[p]? = some (dskO bD bN pv d'.left d'.full d'.down) := by obtain ⟨pv, sv, rv, nD, nN, hl⟩ := hs2.lg; exact ⟨pv, hl.disk.blk⟩
  have H2 : Hid (CL w2 B cp gp bT m' lp p bD bN n' s' l' d' ∧ w2.heap[hp]? = some (hostC p true (.pointer (some ⟨cp, 0, none⟩))) ∧ IFr B w w2 ∧ w2.heap[p]? = some (dskO bD bN pv2 d'.left d'.full d'.down) ∧ Q v x s' l' d' m' n') := ⟨hs2, hh2, hr2, hd2, hQ⟩
  clear hs2 hx2 hh2 hfa2 hr2 hd2 hQ k6 H1
  go_wp2_with fail
  have hbd := H2.out.2.2.2.1
  rw [hdn] at hbd
  refine (after_c hp p bD bN pv2 _ true d'.left d'.full a b c k w2 H2.out.2.1 hbd).mono ?_
  clear hbd y0 y1 y2 y3
  rintro e w3 ⟨rfl, hb3, hf3⟩
  rw [← hdn] at hb3
  obtain ⟨hs3, hx3⟩ := H2.out.1.knob (-1) (-1) hf3 hb3 H2.out.2.2.2.1
  have hh3 := hx3.cells H2.out.1 H2.out.2.1 (by decide) (by decide) (by decide) (by decide) (by decide) (by decide) (by decide) (by decide)
  have hr3' := hx3.hfr H2.out.1
  have hmet3 : Met w3 := hr3'.met hB hmet2
  have H3 : Hid (CL w3 B cp gp bT m' lp p bD bN n' s' l' (d'.knob (-1) (-1)) ∧ w3.heap[hp]? = some (hostC p true (.pointer (some ⟨cp, 0, none⟩))) ∧ IFr B w w3 ∧ Q v x s' l' d' m' n') := ⟨hs3, hh3, H2.out.2.2.1.trans hr3', H2.out.2.2.2.2⟩
  clear hs3 hx3 hh3 hr3' hb3 hf3 H2
  go_wp2_with fail
  refine (told_any x w3 hmet3).mono ?_
  rintro e w4 ⟨rfl, hf4⟩
  obtain ⟨hs4, hx4⟩ := H3.out.1.new hf4
  have hh4 := hx4.cells H3.out.1 H3.out.2.1 (by decide) (by decide) (by decide) (by decide) (by decide) (by decide) (by decide) (by decide)
  have hr4 := H3.out.2.2.1.trans (hx4.hfr H3.out.1)
  have H4 : Hid (Q v x s' l' d' m' n' ∧ HCt w4 B hp m' n' s' l' (d'.knob (-1) (-1)) ∧ IFr B w w4) := ⟨H3.out.2.2.2, ⟨p, cp, gp, bT, lp, bD, bN, hh4, hs4⟩, hr4⟩
  clear hs4 hx4 hh4 hr4 hf4 H3
  go_wp2
  go_ret
  exact ⟨v, x, s', l', d', m', n', H4.out.1, rfl, H4.out.2⟩
set_option maxRecDepth 100000 in
set_option maxHeartbeats 4000000 in
theorem hDone_c (B hp cp gp bT m lp p bD bN n t kk : Nat) (s : ACo) (l : ALog) (d : ADisk) (a b c k : Int) (w : World) (Q : Nat → Nat → ACo → ALog → ADisk → Nat → Nat → Prop) (hh : w.heap[hp]? = some (hostC p true (.pointer (some ⟨cp, 0, none⟩)))) (hs : CL w B cp gp bT m lp p bD bN n s l d) (hB : 2 ≤ B) (hmet : Met w)
    (hX : ∀ w1, CL w1 B cp gp bT m lp p bD bN n s l (d.knob a b) → IFr B w w1 → Calls Tryz.prog 56 #[.pointer (some ⟨cp, 0, none⟩), .int .u64 (t : Int), .int .i64 (kk : Int)] w1 fun e w2 => ∃ v x s' l' d' m' n', Q v x s' l' d' m' n' ∧ e = .returned (errN x) ∧ CL w2 B cp gp bT m' lp p bD bN n' s' l' d' ∧ d'.down = false ∧ CFr B cp bT lp p w1 w2) :
    Calls Tryz.prog 25 #[.pointer (some ⟨hp, 0, none⟩), .int .u64 (t : Int), .int .i64 (kk : Int), fallV a b c k] w fun e w' => ∃ v x s' l' d' m' n', Q v x s' l' d' m' n' ∧ e = .returned (.int .i64 (x : Int)) ∧ HCt w' B hp m' n' s' l' (d'.knob (-1) (-1)) ∧ IFr B w w' := by
  obtain ⟨W, hW⟩ : ∃ W, W = w.alloc (fallO a b c k) := ⟨_, rfl⟩
  have hf0 : Fr [] w W := by rw [hW]; exact (Fr.refl [] w).alloc _
  obtain ⟨hs0, hx0⟩ := hs.new hf0
  have hh0 := hx0.cells hs hh (by decide) (by decide) (by decide) (by decide) (by decide) (by decide) (by decide) (by decide)
  have hfa0 : W.heap[w.heap.size]? = some (fallO a b c k) := by rw [hW]; exact heap_alloc_new w _
  have hr0 := hx0.hfr hs
  have c6 := blk_cell hh0 6
  have x0 := blk_cell hfa0 0
  have x1 := blk_cell hfa0 1
  have x2 := blk_cell hfa0 2
  have x3 := blk_cell hfa0 3
  simp at c6 x0 x1 x2 x3
  rw [hW] at c6 x0 x1 x2 x3
  obtain ⟨pv0, hd0⟩ : ∃ pv, W.heap[p]? = some (dskO bD bN pv d.left d.full d.down) := by obtain ⟨pv, sv, rv, nD, nN, hl⟩ := hs0.lg; exact ⟨pv, hl.disk.blk⟩
  have H0 : Hid (CL W B cp gp bT m lp p bD bN n s l d ∧ W.heap[hp]? = some (hostC p true (.pointer (some ⟨cp, 0, none⟩))) ∧ W.heap[w.heap.size]? = some (fallO a b c k) ∧ IFr B w W ∧ W.heap[p]? = some (dskO bD bN pv0 d.left d.full d.down)) := ⟨hs0, hh0, hfa0, hr0, hd0⟩
  clear hs hh hf0 hs0 hx0 hh0 hfa0 hr0 hd0
  go_enter Tryz.func25, Tryz.ntmps25
  go_wp2_with fail
  rw [← hW]
  clear hW c6 x0 x1 x2 x3
  refine (before_c hp p bD bN pv0 _ true d.down d.left d.full a b c k W H0.out.2.1 H0.out.2.2.2.2).mono ?_
  rintro e w1 ⟨rfl, hb1, hf1⟩
  obtain ⟨hs1, hx1⟩ := H0.out.1.knob a b hf1 hb1 H0.out.2.2.2.2
  have hh1 := hx1.cells H0.out.1 H0.out.2.1 (by decide) (by decide) (by decide) (by decide) (by decide) (by decide) (by decide) (by decide)
  have hfa1 := hx1.cells H0.out.1 H0.out.2.2.1 (by decide) (by decide) (by decide) (by decide) (by decide) (by decide) (by decide) (by decide)
  have hr1 := H0.out.2.2.2.1.trans (hx1.hfr H0.out.1)
  have hap := hX w1 hs1 hr1
  have k6 := blk_cell hh1 6
  simp at k6
  have H1 : Hid (CL w1 B cp gp bT m lp p bD bN n s l (d.knob a b) ∧ w1.heap[hp]? = some (hostC p true (.pointer (some ⟨cp, 0, none⟩))) ∧ w1.heap[w.heap.size]? = some (fallO a b c k) ∧ IFr B w w1) := ⟨hs1, hh1, hfa1, hr1⟩
  clear hs1 hx1 hh1 hfa1 hr1 hb1 hf1 hX H0
  go_wp2_with fail
  refine hap.mono ?_
  clear hap
  rintro e w2 ⟨v, x, s', l', d', m', n', hQ, rfl, hs2, hdn, hx2⟩
  have hh2 := hx2.cells H1.out.1 H1.out.2.1 (by decide) (by decide) (by decide) (by decide) (by decide) (by decide) (by decide) (by decide)
  have hfa2 := hx2.cells H1.out.1 H1.out.2.2.1 (by decide) (by decide) (by decide) (by decide) (by decide) (by decide) (by decide) (by decide)
  have hr2 := H1.out.2.2.2.trans (hx2.hfr H1.out.1)
  have y0 := blk_cell hfa2 0
  have y1 := blk_cell hfa2 1
  have y2 := blk_cell hfa2 2
  have y3 := blk_cell hfa2 3
  simp at y0 y1 y2 y3
  have hmet2 : Met w2 := hr2.met hB hmet
  obtain ⟨pv2, hd2⟩ : ∃ pv, w2.heap[p]? = some (dskO bD bN pv d'.left d'.full d'.down) := by obtain ⟨pv, sv, rv, nD, nN, hl⟩ := hs2.lg; exact ⟨pv, hl.disk.blk⟩
  have H2 : Hid (CL w2 B cp gp bT m' lp p bD bN n' s' l' d' ∧ w2.heap[hp]? = some (hostC p true (.pointer (some ⟨cp, 0, none⟩))) ∧ IFr B w w2 ∧ w2.heap[p]? = some (dskO bD bN pv2 d'.left d'.full d'.down) ∧ Q v x s' l' d' m' n') := ⟨hs2, hh2, hr2, hd2, hQ⟩
  clear hs2 hx2 hh2 hfa2 hr2 hd2 hQ k6 H1
  go_wp2_with fail
  have hbd := H2.out.2.2.2.1
  rw [hdn] at hbd
  refine (after_c hp p bD bN pv2 _ true d'.left d'.full a b c k w2 H2.out.2.1 hbd).mono ?_
  clear hbd y0 y1 y2 y3
  rintro e w3 ⟨rfl, hb3, hf3⟩
  rw [← hdn] at hb3
  obtain ⟨hs3, hx3⟩ := H2.out.1.knob (-1) (-1) hf3 hb3 H2.out.2.2.2.1
  have hh3 := hx3.cells H2.out.1 H2.out.2.1 (by decide) (by decide) (by decide) (by decide) (by decide) (by decide) (by decide) (by decide)
  have hr3' := hx3.hfr H2.out.1
  have hmet3 : Met w3 := hr3'.met hB hmet2
  have H3 : Hid (CL w3 B cp gp bT m' lp p bD bN n' s' l' (d'.knob (-1) (-1)) ∧ w3.heap[hp]? = some (hostC p true (.pointer (some ⟨cp, 0, none⟩))) ∧ IFr B w w3 ∧ Q v x s' l' d' m' n') := ⟨hs3, hh3, H2.out.2.2.1.trans hr3', H2.out.2.2.2.2⟩
  clear hs3 hx3 hh3 hr3' hb3 hf3 H2
  go_wp2_with fail
  refine (told_any x w3 hmet3).mono ?_
  rintro e w4 ⟨rfl, hf4⟩
  obtain ⟨hs4, hx4⟩ := H3.out.1.new hf4
  have hh4 := hx4.cells H3.out.1 H3.out.2.1 (by decide) (by decide) (by decide) (by decide) (by decide) (by decide) (by decide) (by decide)
  have hr4 := H3.out.2.2.1.trans (hx4.hfr H3.out.1)
  have H4 : Hid (Q v x s' l' d' m' n' ∧ HCt w4 B hp m' n' s' l' (d'.knob (-1) (-1)) ∧ IFr B w w4) := ⟨H3.out.2.2.2, ⟨p, cp, gp, bT, lp, bD, bN, hh4, hs4⟩, hr4⟩
  clear hs4 hx4 hh4 hr4 hf4 H3
  go_wp2
  go_ret
  exact ⟨v, x, s', l', d', m', n', H4.out.1, rfl, H4.out.2⟩
set_option maxRecDepth 100000 in
set_option maxHeartbeats 2000000 in
theorem hAnswer_c (B hp m n t : Nat) (c : ACo) (l : ALog) (d : ADisk) (w : World) (h : HCt w B hp m n c l d) (ht : t < 18446744073709551616) :
    Calls Tryz.prog 22 #[.pointer (some ⟨hp, 0, none⟩), .int .u64 (t : Int)] w fun e w' => e = .returned (.int .i64 (answerOf (c.tx t).state : Int)) ∧ w' = w := by
  obtain ⟨p, cp, gp, bT, lp, bD, bN, hh, hs⟩ := h
  have c6 := blk_cell hh 6
  simp at c6
  have ha := answer_any B cp gp bT m t c w hs.co ht
  obtain ⟨R, hR⟩ : ∃ R, R = answerOf (c.tx t).state := ⟨_, rfl⟩
  rw [← hR] at ha ⊢
  clear hh hs hR
  go_enter Tryz.func22, Tryz.ntmps22
  go_wp2_with fail
  refine ha.mono ?_
  clear ha
  rintro e w1 ⟨rfl, rfl⟩
  go_wp2
  go_ret
  exact ⟨rfl, rfl⟩
end Go.Proofs.YtejiankgafjppabGreatDoor
