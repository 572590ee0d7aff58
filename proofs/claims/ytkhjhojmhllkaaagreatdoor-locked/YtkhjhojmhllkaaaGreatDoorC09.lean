import Derived.Test.YtkhjhojmhllkaaaGreatDoorC08
import Derived.Test.YtkhjhojmhllkaaaGreatDoorC05
import Derived.Test.YtkhjhojmhllkaaaGreatDoorC07
/- (*disk).put, Write, Append, Remove, Rename. -/
namespace Go.Proofs.YtkhjhojmhllkaaaGreatDoor
open Go.RowKit
open Sc

theorem str_size (l : List Nat) : (str l).size = l.length := by
  have h : ∀ (m : List Int) (a : ByteArray), (m.foldl (fun r n => r.push (UInt8.ofNat n.toNat)) a).size = a.size + m.length := by
    intro m
    induction m with
    | nil => intro a; simp
    | cons x m ih => intro a; rw [List.foldl_cons, ih]; simp [ByteArray.size_push]; omega
  unfold str
  rw [h]; simp
/-- the loop that writes over what was handed in -/
def PutPost (d : ADisk) (o : AOp) (B p bD bN n nD g : Nat) (pv : Value) (w : World) (e : Ending) (w' : World) : Prop :=
  e = .returned (errN (d.tell o).2) ∧ (∃ pv' nN', DiskIn w' B p bD bN pv' (d.tell o).1 (n + 1) nD nN' ∧ Near w.heap.size pv pv') ∧ Fr (g :: dS p bD bN pv) w w'
theorem DiskIn.bytes {w w' : World} {B p bD bN n nD nN g len cap k : Nat} {pv : Value} {d : ADisk} {xs : List Value} (h : DiskIn w B p bD bN pv d n nD nN) (hr : w.ownsRow k 5 1 (.slice (some ⟨g, 0, none⟩) len cap) len xs) (hf : Fr [g] w w') : DiskIn w' B p bD bN pv d n nD nN := by
  obtain ⟨c, hc⟩ := own_cells hr rfl
  refine h.fr hf ?_ ?_ ?_ ?_ ?_
  · simp; intro e; subst e; rw [h.blk] at hc; cases hc
  · simp; exact h.dur.ne_cells hc
  · simp; exact h.now.ne_cells hc
  · intro q hq; simp; intro e; subst e; exact own_ne h.pen hc (by decide) hq
  · intro q hq t; simp at hq; subst hq; rw [hc]; intro e; cases e
theorem dS_bytes {w : World} {B p bD bN n nD nN g len cap k : Nat} {pv : Value} {d : ADisk} {xs : List Value} (h : DiskIn w B p bD bN pv d n nD nN) (hr : w.ownsRow k 5 1 (.slice (some ⟨g, 0, none⟩) len cap) len xs) : g ∉ dS p bD bN pv := by
  obtain ⟨c, hc⟩ := own_cells hr rfl
  intro hm
  rcases List.mem_cons.1 hm with e | hm
  · subst e; rw [h.blk] at hc; cases hc
  rcases List.mem_cons.1 hm with e | hm
  · exact h.dur.ne_cells hc e.symm
  rcases List.mem_cons.1 hm with e | hm
  · exact h.now.ne_cells hc e.symm
  · simp at hm; exact own_ne h.pen hc (by decide) hm
theorem byte_put {w wr : World} {g k cap n base : Nat} {ys : List Value} (hy : wr.ownsRow base 5 1 (.slice (some ⟨g, 0, none⟩) n cap) n ys) (hgr : w.grownBy wr (some g)) : (wr.setCell ⟨g, k, none⟩ (.int .u8 33)).ownsRow base 5 1 (.slice (some ⟨g, 0, none⟩) n cap) n (ys.set k (.int .u8 33)) ∧ w.grownBy (wr.setCell ⟨g, k, none⟩ (.int .u8 33)) (some g) := by
  obtain ⟨h1, h2⟩ := hy.stored k (.int .u8 33)
  exact ⟨h1, grown_trans hgr h2⟩

set_option maxRecDepth 100000 in
set_option maxHeartbeats 2000000 in
theorem put_any (B p bD bN n nD nN kd g cap base : Nat) (pv : Value) (d : ADisk) (nm : ByteArray) (l : List Nat) (w : World) (h : DiskIn w B p bD bN pv d n nD nN) (hn : n < 67108864) (hk : kd = 1 ∨ kd = 2) (hnm : nm.size ≤ maxLen)
    (hr : w.ownsRow base 5 1 (.slice (some ⟨g, 0, none⟩) l.length cap) l.length (bs l)) (hl : l.length ≤ 4096) :
    Calls Tryz.prog 366 #[.pointer (some ⟨p, 0, none⟩), .int .i64 (kd : Int), .string nm, .slice (some ⟨g, 0, none⟩) l.length cap] w (PutPost d ⟨kd, nm, ByteArray.empty, str l⟩ B p bD bN n nD g pv w) := by
  have HI : Hid (DiskIn w B p bD bN pv d n nD nN) := h
  have HR : Hid (w.ownsRow base 5 1 (.slice (some ⟨g, 0, none⟩) l.length cap) l.length (bs l)) := hr
  have hcv := run_str w g 0 l.length cap l rfl (own_row hr)
  have HG : Hid (g ∉ dS p bD bN pv) := dS_bytes h hr
  have hgl := (own_lt hr).2
  clear h hr
  obtain ⟨m, hm⟩ : ∃ m, m = l.length := ⟨_, rfl⟩
  rw [← hm] at hcv HR hl ⊢
  have HL : Hid (l.length = m) := hm.symm
  clear hm
  go_enter Tryz.func366, Tryz.ntmps366
  go_wp2_with fail
  refine (tell_any B p bD bN n nD nN pv d ⟨kd, nm, ByteArray.empty, str l⟩ w HI.out hn ⟨by rcases hk with h | h <;> simp [h], hnm, by simp, by rw [str_size, HL.out]; exact hl⟩ (by rcases hk with h | h <;> (intro h4; simp only at h4; omega))).mono ?_
  rintro e w1 ⟨rfl, ⟨pv1, nN1, hi1, hne1⟩, hf1⟩
  have HNE : Hid (Near w.heap.size pv pv1) := hne1
  clear hne1
  have HI1 : Hid (DiskIn w1 B p bD bN pv1 (d.tell ⟨kd, nm, ByteArray.empty, str l⟩).1 (n + 1) nD nN1) := hi1
  have HF1 : Hid (Fr (dS p bD bN pv) w w1) := hf1
  have hr1 : w1.ownsRow base 5 1 (.slice (some ⟨g, 0, none⟩) m cap) m (bs l) := ownsRow_fr HR.out hf1 (fun q hq => by cases hq; exact HG.out)
  have hz1 := hf1.size
  clear hi1 hf1
  generalize hE : errN (d.tell ⟨kd, nm, ByteArray.empty, str l⟩).2 = ev
  have HE : Hid (errN (d.tell ⟨kd, nm, ByteArray.empty, str l⟩).2 = ev) := hE
  clear hE
  go_wp2
  go_loopw [20] (fun i wr => ∃ k : Nat, k ≤ m ∧ i = .int .i64 k ∧ (∃ ys, wr.ownsRow base 5 1 (.slice (some ⟨g, 0, none⟩) m cap) m ys) ∧ w1.grownBy wr (some g)) (fun i _ => m - (intOf i).toNat)
  case atStart => exact ⟨0, Nat.zero_le _, rfl, ⟨_, hr1⟩, grown_refl _ _⟩
  case round =>
    obtain ⟨k, hk', rfl, ⟨ys, hy⟩, hgr⟩ := hrel
    by_cases hlt : k < m
    · have hcx := hy.cellAt k (by omega)
      have hlen : k < ys.length := by have := hy.1; omega
      rw [List.getElem?_eq_getElem hlen] at hcx
      have hfx := hy.frozenAt k
      obtain ⟨hy2, hg2⟩ := byte_put (k := k) hy hgr
      have HY : Hid ((wr.setCell ⟨g, k, none⟩ (.int .u8 33)).ownsRow base 5 1 (.slice (some ⟨g, 0, none⟩) m cap) m (ys.set k (.int .u8 33))) := hy2
      have HGR : Hid (w1.grownBy (wr.setCell ⟨g, k, none⟩ (.int .u8 33)) (some g)) := hg2
      clear hy hy2 hg2 hgr
      go_wp2
      go_roundw
      case rel => exact ⟨k + 1, by omega, by go_num, ⟨_, HY.out⟩, HGR.out⟩
      case measure => simp [intOf]; omega
    · go_wp2
      go_ret
      have hfg := Fr.of_grown1 hgr
      exact ⟨by rw [HE.out]; rfl, ⟨pv1, nN1, HI1.out.bytes hr1 hfg, HNE.out⟩, (HF1.out.mono (T := g :: dS p bD bN pv) (fun q _ hq => List.mem_cons_of_mem _ hq)).trans (hfg.mono (fun q _ hq => by simp at hq; subst hq; simp))⟩
end Go.Proofs.YtkhjhojmhllkaaaGreatDoor
/- (*disk).Write, Append, Remove, Rename. -/
namespace Go.Proofs.YtkhjhojmhllkaaaGreatDoor
open Go.RowKit
open Sc

set_option maxHeartbeats 1000000 in
theorem write_any (B p bD bN n nD nN g cap base : Nat) (pv : Value) (d : ADisk) (nm : ByteArray) (l : List Nat) (w : World) (h : DiskIn w B p bD bN pv d n nD nN) (hn : n < 67108864) (hnm : nm.size ≤ maxLen)
    (hr : w.ownsRow base 5 1 (.slice (some ⟨g, 0, none⟩) l.length cap) l.length (bs l)) (hl : l.length ≤ 4096) :
    Calls Tryz.prog 365 #[.pointer (some ⟨p, 0, none⟩), .string nm, .slice (some ⟨g, 0, none⟩) l.length cap] w (PutPost d ⟨1, nm, ByteArray.empty, str l⟩ B p bD bN n nD g pv w) := by
  have HI : Hid (DiskIn w B p bD bN pv d n nD nN) := h
  clear h
  go_enter Tryz.func365, Tryz.ntmps365
  go_wp2_with fail
  refine (put_any B p bD bN n nD nN 1 g cap base pv d nm l w HI.out hn (Or.inl rfl) hnm hr hl).mono ?_
  rintro e w1 ⟨rfl, h1, h2⟩
  have H1 : Hid (∃ pv' nN', DiskIn w1 B p bD bN pv' (d.tell ⟨1, nm, ByteArray.empty, str l⟩).1 (n + 1) nD nN' ∧ Near w.heap.size pv pv') := h1
  clear h1
  go_wp2
  go_ret
  exact ⟨rfl, H1.out, h2⟩
set_option maxHeartbeats 1000000 in
theorem append_any (B p bD bN n nD nN g cap base : Nat) (pv : Value) (d : ADisk) (nm : ByteArray) (l : List Nat) (w : World) (h : DiskIn w B p bD bN pv d n nD nN) (hn : n < 67108864) (hnm : nm.size ≤ maxLen)
    (hr : w.ownsRow base 5 1 (.slice (some ⟨g, 0, none⟩) l.length cap) l.length (bs l)) (hl : l.length ≤ 4096) :
    Calls Tryz.prog 359 #[.pointer (some ⟨p, 0, none⟩), .string nm, .slice (some ⟨g, 0, none⟩) l.length cap] w (PutPost d ⟨2, nm, ByteArray.empty, str l⟩ B p bD bN n nD g pv w) := by
  have HI : Hid (DiskIn w B p bD bN pv d n nD nN) := h
  clear h
  go_enter Tryz.func359, Tryz.ntmps359
  go_wp2_with fail
  refine (put_any B p bD bN n nD nN 2 g cap base pv d nm l w HI.out hn (Or.inr rfl) hnm hr hl).mono ?_
  rintro e w1 ⟨rfl, h1, h2⟩
  have H1 : Hid (∃ pv' nN', DiskIn w1 B p bD bN pv' (d.tell ⟨2, nm, ByteArray.empty, str l⟩).1 (n + 1) nD nN' ∧ Near w.heap.size pv pv') := h1
  clear h1
  go_wp2
  go_ret
  exact ⟨rfl, H1.out, h2⟩
set_option maxHeartbeats 1000000 in
theorem remove_any (B p bD bN n nD nN : Nat) (pv : Value) (d : ADisk) (nm : ByteArray) (w : World) (h : DiskIn w B p bD bN pv d n nD nN) (hn : n < 67108864) (hnm : nm.size ≤ maxLen) :
    Calls Tryz.prog 362 #[.pointer (some ⟨p, 0, none⟩), .string nm] w (TellPost d ⟨3, nm, ByteArray.empty, ByteArray.empty⟩ B p bD bN n nD pv w) := by
  have HI : Hid (DiskIn w B p bD bN pv d n nD nN) := h
  clear h
  go_enter Tryz.func362, Tryz.ntmps362
  go_wp2_with fail
  refine (tell_any B p bD bN n nD nN pv d ⟨3, nm, ByteArray.empty, ByteArray.empty⟩ w HI.out hn ⟨by simp, hnm, by simp, by simp⟩ (by simp)).mono ?_
  rintro e w1 ⟨rfl, h1, h2⟩
  have H1 : Hid (∃ pv' nN', DiskIn w1 B p bD bN pv' (d.tell ⟨3, nm, ByteArray.empty, ByteArray.empty⟩).1 (n + 1) nD nN' ∧ Near w.heap.size pv pv') := h1
  clear h1
  go_wp2
  go_ret
  exact ⟨rfl, H1.out, h2⟩
set_option maxHeartbeats 1000000 in
theorem rename_any (B p bD bN n nD nN : Nat) (pv : Value) (d : ADisk) (nm to : ByteArray) (w : World) (h : DiskIn w B p bD bN pv d n nD nN) (hn : n < 67108864) (hnm : nm.size ≤ maxLen) (hto : to.size ≤ maxLen) (hne : (nm.toList == to.toList) = false ∧ nm ≠ to) :
    Calls Tryz.prog 363 #[.pointer (some ⟨p, 0, none⟩), .string nm, .string to] w (TellPost d ⟨4, nm, to, ByteArray.empty⟩ B p bD bN n nD pv w) := by
  have HI : Hid (DiskIn w B p bD bN pv d n nD nN) := h
  have HN : Hid ((nm.toList == to.toList) = false ∧ nm ≠ to) := hne
  clear h hne
  go_enter Tryz.func363, Tryz.ntmps363
  go_wp2_with fail
  refine (tell_any B p bD bN n nD nN pv d ⟨4, nm, to, ByteArray.empty⟩ w HI.out hn ⟨by simp, hnm, hto, by simp⟩ (fun _ => HN.out)).mono ?_
  rintro e w1 ⟨rfl, h1, h2⟩
  have H1 : Hid (∃ pv' nN', DiskIn w1 B p bD bN pv' (d.tell ⟨4, nm, to, ByteArray.empty⟩).1 (n + 1) nD nN' ∧ Near w.heap.size pv pv') := h1
  clear h1
  go_wp2
  go_ret
  exact ⟨rfl, H1.out, h2⟩
end Go.Proofs.YtkhjhojmhllkaaaGreatDoor
/- (*disk).Sync, Read. -/
namespace Go.Proofs.YtkhjhojmhllkaaaGreatDoor
open Go.RowKit
open Sc

theorem sync_err {d : ADisk} (h : d.writes.2 ≠ 0) : d.sync = d.writes := by unfold ADisk.sync; simp [h]
theorem sync_ok {d : ADisk} (h : d.writes.2 = 0) : d.sync = ({ d.writes.1 with durable := d.writes.1.pending.foldl doOp d.writes.1.durable, pending := [] }, 0) := by unfold ADisk.sync; simp [h]
/-- an op's cells in the row of what is pending -/
theorem pend_cells {w : World} {B g cap n : Nat} {l : List AOp} (h : w.ownsRow B 130 4 (.slice (some ⟨g, 0, none⟩) n cap) n (opsV l)) (k : Nat) (o : AOp) (hk : l[k]? = some o) :
    w.cell? ⟨g, k * 4, none⟩ = some (.int .i64 (o.kind : Int)) ∧ w.cell? ⟨g, k * 4 + 1, none⟩ = some (.string o.name) ∧ w.cell? ⟨g, k * 4 + 2, none⟩ = some (.string o.to) ∧ w.cell? ⟨g, k * 4 + 3, none⟩ = some (.string o.data) := by
  have key : ∀ (l : List AOp) (k j : Nat), j < 4 → (opsV l)[k * 4 + j]? = (l[k]?).bind (fun o => (opCells o)[j]?) := by
    intro l
    induction l with
    | nil => intro k j hj; simp [opsV]
    | cons x l ih =>
      intro k j hj
      have e : opsV (x :: l) = opCells x ++ opsV l := rfl
      rw [e]
      cases k with
      | zero => rw [List.getElem?_append_left (by simp [opCells]; omega)]; simp
      | succ k =>
        rw [List.getElem?_append_right (by simp [opCells]; omega)]
        have : (k + 1) * 4 + j - (opCells x).length = k * 4 + j := by simp [opCells]; omega
        rw [this, ih k j hj]; simp
  have cel : ∀ j v, j < 4 → (opCells o)[j]? = some v → w.cell? ⟨g, k * 4 + j, none⟩ = some v := by
    intro j v hj hv
    have h1 : (opsV l)[k * 4 + j]? = some v := by rw [key l k j hj, hk]; exact hv
    have := h.cells (g := g) rfl (k * 4 + j) v h1
    simpa [Addr.add_lit] using this
  exact ⟨cel 0 _ (by omega) rfl, cel 1 _ (by omega) rfl, cel 2 _ (by omega) rfl, cel 3 _ (by omega) rfl⟩
theorem foldl_le {c : Nat} : ∀ (l : List AOp) (m : Files) (k : Nat), m.Le (k * c) → (∀ o ∈ l, o.Ok c) → (l.foldl doOp m).Le ((k + l.length) * c)
  | [], m, k, h, _ => by simpa using h
  | o :: l, m, k, h, ho => by
    have h1 := doOp_le h (ho o (by simp))
    have h2 : (doOp m o).Le ((k + 1) * c) := by rw [Nat.add_mul]; simpa using h1
    have h3 := foldl_le l (doOp m o) (k + 1) h2 (fun x hx => ho x (by simp [hx]))
    rw [List.foldl_cons, List.length_cons, show k + (l.length + 1) = k + 1 + l.length by omega]; exact h3

set_option maxRecDepth 100000 in
set_option maxHeartbeats 2000000 in
theorem sync_some (B p bD bN n nD nN g len cap : Nat) (d : ADisk) (w : World) (h : DiskIn w B p bD bN (.slice (some ⟨g, 0, none⟩) len cap) d n nD nN) (hlen : d.pending.length = len) :
    Calls Tryz.prog 364 #[.pointer (some ⟨p, 0, none⟩)] w fun e w' => e = .returned (errN d.sync.2) ∧ (∃ pv' nD', DiskIn w' B p bD bN pv' d.sync.1 n nD' nN ∧ Near w.heap.size (.slice (some ⟨g, 0, none⟩) len cap) pv') ∧ Fr [p, bD] w w' := by
  have HI : Hid (DiskIn w B p bD bN (.slice (some ⟨g, 0, none⟩) len cap) d n nD nN) := h
  have HL : Hid (d.pending.length = len) := hlen
  clear h hlen
  go_enter Tryz.func364, Tryz.ntmps364
  go_wp2_with fail
  refine (writes_in B p bD bN n nD nN _ d w HI.out).mono ?_
  rintro e w1 ⟨rfl, hi1, hf1⟩
  have HI1 : Hid (DiskIn w1 B p bD bN (.slice (some ⟨g, 0, none⟩) len cap) d.writes.1 n nD nN) := hi1
  have HF1 : Hid (Fr [p, bD] w w1) := hf1.mono (by intro k _ hk; simp at hk; simp [hk])
  have p2 := blk_cell hi1.blk 2
  simp at p2
  clear hi1 hf1
  rcases writes_cases d with hw | hw | hw
  · rw [hw, errN_no (by decide)]
    go_wp2
    go_ret
    rw [sync_err (by rw [hw]; decide), hw]
    exact ⟨rfl, ⟨_, nD, HI1.out, Near.refl _ _⟩, HF1.out⟩
  · rw [hw, errN_no (by decide)]
    go_wp2
    go_ret
    rw [sync_err (by rw [hw]; decide), hw]
    exact ⟨rfl, ⟨_, nD, HI1.out, Near.refl _ _⟩, HF1.out⟩
  · rw [hw, errN_ok]
    have hpn : d.writes.1.pending = d.pending := by rw [writes_same]
    go_wp2
    go_loopw [16] (fun i wr => ∃ k : Nat, k ≤ len ∧ i = .int .i64 k ∧ FileMap wr bD (nD + k) ((d.writes.1.pending.take k).foldl doOp d.writes.1.durable) ∧ Fr [bD] w1 wr) (fun i _ => len - (intOf i).toNat)
    case atStart => exact ⟨0, Nat.zero_le _, rfl, HI1.out.dur, Fr.refl _ _⟩
    case round =>
      obtain ⟨k, hk, rfl, hF, hf⟩ := hrel
      by_cases hlt : k < len
      · have hkl : k < d.writes.1.pending.length := by rw [hpn, HL.out]; exact hlt
        obtain ⟨o, ho⟩ : ∃ o, d.writes.1.pending[k]? = some o := ⟨_, List.getElem?_eq_getElem hkl⟩
        have hok : o.Ok 4096 := HI1.out.ops o (List.mem_of_getElem? ho)
        have hpen := HI1.out.pen
        rw [hpn, HL.out] at hpen
        rw [← hpn] at hpen
        have hrow : wr.ownsRow B 130 4 (.slice (some ⟨g, 0, none⟩) len cap) len (opsV d.writes.1.pending) := ownsRow_fr hpen hf (fun q hq => by
          simp; intro e; subst e; obtain ⟨c, hc⟩ := own_cells hpen hq; exact HI1.out.dur.ne_cells hc rfl)
        obtain ⟨c0, c1, c2, c3⟩ := pend_cells hrow k o ho
        have p0 := blk_cell ((hf.block p (Array.getElem?_eq_some_iff.1 HI1.out.blk).1 (by simp; exact fun e => HI1.out.dur.ne_cells HI1.out.blk e.symm)).trans HI1.out.blk) 0
        simp at p0
        have hpw : p < wr.heap.size := World.block_lt_of_cell? wr ⟨p, 0, none⟩ p0
        have hpa : ∀ ob, (wr.alloc ob).cell? ⟨p, 0, none⟩ = some (.map (some bD)) := fun ob => (World.cell?_of_block (a := ⟨p, 0, none⟩) (Below.heap_alloc wr ob p hpw)).trans p0
        have HF : Hid (FileMap wr bD (nD + k) ((d.writes.1.pending.take k).foldl doOp d.writes.1.durable)) := hF
        have Hf : Hid (Fr [bD] w1 wr) := hf
        have HO : Hid (o.Ok 4096) := hok
        have HG : Hid (d.writes.1.pending[k]? = some o) := ho
        have hnk : nD + k < n := by have := HI1.out.hD; omega
        have hn := HI1.out.hn
        have HLE : Hid (((d.writes.1.pending.take k).foldl doOp d.writes.1.durable).Le 549755813888) := by
          intro x t ht
          have := foldl_le (d.writes.1.pending.take k) d.writes.1.durable nD HI1.out.leD (fun o ho => HI1.out.ops o (List.mem_of_mem_take ho)) x t ht
          rw [List.length_take] at this
          have hmin : min k d.writes.1.pending.length ≤ k := Nat.min_le_left _ _
          have h6 : (nD + min k d.writes.1.pending.length) * 4096 ≤ n * 4096 := Nat.mul_le_mul_right _ (by omega)
          omega
        clear hF hf hok ho hrow hpen hpn
        have i0 : (0 : Int) ≤ (k : Int) := by omega
        have i1 : (k : Int) < (len : Int) := by omega
        go_wp2
        go_region_with (first | (go_at_call 83; refine (do_any bD (nD + k) 4096 _ o _ (HF.out.new ((((Fr.refl [] wr).alloc _).drew))) (by unfold maxLen; omega) HO.out (by omega) HLE.out).mono ?_; rintro e w2 ⟨rfl, hF2, hg2⟩))
        all_goals (
          have hg3 : Fr [bD] w1 w2 := Hf.out.trans ((((Fr.refl [bD] wr).alloc _).drew).trans (Fr.of_grown1 hg2))
          clear hg2
          go_wp2
          go_roundw
          case rel =>
            refine ⟨k + 1, by omega, by go_num, ?_, hg3⟩
            rw [List.take_add_one, HG.out]
            simpa [List.foldl_append, Nat.add_assoc] using hF2
          case measure => simp [intOf]; omega)
      · obtain rfl : k = len := by omega
        have hp := (hf.block p (Array.getElem?_eq_some_iff.1 HI1.out.blk).1 (by simp; exact fun e => HI1.out.dur.ne_cells HI1.out.blk e.symm)).trans HI1.out.blk
        have p2' := blk_cell hp 2
        have g2' := blk_free hp 2
        simp at p2'
        have HP : Hid (wr.heap[p]? = some (dskO bD bN (.slice (some ⟨g, 0, none⟩) k cap) d.writes.1.left d.writes.1.full d.writes.1.down)) := hp
        have HF : Hid (FileMap wr bD (nD + k) ((d.writes.1.pending.take k).foldl doOp d.writes.1.durable)) := hF
        have Hf : Hid (Fr [bD] w1 wr) := hf
        clear hF hf hp
        go_wp2
        go_ret
        have ht : d.writes.1.pending.take k = d.writes.1.pending := List.take_of_length_le (by rw [hpn, HL.out]; exact Nat.le_refl _)
        have hF := HF.out
        rw [ht] at hF
        rw [sync_ok hw]
        have hfs : Fr [p] wr (wr.setCell ⟨p, 2, none⟩ (.slice none 0 0)) := Fr.set1 (by simp) 2 _
        have hsz := hfs.size
        have hsz2 := Hf.out.size
        have hnt : ∀ q ∈ [p], ∀ t, wr.heap[q]? ≠ some (textO t) := by
          intro q hq t; simp at hq; subst hq; rw [HP.out]; intro e; cases e
        have hnow : FileMap wr bN nN d.writes.1.now := HI1.out.now.fr Hf.out (by simp; exact fun e => HI1.out.ne e.symm) (by intro q hq t e; simp at hq; subst hq; exact HI1.out.dur.ne_cells e rfl)
        refine ⟨rfl, ⟨.slice none 0 0, nD + k, ?_, Near.nil _ _⟩, HF1.out.trans ((Hf.out.mono (by intro q _ hq; simp at hq; simp [hq])).trans (hfs.mono (by intro q _ hq; simp at hq; simp [hq])))⟩
        have hD := HI1.out.hD
        rw [hpn, HL.out] at hD
        refine { blk := ?_, base := ⟨HI1.out.base.1, HI1.out.base.2.1, HI1.out.base.2.2.1, by have := HI1.out.base.2.2.2; omega⟩, ne := HI1.out.ne, dur := hF.fr hfs (by simp; exact hF.ne_cells HP.out) hnt, now := hnow.fr hfs (by simp; exact hnow.ne_cells HP.out) hnt, pen := World.ownsRow_nil _ _ _ _, hD := by simpa using hD, hN := HI1.out.hN, hn := HI1.out.hn, leD := ?_, leN := HI1.out.leN, ops := by simp }
        · have := blk_set HP.out 2 (.slice none 0 0); simpa using this
        · have := foldl_le d.writes.1.pending d.writes.1.durable nD HI1.out.leD HI1.out.ops
          rw [hpn, HL.out] at this
          simp only
          rw [hpn]
          exact this
set_option maxRecDepth 100000 in
set_option maxHeartbeats 2000000 in
theorem sync_nil (B p bD bN n nD nN : Nat) (d : ADisk) (w : World) (h : DiskIn w B p bD bN (.slice none 0 0) d n nD nN) (hlen : d.pending = []) :
    Calls Tryz.prog 364 #[.pointer (some ⟨p, 0, none⟩)] w fun e w' => e = .returned (errN d.sync.2) ∧ (∃ pv' nD', DiskIn w' B p bD bN pv' d.sync.1 n nD' nN ∧ Near w.heap.size (.slice none 0 0) pv') ∧ Fr [p, bD] w w' := by
  have HI : Hid (DiskIn w B p bD bN (.slice none 0 0) d n nD nN) := h
  have HL : Hid (d.pending = []) := hlen
  clear h hlen
  go_enter Tryz.func364, Tryz.ntmps364
  go_wp2_with fail
  refine (writes_in B p bD bN n nD nN _ d w HI.out).mono ?_
  rintro e w1 ⟨rfl, hi1, hf1⟩
  have HI1 : Hid (DiskIn w1 B p bD bN (.slice none 0 0) d.writes.1 n nD nN) := hi1
  have HF1 : Hid (Fr [p, bD] w w1) := hf1.mono (by intro k _ hk; simp at hk; simp [hk])
  have p2 := blk_cell hi1.blk 2
  have g2 := blk_free hi1.blk 2
  simp at p2
  clear hi1 hf1
  rcases writes_cases d with hw | hw | hw
  · rw [hw, errN_no (by decide)]
    go_wp2
    go_ret
    rw [sync_err (by rw [hw]; decide), hw]
    exact ⟨rfl, ⟨_, nD, HI1.out, Near.refl _ _⟩, HF1.out⟩
  · rw [hw, errN_no (by decide)]
    go_wp2
    go_ret
    rw [sync_err (by rw [hw]; decide), hw]
    exact ⟨rfl, ⟨_, nD, HI1.out, Near.refl _ _⟩, HF1.out⟩
  · rw [hw, errN_ok]
    have hpn : d.writes.1.pending = [] := by rw [writes_same]; exact HL.out
    go_wp2
    refine wp_loop_rounds 1 ?_
    rw [rounds_succ]
    go_wp2
    go_ret
    rw [sync_ok hw]
    have hfs : Fr [p] w1 (w1.setCell ⟨p, 2, none⟩ (.slice none 0 0)) := Fr.set1 (by simp) 2 _
    refine ⟨rfl, ⟨.slice none 0 0, nD, ?_, Near.nil _ _⟩, HF1.out.trans (hfs.mono (by intro q _ hq; simp at hq; simp [hq]))⟩
    have hb : (w1.setCell ⟨p, 2, none⟩ (.slice none 0 0)).heap[p]? = some (dskO bD bN (.slice none 0 0) d.writes.1.left d.writes.1.full d.writes.1.down) := by have := blk_set HI1.out.blk 2 (.slice none 0 0); simpa using this
    have := HI1.out.turn hfs d.writes.1.left d.writes.1.full d.writes.1.down hb
    simp only [hpn, List.foldl_nil]
    rw [← hpn]
    exact this
theorem sync_any (B p bD bN n nD nN : Nat) (pv : Value) (d : ADisk) (w : World) (h : DiskIn w B p bD bN pv d n nD nN) :
    Calls Tryz.prog 364 #[.pointer (some ⟨p, 0, none⟩)] w fun e w' => e = .returned (errN d.sync.2) ∧ (∃ pv' nD', DiskIn w' B p bD bN pv' d.sync.1 n nD' nN ∧ Near w.heap.size pv pv') ∧ Fr [p, bD] w w' := by
  rcases h.pen.2 with ⟨h1, h2⟩ | ⟨g, cap, cur, h1, _⟩
  · subst h1; exact sync_nil B p bD bN n nD nN d w h (List.length_eq_zero_iff.1 h2)
  · subst h1; exact sync_some B p bD bN n nD nN g _ cap d w h rfl
end Go.Proofs.YtkhjhojmhllkaaaGreatDoor
