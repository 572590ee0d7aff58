import Derived.Test.YtbdhmkfdofkloaaGreatDoorC22
import Derived.Test.YtbdhmkfdofkloaaGreatDoorC16
import Derived.Test.YtbdhmkfdofkloaaGreatDoorC01
import Derived.Test.YtbdhmkfdofkloaaGreatDoorC13
/- sameRecords; what both scans answer, compared. -/
namespace Go.Proofs.YtbdhmkfdofkloaaGreatDoor
open Go.RowKit
open Sc

theorem recsV_at : ∀ (rs : List Rec) (i : Nat) (h : i < rs.length), (recsV rs)[i * 3]? = some (.int .u64 (rs[i].lsn : Int)) ∧ (recsV rs)[i * 3 + 1]? = some (.int .u8 (rs[i].kind : Int)) ∧ (recsV rs)[i * 3 + 2]? = some (.string (str rs[i].pay))
  | [], i, h => absurd h (Nat.not_lt_zero _)
  | r :: rs, 0, _ => ⟨rfl, rfl, rfl⟩
  | r :: rs, i + 1, h => by
    have ih := recsV_at rs i (by simpa using h)
    have e : ∀ j, (recsV (r :: rs))[(i + 1) * 3 + j]? = (recsV rs)[i * 3 + j]? := fun j => by
      show (recCells r ++ recsV rs)[(i + 1) * 3 + j]? = _
      rw [List.getElem?_append_right (by simp [recCells]; omega)]
      congr 1
      simp [recCells]; omega
    exact ⟨(e 0).trans ih.1, (e 1).trans ih.2.1, (e 2).trans ih.2.2⟩
/-- the records rs, as a slice value holds them -/
def RecsAt (w : World) (v : Value) (rs : List Rec) : Prop :=
  ∃ ao cap, v = .slice ao rs.length cap ∧ ∀ i (h : i < rs.length), ∃ g, ao = some ⟨g, 0, none⟩ ∧ w.cell? ⟨g, i * 3, none⟩ = some (.int .u64 (rs[i].lsn : Int)) ∧ w.cell? ⟨g, i * 3 + 1, none⟩ = some (.int .u8 (rs[i].kind : Int)) ∧ w.cell? ⟨g, i * 3 + 2, none⟩ = some (.string (str rs[i].pay))
theorem recsAt_own {w : World} {base n : Nat} {v : Value} {rs : List Rec} (h : w.ownsRow base 44 3 v n (recsV rs)) : RecsAt w v rs := by
  have hl : rs.length = n := by have := h.1; rw [recsV_len] at this; omega
  rcases h.2 with ⟨rfl, h0⟩ | ⟨g, cap, cur, rfl, hb, hg, rest⟩
  · exact ⟨none, 0, by rw [hl, h0], fun i hi => by omega⟩
  · refine ⟨_, cap, by rw [hl], fun i hi => ⟨g, rfl, ?_⟩⟩
    have hc : ∀ j u, (recsV rs)[j]? = some u → w.cell? ⟨g, j, none⟩ = some u := fun j u hu => by
      have := h.cells (g := g) rfl j u hu
      simpa [Addr.add_lit] using this
    obtain ⟨h1, h2, h3⟩ := recsV_at rs i hi
    exact ⟨hc _ _ h1, hc _ _ h2, hc _ _ h3⟩

end Go.Proofs.YtbdhmkfdofkloaaGreatDoor
/- RECOVERY: readSegment, of the segment of record 1. -/
namespace Go.Proofs.YtbdhmkfdofkloaaGreatDoor
open Go.RowKit Go.Maps
open Sc

theorem str_data (l : List Nat) : (str l).data = (l.map fun x => UInt8.ofNat x).toArray := by
  have aux : ∀ (l : List Nat) (r : ByteArray), ((l.map fun x : Nat => (x : Int)).foldl (fun r n => r.push (UInt8.ofNat n.toNat)) r).data = r.data ++ (l.map fun x => UInt8.ofNat x).toArray := by
    intro l
    induction l with
    | nil => intro r; simp
    | cons x l ih =>
      intro r
      rw [List.map_cons, List.foldl_cons, ih]
      simp [ByteArray.push]
  unfold str
  rw [aux]
  simp
theorem bytesOf_str {l : List Nat} (h : Byt l) : bytesOf (str l) = l := by
  unfold bytesOf
  rw [str_data]
  simp only [List.map_map]
  have : ∀ (m : List Nat), Byt m → m.map (UInt8.toNat ∘ fun x => UInt8.ofNat x) = m := by
    intro m
    induction m with
    | nil => intro _; rfl
    | cons x m ih =>
      intro hb
      have hx : x < 256 := hb x (by simp)
      rw [List.map_cons, ih (fun y hy => hb y (by simp [hy]))]
      congr 1
      simp
      omega
  exact this l h
/-- records as they lie on the disk -/
def encR (rs : List Rec) : List Nat := rs.flatMap fun r => recBytes r.lsn r.kind r.pay
theorem encR_snoc (rs : List Rec) (r : Rec) : encR (rs ++ [r]) = encR rs ++ recBytes r.lsn r.kind r.pay := by simp [encR]
theorem List.reverseRecOn0 {α : Type} {motive : List α → Prop} (l : List α) (h0 : motive []) (h1 : ∀ l x, motive l → motive (l ++ [x])) : motive l := by
  have : ∀ n (l : List α), l.length = n → motive l := by
    intro n
    induction n with
    | zero => intro l hl; rw [List.length_eq_zero_iff.1 hl]; exact h0
    | succ n ih =>
      intro l hl
      rcases List.eq_nil_or_concat l with e | ⟨a, x, e⟩
      · subst e; simp at hl
      · subst e; simp at hl
        rw [List.concat_eq_append]
        exact h1 a x (ih a hl)
  exact this _ l rfl
theorem Tryz.nilRead (p : Nat) (w : World) : (nilAhead 471 53 (.pointer (some ⟨p, 0, none⟩)) "Read").run Tryz.prog w = .ok (some false) w := by kernel_rfl
end Go.Proofs.YtbdhmkfdofkloaaGreatDoor
/- (*Log).Force. -/
namespace Go.Proofs.YtbdhmkfdofkloaaGreatDoor
open Go.RowKit
open Sc

set_option maxRecDepth 100000 in
set_option maxHeartbeats 4000000 in
theorem inTurnF (B lp p bD bN n nD nN gst : Nat) (pv sv rv : Value) (l : ALog) (d : ADisk) (w : World) (h : LogIn w B lp p bD bN pv sv rv l d n nD nN) (hn : n ≤ 67108864)
    (hst : w.heap[gst]? = some (.cells #[.func (.func 52) #[.pointer (some ⟨lp, 0, none⟩)] #[]] 78)) :
    Calls Tryz.prog 61 #[.slice (some ⟨gst, 0, none⟩) 1 1] w (PutL B lp p bD bN n [] (l.sync d) w) := by
  have z0 := blk_cell hst 0
  simp at z0
  have HI : Hid (LogIn w B lp p bD bN pv sv rv l d n nD nN) := h
  clear h
  go_enter Tryz.func61, Tryz.ntmps61
  go_wp2
  refine wp_loop_rounds 2 ?_
  rw [rounds_succ]
  go_wp2_with fail
  refine (lsync_any B lp p bD bN n nD nN pv sv rv l d w HI.out hn).mono ?_
  rintro e w1 ⟨rfl, hl1, ho1⟩
  have H1 : Hid (PutL B lp p bD bN n [] (l.sync d) w (.returned (errN (l.sync d).2.2)) w1) := ⟨rfl, hl1, ho1.x⟩
  clear hl1 ho1
  by_cases hc : (l.sync d).2.2 = 0
  · rw [hc, errN_ok] at H1 ⊢
    go_wp2
    rw [rounds_succ]
    go_wp2
    go_ret
    exact H1.out
  · rw [errN_no hc] at H1 ⊢
    go_wp2
    go_ret
    exact H1.out
set_option maxRecDepth 100000 in
set_option maxHeartbeats 4000000 in
theorem writeF (B lp p bD bN n nD nN gst : Nat) (pv sv rv : Value) (l : ALog) (d : ADisk) (w : World) (h : LogIn w B lp p bD bN pv sv rv l d n nD nN) (hn : n ≤ 67108864)
    (hst : w.heap[gst]? = some (.cells #[.func (.func 52) #[.pointer (some ⟨lp, 0, none⟩)] #[]] 78)) :
    Calls Tryz.prog 47 #[.pointer (some ⟨lp, 0, none⟩), .slice (some ⟨gst, 0, none⟩) 1 1] w (PutL B lp p bD bN n [] (l.wr d (l.sync d)) w) := by
  have c0 := blk_cell h.blk 0
  have c6 := blk_cell h.blk 6
  simp at c0 c6
  have HI : Hid (LogIn w B lp p bD bN pv sv rv l d n nD nN) := h
  have hnil := Tryz.eqNil p
  by_cases hf : l.failed = 0
  · rw [hf, errN_ok] at c6
    have e : l.wr d (l.sync d) = ({ (l.sync d).1 with failed := (l.sync d).2.2 }, (l.sync d).2.1, (l.sync d).2.2) := by unfold ALog.wr; rw [if_pos hf]
    rw [e]
    clear e
    go_enter Tryz.func47, Tryz.ntmps47
    go_wp2_with fail
    refine (inTurnF B lp p bD bN n nD nN gst pv sv rv l d w HI.out hn hst).mono ?_
    rintro e w1 ⟨rfl, ⟨pv1, sv1, rv1, nD1, nN1, hl1⟩, ho1⟩
    have H1 : Hid (LogIn w1 B lp p bD bN pv1 sv1 rv1 (l.sync d).1 (l.sync d).2.1 n nD1 nN1) := hl1
    have HO : Hid (OFx [] lp p w w1) := ho1
    have k6 := blk_cell hl1.blk 6
    have f6 := blk_free hl1.blk 6
    simp at k6
    clear hl1 ho1 hst h
    by_cases hc : (l.sync d).2.2 = 0
    · rw [hc, errN_ok]
      go_wp2
      go_ret
      obtain ⟨hl2, hf2⟩ := H1.out.fail (c := 0) rfl
      unfold PutL
      simp only
      rw [hc]
      exact ⟨rfl, ⟨pv1, sv1, rv1, nD1, nN1, hl2⟩, HO.out.trans (H1.out.ofx hl2 hf2 (by intro k hk _; simp at hk; simp [hk]) (Near.refl _ _) (Near.refl _ _) (Near.refl _ _))⟩
    · have he := errN_no hc
      obtain ⟨hl2, hf2⟩ := H1.out.fail (c := (l.sync d).2.2) rfl
      rw [he] at hl2 hf2 ⊢
      have H2 : Hid (LogIn (w1.setCell ⟨lp, 6, none⟩ (.iface 32 (.int .i64 ((l.sync d).2.2 : Int)))) B lp p bD bN pv1 sv1 rv1 { (l.sync d).1 with failed := (l.sync d).2.2 } (l.sync d).2.1 n nD1 nN1) := hl2
      clear hl2
      go_wp2
      go_ret
      exact ⟨by simp only; rw [he]; rfl, ⟨pv1, sv1, rv1, nD1, nN1, H2.out⟩, HO.out.trans (H1.out.ofx H2.out hf2 (by intro k hk _; simp at hk; simp [hk]) (Near.refl _ _) (Near.refl _ _) (Near.refl _ _))⟩
  · rw [errN_no hf] at c6
    have e : l.wr d (l.sync d) = (l, d, l.failed) := by unfold ALog.wr; rw [if_neg hf]
    rw [e]
    go_enter Tryz.func47, Tryz.ntmps47
    go_wp2
    go_ret
    exact ⟨by simp only; rw [errN_no hf]; rfl, ⟨pv, sv, rv, nD, nN, HI.out⟩, (OFr.refl _ _ _).x⟩
theorem OFx.ofr {lp p : Nat} {w w' : World} (h : OFx [] lp p w w') : OFr lp p w w' := ⟨h.os, h.tape, h.output, h.size, fun k hk hn => h.block k hk hn (by simp), h.stay⟩
def ALog.force (l : ALog) (d : ADisk) : ALog × ADisk × Nat := if l.durable = l.next then (l, d, 0) else l.wr d (l.sync d)
/-- what stands behind a call that answers an error alone -/
def ErrPost (B lp p bD bN n : Nat) (r : ALog × ADisk × Nat) (w : World) (e : Ending) (w' : World) : Prop :=
  e = .returned (errN r.2.2) ∧ (∃ pv sv rv nD nN, LogIn w' B lp p bD bN pv sv rv r.1 r.2.1 n nD nN) ∧ OFr lp p w w'
set_option maxRecDepth 100000 in
set_option maxHeartbeats 4000000 in
theorem force_any (B lp p bD bN n nD nN : Nat) (pv sv rv : Value) (l : ALog) (d : ADisk) (w : World) (h : LogIn w B lp p bD bN pv sv rv l d n nD nN) (hn : n ≤ 67108864) :
    Calls Tryz.prog 30 #[.pointer (some ⟨lp, 0, none⟩)] w (ErrPost B lp p bD bN n (l.force d) w) := by
  have c4 := blk_cell h.blk 4
  have c5 := blk_cell h.blk 5
  simp at c4 c5
  have HI : Hid (LogIn w B lp p bD bN pv sv rv l d n nD nN) := h
  clear h
  by_cases hq : l.durable = l.next
  · have e : l.force d = (l, d, 0) := by unfold ALog.force; rw [if_pos hq]
    rw [e]
    rw [hq] at c5
    go_enter Tryz.func30, Tryz.ntmps30
    go_wp2
    go_region
    go_wp2
    go_ret
    have hf : Fr [] w w.drew := (Fr.refl [] w).drew
    exact ⟨rfl, ⟨pv, sv, rv, nD, nN, HI.out.new hf⟩, HI.out.newO hf⟩
  · have e : l.force d = l.wr d (l.sync d) := by unfold ALog.force; rw [if_neg hq]
    rw [e]
    have i1 : ¬ (l.durable : Int) = (l.next : Int) := by omega
    have i2 : ((l.durable : Int) == (l.next : Int)) = false := by simpa using i1
    go_enter Tryz.func30, Tryz.ntmps30
    go_wp2
    go_region
    go_wp2_with fail
    have hf : Fr [] w (w.drew.alloc (.cells #[.func (.func 52) #[.pointer (some ⟨lp, 0, none⟩)] #[]] 78)) := (Fr.refl [] w).drew.alloc _
    refine (writeF B lp p bD bN n nD nN _ pv sv rv l d _ (HI.out.new hf) hn (heap_alloc_new w.drew _)).mono ?_
    rintro e w1 ⟨rfl, hl1, ho1⟩
    have H1 : Hid (ErrPost B lp p bD bN n (l.wr d (l.sync d)) w (.returned (errN (l.wr d (l.sync d)).2.2)) w1) := ⟨rfl, hl1, (HI.out.newO hf).trans ho1.ofr⟩
    clear hl1 ho1
    go_wp2
    go_ret
    exact H1.out
end Go.Proofs.YtbdhmkfdofkloaaGreatDoor
/- OPENING OVER NOTHING: (*Log).read, journal.Open. -/
namespace Go.Proofs.YtbdhmkfdofkloaaGreatDoor
open Go.RowKit
open Sc

def log0 (nx : Nat) : ALog := ⟨[], 600, [], nx, 0, 0⟩
/-- the disk turned by itself, under a log -/
theorem LogIn.dturned {w w' : World} {B lp p bD bN n nD nN nD' nN' : Nat} {pv sv rv pv' : Value} {l : ALog} {d d' : ADisk} (h : LogIn w B lp p bD bN pv sv rv l d n nD nN) (hd : DiskIn w' B p bD bN pv' d' n nD' nN') (hf : DFr p w w') : LogIn w' B lp p bD bN pv' sv rv l d' n nD' nN' ∧ OFr lp p w w' := by
  have hlp := (Array.getElem?_eq_some_iff.1 h.blk).1
  have hne : ∀ k, k < w.heap.size → (k = lp ∨ sv.ownBlock = some k ∨ rv.ownBlock = some k) → ¬ OwnD p w k := fun k _ hk ho => by
    have := h.sep k ((h.disk.ownD k).1 ho)
    rcases hk with e | e | e
    · exact this.1 e
    · exact this.2.1 e
    · exact this.2.2 e
  have hblk : w'.heap[lp]? = some (logO p sv rv l) := (hf.block lp hlp (hne lp hlp (.inl rfl))).trans h.blk
  have hrow : ∀ (e : TypeId) (k m : Nat) (v : Value) (xs : List Value), (∀ g, v.ownBlock = some g → g = lp ∨ sv.ownBlock = some g ∨ rv.ownBlock = some g) → w.ownsRow B e k v m xs → w'.ownsRow B e k v m xs := fun e k m v xs hv hr => by
    refine ⟨hr.1, ?_⟩
    rcases hr.2 with h1 | ⟨g, cap, cur, rfl, h2, h3, h4⟩
    · exact .inl h1
    · exact .inr ⟨g, cap, cur, rfl, h2, (hf.block g (Array.getElem?_eq_some_iff.1 h3).1 (hne g (Array.getElem?_eq_some_iff.1 h3).1 (hv g rfl))).trans h3, h4⟩
  have hl : LogIn w' B lp p bD bN pv' sv rv l d' n nD' nN' := { disk := hd, blk := hblk, base := h.base, segs := hrow _ _ _ _ _ (fun g hg => .inr (.inl hg)) h.segs, recs := hrow _ _ _ _ _ (fun g hg => .inr (.inr hg)) h.recs, segsN := h.segsN, recsN := h.recsN, fillN := h.fillN, nextN := h.nextN, durN := h.durN }
  refine ⟨hl, hf.os, hf.tape, hf.output, hf.size, fun k hk hn => hf.block k hk (fun ho => hn ?_), fun k hk ho => ?_⟩
  · rw [h.own]
    have := (h.disk.ownD k).1 ho
    simp at this
    rcases this with e | e | e | e <;> simp [e]
  · rw [h.own]
    rcases (hl.own k).1 ho with e | e | e | e | e | e | e
    · exact .inl e
    · exact .inr (.inl e)
    · exact .inr (.inr (.inl e))
    · exact .inr (.inr (.inr (.inl e)))
    · have := (h.disk.ownD k).1 (hf.stay k hk ((hd.ownD k).2 (by simp [e])))
      simp at this
      rcases this with e | e | e | e <;> simp [e]
    · exact .inr (.inr (.inr (.inr (.inr (.inl e)))))
    · exact .inr (.inr (.inr (.inr (.inr (.inr e)))))
end Go.Proofs.YtbdhmkfdofkloaaGreatDoor
/- The steps of Cut, one behind the other. -/
namespace Go.Proofs.YtbdhmkfdofkloaaGreatDoor
open Go.RowKit
open Sc

def ALog.cutS (l : ALog) (d : ADisk) (gone first : Nat) : ALog × ADisk × Nat :=
  if (l.sync d).2.2 = 0 then
    if ((l.sync d).2.1.setMark first).2 = 0 then
      ((l.sync d).1, ((l.sync d).2.1.setMark first).1.removeAll ((l.segs.take gone).map segName))
    else ((l.sync d).1, (l.sync d).2.1.setMark first)
  else l.sync d
theorem LogIn.mores {w : World} {B lp p bD bN n nD nN : Nat} {pv sv rv : Value} {l : ALog} {d : ADisk} (h : LogIn w B lp p bD bN pv sv rv l d n nD nN) {m : Nat} (hm : n ≤ m) (hm2 : m ≤ 67108864) : LogIn w B lp p bD bN pv sv rv l d m nD nN where
  disk := h.disk.mores hm hm2
  blk := h.blk
  base := h.base
  segs := h.segs
  recs := h.recs
  segsN := ⟨Nat.le_trans h.segsN.1 hm, h.segsN.2⟩
  recsN := Nat.le_trans h.recsN hm
  fillN := h.fillN
  nextN := by have := h.nextN; omega
  durN := h.durN
end Go.Proofs.YtbdhmkfdofkloaaGreatDoor
/- strings.Clone. -/
namespace Go.Proofs.YtbdhmkfdofkloaaGreatDoor
open Go.RowKit
open Sc

theorem cloneS (s : ByteArray) (w : World) (hs : s.size ≤ 281474976710656) :
    Calls Tryz.prog 51 #[.string s] w fun e w' => e = .returned (.string s) ∧ Below w.heap.size w w' := by
  go_enter Tryz.func51, Tryz.ntmps51
  go_wp2_with fail
  refine (Tryz.stringslite_Clone s w hs).mono ?_
  rintro e w1 ⟨rfl, hb⟩
  go_wp2
  go_ret
  exact ⟨rfl, hb⟩
end Go.Proofs.YtbdhmkfdofkloaaGreatDoor
