import Derived.Test.YtbdhmkfdofkloaaGreatDoorC37
import Derived.Test.YtbdhmkfdofkloaaGreatDoorC36
import Derived.Test.YtbdhmkfdofkloaaGreatDoorC22
import Derived.Deep.CutRange
/- LOGS WHOSE DISKS FAIL, the mathematics: a disk that is told not to fail does not. -/
namespace Go.Proofs.YtbdhmkfdofkloaaGreatDoor
open Go.RowKit
open Sc

/-- so many calls more do not fail -/
structure ADisk.Calm (d : ADisk) (c : Nat) : Prop where
  up : d.down = false
  left : (d.left < 0 ∨ (c : Int) < d.left) ∧ -9223372036854775808 ≤ d.left ∧ d.left ≤ 9223372036854775807
  full : (d.full < 0 ∨ (c : Int) < d.full) ∧ -9223372036854775808 ≤ d.full ∧ d.full ≤ 9223372036854775807
theorem ADisk.Calm.mono {d : ADisk} {c c' : Nat} (h : d.Calm c) (hc : c' ≤ c) : d.Calm c' := by
  obtain ⟨h1, h2, h3⟩ := h
  exact ⟨h1, by omega, by omega⟩
theorem writes_calm {d : ADisk} {c : Nat} (h : d.Calm (c + 1)) (hc : c < 4398046511103) : d.writes.2 = 0 ∧ d.writes.1.Calm c := by
  obtain ⟨h1, h2, h3⟩ := h
  have e := wr_ok (d := d) (by rw [h1]; simp; omega) (by omega)
  rw [e]
  refine ⟨rfl, h1, ?_, ?_⟩
  · show (wrap64 (d.left - 1) < 0 ∨ (c : Int) < wrap64 (d.left - 1)) ∧ -9223372036854775808 ≤ wrap64 (d.left - 1) ∧ wrap64 (d.left - 1) ≤ 9223372036854775807
    unfold wrap64; omega
  · show (wrap64 (d.full - 1) < 0 ∨ (c : Int) < wrap64 (d.full - 1)) ∧ -9223372036854775808 ≤ wrap64 (d.full - 1) ∧ wrap64 (d.full - 1) ≤ 9223372036854775807
    unfold wrap64; omega
theorem sync_calm {d : ADisk} {c : Nat} (h : d.Calm (c + 1)) (hc : c < 4398046511103) : d.sync.2 = 0 ∧ d.sync.1.Calm c := by
  obtain ⟨h1, h2⟩ := writes_calm h hc
  rw [sync_ok h1]
  exact ⟨rfl, h2.up, h2.left, h2.full⟩
theorem tell_calm {d : ADisk} {c : Nat} (o : AOp) (h : d.Calm (c + 1)) (hc : c < 4398046511103) : (d.tell o).2 ≠ 9 ∧ (d.tell o).2 ≠ 10 ∧ (d.tell o).1.Calm c := by
  obtain ⟨h1, h2⟩ := writes_calm h hc
  unfold ADisk.tell
  simp only [h1]
  rw [if_neg (by omega), if_neg (by omega)]
  split
  · exact ⟨by omega, by omega, h2⟩
  · split
    · exact ⟨by omega, by omega, h2⟩
    · exact ⟨by omega, by omega, h2.up, h2.left, h2.full⟩
theorem removeAll_calm : ∀ (l : List ByteArray) {d : ADisk} {c : Nat}, d.Calm (c + 1 + l.length) → c + 1 + l.length < 4398046511103 → (d.removeAll l).2 ≠ 9 ∧ (d.removeAll l).2 ≠ 10 ∧ (d.removeAll l).1.Calm c
  | [], d, c, h, hc => by
    obtain ⟨h1, h2⟩ := sync_calm (c := c) h (by simp at hc; omega)
    exact ⟨by show d.sync.2 ≠ 9; omega, by show d.sync.2 ≠ 10; omega, h2⟩
  | x :: l, d, c, h, hc => by
    simp only [List.length_cons] at h hc
    obtain ⟨h1, h2, h3⟩ := tell_calm (c := c + 1 + l.length) (remOp x) (h.mono (by omega)) (by omega)
    have er : d.removeAll (x :: l) = if (d.tell (remOp x)).2 = 0 then (d.tell (remOp x)).1.removeAll l else d.tell (remOp x) := rfl
    rw [er]
    split
    · exact removeAll_calm l h3 (by omega)
    · exact ⟨h1, h2, h3.mono (by omega)⟩
theorem setMark_calm {d : ADisk} {c : Nat} (first : Nat) (h : d.Calm (c + 4)) (hc : c + 4 < 4398046511103) : (d.setMark first).2 ≠ 9 ∧ (d.setMark first).2 ≠ 10 ∧ (d.setMark first).1.Calm c := by
  unfold ADisk.setMark
  obtain ⟨a1, a2, a3⟩ := tell_calm (c := c + 3) ⟨1, markNew, ByteArray.empty, str (recBytes first 0 [])⟩ h (by omega)
  simp only
  split
  · obtain ⟨b1, b2⟩ := sync_calm (c := c + 2) a3 (by omega)
    rw [if_pos b1]
    obtain ⟨c1, c2, c3⟩ := tell_calm (c := c + 1) ⟨4, markNew, markNm, ByteArray.empty⟩ b2 (by omega)
    split
    · obtain ⟨d1, d2⟩ := sync_calm (c := c) c3 (by omega)
      exact ⟨by omega, by omega, d2⟩
    · exact ⟨c1, c2, c3.mono (by omega)⟩
  · exact ⟨a1, a2, a3.mono (by omega)⟩
section
variable {l : ALog} {d : ADisk}
theorem lsync_calm {c : Nat} (h : d.Calm (c + 1)) (hc : c < 4398046511103) : (l.sync d).2.2 = 0 ∧ (l.sync d).2.1.Calm c := by
  obtain ⟨h1, h2⟩ := sync_calm h hc
  unfold ALog.sync
  rw [if_pos h1]
  exact ⟨rfl, h2⟩
theorem wr_calm {r : ALog × ADisk × Nat} (hf : l.failed = 0) (h : r.2.2 ≠ 9 ∧ r.2.2 ≠ 10) : (l.wr d r).2.2 ≠ 9 ∧ (l.wr d r).2.2 ≠ 10 := by
  unfold ALog.wr
  rw [if_pos hf]
  exact h
theorem put_calm (by_ : List Nat) (h : d.Calm 2) : (l.put d by_).2.2 ≠ 9 ∧ (l.put d by_).2.2 ≠ 10 := by
  have hr : (l.room d).2.2 = 0 ∧ (l.room d).2.1.Calm 1 := by
    unfold ALog.room
    split
    · exact ⟨rfl, h.mono (by omega)⟩
    · obtain ⟨a1, a2⟩ := lsync_calm (l := l) (c := 1) h (by omega)
      rw [if_pos a1]
      exact ⟨rfl, a2⟩
  unfold ALog.put
  rw [if_pos hr.1]
  have := tell_calm (c := 0) ⟨2, segName ((l.room d).1.segs.getLastD 0), ByteArray.empty, str by_⟩ hr.2 (by omega)
  exact ⟨this.1, this.2.1⟩
theorem append_calm (kind : Nat) (s : ByteArray) (hf : l.failed = 0) (h : d.Calm 2) : (l.append d kind s).2.2.2 ≠ 9 ∧ (l.append d kind s).2.2.2 ≠ 10 := by
  unfold ALog.append
  split
  · simp
  · split
    · simp
    · exact wr_calm hf (put_calm _ h)
theorem force_calm (hf : l.failed = 0) (h : d.Calm 1) : (l.force d).2.2 ≠ 9 ∧ (l.force d).2.2 ≠ 10 := by
  unfold ALog.force
  split
  · simp
  · refine wr_calm hf ?_
    obtain ⟨a1, _⟩ := lsync_calm (l := l) (c := 0) h (by omega)
    omega
theorem cut_calm (low : Nat) (hf : l.failed = 0) (h : d.Calm (6 + l.segs.length)) (hl : l.segs.length < 1000000) : (l.cut d low).2.2 ≠ 9 ∧ (l.cut d low).2.2 ≠ 10 := by
  obtain ⟨a1, a2⟩ := lsync_calm (l := l) (c := 5 + l.segs.length) (h.mono (by omega)) (by omega)
  unfold ALog.cut
  split
  · exact wr_calm hf (by omega)
  · have hS : ∀ g first, (l.cutS d g first).2.2 ≠ 9 ∧ (l.cutS d g first).2.2 ≠ 10 := fun g first => by
      unfold ALog.cutS
      rw [if_pos a1]
      obtain ⟨b1, b2, b3⟩ := setMark_calm (c := 1 + l.segs.length) first (a2.mono (by omega)) (by omega)
      split
      · have := removeAll_calm ((l.segs.take g).map segName) (c := 0) (b3.mono (by rw [List.length_map, List.length_take]; omega)) (by rw [List.length_map, List.length_take]; omega)
        exact ⟨this.1, this.2.1⟩
      · exact ⟨b1, b2⟩
    simp only
    split
    · simp
    · exact wr_calm hf (hS _ _)
theorem opens_calm (ns : List ByteArray) (h : d.Calm (2 + ns.length)) (hl : ns.length < 1000000) : (l.opensU d ns).2.2 ≠ 9 ∧ (l.opensU d ns).2.2 ≠ 10 := by
  obtain ⟨a1, a2⟩ := lsync_calm (l := l) (c := 1 + ns.length) (h.mono (by omega)) (by omega)
  unfold ALog.opensU
  rw [if_pos a1]
  have := removeAll_calm ns (c := 0) (a2.mono (by omega)) (by omega)
  exact ⟨this.1, this.2.1⟩
theorem knob_calm (hd : d.down = false) {a b : Int} (ha : a < 0) (hb : b < 0) (ha2 : -9223372036854775808 ≤ a) (hb2 : -9223372036854775808 ≤ b) (c : Nat) : (d.knob a b).Calm c :=
  ⟨hd, by show (a < 0 ∨ _) ∧ _ ≤ a ∧ a ≤ _; omega, by show (b < 0 ∨ _) ∧ _ ≤ b ∧ b ≤ _; omega⟩
end
end Go.Proofs.YtbdhmkfdofkloaaGreatDoor
/- A HOST OF A LOG, WHEREVER IT STANDS: Lose, Open over a disk that may fail. -/
namespace Go.Proofs.YtbdhmkfdofkloaaGreatDoor
open Go.RowKit
open Sc

/-- files that hold a log of which Q is true -/
def Holds (Q : Nat → List Sg → Prop) (F : Files) : Prop := ∃ mk ss, Stands F mk ss ∧ Bare F mk ss ∧ Q mk ss
/-- a host, open (lo: its log) or not -/
structure HAny (w : World) (B hp p bD bN : Nat) (lo : Option Nat) (d : ADisk) (n : Nat) : Prop where
  host : ∃ up x, w.heap[hp]? = some (hostO p up (.pointer x))
  lt : ∀ lp, lo = some lp → lp < w.heap.size
  disk : ∃ pv nD nN, DiskIn w B p bD bN pv d n nD nN
theorem HostIn.any {w : World} {B hp lp p bD bN n : Nat} {l : ALog} {d : ADisk} (h : HostIn w B hp lp p bD bN l d n) : HAny w B hp p bD bN (some lp) d n := by
  obtain ⟨hh, pv, sv, rv, nD, nN, hl⟩ := h
  exact ⟨⟨_, _, hh⟩, fun q e => by cases e; exact (Array.getElem?_eq_some_iff.1 hl.blk).1, ⟨_, _, _, hl.disk⟩⟩
theorem HostCl.any {w : World} {B hp p bD bN n : Nat} {d : ADisk} (h : HostCl w B hp p bD bN d n) : HAny w B hp p bD bN none d n := by
  obtain ⟨hh, pv, nD, nN, hd⟩ := h
  exact ⟨⟨_, _, hh⟩, fun q e => (by cases e), ⟨_, _, _, hd⟩⟩
theorem fallen_sure {P : Files → Prop} {F : Files} (h : P F) : Sure P (fallen F) := Sure.rest h rfl rfl
theorem Sure.knob {P : Files → Prop} {d : ADisk} (h : Sure P d) (a b : Int) : Sure P (d.knob a b) := ⟨h.left, h.now⟩
theorem oLose {w : World} {B hp p bD bN n : Nat} {lo : Option Nat} {d : ADisk} {P : Files → Prop} (kept part : Int) (h : HAny w B hp p bD bN lo d n) (hs : Sure P d) (hp1 : -9223372036854775808 ≤ part) (hp2 : part ≤ 9223372036854775807) :
    Calls Tryz.prog 12 #[.pointer (some ⟨hp, 0, none⟩), .int .i64 kept, .int .i64 part] w fun e w' => e = .returned (.tuple #[]) ∧ ∃ F' bN', P F' ∧ HostCl w' B hp p bD bN' (fallen F') n ∧ HFr hp p lo none w w' := by
  obtain ⟨⟨up, x, hh⟩, _, pv, nD, nN, hd⟩ := h
  refine (lLose B hp p bD bN n nD nN pv _ up d kept part lo w hh ⟨_, rfl⟩ hd hp1 hp2).mono ?_
  rintro e w' ⟨he, F', bN', hl, hc, hf⟩
  exact ⟨he, F', bN', hs.left F' hl, hc, hf⟩
/-- how many files of no use there may be -/
theorem useless_len {F : Files} {mk : Nat} {ss : List Sg} {us : List Nat} (h : Stands F mk ss) (hu : Useless F mk ss us) : us.length ≤ nextOf mk ss + 1 := by
  refine nodup_len (nextOf mk ss + 1) us hu.1 (fun u hm => ?_)
  obtain ⟨h2, h3⟩ := (hu.2 u).1 hm
  rcases h.other _ h2 with e | e | ⟨v, e, _, h4⟩
  · exact absurd e (segName_mark u).1
  · exact absurd e (segName_mark u).2
  · obtain rfl := segName_inj e
    rcases h4 with h4 | h4 | h4
    · have : mk ≤ nextOf mk ss := by unfold nextOf; omega
      omega
    · exact absurd h4 h3
    · omega
/-- what comes of Open -/
def Opened (B hp p bD bN n : Nat) (Q : Nat → List Sg → Prop) (a b : Int) (lo : Option Nat) (w : World) (c : Nat) (w' : World) : Prop :=
  (c = 0 ∧ ∃ lp l d mk ss, HostIn w' B hp lp p bD bN l d n ∧ d.down = false ∧ LgS l d mk ss [] ∧ Bare d.durable mk ss ∧ Q mk ss ∧ HFr hp p lo (some lp) w w') ∨
  ((c = 9 ∨ c = 10) ∧ (0 ≤ a ∨ 0 ≤ b) ∧ ∃ bN' d, HostCl w' B hp p bD bN' d n ∧ d.down = false ∧ Sure (Holds Q) d ∧ HFr hp p lo none w w')
theorem HostCl.mores {w : World} {B hp p bD bN n m : Nat} {d : ADisk} (h : HostCl w B hp p bD bN d n) (hm : n ≤ m) (hm2 : m ≤ 1000000000) : HostCl w B hp p bD bN d m := by
  obtain ⟨hh, pv, nD, nN, hd⟩ := h
  exact ⟨hh, pv, nD, nN, hd.mores hm hm2⟩
theorem oOpen {w : World} {B hp p bD bN n N : Nat} {lo : Option Nat} {d : ADisk} {Q : Nat → List Sg → Prop} (a b c k : Int) (h : HAny w B hp p bD bN lo d n) (hs : Sure (Holds Q) d) (hdn : d.down = false) (hQ : ∀ mk ss, Q mk ss → nextOf mk ss ≤ N) (hB : 3 ≤ B) (hhp : B ≤ hp) (hmet : Met w) (hpow : Pows w) (herr : ErrS w) (hN : N + 1 ≤ n) (hn : n + N + 8 ≤ 1000000000) (hN2 : N < 900000) (ha : -9223372036854775808 ≤ a) (hb : -9223372036854775808 ≤ b) (hk1 : -9223372036854775808 ≤ k) (hk2 : k ≤ 9223372036854775807) :
    Calls Tryz.prog 8 #[.pointer (some ⟨hp, 0, none⟩), fallV a b c k] w fun e w' => ∃ cd : Nat, e = .returned (.int .i64 (cd : Int)) ∧ Below B w w' ∧ Opened B hp p bD bN (n + N + 1) Q a b lo w cd w' := by
  obtain ⟨⟨up, x, hh⟩, hlt, pv, nD, nN, hd⟩ := h
  obtain ⟨⟨mk, ss, hst, hba, hq⟩, hag⟩ := hs.now hdn
  have hnx := hQ mk ss hq
  have hsl : ss.length ≤ (chunks ss).flatten.length := by have := flat_len' hst.ne'; simpa using this
  have hsn : ss.length + 1 ≤ n := by unfold nextOf at hnx; omega
  have hkn : ∀ us, Useless d.now mk ss us → us.length ≤ N + 1 := fun us hu => by have := useless_len hst hu; omega
  have hop := fun us hu => opensX (us := us) (hs.knob a b) hdn hst hba hu
  refine (hOpen_all B hp p bD bN n nD nN mk ss pv _ up lo d a b c k w hh ⟨_, rfl⟩ hlt hd hB hhp hmet hdn hst hba.begun hpow herr (by omega) hsn (by omega) (fun us hu => by have := hkn us hu; omega) (fun us hu h0 => ?_) hk1 hk2).mono ?_
  · rcases hop us hu with h1 | h1
    · exact h1.2.1
    · exact absurd h0 h1.1
  · rintro e w' ⟨us, hu, he, hbel, hcase⟩
    have hl := hkn us hu
    refine ⟨_, he, hbel, ?_⟩
    have hab : ¬ (0 ≤ a ∨ 0 ≤ b) → ((readL mk ss).opensU (d.knob a b) (us.map segName)).2.2 ≠ 9 ∧ ((readL mk ss).opensU (d.knob a b) (us.map segName)).2.2 ≠ 10 := fun hn => opens_calm _ (knob_calm hdn (by omega) (by omega) ha hb _) (by rw [List.length_map]; omega)
    rcases hop us hu with ⟨o1, o2, o3, o4⟩ | ⟨o1, o2, o3⟩
    · rcases hcase with ⟨_, lp, hhost, hf⟩ | ⟨h0, _⟩ | ⟨h0, _⟩
      · obtain ⟨hh', pv', sv', rv', nD', nN', hl'⟩ := hhost
        exact .inl ⟨o1, lp, _, _, mk, ss, ⟨hh', pv', sv', rv', nD', nN', hl'.mores (by omega) (by omega)⟩, o2, o3.knob _ _, o4, hq, hf⟩
      · exact absurd o1 h0
      · exact absurd o1 h0
    · have hsure : Sure (Holds Q) ((readL mk ss).opensU (d.knob a b) (us.map segName)).2.1 := o3.mono (fun F hF => by
        rcases hF with hF | ⟨h1, h2⟩
        · exact hF
        · exact ⟨mk, ss, h1, h2, hq⟩)
      rcases hcase with ⟨h0, _⟩ | ⟨_, hup, hcl, hf⟩ | ⟨_, hup, F', bN', hleft, hcl, hf⟩
      · exact absurd h0 o1
      · rcases o2 with o2 | o2
        · exact .inr ⟨.inl o2.1, Classical.byContradiction (fun hn => (hab hn).1 o2.1), bN, _, hcl.mores (by omega) (by omega), o2.2, hsure.knob _ _, hf⟩
        · rw [o2.2] at hup; cases hup
      · rcases o2 with o2 | o2
        · rw [o2.2] at hup; cases hup
        · exact .inr ⟨.inr o2.1, Classical.byContradiction (fun hn => (hab hn).2 o2.1), bN', _, hcl.mores (by omega) (by omega), rfl, fallen_sure (hsure.left F' hleft), hf⟩
end Go.Proofs.YtbdhmkfdofkloaaGreatDoor
/- (*book).step: Force, Cut, and what does nothing. -/
namespace Go.Proofs.YtbdhmkfdofkloaaGreatDoor
open Go.RowKit
open Sc

abbrev stepV (kd : Int) (txn : Nat) (sq nn : Int) (key s : ByteArray) (ao : Option Addr) (x y : Nat) (f1 f2 f3 f4 : Int) : Value := .agg #[.int .i64 kd, .int .u64 (txn : Int), .int .i64 sq, .int .i64 nn, .string key, .string s, .slice ao x y, .int .i64 f1, .int .i64 f2, .int .i64 f3, .int .i64 f4]
abbrev stepO (kd : Int) (txn : Nat) (sq nn : Int) (key s : ByteArray) (ao : Option Addr) (x y : Nat) (f1 f2 f3 f4 : Int) : Obj := .cells #[.int .i64 kd, .int .u64 (txn : Int), .int .i64 sq, .int .i64 nn, .string key, .string s, .slice ao x y, .int .i64 f1, .int .i64 f2, .int .i64 f3, .int .i64 f4] 51
end Go.Proofs.YtbdhmkfdofkloaaGreatDoor
/- (*book).step: Append of a record that is not too big. (Written by mkstep4.py.) -/
namespace Go.Proofs.YtbdhmkfdofkloaaGreatDoor
open Go.RowKit
open Sc

theorem LogIn.foreign {w W : World} {B lp p bD bN n nD nN : Nat} {pv sv rv : Value} {l : ALog} {d : ADisk} {S : List Nat} (h : LogIn w B lp p bD bN pv sv rv l d n nD nN) (hf : Fr S w W) (hS : ∀ k ∈ S, ¬ Own lp p w k ∧ ∀ t, w.heap[k]? ≠ some (textO t)) : LogIn W B lp p bD bN pv sv rv l d n nD nN := by
  have key : ∀ k, Own lp p w k → k ∉ S := fun k hk hm => (hS k hm).1 hk
  refine h.turned (h.disk.fr hf (key p ((h.own p).2 (by simp))) (key bD ((h.own bD).2 (by simp))) (key bN ((h.own bN).2 (by simp))) (fun g hg => key g ((h.own g).2 (by simp [hg]))) (fun q hq => (hS q hq).2)) hf ?_ (Nat.le_refl _)
  intro k hk _
  have := (hS k hk).1
  rw [h.own] at this
  simp only [not_or] at this
  exact ⟨this.1, this.2.2.2.2.2.1, this.2.2.2.2.2.2⟩
end Go.Proofs.YtbdhmkfdofkloaaGreatDoor
/- (*book).step, whatever it is; small; Well. -/
namespace Go.Proofs.YtbdhmkfdofkloaaGreatDoor
open Go.RowKit
open Sc

theorem u64wrap (z : Int) : ∃ k : Nat, k < 18446744073709551616 ∧ IntKind.u64.wrap z = (k : Int) := by
  have h : 0 ≤ IntKind.u64.wrap z ∧ IntKind.u64.wrap z < 18446744073709551616 := by
    simp [IntKind.wrap, IntKind.signed, IntKind.bits]; omega
  exact ⟨(IntKind.u64.wrap z).toNat, by omega, by omega⟩
theorem u8wrap (z : Int) : ∃ k : Nat, k < 256 ∧ IntKind.u8.wrap z = (k : Int) := by
  have h : 0 ≤ IntKind.u8.wrap z ∧ IntKind.u8.wrap z < 256 := by
    simp [IntKind.wrap, IntKind.signed, IntKind.bits]; omega
  exact ⟨(IntKind.u8.wrap z).toNat, by omega, by omega⟩
/-- a step of a script -/
structure AStep where
  kd : Int
  txn : Nat
  sq : Int
  nn : Int
  key : ByteArray
  s : ByteArray
  sa : Option Addr
  sx : Nat
  sy : Nat
  f1 : Int
  f2 : Int
  f3 : Int
  f4 : Int
def StepCells (w : World) (b o : Nat) (a : AStep) : Prop :=
  w.cell? ⟨b, o, none⟩ = some (.int .i64 a.kd) ∧ w.cell? ⟨b, o + 1, none⟩ = some (.int .u64 (a.txn : Int)) ∧ w.cell? ⟨b, o + 2, none⟩ = some (.int .i64 a.sq) ∧ w.cell? ⟨b, o + 3, none⟩ = some (.int .i64 a.nn) ∧ w.cell? ⟨b, o + 4, none⟩ = some (.string a.key) ∧ w.cell? ⟨b, o + 5, none⟩ = some (.string a.s) ∧ w.cell? ⟨b, o + 6, none⟩ = some (.slice a.sa a.sx a.sy) ∧
  w.cell? ⟨b, o + 7, none⟩ = some (.int .i64 a.f1) ∧ w.cell? ⟨b, o + 8, none⟩ = some (.int .i64 a.f2) ∧ w.cell? ⟨b, o + 9, none⟩ = some (.int .i64 a.f3) ∧ w.cell? ⟨b, o + 10, none⟩ = some (.int .i64 a.f4)
def StepsAt (w : World) (v : Value) (L : List AStep) : Prop :=
  L.length ≤ 281474976710656 ∧ ∃ ao cap, v = .slice ao L.length cap ∧ ∀ i a, L[i]? = some a → (∃ b off, ao = some ⟨b, off, none⟩ ∧ b < w.heap.size ∧ StepCells w b (off + i * 11) a) ∧ a.key.size ≤ 281474976710656 ∧ a.s.size ≤ 281474976710656 ∧ a.sx ≤ 281474976710656
theorem StepCells.below {w w' : World} {b o B : Nat} {a : AStep} (h : StepCells w b o a) (hb : Below B w w') (hlt : b < B) : StepCells w' b o a := by
  obtain ⟨h0, h1, h2, h3, h4, h5, h6, h7, h8, h9, h10⟩ := h
  exact ⟨(hb.cell (p := ⟨b, o, none⟩) hlt).trans h0, (hb.cell (p := ⟨b, o + 1, none⟩) hlt).trans h1, (hb.cell (p := ⟨b, o + 2, none⟩) hlt).trans h2, (hb.cell (p := ⟨b, o + 3, none⟩) hlt).trans h3, (hb.cell (p := ⟨b, o + 4, none⟩) hlt).trans h4, (hb.cell (p := ⟨b, o + 5, none⟩) hlt).trans h5, (hb.cell (p := ⟨b, o + 6, none⟩) hlt).trans h6, (hb.cell (p := ⟨b, o + 7, none⟩) hlt).trans h7, (hb.cell (p := ⟨b, o + 8, none⟩) hlt).trans h8, (hb.cell (p := ⟨b, o + 9, none⟩) hlt).trans h9, (hb.cell (p := ⟨b, o + 10, none⟩) hlt).trans h10⟩
/-- what a script weighs -/
def AStep.wt (a : AStep) : Nat := a.key.size + a.s.size + a.sx
def sumW : List AStep → Nat
  | [] => 0
  | a :: L => a.wt + sumW L
theorem sumW_app (K L : List AStep) : sumW (K ++ L) = sumW K + sumW L := by
  induction K with
  | nil => simp [sumW]
  | cons a K ih => simp [sumW, ih]; omega
theorem sumW_take (L : List AStep) (k : Nat) : sumW (L.take k) ≤ sumW L := by
  have := sumW_app (L.take k) (L.drop k)
  rw [List.take_append_drop] at this
  omega
theorem sumW_snoc {L : List AStep} {k : Nat} {a : AStep} (h : L[k]? = some a) : sumW (L.take (k + 1)) = sumW (L.take k) + a.wt := by
  rw [List.take_add_one, h, sumW_app]; simp [sumW]
set_option maxHeartbeats 1000000 in
theorem well_any (w : World) : Calls Tryz.prog 7 #[] w fun e w' => e = .returned (fallV (-1) (-1) 0 0) ∧ Below w.heap.size w w' := by
  go_enter Tryz.func7, Tryz.ntmps7
  go_wp2
  refine bodyPost_ret (v := fallV (-1) (-1) 0 0) (by simp [results, Tryz.results7, go_sem]) rfl ⟨rfl, (Below.refl _ _).alloc (Nat.le_refl _) _⟩
set_option maxRecDepth 100000 in
set_option maxHeartbeats 4000000 in
theorem small_any (v : Value) (L : List AStep) (w : World) (h : StepsAt w v L) :
    Calls Tryz.prog 14 #[v] w fun e w' => e = .returned (.bool (decide (L.length + sumW L ≤ 16384))) ∧ ∃ q, w' = w.drewN q := by
  obtain ⟨hlen, ao, cap, rfl, hc⟩ := h
  obtain ⟨m, hm⟩ : ∃ m, m = L.length := ⟨_, rfl⟩
  rw [← hm] at hlen ⊢
  have HM : Hid (m = L.length) := hm
  have HC : Hid (∀ i a, L[i]? = some a → (∃ b off, ao = some ⟨b, off, none⟩ ∧ b < w.heap.size ∧ StepCells w b (off + i * 11) a) ∧ a.key.size ≤ 281474976710656 ∧ a.s.size ≤ 281474976710656 ∧ a.sx ≤ 281474976710656) := hc
  clear hm hc
  go_enter Tryz.func14, Tryz.ntmps14
  go_wp2
  go_loopw [3, 4] (fun n i wr => ∃ k : Nat, k ≤ m ∧ i = .int .i64 (k : Int) ∧ n = .int .i64 ((m + sumW (L.take k) : Nat) : Int) ∧ (k = 0 ∨ m + sumW (L.take (k - 1)) ≤ 16384) ∧ ∃ q, wr = w.drewN q) (fun _ i _ => m - (intOf i).toNat)
  case atStart => exact ⟨0, Nat.zero_le _, rfl, by simp [sumW], .inl rfl, 0, rfl⟩
  case round =>
    obtain ⟨k, hk, rfl, rfl, hpr, q, rfl⟩ := hrel
    have hsz : ∀ j, m + sumW (L.take j) ≤ m + sumW L := fun j => by have := sumW_take L j; omega
    by_cases hkm : k < m
    · obtain ⟨a, ha⟩ : ∃ a, L[k]? = some a := ⟨_, List.getElem?_eq_getElem (by have := HM.out; omega)⟩
      obtain ⟨⟨b, off, rfl, hb, h0, h1, h2, h3, h4, h5, h6, h7, h8, h9, h10⟩, w1, w2, w3⟩ := HC.out k a ha
      have hsn := sumW_snoc ha
      have HT : Hid (sumW (L.take (k + 1)) = sumW (L.take k) + a.wt ∧ m + sumW (L.take k) ≤ m + sumW L ∧ m + sumW (L.take (k + 1)) ≤ m + sumW L) := ⟨hsn, hsz k, hsz (k + 1)⟩
      by_cases hle : m + sumW (L.take k) ≤ 16384
      · have HW : Hid (a.wt = a.key.size + a.s.size + a.sx) := rfl
        generalize hz : sumW (L.take k) = z at hle HT ⊢
        have HZ : Hid (sumW (L.take k) = z) := hz
        clear hz hsn hsz hpr h0 h1 h2 h3 h7 h8 h9 h10
        have i0 : (0 : Int) ≤ (k : Int) := by omega
        have i1 : (k : Int) < (m : Int) := by omega
        go_wp2
        go_quiet (fail)
        go_wp2
        go_roundw
        case rel => exact ⟨k + 1, by omega, by go_num, by rw [HT.out.1, HW.out]; congr 1; omega, .inr (by simpa [HZ.out] using hle), _, rfl⟩
        case measure => simp [intOf]; omega
      · have hbig : ¬ m + sumW L ≤ 16384 := by have := HT.out; omega
        have hdd : decide (m + sumW L ≤ 16384) = false := decide_eq_false hbig
        generalize hz : sumW (L.take k) = z at hle HT ⊢
        clear hz hsn hsz hpr h0 h1 h2 h3 h4 h5 h6 h7 h8 h9 h10
        go_wp2
        go_ret
        have hd2 : decide ((m : Int) + (z : Int) ≤ 16384) = false := decide_eq_false (by omega)
        refine ⟨?_, q, rfl⟩
        rw [hdd]
        show Ending.returned (Value.bool (decide ((m : Int) + (z : Int) ≤ 16384))) = _
        rw [hd2]
    · obtain rfl : k = m := by omega
      have hall : L.take k = L := by rw [HM.out, List.take_length]
      rw [hall]
      clear hsz hpr
      generalize hz : sumW L = z
      have HZ : Hid (sumW L = z) := hz
      clear hz hall
      go_wp2
      go_ret
      refine ⟨?_, q, rfl⟩
      show Ending.returned (Value.bool (decide ((k : Int) + (z : Int) ≤ 16384))) = _
      rw [HZ.out]
      congr 2
      exact decide_eq_decide.2 (by omega)
end Go.Proofs.YtbdhmkfdofkloaaGreatDoor
/- THE LAWS' opened: a log is opened anew, until it is open. -/
namespace Go.Proofs.YtbdhmkfdofkloaaGreatDoor
open Go.RowKit
open Sc

/-- a host, open or not -/
def HEi (w : World) (B hp p bD bN : Nat) (lo : Option Nat) (d : ADisk) (n : Nat) : Prop :=
  (∃ lp l, lo = some lp ∧ HostIn w B hp lp p bD bN l d n) ∨ (lo = none ∧ HostCl w B hp p bD bN d n)
section
variable {w w' : World} {B hp p bD bN n : Nat} {lo : Option Nat} {d : ADisk}
theorem HEi.any (h : HEi w B hp p bD bN lo d n) : HAny w B hp p bD bN lo d n := by
  rcases h with ⟨lp, l, rfl, h⟩ | ⟨rfl, h⟩
  · exact h.any
  · exact h.any
theorem HEi.new (h : HEi w B hp p bD bN lo d n) (hf : Fr [] w w') : HEi w' B hp p bD bN lo d n ∧ HFr hp p lo lo w w' := by
  rcases h with ⟨lp, l, rfl, h⟩ | ⟨rfl, h⟩
  · obtain ⟨hh, pv, sv, rv, nD, nN, hl⟩ := h
    exact ⟨.inl ⟨lp, l, rfl, (hl.newO hf).host hl hh, pv, sv, rv, nD, nN, hl.new hf⟩, (hl.newO hf).hfr⟩
  · exact ⟨.inr ⟨rfl, (h.fresh hf).1⟩, (h.fresh hf).2⟩
theorem HEi.step (h : HEi w B hp p bD bN lo d n) {q : Nat} {c : Array Value} (hq : w.heap[q]? = some (.cells c 51 (0, 0))) : ¬ OwnHo hp p lo w q := by
  rcases h with ⟨lp, l, rfl, h⟩ | ⟨rfl, h⟩
  · exact h.freeHo q c _ hq (by decide) (by decide) (by decide) (by decide) (by decide) (by decide)
  · exact h.freeHo q c _ hq (by decide) (by decide) (by decide) (by decide) (by decide) (by decide)
theorem HEi.base (h : HEi w B hp p bD bN lo d n) : B ≤ w.heap.size := by
  obtain ⟨_, _, pv, nD, nN, hd⟩ := h.any
  exact hd.base.2.2.2
theorem HEi.below {lo' : Option Nat} (h : HEi w B hp p bD bN lo d n) (hh : B ≤ hp) (hf : HFr hp p lo lo' w w') : Below B w w' := by
  refine ⟨hf.os, hf.tape, hf.output, hf.size, fun k hk => hf.block k (Nat.lt_of_lt_of_le hk h.base) (fun ho => ?_)⟩
  rcases h with ⟨lp, l, rfl, _, pv, sv, rv, nD, nN, hl⟩ | ⟨rfl, _, pv, nD, nN, hd⟩
  · rcases (ownHo_some k).1 ho with e | e
    · omega
    · have := hl.ge e; omega
  · rcases (ownHo_none k).1 ho with e | e
    · omega
    · have := hd.geD e; omega
end
/-- it is open, and says Q -/
def OpenNow (w0 w' : World) (B hp p bD n : Nat) (Q : Nat → List Sg → Prop) (lo : Option Nat) : Prop :=
  ∃ lp bN l d mk ss, HostIn w' B hp lp p bD bN l d n ∧ d.down = false ∧ LgS l d mk ss [] ∧ Bare d.durable mk ss ∧ Q mk ss ∧ HFr hp p lo (some lp) w0 w'
/-- its last lines -/
theorem openWell {w : World} {B hp p bD bN n N : Nat} {lo : Option Nat} {d : ADisk} {Q : Nat → List Sg → Prop} (h : HEi w B hp p bD bN lo d n) (hs : Sure (Holds Q) d) (hdn : d.down = false) (hQ : ∀ mk ss, Q mk ss → nextOf mk ss ≤ N) (hB : 3 ≤ B) (hhp : B ≤ hp) (hg : Met w ∧ Pows w ∧ ErrS w) (hN : N + 1 ≤ n) (hn : n + N + 8 ≤ 1000000000) (hN2 : N < 900000) :
    Calls Tryz.prog 8 #[.pointer (some ⟨hp, 0, none⟩), fallV (-1) (-1) 0 0] w fun e w' => e = .returned (.int .i64 0) ∧ Below B w w' ∧ OpenNow w w' B hp p bD (n + N + 1) Q lo := by
  refine (oOpen (-1) (-1) 0 0 h.any hs hdn hQ hB hhp hg.1 hg.2.1 hg.2.2 hN hn hN2 (by omega) (by omega) (by omega) (by omega)).mono ?_
  rintro e w' ⟨cd, he, hb, hc⟩
  rcases hc with ⟨h0, lp, l, d', mk, ss, h1, h2, h3, h4, h5, h6⟩ | ⟨_, h0, _⟩
  · exact ⟨by rw [he, h0]; rfl, hb, lp, bN, l, d', mk, ss, h1, h2, h3, h4, h5, h6⟩
  · omega
set_option maxRecDepth 100000 in
set_option maxHeartbeats 4000000 in
theorem opened_any {w : World} {B hp p bD bN n N : Nat} {lo : Option Nat} {d : ADisk} {Q : Nat → List Sg → Prop} (kd : Int) (txn x y : Nat) (sq nn : Int) (key s : ByteArray) (ao : Option Addr) (f1 f2 f3 f4 : Int) (h : HEi w B hp p bD bN lo d n) (hs : Sure (Holds Q) d) (hdn : d.down = false) (hQ : ∀ mk ss, Q mk ss → nextOf mk ss ≤ N) (hB : 3 ≤ B) (hhp : B ≤ hp) (hg : Met w ∧ Pows w ∧ ErrS w) (hN : N + 1 ≤ n) (hn : n + N + N + 20 ≤ 1000000000) (hN2 : N < 900000)
    (hn1 : -9223372036854775808 ≤ nn) (hn2 : nn ≤ 9223372036854775807) (h11 : -9223372036854775808 ≤ f1) (h21 : -9223372036854775808 ≤ f2) (h41 : -9223372036854775808 ≤ f4) (h42 : f4 ≤ 9223372036854775807) :
    Calls Tryz.prog 35 #[.pointer (some ⟨hp, 0, none⟩), stepV kd txn sq nn key s ao x y f1 f2 f3 f4] w fun e w' => e = .returned (.bool true) ∧ Below B w w' ∧ OpenNow w w' B hp p bD (n + N + N + 2) Q lo := by
  obtain ⟨W, hW⟩ : ∃ W, W = w.alloc (stepO kd txn sq nn key s ao x y f1 f2 f3 f4) := ⟨_, rfl⟩
  have hf0 : Fr [] w W := by rw [hW]; exact (Fr.refl [] w).alloc _
  obtain ⟨hE0, hr0⟩ := h.new hf0
  have hs0 : W.heap[w.heap.size]? = some (stepO kd txn sq nn key s ao x y f1 f2 f3 f4) := by rw [hW]; exact heap_alloc_new w _
  have hb0 : Below B w W := h.below hhp hr0
  have hg0 : Met W ∧ Pows W ∧ ErrS W := ⟨hg.1.below hb0 (by omega), hg.2.1.of_block (hb0.block 1 (by omega)), hg.2.2.below hb0 (by omega)⟩
  have c3 := blk_cell hs0 3
  simp at c3
  rw [hW] at c3
  have H0 : Hid (HEi W B hp p bD bN lo d n ∧ HFr hp p lo lo w W ∧ W.heap[w.heap.size]? = some (stepO kd txn sq nn key s ao x y f1 f2 f3 f4) ∧ Below B w W ∧ (Met W ∧ Pows W ∧ ErrS W)) := ⟨hE0, hr0, hs0, hb0, hg0⟩
  have HS : Hid (Sure (Holds Q) d ∧ d.down = false ∧ ∀ mk ss, Q mk ss → nextOf mk ss ≤ N) := ⟨hs, hdn, hQ⟩
  clear h hf0 hE0 hr0 hs0 hb0 hg0 hs hdn hQ hg
  go_enter Tryz.func35, Tryz.ntmps35
  go_wp2_with fail
  rw [← hW]
  clear hW c3
  refine (lpick nn 2 W hn1 hn2 (by omega) (by omega)).mono ?_
  rintro e w1 ⟨r, hr, rfl, rfl⟩
  obtain ⟨q, hq⟩ : ∃ q, q = w.heap.size := ⟨_, rfl⟩
  rw [← hq] at H0 ⊢
  clear hq
  have c9 := blk_cell H0.out.2.2.1 9
  have c10 := blk_cell H0.out.2.2.1 10
  have c7 := blk_cell H0.out.2.2.1 7
  have c8 := blk_cell H0.out.2.2.1 8
  simp at c7 c8 c9 c10
  rcases (by omega : r = 0 ∨ r = 1) with rfl | rfl
  · have hlo := oLose f3 f4 H0.out.1.any HS.out.1 h41 h42
    go_wp2_with fail
    refine hlo.mono ?_
    clear hlo c7 c8 c9 c10
    rintro e w2 ⟨rfl, F2, bN2, hP2, hC2, hF2⟩
    have hb2 : Below B w1 w2 := H0.out.1.below hhp hF2
    have hs2 := (hF2.block q (Array.getElem?_eq_some_iff.1 H0.out.2.2.1).1 (H0.out.1.step H0.out.2.2.1)).trans H0.out.2.2.1
    have hg2 : Met w2 ∧ Pows w2 ∧ ErrS w2 := ⟨H0.out.2.2.2.2.1.below hb2 (by omega), H0.out.2.2.2.2.2.1.of_block (hb2.block 1 (by omega)), H0.out.2.2.2.2.2.2.below hb2 (by omega)⟩
    have hE2 : HEi w2 B hp p bD bN2 none (fallen F2) n := .inr ⟨rfl, hC2⟩
    have hopn := oOpen f1 f2 f3 f4 hE2.any (fallen_sure hP2) rfl HS.out.2.2 hB hhp hg2.1 hg2.2.1 hg2.2.2 hN (by omega) hN2 h11 h21 h41 h42
    have c7 := blk_cell hs2 7
    have c8 := blk_cell hs2 8
    have c9 := blk_cell hs2 9
    have c10 := blk_cell hs2 10
    simp at c7 c8 c9 c10
    have H2 : Hid (HEi w2 B hp p bD bN2 none (fallen F2) n ∧ HFr hp p lo none w w2 ∧ w2.heap[q]? = some (stepO kd txn sq nn key s ao x y f1 f2 f3 f4) ∧ Below B w w2 ∧ (Met w2 ∧ Pows w2 ∧ ErrS w2)) := ⟨hE2, H0.out.2.1.trans hF2, hs2, H0.out.2.2.2.1.trans hb2, hg2⟩
    clear hP2 hC2 hF2 hb2 hs2 hg2 hE2 H0
    go_wp2_with fail
    refine hopn.mono ?_
    clear hopn c7 c8 c9 c10
    rintro e w3 ⟨cd, rfl, hb3, hop3⟩
    have hcd : cd = 0 ∨ (cd = 9 ∨ cd = 10) ∧ (0 ≤ f1 ∨ 0 ≤ f2) := by
      rcases hop3 with ⟨h0, _⟩ | ⟨h0, h1, _⟩
      · exact .inl h0
      · exact .inr ⟨h0, h1⟩
    obtain ⟨lo3, bN3, d3, hE3, hS3, hd3, hF3⟩ : ∃ lo3 bN3 d3, HEi w3 B hp p bD bN3 lo3 d3 (n + N + 1) ∧ Sure (Holds Q) d3 ∧ d3.down = false ∧ HFr hp p none lo3 w2 w3 := by
      rcases hop3 with ⟨_, lp, l, d', mk, ss, a1, a2, a3, a4, a5, a6⟩ | ⟨_, _, bN', d', a1, a2, a3, a4⟩
      · refine ⟨some lp, bN2, d', .inl ⟨lp, l, rfl, a1⟩, ?_, a2, a6⟩
        rcases a3.mode with ⟨_, h2, h3, _, _⟩ | ⟨_, _, _, h1, _⟩ | ⟨h1, _⟩
        · exact Sure.rest ⟨mk, ss, a3.st, a4, a5⟩ h2 h3
        · exact absurd rfl h1
        · exact absurd rfl h1
      · exact ⟨none, bN', d', .inr ⟨rfl, a1⟩, a3, a2, a4⟩
    have hb3' : Below B w w3 := H2.out.2.2.2.1.trans hb3
    have hs3 := (hF3.block q (Array.getElem?_eq_some_iff.1 H2.out.2.2.1).1 (H2.out.1.step H2.out.2.2.1)).trans H2.out.2.2.1
    have hg3 : Met w3 ∧ Pows w3 ∧ ErrS w3 := ⟨H2.out.2.2.2.2.1.below hb3 (by omega), H2.out.2.2.2.2.2.1.of_block (hb3.block 1 (by omega)), H2.out.2.2.2.2.2.2.below hb3 (by omega)⟩
    have H3 : Hid (HEi w3 B hp p bD bN3 lo3 d3 (n + N + 1) ∧ HFr hp p lo lo3 w w3 ∧ w3.heap[q]? = some (stepO kd txn sq nn key s ao x y f1 f2 f3 f4) ∧ Below B w w3 ∧ (Met w3 ∧ Pows w3 ∧ ErrS w3)) := ⟨hE3, H2.out.2.1.trans hF3, hs3, hb3', hg3⟩
    have HS3 : Hid (Sure (Holds Q) d3) := hS3
    have c7 := blk_cell hs3 7
    have c8 := blk_cell hs3 8
    have c9 := blk_cell hs3 9
    have c10 := blk_cell hs3 10
    simp at c7 c8 c9 c10
    have hlo4 := oLose f3 f4 hE3.any hS3 h41 h42
    have hfa := faulty_any cd w3
    clear hop3 hE3 hS3 hd3 hF3 hb3 hb3' hs3 hg3 H2
    go_wp2_with fail
    refine hfa.mono ?_
    clear hfa
    rintro e w3' ⟨rfl, rfl⟩
    rcases hcd with rfl | ⟨hc9, hff⟩
    · go_wp2_with fail
      refine hlo4.mono ?_
      clear hlo4 c7 c8 c9 c10
      rintro e w4 ⟨rfl, F4, bN4, hP4, hC4, hF4⟩
      have hb4 : Below B w3' w4 := H3.out.1.below hhp hF4
      have hg4 : Met w4 ∧ Pows w4 ∧ ErrS w4 := ⟨H3.out.2.2.2.2.1.below hb4 (by omega), H3.out.2.2.2.2.2.1.of_block (hb4.block 1 (by omega)), H3.out.2.2.2.2.2.2.below hb4 (by omega)⟩
      have HP4 : Hid (Holds Q F4) := hP4
      have H4 : Hid (HEi w4 B hp p bD bN4 none (fallen F4) (n + N + 1) ∧ HFr hp p lo none w w4 ∧ True ∧ Below B w w4 ∧ (Met w4 ∧ Pows w4 ∧ ErrS w4)) := ⟨.inr ⟨rfl, hC4⟩, H3.out.2.1.trans hF4, trivial, H3.out.2.2.2.1.trans hb4, hg4⟩
      clear hP4 hC4 hF4 hb4 hg4 H3
      go_wp2_with fail
      refine (well_any w4).mono ?_
      rintro e w8 ⟨rfl, hb8⟩
      have hf8 : Fr [] w4 w8 := Fr.of_below hb8 []
      obtain ⟨hE8, hr8⟩ := H4.out.1.new hf8
      have hb9 : Below B w4 w8 := H4.out.1.below hhp hr8
      have hg8 : Met w8 ∧ Pows w8 ∧ ErrS w8 := ⟨H4.out.2.2.2.2.1.below hb9 (by omega), H4.out.2.2.2.2.2.1.of_block (hb9.block 1 (by omega)), H4.out.2.2.2.2.2.2.below hb9 (by omega)⟩
      have hop8 := openWell hE8 (fallen_sure HP4.out) rfl HS.out.2.2 hB hhp hg8 (by omega) (by omega) hN2
      have H8 : Hid (HFr hp p lo none w w8 ∧ Below B w w8) := ⟨H4.out.2.1.trans hr8, H4.out.2.2.2.1.trans hb9⟩
      clear hb8 hf8 hE8 hr8 hb9 hg8
      go_wp2_with fail
      refine hop8.mono ?_
      clear hop8
      rintro e w9 ⟨rfl, hb10, lp9, bN9, l9, d9, mk9, ss9, a1, a2, a3, a4, a5, a6⟩
      have his := hIs p hp true _ w9 a1.1
      have HF : Hid (Below B w w9 ∧ OpenNow w w9 B hp p bD (n + N + N + 2) Q lo) := by
        obtain ⟨hh', pv', sv', rv', nD', nN', hl'⟩ := a1
        exact ⟨H8.out.2.trans hb10, lp9, bN9, l9, d9, mk9, ss9, ⟨hh', pv', sv', rv', nD', nN', hl'.mores (by omega) (by omega)⟩, a2, a3, a4, a5, H8.out.1.trans a6⟩
      clear hb10 a1 a2 a3 a4 a5 a6
      go_wp2_with fail
      refine his.mono ?_
      clear his
      rintro e w10 ⟨rfl, rfl⟩
      go_wp2
      go_ret
      exact ⟨rfl, HF.out.1, HF.out.2⟩
    · have hdec : decide (cd = 9 ∨ cd = 10) = true := decide_eq_true hc9
      have hcn : ¬ (cd : Int) = 0 := by omega
      rw [hdec]
      rcases (by omega : 0 ≤ f1 ∨ f1 < 0 ∧ 0 ≤ f2) with hff | ⟨hff, hf2⟩
      · have hneg : ¬ f1 < 0 := by omega
        go_wp2_with fail
        refine hlo4.mono ?_
        clear hlo4 c7 c8 c9 c10
        rintro e w4 ⟨rfl, F4, bN4, hP4, hC4, hF4⟩
        have hb4 : Below B w3' w4 := H3.out.1.below hhp hF4
        have hg4 : Met w4 ∧ Pows w4 ∧ ErrS w4 := ⟨H3.out.2.2.2.2.1.below hb4 (by omega), H3.out.2.2.2.2.2.1.of_block (hb4.block 1 (by omega)), H3.out.2.2.2.2.2.2.below hb4 (by omega)⟩
        have HP4 : Hid (Holds Q F4) := hP4
        have H4 : Hid (HEi w4 B hp p bD bN4 none (fallen F4) (n + N + 1) ∧ HFr hp p lo none w w4 ∧ True ∧ Below B w w4 ∧ (Met w4 ∧ Pows w4 ∧ ErrS w4)) := ⟨.inr ⟨rfl, hC4⟩, H3.out.2.1.trans hF4, trivial, H3.out.2.2.2.1.trans hb4, hg4⟩
        clear hP4 hC4 hF4 hb4 hg4 H3
        go_wp2_with fail
        refine (well_any w4).mono ?_
        rintro e w8 ⟨rfl, hb8⟩
        have hf8 : Fr [] w4 w8 := Fr.of_below hb8 []
        obtain ⟨hE8, hr8⟩ := H4.out.1.new hf8
        have hb9 : Below B w4 w8 := H4.out.1.below hhp hr8
        have hg8 : Met w8 ∧ Pows w8 ∧ ErrS w8 := ⟨H4.out.2.2.2.2.1.below hb9 (by omega), H4.out.2.2.2.2.2.1.of_block (hb9.block 1 (by omega)), H4.out.2.2.2.2.2.2.below hb9 (by omega)⟩
        have hop8 := openWell hE8 (fallen_sure HP4.out) rfl HS.out.2.2 hB hhp hg8 (by omega) (by omega) hN2
        have H8 : Hid (HFr hp p lo none w w8 ∧ Below B w w8) := ⟨H4.out.2.1.trans hr8, H4.out.2.2.2.1.trans hb9⟩
        clear hb8 hf8 hE8 hr8 hb9 hg8
        go_wp2_with fail
        refine hop8.mono ?_
        clear hop8
        rintro e w9 ⟨rfl, hb10, lp9, bN9, l9, d9, mk9, ss9, a1, a2, a3, a4, a5, a6⟩
        have his := hIs p hp true _ w9 a1.1
        have HF : Hid (Below B w w9 ∧ OpenNow w w9 B hp p bD (n + N + N + 2) Q lo) := by
          obtain ⟨hh', pv', sv', rv', nD', nN', hl'⟩ := a1
          exact ⟨H8.out.2.trans hb10, lp9, bN9, l9, d9, mk9, ss9, ⟨hh', pv', sv', rv', nD', nN', hl'.mores (by omega) (by omega)⟩, a2, a3, a4, a5, H8.out.1.trans a6⟩
        clear hb10 a1 a2 a3 a4 a5 a6
        go_wp2_with fail
        refine his.mono ?_
        clear his
        rintro e w10 ⟨rfl, rfl⟩
        go_wp2
        go_ret
        exact ⟨rfl, HF.out.1, HF.out.2⟩
      · have hneg : ¬ f2 < 0 := by omega
        go_wp2_with fail
        refine hlo4.mono ?_
        clear hlo4 c7 c8 c9 c10
        rintro e w4 ⟨rfl, F4, bN4, hP4, hC4, hF4⟩
        have hb4 : Below B w3' w4 := H3.out.1.below hhp hF4
        have hg4 : Met w4 ∧ Pows w4 ∧ ErrS w4 := ⟨H3.out.2.2.2.2.1.below hb4 (by omega), H3.out.2.2.2.2.2.1.of_block (hb4.block 1 (by omega)), H3.out.2.2.2.2.2.2.below hb4 (by omega)⟩
        have HP4 : Hid (Holds Q F4) := hP4
        have H4 : Hid (HEi w4 B hp p bD bN4 none (fallen F4) (n + N + 1) ∧ HFr hp p lo none w w4 ∧ True ∧ Below B w w4 ∧ (Met w4 ∧ Pows w4 ∧ ErrS w4)) := ⟨.inr ⟨rfl, hC4⟩, H3.out.2.1.trans hF4, trivial, H3.out.2.2.2.1.trans hb4, hg4⟩
        clear hP4 hC4 hF4 hb4 hg4 H3
        go_wp2_with fail
        refine (well_any w4).mono ?_
        rintro e w8 ⟨rfl, hb8⟩
        have hf8 : Fr [] w4 w8 := Fr.of_below hb8 []
        obtain ⟨hE8, hr8⟩ := H4.out.1.new hf8
        have hb9 : Below B w4 w8 := H4.out.1.below hhp hr8
        have hg8 : Met w8 ∧ Pows w8 ∧ ErrS w8 := ⟨H4.out.2.2.2.2.1.below hb9 (by omega), H4.out.2.2.2.2.2.1.of_block (hb9.block 1 (by omega)), H4.out.2.2.2.2.2.2.below hb9 (by omega)⟩
        have hop8 := openWell hE8 (fallen_sure HP4.out) rfl HS.out.2.2 hB hhp hg8 (by omega) (by omega) hN2
        have H8 : Hid (HFr hp p lo none w w8 ∧ Below B w w8) := ⟨H4.out.2.1.trans hr8, H4.out.2.2.2.1.trans hb9⟩
        clear hb8 hf8 hE8 hr8 hb9 hg8
        go_wp2_with fail
        refine hop8.mono ?_
        clear hop8
        rintro e w9 ⟨rfl, hb10, lp9, bN9, l9, d9, mk9, ss9, a1, a2, a3, a4, a5, a6⟩
        have his := hIs p hp true _ w9 a1.1
        have HF : Hid (Below B w w9 ∧ OpenNow w w9 B hp p bD (n + N + N + 2) Q lo) := by
          obtain ⟨hh', pv', sv', rv', nD', nN', hl'⟩ := a1
          exact ⟨H8.out.2.trans hb10, lp9, bN9, l9, d9, mk9, ss9, ⟨hh', pv', sv', rv', nD', nN', hl'.mores (by omega) (by omega)⟩, a2, a3, a4, a5, H8.out.1.trans a6⟩
        clear hb10 a1 a2 a3 a4 a5 a6
        go_wp2_with fail
        refine his.mono ?_
        clear his
        rintro e w10 ⟨rfl, rfl⟩
        go_wp2
        go_ret
        exact ⟨rfl, HF.out.1, HF.out.2⟩
  · clear c7 c8 c9 c10
    go_wp2_with fail
    refine (well_any w1).mono ?_
    rintro e w8 ⟨rfl, hb8⟩
    have hf8 : Fr [] w1 w8 := Fr.of_below hb8 []
    obtain ⟨hE8, hr8⟩ := H0.out.1.new hf8
    have hb9 : Below B w1 w8 := H0.out.1.below hhp hr8
    have hg8 : Met w8 ∧ Pows w8 ∧ ErrS w8 := ⟨H0.out.2.2.2.2.1.below hb9 (by omega), H0.out.2.2.2.2.2.1.of_block (hb9.block 1 (by omega)), H0.out.2.2.2.2.2.2.below hb9 (by omega)⟩
    have hop8 := openWell hE8 HS.out.1 HS.out.2.1 HS.out.2.2 hB hhp hg8 (by omega) (by omega) hN2
    have H8 : Hid (HFr hp p lo lo w w8 ∧ Below B w w8) := ⟨H0.out.2.1.trans hr8, H0.out.2.2.2.1.trans hb9⟩
    clear hb8 hf8 hE8 hr8 hb9 hg8
    go_wp2_with fail
    refine hop8.mono ?_
    clear hop8
    rintro e w9 ⟨rfl, hb10, lp9, bN9, l9, d9, mk9, ss9, a1, a2, a3, a4, a5, a6⟩
    have his := hIs p hp true _ w9 a1.1
    have HF : Hid (Below B w w9 ∧ OpenNow w w9 B hp p bD (n + N + N + 2) Q lo) := by
      obtain ⟨hh', pv', sv', rv', nD', nN', hl'⟩ := a1
      exact ⟨H8.out.2.trans hb10, lp9, bN9, l9, d9, mk9, ss9, ⟨hh', pv', sv', rv', nD', nN', hl'.mores (by omega) (by omega)⟩, a2, a3, a4, a5, H8.out.1.trans a6⟩
    clear hb10 a1 a2 a3 a4 a5 a6
    go_wp2_with fail
    refine his.mono ?_
    clear his
    rintro e w10 ⟨rfl, rfl⟩
    go_wp2
    go_ret
    exact ⟨rfl, HF.out.1, HF.out.2⟩
end Go.Proofs.YtbdhmkfdofkloaaGreatDoor
