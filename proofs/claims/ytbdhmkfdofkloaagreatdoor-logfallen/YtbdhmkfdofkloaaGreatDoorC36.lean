import Derived.Test.YtbdhmkfdofkloaaGreatDoorC35
import Derived.Test.YtbdhmkfdofkloaaGreatDoorC31
import Derived.Test.YtbdhmkfdofkloaaGreatDoorC21
import Derived.Test.YtbdhmkfdofkloaaGreatDoorC33
import Derived.Test.YtbdhmkfdofkloaaGreatDoorC06
import Derived.Maps.AppendAt
import Derived.Test.YtbdhmkfdofkloaaGreatDoorC22
/- LOGS WHOSE DISKS FAIL, the mathematics: a record more; it is opened again. -/
namespace Go.Proofs.YtbdhmkfdofkloaaGreatDoor
open Go.RowKit
open Sc

section
variable {l : ALog} {d d' : ADisk} {mk : Nat} {ss : List Sg} {c1 : List Rec} {x : Rec}
theorem num_snoc (h : ∀ (k : Nat) (r : Rec), c1[k]? = some r → r.lsn = nextOf mk ss + k) (hx : x.lsn = nextOf mk ss + c1.length) : ∀ (k : Nat) (r : Rec), (c1 ++ [x])[k]? = some r → r.lsn = nextOf mk ss + k := nums_snoc h x hx
theorem fine_snoc (h : FineP c1) (hx : x.kind < 256 ∧ x.pay.length ≤ 255 ∧ Byt x.pay) : FineP (c1 ++ [x]) := fun r hr => by
  rcases List.mem_append.1 hr with hr | hr
  · exact h r hr
  · simp at hr; subst hr; exact hx
theorem bytesR_one (r : Rec) : bytesR [r] = 15 + r.pay.length := by simp [bytesR]
/-- a record more, in the segment that is there -/
theorem LgS.told (h : LgS l d mk ss c1) (hf : l.filled < 600) (hx : x.kind < 256 ∧ x.pay.length ≤ 255 ∧ Byt x.pay) (hn : x.lsn = l.next) (hb : l.next + 1 < 18446744073709551616)
    (e1 : d'.durable = d.durable) (e2 : d'.now = doOp d.now (appOp (segName (l.segs.getLastD 0)) (str (recBytes x.lsn x.kind x.pay)))) (e3 : d'.pending = d.pending ++ [appOp (segName (l.segs.getLastD 0)) (str (recBytes x.lsn x.kind x.pay))]) :
    LgS { l with filled := l.filled + (15 + x.pay.length), recs := l.recs ++ [x], next := l.next + 1 } d' mk ss (c1 ++ [x]) := by
  have hlsn : x.lsn = nextOf mk ss + c1.length := by rw [hn, h.next]
  have common : Mode { l with filled := l.filled + (15 + x.pay.length), recs := l.recs ++ [x], next := l.next + 1 } d' mk ss (c1 ++ [x]) → LgS { l with filled := l.filled + (15 + x.pay.length), recs := l.recs ++ [x], next := l.next + 1 } d' mk ss (c1 ++ [x]) := fun hm =>
    ⟨by rw [e1]; exact h.st, by rw [e1]; exact h.clean, by rw [e1]; exact h.beg, by show l.recs ++ [x] = _; rw [h.recs, List.append_assoc], by show l.next + 1 = _; rw [h.next]; simp; omega, h.nofail, h.dur, num_snoc h.num1 hlsn, fine_snoc h.fin1 hx, by have := h.next; simp; omega, hm⟩
  apply common
  rw [doOp_plus] at e2
  rcases h.mode with ⟨h1, h2, h3, h4, h5⟩ | ⟨ds, c0, h0, h1, h2, h3, h4, h5, h6⟩ | ⟨h1, h2, h3, h4, h5, h6⟩
  · subst h1
    obtain ⟨ds, c0, h0, hfl⟩ : ∃ ds c0, ss = ds ++ [(c0, [])] ∧ l.filled = bytesR c0 := by
      rcases List.eq_nil_or_concat ss with e | ⟨ds, s, e⟩
      · rw [e] at h5; simp [fillOf] at h5; omega
      · have e' : ss = ds ++ [s] := by simpa using e
        rw [e', fillOf_snoc] at h5
        unfold fillS at h5
        split at h5
        · rename_i ht
          exact ⟨ds, s.1, by rw [e']; congr 2; exact Prod.ext rfl ht, h5⟩
        · omega
    have elast : l.segs.getLastD 0 = nextOf mk ds := by rw [h4, h0, chunks_snoc, starts_snoc]; simp [nextOf]
    rw [elast] at e2 e3
    refine .last ds c0 h0 (by simp) (by rw [e3, h2]; simp [opsR]) ?_ h4 ?_ ?_
    · rw [e2, h3, e1]; simp [encR]
    · show l.filled + _ = _; rw [hfl]; simp [bytesR]
    · simp [bytesR]; have := hx.2.1; omega
  · have elast : l.segs.getLastD 0 = nextOf mk ds := by rw [h4, h0, chunks_snoc, starts_snoc]; simp [nextOf]
    rw [elast] at e2 e3
    refine .last ds c0 h0 (by simp) (by rw [e3, h2, opsR_snoc]) ?_ h4 ?_ ?_
    · rw [e2, h3, plus_plus, ← str_app, encR_snoc, e1]
    · show l.filled + _ = _; rw [h5, bytesR_app, bytesR_one]; omega
    · rw [bytesR_app, bytesR_one]; have := hx.2.1; omega
  · have elast : l.segs.getLastD 0 = nextOf mk ss := by rw [h4]; simp
    rw [elast] at e2 e3
    refine .fresh (by simp) (by rw [e3, h2, opsR_snoc]) ?_ h4 ?_ ?_
    · rw [e2, h3, plus_plus, ← str_app, encR_snoc, e1]
    · show l.filled + _ = _; rw [h5, bytesR_app, bytesR_one]
    · rw [bytesR_app, bytesR_one]; have := hx.2.1; omega
/-- .. in a new one -/
theorem LgS.toldNew (h : LgS l d mk ss []) (hx : x.kind < 256 ∧ x.pay.length ≤ 255 ∧ Byt x.pay) (hn : x.lsn = l.next) (hb : l.next + 1 < 18446744073709551616)
    (e1 : d'.durable = d.durable) (e2 : d'.now = doOp d.now (appOp (segName l.next) (str (recBytes x.lsn x.kind x.pay)))) (e3 : d'.pending = d.pending ++ [appOp (segName l.next) (str (recBytes x.lsn x.kind x.pay))]) :
    LgS { l with segs := l.segs ++ [l.next], filled := 0 + (15 + x.pay.length), recs := l.recs ++ [x], next := l.next + 1 } d' mk ss [x] := by
  have enx : l.next = nextOf mk ss := by have := h.next; simpa using this
  rcases h.mode with ⟨h1, h2, h3, h4, h5⟩ | ⟨ds, c0, h0, h1, _⟩ | ⟨h1, _⟩
  · rw [doOp_plus] at e2
    refine ⟨by rw [e1]; exact h.st, by rw [e1]; exact h.clean, by rw [e1]; exact h.beg, by show l.recs ++ [x] = _; rw [h.recs]; simp, by show l.next + 1 = _; rw [enx]; simp, h.nofail, h.dur, fun k r hk => ?_, fun r hr => ?_, by simp; omega, .fresh (by simp) (by rw [e3, h2, enx]; simp [opsR]) (by rw [e2, h3, e1, enx]; simp [encR]) ?_ ?_ ?_⟩
    · have : k = 0 := by have := (List.getElem?_eq_some_iff.1 hk).1; simp at this; exact this
      subst this
      simp at hk
      subst hk
      rw [hn, enx]; rfl
    · simp at hr; subst hr; exact hx
    · show l.segs ++ [l.next] = _; rw [h4, enx]
    · show 0 + _ = _; simp [bytesR]
    · simp [bytesR]; have := hx.2.1; omega
  · exact absurd rfl h1
  · exact absurd rfl h1
theorem LgS.knob (h : LgS l d mk ss c1) (a b : Int) : LgS l (d.knob a b) mk ss c1 :=
  ⟨h.st, h.clean, h.beg, h.recs, h.next, h.nofail, h.dur, h.num1, h.fin1, h.big, by
    rcases h.mode with ⟨h1, h2, h3, h4, h5⟩ | ⟨ds, c0, h0, h1, h2, h3, h4, h5, h6⟩ | ⟨h1, h2, h3, h4, h5, h6⟩
    · exact .rest h1 h2 h3 h4 h5
    · exact .last ds c0 h0 h1 h2 h3 h4 h5 h6
    · exact .fresh h1 h2 h3 h4 h5 h6⟩
theorem LgS.sg (h : LgS l d mk ss c1) : l.filled < 600 → l.segs ≠ [] := fun hf => by
  rcases h.mode with ⟨h1, h2, h3, h4, h5⟩ | ⟨ds, c0, h0, h1, h2, h3, h4, h5, h6⟩ | ⟨h1, h2, h3, h4, h5, h6⟩
  · intro e
    rw [h4] at e
    have := congrArg List.length e
    rw [starts_len] at this
    simp at this
    rw [this] at h5
    simp [fillOf] at h5
    omega
  · rw [h4, h0, chunks_snoc, starts_snoc]; simp
  · rw [h4]; simp
end
end Go.Proofs.YtbdhmkfdofkloaaGreatDoor
/- LOGS WHOSE DISKS FAIL, the mathematics: opened behind a failure, over a disk that is well. -/
namespace Go.Proofs.YtbdhmkfdofkloaaGreatDoor
open Go.RowKit
open Sc

/-- F without the files of such names -/
def Files.sans (F : Files) (ns : List ByteArray) (G : Files) : Prop := ∀ k, (k ∈ ns → G k = none) ∧ (k ∉ ns → G k = F k)
section
variable {F G : Files} {mk : Nat} {ss : List Sg} {us : List Nat}
theorem mem_segs {u : Nat} : segName u ∈ us.map segName ↔ u ∈ us := by
  rw [List.mem_map]
  constructor
  · rintro ⟨v, hv, e⟩; rw [← segName_inj e]; exact hv
  · intro h; exact ⟨u, h, rfl⟩
theorem mark_segs : markNm ∉ us.map segName ∧ markNew ∉ us.map segName := by
  constructor
  · intro h; obtain ⟨v, _, e⟩ := List.mem_map.1 h; exact (segName_mark v).1 e
  · intro h; obtain ⟨v, _, e⟩ := List.mem_map.1 h; exact (segName_mark v).2 e
theorem Stands.sans (h : Stands F mk ss) (hu : Useless F mk ss us) (hg : F.sans (us.map segName) G) : Stands G mk ss ∧ Clean G mk ss := by
  have hseg : ∀ u, u ∈ starts mk (chunks ss) → G (segName u) = F (segName u) := fun u hs => (hg _).2 (fun hm => ((hu.2 u).1 (mem_segs.1 hm)).2 hs)
  have hcl : Clean G mk ss := fun u hn => by
    by_cases hm : u ∈ us
    · exact absurd ((hg (segName u)).1 (mem_segs.2 hm)) hn
    · rw [(hg (segName u)).2 (fun h => hm (mem_segs.1 h))] at hn
      exact Classical.byContradiction fun hs => hm ((hu.2 u).2 ⟨hn, hs⟩)
  refine ⟨{ mark := by rw [(hg markNm).2 mark_segs.1]; exact h.mark, pos := h.pos, ne := h.ne, files := fun k s hk => ?_, junk := h.junk, size := h.size, nums := h.nums, fine := h.fine, other := fun nm hnm => ?_, dead := fun t ht => ?_, big := h.big }, hcl⟩
  · have hkl : k < ss.length := (List.getElem?_eq_some_iff.1 hk).1
    have h1 : nextOf mk (ss.take k) ∈ starts mk (chunks ss) := by
      have := starts_at (chunks ss) mk k (by simpa using hkl)
      refine List.mem_of_getElem? (i := k) ?_
      rw [this]; unfold nextOf; rw [chunks_take]
    rw [hseg _ h1]; exact h.files k s hk
  · have : F nm ≠ none := by
      by_cases hm : nm ∈ us.map segName
      · exact absurd ((hg nm).1 hm) hnm
      · rw [(hg nm).2 hm] at hnm; exact hnm
    exact h.other nm this
  · exfalso
    have h1 := hcl (nextOf mk ss) (by rw [ht]; simp)
    have := starts_lt _ mk h.ne' _ h1
    unfold nextOf at this
    omega
end
end Go.Proofs.YtbdhmkfdofkloaaGreatDoor
/- THE LAW ON WHAT IS KEPT: its own row of texts; a host's calls beside it. -/
namespace Go.Proofs.YtbdhmkfdofkloaaGreatDoor
open Go.RowKit Go.Maps
open Sc

/-! ### texts as records -/
theorem flat_len' : ∀ {cs : List (List Rec)}, (∀ c ∈ cs, c ≠ []) → cs.length ≤ cs.flatten.length
  | [], _ => Nat.le_refl _
  | c :: cs, h => by
    have h1 : 0 < c.length := List.length_pos_iff.2 (h c (by simp))
    have h2 := flat_len' (cs := cs) (fun x hx => h x (by simp [hx]))
    simp at h2 ⊢
    omega
end Go.Proofs.YtbdhmkfdofkloaaGreatDoor
/- THE LAW ON WHAT IS KEPT: its states, and what the host's calls make of them. -/
namespace Go.Proofs.YtbdhmkfdofkloaaGreatDoor
open Go.RowKit Go.Maps
open Sc

section
variable {w0 w w' : World} {B hp lp p bD bN n nD nN bw : Nat} {pv sv rv va : Value} {l : ALog} {d : ADisk} {A : List ByteArray} {lo lo' : Option Nat} {up : Bool} {lv : Value}
theorem HostIn.freeHo (h : HostIn w B hp lp p bD bN l d n) (q : Nat) (c : Array Value) (t : TypeId) (hq : w.heap[q]? = some (.cells c t (0, 0))) (h1 : t ≠ 57) (h2 : t ≠ 107) (h3 : t ≠ 100) (h4 : t ≠ 34) (h5 : t ≠ 44) (h6 : t ≠ 63) : ¬ OwnHo hp p (some lp) w q := by
  obtain ⟨hh, pv, sv, rv, nD, nN, hl⟩ := h
  rw [ownHo_some]
  rintro (e | e)
  · rw [e, hh] at hq; cases hq; exact h6 rfl
  · exact hl.free hq h1 h2 h3 h4 h5 e
theorem HostCl.freeHo (h : HostCl w B hp p bD bN d n) (q : Nat) (c : Array Value) (t : TypeId) (hq : w.heap[q]? = some (.cells c t (0, 0))) (h1 : t ≠ 57) (h2 : t ≠ 107) (_ : t ≠ 100) (_ : t ≠ 34) (_ : t ≠ 44) (h6 : t ≠ 63) : ¬ OwnHo hp p none w q := by
  obtain ⟨hh, pv, nD, nN, hd⟩ := h
  rw [ownHo_none]
  rintro (e | e)
  · rw [e, hh] at hq; cases hq; exact h6 rfl
  · exact hd.freeD hq h1 h2 e
theorem HostIn.belowH (h : HostIn w B hp lp p bD bN l d n) (hh : B ≤ hp) (hf : HFr hp p (some lp) lo' w w') : Below B w w' := by
  obtain ⟨_, pv, sv, rv, nD, nN, hl⟩ := h
  refine ⟨hf.os, hf.tape, hf.output, hf.size, fun k hk => hf.block k (Nat.lt_of_lt_of_le hk hl.disk.base.2.2.2) (fun ho => ?_)⟩
  rcases (ownHo_some k).1 ho with e | e
  · omega
  · have := hl.ge e; omega
end
end Go.Proofs.YtbdhmkfdofkloaaGreatDoor
/- HOSTS OF A LOG WHOSE DISKS GO DOWN: Append, Force, Cut. (Written by mkhostd.py, from HostL.) -/
namespace Go.Proofs.YtbdhmkfdofkloaaGreatDoor
open Go.RowKit
open Sc

/-- what stands behind a host's call, when its disk went down -/
def DownPost (B hp lp p bD n : Nat) (v : Value) (d : ADisk) (w : World) (e : Ending) (w' : World) : Prop :=
  e = .returned v ∧ ∃ F' bN', Left d.durable d.pending F' ∧ HostCl w' B hp p bD bN' (fallen F') n ∧ HFr hp p (some lp) none w w'
theorem HostCl.fresh {w w' : World} {B hp p bD bN n : Nat} {d : ADisk} (h : HostCl w B hp p bD bN d n) (hf : Fr [] w w') : HostCl w' B hp p bD bN d n ∧ HFr hp p none none w w' := by
  obtain ⟨hh, pv, nD, nN, hd⟩ := h
  exact ⟨⟨(hf.block hp (Array.getElem?_eq_some_iff.1 hh).1 (by simp)).trans hh, pv, nD, nN, hd.new hf⟩, hd.hnew hf (by simp)⟩
set_option maxRecDepth 100000 in
set_option maxHeartbeats 4000000 in
theorem hAppendD (B hp lp p bD bN n : Nat) (kind : Nat) (s : ByteArray) (l : ALog) (d : ADisk) (a b c k : Int) (w : World) (h : HostIn w B hp lp p bD bN l d n) (hB : 2 ≤ B) (hmet : Met w) (hk : kind < 256) (hn : n + 3 < 1000000000) (hsg : l.filled < 600 → l.segs ≠ []) (hpow : Pows w)
    (hdn : (l.append (d.knob a b) kind s).2.1.down = true) (hhp : B ≤ hp) (hk1 : -9223372036854775808 ≤ k) (hk2 : k ≤ 9223372036854775807) :
    Calls Tryz.prog 9 #[.pointer (some ⟨hp, 0, none⟩), .int .u8 (kind : Int), .string s, fallV a b c k] w
      (DownPost B hp lp p bD (n + 3) (.tuple #[.int .u64 ((l.append (d.knob a b) kind s).2.2.1 : Int), .int .i64 ((l.append (d.knob a b) kind s).2.2.2 : Int)]) (l.append (d.knob a b) kind s).2.1 w) := by
  obtain ⟨hh, pv, sv, rv, nD, nN, hl⟩ := h
  obtain ⟨W, hW⟩ : ∃ W, W = w.alloc (fallO a b c k) := ⟨_, rfl⟩
  have hf0 : Fr [] w W := by rw [hW]; exact (Fr.refl [] w).alloc _
  have hl0 := hl.new hf0
  have ho0 := hl.newO hf0
  have hh0 := ho0.host hl hh
  have hx0 : W.heap[w.heap.size]? = some (fallO a b c k) := by rw [hW]; exact heap_alloc_new w _
  have c4 := blk_cell hh0 4
  have x0 := blk_cell hx0 0
  have x1 := blk_cell hx0 1
  have x2 := blk_cell hx0 2
  have x3 := blk_cell hx0 3
  simp at c4 x0 x1 x2 x3
  rw [hW] at c4 x0 x1 x2 x3
  have HH : Hid (W.heap[hp]? = some (hostO p true (.pointer (some ⟨lp, 0, none⟩)))) := hh0
  have HX : Hid (W.heap[w.heap.size]? = some (fallO a b c k)) := hx0
  have HL : Hid (LogIn W B lp p bD bN pv sv rv l d n nD nN) := hl0
  have HO : Hid (OFr lp p w W) := ho0
  have HLw : Hid (LogIn w B lp p bD bN pv sv rv l d n nD nN) := hl
  clear hh hl hf0 hl0 ho0 hh0 hx0
  go_enter Tryz.func9, Tryz.ntmps9
  go_wp2_with fail
  rw [← hW]
  clear hW c4 x0 x1 x2 x3
  refine (before_any hp p bD bN pv _ true d.down d.left d.full a b c k W HH.out HL.out.disk.blk).mono ?_
  rintro e w1 ⟨rfl, hb1, hf1⟩
  obtain ⟨hl1, ho1⟩ := HL.out.knob a b hf1 hb1
  have HL1 : Hid (LogIn w1 B lp p bD bN pv sv rv l (d.knob a b) n nD nN) := hl1
  have HO1 : Hid (OFr lp p w w1) := HO.out.trans ho1
  have hh1 := ho1.host HL.out HH.out
  have k4 := blk_cell hh1 4
  simp at k4
  have HH1 : Hid (w1.heap[hp]? = some (hostO p true (.pointer (some ⟨lp, 0, none⟩)))) := hh1
  have HX1 : Hid (w1.heap[w.heap.size]? = some (fallO a b c k)) := ho1.fall HL.out HX.out
  have hpow1 : Pows w1 := HO1.out.pows HLw.out hB hpow
  clear hl1 ho1 hh1 hb1 hf1
  go_wp2_with fail
  have hap : Calls Tryz.prog 29 #[.pointer (some ⟨lp, 0, none⟩), .int .u8 (kind : Int), .string s] w1 (AppPost B lp p bD bN (n + 3) (l.append (d.knob a b) kind s) w1) := by
    by_cases hs : 255 < s.size
    · refine (lappend_no B lp p bD bN n nD nN kind pv sv rv l (d.knob a b) s w1 HL1.out hs (by omega)).mono ?_
      rintro e w2 ⟨he, ⟨pv2, sv2, rv2, nD2, nN2, hl2⟩, ho2⟩
      exact ⟨he, ⟨pv2, sv2, rv2, nD2, nN2, hl2.mores (by omega) (by omega)⟩, ho2⟩
    · exact lappend_yes B lp p bD bN n nD nN kind pv sv rv l (d.knob a b) s w1 HL1.out (by omega) hk (by omega) hB hsg hpow1
  refine hap.mono ?_
  clear hap
  obtain ⟨r, hr⟩ : ∃ r, r = l.append (d.knob a b) kind s := ⟨_, rfl⟩
  rw [← hr] at hdn
  rintro e w2 hpost
  rw [← hr] at hpost
  have HR : Hid (r = l.append (d.knob a b) kind s) := hr
  clear hr
  obtain ⟨rfl, ⟨pv2, sv2, rv2, nD2, nN2, hl2⟩, ho2⟩ := hpost
  have HL2 : Hid (LogIn w2 B lp p bD bN pv2 sv2 rv2 r.1 r.2.1 (n + 3) nD2 nN2) := hl2
  have HO2 : Hid (OFr lp p w w2) := HO1.out.trans ho2
  have hh2 := ho2.host HL1.out HH1.out
  have HH2 : Hid (w2.heap[hp]? = some (hostO p true (.pointer (some ⟨lp, 0, none⟩)))) := hh2
  have hx2 := ho2.fall HL1.out HX1.out
  have y0 := blk_cell hx2 0
  have y1 := blk_cell hx2 1
  have y2 := blk_cell hx2 2
  have y3 := blk_cell hx2 3
  simp at y0 y1 y2 y3
  have hmet2 : Met w2 := HO2.out.met HLw.out hB hmet
  clear hl2 ho2 hh2 k4 hx2
  go_wp2_with fail
  refine (after_down B hp p bD bN (n + 3) nD2 nN2 pv2 _ true r.2.1 a b c k (some lp) w2 HH2.out ⟨_, rfl⟩ HL2.out.disk hdn hk1 hk2).mono ?_
  rintro e w3 ⟨rfl, F', bN', hleft, hcl, hf3⟩
  have hmet3 : Met w3 := hmet2.below ((⟨HH2.out, _, _, _, _, _, HL2.out⟩ : HostIn w2 B hp lp p bD bN r.1 r.2.1 (n + 3)).belowH hhp hf3) (by omega)
  have HB3 : Hid (Left r.2.1.durable r.2.1.pending F' ∧ HostCl w3 B hp p bD bN' (fallen F') (n + 3) ∧ HFr hp p (some lp) none w2 w3) := ⟨hleft, hcl, hf3⟩
  clear hleft hcl hf3 y0 y1 y2 y3
  go_wp2_with fail
  refine (told_any r.2.2.2 w3 hmet3).mono ?_
  rintro e w4 ⟨rfl, hf4⟩
  have HF4 : Hid (Fr [] w3 w4) := hf4
  clear hf4
  go_wp2
  go_ret2
  obtain ⟨z1, z2⟩ := HB3.out.2.1.fresh HF4.out
  have hr := HR.out
  subst hr
  exact ⟨rfl, F', bN', HB3.out.1, z1, (HO2.out.hfr.trans HB3.out.2.2).trans z2⟩
set_option maxRecDepth 100000 in
set_option maxHeartbeats 4000000 in
theorem hForceD (B hp lp p bD bN n : Nat) (l : ALog) (d : ADisk) (a b c k : Int) (w : World) (h : HostIn w B hp lp p bD bN l d n) (hB : 2 ≤ B) (hmet : Met w) (hn : n ≤ 1000000000)
    (hdn : (l.force (d.knob a b)).2.1.down = true) (hhp : B ≤ hp) (hk1 : -9223372036854775808 ≤ k) (hk2 : k ≤ 9223372036854775807) :
    Calls Tryz.prog 10 #[.pointer (some ⟨hp, 0, none⟩), fallV a b c k] w
      (DownPost B hp lp p bD (n) (.int .i64 ((l.force (d.knob a b)).2.2 : Int)) (l.force (d.knob a b)).2.1 w) := by
  obtain ⟨hh, pv, sv, rv, nD, nN, hl⟩ := h
  obtain ⟨W, hW⟩ : ∃ W, W = w.alloc (fallO a b c k) := ⟨_, rfl⟩
  have hf0 : Fr [] w W := by rw [hW]; exact (Fr.refl [] w).alloc _
  have hl0 := hl.new hf0
  have ho0 := hl.newO hf0
  have hh0 := ho0.host hl hh
  have hx0 : W.heap[w.heap.size]? = some (fallO a b c k) := by rw [hW]; exact heap_alloc_new w _
  have c4 := blk_cell hh0 4
  have x0 := blk_cell hx0 0
  have x1 := blk_cell hx0 1
  have x2 := blk_cell hx0 2
  have x3 := blk_cell hx0 3
  simp at c4 x0 x1 x2 x3
  rw [hW] at c4 x0 x1 x2 x3
  have HH : Hid (W.heap[hp]? = some (hostO p true (.pointer (some ⟨lp, 0, none⟩)))) := hh0
  have HX : Hid (W.heap[w.heap.size]? = some (fallO a b c k)) := hx0
  have HL : Hid (LogIn W B lp p bD bN pv sv rv l d n nD nN) := hl0
  have HO : Hid (OFr lp p w W) := ho0
  have HLw : Hid (LogIn w B lp p bD bN pv sv rv l d n nD nN) := hl
  clear hh hl hf0 hl0 ho0 hh0 hx0
  go_enter Tryz.func10, Tryz.ntmps10
  go_wp2_with fail
  rw [← hW]
  clear hW c4 x0 x1 x2 x3
  refine (before_any hp p bD bN pv _ true d.down d.left d.full a b c k W HH.out HL.out.disk.blk).mono ?_
  rintro e w1 ⟨rfl, hb1, hf1⟩
  obtain ⟨hl1, ho1⟩ := HL.out.knob a b hf1 hb1
  have HL1 : Hid (LogIn w1 B lp p bD bN pv sv rv l (d.knob a b) n nD nN) := hl1
  have HO1 : Hid (OFr lp p w w1) := HO.out.trans ho1
  have hh1 := ho1.host HL.out HH.out
  have k4 := blk_cell hh1 4
  simp at k4
  have HH1 : Hid (w1.heap[hp]? = some (hostO p true (.pointer (some ⟨lp, 0, none⟩)))) := hh1
  have HX1 : Hid (w1.heap[w.heap.size]? = some (fallO a b c k)) := ho1.fall HL.out HX.out
  clear hl1 ho1 hh1 hb1 hf1
  go_wp2_with fail
  have hap := force_any B lp p bD bN n nD nN pv sv rv l (d.knob a b) w1 HL1.out hn
  refine hap.mono ?_
  clear hap
  obtain ⟨r, hr⟩ : ∃ r, r = l.force (d.knob a b) := ⟨_, rfl⟩
  rw [← hr] at hdn
  rintro e w2 hpost
  rw [← hr] at hpost
  have HR : Hid (r = l.force (d.knob a b)) := hr
  clear hr
  obtain ⟨rfl, ⟨pv2, sv2, rv2, nD2, nN2, hl2⟩, ho2⟩ := hpost
  have HL2 : Hid (LogIn w2 B lp p bD bN pv2 sv2 rv2 r.1 r.2.1 (n) nD2 nN2) := hl2
  have HO2 : Hid (OFr lp p w w2) := HO1.out.trans ho2
  have hh2 := ho2.host HL1.out HH1.out
  have HH2 : Hid (w2.heap[hp]? = some (hostO p true (.pointer (some ⟨lp, 0, none⟩)))) := hh2
  have hx2 := ho2.fall HL1.out HX1.out
  have y0 := blk_cell hx2 0
  have y1 := blk_cell hx2 1
  have y2 := blk_cell hx2 2
  have y3 := blk_cell hx2 3
  simp at y0 y1 y2 y3
  have hmet2 : Met w2 := HO2.out.met HLw.out hB hmet
  clear hl2 ho2 hh2 k4 hx2
  go_wp2_with fail
  refine (after_down B hp p bD bN (n) nD2 nN2 pv2 _ true r.2.1 a b c k (some lp) w2 HH2.out ⟨_, rfl⟩ HL2.out.disk hdn hk1 hk2).mono ?_
  rintro e w3 ⟨rfl, F', bN', hleft, hcl, hf3⟩
  have hmet3 : Met w3 := hmet2.below ((⟨HH2.out, _, _, _, _, _, HL2.out⟩ : HostIn w2 B hp lp p bD bN r.1 r.2.1 (n)).belowH hhp hf3) (by omega)
  have HB3 : Hid (Left r.2.1.durable r.2.1.pending F' ∧ HostCl w3 B hp p bD bN' (fallen F') (n) ∧ HFr hp p (some lp) none w2 w3) := ⟨hleft, hcl, hf3⟩
  clear hleft hcl hf3 y0 y1 y2 y3
  go_wp2_with fail
  refine (told_any r.2.2 w3 hmet3).mono ?_
  rintro e w4 ⟨rfl, hf4⟩
  have HF4 : Hid (Fr [] w3 w4) := hf4
  clear hf4
  go_wp2
  go_ret
  obtain ⟨z1, z2⟩ := HB3.out.2.1.fresh HF4.out
  have hr := HR.out
  subst hr
  exact ⟨rfl, F', bN', HB3.out.1, z1, (HO2.out.hfr.trans HB3.out.2.2).trans z2⟩
set_option maxRecDepth 100000 in
set_option maxHeartbeats 4000000 in
theorem hCutD (B hp lp p bD bN n : Nat) (low : Nat) (l : ALog) (d : ADisk) (a b c k : Int) (w : World) (h : HostIn w B hp lp p bD bN l d n) (hB : 2 ≤ B) (hmet : Met w) (hn : n + 2 + l.segs.length ≤ 1000000000) (hpow : Pows w) (hinv : l.failed = 0 → ∀ k s : Nat, l.segs[k]? = some s → ∃ r rs, l.recs = r :: rs ∧ r.lsn ≤ s ∧ s - r.lsn < l.recs.length)
    (hdn : (l.cut (d.knob a b) low).2.1.down = true) (hhp : B ≤ hp) (hk1 : -9223372036854775808 ≤ k) (hk2 : k ≤ 9223372036854775807) :
    Calls Tryz.prog 37 #[.pointer (some ⟨hp, 0, none⟩), .int .u64 (low : Int), fallV a b c k] w
      (DownPost B hp lp p bD (n + 2 + l.segs.length) (.int .i64 ((l.cut (d.knob a b) low).2.2 : Int)) (l.cut (d.knob a b) low).2.1 w) := by
  obtain ⟨hh, pv, sv, rv, nD, nN, hl⟩ := h
  obtain ⟨W, hW⟩ : ∃ W, W = w.alloc (fallO a b c k) := ⟨_, rfl⟩
  have hf0 : Fr [] w W := by rw [hW]; exact (Fr.refl [] w).alloc _
  have hl0 := hl.new hf0
  have ho0 := hl.newO hf0
  have hh0 := ho0.host hl hh
  have hx0 : W.heap[w.heap.size]? = some (fallO a b c k) := by rw [hW]; exact heap_alloc_new w _
  have c4 := blk_cell hh0 4
  have x0 := blk_cell hx0 0
  have x1 := blk_cell hx0 1
  have x2 := blk_cell hx0 2
  have x3 := blk_cell hx0 3
  simp at c4 x0 x1 x2 x3
  rw [hW] at c4 x0 x1 x2 x3
  have HH : Hid (W.heap[hp]? = some (hostO p true (.pointer (some ⟨lp, 0, none⟩)))) := hh0
  have HX : Hid (W.heap[w.heap.size]? = some (fallO a b c k)) := hx0
  have HL : Hid (LogIn W B lp p bD bN pv sv rv l d n nD nN) := hl0
  have HO : Hid (OFr lp p w W) := ho0
  have HLw : Hid (LogIn w B lp p bD bN pv sv rv l d n nD nN) := hl
  clear hh hl hf0 hl0 ho0 hh0 hx0
  go_enter Tryz.func37, Tryz.ntmps37
  go_wp2_with fail
  rw [← hW]
  clear hW c4 x0 x1 x2 x3
  refine (before_any hp p bD bN pv _ true d.down d.left d.full a b c k W HH.out HL.out.disk.blk).mono ?_
  rintro e w1 ⟨rfl, hb1, hf1⟩
  obtain ⟨hl1, ho1⟩ := HL.out.knob a b hf1 hb1
  have HL1 : Hid (LogIn w1 B lp p bD bN pv sv rv l (d.knob a b) n nD nN) := hl1
  have HO1 : Hid (OFr lp p w w1) := HO.out.trans ho1
  have hh1 := ho1.host HL.out HH.out
  have k4 := blk_cell hh1 4
  simp at k4
  have HH1 : Hid (w1.heap[hp]? = some (hostO p true (.pointer (some ⟨lp, 0, none⟩)))) := hh1
  have HX1 : Hid (w1.heap[w.heap.size]? = some (fallO a b c k)) := ho1.fall HL.out HX.out
  have hpow1 : Pows w1 := HO1.out.pows HLw.out hB hpow
  clear hl1 ho1 hh1 hb1 hf1
  go_wp2_with fail
  have hap := cut_any B lp p bD bN n nD nN low pv sv rv l (d.knob a b) w1 HL1.out hn hB hpow1 hinv
  refine hap.mono ?_
  clear hap
  obtain ⟨r, hr⟩ : ∃ r, r = l.cut (d.knob a b) low := ⟨_, rfl⟩
  rw [← hr] at hdn
  rintro e w2 hpost
  rw [← hr] at hpost
  have HR : Hid (r = l.cut (d.knob a b) low) := hr
  clear hr
  obtain ⟨rfl, ⟨pv2, sv2, rv2, nD2, nN2, hl2⟩, ho2⟩ := hpost
  have HL2 : Hid (LogIn w2 B lp p bD bN pv2 sv2 rv2 r.1 r.2.1 (n + 2 + l.segs.length) nD2 nN2) := hl2
  have HO2 : Hid (OFr lp p w w2) := HO1.out.trans ho2
  have hh2 := ho2.host HL1.out HH1.out
  have HH2 : Hid (w2.heap[hp]? = some (hostO p true (.pointer (some ⟨lp, 0, none⟩)))) := hh2
  have hx2 := ho2.fall HL1.out HX1.out
  have y0 := blk_cell hx2 0
  have y1 := blk_cell hx2 1
  have y2 := blk_cell hx2 2
  have y3 := blk_cell hx2 3
  simp at y0 y1 y2 y3
  have hmet2 : Met w2 := HO2.out.met HLw.out hB hmet
  clear hl2 ho2 hh2 k4 hx2
  go_wp2_with fail
  refine (after_down B hp p bD bN (n + 2 + l.segs.length) nD2 nN2 pv2 _ true r.2.1 a b c k (some lp) w2 HH2.out ⟨_, rfl⟩ HL2.out.disk hdn hk1 hk2).mono ?_
  rintro e w3 ⟨rfl, F', bN', hleft, hcl, hf3⟩
  have hmet3 : Met w3 := hmet2.below ((⟨HH2.out, _, _, _, _, _, HL2.out⟩ : HostIn w2 B hp lp p bD bN r.1 r.2.1 (n + 2 + l.segs.length)).belowH hhp hf3) (by omega)
  have HB3 : Hid (Left r.2.1.durable r.2.1.pending F' ∧ HostCl w3 B hp p bD bN' (fallen F') (n + 2 + l.segs.length) ∧ HFr hp p (some lp) none w2 w3) := ⟨hleft, hcl, hf3⟩
  clear hleft hcl hf3 y0 y1 y2 y3
  go_wp2_with fail
  refine (told_any r.2.2 w3 hmet3).mono ?_
  rintro e w4 ⟨rfl, hf4⟩
  have HF4 : Hid (Fr [] w3 w4) := hf4
  clear hf4
  go_wp2
  go_ret
  obtain ⟨z1, z2⟩ := HB3.out.2.1.fresh HF4.out
  have hr := HR.out
  subst hr
  exact ⟨rfl, F', bN', HB3.out.1, z1, (HO2.out.hfr.trans HB3.out.2.2).trans z2⟩
end Go.Proofs.YtbdhmkfdofkloaaGreatDoor
/- THE BOOK OVER A DISK THAT MAY FAIL: its block; faulty, pick, done. -/
namespace Go.Proofs.YtbdhmkfdofkloaaGreatDoor
open Go.RowKit
open Sc

abbrev bookG (hp : Nat) (av mv : Value) (b : ABook) (sk hu : Bool) : Obj := .cells #[.pointer (some ⟨hp, 0, none⟩), av, .int .i64 (b.forced : Int), .int .u64 (b.low : Int), .int .u64 (b.must : Int), .int .u64 (b.tries : Int), .bool sk, .bool hu, mv] 49
theorem faulty_any (e : Nat) (w : World) : Calls Tryz.prog 58 #[.int .i64 (e : Int)] w fun ev w' => ev = .returned (.bool (decide (e = 9 ∨ e = 10))) ∧ w' = w := by
  by_cases h9 : e = 9
  · subst h9
    go_enter Tryz.func58, Tryz.ntmps58
    go_wp2
    go_ret
    exact ⟨rfl, rfl⟩
  · by_cases h10 : e = 10
    · subst h10
      go_enter Tryz.func58, Tryz.ntmps58
      go_wp2
      go_ret
      exact ⟨rfl, rfl⟩
    · have n9 : ¬ (e : Int) = 9 := by omega
      have n10 : ¬ (e : Int) = 10 := by omega
      go_enter Tryz.func58, Tryz.ntmps58
      go_wp2
      go_ret
      exact ⟨by simp [h9, h10]; exact ⟨n9, n10⟩, rfl⟩
set_option maxRecDepth 100000 in
set_option maxHeartbeats 1000000 in
/-- the answer is what a disk that is well says -/
theorem done_good (bp hp : Nat) (e : Nat) (av mv : Value) (b : ABook) (sk hu : Bool) (w : World) (h : w.heap[bp]? = some (bookG hp av mv b sk hu)) (hh : e ≠ 0 ∨ hu = false) :
    Calls Tryz.prog 36 #[.pointer (some ⟨bp, 0, none⟩), .int .i64 (e : Int), .int .i64 (e : Int)] w fun ev w' => ev = .returned (.tuple #[.bool (decide (e = 0)), .bool true]) ∧ w' = w := by
  have c7 := blk_cell h 7
  simp at c7
  by_cases he : e = 0
  · subst he
    obtain rfl : hu = false := by rcases hh with h | h; exact absurd rfl h; exact h
    go_enter Tryz.func36, Tryz.ntmps36
    go_wp2
    go_ret2
    exact ⟨rfl, rfl⟩
  · have h1 : ((e : Int) == 0) = false := by simp; omega
    have h2 : ¬ ((e : Int) = 0) := by omega
    clear hh
    go_enter Tryz.func36, Tryz.ntmps36
    go_wp2
    all_goals go_ret2
    all_goals exact ⟨by simp [he], rfl⟩
set_option maxRecDepth 100000 in
set_option maxHeartbeats 1000000 in
/-- the disk has failed -/
theorem done_fell (bp hp : Nat) (e : Nat) (av mv : Value) (b : ABook) (hu : Bool) (w : World) (h : w.heap[bp]? = some (bookG hp av mv b true hu)) (he : e = 9 ∨ e = 10) :
    Calls Tryz.prog 36 #[.pointer (some ⟨bp, 0, none⟩), .int .i64 (e : Int), .int .i64 0] w fun ev w' => ev = .returned (.tuple #[.bool false, .bool true]) ∧ w'.heap[bp]? = some (bookG hp av mv b true true) ∧ Fr [bp] w w' := by
  have c6 := blk_cell h 6
  have c7 := blk_cell h 7
  have f7 := blk_free h 7
  simp at c6 c7
  have h2 : ¬ ((e : Int) = 0) := by omega
  have hf := faulty_any e w
  rw [decide_eq_true he] at hf
  have HB : Hid (w.heap[bp]? = some (bookG hp av mv b true hu)) := h
  clear he h
  go_enter Tryz.func36, Tryz.ntmps36
  go_wp2_with fail
  refine hf.mono ?_
  rintro ev w1 ⟨rfl, rfl⟩
  clear hf
  go_wp2
  go_ret2
  refine ⟨rfl, ?_, Fr.set1 (by simp) _ _⟩
  have := blk_set HB.out 7 (.bool true)
  simp at this
  exact this
set_option maxHeartbeats 400000 in
theorem lpick (c : Int) (n : Nat) (w : World) (hc1 : -9223372036854775808 ≤ c) (hc2 : c ≤ 9223372036854775807) (hn : 0 < n) (hn2 : n ≤ 4398046511103) :
    Calls Tryz.prog 57 #[.int .i64 c, .int .i64 n] w fun e w' => ∃ r : Nat, r < n ∧ e = .returned (.int .i64 r) ∧ w' = w := by
  have hn0 : ¬ (n : Int) = 0 := by omega
  by_cases h : c < 0
  · go_enter Tryz.func57, Tryz.ntmps57
    go_wp2
    go_ret
    have e : -(c + 1).tmod (n : Int) = (-(c + 1)) % (n : Int) := by
      rw [← Int.neg_tmod, Int.tmod_eq_emod_of_nonneg (by omega)]
    have h1 := Int.emod_nonneg (-(c + 1)) hn0
    have h2 := Int.emod_lt_of_pos (-(c + 1)) (show (0 : Int) < (n : Int) by omega)
    refine ⟨((-(c + 1)) % (n : Int)).toNat, by omega, ret_nat ?_, rfl⟩
    rw [e]; omega
  · go_enter Tryz.func57, Tryz.ntmps57
    go_wp2
    go_ret
    have h1 := Int.emod_nonneg c hn0
    have h2 := Int.emod_lt_of_pos c (show (0 : Int) < (n : Int) by omega)
    exact ⟨(c % (n : Int)).toNat, by omega, ret_nat (by omega), rfl⟩
end Go.Proofs.YtbdhmkfdofkloaaGreatDoor
/- LOGS WHOSE DISKS FAIL, the mathematics: what is sure of a disk; removes that may fail; opening that may fail. -/
namespace Go.Proofs.YtbdhmkfdofkloaaGreatDoor
open Go.RowKit
open Sc

/-- whatever a failure of power leaves has P, and what stands now has it -/
structure Sure (P : Files → Prop) (d : ADisk) : Prop where
  left : ∀ F', Left d.durable d.pending F' → P F'
  now : d.down = false → P d.now ∧ d.pending.foldl doOp d.durable = d.now
theorem Sure.mono {P Q : Files → Prop} {d : ADisk} (h : Sure P d) (hi : ∀ F, P F → Q F) : Sure Q d :=
  ⟨fun F hF => hi F (h.left F hF), fun hd => ⟨hi _ (h.now hd).1, (h.now hd).2⟩⟩
/-- a disk that turned in nothing but its counts -/
theorem Sure.same {P : Files → Prop} {d d' : ADisk} (h : Sure P d) (hd : d.down = false) (e1 : d'.durable = d.durable) (e2 : d'.pending = d.pending) (e3 : d'.now = d.now) : Sure P d' :=
  ⟨fun F hF => h.left F (by rw [e1, e2] at hF; exact hF), fun _ => by rw [e1, e2, e3]; exact h.now hd⟩
theorem Sure.rest {P : Files → Prop} {d : ADisk} (h : P d.durable) (e2 : d.pending = []) (e3 : d.now = d.durable) : Sure P d :=
  ⟨fun F hF => by rw [e2] at hF; rw [left_nil hF]; exact h, fun _ => ⟨by rw [e3]; exact h, by rw [e2, e3]; rfl⟩⟩
/-- there is a segment, or nothing was ever kept -/
def Bare (F : Files) (mk : Nat) (ss : List Sg) : Prop := ss ≠ [] ∨ (mk = 1 ∧ ∀ nm, F nm ≠ none → nm = segName 1)
theorem Bare.begun {F : Files} {mk : Nat} {ss : List Sg} (h : Bare F mk ss) : Begun F mk ss := by
  rcases h with h | ⟨rfl, h⟩
  · exact begun_of h
  · by_cases hs : ss = []
    · subst hs
      by_cases h1 : F (segName 1) = none
      · right
        intro k
        cases hk : F k with
        | none => rfl
        | some t => have := h k (by rw [hk]; simp); rw [this, h1] at hk; cases hk
      · left
        unfold tailL deadL
        rw [nextOf_nil]
        cases hx : F (segName 1) with
        | none => exact absurd hx h1
        | some t => simp
    · exact begun_of hs
/-- files of no use that are gone -/
theorem Stands.some_ {F G : Files} {mk : Nat} {ss : List Sg} {ns : List ByteArray} (h : Stands F mk ss) (hn : ∀ m ∈ ns, ∃ u, m = segName u ∧ u ∉ starts mk (chunks ss)) (hg : F.sans ns G) : Stands G mk ss := by
  have hsub : ∀ nm, G nm ≠ none → G nm = F nm := fun nm hnm => by
    by_cases hm : nm ∈ ns
    · exact absurd ((hg nm).1 hm) hnm
    · exact (hg nm).2 hm
  have hmk : markNm ∉ ns := fun hm => by obtain ⟨u, e, _⟩ := hn _ hm; exact (segName_mark u).1 e.symm
  refine { mark := by rw [(hg markNm).2 hmk]; exact h.mark, pos := h.pos, ne := h.ne, files := fun k s hk => ?_, junk := h.junk, size := h.size, nums := h.nums, fine := h.fine, other := fun nm hnm => h.other nm (by rw [← hsub nm hnm]; exact hnm), dead := fun t ht => h.dead t (by rw [← hsub _ (by rw [ht]; simp)]; exact ht), big := h.big }
  have hkl : k < ss.length := (List.getElem?_eq_some_iff.1 hk).1
  have h1 : nextOf mk (ss.take k) ∈ starts mk (chunks ss) := by
    have := starts_at (chunks ss) mk k (by simpa using hkl)
    refine List.mem_of_getElem? (i := k) ?_
    rw [this]; unfold nextOf; rw [chunks_take]
  rw [(hg _).2 (fun hm => by obtain ⟨u, e, h2⟩ := hn _ hm; exact h2 (segName_inj e ▸ h1))]
  exact h.files k s hk
theorem Bare.some_ {F G : Files} {mk : Nat} {ss : List Sg} {ns : List ByteArray} (h : Bare F mk ss) (hg : F.sans ns G) : Bare G mk ss := by
  rcases h with h | ⟨h1, h2⟩
  · exact .inl h
  · refine .inr ⟨h1, fun nm hnm => h2 nm ?_⟩
    by_cases hm : nm ∈ ns
    · exact absurd ((hg nm).1 hm) hnm
    · rw [← (hg nm).2 hm]; exact hnm
/-! ### removes -/
theorem fold_rems : ∀ (ns : List ByteArray) (F : Files), F.sans ns ((ns.map remOp).foldl doOp F)
  | [], F => fun k => ⟨by simp, fun _ => rfl⟩
  | n :: ns, F => fun k => by
    have e : ((n :: ns).map remOp).foldl doOp F = (ns.map remOp).foldl doOp (F.set n none) := rfl
    rw [e]
    have h := fold_rems ns (F.set n none) k
    refine ⟨fun hk => ?_, fun hk => ?_⟩
    · by_cases h2 : k ∈ ns
      · exact h.1 h2
      · rw [h.2 h2]
        rcases List.mem_cons.1 hk with e | hk
        · rw [e, Files.set_same]
        · exact absurd hk h2
    · rw [List.mem_cons, not_or] at hk
      rw [h.2 hk.2, Files.set_other _ _ hk.1]
theorem left_rems' {F F' : Files} {ns : List ByteArray} (h : Left F (ns.map remOp) F') : ∃ ms : List ByteArray, (∀ m ∈ ms, m ∈ ns) ∧ F.sans ms F' := by
  obtain ⟨b, t, q, rfl⟩ := h
  exact left_rems ns
/-- some of such files are gone -/
def Gone (F : Files) (ns : List ByteArray) (G : Files) : Prop := ∃ ms : List ByteArray, (∀ m ∈ ms, m ∈ ns) ∧ F.sans ms G
theorem sure_rems {F : Files} {ns ks : List ByteArray} {d : ADisk} (e1 : d.durable = F) (e2 : d.pending = ns.map remOp) (e3 : d.down = false → d.now = (ns.map remOp).foldl doOp F) (hk : ∀ m ∈ ns, m ∈ ks) : Sure (Gone F ks) d :=
  ⟨fun G hG => by
    rw [e1, e2] at hG
    obtain ⟨ms, h1, h2⟩ := left_rems' hG
    exact ⟨ms, fun m hm => hk m (h1 m hm), h2⟩,
   fun hd => by rw [e1, e2, e3 hd]; exact ⟨⟨ns, hk, fold_rems ns F⟩, rfl⟩⟩
/-- a remove, whatever the disk says -/
theorem tellR (d : ADisk) (nm : ByteArray) (hnow : d.now nm ≠ none) : ((d.tell (remOp nm)).2 = 0 ∧ (d.tell (remOp nm)).1.durable = d.durable ∧ (d.tell (remOp nm)).1.now = doOp d.now (remOp nm) ∧ (d.tell (remOp nm)).1.pending = d.pending ++ [remOp nm] ∧ (d.tell (remOp nm)).1.down = false) ∨
    ((d.tell (remOp nm)).2 = 9 ∧ (d.tell (remOp nm)).1.durable = d.durable ∧ (d.tell (remOp nm)).1.now = d.now ∧ (d.tell (remOp nm)).1.pending = d.pending ∧ (d.tell (remOp nm)).1.down = false) ∨
    ((d.tell (remOp nm)).2 = 10 ∧ (d.tell (remOp nm)).1.durable = d.durable ∧ (d.tell (remOp nm)).1.now = d.now ∧ (d.tell (remOp nm)).1.pending = d.pending ++ [remOp nm] ∧ (d.tell (remOp nm)).1.down = true) := by
  have hs := writes_same d
  unfold ADisk.tell
  rcases writes_up d with ⟨h, hd⟩ | ⟨h, hd⟩ | ⟨h, hd⟩
  · left
    simp only [h]
    have hn : d.writes.1.now nm ≠ none := by rw [hs]; exact hnow
    rw [if_neg (by omega), if_neg (by omega), if_neg (fun e => hn e.1), if_neg (by simp [remOp])]
    refine ⟨rfl, ?_, ?_, ?_, hd⟩
    · show d.writes.1.durable = _; rw [hs]
    · show doOp d.writes.1.now (remOp nm) = _; rw [hs]
    · show d.writes.1.pending ++ [remOp nm] = _; rw [hs]
  · right; left
    simp only [h]
    rw [if_neg (by omega), if_pos trivial]
    exact ⟨rfl, by rw [hs], by rw [hs], by rw [hs], hd⟩
  · right; right
    simp only [h]
    rw [if_pos trivial]
    refine ⟨rfl, ?_, ?_, ?_, hd⟩
    · show d.writes.1.durable = _; rw [hs]
    · show d.writes.1.now = _; rw [hs]
    · show d.writes.1.pending ++ [remOp nm] = _; rw [hs]
/-- removes that may fail -/
theorem removeAllX : ∀ (l ms : List ByteArray) {d : ADisk} {F : Files}, d.durable = F → d.pending = ms.map remOp → d.now = (ms.map remOp).foldl doOp F → d.down = false → l.Nodup → (∀ s ∈ l, d.now s ≠ none) →
    ((d.removeAll l).2 = 0 ∧ (d.removeAll l).1.down = false ∧ (d.removeAll l).1.pending = [] ∧ (d.removeAll l).1.now = (d.removeAll l).1.durable ∧ (d.removeAll l).1.durable = ((ms ++ l).map remOp).foldl doOp F) ∨
    ((d.removeAll l).2 ≠ 0 ∧ ((d.removeAll l).2 = 9 ∧ (d.removeAll l).1.down = false ∨ (d.removeAll l).2 = 10 ∧ (d.removeAll l).1.down = true) ∧ Sure (Gone F (ms ++ l)) (d.removeAll l).1) := by
  intro l
  induction l with
  | nil =>
    intro ms d F e1 e2 e3 hd _ _
    rcases sync_cases d with sc | sc
    · left
      show d.sync.2 = 0 ∧ d.sync.1.down = false ∧ d.sync.1.pending = [] ∧ d.sync.1.now = d.sync.1.durable ∧ d.sync.1.durable = _
      refine ⟨sc.1, sc.2.2.2.2, sc.2.2.2.1, by rw [sc.2.2.1, sc.2.1, e1, e2, e3], by rw [sc.2.1, e1, e2, List.append_nil]⟩
    · right
      show d.sync.2 ≠ 0 ∧ (d.sync.2 = 9 ∧ d.sync.1.down = false ∨ d.sync.2 = 10 ∧ d.sync.1.down = true) ∧ Sure (Gone F (ms ++ [])) d.sync.1
      exact ⟨sc.1, sc.2.2.2.2, sure_rems (ns := ms) (by rw [sc.2.1, e1]) (by rw [sc.2.2.2.1, e2]) (fun _ => by rw [sc.2.2.1, e3]) (by simp)⟩
  | cons x l ih =>
    intro ms d F e1 e2 e3 hd hnd hf
    have hnd2 := List.nodup_cons.1 hnd
    have hx := hf x (by simp)
    have er : d.removeAll (x :: l) = if (d.tell (remOp x)).2 = 0 then (d.tell (remOp x)).1.removeAll l else d.tell (remOp x) := rfl
    rcases tellR d x hx with tc | tc | tc
    · rw [if_pos tc.1] at er
      rw [er]
      have e2' : (d.tell (remOp x)).1.pending = (ms ++ [x]).map remOp := by rw [tc.2.2.2.1, e2]; simp
      have e3' : (d.tell (remOp x)).1.now = ((ms ++ [x]).map remOp).foldl doOp F := by
        rw [tc.2.2.1, e3, List.map_append, List.foldl_append]; rfl
      have := ih (ms ++ [x]) (d := (d.tell (remOp x)).1) (F := F) (by rw [tc.2.1, e1]) e2' e3' tc.2.2.2.2 hnd2.2 (fun s hs => by
        rw [tc.2.2.1]
        show (d.now.set x none) s ≠ none
        rw [Files.set_other _ _ (fun e => by subst e; exact hnd2.1 hs)]
        exact hf s (by simp [hs]))
      rw [List.append_assoc] at this
      exact this
    · rw [if_neg (by omega)] at er
      rw [er]
      exact .inr ⟨by omega, .inl ⟨tc.1, tc.2.2.2.2⟩, sure_rems (ns := ms) (by rw [tc.2.1, e1]) (by rw [tc.2.2.2.1, e2]) (fun _ => by rw [tc.2.2.1, e3]) (fun m hm => by simp [hm])⟩
    · rw [if_neg (by omega)] at er
      rw [er]
      refine .inr ⟨by omega, .inr ⟨tc.1, tc.2.2.2.2⟩, sure_rems (ns := ms ++ [x]) (by rw [tc.2.1, e1]) (by rw [tc.2.2.2.1, e2]; simp) (fun h => ?_) (fun m hm => ?_)⟩
      · rw [tc.2.2.2.2] at h; cases h
      · rcases List.mem_append.1 hm with hm | hm
        · simp [hm]
        · simp at hm; simp [hm]
/-! ### opened, over a disk that may fail -/
theorem opensX {P : Files → Prop} {d : ADisk} {mk : Nat} {ss : List Sg} {us : List Nat} (hs : Sure P d) (hd : d.down = false) (h : Stands d.now mk ss) (hb : Bare d.now mk ss) (hu : Useless d.now mk ss us) :
    let r := (readL mk ss).opensU d (us.map segName)
    (r.2.2 = 0 ∧ r.2.1.down = false ∧ LgS r.1 r.2.1 mk ss [] ∧ Bare r.2.1.durable mk ss) ∨
    (r.2.2 ≠ 0 ∧ (r.2.2 = 9 ∧ r.2.1.down = false ∨ r.2.2 = 10 ∧ r.2.1.down = true) ∧ Sure (fun F => P F ∨ Stands F mk ss ∧ Bare F mk ss) r.2.1) := by
  intro r
  have hag := (hs.now hd).2
  rcases sync_cases d with sc | sc
  · have hs1 : (readL mk ss).sync d = ({ readL mk ss with durable := (readL mk ss).next }, d.sync.1, 0) := by unfold ALog.sync; rw [if_pos sc.1]
    have ho : r = ({ readL mk ss with durable := (readL mk ss).next }, d.sync.1.removeAll (us.map segName)) := by
      show ALog.opensU _ _ _ = _
      unfold ALog.opensU; rw [hs1]; simp only [if_true]
    have ed : d.sync.1.durable = d.now := by rw [sc.2.1, hag]
    have huse : ∀ m ∈ us.map segName, ∃ u, m = segName u ∧ u ∉ starts mk (chunks ss) := fun m hm => by
      obtain ⟨u, hu', rfl⟩ := List.mem_map.1 hm
      exact ⟨u, rfl, ((hu.2 u).1 hu').2⟩
    have hnd : (us.map segName).Nodup := by
      unfold List.Nodup
      rw [List.pairwise_map]
      exact List.Pairwise.imp (fun hne e => hne (segName_inj e)) hu.1
    rcases removeAllX (us.map segName) [] (d := d.sync.1) (F := d.now) ed sc.2.2.2.1 (by rw [sc.2.2.1]; rfl) sc.2.2.2.2 hnd (fun s hs' => by
      obtain ⟨u, hu', rfl⟩ := List.mem_map.1 hs'
      rw [sc.2.2.1]; exact ((hu.2 u).1 hu').1) with ⟨r1, r2, r3, r4, r5⟩ | ⟨r1, r2, r3⟩
    · left
      have hsan : d.now.sans (us.map segName) (d.sync.1.removeAll (us.map segName)).1.durable := by rw [r5]; exact fold_rems _ _
      obtain ⟨g1, g2⟩ := h.sans hu hsan
      have hb' := hb.some_ hsan
      rw [ho]
      exact ⟨r1, r2, ⟨g1, g2, hb'.begun, by simp [readL], by simp [readL], rfl, by simp [readL], by simp, by intro r hr; simp at hr, by simpa using h.big, .rest rfl r3 r4 rfl rfl⟩, hb'⟩
    · right
      rw [ho]
      refine ⟨r1, r2, r3.mono (fun F hF => .inr ?_)⟩
      obtain ⟨ms, h1, h2⟩ := hF
      exact ⟨h.some_ (fun m hm => huse m (by simpa using h1 m hm)) h2, hb.some_ h2⟩
  · right
    have ho : r = (readL mk ss, d.sync.1, d.sync.2) := by
      show ALog.opensU _ _ _ = _
      unfold ALog.opensU ALog.sync
      rw [if_neg sc.1]
      simp only
      rw [if_neg sc.1]
    rw [ho]
    exact ⟨sc.1, sc.2.2.2.2, (hs.same hd sc.2.1 sc.2.2.2.1 sc.2.2.1).mono (fun F h => .inl h)⟩
end Go.Proofs.YtbdhmkfdofkloaaGreatDoor
