import Derived.Test.YtbdhmkfdofkloaaGreatDoorC31
import Derived.Test.YtbdhmkfdofkloaaGreatDoorC32
/- HOSTS OF LOGS WHOSE DISKS FAIL: what is a host's; Lose; after. -/
namespace Go.Proofs.YtbdhmkfdofkloaaGreatDoor
open Go.RowKit Go.Maps
open Sc

/-- what is a host's: its own block, its disk's, its log's -/
def OwnHo (hp p : Nat) (lo : Option Nat) (w : World) (k : Nat) : Prop := k = hp ∨ OwnD p w k ∨ ∃ lp, lo = some lp ∧ (k = lp ∨ k ∈ refs w.heap[lp]?)
structure HFr (hp p : Nat) (lo lo' : Option Nat) (w w' : World) : Prop where
  os : w'.os = w.os
  tape : w'.tape = w.tape
  output : w'.output = w.output
  size : w.heap.size ≤ w'.heap.size
  block : ∀ k, k < w.heap.size → ¬ OwnHo hp p lo w k → w'.heap[k]? = w.heap[k]?
  stay : ∀ k, k < w.heap.size → OwnHo hp p lo' w' k → OwnHo hp p lo w k
theorem HFr.trans {hp p : Nat} {x y z : Option Nat} {a b c : World} (h : HFr hp p x y a b) (k : HFr hp p y z b c) : HFr hp p x z a c :=
  ⟨k.os.trans h.os, k.tape.trans h.tape, k.output.trans h.output, Nat.le_trans h.size k.size,
    fun i hi hn => (k.block i (Nat.lt_of_lt_of_le hi h.size) (fun ho => hn (h.stay i hi ho))).trans (h.block i hi hn),
    fun i hi ho => h.stay i hi (k.stay i (Nat.lt_of_lt_of_le hi h.size) ho)⟩
/-- a host that is not open -/
structure HostCl (w : World) (B hp p bD bN : Nat) (d : ADisk) (n : Nat) : Prop where
  blk : w.heap[hp]? = some (hostO p false (.pointer none))
  disk : ∃ pv nD nN, DiskIn w B p bD bN pv d n nD nN
section
variable {w w' : World} {B hp lp p bD bN bN' n n' nD nD' nN nN' : Nat} {pv pv' sv rv : Value} {l : ALog} {d d' : ADisk} {up : Bool} {lv : Value}
theorem DiskIn.freeH (h : DiskIn w B p bD bN pv d n nD nN) (hh : w.heap[hp]? = some (hostO p up lv)) : ¬ OwnD p w hp := h.freeD hh (by decide) (by decide)
theorem DiskIn.host (h : DiskIn w B p bD bN pv d n nD nN) (hh : w.heap[hp]? = some (hostO p up lv)) (hf : Fr [hp] w w') : DiskIn w' B p bD bN pv d n nD nN := by
  have hne := h.freeH hh
  rw [h.ownD] at hne
  simp at hne
  refine h.fr hf (by simp; exact fun e => hne.1 e.symm) (by simp; exact fun e => hne.2.1 e.symm) (by simp; exact fun e => hne.2.2.1 e.symm) (fun g hg => by simp; intro e; subst e; exact hne.2.2.2 hg) ?_
  intro q hq t; simp at hq; subst hq; rw [hh]; intro e; cases e
theorem ownHo_none (k : Nat) : OwnHo hp p none w k ↔ k = hp ∨ OwnD p w k := by
  unfold OwnHo
  constructor
  · rintro (h | h | ⟨_, h, _⟩)
    · exact .inl h
    · exact .inr h
    · cases h
  · rintro (h | h)
    · exact .inl h
    · exact .inr (.inl h)
theorem ownHo_some (k : Nat) : OwnHo hp p (some lp) w k ↔ k = hp ∨ Own lp p w k := by
  unfold OwnHo Own OwnD
  constructor
  · rintro (h | (h | h) | ⟨_, h, h2⟩)
    · exact .inl h
    · exact .inr (.inr (.inl h))
    · exact .inr (.inr (.inr (.inr h)))
    · cases h
      rcases h2 with h2 | h2
      · exact .inr (.inl h2)
      · exact .inr (.inr (.inr (.inl h2)))
  · rintro (h | h | h | h | h)
    · exact .inl h
    · exact .inr (.inr ⟨lp, rfl, .inl h⟩)
    · exact .inr (.inl (.inl h))
    · exact .inr (.inr ⟨lp, rfl, .inr h⟩)
    · exact .inr (.inl (.inr h))
/-- a call over the log -/
theorem OFr.hfr (hf : OFr lp p w w') : HFr hp p (some lp) (some lp) w w' :=
  ⟨hf.os, hf.tape, hf.output, hf.size, fun k hk hn => hf.block k hk (fun ho => hn ((ownHo_some k).2 (.inr ho))), fun k hk ho => by
    rcases (ownHo_some k).1 ho with e | e
    · exact (ownHo_some k).2 (.inl e)
    · exact (ownHo_some k).2 (.inr (hf.stay k hk e))⟩
/-- the host's own block and its disk's are written -/
theorem DiskIn.hfr {S : List Nat} {lo : Option Nat} (h : DiskIn w B p bD bN pv d n nD nN) (h' : DiskIn w' B p bD bN' pv' d' n' nD' nN') (hf : Fr S w w') (hS : ∀ k ∈ S, k = hp ∨ k = p ∨ k = bD ∨ k = bN ∨ pv.ownBlock = some k) (hb : bN' = bN ∨ w.heap.size ≤ bN') (hp' : Near w.heap.size pv pv') : HFr hp p lo none w w' := by
  have own : ∀ k, (k = hp ∨ k = p ∨ k = bD ∨ k = bN ∨ pv.ownBlock = some k) → OwnHo hp p lo w k := fun k hk => by
    rcases hk with e | e | e | e | e
    · exact .inl e
    · exact .inr (.inl ((h.ownD k).2 (by simp [e])))
    · exact .inr (.inl ((h.ownD k).2 (by simp [e])))
    · exact .inr (.inl ((h.ownD k).2 (by simp [e])))
    · exact .inr (.inl ((h.ownD k).2 (by simp [e])))
  refine ⟨hf.os, hf.tape, hf.output, hf.size, fun k hk hn => hf.block k hk (fun hm => hn (own k (hS k hm))), fun k hk ho => ?_⟩
  rcases (ownHo_none k).1 ho with e | e
  · exact own k (.inl e)
  · have := (h'.ownD k).1 e
    simp at this
    rcases this with e | e | e | e
    · exact own k (.inr (.inl e))
    · exact own k (.inr (.inr (.inl e)))
    · rcases hb with hb | hb
      · exact own k (.inr (.inr (.inr (.inl (e.trans hb)))))
      · omega
    · rcases hp' k e with e | e
      · exact own k (.inr (.inr (.inr (.inr e))))
      · omega
end
/-- a disk behind a failure of power -/
def fallen (F : Files) : ADisk := ⟨F, F, [], -1, -1, false⟩
set_option maxRecDepth 100000 in
set_option maxHeartbeats 2000000 in
theorem lLose (B hp p bD bN n nD nN : Nat) (pv lv : Value) (up : Bool) (d : ADisk) (kept part : Int) (lo : Option Nat) (w : World) (hh : w.heap[hp]? = some (hostO p up lv)) (hlv : ∃ x, lv = .pointer x) (h : DiskIn w B p bD bN pv d n nD nN) (hp1 : -9223372036854775808 ≤ part) (hp2 : part ≤ 9223372036854775807) :
    Calls Tryz.prog 12 #[.pointer (some ⟨hp, 0, none⟩), .int .i64 kept, .int .i64 part] w fun e w' => e = .returned (.tuple #[]) ∧ ∃ F' bN', Left d.durable d.pending F' ∧ HostCl w' B hp p bD bN' (fallen F') n ∧ HFr hp p lo none w w' := by
  have hcl := close_any hp p up lv hlv w hh
  have H0 : Hid (w.heap[hp]? = some (hostO p up lv) ∧ DiskIn w B p bD bN pv d n nD nN) := ⟨hh, h⟩
  clear hh h
  go_enter Tryz.func12, Tryz.ntmps12
  go_wp2_with fail
  refine hcl.mono ?_
  clear hcl
  rintro e w1 ⟨rfl, hh1, hf1⟩
  have hd1 : DiskIn w1 B p bD bN pv d n nD nN := H0.out.2.host H0.out.1 hf1
  have hr1 : HFr hp p lo none w w1 := H0.out.2.hfr hd1 hf1 (by intro k hk; simp at hk; simp [hk]) (.inl rfl) (Near.refl _ _)
  have c2 := blk_cell hh1 2
  simp at c2
  have hcr := crash_any B p bD bN n nD nN pv d kept part w1 hd1 hp1 hp2
  have H1 : Hid (w1.heap[hp]? = some (hostO p false (.pointer none)) ∧ DiskIn w1 B p bD bN pv d n nD nN ∧ HFr hp p lo none w w1) := ⟨hh1, hd1, hr1⟩
  clear hh1 hf1 hd1 hr1
  go_wp2_with fail
  refine hcr.mono ?_
  clear hcr
  rintro e w2 ⟨rfl, F', bN', nD', hl, hd2, hb2, hf2⟩
  have hfree := H1.out.2.1.freeH H1.out.1
  rw [H1.out.2.1.ownD] at hfree
  simp at hfree
  have hh2 := (hf2.block hp (Array.getElem?_eq_some_iff.1 H1.out.1).1 (by simp; exact ⟨hfree.1, hfree.2.1⟩)).trans H1.out.1
  have hr2 : HFr hp p none none w1 w2 := H1.out.2.1.hfr hd2 hf2 (by intro k hk; simp at hk; rcases hk with e | e <;> simp [e]) (.inr hb2) (Near.nil _ _)
  have H2 : Hid (∃ F' bN', Left d.durable d.pending F' ∧ HostCl w2 B hp p bD bN' (fallen F') n ∧ HFr hp p lo none w w2) := ⟨F', bN', hl, ⟨hh2, _, _, _, hd2⟩, H1.out.2.2.trans hr2⟩
  clear hl hd2 hb2 hf2 hh2 hr2 hfree
  go_wp2
  go_end0
  exact ⟨rfl, H2.out⟩
end Go.Proofs.YtbdhmkfdofkloaaGreatDoor
