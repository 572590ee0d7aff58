import Derived.Test.YtejiankgafjppabGreatDoorC36
import Derived.Test.YtejiankgafjppabGreatDoorC37
import Derived.Test.YtejiankgafjppabGreatDoorC32
import Derived.Test.YtejiankgafjppabGreatDoorC35
/- CHECKPOINTS: (*Ledger).Checkpoint of a shard's entries, over a disk that is well. -/
namespace Go.Proofs.YtejiankgafjppabGreatDoor
open Go.RowKit Go.Maps Go.Shelf
open Sc

/-- entries as a checkpoint notes them -/
def notedR : Nat → List (List Nat) → List Rec
  | _, [] => []
  | n, p :: ps => ⟨n, 132, p⟩ :: notedR (n + 1) ps
theorem notedR_snoc : ∀ (ps : List (List Nat)) (n : Nat) (p : List Nat), notedR n (ps ++ [p]) = notedR n ps ++ [⟨n + ps.length, 132, p⟩]
  | [], n, p => by simp [notedR]
  | q :: ps, n, p => by
    rw [List.cons_append, notedR, notedR_snoc ps (n + 1) p, notedR]
    simp
    omega
/-- a checkpoint so far as it is noted -/
structure CkSt (w0 w : World) (B sp gp bV bT bH m lp p bD bN n : Nat) (s : AShard) (fst : Nat) (rs : List Rec) (nx c g : Nat) : Prop where
  ex : ∃ l d cs, SL w B sp gp bV bT bH m lp p bD bN n s l d ∧ Mu l d fst cs ∧ d.Well c ∧ l.next = nx ∧ cs.flatten = rs ∧ cs.length ≤ g
  fr : SFr sp bV bT bH lp p w0 w
  lo : 2 ≤ w0.heap.size
  pows : Pows w
section
variable {w0 w w' : World} {B sp gp bV bT bH m lp p bD bN n fst nx c g : Nat} {s : AShard} {rs : List Rec}
theorem CkSt.new (h : CkSt w0 w B sp gp bV bT bH m lp p bD bN n s fst rs nx c g) (hf : Fr [] w w') : CkSt w0 w' B sp gp bV bT bH m lp p bD bN n s fst rs nx c g := by
  obtain ⟨⟨l, d, cs, h1, h2⟩, h3, h4, h5⟩ := h
  obtain ⟨k1, k2⟩ := h1.new hf
  exact ⟨⟨l, d, cs, k1, h2⟩, h3.trans k2, h4, h5.of_block (hf.block 1 (by have := h3.size; omega) (by simp))⟩
theorem CkSt.bk {n0 : Nat} (h : CkSt w0 w B sp gp bV bT bH m lp p bD bN n s fst rs nx c g) (hb : Bk n0 w w') (hn : w0.heap.size ≤ n0) : CkSt w0 w' B sp gp bV bT bH m lp p bD bN n s fst rs nx c g := by
  obtain ⟨⟨l, d, cs, h1, h2⟩, h3, h4, h5⟩ := h
  refine ⟨⟨l, d, cs, h1.bk hb, h2⟩, h3.bk h1 hb hn, h4, h5.of_block ?_⟩
  have h1l : 1 < w.heap.size := by have := h3.size; omega
  rw [Array.getElem?_eq_getElem h1l]
  exact hb.block 1 _ (Array.getElem?_eq_getElem h1l) (.inr (by omega))
/-- an entry more -/
theorem CkSt.note (h : CkSt w0 w B sp gp bV bT bH m lp p bD bN n s fst rs nx c g) (kind : Nat) (t : ByteArray) (hk : kind < 256) (ht : t.size ≤ 255) (hn : n + 3 < 67108864) (hc : c + 2 < 1099511627776) (hB : 2 ≤ B) (hb : B ≤ sp ∧ B ≤ bV ∧ B ≤ bT ∧ B ≤ bH) :
    Calls Tryz.prog 102 #[.pointer (some ⟨gp, 0, none⟩), .int .u8 (kind : Int), .string t] w fun e w' => e = .returned .nilIface ∧ CkSt w0 w' B sp gp bV bT bH m lp p bD bN (n + 3) s fst (rs ++ [⟨nx, kind, bytesOf t⟩]) (nx + 1) (c + 2) (g + 1) ∧ KpO w w' := by
  obtain ⟨⟨l, d, cs, h1, h2, h3, h4, h5, h6⟩, hf, hlo, hp⟩ := h
  obtain ⟨pv, sv, rv, nD, nN, hl⟩ := h1.lg
  obtain ⟨a1, a2, a3, a4, cs', a5, a6, a7⟩ := h2.note h3 hc kind t ht hk
  refine (note_any B gp lp p bD bN n nD nN kind pv sv rv l d t w h1.ap.led hl hk hn hB h2.ok.segsNe hp).mono ?_
  rintro e w' ⟨rfl, hl', ho⟩
  rw [a1, errN_ok]
  obtain ⟨k1, k2⟩ := h1.log ho hl'
  exact ⟨rfl, ⟨⟨_, _, cs', k1, a5, a2, by rw [a3, h4], by rw [a6, h5, h4], by omega⟩, hf.trans k2, hlo, h1.pows k2 hB hb hp⟩, ho.kpo hl⟩
/-- the record that begins one -/
theorem CkSt.app (h : CkSt w0 w B sp gp bV bT bH m lp p bD bN n s fst rs nx c g) (kind : Nat) (t : ByteArray) (hk : kind < 256) (ht : t.size ≤ 255) (hn : n + 3 < 67108864) (hc : c + 2 < 1099511627776) (hB : 2 ≤ B) (hb : B ≤ sp ∧ B ≤ bV ∧ B ≤ bT ∧ B ≤ bH) :
    Calls Tryz.prog 132 #[.pointer (some ⟨lp, 0, none⟩), .int .u8 (kind : Int), .string t] w fun e w' => e = .returned (.tuple #[.int .u64 (nx : Int), .nilIface]) ∧ CkSt w0 w' B sp gp bV bT bH m lp p bD bN (n + 3) s fst (rs ++ [⟨nx, kind, bytesOf t⟩]) (nx + 1) (c + 2) (g + 1) ∧ KpO w w' := by
  obtain ⟨⟨l, d, cs, h1, h2, h3, h4, h5, h6⟩, hf, hlo, hp⟩ := h
  obtain ⟨pv, sv, rv, nD, nN, hl⟩ := h1.lg
  obtain ⟨a0, a1, a2, a3, a4, cs', a5, a6, a7⟩ := h2.append h3 hc kind t ht hk
  refine (lappend_any B lp p bD bN n nD nN kind pv sv rv l d t w hl hk hn hB h2.ok.segsNe hp).mono ?_
  rintro e w' ⟨rfl, hl', ho⟩
  rw [a0, a1, errN_ok, h4]
  obtain ⟨k1, k2⟩ := h1.log ho hl'
  exact ⟨rfl, ⟨⟨_, _, cs', k1, a5, a2, by rw [a3, h4], by rw [a6, h5, h4], by omega⟩, hf.trans k2, hlo, h1.pows k2 hB hb hp⟩, ho.kpo hl⟩
/-- what a checkpoint leaves -/
structure CkEnd (w0 w : World) (B sp gp bV bT bH m lp p bD bN n : Nat) (s : AShard) (fst : Nat) (rs : List Rec) (low nx : Nat) : Prop where
  ex : ∃ l d fst' cs, SL w B sp gp bV bT bH m lp p bD bN n s l d ∧ Mu l d fst' cs ∧ d.down = false ∧ d.Set ∧ l.next = nx ∧ fst ≤ fst' ∧ (fst' = fst ∨ fst' + 1 ≤ low) ∧ cs.flatten = rs.drop (fst' - fst) ∧ ∀ x, l.segs[1]? = some x → low < x
  fr : SFr sp bV bT bH lp p w0 w
/-- the log is cut -/
theorem CkSt.cut (h : CkSt w0 w B sp gp bV bT bH m lp p bD bN n s fst rs nx c g) (low : Nat) (hn : n + 2 + g ≤ 67108864) (hc : c + 6 + g < 1099511627776) (hB : 2 ≤ B) :
    Calls Tryz.prog 133 #[.pointer (some ⟨lp, 0, none⟩), .int .u64 (low : Int)] w fun e w' => e = .returned .nilIface ∧ CkEnd w0 w' B sp gp bV bT bH m lp p bD bN (n + 2 + g) s fst rs low nx ∧ KpO w w' := by
  obtain ⟨⟨l, d, cs, h1, h2, h3, h4, h5, h6⟩, hf, hlo, hp⟩ := h
  obtain ⟨pv, sv, rv, nD, nN, hl⟩ := h1.lg
  have hsn : l.segs.length ≤ g := by rw [h2.ok.segs, starts_len]; exact h6
  obtain ⟨a1, a2, a3, fst', cs', b1, b2, b3, b4, b5, b6⟩ := h2.cut h3 (by omega) low
  refine (cut_any B lp p bD bN n nD nN low pv sv rv l d w hl (by omega) hB hp (fun _ => h2.ok.hinv)).mono ?_
  rintro e w' ⟨rfl, ⟨pv', sv', rv', nD', nN', hl'⟩, ho⟩
  rw [a1, errN_ok]
  obtain ⟨k1, k2⟩ := h1.log ho ⟨pv', sv', rv', nD', nN', hl'.mores (m := n + 2 + g) (by omega) hn⟩
  refine ⟨rfl, ⟨⟨_, _, fst', cs', k1, b1, a2.up, a3, ?_, b2, b4, by rw [b3, h5], b6⟩, hf.trans k2⟩, ho.kpo hl⟩
  rw [b1.ok.next, b5, ← h4, h2.ok.next]
/-- a block of another kind was written -/
theorem CkEnd.box {q low : Nat} {cc : Array Value} (h : CkEnd w0 w B sp gp bV bT bH m lp p bD bN n s fst rs low nx) (hf : Fr [q] w w') (hq : w.heap[q]? = some (.cells cc 90 (0, 0))) (hq0 : w0.heap.size ≤ q) : CkEnd w0 w' B sp gp bV bT bH m lp p bD bN n s fst rs low nx := by
  obtain ⟨⟨l, d, fst', cs, h1, h2⟩, hfr⟩ := h
  obtain ⟨pv, sv, rv, nD, nN, hl⟩ := h1.lg
  have hno : ¬ Own lp p w q := hl.free hq (by decide) (by decide) (by decide) (by decide) (by decide)
  have hl' := hl.apart hf (fun k hk _ => by simp at hk; subst hk; exact ⟨hno, fun t e => by rw [hq] at e; cases e⟩)
  have hne : ∀ {k : Nat} {o : Obj}, w.heap[k]? = some o → (∀ c, o ≠ .cells c 90 (0, 0)) → k ∉ [q] := fun {k o} hk ho hm => by
    simp at hm; subst hm; rw [hq] at hk; cases hk; exact ho _ rfl
  refine ⟨⟨l, d, fst', cs, ⟨h1.sh.fr hf (hne h1.sh.blk (fun c e => by cases e)) (by obtain ⟨es, c, e⟩ := h1.sh.vals.isMap; exact hne e (fun c e => by cases e)) (by obtain ⟨es, c, e⟩ := h1.sh.txns.isMap; exact hne e (fun c e => by cases e)) (by obtain ⟨es, c, e⟩ := h1.sh.holds.isMap; exact hne e (fun c e => by cases e)), ⟨pv, sv, rv, nD, nN, hl'⟩, { led := (hf.block gp (Array.getElem?_eq_some_iff.1 h1.ap.led).1 (hne h1.ap.led (fun c e => by cases e))).trans h1.ap.led, ne := h1.ap.ne }, h1.gp1⟩, h2⟩, ?_⟩
  refine ⟨hf.os.trans hfr.os, hf.tape.trans hfr.tape, hf.output.trans hfr.output, Nat.le_trans hfr.size hf.size, fun k hk ho hS => ?_, fun k hk ho => hfr.stay k hk ((hl.own k).2 ((hl'.own k).1 ho))⟩
  rw [hf.block k (Nat.lt_of_lt_of_le hk hfr.size) (by simp; omega)]
  exact hfr.block k hk ho hS
theorem CkEnd.bk {n0 low : Nat} (h : CkEnd w0 w B sp gp bV bT bH m lp p bD bN n s fst rs low nx) (hb : Bk n0 w w') (hn : w0.heap.size ≤ n0) : CkEnd w0 w' B sp gp bV bT bH m lp p bD bN n s fst rs low nx := by
  obtain ⟨⟨l, d, fst', cs, h1, h2⟩, h3⟩ := h
  exact ⟨⟨l, d, fst', cs, h1.bk hb, h2⟩, h3.bk h1 hb hn⟩
end
end Go.Proofs.YtejiankgafjppabGreatDoor
/- CHECKPOINTS: (*Ledger).Checkpoint of a shard's entries. -/
namespace Go.Proofs.YtejiankgafjppabGreatDoor
open Go.RowKit Go.Maps Go.Shelf
open Sc

theorem valB_byt {k v : ByteArray} (hk : k.size < 256) (hv : v.size < 256) : Byt (valB k v) := by
  intro x hx
  unfold valB at hx
  simp at hx
  rcases hx with rfl | hx | rfl | hx
  · exact hk
  · exact bytesOf_byt k x hx
  · exact hv
  · exact bytesOf_byt v x hx
/-- what can be noted of what is committed -/
def SmallV (L : List (ByteArray × ByteArray)) : Prop := (∀ x ∈ sortV L, x.1.size < 256 ∧ x.2.size < 256 ∧ (valB x.1 x.2).length ≤ 255) ∧ (sortV L).length ≤ 64
theorem SmallV.ent {L : List (ByteArray × ByteArray)} (h : SmallV L) {x : List Nat} (hx : x ∈ valEs L) : Byt x ∧ x.length ≤ 255 := by
  unfold valEs at hx
  obtain ⟨y, hy, rfl⟩ := List.mem_map.1 hx
  obtain ⟨h1, h2, h3⟩ := h.1 y hy
  exact ⟨valB_byt h1 h2, h3⟩
/-- the records of a checkpoint -/
def ckR (nx : Nat) (es : List (List Nat)) : List Rec := [⟨nx, 254, []⟩] ++ notedR (nx + 1) es
theorem ckR_snoc (nx : Nat) (es : List (List Nat)) (x : List Nat) : ckR nx (es ++ [x]) = ckR nx es ++ [⟨nx + 1 + es.length, 132, x⟩] := by unfold ckR; rw [notedR_snoc, ← List.append_assoc]
set_option maxRecDepth 100000 in
set_option maxHeartbeats 4000000 in
theorem lck_in (N : Nat) (hN : 14 ≤ N) (B sp gp bV bT bH m lp p bD bN n fst nx c g Bs : Nat) (s : AShard) (rs : List Rec) (w : World) (h : CkSt w w B sp gp bV bT bH m lp p bD bN n s fst rs nx c g) (hBs : w.heap[Bs]? = some (.cells #[.pointer (some ⟨sp, 0, none⟩)] 83 (0, 0))) (ht : s.txns = []) (hm : m ≤ 67108864) (hsm : SmallV s.vals) (hn : n ≤ 1000000) (hc : c ≤ 1000000) (hg : g ≤ 1000000) (hB : 2 ≤ B) (hb : B ≤ sp ∧ B ≤ bV ∧ B ≤ bT ∧ B ≤ bH) :
    CallsIn Fence.wide N Tryz.prog 77 #[.pointer (some ⟨gp, 0, none⟩), .func (.func 134) #[] #[.pointer (some ⟨Bs, 0, none⟩)]] w fun e w' => e = .returned .nilIface ∧ ∃ n', n' ≤ n + g + 500 ∧ CkEnd w w' B sp gp bV bT bH m lp p bD bN n' s fst (rs ++ ckR nx (valEs s.vals) ++ [⟨nx + 1 + (valEs s.vals).length, 255, []⟩]) nx (nx + 2 + (valEs s.vals).length) := by
  have hro : Fence.wide.round = none := rfl
  have h1 : 1 ≤ N := by omega
  have hf1 : Fence.wide.fn 132 := trivial
  have hf2 : Fence.wide.fn 134 := trivial
  have hf3 : Fence.wide.fn 102 := trivial
  have hf4 : Fence.wide.fn 133 := trivial
  have hlo := h.lo
  obtain ⟨W0, hW0⟩ : ∃ W0, W0 = (w.alloc (.cells #[.pointer (some ⟨gp, 0, none⟩)] 131)).alloc (.cells #[.nilIface] 90) := ⟨_, rfl⟩
  have hfr0 : Fr [] w W0 := by rw [hW0]; exact ((Fr.refl [] w).alloc _).alloc _
  have hs0 : W0.heap.size = w.heap.size + 2 := by rw [hW0]; simp
  have r0 : W0.heap[w.heap.size]? = some (.cells #[.pointer (some ⟨gp, 0, none⟩)] 131 (0, 0)) := by rw [hW0, Below.heap_alloc _ _ w.heap.size (by simp)]; exact heap_alloc_new w _
  have r1 : W0.heap[w.heap.size + 1]? = some (.cells #[.nilIface] 90 (0, 0)) := by
    rw [hW0]
    have := heap_alloc_new (w.alloc (.cells #[.pointer (some ⟨gp, 0, none⟩)] 131)) (.cells #[.nilIface] 90)
    rwa [World.size_alloc] at this
  have hBl : Bs < w.heap.size := (Array.getElem?_eq_some_iff.1 hBs).1
  have rB := (hfr0.block Bs hBl (by simp)).trans hBs
  have hst0 := h.new hfr0
  have hap := (callsIn_wide (n := N - 1)).2 (hst0.app 254 ByteArray.empty (by omega) (by decide) (by omega) (by omega) hB hb)
  obtain ⟨lg0, hlg0⟩ : ∃ l, W0.heap[gp]? = some (ledO lp) ∧ l = lp := by
    obtain ⟨⟨l, d, cs, k1, _⟩, _⟩ := hst0
    exact ⟨lp, k1.ap.led, rfl⟩
  have cg := cell_blk0 hlg0.1 0
  have c0 := cell_blk0 r0 0
  simp at cg c0
  have HS : Hid (SmallV s.vals ∧ CkSt w W0 B sp gp bV bT bH m lp p bD bN n s fst rs nx c g) := ⟨hsm, hst0⟩
  clear hst0 h hsm hlg0 hfr0
  rw [hW0] at c0 cg
  refine callsIn_of_wp_marks Tryz.func77 rfl trivial ?_ hro
  simp only [Tryz.ntmps77, List.size_toArray, List.length_cons, List.length_nil, Nat.reduceAdd, Nat.reduceSub, Array.replicate_succ, Array.replicate_zero, List.push_toArray, List.append_toArray, List.nil_append, List.cons_append]
  gi_wp2_with fail
  rw [← hW0]
  refine hap.mono ?_
  clear hap hW0 c0 cg
  rintro e w1 ⟨rfl, hst1, hk1⟩
  have s0 := hk1.same _ _ r0 rfl
  have s1 := hk1.same _ _ r1 rfl
  have sB := hk1.same _ _ rB rfl
  have hz1 := hk1.size
  have H1 : Hid (CkSt w w1 B sp gp bV bT bH m lp p bD bN (n + 3) s fst (rs ++ ckR nx []) (nx + 1) (c + 2) (g + 1) ∧ W0.heap.size ≤ w1.heap.size) := ⟨hst1, hz1⟩
  have HB : Hid (w1.heap[w.heap.size]? = some (.cells #[.pointer (some ⟨gp, 0, none⟩)] 131 (0, 0)) ∧ w1.heap[w.heap.size + 1]? = some (.cells #[.nilIface] 90 (0, 0)) ∧ w1.heap[Bs]? = some (.cells #[.pointer (some ⟨sp, 0, none⟩)] 83 (0, 0))) := ⟨s0, s1, sB⟩
  clear hst1 hk1 s0 s1 sB r0 r1 rB
  gi_wp2
  refine wpIn_range_f hro h1 (gf := 134) (lb := #[.pointer (some ⟨Bs, 0, none⟩)]) rfl hf2 (enters_of Tryz.func134 (by kernel_rfl) rfl)
    (encs := fun x : List Nat => #[.int .u8 4, .string (str x)]) (rs := valEs s.vals) (Inv := fun A => ShIn A sp gp bV bT bH m s ∧ A.heap[Bs]? = some (.cells #[.pointer (some ⟨sp, 0, none⟩)] 83 (0, 0))) (fun _ => rfl)
    (fun Wx hbx hzx J hJi hJ hY h0 => entries1_in (N - 1) (by omega) _ Bs sp gp bV bT bH m s Wx ((hbx.block Bs (by have := H1.out.2; omega) (by simp)).trans HB.out.2.2) (hJi _ _ h0).1 ht hm (fun x hx => ⟨(HS.out.1.1 x hx).1, (HS.out.1.1 x hx).2.1⟩) J hJi hJ hY h0)
    (fun pre A => CkSt w A B sp gp bV bT bH m lp p bD bN (n + 3 + 3 * pre.length) s fst (rs ++ ckR nx pre) (nx + 1 + pre.length) (c + 2 + 2 * pre.length) (g + 1 + pre.length) ∧ A.heap[w.heap.size]? = some (.cells #[.pointer (some ⟨gp, 0, none⟩)] 131 (0, 0)) ∧ A.heap[w.heap.size + 1]? = some (.cells #[.nilIface] 90 (0, 0)) ∧ A.heap[Bs]? = some (.cells #[.pointer (some ⟨sp, 0, none⟩)] 83 (0, 0)))
    ⟨H1.out.1, HB.out⟩
    (fun q A hs => ⟨by obtain ⟨⟨⟨l, d, cs, k1, _⟩, _⟩, _⟩ := hs; exact k1.sh, hs.2.2.2⟩)
    (fun q A B hs hz hbk => ⟨hs.1.bk hbk (by have := H1.out.2; omega), hbk.block _ _ hs.2.1 (.inl rfl), hbk.block _ _ hs.2.2.1 (.inl rfl), hbk.block _ _ hs.2.2.2 (.inl rfl)⟩)
    (fun x a' A => a' = { tmps := #[.pointer (some ⟨gp, 0, none⟩), .func (.func 134) #[] #[.pointer (some ⟨Bs, 0, none⟩)], .pointer (some ⟨w.heap.size, 0, none⟩), undef, .pointer (some ⟨w.heap.size + 1, 0, none⟩), .int .u64 (nx : Int), .nilIface, .int .u8 4, .string (str x), undef, undef, .tuple #[.int .u64 (nx : Int), .nilIface], .pointer (some ⟨gp, 0, none⟩), .pointer (some ⟨gp, 0, none⟩), .pointer (some ⟨gp, 0, none⟩), .pointer (some ⟨lp, 0, none⟩), .tuple #[.int .u64 (nx : Int), .nilIface], .int .u64 (nx : Int), .nilIface, .nilIface, .bool false, undef, .func (.func 134) #[] #[.pointer (some ⟨Bs, 0, none⟩)], .int .u8 4, .string (str x), undef, undef, undef, undef, undef, undef, undef, undef, undef, undef, undef, undef, undef, undef, undef, undef, undef, undef, undef], defers := [] })
    (fun x a' A r hs => hs)
    ?assign ?body ?done
  case assign =>
    have hsem := @Oper.semAt_some
    rintro pre x A K hI hsA hpre hK
    gi_wp2
    exact hK _ _ (Bk.refl _ _) (KpO.refl _) rfl
  case body =>
    have hsem := @Oper.semAt_some
    rintro pre x a' A ⟨hst, b0, b1, b2⟩ hsA rfl hpre
    have hxm : x ∈ valEs s.vals := hpre.subset (by simp)
    obtain ⟨hx1, hx2⟩ := HS.out.1.ent hxm
    have hpl : pre.length + 1 ≤ 64 := by
      have h2 := hpre.length_le
      have h3 := HS.out.1.2
      unfold valEs at h2
      rw [List.length_map] at h2
      simp at h2
      omega
    have v0 := cell_blk0 b0 0
    simp at v0
    have hnt := (callsIn_wide (n := N - 1 - 1 - 1)).2 (hst.note 132 (str x) (by omega) (by rw [str_size]; exact hx2) (by omega) (by omega) hB hb)
    rw [bytesOf_str hx1, List.append_assoc, ← ckR_snoc] at hnt
    have h3 : 1 ≤ N - 1 - 1 := by omega
    have hor : bits .or .u8 4 128 = 132 := by rfl
    have HA : Hid (∀ W3, CkSt w W3 B sp gp bV bT bH m lp p bD bN (n + 3 + 3 * pre.length + 3) s fst (rs ++ ckR nx (pre ++ [x])) (nx + 1 + pre.length + 1) (c + 2 + 2 * pre.length + 2) (g + 1 + pre.length + 1) → KpO A W3 → (CkSt w W3 B sp gp bV bT bH m lp p bD bN (n + 3 + 3 * (pre.length + 1)) s fst (rs ++ ckR nx (pre ++ [x])) (nx + 1 + (pre.length + 1)) (c + 2 + 2 * (pre.length + 1)) (g + 1 + (pre.length + 1)) ∧ W3.heap[w.heap.size]? = some (.cells #[.pointer (some ⟨gp, 0, none⟩)] 131 (0, 0)) ∧ W3.heap[w.heap.size + 1]? = some (.cells #[.nilIface] 90 (0, 0)) ∧ W3.heap[Bs]? = some (.cells #[.pointer (some ⟨sp, 0, none⟩)] 83 (0, 0))) ∧ KpO A W3) := fun W3 h3 hk => ⟨⟨h3, hk.same _ _ b0 rfl, hk.same _ _ b1 rfl, hk.same _ _ b2 rfl⟩, hk⟩
    clear hst b0 b1 b2
    gi_wp2_with fail
    refine hnt.mono ?_
    clear hnt
    rintro e W3 ⟨rfl, hst3, hk3⟩
    have HN := toHid (HA.out W3 hst3 hk3)
    clear HA hst3 hk3
    gi_wp2
    exact ⟨HN.out.1, HN.out.2⟩
  case done =>
    rintro A ⟨hst, b0, b1, b2⟩ hsA hK
    have hel : (valEs s.vals).length ≤ 64 := by have := HS.out.1.2; unfold valEs; rw [List.length_map]; exact this
    obtain ⟨E, hE⟩ : ∃ E, E = (valEs s.vals).length := ⟨_, rfl⟩
    rw [← hE] at hst hel
    have HEQ : Hid (E = (valEs s.vals).length) := hE
    have v0 := cell_blk0 b0 0
    simp at v0
    have hnt := (callsIn_wide (n := N - 1)).2 (hst.note 255 ByteArray.empty (by omega) (by decide) (by omega) (by omega) hB hb)
    have HD : Hid (A.heap[w.heap.size]? = some (.cells #[.pointer (some ⟨gp, 0, none⟩)] 131 (0, 0)) ∧ A.heap[w.heap.size + 1]? = some (.cells #[.nilIface] 90 (0, 0)) ∧ A.heap[w1.heap.size]? = some (.deferred (some []))) := ⟨b0, b1, hK⟩
    clear hst b0 b1 b2 hK hE
    gi_wp2_with fail
    refine hnt.mono ?_
    clear hnt v0
    rintro e W3 ⟨rfl, hst3, hk3⟩
    have t0 := hk3.same _ _ HD.out.1 rfl
    have t1 := hk3.same _ _ HD.out.2.1 rfl
    have t2 := hk3.same _ _ HD.out.2.2 rfl
    have v3 := cell_blk0 t0 0
    simp at v3
    have hcg : W3.cell? ⟨gp, 0, none⟩ = some (.pointer (some ⟨lp, 0, none⟩)) := by
      obtain ⟨⟨l, d, cs, k1, _⟩, _⟩ := hst3
      have := cell_blk0 k1.ap.led 0
      simpa using this
    have hct := (callsIn_wide (n := N - 1)).2 (hst3.cut nx (by omega) (by omega) hB)
    have H3 : Hid (W3.heap[w.heap.size + 1]? = some (.cells #[.nilIface] 90 (0, 0)) ∧ W3.heap[w1.heap.size]? = some (.deferred (some []))) := ⟨t1, t2⟩
    clear hst3 hk3 t0 t1 t2 HD
    gi_wp2_with fail
    refine hct.mono ?_
    clear hct v3 hcg
    rintro e W4 ⟨rfl, hend, hk4⟩
    have u1 := hk4.same _ _ H3.out.1 rfl
    have u2 := hk4.same _ _ H3.out.2 rfl
    have x1 := cell_blk0 u1 0
    have y1 := blk_free u1 0
    simp at x1
    obtain ⟨W5, hW5⟩ : ∃ W5, W5 = W4.setCell ⟨w.heap.size + 1, 0, none⟩ .nilIface := ⟨_, rfl⟩
    have hf5 : Fr [w.heap.size + 1] W4 W5 := by rw [hW5]; exact Fr.set1 (by simp) _ _
    have hb5 : W5.heap[w.heap.size + 1]? = some (.cells #[.nilIface] 90 (0, 0)) := by rw [hW5]; have := blk_set u1 0 .nilIface; simpa using this
    have hz4 := H1.out.2
    have hK5 : W5.heap[w1.heap.size]? = some (.deferred (some [])) := (hf5.block _ (Array.getElem?_eq_some_iff.1 u2).1 (by simp; omega)).trans u2
    have H5 := toHid (hend.box hf5 u1 (by omega))
    clear hend hk4 u1 u2 hf5
    gi_wp2
    rw [← hW5]
    clear hW5
    refine ⟨by simp, .inl ⟨_, _, rfl, run_takeDeferred hK5, ?_⟩⟩
    have hb7 : (W5.putObj w1.heap.size (.deferred none)).heap[w.heap.size + 1]? = some (.cells #[.nilIface] 90 (0, 0)) := (World.putObj_heap_other (by omega)).trans hb5
    have q1 := cell_blk0 hb7 0
    simp at q1
    refine ⟨.nilIface, ?_, rfl, n + 3 + 3 * E + 3 + 2 + (g + 1 + E + 1), by omega, ?_⟩
    · simp only [results, Tryz.f77]
      simp [go_sem, q1]
    · have := H5.out.bk (Bk.put hK5 rfl (Nat.le_refl _) (.deferred none)) (by omega)
      rw [← HEQ.out]
      rw [show nx + 2 + E = nx + 1 + E + 1 by omega]
      exact this
end Go.Proofs.YtejiankgafjppabGreatDoor
/- CHECKPOINTS: (*Shard).Checkpoint, over a disk that is well. -/
namespace Go.Proofs.YtejiankgafjppabGreatDoor
open Go.RowKit Go.Maps Go.Shelf
open Sc

/-- the records that a checkpoint of these leaves at the end -/
def ckAll (nx : Nat) (L : List (ByteArray × ByteArray)) : List Rec := ckR nx (valEs L) ++ [⟨nx + 1 + (valEs L).length, 255, []⟩]
theorem CkEnd.cell0 {w0 w : World} {B sp gp bV bT bH m lp p bD bN n fst low nx : Nat} {s : AShard} {rs : List Rec} (h : CkEnd w0 w B sp gp bV bT bH m lp p bD bN n s fst rs low nx) : w.cell? ⟨sp, 0, none⟩ = some (.pointer (some ⟨gp, 0, none⟩)) := by
  obtain ⟨⟨l', d', f', c', q1, _⟩, _⟩ := h
  have := blk_cell q1.sh.blk 0
  simp at this
  rw [lgP_pos q1.gp1] at this
  exact this
set_option maxRecDepth 100000 in
set_option maxHeartbeats 4000000 in
theorem sck_any (B sp gp bV bT bH m lp p bD bN n fst c g : Nat) (s : AShard) (l : ALog) (d : ADisk) (cs : List (List Rec)) (w : World) (h : SL w B sp gp bV bT bH m lp p bD bN n s l d) (hmu : Mu l d fst cs) (hw : d.Well c) (ht : s.txns = []) (hm : m ≤ 67108864) (hsm : SmallV s.vals) (hn : n ≤ 1000000) (hc : c ≤ 1000000) (hg : g ≤ 1000000) (hcs : cs.length ≤ g) (hB : 2 ≤ B) (hb : B ≤ sp ∧ B ≤ bV ∧ B ≤ bT ∧ B ≤ bH) (hpow : Pows w) :
    Calls Tryz.prog 41 #[.pointer (some ⟨sp, 0, none⟩)] w fun e w' => e = .returned .nilIface ∧ ∃ n', n' ≤ n + g + 500 ∧ CkEnd w w' B sp gp bV bT bH m lp p bD bN n' s fst (cs.flatten ++ ckAll l.next s.vals) l.next (l.next + 2 + (valEs s.vals).length) := by
  have hlo : 2 ≤ w.heap.size := by obtain ⟨pv, sv, rv, nD, nN, hl⟩ := h.lg; have := hl.disk.base.2.2.2; omega
  have c0 := blk_cell h.sh.blk 0
  simp at c0
  rw [lgP_pos h.gp1] at c0
  obtain ⟨W, hW⟩ : ∃ W, W = w.drew.alloc (.cells #[.pointer (some ⟨sp, 0, none⟩)] 83) := ⟨_, rfl⟩
  have hf0 : Fr [] w W := by rw [hW]; exact ((Fr.refl [] w).drew).alloc _
  obtain ⟨k1, k2⟩ := h.new hf0
  have hst : CkSt W W B sp gp bV bT bH m lp p bD bN n s fst cs.flatten l.next c g := ⟨⟨l, d, cs, k1, hmu, hw, rfl, rfl, hcs⟩, (OFr.refl _ _ _).s, by have := hf0.size; omega, h.pows k2 hB hb hpow⟩
  have hBs : W.heap[w.heap.size]? = some (.cells #[.pointer (some ⟨sp, 0, none⟩)] 83 (0, 0)) := by rw [hW]; exact heap_alloc_new w.drew _
  have hck := (callsIn_wide (n := 14)).1 (lck_in 14 (Nat.le_refl _) B sp gp bV bT bH m lp p bD bN n fst l.next c g w.heap.size s cs.flatten W hst hBs ht hm hsm hn hc hg hB hb)
  have hen := (callsIn_wide (n := 1)).1 (entries_fn 1 sp w.drew)
  have d0 := blk_cell k1.sh.blk 0
  simp at d0
  rw [lgP_pos h.gp1] at d0
  have HX : Hid (SFr sp bV bT bH lp p w W) := k2
  clear h k1 k2 hst hBs hf0
  go_enter Tryz.func41, Tryz.ntmps41
  go_wp2
  go_region_held3 (fun w' => w'.cell? ⟨sp, 0, none⟩ = some (.pointer (some ⟨gp, 0, none⟩))) (simp [*])
    (first
      | (go_at_call 78; refine hen.mono ?_; rintro e w1 ⟨rfl, hw1⟩; rw [← hW] at hw1; subst hw1; clear hW)
      | (go_at_call 77; refine hck.mono ?_; rintro e w2 ⟨rfl, n', hn', hend⟩; have z2 := hend.cell0; have HE := toHid hend; clear hend))
  all_goals
    (go_wp2
     go_ret
     refine ⟨rfl, n', hn', ?_⟩
     unfold ckAll
     rw [← List.append_assoc]
     exact ⟨HE.out.ex, HX.out.trans HE.out.fr⟩)
end Go.Proofs.YtejiankgafjppabGreatDoor
/- HOSTS OF A SHARD: Checkpoint. (Written by mkhok.py, from HoS.) -/
namespace Go.Proofs.YtejiankgafjppabGreatDoor
open Go.RowKit Go.Maps
open Sc

set_option maxRecDepth 100000 in
set_option maxHeartbeats 4000000 in
theorem hCk_s (B hp sp gp bV bT bH m lp p bD bN n : Nat) (s : AShard) (l : ALog) (d : ADisk) (a b c k : Int) (w : World) (Q : Nat → Nat → AShard → ALog → ADisk → Nat → Nat → Prop) (hh : w.heap[hp]? = some (hostS p true (.pointer (some ⟨sp, 0, none⟩)))) (hs : SL w B sp gp bV bT bH m lp p bD bN n s l d) (hb : B ≤ sp ∧ B ≤ bV ∧ B ≤ bT ∧ B ≤ bH) (hB : 2 ≤ B) (hmet : Met w)
    (hX : ∀ w1, SL w1 B sp gp bV bT bH m lp p bD bN n s l (d.knob a b) → HFr B w w1 → Calls Tryz.prog 41 #[.pointer (some ⟨sp, 0, none⟩)] w1 fun e w2 => ∃ v x s' l' d' m' n', Q v x s' l' d' m' n' ∧ e = .returned (errN x) ∧ SL w2 B sp gp bV bT bH m' lp p bD bN n' s' l' d' ∧ d'.down = false ∧ SFr sp bV bT bH lp p w1 w2) :
    Calls Tryz.prog 15 #[.pointer (some ⟨hp, 0, none⟩), fallV a b c k] w fun e w' => ∃ v x s' l' d' m' n', Q v x s' l' d' m' n' ∧ e = .returned (.int .i64 (x : Int)) ∧ HSt w' B hp m' n' s' l' (d'.knob (-1) (-1)) ∧ HFr B w w' := by
  obtain ⟨W, hW⟩ : ∃ W, W = w.alloc (fallO a b c k) := ⟨_, rfl⟩
  have hf0 : Fr [] w W := by rw [hW]; exact (Fr.refl [] w).alloc _
  obtain ⟨hs0, hx0⟩ := hs.new hf0
  have hh0 := hx0.cells hs hh (by decide) (by decide) (by decide) (by decide) (by decide) (by decide)
  have hfa0 : W.heap[w.heap.size]? = some (fallO a b c k) := by rw [hW]; exact heap_alloc_new w _
  have hr0 := hx0.hfr hs hb
  have c3 := blk_cell hh0 3
  have c5 := blk_cell hh0 5
  have x0 := blk_cell hfa0 0
  have x1 := blk_cell hfa0 1
  have x2 := blk_cell hfa0 2
  have x3 := blk_cell hfa0 3
  simp at c3 c5 x0 x1 x2 x3
  rw [hW] at c3 c5 x0 x1 x2 x3
  obtain ⟨pv0, hd0⟩ : ∃ pv, W.heap[p]? = some (dskO bD bN pv d.left d.full d.down) := by obtain ⟨pv, sv, rv, nD, nN, hl⟩ := hs0.lg; exact ⟨pv, hl.disk.blk⟩
  have H0 : Hid (SL W B sp gp bV bT bH m lp p bD bN n s l d ∧ W.heap[hp]? = some (hostS p true (.pointer (some ⟨sp, 0, none⟩))) ∧ W.heap[w.heap.size]? = some (fallO a b c k) ∧ HFr B w W ∧ W.heap[p]? = some (dskO bD bN pv0 d.left d.full d.down)) := ⟨hs0, hh0, hfa0, hr0, hd0⟩
  clear hs hh hf0 hs0 hx0 hh0 hfa0 hr0 hd0
  go_enter Tryz.func15, Tryz.ntmps15
  go_wp2_with fail
  rw [← hW]
  clear hW c3 c5 x0 x1 x2 x3
  refine (before_s hp p bD bN pv0 _ true d.down d.left d.full a b c k W H0.out.2.1 H0.out.2.2.2.2).mono ?_
  rintro e w1 ⟨rfl, hb1, hf1⟩
  obtain ⟨hs1, hx1⟩ := H0.out.1.knob a b hf1 hb1 H0.out.2.2.2.2
  have hh1 := hx1.cells H0.out.1 H0.out.2.1 (by decide) (by decide) (by decide) (by decide) (by decide) (by decide)
  have hfa1 := hx1.cells H0.out.1 H0.out.2.2.1 (by decide) (by decide) (by decide) (by decide) (by decide) (by decide)
  have hr1 := H0.out.2.2.2.1.trans (hx1.hfr H0.out.1 hb)
  have hap := hX w1 hs1 hr1
  have k5 := blk_cell hh1 5
  simp at k5
  have H1 : Hid (SL w1 B sp gp bV bT bH m lp p bD bN n s l (d.knob a b) ∧ w1.heap[hp]? = some (hostS p true (.pointer (some ⟨sp, 0, none⟩))) ∧ w1.heap[w.heap.size]? = some (fallO a b c k) ∧ HFr B w w1) := ⟨hs1, hh1, hfa1, hr1⟩
  clear hs1 hx1 hh1 hfa1 hr1 hb1 hf1 hX H0
  go_wp2_with fail
  refine hap.mono ?_
  clear hap
  rintro e w2 ⟨v, x, s', l', d', m', n', hQ, rfl, hs2, hdn, hx2⟩
  have hh2 := hx2.cells H1.out.1 H1.out.2.1 (by decide) (by decide) (by decide) (by decide) (by decide) (by decide)
  have hfa2 := hx2.cells H1.out.1 H1.out.2.2.1 (by decide) (by decide) (by decide) (by decide) (by decide) (by decide)
  have hr2 := H1.out.2.2.2.trans (hx2.hfr H1.out.1 hb)
  have y0 := blk_cell hfa2 0
  have y1 := blk_cell hfa2 1
  have y2 := blk_cell hfa2 2
  have y3 := blk_cell hfa2 3
  simp at y0 y1 y2 y3
  have hmet2 : Met w2 := hr2.met hB hmet
  obtain ⟨pv2, hd2⟩ : ∃ pv, w2.heap[p]? = some (dskO bD bN pv d'.left d'.full d'.down) := by obtain ⟨pv, sv, rv, nD, nN, hl⟩ := hs2.lg; exact ⟨pv, hl.disk.blk⟩
  have H2 : Hid (SL w2 B sp gp bV bT bH m' lp p bD bN n' s' l' d' ∧ w2.heap[hp]? = some (hostS p true (.pointer (some ⟨sp, 0, none⟩))) ∧ HFr B w w2 ∧ w2.heap[p]? = some (dskO bD bN pv2 d'.left d'.full d'.down) ∧ Q v x s' l' d' m' n') := ⟨hs2, hh2, hr2, hd2, hQ⟩
  clear hs2 hx2 hh2 hfa2 hr2 hd2 hQ k5 H1
  go_wp2_with fail
  have hbd := H2.out.2.2.2.1
  rw [hdn] at hbd
  refine (after_s hp p bD bN pv2 _ true d'.left d'.full a b c k w2 H2.out.2.1 hbd).mono ?_
  clear hbd y0 y1 y2 y3
  rintro e w3 ⟨rfl, hb3, hf3⟩
  rw [← hdn] at hb3
  obtain ⟨hs3, hx3⟩ := H2.out.1.knob (-1) (-1) hf3 hb3 H2.out.2.2.2.1
  have hh3 := hx3.cells H2.out.1 H2.out.2.1 (by decide) (by decide) (by decide) (by decide) (by decide) (by decide)
  have hr3' := hx3.hfr H2.out.1 hb
  have hmet3 : Met w3 := hr3'.met hB hmet2
  have H3 : Hid (SL w3 B sp gp bV bT bH m' lp p bD bN n' s' l' (d'.knob (-1) (-1)) ∧ w3.heap[hp]? = some (hostS p true (.pointer (some ⟨sp, 0, none⟩))) ∧ HFr B w w3 ∧ Q v x s' l' d' m' n') := ⟨hs3, hh3, H2.out.2.2.1.trans hr3', H2.out.2.2.2.2⟩
  clear hs3 hx3 hh3 hr3' hb3 hf3 H2
  go_wp2_with fail
  refine (told_any x w3 hmet3).mono ?_
  rintro e w4 ⟨rfl, hf4⟩
  obtain ⟨hs4, hx4⟩ := H3.out.1.new hf4
  have hh4 := hx4.cells H3.out.1 H3.out.2.1 (by decide) (by decide) (by decide) (by decide) (by decide) (by decide)
  have hr4 := H3.out.2.2.1.trans (hx4.hfr H3.out.1 hb)
  have H4 : Hid (Q v x s' l' d' m' n' ∧ HSt w4 B hp m' n' s' l' (d'.knob (-1) (-1)) ∧ HFr B w w4) := ⟨H3.out.2.2.2, ⟨p, sp, gp, bV, bT, bH, lp, bD, bN, hh4, hs4, hb⟩, hr4⟩
  clear hs4 hx4 hh4 hr4 hf4 H3
  go_wp2
  go_ret
  exact ⟨v, x, s', l', d', m', n', H4.out.1, rfl, H4.out.2⟩
end Go.Proofs.YtejiankgafjppabGreatDoor
/- HOSTS OF A SHARD: Pairs. -/
namespace Go.Proofs.YtejiankgafjppabGreatDoor
open Go.RowKit Go.Maps Go.Shelf
open Sc

abbrev pairC (x : ByteArray × ByteArray) : List Value := [.string x.1, .string x.2]
/-- pairs as cells -/
def pairsV (l : List (ByteArray × ByteArray)) : List Value := l.flatMap pairC
theorem pairsV_snoc (l : List (ByteArray × ByteArray)) (x : ByteArray × ByteArray) : pairsV (l ++ [x]) = pairsV l ++ pairC x := by simp [pairsV]
theorem Tryz.infoPair : (Tryz.prog.info? 42).map (fun i => (i.zero, i.size, i.bytes)) = some (some (.agg #[.string ByteArray.empty, .string ByteArray.empty]), 2, 32) := by kernel_rfl
theorem Tryz.eqNilP (v : Array Value) (w : World) : (binOp .eql 110 (.func (.func 149) #[] v) .nilFunc).run Tryz.prog w = .ok (.bool false) w := by kernel_rfl
theorem Tryz.lenPair (p : Option Addr) (n c : Nat) (w : World) : (Builtin.len_ #[38] 3 #[.slice p n c]).run Tryz.prog w = .ok (.int .i64 n) w := by simp [Builtin.len_, run_underlying Tryz.underlying38, goInt]
set_option maxHeartbeats 1000000 in
theorem all_fn (n : Nat) (hn : 1 ≤ n) (sp lg bV bT bH m : Nat) (s : AShard) (w : World) (h : ShIn w sp lg bV bT bH m s) :
    CallsIn Fence.wide n Tryz.prog 50 #[.pointer (some ⟨sp, 0, none⟩)] w fun e w' => e = .returned (.func (.func 149) #[] #[.pointer (some ⟨w.heap.size, 0, none⟩)]) ∧ w' = w.alloc (.cells #[.map (some bV)] 132) := by
  have c1 := blk_cell h.blk 1
  simp at c1
  have hbf := byKeysV_fn (n - 1) bV w
  have hf2 : Fence.wide.fn 88 := trivial
  refine callsIn_of_wp Tryz.func50 rfl trivial ?_ rfl
  simp only [Tryz.ntmps50, List.size_toArray, List.length_cons, List.length_nil, Nat.reduceAdd, Nat.reduceSub, Array.replicate_succ, Array.replicate_zero, List.push_toArray, List.append_toArray, List.nil_append, List.cons_append]
  gi_wp2_with fail
  refine hbf.mono ?_
  rintro e w1 ⟨rfl, rfl⟩
  gi_wp2
  go_ret
  exact ⟨rfl, rfl⟩
/-- what was gone over -/
def pairsS {L : List (ByteArray × ByteArray)} (pre : List { x : ByteArray × ByteArray // x ∈ sortV L }) : List (ByteArray × ByteArray) := pre.map (·.1)
theorem pairsS_snoc {L : List (ByteArray × ByteArray)} (pre : List { x : ByteArray × ByteArray // x ∈ sortV L }) (x : { x : ByteArray × ByteArray // x ∈ sortV L }) : pairsS (pre ++ [x]) = pairsS pre ++ [x.1] := by simp [pairsS]
set_option maxRecDepth 100000 in
set_option maxHeartbeats 4000000 in
theorem pairs_in (n : Nat) (hn : 9 ≤ n) (hp p sp lg bV bT bH m : Nat) (s : AShard) (w : World) (hh : w.heap[hp]? = some (hostS p true (.pointer (some ⟨sp, 0, none⟩)))) (h : ShIn w sp lg bV bT bH m s) (hm : m ≤ 67108864) :
    CallsIn Fence.wide n Tryz.prog 19 #[.pointer (some ⟨hp, 0, none⟩), .int .i64 0] w fun e w' => ∃ v, e = .returned (.tuple #[v, .bool true]) ∧ w'.ownsRow w.heap.size 42 2 v (sortV s.vals).length (pairsV (sortV s.vals)) ∧ Below w.heap.size w w' := by
  have hro : Fence.wide.round = none := rfl
  have h1 : 1 ≤ n := by omega
  have hf2 : Fence.wide.fn 50 := trivial
  have hf3 : Fence.wide.fn 149 := trivial
  obtain ⟨i0, hi, hz0, hz1, hz2⟩ := info_parts Tryz.infoPair
  obtain ⟨W1, hW1⟩ : ∃ W1, W1 = w.alloc (.cells #[.int .i64 0] 3) := ⟨_, rfl⟩
  have hB1 : Below w.heap.size w W1 := by rw [hW1]; exact (Below.refl _ w).alloc (Nat.le_refl _) _
  have hs1 : W1.heap.size = w.heap.size + 1 := by rw [hW1]; simp
  have bL : Boxed W1 w.heap.size 3 (.int .i64 0) := by rw [hW1]; exact Boxed.new w _ _
  have hh1 := (hB1.block hp (Array.getElem?_eq_some_iff.1 hh).1).trans hh
  have hin1 := h.fr (Fr.of_below hB1 []) (by simp) (by simp) (by simp) (by simp)
  have c5 := blk_cell hh1 5
  simp at c5
  have hal := all_fn (n - 1) (by omega) sp lg bV bT bH m s W1 hin1
  have HV : Hid (MapAs KS ES W1 bV m s.vals) := hin1.vals
  have hnf := Tryz.eqNilP
  clear h hin1 hh hh1
  rw [hW1] at c5
  refine callsIn_of_wp_marks Tryz.func19 rfl trivial ?_ hro
  simp only [Tryz.ntmps19, List.size_toArray, List.length_cons, List.length_nil, Nat.reduceAdd, Nat.reduceSub, Array.replicate_succ, Array.replicate_zero, List.push_toArray, List.append_toArray, List.nil_append, List.cons_append]
  gi_wp2_with (gi_at_call 50; rw [← hW1]; refine hal.mono ?_; rintro e w2 ⟨rfl, rfl⟩)
  rw [← hW1]
  have hlenP := Tryz.lenPair
  obtain ⟨W2, hW2⟩ : ∃ W2, W2 = W1.alloc (.cells #[.map (some bV)] 132) := ⟨_, rfl⟩
  obtain ⟨W0, hW0⟩ : ∃ W0, W0 = W2.alloc (.cells #[.slice none 0 0] 38) := ⟨_, rfl⟩
  rw [← hW2, ← hW0]
  have hs2 : W2.heap.size = w.heap.size + 2 := by rw [hW2, World.size_alloc, hs1]
  have hsz : W0.heap.size = w.heap.size + 3 := by rw [hW0, World.size_alloc, hs2]
  have bA : Boxed W0 (w.heap.size + 1) 132 (.map (some bV)) := by
    rw [hW0]
    have := Boxed.new W1 132 (.map (some bV))
    rw [hs1, ← hW2] at this
    exact this.alloc _
  have bO1 : Boxed W0 (w.heap.size + 1 + 1) 38 (.slice none 0 0) := by
    have := Boxed.new W2 38 (.slice none 0 0)
    rw [hs2, ← hW0] at this
    exact this
  have bL0 : Boxed W0 w.heap.size 3 (.int .i64 0) := by rw [hW0, hW2]; exact (bL.alloc _).alloc _
  have hB0 : Below w.heap.size w W0 := by rw [hW0, hW2]; exact (hB1.alloc (by omega) _).alloc (by simp; omega) _
  have hL0 : MapAs KS ES W0 bV m s.vals := by rw [hW0, hW2]; exact (HV.out.fr ((Fr.refl [] _).alloc _) (by simp)).fr ((Fr.refl [] _).alloc _) (by simp)
  have hvl : s.vals.length ≤ 67108864 := by have h1 := HV.out.len; omega
  clear hW0 hW2 hW1 bL hal c5 hB1 HV
  refine wpIn_rangeFunc_ownH hro h1 (gf := 149) (lb := #[.pointer (some ⟨w.heap.size + 1, 0, none⟩)]) rfl hf3 (enters_of Tryz.func149 (by kernel_rfl) rfl)
    (byKeysV_stops (n - 1) (by omega) (w.heap.size + 1) bV m s.vals (fun x => x ∈ sortV s.vals) (fun x hx => hx) hm W0 (by omega) bA.cell hL0 (KpB 9 9 w.heap.size (w.heap.size + 1 + 1)) (fun k A => ¬ RowOf (w.heap.size + 1 + 1) A k)
      (fun W k A hW _ hA hr => by
        obtain ⟨v, e1, e2⟩ := hr
        have h1 : A.cell? ⟨w.heap.size + 1 + 1, 0, none⟩ = W0.cell? ⟨w.heap.size + 1 + 1, 0, none⟩ := (hA.cell (p := ⟨w.heap.size + 1 + 1, 0, none⟩) (by have := hW.size; show w.heap.size + 1 + 1 < _; omega)).trans (hW.cell (p := ⟨w.heap.size + 1 + 1, 0, none⟩) (by show w.heap.size + 1 + 1 < _; omega))
        rw [h1, bO1.cell] at e1
        cases e1
        cases e2)
      (fun k A B c t ht hk hA hn => ⟨hk.same k c t ht hA hn, fun hr => hn (hk.stay k (Array.getElem?_eq_some_iff.1 hA).1 hr)⟩))
    (fun h k => h.trans k) (KpB.book (by omega) (by omega)) (Below.refl _ _) (fun _ => rfl)
    (fun pre W => ((∃ v, Boxed W (w.heap.size + 1 + 1) 38 v ∧ W.ownsRow w.heap.size 42 2 v (pairsS pre).length (pairsV (pairsS pre)) ∧ True) ∧ Boxed W w.heap.size 3 (.int .i64 0)) ∧ Below w.heap.size w W)
    (fun _ _ _ => False)
    (OwnFrom.and (OwnFrom.and (Own.from (holdsRow_own w.heap.size (w.heap.size + 1 + 1) 38 42 2 (fun pre : List { x : ByteArray × ByteArray // x ∈ sortV s.vals } => (pairsS pre).length) (fun pre => pairsV (pairsS pre)) (fun _ _ => True)) _) (Own.from (boxed_own _ _ _) _)) (ownFrom_below (Nat.le_refl _) (by omega)))
    (fun _ _ _ _ _ hs _ _ => hs)
    ⟨⟨⟨_, bO1, World.ownsRow_nil _ _ _ _, trivial⟩, bL0⟩, hB0⟩
    (fun x a' W => a' = { tmps := #[.pointer (some ⟨hp, 0, none⟩), .int .i64 0, undef, .pointer (some ⟨w.heap.size, 0, none⟩), .slice none 0 0, .bool false, .func (.func 149) #[] #[.pointer (some ⟨w.heap.size + 1, 0, none⟩)], .pointer (some ⟨w.heap.size + 1 + 1, 0, none⟩), .string x.1.1, .string x.1.2, .pointer (some ⟨hp, 0, none⟩), .pointer (some ⟨hp, 0, none⟩), .pointer (some ⟨hp, 5, none⟩), .pointer (some ⟨sp, 0, none⟩), .bool false, .pointer (some ⟨hp, 0, none⟩), .pointer (some ⟨hp, 0, none⟩), .pointer (some ⟨hp, 5, none⟩), .pointer (some ⟨sp, 0, none⟩), .func (.func 149) #[] #[.pointer (some ⟨w.heap.size + 1, 0, none⟩)], .func (.func 149) #[] #[.pointer (some ⟨w.heap.size + 1, 0, none⟩)], .bool false, .func (.func 149) #[] #[.pointer (some ⟨w.heap.size + 1, 0, none⟩)], .string x.1.1, .string x.1.2, undef, undef, undef, undef, undef, undef, undef, undef, undef, undef, undef], defers := [] })
    (fun x a' _ X Y row hs _ _ => hs)
    ?assign ?body ?done ?stop
  case assign =>
    have hsem := @Oper.semAt_some
    rintro l pre x W K ⟨⟨⟨v, hv, hrow, _⟩, hlb⟩, hB1⟩ hK
    gi_wp2
    exact hK _ _ (KeepsFrom.refl _ _) (KpB.refl _) ⟨⟨⟨v, hv, hrow, trivial⟩, hlb⟩, hB1⟩ rfl
  case body =>
    have hsem := @Oper.semAt_some
    rintro l pre x a' W hl2 _ ⟨⟨⟨v, hv, hrow, _⟩, hlb⟩, hB⟩ rfl hlt
    have hc := hv.cell
    have hpl : (pairsS pre).length = pre.length := by unfold pairsS; rw [List.length_map]
    have HW : Hid (pairsS (pre ++ [x]) = pairsS pre ++ [x.1]) := pairsS_snoc pre x
    have hpb : (pairsS pre).length < 67108864 := by omega
    clear hpl
    obtain ⟨q, hq⟩ : ∃ q, q = (pairsS pre).length := ⟨_, rfl⟩
    have HQ : Hid (q = (pairsS pre).length) := hq
    rw [← hq] at hrow hpb
    clear hq
    have iq : ¬ ((q : Int) + 1 = 0) := by omega
    gi_wp2_with (gi_at_builtin; refine wpListIn_append_at _ rfl _ _ 38 rfl w.heap.size 42 i0 _ 2 32 Tryz.underlying38 hi hz0 hz1 hz2 rfl (by decide) _ _ _ rfl (hrow.alloc _) ⟨W.heap.size, 0, none⟩ 1 1 [.string x.1.1, .string x.1.2] rfl rfl (cells_new _ #[.string x.1.1, .string x.1.2] _) (by intro u hu; simp at hu; rcases hu with rfl | rfl <;> rfl) (by unfold maxLen; omega) (by omega) (by have := hB.size; simp; omega) ?_; intro v' w1 hown' hgrow hat; obtain ⟨g', cap', rfl⟩ := ownsRow_succ hown'; obtain ⟨hv1, hv2, hr2, hk2, hb2⟩ := hv.appended (by decide) hrow hB.size (by omega) hown' hgrow; have hc1 := hv1.cell; have hf1 := hv1.frozen; have hc2 := hv2.cell; have hl1 : Boxed (w1.setCell ⟨w.heap.size + 1 + 1, 0, none⟩ (.slice (some ⟨g', 0, none⟩) (q + 1) cap')) w.heap.size 3 (.int .i64 0) := (Below.heap_setCell _ _ _ w.heap.size (by show w.heap.size ≠ w.heap.size + 1 + 1; omega)).trans ((hgrow.block w.heap.size (by have := hlb.lt; simp; omega) (hlb.not_row (by decide) hrow)).trans ((Below.heap_alloc _ _ _ hlb.lt).trans hlb)); have hl1c := hl1.cell; have HKP : Hid (KpB 9 9 w.heap.size (w.heap.size + 1 + 1) W (w1.setCell ⟨w.heap.size + 1 + 1, 0, none⟩ (.slice (some ⟨g', 0, none⟩) (q + 1) cap')) ∧ KeepsOthers W (w1.setCell ⟨w.heap.size + 1 + 1, 0, none⟩ (.slice (some ⟨g', 0, none⟩) (q + 1) cap'))) := ⟨KpB.appended hv (by decide) (by decide) hgrow hat hb2 hv2, hk2⟩; clear hat)
    refine ⟨HKP.out.2.from _, HKP.out.1, ⟨⟨_, hv2, ?_, trivial⟩, hl1⟩, hB.trans hb2⟩
    rw [HW.out, pairsV_snoc, List.length_append, ← HQ.out]
    exact hr2
  case done =>
    rintro D ys W hD hys ⟨⟨⟨v, hv, hrow, _⟩, hlb⟩, hB⟩ hK
    have hc := hv.cell
    have HE : Hid (pairsS ys = sortV s.vals) := by show _ = _; unfold pairsS; exact hys
    gi_wp2
    refine ⟨by simp, .inl ⟨_, _, rfl, run_takeDeferred hK, ?_⟩⟩
    rw [HE.out] at hrow
    refine ⟨.tuple #[v, .bool true], ?_, v, rfl, ownsRow_putObj hrow _ hK rfl, hB.trans (belowK_b (w := w) (Nat.le_refl _) W D _ _ (by omega) hK rfl rfl)⟩
    simp only [results, Tryz.f19]
    simp [go_sem]
  case stop =>
    rintro D c pre W _ _ h _
    exact h.elim
theorem hPairs_s (B hp m n : Nat) (s : AShard) (l : ALog) (d : ADisk) (w : World) (h : HSt w B hp m n s l d) (hm : m ≤ 67108864) :
    Calls Tryz.prog 19 #[.pointer (some ⟨hp, 0, none⟩), .int .i64 0] w fun e w' => ∃ v, e = .returned (.tuple #[v, .bool true]) ∧ w'.ownsRow w.heap.size 42 2 v (sortV s.vals).length (pairsV (sortV s.vals)) ∧ HSt w' B hp m n s l d ∧ HFr B w w' := by
  obtain ⟨p, sp, gp, bV, bT, bH, lp, bD, bN, hh, hs, hb⟩ := h
  refine ((callsIn_wide (n := 9)).1 (pairs_in 9 (Nat.le_refl _) hp p sp gp bV bT bH m s w hh hs.sh hm)).mono ?_
  rintro e w' ⟨v, rfl, hr, hbl⟩
  have hf : Fr [] w w' := Fr.of_below hbl _
  obtain ⟨k1, k2⟩ := hs.new hf
  exact ⟨v, rfl, hr, ⟨p, sp, gp, bV, bT, bH, lp, bD, bN, k2.cells hs hh (by decide) (by decide) (by decide) (by decide) (by decide) (by decide), k1, hb⟩, k2.hfr hs hb⟩
end Go.Proofs.YtejiankgafjppabGreatDoor
