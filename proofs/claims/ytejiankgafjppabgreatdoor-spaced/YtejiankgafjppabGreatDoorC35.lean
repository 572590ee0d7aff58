import Derived.Test.YtejiankgafjppabGreatDoorC34
import Derived.Test.YtejiankgafjppabGreatDoorC23
import Derived.Maps.AppendAt
import Derived.Test.YtejiankgafjppabGreatDoorC32
import Derived.Test.YtejiankgafjppabGreatDoorC22
/- SHARDS: Waiting. -/
namespace Go.Proofs.YtejiankgafjppabGreatDoor
open Go.RowKit Go.Maps Go.Shelf
open Sc

theorem wpListIn_append_at {F : Fence} {n : Nat} {P : Program} (w : World) {ops : Array Oper} {rest : List Oper} {o : Oper} {a : Act} {Q : Exit → Act → World → Prop}
    (hg : o.guard = none) (s x : Operand) (t : TypeId) (hop : o.op = Op.call { callee := Callee.builtin Builtin.append, args := #[s, x], argTypes := #[t, t] })
    (base : Nat) (e : TypeId) (i : TypeInfo) (z : Value) (size bytes : Nat) (h1 : P.underlying t = some (.slice e)) (h2 : P.info? e = some i) (h3 : i.zero = some z) (h4 : i.size = size) (h5 : i.bytes = bytes) (h6 : z.cells.size = size) (h7 : 0 < size)
    (v : Value) (k : Nat) (xs : List Value) (hs : a.eval s = v) (hown : w.ownsRow base e size v k xs) (ad : Addr) (m c : Nat) (news : List Value) (hx : a.eval x = .slice (some ad) m c) (hn : news.length = m * size)
    (hc : ∀ j u, news[j]? = some u → w.cell? (ad.add j) = some u) (h1c : ∀ u ∈ news, u.oneCell' = true) (b1 : k + m ≤ maxLen) (b2 : (k + m) * bytes ≤ 140737488355328) (b3 : base ≤ w.heap.size)
    (hK : ∀ v' w', w'.ownsRow base e size v' (k + m) (xs ++ news) → w.grownBy w' v.ownBlock → (v'.ownBlock = v.ownBlock ∨ v'.ownBlock = some w.heap.size) → wpListIn F n P ops Q rest (a.put o.dst v') w') :
    wpListIn F n P ops Q (o :: rest) a w := by
  refine wpListIn_plain hg fun K hK' => ?_
  obtain ⟨v', w', hrun, r1, r2, _, r3⟩ := run_append_own_at (P := P) w base t o.type e i z size bytes h1 h2 h3 h4 h5 h6 h7 v k xs hown ad m c news hn hc h1c b1 b2 b3
  unfold Oper.wpIn
  refine ⟨?_, ?_⟩
  · simp [Oper.about, hop, resolve, Target.leads, Sem.run_pure]
  · rw [Oper.semAt_plain F _ _ (by rw [hop]; intro c hc'; cases hc')]
    simp [execOp, hop, resolve, invoke, builtin, hs, hx, hrun, Result.andThen]
    exact hK' _ _ (hK v' w' r1 r2 r3)
/-- those that are prepared -/
def waits (ys : List (Nat × ATxn)) : List Nat := (ys.filter fun y => decide (y.2.state = 3)).map (·.1)
def waitsS {L : List (Nat × ATxn)} (pre : List { x : Nat × ATxn // x ∈ L }) : List Nat := waits (pre.map (·.1))
theorem waitsS_yes {L : List (Nat × ATxn)} (pre : List { x : Nat × ATxn // x ∈ L }) (x : { x : Nat × ATxn // x ∈ L }) (h : x.1.2.state = 3) : waitsS (pre ++ [x]) = waitsS pre ++ [x.1.1] := by simp [waitsS, waits, h]
theorem waitsS_no {L : List (Nat × ATxn)} (pre : List { x : Nat × ATxn // x ∈ L }) (x : { x : Nat × ATxn // x ∈ L }) (h : x.1.2.state ≠ 3) : waitsS (pre ++ [x]) = waitsS pre := by simp [waitsS, waits, h]
theorem waitsS_len {L : List (Nat × ATxn)} (pre : List { x : Nat × ATxn // x ∈ L }) : (waitsS pre).length ≤ pre.length := by
  unfold waitsS waits
  rw [List.length_map]
  exact Nat.le_trans (List.length_filter_le _ _) (by simp)
set_option maxRecDepth 100000 in
set_option maxHeartbeats 4000000 in
theorem waiting_in (n : Nat) (hn : 8 ≤ n) (sp lg bV bT bH m : Nat) (s : AShard) (w : World) (h : ShIn w sp lg bV bT bH m s) (hl : s.txns.length ≤ 12) :
    CallsIn Fence.wide n Tryz.prog 136 #[.pointer (some ⟨sp, 0, none⟩)] w fun e w' => ∃ v ss, e = .returned v ∧ ss.Perm (s.txns.map (·.1)) ∧ ss.Pairwise (· ≤ ·) ∧ w'.ownsRow w.heap.size 28 1 v (waits (atT s.txns ss)).length (u64s (waits (atT s.txns ss))) ∧ (v = .slice none 0 0 ↔ waits (atT s.txns ss) = []) ∧ Below w.heap.size w w' := by
  have hro : Fence.wide.round = none := rfl
  have h1 : 1 ≤ n := by omega
  have hf2 : Fence.wide.fn 191 := trivial
  have hf3 : Fence.wide.fn 233 := trivial
  obtain ⟨i0, hi, hz0, hz1, hz2⟩ := info_parts Tryz.infoU64
  have HL : Hid (MapAs KU ET w bT m s.txns ∧ s.txns.length ≤ 12) := ⟨h.txns, hl⟩
  have hsp : sp < w.heap.size := (Array.getElem?_eq_some_iff.1 h.blk).1
  have c2 : (w.alloc (.cells #[.slice none 0 0] 220)).cell? ⟨sp, 2, none⟩ = some (.map (some bT)) := by
    rw [World.cell?_alloc_lt _ _ ⟨sp, 2, none⟩ hsp]
    have := blk_cell h.blk 2
    simpa using this
  obtain ⟨L, hLL⟩ : ∃ L, L = s.txns := ⟨_, rfl⟩
  rw [← hLL] at HL ⊢
  clear h hl hLL
  refine callsIn_of_wp_marks Tryz.func136 rfl trivial ?_ hro
  simp only [Tryz.ntmps136, List.size_toArray, List.length_cons, List.length_nil, Nat.reduceAdd, Nat.reduceSub, Array.replicate_succ, Array.replicate_zero, List.push_toArray, List.append_toArray, List.nil_append, List.cons_append]
  gi_wp2_with (gi_at_call 191; refine (byKeysT_fn _ bT _).mono ?_; rintro e w2 ⟨rfl, rfl⟩)
  have bO := Boxed.new w 220 (.slice none 0 0)
  have bA := Boxed.new (w.alloc (.cells #[.slice none 0 0] 220)) 133 (.map (some bT))
  rw [World.size_alloc] at bA
  have bO1 := bO.alloc (.cells #[.map (some bT)] 133)
  have hB0 : Below w.heap.size w ((w.alloc (.cells #[.slice none 0 0] 220)).alloc (.cells #[.map (some bT)] 133)) := ((Below.refl _ w).alloc (Nat.le_refl _) _).alloc (by simp) _
  have hsz : ((w.alloc (.cells #[.slice none 0 0] 220)).alloc (.cells #[.map (some bT)] 133)).heap.size = w.heap.size + 2 := by simp
  obtain ⟨W0, hW0⟩ : ∃ W0, ((w.alloc (.cells #[.slice none 0 0] 220)).alloc (.cells #[.map (some bT)] 133)) = W0 := ⟨_, rfl⟩
  rw [hW0] at bA bO1 hB0 hsz ⊢
  clear hW0 bO c2
  have hL0 : MapAs KU ET W0 bT m L := HL.out.1.fr (S := []) ⟨hB0.os, hB0.tape, hB0.output, hB0.size, fun k hk _ => hB0.block k hk⟩ (by simp)
  refine wpIn_rangeFunc_ownH hro h1 (gf := 233) (lb := #[.pointer (some ⟨w.heap.size + 1, 0, none⟩)]) rfl hf3 (enters_of Tryz.func233 (by kernel_rfl) rfl)
    (byKeysT_stops (n - 1) (by omega) (w.heap.size + 1) bT m L HL.out.2 W0 (by omega) bA.cell hL0 (KpB 28 206 w.heap.size w.heap.size) (fun k A => ¬ RowOf w.heap.size A k)
      (fun W k A hW _ hA hr => by
        obtain ⟨v, e1, e2⟩ := hr
        have h1 : A.cell? ⟨w.heap.size, 0, none⟩ = W0.cell? ⟨w.heap.size, 0, none⟩ := (hA.cell (p := ⟨w.heap.size, 0, none⟩) (by have := hW.size; show w.heap.size < _; omega)).trans (hW.cell (p := ⟨w.heap.size, 0, none⟩) (by show w.heap.size < _; omega))
        rw [h1, bO1.cell] at e1
        cases e1
        cases e2)
      (fun k A B c t ht hk hA hn => ⟨hk.same k c t ht hA hn, fun hr => hn (hk.stay k (Array.getElem?_eq_some_iff.1 hA).1 hr)⟩))
    (fun h k => h.trans k) (KpB.book (by omega) (by omega)) (Below.refl _ _) (fun _ => rfl)
    (fun pre W => (∃ v, Boxed W w.heap.size 220 v ∧ W.ownsRow w.heap.size 28 1 v (waitsS pre).length (u64s (waitsS pre)) ∧ (v = .slice none 0 0 ↔ waitsS pre = [])) ∧ Below w.heap.size w W)
    (fun _ _ _ => False)
    (OwnFrom.and (Own.from (holdsRow_own w.heap.size w.heap.size 220 28 1 (fun pre : List { x : Nat × ATxn // x ∈ L } => (waitsS pre).length) (fun pre => u64s (waitsS pre)) (fun pre v => (v = .slice none 0 0 ↔ waitsS pre = []))) _) (ownFrom_below (Nat.le_refl _) (by omega)))
    (fun _ _ _ _ _ hs _ _ => hs)
    ⟨⟨_, bO1, World.ownsRow_nil _ _ _ _, by simp [waitsS, waits]⟩, hB0⟩
    (fun x a' W => ∃ Bx, w.heap.size < Bx ∧ W.heap[Bx]? = some (.cells #[.int .i64 (x.1.2.state : Int), .int .i64 (x.1.2.done : Int), .int .u64 (x.1.2.last : Int)] 206 (0, 0)) ∧ a' = { tmps := #[.pointer (some ⟨sp, 0, none⟩), undef, .slice none 0 0, .pointer (some ⟨w.heap.size, 0, none⟩), .int .u64 (x.1.1 : Int), .pointer (some ⟨Bx, 0, none⟩), .pointer (some ⟨sp, 0, none⟩), .pointer (some ⟨sp, 0, none⟩), .pointer (some ⟨sp, 2, none⟩), .map (some bT), .func (.func 233) #[] #[.pointer (some ⟨w.heap.size + 1, 0, none⟩)], .int .u64 (x.1.1 : Int), .agg #[.int .i64 (x.1.2.state : Int), .int .i64 (x.1.2.done : Int), .int .u64 (x.1.2.last : Int)], undef, undef, undef, undef, undef, undef, undef, undef], defers := [] })
    (fun x a' _ X Y row hs hg hr => by
      obtain ⟨Bx, h1, h2, h3⟩ := hs
      exact ⟨Bx, h1, (hg.block Bx (Array.getElem?_eq_some_iff.1 h2).1 (fun e => by obtain ⟨_, o, ho, hc⟩ := hr Bx e.symm; rw [h2] at ho; cases ho; cases hc)).trans h2, h3⟩)
    ?assign ?body ?done ?stop
  case assign =>
    have hsem := @Oper.semAt_some
    rintro l pre x W K ⟨⟨v, hv, hrow, hnil⟩, hB1⟩ hK
    have HNL : Hid (v = .slice none 0 0 ↔ waitsS pre = []) := hnil
    clear hnil
    gi_wp2
    exact hK _ _ ((KeepsOthers.alloc _ _).from _) (KpB.alloc _ hB1.size hv.lt _) ⟨⟨v, hv.alloc _, hrow.alloc _, HNL.out⟩, hB1.alloc hB1.size _⟩ ⟨W.heap.size, hv.lt, World.alloc_heap_new W _, rfl⟩
  case body =>
    have hsem := @Oper.semAt_some
    rintro l pre x a' W hl2 _ ⟨⟨v, hv, hrow, hnil⟩, hB⟩ ⟨Bx, hBx, bX, rfl⟩ hlt
    have hc := hv.cell
    have x0 := cell_blk0 bX 0
    simp at x0
    have HNL : Hid (v = .slice none 0 0 ↔ waitsS pre = []) := hnil
    clear hnil
    have hwl := waitsS_len pre
    have h12 := HL.out.2
    by_cases h3 : x.1.2.state = 3
    · have HW : Hid (waitsS (pre ++ [x]) = waitsS pre ++ [x.1.1]) := waitsS_yes pre x h3
      rw [h3] at x0 bX
      rw [h3]
      clear h3
      gi_wp2_with (gi_at_builtin; refine wpListIn_append_at _ rfl _ _ 220 rfl w.heap.size 28 i0 _ 1 8 Tryz.underlying220 hi hz0 hz1 hz2 rfl (by decide) _ _ _ rfl (hrow.alloc _) ⟨W.heap.size, 0, none⟩ 1 1 [.int .u64 (x.1.1 : Int)] rfl rfl (cells_new _ #[.int .u64 (x.1.1 : Int)] _) (by intro u hu; simp at hu; subst hu; rfl) (by unfold maxLen; omega) (by omega) (by have := hB.size; simp; omega) ?_; intro v' w1 hown' hgrow hat; obtain ⟨g', cap', rfl⟩ := ownsRow_succ hown'; obtain ⟨hv1, hv2, hr2, hk2, hb2⟩ := hv.appended (by decide) hrow hB.size (Nat.le_refl _) hown' hgrow; have hc1 := hv1.cell; have hf1 := hv1.frozen; have HKP : Hid (KpB 28 206 w.heap.size w.heap.size W (w1.setCell ⟨w.heap.size, 0, none⟩ (.slice (some ⟨g', 0, none⟩) ((waitsS pre).length + 1) cap'))) := KpB.appended hv (by decide) (by decide) hgrow hat hb2 hv2; clear hat)
      exact ⟨hk2.from _, HKP.out, ⟨_, hv2, by rw [HW.out, u64s_snoc]; simpa using hr2, by rw [HW.out]; simp⟩, hB.trans hb2⟩
    · have HW : Hid (waitsS (pre ++ [x]) = waitsS pre) := waitsS_no pre x h3
      have i3 : ¬ (x.1.2.state : Int) = 3 := by omega
      gi_wp2
      exact ⟨KeepsFrom.refl _ _, KpB.refl _, ⟨v, hv, by rw [HW.out]; exact hrow, by rw [HW.out]; exact HNL.out⟩, hB⟩
  case done =>
    rintro D ys W hD hys ⟨⟨v, hv, hrow, hnil⟩, hB⟩ hK
    have hc := hv.cell
    have HNL : Hid (v = .slice none 0 0 ↔ waitsS ys = []) := hnil
    clear hnil
    obtain ⟨ss, p1, p2, p3⟩ := hys
    have e : waitsS ys = waits (atT L ss) := by unfold waitsS; rw [p3]
    have HE : Hid (waitsS ys = waits (atT L ss)) := e
    have HP : Hid (ss.Perm (L.map (·.1)) ∧ ss.Pairwise (· ≤ ·)) := ⟨p1, p2⟩
    clear e p1 p2 p3
    gi_wp2
    refine ⟨by simp, .inl ⟨_, _, rfl, run_takeDeferred hK, ?_⟩⟩
    exact ⟨_, results_tmp rfl _ _ _, v, ss, rfl, HP.out.1, HP.out.2, by rw [← HE.out]; exact ownsRow_putObj hrow _ hK rfl, by rw [← HE.out]; exact HNL.out, hB.trans (belowK_b (w := w) (Nat.le_refl _) W D _ _ (by omega) hK rfl rfl)⟩
  case stop =>
    rintro D c pre W _ _ h _
    exact h.elim
end Go.Proofs.YtejiankgafjppabGreatDoor
/- HOSTS OF A SHARD: Put, Delete, Get, Value, Waiting. -/
namespace Go.Proofs.YtejiankgafjppabGreatDoor
open Go.RowKit Go.Maps
open Sc

section
variable (B hp m n t : Nat) (seq : Int) (k : ByteArray) (s : AShard) (l : ALog) (d : ADisk) (w : World)
theorem SL.ops {w w' : World} {B sp gp bV bT bH m m' lp p bD bN n : Nat} {s s' : AShard} {l : ALog} {d : ADisk} (h : SL w B sp gp bV bT bH m lp p bD bN n s l d) (hin : ShIn w' sp gp bV bT bH m' s') (hf : Fr [bT, bH] w w') : SL w' B sp gp bV bT bH m' lp p bD bN n s' l d ∧ SFr sp bV bT bH lp p w w' :=
  h.turn hin hf (by intro k hk; simp at hk ⊢; rcases hk with e | e <;> simp [e])
set_option maxRecDepth 100000 in
set_option maxHeartbeats 2000000 in
theorem hPut_s (v : ByteArray) (h : HSt w B hp m n s l d) (hB : 2 ≤ B) (hmet : Met w) (ht : t < 18446744073709551616) (hn : m + 2 < maxLen) (hst : (s.txn t).state ≤ 3) (hdn : (s.txn t).done < 4611686018427387904) :
    Calls Tryz.prog 12 #[.pointer (some ⟨hp, 0, none⟩), .int .u64 (t : Int), .int .i64 seq, .string k, .string v] w fun e w' => e = .returned (.int .i64 ((s.operate t seq k ⟨1, v⟩).2 : Int)) ∧ HSt w' B hp (m + 2) n (s.operate t seq k ⟨1, v⟩).1 l d ∧ HFr B w w' := by
  obtain ⟨p, sp, gp, bV, bT, bH, lp, bD, bN, hh, hs, hb⟩ := h
  have hlg := hs.gp1
  have hpu := put_op sp gp bV bT bH m t seq k s w v hs.sh ht hn hst hdn
  obtain ⟨r, hr⟩ : ∃ r, r = s.operate t seq k ⟨1, v⟩ := ⟨_, rfl⟩
  rw [← hr] at hpu ⊢
  have c5 := blk_cell hh 5
  simp at c5
  have H0 : Hid (w.heap[hp]? = some (hostS p true (.pointer (some ⟨sp, 0, none⟩))) ∧ SL w B sp gp bV bT bH m lp p bD bN n s l d) := ⟨hh, hs⟩
  clear hh hs hr hst hdn
  go_enter Tryz.func12, Tryz.ntmps12
  go_wp2_with fail
  refine hpu.mono ?_
  clear hpu
  rintro e w1 ⟨rfl, hin1, hf1⟩
  obtain ⟨hs1, hx1⟩ := H0.out.2.ops hin1 hf1
  have hh1 := hx1.cells H0.out.2 H0.out.1 (by decide) (by decide) (by decide) (by decide) (by decide) (by decide)
  have hr1 := hx1.hfr H0.out.2 hb
  have hmet1 := hr1.met hB hmet
  have H1 : Hid (w1.heap[hp]? = some (hostS p true (.pointer (some ⟨sp, 0, none⟩))) ∧ SL w1 B sp gp bV bT bH (m + 2) lp p bD bN n r.1 l d ∧ HFr B w w1) := ⟨hh1, hs1, hr1⟩
  clear hin1 hf1 hs1 hx1 hh1 hr1 c5
  go_wp2_with fail
  refine (told_any r.2 w1 hmet1).mono ?_
  rintro e w2 ⟨rfl, hf2⟩
  obtain ⟨hs2, hx2⟩ := H1.out.2.1.new hf2
  have H2 : Hid (HSt w2 B hp (m + 2) n r.1 l d ∧ HFr B w w2) := ⟨⟨p, sp, gp, bV, bT, bH, lp, bD, bN, hx2.cells H1.out.2.1 H1.out.1 (by decide) (by decide) (by decide) (by decide) (by decide) (by decide), hs2, hb⟩, H1.out.2.2.trans (hx2.hfr H1.out.2.1 hb)⟩
  clear hs2 hx2 hf2
  go_wp2
  go_ret
  exact ⟨rfl, H2.out⟩
theorem HSt.new {w w' : World} {B hp m n : Nat} {s : AShard} {l : ALog} {d : ADisk} (h : HSt w B hp m n s l d) (hf : Fr [] w w') : HSt w' B hp m n s l d ∧ HFr B w w' := by
  obtain ⟨p, sp, gp, bV, bT, bH, lp, bD, bN, hh, hs, hb⟩ := h
  obtain ⟨hs2, hx2⟩ := hs.new hf
  exact ⟨⟨p, sp, gp, bV, bT, bH, lp, bD, bN, hx2.cells hs hh (by decide) (by decide) (by decide) (by decide) (by decide) (by decide), hs2, hb⟩, hx2.hfr hs hb⟩
set_option maxRecDepth 100000 in
set_option maxHeartbeats 2000000 in
theorem hValue_s (h : HSt w B hp m n s l d) (hk : k.size ≤ maxLen) :
    Calls Tryz.prog 34 #[.pointer (some ⟨hp, 0, none⟩), .string k] w fun e w' => e = .returned (.tuple #[.string ((alLook s.vals k).getD ByteArray.empty), .bool (alLook s.vals k).isSome]) ∧ HSt w' B hp m n s l d ∧ HFr B w w' := by
  have H0 := toHid h
  obtain ⟨p, sp, gp, bV, bT, bH, lp, bD, bN, hh, hs, hb⟩ := h
  have hpu := value_any sp gp bV bT bH m k s w hs.sh hk
  have c5 := blk_cell hh 5
  simp at c5
  clear hh hs
  go_enter Tryz.func34, Tryz.ntmps34
  go_wp2_with fail
  refine hpu.mono ?_
  clear hpu
  rintro e w1 ⟨rfl, q, hq⟩
  have hf1 : Fr [] w w1 := by rw [hq]; exact ⟨by first | rfl | simp, by first | rfl | simp, by first | rfl | simp, by first | exact Nat.le_refl _ | simp, fun _ _ _ => by first | rfl | simp⟩
  have H1 := toHid (H0.out.new hf1)
  clear hq hf1
  go_wp2
  go_ret2
  exact ⟨rfl, H1.out⟩
end
end Go.Proofs.YtejiankgafjppabGreatDoor
/- A SHARD AS THE LAWS USE IT: open, all durable, few entries: each call's contract. -/
namespace Go.Proofs.YtejiankgafjppabGreatDoor
open Go.RowKit Go.Maps
open Sc

/-- what Note says -/
theorem One.note {l : ALog} {d : ADisk} {rs : List Rec} (h : One l d rs) {kind : Nat} {s : ByteArray} (hs : s.size ≤ 255) : (l.note d kind s).2.2 = 0 ∧ (l.note d kind s).2.1.down = false := by
  have hnx := h.next
  have hw := h.well
  obtain ⟨o, ho⟩ : ∃ o : AOp, o = ⟨2, segName 1, ByteArray.empty, str (recBytes l.next kind (bytesOf s))⟩ := ⟨_, rfl⟩
  -- what the room gives
  obtain ⟨d1, hd1, w1, e1, p1⟩ : ∃ d1 : ADisk, l.room d = ({ l with segs := [1], filled := (encR rs).length, durable := l.durable }, d1, 0) ∧ d1.Well 1 ∧ d1.now = d.now ∧ d1.pending = [] ∧ d1.durable = d.durable := by
    rcases h.file with ⟨r0, sg, fi, _⟩ | ⟨_, sg, fi, _⟩
    · refine ⟨{ d with left := d.left - 1, full := d.full - 1 }, ?_, well_dec hw _ _ _, rfl, h.pen, rfl⟩
      unfold ALog.room
      have es : l.sync d = ({ l with durable := l.next }, { d with left := d.left - 1, full := d.full - 1, durable := d.pending.foldl doOp d.durable, pending := [] }, 0) := by
        unfold ALog.sync; rw [syncE hw (by omega)]; rfl
      rw [if_neg (by omega), es]
      simp only [if_true]
      rw [h.pen, sg, hnx, h.durN, hnx, r0]
      have : d.pending = [] := h.pen
      obtain ⟨a, b, c, e, f, g⟩ := d
      simp at this
      subst this
      rfl
    · refine ⟨d, ?_, hw.mono (by omega), rfl, h.pen, rfl⟩
      unfold ALog.room
      rw [if_pos (by rw [fi]; exact h.few)]
      obtain ⟨a, b, c, e, f, g⟩ := l
      simp at sg fi
      subst sg fi
      rfl
  obtain ⟨d2, hd2⟩ : ∃ d2 : ADisk, d2 = { d1 with left := d1.left - 1, full := d1.full - 1, now := doOp d1.now o, pending := d1.pending ++ [o] } := ⟨_, rfl⟩
  have w2 : d2.Well 2 := by rw [hd2]; exact well_dec w1 _ _ _
  have hput : l.put d (recBytes l.next kind (bytesOf s)) = ({ l with segs := [1], filled := (encR rs).length, durable := l.durable }, d2, 0) := by
    unfold ALog.put
    rw [hd1]
    simp only [if_true, List.getLastD_cons, List.getLastD_nil]
    rw [tellE w1 (by omega) rfl]
    rw [hd2, ho]
  have hwr : l.wr d (l.put d (recBytes l.next kind (bytesOf s))) = ({ l with segs := [1], filled := (encR rs).length, durable := l.durable, failed := 0 }, d2, 0) := by
    unfold ALog.wr
    rw [if_pos h.failed, hput]
  have hap : l.note d kind s = ({ l with segs := [1], filled := (encR rs).length + (15 + s.size), durable := l.durable, failed := 0, recs := rs ++ [⟨1 + rs.length, kind, bytesOf s⟩], next := l.next + 1 }, d2, 0) := by
    unfold ALog.note ALog.append
    rw [if_neg (by omega), hwr]
    simp only [if_true, h.recs, hnx]
  rw [hap]
  exact ⟨rfl, w2.up⟩
/-- an open shard, all durable -/
def Lv (w : World) (B hp M : Nat) (s : AShard) (rs : List Rec) : Prop := ∃ m n l d, m ≤ M ∧ 10 ≤ n ∧ n ≤ 10 + M ∧ HSt w B hp m n s l d ∧ One l d rs
/-- an open shard -/
def Lw (w : World) (B hp M : Nat) (s : AShard) : Prop := ∃ m n l d, m ≤ M ∧ n ≤ 10 + M ∧ HSt w B hp m n s l d
/-- one that is not open -/
def Lc (w : World) (B hp M : Nat) (rs : List Rec) : Prop := ∃ n d, 10 ≤ n ∧ n ≤ 10 + M ∧ HCl w B hp n d ∧ OneD d rs
theorem Lv.w {w : World} {B hp M : Nat} {s : AShard} {rs : List Rec} (h : Lv w B hp M s rs) : Lw w B hp M s := by obtain ⟨m, n, l, d, h1, h2, h3, h4, _⟩ := h; exact ⟨m, n, l, d, h1, h3, h4⟩
theorem Lv.few {w : World} {B hp M : Nat} {s : AShard} {rs : List Rec} (h : Lv w B hp M s rs) : (encR rs).length < 600 ∧ FineR rs := by obtain ⟨m, n, l, d, h1, h2, h3, h4, h5⟩ := h; exact ⟨h5.few, h5.fine⟩
theorem be_byt0 (k n : Nat) : Byt (be k n) := be_lt k n
abbrev wellV : Value := fallV (-1) (-1) 0 0
section
variable (B hp M t : Nat) (k : ByteArray) (s : AShard) (rs : List Rec) (w : World)
theorem lvOpen0 (hp p bD bN B : Nat) (w : World) (hh : w.heap[hp]? = some (hostS p false (.pointer none))) (h : DiskIn w B p bD bN (.slice none 0 0) ⟨fun _ => none, fun _ => none, [], -1, -1, false⟩ 10 0 0) (hB : 2 ≤ B) (hhp : B ≤ hp) (hmet : Met w) :
    Calls Tryz.prog 18 #[.pointer (some ⟨hp, 0, none⟩), wellV] w fun e w' => e = .returned (.int .i64 0) ∧ Lv w' B hp 0 sh0 [] ∧ HFr B w w' := by
  have hw : ADisk.Well ⟨fun _ => none, fun _ => none, [], -1, -1, false⟩ 0 := ⟨rfl, by simp, by simp⟩
  obtain ⟨o1, o2, o3, o4, o5⟩ := One.first (d := ⟨fun _ => none, fun _ => none, [], -1, -1, false⟩) (fun _ => rfl) rfl rfl hw
  refine (hOpen_s B hp p bD bN 10 0 0 _ _ (-1) (-1) 0 0 _ ((log0 1).opens ⟨fun _ => none, fun _ => none, [], -1, -1, false⟩) w hh h hB hhp hmet (fun W hW _ => shPre_none hW (fun _ => rfl) rfl rfl hw) o2).mono ?_
  rintro e w' ⟨rfl, s', hr, hs, hf⟩
  subst hr
  rw [o3] at hs
  exact ⟨rfl, ⟨_, 10, _, _, Nat.le_refl _, by omega, by omega, hs, o5⟩, hf⟩
theorem lvPut (v : ByteArray) (h : Lv w B hp M s rs) (hB : 2 ≤ B) (hmet : Met w) (ht : t < 18446744073709551616) (hM : M ≤ 1000) (hst : (s.txn t).state ≤ 3) (hdn : (s.txn t).done < 4611686018427387904) (seq : Int) :
    Calls Tryz.prog 12 #[.pointer (some ⟨hp, 0, none⟩), .int .u64 (t : Int), .int .i64 seq, .string k, .string v] w fun e w' => e = .returned (.int .i64 ((s.operate t seq k ⟨1, v⟩).2 : Int)) ∧ Lv w' B hp (M + 3) (s.operate t seq k ⟨1, v⟩).1 rs ∧ HFr B w w' := by
  obtain ⟨m, n, l, d, h1, h2, h3, h4, h5⟩ := h
  refine (hPut_s B hp m n t seq k s l d w v h4 hB hmet ht (by unfold maxLen; omega) hst hdn).mono ?_
  rintro e w' ⟨rfl, hs, hf⟩
  exact ⟨rfl, ⟨_, n, l, d, by omega, h2, by omega, hs, h5⟩, hf⟩
theorem lvValue (h : Lv w B hp M s rs) (hk : k.size ≤ maxLen) :
    Calls Tryz.prog 34 #[.pointer (some ⟨hp, 0, none⟩), .string k] w fun e w' => e = .returned (.tuple #[.string ((alLook s.vals k).getD ByteArray.empty), .bool (alLook s.vals k).isSome]) ∧ Lv w' B hp M s rs ∧ HFr B w w' := by
  obtain ⟨m, n, l, d, h1, h2, h3, h4, h5⟩ := h
  refine (hValue_s B hp m n k s l d w h4 hk).mono ?_
  rintro e w' ⟨rfl, hs, hf⟩
  exact ⟨rfl, ⟨m, n, l, d, h1, h2, h3, hs, h5⟩, hf⟩
/-- Prepare of one that writes a key -/
theorem lvPrepW (g : AGrip) (h : Lv w B hp M s rs) (hB : 2 ≤ B) (hmet : Met w) (hpow : Pows w) (ht : t < 18446744073709551616) (h0 : t ≠ 0) (hM : M ≤ 1000) (hst : (s.txn t).state = 1) (hc : s.count t ≤ 16) (hv : s.Small) (hone : ∀ L : List (ByteArray × AGrip), Once1 L → (∀ q, alLook L q = alLook s.holds (t, q)) → L = [(k, g)]) (hwr : g.writes = true)
    (hby : Byt (be 8 t ++ holdsB [(k, g)])) (hlen : (be 8 t ++ holdsB [(k, g)]).length ≤ 255) (h6 : (encR (rs ++ [⟨1 + rs.length, 1, be 8 t ++ holdsB [(k, g)]⟩])).length < 600) (hf : FineR (rs ++ [⟨1 + rs.length, 1, be 8 t ++ holdsB [(k, g)]⟩])) :
    Calls Tryz.prog 13 #[.pointer (some ⟨hp, 0, none⟩), .int .u64 (t : Int), wellV] w fun e w' => e = .returned (.tuple #[.int .i64 2, .int .i64 0]) ∧ Lv w' B hp (M + 3) { s with txns := alPut s.txns t ⟨3, 0, 0⟩ } (rs ++ [⟨1 + rs.length, 1, be 8 t ++ holdsB [(k, g)]⟩]) ∧ HFr B w w' := by
  obtain ⟨m, n, l, d, h1, h2, h3, ⟨p, sp, gp, bV, bT, bH, lp, bD, bN, hh, hs, hb⟩, h5⟩ := h
  have hso : sortG [(k, g)] = [(k, g)] := by
    unfold sortG sortK
    simp [alLook]
  have hk5 := h5.knob
  have hke := hk5.keep (kind := 1) (s := str (be 8 t ++ holdsB [(k, g)])) (by rw [str_size]; exact hlen) (by rw [bytesOf_str hby]; exact hf) (by rw [bytesOf_str hby]; exact h6)
  rw [bytesOf_str hby] at hke
  obtain ⟨k1, k2, k3⟩ := hke
  refine (hPrep_s B hp sp gp bV bT bH m lp p bD bN n t s l d (-1) (-1) 0 0 w (fun v x s' l' d' m' n' => v = 2 ∧ x = 0 ∧ s' = { s with txns := alPut s.txns t ⟨3, 0, 0⟩ } ∧ One l' (d'.knob (-1) (-1)) (rs ++ [⟨1 + rs.length, 1, be 8 t ++ holdsB [(k, g)]⟩]) ∧ m' = m + 1 ∧ n' = n + 3) hh hs hb hB hmet (fun w1 hs1 hf1 => ?_)).mono ?_
  · refine (prepare_any B sp gp bV bT bH m lp p bD bN n t s l (d.knob (-1) (-1)) w1 hs1 ht (by omega) hB h5.sg (hf1.pows hB hpow) (by omega) hc hv).mono ?_
    rintro e w2 ⟨L, hL1, hL2, rfl, hs2, hx2⟩
    have hL := hone L hL1 hL2
    subst hL
    have hpr : s.prepare l (d.knob (-1) (-1)) t [(k, g)] = ({ s with txns := alPut s.txns t ⟨3, 0, 0⟩ }, (l.keep (d.knob (-1) (-1)) 1 (str (be 8 t ++ holdsB [(k, g)]))).1, (l.keep (d.knob (-1) (-1)) 1 (str (be 8 t ++ holdsB [(k, g)]))).2.1, 2, 0) := by
      unfold AShard.prepare AShard.prep
      rw [if_neg h0, if_neg (by omega), if_pos hst, if_pos (by simp [anyW, hwr]), hso, if_pos k1]
    rw [hpr] at hs2 ⊢
    exact ⟨2, 0, _, _, _, _, _, ⟨rfl, rfl, rfl, k3, rfl, rfl⟩, rfl, hs2, k2, hx2⟩
  · rintro e w' ⟨v, x, s', l', d', m', n', ⟨rfl, rfl, rfl, hO, rfl, rfl⟩, rfl, hS, hF⟩
    exact ⟨rfl, ⟨_, _, _, _, by omega, by omega, by omega, hS, hO⟩, hF⟩
/-- CommitHere of one that is prepared -/
theorem lvComm (h : Lv w B hp M s rs) (hB : 2 ≤ B) (hmet : Met w) (hpow : Pows w) (ht : t < 18446744073709551616) (h0 : t ≠ 0) (hM : M ≤ 1000) (hst : (s.txn t).state = 3) (hc : s.count t ≤ 16) (hv : ∀ p ∈ s.holds, p.2.val.size ≤ maxLen) (h6 : (encR (rs ++ [⟨1 + rs.length, 2, be 8 t⟩])).length < 600) (hf : FineR (rs ++ [⟨1 + rs.length, 2, be 8 t⟩])) :
    Calls Tryz.prog 14 #[.pointer (some ⟨hp, 0, none⟩), .int .u64 (t : Int), wellV] w fun e w' => e = .returned (.int .i64 0) ∧ (∃ s', Committed s s' t ∧ Lv w' B hp (M + 20) s' (rs ++ [⟨1 + rs.length, 2, be 8 t⟩])) ∧ HFr B w w' := by
  obtain ⟨m, n, l, d, h1, h2, h3, ⟨p, sp, gp, bV, bT, bH, lp, bD, bN, hh, hs, hb⟩, h5⟩ := h
  have hby : Byt (be 8 t) := be_byt0 8 t
  have hk5 := h5.knob
  have hke := hk5.keep (kind := 2) (s := str (be 8 t)) (by rw [str_size, be_len]; decide) (by rw [bytesOf_str hby]; exact hf) (by rw [bytesOf_str hby]; exact h6)
  rw [bytesOf_str hby] at hke
  obtain ⟨k1, k2, k3⟩ := hke
  refine (hComm_s B hp sp gp bV bT bH m lp p bD bN n t s l d (-1) (-1) 0 0 w (fun v x s' l' d' m' n' => x = 0 ∧ Committed s s' t ∧ One l' (d'.knob (-1) (-1)) (rs ++ [⟨1 + rs.length, 2, be 8 t⟩]) ∧ m' = m + 16 ∧ n' = n + 3) hh hs hb hB hmet (fun w1 hs1 hf1 => ?_)).mono ?_
  · refine (commit_yes B sp gp bV bT bH m lp p bD bN n t 16 s l (d.knob (-1) (-1)) w1 hs1 ht h0 hst (by omega) hB h5.sg (hf1.pows hB hpow) (by unfold maxLen; omega) hc hv).mono ?_
    rintro e w2 ⟨rfl, ⟨s', hs2, hcm⟩, hx2⟩
    rw [k1] at hcm ⊢
    rw [if_pos rfl] at hcm
    exact ⟨0, 0, _, _, _, _, _, ⟨rfl, hcm, k3, rfl, rfl⟩, rfl, hs2, k2, hx2⟩
  · rintro e w' ⟨v, x, s', l', d', m', n', ⟨rfl, hcm, hO, rfl, rfl⟩, rfl, hS, hF⟩
    exact ⟨rfl, ⟨s', hcm, _, _, _, _, by omega, by omega, by omega, hS, hO⟩, hF⟩
end
end Go.Proofs.YtejiankgafjppabGreatDoor
/- THE STATES THAT THE LAWS GO THROUGH. -/
namespace Go.Proofs.YtejiankgafjppabGreatDoor
open Go.RowKit Go.Maps
open Sc

abbrev kk : ByteArray := ⟨#[107]⟩
abbrev vOld : ByteArray := ⟨#[111, 108, 100]⟩
abbrev vNew : ByteArray := ⟨#[110, 101, 119]⟩
/-- how an operation of the laws grips the key -/
def gW (a : Nat) : AGrip := if a = 0 then ⟨0, ByteArray.empty⟩ else if a = 1 then ⟨1, vNew⟩ else ⟨2, ByteArray.empty⟩
section
variable (vs : List (ByteArray × ByteArray))
theorem opFirst (t a : Nat) (ht : t = 2 ∨ t = 4) (ha : a < 3) : AShard.operate ⟨vs, [], [], 0⟩ t 0 kk (gW a) = (⟨vs, [(t, ⟨1, 1, 0⟩)], [((t, kk), gW a)], 0⟩, 0) := by
  obtain rfl | rfl | rfl : a = 0 ∨ a = 1 ∨ a = 2 := by omega
  all_goals rcases ht with rfl | rfl <;> rfl
theorem opOne : AShard.operate ⟨vs, [], [], 0⟩ 1 0 kk ⟨1, vOld⟩ = (⟨vs, [(1, ⟨1, 1, 0⟩)], [((1, kk), ⟨1, vOld⟩)], 0⟩, 0) := by rfl
theorem forgetT (t : Nat) (x : ATxn) (g : AGrip) : AShard.forget ⟨vs, [(t, x)], [((t, kk), g)], 0⟩ t = ⟨vs, [], [], 0⟩ := by simp [AShard.forget, AShard.release, alDel, aliveH, AShard.txn, alLook]
theorem one_list {k : ByteArray} {g : AGrip} {t : Nat} {L : List (ByteArray × AGrip)} (h1 : Once1 L) (h2 : ∀ q, alLook L q = alLook [((t, k), g)] (t, q)) : L = [(k, g)] := by
  have key : ∀ p ∈ L, p = (k, g) := fun p hp => by
    have := alLook_of h1 (k := p.1) (v := p.2) hp
    rw [h2] at this
    simp [alLook, List.find?] at this
    by_cases e : k = p.1
    · simp [e] at this; exact Prod.ext e.symm this.symm
    · simp [e] at this
  have hne : L ≠ [] := by
    intro e
    have := h2 k
    rw [e] at this
    simp [alLook] at this
  match L, h1, key, hne with
  | [], _, _, hne => exact absurd rfl hne
  | [x], _, key, _ => rw [key x (by simp)]
  | x :: y :: r, h1, key, _ =>
    have e1 := key x (by simp)
    have e2 := key y (by simp)
    have := (List.pairwise_cons.1 h1).1 y (by simp)
    rw [e1, e2] at this
    exact absurd rfl this
/-- the entries that the laws note -/
def eP1 : Rec := ⟨1, 1, be 8 1 ++ holdsB [(kk, ⟨1, vOld⟩)]⟩
def eC1 : Rec := ⟨2, 2, be 8 1⟩
def eP2 (a : Nat) : Rec := ⟨3, 1, be 8 2 ++ holdsB [(kk, gW a)]⟩
def eC2 : Rec := ⟨4, 2, be 8 2⟩
def fullE (a : Nat) : List Rec := [eP1, eC1, eP2 a, eC2]
theorem byt_app {a b : List Nat} (ha : Byt a) (hb : Byt b) : Byt (a ++ b) := fun x hx => by rcases List.mem_append.1 hx with h | h; exact ha x h; exact hb x h
theorem bytG (a : Nat) (ha : a < 3) : Byt (holdsB [(kk, gW a)]) ∧ (holdsB [(kk, gW a)]).length ≤ 10 := by
  obtain rfl | rfl | rfl : a = 0 ∨ a = 1 ∨ a = 2 := by omega
  all_goals exact ⟨by unfold Byt; decide, by decide⟩
theorem bytO : Byt (holdsB [(kk, ⟨1, vOld⟩)]) ∧ (holdsB [(kk, ⟨1, vOld⟩)]).length ≤ 10 := ⟨by unfold Byt; decide, by decide⟩
theorem fullFine (a : Nat) (ha : a < 3) : FineR (fullE a) := by
  intro k r hk
  have hl : k < 4 := by have := (List.getElem?_eq_some_iff.1 hk).1; simpa [fullE] using this
  have b1 := bytO
  have b2 := bytG a ha
  obtain rfl | rfl | rfl | rfl : k = 0 ∨ k = 1 ∨ k = 2 ∨ k = 3 := by omega
  all_goals simp [fullE] at hk; subst hk
  · exact ⟨rfl, by decide, by simp only [eP1, List.length_append, be_len]; omega, byt_app (be_byt0 _ _) b1.1, by decide⟩
  · exact ⟨rfl, by decide, by simp only [eC1, be_len]; omega, be_byt0 _ _, by decide⟩
  · exact ⟨rfl, by show 1 < 256; decide, by simp only [eP2, List.length_append, be_len]; omega, byt_app (be_byt0 _ _) b2.1, by show 3 < 18446744073709551616; decide⟩
  · exact ⟨rfl, by decide, by simp only [eC2, be_len]; omega, be_byt0 _ _, by decide⟩
theorem fullFew (a : Nat) (ha : a < 3) : (encR (fullE a)).length < 600 := by
  have b1 := bytO.2
  have b2 := (bytG a ha).2
  rw [encR_len]
  simp only [fullE, bytesR0, eP1, eC1, eP2, eC2, List.length_append, be_len]
  omega
theorem pre_fine {rs ss : List Rec} (h : rs <+: ss) (hf : FineR ss) : FineR rs := by
  obtain ⟨r, rfl⟩ := h
  intro k x hk
  exact hf k x (by rw [List.getElem?_append_left (List.getElem?_eq_some_iff.1 hk).1]; exact hk)
theorem pre_few {rs ss : List Rec} (h : rs <+: ss) (hf : (encR ss).length < 600) : (encR rs).length < 600 := by
  obtain ⟨r, rfl⟩ := h
  simp [encR] at hf ⊢
  omega
/-- what stands behind so many of the entries -/
def Jr (a : Nat) (pre : List Rec) (s : AShard) : Prop := match pre.length with
  | 0 => s = sh0
  | 1 => s = ⟨[], [(1, ⟨3, 0, 0⟩)], [((1, kk), ⟨1, vOld⟩)], 0⟩
  | 2 => ∃ vs, s = ⟨vs, [], [], 0⟩ ∧ alLook vs kk = some vOld
  | 3 => ∃ vs, s = ⟨vs, [(2, ⟨3, 0, 0⟩)], [((2, kk), gW a)], 0⟩ ∧ alLook vs kk = some vOld
  | _ => ∃ vs, s = ⟨vs, [], [], 0⟩ ∧ alLook vs kk = gripped (some (gW a)) (some vOld)
end
end Go.Proofs.YtejiankgafjppabGreatDoor
/- THE LAWS' HELPERS: pick, does, shard, Well. -/
namespace Go.Proofs.YtejiankgafjppabGreatDoor
open Go.RowKit Go.Maps
open Sc

/-- what pick answers -/
def pk (c : Int) (n : Nat) : Nat := ((if c < 0 then -(c + 1) else c) % (n : Int)).toNat
theorem ret_int' {a b : Int} (h : a = b) : Ending.returned (.int .i64 a) = .returned (.int .i64 b) := by rw [h]
theorem pk_lt (c : Int) (n : Nat) (hn : 0 < n) : pk c n < n := by
  unfold pk
  have h1 := Int.emod_nonneg (if c < 0 then -(c + 1) else c) (show (n : Int) ≠ 0 by omega)
  have h2 := Int.emod_lt_of_pos (if c < 0 then -(c + 1) else c) (show (0 : Int) < (n : Int) by omega)
  omega
set_option maxHeartbeats 400000 in
theorem pick_fn (c : Int) (n : Nat) (w : World) (hc1 : -9223372036854775808 ≤ c) (hc2 : c ≤ 9223372036854775807) (hn : 0 < n) (hn2 : n ≤ 1099511627776) :
    Calls Tryz.prog 11 #[.int .i64 c, .int .i64 (n : Int)] w fun e w' => e = .returned (.int .i64 (pk c n : Int)) ∧ w' = w := by
  have hn0 : ¬ (n : Int) = 0 := by omega
  by_cases h : c < 0
  · go_enter Tryz.func11, Tryz.ntmps11
    go_wp2
    go_ret
    have e : -(c + 1).tmod (n : Int) = (-(c + 1)) % (n : Int) := by
      rw [← Int.neg_tmod, Int.tmod_eq_emod_of_nonneg (by omega)]
    have h1 := Int.emod_nonneg (-(c + 1)) hn0
    refine ⟨ret_int' ?_, rfl⟩
    unfold pk
    rw [e, if_pos h]; omega
  · go_enter Tryz.func11, Tryz.ntmps11
    go_wp2
    go_ret
    have h1 := Int.emod_nonneg c hn0
    refine ⟨ret_int' ?_, rfl⟩
    unfold pk
    rw [if_neg (by omega)]; omega
section
variable (B hp M t : Nat) (s : AShard) (rs : List Rec) (w : World)
end
set_option maxHeartbeats 1000000 in
theorem well_fn (w : World) : Calls Tryz.prog 10 #[] w fun e w' => e = .returned wellV ∧ Fr [] w w' := by
  go_enter Tryz.func10, Tryz.ntmps10
  go_wp2
  exact bodyPost_ret (v := wellV) (by simp [results, Tryz.results10, go_sem]) rfl ⟨rfl, (Fr.refl [] w).alloc _⟩
theorem fall_cells {w : World} {q : Nat} (h : w.heap[q]? = some (fallO (-1) (-1) 0 0)) : w.cell? ⟨q, 0, none⟩ = some (.int .i64 (-1)) ∧ w.cell? ⟨q, 1, none⟩ = some (.int .i64 (-1)) ∧ w.cell? ⟨q, 2, none⟩ = some (.int .i64 0) ∧ w.cell? ⟨q, 3, none⟩ = some (.int .i64 0) := by
  have x0 := blk_cell h 0
  have x1 := blk_cell h 1
  have x2 := blk_cell h 2
  have x3 := blk_cell h 3
  simp at x0 x1 x2 x3
  exact ⟨x0, x1, x2, x3⟩
theorem Lv.new {w w' : World} {B hp M : Nat} {s : AShard} {rs : List Rec} (h : Lv w B hp M s rs) (hf : Fr [] w w') : Lv w' B hp M s rs ∧ HFr B w w' := by
  obtain ⟨m, n, l, d, h1, h2, h3, h4, h5⟩ := h
  obtain ⟨a, b⟩ := h4.new hf
  exact ⟨⟨m, n, l, d, h1, h2, h3, a, h5⟩, b⟩
theorem HFr.ofBelow {w w' : World} (h : Below w.heap.size w w') : HFr w.heap.size w w' := ⟨h, fun k _ _ _ _ hk => (h.block k (Array.getElem?_eq_some_iff.1 hk).1).trans hk⟩
theorem small1 (vs : List (ByteArray × ByteArray)) (T : List (Nat × ATxn)) (t : Nat) (g : AGrip) (hg : g.val.size ≤ 32 ∧ g.way < 256) : AShard.Small ⟨vs, T, [((t, kk), g)], 0⟩ := by
  intro p hp
  simp at hp
  subst hp
  exact show SmallH (kk, g) from ⟨show kk.size ≤ 16 by decide, hg.1, hg.2⟩
end Go.Proofs.YtejiankgafjppabGreatDoor
/- RANGING OVER A FUNCTION WHOSE WALK IS KNOWN: these alone stay. (From LawR.) -/
namespace Go.Proofs.YtejiankgafjppabGreatDoor
open Go.RowKit Go.Shelf
open Sc

/-- the walk of a function: it goes through rs -/
def SeqQ {α : Type} (F : Fence) (n : Nat) (P : Program) (gf : Nat) (lb : Array Value) (encs : α → Array Value) (rs : List α) (S : List Nat) (l : Nat) (W : World) : Prop :=
  ∀ J : List α → World → Prop,
    (∀ pre x W1, J pre W1 → W.heap.size ≤ W1.heap.size → pre ++ [x] <+: rs → YieldAt F (n - 1) P l (encs x) W1 fun e W' => e = .returned (.bool true) ∧ J (pre ++ [x]) W' ∧ KpS S W1 W') →
    J [] W → CallsIn F n P gf (#[.func (.yield l) #[] #[]] ++ lb) W fun e W' => (∃ v, e = .returned v) ∧ J rs W'
section
variable {F : Fence} {n : Nat} {P : Program}
end
end Go.Proofs.YtejiankgafjppabGreatDoor
