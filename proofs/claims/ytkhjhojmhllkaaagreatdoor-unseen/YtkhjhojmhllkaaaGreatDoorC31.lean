import Derived.Test.YtkhjhojmhllkaaaGreatDoorC30
import Derived.Test.YtkhjhojmhllkaaaGreatDoorC21
import Derived.Test.YtkhjhojmhllkaaaGreatDoorC16
import Derived.Test.YtkhjhojmhllkaaaGreatDoorC19
import Derived.Sort.MapsRangeIn
import Derived.RangeFuncSeq
import Derived.Test.YtkhjhojmhllkaaaGreatDoorC20
import Derived.Test.YtkhjhojmhllkaaaGreatDoorC18
import Derived.RangeFuncKeeps
import Derived.Shelf.Abstract
import Derived.Shelf.AbstractIn
import Derived.WalkKit
import Derived.OwnWalkIn
import Derived.TacticsInMore
import Derived.LoopNIn
import Derived.LoopIn
import Derived.Test.YtkhjhojmhllkaaaGreatDoorC14
import Derived.RangeFuncBound
import Derived.RangeFuncNested
import Derived.RangeFuncBox
import Derived.RangeFuncCalls
import Derived.RangeFuncLeaves
import Derived.Shelf.RegionOpen
import Derived.Maps.AppendAt
import Derived.Test.YtkhjhojmhllkaaaGreatDoorC22
/- RECOVERY: readOn, read, of a log of one segment. -/
namespace Go.Proofs.YtkhjhojmhllkaaaGreatDoor
open Go.RowKit Go.Maps
open Sc

/-- a log that was read -/
def logR (rs : List Rec) (nx : Nat) : ALog := ⟨[1], (encR rs).length, rs, nx, 0, 0⟩
theorem recsV_one (rs : List Rec) : ∀ u ∈ recsV rs, u.oneCell' = true := by
  intro u hu
  obtain ⟨r, _, hr⟩ := List.mem_flatMap.1 hu
  simp [recCells] at hr
  rcases hr with rfl | rfl | rfl <;> rfl
set_option maxRecDepth 100000 in
set_option maxHeartbeats 4000000 in
theorem readOn_one (B lp p bD bN n nD nN : Nat) (pv : Value) (d : ADisk) (rs : List Rec) (w : World) (h : LogIn w B lp p bD bN pv (.slice none 0 0) (.slice none 0 0) (log0 1) d n nD nN) (hdn : d.down = false) (hrs : FineR rs) (hne : rs ≠ []) (hnow : d.now (segName 1) = some (str (encR rs))) (hpow : Pows w) (hlen : rs.length ≤ n) (hn1 : 1 ≤ n) (hby : (encR rs).length ≤ 4096) :
    Calls Tryz.prog 176 #[.pointer (some ⟨lp, 0, none⟩), .int .u64 1] w fun e w' => e = .returned (.tuple #[.bool true, .nilIface]) ∧ (∃ sv rv, LogIn w' B lp p bD bN pv sv rv (logR rs (1 + rs.length)) d n nD nN) ∧ OFr lp p w w' := by
  have hn := h.disk.hn
  have hBw := h.disk.base.2.2.2
  have c0 := blk_cell h.blk 0
  have c4 := blk_cell h.blk 4
  simp [log0] at c0 c4
  have hlpw : lp < w.heap.size := (Array.getElem?_eq_some_iff.1 h.blk).1
  have hS := readSeg B p bD bN n nD nN pv d rs w h.disk hdn hrs hne hnow hpow (by omega) hby
  have HI : Hid (LogIn w B lp p bD bN pv (.slice none 0 0) (.slice none 0 0) (log0 1) d n nD nN) := h
  obtain ⟨i0, hi, hz0, hz1, hz2⟩ := info_parts Tryz.infoU64
  obtain ⟨j0, hj, ha0, ha1, ha2⟩ := info_parts Tryz.infoRec
  have hrp : 0 < rs.length := List.length_pos_iff.2 hne
  clear h hrs hne hnow
  go_enter Tryz.func176, Tryz.ntmps176
  go_wp2_with fail
  refine hS.mono ?_
  clear hS
  rintro e w1 ⟨v, rfl, hrow, hb1⟩
  obtain ⟨g1, k1, rfl⟩ := own_pos hrow hrp
  have hf1 : Fr [] w w1 := Fr.of_below hb1 []
  have hl1 := HI.out.new hf1
  have ho1 := HI.out.newO hf1
  have H1 : Hid (LogIn w1 B lp p bD bN pv (.slice none 0 0) (.slice none 0 0) (log0 1) d n nD nN ∧ OFr lp p w w1 ∧ w1.ownsRow w.heap.size 103 3 (.slice (some ⟨g1, 0, none⟩) rs.length k1) rs.length (recsV rs)) := ⟨hl1, ho1, hrow⟩
  have d1 := blk_cell hl1.blk 1
  have d3 := blk_cell hl1.blk 3
  have d4 := blk_cell hl1.blk 4
  have d2 := blk_cell hl1.blk 2
  have e1 := blk_free hl1.blk 1
  have e3 := blk_free hl1.blk 3
  have e4 := blk_free hl1.blk 4
  have e2 := blk_free hl1.blk 2
  simp [log0] at d1 d2 d3 d4
  have hw1 := hb1.size
  have hg1 := hrow.lt g1 rfl
  have hrl : ¬ ((rs.length : Int) = 0) := by omega
  obtain ⟨m, hm0⟩ : ∃ m, m = rs.length := ⟨_, rfl⟩
  obtain ⟨eb, heb⟩ : ∃ eb, eb = (encR rs).length := ⟨_, rfl⟩
  have HME : Hid (m = rs.length ∧ eb = (encR rs).length) := ⟨hm0, heb⟩
  rw [← hm0] at H1 hrp hrl hlen ⊢
  rw [← heb] at hby ⊢
  clear hrow hb1 hf1 hl1 ho1 c0 c4 hm0 heb
  have lp1 : lp < w1.heap.size := by omega
  have lp2 : ¬ lp = w1.heap.size := by omega
  have lp3 : ¬ w1.heap.size = lp := by omega
  have HC : Hid (∀ (j : Nat) (u : Value), (recsV rs)[j]? = some u → w1.cell? ⟨g1, j, none⟩ = some u) := fun j u hj => by
    have := H1.out.2.2.cells (g := g1) rfl j u hj
    simpa [Addr.add_lit] using this
  have hglp : ¬ g1 = lp := by omega
  go_wp2_with (first
    | (at_builtin; refine wpList_append_own _ rfl _ _ 44 rfl w1.heap.size 33 i0 _ 1 8 Tryz.underlying44 hi hz0 hz1 hz2 rfl (by decide) _ 0 [] rfl (World.ownsRow_nil _ _ _ _) ⟨w1.heap.size, 0, none⟩ 1 1 [.int .u64 1] rfl rfl (cells_new _ #[.int .u64 1] _) (by intro u hu; simp at hu; subst hu; rfl) (by unfold maxLen; omega) (by omega) (by simp) ?_; intro v2 w2 hown2 hgrow2 _; obtain ⟨gs, cs, rfl⟩ := own_pos hown2 (by omega); have hb2 : Below w1.heap.size w1 w2 := ((Below.refl _ w1).alloc (Nat.le_refl _) _).grown hgrow2 (by simp) (fun j hj => by cases hj); have hl2 := H1.out.1.new (Fr.of_below hb2 []); have q1 := blk_cell hl2.blk 1; have q2 := blk_cell hl2.blk 2; have q3 := blk_cell hl2.blk 3; have q4 := blk_cell hl2.blk 4; have p1 := blk_free hl2.blk 1; have p2 := blk_free hl2.blk 2; have p3 := blk_free hl2.blk 3; have p4 := blk_free hl2.blk 4; simp [log0] at q1 q2 q3 q4; have H2 : Hid (LogIn w2 B lp p bD bN pv (.slice none 0 0) (.slice none 0 0) (log0 1) d n nD nN ∧ Below w1.heap.size w1 w2 ∧ w2.ownsRow w1.heap.size 33 1 (.slice (some ⟨gs, 0, none⟩) (0 + 1) cs) (0 + 1) ([] ++ [.int .u64 1])) := ⟨hl2, hb2, hown2⟩; have hw2 := hb2.size; clear d1 d2 d3 d4 e1 e2 e3 e4 hown2 hgrow2 hb2 hl2)
    | (at_builtin; refine wpList_append_own _ rfl _ _ 50 rfl (w2.heap.size) 103 j0 _ 3 32 Tryz.underlying50 hj ha0 ha1 ha2 rfl (by decide) _ 0 [] rfl (World.ownsRow_nil _ _ _ _) ⟨g1, 0, none⟩ m k1 (recsV rs) rfl (by rw [recsV_len, HME.out.1]) (fun j u hj => by rw [show ((⟨g1, 0, none⟩ : Addr).add j) = ⟨g1, j, none⟩ from by simp [Addr.add]; exact fun h => h.symm]; exact (World.cell?_of_block (a := ⟨g1, j, none⟩) ((Below.heap_setCell _ _ _ g1 (fun e => hglp (by simpa using e))).trans (H2.out.2.1.block g1 hg1.2))).trans (HC.out j u hj)) (recsV_one rs) (by unfold maxLen; omega) (by omega) (by simp) ?_; intro v3 w3 hown3 hgrow3 _; obtain ⟨gr, cr, rfl⟩ := own_pos hown3 (by omega); obtain ⟨hl3, ho3, _⟩ := H1.out.1.segsNew (v := .slice (some ⟨gs, 0, none⟩) (0 + 1) cs) (ss := [1]) H2.out.2.1 H2.out.2.2 ⟨by simpa using hn1, by simp⟩; have hb3 : Below (w2.setCell ⟨lp, 1, none⟩ (.slice (some ⟨gs, 0, none⟩) (0 + 1) cs)).heap.size (w2.setCell ⟨lp, 1, none⟩ (.slice (some ⟨gs, 0, none⟩) (0 + 1) cs)) w3 := (Below.refl _ _).grown hgrow3 (Nat.le_refl _) (fun j hj => by cases hj); obtain ⟨hl5, ho5, _⟩ := hl3.recsNew (v := .slice (some ⟨gr, 0, none⟩) (0 + m) cr) (rs := rs) hb3 (by rw [← HME.out.1]; simpa using hown3) (by rw [← HME.out.1]; exact hlen); have hbk := (hb3.block lp (Array.getElem?_eq_some_iff.1 hl3.blk).1).trans hl3.blk; have t3 := blk_cell hbk 3; have u3 := blk_free hbk 3; have t4 := blk_cell hbk 4; have u4 := blk_free hbk 4; have t2 := blk_cell hbk 2; have u2 := blk_free hbk 2; simp [log0] at t2 t3 t4; obtain ⟨W5, hW5⟩ : ∃ W5, W5 = w3.setCell ⟨lp, 3, none⟩ (.slice (some ⟨gr, 0, none⟩) (0 + m) cr) := ⟨_, rfl⟩; rw [← hW5] at hl5 ho5; have H5 : Hid (LogIn W5 B lp p bD bN pv (.slice (some ⟨gs, 0, none⟩) (0 + 1) cs) (.slice (some ⟨gr, 0, none⟩) (0 + m) cr) ⟨[1], 600, rs, 1, 0, 0⟩ d n nD nN ∧ OFr lp p w W5 ∧ W5 = w3.setCell ⟨lp, 3, none⟩ (.slice (some ⟨gr, 0, none⟩) (0 + m) cr)) := ⟨hl5, (H1.out.2.1.trans ho3).trans ho5, hW5⟩; clear hl3 ho3 hb3 hl5 ho5 hbk hown3 hgrow3 hW5 q1 q2 q3 q4 p1 p2 p3 p4))
  go_ret2
  have hW5 := H5.out.2.2
  simp only [Nat.zero_add] at hW5
  rw [← hW5]
  obtain ⟨W6, hW6⟩ : ∃ W6, W6 = (W5.setCell ⟨lp, 4, none⟩ (.int .u64 (1 + (m : Int)))).setCell ⟨lp, 2, none⟩ (.int .i64 (eb : Int)) := ⟨_, rfl⟩
  rw [← hW6]
  have hf6 : Fr [lp] W5 W6 := by rw [hW6]; exact (Fr.set1 (by simp) _ _).trans (Fr.set1 (by simp) _ _)
  have hb6 : W6.heap[lp]? = some (logO p (.slice (some ⟨gs, 0, none⟩) (0 + 1) cs) (.slice (some ⟨gr, 0, none⟩) (0 + m) cr) (logR rs (1 + rs.length))) := by
    have := blk_set (blk_set H5.out.1.blk 4 (.int .u64 (1 + (m : Int)))) 2 (.int .i64 (eb : Int))
    rw [hW6]
    simp [logR, ← HME.out.1, ← HME.out.2] at this ⊢
    exact this
  have hl6 := H5.out.1.own1 hf6 hb6 H5.out.1.segsN H5.out.1.recsN (by show (encR rs).length ≤ 4096; rw [← HME.out.2]; exact hby) (by show 1 + rs.length ≤ n + 1; rw [← HME.out.1]; omega) (by show 0 < 18446744073709551616; omega) rfl rfl
  exact ⟨rfl, ⟨_, _, hl6⟩, H5.out.2.1.trans (H5.out.1.ofr hl6 hf6 (fun k hk _ => by simp at hk; simp [hk]) (.inl rfl) (Near.refl _ _) (Near.refl _ _) (Near.refl _ _))⟩
end Go.Proofs.YtkhjhojmhllkaaaGreatDoor
/- MAPS, BY LISTS OF WHAT THEY HOLD: to range over them within a walk of one's own (CallsIn). -/
namespace Go.Proofs.YtkhjhojmhllkaaaGreatDoor
open Go.RowKit Go.Maps
open Sc

section
variable {P : Program} {K V : Type} [DecidableEq K] {kt : TypeId} {KR : KeyRep P K kt} {ER : ElRep V} {w w' : World} {b r n : Nat} {l rem : List (K × V)}
theorem del_perm : ∀ {l : List (K × V)} {k : K} {v : V}, Once1 l → (k, v) ∈ l → l.Perm ((k, v) :: alDel l k)
  | [], _, _, _, h => by cases h
  | p :: r, k, v, h1, h2 => by
    obtain ⟨h3, h4⟩ := List.pairwise_cons.1 h1
    rcases List.mem_cons.1 h2 with e | hm
    · subst e
      have : alDel ((k, v) :: r) k = r := by
        unfold alDel
        rw [List.filter_cons_of_neg (by simp), List.filter_eq_self]
        intro q hq
        have := h3 q hq
        simp; exact fun e => this e.symm
      rw [this]
    · have hne : p.1 ≠ k := fun e => h3 _ hm e
      have : alDel (p :: r) k = p :: alDel r k := by unfold alDel; rw [List.filter_cons_of_pos (by simp [hne])]
      rw [this]
      exact ((del_perm h4 hm).cons p).trans (List.Perm.swap _ _ _)
theorem RangesAs.walks (h : RangesAs KR ER w b r n l rem) (hk : KeepsWalks w w') : RangesAs KR ER w' b r n l rem ∧ w'.rangeLeft b r = w.rangeLeft b r := by
  obtain ⟨es, left, cnt, h1, h2⟩ := h
  have h1' := h1.of_walks hk
  exact ⟨⟨es, left, cnt, h1', h2⟩, by rw [h1'.left_eq, h1.left_eq]⟩
theorem RangesAs.iter (h : RangesAs KR ER w b r n l rem) : ∃ o : Obj, w.heap[r]? = some o ∧ o.isWalk = true := by
  obtain ⟨es, left, cnt, h1, h2⟩ := h
  exact h1.iter_walk
theorem RangesAs.once (h : RangesAs KR ER w b r n l rem) : Once1 rem := by
  obtain ⟨_, _, _, _, _, _, _, h5, _⟩ := h
  exact h5
end
section
variable {F : Fence} {nF : Nat} {P : Program} {K V : Type} [DecidableEq K] {kt : TypeId} {KR : KeyRep P K kt} {ER : ElRep V} {w : World} {ops : Array Oper} {rest : List Oper} {o : Oper} {a : Act} {Q : Exit → Act → World → Prop}
theorem wpListIn_map_range (hg : o.guard = none) (m : Operand) (t e : TypeId) (hop : o.op = Op.range t m) (ht : P.underlying t = some (.map kt e)) (b n : Nat) (l : List (K × V)) (hm : a.eval m = .map (some b)) (hM : MapAs KR ER w b n l)
    (hK : ∀ w', RangesAs KR ER w' b w.heap.size n l l → w.grownBy w' none → w'.heap.size = w.heap.size + 1 → wpListIn F nF P ops Q rest (a.put o.dst (.pointer (some ⟨w.heap.size, 0, none⟩))) w') : wpListIn F nF P ops Q (o :: rest) a w := by
  obtain ⟨es, ho, hp, h1, hok⟩ := hM
  refine wpListIn_range_own w hg m t hop kt e KR.law ht ER.R b n _ hm ho ?_
  intro w' hrg hgr hsz
  exact hK w' ⟨es, _, _, hrg, hp, h1, hok, h1, fun p hp => hp, fun k hk => has_of hp hok hk⟩ hgr hsz
theorem wpListIn_map_next (hg : o.guard = none) (it : Operand) (hop : o.op = Op.next it false) (b r n : Nat) (l rem : List (K × V)) (hit : a.eval it = .pointer (some ⟨r, 0, none⟩)) (hM : RangesAs KR ER w b r n l rem)
    (hDone : rem = [] → wpListIn F nF P ops Q rest (a.put o.dst (.tuple #[.bool false])) w)
    (hMore : ∀ (k : K) (v : V) (w' : World), (k, v) ∈ rem → RangesAs KR ER w' b r n l (alDel rem k) → w'.rangeLeft b r < w.rangeLeft b r → w.grownBy w' (some r) → w'.heap.size = w.heap.size →
      (Instr.entry (.pointer (some ⟨r, 0, none⟩))).run P w' = .ok (.tuple #[KR.kv k, ER.ev v]) w' → wpListIn F nF P ops Q rest (a.put o.dst (.tuple #[.bool true, KR.kv k, ER.ev v])) w') : wpListIn F nF P ops Q (o :: rest) a w := by
  obtain ⟨es, left, cnt, hrg, hp, h1, hok, h5, h6, h7⟩ := hM
  refine wpListIn_next_ranges (α := Value) (β := Value) w hg it hop kt KR.law ER.R id id (fun key _ _ => ⟨key, rfl⟩) (fun v _ _ => ⟨v, rfl⟩) b r n _ left cnt hit hrg ?_ ?_
  · intro _ hl
    refine hDone ?_
    cases hr : rem with
    | nil => rfl
    | cons p q =>
      have hm : (p.1, p.2) ∈ rem := by rw [hr]; exact List.mem_cons_self
      have := h7 p.1 (hok _ (h6 _ hm)).1
      rw [hl, alLook_of h5 hm] at this
      cases this
  · intro key val kl y w' cnt' hkey hlk hv hat hrg' hlt hgr hsz hen
    have hhas : Maps.has (.map es) kl = true := Maps.has_true_of_atKey hat
    rw [Maps.has_eq, List.any_eq_true] at hhas
    obtain ⟨p, hpm, hps⟩ := hhas
    obtain ⟨q, hq, rfl⟩ := List.mem_map.1 (hp.mem_iff.1 hpm)
    obtain ⟨k, v⟩ := q
    have hkk := (hok _ hq).1
    have hvk := (hok _ hq).2
    have ekl : KR.kl k = kl := WideAt.sameKey_eq hps
    subst ekl
    have ek : key = KR.kv k := KR.law.inj hkey (KR.key k hkk)
    have ey := hat (ER.el v)
    rw [atKey_of hp h1 hok hkk (alLook_of h1 hq)] at ey
    have ev : val = ER.ev v := ER.inv val v y.2 hvk (by rw [ey]; exact hv)
    have hmem : (k, v) ∈ rem := by
      have := h7 k hkk
      rw [hlk] at this
      cases hr : alLook rem k with
      | none => rw [hr] at this; cases this
      | some u =>
        have e2 := h1.same (h6 _ (alLook_mem hr)) hq rfl
        rw [← e2]; exact alLook_mem hr
    subst ek ev
    refine hMore k v w' hmem ⟨es, _, cnt', hrg', hp, h1, hok, h5.del k, fun p hp => h6 p (List.mem_filter.1 hp).1, fun j hj => ?_⟩ (by rw [hrg'.left_eq, hrg.left_eq]; exact hlt) hgr hsz hen
    rw [h7 j hj, KR.same hj hkk, alLook_del]
    by_cases e : j = k
    · simp [e]
    · simp [e]
end
end Go.Proofs.YtkhjhojmhllkaaaGreatDoor
/- maps.Keys at map[uint64]shard.transaction. (Written by mkbyu.py.) -/
namespace Go.Proofs.YtkhjhojmhllkaaaGreatDoor
open Go.RowKit Go.Maps Go.Shelf
open Sc

set_option maxHeartbeats 1000000 in
theorem keysT_fn (n : Nat) (b : Nat) (w : World) :
    CallsIn Fence.wide n Tryz.prog 139 #[.map (some b)] w fun e w' => e = .returned (.func (.func 191) #[] #[.pointer (some ⟨w.heap.size, 0, none⟩)]) ∧ w' = w.alloc (.cells #[.map (some b)] 138) := by
  refine callsIn_of_wp Tryz.func139 rfl trivial ?_ rfl
  simp only [Tryz.ntmps139, List.size_toArray, List.length_cons, List.length_nil, Nat.reduceAdd, Nat.reduceSub, Array.replicate_succ, Array.replicate_zero, List.push_toArray, List.append_toArray, List.nil_append, List.cons_append]
  gi_wp2
  go_ret
  exact ⟨rfl, rfl⟩
set_option maxRecDepth 100000 in
set_option maxHeartbeats 2000000 in
theorem keysT_in (n : Nat) (hn : 1 ≤ n) (l Bn b m : Nat) (L : List (Nat × ATxn)) (W : World) (J Jx : List Nat → World → Prop) (hJ : AbidesFrom W.heap.size J)
    (hY : ∀ pre (x : Nat) W1, J pre W1 → pre.length < L.length → YieldAt Fence.wide (n - 1) Tryz.prog l #[.int .u64 (x : Int)] W1 fun e W' =>
      (e = .returned (.bool true) ∧ J (pre ++ [x]) W' ∧ KeepsWalks W1 W') ∨ (e = .returned (.bool false) ∧ Jx (pre ++ [x]) W'))
    (hBn : W.cell? ⟨Bn, 0, none⟩ = some (.map (some b))) (hL : MapAs KU ET W b m L) (h0 : J [] W) :
    CallsIn Fence.wide n Tryz.prog 191 #[.func (.yield l) #[] #[], .pointer (some ⟨Bn, 0, none⟩)] W fun e W' => (∃ v, e = .returned v) ∧
      ((∃ ys, ys.Perm (L.map (·.1)) ∧ J ys W') ∨ (∃ pre, True ∧ Jx pre W')) := by
  have hro : Fence.wide.round = none := rfl
  have hfM : Fence.wide.fn 191 := trivial
  have HL : Hid (MapAs KU ET W b m L) := hL
  have HJ : Hid (AbidesFrom W.heap.size J) := hJ
  clear hL hJ
  refine callsIn_of_wp Tryz.func191 rfl hfM ?_ hro
  simp only [Tryz.ntmps191, List.size_toArray, List.length_cons, List.length_nil, Nat.reduceAdd, Nat.reduceSub, Array.replicate_succ, Array.replicate_zero, List.push_toArray, List.append_toArray, List.nil_append, List.cons_append]
  gi_wp2_with (first
    | (gi_at_range; refine wpListIn_map_range (KR := KU) (ER := ET) rfl _ 138 153 rfl Tryz.underlying138 b m L rfl HL.out ?_; intro w0 hrg0 hg0 hs0)
    | gi_in)
  go_frame
  have HS : Hid (RangesAs KU ET w0 b W.heap.size m L L ∧ J [] w0) := ⟨hrg0, HJ.out [] W w0 none h0 hg0 (fun r e => by cases e)⟩
  clear hrg0 hg0
  gi_loopw [3] (fun _ wr => ∃ rem ss, Hid (RangesAs KU ET wr b W.heap.size m L rem ∧ (ss ++ rem.map (·.1)).Perm (L.map (·.1)) ∧ J ss wr))
    (fun _ wr => wr.rangeLeft b W.heap.size)
  case atStart => exact ⟨L, [], HS.out.1, by simp, HS.out.2⟩
  case round =>
    obtain ⟨rem, ss, HX⟩ := hrel
    have hrg := HX.out.1
    gi_wp2_with (first
      | (gi_at_next; refine wpListIn_map_next (KR := KU) (ER := ET) rfl _ rfl b W.heap.size m L rem rfl hrg ?_ ?_)
      | gi_in)
    · intro hnil
      gi_wp2
      go_end0
      exact ⟨⟨_, rfl⟩, .inl ⟨ss, by have := HX.out.2.1; rw [hnil] at this; simpa using this, HX.out.2.2⟩⟩
    · intro k v w2 hm hrg2 hlt hg2 hs2 hen
      have hJ2 : J ss w2 := HJ.out ss wr w2 (some W.heap.size) HX.out.2.2 hg2 (fun r e => by cases e; exact ⟨Nat.le_refl _, hrg.iter⟩)
      have hpm : (ss ++ [k] ++ (alDel rem k).map (·.1)).Perm (L.map (·.1)) := by
        refine List.Perm.trans ?_ HX.out.2.1
        rw [List.append_assoc]
        exact (((del_perm hrg.once hm).map (·.1)).symm).append_left ss
      have hlen : ss.length < L.length := by
        have := hpm.length_eq
        simp at this
        omega
      obtain ⟨fn, tmps, assign, body, hy, hR⟩ := hY ss k w2 hJ2 hlen
      have HN : Hid (RangesAs KU ET w2 b W.heap.size m L (alDel rem k) ∧ (ss ++ [k] ++ (alDel rem k).map (·.1)).Perm (L.map (·.1)) ∧ w2.rangeLeft b W.heap.size < wr.rangeLeft b W.heap.size) := ⟨hrg2, hpm, hlt⟩
      change (Instr.entry _).run _ _ = .ok (.tuple #[.int .u64 (k : Int), .agg #[.int .i64 (v.state : Int), .int .i64 (v.done : Int), .int .u64 (v.last : Int)]]) _ at hen
      clear hs2 hrg hrg2 hpm hlt hm hg2 hJ2
      gi_wp2
      refine hR.mono ?_
      rintro e W3 (⟨rfl, hJ3, hk3⟩ | ⟨rfl, hJx3⟩)
      · obtain ⟨hr3, hl3⟩ := HN.out.1.walks hk3
        have HN3 : Hid (RangesAs KU ET W3 b W.heap.size m L (alDel rem k) ∧ (ss ++ [k] ++ (alDel rem k).map (·.1)).Perm (L.map (·.1)) ∧ J (ss ++ [k]) W3 ∧ W3.rangeLeft b W.heap.size < wr.rangeLeft b W.heap.size) := ⟨hr3, HN.out.2.1, hJ3, by rw [hl3]; exact HN.out.2.2⟩
        clear hr3 hl3 hk3 hJ3
        gi_wp2
        go_roundw
        case rel => exact ⟨_, _, HN3.out.1, HN3.out.2.1, HN3.out.2.2.1⟩
        case measure => exact HN3.out.2.2.2
      · gi_wp2
        refine bodyPost_ret (results_none rfl _ _ _) rfl ?_
        exact ⟨⟨_, rfl⟩, .inr ⟨_, trivial, hJx3⟩⟩
theorem keysT_stops (n : Nat) (hn : 1 ≤ n) (Bn b m : Nat) (L : List (Nat × ATxn)) (w : World) (hBl : Bn < w.heap.size) (hBn : w.cell? ⟨Bn, 0, none⟩ = some (.map (some b))) (hL : MapAs KU ET w b m L) :
    SeqStopsK Fence.wide n Tryz.prog 191 #[.pointer (some ⟨Bn, 0, none⟩)] (fun x : Nat => #[.int .u64 (x : Int)]) KeepsWalks (fun ys => ys.Perm (L.map (·.1))) (fun _ => True) L.length w := fun l J Jx W hW hJ _ hY h0 =>
  keysT_in n hn l Bn b m L W J Jx hJ hY ((hW.cell (p := ⟨Bn, 0, none⟩) hBl).trans hBn) (hL.fr (S := []) ⟨hW.os, hW.tape, hW.output, hW.size, fun k hk _ => hW.block k hk⟩ (by simp)) h0
end Go.Proofs.YtkhjhojmhllkaaaGreatDoor
/- slices.AppendSeq, Collect, Sorted at uint64. -/
namespace Go.Proofs.YtkhjhojmhllkaaaGreatDoor
open Go.RowKit Go.Maps Go.Shelf
open Sc

set_option maxRecDepth 100000 in
set_option maxHeartbeats 2000000 in
theorem appendSeqU_in (n : Nat) (hn : 3 ≤ n) (g : Nat) (lb : Array Value) (hFg : Fence.wide.fn g) (eg : ∀ args w, (callFunc g args).run Tryz.prog w = .ok (.enter g args) w) (S : List Nat → Prop) (N : Nat) (hN : N ≤ 67108864) (w : World)
    (hseq : SeqStopsK Fence.wide (n - 1) Tryz.prog g lb (fun x : Nat => #[.int .u64 (x : Int)]) KeepsWalks S (fun _ => True) N w) :
    CallsIn Fence.wide n Tryz.prog 232 #[.slice none 0 0, .func (.func g) #[] lb] w fun e w' => ∃ v ss, e = .returned v ∧ S ss ∧ w'.ownsRow w.heap.size 33 1 v ss.length (u64s ss) ∧ (v = .slice none 0 0 ↔ ss = []) ∧ Below w.heap.size w w' := by
  have h1 : 1 ≤ n := by omega
  have hro : Fence.wide.round = none := rfl
  obtain ⟨i0, hi, hz0, hz1, hz2⟩ := info_parts Tryz.infoU64
  refine callsIn_of_wp_marks Tryz.func232 rfl trivial ?_ hro
  simp only [Tryz.ntmps232, List.size_toArray, List.length_cons, List.length_nil, Nat.reduceAdd, Nat.reduceSub, Array.replicate_succ, Array.replicate_zero, List.push_toArray, List.append_toArray, List.nil_append, List.cons_append]
  gi_wp2
  have bO := Boxed.new w 44 (.slice none 0 0)
  have hB0 : Below w.heap.size w (w.alloc (.cells #[.slice none 0 0] 44)) := (Below.refl _ w).alloc (Nat.le_refl _) _
  have hsz : (w.alloc (.cells #[.slice none 0 0] 44)).heap.size = w.heap.size + 1 := by simp
  obtain ⟨W0, hW0⟩ : ∃ W0, (w.alloc (.cells #[.slice none 0 0] 44)) = W0 := ⟨_, rfl⟩
  rw [hW0] at bO hB0 hsz ⊢
  clear hW0
  refine wpIn_rangeFunc_ownH hro h1 (gf := g) (lb := lb) rfl hFg eg hseq walksK_t walksK_b hB0 (fun _ => rfl)
    (fun pre W => (∃ v, Boxed W w.heap.size 44 v ∧ W.ownsRow w.heap.size 33 1 v pre.length (u64s pre) ∧ (v = .slice none 0 0 ↔ pre = [])) ∧ Below w.heap.size w W)
    (fun _ _ _ => False)
    (OwnFrom.and (Own.from (holdsRow_own w.heap.size w.heap.size 44 33 1 (fun pre : List Nat => pre.length) (fun pre => u64s pre) (fun pre v => (v = .slice none 0 0 ↔ pre = []))) _) (ownFrom_below (Nat.le_refl _) (by omega)))
    (fun _ _ _ _ _ hs _ _ => hs)
    ⟨⟨_, bO, World.ownsRow_nil _ _ _ _, by simp⟩, hB0⟩
    (fun x a' W => a' = { tmps := #[.slice none 0 0, .func (.func g) #[] lb, .pointer (some ⟨w.heap.size, 0, none⟩), undef, .slice none 0 0, .int .u64 (x : Int), .func (.func g) #[] lb, .int .u64 (x : Int), undef, undef, undef, undef, undef], defers := [] })
    (fun x a' _ X Y row hs _ _ => hs)
    ?assign ?body ?done ?stop
  case assign =>
    have hsem := @Oper.semAt_some
    rintro l pre x W K hI hK
    gi_wp2
    exact hK _ _ (KeepsFrom.refl _ _) (KeepsWalks.refl _) hI rfl
  case body =>
    have hsem := @Oper.semAt_some
    rintro l pre x a' W hl2 _ ⟨⟨v, hv, hrow, hnil⟩, hB⟩ rfl hlt
    have hc := hv.cell
    have HNL : Hid (v = .slice none 0 0 ↔ pre = []) := hnil
    clear hnil
    gi_wp2_with (gi_at_builtin; refine wpListIn_append_own _ rfl _ _ 44 rfl w.heap.size 33 i0 _ 1 8 Tryz.underlying44 hi hz0 hz1 hz2 rfl (by decide) _ _ _ rfl (hrow.alloc _) ⟨W.heap.size, 0, none⟩ 1 1 [.int .u64 (x : Int)] rfl rfl (cells_new _ #[.int .u64 (x : Int)] _) (by intro u hu; simp at hu; subst hu; rfl) (by unfold maxLen; omega) (by omega) (by have := hB.size; simp; omega) ?_; intro v' w1 hown' hgrow _; obtain ⟨g', cap', rfl⟩ := ownsRow_succ hown'; obtain ⟨hv1, hv2, hr2, hk2, hb2⟩ := hv.appended (by decide) hrow hB.size (Nat.le_refl _) hown' hgrow; have hc1 := hv1.cell; have hf1 := hv1.frozen; have HW : Hid (KeepsWalks W (w1.setCell ⟨w.heap.size, 0, none⟩ (.slice (some ⟨g', 0, none⟩) (pre.length + 1) cap'))) := hk2.walks)
    exact ⟨hk2.from _, HW.out, ⟨_, hv2, by rw [u64s_snoc]; simpa using hr2, by simp⟩, hB.trans hb2⟩
  case done =>
    rintro D ys W hD hys ⟨⟨v, hv, hrow, hnil⟩, hB⟩ hK
    have hc := hv.cell
    have HNL : Hid (v = .slice none 0 0 ↔ ys = []) := hnil
    clear hnil
    gi_wp2
    refine ⟨by simp, .inl ⟨_, _, rfl, run_takeDeferred hK, ?_⟩⟩
    exact ⟨_, results_tmp rfl _ _ _, v, ys, rfl, hys, ownsRow_putObj hrow _ hK rfl, HNL.out, hB.trans (belowK_b (w := w) (Nat.le_refl _) W D _ _ (by omega) hK rfl rfl)⟩
  case stop =>
    rintro D c pre W _ _ h _
    exact h.elim
set_option maxHeartbeats 1000000 in
theorem collectU_in (n : Nat) (hn : 4 ≤ n) (g : Nat) (lb : Array Value) (hFg : Fence.wide.fn g) (eg : ∀ args w, (callFunc g args).run Tryz.prog w = .ok (.enter g args) w) (S : List Nat → Prop) (N : Nat) (hN : N ≤ 67108864) (w : World)
    (hseq : SeqStopsK Fence.wide (n - 1 - 1) Tryz.prog g lb (fun x : Nat => #[.int .u64 (x : Int)]) KeepsWalks S (fun _ => True) N w) :
    CallsIn Fence.wide n Tryz.prog 189 #[.func (.func g) #[] lb] w fun e w' => ∃ v ss, e = .returned v ∧ S ss ∧ w'.ownsRow w.heap.size 33 1 v ss.length (u64s ss) ∧ (v = .slice none 0 0 ↔ ss = []) ∧ Below w.heap.size w w' := by
  have h1 : 1 ≤ n := by omega
  have hro : Fence.wide.round = none := rfl
  have hf1 : Fence.wide.fn 232 := trivial
  have hA := appendSeqU_in (n - 1) (by omega) g lb hFg eg S N hN w hseq
  refine callsIn_of_wp Tryz.func189 rfl trivial ?_ hro
  simp only [Tryz.ntmps189, List.size_toArray, List.length_cons, List.length_nil, Nat.reduceAdd, Nat.reduceSub, Array.replicate_succ, Array.replicate_zero, List.push_toArray, List.append_toArray, List.nil_append, List.cons_append]
  gi_wp2_with (gi_at_call 232; refine hA.mono ?_; rintro e w1 ⟨v, ss, rfl, hS⟩)
  go_ret
  exact ⟨v, ss, rfl, hS⟩
set_option maxHeartbeats 2000000 in
theorem sortedU_in (n : Nat) (hn : 5 ≤ n) (g : Nat) (lb : Array Value) (hFg : Fence.wide.fn g) (eg : ∀ args w, (callFunc g args).run Tryz.prog w = .ok (.enter g args) w) (ks : List Nat) (N : Nat) (hN : N ≤ 12) (hks : ks.length ≤ N) (w : World)
    (hseq : SeqStopsK Fence.wide (n - 1 - 1 - 1) Tryz.prog g lb (fun x : Nat => #[.int .u64 (x : Int)]) KeepsWalks (fun ys => ys.Perm ks) (fun _ => True) N w) :
    CallsIn Fence.wide n Tryz.prog 138 #[.func (.func g) #[] lb] w fun e w' => ∃ v ss, e = .returned v ∧ ss.Perm ks ∧ ss.Pairwise (· ≤ ·) ∧ w'.ownsRow w.heap.size 33 1 v ss.length (u64s ss) ∧ (v = .slice none 0 0 ↔ ss = []) ∧ Below w.heap.size w w' := by
  have h1 : 1 ≤ n := by omega
  have hro : Fence.wide.round = none := rfl
  have hf1 : Fence.wide.fn 189 := trivial
  have hf2 : Fence.wide.fn 190 := trivial
  have hA := collectU_in (n - 1) (by omega) g lb hFg eg (fun ys => ys.Perm ks) N (by omega) w hseq
  clear hseq
  refine callsIn_of_wp Tryz.func138 rfl trivial ?_ hro
  simp only [Tryz.ntmps138, List.size_toArray, List.length_cons, List.length_nil, Nat.reduceAdd, Nat.reduceSub, Array.replicate_succ, Array.replicate_zero, List.push_toArray, List.append_toArray, List.nil_append, List.cons_append]
  gi_wp2_with (gi_at_call 189; refine hA.mono ?_; rintro e w1 ⟨v, ss, rfl, hS, hrow, hnil, hb⟩; have HX : Hid (ss.Perm ks ∧ w1.ownsRow w.heap.size 33 1 v ss.length (u64s ss) ∧ (v = .slice none 0 0 ↔ ss = []) ∧ Below w.heap.size w w1) := ⟨hS, hrow, hnil, hb⟩; clear hS hrow hnil hb)
  by_cases hz : ss = []
  · have hv := HX.out.2.2.1.2 hz
    subst hv
    refine ((callsIn_wide (n := n - 1)).2 (sortU_nil w1)).mono ?_
    rintro e w2 ⟨rfl, rfl⟩
    gi_wp2
    go_ret
    exact ⟨.slice none 0 0, ss, rfl, HX.out.1, by rw [hz]; exact List.Pairwise.nil, HX.out.2.1, ⟨fun _ => hz, fun _ => rfl⟩, HX.out.2.2.2⟩
  · have hpos : 0 < ss.length := List.length_pos_iff.2 hz
    obtain ⟨gg, cap, rfl⟩ := own_pos0 HX.out.2.1 hpos
    have hle : ss.length ≤ 12 := by rw [HX.out.1.length_eq]; omega
    refine ((callsIn_wide (n := n - 1)).2 (sortU_few w.heap.size gg ss.length cap ss w1 HX.out.2.1 rfl hle)).mono ?_
    rintro e w2 ⟨rfl, l', hs2, ha2⟩
    have HY : Hid (SrtIn w1 w2 w.heap.size gg ss.length cap ss l' ∧ AscTo l' ss.length) := ⟨hs2, ha2⟩
    clear hs2 ha2
    gi_wp2
    go_ret
    have hll : l'.length = ss.length := HY.out.1.perm.length_eq
    have hgl := (HX.out.2.1.lt gg rfl).1
    refine ⟨.slice (some ⟨gg, 0, none⟩) ss.length cap, l', rfl, HY.out.1.perm.trans HX.out.1, AscTo.pairwise (by rw [hll]; exact HY.out.2), by rw [hll]; exact HY.out.1.row, ⟨fun e => by simp at e, fun e => by rw [e] at hll; simp at hll; omega⟩, HX.out.2.2.2.trans ?_⟩
    have hf := HY.out.1.fr
    exact ⟨hf.os, hf.tape, hf.output, hf.size, fun k hk => hf.block k (by have := HX.out.2.2.2.size; omega) (by simp; omega)⟩
end Go.Proofs.YtkhjhojmhllkaaaGreatDoor
/- order.ByKeys at map[uint64]shard.transaction. (Written by mkbyu.py.) -/
namespace Go.Proofs.YtkhjhojmhllkaaaGreatDoor
open Go.RowKit Go.Maps Go.Shelf
open Sc

theorem sortedKeysT (n : Nat) (hn : 5 ≤ n) (b m : Nat) (L : List (Nat × ATxn)) (hl : L.length ≤ 12) (w : World) (hL : MapAs KU ET w b m L) :
    CallsIn Fence.wide n Tryz.prog 138 #[.func (.func 191) #[] #[.pointer (some ⟨w.heap.size, 0, none⟩)]] (w.alloc (.cells #[.map (some b)] 138)) fun e w' => ∃ v ss, e = .returned v ∧ ss.Perm (L.map (·.1)) ∧ ss.Pairwise (· ≤ ·) ∧ w'.ownsRow w.heap.size 33 1 v L.length (u64s ss) ∧ (v = .slice none 0 0 ↔ L.length = 0) ∧ Below w.heap.size w w' := by
  have hb0 : Below w.heap.size w (w.alloc (.cells #[.map (some b)] 138)) := (Below.refl _ w).alloc (Nat.le_refl _) _
  have hL1 : MapAs KU ET (w.alloc (.cells #[.map (some b)] 138)) b m L := hL.fr ((Fr.refl [] w).alloc _) (by simp)
  have hs := keysT_stops (n - 1 - 1 - 1) (by omega) w.heap.size b m L _ (by simp) (by rw [cell_blk0 (World.alloc_heap_new w (.cells #[.map (some b)] 138))]; rfl) hL1
  refine (sortedU_in n hn _ _ trivial (enters_of Tryz.func191 (by kernel_rfl) rfl) (L.map (·.1)) L.length hl (by simp) _ hs).mono ?_
  rintro e w' ⟨v, ss, rfl, h1, h2, h3, h4, h5⟩
  have hlen : ss.length = L.length := by rw [h1.length_eq, List.length_map]
  rw [hlen] at h3
  refine ⟨v, ss, rfl, h1, h2, own_base0 h3 (by simp), ?_, hb0.trans (h5.mono (by simp))⟩
  rw [h4, ← hlen]; exact List.length_eq_zero_iff.symm
abbrev elT (g : ATxn) : List Value := [.int .i64 (g.state : Int), .int .i64 (g.done : Int), .int .u64 (g.last : Int)]
def elsT (l : List ATxn) : List Value := l.flatMap elT
theorem elsT_snoc (l : List ATxn) (g : ATxn) : elsT (l ++ [g]) = elsT l ++ elT g := by simp [elsT]
theorem elsT_at : ∀ (l : List ATxn) (k : Nat) (g : ATxn), l[k]? = some g → (elsT l)[k * 3]? = some (.int .i64 (g.state : Int)) ∧ (elsT l)[k * 3 + 1]? = some (.int .i64 (g.done : Int)) ∧ (elsT l)[k * 3 + 2]? = some (.int .u64 (g.last : Int))
  | [], k, g, h => by simp at h
  | x :: l, 0, g, h => by simp at h; subst h; simp [elsT]
  | x :: l, k + 1, g, h => by
    have := elsT_at l k g (by simpa using h)
    simp only [elsT, List.flatMap_cons] at this ⊢
    rw [show (k + 1) * 3 = k * 3 + 1 + 1 + 1 by omega]
    simpa using this
theorem Tryz.infoBT : (Tryz.prog.info? 153).map (fun i => (i.zero, i.size, i.bytes)) = some (some (.agg #[.int .i64 0, .int .i64 0, .int .u64 0]), 3, 24) := by kernel_rfl
theorem Tryz.lenUT (p : Option Addr) (n c : Nat) (w : World) : (Builtin.len_ #[44] 3 #[.slice p n c]).run Tryz.prog w = .ok (.int .i64 n) w := by simp [Builtin.len_, run_underlying Tryz.underlying44, goInt]
/-- what a map holds, by these keys -/
def atT (L : List (Nat × ATxn)) (ss : List Nat) : List (Nat × ATxn) := ss.map fun k => (k, (alLook L k).getD ⟨0, 0, 0⟩)
set_option maxRecDepth 100000 in
set_option maxHeartbeats 4000000 in
theorem byKeysT_in (n : Nat) (hn : 6 ≤ n) (l Bn b m : Nat) (L : List (Nat × ATxn)) (hl12 : L.length ≤ 12) (W : World) (Kp : World → World → Prop) (Pk : Nat → World → Prop)
    (hP0 : ∀ k A, W.heap.size ≤ k → Below W.heap.size W A → Pk k A)
    (hP2 : ∀ k A B c t, (t = 33 ∨ t = 153) → Kp A B → A.heap[k]? = some (.cells c t (0, 0)) → Pk k A → B.heap[k]? = A.heap[k]? ∧ Pk k B)
    (J Jx : List (Nat × ATxn) → World → Prop)
    (hJ : ∀ s A B, J s A → A.grownBy B none → J s B)
    (hY : ∀ pre x W1, J pre W1 → pre.length < L.length → x ∈ L → YieldAt Fence.wide (n - 1) Tryz.prog l #[.int .u64 (x.1 : Int), .agg #[.int .i64 (x.2.state : Int), .int .i64 (x.2.done : Int), .int .u64 (x.2.last : Int)]] W1 fun e W' =>
      (e = .returned (.bool true) ∧ J (pre ++ [x]) W' ∧ Kp W1 W') ∨ (e = .returned (.bool false) ∧ Jx (pre ++ [x]) W'))
    (hBn : W.cell? ⟨Bn, 0, none⟩ = some (.map (some b))) (hL : MapAs KU ET W b m L) (h0 : J [] W) :
    CallsIn Fence.wide n Tryz.prog 137 #[.func (.yield l) #[] #[], .pointer (some ⟨Bn, 0, none⟩)] W fun e W' => (∃ v, e = .returned v) ∧
      ((∃ ss, ss.Perm (L.map (·.1)) ∧ ss.Pairwise (· ≤ ·) ∧ J (atT L ss) W') ∨ (∃ pre, True ∧ Jx pre W')) := by
  have hBl : Bn < W.heap.size := World.block_lt_of_cell? W ⟨Bn, 0, none⟩ hBn
  have cK := keysT_fn (n - 1) b W
  have cS := sortedKeysT (n - 1) (by omega) b m L hl12 W hL
  obtain ⟨i0, hi, hz0, hz1, hz2⟩ := info_parts Tryz.infoBT
  have hfK : Fence.wide.fn 139 := trivial
  have hfS : Fence.wide.fn 138 := trivial
  have hfM : Fence.wide.fn 137 := trivial
  have hro : Fence.wide.round = none := rfl
  have h1 : 1 ≤ n := by omega
  have hlenS := Tryz.lenUT
  have HL : Hid (MapAs KU ET W b m L) := hL
  have HB : Hid (Bn < W.heap.size ∧ W.cell? ⟨Bn, 0, none⟩ = some (.map (some b))) := ⟨hBl, hBn⟩
  obtain ⟨m0, hm0⟩ : ∃ m0, m0 = L.length := ⟨_, rfl⟩
  have HM : Hid (m0 = L.length) := hm0
  rw [← hm0] at cS hl12
  have hm00 : m0 ≤ 67108864 := by omega
  clear hL hm0
  refine callsIn_of_wp Tryz.func137 rfl hfM ?_ hro
  simp only [Tryz.ntmps137, List.size_toArray, List.length_cons, List.length_nil, Nat.reduceAdd, Nat.reduceSub, Array.replicate_succ, Array.replicate_zero, List.push_toArray, List.append_toArray, List.nil_append, List.cons_append]
  gi_wp2_with (first
    | (gi_at_call 139; refine cK.mono ?_; rintro e w0 ⟨rfl, rfl⟩)
    | (gi_at_call 138; refine cS.mono ?_; rintro e w1 ⟨v, ss, rfl, hpm, hpw, hrow, hnil, hb1⟩; obtain ⟨pp, cap, rfl⟩ := own_form0 hrow; have HR : Hid (w1.ownsRow W.heap.size 33 1 (.slice pp m0 cap) m0 (u64s ss) ∧ (Value.slice pp m0 cap = .slice none 0 0 ↔ m0 = 0)) := ⟨hrow, hnil⟩; have HPM : Hid (ss.Perm (L.map (·.1)) ∧ ss.Pairwise (· ≤ ·)) := ⟨hpm, hpw⟩; clear hrow hnil hpm hpw))
  clear cK cS
  have HB1 : Hid (Below W.heap.size W w1) := hb1
  have HJ1 : Hid (∀ A, Below W.heap.size W A → J [] A) := fun A hA => hJ [] W A h0 ⟨hA.os, hA.tape, hA.output, hA.size, fun k hk _ => hA.block k hk⟩
  have HSL : Hid (ss.length = m0) := by show _ = _; rw [HPM.out.1.length_eq, List.length_map, HM.out]
  clear hb1 hBn
  by_cases hm1 : m0 = 0
  · subst hm1
    obtain ⟨rfl, rfl⟩ : pp = none ∧ cap = 0 := by have := HR.out.2.2 rfl; simpa using this
    clear HR
    have HE : Hid (ss = []) := List.length_eq_zero_iff.1 HSL.out
    gi_loopw [14] (fun i wr => i = .int .i64 0 ∧ wr = w1) (fun _ _ => 0)
    case atStart => exact ⟨rfl, rfl⟩
    case round =>
      obtain ⟨rfl, rfl⟩ := hrel
      gi_wp2
      gi_loopw [27] (fun i wr2 => i = .int .i64 0 ∧ wr2 = wr) (fun _ _ => 0)
      case atStart => exact ⟨rfl, rfl⟩
      case round =>
        obtain ⟨rfl, rfl⟩ := hrel
        gi_wp2
        go_end0
        exact ⟨⟨_, rfl⟩, .inl ⟨ss, HPM.out.1, HPM.out.2, by rw [HE.out]; exact HJ1.out _ HB1.out⟩⟩
  obtain ⟨g, rfl⟩ : ∃ g, pp = some ⟨g, 0, none⟩ := by obtain ⟨g, cap', e⟩ := own_pos0 HR.out.1 (by omega); exact ⟨g, by simp at e; exact e.1⟩
  have hrow := HR.out.1
  have HK : Hid (∃ cur, w1.heap[g]? = some (.cells cur 33 (0, 0)) ∧ W.heap.size ≤ g ∧ ∀ (k x : Nat), ss[k]? = some x → cur[k]? = some (Value.int .u64 (x : Int))) := by
    rcases hrow.2 with ⟨_, h3⟩ | ⟨g', cap', cur, e, hb, hg, _, _, hsz, htk⟩
    · omega
    · obtain ⟨e1, e2⟩ : g = g' ∧ cap = cap' := by simpa using e
      subst e1
      refine ⟨cur, hg, hb, fun k x hk => ?_⟩
      have hkl : k < m0 := by have := (List.getElem?_eq_some_iff.1 hk).1; have := HSL.out; omega
      have : (cur.toList.take (m0 * 1))[k]? = some (.int .u64 (x : Int)) := by rw [htk]; unfold u64s; rw [List.getElem?_map, hk]; rfl
      rw [List.getElem?_take_of_lt (by omega)] at this
      simpa using this
  clear hrow HR
  obtain ⟨vs, hvs⟩ : ∃ vs : List ATxn, vs = ss.map fun k => (alLook L k).getD ⟨0, 0, 0⟩ := ⟨_, rfl⟩
  have HV : Hid (vs = ss.map fun k => (alLook L k).getD ⟨0, 0, 0⟩) := hvs
  clear hvs
  have HG : Hid (g < w1.heap.size) := by obtain ⟨cur, hg, _⟩ := HK.out; exact (Array.getElem?_eq_some_iff.1 hg).1
  have HIN : Hid (∀ k ∈ ss, ∃ v, (k, v) ∈ L ∧ k < 18446744073709551616 ∧ (alLook L k).getD ⟨0, 0, 0⟩ = v) := fun k hk => by
    obtain ⟨p, hp, e⟩ := List.mem_map.1 (HPM.out.1.mem_iff.1 hk)
    obtain ⟨_, _, _, ho1, hok⟩ := HL.out
    obtain ⟨p1, p2⟩ := p
    simp at e
    subst e
    exact ⟨p2, hp, (hok _ hp).1, by rw [alLook_of ho1 hp]; rfl⟩
  gi_loopw [14, 4] (fun i v wr => ∃ k : Nat, k ≤ m0 ∧ i = .int .i64 k ∧ Hid (wr.ownsRow w1.heap.size 153 3 v k (elsT (vs.take k)) ∧ Below w1.heap.size w1 wr))
    (fun i _ _ => m0 - (intOf i).toNat)
  case atStart => exact ⟨0, Nat.zero_le _, rfl, World.ownsRow_nil _ _ _ _, Below.refl _ _⟩
  case round =>
    obtain ⟨k, hk, rfl, hR⟩ := hrel
    by_cases hlt : k < m0
    · obtain ⟨x, hx⟩ : ∃ x, ss[k]? = some x := ⟨_, List.getElem?_eq_getElem (by have := HSL.out; omega)⟩
      obtain ⟨y, hy⟩ : ∃ y, y = (alLook L x).getD ⟨0, 0, 0⟩ := ⟨_, rfl⟩
      have hbW : Below W.heap.size W wr := HB1.out.trans (hR.out.2.mono HB1.out.size)
      have ck : wr.cell? ⟨g, k, none⟩ = some (.int .u64 (x : Int)) := by
        obtain ⟨cur, hg, _, hc⟩ := HK.out
        have := (hR.out.2.block g HG.out).trans hg
        rw [cell_blk0 this]
        exact hc k x hx
      have cB : wr.cell? ⟨Bn, 0, none⟩ = some (.map (some b)) := (hbW.cell (p := ⟨Bn, 0, none⟩) HB.out.1).trans HB.out.2
      have hxs : x < 18446744073709551616 := by
        obtain ⟨_, _, h, _⟩ := HIN.out x (List.mem_of_getElem? hx)
        exact h
      have hlk := (HL.out.fr (S := []) ⟨hbW.os, hbW.tape, hbW.output, hbW.size, fun k hk _ => hbW.block k hk⟩ (by simp)).look Tryz.underlying138 (zeroTxn wr) trivial (k := x) hxs
      rw [← hy] at hlk
      have HY : Hid (y = (alLook L x).getD ⟨0, 0, 0⟩ ∧ ss[k]? = some x) := ⟨hy, hx⟩
      clear hy hx
      change (Instr.lookup _ _ (.int .u64 (x : Int)) false).run _ _ = .ok (.agg #[.int .i64 (y.state : Int), .int .i64 (y.done : Int), .int .u64 (y.last : Int)]) _ at hlk
      have hsz := hR.out.2.size
      have HT : Hid (vs.take (k + 1) = vs.take k ++ [y]) := by
        show _ = _
        rw [HV.out, List.take_add_one, List.getElem?_map, HY.out.2, HY.out.1]; rfl
      gi_wp2_with (gi_at_builtin; refine wpListIn_append_own _ rfl _ _ 216 rfl w1.heap.size 153 i0 _ 3 24 Tryz.underlying216 hi hz0 hz1 hz2 rfl (by decide) _ k _ rfl (hR.out.1.alloc _) ⟨wr.heap.size, 0, none⟩ 1 1 (elT y) rfl rfl (cells_new _ #[.int .i64 (y.state : Int), .int .i64 (y.done : Int), .int .u64 (y.last : Int)] _) (by intro u hu; simp [elT] at hu; rcases hu with rfl | rfl | rfl <;> rfl) (by unfold maxLen; omega) (by omega) (by simp; omega) ?_; intro v' w2 hown' hgrow _)
      go_roundw
      case rel =>
        refine ⟨k + 1, by omega, by simp, by rw [HT.out, elsT_snoc]; exact hown', ?_⟩
        exact ((hR.out.2.alloc hsz _).grown hgrow (by simp; omega) (fun j hj => (hR.out.1.lt j hj).1))
      case measure => simp [intOf]; omega
    · obtain rfl : k = m0 := by omega
      obtain ⟨g2, cap2, rfl⟩ := own_pos0 hR.out.1 (by omega)
      have HK2 : Hid (∃ cur2, wr.heap[g2]? = some (.cells cur2 153 (0, 0)) ∧ W.heap.size ≤ g2 ∧ ∀ (j : Nat) (y : ATxn), vs[j]? = some y → cur2[j * 3]? = some (Value.int .i64 (y.state : Int)) ∧ cur2[j * 3 + 1]? = some (Value.int .i64 (y.done : Int)) ∧ cur2[j * 3 + 2]? = some (Value.int .u64 (y.last : Int))) := by
        rcases hR.out.1.2 with ⟨_, h3⟩ | ⟨g', cap', cur, e, hb, hg, _, _, hsz, htk⟩
        · omega
        · obtain ⟨e1, e2⟩ : g2 = g' ∧ cap2 = cap' := by simpa using e
          subst e1
          have hvl : vs.length = k := by rw [HV.out, List.length_map, HSL.out]
          refine ⟨cur, hg, Nat.le_trans HB1.out.size hb, fun j y hj => ?_⟩
          have hjk : j < k := by have := (List.getElem?_eq_some_iff.1 hj).1; omega
          have e3 : vs.take k = vs := List.take_of_length_le (by omega)
          rw [e3] at htk
          have hat := elsT_at vs j y hj
          rw [← htk] at hat
          rw [List.getElem?_take_of_lt (by omega), List.getElem?_take_of_lt (by omega), List.getElem?_take_of_lt (by omega)] at hat
          simpa using hat
      obtain ⟨cur, hgc, hgW, hcs⟩ := HK.out
      obtain ⟨cur2, hgc2, hgW2, hcs2⟩ := HK2.out
      have hgr := (hR.out.2.block g HG.out).trans hgc
      have hbW : Below W.heap.size W wr := HB1.out.trans (hR.out.2.mono HB1.out.size)
      have HC : Hid ((∀ (k x : Nat), ss[k]? = some x → cur[k]? = some (Value.int .u64 (x : Int))) ∧ ∀ (j : Nat) (y : ATxn), vs[j]? = some y → cur2[j * 3]? = some (Value.int .i64 (y.state : Int)) ∧ cur2[j * 3 + 1]? = some (Value.int .i64 (y.done : Int)) ∧ cur2[j * 3 + 2]? = some (Value.int .u64 (y.last : Int))) := ⟨hcs, hcs2⟩
      have HS : Hid (J [] wr ∧ wr.heap[g]? = some (.cells cur 33 (0, 0)) ∧ Pk g wr ∧ wr.heap[g2]? = some (.cells cur2 153 (0, 0)) ∧ Pk g2 wr) := ⟨HJ1.out _ hbW, hgr, hP0 _ _ hgW hbW, hgc2, hP0 _ _ hgW2 hbW⟩
      clear HK HK2 hgc hcs hgc2 hcs2 hgr hbW hP0
      gi_wp2
      gi_loopw [27] (fun i wr => ∃ j : Nat, j ≤ k ∧ i = .int .i64 j ∧ Hid (J ((atT L ss).take j) wr ∧ wr.heap[g]? = some (.cells cur 33 (0, 0)) ∧ Pk g wr ∧ wr.heap[g2]? = some (.cells cur2 153 (0, 0)) ∧ Pk g2 wr))
        (fun i _ => k - (intOf i).toNat)
      case atStart => exact ⟨0, Nat.zero_le _, rfl, by rw [List.take_zero]; exact HS.out⟩
      case round =>
        obtain ⟨j, hj, rfl, hQ⟩ := hrel
        by_cases hlt2 : j < k
        · obtain ⟨x, hx⟩ : ∃ x, ss[j]? = some x := ⟨_, List.getElem?_eq_getElem (by have := HSL.out; omega)⟩
          obtain ⟨y, hy⟩ : ∃ y, y = (alLook L x).getD ⟨0, 0, 0⟩ := ⟨_, rfl⟩
          have hvy : vs[j]? = some y := by rw [HV.out, List.getElem?_map, hx, hy]; rfl
          have hxy : (x, y) ∈ L := by
            obtain ⟨v, hv, _, e⟩ := HIN.out x (List.mem_of_getElem? hx)
            rw [hy, e]; exact hv
          have HXY : Hid ((atT L ss).take (j + 1) = (atT L ss).take j ++ [(x, y)]) := by
            show _ = _
            rw [List.take_add_one]
            unfold atT
            rw [List.getElem?_map, hx, hy]; rfl
          have cx : wr.cell? ⟨g, j, none⟩ = some (.int .u64 (x : Int)) := by rw [cell_blk0 hQ.out.2.1]; exact HC.out.1 j x hx
          have cy0 : wr.cell? ⟨g2, j * 3, none⟩ = some (.int .i64 (y.state : Int)) := by rw [cell_blk0 hQ.out.2.2.2.1]; exact (HC.out.2 j y hvy).1
          have cy1 : wr.cell? ⟨g2, j * 3 + 1, none⟩ = some (.int .i64 (y.done : Int)) := by rw [cell_blk0 hQ.out.2.2.2.1]; exact (HC.out.2 j y hvy).2.1
          have cy2 : wr.cell? ⟨g2, j * 3 + 2, none⟩ = some (.int .u64 (y.last : Int)) := by rw [cell_blk0 hQ.out.2.2.2.1]; exact (HC.out.2 j y hvy).2.2
          obtain ⟨fn, tmps, assign, body, hy2, hRR⟩ := hY _ (x, y) wr hQ.out.1 (by rw [List.length_take, ← HM.out]; omega) hxy
          clear hx hy hvy hxy
          gi_wp2
          refine hRR.mono ?_
          rintro e W3 (⟨rfl, hJ3, hk3⟩ | ⟨rfl, hJx3⟩)
          · have p1 := hP2 _ _ _ _ _ (.inl rfl) hk3 hQ.out.2.1 hQ.out.2.2.1
            have p2 := hP2 _ _ _ _ _ (.inr rfl) hk3 hQ.out.2.2.2.1 hQ.out.2.2.2.2
            have HN : Hid (J ((atT L ss).take (j + 1)) W3 ∧ W3.heap[g]? = some (.cells cur 33 (0, 0)) ∧ Pk g W3 ∧ W3.heap[g2]? = some (.cells cur2 153 (0, 0)) ∧ Pk g2 W3) := ⟨by rw [HXY.out]; exact hJ3, p1.1.trans hQ.out.2.1, p1.2, p2.1.trans hQ.out.2.2.2.1, p2.2⟩
            clear p1 p2 hJ3 hk3
            gi_wp2
            go_roundw
            case rel => exact ⟨j + 1, by omega, by simp, HN.out⟩
            case measure => simp [intOf]; omega
          · gi_wp2
            refine bodyPost_ret (results_none rfl _ _ _) rfl ?_
            exact ⟨⟨_, rfl⟩, .inr ⟨_, trivial, hJx3⟩⟩
        · obtain rfl : j = k := by omega
          gi_wp2
          go_end0
          refine ⟨⟨_, rfl⟩, .inl ⟨ss, HPM.out.1, HPM.out.2, ?_⟩⟩
          have e : (atT L ss).take j = atT L ss := by
            rw [List.take_of_length_le]
            unfold atT
            rw [List.length_map, HSL.out]
            exact Nat.le_refl _
          rw [← e]
          exact hQ.out.1
/-- the walk, as whoever ranges over it has it -/
theorem byKeysT_stops (n : Nat) (hn : 6 ≤ n) (Bn b m : Nat) (L : List (Nat × ATxn)) (hl12 : L.length ≤ 12) (w : World) (hBl : Bn < w.heap.size) (hBn : w.cell? ⟨Bn, 0, none⟩ = some (.map (some b))) (hL : MapAs KU ET w b m L)
    (Kp : World → World → Prop) (Pk : Nat → World → Prop)
    (hP0 : ∀ W k A, Below w.heap.size w W → W.heap.size ≤ k → Below W.heap.size W A → Pk k A)
    (hP2 : ∀ k A B c t, (t = 33 ∨ t = 153) → Kp A B → A.heap[k]? = some (.cells c t (0, 0)) → Pk k A → B.heap[k]? = A.heap[k]? ∧ Pk k B) :
    SeqStopsK Fence.wide n Tryz.prog 137 #[.pointer (some ⟨Bn, 0, none⟩)] (fun y : { x : Nat × ATxn // x ∈ L } => #[.int .u64 (y.1.1 : Int), .agg #[.int .i64 (y.1.2.state : Int), .int .i64 (y.1.2.done : Int), .int .u64 (y.1.2.last : Int)]]) Kp (fun ys => ∃ ss, ss.Perm (L.map (·.1)) ∧ ss.Pairwise (· ≤ ·) ∧ ys.map (·.1) = atT L ss) (fun _ => True) L.length w := fun l J Jx W hW hJ _ hY h0 => by
  have h := byKeysT_in n hn l Bn b m L hl12 W Kp Pk (fun k A => hP0 W k A hW) hP2 (fun pre W => ∃ pre' : List { x : Nat × ATxn // x ∈ L }, pre'.map (·.1) = pre ∧ J pre' W) (fun pre W => ∃ pre' : List { x : Nat × ATxn // x ∈ L }, pre'.map (·.1) = pre ∧ Jx pre' W)
    (fun s A B hs hgr => by obtain ⟨p', e, hj⟩ := hs; exact ⟨p', e, hJ p' A B none hj hgr (fun r e => by cases e)⟩)
    (fun pre x W1 hj hlt hx => by
      obtain ⟨p', e, hj⟩ := hj
      obtain ⟨fn, tmps, assign, body, hy, hR⟩ := hY p' ⟨x, hx⟩ W1 hj (by rw [← e, List.length_map] at hlt; exact hlt)
      refine ⟨fn, tmps, assign, body, hy, hR.mono ?_⟩
      rintro e2 W' (⟨r1, r2, r3⟩ | ⟨r1, r2⟩)
      · exact .inl ⟨r1, ⟨p' ++ [⟨x, hx⟩], by simp [e], r2⟩, r3⟩
      · exact .inr ⟨r1, ⟨p' ++ [⟨x, hx⟩], by simp [e], r2⟩⟩)
    ((hW.cell (p := ⟨Bn, 0, none⟩) hBl).trans hBn) (hL.fr (S := []) ⟨hW.os, hW.tape, hW.output, hW.size, fun k hk _ => hW.block k hk⟩ (by simp)) ⟨[], rfl, h0⟩
  refine h.mono ?_
  rintro e W' ⟨he, ⟨ss, h1, h2, p', e2, hj⟩ | ⟨pre, _, p', _, hj⟩⟩
  · exact ⟨he, .inl ⟨p', ⟨ss, h1, h2, e2⟩, hj⟩⟩
  · exact ⟨he, .inr ⟨p', trivial, hj⟩⟩
set_option maxHeartbeats 1000000 in
theorem byKeysT_fn (n : Nat) (b : Nat) (w : World) :
    CallsIn Fence.wide n Tryz.prog 96 #[.map (some b)] w fun e w' => e = .returned (.func (.func 137) #[] #[.pointer (some ⟨w.heap.size, 0, none⟩)]) ∧ w' = w.alloc (.cells #[.map (some b)] 138) := by
  refine callsIn_of_wp Tryz.func96 rfl trivial ?_ rfl
  simp only [Tryz.ntmps96, List.size_toArray, List.length_cons, List.length_nil, Nat.reduceAdd, Nat.reduceSub, Array.replicate_succ, Array.replicate_zero, List.push_toArray, List.append_toArray, List.nil_append, List.cons_append]
  gi_wp2
  go_ret
  exact ⟨rfl, rfl⟩
end Go.Proofs.YtkhjhojmhllkaaaGreatDoor
/- RECOVERY: (*Log).read, journal.Open, of a log of one segment. -/
namespace Go.Proofs.YtkhjhojmhllkaaaGreatDoor
open Go.RowKit Go.Maps
open Sc

/-- a disk with the segment of record 1 alone -/
def SoleD (d : ADisk) (t : ByteArray) : Prop := ∀ k, d.now k = if k = segName 1 then some t else none
theorem SoleD.names {d : ADisk} {t : ByteArray} (h : SoleD d t) {ns : List ByteArray} (hn : NamesOk d.now ns) : ns = [segName 1] := by
  have hm : ∀ k, k ∈ ns ↔ k = segName 1 := fun k => by
    rw [hn.2, h k]
    by_cases e : k = segName 1
    · rw [if_pos e]; simp [e]
    · rw [if_neg e]; simp [e]
  match ns, hn.1, hm with
  | [], _, hm => exact absurd ((hm (segName 1)).2 rfl) (by simp)
  | [a], _, hm => rw [(hm a).1 (by simp)]
  | a :: b :: r, hd, hm =>
    have h1 := (hm a).1 (by simp)
    have h2 := (hm b).1 (by simp)
    rw [h1, h2] at hd
    simp at hd
theorem SoleD.mark {d : ADisk} {t : ByteArray} (h : SoleD d t) : d.now markNm = none := by rw [h, if_neg (fun e => (segName_mark 1).1 e.symm)]
set_option maxRecDepth 100000 in
set_option maxHeartbeats 1000000 in
theorem namesOf_zero (g cap : Nat) (w : World) : Calls Tryz.prog 150 #[.slice (some ⟨g, 0, none⟩) 0 cap] w fun e w' => e = .returned (.slice none 0 0) ∧ w' = w := by
  go_enter Tryz.func150, Tryz.ntmps150
  go_wp2
  refine wp_loop_rounds 1 ?_
  rw [rounds_succ]
  go_wp2
  go_ret
  exact ⟨rfl, rfl⟩
set_option maxRecDepth 100000 in
set_option maxHeartbeats 4000000 in
theorem read_one (B lp p bD bN n nD nN : Nat) (pv : Value) (d : ADisk) (rs : List Rec) (w : World) (h : LogIn w B lp p bD bN pv (.slice none 0 0) (.slice none 0 0) (log0 0) d n nD nN) (hB : 2 ≤ B) (hdn : d.down = false) (hrs : FineR rs) (hne : rs ≠ []) (hnow : SoleD d (str (encR rs))) (hpow : Pows w) (hlen : rs.length ≤ n) (hn1 : 1 ≤ n) (hby : (encR rs).length ≤ 4096) :
    Calls Tryz.prog 124 #[.pointer (some ⟨lp, 0, none⟩)] w fun e w' => e = .returned (.tuple #[.slice none 0 0, .nilIface]) ∧ (∃ sv rv, LogIn w' B lp p bD bN pv sv rv (logR rs (1 + rs.length)) d n nD nN) ∧ OFr lp p w w' := by
  have c0 := blk_cell h.blk 0
  simp at c0
  have HI : Hid (LogIn w B lp p bD bN pv (.slice none 0 0) (.slice none 0 0) (log0 0) d n nD nN) := h
  have HP : Hid (Pows w) := hpow
  have HX : Hid (FineR rs ∧ rs ≠ [] ∧ SoleD d (str (encR rs))) := ⟨hrs, hne, hnow⟩
  clear h hpow hrs hne hnow
  have hm := Tryz.mNames
  have hlenU := Tryz.lenUT
  go_enter Tryz.func124, Tryz.ntmps124
  go_wp2_with fail
  refine (names_any B p bD bN n nD nN pv d w HI.out.disk hdn).mono ?_
  rintro e w1 ⟨v1, ns, rfl, hns, hrow1, hb1⟩
  have ens := HX.out.2.2.names hns
  subst ens
  obtain ⟨g1, k1, rfl⟩ := own_pos hrow1 (by simp)
  have hf1 : Fr [] w w1 := Fr.of_below hb1 _
  have hl1 := HI.out.new hf1
  have ho1 := HI.out.newO hf1
  have k0 := blk_cell hl1.blk 0
  simp at k0
  have hsn1 : SegNames w1 g1 [1] := fun k u hk => by
    match k, hk with
    | 0, hk =>
      simp at hk
      subst hk
      have := hrow1.cells (g := g1) rfl 0 (.string (segName 1)) (by simp)
      simpa [Addr.add_lit] using this
  have hg1 := (hrow1.lt g1 rfl).2
  have H1 : Hid (LogIn w1 B lp p bD bN pv (.slice none 0 0) (.slice none 0 0) (log0 0) d n nD nN ∧ OFr lp p w w1 ∧ SegNames w1 g1 [1]) := ⟨hl1, ho1, hsn1⟩
  clear hl1 ho1 hf1 hb1 c0 hsn1 hrow1 hns
  go_wp2_with fail
  refine (readMark_none B p bD bN n nD nN pv d w1 H1.out.1.disk hdn HX.out.2.2.mark).mono ?_
  rintro e w2 ⟨rfl, hb2⟩
  have hf2 : Fr [] w1 w2 := Fr.of_below hb2 _
  have hl2 := H1.out.1.new hf2
  have ho2 := H1.out.2.1.trans (H1.out.1.newO hf2)
  have m4 := blk_cell hl2.blk 4
  have f4 := blk_free hl2.blk 4
  simp at m4
  have hg2 : g1 < w2.heap.size := Nat.lt_of_lt_of_le hg1 hb2.size
  have hsn2 : SegNames w2 g1 [1] := fun k u hk => (hb2.cell (p := ⟨g1, k, none⟩) hg1).trans (H1.out.2.2 k u hk)
  have H2 : Hid (LogIn w2 B lp p bD bN pv (.slice none 0 0) (.slice none 0 0) (log0 0) d n nD nN ∧ OFr lp p w w2 ∧ SegNames w2 g1 [1]) := ⟨hl2, ho2, hsn2⟩
  have hglp : g1 ≠ lp := fun e => by
    have hx := H2.out.2.2 0 1 rfl
    have hy := blk_cell hl2.blk 0
    rw [e] at hx
    rw [hx] at hy
    simp at hy
  clear hl2 ho2 hf2 hb2 k0 hsn2
  obtain ⟨W, hW⟩ : ∃ W, W = w2.setCell ⟨lp, 4, none⟩ (.int .u64 1) := ⟨_, rfl⟩
  have hf3 : Fr [lp] w2 W := by rw [hW]; exact Fr.set1 (by simp) _ _
  have hb3 : W.heap[lp]? = some (logO p (.slice none 0 0) (.slice none 0 0) (log0 1)) := by rw [hW]; have := blk_set H2.out.1.blk 4 (.int .u64 1); simp [log0] at this ⊢; exact this
  have hl3 : LogIn W B lp p bD bN pv (.slice none 0 0) (.slice none 0 0) (log0 1) d n nD nN := H2.out.1.own1 hf3 hb3 H2.out.1.segsN H2.out.1.recsN H2.out.1.fillN (by show 1 ≤ n + 1; omega) H2.out.1.durN rfl rfl
  have ho3 : OFr lp p w W := H2.out.2.1.trans (H2.out.1.ofr hl3 hf3 (fun k hk _ => by simp at hk; simp [hk]) (.inl rfl) (Near.refl _ _) (Near.refl _ _) (Near.refl _ _))
  have hsn3 : SegNames W g1 [1] := fun k u hk => (World.cell?_of_block (a := ⟨g1, k, none⟩) (hf3.block g1 hg2 (by simpa using hglp))).trans (H2.out.2.2 k u hk)
  have hg3 : g1 < W.heap.size := Nat.lt_of_lt_of_le hg2 hf3.size
  have hpow3 : Pows W := ho3.pows HI.out hB HP.out
  have H3 : Hid (LogIn W B lp p bD bN pv (.slice none 0 0) (.slice none 0 0) (log0 1) d n nD nN ∧ OFr lp p w W ∧ Pows W) := ⟨hl3, ho3, hpow3⟩
  have hBW := hl3.disk.base.2.2.2
  have has := among_seg g1 k1 [1] W hg3 hsn3 (by intro u hu; simp at hu; subst hu; exact ⟨by omega, by rw [Lib.decDigits_one (by omega)]; rfl⟩) (by simp) (by simp) hpow3 (by omega)
  have m4' := blk_cell hl3.blk 4
  simp [log0] at m4'
  clear hl3 ho3 hf3 hb3 hsn3 hpow3
  subst hW
  go_wp2_with fail
  refine has.mono ?_
  clear has
  rintro e w4 ⟨g4, c4, l4, rfl, hpm, _, hrow4, hb4⟩
  have el4 : l4 = [1] := List.perm_singleton.1 hpm
  subst el4
  have hf4 : Fr [] _ w4 := Fr.of_below hb4 _
  have hl4 := H3.out.1.new hf4
  have ho4 := H3.out.2.1.trans (H3.out.1.newO hf4)
  have hpow4 : Pows w4 := ho4.pows HI.out hB HP.out
  have s0 : w4.cell? ⟨g4, 0, none⟩ = some (.int .u64 1) := by
    have := hrow4.cells (g := g4) rfl 0 (.int .u64 1) (by simp [u64s])
    simpa [Addr.add_lit] using this
  have n4 := blk_cell hl4.blk 4
  simp [log0] at n4
  have H4 : Hid (LogIn w4 B lp p bD bN pv (.slice none 0 0) (.slice none 0 0) (log0 1) d n nD nN ∧ OFr lp p w w4 ∧ Pows w4) := ⟨hl4, ho4, hpow4⟩
  clear hl4 ho4 hf4 hb4 hrow4 hpow4 m4' hpm
  go_wp2_with fail
  refine (search_one g4 c4 w4 s0).mono ?_
  rintro e w5 ⟨rfl, rfl⟩
  go_wp2_with fail
  refine (namesOf_zero g4 c4 w5).mono ?_
  rintro e w6 ⟨rfl, rfl⟩
  go_wp2
  refine wp_loop_rounds 2 ?_
  rw [rounds_succ]
  go_wp2_with fail
  have hro := readOn_one B lp p bD bN n nD nN pv d rs w6 H4.out.1 hdn HX.out.1 HX.out.2.1 (by rw [HX.out.2.2]; exact if_pos rfl) H4.out.2.2 hlen hn1 hby
  refine hro.mono ?_
  clear hro
  rintro e w7 ⟨rfl, hl7, ho7⟩
  have H7 : Hid ((∃ sv rv, LogIn w7 B lp p bD bN pv sv rv (logR rs (1 + rs.length)) d n nD nN) ∧ OFr lp p w w7) := ⟨hl7, H4.out.2.1.trans ho7⟩
  clear hl7 ho7
  go_wp2
  rw [rounds_succ]
  go_wp2
  go_ret2
  exact ⟨rfl, H7.out.1, H7.out.2⟩
end Go.Proofs.YtkhjhojmhllkaaaGreatDoor
