import Derived.Test.YtejiankgafjppabGreatDoorC24
import Derived.Test.YtejiankgafjppabGreatDoorC26
import Derived.Test.YtejiankgafjppabGreatDoorProg
import Derived.Shelf.Small.Bits
import Derived.Shelf.Small.Wraps
import Derived.Shelf.Strconv.Itoa0
import Derived.Shelf.Strconv.Itoa1
import Derived.Shelf.LaysM
import Derived.Shelf.Strconv.Itoa2
import Derived.Shelf.Strconv.Itoa3
import Derived.Shelf.Strconv.Clone
import Derived.Ground.MpProg
import Derived.Shelf.Pu.ParseUintPublic10
import Derived.Shelf.Sort.Plain
import Derived.Shelf.Strings.Prefix
import Derived.Shelf.Slices.In.SortNone
import Derived.Shelf.Slices.In.SortNone2
import Derived.Ground.SlgnProg
import Derived.Shelf.SlicesE.Clone
import Derived.Shelf.SlIter.Nil
import Derived.Ground.GgzProg
import Derived.Test.YtejiankgafjppabGreatDoorC23
import Derived.Shelf.AbstractIn
import Derived.Test.YtejiankgafjppabGreatDoorC21
import Derived.RangeFuncNested
import Derived.RangeFuncBox
import Derived.RangeFuncBound
import Derived.RangeFuncCalls
import Derived.RangeFuncLeaves
import Derived.Shelf.Abstract
import Derived.Shelf.RegionOpen
import Derived.WalkKit
import Derived.OwnWalkIn
import Derived.TacticsInMore
import Derived.LoopNIn
import Derived.LoopIn
import Derived.Maps.AppendAt
/- A SHARD AND ITS LEDGER: Commit, Abort. -/
namespace Go.Proofs.YtejiankgafjppabGreatDoor
open Go.RowKit Go.Maps
open Sc

/-- nothing has turned but what is the shard's or its log's, and new blocks -/
structure SFr (sp bV bT bH lp p : Nat) (w w' : World) : Prop where
  os : w'.os = w.os
  tape : w'.tape = w.tape
  output : w'.output = w.output
  size : w.heap.size ≤ w'.heap.size
  block : ∀ k, k < w.heap.size → ¬ Own lp p w k → k ∉ [sp, bV, bT, bH] → w'.heap[k]? = w.heap[k]?
  stay : ∀ k, k < w.heap.size → Own lp p w' k → Own lp p w k
theorem SFr.trans {sp bV bT bH lp p : Nat} {a b c : World} (h : SFr sp bV bT bH lp p a b) (k : SFr sp bV bT bH lp p b c) : SFr sp bV bT bH lp p a c :=
  ⟨k.os.trans h.os, k.tape.trans h.tape, k.output.trans h.output, Nat.le_trans h.size k.size,
    fun i hi hn hm => (k.block i (Nat.lt_of_lt_of_le hi h.size) (fun ho => hn (h.stay i hi ho)) hm).trans (h.block i hi hn hm),
    fun i hi ho => h.stay i hi (k.stay i (Nat.lt_of_lt_of_le hi h.size) ho)⟩
theorem OFr.s {sp bV bT bH lp p : Nat} {a b : World} (h : OFr lp p a b) : SFr sp bV bT bH lp p a b := ⟨h.os, h.tape, h.output, h.size, fun i hi hn _ => h.block i hi hn, h.stay⟩
/-- a shard, its ledger's log, and its disk -/
structure SL (w : World) (B sp gp bV bT bH m lp p bD bN n : Nat) (s : AShard) (l : ALog) (d : ADisk) : Prop where
  sh : ShIn w sp gp bV bT bH m s
  lg : ∃ pv sv rv nD nN, LogIn w B lp p bD bN pv sv rv l d n nD nN
  ap : ShLog w sp gp bV bT bH bD bN lp
  gp1 : 1 ≤ gp
section
variable {w w' : World} {B sp gp bV bT bH m m' lp p bD bN n n' : Nat} {s s' : AShard} {l l' : ALog} {d d' : ADisk}
theorem SL.turn {S : List Nat} (h : SL w B sp gp bV bT bH m lp p bD bN n s l d) (hs : ShIn w' sp gp bV bT bH m' s') (hf : Fr S w w') (hS : ∀ k ∈ S, k ∈ [sp, bV, bT, bH]) : SL w' B sp gp bV bT bH m' lp p bD bN n s' l d ∧ SFr sp bV bT bH lp p w w' := by
  obtain ⟨pv, sv, rv, nD, nN, hl⟩ := h.lg
  obtain ⟨h1, h2⟩ := hl.shard h.sh h.ap hf hS
  refine ⟨⟨hs, ⟨pv, sv, rv, nD, nN, h1⟩, h2, h.gp1⟩, hf.os, hf.tape, hf.output, hf.size, fun k hk _ hm => hf.block k hk (fun hx => hm (hS k hx)), fun k _ ho => ?_⟩
  rw [hl.own]
  exact (h1.own k).1 ho
theorem SL.new (h : SL w B sp gp bV bT bH m lp p bD bN n s l d) (hf : Fr [] w w') : SL w' B sp gp bV bT bH m lp p bD bN n s l d ∧ SFr sp bV bT bH lp p w w' :=
  h.turn (h.sh.fr hf (by simp) (by simp) (by simp) (by simp)) hf (by simp)
theorem SL.log (h : SL w B sp gp bV bT bH m lp p bD bN n s l d) (hf : OFr lp p w w') (hl : ∃ pv sv rv nD nN, LogIn w' B lp p bD bN pv sv rv l' d' n' nD nN) : SL w' B sp gp bV bT bH m lp p bD bN n' s l' d' ∧ SFr sp bV bT bH lp p w w' := by
  obtain ⟨pv, sv, rv, nD, nN, h1⟩ := h.lg
  obtain ⟨a, b⟩ := h.sh.ofr h1 h.ap hf
  exact ⟨⟨a, hl, b, h.gp1⟩, hf.s⟩
theorem SL.pows (h : SL w B sp gp bV bT bH m lp p bD bN n s l d) (hf : SFr sp bV bT bH lp p w w') (hB : 2 ≤ B) (hs : B ≤ sp ∧ B ≤ bV ∧ B ≤ bT ∧ B ≤ bH) (hp : Pows w) : Pows w' := by
  obtain ⟨pv, sv, rv, nD, nN, hl⟩ := h.lg
  exact hp.of_block (hf.block 1 (by have := hl.disk.base.2.2.2; omega) (fun ho => by have := hl.ge ho; omega) (by simp; omega))
end
set_option maxRecDepth 100000 in
set_option maxHeartbeats 2000000 in
theorem state_eq (sp lg bV bT bH n t : Nat) (s : AShard) (w : World) (h : ShIn w sp lg bV bT bH n s) (ht : t < 18446744073709551616) :
    Calls Tryz.prog 71 #[.pointer (some ⟨sp, 0, none⟩), .int .u64 (t : Int)] w fun e w' => e = .returned (.int .i64 ((s.txn t).state : Int)) ∧ w' = w := by
  have c2 := blk_cell h.blk 2
  simp at c2
  have hl := h.lookT ht
  have hf0 := fieldT0
  obtain ⟨T, hT⟩ : ∃ T, T = s.txn t := ⟨_, rfl⟩
  rw [← hT] at hl ⊢
  clear h hT
  go_enter Tryz.func71, Tryz.ntmps71
  go_wp2
  go_ret
  exact ⟨rfl, rfl⟩
/-- what Commit of one that is prepared leaves -/
def Committed (s s' : AShard) (t : Nat) : Prop := ∃ vs, s' = AShard.forget { s with vals := vs } t ∧ ∀ k, alLook vs k = gripped (alLook s.holds (t, k)) (alLook s.vals k)
section
variable (B sp gp bV bT bH m lp p bD bN n t c : Nat) (s : AShard) (l : ALog) (d : ADisk) (w : World)
set_option maxRecDepth 100000 in
set_option maxHeartbeats 4000000 in
theorem commit_yes (h : SL w B sp gp bV bT bH m lp p bD bN n s l d) (ht : t < 18446744073709551616) (h0 : t ≠ 0) (hst : (s.txn t).state = 3) (hn : n + 3 < 67108864) (hB : 2 ≤ B) (hsg : l.filled < 600 → l.segs ≠ []) (hpow : Pows w) (hm : m + c < maxLen) (hc : s.count t ≤ c) (hv : ∀ p ∈ s.holds, p.2.val.size ≤ maxLen) :
    Calls Tryz.prog 40 #[.pointer (some ⟨sp, 0, none⟩), .int .u64 (t : Int)] w fun e w' => e = .returned (errN (l.keep d 2 (str (be 8 t))).2.2) ∧ (∃ s', SL w' B sp gp bV bT bH (m + c) lp p bD bN (n + 3) s' (l.keep d 2 (str (be 8 t))).1 (l.keep d 2 (str (be 8 t))).2.1 ∧ (if (l.keep d 2 (str (be 8 t))).2.2 = 0 then Committed s s' t else s' = s)) ∧ SFr sp bV bT bH lp p w w' := by
  have hsa := state_eq sp gp bV bT bH m t s w h.sh ht
  rw [hst] at hsa
  have i0 : ¬ (t : Int) = 0 := by omega
  have c0 := blk_cell h.sh.blk 0
  simp at c0
  rw [lgP_pos h.gp1] at c0
  have hsp := h.sh.lts.1
  have hde := decided_any t w.drew ht
  have HO : Hid (Once1 s.holds) := by obtain ⟨_, _, _, h3, _⟩ := h.sh.holds; exact h3
  have HK : Hid (∀ w1, Fr [] w w1 → Calls Tryz.prog 74 #[.pointer (some ⟨gp, 0, none⟩), .int .u8 2, .string (str (be 8 t))] w1 fun e w2 => e = .returned (errN (l.keep d 2 (str (be 8 t))).2.2) ∧ SL w2 B sp gp bV bT bH m lp p bD bN (n + 3) s (l.keep d 2 (str (be 8 t))).1 (l.keep d 2 (str (be 8 t))).2.1 ∧ SFr sp bV bT bH lp p w w2) := fun w1 hf1 => by
    obtain ⟨h1, hs1⟩ := h.new hf1
    obtain ⟨pv, sv, rv, nD, nN, hl⟩ := h1.lg
    have hp1 : Pows w1 := hpow.of_block (hf1.block 1 (by obtain ⟨_, _, _, _, _, h2⟩ := h.lg; have := h2.disk.base.2.2.2; omega) (by simp))
    refine (keep_any B gp lp p bD bN n nD nN 2 pv sv rv l d (str (be 8 t)) w1 h1.ap.led hl (by omega) hn hB hsg hp1).mono ?_
    rintro e w2 ⟨he, hl2, ho2⟩
    obtain ⟨h2, hs2⟩ := h1.log ho2 hl2
    exact ⟨he, h2, hs1.trans hs2⟩
  have HH : Hid (SL w B sp gp bV bT bH m lp p bD bN n s l d) := h
  have HC : Hid (s.count t ≤ c ∧ ∀ p ∈ s.holds, p.2.val.size ≤ maxLen) := ⟨hc, hv⟩
  clear h hc hv hsg
  obtain ⟨R, hR⟩ : ∃ R, R = l.keep d 2 (str (be 8 t)) := ⟨_, rfl⟩
  rw [← hR] at HK ⊢
  clear hR
  go_enter Tryz.func40, Tryz.ntmps40
  go_wp2_with fail
  refine hsa.mono ?_
  rintro e w1 ⟨rfl, rfl⟩
  go_wp2_with fail
  refine hsa.mono ?_
  rintro e w2 ⟨rfl, rfl⟩
  clear hsa
  go_wp2
  go_region_held3 (fun w' => w'.cell? ⟨sp, 0, none⟩ = some (.pointer (some ⟨gp, 0, none⟩)))
    (simp [*])
    (first
      | (go_at_call 75; refine hde.mono ?_; rintro e w3 ⟨rfl, hb3⟩; have hf3 : Fr [] w2 w3 := ⟨hb3.os, hb3.tape, hb3.output, hb3.size, fun k hk _ => hb3.block k hk⟩; have p0 : w3.cell? ⟨sp, 0, none⟩ = some (.pointer (some ⟨gp, 0, none⟩)) := (World.cell?_of_block (a := ⟨sp, 0, none⟩) (hf3.block sp hsp (by simp))).trans c0; have H3 : Hid (Fr [] w2 w3) := hf3; clear hb3 hf3)
      | (go_at_call 74; refine (HK.out w3 H3.out).mono ?_; rintro e w4 ⟨rfl, h4, hs4⟩; have q0 : w4.cell? ⟨sp, 0, none⟩ = some (.pointer (some ⟨gp, 0, none⟩)) := (blk_cell h4.sh.blk 0).trans (by simp [lgP_pos h4.gp1]); have H4 : Hid (SL w4 B sp gp bV bT bH m lp p bD bN (n + 3) s R.1 R.2.1 ∧ SFr sp bV bT bH lp p w2 w4) := ⟨h4, hs4⟩; clear h4 hs4))
  by_cases hr : R.2.2 = 0
  · rw [hr, errN_ok]
    go_wp2_with fail
    refine (apply_any sp gp bV bT bH m t c s w4 H4.out.1.sh ht hm (fun L h1 h2 => by rw [AShard.count_of HO.out h1 h2]; exact HC.out.1) HC.out.2).mono ?_
    rintro e w5 ⟨rfl, vs, hs5, hlk, hf5⟩
    obtain ⟨h5, hx5⟩ := H4.out.1.turn hs5 hf5 (by simp)
    have H5 : Hid (SL w5 B sp gp bV bT bH (m + c) lp p bD bN (n + 3) (AShard.forget { s with vals := vs } t) R.1 R.2.1 ∧ SFr sp bV bT bH lp p w2 w5) := ⟨h5, H4.out.2.trans hx5⟩
    clear hs5 hf5 h5 hx5
    go_wp2
    go_ret
    exact ⟨rfl, ⟨_, H5.out.1, ⟨vs, rfl, hlk⟩⟩, H5.out.2⟩
  · rw [errN_no hr]
    go_wp2
    go_ret
    exact ⟨by rw [errN_no hr]; rfl, ⟨H4.out.1.sh.mono (Nat.le_add_right _ _), H4.out.1.lg, H4.out.1.ap, H4.out.1.gp1⟩, H4.out.2⟩
end
end Go.Proofs.YtejiankgafjppabGreatDoor
namespace Go.Proofs
open Go.Shelf
def Tryz.lays190_ren : Go.Shelf.Ren := ⟨fun | 190 => 210 | 125 => 254 | 258 => 253 | 128 => 306 | 129 => 228 | 302 => 297 | 303 => 298 | 304 => 299 | 305 => 300 | 306 => 301 | 307 => 302 | 308 => 303 | 309 => 304 | 310 => 305 | 333 => 344 | 329 => 345 | 330 => 346 | 334 => 347 | 335 => 348 | 336 => 349 | 344 => 364 | n => n, fun | 31 => 65 | 9 => 9 | 3 => 3 | 46 => 254 | 0 => 0 | 51 => 329 | 53 => 28 | 4 => 4 | 183 => 409 | 182 => 408 | 131 => 305 | 5 => 5 | 218 => 445 | 222 => 448 | 228 => 461 | 229 => 462 | n => n, fun | n => n⟩
theorem Tryz.lays190 : Go.Proofs.Lays.n190 Tryz.prog Tryz.lays190_ren := {
  mixed := by kernel_rfl
  f125 := Tryz.func254.trans (congrArg some (by kernel_rfl))
  f128 := Tryz.func306.trans (congrArg some (by kernel_rfl))
  f129 := Tryz.func228.trans (congrArg some (by kernel_rfl))
  f190 := Tryz.func210.trans (congrArg some (by kernel_rfl))
  f258 := Tryz.func253.trans (congrArg some (by kernel_rfl))
  f302 := Tryz.func297.trans (congrArg some (by kernel_rfl))
  f303 := Tryz.func298.trans (congrArg some (by kernel_rfl))
  f304 := Tryz.func299.trans (congrArg some (by kernel_rfl))
  f305 := Tryz.func300.trans (congrArg some (by kernel_rfl))
  f306 := Tryz.func301.trans (congrArg some (by kernel_rfl))
  f307 := Tryz.func302.trans (congrArg some (by kernel_rfl))
  f308 := Tryz.func303.trans (congrArg some (by kernel_rfl))
  f309 := Tryz.func304.trans (congrArg some (by kernel_rfl))
  f310 := Tryz.func305.trans (congrArg some (by kernel_rfl))
  f329 := Tryz.func345.trans (congrArg some (by kernel_rfl))
  f330 := Tryz.func346.trans (congrArg some (by kernel_rfl))
  f333 := Tryz.func344.trans (congrArg some (by kernel_rfl))
  f334 := Tryz.func347.trans (congrArg some (by kernel_rfl))
  f335 := Tryz.func348.trans (congrArg some (by kernel_rfl))
  f336 := Tryz.func349.trans (congrArg some (by kernel_rfl))
  f344 := Tryz.func364.trans (congrArg some (by kernel_rfl))
  t0 := Tryz.underlying0
  a0 := Tryz.isAgg0
  z0 := Tryz.sizeOf0
  v0 := Tryz.zeroValue0
  t3 := Tryz.underlying3
  a3 := Tryz.isAgg3
  z3 := Tryz.sizeOf3
  v3 := Tryz.zeroValue3
  t4 := Tryz.underlying4
  a4 := Tryz.isAgg4
  z4 := Tryz.sizeOf4
  v4 := Tryz.zeroValue4
  t5 := Tryz.underlying5
  a5 := Tryz.isAgg5
  z5 := Tryz.sizeOf5
  v5 := Tryz.zeroValue5
  t9 := Tryz.underlying9
  a9 := Tryz.isAgg9
  z9 := Tryz.sizeOf9
  v9 := Tryz.zeroValue9
  t31 := Tryz.underlying65
  a31 := Tryz.isAgg65
  z31 := Tryz.sizeOf65
  v31 := Tryz.zeroValue65
  t46 := Tryz.underlying254
  a46 := Tryz.isAgg254
  z46 := Tryz.sizeOf254
  v46 := Tryz.zeroValue254
  t51 := Tryz.underlying329
  a51 := Tryz.isAgg329
  z51 := Tryz.sizeOf329
  v51 := Tryz.zeroValue329
  t53 := Tryz.underlying28
  a53 := Tryz.isAgg28
  z53 := Tryz.sizeOf28
  v53 := Tryz.zeroValue28
  t131 := Tryz.underlying305
  a131 := Tryz.isAgg305
  z131 := Tryz.sizeOf305
  v131 := Tryz.zeroValue305
  t182 := Tryz.underlying408
  a182 := Tryz.isAgg408
  z182 := Tryz.sizeOf408
  v182 := Tryz.zeroValue408
  t183 := Tryz.underlying409
  a183 := Tryz.isAgg409
  z183 := Tryz.sizeOf409
  v183 := Tryz.zeroValue409
  t218 := Tryz.underlying445
  a218 := Tryz.isAgg445
  z218 := Tryz.sizeOf445
  v218 := Tryz.zeroValue445
  t222 := Tryz.underlying448
  a222 := Tryz.isAgg448
  z222 := Tryz.sizeOf448
  v222 := Tryz.zeroValue448
  t228 := Tryz.underlying461
  a228 := Tryz.isAgg461
  z228 := Tryz.sizeOf461
  v228 := Tryz.zeroValue461
  t229 := Tryz.underlying462
  a229 := Tryz.isAgg462
  z229 := Tryz.sizeOf462
  v229 := Tryz.zeroValue462 }
open Go.Sort Go.RowKit in
theorem Tryz.slices_Sort_string (blk off cap : Nat) (ss : List (List UInt8)) (w : World) (hH : Holds encStr w blk off ss.toArray) (hblk : blk < w.heap.size) (hsz : ss.length < 4611686018427387904) :
    Calls Tryz.prog 210 #[.slice (some ⟨blk, off, none⟩) ss.length cap] w fun e w' =>
      e = .returned (.tuple #[]) ∧ ∃ n os, w' = grow (putRow encStr (Sort.ahead w n) blk off (ss.mergeSort fun x y => decide (x ≤ y)).toArray) os := Any.slices_Sort_string Tryz.lays190 blk off cap ss w hH hblk hsz
open Go.RowKit Go.Sort in
theorem Tryz.slices_Sort_string_none (p : Option Addr) (cap : Nat) (w : World) :
    Calls Tryz.prog 210 #[.slice p 0 cap] w fun e w' => e = .returned (.tuple #[]) ∧ w' = w := Any.slices_Sort_string_none Tryz.lays190 p cap w
def Tryz.keysG_ren : Go.Shelf.Ren := ⟨fun | 7 => 226 | 10 => 281 | n => n, fun | 23 => 210 | 26 => 9 | 3 => 129 | 28 => 243 | 0 => 0 | 27 => 242 | 33 => 319 | 4 => 4 | n => n, fun | n => n⟩
theorem Tryz.keysG : Go.Proofs.SlLaysZ.n7 Tryz.prog Tryz.keysG_ren := {
  mixed := by kernel_rfl
  f7 := ⟨Tryz.f226.name, by decide, Tryz.func226.trans (congrArg some (by kernel_rfl))⟩
  f10 := ⟨Tryz.f281.name, by decide, Tryz.func281.trans (congrArg some (by kernel_rfl))⟩
  t0 := Tryz.underlying0
  a0 := Tryz.isAgg0
  z0 := Tryz.sizeOf0
  v0 := Tryz.zeroValue0
  t4 := Tryz.underlying4
  a4 := Tryz.isAgg4
  z4 := Tryz.sizeOf4
  v4 := Tryz.zeroValue4
  t23 := Tryz.underlying210
  a23 := Tryz.isAgg210
  z23 := Tryz.sizeOf210
  v23 := Tryz.zeroValue210
  t26 := Tryz.underlying9
  a26 := Tryz.isAgg9
  z26 := Tryz.sizeOf9
  v26 := Tryz.zeroValue9
  t27 := Tryz.underlying242
  a27 := Tryz.isAgg242
  z27 := Tryz.sizeOf242
  v27 := Tryz.zeroValue242
  t28 := Tryz.underlying243
  a28 := Tryz.isAgg243
  z28 := Tryz.sizeOf243
  v28 := Tryz.zeroValue243
  t33 := Tryz.underlying319
  a33 := Tryz.isAgg319
  z33 := Tryz.sizeOf319
  v33 := Tryz.zeroValue319 }
def Tryz.keysV_ren : Go.Shelf.Ren := ⟨fun | 7 => 151 | 10 => 211 | n => n, fun | 23 => 132 | 26 => 9 | 3 => 9 | 28 => 243 | 0 => 0 | 27 => 242 | 33 => 319 | 4 => 4 | n => n, fun | n => n⟩
theorem Tryz.keysV : Go.Proofs.SlLaysZ.n7 Tryz.prog Tryz.keysV_ren := {
  mixed := by kernel_rfl
  f7 := ⟨Tryz.f151.name, by decide, Tryz.func151.trans (congrArg some (by kernel_rfl))⟩
  f10 := ⟨Tryz.f211.name, by decide, Tryz.func211.trans (congrArg some (by kernel_rfl))⟩
  t0 := Tryz.underlying0
  a0 := Tryz.isAgg0
  z0 := Tryz.sizeOf0
  v0 := Tryz.zeroValue0
  t4 := Tryz.underlying4
  a4 := Tryz.isAgg4
  z4 := Tryz.sizeOf4
  v4 := Tryz.zeroValue4
  t23 := Tryz.underlying132
  a23 := Tryz.isAgg132
  z23 := Tryz.sizeOf132
  v23 := Tryz.zeroValue132
  t26 := Tryz.underlying9
  a26 := Tryz.isAgg9
  z26 := Tryz.sizeOf9
  v26 := Tryz.zeroValue9
  t27 := Tryz.underlying242
  a27 := Tryz.isAgg242
  z27 := Tryz.sizeOf242
  v27 := Tryz.zeroValue242
  t28 := Tryz.underlying243
  a28 := Tryz.isAgg243
  z28 := Tryz.sizeOf243
  v28 := Tryz.zeroValue243
  t33 := Tryz.underlying319
  a33 := Tryz.isAgg319
  z33 := Tryz.sizeOf319
  v33 := Tryz.zeroValue319 }
def Tryz.sortedS_ren : Go.Shelf.Ren := ⟨fun | 6 => 150 | 8 => 209 | 9 => 210 | 11 => 252 | 13 => 254 | 12 => 253 | 23 => 306 | 24 => 228 | 14 => 297 | 15 => 298 | 16 => 299 | 17 => 300 | 18 => 301 | 19 => 302 | 20 => 303 | 21 => 304 | 22 => 305 | 25 => 344 | 26 => 345 | 27 => 346 | 28 => 347 | 29 => 348 | 30 => 349 | 31 => 364 | n => n, fun | 26 => 9 | 28 => 243 | 24 => 65 | 0 => 0 | 3 => 3 | 37 => 254 | 48 => 329 | 50 => 28 | 4 => 4 | 40 => 409 | 39 => 408 | 45 => 305 | 5 => 5 | 9 => 9 | 51 => 445 | 55 => 448 | 57 => 461 | 58 => 462 | 33 => 319 | n => n, fun | n => n⟩
theorem Tryz.sortedS : Go.Proofs.SlLaysZ.n6 Tryz.prog Tryz.sortedS_ren := {
  mixed := by kernel_rfl
  f6 := ⟨Tryz.f150.name, by decide, Tryz.func150.trans (congrArg some (by kernel_rfl))⟩
  f8 := ⟨Tryz.f209.name, by decide, Tryz.func209.trans (congrArg some (by kernel_rfl))⟩
  f11 := ⟨Tryz.f252.name, by decide, Tryz.func252.trans (congrArg some (by kernel_rfl))⟩
  t0 := Tryz.underlying0
  a0 := Tryz.isAgg0
  z0 := Tryz.sizeOf0
  v0 := Tryz.zeroValue0
  t24 := Tryz.underlying65
  a24 := Tryz.isAgg65
  z24 := Tryz.sizeOf65
  v24 := Tryz.zeroValue65
  t26 := Tryz.underlying9
  a26 := Tryz.isAgg9
  z26 := Tryz.sizeOf9
  v26 := Tryz.zeroValue9
  t28 := Tryz.underlying243
  a28 := Tryz.isAgg243
  z28 := Tryz.sizeOf243
  v28 := Tryz.zeroValue243
  i26 := by kernel_rfl }
end Go.Proofs
/- slices.Sorted(maps.Keys(m)) at maps keyed by strings. (Written by mkbyk.py.) -/
namespace Go.Proofs.YtejiankgafjppabGreatDoor
open Go.RowKit Go.Maps Go.Shelf Go.Sort
open Sc

/-- a map's keys, sorted -/
def sortK {V : Type} (L : List (ByteArray × V)) : List ByteArray := ((L.map fun p => p.1.data.toList).mergeSort leB).map fun b => ⟨b.toArray⟩
theorem sortK_len {V : Type} (L : List (ByteArray × V)) : (sortK L).length = L.length := by simp [sortK]
theorem sortK_mem {V : Type} {L : List (ByteArray × V)} {k : ByteArray} : k ∈ sortK L ↔ ∃ v, (k, v) ∈ L := by
  unfold sortK
  simp only [List.mem_map, List.mem_mergeSort]
  constructor
  · rintro ⟨x, ⟨p, hp, rfl⟩, rfl⟩
    exact ⟨p.2, by simpa using hp⟩
  · rintro ⟨v, hv⟩
    exact ⟨k.data.toList, ⟨(k, v), hv, rfl⟩, by simp⟩
theorem sortsS (m : Nat) : AnyZ.SortsIn Tryz.prog Tryz.sortedS_ren Fence.wide m :=
  ⟨fun blk off cap ss W hH hblk hsz => callsIn_wide.2 (Tryz.slices_Sort_string blk off cap ss W hH hblk hsz), fun p cap W => callsIn_wide.2 (Tryz.slices_Sort_string_none p cap W)⟩
theorem strKeys_perm {V : Type} {ER : ElRep V} {es : List (Lit × DataW Unit)} {L : List (ByteArray × V)} (h : es.Perm (L.map (litOf KS ER))) : (strKeys (DataW.map es)).Perm (L.map fun p => p.1.data.toList) := by
  show (es.map fun p => strOf p.1).Perm _
  refine (h.map _).trans ?_
  rw [List.map_map]
  exact List.Perm.refl _
set_option maxHeartbeats 1000000 in
theorem sortedKeysG (n : Nat) (hn : 5 ≤ n) (b m : Nat) (L : List (ByteArray × AGrip)) (w : World) (hL : MapAs KS EG w b m L) (hm : m ≤ 67108864) :
    (CallsIn Fence.wide n Tryz.prog 226 #[.map (some b)] w fun e w' => e = .returned (.func (.func 281) #[] #[.pointer (some ⟨w.heap.size, 0, none⟩)]) ∧ w' = w.alloc (.cells #[.map (some b)] 210)) ∧
    (CallsIn Fence.wide n Tryz.prog 150 #[.func (.func 281) #[] #[.pointer (some ⟨w.heap.size, 0, none⟩)]] (w.alloc (.cells #[.map (some b)] 210)) fun e w' => ∃ v, e = .returned v ∧ w'.ownsRow w.heap.size 9 1 v L.length ((sortK L).map Value.string) ∧ (v = .slice none 0 0 ↔ L.length = 0) ∧ Below w.heap.size w w') := by
  obtain ⟨es, hown, hp, h1, hok⟩ := hL
  have hlen : Maps.size (DataW.map es) = L.length := by rw [Maps.size_eq, hp.length_eq, List.length_map]
  have hsz := hown.size_le
  have hbl := hown.lt
  have hseq : SeqGives Fence.wide (n - 1 - 1 - 1) Tryz.prog 281 #[.pointer (some ⟨w.heap.size, 0, none⟩)] encStr (fun ss => ss.Perm (strKeys (DataW.map es))) (Maps.size (DataW.map es)) (w.alloc (.cells #[.map (some b)] 210)) :=
    AnyZ.keys_gives (ρ := Tryz.keysG_ren) { Tryz.keysG with } Fence.wide _ trivial rfl (by omega) w.heap.size b m (DataW.map es) _ (by simp) (by simp) (by
      obtain ⟨es', clock, hb, Ft, hs, hD⟩ := hown
      exact ⟨es', clock, (Below.heap_alloc _ _ b hbl).trans hb, Ft, hs, hD⟩)
  refine ⟨AnyZ.keys_in Tryz.keysG Fence.wide n trivial rfl _ w, ?_⟩
  have cS := AnyZ.sorted_in Tryz.sortedS Fence.wide n trivial trivial trivial trivial rfl (by omega) (sortsS _) (enters_of Tryz.func210 (by kernel_rfl) rfl) 281 #[.pointer (some ⟨w.heap.size, 0, none⟩)] trivial (enters_of Tryz.func281 (by kernel_rfl) rfl) _ _ (by unfold maxLen; omega) (by omega) _ hseq
  change CallsIn _ _ Tryz.prog 150 _ _ _ at cS
  refine cS.mono ?_
  rintro e w' ⟨v, ss, rfl, hS, hrow, hnil, hb⟩
  have hpm := hS.trans (strKeys_perm hp)
  have el : ss.length = L.length := by rw [hpm.length_eq, List.length_map]
  have es2 : (ss.mergeSort fun x y => decide (x ≤ y)).map encStr = (sortK L).map Value.string := by
    have := mergeSort_of_perm hpm
    unfold sortK
    rw [show (ss.mergeSort fun x y => decide (x ≤ y)) = ss.mergeSort leB from rfl, this, List.map_map]
    rfl
  rw [el, es2] at hrow
  refine ⟨v, rfl, ownsRow_base_a hrow (by simp), by rw [hnil, ← el]; exact List.length_eq_zero_iff.symm, ((Below.refl _ w).alloc (Nat.le_refl _) _).trans (hb.mono (by simp))⟩
set_option maxHeartbeats 1000000 in
theorem sortedKeysV (n : Nat) (hn : 5 ≤ n) (b m : Nat) (L : List (ByteArray × ByteArray)) (w : World) (hL : MapAs KS ES w b m L) (hm : m ≤ 67108864) :
    (CallsIn Fence.wide n Tryz.prog 151 #[.map (some b)] w fun e w' => e = .returned (.func (.func 211) #[] #[.pointer (some ⟨w.heap.size, 0, none⟩)]) ∧ w' = w.alloc (.cells #[.map (some b)] 132)) ∧
    (CallsIn Fence.wide n Tryz.prog 150 #[.func (.func 211) #[] #[.pointer (some ⟨w.heap.size, 0, none⟩)]] (w.alloc (.cells #[.map (some b)] 132)) fun e w' => ∃ v, e = .returned v ∧ w'.ownsRow w.heap.size 9 1 v L.length ((sortK L).map Value.string) ∧ (v = .slice none 0 0 ↔ L.length = 0) ∧ Below w.heap.size w w') := by
  obtain ⟨es, hown, hp, h1, hok⟩ := hL
  have hlen : Maps.size (DataW.map es) = L.length := by rw [Maps.size_eq, hp.length_eq, List.length_map]
  have hsz := hown.size_le
  have hbl := hown.lt
  have hseq : SeqGives Fence.wide (n - 1 - 1 - 1) Tryz.prog 211 #[.pointer (some ⟨w.heap.size, 0, none⟩)] encStr (fun ss => ss.Perm (strKeys (DataW.map es))) (Maps.size (DataW.map es)) (w.alloc (.cells #[.map (some b)] 132)) :=
    AnyZ.keys_gives (ρ := Tryz.keysV_ren) { Tryz.keysV with } Fence.wide _ trivial rfl (by omega) w.heap.size b m (DataW.map es) _ (by simp) (by simp) (by
      obtain ⟨es', clock, hb, Ft, hs, hD⟩ := hown
      exact ⟨es', clock, (Below.heap_alloc _ _ b hbl).trans hb, Ft, hs, hD⟩)
  refine ⟨AnyZ.keys_in Tryz.keysV Fence.wide n trivial rfl _ w, ?_⟩
  have cS := AnyZ.sorted_in Tryz.sortedS Fence.wide n trivial trivial trivial trivial rfl (by omega) (sortsS _) (enters_of Tryz.func210 (by kernel_rfl) rfl) 211 #[.pointer (some ⟨w.heap.size, 0, none⟩)] trivial (enters_of Tryz.func211 (by kernel_rfl) rfl) _ _ (by unfold maxLen; omega) (by omega) _ hseq
  change CallsIn _ _ Tryz.prog 150 _ _ _ at cS
  refine cS.mono ?_
  rintro e w' ⟨v, ss, rfl, hS, hrow, hnil, hb⟩
  have hpm := hS.trans (strKeys_perm hp)
  have el : ss.length = L.length := by rw [hpm.length_eq, List.length_map]
  have es2 : (ss.mergeSort fun x y => decide (x ≤ y)).map encStr = (sortK L).map Value.string := by
    have := mergeSort_of_perm hpm
    unfold sortK
    rw [show (ss.mergeSort fun x y => decide (x ≤ y)) = ss.mergeSort leB from rfl, this, List.map_map]
    rfl
  rw [el, es2] at hrow
  refine ⟨v, rfl, ownsRow_base_a hrow (by simp), by rw [hnil, ← el]; exact List.length_eq_zero_iff.symm, ((Below.refl _ w).alloc (Nat.le_refl _) _).trans (hb.mono (by simp))⟩
end Go.Proofs.YtejiankgafjppabGreatDoor
/- order.ByKeys at map[string]grip. (Written by mkbyk.py.) -/
namespace Go.Proofs.YtejiankgafjppabGreatDoor
open Go.RowKit Go.Maps Go.Shelf
open Sc

abbrev elG (g : AGrip) : List Value := [.int .u8 (g.way : Int), .string g.val]
def elsG (l : List AGrip) : List Value := l.flatMap elG
theorem elsG_snoc (l : List AGrip) (g : AGrip) : elsG (l ++ [g]) = elsG l ++ elG g := by simp [elsG]
theorem elsG_at : ∀ (l : List AGrip) (k : Nat) (g : AGrip), l[k]? = some g → (elsG l)[k * 2]? = some (.int .u8 (g.way : Int)) ∧ (elsG l)[k * 2 + 1]? = some (.string g.val)
  | [], k, g, h => by simp at h
  | x :: l, 0, g, h => by simp at h; subst h; simp [elsG]
  | x :: l, k + 1, g, h => by
    have := elsG_at l k g (by simpa using h)
    simp only [elsG, List.flatMap_cons] at this ⊢
    rw [show (k + 1) * 2 = k * 2 + 1 + 1 by omega]
    simpa using this
theorem Tryz.infoBG : (Tryz.prog.info? 129).map (fun i => (i.zero, i.size, i.bytes)) = some (some (.agg #[.int .u8 0, .string ByteArray.empty]), 2, 24) := by kernel_rfl
/-- what a map holds, by its keys -/
def sortG (L : List (ByteArray × AGrip)) : List (ByteArray × AGrip) := (sortK L).map fun k => (k, (alLook L k).getD ⟨0, ByteArray.empty⟩)
theorem Tryz.lenSG (p : Option Addr) (n c : Nat) (w : World) : (Builtin.len_ #[65] 3 #[.slice p n c]).run Tryz.prog w = .ok (.int .i64 n) w := by simp [Builtin.len_, run_underlying Tryz.underlying65, goInt]
set_option maxRecDepth 100000 in
set_option maxHeartbeats 4000000 in
theorem byKeysG_in (n : Nat) (hn : 6 ≤ n) (l Bn b m : Nat) (L : List (ByteArray × AGrip)) (hm : m ≤ 67108864) (W : World) (Kp : World → World → Prop) (Pk : Nat → World → Prop)
    (hP0 : ∀ k A, W.heap.size ≤ k → Below W.heap.size W A → Pk k A)
    (hP2 : ∀ k A B c t, (t = 9 ∨ t = 129) → Kp A B → A.heap[k]? = some (.cells c t (0, 0)) → Pk k A → B.heap[k]? = A.heap[k]? ∧ Pk k B)
    (J Jx : List (ByteArray × AGrip) → World → Prop)
    (hJ : ∀ s A B, J s A → A.grownBy B none → J s B)
    (hY : ∀ pre x W1, J pre W1 → pre.length < L.length → pre ++ [x] <+: sortG L → YieldAt Fence.wide (n - 1) Tryz.prog l #[.string x.1, .agg #[.int .u8 (x.2.way : Int), .string x.2.val]] W1 fun e W' =>
      (e = .returned (.bool true) ∧ J (pre ++ [x]) W' ∧ Kp W1 W') ∨ (e = .returned (.bool false) ∧ Jx (pre ++ [x]) W'))
    (hBn : W.cell? ⟨Bn, 0, none⟩ = some (.map (some b))) (hL : MapAs KS EG W b m L) (h0 : J [] W) :
    CallsIn Fence.wide n Tryz.prog 225 #[.func (.yield l) #[] #[], .pointer (some ⟨Bn, 0, none⟩)] W fun e W' => (∃ v, e = .returned v) ∧
      ((∃ ys, ys = sortG L ∧ J ys W') ∨ (∃ pre, pre <+: sortG L ∧ Jx pre W')) := by
  have hBl : Bn < W.heap.size := World.block_lt_of_cell? W ⟨Bn, 0, none⟩ hBn
  obtain ⟨cK, cS⟩ := sortedKeysG (n - 1) (by omega) b m L W hL hm
  obtain ⟨i0, hi, hz0, hz1, hz2⟩ := info_parts Tryz.infoBG
  have hfK : Fence.wide.fn 226 := trivial
  have hfS : Fence.wide.fn 150 := trivial
  have hfM : Fence.wide.fn 225 := trivial
  have hro : Fence.wide.round = none := rfl
  have h1 : 1 ≤ n := by omega
  have hlenS := Tryz.lenSG
  have hLm := hL.len
  have HL : Hid (MapAs KS EG W b m L) := hL
  have HB : Hid (Bn < W.heap.size ∧ W.cell? ⟨Bn, 0, none⟩ = some (.map (some b))) := ⟨hBl, hBn⟩
  obtain ⟨m0, hm0⟩ : ∃ m0, m0 = L.length := ⟨_, rfl⟩
  have HM : Hid (m0 = L.length) := hm0
  rw [← hm0] at cS hLm
  have hm00 : m0 ≤ 67108864 := by omega
  clear hL hm0
  refine callsIn_of_wp Tryz.func225 rfl hfM ?_ hro
  simp only [Tryz.ntmps225, List.size_toArray, List.length_cons, List.length_nil, Nat.reduceAdd, Nat.reduceSub, Array.replicate_succ, Array.replicate_zero, List.push_toArray, List.append_toArray, List.nil_append, List.cons_append]
  gi_wp2_with (first
    | (gi_at_call 226; refine cK.mono ?_; rintro e w0 ⟨rfl, rfl⟩)
    | (gi_at_call 150; refine cS.mono ?_; rintro e w1 ⟨v, rfl, hrow, hnil, hb1⟩; obtain ⟨pp, cap, rfl⟩ := own_form0 hrow; have HR : Hid (w1.ownsRow W.heap.size 9 1 (.slice pp m0 cap) m0 ((sortK L).map Value.string) ∧ (Value.slice pp m0 cap = .slice none 0 0 ↔ m0 = 0)) := ⟨hrow, hnil⟩; clear hrow hnil))
  clear cK cS
  have HB1 : Hid (Below W.heap.size W w1) := hb1
  have HJ1 : Hid (∀ A, Below W.heap.size W A → J [] A) := fun A hA => hJ [] W A h0 ⟨hA.os, hA.tape, hA.output, hA.size, fun k hk _ => hA.block k hk⟩
  clear hb1 hBn
  by_cases hm1 : m0 = 0
  · subst hm1
    obtain ⟨rfl, rfl⟩ : pp = none ∧ cap = 0 := by have := HR.out.2.2 rfl; simpa using this
    clear HR
    have HE : Hid (sortG L = []) := by show _ = _; have := HM.out; rw [List.length_eq_zero_iff.1 this.symm]; simp [sortG, sortK]
    gi_loopw [14] (fun i wr => i = .int .i64 0 ∧ wr = w1) (fun _ _ => 0)
    case atStart => exact ⟨rfl, rfl⟩
    case round =>
      obtain ⟨rfl, rfl⟩ := hrel
      gi_wp2
      gi_loopw [27] (fun i wr2 => i = .int .i64 0 ∧ wr2 = wr) (fun _ _ => 0)
      case atStart => exact ⟨rfl, rfl⟩
      case round =>
        obtain ⟨rfl, rfl⟩ := hrel
        gi_wp2
        go_end0
        exact ⟨⟨_, rfl⟩, .inl ⟨_, rfl, by rw [HE.out]; exact HJ1.out _ HB1.out⟩⟩
  obtain ⟨g, rfl⟩ : ∃ g, pp = some ⟨g, 0, none⟩ := by obtain ⟨g, cap', e⟩ := own_pos0 HR.out.1 (by omega); exact ⟨g, by simp at e; exact e.1⟩
  have hrow := HR.out.1
  have HK : Hid (∃ cur, w1.heap[g]? = some (.cells cur 9 (0, 0)) ∧ W.heap.size ≤ g ∧ ∀ (k : Nat) (x : ByteArray), (sortK L)[k]? = some x → cur[k]? = some (Value.string x)) := by
    rcases hrow.2 with ⟨_, h3⟩ | ⟨g', cap', cur, e, hb, hg, _, _, hsz, htk⟩
    · omega
    · obtain ⟨e1, e2⟩ : g = g' ∧ cap = cap' := by simpa using e
      subst e1
      refine ⟨cur, hg, hb, fun k x hk => ?_⟩
      have hkl : k < m0 := by have := (List.getElem?_eq_some_iff.1 hk).1; rw [sortK_len] at this; have := HM.out; omega
      have : (cur.toList.take (m0 * 1))[k]? = some (.string x) := by rw [htk, List.getElem?_map, hk]; rfl
      rw [List.getElem?_take_of_lt (by omega)] at this
      simpa using this
  clear hrow HR
  obtain ⟨vs, hvs⟩ : ∃ vs : List AGrip, vs = (sortK L).map fun k => (alLook L k).getD ⟨0, ByteArray.empty⟩ := ⟨_, rfl⟩
  have HV : Hid (vs = (sortK L).map fun k => (alLook L k).getD ⟨0, ByteArray.empty⟩) := hvs
  clear hvs
  have HG : Hid (g < w1.heap.size) := by obtain ⟨cur, hg, _⟩ := HK.out; exact (Array.getElem?_eq_some_iff.1 hg).1
  gi_loopw [14, 4] (fun i v wr => ∃ k : Nat, k ≤ m0 ∧ i = .int .i64 k ∧ Hid (wr.ownsRow w1.heap.size 129 2 v k (elsG (vs.take k)) ∧ Below w1.heap.size w1 wr))
    (fun i _ _ => m0 - (intOf i).toNat)
  case atStart => exact ⟨0, Nat.zero_le _, rfl, World.ownsRow_nil _ _ _ _, Below.refl _ _⟩
  case round =>
    obtain ⟨k, hk, rfl, hR⟩ := hrel
    by_cases hlt : k < m0
    · obtain ⟨x, hx⟩ : ∃ x, (sortK L)[k]? = some x := ⟨_, List.getElem?_eq_getElem (by rw [sortK_len]; have := HM.out; omega)⟩
      obtain ⟨y, hy⟩ : ∃ y, y = (alLook L x).getD ⟨0, ByteArray.empty⟩ := ⟨_, rfl⟩
      have hbW : Below W.heap.size W wr := HB1.out.trans (hR.out.2.mono HB1.out.size)
      have ck : wr.cell? ⟨g, k, none⟩ = some (.string x) := by
        obtain ⟨cur, hg, _, hc⟩ := HK.out
        have := (hR.out.2.block g HG.out).trans hg
        rw [cell_blk0 this]
        exact hc k x hx
      have cB : wr.cell? ⟨Bn, 0, none⟩ = some (.map (some b)) := (hbW.cell (p := ⟨Bn, 0, none⟩) HB.out.1).trans HB.out.2
      have hxs : x.size ≤ maxLen := by
        obtain ⟨v', hv'⟩ := sortK_mem.1 (List.mem_of_getElem? hx)
        obtain ⟨_, _, _, _, hok⟩ := HL.out
        exact (hok _ hv').1
      have hlk := (HL.out.fr (S := []) ⟨hbW.os, hbW.tape, hbW.output, hbW.size, fun k hk _ => hbW.block k hk⟩ (by simp)).look Tryz.underlying210 (zeroGrip wr) trivial (k := x) hxs
      rw [← hy] at hlk
      have HY : Hid (y = (alLook L x).getD ⟨0, ByteArray.empty⟩ ∧ (sortK L)[k]? = some x) := ⟨hy, hx⟩
      clear hy hx
      change (Instr.lookup _ _ (.string x) false).run _ _ = .ok (.agg #[.int .u8 (y.way : Int), .string y.val]) _ at hlk
      have hsz := hR.out.2.size
      have hrk : k < ((sortK L).map fun k => (alLook L k).getD ⟨0, ByteArray.empty⟩).length := by rw [List.length_map, sortK_len]; have := HM.out; omega
      have HT : Hid (vs.take (k + 1) = vs.take k ++ [y]) := by
        show _ = _
        rw [HV.out, List.take_add_one, List.getElem?_map, HY.out.2, HY.out.1]; rfl
      clear hrk
      gi_wp2_with (gi_at_builtin; refine wpListIn_append_own _ rfl _ _ 355 rfl w1.heap.size 129 i0 _ 2 24 Tryz.underlying355 hi hz0 hz1 hz2 rfl (by decide) _ k _ rfl (hR.out.1.alloc _) ⟨wr.heap.size, 0, none⟩ 1 1 (elG y) rfl rfl (cells_new _ #[.int .u8 (y.way : Int), .string y.val] _) (by intro u hu; simp [elG] at hu; rcases hu with rfl | rfl <;> rfl) (by unfold maxLen; omega) (by omega) (by simp; omega) ?_; intro v' w2 hown' hgrow _)
      go_roundw
      case rel =>
        refine ⟨k + 1, by omega, by simp, by rw [HT.out, elsG_snoc]; exact hown', ?_⟩
        exact ((hR.out.2.alloc hsz _).grown hgrow (by simp; omega) (fun j hj => (hR.out.1.lt j hj).1))
      case measure => simp [intOf]; omega
    · obtain rfl : k = m0 := by omega
      obtain ⟨g2, cap2, rfl⟩ := own_pos0 hR.out.1 (by omega)
      have HK2 : Hid (∃ cur2, wr.heap[g2]? = some (.cells cur2 129 (0, 0)) ∧ W.heap.size ≤ g2 ∧ ∀ (j : Nat) (y : AGrip), vs[j]? = some y → cur2[j * 2]? = some (Value.int .u8 (y.way : Int)) ∧ cur2[j * 2 + 1]? = some (Value.string y.val)) := by
        rcases hR.out.1.2 with ⟨_, h3⟩ | ⟨g', cap', cur, e, hb, hg, _, _, hsz, htk⟩
        · omega
        · obtain ⟨e1, e2⟩ : g2 = g' ∧ cap2 = cap' := by simpa using e
          subst e1
          have hvl : vs.length = k := by rw [HV.out, List.length_map, sortK_len, HM.out]
          refine ⟨cur, hg, Nat.le_trans HB1.out.size hb, fun j y hj => ?_⟩
          have hjk : j < k := by have := (List.getElem?_eq_some_iff.1 hj).1; omega
          have e3 : vs.take k = vs := List.take_of_length_le (by omega)
          rw [e3] at htk
          have hat := elsG_at vs j y hj
          rw [← htk] at hat
          rw [List.getElem?_take_of_lt (by omega), List.getElem?_take_of_lt (by omega)] at hat
          simpa using hat
      obtain ⟨cur, hgc, hgW, hcs⟩ := HK.out
      obtain ⟨cur2, hgc2, hgW2, hcs2⟩ := HK2.out
      have hgr := (hR.out.2.block g HG.out).trans hgc
      have hbW : Below W.heap.size W wr := HB1.out.trans (hR.out.2.mono HB1.out.size)
      have HC : Hid ((∀ (k : Nat) (x : ByteArray), (sortK L)[k]? = some x → cur[k]? = some (Value.string x)) ∧ ∀ (j : Nat) (y : AGrip), vs[j]? = some y → cur2[j * 2]? = some (Value.int .u8 (y.way : Int)) ∧ cur2[j * 2 + 1]? = some (Value.string y.val)) := ⟨hcs, hcs2⟩
      have HS : Hid (J [] wr ∧ wr.heap[g]? = some (.cells cur 9 (0, 0)) ∧ Pk g wr ∧ wr.heap[g2]? = some (.cells cur2 129 (0, 0)) ∧ Pk g2 wr) := ⟨HJ1.out _ hbW, hgr, hP0 _ _ hgW hbW, hgc2, hP0 _ _ hgW2 hbW⟩
      clear HK HK2 hgc hcs hgc2 hcs2 hgr hbW hP0
      gi_wp2
      gi_loopw [27] (fun i wr => ∃ j : Nat, j ≤ k ∧ i = .int .i64 j ∧ Hid (J ((sortG L).take j) wr ∧ wr.heap[g]? = some (.cells cur 9 (0, 0)) ∧ Pk g wr ∧ wr.heap[g2]? = some (.cells cur2 129 (0, 0)) ∧ Pk g2 wr))
        (fun i _ => k - (intOf i).toNat)
      case atStart => exact ⟨0, Nat.zero_le _, rfl, by rw [List.take_zero]; exact HS.out⟩
      case round =>
        obtain ⟨j, hj, rfl, hQ⟩ := hrel
        by_cases hlt2 : j < k
        · obtain ⟨x, hx⟩ : ∃ x, (sortK L)[j]? = some x := ⟨_, List.getElem?_eq_getElem (by rw [sortK_len]; have := HM.out; omega)⟩
          obtain ⟨y, hy⟩ : ∃ y, y = (alLook L x).getD ⟨0, ByteArray.empty⟩ := ⟨_, rfl⟩
          have hvy : vs[j]? = some y := by rw [HV.out, List.getElem?_map, hx, hy]; rfl
          have HXY : Hid ((sortG L).take (j + 1) = (sortG L).take j ++ [(x, y)]) := by
            show _ = _
            rw [List.take_add_one]
            unfold sortG
            rw [List.getElem?_map, hx, hy]; rfl
          have cx : wr.cell? ⟨g, j, none⟩ = some (.string x) := by rw [cell_blk0 hQ.out.2.1]; exact HC.out.1 j x hx
          have cy0 : wr.cell? ⟨g2, j * 2, none⟩ = some (.int .u8 (y.way : Int)) := by rw [cell_blk0 hQ.out.2.2.2.1]; exact (HC.out.2 j y hvy).1
          have cy1 : wr.cell? ⟨g2, j * 2 + 1, none⟩ = some (.string y.val) := by rw [cell_blk0 hQ.out.2.2.2.1]; exact (HC.out.2 j y hvy).2
          obtain ⟨fn, tmps, assign, body, hy2, hRR⟩ := hY _ (x, y) wr hQ.out.1 (by rw [List.length_take, ← HM.out]; omega) (by rw [← HXY.out]; exact List.take_prefix _ _)
          clear hx hy hvy
          gi_wp2
          refine hRR.mono ?_
          rintro e W3 (⟨rfl, hJ3, hk3⟩ | ⟨rfl, hJx3⟩)
          · have p1 := hP2 _ _ _ _ _ (.inl rfl) hk3 hQ.out.2.1 hQ.out.2.2.1
            have p2 := hP2 _ _ _ _ _ (.inr rfl) hk3 hQ.out.2.2.2.1 hQ.out.2.2.2.2
            have HN : Hid (J ((sortG L).take (j + 1)) W3 ∧ W3.heap[g]? = some (.cells cur 9 (0, 0)) ∧ Pk g W3 ∧ W3.heap[g2]? = some (.cells cur2 129 (0, 0)) ∧ Pk g2 W3) := ⟨by rw [HXY.out]; exact hJ3, p1.1.trans hQ.out.2.1, p1.2, p2.1.trans hQ.out.2.2.2.1, p2.2⟩
            clear p1 p2 hJ3 hk3
            gi_wp2
            go_roundw
            case rel => exact ⟨j + 1, by omega, by simp, HN.out⟩
            case measure => simp [intOf]; omega
          · gi_wp2
            refine bodyPost_ret (results_none rfl _ _ _) rfl ?_
            exact ⟨⟨_, rfl⟩, .inr ⟨_, by rw [← HXY.out]; exact List.take_prefix _ _, hJx3⟩⟩
        · obtain rfl : j = k := by omega
          gi_wp2
          go_end0
          refine ⟨⟨_, rfl⟩, .inl ⟨_, ?_, hQ.out.1⟩⟩
          rw [List.take_of_length_le]
          unfold sortG
          rw [List.length_map, sortK_len, HM.out]
          exact Nat.le_refl _
/-- the walk, as whoever ranges over it has it; Q holds for all that the map holds -/
theorem byKeysG_stops (n : Nat) (hn : 6 ≤ n) (Bn b m : Nat) (L : List (ByteArray × AGrip)) (Q : ByteArray × AGrip → Prop) (hQ : ∀ x ∈ sortG L, Q x) (hm : m ≤ 67108864) (w : World) (hBl : Bn < w.heap.size) (hBn : w.cell? ⟨Bn, 0, none⟩ = some (.map (some b))) (hL : MapAs KS EG w b m L)
    (Kp : World → World → Prop) (Pk : Nat → World → Prop)
    (hP0 : ∀ W k A, Below w.heap.size w W → W.heap.size ≤ k → Below W.heap.size W A → Pk k A)
    (hP2 : ∀ k A B c t, (t = 9 ∨ t = 129) → Kp A B → A.heap[k]? = some (.cells c t (0, 0)) → Pk k A → B.heap[k]? = A.heap[k]? ∧ Pk k B) :
    SeqStopsK Fence.wide n Tryz.prog 225 #[.pointer (some ⟨Bn, 0, none⟩)] (fun y : { x : ByteArray × AGrip // Q x } => #[.string y.1.1, .agg #[.int .u8 (y.1.2.way : Int), .string y.1.2.val]]) Kp (fun ys => ys.map (·.1) = sortG L) (fun _ => True) L.length w := fun l J Jx W hW hJ _ hY h0 => by
  have h := byKeysG_in n hn l Bn b m L hm W Kp Pk (fun k A => hP0 W k A hW) hP2 (fun pre W => ∃ pre' : List { x : ByteArray × AGrip // Q x }, pre'.map (·.1) = pre ∧ J pre' W) (fun pre W => ∃ pre' : List { x : ByteArray × AGrip // Q x }, pre'.map (·.1) = pre ∧ Jx pre' W)
    (fun s A B hs hgr => by obtain ⟨p', e, hj⟩ := hs; exact ⟨p', e, hJ p' A B none hj hgr (fun r e => by cases e)⟩)
    (fun pre x W1 hj hlt hpre => by
      obtain ⟨p', e, hj⟩ := hj
      have hx : Q x := hQ x (hpre.subset (by simp))
      obtain ⟨fn, tmps, assign, body, hy, hR⟩ := hY p' ⟨x, hx⟩ W1 hj (by rw [← e, List.length_map] at hlt; exact hlt)
      refine ⟨fn, tmps, assign, body, hy, hR.mono ?_⟩
      rintro e2 W' (⟨r1, r2, r3⟩ | ⟨r1, r2⟩)
      · exact .inl ⟨r1, ⟨p' ++ [⟨x, hx⟩], by simp [e], r2⟩, r3⟩
      · exact .inr ⟨r1, ⟨p' ++ [⟨x, hx⟩], by simp [e], r2⟩⟩)
    ((hW.cell (p := ⟨Bn, 0, none⟩) hBl).trans hBn) (hL.fr (S := []) ⟨hW.os, hW.tape, hW.output, hW.size, fun k hk _ => hW.block k hk⟩ (by simp)) ⟨[], rfl, h0⟩
  refine h.mono ?_
  rintro e W' ⟨he, ⟨ys, rfl, p', e2, hj⟩ | ⟨pre, _, p', _, hj⟩⟩
  · exact ⟨he, .inl ⟨p', e2, hj⟩⟩
  · exact ⟨he, .inr ⟨p', trivial, hj⟩⟩
set_option maxHeartbeats 1000000 in
theorem byKeysG_fn (n : Nat) (b : Nat) (w : World) :
    CallsIn Fence.wide n Tryz.prog 173 #[.map (some b)] w fun e w' => e = .returned (.func (.func 225) #[] #[.pointer (some ⟨w.heap.size, 0, none⟩)]) ∧ w' = w.alloc (.cells #[.map (some b)] 210) := by
  refine callsIn_of_wp Tryz.func173 rfl trivial ?_ rfl
  simp only [Tryz.ntmps173, List.size_toArray, List.length_cons, List.length_nil, Nat.reduceAdd, Nat.reduceSub, Array.replicate_succ, Array.replicate_zero, List.push_toArray, List.append_toArray, List.nil_append, List.cons_append]
  gi_wp2
  go_ret
  exact ⟨rfl, rfl⟩
end Go.Proofs.YtejiankgafjppabGreatDoor
