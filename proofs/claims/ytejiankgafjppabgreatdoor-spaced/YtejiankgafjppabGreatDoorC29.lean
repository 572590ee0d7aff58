import Derived.Test.YtejiankgafjppabGreatDoorC02
import Derived.Test.YtejiankgafjppabGreatDoorC05
import Derived.Test.YtejiankgafjppabGreatDoorC07
import Derived.Test.YtejiankgafjppabGreatDoorC23
import Derived.Test.YtejiankgafjppabGreatDoorC28
/- FIELDS of a payload: FieldsOf, take, NumberOf, Text, More, Right, where all that is taken is there. -/
namespace Go.Proofs.YtejiankgafjppabGreatDoor
open Go.RowKit
open Sc

theorem str_data0 (l : List Nat) : (str l).data = (l.map fun x => UInt8.ofNat x).toArray := by
  have aux : ∀ (l : List Nat) (r : ByteArray), ((l.map fun x : Nat => (x : Int)).foldl (fun r n => r.push (UInt8.ofNat n.toNat)) r).data = r.data ++ (l.map fun x => UInt8.ofNat x).toArray := by
    intro l
    induction l with
    | nil => intro r; simp
    | cons x l ih =>
      intro r
      rw [List.map_cons, List.foldl_cons, ih]
      simp [ByteArray.push]
  unfold str
  rw [aux]
  simp
theorem bytesOf_str0 {l : List Nat} (h : Byt l) : bytesOf (str l) = l := by
  unfold bytesOf
  rw [str_data0]
  simp only [List.map_map]
  have : ∀ (m : List Nat), Byt m → m.map (UInt8.toNat ∘ fun x => UInt8.ofNat x) = m := by
    intro m
    induction m with
    | nil => intro _; rfl
    | cons x m ih =>
      intro hb
      have hx : x < 256 := hb x (by simp)
      rw [List.map_cons, ih (fun y hy => hb y (by simp [hy]))]
      congr 1
      simp
      omega
  exact this l h
abbrev fldO (b off n cap : Nat) : Obj := .cells #[.slice (some ⟨b, off, none⟩) n cap, .bool false] 376
/-- what is left to be taken -/
def FldIn (w : World) (fp : Nat) (rest : List Nat) : Prop :=
  ∃ b off cap, w.heap[fp]? = some (fldO b off rest.length cap) ∧ RowAt w b off rest ∧ b < w.heap.size ∧ rest.length ≤ cap ∧ cap ≤ maxLen ∧ b ≠ fp ∧ Byt rest
theorem FldIn.lt {w : World} {fp : Nat} {rest : List Nat} (h : FldIn w fp rest) : fp < w.heap.size := by obtain ⟨_, _, _, h1, _⟩ := h; exact (Array.getElem?_eq_some_iff.1 h1).1
/-- its two blocks are as they were -/
theorem FldIn.keep {w w' : World} {fp : Nat} {rest : List Nat} (h : FldIn w fp rest) {n : Nat} (hf : ∀ k, n ≤ k → k < w.heap.size → w'.heap[k]? = w.heap[k]?) (hs : w.heap.size ≤ w'.heap.size) (hb : ∀ b off cap, w.heap[fp]? = some (fldO b off rest.length cap) → n ≤ b) (hn : n ≤ fp) : FldIn w' fp rest := by
  have hfp := h.lt
  obtain ⟨b, off, cap, h1, h2, h3, h4⟩ := h
  refine ⟨b, off, cap, (hf fp hn hfp).trans h1, fun i hi => ?_, by omega, h4⟩
  exact (World.cell?_of_block (a := ⟨b, off + i, none⟩) (hf b (hb b off cap h1) h3)).trans (h2 i hi)
/-- fields that lie from n on -/
structure FldAt (n : Nat) (w : World) (fp : Nat) (rest : List Nat) : Prop where
  fld : FldIn w fp rest
  low : n ≤ fp
  row : ∀ b off cap, w.heap[fp]? = some (fldO b off rest.length cap) → n ≤ b
  typ : ∀ b off cap, w.heap[fp]? = some (fldO b off rest.length cap) → ∃ c fr, w.heap[b]? = some (.cells c 5 fr)
theorem FldAt.keep {n : Nat} {w w' : World} {fp : Nat} {rest : List Nat} (h : FldAt n w fp rest) (hf : ∀ k, n ≤ k → k < w.heap.size → w'.heap[k]? = w.heap[k]?) (hs : w.heap.size ≤ w'.heap.size) : FldAt n w' fp rest := by
  have hfp := h.fld.lt
  refine ⟨h.fld.keep hf hs h.row h.low, h.low, fun b off cap hb => ?_, fun b off cap hb => ?_⟩
  · rw [hf fp h.low hfp] at hb
    exact h.row b off cap hb
  · rw [hf fp h.low hfp] at hb
    obtain ⟨c, fr, hc⟩ := h.typ b off cap hb
    exact ⟨c, fr, (hf b (h.row b off cap hb) (Array.getElem?_eq_some_iff.1 hc).1).trans hc⟩
/-- what is no field's has turned -/
theorem FldAt.apart {n : Nat} {S : List Nat} {w w' : World} {fp : Nat} {rest : List Nat} (h : FldAt n w fp rest) (hf : Fr S w w') (hS : ∀ k ∈ S, k ≠ fp ∧ ∀ c fr, w.heap[k]? ≠ some (.cells c 5 fr)) : FldAt n w' fp rest := by
  have hfp := h.fld.lt
  have e0 := hf.block fp hfp (fun e => (hS fp e).1 rfl)
  have eb : ∀ b off cap, w.heap[fp]? = some (fldO b off rest.length cap) → w'.heap[b]? = w.heap[b]? := fun b off cap hb => by
    obtain ⟨c, fr, hc⟩ := h.typ b off cap hb
    exact hf.block b (Array.getElem?_eq_some_iff.1 hc).1 (fun e => (hS b e).2 c fr hc)
  refine ⟨?_, h.low, fun b off cap hb => h.row b off cap (by rw [← e0]; exact hb), fun b off cap hb => ?_⟩
  · obtain ⟨b, off, cap, h1, h2, h3, h4⟩ := h.fld
    refine ⟨b, off, cap, e0.trans h1, fun i hi => ?_, by have := hf.size; omega, h4⟩
    exact (World.cell?_of_block (a := ⟨b, off + i, none⟩) (eb b off cap h1)).trans (h2 i hi)
  · rw [e0] at hb
    rw [eb b off cap hb]
    exact h.typ b off cap hb
theorem FldAt.fr {n : Nat} {S : List Nat} {w w' : World} {fp : Nat} {rest : List Nat} (h : FldAt n w fp rest) (hf : Fr S w w') (hS : ∀ k ∈ S, k < n) : FldAt n w' fp rest :=
  h.keep (fun k hk hl => hf.block k hl (fun hm => by have := hS k hm; omega)) hf.size
set_option maxRecDepth 100000 in
set_option maxHeartbeats 1000000 in
theorem fieldsOf_any (l : List Nat) (hl : Byt l) (hs : l.length ≤ 4096) (w : World) :
    Calls Tryz.prog 202 #[.string (str l)] w fun e w' => ∃ fp, e = .returned (.pointer (some ⟨fp, 0, none⟩)) ∧ FldAt w.heap.size w' fp l ∧ Fr [] w w' := by
  have hrb := run_bytes w (str l)
  have hsz : (str l).size = l.length := by rw [← bytesOf_len, bytesOf_str0 hl]
  have hrow := row_str w (str l) (grownCap w (str l).size 0 5)
  have hty : (w.drew.alloc (strO (str l) (grownCap w (str l).size 0 5))).heap[w.heap.size]? = some (strO (str l) (grownCap w (str l).size 0 5)) := heap_alloc_new w.drew _
  have hge := grownCap_ge w (str l).size 0 5
  have hle := grownCap_le_maxLen w (str l).size 0 5 (by rw [hsz]; unfold maxLen; omega)
  rw [bytesOf_str0 hl] at hrow
  obtain ⟨W, hW⟩ : ∃ W, W = w.drew.alloc (strO (str l) (grownCap w (str l).size 0 5)) := ⟨_, rfl⟩
  have hf : Fr [] w W := by rw [hW]; exact (Fr.refl [] w).drew.alloc _
  have hs1 : W.heap.size = w.heap.size + 1 := by rw [hW]; simp
  rw [← hW] at hrb hrow hty
  rw [hsz] at hrb hge hle
  obtain ⟨cap, hcap⟩ : ∃ cap, cap = grownCap w l.length 0 5 := ⟨_, rfl⟩
  rw [← hcap] at hrb hge hle
  clear hW hcap hsz
  go_enter Tryz.func202, Tryz.ntmps202
  go_wp2
  go_ret
  have hn := heap_alloc_new W (fldO w.heap.size 0 l.length cap)
  refine ⟨W.heap.size, by rw [hs1]; rfl, ⟨⟨w.heap.size, 0, cap, hn, fun i hi => ?_, by simp; omega, hge, hle, by omega, hl⟩, by omega, fun b off c hb => ?_, fun b off c hb => ?_⟩, hf.alloc _⟩
  · rw [World.cell?_alloc_lt _ _ ⟨w.heap.size, 0 + i, none⟩ (by show w.heap.size < _; omega)]
    exact hrow i hi
  · rw [hn] at hb
    cases hb
    exact Nat.le_refl _
  · rw [hn] at hb
    cases hb
    exact ⟨_, _, (Below.heap_alloc _ _ _ (by omega)).trans hty⟩
theorem RowAt.fr {w w' : World} {b off : Nat} {l : List Nat} (h : RowAt w b off l) (hb : w'.heap[b]? = w.heap[b]?) : RowAt w' b off l := fun i hi =>
  (World.cell?_of_block (a := ⟨b, off + i, none⟩) hb).trans (h i hi)
/-- what was taken -/
def Taken (n fp : Nat) (rest : List Nat) (k : Nat) (w : World) (e : Ending) (w' : World) : Prop :=
  ∃ b off, e = .returned (.slice (some ⟨b, off, none⟩) k k) ∧ RowAt w' b off (rest.take k) ∧ FldAt n w' fp (rest.drop k) ∧ Fr [fp] w w'
set_option maxRecDepth 100000 in
set_option maxHeartbeats 1000000 in
theorem ftake_any (n fp k : Nat) (rest : List Nat) (w : World) (h : FldAt n w fp rest) (hk : k ≤ rest.length) (hk2 : k ≤ 4096) :
    Calls Tryz.prog 295 #[.pointer (some ⟨fp, 0, none⟩), .int .i64 (k : Int)] w (Taken n fp rest k w) := by
  obtain ⟨⟨b, off, cap, h1, h2, h3, h4, h5, h6, h7⟩, hlow, hrow, htyp⟩ := h
  have hty := htyp b off cap h1
  have c0 := blk_cell h1 0
  have f0 := blk_free h1 0
  simp at c0
  have hnb := hrow b off cap h1
  have HH : Hid (w.heap[fp]? = some (fldO b off rest.length cap) ∧ RowAt w b off rest) := ⟨h1, h2⟩
  have hfp : fp < w.heap.size := (Array.getElem?_eq_some_iff.1 h1).1
  obtain ⟨m, hm⟩ : ∃ m, m = rest.length := ⟨_, rfl⟩
  rw [← hm] at c0 hk h4 HH
  have HM : Hid (m = rest.length) := hm
  have i1 : ¬ (m : Int) < (k : Int) := by omega
  have hsp := split_any b off m cap k w hk h4 h5
  have HTY : Hid (∃ c fr, w.heap[b]? = some (.cells c 5 fr)) := hty
  clear h1 h2 hm hrow htyp hty
  go_enter Tryz.func295, Tryz.ntmps295
  go_wp2_with fail
  refine hsp.mono ?_
  clear hsp
  rintro e w1 ⟨rfl, q, rfl⟩
  obtain ⟨off', hcut⟩ : ∃ off', cutA b off k cap = some ⟨b, off', none⟩ ∧ (k < cap → off' = off + k) := by
    unfold cutA
    by_cases hc : cap = k
    · rw [if_pos hc]; exact ⟨off, rfl, fun h => by omega⟩
    · rw [if_neg hc]; exact ⟨off + k, rfl, fun _ => rfl⟩
  obtain ⟨hcut1, hcut2⟩ := hcut
  rw [hcut1]
  have d0 : (w.drewN q).cell? ⟨fp, 0, none⟩ = some (.slice (some ⟨b, off, none⟩) m cap) := by rw [World.cell?_of_block (a := ⟨fp, 0, none⟩) (show (w.drewN q).heap[fp]? = w.heap[fp]? by rw [heap_drewN])]; exact c0
  have g0 : (w.drewN q).frozen? ⟨fp, 0, none⟩ = false := by rw [World.frozen?_of_block (a := ⟨fp, 0, none⟩) (show (w.drewN q).heap[fp]? = w.heap[fp]? by rw [heap_drewN])]; exact f0
  clear c0 f0 hcut1
  go_wp2
  go_ret
  obtain ⟨W, hW⟩ : ∃ W, W = (w.drewN q).setCell ⟨fp, 0, none⟩ (.slice (some ⟨b, off', none⟩) (m - k) (cap - k)) := ⟨_, rfl⟩
  rw [← hW]
  have hf : Fr [fp] w W := by rw [hW]; exact (frDrewN (Fr.refl [fp] w) q).setCell (.inl (by simp)) _
  have hbb : W.heap[b]? = w.heap[b]? := hf.block b h3 (by simpa using h6)
  have hbk : W.heap[fp]? = some (fldO b off' (m - k) (cap - k)) := by
    have : (w.drewN q).heap[fp]? = some (fldO b off m cap) := by rw [heap_drewN]; exact HH.out.1
    have := blk_set this 0 (.slice (some ⟨b, off', none⟩) (m - k) (cap - k))
    rw [hW]; simpa using this
  have hdl : (rest.drop k).length = m - k := by rw [List.length_drop, HM.out]
  refine ⟨b, off, rfl, fun i hi => ?_, ⟨⟨b, off', cap - k, by rw [hdl]; exact hbk, fun i hi => ?_, by have := hf.size; omega, by rw [hdl]; omega, by omega, h6, h7.drop k⟩, hlow, fun b' o' c' hb' => ?_, fun b' o' c' hb' => ?_⟩, hf⟩
  · have hi2 : i < rest.length := by rw [List.length_take] at hi; omega
    have hik : i < k := by rw [List.length_take] at hi; omega
    rw [(HH.out.2.fr hbb) i hi2]
    simp [at_, List.getElem?_take_of_lt hik]
  · rw [hdl] at hi
    have ho : off' = off + k := hcut2 (by omega)
    have hi2 : k + i < rest.length := by rw [← HM.out]; omega
    have := (HH.out.2.fr hbb) (k + i) hi2
    rw [ho, Nat.add_assoc]
    rw [this]
    simp [at_, List.getElem?_drop]
  · rw [hdl, hbk] at hb'
    cases hb'
    exact hnb
  · rw [hdl, hbk] at hb'
    cases hb'
    rw [hbb]
    exact HTY.out
set_option maxRecDepth 100000 in
set_option maxHeartbeats 1000000 in
theorem num64_any (n fp : Nat) (rest : List Nat) (w : World) (h : FldAt n w fp rest) (hk : 8 ≤ rest.length) :
    Calls Tryz.prog 247 #[.pointer (some ⟨fp, 0, none⟩)] w fun e w' => e = .returned (.int .u64 ((val (rest.take 8) : Nat) : Int)) ∧ FldAt n w' fp (rest.drop 8) ∧ Fr [fp] w w' := by
  have hb : Byt rest := by obtain ⟨_, _, _, _, _, _, _, _, _, h⟩ := h.fld; exact h
  have ht := ftake_any n fp 8 rest w h hk (by omega)
  clear h
  go_enter Tryz.func247, Tryz.ntmps247
  go_wp2_with fail
  refine (width_u64 w).mono ?_
  rintro e w1 ⟨rfl, rfl⟩
  go_wp2_with fail
  refine ht.mono ?_
  clear ht
  rintro e w2 ⟨b, off, rfl, hrow, hf2, hfr⟩
  have HF : Hid (FldAt n w2 fp (rest.drop 8) ∧ Fr [fp] w1 w2) := ⟨hf2, hfr⟩
  have hl8 : (rest.take 8).length = 8 := by rw [List.length_take]; omega
  have htn := take_u64 b off 8 8 (rest.take 8) w2 (hb.take 8) hl8 (by omega) (by omega) (by unfold maxLen; omega) hrow
  rw [List.take_take, Nat.min_self] at htn
  clear hf2 hfr hrow
  go_wp2_with fail
  refine htn.mono ?_
  clear htn
  rintro e w3 ⟨rfl, q, rfl⟩
  go_wp2
  go_ret
  exact ⟨rfl, HF.out.1.fr (frDrewN (Fr.refl [] w2) q) (by simp), frDrewN HF.out.2 q⟩
set_option maxRecDepth 100000 in
set_option maxHeartbeats 1000000 in
theorem num8_any (n fp : Nat) (rest : List Nat) (w : World) (h : FldAt n w fp rest) (hk : 1 ≤ rest.length) :
    Calls Tryz.prog 249 #[.pointer (some ⟨fp, 0, none⟩)] w fun e w' => e = .returned (.int .u8 ((val (rest.take 1) : Nat) : Int)) ∧ FldAt n w' fp (rest.drop 1) ∧ Fr [fp] w w' := by
  have hb : Byt rest := by obtain ⟨_, _, _, _, _, _, _, _, _, h⟩ := h.fld; exact h
  have ht := ftake_any n fp 1 rest w h hk (by omega)
  clear h
  go_enter Tryz.func249, Tryz.ntmps249
  go_wp2_with fail
  refine (width_u8 w).mono ?_
  rintro e w1 ⟨rfl, rfl⟩
  go_wp2_with fail
  refine ht.mono ?_
  clear ht
  rintro e w2 ⟨b, off, rfl, hrow, hf2, hfr⟩
  have HF : Hid (FldAt n w2 fp (rest.drop 1) ∧ Fr [fp] w1 w2) := ⟨hf2, hfr⟩
  have hl8 : (rest.take 1).length = 1 := by rw [List.length_take]; omega
  have htn := take_u8 b off 1 1 (rest.take 1) w2 (hb.take 1) hl8 (by omega) (by omega) (by unfold maxLen; omega) hrow
  rw [List.take_take, Nat.min_self] at htn
  clear hf2 hfr hrow
  go_wp2_with fail
  refine htn.mono ?_
  clear htn
  rintro e w3 ⟨rfl, q, rfl⟩
  go_wp2
  go_ret
  exact ⟨rfl, HF.out.1.fr (frDrewN (Fr.refl [] w2) q) (by simp), frDrewN HF.out.2 q⟩
set_option maxRecDepth 100000 in
set_option maxHeartbeats 1000000 in
theorem text_fld (n fp k : Nat) (t rest : List Nat) (w : World) (h : FldAt n w fp (k :: t ++ rest)) (hk : t.length = k) (hk2 : k < 256) :
    Calls Tryz.prog 250 #[.pointer (some ⟨fp, 0, none⟩)] w fun e w' => e = .returned (.string (str t)) ∧ FldAt n w' fp rest ∧ Fr [fp] w w' := by
  have hn := num8_any n fp (k :: t ++ rest) w h (by simp)
  have e1 : val ((k :: t ++ rest).take 1) = k := by simp [val]
  have e2 : (k :: t ++ rest).drop 1 = t ++ rest := by simp
  rw [e1, e2] at hn
  clear h e1 e2
  go_enter Tryz.func250, Tryz.ntmps250
  go_wp2_with fail
  refine hn.mono ?_
  clear hn
  rintro e w1 ⟨rfl, hf1, hfr1⟩
  have ht := ftake_any n fp k (t ++ rest) w1 hf1 (by simp; omega) (by omega)
  have e3 : (t ++ rest).take k = t := by rw [← hk]; simp
  have e4 : (t ++ rest).drop k = rest := by rw [← hk]; simp
  unfold Taken at ht
  rw [e3, e4] at ht
  have HF : Hid (Fr [fp] w w1) := hfr1
  clear hf1 hfr1 e3 e4
  have j1 : IntKind.i64.wrap (k : Int) = (k : Int) := by rw [IntKind.wrap_i64]; omega
  go_wp2_with fail
  refine ht.mono ?_
  clear ht
  rintro e w2 ⟨b, off, rfl, hrow, hf2, hfr2⟩
  have hcv := run_str w2 b off k k t hk hrow
  have H2 : Hid (FldAt n w2 fp rest ∧ Fr [fp] w w2) := ⟨hf2, HF.out.trans hfr2⟩
  clear hf2 hfr2 hrow
  go_wp2
  go_ret
  exact ⟨rfl, H2.out⟩
set_option maxHeartbeats 1000000 in
theorem more_any (n fp : Nat) (rest : List Nat) (w : World) (h : FldAt n w fp rest) :
    Calls Tryz.prog 248 #[.pointer (some ⟨fp, 0, none⟩)] w fun e w' => e = .returned (.bool (decide (0 < rest.length))) ∧ w' = w := by
  obtain ⟨⟨b, off, cap, h1, _⟩, _, _⟩ := h
  have c0 := blk_cell h1 0
  simp at c0
  clear h1
  obtain ⟨m, hm⟩ : ∃ m, m = rest.length := ⟨_, rfl⟩
  rw [← hm] at c0 ⊢
  clear hm
  go_enter Tryz.func248, Tryz.ntmps248
  go_wp2
  go_ret
  refine ⟨?_, rfl⟩
  simp
set_option maxHeartbeats 1000000 in
theorem right_any (n fp : Nat) (rest : List Nat) (w : World) (h : FldAt n w fp rest) :
    Calls Tryz.prog 251 #[.pointer (some ⟨fp, 0, none⟩)] w fun e w' => e = .returned (.bool (!decide (0 < rest.length))) ∧ w' = w := by
  have hm := more_any n fp rest w h
  obtain ⟨⟨b, off, cap, h1, _⟩, _, _⟩ := h
  have c1 := blk_cell h1 1
  simp at c1
  clear h1
  go_enter Tryz.func251, Tryz.ntmps251
  go_wp2_with fail
  refine hm.mono ?_
  rintro e w1 ⟨rfl, rfl⟩
  go_wp2
  go_ret
  exact ⟨rfl, rfl⟩
end Go.Proofs.YtejiankgafjppabGreatDoor
/- A SHARD READS ITS ENTRIES: readPrepared, readDecided, read. -/
namespace Go.Proofs.YtejiankgafjppabGreatDoor
open Go.RowKit Go.Maps
open Sc

/-- the holds of an entry are taken -/
def AShard.takes (s : AShard) (t : Nat) : List (ByteArray × AGrip) → AShard
  | [] => s
  | x :: r => (s.take t x.1 x.2).takes t r
theorem AShard.takes_snoc : ∀ (ys : List (ByteArray × AGrip)) (s : AShard) (t : Nat) (x : ByteArray × AGrip), s.takes t (ys ++ [x]) = (s.takes t ys).take t x.1 x.2
  | [], _, _, _ => rfl
  | y :: ys, s, t, x => AShard.takes_snoc ys (s.take t y.1 y.2) t x
/-- how much is left -/
def fldLen (w : World) (fp : Nat) : Nat := match w.cell? ⟨fp, 0, none⟩ with
  | some (.slice _ n _) => n
  | _ => 0
theorem FldIn.len {w : World} {fp : Nat} {rest : List Nat} (h : FldIn w fp rest) : fldLen w fp = rest.length := by
  obtain ⟨b, off, cap, h1, _⟩ := h
  have c0 := blk_cell h1 0
  simp at c0
  unfold fldLen
  rw [c0]
/-- one that is prepared -/
def AShard.prepd (s : AShard) (t : Nat) (xs : List (ByteArray × AGrip)) : AShard := ({ s with txns := alPut s.txns t ⟨3, 0, 0⟩ } : AShard).takes t xs
theorem holdB_cons (x : ByteArray × AGrip) (xs : List (ByteArray × AGrip)) : holdsB (x :: xs) = x.2.way :: (x.1.size :: bytesOf x.1 ++ (x.2.val.size :: bytesOf x.2.val ++ holdsB xs)) := by
  simp [holdsB, holdB]
theorem FldAt.more {n : Nat} {w : World} {fp : Nat} {x : ByteArray × AGrip} {xs : List (ByteArray × AGrip)} (_h : FldAt n w fp (holdsB (x :: xs))) : 0 < (holdsB (x :: xs)).length := by rw [holdB_cons]; simp
set_option maxRecDepth 100000 in
set_option maxHeartbeats 4000000 in
theorem readPrep_any (n sp lg bV bT bH m fp t : Nat) (s : AShard) (xs : List (ByteArray × AGrip)) (w : World) (h : ShIn w sp lg bV bT bH m s) (hf : FldAt n w fp (be 8 t ++ holdsB xs)) (ht : t < 18446744073709551616) (h0 : t ≠ 0) (hst : (s.txn t).state = 0) (hsm : ∀ x ∈ xs, SmallH x ∧ x.2.way ≤ 2) (hl : xs.length ≤ 16) (hm : m + 32 < maxLen) (hlow : sp < n ∧ bV < n ∧ bT < n ∧ bH < n) :
    Calls Tryz.prog 203 #[.pointer (some ⟨sp, 0, none⟩), .pointer (some ⟨fp, 0, none⟩)] w fun e w' => e = .returned (.bool true) ∧ ShIn w' sp lg bV bT bH (m + 1 + xs.length) (s.prepd t xs) ∧ Fr [fp, bT, bH] w w' := by
  have hnum := num64_any n fp (be 8 t ++ holdsB xs) w hf (by simp [be_len])
  have e1 : val ((be 8 t ++ holdsB xs).take 8) = t := by
    rw [List.take_left' (by rw [be_len])]
    exact val_be 8 t (by simpa using ht)
  have e2 : (be 8 t ++ holdsB xs).drop 8 = holdsB xs := List.drop_left' (by rw [be_len])
  rw [e1, e2] at hnum
  have HI : Hid (ShIn w sp lg bV bT bH m s) := h
  have hfl := hf.low
  have i0 : ¬ (t : Int) = 0 := by omega
  have i0b : ((t : Int) == 0) = false := beq_eq_false_iff_ne.2 i0
  clear e1 e2 h hf
  go_enter Tryz.func203, Tryz.ntmps203
  go_wp2_with fail
  refine hnum.mono ?_
  clear hnum
  rintro e w1 ⟨rfl, hf1, hfr1⟩
  have hin1 := HI.out.fr hfr1 (by simp; omega) (by simp; omega) (by simp; omega) (by simp; omega)
  have hsa := state_eq sp lg bV bT bH m t s w1 hin1 ht
  rw [hst] at hsa
  have H1 : Hid (ShIn w1 sp lg bV bT bH m s ∧ FldAt n w1 fp (holdsB xs) ∧ Fr [fp] w w1) := ⟨hin1, hf1, hfr1⟩
  clear hin1 hf1 hfr1 hst
  go_wp2_with fail
  refine hsa.mono ?_
  clear hsa
  rintro e w2 ⟨rfl, rfl⟩
  have c2 := blk_cell H1.out.1.blk 2
  simp at c2
  obtain ⟨w3, hr3, hm3, hg3⟩ := H1.out.1.txns.putRun Tryz.underlying133 (by omega) (k := t) ht (v := (⟨3, 0, 0⟩ : ATxn)) trivial
  change (Instr.mapUpdate _ _ (.int .u64 (t : Int)) (.agg #[.int .i64 3, .int .i64 0, .int .u64 0])).run _ _ = _ at hr3
  have hf3 : Fr [bT] w2 w3 := Fr.of_grown1 hg3
  have H3 : Hid (ShIn w3 sp lg bV bT bH (m + 1) { s with txns := alPut s.txns t ⟨3, 0, 0⟩ } ∧ FldAt n w3 fp (holdsB xs) ∧ Fr [fp, bT, bH] w w3) := by
    refine ⟨H1.out.1.setTxns hf3 hm3 (by omega), H1.out.2.1.fr hf3 (by simp; omega), ?_⟩
    exact (H1.out.2.2.mono (by intro k _ hk; simp at hk ⊢; exact .inl hk)).trans (hf3.mono (by intro k _ hk; simp at hk ⊢; exact .inr (.inl hk)))
  have HS : Hid (∀ x ∈ xs, SmallH x ∧ x.2.way ≤ 2) := hsm
  have HP : Hid (s.prepd t xs = ({ s with txns := alPut s.txns t ⟨3, 0, 0⟩ } : AShard).takes t xs) := rfl
  clear hm3 hg3 hf3 hsm
  go_wp2
  go_loopw [26] (fun _ wr => ∃ ys zs, Hid (xs = ys ++ zs ∧ FldAt n wr fp (holdsB zs) ∧ ShIn wr sp lg bV bT bH (m + 1 + ys.length) (({ s with txns := alPut s.txns t ⟨3, 0, 0⟩ } : AShard).takes t ys) ∧ Fr [fp, bT, bH] w wr)) (fun _ wr => fldLen wr fp)
  case atStart => exact ⟨[], xs, rfl, H3.out.2.1, H3.out.1, H3.out.2.2⟩
  case round =>
    obtain ⟨ys, zs, HX⟩ := hrel
    have hmo := more_any n fp (holdsB zs) wr HX.out.2.1
    cases zs with
    | nil =>
      have hri := right_any n fp (holdsB []) wr HX.out.2.1
      simp only [show decide (0 < (holdsB []).length) = false from rfl, Bool.not_false] at hmo hri
      go_wp2_with fail
      refine hmo.mono ?_
      rintro e w4 ⟨rfl, rfl⟩
      go_wp2_with fail
      refine hri.mono ?_
      rintro e w5 ⟨rfl, rfl⟩
      go_wp2
      go_ret
      have hxy : xs = ys := by rw [HX.out.1]; simp
      exact ⟨rfl, by rw [HP.out, hxy]; exact HX.out.2.2.1, HX.out.2.2.2⟩
    | cons x zs =>
      have hpos : decide (0 < (holdsB (x :: zs)).length) = true := decide_eq_true HX.out.2.1.more
      rw [hpos] at hmo
      have hx := HS.out x (by rw [HX.out.1]; simp)
      obtain ⟨⟨z1, z2, z3⟩, z4⟩ := hx
      have hfw := HX.out.2.1
      have HLEN : Hid (fldLen wr fp = (holdsB (x :: zs)).length) := hfw.fld.len
      have HLT : Hid ((holdsB zs).length < (holdsB (x :: zs)).length) := by show _ < _; rw [holdB_cons]; simp; omega
      rw [holdB_cons] at hfw
      have hn8 := num8_any n fp _ wr hfw (by simp)
      simp only [List.take_succ_cons, List.take_zero, List.drop_succ_cons, List.drop_zero] at hn8
      have ev : val [x.2.way] = x.2.way := by simp [val]
      rw [ev] at hn8
      clear hpos hfw ev
      go_wp2_with fail
      refine hmo.mono ?_
      clear hmo
      rintro e w4 ⟨rfl, rfl⟩
      go_wp2_with fail
      refine hn8.mono ?_
      clear hn8
      rintro e w5 ⟨rfl, hf5, hfr5⟩
      have ht6 := text_fld n fp x.1.size (bytesOf x.1) (x.2.val.size :: bytesOf x.2.val ++ holdsB zs) w5 hf5 (bytesOf_len _) (by omega)
      have H5 : Hid (Fr [fp] w4 w5) := hfr5
      clear hf5 hfr5
      go_wp2_with fail
      refine ht6.mono ?_
      clear ht6
      rintro e w6 ⟨rfl, hf6, hfr6⟩
      have ht7 := text_fld n fp x.2.val.size (bytesOf x.2.val) (holdsB zs) w6 hf6 (bytesOf_len _) (by omega)
      have H6 : Hid (Fr [fp] w4 w6) := H5.out.trans hfr6
      clear hf6 hfr6
      go_wp2_with fail
      refine ht7.mono ?_
      clear ht7
      rintro e w7 ⟨rfl, hf7, hfr7⟩
      rw [strOf_bytes, strOf_bytes]
      have hfr47 : Fr [fp] w4 w7 := H6.out.trans hfr7
      have hin7 := HX.out.2.2.1.fr hfr47 (by simp; omega) (by simp; omega) (by simp; omega) (by simp; omega)
      have H7 : Hid (FldAt n w7 fp (holdsB zs) ∧ Fr [fp, bT, bH] w w7) := ⟨hf7, HX.out.2.2.2.trans (hfr47.mono (by intro k _ hk; simp at hk ⊢; exact .inl hk))⟩
      have hyl : ys.length + 1 ≤ xs.length := by rw [HX.out.1]; simp
      have hta := take_any sp lg bV bT bH (m + 1 + ys.length) t x.1 x.2 _ w7 hin7 ht (by unfold maxLen; omega) (by omega)
      have i2 : ¬ (2 : Int) < (x.2.way : Int) := by omega
      clear hf7 hfr7 hfr47 hin7
      go_wp2_with fail
      refine hta.mono ?_
      clear hta
      rintro e w8 ⟨rfl, hin8, hfr8⟩
      have H8 : Hid (ShIn w8 sp lg bV bT bH (m + 1 + ys.length + 1) ((({ s with txns := alPut s.txns t ⟨3, 0, 0⟩ } : AShard).takes t ys).take t x.1 x.2) ∧ FldAt n w8 fp (holdsB zs) ∧ Fr [fp, bT, bH] w w8) := ⟨hin8, H7.out.1.fr hfr8 (by simp; omega), H7.out.2.trans (hfr8.mono (by intro k _ hk; simp at hk ⊢; exact .inr (.inr hk)))⟩
      clear hin8 hfr8
      go_wp2
      go_roundw
      case rel =>
        have HR : Hid (ShIn w8 sp lg bV bT bH (m + 1 + (ys ++ [x]).length) (({ s with txns := alPut s.txns t ⟨3, 0, 0⟩ } : AShard).takes t (ys ++ [x]))) := by show ShIn _ _ _ _ _ _ _ _; rw [AShard.takes_snoc, List.length_append]; exact H8.out.1
        exact ⟨ys ++ [x], zs, by rw [HX.out.1]; simp, H8.out.2.1, HR.out, H8.out.2.2⟩
      case measure => rw [H8.out.2.1.fld.len, HLEN.out]; exact HLT.out
section
variable (n sp lg bV bT bH m fp t c : Nat) (s : AShard) (w : World)
set_option maxRecDepth 100000 in
set_option maxHeartbeats 2000000 in
theorem readDec_commit (h : ShIn w sp lg bV bT bH m s) (hf : FldAt n w fp (be 8 t)) (ht : t < 18446744073709551616) (hst : (s.txn t).state = 3) (hm : m + c < maxLen) (hc : s.count t ≤ c) (hv : s.Small) (hlow : sp < n ∧ bV < n ∧ bT < n ∧ bH < n) :
    Calls Tryz.prog 204 #[.pointer (some ⟨sp, 0, none⟩), .pointer (some ⟨fp, 0, none⟩), .func (.func 76) #[.pointer (some ⟨sp, 0, none⟩)] #[]] w fun e w' => e = .returned (.bool true) ∧ ∃ s', Committed s s' t ∧ ShIn w' sp lg bV bT bH (m + c) s' ∧ Fr [fp, bV, bT, bH] w w' := by
  have hnum := num64_any n fp (be 8 t) w hf (Nat.le_of_eq (be_len 8 t).symm)
  have e1 : val ((be 8 t).take 8) = t := by rw [List.take_of_length_le (Nat.le_of_eq (be_len 8 t))]; exact val_be 8 t (by simpa using ht)
  have e2 : (be 8 t).drop 8 = [] := List.drop_of_length_le (Nat.le_of_eq (be_len 8 t))
  rw [e1, e2] at hnum
  have HI : Hid (ShIn w sp lg bV bT bH m s ∧ s.count t ≤ c ∧ s.Small) := ⟨h, hc, hv⟩
  have hfl := hf.low
  clear e1 e2 h hf hc hv
  go_enter Tryz.func204, Tryz.ntmps204
  go_wp2_with fail
  refine hnum.mono ?_
  clear hnum
  rintro e w1 ⟨rfl, hf1, hfr1⟩
  have hin1 := HI.out.1.fr hfr1 (by simp; omega) (by simp; omega) (by simp; omega) (by simp; omega)
  have hsa := state_eq sp lg bV bT bH m t s w1 hin1 ht
  rw [hst] at hsa
  have hso : Once1 s.holds := by obtain ⟨_, _, _, h3, _⟩ := hin1.holds; exact h3
  have hap := apply_any sp lg bV bT bH m t c s w1 hin1 ht hm (fun L h1 h2 => by rw [AShard.count_of hso h1 h2]; exact HI.out.2.1) (fun p hp => by have := (HI.out.2.2 p hp).2.1; simp at this; unfold maxLen; omega)
  have H1 : Hid (FldAt n w1 fp [] ∧ Fr [fp] w w1) := ⟨hf1, hfr1⟩
  clear hin1 hf1 hfr1 hst hso
  go_wp2_with fail
  refine hsa.mono ?_
  clear hsa
  rintro e w2 ⟨rfl, rfl⟩
  go_wp2_with fail
  refine hap.mono ?_
  clear hap
  rintro e w3 ⟨rfl, vs, hin3, hlk, hfr3⟩
  have hf3 := H1.out.1.fr hfr3 (by simp; omega)
  have hri := right_any n fp [] w3 hf3
  have H3 : Hid (ShIn w3 sp lg bV bT bH (m + c) (AShard.forget { s with vals := vs } t) ∧ Committed s (AShard.forget { s with vals := vs } t) t ∧ Fr [fp, bV, bT, bH] w w3) := ⟨hin3, ⟨vs, rfl, hlk⟩, (H1.out.2.mono (by intro k _ hk; simp at hk ⊢; exact .inl hk)).trans (hfr3.mono (by intro k _ hk; simp at hk ⊢; exact .inr hk))⟩
  clear hin3 hlk hfr3 hf3
  simp only [List.length_nil, Nat.lt_irrefl, decide_false, Bool.not_false] at hri
  go_wp2_with fail
  refine hri.mono ?_
  rintro e w4 ⟨rfl, rfl⟩
  go_wp2
  go_ret
  exact ⟨rfl, _, H3.out.2.1, H3.out.1, H3.out.2.2⟩
set_option maxRecDepth 100000 in
set_option maxHeartbeats 2000000 in
theorem readDec_abort (h : ShIn w sp lg bV bT bH m s) (hf : FldAt n w fp (be 8 t)) (ht : t < 18446744073709551616) (hst : (s.txn t).state = 3) (hlow : sp < n ∧ bV < n ∧ bT < n ∧ bH < n) :
    Calls Tryz.prog 204 #[.pointer (some ⟨sp, 0, none⟩), .pointer (some ⟨fp, 0, none⟩), .func (.func 73) #[.pointer (some ⟨sp, 0, none⟩)] #[]] w fun e w' => e = .returned (.bool true) ∧ ShIn w' sp lg bV bT bH m (s.forget t) ∧ Fr [fp, bV, bT, bH] w w' := by
  have hnum := num64_any n fp (be 8 t) w hf (Nat.le_of_eq (be_len 8 t).symm)
  have e1 : val ((be 8 t).take 8) = t := by rw [List.take_of_length_le (Nat.le_of_eq (be_len 8 t))]; exact val_be 8 t (by simpa using ht)
  have e2 : (be 8 t).drop 8 = [] := List.drop_of_length_le (Nat.le_of_eq (be_len 8 t))
  rw [e1, e2] at hnum
  have HI : Hid (ShIn w sp lg bV bT bH m s) := h
  have hfl := hf.low
  clear e1 e2 h hf
  go_enter Tryz.func204, Tryz.ntmps204
  go_wp2_with fail
  refine hnum.mono ?_
  clear hnum
  rintro e w1 ⟨rfl, hf1, hfr1⟩
  have hin1 := HI.out.fr hfr1 (by simp; omega) (by simp; omega) (by simp; omega) (by simp; omega)
  have hsa := state_eq sp lg bV bT bH m t s w1 hin1 ht
  rw [hst] at hsa
  have hfo := forget_any sp lg bV bT bH m t s w1 hin1 ht
  have H1 : Hid (FldAt n w1 fp [] ∧ Fr [fp] w w1) := ⟨hf1, hfr1⟩
  clear hin1 hf1 hfr1 hst
  go_wp2_with fail
  refine hsa.mono ?_
  clear hsa
  rintro e w2 ⟨rfl, rfl⟩
  go_wp2_with fail
  refine hfo.mono ?_
  clear hfo
  rintro e w3 ⟨rfl, hin3, hfr3⟩
  have hf3 := H1.out.1.fr hfr3 (by simp; omega)
  have hri := right_any n fp [] w3 hf3
  have H3 : Hid (ShIn w3 sp lg bV bT bH m (s.forget t) ∧ Fr [fp, bV, bT, bH] w w3) := ⟨hin3, (H1.out.2.mono (by intro k _ hk; simp at hk ⊢; exact .inl hk)).trans (hfr3.mono (by intro k _ hk; simp at hk ⊢; exact .inr (.inr hk)))⟩
  clear hin3 hfr3 hf3
  simp only [List.length_nil, Nat.lt_irrefl, decide_false, Bool.not_false] at hri
  go_wp2_with fail
  refine hri.mono ?_
  rintro e w4 ⟨rfl, rfl⟩
  go_wp2
  go_ret
  exact ⟨rfl, H3.out.1, H3.out.2⟩
end
/-- a key and its value in an entry -/
def valB (k v : ByteArray) : List Nat := k.size :: bytesOf k ++ (v.size :: bytesOf v)
set_option maxRecDepth 100000 in
set_option maxHeartbeats 2000000 in
theorem readVal_any (n sp lg bV bT bH m fp : Nat) (s : AShard) (k v : ByteArray) (w : World) (h : ShIn w sp lg bV bT bH m s) (hf : FldAt n w fp (valB k v)) (hk : k.size < 256) (hv : v.size < 256) (hm : m < maxLen) (hlow : sp < n ∧ bV < n ∧ bT < n ∧ bH < n) :
    Calls Tryz.prog 205 #[.pointer (some ⟨sp, 0, none⟩), .pointer (some ⟨fp, 0, none⟩)] w fun e w' => e = .returned (.bool true) ∧ ShIn w' sp lg bV bT bH (m + 1) { s with vals := alPut s.vals k v } ∧ Fr [fp, bV, bT, bH] w w' := by
  have ht1 := text_fld n fp k.size (bytesOf k) (v.size :: bytesOf v) w hf (bytesOf_len _) hk
  have HI : Hid (ShIn w sp lg bV bT bH m s) := h
  have hfl := hf.low
  clear h hf
  go_enter Tryz.func205, Tryz.ntmps205
  go_wp2_with fail
  refine ht1.mono ?_
  clear ht1
  rintro e w1 ⟨rfl, hf1, hfr1⟩
  have ht2 := text_fld n fp v.size (bytesOf v) [] w1 (by rw [List.append_nil]; exact hf1) (bytesOf_len _) hv
  have H1 : Hid (Fr [fp] w w1) := hfr1
  clear hf1 hfr1
  go_wp2_with fail
  refine ht2.mono ?_
  clear ht2
  rintro e w2 ⟨rfl, hf2, hfr2⟩
  rw [strOf_bytes, strOf_bytes]
  have hfr02 : Fr [fp] w w2 := H1.out.trans hfr2
  have hin2 := HI.out.fr hfr02 (by simp; omega) (by simp; omega) (by simp; omega) (by simp; omega)
  have c1 := blk_cell hin2.blk 1
  simp at c1
  obtain ⟨w3, hr3, hm3, hg3⟩ := hin2.vals.putRun Tryz.underlying132 hm (k := k) (show k.size ≤ maxLen by unfold maxLen; omega) (v := v) (show v.size ≤ maxLen by unfold maxLen; omega)
  change (Instr.mapUpdate _ _ (.string k) (.string v)).run _ _ = _ at hr3
  have hf3 : Fr [bV] w2 w3 := Fr.of_grown1 hg3
  have hri := right_any n fp [] w3 (hf2.fr hf3 (by simp; omega))
  simp only [List.length_nil, Nat.lt_irrefl, decide_false, Bool.not_false] at hri
  have H3 : Hid (ShIn w3 sp lg bV bT bH (m + 1) { s with vals := alPut s.vals k v } ∧ Fr [fp, bV, bT, bH] w w3) := ⟨hin2.setVals hf3 hm3 (by omega), (hfr02.mono (by intro j _ hj; simp at hj ⊢; exact .inl hj)).trans (hf3.mono (by intro j _ hj; simp at hj ⊢; exact .inr (.inl hj)))⟩
  clear hin2 hfr02 hfr2 hf2 hm3 hg3 hf3
  go_wp2_with fail
  refine hri.mono ?_
  rintro e w4 ⟨rfl, rfl⟩
  go_wp2
  go_ret
  exact ⟨rfl, H3.out⟩
/-- an entry that can be read, and what stands behind it -/
inductive Entr (K : AShard → Prop) (s : AShard) : Rec → Prop
  | prep (i t : Nat) (xs : List (ByteArray × AGrip)) (ht : t < 18446744073709551616) (h0 : t ≠ 0) (hst : (s.txn t).state = 0) (hsm : ∀ x ∈ xs, SmallH x ∧ x.2.way ≤ 2) (hl : xs.length ≤ 16) (hK : K (s.prepd t xs)) : Entr K s ⟨i, 1, be 8 t ++ holdsB xs⟩
  | comm (i t : Nat) (ht : t < 18446744073709551616) (hst : (s.txn t).state = 3) (hc : s.count t ≤ 16) (hv : s.Small) (hK : ∀ s', Committed s s' t → K s') : Entr K s ⟨i, 2, be 8 t⟩
  | abrt (i t : Nat) (ht : t < 18446744073709551616) (hst : (s.txn t).state = 3) (hK : K (s.forget t)) : Entr K s ⟨i, 3, be 8 t⟩
  | vald (i : Nat) (k v : ByteArray) (hk : k.size < 256) (hv : v.size < 256) (hK : K { s with vals := alPut s.vals k v }) : Entr K s ⟨i, 4, valB k v⟩
set_option maxRecDepth 100000 in
set_option maxHeartbeats 2000000 in
theorem read_ent (n sp lg bV bT bH m fp : Nat) (s : AShard) (r : Rec) (w : World) (h : ShIn w sp lg bV bT bH m s) (hf : FldAt n w fp r.pay) (K : AShard → Prop) (he : Entr K s r) (hm : m + 32 < maxLen) (hlow : sp < n ∧ bV < n ∧ bT < n ∧ bH < n) :
    Calls Tryz.prog 147 #[.pointer (some ⟨sp, 0, none⟩), .int .u8 (r.kind : Int), .pointer (some ⟨fp, 0, none⟩)] w fun e w' => e = .returned (.bool true) ∧ ∃ s', K s' ∧ ShIn w' sp lg bV bT bH (m + 20) s' ∧ Fr [fp, bV, bT, bH] w w' := by
  cases he with
  | prep i t xs ht h0 hst hsm hl hK =>
    have hc := readPrep_any n sp lg bV bT bH m fp t s xs w h hf ht h0 hst hsm hl hm hlow
    clear h hf
    go_enter Tryz.func147, Tryz.ntmps147
    go_wp2_with fail
    refine hc.mono ?_
    clear hc
    rintro e w1 ⟨rfl, hin, hfr⟩
    have H1 : Hid (ShIn w1 sp lg bV bT bH (m + 20) (s.prepd t xs) ∧ Fr [fp, bV, bT, bH] w w1) := ⟨hin.mono (by omega), hfr.mono (by intro k _ hk; simp at hk ⊢; rcases hk with e | e | e <;> simp [e])⟩
    clear hin hfr
    go_wp2
    go_ret
    exact ⟨rfl, _, hK, H1.out⟩
  | comm i t ht hst hc hv hK =>
    have hcc := readDec_commit n sp lg bV bT bH m fp t 16 s w h hf ht hst (by omega) hc hv hlow
    clear h hf
    go_enter Tryz.func147, Tryz.ntmps147
    go_wp2_with fail
    refine hcc.mono ?_
    clear hcc
    rintro e w1 ⟨rfl, s', hco, hin, hfr⟩
    have H1 : Hid (Committed s s' t ∧ ShIn w1 sp lg bV bT bH (m + 20) s' ∧ Fr [fp, bV, bT, bH] w w1) := ⟨hco, hin.mono (by omega), hfr⟩
    clear hin hfr hco
    go_wp2
    go_ret
    exact ⟨rfl, s', hK s' H1.out.1, H1.out.2⟩
  | abrt i t ht hst hK =>
    have hcc := readDec_abort n sp lg bV bT bH m fp t s w h hf ht hst hlow
    clear h hf
    go_enter Tryz.func147, Tryz.ntmps147
    go_wp2_with fail
    refine hcc.mono ?_
    clear hcc
    rintro e w1 ⟨rfl, hin, hfr⟩
    have H1 : Hid (ShIn w1 sp lg bV bT bH (m + 20) (s.forget t) ∧ Fr [fp, bV, bT, bH] w w1) := ⟨hin.mono (by omega), hfr⟩
    clear hin hfr
    go_wp2
    go_ret
    exact ⟨rfl, _, hK, H1.out⟩
  | vald i k v hk hv hK =>
    have hcc := readVal_any n sp lg bV bT bH m fp s k v w h hf hk hv (by omega) hlow
    clear h hf
    go_enter Tryz.func147, Tryz.ntmps147
    go_wp2_with fail
    refine hcc.mono ?_
    clear hcc
    rintro e w1 ⟨rfl, hin, hfr⟩
    have H1 : Hid (ShIn w1 sp lg bV bT bH (m + 20) { s with vals := alPut s.vals k v } ∧ Fr [fp, bV, bT, bH] w w1) := ⟨hin.mono (by omega), hfr⟩
    clear hin hfr
    go_wp2
    go_ret
    exact ⟨rfl, _, hK, H1.out⟩
end Go.Proofs.YtejiankgafjppabGreatDoor
/- Scan through shardcommit and plain. -/
namespace Go.Proofs.YtejiankgafjppabGreatDoor
open Go.RowKit
open Sc

/-- what a scan of the bytes l answers -/
def Scanned (l : List Nat) (w : World) (e : Ending) (w' : World) : Prop :=
  ∃ k v', e = .returned (.tuple #[v', .int .i64 ((st k l).2 : Nat)]) ∧ Ended l k ∧ w'.ownsRow w.heap.size 288 3 v' k (recsV (st k l).1) ∧ (k = 0 → v' = .slice none 0 0) ∧ Below w.heap.size w w'

set_option maxHeartbeats 400000 in
theorem scanW_nil (w : World) : Calls Tryz.prog 238 #[.slice none 0 0] w (Scanned [] w) := by
  have hnot : ∀ (x : Bool) (w : World), (Op.unary .not (.bool x)).run Tryz.prog w = .ok (.bool (!x)) w := fun _ _ => rfl
  go_enter Tryz.func238, Tryz.ntmps238
  go_wp2
  refine wp_loop_rounds 1 ?_
  rw [rounds_succ]
  go_wp2_with fail
  refine (firstFrame_short _ _ _ _ (by omega)).mono ?_
  rintro e w1 ⟨rfl, rfl⟩
  go_wp2
  go_ret2
  exact ⟨0, _, rfl, ended_nil, World.ownsRow_nil _ _ _ _, fun _ => rfl, (Below.refl _ _).alloc (Nat.le_refl _) _⟩

theorem scanW (v : Value) (l : List Nat) (w : World) (hs : Src w v l) (hb : Byt l) (hl : l.length ≤ 1099511627776) : Calls Tryz.prog 238 #[v] w (Scanned l w) := by
  rcases hs with ⟨rfl, rfl⟩ | ⟨b, off, cap, rfl, hrow, hlt, hc, hc2⟩
  · exact scanW_nil w
  · exact scanW_some b off cap l w hb hl hrow hlt hc hc2

end Go.Proofs.YtejiankgafjppabGreatDoor
/- sameRecords; what both scans answer, compared. -/
namespace Go.Proofs.YtejiankgafjppabGreatDoor
open Go.RowKit
open Sc

theorem recsV_at : ∀ (rs : List Rec) (i : Nat) (h : i < rs.length), (recsV rs)[i * 3]? = some (.int .u64 (rs[i].lsn : Int)) ∧ (recsV rs)[i * 3 + 1]? = some (.int .u8 (rs[i].kind : Int)) ∧ (recsV rs)[i * 3 + 2]? = some (.string (str rs[i].pay))
  | [], i, h => absurd h (Nat.not_lt_zero _)
  | r :: rs, 0, _ => ⟨rfl, rfl, rfl⟩
  | r :: rs, i + 1, h => by
    have ih := recsV_at rs i (by simpa using h)
    have e : ∀ j, (recsV (r :: rs))[(i + 1) * 3 + j]? = (recsV rs)[i * 3 + j]? := fun j => by
      show (recCells r ++ recsV rs)[(i + 1) * 3 + j]? = _
      rw [List.getElem?_append_right (by simp [recCells]; omega)]
      congr 1
      simp [recCells]; omega
    exact ⟨(e 0).trans ih.1, (e 1).trans ih.2.1, (e 2).trans ih.2.2⟩
/-- the records rs, as a slice value holds them -/
def RecsAt (w : World) (v : Value) (rs : List Rec) : Prop :=
  ∃ ao cap, v = .slice ao rs.length cap ∧ ∀ i (h : i < rs.length), ∃ g, ao = some ⟨g, 0, none⟩ ∧ w.cell? ⟨g, i * 3, none⟩ = some (.int .u64 (rs[i].lsn : Int)) ∧ w.cell? ⟨g, i * 3 + 1, none⟩ = some (.int .u8 (rs[i].kind : Int)) ∧ w.cell? ⟨g, i * 3 + 2, none⟩ = some (.string (str rs[i].pay))
theorem recsAt_own {w : World} {base n : Nat} {v : Value} {rs : List Rec} (h : w.ownsRow base 288 3 v n (recsV rs)) : RecsAt w v rs := by
  have hl : rs.length = n := by have := h.1; rw [recsV_len] at this; omega
  rcases h.2 with ⟨rfl, h0⟩ | ⟨g, cap, cur, rfl, hb, hg, rest⟩
  · exact ⟨none, 0, by rw [hl, h0], fun i hi => by omega⟩
  · refine ⟨_, cap, by rw [hl], fun i hi => ⟨g, rfl, ?_⟩⟩
    have hc : ∀ j u, (recsV rs)[j]? = some u → w.cell? ⟨g, j, none⟩ = some u := fun j u hu => by
      have := h.cells (g := g) rfl j u hu
      simpa [Addr.add_lit] using this
    obtain ⟨h1, h2, h3⟩ := recsV_at rs i hi
    exact ⟨hc _ _ h1, hc _ _ h2, hc _ _ h3⟩

end Go.Proofs.YtejiankgafjppabGreatDoor
