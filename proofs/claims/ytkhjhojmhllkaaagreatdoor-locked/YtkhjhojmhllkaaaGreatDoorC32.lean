import Derived.Test.YtkhjhojmhllkaaaGreatDoorC31
import Derived.Test.YtkhjhojmhllkaaaGreatDoorC23
import Derived.Test.YtkhjhojmhllkaaaGreatDoorC29
import Derived.Test.YtkhjhojmhllkaaaGreatDoorC21
import Derived.Maps.AppendAt
/- RECOVERY: journal.Open, of a log of one segment. -/
namespace Go.Proofs.YtkhjhojmhllkaaaGreatDoor
open Go.RowKit Go.Maps
open Sc

set_option maxRecDepth 100000 in
set_option maxHeartbeats 4000000 in
theorem jopen_one (B p bD bN n nD nN : Nat) (pv : Value) (d : ADisk) (rs : List Rec) (w : World) (h : DiskIn w B p bD bN pv d n nD nN) (hB : 2 ≤ B) (hdn : d.down = false) (hrs : FineR rs) (hne : rs ≠ []) (hnow : SoleD d (str (encR rs))) (hpow : Pows w) (hlen : rs.length ≤ n) (hn1 : 1 ≤ n) (hby : (encR rs).length ≤ 4096) (hr : ((logR rs (1 + rs.length)).opens d).2.2 = 0) :
    Calls Tryz.prog 84 #[dskV p] w (OpenPost B p bD bN n ((logR rs (1 + rs.length)).opens d) w) := by
  have hn := h.hn
  have hb0 := h.base
  obtain ⟨W, hW⟩ : ∃ W, W = (w.alloc (.cells #[dskV p] 133)).alloc (logO p (.slice none 0 0) (.slice none 0 0) (log0 0)) := ⟨_, rfl⟩
  have hf0 : Fr [] w W := by rw [hW]; exact ((Fr.refl [] w).alloc _).alloc _
  have hdb : W.heap[w.heap.size]? = some (.cells #[dskV p] 133) := by rw [hW, Below.heap_alloc _ _ w.heap.size (by simp)]; exact heap_alloc_new w _
  have hlb : W.heap[w.heap.size + 1]? = some (logO p (.slice none 0 0) (.slice none 0 0) (log0 0)) := by rw [hW]; have := heap_alloc_new (w.alloc (.cells #[dskV p] 133)) (logO p (.slice none 0 0) (.slice none 0 0) (log0 0)); rw [World.size_alloc] at this; exact this
  have hl0 : LogIn W B (w.heap.size + 1) p bD bN pv (.slice none 0 0) (.slice none 0 0) (log0 0) d n nD nN := { disk := h.new hf0, blk := hlb, base := by omega, segs := World.ownsRow_nil _ _ _ _, recs := World.ownsRow_nil _ _ _ _, segsN := ⟨by simp [log0], by simp [log0]⟩, recsN := by simp [log0], fillN := by simp [log0], nextN := by simp [log0], durN := by simp [log0] }
  have HW : Hid (DiskIn w B p bD bN pv d n nD nN ∧ Fr [] w W) := ⟨h, hf0⟩
  have H0 : Hid (LogIn W B (w.heap.size + 1) p bD bN pv (.slice none 0 0) (.slice none 0 0) (log0 0) d n nD nN) := hl0
  have HDB : Hid (W.heap[w.heap.size]? = some (.cells #[dskV p] 133)) := hdb
  have HX : Hid (FineR rs ∧ rs ≠ [] ∧ SoleD d (str (encR rs)) ∧ Pows W) := ⟨hrs, hne, hnow, hpow.of_block (hf0.block 1 (by omega) (by simp))⟩
  have hnil := Tryz.eqNil p
  clear h hf0 hdb hlb hl0 hrs hne hnow hpow
  go_enter Tryz.func84, Tryz.ntmps84
  go_wp2_with fail
  have hW2 : W = (w.alloc (.cells #[dskV p] 133)).alloc (.cells #[dskV p, .slice none 0 0, .int .i64 600, .slice none 0 0, .int .u64 0, .int .u64 0, .nilIface] 187) := hW
  rw [← hW2]
  clear hW hW2
  refine (read_one B (w.heap.size + 1) p bD bN n nD nN pv d rs W H0.out hB hdn HX.out.1 HX.out.2.1 HX.out.2.2.1 HX.out.2.2.2 hlen hn1 hby).mono ?_
  rintro e w1 ⟨rfl, ⟨sv, rv, hl1⟩, ho1⟩
  have hdb1 := (ho1.block w.heap.size (Array.getElem?_eq_some_iff.1 HDB.out).1 (H0.out.free HDB.out (by decide) (by decide) (by decide) (by decide) (by decide))).trans HDB.out
  obtain ⟨W2, hW2⟩ : ∃ W2, W2 = (w1.alloc (.cells #[.slice none 0 0] 188)).alloc (.cells #[.func (.func 126) #[.pointer (some ⟨w.heap.size + 1, 0, none⟩)] #[], .func (.func 127) #[] #[.pointer (some ⟨w.heap.size, 0, none⟩), .pointer (some ⟨w1.heap.size, 0, none⟩)]] 160) := ⟨_, rfl⟩
  have hf2 : Fr [] w1 W2 := by rw [hW2]; exact ((Fr.refl [] w1).alloc _).alloc _
  have hu2 : W2.heap[w1.heap.size]? = some (.cells #[.slice none 0 0] 188) := by rw [hW2, Below.heap_alloc _ _ w1.heap.size (by simp)]; exact heap_alloc_new w1 _
  have hst2 : W2.heap[w1.heap.size + 1]? = some (.cells #[.func (.func 126) #[.pointer (some ⟨w.heap.size + 1, 0, none⟩)] #[], .func (.func 127) #[] #[.pointer (some ⟨w.heap.size, 0, none⟩), .pointer (some ⟨w1.heap.size, 0, none⟩)]] 160) := by
    rw [hW2]; have := heap_alloc_new (w1.alloc (.cells #[.slice none 0 0] 188)) (.cells #[.func (.func 126) #[.pointer (some ⟨w.heap.size + 1, 0, none⟩)] #[], .func (.func 127) #[] #[.pointer (some ⟨w.heap.size, 0, none⟩), .pointer (some ⟨w1.heap.size, 0, none⟩)]] 160); rw [World.size_alloc] at this; exact this
  have hdb2 : W2.heap[w.heap.size]? = some (.cells #[dskV p] 133) := (hf2.block w.heap.size (Array.getElem?_eq_some_iff.1 hdb1).1 (by simp)).trans hdb1
  have HC : Hid (Calls Tryz.prog 125 #[.slice (some ⟨w1.heap.size + 1, 0, none⟩) 2 2] W2 (PutL B (w.heap.size + 1) p bD bN n [] ((logR rs (1 + rs.length)).opens d) W2)) := inTurnO B (w.heap.size + 1) p bD bN n nD nN (w1.heap.size + 1) w.heap.size w1.heap.size pv sv rv (logR rs (1 + rs.length)) d W2 (hl1.new hf2) hn hst2 hdb2 hu2
  have HO : Hid (OFr (w.heap.size + 1) p W W2) := ho1.trans (hl1.newO hf2)
  clear hl1 ho1 hdb1 hf2 hu2 hst2 hdb2
  go_wp2_with fail
  rw [← hW2]
  clear hW2
  refine HC.out.mono ?_
  rintro e w3 ⟨rfl, ⟨pv3, sv3, rv3, nD3, nN3, hl3⟩, ho3⟩
  have H3 : Hid (LogIn w3 B (w.heap.size + 1) p bD bN pv3 sv3 rv3 ((logR rs (1 + rs.length)).opens d).1 ((logR rs (1 + rs.length)).opens d).2.1 n nD3 nN3) := hl3
  have HD : Hid (DFr p w w3) := DFr.ofO HW.out.1 H0.out HW.out.2 (by omega) (HO.out.trans ho3.ofr) hl3
  clear hl3 ho3
  rw [hr, errN_ok]
  go_wp2
  go_ret2
  exact ⟨w.heap.size + 1, rfl, by omega, ⟨pv3, sv3, rv3, nD3, nN3, H3.out⟩, HD.out⟩
end Go.Proofs.YtkhjhojmhllkaaaGreatDoor
/- RECOVERY: what logs of one, of few and of many segments share. -/
namespace Go.Proofs.YtkhjhojmhllkaaaGreatDoor
open Go.RowKit Go.Maps
open Sc

theorem parse_snoc (M : Nat) (c : UInt8) (v : Nat) : ∀ (a : List UInt8) (acc : Nat), Lib.parseUintM M acc a = .ok v → Lib.parseUintM M acc (a ++ [c]) = Lib.parseUintM M v [c]
  | [], acc, h => by
    have e : acc = v := by simpa [Lib.parseUintM] using h
    rw [e]; rfl
  | x :: a, acc, h => by
    rw [List.cons_append]
    unfold Lib.parseUintM at h ⊢
    split at h
    · rename_i h1
      rw [if_pos h1]
      split at h
      · cases h
      · rename_i h2
        rw [if_neg h2]
        split at h
        · cases h
        · rename_i h3
          rw [if_neg h3]
          exact parse_snoc M c v a _ h
    · cases h
theorem parse_decM : ∀ (n u : Nat), u < n → u < 18446744073709551616 → Lib.parseUintM 18446744073709551615 0 (Lib.decDigits u) = .ok u := by
  intro n
  induction n with
  | zero => intro u h; omega
  | succ n ih =>
    intro u hn hu
    rw [Lib.decDigits]
    split
    · rename_i h
      obtain rfl | rfl | rfl | rfl | rfl | rfl | rfl | rfl | rfl | rfl : u = 0 ∨ u = 1 ∨ u = 2 ∨ u = 3 ∨ u = 4 ∨ u = 5 ∨ u = 6 ∨ u = 7 ∨ u = 8 ∨ u = 9 := by omega
      all_goals rfl
    · rename_i h
      rw [parse_snoc _ _ (u / 10) _ _ (ih (u / 10) (by omega) (by omega))]
      have e : (UInt8.ofNat (48 + u % 10)).toNat = 48 + u % 10 := by simp; omega
      unfold Lib.parseUintM
      rw [e, if_pos (by omega), if_neg (by omega), if_neg (by omega)]
      unfold Lib.parseUintM
      congr 1
      omega
theorem parse_dec (u : Nat) (hu : u < 18446744073709551616) : Lib.parseUintB 64 (Lib.decDigits u) = .ok u := by
  unfold Lib.parseUintB
  rw [if_neg (dec_ne u)]
  exact parse_decM (u + 1) u (by omega) hu
theorem trim_mark : (⟨(Lib.trimPrefix markNm.data.toList [115, 101, 103, 109, 101, 110, 116, 45]).toArray⟩ : ByteArray) = markNm := by decide
theorem parse_mark : Lib.parseUintB 64 markNm.data.toList = .«syntax» := by rfl
/-- what the variable of strconv's error holds -/
def ErrS (w : World) : Prop := ∃ ev, w.cell? ⟨2, 0, none⟩ = some ev ∧ (ev = .nilIface ∨ ∃ te pe, ev = .iface te pe)
theorem ErrS.below {n : Nat} {w w' : World} (h : ErrS w) (hb : Below n w w') (hn : 2 < n) : ErrS w' := by
  obtain ⟨ev, h1, h2⟩ := h
  exact ⟨ev, (hb.cell (p := ⟨2, 0, none⟩) hn).trans h1, h2⟩
theorem encR_bytes (rs : List Rec) : (encR rs).length = bytesR rs := by
  induction rs with
  | nil => rfl
  | cons r rs ih => simp only [encR, List.flatMap_cons, List.length_append, recBytes_len] at *; rw [ih]; simp [bytesR]
/-! ### few segments, few bytes -/
theorem starts_lt : ∀ (a : List (List Rec)) (n : Nat), (∀ b ∈ a, b ≠ []) → ∀ x ∈ starts n a, x < n + a.flatten.length := by
  intro a
  induction a with
  | nil => intro n _ x hx; simp [starts] at hx
  | cons b a ih =>
    intro n hb x hx
    have h0 : 0 < b.length := List.length_pos_iff.2 (hb b (by simp))
    simp only [starts, List.mem_cons] at hx
    rcases hx with rfl | hx
    · simp; omega
    · have := ih (n + b.length) (fun y hy => hb y (by simp [hy])) x hx
      simp; simp at this; omega
theorem str_app (a b : List Nat) : str (a ++ b) = str a ++ str b := by
  apply ByteArray.ext
  rw [ByteArray.data_append, str_data, str_data, str_data]
  simp
theorem doOp_app (m : Files) (nm t : ByteArray) : doOp m ⟨2, nm, ByteArray.empty, t⟩ = m.set nm (some ((m nm).getD ByteArray.empty ++ t)) := rfl
theorem Files.set_set (m : Files) (k : ByteArray) (a b : Option ByteArray) : (m.set k a).set k b = m.set k b := by
  funext x; unfold Files.set; by_cases h : x = k <;> simp [h]
theorem takeC_at {cs : List (List Rec)} {k : Nat} {c : List Rec} (h : cs[k]? = some c) : cs.take (k + 1) = cs.take k ++ [c] := by rw [List.take_add_one, h]; rfl
theorem asc_eq {a b : List Nat} (hp : a.Perm b) (ha : AscTo a a.length) (hb : b.Pairwise (· < ·)) : a = b :=
  List.Perm.eq_of_pairwise (le := (· ≤ ·)) (fun _ _ _ _ h1 h2 => Nat.le_antisymm h1 h2) ha.pairwise (hb.imp (fun h => Nat.le_of_lt h)) hp
/-! ### records that lie in a file -/
def FineX (rs : List Rec) : Prop := ∀ r ∈ rs, r.kind < 256 ∧ r.pay.length ≤ 255 ∧ Byt r.pay ∧ r.lsn < 18446744073709551616
theorem fx_byt {rs : List Rec} (h : FineX rs) : Byt (encR rs) := by
  intro b hb
  obtain ⟨r, hr, hbr⟩ := List.mem_flatMap.1 hb
  obtain ⟨h1, _, h3, _⟩ := h r hr
  exact recBytes_byt r.lsn r.kind r.pay h1 h3 b hbr
theorem fx_good : ∀ (rs : List Rec), FineX rs → ∀ t, Good (encR rs ++ t) rs.length ∧ (st rs.length (encR rs ++ t)).1 = rs ∧ (st rs.length (encR rs ++ t)).2 = (encR rs).length := by
  intro rs
  refine List.reverseRecOn0 (motive := fun rs => FineX rs → ∀ t, Good (encR rs ++ t) rs.length ∧ (st rs.length (encR rs ++ t)).1 = rs ∧ (st rs.length (encR rs ++ t)).2 = (encR rs).length) rs ?_ ?_
  · intro _ t; exact ⟨good_zero _, rfl, rfl⟩
  · intro rs r ih hf t
    obtain ⟨k1, k2, k3, k4⟩ := hf r (by simp)
    have e : encR (rs ++ [r]) ++ t = encR rs ++ (recBytes r.lsn r.kind r.pay ++ t) := by rw [encR_snoc, List.append_assoc]
    rw [e]
    obtain ⟨h1, h2, h3⟩ := ih (fun x hx => hf x (by simp [hx])) (recBytes r.lsn r.kind r.pay ++ t)
    have hd : (encR rs ++ (recBytes r.lsn r.kind r.pay ++ t)).drop (st rs.length (encR rs ++ (recBytes r.lsn r.kind r.pay ++ t))).2 = recBytes r.lsn r.kind r.pay ++ t := by rw [h3]; exact drop_app _ _ _ rfl
    have el : (rs ++ [r]).length = rs.length + 1 := by simp
    rw [el]
    refine ⟨good_succ h1 (by rw [hd]; exact frame_yes _ _ _ t k2 k1 k3), ?_, ?_⟩
    · show (st rs.length (encR rs ++ (recBytes r.lsn r.kind r.pay ++ t))).1 ++ [recOf ((encR rs ++ (recBytes r.lsn r.kind r.pay ++ t)).drop (st rs.length (encR rs ++ (recBytes r.lsn r.kind r.pay ++ t))).2)] = _
      rw [hd, h2, frame_rec _ _ _ t k2 k4]
    · show (st rs.length (encR rs ++ (recBytes r.lsn r.kind r.pay ++ t))).2 + 15 + fLen ((encR rs ++ (recBytes r.lsn r.kind r.pay ++ t)).drop (st rs.length (encR rs ++ (recBytes r.lsn r.kind r.pay ++ t))).2) = _
      rw [hd, h3, encR_snoc, List.length_append, frame_len _ _ _ t k2, recBytes_len]
      omega
theorem fx_ended {rs : List Rec} (h : FineX rs) : Ended (encR rs) rs.length ∧ (st rs.length (encR rs)).1 = rs ∧ (st rs.length (encR rs)).2 = (encR rs).length := by
  obtain ⟨h1, h2, h3⟩ := fx_good rs h []
  rw [List.append_nil] at h1 h2 h3
  exact ⟨⟨h1, by rw [h3, List.drop_length]; exact frameOk_ffno (ffOk_short (by simp))⟩, h2, h3⟩
theorem equalIn_nilE (w : World) (d : Nat) (b : Int) :
    (Op.equalIn (d + 2) 79 .nilIface (.iface 31 (.int .i64 b))).run Tryz.prog w = .ok false w := by
  simp [Op.equalIn, run_underlying Tryz.underlying79]
theorem eql_nilE (w : World) (b : Int) :
    (binOp .eql 79 .nilIface (.iface 31 (.int .i64 b))).run Tryz.prog w = .ok (.bool false) w := by
  simp only [binOp]
  simp [Op.equal, Op.maxDepth, equalIn_nilE w 9998 b]
set_option maxRecDepth 100000 in
set_option maxHeartbeats 2000000 in
theorem is_nil (n : Int) (w : World) :
    Calls Tryz.prog 81 #[.nilIface, .iface 31 (.int .i64 n)] w fun ev w' => ev = .returned (.bool false) ∧ w' = w := by
  have he : ∀ w, (binOp .eql 79 .nilIface (.iface 31 (.int .i64 n))).run Tryz.prog w = .ok (.bool false) w := fun w => eql_nilE w n
  go_enter Tryz.func81, Tryz.ntmps81
  go_wp2
  go_ret
  exact ⟨rfl, rfl⟩
set_option maxRecDepth 100000 in
set_option maxHeartbeats 2000000 in
theorem readMark_some (B p bD bN n nD nN f : Nat) (pv : Value) (d : ADisk) (w : World) (h : DiskIn w B p bD bN pv d n nD nN) (hdn : d.down = false) (hno : d.now markNm = some (str (recBytes f 0 []))) (hf : f < 18446744073709551616) :
    Calls Tryz.prog 173 #[dskV p] w fun e w' => e = .returned (.tuple #[.int .u64 (f : Int), .nilIface]) ∧ Below w.heap.size w w' := by
  have hm := Tryz.mRead
  have hr := read_any B p bD bN n nD nN pv d markNm w h (by decide)
  have hfx : FineX [⟨f, 0, []⟩] := by intro r hr; simp at hr; subst hr; exact ⟨show 0 < 256 by decide, show 0 ≤ 255 by decide, by intro x hx; simp at hx, hf⟩
  have henc : encR [⟨f, 0, []⟩] = recBytes f 0 [] := by simp [encR]
  have e : d.read markNm = (some (str (encR [⟨f, 0, []⟩])), 0) := by unfold ADisk.read; rw [if_neg (by rw [hdn]; decide), hno, henc]
  have hel : (encR [⟨f, 0, []⟩]).length = 15 := by rw [henc, recBytes_len]; rfl
  clear h hno
  go_enter Tryz.func173, Tryz.ntmps173
  go_wp2_with fail
  refine hr.mono ?_
  clear hr
  rintro e1 w1 ⟨v, rfl, hgot, hb⟩
  rw [e] at hgot ⊢
  rw [errN_ok]
  have hsrc : Src w1 v (encR [⟨f, 0, []⟩]) := by
    have : Src w1 v (bytesOf (str (encR [⟨f, 0, []⟩]))) := hgot
    rwa [bytesOf_str (fx_byt hfx)] at this
  have hsc := scanW v (encR [⟨f, 0, []⟩]) w1 hsrc (fx_byt hfx) (by omega)
  obtain ⟨b2, o2, c2, rfl⟩ : ∃ b2 o2 c2, v = .slice (some ⟨b2, o2, none⟩) 15 c2 := by
    rcases hsrc with ⟨_, e⟩ | ⟨b, off, cap, e, _⟩
    · rw [e] at hel; simp at hel
    · exact ⟨b, off, cap, by rw [e, hel]⟩
  have HB : Hid (Below w.heap.size w w1) := hb
  clear hgot hsrc hb
  go_wp2_with fail
  refine (is_nil 8 w1).mono ?_
  rintro e2 w2 ⟨rfl, rfl⟩
  go_wp2_with fail
  refine hsc.mono ?_
  clear hsc
  rintro e3 w3 ⟨k, v3, rfl, hE, hrow, _, hb3⟩
  obtain ⟨z1, z2, z3⟩ := fx_ended hfx
  obtain rfl := ended_unique hE z1
  rw [z2] at hrow
  rw [z3, hel]
  obtain ⟨g3, c3, rfl⟩ := own_pos hrow (by simp)
  have q1 := hrow.cells (g := g3) rfl 0 (.int .u64 (f : Int)) (by simp [recsV, recCells])
  have q2 := hrow.cells (g := g3) rfl 1 (.int .u8 0) (by simp [recsV, recCells])
  have q3 := hrow.cells (g := g3) rfl 2 (.string (str [])) (by simp [recsV, recCells])
  simp only [Addr.add_lit, Nat.zero_add] at q1 q2 q3
  have HB3 : Hid (Below w.heap.size w w3) := HB.out.trans (hb3.mono HB.out.size)
  clear hE hrow hb3 z1 z2 z3
  go_wp2
  go_ret2
  exact ⟨rfl, HB3.out⟩
section
variable {w w5 : World} {B lp p bD bN n nD nN : Nat} {pv sv rv v : Value} {l : ALog} {d : ADisk}
theorem LogIn.segsAt {ss : List Nat} (h : LogIn w B lp p bD bN pv sv rv l d n nD nN) (h5 : Fr sv.ownBlock.toList w w5) (ho : w5.ownsRow B 33 1 v ss.length (u64s ss)) (hnr : Near w.heap.size sv v) (hl : ss.length ≤ n ∧ ∀ s ∈ ss, s < 18446744073709551616) :
    LogIn (w5.setCell ⟨lp, 1, none⟩ v) B lp p bD bN pv v rv { l with segs := ss } d n nD nN ∧ OFr lp p w (w5.setCell ⟨lp, 1, none⟩ v) := by
  have hlp := (Array.getElem?_eq_some_iff.1 h.blk).1
  have hne : lp ∉ sv.ownBlock.toList := by simp; exact own_ne h.segs h.blk (by decide)
  have hb4 : w5.heap[lp]? = some (logO p sv rv l) := (h5.block lp hlp hne).trans h.blk
  obtain ⟨W, hW⟩ : ∃ W, W = w5.setCell ⟨lp, 1, none⟩ v := ⟨_, rfl⟩
  rw [← hW]
  have hfw : Fr [lp] w5 W := by rw [hW]; exact Fr.set1 (by simp) _ _
  have hf : Fr (lp :: sv.ownBlock.toList) w W := (h5.mono (fun k _ hk => List.mem_cons_of_mem _ hk)).trans (hfw.mono (by intro k _ hk; simp at hk; simp [hk]))
  have hb : W.heap[lp]? = some (logO p v rv { l with segs := ss }) := by
    rw [hW]
    have := blk_set hb4 1 v
    simpa using this
  have hs : W.ownsRow B 33 1 v ss.length (u64s ss) := ownsRow_fr ho hfw (fun g hg => by simp; intro e; subst e; exact own_ne ho hb4 (by decide) hg)
  have hr : W.ownsRow B 103 3 rv l.recs.length (recsV l.recs) := ownsRow_fr h.recs hf (fun g hg hm => by
    rcases List.mem_cons.1 hm with e | hm
    · subst e; exact own_ne h.recs h.blk (by decide) hg
    · simp at hm; obtain ⟨c, hcc⟩ := own_cells h.segs hm; exact own_ne h.recs hcc (by decide) hg)
  have hl2 : LogIn W B lp p bD bN pv v rv { l with segs := ss } d n nD nN := h.rows (n' := n) hf (by intro k hk _; rcases List.mem_cons.1 hk with e | hk; exact .inl e; simp at hk; exact .inr (.inl hk)) hb hs hr (Nat.le_refl _) h.disk.hn hl h.recsN h.fillN h.nextN h.durN
  exact ⟨hl2, h.ofr hl2 hf (by intro k hk _; rcases List.mem_cons.1 hk with e | hk; simp [e]; simp at hk; simp [hk]) (.inl rfl) (Near.refl _ _) hnr (Near.refl _ _)⟩
theorem LogIn.recsAt {rs : List Rec} (h : LogIn w B lp p bD bN pv sv rv l d n nD nN) (h5 : Fr rv.ownBlock.toList w w5) (ho : w5.ownsRow B 103 3 v rs.length (recsV rs)) (hnr : Near w.heap.size rv v) (hl : rs.length ≤ n) :
    LogIn (w5.setCell ⟨lp, 3, none⟩ v) B lp p bD bN pv sv v { l with recs := rs } d n nD nN ∧ OFr lp p w (w5.setCell ⟨lp, 3, none⟩ v) := by
  have hlp := (Array.getElem?_eq_some_iff.1 h.blk).1
  have hne : lp ∉ rv.ownBlock.toList := by simp; exact own_ne h.recs h.blk (by decide)
  have hb4 : w5.heap[lp]? = some (logO p sv rv l) := (h5.block lp hlp hne).trans h.blk
  obtain ⟨W, hW⟩ : ∃ W, W = w5.setCell ⟨lp, 3, none⟩ v := ⟨_, rfl⟩
  rw [← hW]
  have hfw : Fr [lp] w5 W := by rw [hW]; exact Fr.set1 (by simp) _ _
  have hf : Fr (lp :: rv.ownBlock.toList) w W := (h5.mono (fun k _ hk => List.mem_cons_of_mem _ hk)).trans (hfw.mono (by intro k _ hk; simp at hk; simp [hk]))
  have hb : W.heap[lp]? = some (logO p sv v { l with recs := rs }) := by
    rw [hW]
    have := blk_set hb4 3 v
    simpa using this
  have hr : W.ownsRow B 103 3 v rs.length (recsV rs) := ownsRow_fr ho hfw (fun g hg => by simp; intro e; subst e; exact own_ne ho hb4 (by decide) hg)
  have hs : W.ownsRow B 33 1 sv l.segs.length (u64s l.segs) := ownsRow_fr h.segs hf (fun g hg hm => by
    rcases List.mem_cons.1 hm with e | hm
    · subst e; exact own_ne h.segs h.blk (by decide) hg
    · simp at hm; obtain ⟨c, hcc⟩ := own_cells h.recs hm; exact own_ne h.segs hcc (by decide) hg)
  have hl2 : LogIn W B lp p bD bN pv sv v { l with recs := rs } d n nD nN := h.rows (n' := n) hf (by intro k hk _; rcases List.mem_cons.1 hk with e | hk; exact .inl e; simp at hk; exact .inr (.inr hk)) hb hs hr (Nat.le_refl _) h.disk.hn h.segsN hl h.fillN h.nextN h.durN
  exact ⟨hl2, h.ofr hl2 hf (by intro k hk _; rcases List.mem_cons.1 hk with e | hk; simp [e]; simp at hk; simp [hk]) (.inl rfl) (Near.refl _ _) (Near.refl _ _) hnr⟩
end
theorem recsV_app (a b : List Rec) : recsV (a ++ b) = recsV a ++ recsV b := by simp [recsV]
end Go.Proofs.YtkhjhojmhllkaaaGreatDoor
/- A LOG OF ONE SEGMENT, ALL OF IT DURABLE: what Keep leaves; the power fails; it is opened again. -/
namespace Go.Proofs.YtkhjhojmhllkaaaGreatDoor
open Go.RowKit Go.Maps
open Sc

theorem writesE {d : ADisk} {c : Nat} (h : d.Well c) (hc : c < 1099511627776) : d.writes = ({ d with left := d.left - 1, full := d.full - 1 }, 0) := by
  have h1 := h.left
  have h2 := h.full
  have e := wr_ok (d := d) (by rw [h.up]; simp; omega) (by omega)
  have e1 : wrap64 (d.left - 1) = d.left - 1 := by unfold wrap64; omega
  have e2 : wrap64 (d.full - 1) = d.full - 1 := by unfold wrap64; omega
  rw [e1, e2] at e
  exact e
theorem syncE {d : ADisk} {c : Nat} (h : d.Well c) (hc : c < 1099511627776) : d.sync = ({ d with left := d.left - 1, full := d.full - 1, durable := d.pending.foldl doOp d.durable, pending := [] }, 0) := by
  unfold ADisk.sync
  simp only [writesE h hc, if_true]
theorem tellE {d : ADisk} {c : Nat} {o : AOp} (h : d.Well c) (hc : c < 1099511627776) (h1 : o.kind = 2) : d.tell o = ({ d with left := d.left - 1, full := d.full - 1, now := doOp d.now o, pending := d.pending ++ [o] }, 0) := by
  unfold ADisk.tell
  simp only [writesE h hc]
  rw [if_neg (by omega), if_neg (by omega), if_neg (by omega), if_neg (by omega)]
/-- a log whose records fill one segment at most, all durable, between calls -/
structure One (l : ALog) (d : ADisk) (rs : List Rec) : Prop where
  next : l.next = 1 + rs.length
  recs : l.recs = rs
  failed : l.failed = 0
  file : (rs = [] ∧ l.segs = [] ∧ l.filled = 600 ∧ ∀ k, d.now k = none) ∨ (rs ≠ [] ∧ l.segs = [1] ∧ l.filled = (encR rs).length ∧ SoleD d (str (encR rs)))
  dur : d.durable = d.now
  pen : d.pending = []
  fine : FineR rs
  few : (encR rs).length < 600
  durN : l.durable = l.next
  well : d.Well 0
theorem One.sg {l : ALog} {d : ADisk} {rs : List Rec} (h : One l d rs) : l.filled < 600 → l.segs ≠ [] := by
  intro hf
  rcases h.file with ⟨_, _, e, _⟩ | ⟨_, e, _⟩
  · omega
  · rw [e]; simp
theorem One.knob {l : ALog} {d : ADisk} {rs : List Rec} (h : One l d rs) : One l (d.knob (-1) (-1)) rs := { h with well := ⟨h.well.up, by simp [ADisk.knob], by simp [ADisk.knob]⟩ }
theorem well_dec {d : ADisk} {c : Nat} (h : d.Well c) (f g : Files) (p : List AOp) : ADisk.Well ⟨f, g, p, d.left - 1, d.full - 1, d.down⟩ (c + 1) := ⟨h.up, by have := h.left; simp; omega, by have := h.full; simp; omega⟩
theorem sole_set {m : Files} {t : ByteArray} (h : ∀ k, k ≠ segName 1 → m k = none) : ∀ k, m.set (segName 1) (some t) k = if k = segName 1 then some t else none := by
  intro k
  unfold Files.set
  by_cases e : k = segName 1
  · simp [e]
  · simp [e, h k e]
/-- what Keep leaves, between calls -/
theorem One.keep {l : ALog} {d : ADisk} {rs : List Rec} (h : One l d rs) {kind : Nat} {s : ByteArray} (hs : s.size ≤ 255) (hf : FineR (rs ++ [⟨1 + rs.length, kind, bytesOf s⟩])) (h6 : (encR (rs ++ [⟨1 + rs.length, kind, bytesOf s⟩])).length < 600) :
    (l.keep d kind s).2.2 = 0 ∧ (l.keep d kind s).2.1.down = false ∧ One (l.keep d kind s).1 ((l.keep d kind s).2.1.knob (-1) (-1)) (rs ++ [⟨1 + rs.length, kind, bytesOf s⟩]) := by
  have hnx := h.next
  have hw := h.well
  obtain ⟨o, ho⟩ : ∃ o : AOp, o = ⟨2, segName 1, ByteArray.empty, str (recBytes l.next kind (bytesOf s))⟩ := ⟨_, rfl⟩
  -- what the room gives
  obtain ⟨d1, hd1, w1, e1, p1⟩ : ∃ d1 : ADisk, l.room d = ({ l with segs := [1], filled := (encR rs).length, durable := l.durable }, d1, 0) ∧ d1.Well 1 ∧ d1.now = d.now ∧ d1.pending = [] ∧ d1.durable = d.durable := by
    rcases h.file with ⟨r0, sg, fi, _⟩ | ⟨_, sg, fi, _⟩
    · refine ⟨{ d with left := d.left - 1, full := d.full - 1 }, ?_, well_dec hw _ _ _, rfl, h.pen, rfl⟩
      unfold ALog.room
      have es : l.sync d = ({ l with durable := l.next }, { d with left := d.left - 1, full := d.full - 1, durable := d.pending.foldl doOp d.durable, pending := [] }, 0) := by
        unfold ALog.sync; rw [syncE hw (by omega)]; rfl
      rw [if_neg (by omega), es]
      simp only [if_true]
      rw [h.pen, sg, hnx, h.durN, hnx, r0]
      have : d.pending = [] := h.pen
      obtain ⟨a, b, c, e, f, g⟩ := d
      simp at this
      subst this
      rfl
    · refine ⟨d, ?_, hw.mono (by omega), rfl, h.pen, rfl⟩
      unfold ALog.room
      rw [if_pos (by rw [fi]; exact h.few)]
      obtain ⟨a, b, c, e, f, g⟩ := l
      simp at sg fi
      subst sg fi
      rfl
  obtain ⟨d2, hd2⟩ : ∃ d2 : ADisk, d2 = { d1 with left := d1.left - 1, full := d1.full - 1, now := doOp d1.now o, pending := d1.pending ++ [o] } := ⟨_, rfl⟩
  have w2 : d2.Well 2 := by rw [hd2]; exact well_dec w1 _ _ _
  have hput : l.put d (recBytes l.next kind (bytesOf s)) = ({ l with segs := [1], filled := (encR rs).length, durable := l.durable }, d2, 0) := by
    unfold ALog.put
    rw [hd1]
    simp only [if_true, List.getLastD_cons, List.getLastD_nil]
    rw [tellE w1 (by omega) rfl]
    rw [hd2, ho]
  have hwr : l.wr d (l.put d (recBytes l.next kind (bytesOf s))) = ({ l with segs := [1], filled := (encR rs).length, durable := l.durable, failed := 0 }, d2, 0) := by
    unfold ALog.wr
    rw [if_pos h.failed, hput]
  have hap : l.note d kind s = ({ l with segs := [1], filled := (encR rs).length + (15 + s.size), durable := l.durable, failed := 0, recs := rs ++ [⟨1 + rs.length, kind, bytesOf s⟩], next := l.next + 1 }, d2, 0) := by
    unfold ALog.note ALog.append
    rw [if_neg (by omega), hwr]
    simp only [if_true, h.recs, hnx]
  obtain ⟨d3, hd3⟩ : ∃ d3 : ADisk, d3 = { d2 with left := d2.left - 1, full := d2.full - 1, durable := d2.pending.foldl doOp d2.durable, pending := [] } := ⟨_, rfl⟩
  have w3 : d3.Well 3 := by rw [hd3]; exact well_dec w2 _ _ _
  have hkp : l.keep d kind s = ({ l with segs := [1], filled := (encR rs).length + (15 + s.size), durable := l.next + 1, failed := 0, recs := rs ++ [⟨1 + rs.length, kind, bytesOf s⟩], next := l.next + 1 }, d3, 0) := by
    unfold ALog.keep
    rw [hap]
    simp only [if_true]
    unfold ALog.force
    rw [if_neg (by simp; have := h.durN; omega)]
    unfold ALog.wr ALog.sync
    simp only [if_true]
    rw [syncE w2 (by omega)]
    simp only [if_true]
    rw [← hd3]
  have hno3 : d3.now = doOp d.now o := by rw [hd3, hd2]; simp only; rw [e1]
  have hdu3 : d3.durable = doOp d.now o := by
    rw [hd3, hd2]
    simp only [p1.1, p1.2, List.nil_append, List.foldl_cons, List.foldl_nil, h.dur]
  have hre : str (encR (rs ++ [⟨1 + rs.length, kind, bytesOf s⟩])) = str (encR rs) ++ str (recBytes l.next kind (bytesOf s)) := by rw [encR_snoc, str_app, hnx]
  have hso : ∀ k, doOp d.now o k = if k = segName 1 then some (str (encR (rs ++ [⟨1 + rs.length, kind, bytesOf s⟩]))) else none := by
    rw [ho, doOp_app, hre]
    rcases h.file with ⟨r0, _, _, hn⟩ | ⟨_, _, _, hn⟩
    · have e0 : (d.now (segName 1)).getD ByteArray.empty = str (encR rs) := by rw [hn, r0]; rfl
      rw [e0]
      exact sole_set (fun k _ => hn k)
    · have e0 : (d.now (segName 1)).getD ByteArray.empty = str (encR rs) := by rw [hn, if_pos rfl]; rfl
      rw [e0]
      exact sole_set (fun k hk => by rw [hn, if_neg hk])
  rw [hkp]
  refine ⟨rfl, w3.up, { next := by simp [hnx]; omega, recs := rfl, failed := rfl, file := .inr ⟨by simp, rfl, ?_, fun k => ?_⟩, dur := ?_, pen := by show d3.pending = []; rw [hd3], fine := hf, few := h6, durN := rfl, well := ⟨w3.up, by simp [ADisk.knob], by simp [ADisk.knob]⟩ }⟩
  · simp only
    rw [encR_snoc, List.length_append, recBytes_len, bytesOf_len]
  · show d3.now k = _
    rw [hno3]
    exact hso k
  · show d3.durable = d3.now
    rw [hno3, hdu3]
/-- a disk that has such a log, nothing being open -/
structure OneD (d : ADisk) (rs : List Rec) : Prop where
  sole : SoleD d (str (encR rs))
  dur : d.durable = d.now
  pen : d.pending = []
  fine : FineR rs
  few : (encR rs).length < 600
  ne : rs ≠ []
  well : d.Well 0
theorem One.lost {l : ALog} {d : ADisk} {rs : List Rec} (h : One l d rs) (hne : rs ≠ []) : OneD (d.up.knob (-1) (-1)) rs where
  sole := fun k => by
    rcases h.file with ⟨e, _⟩ | ⟨_, _, _, hs⟩
    · exact absurd e hne
    · show d.durable k = _; rw [h.dur]; exact hs k
  dur := rfl
  pen := rfl
  fine := h.fine
  few := h.few
  ne := hne
  well := ⟨rfl, by simp [ADisk.knob], by simp [ADisk.knob]⟩
theorem opensE {d : ADisk} (l : ALog) (h : d.Well 0) : l.opens d = ({ l with durable := l.next }, { d with left := d.left - 1 - 1, full := d.full - 1 - 1, durable := d.pending.foldl doOp d.durable, pending := [] }, 0) := by
  have es : l.sync d = ({ l with durable := l.next }, { d with left := d.left - 1, full := d.full - 1, durable := d.pending.foldl doOp d.durable, pending := [] }, 0) := by
    unfold ALog.sync; rw [syncE h (by omega)]; rfl
  unfold ALog.opens
  rw [es]
  simp only [if_true]
  have w1 : ADisk.Well { d with left := d.left - 1, full := d.full - 1, durable := d.pending.foldl doOp d.durable, pending := [] } 1 := well_dec h _ _ _
  unfold ADisk.removeAll
  rw [syncE w1 (by omega)]
  rfl
theorem One.opened {d : ADisk} {rs : List Rec} (h : OneD d rs) : ((logR rs (1 + rs.length)).opens d).2.2 = 0 ∧ ((logR rs (1 + rs.length)).opens d).2.1.down = false ∧ ((logR rs (1 + rs.length)).opens d).1.recs = rs ∧ ((logR rs (1 + rs.length)).opens d).1.next = 1 + rs.length ∧ One ((logR rs (1 + rs.length)).opens d).1 (((logR rs (1 + rs.length)).opens d).2.1.knob (-1) (-1)) rs := by
  rw [opensE _ h.well]
  refine ⟨rfl, h.well.up, rfl, rfl, { next := rfl, recs := rfl, failed := rfl, file := .inr ⟨h.ne, rfl, rfl, h.sole⟩, dur := ?_, pen := rfl, fine := h.fine, few := h.few, durN := rfl, well := ⟨h.well.up, by simp [ADisk.knob], by simp [ADisk.knob]⟩ }⟩
  show d.pending.foldl doOp d.durable = d.now
  rw [h.pen, h.dur]; rfl
theorem One.first {d : ADisk} (hno : ∀ k, d.now k = none) (hdu : d.durable = d.now) (hpe : d.pending = []) (hw : d.Well 0) : ((log0 1).opens d).2.2 = 0 ∧ ((log0 1).opens d).2.1.down = false ∧ ((log0 1).opens d).1.recs = [] ∧ ((log0 1).opens d).1.next = 1 ∧ One ((log0 1).opens d).1 (((log0 1).opens d).2.1.knob (-1) (-1)) [] := by
  rw [opensE _ hw]
  refine ⟨rfl, hw.up, rfl, rfl, { next := rfl, recs := rfl, failed := rfl, file := .inl ⟨rfl, rfl, rfl, hno⟩, dur := ?_, pen := rfl, fine := fun k r hk => by simp at hk, few := by decide, durN := rfl, well := ⟨hw.up, by simp [ADisk.knob], by simp [ADisk.knob]⟩ }⟩
  show d.pending.foldl doOp d.durable = d.now
  rw [hpe, hdu]; rfl
/-- records that a ledger noted -/
def Noted (J : List Rec → AShard → Prop) (rs : List Rec) : Prop := (∀ r ∈ rs, r.kind < 128) ∧ rs.length ≤ 10 ∧ J [] sh0 ∧ ∀ pre x s', pre ++ [x] <+: rs → J pre s' → Entr (J (pre ++ [x])) s' x
theorem shPre_one {J : List Rec → AShard → Prop} {B p bD bN n nD nN : Nat} {pv : Value} {d : ADisk} {rs : List Rec} {w : World} (hd : DiskIn w B p bD bN pv d n nD nN) (hB : 2 ≤ B) (h : OneD d rs) (hN : Noted J rs) (hpow : Pows w) (hn : 10 ≤ n) : ShPre J B p bD bN n ((logR rs (1 + rs.length)).opens d) w := by
  obtain ⟨o1, o2, o3, o4, o5⟩ := One.opened h
  refine { disk := ⟨_, _, _, _, hd⟩, jop := fun W hW => ?_, plain := ?_, first := ?_, byt := ?_, none := hN.2.2.1, ents := ?_, few := ?_, num := hd.hn }
  · exact jopen_one B p bD bN n nD nN pv d rs W (hd.new hW) hB h.well.up h.fine h.ne h.sole (hpow.of_block (hW.block 1 (by have := hd.base.2.2.2; omega) (by simp))) (by have := hN.2.1; omega) (by omega) (by have := h.few; omega) o1
  · rw [o3]; intro r hr
    obtain ⟨k, hk⟩ := List.mem_iff_getElem?.1 hr
    exact ⟨hN.1 r hr, by have := (h.fine k r hk).1; omega⟩
  · rw [o3]
    cases rs with
    | nil => exact absurd rfl h.ne
    | cons r rs => exact (h.fine 0 r rfl).1
  · rw [o3]; intro r hr
    obtain ⟨k, hk⟩ := List.mem_iff_getElem?.1 hr
    have := h.fine k r hk
    exact ⟨this.2.2.2.1, by omega⟩
  · rw [o3]; exact hN.2.2.2
  · rw [o3]; have := hN.2.1; unfold maxLen; omega
theorem shPre_none {B p bD bN n nD : Nat} {pv : Value} {d : ADisk} {w : World} (hd : DiskIn w B p bD bN pv d n nD 0) (hno : ∀ k, d.now k = none) (hdu : d.durable = d.now) (hpe : d.pending = []) (hw : d.Well 0) : ShPre (fun _ s => s = sh0) B p bD bN n ((log0 1).opens d) w := by
  obtain ⟨o1, o2, o3, o4, o5⟩ := One.first hno hdu hpe hw
  refine { disk := ⟨_, _, _, _, hd⟩, jop := fun W hW => jopen_empty B p bD bN n nD pv d W (hd.new hW) hw.up (hno _) o1, plain := ?_, first := ?_, byt := ?_, none := rfl, ents := ?_, few := ?_, num := hd.hn }
  · rw [o3]; intro r hr; cases hr
  · rw [o3, o4]; rfl
  · rw [o3]; intro r hr; cases hr
  · rw [o3]; intro pre x s' hp; have := hp.length_le; simp at this
  · rw [o3]; decide
end Go.Proofs.YtkhjhojmhllkaaaGreatDoor
/- SHARDS: Waiting. -/
namespace Go.Proofs.YtkhjhojmhllkaaaGreatDoor
open Go.RowKit Go.Maps Go.Shelf
open Sc

theorem wpListIn_append_at {F : Fence} {n : Nat} {P : Program} (w : World) {ops : Array Oper} {rest : List Oper} {o : Oper} {a : Act} {Q : Exit → Act → World → Prop}
    (hg : o.guard = none) (s x : Operand) (t : TypeId) (hop : o.op = Op.call { callee := Callee.builtin Builtin.append, args := #[s, x], argTypes := #[t, t] })
    (base : Nat) (e : TypeId) (i : TypeInfo) (z : Value) (size bytes : Nat) (h1 : P.underlying t = some (.slice e)) (h2 : P.info? e = some i) (h3 : i.zero = some z) (h4 : i.size = size) (h5 : i.bytes = bytes) (h6 : z.cells.size = size) (h7 : 0 < size)
    (v : Value) (k : Nat) (xs : List Value) (hs : a.eval s = v) (hown : w.ownsRow base e size v k xs) (ad : Addr) (m c : Nat) (news : List Value) (hx : a.eval x = .slice (some ad) m c) (hn : news.length = m * size)
    (hc : ∀ j u, news[j]? = some u → w.cell? (ad.add j) = some u) (h1c : ∀ u ∈ news, u.oneCell' = true) (b1 : k + m ≤ maxLen) (b2 : (k + m) * bytes ≤ 140737488355328) (b3 : base ≤ w.heap.size)
    (hK : ∀ v' w', w'.ownsRow base e size v' (k + m) (xs ++ news) → w.grownBy w' v.ownBlock → (v'.ownBlock = v.ownBlock ∨ v'.ownBlock = some w.heap.size) → wpListIn F n P ops Q rest (a.put o.dst v') w') :
    wpListIn F n P ops Q (o :: rest) a w := by
  refine wpListIn_plain hg fun K hK' => ?_
  obtain ⟨v', w', hrun, r1, r2, _, r3⟩ := run_append_own_at (P := P) w base t o.type e i z size bytes h1 h2 h3 h4 h5 h6 h7 v k xs hown ad m c news hn hc h1c b1 b2 b3
  unfold Oper.wpIn
  refine ⟨?_, ?_⟩
  · simp [Oper.about, hop, resolve, Target.leads, Sem.run_pure]
  · rw [Oper.semAt_plain F _ _ (by rw [hop]; intro c hc'; cases hc')]
    simp [execOp, hop, resolve, invoke, builtin, hs, hx, hrun, Result.andThen]
    exact hK' _ _ (hK v' w' r1 r2 r3)
/-- those that are prepared -/
def waits (ys : List (Nat × ATxn)) : List Nat := (ys.filter fun y => decide (y.2.state = 3)).map (·.1)
def waitsS {L : List (Nat × ATxn)} (pre : List { x : Nat × ATxn // x ∈ L }) : List Nat := waits (pre.map (·.1))
theorem waitsS_yes {L : List (Nat × ATxn)} (pre : List { x : Nat × ATxn // x ∈ L }) (x : { x : Nat × ATxn // x ∈ L }) (h : x.1.2.state = 3) : waitsS (pre ++ [x]) = waitsS pre ++ [x.1.1] := by simp [waitsS, waits, h]
theorem waitsS_no {L : List (Nat × ATxn)} (pre : List { x : Nat × ATxn // x ∈ L }) (x : { x : Nat × ATxn // x ∈ L }) (h : x.1.2.state ≠ 3) : waitsS (pre ++ [x]) = waitsS pre := by simp [waitsS, waits, h]
theorem waitsS_len {L : List (Nat × ATxn)} (pre : List { x : Nat × ATxn // x ∈ L }) : (waitsS pre).length ≤ pre.length := by
  unfold waitsS waits
  rw [List.length_map]
  exact Nat.le_trans (List.length_filter_le _ _) (by simp)
set_option maxRecDepth 100000 in
set_option maxHeartbeats 4000000 in
theorem waiting_in (n : Nat) (hn : 8 ≤ n) (sp lg bV bT bH m : Nat) (s : AShard) (w : World) (h : ShIn w sp lg bV bT bH m s) (hl : s.txns.length ≤ 12) :
    CallsIn Fence.wide n Tryz.prog 49 #[.pointer (some ⟨sp, 0, none⟩)] w fun e w' => ∃ v ss, e = .returned v ∧ ss.Perm (s.txns.map (·.1)) ∧ ss.Pairwise (· ≤ ·) ∧ w'.ownsRow w.heap.size 33 1 v (waits (atT s.txns ss)).length (u64s (waits (atT s.txns ss))) ∧ (v = .slice none 0 0 ↔ waits (atT s.txns ss) = []) ∧ Below w.heap.size w w' := by
  have hro : Fence.wide.round = none := rfl
  have h1 : 1 ≤ n := by omega
  have hf2 : Fence.wide.fn 96 := trivial
  have hf3 : Fence.wide.fn 137 := trivial
  obtain ⟨i0, hi, hz0, hz1, hz2⟩ := info_parts Tryz.infoU64
  have HL : Hid (MapAs KU ET w bT m s.txns ∧ s.txns.length ≤ 12) := ⟨h.txns, hl⟩
  have hsp : sp < w.heap.size := (Array.getElem?_eq_some_iff.1 h.blk).1
  have c2 : (w.alloc (.cells #[.slice none 0 0] 44)).cell? ⟨sp, 2, none⟩ = some (.map (some bT)) := by
    rw [World.cell?_alloc_lt _ _ ⟨sp, 2, none⟩ hsp]
    have := blk_cell h.blk 2
    simpa using this
  obtain ⟨L, hLL⟩ : ∃ L, L = s.txns := ⟨_, rfl⟩
  rw [← hLL] at HL ⊢
  clear h hl hLL
  refine callsIn_of_wp_marks Tryz.func49 rfl trivial ?_ hro
  simp only [Tryz.ntmps49, List.size_toArray, List.length_cons, List.length_nil, Nat.reduceAdd, Nat.reduceSub, Array.replicate_succ, Array.replicate_zero, List.push_toArray, List.append_toArray, List.nil_append, List.cons_append]
  gi_wp2_with (gi_at_call 96; refine (byKeysT_fn _ bT _).mono ?_; rintro e w2 ⟨rfl, rfl⟩)
  have bO := Boxed.new w 44 (.slice none 0 0)
  have bA := Boxed.new (w.alloc (.cells #[.slice none 0 0] 44)) 138 (.map (some bT))
  rw [World.size_alloc] at bA
  have bO1 := bO.alloc (.cells #[.map (some bT)] 138)
  have hB0 : Below w.heap.size w ((w.alloc (.cells #[.slice none 0 0] 44)).alloc (.cells #[.map (some bT)] 138)) := ((Below.refl _ w).alloc (Nat.le_refl _) _).alloc (by simp) _
  have hsz : ((w.alloc (.cells #[.slice none 0 0] 44)).alloc (.cells #[.map (some bT)] 138)).heap.size = w.heap.size + 2 := by simp
  obtain ⟨W0, hW0⟩ : ∃ W0, ((w.alloc (.cells #[.slice none 0 0] 44)).alloc (.cells #[.map (some bT)] 138)) = W0 := ⟨_, rfl⟩
  rw [hW0] at bA bO1 hB0 hsz ⊢
  clear hW0 bO c2
  have hL0 : MapAs KU ET W0 bT m L := HL.out.1.fr (S := []) ⟨hB0.os, hB0.tape, hB0.output, hB0.size, fun k hk _ => hB0.block k hk⟩ (by simp)
  refine wpIn_rangeFunc_ownH hro h1 (gf := 137) (lb := #[.pointer (some ⟨w.heap.size + 1, 0, none⟩)]) rfl hf3 (enters_of Tryz.func137 (by kernel_rfl) rfl)
    (byKeysT_stops (n - 1) (by omega) (w.heap.size + 1) bT m L HL.out.2 W0 (by omega) bA.cell hL0 (KpB 33 153 w.heap.size w.heap.size) (fun k A => ¬ RowOf w.heap.size A k)
      (fun W k A hW _ hA hr => by
        obtain ⟨v, e1, e2⟩ := hr
        have h1 : A.cell? ⟨w.heap.size, 0, none⟩ = W0.cell? ⟨w.heap.size, 0, none⟩ := (hA.cell (p := ⟨w.heap.size, 0, none⟩) (by have := hW.size; show w.heap.size < _; omega)).trans (hW.cell (p := ⟨w.heap.size, 0, none⟩) (by show w.heap.size < _; omega))
        rw [h1, bO1.cell] at e1
        cases e1
        cases e2)
      (fun k A B c t ht hk hA hn => ⟨hk.same k c t ht hA hn, fun hr => hn (hk.stay k (Array.getElem?_eq_some_iff.1 hA).1 hr)⟩))
    (fun h k => h.trans k) (KpB.book (by omega) (by omega)) (Below.refl _ _) (fun _ => rfl)
    (fun pre W => (∃ v, Boxed W w.heap.size 44 v ∧ W.ownsRow w.heap.size 33 1 v (waitsS pre).length (u64s (waitsS pre)) ∧ (v = .slice none 0 0 ↔ waitsS pre = [])) ∧ Below w.heap.size w W)
    (fun _ _ _ => False)
    (OwnFrom.and (Own.from (holdsRow_own w.heap.size w.heap.size 44 33 1 (fun pre : List { x : Nat × ATxn // x ∈ L } => (waitsS pre).length) (fun pre => u64s (waitsS pre)) (fun pre v => (v = .slice none 0 0 ↔ waitsS pre = []))) _) (ownFrom_below (Nat.le_refl _) (by omega)))
    (fun _ _ _ _ _ hs _ _ => hs)
    ⟨⟨_, bO1, World.ownsRow_nil _ _ _ _, by simp [waitsS, waits]⟩, hB0⟩
    (fun x a' W => ∃ Bx, w.heap.size < Bx ∧ W.heap[Bx]? = some (.cells #[.int .i64 (x.1.2.state : Int), .int .i64 (x.1.2.done : Int), .int .u64 (x.1.2.last : Int)] 153 (0, 0)) ∧ a' = { tmps := #[.pointer (some ⟨sp, 0, none⟩), undef, .slice none 0 0, .pointer (some ⟨w.heap.size, 0, none⟩), .int .u64 (x.1.1 : Int), .pointer (some ⟨Bx, 0, none⟩), .pointer (some ⟨sp, 0, none⟩), .pointer (some ⟨sp, 0, none⟩), .pointer (some ⟨sp, 2, none⟩), .map (some bT), .func (.func 137) #[] #[.pointer (some ⟨w.heap.size + 1, 0, none⟩)], .int .u64 (x.1.1 : Int), .agg #[.int .i64 (x.1.2.state : Int), .int .i64 (x.1.2.done : Int), .int .u64 (x.1.2.last : Int)], undef, undef, undef, undef, undef, undef, undef, undef], defers := [] })
    (fun x a' _ X Y row hs hg hr => by
      obtain ⟨Bx, h1, h2, h3⟩ := hs
      exact ⟨Bx, h1, (hg.block Bx (Array.getElem?_eq_some_iff.1 h2).1 (fun e => by obtain ⟨_, o, ho, hc⟩ := hr Bx e.symm; rw [h2] at ho; cases ho; cases hc)).trans h2, h3⟩)
    ?assign ?body ?done ?stop
  case assign =>
    have hsem := @Oper.semAt_some
    rintro l pre x W K ⟨⟨v, hv, hrow, hnil⟩, hB1⟩ hK
    have HNL : Hid (v = .slice none 0 0 ↔ waitsS pre = []) := hnil
    clear hnil
    gi_wp2
    exact hK _ _ ((KeepsOthers.alloc _ _).from _) (KpB.alloc _ hB1.size hv.lt _) ⟨⟨v, hv.alloc _, hrow.alloc _, HNL.out⟩, hB1.alloc hB1.size _⟩ ⟨W.heap.size, hv.lt, World.alloc_heap_new W _, rfl⟩
  case body =>
    have hsem := @Oper.semAt_some
    rintro l pre x a' W hl2 _ ⟨⟨v, hv, hrow, hnil⟩, hB⟩ ⟨Bx, hBx, bX, rfl⟩ hlt
    have hc := hv.cell
    have x0 := cell_blk0 bX 0
    simp at x0
    have HNL : Hid (v = .slice none 0 0 ↔ waitsS pre = []) := hnil
    clear hnil
    have hwl := waitsS_len pre
    have h12 := HL.out.2
    by_cases h3 : x.1.2.state = 3
    · have HW : Hid (waitsS (pre ++ [x]) = waitsS pre ++ [x.1.1]) := waitsS_yes pre x h3
      rw [h3] at x0 bX
      rw [h3]
      clear h3
      gi_wp2_with (gi_at_builtin; refine wpListIn_append_at _ rfl _ _ 44 rfl w.heap.size 33 i0 _ 1 8 Tryz.underlying44 hi hz0 hz1 hz2 rfl (by decide) _ _ _ rfl (hrow.alloc _) ⟨W.heap.size, 0, none⟩ 1 1 [.int .u64 (x.1.1 : Int)] rfl rfl (cells_new _ #[.int .u64 (x.1.1 : Int)] _) (by intro u hu; simp at hu; subst hu; rfl) (by unfold maxLen; omega) (by omega) (by have := hB.size; simp; omega) ?_; intro v' w1 hown' hgrow hat; obtain ⟨g', cap', rfl⟩ := ownsRow_succ hown'; obtain ⟨hv1, hv2, hr2, hk2, hb2⟩ := hv.appended (by decide) hrow hB.size (Nat.le_refl _) hown' hgrow; have hc1 := hv1.cell; have hf1 := hv1.frozen; have HKP : Hid (KpB 33 153 w.heap.size w.heap.size W (w1.setCell ⟨w.heap.size, 0, none⟩ (.slice (some ⟨g', 0, none⟩) ((waitsS pre).length + 1) cap'))) := KpB.appended hv (by decide) (by decide) hgrow hat hb2 hv2; clear hat)
      exact ⟨hk2.from _, HKP.out, ⟨_, hv2, by rw [HW.out, u64s_snoc]; simpa using hr2, by rw [HW.out]; simp⟩, hB.trans hb2⟩
    · have HW : Hid (waitsS (pre ++ [x]) = waitsS pre) := waitsS_no pre x h3
      have i3 : ¬ (x.1.2.state : Int) = 3 := by omega
      gi_wp2
      exact ⟨KeepsFrom.refl _ _, KpB.refl _, ⟨v, hv, by rw [HW.out]; exact hrow, by rw [HW.out]; exact HNL.out⟩, hB⟩
  case done =>
    rintro D ys W hD hys ⟨⟨v, hv, hrow, hnil⟩, hB⟩ hK
    have hc := hv.cell
    have HNL : Hid (v = .slice none 0 0 ↔ waitsS ys = []) := hnil
    clear hnil
    obtain ⟨ss, p1, p2, p3⟩ := hys
    have e : waitsS ys = waits (atT L ss) := by unfold waitsS; rw [p3]
    have HE : Hid (waitsS ys = waits (atT L ss)) := e
    have HP : Hid (ss.Perm (L.map (·.1)) ∧ ss.Pairwise (· ≤ ·)) := ⟨p1, p2⟩
    clear e p1 p2 p3
    gi_wp2
    refine ⟨by simp, .inl ⟨_, _, rfl, run_takeDeferred hK, ?_⟩⟩
    exact ⟨_, results_tmp rfl _ _ _, v, ss, rfl, HP.out.1, HP.out.2, by rw [← HE.out]; exact ownsRow_putObj hrow _ hK rfl, by rw [← HE.out]; exact HNL.out, hB.trans (belowK_b (w := w) (Nat.le_refl _) W D _ _ (by omega) hK rfl rfl)⟩
  case stop =>
    rintro D c pre W _ _ h _
    exact h.elim
theorem waiting_any (sp lg bV bT bH m : Nat) (s : AShard) (w : World) (h : ShIn w sp lg bV bT bH m s) (hl : s.txns.length ≤ 12) :
    Calls Tryz.prog 49 #[.pointer (some ⟨sp, 0, none⟩)] w fun e w' => ∃ v ss, e = .returned v ∧ ss.Perm (s.txns.map (·.1)) ∧ ss.Pairwise (· ≤ ·) ∧ w'.ownsRow w.heap.size 33 1 v (waits (atT s.txns ss)).length (u64s (waits (atT s.txns ss))) ∧ (v = .slice none 0 0 ↔ waits (atT s.txns ss) = []) ∧ Below w.heap.size w w' :=
  (callsIn_wide (n := 8)).1 (waiting_in 8 (Nat.le_refl _) sp lg bV bT bH m s w h hl)
end Go.Proofs.YtkhjhojmhllkaaaGreatDoor
/- HOSTS OF A SHARD: Put, Delete, Get, Value, Waiting. -/
namespace Go.Proofs.YtkhjhojmhllkaaaGreatDoor
open Go.RowKit Go.Maps
open Sc

section
variable (B hp m n t : Nat) (seq : Int) (k : ByteArray) (s : AShard) (l : ALog) (d : ADisk) (w : World)
theorem SL.ops {w w' : World} {B sp gp bV bT bH m m' lp p bD bN n : Nat} {s s' : AShard} {l : ALog} {d : ADisk} (h : SL w B sp gp bV bT bH m lp p bD bN n s l d) (hin : ShIn w' sp gp bV bT bH m' s') (hf : Fr [bT, bH] w w') : SL w' B sp gp bV bT bH m' lp p bD bN n s' l d ∧ SFr sp bV bT bH lp p w w' :=
  h.turn hin hf (by intro k hk; simp at hk ⊢; rcases hk with e | e <;> simp [e])
set_option maxRecDepth 100000 in
set_option maxHeartbeats 2000000 in
theorem hPut_s (v : ByteArray) (h : HSt w B hp m n s l d) (hB : 2 ≤ B) (hmet : Met w) (ht : t < 18446744073709551616) (hn : m + 2 < maxLen) (hst : (s.txn t).state ≤ 3) (hdn : (s.txn t).done < 4611686018427387904) :
    Calls Tryz.prog 32 #[.pointer (some ⟨hp, 0, none⟩), .int .u64 (t : Int), .int .i64 seq, .string k, .string v] w fun e w' => e = .returned (.int .i64 ((s.operate t seq k ⟨1, v⟩).2 : Int)) ∧ HSt w' B hp (m + 2) n (s.operate t seq k ⟨1, v⟩).1 l d ∧ HFs B w w' := by
  obtain ⟨p, sp, gp, bV, bT, bH, lp, bD, bN, hh, hs, hb⟩ := h
  have hlg := hs.gp1
  have hpu := put_op sp gp bV bT bH m t seq k s w v hs.sh ht hn hst hdn
  obtain ⟨r, hr⟩ : ∃ r, r = s.operate t seq k ⟨1, v⟩ := ⟨_, rfl⟩
  rw [← hr] at hpu ⊢
  have c5 := blk_cell hh 5
  simp at c5
  have H0 : Hid (w.heap[hp]? = some (hostS p true (.pointer (some ⟨sp, 0, none⟩))) ∧ SL w B sp gp bV bT bH m lp p bD bN n s l d) := ⟨hh, hs⟩
  clear hh hs hr hst hdn
  go_enter Tryz.func32, Tryz.ntmps32
  go_wp2_with fail
  refine hpu.mono ?_
  clear hpu
  rintro e w1 ⟨rfl, hin1, hf1⟩
  obtain ⟨hs1, hx1⟩ := H0.out.2.ops hin1 hf1
  have hh1 := hx1.cells H0.out.2 H0.out.1 (by decide) (by decide) (by decide) (by decide) (by decide) (by decide)
  have hr1 := hx1.hfr H0.out.2 hb
  have hmet1 := hr1.met hB hmet
  have H1 : Hid (w1.heap[hp]? = some (hostS p true (.pointer (some ⟨sp, 0, none⟩))) ∧ SL w1 B sp gp bV bT bH (m + 2) lp p bD bN n r.1 l d ∧ HFs B w w1) := ⟨hh1, hs1, hr1⟩
  clear hin1 hf1 hs1 hx1 hh1 hr1 c5
  go_wp2_with fail
  refine (told_any r.2 w1 hmet1).mono ?_
  rintro e w2 ⟨rfl, hf2⟩
  obtain ⟨hs2, hx2⟩ := H1.out.2.1.new hf2
  have H2 : Hid (HSt w2 B hp (m + 2) n r.1 l d ∧ HFs B w w2) := ⟨⟨p, sp, gp, bV, bT, bH, lp, bD, bN, hx2.cells H1.out.2.1 H1.out.1 (by decide) (by decide) (by decide) (by decide) (by decide) (by decide), hs2, hb⟩, H1.out.2.2.trans (hx2.hfr H1.out.2.1 hb)⟩
  clear hs2 hx2 hf2
  go_wp2
  go_ret
  exact ⟨rfl, H2.out⟩
set_option maxRecDepth 100000 in
set_option maxHeartbeats 2000000 in
theorem hDelete_s (h : HSt w B hp m n s l d) (hB : 2 ≤ B) (hmet : Met w) (ht : t < 18446744073709551616) (hn : m + 2 < maxLen) (hst : (s.txn t).state ≤ 3) (hdn : (s.txn t).done < 4611686018427387904) :
    Calls Tryz.prog 33 #[.pointer (some ⟨hp, 0, none⟩), .int .u64 (t : Int), .int .i64 seq, .string k] w fun e w' => e = .returned (.int .i64 ((s.operate t seq k ⟨2, ByteArray.empty⟩).2 : Int)) ∧ HSt w' B hp (m + 2) n (s.operate t seq k ⟨2, ByteArray.empty⟩).1 l d ∧ HFs B w w' := by
  obtain ⟨p, sp, gp, bV, bT, bH, lp, bD, bN, hh, hs, hb⟩ := h
  have hlg := hs.gp1
  have hpu := delete_op sp gp bV bT bH m t seq k s w hs.sh ht hn hst hdn
  obtain ⟨r, hr⟩ : ∃ r, r = s.operate t seq k ⟨2, ByteArray.empty⟩ := ⟨_, rfl⟩
  rw [← hr] at hpu ⊢
  have c5 := blk_cell hh 5
  simp at c5
  have H0 : Hid (w.heap[hp]? = some (hostS p true (.pointer (some ⟨sp, 0, none⟩))) ∧ SL w B sp gp bV bT bH m lp p bD bN n s l d) := ⟨hh, hs⟩
  clear hh hs hr hst hdn
  go_enter Tryz.func33, Tryz.ntmps33
  go_wp2_with fail
  refine hpu.mono ?_
  clear hpu
  rintro e w1 ⟨rfl, hin1, hf1⟩
  obtain ⟨hs1, hx1⟩ := H0.out.2.ops hin1 hf1
  have hh1 := hx1.cells H0.out.2 H0.out.1 (by decide) (by decide) (by decide) (by decide) (by decide) (by decide)
  have hr1 := hx1.hfr H0.out.2 hb
  have hmet1 := hr1.met hB hmet
  have H1 : Hid (w1.heap[hp]? = some (hostS p true (.pointer (some ⟨sp, 0, none⟩))) ∧ SL w1 B sp gp bV bT bH (m + 2) lp p bD bN n r.1 l d ∧ HFs B w w1) := ⟨hh1, hs1, hr1⟩
  clear hin1 hf1 hs1 hx1 hh1 hr1 c5
  go_wp2_with fail
  refine (told_any r.2 w1 hmet1).mono ?_
  rintro e w2 ⟨rfl, hf2⟩
  obtain ⟨hs2, hx2⟩ := H1.out.2.1.new hf2
  have H2 : Hid (HSt w2 B hp (m + 2) n r.1 l d ∧ HFs B w w2) := ⟨⟨p, sp, gp, bV, bT, bH, lp, bD, bN, hx2.cells H1.out.2.1 H1.out.1 (by decide) (by decide) (by decide) (by decide) (by decide) (by decide), hs2, hb⟩, H1.out.2.2.trans (hx2.hfr H1.out.2.1 hb)⟩
  clear hs2 hx2 hf2
  go_wp2
  go_ret
  exact ⟨rfl, H2.out⟩
set_option maxRecDepth 100000 in
set_option maxHeartbeats 2000000 in
theorem hGet_s (h : HSt w B hp m n s l d) (hB : 2 ≤ B) (hmet : Met w) (ht : t < 18446744073709551616) (hk : k.size ≤ maxLen) (hn : m + 2 < maxLen) (hst : (s.txn t).state ≤ 3) (hdn : (s.txn t).done < 4611686018427387904) :
    Calls Tryz.prog 19 #[.pointer (some ⟨hp, 0, none⟩), .int .u64 (t : Int), .int .i64 seq, .string k] w fun e w' => e = .returned (.tuple #[.string (s.get t seq k).2.1, .bool (s.get t seq k).2.2.1, .int .i64 ((s.get t seq k).2.2.2 : Int)]) ∧ HSt w' B hp (m + 2) n (s.get t seq k).1 l d ∧ HFs B w w' := by
  obtain ⟨p, sp, gp, bV, bT, bH, lp, bD, bN, hh, hs, hb⟩ := h
  have hlg := hs.gp1
  have hpu := get_op sp gp bV bT bH m t seq k s w hs.sh ht hk hn hst hdn
  obtain ⟨r, hr⟩ : ∃ r, r = s.get t seq k := ⟨_, rfl⟩
  rw [← hr] at hpu ⊢
  have c5 := blk_cell hh 5
  simp at c5
  have H0 : Hid (w.heap[hp]? = some (hostS p true (.pointer (some ⟨sp, 0, none⟩))) ∧ SL w B sp gp bV bT bH m lp p bD bN n s l d) := ⟨hh, hs⟩
  clear hh hs hr hst hdn
  go_enter Tryz.func19, Tryz.ntmps19
  go_wp2_with fail
  refine hpu.mono ?_
  clear hpu
  rintro e w1 ⟨rfl, hin1, hf1⟩
  obtain ⟨hs1, hx1⟩ := H0.out.2.ops hin1 hf1
  have hh1 := hx1.cells H0.out.2 H0.out.1 (by decide) (by decide) (by decide) (by decide) (by decide) (by decide)
  have hr1 := hx1.hfr H0.out.2 hb
  have hmet1 := hr1.met hB hmet
  have H1 : Hid (w1.heap[hp]? = some (hostS p true (.pointer (some ⟨sp, 0, none⟩))) ∧ SL w1 B sp gp bV bT bH (m + 2) lp p bD bN n r.1 l d ∧ HFs B w w1) := ⟨hh1, hs1, hr1⟩
  clear hin1 hf1 hs1 hx1 hh1 hr1 c5
  go_wp2_with fail
  refine (told_any r.2.2.2 w1 hmet1).mono ?_
  rintro e w2 ⟨rfl, hf2⟩
  obtain ⟨hs2, hx2⟩ := H1.out.2.1.new hf2
  have H2 : Hid (HSt w2 B hp (m + 2) n r.1 l d ∧ HFs B w w2) := ⟨⟨p, sp, gp, bV, bT, bH, lp, bD, bN, hx2.cells H1.out.2.1 H1.out.1 (by decide) (by decide) (by decide) (by decide) (by decide) (by decide), hs2, hb⟩, H1.out.2.2.trans (hx2.hfr H1.out.2.1 hb)⟩
  clear hs2 hx2 hf2
  go_wp2
  go_ret3
  exact ⟨rfl, H2.out⟩
theorem HSt.new {w w' : World} {B hp m n : Nat} {s : AShard} {l : ALog} {d : ADisk} (h : HSt w B hp m n s l d) (hf : Fr [] w w') : HSt w' B hp m n s l d ∧ HFs B w w' := by
  obtain ⟨p, sp, gp, bV, bT, bH, lp, bD, bN, hh, hs, hb⟩ := h
  obtain ⟨hs2, hx2⟩ := hs.new hf
  exact ⟨⟨p, sp, gp, bV, bT, bH, lp, bD, bN, hx2.cells hs hh (by decide) (by decide) (by decide) (by decide) (by decide) (by decide), hs2, hb⟩, hx2.hfr hs hb⟩
set_option maxRecDepth 100000 in
set_option maxHeartbeats 2000000 in
theorem hValue_s (h : HSt w B hp m n s l d) (hk : k.size ≤ maxLen) :
    Calls Tryz.prog 20 #[.pointer (some ⟨hp, 0, none⟩), .string k] w fun e w' => e = .returned (.tuple #[.string ((alLook s.vals k).getD ByteArray.empty), .bool (alLook s.vals k).isSome]) ∧ HSt w' B hp m n s l d ∧ HFs B w w' := by
  have H0 := toHid h
  obtain ⟨p, sp, gp, bV, bT, bH, lp, bD, bN, hh, hs, hb⟩ := h
  have hpu := value_any sp gp bV bT bH m k s w hs.sh hk
  have c5 := blk_cell hh 5
  simp at c5
  clear hh hs
  go_enter Tryz.func20, Tryz.ntmps20
  go_wp2_with fail
  refine hpu.mono ?_
  clear hpu
  rintro e w1 ⟨rfl, q, hq⟩
  have hf1 : Fr [] w w1 := by rw [hq]; exact ⟨by first | rfl | simp, by first | rfl | simp, by first | rfl | simp, by first | exact Nat.le_refl _ | simp, fun _ _ _ => by first | rfl | simp⟩
  have H1 := toHid (H0.out.new hf1)
  clear hq hf1
  go_wp2
  go_ret2
  exact ⟨rfl, H1.out⟩
set_option maxRecDepth 100000 in
set_option maxHeartbeats 2000000 in
theorem hWaiting_s (h : HSt w B hp m n s l d) (hl : s.txns.length ≤ 12) :
    Calls Tryz.prog 21 #[.pointer (some ⟨hp, 0, none⟩)] w fun e w' => ∃ v ss, e = .returned v ∧ ss.Perm (s.txns.map (·.1)) ∧ ss.Pairwise (· ≤ ·) ∧ w'.ownsRow w.heap.size 33 1 v (waits (atT s.txns ss)).length (u64s (waits (atT s.txns ss))) ∧ HSt w' B hp m n s l d ∧ HFs B w w' := by
  have H0 := toHid h
  obtain ⟨p, sp, gp, bV, bT, bH, lp, bD, bN, hh, hs, hb⟩ := h
  have hpu := waiting_any sp gp bV bT bH m s w hs.sh hl
  have c5 := blk_cell hh 5
  simp at c5
  clear hh hs
  go_enter Tryz.func21, Tryz.ntmps21
  go_wp2_with fail
  refine hpu.mono ?_
  clear hpu
  rintro e w1 ⟨v, ss, rfl, h1, h2, h3, h4, h5⟩
  have H1 := toHid (show ss.Perm (s.txns.map (·.1)) ∧ ss.Pairwise (· ≤ ·) ∧ w1.ownsRow w.heap.size 33 1 v (waits (atT s.txns ss)).length (u64s (waits (atT s.txns ss))) ∧ HSt w1 B hp m n s l d ∧ HFs B w w1 from ⟨h1, h2, h3, H0.out.new (Fr.of_below h5 [])⟩)
  clear h1 h2 h3 h4 h5
  go_wp2
  go_ret
  exact ⟨v, ss, rfl, H1.out⟩
end
end Go.Proofs.YtkhjhojmhllkaaaGreatDoor
