import Derived.Test.YtfkoflldjnlhaaaDoorScans
/- THE LAW ON RECORDS, walked. -/
namespace Go.Proofs.YtfkoflldjnlhaaaDoor
open Go.RowKit
open Sc

/-- append(own, y...), y bytes that lie somewhere, or none -/
theorem wpList_bytes {w : World} {ops : Array Oper} {rest : List Oper} {o : Oper} {a : Act} {Q : Exit → Act → World → Prop} (hgd : o.guard = none) (s x : Operand)
    (ho : o.op = .call { callee := .builtin .append, args := #[s, x], argTypes := #[23, 23] })
    (base : Nat) (v : Value) (n : Nat) (xs : List Nat) (y : Value) (l : List Nat) (hs : a.eval s = v) (hown : w.ownsRow base 5 1 v n (bs xs)) (hx : a.eval x = y) (hy : Src w y l) (hn : n + l.length ≤ 1099511627776) (hbase : base ≤ w.heap.size)
    (h : ∀ v' w', w'.ownsRow base 5 1 v' (n + l.length) (bs (xs ++ l)) → w.grownBy w' v.ownBlock → wpList Tryd.prog ops Q rest (a.put o.dst v') w') : wpList Tryd.prog ops Q (o :: rest) a w := by
  obtain ⟨i0, hi, hz0, hz1, hz2⟩ := info_parts Tryd.info5
  rcases hy with ⟨rfl, rfl⟩ | ⟨b, off, cap, rfl, hrow, hlt, _, _⟩
  · exact wpList_append_own_none hgd s x 23 ho base 5 i0 1 Tryd.underlying23 hi v n (bs xs) hs hown hx
      (h _ _ (by rw [List.append_nil]; exact hown) (grown_refl _ _))
  · refine wpList_append_own w hgd s x 23 ho base 5 i0 (.int .u8 0) 1 1 Tryd.underlying23 hi hz0 hz1 hz2 rfl (by decide) v n (bs xs) hs hown ⟨b, off, none⟩ l.length cap (bs l) hx (by rw [bs_len]; omega) ?_ ?_ (by unfold maxLen; omega) (by omega) hbase ?_
    · intro j u hj
      have hjl : j < l.length := by
        have := (List.getElem?_eq_some_iff.1 hj).1; rwa [bs_len] at this
      rw [bs_at l j hjl] at hj
      cases hj
      have := hrow j hjl
      simpa [Addr.add_lit] using this
    · intro u hu
      unfold bs at hu
      obtain ⟨y, _, rfl⟩ := List.mem_map.1 hu
      rfl
    · intro v' w' ho' hg' _
      refine h v' w' ?_ hg'
      rw [bs_app]; exact ho'

/-- n records, handed in -/
def RecsIn (w : World) (v : Value) (n : Nat) : Prop :=
  ∃ ao cap, v = .slice ao n cap ∧ ∀ i, i < n → ∃ b off, ao = some ⟨b, off, none⟩ ∧ b < w.heap.size ∧ ∃ (x k : Nat) (t : ByteArray), x < 18446744073709551616 ∧ k < 256 ∧ w.cell? ⟨b, off + i * 3, none⟩ = some (.int .u64 (x : Int)) ∧ w.cell? ⟨b, off + i * 3 + 1, none⟩ = some (.int .u8 (k : Int)) ∧ w.cell? ⟨b, off + i * 3 + 2, none⟩ = some (.string t)

set_option maxHeartbeats 400000 in
theorem framed_long (v : Value) (n : Nat) (s : ByteArray) (w : World) (hv : RecsIn w v n) (hs : 16384 < s.size ∨ 40 < n) :
    Calls Tryd.prog 3 #[v, .string s] w fun e w' => e = .returned (.bool true) ∧ Below w.heap.size w w' := by
  obtain ⟨ao, cap, rfl, _⟩ := hv
  have h1 : (16384 : Int) < (s.size : Int) ∨ (40 : Int) < (n : Int) := by omega
  clear hs
  rcases h1 with h1 | h1
  · go_enter Tryd.func3, Tryd.ntmps3
    go_wp2
    go_ret
    exact ⟨rfl, Below.refl _ _⟩
  · go_enter Tryd.func3, Tryd.ntmps3
    go_wp2
    all_goals go_ret
    all_goals exact ⟨rfl, Below.refl _ _⟩

set_option maxRecDepth 100000 in
set_option maxHeartbeats 2000000 in
theorem framed_walk (v : Value) (n : Nat) (s : ByteArray) (w : World) (hv : RecsIn w v n) (hs : s.size ≤ 16384) (hn : n ≤ 40) (hg : Met w) :
    Calls Tryd.prog 3 #[v, .string s] w fun e w' => e = .returned (.bool true) ∧ Below w.heap.size w w' := by
  obtain ⟨ao, cap, rfl, hr⟩ := hv
  have HRS : Hid (∀ i, i < n → ∃ b off, ao = some ⟨b, off, none⟩ ∧ b < w.heap.size ∧ ∃ (x k : Nat) (t : ByteArray), x < 18446744073709551616 ∧ k < 256 ∧ w.cell? ⟨b, off + i * 3, none⟩ = some (.int .u64 (x : Int)) ∧ w.cell? ⟨b, off + i * 3 + 1, none⟩ = some (.int .u8 (k : Int)) ∧ w.cell? ⟨b, off + i * 3 + 2, none⟩ = some (.string t)) := hr
  clear hr
  have h1 : ¬ (16384 : Int) < (s.size : Int) := by omega
  have h2 : ¬ (40 : Int) < (n : Int) := by omega
  have HG : Hid (Met w) := hg
  have h0 := hg.lt
  clear hg
  have hcv := fun w => run_bytes w s
  have hneq : ∀ w : World, (binOp .neq 23 (.slice none 0 0) (.slice none 0 0)).run Tryd.prog w = .ok (.bool false) w := fun w => by rfl
  go_enter Tryd.func3, Tryd.ntmps3
  go_wp2
  go_loopw [5, 6] (fun v i wr => ∃ (j : Nat) (xs : List Nat), j ≤ n ∧ i = .int .i64 j ∧ Byt xs ∧ xs.length ≤ 270 * j ∧ wr.ownsRow w.heap.size 5 1 v xs.length (bs xs) ∧ Below w.heap.size w wr) (fun _ i _ => n - (intOf i).toNat)
  case atStart => exact ⟨0, [], Nat.zero_le _, rfl, (fun x hx => by cases hx), Nat.le_refl _, World.ownsRow_nil _ _ _ _, Below.refl _ _⟩
  case round =>
    obtain ⟨j, xs, hj, rfl, hbx, hlx, hown, hB⟩ := hrel
    have HOW : Hid (wr.ownsRow w.heap.size 5 1 u5 xs.length (bs xs)) := hown
    have HB : Hid (Below w.heap.size w wr) := hB
    have hz := hB.size
    clear hown hB
    by_cases hlt : j < n
    · obtain ⟨b, off, rfl, hbl, x, k, t, hx, hk, c0, c1, c2⟩ := HRS.out j hlt
      have HX : Hid (x < 18446744073709551616) := hx
      clear hx
      have r0 := (HB.out.cell (p := ⟨b, off + j * 3, none⟩) hbl).trans c0
      have r1 := (HB.out.cell (p := ⟨b, off + j * 3 + 1, none⟩) hbl).trans c1
      have r2 := (HB.out.cell (p := ⟨b, off + j * 3 + 2, none⟩) hbl).trans c2
      have HC : Hid (w.cell? ⟨b, off + j * 3, none⟩ = some (.int .u64 (x : Int)) ∧ w.cell? ⟨b, off + j * 3 + 1, none⟩ = some (.int .u8 (k : Int)) ∧ w.cell? ⟨b, off + j * 3 + 2, none⟩ = some (.string t)) := ⟨c0, c1, c2⟩
      clear c0 c1 c2
      have i0 : (0 : Int) ≤ (j : Int) := by omega
      have i1 : (j : Int) < (n : Int) := by omega
      by_cases ht : t.size ≤ 255
      · have hL := recBytes_len x k (bytesOf t)
        rw [bytesOf_len] at hL
        have HBY : Hid (Byt (recBytes x k (bytesOf t))) := recBytes_byt x k (bytesOf t) hk (bytesOf_byt t)
        go_wp2_with fail
        refine (encPR_yes x k t _ ht hk HX.out).mono ?_
        rintro e w1 ⟨g1, rfl, hg1, hr1, hb1⟩
        have HR1 : Hid (RowAt w1 g1 0 (recBytes x k (bytesOf t))) := hr1
        have hgl1 : g1 < w1.heap.size := hr1.lt (by omega)
        have HB1 : Hid (Below w.heap.size w w1) := HB.out.trans (hb1.mono hz)
        have HO1 : Hid (w1.ownsRow w.heap.size 5 1 u5 xs.length (bs xs)) := own_below HOW.out hb1
        have hz1 := hb1.size
        have r0 := (HB1.out.cell (p := ⟨b, off + j * 3, none⟩) hbl).trans HC.out.1
        have r1 := (HB1.out.cell (p := ⟨b, off + j * 3 + 1, none⟩) hbl).trans HC.out.2.1
        have r2 := (HB1.out.cell (p := ⟨b, off + j * 3 + 2, none⟩) hbl).trans HC.out.2.2
        clear hr1 hb1 HOW
        go_wp2_with fail
        refine (record_yes x k t _ ht hk HX.out).mono ?_
        rintro e w2 ⟨g2, cap2, rfl, hg2, ⟨hcp1, hcp2⟩, hr2, hb2⟩
        have HR1' : Hid (RowAt w2 g1 0 (recBytes x k (bytesOf t))) := HR1.out.below hb2 hgl1
        have HR2 : Hid (RowAt w2 g2 0 (recBytes x k (bytesOf t))) := hr2
        have hgl2 : g2 < w2.heap.size := hr2.lt (by omega)
        have HB2 : Hid (Below w.heap.size w w2) := HB1.out.trans (hb2.mono (by omega))
        have HO2 : Hid (w2.ownsRow w.heap.size 5 1 u5 xs.length (bs xs)) := own_below HO1.out hb2
        have hz2 := hb2.size
        clear hr2 hb2 HO1 HR1
        clear r0 r1 r2
        obtain ⟨L, hLL⟩ : ∃ L, L = 11 + t.size + 4 := ⟨_, rfl⟩
        rw [← hLL] at hcp1 ⊢
        have hL0 : (recBytes x k (bytesOf t)).length = L := by omega
        have HL0 : Hid ((recBytes x k (bytesOf t)).length = L) := hL0
        have hLb : 15 ≤ L ∧ L ≤ 270 := by omega
        have hs1 := run_str _ g1 0 L (15 + t.size) _ hL0 HR1'.out
        have hs2 := run_str _ g2 0 L cap2 _ hL0 HR2.out
        have HS2 : Hid (Src w2 (.slice (some ⟨g2, 0, none⟩) L cap2) (recBytes x k (bytesOf t))) := Or.inr ⟨g2, 0, cap2, by rw [hL0], HR2.out, hgl2, by omega, hcp2⟩
        generalize str (recBytes x k (bytesOf t)) = S at hs1 hs2
        clear hL hL0 hLL
        go_wp2_with (at_builtin; refine wpList_bytes rfl _ _ rfl w.heap.size u5 xs.length xs (.slice (some ⟨g2, 0, none⟩) L cap2) (recBytes x k (bytesOf t)) rfl HO2.out rfl HS2.out (by rw [HL0.out]; omega) (by omega) ?_; intro v3 w3 ho3 hg3)
        have hB3 : Below w.heap.size w w3 := HB2.out.grown hg3 (by omega) (fun q hq => (HO2.out.lt q hq).1)
        clear hg3
        go_roundw
        case rel => exact ⟨j + 1, xs ++ recBytes x k (bytesOf t), by omega, by go_num, (fun y hy => by rcases List.mem_append.1 hy with h | h; exact hbx y h; exact HBY.out y h), by rw [List.length_append, HL0.out]; omega, by rw [List.length_append]; exact ho3, hB3⟩
        case measure => simp [intOf]; omega
      · have ht' : 255 < t.size := by omega
        go_wp2_with fail
        refine (encPR_no x k t _ ht' (HG.out.below HB.out h0)).mono ?_
        rintro e w1 ⟨rfl, hb1⟩
        have HB1 : Hid (Below w.heap.size w w1) := HB.out.trans (hb1.mono hz)
        have HO1 : Hid (w1.ownsRow w.heap.size 5 1 u5 xs.length (bs xs)) := own_below HOW.out hb1
        have hz1 := hb1.size
        have r0 := (HB1.out.cell (p := ⟨b, off + j * 3, none⟩) hbl).trans HC.out.1
        have r1 := (HB1.out.cell (p := ⟨b, off + j * 3 + 1, none⟩) hbl).trans HC.out.2.1
        have r2 := (HB1.out.cell (p := ⟨b, off + j * 3 + 2, none⟩) hbl).trans HC.out.2.2
        clear hb1 HOW
        go_wp2_with fail
        refine (record_no x k t _ ht').mono ?_
        rintro e w2 ⟨rfl, hb2⟩
        have HB2 : Hid (Below w.heap.size w w2) := HB1.out.trans (hb2.mono (by omega))
        have HO2 : Hid (w2.ownsRow w.heap.size 5 1 u5 xs.length (bs xs)) := own_below HO1.out hb2
        have hz2 := hb2.size
        clear hb2 HO1
        clear r0 r1 r2
        have hs1 := run_str_nil w2
        go_wp2_with (at_builtin; refine wpList_bytes rfl _ _ rfl w.heap.size u5 xs.length xs (.slice none 0 0) [] rfl HO2.out rfl (Or.inl ⟨rfl, rfl⟩) (by simp; omega) (by omega) ?_; intro v3 w3 ho3 hg3)
        have hB3 : Below w.heap.size w w3 := HB2.out.grown hg3 (by omega) (fun q hq => (HO2.out.lt q hq).1)
        clear hg3
        go_roundw
        case rel => exact ⟨j + 1, xs, by omega, by go_num, hbx, by omega, by rw [List.append_nil] at ho3; exact ho3, hB3⟩
        case measure => simp [intOf]; omega
    · have hjn : j = n := by omega
      subst hjn
      have hss := src_str wr s (by unfold maxLen; omega)
      go_wp2_with fail
      refine (scans_any _ (bytesOf s) _ hss (bytesOf_byt s) (by rw [bytesOf_len]; omega)).mono ?_
      rintro e w1 ⟨rfl, hb1'⟩
      have hb1 : Below (wr.heap.size + 1) (wr.alloc (strO s (grownCap wr s.size 0 5))).drew w1 := by
        have h : Below (wr.alloc (strO s (grownCap wr s.size 0 5))).heap.size (wr.alloc (strO s (grownCap wr s.size 0 5))).drew w1 := hb1'
        rwa [World.size_alloc] at h
      have hbr : Below wr.heap.size wr w1 := ((Below.refl _ _).alloc (Nat.le_refl _) _).drew.trans (hb1.mono (by omega))
      have HB1 : Hid (Below w.heap.size w w1) := HB.out.trans (hbr.mono hz)
      have HO1 : Hid (w1.ownsRow w.heap.size 5 1 u5 xs.length (bs xs)) := own_below HOW.out hbr
      have hz1 := hbr.size
      clear hb1 hb1' hbr HOW hss
      go_wp2_with (at_builtin; refine wpList_text rfl _ _ rfl w.heap.size u5 xs.length xs s rfl HO1.out rfl (by omega) (by omega) ?_; intro v2 w2 ho2 hg2)
      have HB2 : Hid (Below w.heap.size w w2) := HB1.out.grown hg2 (by omega) (fun q hq => (HO1.out.lt q hq).1)
      have hz2 := hg2.size
      have hle : (xs ++ bytesOf s).length = xs.length + s.size := by rw [List.length_append, bytesOf_len]
      have hsr : Src w2 v2 (xs ++ bytesOf s) := src_own (base := w.heap.size) (by rw [hle]; exact ho2)
      clear hg2 ho2
      refine (scans_any v2 (xs ++ bytesOf s) _ hsr (fun y hy => by rcases List.mem_append.1 hy with h | h; exact hbx y h; exact bytesOf_byt s y h) (by rw [hle]; omega)).mono ?_
      rintro e w3 ⟨rfl, hb3⟩
      have HB3 : Hid (Below w.heap.size w w3) := HB2.out.trans (hb3.mono (by omega))
      clear hb3 hsr hle
      go_wp2
      go_ret
      exact ⟨rfl, HB3.out⟩
end Go.Proofs.YtfkoflldjnlhaaaDoor
