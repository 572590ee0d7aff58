import Derived.Test.YtfkoflldjnlhaaaDoorRefMsg
import Derived.Deep.RegionHeld3
/- CONTRACTS of the document's own answer: a message that is read. -/
namespace Go.Proofs.YtfkoflldjnlhaaaDoor
open Go.RowKit
open Sc

theorem at_take (l : List Nat) (n i : Nat) (h : i < n) : at_ (l.take n) i = at_ l i := by simp [at_, h]
theorem at_drop (l : List Nat) (n i : Nat) : at_ (l.drop n) i = at_ l (n + i) := by simp [at_, List.getElem?_drop]
theorem Byt.take {l : List Nat} (h : Byt l) (n : Nat) : Byt (l.take n) := fun x hx => h x (List.mem_of_mem_take hx)
theorem Byt.drop {l : List Nat} (h : Byt l) (n : Nat) : Byt (l.drop n) := fun x hx => h x (List.mem_of_mem_drop hx)

set_option maxHeartbeats 400000 in
theorem readMessage_len (ao : Option Addr) (n cap : Nat) (w : World) (hn : n ≠ 15) :
    Calls Tryd.prog 12 #[.slice ao n cap] w fun e w' => e = .returned (.tuple #[.agg #[.int .i64 0, .int .i64 0, .int .i64 0, .int .u64 0], .int .i64 2]) ∧ Below w.heap.size w w' := by
  have hn' : (((n : Int)) != 15) = true := by simp; omega
  go_enter Tryd.func12, Tryd.ntmps12
  go_wp2
  exact bodyPost_ret (v := .tuple #[.agg #[.int .i64 0, .int .i64 0, .int .i64 0, .int .u64 0], .int .i64 2]) (by simp [results, Tryd.results12, go_sem]) rfl ⟨rfl, (Below.refl _ _).alloc (Nat.le_refl _) _⟩

def msgTxn (l : List Nat) : Nat := val ((l.drop 3).take 8)
def msgOk (l : List Nat) : Bool := soundB (at_ l 0) (at_ l 1) (at_ l 2) (msgTxn l) && (crc (l.take 11) == val (l.drop 11))

theorem value_sub (b off o m cap : Nat) (l : List Nat) (w : World) (hB : Byt l) (hm : m ≤ 8) (hl : o + m ≤ l.length) (hrow : RowAt w b off l) :
    Calls Tryd.prog 25 #[.slice (some ⟨b, off + o, none⟩) m cap] w fun e w' => e = .returned (.int .u64 (val ((l.drop o).take m) : Nat)) ∧ w' = w :=
  value_some b (off + o) m cap ((l.drop o).take m) w (by simp; omega) ((hB.drop o).take m) hm (fun i hi => hrow.sub o m hl i (by simp; omega))
theorem sum_sub (b off m cap : Nat) (l : List Nat) (w : World) (hB : Byt l) (hm : m ≤ 1099511627776) (hl : m ≤ l.length) (hrow : RowAt w b off l) :
    Calls Tryd.prog 18 #[.slice (some ⟨b, off, none⟩) m cap] w fun e w' => e = .returned (.int .u32 (crc (l.take m) : Nat)) ∧ w' = w :=
  sum_some b off m cap (l.take m) w (by simp; omega) (hB.take m) hm (fun i hi => by rw [at_take l m i hi]; exact hrow i (by omega))

/-- what is read of 15 bytes -/
def readV (l : List Nat) : Value := if msgOk l = true then msgV (at_ l 0) (at_ l 1) (at_ l 2) (msgTxn l) else msgV 0 0 0 0
def readE (l : List Nat) : Int := if msgOk l = true then 0 else 2
theorem readV_yes {l : List Nat} (h : msgOk l = true) : readV l = .agg #[.int .i64 (at_ l 0 : Nat), .int .i64 (at_ l 1 : Nat), .int .i64 (at_ l 2 : Nat), .int .u64 (msgTxn l : Nat)] := by unfold readV; rw [if_pos h]
theorem readE_yes {l : List Nat} (h : msgOk l = true) : readE l = 0 := by unfold readE; rw [if_pos h]
theorem readV_no {l : List Nat} (h : msgOk l = false) : readV l = .agg #[.int .i64 0, .int .i64 0, .int .i64 0, .int .u64 0] := by unfold readV; rw [if_neg (by rw [h]; decide)]
theorem readE_no {l : List Nat} (h : msgOk l = false) : readE l = 2 := by unfold readE; rw [if_neg (by rw [h]; decide)]

set_option maxRecDepth 100000 in
set_option maxHeartbeats 1000000 in
theorem readMessage_15 (b off cap : Nat) (l : List Nat) (w : World) (hl : l.length = 15) (hB : Byt l) (hcap : 15 ≤ cap) (hcap2 : cap ≤ maxLen) (hrow : RowAt w b off l) :
    Calls Tryd.prog 12 #[.slice (some ⟨b, off, none⟩) 15 cap] w fun e w' => e = .returned (.tuple #[readV l, .int .i64 (readE l)]) ∧ Below w.heap.size w w' := by
  have c0 : w.cell? ⟨b, off, none⟩ = _ := hrow 0 (by omega)
  have c1 := hrow 1 (by omega)
  have c2 := hrow 2 (by omega)
  have hlt := hrow.lt (by omega)
  have n0 : ¬ w.heap.size = b := by omega
  have n1 : ¬ w.heap.size + 1 = b := by omega
  have hlt1 : b < w.heap.size + 1 := by omega
  have hlt2 : b < w.heap.size + 1 + 1 := by omega
  have HL : Hid (l.length = 15) := hl
  clear hl
  have a0 := at_lt hB 0
  have a1 := at_lt hB 1
  have a2 := at_lt hB 2
  have k1 : (11 : Int) ≤ (cap : Int) := by omega
  have k2 : ¬ cap = 3 := by omega
  have k3 : ¬ cap = 11 := by omega
  unfold maxLen at hcap2
  have hnot : ∀ (x : Bool) (w : World), (Op.unary .not (.bool x)).run Tryd.prog w = .ok (.bool (!x)) w := fun _ _ => rfl
  go_enter Tryd.func12, Tryd.ntmps12
  go_wp2
  go_region_held3 (fun w' => w'.cell? ⟨b, off, none⟩ = some (.int .u8 (at_ l 0 : Nat)) ∧ w'.cell? ⟨b, off + 1, none⟩ = some (.int .u8 (at_ l 1 : Nat)) ∧ w'.cell? ⟨b, off + 2, none⟩ = some (.int .u8 (at_ l 2 : Nat)) ∧ RowAt w' b off l)
    (simp [*, World.cell?_alloc_some, RowAt_alloc, RowAt_drew])
    (first | (go_at_call 25; refine (value_sub b off 3 8 _ l _ hB (by omega) (by rw [HL.out]; omega) ?_).mono ?_; (simp [*]); rintro e w' ⟨rfl, rfl⟩))
  all_goals go_wp2_with fail
  all_goals
    refine (sum_sub b off 11 cap l _ hB (by omega) (by rw [HL.out]; omega) (by simp [hrow, hlt, hlt1, RowAt_alloc, RowAt_drew])).mono ?_
    rintro e w' ⟨rfl, rfl⟩
    have hcl := crc_lt (l.take 11) (hB.take 11)
    have hsn := (Bool.eq_false_or_eq_true (soundB (at_ l 0) (at_ l 1) (at_ l 2) (msgTxn l))).symm
    unfold msgTxn at hsn
    rcases hsn with hsn | hsn
    · go_wp2_with (go_at_call 22; refine (sound_any _ _ _ _ _).mono ?_; rintro e w' ⟨rfl, rfl⟩)
      have ho : msgOk l = false := by unfold msgOk msgTxn; rw [hsn]; rfl
      rw [readV_no ho, readE_no ho]
      exact bodyPost_ret (v := .tuple #[.agg #[.int .i64 0, .int .i64 0, .int .i64 0, .int .u64 0], .int .i64 2]) (by simp [results, Tryd.results12, go_sem]) rfl ⟨rfl, ((((Below.refl _ _).alloc (Nat.le_refl _) _).alloc (by simp) _).alloc (by simp; omega) _).drew⟩
    · go_wp2_with (go_at_call 22; refine (sound_any _ _ _ _ _).mono ?_; rintro e w' ⟨rfl, rfl⟩)
      refine (value_sub b off 11 4 _ l _ hB (by omega) (by rw [HL.out]; omega) (by simp [hrow, hlt, hlt1, hlt2, RowAt_alloc, RowAt_drew])).mono ?_
      rintro e w' ⟨rfl, rfl⟩
      by_cases hv : crc (l.take 11) = val ((l.drop 11).take 4)
      · have ho : msgOk l = true := by
          unfold msgOk msgTxn; rw [hsn, hv, List.take_of_length_le (l := l.drop 11) (by rw [List.length_drop, HL.out]; omega)]; simp
        have hv' : ((crc (l.take 11) : Int) != (val ((l.drop 11).take 4) : Int)) = false := by rw [hv]; simp
        clear hv
        go_wp2
        rw [readV_yes ho, readE_yes ho]
        exact bodyPost_ret (v := .tuple #[.agg #[.int .i64 (at_ l 0 : Nat), .int .i64 (at_ l 1 : Nat), .int .i64 (at_ l 2 : Nat), .int .u64 (msgTxn l : Nat)], .int .i64 0]) (by simp [results, Tryd.results12, go_sem, msgTxn]) rfl ⟨rfl, ((((Below.refl _ _).alloc (Nat.le_refl _) _).alloc (by simp) _).alloc (by simp; omega) _).drew⟩
      · have ho : msgOk l = false := by
          unfold msgOk msgTxn; rw [hsn]
          rw [List.take_of_length_le (l := l.drop 11) (by rw [List.length_drop, HL.out]; omega)] at hv
          simp [hv]
        have hv' : ((crc (l.take 11) : Int) != (val ((l.drop 11).take 4) : Int)) = true := by simp; omega
        clear hv
        go_wp2
        rw [readV_no ho, readE_no ho]
        exact bodyPost_ret (v := .tuple #[.agg #[.int .i64 0, .int .i64 0, .int .i64 0, .int .u64 0], .int .i64 2]) (by simp [results, Tryd.results12, go_sem]) rfl ⟨rfl, ((((Below.refl _ _).alloc (Nat.le_refl _) _).alloc (by simp) _).alloc (by simp; omega) _).drew⟩
end Go.Proofs.YtfkoflldjnlhaaaDoor
