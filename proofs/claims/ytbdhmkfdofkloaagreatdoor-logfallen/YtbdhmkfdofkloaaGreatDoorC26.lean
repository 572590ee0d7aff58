import Derived.Test.YtbdhmkfdofkloaaGreatDoorC25
/- SORTING NUMBERS (uint64), many of them: pdqsort. -/
namespace Go.Proofs.YtbdhmkfdofkloaaGreatDoor
open Go.RowKit Go.Maps
open Go.Sort (PermIn SortedIn)
open Sc

/-- what a sort leaves -/
def PqPost (w0 : World) (B g n cap a b : Nat) (d : Array Nat) (e : Ending) (w' : World) : Prop :=
  e = .returned (.tuple #[]) ∧ ∃ d', SU w0 w' B g n cap d' ∧ PermIn a b d d' ∧ SortN a b d'
/-- where the sort's loop stands -/
structure PqL (w0 wr : World) (B g n cap a b A Z : Nat) (d e : Array Nat) : Prop where
  su : SU w0 wr B g n cap e
  perm : PermIn a b d e
  out : Outs a b A Z e
  bel : BelowN A Z e
  nd : NdN e
  aA : a ≤ A
  AZ : A ≤ Z
  zb : Z ≤ b
section
variable {w0 wr wq : World} {B g n cap a b A Z : Nat} {d e f : Array Nat}
theorem PqL.turn (h : PqL w0 wr B g n cap a b A Z d e) (hb : b ≤ d.size) (hs : SU w0 wq B g n cap f) (hp : PermIn A Z e f) : PqL w0 wq B g n cap a b A Z d f := by
  have es : e.size = d.size := h.perm.1
  have h1 := h.aA
  have h2 := h.zb
  have h3 := h.AZ
  exact ⟨hs, Go.Sort.permIn_trans _ _ _ _ _ h.perm (Go.Sort.permIn_mono _ _ _ _ _ _ h1 h2 (by omega) hp), h.out.perm h1 h2 (by omega) hp, h.bel.perm (by omega) hp, h.nd.perm (by omega) hp, h1, h3, h2⟩
theorem PqL.end_ (h : PqL w0 wr B g n cap a b A Z d e) (hb : b ≤ d.size) (hs : SU w0 wq B g n cap f) (hp : PermIn A Z e f) (hso : SortN A Z f) : ∃ d', SU w0 wq B g n cap d' ∧ PermIn a b d d' ∧ SortN a b d' := by
  have := h.turn hb hs hp
  exact ⟨f, hs, this.perm, this.out.done hso⟩
end
set_option maxRecDepth 100000 in
set_option maxHeartbeats 16000000 in
theorem pdqU (B g n cap : Nat) (hn : n ≤ 1000000000) : ∀ (N a b L : Nat) (d : Array Nat) (w0 w : World), b - a < N → SU w0 w B g n cap d → a ≤ b → b ≤ n → L ≤ 1000 → BelowN a b d → NdN d →
    Calls Tryz.prog 147 #[.slice (some ⟨g, 0, none⟩) n cap, .int .i64 (a : Int), .int .i64 (b : Int), .int .i64 (L : Int)] w (PqPost w0 B g n cap a b d) := by
  intro N
  induction N with
  | zero => intro a b L d w0 w hN; omega
  | succ N ih =>
    intro a b L d w0 w hN h hab hb hL hbl hnd
    have IH := ih
    have H0 : Hid (PqL w0 w B g n cap a b a b d d) := ⟨h, Go.Sort.permIn_refl _ _ _, Outs.first, hbl, hnd, Nat.le_refl _, hab, Nat.le_refl _⟩
    have HIH : Hid (∀ (a b L : Nat) (d : Array Nat) (w0 w : World), b - a < N → SU w0 w B g n cap d → a ≤ b → b ≤ n → L ≤ 1000 → BelowN a b d → NdN d →
      Calls Tryz.prog 147 #[.slice (some ⟨g, 0, none⟩) n cap, .int .i64 (a : Int), .int .i64 (b : Int), .int .i64 (L : Int)] w (PqPost w0 B g n cap a b d)) := ih
    have HD : Hid (b ≤ d.size ∧ d.size = n) := by refine ⟨?_, h.sz⟩; rw [h.sz]; exact hb
    clear ih IH h hbl hnd
    go_enter Tryz.func147, Tryz.ntmps147
    go_wp2
    go_loopw [1, 2, 3, 8, 9] (fun i j k x y wr => ∃ (A Z M : Nat) (wb wp : Bool) (e : Array Nat), i = .int .i64 A ∧ j = .int .i64 Z ∧ k = .int .i64 M ∧ x = .bool wb ∧ y = .bool wp ∧ M ≤ 1000 ∧ Hid (PqL w0 wr B g n cap a b A Z d e)) (fun i j _ _ _ _ => (intOf j).toNat - (intOf i).toNat)
    case atStart => exact ⟨a, b, L, true, true, d, rfl, rfl, rfl, rfl, rfl, hL, H0.out⟩
    case round =>
      obtain ⟨A, Z, M, wb, wp, e, rfl, rfl, rfl, rfl, rfl, hM, hR⟩ := hrel
      have q1 := hR.out.aA
      have q2 := hR.out.AZ
      have q3 := hR.out.zb
      have es : Hid (e.size = n) := hR.out.su.sz
      obtain ⟨l, hl⟩ : ∃ l, l = Z - A := ⟨_, rfl⟩
      have jl : IntKind.i64.wrap ((Z : Int) - (A : Int)) = (l : Int) := by rw [IntKind.wrap_i64]; omega
      have HL : Hid (l = Z - A) := hl
      by_cases h12 : l ≤ 12
      · have l12 : (l : Int) ≤ 12 := by omega
        have hci := insU B g n cap A Z e w0 wr hR.out.su (by omega) (by omega) hn
        clear hl
        go_wp2_with fail
        refine hci.mono ?_
        clear hci
        rintro ev W1 ⟨rfl, hs1⟩
        have HS1 : Hid (SU w0 W1 B g n cap (Go.Sort.insertionSort ltN e A Z)) := hs1
        clear hs1
        go_wp2
        go_end0
        obtain ⟨p1, p2⟩ := Go.Sort.insertionSort_holds (lt := ltN) swoN e A Z q2 (by rw [es.out]; omega)
        exact ⟨rfl, hR.out.end_ HD.out.1 HS1.out p1 (sortN_of p2)⟩
      · have l12 : ¬ (l : Int) ≤ 12 := by omega
        have hAZ : A + 12 < Z := by omega
        clear hl
        by_cases hM0 : M = 0
        · subst hM0
          have hci := heapU B g n cap A Z e w0 wr hR.out.su (by omega) (by omega) hn
          go_wp2_with fail
          refine hci.mono ?_
          clear hci
          rintro ev W1 ⟨rfl, hs1⟩
          have HS1 : Hid (SU w0 W1 B g n cap (Go.Sort.heapSort ltN e A Z)) := hs1
          clear hs1
          go_wp2
          go_end0
          obtain ⟨p1, p2⟩ := Go.Sort.heapSort_holds (lt := ltN) swoN e A Z q2 (by rw [es.out]; omega)
          exact ⟨rfl, hR.out.end_ HD.out.1 HS1.out p1 (sortN_of p2)⟩
        · have m0 : ¬ (M : Int) = 0 := by omega
          go_upto_if 35 with fail
          go_cut [3] from 19 to 133 (fun s3 wx => ∃ (M' : Nat) (e' : Array Nat), s3 = .int .i64 M' ∧ M' ≤ 1000 ∧ Hid (PqL w0 wx B g n cap a b A Z d e'))
          case first =>
            cases wb with
            | true =>
              go_wp2
              go_meet
              exact ⟨M, e, rfl, hM, hR.out⟩
            | false =>
              have jm : IntKind.i64.wrap ((M : Int) - 1) = ((M - 1 : Nat) : Int) := by rw [IntKind.wrap_i64]; omega
              have hci := breakU B g n cap A Z e w0 wr hR.out.su hAZ (by omega) hn
              go_wp2_with fail
              refine hci.mono ?_
              clear hci
              rintro ev W1 ⟨rfl, e', hs1, hp1⟩
              have HS1 : Hid (PqL w0 W1 B g n cap a b A Z d e') := hR.out.turn HD.out.1 hs1 hp1
              clear hs1 hp1
              go_wp2
              go_meet
              exact ⟨M - 1, e', rfl, by omega, HS1.out⟩
          case rest =>
            obtain ⟨M', e', rfl, hM', hR1⟩ := hcut
            have es1 : Hid (e'.size = n) := hR1.out.su.sz
            have hcp := chooseU B g n cap A Z e' w0 wc hR1.out.su hAZ (by omega) hn
            clear hR es hM
            go_upto_if 50 with (first | (go_at_call 175; refine hcp.mono ?_; rintro ev W1 ⟨p0, t0, rfl, hp1, hp2, ht0, hs0⟩))
            have HP0 : Hid (PqL w0 W1 B g n cap a b A Z d e') := hR1.out.turn HD.out.1 hs0 (Go.Sort.permIn_refl _ _ _)
            clear hs0 hcp
            go_cut [11, 12] from 19 to 133 (fun s11 s12 wx => ∃ (p t : Nat) (f : Array Nat), s11 = .int .i64 p ∧ s12 = .int .i64 t ∧ A ≤ p ∧ p < Z ∧ Hid (PqL w0 wx B g n cap a b A Z d f))
            case first =>
              by_cases ht2 : t0 = 2
              · subst ht2
                have hcr := revU B g n cap A Z e' w0 W1 HP0.out.su (by omega) (by omega) hn
                obtain ⟨p9, hp9⟩ : ∃ p9, p9 = Z - 1 - (p0 - A) := ⟨_, rfl⟩
                have k1 : IntKind.i64.wrap ((Z : Int) - 1) = (Z : Int) - 1 := by rw [IntKind.wrap_i64]; omega
                have k2 : IntKind.i64.wrap ((p0 : Int) - (A : Int)) = (p0 : Int) - (A : Int) := by rw [IntKind.wrap_i64]; omega
                have k3 : IntKind.i64.wrap ((Z : Int) - 1 - ((p0 : Int) - (A : Int))) = (p9 : Int) := by rw [IntKind.wrap_i64]; omega
                have z1 : A ≤ p9 := by omega
                have z2 : p9 < Z := by omega
                clear hp9
                go_wp2_with fail
                refine hcr.mono ?_
                clear hcr
                rintro ev W2 ⟨rfl, hs2⟩
                have HP2 : Hid (PqL w0 W2 B g n cap a b A Z d (Go.Sort.reverseRange e' A Z)) := HP0.out.turn HD.out.1 hs2 (Go.Sort.reverseRange_holds e' A Z (by omega) (by rw [es1.out]; omega))
                clear hs2
                go_wp2
                go_meet
                exact ⟨p9, 1, _, rfl, rfl, z1, z2, HP2.out⟩
              · have t2 : ¬ (t0 : Int) = 2 := by omega
                go_wp2
                go_meet
                exact ⟨p0, t0, e', rfl, rfl, hp1, hp2, HP0.out⟩
            case rest =>
              obtain ⟨p, t, f, rfl, rfl, hpA, hpZ, hR2⟩ := hcut
              clear hR1 es1 HP0
              have fs : Hid (f.size = n) := hR2.out.su.sz
              have hcq := pinsU B g n cap A Z f w0 wc hR2.out.su (by omega) (by omega) hn
              go_upto_region 15 with fail
              go_cut [68] from 19 to 133 (fun s68 wx => (∃ c : Bool, s68 = .bool c) ∧ wx = wc)
              case first =>
                cases wb with
                | false =>
                  go_wp2
                  go_meet
                  exact ⟨⟨_, rfl⟩, rfl⟩
                | true =>
                  cases wp with
                  | false =>
                    go_wp2
                    go_meet
                    exact ⟨⟨_, rfl⟩, rfl⟩
                  | true =>
                    go_wp2
                    go_meet
                    exact ⟨⟨_, rfl⟩, rfl⟩
              case rest =>
                obtain ⟨⟨c, rfl⟩, hwc⟩ := hcut
                rw [hwc]
                clear hwc
                go_upto_if 68 with fail
                go_cut [72] from 19 to 133 (fun _ wx => ∃ f', Hid (PqL w0 wx B g n cap a b A Z d f'))
                case first =>
                  cases c with
                  | false =>
                    go_wp2
                    go_meet
                    exact ⟨f, hR2.out⟩
                  | true =>
                    obtain ⟨p1, p2⟩ := Go.Sort.partialInsertionSort_holds (lt := ltN) swoN f A Z (by omega) (by rw [fs.out]; omega) hR2.out.bel.lib
                    obtain ⟨r, hr⟩ : ∃ r, r = Go.Sort.partialInsertionSort ltN f A Z := ⟨_, rfl⟩
                    rw [← hr] at p1 p2 hcq
                    have HQ : Hid (PermIn A Z f r.1 ∧ (r.2 = true → SortedIn ltN A Z r.1)) := ⟨p1, p2⟩
                    obtain ⟨r1, r2⟩ := r
                    clear p1 p2 hr
                    go_wp2_with fail
                    refine hcq.mono ?_
                    clear hcq
                    rintro ev W3 ⟨rfl, hs3⟩
                    have HS3 : Hid (SU w0 W3 B g n cap r1) := hs3
                    clear hs3
                    cases r2 with
                    | true =>
                      go_wp2
                      go_end0
                      exact ⟨rfl, hR2.out.end_ HD.out.1 HS3.out HQ.out.1 (sortN_of (HQ.out.2 (by first | rfl | trivial)))⟩
                    | false =>
                      go_wp2
                      go_meet
                      exact ⟨r1, hR2.out.turn HD.out.1 HS3.out HQ.out.1⟩
                case rest =>
                  obtain ⟨f', hR3⟩ := hcut
                  clear hcq hR2 fs
                  have fs : Hid (f'.size = n) := hR3.out.su.sz
                  have cp := hR3.out.su.at (k := p) (by omega)
                  have bp : (p : Int) < (n : Int) := by omega
                  go_upto_region 17 with fail
                  go_cut [87] from 19 to 133 (fun s87 wx => s87 = .bool false ∧ Hid (PqL w0 wx B g n cap a b A Z d f'))
                  case first =>
                    by_cases hA0 : A = 0
                    · subst hA0
                      go_quiet (first | (go_at_call 116; refine Calls.quiet_of_same (lessU _ _ _)))
                      go_wp2
                      go_meet
                      exact ⟨rfl, hR3.out.turn HD.out.1 (hR3.out.su.drewN _) (Go.Sort.permIn_refl _ _ _)⟩
                    · obtain ⟨y, hy⟩ : ∃ y, y = A - 1 := ⟨_, rfl⟩
                      have l1 : (0 : Int) < (A : Int) := by omega
                      have l1n : 0 < A := by omega
                      have jy : IntKind.i64.wrap ((A : Int) - 1) = (y : Int) := by rw [IntKind.wrap_i64]; omega
                      have cy := hR3.out.su.at (k := y) (by omega)
                      have by_ : (y : Int) < (n : Int) := by omega
                      have hlt : f'[y]! < f'[p]! := by
                        have h1 := hR3.out.bel
                        have h2 : ¬ f'[p]! < f'[y]! := by
                          rcases h1 with h1 | h1
                          · exact absurd h1 hA0
                          · rw [hy]; exact h1 p hpA hpZ
                        have h3 : f'[y]! ≠ f'[p]! := fun e => by
                          have := hR3.out.nd y p (by rw [fs.out]; omega) (by rw [fs.out]; omega) e
                          omega
                        omega
                      have HT : Hid (f'[y]! < f'[p]!) := hlt
                      clear hy hlt
                      go_quiet (first | (go_at_call 116; refine Calls.quiet_of_same (lessU _ _ _)))
                      go_wp2
                      go_meet
                      refine ⟨?_, hR3.out.turn HD.out.1 (hR3.out.su.drewN _) (Go.Sort.permIn_refl _ _ _)⟩
                      have hlt := HT.out
                      simp [hlt]
                  case rest =>
                    obtain ⟨rfl, hR4⟩ := hcut
                    clear hR3 cp
                    have hct := partU B g n cap A Z p f' w0 wc hR4.out.su hpA hpZ (by omega) hn
                    go_wp2_with fail
                    refine hct.mono ?_
                    clear hct
                    rintro ev W4 ⟨m, al, d4, rfl, hs4, hps⟩
                    have hpm := hps.am
                    have hpz := hps.mb
                    have HS4 : Hid (SU w0 W4 B g n cap d4 ∧ PS f' A Z m d4) := ⟨hs4, hps⟩
                    clear hs4 hps
                    obtain ⟨ml, hml⟩ : ∃ ml, ml = m - A := ⟨_, rfl⟩
                    obtain ⟨mr, hmr⟩ : ∃ mr, mr = Z - m := ⟨_, rfl⟩
                    have k1 : IntKind.i64.wrap ((m : Int) - (A : Int)) = (ml : Int) := by rw [IntKind.wrap_i64]; omega
                    have k2 : IntKind.i64.wrap ((Z : Int) - (m : Int)) = (mr : Int) := by rw [IntKind.wrap_i64]; omega
                    have k3 : IntKind.i64.wrap ((m : Int) + 1) = ((m + 1 : Nat) : Int) := by rw [IntKind.wrap_i64]; omega
                    clear hml hmr
                    by_cases hlr : ml < mr
                    · have l9 : (ml : Int) < (mr : Int) := by omega
                      have hci := HIH.out A m M' d4 w0 W4 (by omega) HS4.out.1 (by omega) (by omega) hM' ((hR4.out.bel.perm (by rw [fs.out]; omega) HS4.out.2.perm).sub (by omega)) (hR4.out.nd.perm (by rw [fs.out]; omega) HS4.out.2.perm)
                      go_wp2_with fail
                      refine hci.mono ?_
                      clear hci
                      rintro ev W5 ⟨rfl, d5, hs5, hp5, ho5⟩
                      obtain ⟨o1, o2, o3⟩ := hR4.out.out.left q1 q3 (by rw [fs.out]; omega) HS4.out.2 hp5 ho5
                      have HE : Hid (PqL w0 W5 B g n cap a b (m + 1) Z d d5) := ⟨hs5, Go.Sort.permIn_trans _ _ _ _ _ hR4.out.perm (Go.Sort.permIn_mono _ _ _ _ _ _ q1 q3 (by rw [fs.out]; omega) o2), o1, o3, hR4.out.nd.perm (by rw [fs.out]; omega) o2, by omega, by omega, q3⟩
                      clear hs5 hp5 ho5 o1 o2 o3
                      go_wp2
                      go_roundw
                      case rel => exact ⟨m + 1, Z, M', _, al, d5, by simp, rfl, rfl, rfl, rfl, hM', HE.out⟩
                      case measure => simp [intOf]; omega
                    · have l9 : ¬ (ml : Int) < (mr : Int) := by omega
                      have hci := HIH.out (m + 1) Z M' d4 w0 W4 (by omega) HS4.out.1 (by omega) (by omega) hM' (.inr fun i h1 h2 => HS4.out.2.hi i (by omega) h2) (hR4.out.nd.perm (by rw [fs.out]; omega) HS4.out.2.perm)
                      go_wp2_with fail
                      refine hci.mono ?_
                      clear hci
                      rintro ev W5 ⟨rfl, d5, hs5, hp5, ho5⟩
                      obtain ⟨o1, o2, o3⟩ := hR4.out.out.right q1 q3 (by rw [fs.out]; omega) hR4.out.bel HS4.out.2 hp5 ho5
                      have HE : Hid (PqL w0 W5 B g n cap a b A m d d5) := ⟨hs5, Go.Sort.permIn_trans _ _ _ _ _ hR4.out.perm (Go.Sort.permIn_mono _ _ _ _ _ _ q1 q3 (by rw [fs.out]; omega) o2), o1, o3, hR4.out.nd.perm (by rw [fs.out]; omega) o2, by omega, by omega, by omega⟩
                      clear hs5 hp5 ho5 o1 o2 o3
                      go_wp2
                      go_roundw
                      case rel => exact ⟨A, m, M', _, al, d5, rfl, rfl, rfl, rfl, rfl, hM', HE.out⟩
                      case measure => simp [intOf]; omega
end Go.Proofs.YtbdhmkfdofkloaaGreatDoor
