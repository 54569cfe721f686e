/- Contracts of trip.Begin, At, Counts and of the document's At, Many. -/
import Derived.Test.YtcofafiacpecnaaRows
import Derived.Test.YtcofafiacpecnaaRowKit
import Derived.Test.YtcofafiacpecnaaRowS
import Derived.Test.YtcofafiacpecnaaRowZ
import Derived.Test.YtcofafiacpecnaaTripMath
import Derived.WalkKit
import Derived.IntWalk
import Derived.Lib.Hide
import Derived.WalkSpells
import Derived.WalkLawsBesides
import Derived.Deep.QuietTactic
import Derived.Deep.RegionHeld3
import Derived.BigQuiet
import Derived.Below
namespace Go.Proofs.Ytcofafiacpecnaa
open Go.RowKit
set_option linter.unusedSimpArgs false
set_option linter.unusedVariables false
theorem tret {k : IntKind} {a b : Int} (h : a = b) : Ending.returned (.int k a) = .returned (.int k b) := by rw [h]
theorem tvint {k : IntKind} {a b : Int} (h : a = b) : Value.int k a = .int k b := by rw [h]
theorem keepc {w w1 : World} (hb : Below w.heap.size w w1) {b o : Nat} {v : Value} (h : w.cell? ⟨b, o, none⟩ = some v) : w1.cell? ⟨b, o, none⟩ = some v :=
  (hb.cell (p := ⟨b, o, none⟩) (lt_of_cell h)).trans h
set_option maxHeartbeats 400000 in
theorem tat_any (a0 a1 a2 a3 a4 a5 a6 : Int) (w : World) : Calls Try.prog 109 #[.agg #[.int .i64 a0, .int .i64 a1, .int .i64 a2, .int .i64 a3, .int .i64 a4, .int .i64 a5, .int .i64 a6]] w fun e w' => e = .returned (.int .i64 (phaseV a5 a6)) ∧ Below w.heap.size w w' := by
  by_cases h6 : 0 ≤ a6
  · have E := Lib.hid (phase_done (b := a5) h6)
    go_enter Try.func109, Try.ntmps109
    go_wp2_with fail
    go_ret
    exact ⟨tret (by rw [E.out]), (Below.refl _ _).alloc (Nat.le_refl _) _⟩
  · by_cases h5 : 0 ≤ a5
    · have E := Lib.hid (phase_ride h6 h5)
      go_enter Try.func109, Try.ntmps109
      go_wp2_with fail
      go_ret
      exact ⟨tret (by rw [E.out]), (Below.refl _ _).alloc (Nat.le_refl _) _⟩
    · have E := Lib.hid (phase_wait h6 h5)
      go_enter Try.func109, Try.ntmps109
      go_wp2_with fail
      go_ret
      exact ⟨tret (by rw [E.out]), (Below.refl _ _).alloc (Nat.le_refl _) _⟩
set_option maxHeartbeats 400000 in
theorem rtat_any (a0 a1 a2 a3 a4 a5 a6 : Int) (w : World) : Calls Try.prog 87 #[.agg #[.int .i64 a0, .int .i64 a1, .int .i64 a2, .int .i64 a3, .int .i64 a4, .int .i64 a5, .int .i64 a6]] w fun e w' => e = .returned (.int .i64 (phaseV a5 a6)) ∧ Below w.heap.size w w' := by
  by_cases h6 : 0 ≤ a6
  · have E := Lib.hid (phase_done (b := a5) h6)
    go_enter Try.func87, Try.ntmps87
    go_wp2_with fail
    go_ret
    exact ⟨tret (by rw [E.out]), (Below.refl _ _).alloc (Nat.le_refl _) _⟩
  · by_cases h5 : 0 ≤ a5
    · have E := Lib.hid (phase_ride h6 h5)
      go_enter Try.func87, Try.ntmps87
      go_wp2_with fail
      go_ret
      exact ⟨tret (by rw [E.out]), (Below.refl _ _).alloc (Nat.le_refl _) _⟩
    · have E := Lib.hid (phase_wait h6 h5)
      go_enter Try.func87, Try.ntmps87
      go_wp2_with fail
      go_ret
      exact ⟨tret (by rw [E.out]), (Below.refl _ _).alloc (Nat.le_refl _) _⟩
set_option maxHeartbeats 1000000 in
theorem tcounts_any (A : Option Addr) (c n : Nat) (z : Nat → Nat → Int) (w : World) (hr : RdZ w 7 A n z) (hn : n ≤ 1000000) :
    Calls Try.prog 86 #[.slice A n c] w fun e w' => e = .returned (.tuple #[.int .i64 (cntV z 2 n : Nat), .int .i64 (cntV z 1 n : Nat), .int .i64 (cntV z 0 n : Nat)]) ∧ Below w.heap.size w w' := by
  go_enter Try.func86, Try.ntmps86
  go_wp2_with fail
  go_loopw [5, 6, 7, 12] (fun x y v i wr => ∃ k : Nat, k ≤ n ∧ i = .int .i64 k ∧ x = .int .i64 (cntV z 2 k : Nat) ∧ y = .int .i64 (cntV z 1 k : Nat) ∧ v = .int .i64 (cntV z 0 k : Nat) ∧ Below w.heap.size w wr) (fun _ _ _ i _ => n - (intOf i).toNat)
  case atStart => exact ⟨0, by omega, rfl, rfl, rfl, rfl, Below.refl _ _⟩
  case round =>
    obtain ⟨k, hk, rfl, rfl, rfl, rfl, hb⟩ := hrel
    have s2 := cnt_le z 2 k
    have s1 := cnt_le z 1 k
    have s0 := cnt_le z 0 k
    obtain ⟨x2, h2⟩ : ∃ x, cntV z 2 k = x := ⟨_, rfl⟩
    obtain ⟨x1, h1⟩ : ∃ x, cntV z 1 k = x := ⟨_, rfl⟩
    obtain ⟨x0, h0⟩ : ∃ x, cntV z 0 k = x := ⟨_, rfl⟩
    rw [h2] at s2
    rw [h1] at s1
    rw [h0] at s0
    rw [h2, h1, h0]
    have H2 := Lib.hid h2
    have H1 := Lib.hid h1
    have H0 := Lib.hid h0
    clear h2 h1 h0
    by_cases h : k < n
    · obtain ⟨b, off, rfl, hlt, hc⟩ := rdZ_row (hr.kept hb) (by omega) (by omega)
      have c0 : wr.cell? ⟨b, off + k * 7, none⟩ = _ := hc k 0 h (by omega)
      have c1 := hc k 1 h (by omega)
      have c2 := hc k 2 h (by omega)
      have c3 := hc k 3 h (by omega)
      have c4 := hc k 4 h (by omega)
      have c5 := hc k 5 h (by omega)
      have c6 := hc k 6 h (by omega)
      clear hc
      have B1 := Lib.hid (hb.alloc hb.size (.cells #[.int .i64 (z k 0), .int .i64 (z k 1), .int .i64 (z k 2), .int .i64 (z k 3), .int .i64 (z k 4), .int .i64 (z k 5), .int .i64 (z k 6)] 125))
      have T := fun w => tat_any (z k 0) (z k 1) (z k 2) (z k 3) (z k 4) (z k 5) (z k 6) w
      rcases (show phaseV (z k 5) (z k 6) = 2 ∨ phaseV (z k 5) (z k 6) = 1 ∨ phaseV (z k 5) (z k 6) = 0 by have := phase_bd (z k 5) (z k 6); omega) with p | p | p
      · rw [p] at T
        have HT := Lib.hid T
        have E2 := Lib.hid (cnt_yes p)
        have E1 := Lib.hid (cnt_no (p := 1) (show ¬ phaseV (z k 5) (z k 6) = 1 by omega))
        have E0 := Lib.hid (cnt_no (p := 0) (show ¬ phaseV (z k 5) (z k 6) = 0 by omega))
        clear T p
        go_wp2_with (go_at_call 109; refine (HT.out _).mono ?_; rintro e w1 ⟨rfl, hb1⟩)
        go_roundw
        case rel => exact ⟨k + 1, by omega, by go_num, tvint (by rw [E2.out, H2.out]; omega), tvint (by rw [E1.out, H1.out]), tvint (by rw [E0.out, H0.out]), B1.out.trans (Joins.below_le hb1 (by have := B1.out.size; omega))⟩
        case measure => simp [intOf]; omega
      · rw [p] at T
        have HT := Lib.hid T
        have E1 := Lib.hid (cnt_yes p)
        have E2 := Lib.hid (cnt_no (p := 2) (show ¬ phaseV (z k 5) (z k 6) = 2 by omega))
        have E0 := Lib.hid (cnt_no (p := 0) (show ¬ phaseV (z k 5) (z k 6) = 0 by omega))
        clear T p
        go_wp2_with (go_at_call 109; refine (HT.out _).mono ?_; rintro e w1 ⟨rfl, hb1⟩)
        go_roundw
        case rel => exact ⟨k + 1, by omega, by go_num, tvint (by rw [E2.out, H2.out]), tvint (by rw [E1.out, H1.out]; omega), tvint (by rw [E0.out, H0.out]), B1.out.trans (Joins.below_le hb1 (by have := B1.out.size; omega))⟩
        case measure => simp [intOf]; omega
      · rw [p] at T
        have HT := Lib.hid T
        have E0 := Lib.hid (cnt_yes p)
        have E2 := Lib.hid (cnt_no (p := 2) (show ¬ phaseV (z k 5) (z k 6) = 2 by omega))
        have E1 := Lib.hid (cnt_no (p := 1) (show ¬ phaseV (z k 5) (z k 6) = 1 by omega))
        clear T p
        go_wp2_with (go_at_call 109; refine (HT.out _).mono ?_; rintro e w1 ⟨rfl, hb1⟩)
        go_roundw
        case rel => exact ⟨k + 1, by omega, by go_num, tvint (by rw [E2.out, H2.out]), tvint (by rw [E1.out, H1.out]), tvint (by rw [E0.out, H0.out]; omega), B1.out.trans (Joins.below_le hb1 (by have := B1.out.size; omega))⟩
        case measure => simp [intOf]; omega
    · obtain rfl : k = n := by omega
      go_wp2_with fail
      go_ret3
      exact ⟨by rw [H2.out, H1.out, H0.out]; rfl, hb⟩
set_option maxHeartbeats 1000000 in
theorem rmany_any (A : Option Addr) (c n : Nat) (q : Int) (z : Nat → Nat → Int) (w : World) (hr : RdZ w 7 A n z) (hn : n ≤ 1000000) :
    Calls Try.prog 47 #[.slice A n c, .int .i64 q] w fun e w' => e = .returned (.int .i64 (cntV z q n : Nat)) ∧ Below w.heap.size w w' := by
  go_enter Try.func47, Try.ntmps47
  go_wp2_with fail
  go_loopw [5, 6] (fun x i wr => ∃ k : Nat, k ≤ n ∧ i = .int .i64 k ∧ x = .int .i64 (cntV z q k : Nat) ∧ Below w.heap.size w wr) (fun _ i _ => n - (intOf i).toNat)
  case atStart => exact ⟨0, by omega, rfl, rfl, Below.refl _ _⟩
  case round =>
    obtain ⟨k, hk, rfl, rfl, hb⟩ := hrel
    have s2 := cnt_le z q k
    obtain ⟨x2, h2⟩ : ∃ x, cntV z q k = x := ⟨_, rfl⟩
    rw [h2] at s2
    rw [h2]
    have H2 := Lib.hid h2
    clear h2
    by_cases h : k < n
    · obtain ⟨b, off, rfl, hlt, hc⟩ := rdZ_row (hr.kept hb) (by omega) (by omega)
      have c0 : wr.cell? ⟨b, off + k * 7, none⟩ = _ := hc k 0 h (by omega)
      have c1 := hc k 1 h (by omega)
      have c2 := hc k 2 h (by omega)
      have c3 := hc k 3 h (by omega)
      have c4 := hc k 4 h (by omega)
      have c5 := hc k 5 h (by omega)
      have c6 := hc k 6 h (by omega)
      clear hc
      have T := fun w => rtat_any (z k 0) (z k 1) (z k 2) (z k 3) (z k 4) (z k 5) (z k 6) w
      obtain ⟨p, hp⟩ : ∃ p, phaseV (z k 5) (z k 6) = p := ⟨_, rfl⟩
      rw [hp] at T
      have HT := Lib.hid T
      by_cases e : p = q
      · have E := Lib.hid (cnt_yes (hp.trans e))
        have b1 : (p == q) = true := by rw [beq_iff_eq]; exact e
        clear T hp e
        go_wp2_with (go_at_call 87; refine (HT.out _).mono ?_; rintro e w1 ⟨rfl, hb1⟩)
        go_roundw
        case rel => exact ⟨k + 1, by omega, by go_num, tvint (by rw [E.out, H2.out]; omega), hb.trans (Joins.below_le hb1 hb.size)⟩
        case measure => simp [intOf]; omega
      · have E := Lib.hid (cnt_no (p := q) (show ¬ phaseV (z k 5) (z k 6) = q by rw [hp]; exact e))
        have b1 : (p == q) = false := by rw [beq_eq_false_iff_ne]; exact e
        clear T hp e
        go_wp2_with (go_at_call 87; refine (HT.out _).mono ?_; rintro e w1 ⟨rfl, hb1⟩)
        go_roundw
        case rel => exact ⟨k + 1, by omega, by go_num, tvint (by rw [E.out, H2.out]), hb.trans (Joins.below_le hb1 hb.size)⟩
        case measure => simp [intOf]; omega
    · obtain rfl : k = n := by omega
      go_wp2_with fail
      go_ret
      exact ⟨by rw [H2.out]; rfl, hb⟩
end Go.Proofs.Ytcofafiacpecnaa
