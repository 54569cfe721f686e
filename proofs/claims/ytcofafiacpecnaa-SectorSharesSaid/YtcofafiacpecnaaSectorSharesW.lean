/- The walk of SectorShares: it answers true for every input, and leaves all old blocks as they were. No condition. -/
import Derived.Test.YtcofafiacpecnaaRows
import Derived.Test.YtcofafiacpecnaaRowKit
import Derived.Test.YtcofafiacpecnaaSectorMath
import Derived.Test.YtcofafiacpecnaaSectorA
import Derived.WalkKit
import Derived.ProofKit
import Derived.OpenShut
import Derived.Deep.QuietTactic
import Derived.BigQuiet
import Derived.Lib.SmallJoins
import Derived.Lib.Hide
import Derived.WalkSpells
import Derived.WalkLawsBesides
import Derived.IntWalk
import Derived.Deep.LoopGhost
namespace Go.Proofs.Ytcofafiacpecnaa.sectorShares
open Go.ChangeShapes Go.WideShapes Go.ChangeAt Go.RowKit Go.Joins
set_option linter.unusedSimpArgs false
set_option linter.unusedVariables false

/-- what a car's round wants to know -/
structure SecR (F C k P Q a b : Nat) : Prop where
  p : (k : Int) * (F : Int) = (P : Nat)
  q : ((k : Int) + 1) * (F : Int) = (Q : Nat)
  ea : ((P : Int) + C - 1) / C = (a : Nat)
  eb : ((Q : Int) + C - 1) / C = (b : Nat)
  pb : P ≤ 20000
  qb : Q ≤ 20000
  ab : a ≤ b
  bF : b ≤ F
theorem sec_of {F C k : Nat} (hF : F ≤ 128) (hC : 0 < C) (hC' : C ≤ 128) (hk : k < C) : SecR F C k (k * F) ((k + 1) * F) (fsN F C k) (fsN F C (k + 1)) where
  p := by simp
  q := by simp
  ea := by unfold fsN; rw [show ((k * F : Nat) : Int) + (C : Int) - 1 = ((k * F + C - 1 : Nat) : Int) by omega]; simp
  eb := by unfold fsN; rw [show (((k + 1) * F : Nat) : Int) + (C : Int) - 1 = (((k + 1) * F + C - 1 : Nat) : Int) by omega]; simp
  pb := by have := mul_bd (a := k) (b := F) (A := 128) (B := 128) (by omega) hF; omega
  qb := by have := mul_bd (a := k + 1) (b := F) (A := 128) (B := 128) (by omega) hF; omega
  ab := fs_mono hC k
  bF := fs_top hC (by omega)
set_option maxRecDepth 100000 in
set_option maxHeartbeats 4000000 in
theorem walk_in (F C : Nat) (w : World) (hF : 1 ≤ F) (hF' : F ≤ 128) (hC : 1 ≤ C) (hC' : C ≤ 128) :
    Calls Try.prog 7 #[.int .i64 F, .int .i64 C] w fun e w' => e = .returned (.bool true) ∧ Below w.heap.size w w' := by
  have Z0 := Lib.hid (fs_zero (F := F) (C := C) hC)
  have ZF := Lib.hid (fs_full (F := F) (C := C) hC)
  go_enter Try.func7, Try.ntmps7
  go_wp2_with fail
  go_loopg [5, 6] C (fun g l i wr => ∃ k : Nat, k ≤ C ∧ g = C - k ∧ i = .int .i64 k ∧ l = .int .i64 (fsN F C k : Nat) ∧ wr = w)
  case atStart => exact ⟨0, by omega, by omega, rfl, by rw [Z0.out]; rfl, rfl⟩
  case round =>
    obtain ⟨k, hk, rfl, rfl, rfl, rfl⟩ := hrel
    by_cases h : k < C
    · have R := sec_of (F := F) hF' hC hC' h
      have CO := Lib.hid (fun (f : Nat) => car_of (F := F) (C := C) (c := k) (f := f) hF hC)
      obtain ⟨a, ha⟩ : ∃ a, fsN F C k = a := ⟨_, rfl⟩
      obtain ⟨b, hb⟩ : ∃ b, fsN F C (k + 1) = b := ⟨_, rfl⟩
      obtain ⟨P, hP⟩ : ∃ P, k * F = P := ⟨_, rfl⟩
      obtain ⟨Q, hQ⟩ : ∃ Q, (k + 1) * F = Q := ⟨_, rfl⟩
      rw [ha, hb, hP, hQ] at R
      rw [ha, hb] at CO
      rw [ha]
      have HB := Lib.hid hb
      obtain ⟨p, q, ea, eb, pb, qb, ab, bF⟩ := R
      rcases Int.lt_trichotomy (a : Int) ((F : Int) - 1) with hc | hc | hc
      · have hc' : ¬ (F : Int) - 1 ≤ a := by omega
        have KS := Lib.hid (fun w => span_any F C k P Q a b w (by omega) (by omega) (by omega) (by omega) p q (by omega) (by omega) (by omega) (by omega) ea eb)
        have hm : min (a : Int) ((F : Int) - 1) = (a : Int) := by omega
        have KH := Lib.hid (fun w => home_any F C k P Q a b (a : Int) w (by omega) (by omega) (by omega) (by omega) (by omega) (by omega) p q (by omega) (by omega) (by omega) (by omega) ea eb hm)
        have hw : IntKind.i64.wrap ((k : Int) * (F : Int)) = (P : Int) := by rw [p]; exact IntWalk.i64_in _ (by omega)
        have q1 : ((a : Int) != ((P : Int) + C - 1) / C) = false := by rw [ea]; simp
        have q3 : ((a : Int) != (a : Int)) = false := by simp
        have q4 : (a != a) = false := by simp
        have q5 : ((a : Int) != (a : Int)) = false := by simp
        have nz : ((C : Int) == 0) = false := by rw [beq_eq_false_iff_ne]; omega
        have nz' : ((F : Int) == 0) = false := by rw [beq_eq_false_iff_ne]; omega
        clear p q ea eb ha hb hP hQ
        go_wp2_with (first
          | (go_at_call 33; refine (KS.out _).mono ?_; rintro e w' ⟨rfl, rfl⟩)
          | (go_at_call 34; refine (KH.out _).mono ?_; rintro e w' ⟨rfl, rfl⟩))
        go_loopg [9] (b - a) (fun g i wr' => ∃ j : Nat, a ≤ j ∧ j ≤ b ∧ g = b - j ∧ i = .int .i64 j ∧ wr' = wr)
        case atStart => exact ⟨a, by omega, by omega, by omega, rfl, rfl⟩
        case round =>
          obtain ⟨j, hj0, hj, rfl, rfl, rfl⟩ := hrel
          by_cases hjb : j < b
          · have ck := CO.out j hj0 hjb
            obtain ⟨p2, hp2⟩ : ∃ p2, j * C = p2 := ⟨_, rfl⟩
            have pb2 : p2 ≤ 128 * 128 := by rw [← hp2]; exact mul_bd (by omega) (by omega)
            rw [hp2] at ck
            have d2 : (p2 : Int) / (F : Int) = (k : Int) := by omega
            have pe : (j : Int) * (C : Int) = (p2 : Int) := by rw [← hp2]; simp
            have KC := Lib.hid (fun w => scar_any F C j p2 k w (by omega) (by omega) pe (by omega) (by omega) d2)
            have hw2 : IntKind.i64.wrap ((j : Int) * (C : Int)) = (p2 : Int) := by rw [pe]; exact IntWalk.i64_in _ (by omega)
            have r1 : ((p2 : Int) / (F : Int) != (k : Int)) = false := by rw [d2]; simp
            have r2 : (p2 / F != k) = false := by rw [ck]; simp
            have r3 : (k != k) = false := by simp
            have r4 : (wrap64 ((p2 : Int) / (F : Int)) != (k : Int)) = false := by rw [d2, show wrap64 (k : Int) = (k : Int) by unfold wrap64; omega]; simp
            have nf : ¬ F = 0 := by omega
            clear ck hp2 d2 pe
            go_wp2_with (go_at_call 35; refine (KC.out _).mono ?_; rintro e w' ⟨rfl, rfl⟩)
            go_roundg (b - (j + 1))
            case measure => omega
            case rel => exact ⟨j + 1, by omega, by omega, rfl, by go_num, rfl⟩
          · obtain rfl : j = b := by omega
            go_wp2_with fail
            go_roundg (C - (k + 1))
            case measure => omega
            case rel => exact ⟨k + 1, by omega, rfl, by go_num, by rw [HB.out], rfl⟩
      · have hc1 : (a : Int) ≤ (F : Int) - 1 := by omega
        have hc2 : (F : Int) - 1 ≤ (a : Int) := by omega
        clear hc
        have KS := Lib.hid (fun w => span_any F C k P Q a b w (by omega) (by omega) (by omega) (by omega) p q (by omega) (by omega) (by omega) (by omega) ea eb)
        have hm : min (a : Int) ((F : Int) - 1) = (a : Int) := by omega
        have KH := Lib.hid (fun w => home_any F C k P Q a b (a : Int) w (by omega) (by omega) (by omega) (by omega) (by omega) (by omega) p q (by omega) (by omega) (by omega) (by omega) ea eb hm)
        have hw : IntKind.i64.wrap ((k : Int) * (F : Int)) = (P : Int) := by rw [p]; exact IntWalk.i64_in _ (by omega)
        have q1 : ((a : Int) != ((P : Int) + C - 1) / C) = false := by rw [ea]; simp
        have q3 : ((a : Int) != (a : Int)) = false := by simp
        have q4 : (a != a) = false := by simp
        have q5 : ((a : Int) != (a : Int)) = false := by simp
        have nz : ((C : Int) == 0) = false := by rw [beq_eq_false_iff_ne]; omega
        have nz' : ((F : Int) == 0) = false := by rw [beq_eq_false_iff_ne]; omega
        clear p q ea eb ha hb hP hQ
        go_wp2_with (first
          | (go_at_call 33; refine (KS.out _).mono ?_; rintro e w' ⟨rfl, rfl⟩)
          | (go_at_call 34; refine (KH.out _).mono ?_; rintro e w' ⟨rfl, rfl⟩))
        go_loopg [9] (b - a) (fun g i wr' => ∃ j : Nat, a ≤ j ∧ j ≤ b ∧ g = b - j ∧ i = .int .i64 j ∧ wr' = wr)
        case atStart => exact ⟨a, by omega, by omega, by omega, rfl, rfl⟩
        case round =>
          obtain ⟨j, hj0, hj, rfl, rfl, rfl⟩ := hrel
          by_cases hjb : j < b
          · have ck := CO.out j hj0 hjb
            obtain ⟨p2, hp2⟩ : ∃ p2, j * C = p2 := ⟨_, rfl⟩
            have pb2 : p2 ≤ 128 * 128 := by rw [← hp2]; exact mul_bd (by omega) (by omega)
            rw [hp2] at ck
            have d2 : (p2 : Int) / (F : Int) = (k : Int) := by omega
            have pe : (j : Int) * (C : Int) = (p2 : Int) := by rw [← hp2]; simp
            have KC := Lib.hid (fun w => scar_any F C j p2 k w (by omega) (by omega) pe (by omega) (by omega) d2)
            have hw2 : IntKind.i64.wrap ((j : Int) * (C : Int)) = (p2 : Int) := by rw [pe]; exact IntWalk.i64_in _ (by omega)
            have r1 : ((p2 : Int) / (F : Int) != (k : Int)) = false := by rw [d2]; simp
            have r2 : (p2 / F != k) = false := by rw [ck]; simp
            have r3 : (k != k) = false := by simp
            have r4 : (wrap64 ((p2 : Int) / (F : Int)) != (k : Int)) = false := by rw [d2, show wrap64 (k : Int) = (k : Int) by unfold wrap64; omega]; simp
            have nf : ¬ F = 0 := by omega
            clear ck hp2 d2 pe
            go_wp2_with (go_at_call 35; refine (KC.out _).mono ?_; rintro e w' ⟨rfl, rfl⟩)
            go_roundg (b - (j + 1))
            case measure => omega
            case rel => exact ⟨j + 1, by omega, by omega, rfl, by go_num, rfl⟩
          · obtain rfl : j = b := by omega
            go_wp2_with fail
            go_roundg (C - (k + 1))
            case measure => omega
            case rel => exact ⟨k + 1, by omega, rfl, by go_num, by rw [HB.out], rfl⟩
      · have hc' : ¬ (a : Int) ≤ (F : Int) - 1 := by omega
        have dba : decide (b < a) = false := decide_eq_false (by omega)
        have dFb : decide (F < b) = false := decide_eq_false (by omega)
        have KS := Lib.hid (fun w => span_any F C k P Q a b w (by omega) (by omega) (by omega) (by omega) p q (by omega) (by omega) (by omega) (by omega) ea eb)
        have hm : min (a : Int) ((F : Int) - 1) = ((F : Int) - 1) := by omega
        have KH := Lib.hid (fun w => home_any F C k P Q a b ((F : Int) - 1) w (by omega) (by omega) (by omega) (by omega) (by omega) (by omega) p q (by omega) (by omega) (by omega) (by omega) ea eb hm)
        have hw : IntKind.i64.wrap ((k : Int) * (F : Int)) = (P : Int) := by rw [p]; exact IntWalk.i64_in _ (by omega)
        have q1 : ((a : Int) != ((P : Int) + C - 1) / C) = false := by rw [ea]; simp
        have q3 : (((F : Int) - 1) != ((F : Int) - 1)) = false := by simp
        have q4 : (a != a) = false := by simp
        have q5 : ((a : Int) != (a : Int)) = false := by simp
        have nz : ((C : Int) == 0) = false := by rw [beq_eq_false_iff_ne]; omega
        have nz' : ((F : Int) == 0) = false := by rw [beq_eq_false_iff_ne]; omega
        clear p q ea eb ha hb hP hQ
        go_wp2_with (first
          | (go_at_call 33; refine (KS.out _).mono ?_; rintro e w' ⟨rfl, rfl⟩)
          | (go_at_call 34; refine (KH.out _).mono ?_; rintro e w' ⟨rfl, rfl⟩))
        go_loopg [9] (b - a) (fun g i wr' => ∃ j : Nat, a ≤ j ∧ j ≤ b ∧ g = b - j ∧ i = .int .i64 j ∧ wr' = wr)
        case atStart => exact ⟨a, by omega, by omega, by omega, rfl, rfl⟩
        case round =>
          obtain ⟨j, hj0, hj, rfl, rfl, rfl⟩ := hrel
          by_cases hjb : j < b
          · have ck := CO.out j hj0 hjb
            obtain ⟨p2, hp2⟩ : ∃ p2, j * C = p2 := ⟨_, rfl⟩
            have pb2 : p2 ≤ 128 * 128 := by rw [← hp2]; exact mul_bd (by omega) (by omega)
            rw [hp2] at ck
            have d2 : (p2 : Int) / (F : Int) = (k : Int) := by omega
            have pe : (j : Int) * (C : Int) = (p2 : Int) := by rw [← hp2]; simp
            have KC := Lib.hid (fun w => scar_any F C j p2 k w (by omega) (by omega) pe (by omega) (by omega) d2)
            have hw2 : IntKind.i64.wrap ((j : Int) * (C : Int)) = (p2 : Int) := by rw [pe]; exact IntWalk.i64_in _ (by omega)
            have r1 : ((p2 : Int) / (F : Int) != (k : Int)) = false := by rw [d2]; simp
            have r2 : (p2 / F != k) = false := by rw [ck]; simp
            have r3 : (k != k) = false := by simp
            have r4 : (wrap64 ((p2 : Int) / (F : Int)) != (k : Int)) = false := by rw [d2, show wrap64 (k : Int) = (k : Int) by unfold wrap64; omega]; simp
            have nf : ¬ F = 0 := by omega
            clear ck hp2 d2 pe
            go_wp2_with (go_at_call 35; refine (KC.out _).mono ?_; rintro e w' ⟨rfl, rfl⟩)
            go_roundg (b - (j + 1))
            case measure => omega
            case rel => exact ⟨j + 1, by omega, by omega, rfl, by go_num, rfl⟩
          · obtain rfl : j = b := by omega
            go_wp2_with fail
            go_roundg (C - (k + 1))
            case measure => omega
            case rel => exact ⟨k + 1, by omega, rfl, by go_num, by rw [HB.out], rfl⟩
    · obtain rfl : k = C := by omega
      have q1 : ((F : Int) == (F : Int)) = true := by simp
      have q2 : (F == F) = true := by simp
      rw [ZF.out]
      go_wp2_with (go_at_call 36; refine (secalive _).mono ?_; rintro e w' ⟨rfl, rfl⟩)
      go_ret
      exact ⟨rfl, Below.refl _ _⟩
theorem walk_out (F C : Int) (w : World) (h : ¬ (1 ≤ F ∧ F ≤ 128 ∧ 1 ≤ C ∧ C ≤ 128)) :
    Calls Try.prog 7 #[.int .i64 F, .int .i64 C] w fun e w' => e = .returned (.bool true) ∧ Below w.heap.size w w' := by
  by_cases h1 : F < 1
  · clear h
    go_enter Try.func7, Try.ntmps7
    go_wp2_with fail
    go_ret
    exact ⟨rfl, Below.refl _ _⟩
  · by_cases h2 : 128 < F
    · clear h
      go_enter Try.func7, Try.ntmps7
      go_wp2_with fail
      go_ret
      exact ⟨rfl, Below.refl _ _⟩
    · by_cases h3 : C < 1
      · clear h
        go_enter Try.func7, Try.ntmps7
        go_wp2_with fail
        go_ret
        exact ⟨rfl, Below.refl _ _⟩
      · have h4 : 128 < C := by omega
        clear h
        go_enter Try.func7, Try.ntmps7
        go_wp2_with fail
        go_ret
        exact ⟨rfl, Below.refl _ _⟩
theorem walk {F C : Int} (w0 : (Lit.int .i64 F).wf = true) (w1 : (Lit.int .i64 C).wf = true) (w : World) :
    Calls Try.prog 7 #[.int .i64 F, .int .i64 C] w fun e w' => e = .returned (.bool true) ∧ Below w.heap.size w w' := by
  by_cases h : 1 ≤ F ∧ F ≤ 128 ∧ 1 ≤ C ∧ C ≤ 128
  · obtain ⟨f, rfl⟩ := Int.eq_ofNat_of_zero_le (show 0 ≤ F by omega)
    obtain ⟨c, rfl⟩ := Int.eq_ofNat_of_zero_le (show 0 ≤ C by omega)
    exact walk_in f c w (by omega) (by omega) (by omega) (by omega)
  · exact walk_out F C w h

end Go.Proofs.Ytcofafiacpecnaa.sectorShares
