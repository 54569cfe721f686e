/- Contracts of prob.Times, Power, Part and of the document's. -/
import Derived.Test.YtjokekohmncmkadRows
import Derived.Test.YtjokekohmncmkadProbMath
import Derived.Test.YtjokekohmncmkadNumsMath
import Derived.Test.YtjokekohmncmkadNumsA
import Derived.Test.YtjokekohmncmkadNumsB
import Derived.Test.YtjokekohmncmkadDivB
import Derived.Test.YtjokekohmncmkadShelf
import Derived.WalkKit
import Derived.IntWalk
import Derived.Lib.Hide
import Derived.WalkSpells
import Derived.WalkLawsBesides
import Derived.Deep.QuietTactic
import Derived.BigQuiet
namespace Go.Proofs.Ytjokekohmncmkad
open Go.RowKit
set_option linter.unusedSimpArgs false
set_option linter.unusedVariables false
theorem pretU {a b : Int} (h : a = b) : Ending.returned (.int .u64 a) = .returned (.int .u64 b) := by rw [h]
theorem prob_join (H L : Nat) (hH : H < 18446744073709551616) (hL : L < 18446744073709551616) : bits .or .u64 (IntKind.u64.wrap ((H : Int) * 4294967296)) ((L : Int) / 4294967296) = ((H % 4294967296 * 4294967296 + L / 4294967296 : Nat) : Int) := by
  have e1 : IntKind.u64.wrap ((H : Int) * 4294967296) = ((H % 4294967296 * 4294967296 : Nat) : Int) := by rw [IntKind.wrap_u64]; omega
  have e2 : (L : Int) / 4294967296 = ((L / 4294967296 : Nat) : Int) := by omega
  rw [e1, e2, or_nat _ _ (by omega) (by omega)]
  have hd : L / 4294967296 < 2 ^ 32 := by rw [show (2 : Nat) ^ 32 = 4294967296 by decide]; omega
  have e3 : H % 4294967296 * 4294967296 = (H % 4294967296) <<< 32 := by rw [Nat.shiftLeft_eq]
  rw [e3, ← Nat.shiftLeft_add_eq_or_of_lt hd]
set_option maxHeartbeats 400000 in
theorem ptimes_any (a b : Nat) (w : World) (ha : a < 18446744073709551616) (hb : b < 18446744073709551616) :
    Calls Try.prog 23 #[.int .u64 a, .int .u64 b] w fun e w' => e = .returned (.int .u64 (tms a b : Nat)) ∧ w = w' := by
  have M := fun w => Try.bits_Mul64 _ _ ha hb w
  have hH : a * b / 18446744073709551616 < 18446744073709551616 := by
    rw [Nat.div_lt_iff_lt_mul (by decide)]
    exact Nat.mul_lt_mul'' ha hb
  have hL : a * b % 18446744073709551616 < 18446744073709551616 := Nat.mod_lt _ (by decide)
  have T := tms_words (a * b)
  have E : tms a b = a * b / 4294967296 % 18446744073709551616 := rfl
  rw [← E] at T
  generalize a * b / 18446744073709551616 = H at M hH T
  generalize a * b % 18446744073709551616 = L at M hL T
  generalize tms a b = r at T ⊢
  have J := prob_join H L hH hL
  rw [T] at J
  have HM := Lib.hid M
  have HJ := Lib.hid J
  clear M T E J
  go_enter Try.func23, Try.ntmps23
  go_wp2_with (go_at_call 65; refine (HM.out _).mono ?_; rintro e w' ⟨rfl, rfl⟩)
  go_ret
  exact ⟨pretU HJ.out, rfl⟩
set_option maxHeartbeats 400000 in
theorem rptimes_any (a b : Nat) (w : World) (ha : a < 18446744073709551616) (hb : b < 18446744073709551616) :
    Calls Try.prog 24 #[.int .u64 a, .int .u64 b] w fun e w' => e = .returned (.int .u64 (tms a b : Nat)) ∧ w = w' := by
  have M := fun w => times_any a b w ha hb
  have hH : a * b / 18446744073709551616 < 18446744073709551616 := by
    rw [Nat.div_lt_iff_lt_mul (by decide)]
    exact Nat.mul_lt_mul'' ha hb
  have hL : a * b % 18446744073709551616 < 18446744073709551616 := Nat.mod_lt _ (by decide)
  have T := tms_words (a * b)
  have E : tms a b = a * b / 4294967296 % 18446744073709551616 := rfl
  rw [← E] at T
  generalize a * b / 18446744073709551616 = H at M hH T
  generalize a * b % 18446744073709551616 = L at M hL T
  generalize tms a b = r at T ⊢
  have HM := Lib.hid M
  have HJ := Lib.hid T
  clear M T E
  go_enter Try.func24, Try.ntmps24
  go_wp2_with (go_at_call 64; refine (HM.out _).mono ?_; rintro e w' ⟨rfl, rfl⟩)
  go_ret
  exact ⟨pretU (by have := HJ.out; omega), rfl⟩
/-- how often a part is taken -/
def pwN (n : Int) : Nat := (min n 1000).toNat
theorem pwN_le (n : Int) : pwN n ≤ 1000 := by unfold pwN; omega
theorem pwN_lt {n : Int} {k : Nat} (hk : k ≤ pwN n) : ((k : Int) < min n 1000 ↔ k < pwN n) := by unfold pwN at *; omega
theorem ptimes_int (x y : Int) (w : World) (x0 : 0 ≤ x) (x1 : x < 18446744073709551616) (y0 : 0 ≤ y) (y1 : y < 18446744073709551616) :
    Calls Try.prog 23 #[.int .u64 x, .int .u64 y] w fun e w' => e = .returned (.int .u64 (tms x.toNat y.toNat : Nat)) ∧ w = w' := by
  obtain ⟨a, rfl⟩ := Int.eq_ofNat_of_zero_le x0
  obtain ⟨b, rfl⟩ := Int.eq_ofNat_of_zero_le y0
  simp only [Int.toNat_natCast]
  exact ptimes_any a b w (by omega) (by omega)
theorem rptimes_int (x y : Int) (w : World) (x0 : 0 ≤ x) (x1 : x < 18446744073709551616) (y0 : 0 ≤ y) (y1 : y < 18446744073709551616) :
    Calls Try.prog 24 #[.int .u64 x, .int .u64 y] w fun e w' => e = .returned (.int .u64 (tms x.toNat y.toNat : Nat)) ∧ w = w' := by
  obtain ⟨a, rfl⟩ := Int.eq_ofNat_of_zero_le x0
  obtain ⟨b, rfl⟩ := Int.eq_ofNat_of_zero_le y0
  simp only [Int.toNat_natCast]
  exact rptimes_any a b w (by omega) (by omega)
theorem pvint {k : IntKind} {a b : Int} (h : a = b) : Value.int k a = .int k b := by rw [h]
/-- a part, so many times, as it is answered -/
def powV (x n : Int) : Int := (pw (min x 4294967296).toNat (pwN n) : Nat)
theorem powV_bd (x n : Int) : 0 ≤ powV x n ∧ powV x n ≤ 4294967296 := by
  unfold powV
  have := pw_le (a := (min x 4294967296).toNat) (by omega) (pwN n)
  omega
set_option maxHeartbeats 1000000 in
theorem power_any (x n : Int) (w : World) (x0 : 0 ≤ x) (x1 : x < 18446744073709551616) :
    Calls Try.prog 25 #[.int .u64 x, .int .i64 n] w fun e w' => e = .returned (.int .u64 (powV x n)) ∧ w = w' := by
  obtain ⟨A, hA⟩ : ∃ A, (min x 4294967296).toNat = A := ⟨_, rfl⟩
  have hA1 : A ≤ 4294967296 := by omega
  have hm : min x 4294967296 = (A : Int) := by omega
  have hN := pwN_le n
  have N0 := Lib.hid (fun (k : Nat) (h : k ≤ pwN n) => @pwN_lt n k h)
  obtain ⟨m, hm2⟩ : ∃ m, min n 1000 = m := ⟨_, rfl⟩
  have N1 := Lib.hid (show ∀ k : Nat, k ≤ pwN n → ((k : Int) < m ↔ k < pwN n) from fun k h => by rw [← hm2]; exact pwN_lt h)
  have R := Lib.hid (show powV x n = ((pw A (pwN n) : Nat) : Int) by unfold powV; rw [hA])
  have PL := Lib.hid (fun k => pw_le hA1 k)
  have PS := Lib.hid (fun k => pw_succ A k)
  clear hA
  obtain ⟨N, hNN⟩ : ∃ N, pwN n = N := ⟨_, rfl⟩
  rw [hNN] at hN N1 R
  clear hNN N0
  go_enter Try.func25, Try.ntmps25
  go_wp2_with fail
  go_loop [5, 8] (fun p i => ∃ k : Nat, k ≤ N ∧ i = .int .i64 k ∧ p = .int .u64 (pw A k : Nat)) (fun _ i => 1001 - (intOf i).toNat)
  case atStart => exact ⟨0, by omega, rfl, pvint (by rw [pw_zero]; rfl)⟩
  case round =>
    obtain ⟨k, hk, rfl, rfl⟩ := hrel
    have hp := PL.out k
    have NK := N1.out k (by omega)
    obtain ⟨P, hP⟩ : ∃ P, pw A k = P := ⟨_, rfl⟩
    rw [hP] at hp ⊢
    by_cases h : k < N
    · have lt := NK.2 h
      have S := PS.out k
      rw [hP] at S
      have HS := Lib.hid S
      clear S hP NK
      go_wp2_with (go_at_call 23; refine (ptimes_int _ _ _ (by omega) (by omega) (by omega) (by omega)).mono ?_; rintro e w1 ⟨rfl, rfl⟩)
      go_round
      case rel => exact ⟨k + 1, by omega, by go_num, pvint (by rw [HS.out])⟩
      case measure => simp [intOf]; omega
    · obtain rfl : k = N := by omega
      have ge : ¬ (k : Int) < m := fun c => h (NK.1 c)
      have HP := Lib.hid hP
      clear NK hP
      go_wp2_with fail
      go_ret
      exact ⟨pretU (by rw [R.out, HP.out]), rfl⟩
set_option maxHeartbeats 1000000 in
theorem rpower_any (x n : Int) (w : World) (x0 : 0 ≤ x) (x1 : x < 18446744073709551616) :
    Calls Try.prog 26 #[.int .u64 x, .int .i64 n] w fun e w' => e = .returned (.int .u64 (powV x n)) ∧ w = w' := by
  obtain ⟨A, hA⟩ : ∃ A, (min x 4294967296).toNat = A := ⟨_, rfl⟩
  have hA1 : A ≤ 4294967296 := by omega
  have hm : min x 4294967296 = (A : Int) := by omega
  have hN := pwN_le n
  have N1 := Lib.hid (show ∀ k : Nat, k ≤ pwN n → (((k : Int) < n ∧ (k : Int) < 1000) ↔ k < pwN n) from fun k h => by unfold pwN at *; omega)
  have R := Lib.hid (show powV x n = ((pw A (pwN n) : Nat) : Int) by unfold powV; rw [hA])
  have PL := Lib.hid (fun k => pw_le hA1 k)
  have PS := Lib.hid (fun k => pw_succ A k)
  clear hA
  obtain ⟨N, hNN⟩ : ∃ N, pwN n = N := ⟨_, rfl⟩
  rw [hNN] at hN N1 R
  clear hNN
  have main : ∀ y : Int, y = A → Hid (y = A) := fun y h => Lib.hid h
  by_cases hx : 4294967296 < x
  · have e0 : A = 4294967296 := by omega
    have E0 := Lib.hid e0
    clear e0 hm main
    go_enter Try.func26, Try.ntmps26
    go_wp2_with fail
    go_loop [5, 6] (fun p i => ∃ k : Nat, k ≤ N ∧ i = .int .i64 k ∧ p = .int .u64 (pw A k : Nat)) (fun _ i => 1001 - (intOf i).toNat)
    case atStart => exact ⟨0, by omega, rfl, pvint (by rw [pw_zero]; rfl)⟩
    case round =>
      obtain ⟨k, hk, rfl, rfl⟩ := hrel
      have hp := PL.out k
      have NK := N1.out k (by omega)
      obtain ⟨P, hP⟩ : ∃ P, pw A k = P := ⟨_, rfl⟩
      rw [hP] at hp ⊢
      by_cases h : k < N
      · obtain ⟨lt, lt2⟩ := NK.2 h
        have S := PS.out k
        rw [hP] at S
        have HS := Lib.hid S
        clear S hP NK
        go_wp2_with (go_at_call 24; refine (rptimes_int _ _ _ (by omega) (by omega) (by omega) (by omega)).mono ?_; rintro e w1 ⟨rfl, rfl⟩)
        go_round
        case rel => exact ⟨k + 1, by omega, by go_num, pvint (by rw [HS.out, E0.out])⟩
        case measure => simp [intOf]; omega
      · obtain rfl : k = N := by omega
        have HP := Lib.hid hP
        by_cases c : (k : Int) < n
        · have ge : ¬ (k : Int) < 1000 := fun d => h (NK.1 ⟨c, d⟩)
          have ge' : ¬ k < 1000 := by omega
          clear NK hP
          go_wp2_with fail
          go_ret
          exact ⟨pretU (by rw [R.out, HP.out]), rfl⟩
        · clear NK hP
          go_wp2_with fail
          go_ret
          exact ⟨pretU (by rw [R.out, HP.out]), rfl⟩
  · have e0 : x = A := by omega
    subst e0
    clear hm main
    go_enter Try.func26, Try.ntmps26
    go_wp2_with fail
    go_loop [5, 6] (fun p i => ∃ k : Nat, k ≤ N ∧ i = .int .i64 k ∧ p = .int .u64 (pw A k : Nat)) (fun _ i => 1001 - (intOf i).toNat)
    case atStart => exact ⟨0, by omega, rfl, pvint (by rw [pw_zero]; rfl)⟩
    case round =>
      obtain ⟨k, hk, rfl, rfl⟩ := hrel
      have hp := PL.out k
      have NK := N1.out k (by omega)
      obtain ⟨P, hP⟩ : ∃ P, pw A k = P := ⟨_, rfl⟩
      rw [hP] at hp ⊢
      by_cases h : k < N
      · obtain ⟨lt, lt2⟩ := NK.2 h
        have S := PS.out k
        rw [hP] at S
        have HS := Lib.hid S
        clear S hP NK
        go_wp2_with (go_at_call 24; refine (rptimes_int _ _ _ (by omega) (by omega) (by omega) (by omega)).mono ?_; rintro e w1 ⟨rfl, rfl⟩)
        go_round
        case rel => exact ⟨k + 1, by omega, by go_num, pvint (by rw [HS.out])⟩
        case measure => simp [intOf]; omega
      · obtain rfl : k = N := by omega
        have HP := Lib.hid hP
        by_cases c : (k : Int) < n
        · have ge : ¬ (k : Int) < 1000 := fun d => h (NK.1 ⟨c, d⟩)
          have ge' : ¬ k < 1000 := by omega
          clear NK hP
          go_wp2_with fail
          go_ret
          exact ⟨pretU (by rw [R.out, HP.out]), rfl⟩
        · clear NK hP
          go_wp2_with fail
          go_ret
          exact ⟨pretU (by rw [R.out, HP.out]), rfl⟩
/-- a number over another one, and the error -/
def ptV (n m : Int) : Int := if m = 0 ∨ n < 0 ∨ m < n ∨ 1073741824 < m then 0 else n * 4294967296 / m
def ptE (n m : Int) : Int := if m = 0 then 11 else if n < 0 ∨ m < n ∨ 1073741824 < m then 22 else 0
theorem pt_zero (n : Int) {m : Int} (h : m = 0) : ptV n m = 0 ∧ ptE n m = 11 := by
  unfold ptV ptE; rw [if_pos (.inl h), if_pos h]; exact ⟨rfl, rfl⟩
theorem pt_bad {n m : Int} (h0 : ¬ m = 0) (h : n < 0 ∨ m < n ∨ 1073741824 < m) : ptV n m = 0 ∧ ptE n m = 22 := by
  unfold ptV ptE; rw [if_pos (.inr h), if_neg h0, if_pos h]; exact ⟨rfl, rfl⟩
theorem pt_ok {n m : Int} (h0 : ¬ m = 0) (h : ¬ (n < 0 ∨ m < n ∨ 1073741824 < m)) : ptV n m = n * 4294967296 / m ∧ ptE n m = 0 := by
  unfold ptV ptE; rw [if_neg (by omega), if_neg h0, if_neg h]; exact ⟨rfl, rfl⟩
theorem pt_nat {n m : Nat} (h0 : 0 < m) (h : n ≤ m) (hm : m ≤ 1073741824) : ptV n m = (partV n m : Nat) ∧ ptE n m = 0 := by
  have := pt_ok (n := (n : Int)) (m := (m : Int)) (by omega) (by omega)
  refine ⟨?_, this.2⟩
  rw [this.1]; unfold partV; rw [Int.natCast_ediv, Int.natCast_mul]; rfl
theorem pret2 {k l : IntKind} {a b c d : Int} (h : a = c) (h' : b = d) : Ending.returned (.tuple #[.int k a, .int l b]) = .returned (.tuple #[.int k c, .int l d]) := by rw [h, h']
theorem quo_nat (n m : Nat) (h : 0 < m) : ((n : Int) * 4294967296).tdiv m = (n : Int) * 4294967296 / m := by
  rw [show (n : Int) * 4294967296 = ((n * 4294967296 : Nat) : Int) by rw [Int.natCast_mul]; rfl]; rfl
set_option maxHeartbeats 400000 in
theorem part_any (n m : Int) (w : World) : Calls Try.prog 21 #[.int .i64 n, .int .i64 m] w fun e w' => e = .returned (.tuple #[.int .u64 (ptV n m), .int .i64 (ptE n m)]) ∧ w = w' := by
  by_cases h0 : m = 0
  · have E := Lib.hid (pt_zero n h0)
    subst h0
    go_enter Try.func21, Try.ntmps21
    go_wp2_with fail
    go_ret2
    exact ⟨pret2 E.out.1.symm E.out.2.symm, rfl⟩
  have q0 : (m == 0) = false := by rw [beq_eq_false_iff_ne]; exact h0
  by_cases h1 : n < 0
  · have E := Lib.hid (pt_bad (n := n) h0 (.inl h1))
    clear h0
    go_enter Try.func21, Try.ntmps21
    go_wp2_with fail
    go_ret2
    exact ⟨pret2 E.out.1.symm E.out.2.symm, rfl⟩
  by_cases h2 : m < n
  · have E := Lib.hid (pt_bad (n := n) h0 (.inr (.inl h2)))
    clear h0
    go_enter Try.func21, Try.ntmps21
    go_wp2_with fail
    go_ret2
    exact ⟨pret2 E.out.1.symm E.out.2.symm, rfl⟩
  by_cases h3 : 1073741824 < m
  · have E := Lib.hid (pt_bad (n := n) h0 (.inr (.inr h3)))
    clear h0
    go_enter Try.func21, Try.ntmps21
    go_wp2_with fail
    go_ret2
    exact ⟨pret2 E.out.1.symm E.out.2.symm, rfl⟩
  have E := Lib.hid (pt_ok (n := n) h0 (by omega))
  go_enter Try.func21, Try.ntmps21
  go_wp2_with fail
  go_ret2
  exact ⟨pret2 E.out.1.symm E.out.2.symm, rfl⟩
set_option maxHeartbeats 400000 in
theorem rpart_any (n m : Int) (w : World) : Calls Try.prog 22 #[.int .i64 n, .int .i64 m] w fun e w' => e = .returned (.tuple #[.int .u64 (ptV n m), .int .i64 (ptE n m)]) ∧ w = w' := by
  by_cases h0 : m = 0
  · have E := Lib.hid (pt_zero n h0)
    subst h0
    go_enter Try.func22, Try.ntmps22
    go_wp2_with fail
    go_ret2
    exact ⟨pret2 E.out.1.symm E.out.2.symm, rfl⟩
  have q0 : (m == 0) = false := by rw [beq_eq_false_iff_ne]; exact h0
  by_cases h1 : n < 0
  · have E := Lib.hid (pt_bad (n := n) h0 (.inl h1))
    clear h0
    go_enter Try.func22, Try.ntmps22
    go_wp2_with fail
    go_ret2
    exact ⟨pret2 E.out.1.symm E.out.2.symm, rfl⟩
  by_cases h2 : m < n
  · have E := Lib.hid (pt_bad (n := n) h0 (.inr (.inl h2)))
    clear h0
    go_enter Try.func22, Try.ntmps22
    go_wp2_with fail
    go_ret2
    exact ⟨pret2 E.out.1.symm E.out.2.symm, rfl⟩
  by_cases h3 : 1073741824 < m
  · have E := Lib.hid (pt_bad (n := n) h0 (.inr (.inr h3)))
    clear h0
    go_enter Try.func22, Try.ntmps22
    go_wp2_with fail
    go_ret2
    exact ⟨pret2 E.out.1.symm E.out.2.symm, rfl⟩
  have E := Lib.hid (pt_ok (n := n) h0 (by omega))
  go_enter Try.func22, Try.ntmps22
  go_wp2_with fail
  go_ret2
  exact ⟨pret2 E.out.1.symm E.out.2.symm, rfl⟩
end Go.Proofs.Ytjokekohmncmkad
