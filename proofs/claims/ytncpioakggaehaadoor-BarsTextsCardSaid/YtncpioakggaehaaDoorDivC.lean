/- Contracts of nums.MulDiv and of the document's: a product over a number, rounded down. -/
import Derived.Test.YtncpioakggaehaaDoorRows
import Derived.Test.YtncpioakggaehaaDoorDivMath
import Derived.Test.YtncpioakggaehaaDoorDivA
import Derived.Test.YtncpioakggaehaaDoorDivB
import Derived.Test.YtncpioakggaehaaDoorNumsMath
import Derived.Test.YtncpioakggaehaaDoorNumsA
import Derived.Test.YtncpioakggaehaaDoorNumsB
import Derived.Test.YtncpioakggaehaaDoorShelf
import Derived.WalkKit
import Derived.Lib.Hide
import Derived.WalkSpells
import Derived.WalkLawsBesides
import Derived.Deep.QuietTactic
import Derived.BigQuiet
namespace Go.Proofs.YtncpioakggaehaaDoor
open Go.RowKit
set_option linter.unusedSimpArgs false
set_option linter.unusedVariables false
/-- what is answered: the number, and the error -/
def mdV (a b c : Int) : Int := if a < 0 ∨ b < 0 ∨ c < 0 ∨ c = 0 then 0 else fitN (a * b / c)
def mdE (a b c : Int) : Int := if a < 0 ∨ b < 0 ∨ c < 0 then 22 else if c = 0 then 11 else fitE (a * b / c)
theorem md_neg {a b c : Int} (h : a < 0 ∨ b < 0 ∨ c < 0) : mdV a b c = 0 ∧ mdE a b c = 22 := by
  unfold mdV mdE
  rw [if_pos (by omega), if_pos h]; exact ⟨rfl, rfl⟩
theorem md_zero {a b : Int} (h : 0 ≤ a) (h' : 0 ≤ b) : mdV a b 0 = 0 ∧ mdE a b 0 = 11 := by
  unfold mdV mdE
  rw [if_pos (by omega), if_neg (by omega), if_pos rfl]; exact ⟨rfl, rfl⟩
theorem md_nat (a b c : Nat) (h : 0 < c) : mdV a b c = fitN ((a * b / c : Nat) : Int) ∧ mdE a b c = fitE ((a * b / c : Nat) : Int) := by
  unfold mdV mdE
  rw [if_neg (by omega), if_neg (by omega), if_neg (by omega), Int.natCast_ediv, Int.natCast_mul]; exact ⟨rfl, rfl⟩
theorem q_join (p c : Nat) : (p / 18446744073709551616 * 18446744073709551616 + p % 18446744073709551616) / c = p / c := by
  rw [Nat.mul_comm, Nat.div_add_mod]
theorem q_big {p c : Nat} (hc : 0 < c) (h : c ≤ p / 18446744073709551616) : 18446744073709551616 ≤ p / c := by
  rw [Nat.le_div_iff_mul_le (by decide)] at h
  rw [Nat.le_div_iff_mul_le hc, Nat.mul_comm]; exact h
theorem q_small {p c : Nat} (hc : 0 < c) (h : p / 18446744073709551616 < c) : p / c < 18446744073709551616 := by
  rw [Nat.div_lt_iff_lt_mul (by decide)] at h
  rw [Nat.div_lt_iff_lt_mul hc, Nat.mul_comm]; exact h
theorem ret_two {k l : IntKind} {a b c d : Int} (h : a = c ∧ b = d) : Ending.returned (.tuple #[.int k c, .int l d]) = .returned (.tuple #[.int k a, .int l b]) := by rw [h.1, h.2]
set_option maxHeartbeats 400000 in
theorem muldiv_any (a b c : Int) (w : World) (ha : -9223372036854775808 ≤ a) (ha' : a ≤ 9223372036854775807) (hb : -9223372036854775808 ≤ b) (hb' : b ≤ 9223372036854775807) (hc : -9223372036854775808 ≤ c) (hc' : c ≤ 9223372036854775807) :
    Calls Tryd.prog 35 #[.int .i64 a, .int .i64 b, .int .i64 c] w fun e w' => e = .returned (.tuple #[.int .i64 (mdV a b c), .int .i64 (mdE a b c)]) ∧ ∃ k, w' = w.drewN k := by
  by_cases n1 : a < 0
  · go_enter Tryd.func35, Tryd.ntmps35
    go_wp2_with fail
    go_ret2
    exact ⟨ret_two (md_neg (.inl n1)), 0, rfl⟩
  by_cases n2 : b < 0
  · go_enter Tryd.func35, Tryd.ntmps35
    go_wp2_with fail
    go_ret2
    exact ⟨ret_two (md_neg (.inr (.inl n2))), 0, rfl⟩
  by_cases n3 : c < 0
  · go_enter Tryd.func35, Tryd.ntmps35
    go_wp2_with fail
    go_ret2
    exact ⟨ret_two (md_neg (.inr (.inr n3))), 0, rfl⟩
  by_cases n4 : c = 0
  · subst n4
    go_enter Tryd.func35, Tryd.ntmps35
    go_wp2_with fail
    go_ret2
    exact ⟨ret_two (md_zero (by omega) (by omega)), 0, rfl⟩
  obtain ⟨A, rfl⟩ := Int.eq_ofNat_of_zero_le (show 0 ≤ a by omega)
  obtain ⟨B, rfl⟩ := Int.eq_ofNat_of_zero_le (show 0 ≤ b by omega)
  obtain ⟨C, rfl⟩ := Int.eq_ofNat_of_zero_le (show 0 ≤ c by omega)
  have hA : A < 18446744073709551616 := by omega
  have hB : B < 18446744073709551616 := by omega
  have hC : C < 18446744073709551616 := by omega
  have hC0 : 0 < C := by omega
  have m5 : ¬ (C : Int) = 0 := n4
  clear ha hb hc
  have M := md_nat A B C hC0
  have HL := Nat.mod_lt (A * B) (show 0 < 18446744073709551616 by decide)
  have QB := q_big (p := A * B) hC0
  have QS := q_small (p := A * B) hC0
  by_cases hh : C ≤ A * B / 18446744073709551616
  · have hh' : ((A * B / 18446744073709551616 : Nat) : Int) ≥ (C : Int) := Int.ofNat_le.mpr hh
    have QB' := QB hh
    generalize A * B / C = q at M QB'
    have N := fit_no (n := (q : Int)) (.inr (by omega))
    rw [N.1, N.2] at M
    have HM := Lib.hid M
    clear hh QB QS M N QB'
    go_enter Tryd.func35, Tryd.ntmps35
    go_wp2_with (go_at_call 50; refine (Tryd.bits_Mul64 _ _ hA hB _).mono ?_; rintro e w' ⟨rfl, hw⟩; rw [hw]; clear hw)
    go_ret2
    exact ⟨ret_two HM.out, 0, rfl⟩
  · have hh1 : A * B / 18446744073709551616 < C := by omega
    have hh' : ¬ ((A * B / 18446744073709551616 : Nat) : Int) ≥ (C : Int) := fun x => hh (Int.ofNat_le.mp x)
    have QS' := QS hh1
    have DV := div64_any (A * B / 18446744073709551616) (A * B % 18446744073709551616) C w hh1 HL hC
    rw [q_join] at DV
    generalize A * B / C = q at M QS' DV
    have hq0 : (0 : Int) ≤ q := by omega
    have hq1 : (q : Int) ≤ 18446744073709551615 := by omega
    have SG := signed_any (q : Int) false
    have HM := Lib.hid M
    have HD := Lib.hid DV
    have HS := Lib.hid (fun w => SG w hq0 hq1)
    clear hh QB QS M DV QS' SG
    go_enter Tryd.func35, Tryd.ntmps35
    go_wp2_with (first
      | (go_at_call 50; refine (Tryd.bits_Mul64 _ _ hA hB _).mono ?_; rintro e w' ⟨rfl, hw⟩; rw [hw]; clear hw)
      | (go_at_call 51; refine (HD.out).mono ?_; rintro e w' ⟨⟨r, rfl⟩, k, rfl⟩)
      | (go_at_call 52; refine (HS.out _).mono ?_; rintro e w' ⟨rfl, rfl⟩))
    go_ret2
    exact ⟨ret_two HM.out, k, rfl⟩
end Go.Proofs.YtncpioakggaehaaDoor
