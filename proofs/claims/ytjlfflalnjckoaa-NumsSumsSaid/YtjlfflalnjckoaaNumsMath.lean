/- Numbers that fit 64 bits: what a sum answers, as a number and an error; small facts for the ends of the walks. -/
import Derived.WalkKit
namespace Go.Proofs.Ytjlfflalnjckoaa
open Go.RowKit

/-- does a number fit 64 bits with a sign? -/
def fitB (n : Int) : Bool := decide (-9223372036854775808 ≤ n ∧ n ≤ 9223372036854775807)
/-- the number that is answered -/
def fitN (n : Int) : Int := if fitB n then n else 0
/-- the error that is answered: ErrRange or none -/
def fitE (n : Int) : Int := if fitB n then 0 else 10

theorem fitB_yes {n : Int} (h : -9223372036854775808 ≤ n ∧ n ≤ 9223372036854775807) : fitB n = true := by simp [fitB, h]
theorem fitB_no {n : Int} (h : n < -9223372036854775808 ∨ 9223372036854775807 < n) : fitB n = false := by simp only [fitB, decide_eq_false_iff_not]; omega
theorem fitB_iff {n : Int} : fitB n = true ↔ (-9223372036854775808 ≤ n ∧ n ≤ 9223372036854775807) := by simp [fitB]
theorem fit_yes {n : Int} (h : -9223372036854775808 ≤ n ∧ n ≤ 9223372036854775807) : fitN n = n ∧ fitE n = 0 := by simp [fitN, fitE, fitB_yes h]
theorem fit_no {n : Int} (h : n < -9223372036854775808 ∨ 9223372036854775807 < n) : fitN n = 0 ∧ fitE n = 10 := by simp [fitN, fitE, fitB_no h]
theorem fitN_wf (n : Int) : -9223372036854775808 ≤ fitN n ∧ fitN n ≤ 9223372036854775807 := by
  unfold fitN; split
  · rename_i h; exact fitB_iff.1 h
  · omega

theorem ret1 {k : IntKind} {a b : Int} (h : a = b) : Ending.returned (.int k a) = .returned (.int k b) := by rw [h]
theorem retB {a b : Bool} (h : a = b) : Ending.returned (.bool a) = .returned (.bool b) := by rw [h]
theorem ret2 {k l : IntKind} {a b c d : Int} (h : a = c) (h' : b = d) : Ending.returned (.tuple #[.int k a, .int l b]) = .returned (.tuple #[.int k c, .int l d]) := by rw [h, h']
theorem ret2b {k : IntKind} {a c : Int} {b d : Bool} (h : a = c) (h' : b = d) : Ending.returned (.tuple #[.int k a, .bool b]) = .returned (.tuple #[.int k c, .bool d]) := by rw [h, h']
end Go.Proofs.Ytjlfflalnjckoaa
