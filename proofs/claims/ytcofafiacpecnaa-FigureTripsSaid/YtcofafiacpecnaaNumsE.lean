/- Contracts of nums.Gcd and the document's: the greatest number that divides both. -/
import Derived.Test.YtcofafiacpecnaaRows
import Derived.Test.YtcofafiacpecnaaNumsMath
import Derived.Test.YtcofafiacpecnaaNumsA
import Derived.Test.YtcofafiacpecnaaNumsB
import Derived.WalkKit
import Derived.Lib.Hide
import Derived.WalkSpells
import Derived.WalkLawsBesides
import Derived.Deep.QuietTactic
import Derived.BigQuiet
namespace Go.Proofs.Ytcofafiacpecnaa
open Go.RowKit
set_option linter.unusedSimpArgs false
set_option linter.unusedVariables false

theorem gcd_half_left (m n : Nat) (hn : ¬ n % 2 = 0) : Nat.gcd (2 * m) n = Nat.gcd m n := by
  apply Nat.Coprime.gcd_mul_left_cancel
  show Nat.gcd 2 n = 1
  rw [Nat.gcd_rec, show n % 2 = 1 by omega]
  rfl
/-- what the second loop keeps -/
def Odd1 (g m n : Nat) : Prop := Nat.gcd m n = g ∧ 0 < m ∧ 0 < n ∧ ¬ (m % 2 = 0 ∧ n % 2 = 0)
theorem odd1_left {g m n : Nat} (h : Odd1 g m n) (h2 : m % 2 = 0) : Odd1 g (m / 2) n := by
  obtain ⟨e, hm, hn, ho⟩ := h
  have hn2 : ¬ n % 2 = 0 := fun x => ho ⟨h2, x⟩
  refine ⟨?_, by omega, hn, by omega⟩
  rw [← e, show m = 2 * (m / 2) by omega, gcd_half_left _ _ hn2]
  congr 1; omega
theorem odd1_right {g m n : Nat} (h : Odd1 g m n) (h2 : n % 2 = 0) : Odd1 g m (n / 2) := by
  obtain ⟨e, hm, hn, ho⟩ := h
  have := odd1_left (g := g) (m := n) (n := m) ⟨by rw [Nat.gcd_comm]; exact e, hn, hm, by omega⟩ h2
  exact ⟨by rw [Nat.gcd_comm]; exact this.1, hm, this.2.1, by have := this.2.2.2; omega⟩
theorem odd1_sub {g m n : Nat} (h : Odd1 g m n) (h1 : ¬ m % 2 = 0) (h2 : ¬ n % 2 = 0) (hl : n < m) : Odd1 g ((m - n) / 2) n := by
  obtain ⟨e, hm, hn, ho⟩ := h
  refine ⟨?_, by omega, hn, by omega⟩
  rw [← gcd_half_left _ _ h2, show 2 * ((m - n) / 2) = m - n by omega, Nat.gcd_sub_self_left (by omega)]
  exact e
theorem odd1_sub' {g m n : Nat} (h : Odd1 g m n) (h1 : ¬ m % 2 = 0) (h2 : ¬ n % 2 = 0) (hl : m < n) : Odd1 g m ((n - m) / 2) := by
  obtain ⟨e, hm, hn, ho⟩ := h
  have := odd1_sub (g := g) (m := n) (n := m) ⟨by rw [Nat.gcd_comm]; exact e, hn, hm, by omega⟩ h2 h1 hl
  exact ⟨by rw [Nat.gcd_comm]; exact this.1, hm, this.2.1, by omega⟩
end Go.Proofs.Ytcofafiacpecnaa
