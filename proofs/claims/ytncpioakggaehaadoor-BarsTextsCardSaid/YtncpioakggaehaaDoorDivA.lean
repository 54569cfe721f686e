/- Contract of the document's long division, bit by bit (Over). -/
import Derived.Test.YtncpioakggaehaaDoorRows
import Derived.Test.YtncpioakggaehaaDoorDivMath
import Derived.WalkKit
import Derived.Lib.Hide
import Derived.WalkSpells
import Derived.WalkLawsBesides
import Derived.Deep.QuietTactic
import Derived.BigQuiet
namespace Go.Proofs.YtncpioakggaehaaDoor
open Go.RowKit
set_option linter.unusedSimpArgs false
set_option linter.unusedVariables false
theorem dret2 {k l : IntKind} {a b c d : Int} (h : a = b) (h' : c = d) : Ending.returned (.tuple #[.int k a, .int l c]) = .returned (.tuple #[.int k b, .int l d]) := by rw [h, h']
theorem over_v {R k lo : Nat} (hR : R < 9223372036854775807) : IntKind.u64.wrap (2 * (R : Int) + ((lo : Int) / 2 ^ (63 - k)).tmod 2) = ((2 * R + lo / 2 ^ (63 - k) % 2 : Nat) : Int) := by
  have e : ((lo : Int) / 2 ^ (63 - k)).tmod 2 = ((lo / 2 ^ (63 - k) % 2 : Nat) : Int) := by
    rw [show ((2 : Int) ^ (63 - k)) = ((2 ^ (63 - k) : Nat) : Int) by rw [Int.natCast_pow]; rfl, ← Int.natCast_ediv]
    rfl
  rw [e, IntKind.wrap_u64]
  have := Nat.mod_lt (lo / 2 ^ (63 - k)) (show 0 < 2 by decide)
  omega
theorem over_q {hi lo c k : Nat} (hc : hi < c) (hl : lo < 18446744073709551616) (hk : k < 64) : pre hi lo k / c < 9223372036854775808 := by
  have hb : lo / 2 ^ (64 - k) < 2 ^ k := by
    rw [Nat.div_lt_iff_lt_mul (Nat.two_pow_pos _), ← Nat.pow_add, show k + (64 - k) = 64 by omega]; omega
  have h1 : pre hi lo k < c * 2 ^ k := by
    unfold pre
    have : (hi + 1) * 2 ^ k ≤ c * 2 ^ k := Nat.mul_le_mul_right _ hc
    rw [Nat.add_mul, Nat.one_mul] at this
    omega
  have h2 : pre hi lo k / c < 2 ^ k := by
    rw [Nat.div_lt_iff_lt_mul (by omega), Nat.mul_comm]; exact h1
  have h3 : 2 ^ k ≤ 2 ^ 63 := Nat.pow_le_pow_right (by decide) (by omega)
  omega
theorem over_up {hi lo c k Q R : Nat} (hc : hi < c) (hl : lo < 18446744073709551616) (h2 : c ≤ 9223372036854775807) (hk : k < 64) (H : Q = pre hi lo k / c ∧ R = pre hi lo k % c) :
    (c ≤ 2 * R + lo / 2 ^ (63 - k) % 2 → (2 * Q + 1 = pre hi lo (k + 1) / c ∧ 2 * R + lo / 2 ^ (63 - k) % 2 - c = pre hi lo (k + 1) % c)) ∧
    (2 * R + lo / 2 ^ (63 - k) % 2 < c → (2 * Q = pre hi lo (k + 1) / c ∧ 2 * R + lo / 2 ^ (63 - k) % 2 = pre hi lo (k + 1) % c)) := by
  obtain ⟨rfl, rfl⟩ := H
  have B := bit_step (m := pre hi lo k) (c := c) (b := lo / 2 ^ (63 - k) % 2) (by omega) (Nat.mod_lt _ (by decide))
  rw [← pre_succ hi lo k hk] at B
  constructor
  · intro h; rw [if_pos h, if_pos h] at B; exact B
  · intro h; rw [if_neg (by omega), if_neg (by omega)] at B; exact B
theorem u64_two {Q : Nat} (h : Q < 9223372036854775808) : IntKind.u64.wrap (2 * (Q : Int)) = ((2 * Q : Nat) : Int) := by rw [IntKind.wrap_u64]; omega
theorem u64_two1 {Q : Nat} (h : Q < 9223372036854775808) : IntKind.u64.wrap (IntKind.u64.wrap (2 * (Q : Int)) + 1) = ((2 * Q + 1 : Nat) : Int) := by rw [IntKind.wrap_u64, IntKind.wrap_u64]; omega
theorem u64_less {v c : Nat} (h : c ≤ v) (h1 : v < 18446744073709551616) : IntKind.u64.wrap ((v : Int) - c) = ((v - c : Nat) : Int) := by rw [IntKind.wrap_u64]; omega
theorem int_is {k : IntKind} {a b : Int} (h : a = b) : Value.int k a = Value.int k b := by rw [h]
end Go.Proofs.YtncpioakggaehaaDoor
