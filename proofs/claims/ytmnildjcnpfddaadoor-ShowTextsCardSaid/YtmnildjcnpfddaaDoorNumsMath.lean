/- Numbers that fit 64 bits: what a sum answers, as a number and an error; small facts for the ends of the walks. -/
import Derived.WalkKit
import Derived.Lib.Mul64
namespace Go.Proofs.YtmnildjcnpfddaaDoor
open Go.RowKit
set_option linter.unusedVariables false

/-- does a number fit 64 bits with a sign? -/
def fitB (n : Int) : Bool := decide (-9223372036854775808 ≤ n ∧ n ≤ 9223372036854775807)
/-- the number that is answered -/
def fitN (n : Int) : Int := if fitB n then n else 0
/-- the error that is answered: ErrRange or none -/
def fitE (n : Int) : Int := if fitB n then 0 else 10

theorem fitB_yes {n : Int} (h : -9223372036854775808 ≤ n ∧ n ≤ 9223372036854775807) : fitB n = true := by simp [fitB, h]
theorem fitB_no {n : Int} (h : n < -9223372036854775808 ∨ 9223372036854775807 < n) : fitB n = false := by simp only [fitB, decide_eq_false_iff_not]; omega
theorem fitB_iff {n : Int} : fitB n = true ↔ (-9223372036854775808 ≤ n ∧ n ≤ 9223372036854775807) := by simp [fitB]
theorem fit_yes {n : Int} (h : -9223372036854775808 ≤ n ∧ n ≤ 9223372036854775807) : fitN n = n ∧ fitE n = 0 := by simp [fitN, fitE, fitB_yes h]
theorem fit_no {n : Int} (h : n < -9223372036854775808 ∨ 9223372036854775807 < n) : fitN n = 0 ∧ fitE n = 10 := by simp [fitN, fitE, fitB_no h]
theorem fitN_wf (n : Int) : -9223372036854775808 ≤ fitN n ∧ fitN n ≤ 9223372036854775807 := by
  unfold fitN; split
  · rename_i h; exact fitB_iff.1 h
  · omega

theorem ret1 {k : IntKind} {a b : Int} (h : a = b) : Ending.returned (.int k a) = .returned (.int k b) := by rw [h]
theorem retB {a b : Bool} (h : a = b) : Ending.returned (.bool a) = .returned (.bool b) := by rw [h]
theorem ret2 {k l : IntKind} {a b c d : Int} (h : a = c) (h' : b = d) : Ending.returned (.tuple #[.int k a, .int l b]) = .returned (.tuple #[.int k c, .int l d]) := by rw [h, h']
theorem ret2b {k : IntKind} {a c : Int} {b d : Bool} (h : a = c) (h' : b = d) : Ending.returned (.tuple #[.int k a, .bool b]) = .returned (.tuple #[.int k c, .bool d]) := by rw [h, h']

theorem ret_fit {k l : IntKind} {x y n : Int} (h : (-9223372036854775808 ≤ n ∧ n ≤ 9223372036854775807 ∧ x = n ∧ y = 0) ∨ ((n < -9223372036854775808 ∨ 9223372036854775807 < n) ∧ x = 0 ∧ y = 10)) :
    Ending.returned (.tuple #[.int k x, .int l y]) = .returned (.tuple #[.int k (fitN n), .int l (fitE n)]) := by
  rcases h with ⟨h1, h2, rfl, rfl⟩ | ⟨h, rfl, rfl⟩
  · rw [(fit_yes ⟨h1, h2⟩).1, (fit_yes ⟨h1, h2⟩).2]
  · rw [(fit_no h).1, (fit_no h).2]
theorem ret_fitB {k : IntKind} {x n : Int} {y : Bool} (h : (-9223372036854775808 ≤ n ∧ n ≤ 9223372036854775807 ∧ x = n ∧ y = true) ∨ ((n < -9223372036854775808 ∨ 9223372036854775807 < n) ∧ x = 0 ∧ y = false)) :
    Ending.returned (.tuple #[.int k x, .bool y]) = .returned (.tuple #[.int k (fitN n), .bool (fitB n)]) := by
  rcases h with ⟨h1, h2, rfl, rfl⟩ | ⟨h, rfl, rfl⟩
  · rw [(fit_yes ⟨h1, h2⟩).1, fitB_yes ⟨h1, h2⟩]
  · rw [(fit_no h).1, fitB_no h]

theorem ret_eqB {m n : Int} (h : m = n) : Ending.returned (.tuple #[.int .i64 (fitN m), .bool (fitB m)]) = .returned (.tuple #[.int .i64 (fitN n), .bool (fitB n)]) := by rw [h]
theorem ret_fit1 {m n : Int} (h : m = n) (h1 : -9223372036854775808 ≤ n ∧ n ≤ 9223372036854775807) : Ending.returned (.int .i64 (fitN m)) = .returned (.int .i64 n) := by rw [h, (fit_yes h1).1]

/-- a size, with a sign -/
def sgI (b : Bool) (s : Int) : Int := if b then -s else s
theorem mul_sg (a b : Int) : sgI (!(decide (a < 0) == decide (b < 0))) ((a.natAbs * b.natAbs : Nat) : Int) = a * b := by
  rw [Int.natCast_mul]
  by_cases ha : a < 0 <;> by_cases hb : b < 0
  · rw [show (a.natAbs : Int) = -a from by omega, show (b.natAbs : Int) = -b from by omega, Int.neg_mul_neg]
    simp [sgI, ha, hb]
  · rw [show (a.natAbs : Int) = -a from by omega, show (b.natAbs : Int) = b from by omega, Int.neg_mul]
    simp [sgI, ha, hb]
  · rw [show (a.natAbs : Int) = a from by omega, show (b.natAbs : Int) = -b from by omega, Int.mul_neg]
    simp [sgI, ha, hb]
  · rw [show (a.natAbs : Int) = a from by omega, show (b.natAbs : Int) = b from by omega]
    simp [sgI, ha, hb]
theorem mul_ge (a b : Int) : 0 ≤ (a.natAbs : Int) * (b.natAbs : Int) := by rw [← Int.natCast_mul]; omega
theorem mul_out {a b : Int} (h : 0 < (a.natAbs : Int) * (b.natAbs : Int) / 18446744073709551616) : (a * b < -9223372036854775808 ∨ 9223372036854775807 < a * b) := by
  have e := mul_sg a b
  rw [Int.natCast_mul] at e
  rw [← e]
  generalize (a.natAbs : Int) * (b.natAbs : Int) = m at *
  cases (!(decide (a < 0) == decide (b < 0))) <;> simp [sgI] <;> omega
theorem mul_in {a b : Int} (h : (a.natAbs : Int) * (b.natAbs : Int) / 18446744073709551616 ≤ 0) : sgI (!(decide (a < 0) == decide (b < 0))) ((a.natAbs : Int) * (b.natAbs : Int) % 18446744073709551616) = a * b := by
  have e := mul_sg a b
  have g := mul_ge a b
  rw [Int.natCast_mul] at e
  rw [← e]
  generalize (a.natAbs : Int) * (b.natAbs : Int) = m at *
  rw [show m % 18446744073709551616 = m by omega]
theorem sg_big (b : Bool) (s : Int) (h : 18446744073709551616 ≤ s) : fitN (sgI b s) = 0 ∧ fitE (sgI b s) = 10 ∧ fitB (sgI b s) = false := by
  have : sgI b s < -9223372036854775808 ∨ 9223372036854775807 < sgI b s := by cases b <;> simp [sgI] <;> omega
  exact ⟨(fit_no this).1, (fit_no this).2, fitB_no this⟩
theorem half_bd {a b : Int} (ha : 0 ≤ a) (ha' : a ≤ 4294967295) (hb : 0 ≤ b) (hb' : b ≤ 4294967295) : 0 ≤ a * b ∧ a * b ≤ 18446744065119617025 :=
  ⟨Int.mul_nonneg ha hb, Int.le_trans (Int.mul_le_mul_of_nonneg_right ha' hb) (by omega)⟩
theorem prod_split (x y : Int) : x * y = x / 4294967296 * (y / 4294967296) * 18446744073709551616 + (x / 4294967296 * (y % 4294967296) + x % 4294967296 * (y / 4294967296)) * 4294967296 + x % 4294967296 * (y % 4294967296) := by
  have hx : x = x / 4294967296 * 4294967296 + x % 4294967296 := by omega
  have hy : y = y / 4294967296 * 4294967296 + y % 4294967296 := by omega
  generalize x / 4294967296 = a at *
  generalize x % 4294967296 = b at *
  generalize y / 4294967296 = c at *
  generalize y % 4294967296 = d at *
  subst hx hy
  have h1 : a * 4294967296 * (c * 4294967296) = a * c * 18446744073709551616 := by
    rw [Int.mul_assoc a, Int.mul_left_comm 4294967296 c, ← Int.mul_assoc a c]; rfl
  rw [Int.add_mul, Int.mul_add, Int.mul_add, h1, Int.mul_right_comm a 4294967296 d, ← Int.mul_assoc b c 4294967296]
  omega

/-- q is a over b, rounded down, and r what is left -/
def IsDiv (a b q r : Int) : Prop := a = b * q + r ∧ ((0 ≤ r ∧ r < b) ∨ (b < r ∧ r ≤ 0))
theorem isDiv_ex (a b : Int) (hb : b ≠ 0) : IsDiv a b (a.fdiv b) (a.fmod b) := by
  refine ⟨(Int.mul_fdiv_add_fmod a b).symm, ?_⟩
  by_cases h : 0 < b
  · exact .inl ⟨Int.fmod_nonneg_of_pos a h, Int.fmod_lt_of_pos a h⟩
  · right
    have e := Int.neg_fmod_neg (-a) (-b)
    simp only [Int.neg_neg] at e
    have h1 := Int.fmod_nonneg_of_pos (-a) (b := -b) (by omega)
    have h2 := Int.fmod_lt_of_pos (-a) (b := -b) (by omega)
    omega
theorem mul_sub_one (b k : Int) : b * k = b * (k - 1) + b := by rw [Int.mul_sub, Int.mul_one]; omega
/-- a multiple of b that is nearer to 0 than 2 b: 0, b or -b -/
theorem near_mul {b k : Int} : (1 ≤ k → (0 < b → b ≤ b * k) ∧ (b < 0 → b * k ≤ b)) ∧ (k ≤ -1 → (0 < b → b * k ≤ -b) ∧ (b < 0 → -b ≤ b * k)) ∧
    (k ≤ -2 → (0 < b → b * k ≤ -2 * b) ∧ (b < 0 → -2 * b ≤ b * k)) := by
  refine ⟨fun h => ⟨fun p => ?_, fun p => ?_⟩, fun h => ⟨fun p => ?_, fun p => ?_⟩, fun h => ⟨fun p => ?_, fun p => ?_⟩⟩
  · have := Int.mul_le_mul_of_nonneg_left h (c := b) (by omega); omega
  · have := Int.mul_le_mul_of_nonneg_left h (c := -b) (by omega); simp only [Int.neg_mul] at this; omega
  · have := Int.mul_le_mul_of_nonneg_left h (c := b) (by omega); omega
  · have := Int.mul_le_mul_of_nonneg_left h (c := -b) (by omega); simp only [Int.neg_mul] at this; omega
  · have := Int.mul_le_mul_of_nonneg_left h (c := b) (by omega); omega
  · have := Int.mul_le_mul_of_nonneg_left h (c := -b) (by omega); simp only [Int.neg_mul] at this; omega
theorem isDiv_uniq {a b q r q' r' : Int} (h : IsDiv a b q r) (h' : IsDiv a b q' r') : q = q' ∧ r = r' := by
  obtain ⟨e, s⟩ := h
  obtain ⟨e', s'⟩ := h'
  have hb : b ≠ 0 := by omega
  have hk : b * (q - q') = r' - r := by rw [Int.mul_sub]; omega
  have n := near_mul (b := b) (k := q - q')
  have hq : q - q' = 0 := by
    by_cases h1 : 1 ≤ q - q'
    · have := n.1 h1; omega
    · by_cases h2 : q - q' ≤ -1
      · have := n.2.1 h2; omega
      · omega
  have : q = q' := by omega
  subst this
  exact ⟨rfl, by omega⟩
theorem tmod_sg {a b : Int} (hb : b ≠ 0) : (0 ≤ a → 0 ≤ a.tmod b) ∧ (a ≤ 0 → a.tmod b ≤ 0) ∧ a.tmod b < (b.natAbs : Int) ∧ -(b.natAbs : Int) < a.tmod b := by
  refine ⟨fun h => Int.tmod_nonneg b h, fun h => ?_, ?_, ?_⟩
  · have := Int.tmod_nonneg b (a := -a) (by omega)
    rw [Int.neg_tmod] at this; omega
  · have := Int.tmod_lt_of_pos a (b := (b.natAbs : Int)) (by omega)
    by_cases hs : 0 < b
    · rwa [show (b.natAbs : Int) = b by omega] at this ⊢
    · rw [show (b.natAbs : Int) = -b by omega] at this ⊢; rw [Int.tmod_neg] at this; exact this
  · have := Int.tmod_lt_of_pos (-a) (b := (b.natAbs : Int)) (by omega)
    rw [Int.neg_tmod] at this
    by_cases hs : 0 < b
    · rw [show (b.natAbs : Int) = b by omega] at this ⊢; omega
    · rw [show (b.natAbs : Int) = -b by omega] at this ⊢; rw [Int.tmod_neg] at this; omega
theorem tdiv_facts {a b q r : Int} (h : IsDiv a b q r) :
    (a.tmod b = 0 → q = a.tdiv b ∧ r = 0) ∧ (a.tmod b < 0 → b < 0 → q = a.tdiv b ∧ r = a.tmod b) ∧ (0 < a.tmod b → 0 < b → q = a.tdiv b ∧ r = a.tmod b) ∧
    (a.tmod b < 0 → 0 < b → q = a.tdiv b - 1 ∧ r = a.tmod b + b) ∧ (0 < a.tmod b → b < 0 → q = a.tdiv b - 1 ∧ r = a.tmod b + b) := by
  have hb : b ≠ 0 := by obtain ⟨_, h⟩ := h; omega
  have e := Int.mul_tdiv_add_tmod a b
  obtain ⟨_, _, l1, l2⟩ := tmod_sg (a := a) hb
  have e1 : a = b * (a.tdiv b - 1) + (a.tmod b + b) := by rw [Int.mul_sub, Int.mul_one]; omega
  refine ⟨fun h0 => ?_, fun h0 h1 => ?_, fun h0 h1 => ?_, fun h0 h1 => ?_, fun h0 h1 => ?_⟩
  · have := isDiv_uniq h (q' := a.tdiv b) (r' := a.tmod b) ⟨e.symm, by omega⟩; omega
  · exact isDiv_uniq h ⟨e.symm, by omega⟩
  · exact isDiv_uniq h ⟨e.symm, by omega⟩
  · exact isDiv_uniq h ⟨e1, by omega⟩
  · exact isDiv_uniq h ⟨e1, by omega⟩
theorem tdiv_bd {a b : Int} (hb : b ≠ 0) (ha : -9223372036854775808 ≤ a) (ha' : a ≤ 9223372036854775807) (hx : a ≠ -9223372036854775808 ∨ b ≠ -1) :
    -9223372036854775808 ≤ a.tdiv b ∧ a.tdiv b ≤ 9223372036854775807 ∧ (a.tmod b ≠ 0 → -4611686018427387904 ≤ a.tdiv b ∧ a.tdiv b ≤ 4611686018427387904) := by
  have e := Int.natAbs_tdiv a b
  by_cases h1 : b = 1
  · subst h1; simp; omega
  · by_cases h2 : b = -1
    · subst h2; rw [Int.tdiv_neg, Int.tdiv_one, Int.tmod_neg, Int.tmod_one]; omega
    · have := Nat.div_le_div_left (a := a.natAbs) (b := b.natAbs) (c := 2) (by omega) (by omega)
      have h3 : (a.tdiv b).natAbs = a.natAbs / b.natAbs := e
      omega
theorem tdiv_zero {a b q r : Int} (h : IsDiv a b q r) (h0 : a.tmod b = 0) : q = a.tdiv b ∧ r = 0 := (tdiv_facts h).1 h0
theorem tdiv_diff {a b q r : Int} (h : IsDiv a b q r) (h0 : ¬ a.tmod b = 0) (hs : ¬ (a < 0 ↔ b < 0)) : q = a.tdiv b - 1 ∧ r = a.tmod b + b ∧ r ≠ 0 := by
  obtain ⟨_, _, _, f1, f2⟩ := tdiv_facts h
  have hb : b ≠ 0 := by obtain ⟨_, h⟩ := h; omega
  obtain ⟨s1, s2, s3, s4⟩ := tmod_sg (a := a) hb
  by_cases hp : b < 0
  · have ha : 0 ≤ a := by omega
    have := f2 (by have := s1 ha; omega) hp
    omega
  · have ha : a < 0 := by omega
    have := f1 (by have := s2 (by omega); omega) (by omega)
    omega
theorem tdiv_same {a b q r : Int} (h : IsDiv a b q r) (h0 : ¬ a.tmod b = 0) (hs : a < 0 ↔ b < 0) : q = a.tdiv b ∧ r = a.tmod b := by
  obtain ⟨_, f1, f2, _, _⟩ := tdiv_facts h
  have hb : b ≠ 0 := by obtain ⟨_, h⟩ := h; omega
  obtain ⟨s1, s2, s3, s4⟩ := tmod_sg (a := a) hb
  by_cases hp : b < 0
  · have := s2 (by omega)
    exact f1 (by omega) hp
  · have := s1 (by omega)
    exact f2 (by omega) (by omega)
theorem tmod_sign {a b : Int} (hb : b ≠ 0) (h0 : ¬ a.tmod b = 0) : a.tmod b < 0 ↔ a < 0 := by
  obtain ⟨s1, s2, s3, s4⟩ := tmod_sg (a := a) hb
  by_cases h : a < 0
  · have := s2 (by omega); omega
  · have := s1 (by omega); omega
theorem isDiv_hi {a b q r : Int} (h : IsDiv a b q r) (ha : -9223372036854775808 ≤ a) (ha' : a ≤ 9223372036854775807) : -9223372036854775808 ≤ q ∧ (9223372036854775807 < q → a = -9223372036854775808 ∧ b = -1) := by
  have hb0 : b ≠ 0 := by obtain ⟨_, h⟩ := h; omega
  by_cases hx : a = -9223372036854775808 ∧ b = -1
  · obtain ⟨rfl, rfl⟩ := hx
    have := isDiv_uniq h (q' := 9223372036854775808) (r' := 0) ⟨by omega, by omega⟩
    omega
  · have l := tdiv_bd (a := a) hb0 ha ha' (by omega)
    by_cases h0 : a.tmod b = 0
    · have := tdiv_zero h h0; omega
    · by_cases hs : a < 0 ↔ b < 0
      · have := tdiv_same h h0 hs; omega
      · have := tdiv_diff h h0 hs; have := l.2.2 h0; omega
/-- the quotient and what is left, by the sizes -/
theorem size_div {a b q r : Int} (h : IsDiv a b q r) :
    ((a < 0 ↔ b < 0) → q = (a.natAbs : Int) / (b.natAbs : Int) ∧ r = sgI (decide (b < 0)) ((a.natAbs : Int) % (b.natAbs : Int))) ∧
    (¬(a < 0 ↔ b < 0) → (a.natAbs : Int) % (b.natAbs : Int) = 0 → q = -((a.natAbs : Int) / (b.natAbs : Int)) ∧ r = 0) ∧
    (¬(a < 0 ↔ b < 0) → 0 < (a.natAbs : Int) % (b.natAbs : Int) → q = -((a.natAbs : Int) / (b.natAbs : Int) + 1) ∧ r = sgI (decide (b < 0)) ((b.natAbs : Int) - (a.natAbs : Int) % (b.natAbs : Int))) := by
  have hb : b ≠ 0 := by obtain ⟨_, h⟩ := h; omega
  have e := Int.mul_ediv_add_emod (a.natAbs : Int) (b.natAbs : Int)
  have m0 := Int.emod_nonneg (a.natAbs : Int) (b := (b.natAbs : Int)) (by omega)
  have m1 := Int.emod_lt_of_pos (a.natAbs : Int) (b := (b.natAbs : Int)) (by omega)
  generalize (a.natAbs : Int) / (b.natAbs : Int) = n at *
  generalize (a.natAbs : Int) % (b.natAbs : Int) = m at *
  have hbn : b * -n = -(b * n) := Int.mul_neg _ _
  have hbn' : -b * n = -(b * n) := Int.neg_mul _ _
  have hb1 : b * (-(n + 1)) = -(b * n) - b := by rw [Int.mul_neg, Int.mul_add, Int.mul_one]; omega
  refine ⟨fun hs => ?_, fun hs h0 => ?_, fun hs h0 => ?_⟩
  · by_cases hp : b < 0
    · have ha := hs.2 hp
      rw [show (a.natAbs : Int) = -a by omega, show (b.natAbs : Int) = -b by omega] at e
      simp only [sgI, hp, decide_true, if_true]
      exact isDiv_uniq h ⟨by omega, by omega⟩
    · have ha : ¬ a < 0 := fun h => hp (hs.1 h)
      rw [show (a.natAbs : Int) = a by omega, show (b.natAbs : Int) = b by omega] at e
      simp only [sgI, hp, decide_false, Bool.false_eq_true, if_false]
      exact isDiv_uniq h ⟨by omega, by omega⟩
  · subst h0
    by_cases hp : b < 0
    · have ha : ¬ a < 0 := fun h => hs ⟨fun _ => hp, fun _ => h⟩
      rw [show (a.natAbs : Int) = a by omega, show (b.natAbs : Int) = -b by omega] at e
      exact isDiv_uniq h ⟨by omega, by omega⟩
    · have ha : a < 0 := by omega
      rw [show (a.natAbs : Int) = -a by omega, show (b.natAbs : Int) = b by omega] at e
      exact isDiv_uniq h ⟨by omega, by omega⟩
  · by_cases hp : b < 0
    · have ha : ¬ a < 0 := fun h => hs ⟨fun _ => hp, fun _ => h⟩
      rw [show (a.natAbs : Int) = a by omega, show (b.natAbs : Int) = -b by omega] at e
      simp only [sgI, hp, decide_true, if_true]
      exact isDiv_uniq h ⟨by omega, by omega⟩
    · have ha : a < 0 := by omega
      rw [show (a.natAbs : Int) = -a by omega, show (b.natAbs : Int) = b by omega] at e
      simp only [sgI, hp, decide_false, Bool.false_eq_true, if_false]
      exact isDiv_uniq h ⟨by omega, by omega⟩
end Go.Proofs.YtmnildjcnpfddaaDoor
