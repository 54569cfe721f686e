/- Two words over one: one digit of the quotient at a time (Knuth's algorithm D), and bit by bit. -/
import Derived.WalkKit
namespace Go.Proofs.YtncpioakggaehaaDoor
open Go.RowKit
set_option linter.unusedVariables false
/-- a guess is too great just if its product is too great -/
theorem guess_gt {u d y1 y0 q r : Nat} (h : q * y1 + r = u) : (4294967296 * r + d < q * y0) ↔ u * 4294967296 + d < q * (y1 * 4294967296 + y0) := by
  subst h
  rw [Nat.add_mul, Nat.mul_add, ← Nat.mul_assoc]
  omega
theorem guess_q {n y q : Nat} (hy : 0 < y) : n < q * y ↔ n / y < q := (Nat.div_lt_iff_lt_mul hy).symm
/-- behind the break: the guess is right -/
theorem guess_break {u d y1 y0 q r : Nat} (h : q * y1 + r = u) (hr : 4294967296 ≤ r) (hq : q ≤ 4294967296) (h0 : y0 < 4294967296) : ¬ (4294967296 * r + d < q * y0) := by
  have h1 : q * y0 ≤ 4294967296 * y0 := Nat.mul_le_mul_right _ hq
  omega
/-- the first guess is at most two too great -/
theorem guess_first {u y1 y0 : Nat} (h1 : 2147483648 ≤ y1) (h0 : y0 < 4294967296) (hu : u < y1 * 4294967296 + y0) : u / y1 ≤ 4294967297 := by
  have : u / y1 < 4294967298 := by
    rw [Nat.div_lt_iff_lt_mul (by omega)]
    omega
  omega
theorem quot_lt {u d y : Nat} (hy : 0 < y) (hu : u < y) (hd : d < 4294967296) : (u * 4294967296 + d) / y < 4294967296 := by
  rw [Nat.div_lt_iff_lt_mul hy]
  have := Nat.mul_le_mul_right 4294967296 (show u + 1 ≤ y from hu)
  rw [Nat.mul_comm 4294967296 y]
  omega
/-- two digits -/
theorem two_digits {u d1 d0 y : Nat} (hy : 0 < y) : (u * 18446744073709551616 + (d1 * 4294967296 + d0)) / y = (u * 4294967296 + d1) / y * 4294967296 + ((u * 4294967296 + d1) % y * 4294967296 + d0) / y := by
  have e : u * 18446744073709551616 + (d1 * 4294967296 + d0) = y * ((u * 4294967296 + d1) / y * 4294967296) + ((u * 4294967296 + d1) % y * 4294967296 + d0) := by
    have h := Nat.div_add_mod (u * 4294967296 + d1) y
    have h2 : y * ((u * 4294967296 + d1) / y * 4294967296) = (y * ((u * 4294967296 + d1) / y)) * 4294967296 := by rw [Nat.mul_assoc]
    rw [h2]
    generalize y * ((u * 4294967296 + d1) / y) = p at *
    generalize (u * 4294967296 + d1) % y = r at *
    omega
  rw [e, Nat.mul_add_div hy]
/-- normalized: the same quotient -/
theorem norm_quot {hi lo y s : Nat} (hs : s ≤ 63) (hl : lo < 18446744073709551616) : (hi * 18446744073709551616 + lo) / y = ((hi * 2 ^ s + lo / 2 ^ (64 - s)) * 18446744073709551616 + lo * 2 ^ s % 18446744073709551616) / (y * 2 ^ s) := by
  have hp : (2 : Nat) ^ s * 2 ^ (64 - s) = 18446744073709551616 := by rw [← Nat.pow_add, show s + (64 - s) = 64 by omega]
  have h0 : 0 < 2 ^ s := Nat.pow_pos (by omega)
  have e1 : lo * 2 ^ s / 18446744073709551616 = lo / 2 ^ (64 - s) := by
    rw [← hp, Nat.mul_comm (2 ^ s), Nat.mul_div_mul_right _ _ h0]
  have e2 := Nat.div_add_mod (lo * 2 ^ s) 18446744073709551616
  rw [e1] at e2
  have e3 : (hi * 2 ^ s + lo / 2 ^ (64 - s)) * 18446744073709551616 + lo * 2 ^ s % 18446744073709551616 = (hi * 18446744073709551616 + lo) * 2 ^ s := by
    rw [Nat.add_mul, Nat.add_mul, Nat.mul_right_comm hi 18446744073709551616]
    omega
  rw [e3, Nat.mul_div_mul_right _ _ h0]
theorem norm_lt {hi lo y s : Nat} (hs : s ≤ 63) (h : hi < y) (hl : lo < 18446744073709551616) : hi * 2 ^ s + lo / 2 ^ (64 - s) < y * 2 ^ s := by
  have hp : (2 : Nat) ^ (64 - s) * 2 ^ s = 18446744073709551616 := by rw [← Nat.pow_add, show (64 - s) + s = 64 by omega]
  have hd : lo / 2 ^ (64 - s) < 2 ^ s := by
    apply Nat.div_lt_of_lt_mul; rw [hp]; exact hl
  have := Nat.mul_le_mul_right (2 ^ s) (show hi + 1 ≤ y from h)
  rw [Nat.add_mul, Nat.one_mul] at this
  omega
theorem norm_or {hi lo s : Nat} (hs : s ≤ 63) (hl : lo < 18446744073709551616) : (hi * 2 ^ s) ||| (lo / 2 ^ (64 - s)) = hi * 2 ^ s + lo / 2 ^ (64 - s) := by
  have hp : (2 : Nat) ^ (64 - s) * 2 ^ s = 18446744073709551616 := by rw [← Nat.pow_add, show (64 - s) + s = 64 by omega]
  have hd : lo / 2 ^ (64 - s) < 2 ^ s := by
    apply Nat.div_lt_of_lt_mul; rw [hp]; exact hl
  rw [← Nat.shiftLeft_eq, Nat.shiftLeft_add_eq_or_of_lt hd]
/-- what is left of a digit's step, reckoned round 2^64 -/
theorem rest_wrap {a d b : Int} (h0 : 0 ≤ a + d - b) (h1 : a + d - b < 18446744073709551616) : ((a % 18446744073709551616 + d) % 18446744073709551616 - b % 18446744073709551616) % 18446744073709551616 = a + d - b := by omega
/-- bit by bit: the first k bits of a low word, behind a high one -/
def pre (high low k : Nat) : Nat := high * 2 ^ k + low / 2 ^ (64 - k)
theorem pre_zero {high low : Nat} (hl : low < 18446744073709551616) : pre high low 0 = high := by
  have e : (2 : Nat) ^ 64 = 18446744073709551616 := by decide
  unfold pre
  rw [Nat.pow_zero, Nat.mul_one, Nat.sub_zero, e, Nat.div_eq_of_lt hl, Nat.add_zero]
theorem pre_full (high low : Nat) : pre high low 64 = high * 18446744073709551616 + low := by
  unfold pre
  rw [show (2 : Nat) ^ 64 = 18446744073709551616 by decide, Nat.sub_self, Nat.pow_zero, Nat.div_one]
theorem pre_succ (high low k : Nat) (hk : k < 64) : pre high low (k + 1) = 2 * pre high low k + low / 2 ^ (63 - k) % 2 := by
  unfold pre
  have e : low / 2 ^ (64 - k) = low / 2 ^ (63 - k) / 2 := by
    rw [show 64 - k = (63 - k) + 1 by omega, Nat.pow_succ, Nat.div_div_eq_div_mul]
  rw [e, show 64 - (k + 1) = 63 - k by omega, Nat.pow_succ]
  rw [← Nat.mul_assoc]
  generalize high * 2 ^ k = m
  generalize low / 2 ^ (63 - k) = n
  omega
/-- a step: the quotient and the rest of twice as much, and a bit -/
theorem bit_step {m c b : Nat} (hc : 0 < c) (hb : b < 2) : (if c ≤ 2 * (m % c) + b then 2 * (m / c) + 1 else 2 * (m / c)) = (2 * m + b) / c ∧ (if c ≤ 2 * (m % c) + b then 2 * (m % c) + b - c else 2 * (m % c) + b) = (2 * m + b) % c := by
  have h := Nat.div_add_mod m c
  have hm := Nat.mod_lt m hc
  generalize m / c = q at *
  generalize m % c = r at *
  subst h
  split
  · rename_i h1
    have e : 2 * (c * q + r) + b = (2 * r + b - c) + c * (2 * q + 1) := by
      rw [Nat.mul_add c, Nat.mul_one, Nat.mul_left_comm c 2 q]; omega
    rw [e, Nat.add_mul_div_left _ _ hc, Nat.add_mul_mod_self_left, Nat.div_eq_of_lt (by omega), Nat.mod_eq_of_lt (by omega)]
    exact ⟨by omega, rfl⟩
  · rename_i h1
    have e : 2 * (c * q + r) + b = (2 * r + b) + c * (2 * q) := by
      rw [Nat.mul_left_comm c 2 q]; omega
    rw [e, Nat.add_mul_div_left _ _ hc, Nat.add_mul_mod_self_left, Nat.div_eq_of_lt (by omega), Nat.mod_eq_of_lt (by omega)]
    exact ⟨by omega, rfl⟩
/-- what the guessing of one digit keeps -/
structure Guess (u d y1 y0 q r : Nat) : Prop where
  sum : q * y1 + r = u
  low : (u * 4294967296 + d) / (y1 * 4294967296 + y0) ≤ q
  top : q ≤ 4294967297
  rest : r < 4294967296
theorem guess_start {u d y1 y0 : Nat} (h1 : 2147483648 ≤ y1) (h1' : y1 < 4294967296) (h0 : y0 < 4294967296) (hd : d < 4294967296) (hu : u < y1 * 4294967296 + y0) : Guess u d y1 y0 (u / y1) (u % y1) := by
  refine ⟨by rw [Nat.mul_comm]; exact Nat.div_add_mod u y1, ?_, guess_first h1 h0 hu, by have := Nat.mod_lt u (show 0 < y1 by omega); omega⟩
  have e : u / y1 = (u * 4294967296 + d) / (y1 * 4294967296) := by
    rw [Nat.mul_comm y1, ← Nat.div_div_eq_div_mul]
    congr 1; omega
  rw [e]
  exact Nat.div_le_div_left (by omega) (by omega)
theorem guess_end {u d y1 y0 q r : Nat} (G : Guess u d y1 y0 q r) (h1 : 2147483648 ≤ y1) (h : ¬ (4294967296 * r + d < q * y0)) : q = (u * 4294967296 + d) / (y1 * 4294967296 + y0) := by
  rw [guess_gt G.sum, guess_q (by omega)] at h
  have := G.low
  omega
theorem guess_pos {u d y1 y0 q r : Nat} (G : Guess u d y1 y0 q r) (c : 4294967296 ≤ q ∨ 4294967296 * r + d < q * y0) : 1 ≤ q := by
  rcases Nat.eq_zero_or_pos q with h | h
  · subst h; rcases c with c | c <;> omega
  · exact h
theorem guess_less {u d y1 y0 q r : Nat} (G : Guess u d y1 y0 q r) (h1 : 2147483648 ≤ y1) (hd : d < 4294967296) (hu : u < y1 * 4294967296 + y0) (c : 4294967296 ≤ q ∨ 4294967296 * r + d < q * y0) : (u * 4294967296 + d) / (y1 * 4294967296 + y0) ≤ q - 1 ∧ (q - 1) * y1 + (r + y1) = u := by
  have hp := guess_pos G c
  constructor
  · rcases c with c | c
    · have := quot_lt (y := y1 * 4294967296 + y0) (by omega) hu hd; omega
    · rw [guess_gt G.sum, guess_q (by omega)] at c; omega
  · have := G.sum
    obtain ⟨p, rfl⟩ : ∃ p, q = p + 1 := ⟨q - 1, by omega⟩
    rw [Nat.add_mul, Nat.one_mul] at this
    rw [Nat.add_sub_cancel]; omega
theorem guess_on {u d y1 y0 q r : Nat} (G : Guess u d y1 y0 q r) (h1 : 2147483648 ≤ y1) (hd : d < 4294967296) (hu : u < y1 * 4294967296 + y0) (c : 4294967296 ≤ q ∨ 4294967296 * r + d < q * y0) (hr : r + y1 < 4294967296) : Guess u d y1 y0 (q - 1) (r + y1) := by
  have L := guess_less G h1 hd hu c
  exact ⟨L.2, L.1, by have := G.top; omega, hr⟩
theorem guess_out {u d y1 y0 q r : Nat} (G : Guess u d y1 y0 q r) (h1 : 2147483648 ≤ y1) (h0 : y0 < 4294967296) (hd : d < 4294967296) (hu : u < y1 * 4294967296 + y0) (c : 4294967296 ≤ q ∨ 4294967296 * r + d < q * y0) (hr : 4294967296 ≤ r + y1) : q - 1 = (u * 4294967296 + d) / (y1 * 4294967296 + y0) := by
  have L := guess_less G h1 hd hu c
  have hb := guess_break (d := d) L.2 hr (by have := G.top; omega) h0
  rw [guess_gt L.2, guess_q (by omega)] at hb
  have := L.1
  omega
/-- one digit Q of a quotient: what is known of the numbers -/
structure Dig (u d y1 y0 N Q : Nat) : Prop where
  one : 2147483648 ≤ y1
  one' : y1 < 4294967296
  zero : y0 < 4294967296
  dig : d < 4294967296
  all : N = y1 * 4294967296 + y0
  less : u < N
  quo : Q = (u * 4294967296 + d) / N
theorem Dig.start {u d y1 y0 N Q : Nat} (D : Dig u d y1 y0 N Q) : Guess u d y1 y0 (u / y1) (u % y1) :=
  guess_start D.one D.one' D.zero D.dig (by have := D.all; have := D.less; omega)
theorem Dig.stop {u d y1 y0 N Q q r : Nat} (D : Dig u d y1 y0 N Q) (G : Guess u d y1 y0 q r) (h : ¬ (4294967296 * r + d < q * y0)) : q = Q := by
  rw [D.quo, D.all]; exact guess_end G D.one h
theorem Dig.on {u d y1 y0 N Q q r : Nat} (D : Dig u d y1 y0 N Q) (G : Guess u d y1 y0 q r) (c : 4294967296 ≤ q ∨ 4294967296 * r + d < q * y0) (hr : r + y1 < 4294967296) : Guess u d y1 y0 (q - 1) (r + y1) :=
  guess_on G D.one D.dig (by have := D.all; have := D.less; omega) c hr
theorem Dig.out {u d y1 y0 N Q q r : Nat} (D : Dig u d y1 y0 N Q) (G : Guess u d y1 y0 q r) (c : 4294967296 ≤ q ∨ 4294967296 * r + d < q * y0) (hr : 4294967296 ≤ r + y1) : q - 1 = Q := by
  rw [D.quo, D.all]; exact guess_out G D.one D.zero D.dig (by have := D.all; have := D.less; omega) c hr
theorem Dig.lt {u d y1 y0 N Q : Nat} (D : Dig u d y1 y0 N Q) : Q < 4294967296 := by
  rw [D.quo]; exact quot_lt (by have := D.less; omega) D.less D.dig
/-- the second digit's numbers -/
theorem Dig.next {u d y1 y0 N Q d' : Nat} (D : Dig u d y1 y0 N Q) (h : d' < 4294967296) : Dig ((u * 4294967296 + d) % N) d' y1 y0 N (((u * 4294967296 + d) % N * 4294967296 + d') / N) :=
  ⟨D.one, D.one', D.zero, h, D.all, Nat.mod_lt _ (by have := D.less; omega), rfl⟩
theorem Dig.sum {u d y1 y0 N Q : Nat} (D : Dig u d y1 y0 N Q) : Q * N + (u * 4294967296 + d) % N = u * 4294967296 + d := by
  rw [D.quo, Nat.mul_comm]; exact Nat.div_add_mod _ _
end Go.Proofs.YtncpioakggaehaaDoor
