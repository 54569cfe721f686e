/- The mathematics of a car that goes on: the first of its places at which it does something else. -/
import Derived.WalkKit
import Derived.Test.YtffcmfpadaebdaaPlaceA
namespace Go.Proofs.Ytffcmfpadaebdaa
set_option linter.unusedSimpArgs false
set_option linter.unusedVariables false
/-- does a car do something else at a place? P: does it pass a floor? -/
def StopAt (g : Int) (P : Int → Bool) (x : Int) : Prop := x % g = 0 ∧ P (x / g) = false
/-- the first place at which it does so -/
structure FirstAt (g : Int) (P : Int → Bool) (p d : Int) (N : Nat) : Prop where
  here : StopAt g P (p + N * d)
  none : ∀ i : Nat, i < N → ¬ StopAt g P (p + i * d)
theorem FirstAt.same {g : Int} {P : Int → Bool} {p d : Int} {N M : Nat} (h : FirstAt g P p d N) (h' : FirstAt g P p d M) : N = M := by
  rcases Nat.lt_trichotomy N M with c | c | c
  · exact absurd h.here (h'.none N c)
  · exact c
  · exact absurd h'.here (h.none M c)
theorem FirstAt.shift {g : Int} {P : Int → Bool} {p d : Int} {N k : Nat} (h : FirstAt g P p d N) (hk : k ≤ N) : FirstAt g P (p + k * d) d (N - k) := by
  have e : ∀ i : Nat, p + (k : Int) * d + (i : Int) * d = p + ((k + i : Nat) : Int) * d := fun i => by rw [Int.natCast_add, Int.add_mul, Int.add_assoc]
  constructor
  · rw [e, show k + (N - k) = N by omega]; exact h.here
  · intro i hi
    rw [e]; exact h.none (k + i) (by omega)
theorem mul_lt_of {a b g : Int} (hg : 1 ≤ g) (h : a * g < b * g) : a < b := by
  apply Int.lt_of_not_ge; intro c
  have := Int.mul_le_mul_of_nonneg_right c (show 0 ≤ g by omega)
  omega
theorem nx_bd {g q r d : Int} (hg : 1 ≤ g) (r0 : 0 ≤ r) (r1 : r < g) : 0 ≤ nxT g r d ∧ nxT g r d < g := by
  unfold nxT; repeat' split
  all_goals omega
/-- where the next floor is -/
theorem nx_place {p g q r d : Int} (hd : d = 1 ∨ d = -1) (e : p = q * g + r) : p + nxT g r d * d = nxF q r d * g := by
  unfold nxT nxF
  rcases hd with rfl | rfl
  · by_cases h : r = 0
    · rw [if_pos h, if_pos h]; omega
    · rw [if_neg h, if_neg h, if_pos (by omega), if_pos (by omega), Int.add_mul]; omega
  · by_cases h : r = 0
    · rw [if_pos h, if_pos h]; omega
    · rw [if_neg h, if_neg h, if_neg (by omega), if_neg (by omega)]; omega
theorem nx_far {p g q r d : Int} (hd : d = 1 ∨ d = -1) (e : p = q * g + r) (k : Nat) : p + (nxT g r d + g * k) * d = (nxF q r d + k * d) * g := by
  have h := nx_place (g := g) (r := r) (q := q) hd e
  rw [Int.add_mul, Int.add_mul, ← h, Int.mul_comm g, ← Int.add_assoc, Int.mul_assoc, Int.mul_assoc, Int.mul_comm g d]
theorem div_place {m g : Int} (hg : 1 ≤ g) : (m * g) % g = 0 ∧ (m * g) / g = m := ⟨Int.mul_emod_left m g, Int.mul_ediv_cancel m (by omega)⟩
/-- floor by floor is place by place -/
theorem first_of {g : Int} {P : Int → Bool} {p q r d : Int} {k N : Nat} (hg : 1 ≤ g) (r0 : 0 ≤ r) (r1 : r < g) (e : p = q * g + r) (hd : d = 1 ∨ d = -1)
    (hN : (N : Int) = nxT g r d + g * k) (hk : ∀ j : Nat, j < k → P (nxF q r d + j * d) = true) (hP : P (nxF q r d + k * d) = false) : FirstAt g P p d N := by
  have B := nx_bd (q := q) (d := d) hg r0 r1
  have F := nx_far (g := g) (r := r) (q := q) hd e k
  constructor
  · unfold StopAt
    rw [hN, F, (div_place hg).1, (div_place hg).2]
    exact ⟨rfl, hP⟩
  · rintro i hi ⟨s0, s1⟩
    obtain ⟨m, hm⟩ : ∃ m, (p + i * d) / g = m := ⟨_, rfl⟩
    have hx : p + i * d = m * g := by
      have := Int.mul_ediv_add_emod (p + i * d) g
      rw [s0, hm, Int.mul_comm] at this; omega
    rw [hm] at s1
    have hi' : (i : Int) < nxT g r d + g * k := by omega
    have step : ∀ t : Int, t * g = nxT g r d + g * k - i → m = nxF q r d + (k - t) * d → False := by
      intro t ht hmt
      have t1 : 0 < t := mul_lt_of hg (by omega)
      have t2 : t < k + 1 := mul_lt_of hg (by rw [Int.add_mul, Int.mul_comm (k : Int) g]; omega)
      have := hk (k - t).toNat (by omega)
      rw [show (((k - t).toNat : Nat) : Int) = k - t by omega, ← hmt, s1] at this
      cases this
    rcases hd with rfl | rfl
    · refine step (nxF q r 1 + k * 1 - m) ?_ (by omega)
      rw [Int.sub_mul, ← F, ← hx]; omega
    · refine step (m - (nxF q r (-1) + k * (-1))) ?_ (by omega)
      rw [Int.sub_mul, ← F, ← hx]; omega
/-- a car that goes on stays within -/
theorem go_within {p X d t : Int} {N i : Nat} (hd : d = 1 ∨ d = -1) (hX : p + N * d = X) (p0 : 0 ≤ p) (p1 : p ≤ t) (x0 : 0 ≤ X) (x1 : X ≤ t) (hi : i ≤ N) : (0 ≤ p + i * d ∧ p + i * d ≤ t) ∧ (N : Int) ≤ t := by
  rcases hd with rfl | rfl <;> omega
/-- floors lie within -/
theorem floor_in {m s0 g : Int} (hg : 1 ≤ g) (h0 : 0 ≤ m) (h1 : m ≤ s0 - 1) : 0 ≤ m * g ∧ m * g ≤ (s0 - 1) * g :=
  ⟨Int.mul_nonneg h0 (by omega), Int.mul_le_mul_of_nonneg_right h1 (by omega)⟩
theorem nx_in {p g q r d s0 : Int} (hg : 1 ≤ g) (r0 : 0 ≤ r) (r1 : r < g) (e : p = q * g + r) (p0 : 0 ≤ p) (p1 : p ≤ (s0 - 1) * g) : (0 ≤ q ∧ q ≤ s0 - 1) ∧ (0 ≤ nxF q r d ∧ nxF q r d ≤ s0 - 1) := by
  have q0 : -1 < q := mul_lt_of hg (by omega)
  have q1 : q < s0 - 1 + 1 := mul_lt_of hg (by rw [Int.add_mul]; omega)
  refine ⟨by omega, ?_⟩
  unfold nxF
  by_cases h : r = 0
  · rw [if_pos h]; omega
  · rw [if_neg h]
    have : q < s0 - 1 := mul_lt_of hg (by omega)
    split <;> omega
end Go.Proofs.Ytffcmfpadaebdaa
