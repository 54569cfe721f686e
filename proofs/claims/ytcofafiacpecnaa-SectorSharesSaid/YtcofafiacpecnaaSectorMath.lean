/- The shares of floors: the plain arithmetic. -/
namespace Go.Proofs.Ytcofafiacpecnaa
/-- the lowest floor whose car is no lesser one -/
def fsN (F C c : Nat) : Nat := (c * F + C - 1) / C
theorem fs_le {F C c f : Nat} (hC : 0 < C) : fsN F C c ≤ f ↔ c * F ≤ f * C := by
  unfold fsN
  rw [← Nat.lt_succ_iff, Nat.div_lt_iff_lt_mul hC, Nat.succ_mul]
  omega
theorem fs_zero {F C : Nat} (hC : 0 < C) : fsN F C 0 = 0 := Nat.le_zero.mp ((fs_le hC).2 (by simp))
theorem fs_mono {F C : Nat} (hC : 0 < C) (c : Nat) : fsN F C c ≤ fsN F C (c + 1) := by
  rw [fs_le hC]
  have := (fs_le (F := F) (c := c + 1) hC).1 (Nat.le_refl _)
  rw [Nat.succ_mul] at this
  omega
theorem fs_top {F C c : Nat} (hC : 0 < C) (hc : c ≤ C) : fsN F C c ≤ F := by
  rw [fs_le hC, Nat.mul_comm]
  exact Nat.mul_le_mul_left _ hc
theorem fs_full {F C : Nat} (hC : 0 < C) : fsN F C C = F := by
  refine Nat.le_antisymm (fs_top hC (Nat.le_refl _)) ?_
  have := (fs_le (F := F) (c := C) hC).1 (Nat.le_refl _)
  rw [Nat.mul_comm C F] at this
  exact Nat.le_of_mul_le_mul_right this hC
theorem car_of {F C c f : Nat} (hF : 0 < F) (hC : 0 < C) (h1 : fsN F C c ≤ f) (h2 : f < fsN F C (c + 1)) : f * C / F = c := by
  have a := (fs_le hC).1 h1
  have b : f * C < (c + 1) * F := by
    rcases Nat.lt_or_ge (f * C) ((c + 1) * F) with h | h
    · exact h
    · have := (fs_le (F := F) (c := c + 1) hC).2 h; omega
  refine Nat.le_antisymm ?_ ?_
  · rw [← Nat.lt_succ_iff, Nat.div_lt_iff_lt_mul hF]; exact b
  · rw [Nat.le_div_iff_mul_le hF]; exact a
theorem mul_bd {a b A B : Nat} (h : a ≤ A) (h' : b ≤ B) : a * b ≤ A * B := Nat.mul_le_mul h h'
end Go.Proofs.Ytcofafiacpecnaa
