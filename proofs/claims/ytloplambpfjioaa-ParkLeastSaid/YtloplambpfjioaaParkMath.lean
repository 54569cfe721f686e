/- Parking: mathematics: the nearest of some floors, and what all cost. -/
import Derived.Test.YtloplambpfjioaaRows
namespace Go.Proofs.Ytloplambpfjioaa
set_option linter.unusedVariables false
def dst (a b : Int) : Int := if a - b < 0 then -(a - b) else a - b
theorem dst_nn (a b : Int) : 0 ≤ dst a b := by unfold dst; split <;> omega
theorem dst_comm (a b : Int) : dst a b = dst b a := by unfold dst; split <;> split <;> omega
/-- the document's way: the least of the distances of the first k, below 0: none yet -/
def nr (a : Nat → Int) (f : Int) : Nat → Int
  | 0 => -1
  | k + 1 => if nr a f k < 0 ∨ dst (a k) f < nr a f k then dst (a k) f else nr a f k
theorem nr_zero (a : Nat → Int) (f : Int) : nr a f 0 = -1 := rfl
theorem nr_succ (a : Nat → Int) (f : Int) (k : Nat) : nr a f (k + 1) = if nr a f k < 0 ∨ dst (a k) f < nr a f k then dst (a k) f else nr a f k := rfl
def IsNr (a : Nat → Int) (f : Int) (m : Nat) (d : Int) : Prop := (∃ k, k < m ∧ d = dst (a k) f) ∧ ∀ k, k < m → d ≤ dst (a k) f
theorem isNr_unique {a : Nat → Int} {f : Int} {m : Nat} {d e : Int} (h : IsNr a f m d) (g : IsNr a f m e) : d = e := by
  obtain ⟨⟨k, hk, rfl⟩, h2⟩ := h
  obtain ⟨⟨j, hj, rfl⟩, g2⟩ := g
  have := h2 j hj
  have := g2 k hk
  omega
theorem nr_is (a : Nat → Int) (f : Int) : ∀ k, IsNr a f (k + 1) (nr a f (k + 1))
  | 0 => by
    rw [nr_succ, nr_zero, if_pos (Or.inl (by omega))]
    exact ⟨⟨0, by omega, rfl⟩, fun k hk => by rw [show k = 0 by omega]; exact Int.le_refl _⟩
  | k + 1 => by
    have ih := nr_is a f k
    have hn : 0 ≤ nr a f (k + 1) := by obtain ⟨⟨j, _, e⟩, _⟩ := ih; rw [e]; exact dst_nn _ _
    rw [nr_succ]
    by_cases h : dst (a (k + 1)) f < nr a f (k + 1)
    · rw [if_pos (Or.inr h)]
      refine ⟨⟨k + 1, by omega, rfl⟩, fun j hj => ?_⟩
      by_cases e : j = k + 1
      · subst e; exact Int.le_refl _
      · have := ih.2 j (by omega); omega
    · rw [if_neg (by omega)]
      obtain ⟨⟨j, hj, e⟩, h2⟩ := ih
      refine ⟨⟨j, by omega, e⟩, fun i hi => ?_⟩
      by_cases e : i = k + 1
      · subst e; omega
      · exact h2 i (by omega)
theorem nr_nn {a : Nat → Int} {f : Int} {m : Nat} (h : 0 < m) : 0 ≤ nr a f m := by
  obtain ⟨k, rfl⟩ : ∃ k, m = k + 1 := ⟨m - 1, by omega⟩
  obtain ⟨⟨j, _, e⟩, _⟩ := nr_is a f k
  rw [e]; exact dst_nn _ _
theorem nr_lt {a : Nat → Int} {f : Int} {m n : Nat} (h : 0 < m) (ha : ∀ k, k < m → 0 ≤ a k ∧ a k < n) (hf : 0 ≤ f) (hf2 : f < n) : nr a f m < n := by
  obtain ⟨k, rfl⟩ : ∃ k, m = k + 1 := ⟨m - 1, by omega⟩
  obtain ⟨⟨j, hj, e⟩, _⟩ := nr_is a f k
  have := ha j hj
  rw [e]; unfold dst; split <;> omega
/-- the program's way: by the floors at which someone waits -/
def frB (b : Nat → Bool) (f : Int) (n : Int) : Nat → Int
  | 0 => n
  | k + 1 => if b k then min (frB b f n k) (dst f k) else frB b f n k
theorem frB_zero (b : Nat → Bool) (f n : Int) : frB b f n 0 = n := rfl
theorem frB_succ (b : Nat → Bool) (f n : Int) (k : Nat) : frB b f n (k + 1) = if b k then min (frB b f n k) (dst f k) else frB b f n k := rfl
theorem frB_le (b : Nat → Bool) (f n : Int) : ∀ k j, j < k → b j = true → frB b f n k ≤ dst f j
  | k + 1, j, hj, hb => by
    rw [frB_succ]
    by_cases e : j = k
    · subst e; rw [if_pos hb]; omega
    · have := frB_le b f n k j (by omega) hb
      split <;> omega
theorem frB_top (b : Nat → Bool) (f n : Int) : ∀ k, frB b f n k ≤ n
  | 0 => by rw [frB_zero]; omega
  | k + 1 => by have := frB_top b f n k; rw [frB_succ]; split <;> omega
theorem frB_is (b : Nat → Bool) (f n : Int) : ∀ k, frB b f n k = n ∨ ∃ j, j < k ∧ b j = true ∧ frB b f n k = dst f j
  | 0 => Or.inl rfl
  | k + 1 => by
    have ih := frB_is b f n k
    rw [frB_succ]
    by_cases hb : b k = true
    · rw [if_pos hb]
      by_cases h : frB b f n k ≤ dst f k
      · rw [Int.min_eq_left h]
        rcases ih with e | ⟨j, hj, e, h2⟩
        · exact Or.inl e
        · exact Or.inr ⟨j, by omega, e, h2⟩
      · rw [Int.min_eq_right (by omega)]
        exact Or.inr ⟨k, by omega, hb, rfl⟩
    · rw [if_neg hb]
      rcases ih with e | ⟨j, hj, e, h2⟩
      · exact Or.inl e
      · exact Or.inr ⟨j, by omega, e, h2⟩
theorem frB_nr {a : Nat → Int} {b : Nat → Bool} {f : Int} {m n : Nat} (h0 : 0 < m) (ha : ∀ k, k < m → 0 ≤ a k ∧ a k < n) (hb : ∀ j, j < n → (b j = true ↔ ∃ k, k < m ∧ a k = j)) (hf : 0 ≤ f) (hf2 : f < n) : frB b f n n = nr a f m := by
  obtain ⟨q, rfl⟩ : ∃ k, m = k + 1 := ⟨m - 1, by omega⟩
  have hle : ∀ k, k < q + 1 → frB b f n n ≤ dst (a k) f := fun k hk => by
    have := ha k hk
    obtain ⟨j, hj⟩ : ∃ j : Nat, a k = j := ⟨(a k).toNat, by omega⟩
    rw [hj, dst_comm]
    exact frB_le b f n n j (by omega) ((hb j (by omega)).2 ⟨k, hk, hj⟩)
  refine isNr_unique (m := q + 1) (a := a) (f := f) ⟨?_, hle⟩ (nr_is a f q)
  rcases frB_is b f n n with e | ⟨j, hj, e, h2⟩
  · have := hle 0 (by omega)
    have h1 := ha 0 (by omega)
    have : dst (a 0) f < n := by unfold dst; split <;> omega
    omega
  · obtain ⟨k, hk, ek⟩ := (hb j hj).1 e
    exact ⟨k, hk, by rw [h2, dst_comm, ek]⟩
/-- what the first i floors cost -/
def cst (l : Nat → Int) (d : Nat → Int) : Nat → Int
  | 0 => 0
  | i + 1 => cst l d i + l i * d i
theorem cst_zero (l d : Nat → Int) : cst l d 0 = 0 := rfl
theorem cst_succ (l d : Nat → Int) (i : Nat) : cst l d (i + 1) = cst l d i + l i * d i := rfl
theorem mul_bd {x y X Y : Int} (h1 : 0 ≤ x) (h2 : x ≤ X) (h3 : 0 ≤ y) (h4 : y ≤ Y) : 0 ≤ x * y ∧ x * y ≤ X * Y :=
  ⟨Int.mul_nonneg h1 h3, Int.mul_le_mul h2 h4 h3 (Int.le_trans h1 h2)⟩
theorem cst_bd {l d : Nat → Int} {n : Nat} {Y : Int} (hl : ∀ i, i < n → 0 ≤ l i ∧ l i ≤ 1048576) (hd : ∀ i, i < n → 0 ≤ d i ∧ d i ≤ Y) : ∀ i, i ≤ n → 0 ≤ cst l d i ∧ cst l d i ≤ i * (1048576 * Y)
  | 0, _ => by rw [cst_zero]; constructor <;> simp
  | i + 1, hi => by
    have ih := cst_bd hl hd i (by omega)
    have a := hl i (by omega); have b := hd i (by omega)
    have c := mul_bd a.1 a.2 b.1 b.2
    rw [cst_succ]
    refine ⟨by omega, ?_⟩
    have e : ((i + 1 : Nat) : Int) * (1048576 * Y) = i * (1048576 * Y) + 1048576 * Y := by
      rw [Int.natCast_add, Int.add_mul]; simp
    rw [e]; omega
end Go.Proofs.Ytloplambpfjioaa
