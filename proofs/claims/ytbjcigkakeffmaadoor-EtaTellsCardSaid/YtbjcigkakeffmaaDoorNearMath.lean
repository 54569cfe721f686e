/- The place of the least number: the plain mathematics. -/
import Derived.Test.YtbjcigkakeffmaaDoorKitM
namespace Go.Proofs.YtbjcigkakeffmaaDoor
/-- the place of the least of the first k numbers, the first one of several -/
def lstN (zs : List Int) : Nat → Nat
  | 0 => 0
  | k + 1 => if k = 0 then 0 else if zat zs k < zat zs (lstN zs k) then k else lstN zs k
theorem lst_one (zs : List Int) : lstN zs 1 = 0 := rfl
theorem lst_new {zs : List Int} {k : Nat} (hk : 0 < k) (h : zat zs k < zat zs (lstN zs k)) : lstN zs (k + 1) = k := by
  show (if k = 0 then 0 else if zat zs k < zat zs (lstN zs k) then k else lstN zs k) = k
  rw [if_neg (by omega), if_pos h]
theorem lst_old {zs : List Int} {k : Nat} (hk : 0 < k) (h : ¬ zat zs k < zat zs (lstN zs k)) : lstN zs (k + 1) = lstN zs k := by
  show (if k = 0 then 0 else if zat zs k < zat zs (lstN zs k) then k else lstN zs k) = lstN zs k
  rw [if_neg (by omega), if_neg h]
theorem lst_lt (zs : List Int) : ∀ k, 0 < k → lstN zs k < k
  | 0, h => absurd h (by omega)
  | 1, _ => by rw [lst_one]; omega
  | k + 2, _ => by
    have := lst_lt zs (k + 1) (by omega)
    by_cases h : zat zs (k + 1) < zat zs (lstN zs (k + 1))
    · rw [lst_new (by omega) h]; omega
    · rw [lst_old (by omega) h]; omega
theorem lst_le (zs : List Int) : ∀ k i, i < k → zat zs (lstN zs k) ≤ zat zs i
  | 0, i, h => absurd h (by omega)
  | 1, i, h => by rw [lst_one, show i = 0 by omega]; exact Int.le_refl _
  | k + 2, i, hi => by
    by_cases h : zat zs (k + 1) < zat zs (lstN zs (k + 1))
    · rw [lst_new (by omega) h]
      by_cases e : i = k + 1
      · rw [e]; exact Int.le_refl _
      · have := lst_le zs (k + 1) i (by omega); omega
    · rw [lst_old (by omega) h]
      by_cases e : i = k + 1
      · rw [e]; omega
      · exact lst_le zs (k + 1) i (by omega)
theorem lst_first (zs : List Int) : ∀ k i, i < lstN zs k → zat zs (lstN zs k) < zat zs i
  | 0, i, h => absurd h (by simp [lstN])
  | 1, i, h => absurd h (by rw [lst_one]; omega)
  | k + 2, i, hi => by
    by_cases h : zat zs (k + 1) < zat zs (lstN zs (k + 1))
    · rw [lst_new (by omega) h] at hi ⊢
      have := lst_le zs (k + 1) i hi; omega
    · rw [lst_old (by omega) h] at hi ⊢
      exact lst_first zs (k + 1) i hi
/-- the same as it is answered: below 0 there is none -/
def lstV (zs : List Int) (k : Nat) : Int := if k = 0 then -1 else (lstN zs k : Nat)
theorem lstV_zero (zs : List Int) : lstV zs 0 = -1 := rfl
theorem lstV_pos (zs : List Int) {k : Nat} (h : 0 < k) : lstV zs k = (lstN zs k : Nat) := if_neg (by omega)
end Go.Proofs.YtbjcigkakeffmaaDoor
