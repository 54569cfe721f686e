/- Contracts of the document's Cost and Least for calls; the scenario within. -/
import Derived.Test.YteebeiflipfbkaaDoorRows
import Derived.Test.YteebeiflipfbkaaDoorRowKit
import Derived.Test.YteebeiflipfbkaaDoorRowS
import Derived.Test.YteebeiflipfbkaaDoorRowZ
import Derived.Test.YteebeiflipfbkaaDoorRowV
import Derived.Test.YteebeiflipfbkaaDoorSlicesEq
import Derived.Test.YteebeiflipfbkaaDoorCmp
import Derived.Test.YteebeiflipfbkaaDoorPlaceA
import Derived.Test.YteebeiflipfbkaaDoorNearMath
import Derived.Test.YteebeiflipfbkaaDoorNearA
import Derived.Test.YteebeiflipfbkaaDoorNearB
import Derived.WalkKit
import Derived.IntWalk
import Derived.Lib.Hide
import Derived.WalkSpells
import Derived.WalkLawsBesides
import Derived.Deep.QuietTactic
import Derived.BigQuiet
import Derived.Below
namespace Go.Proofs.YteebeiflipfbkaaDoor
open Go.RowKit
set_option linter.unusedSimpArgs false
set_option linter.unusedVariables false
theorem away_iff {m p d : Int} (h : d = 1 ∨ d = -1) : (m - p) * d < 0 ↔ cmpI m p = -d := by
  unfold cmpI
  rcases h with rfl | rfl
  · rw [Int.mul_one]; constructor
    · intro h; rw [if_pos (by omega)]
    · intro h; split at h
      · omega
      · split at h <;> omega
  · rw [Int.mul_neg, Int.mul_one]; constructor
    · intro h; rw [if_neg (by omega), if_pos (by omega)]; rfl
    · intro h; split at h
      · omega
      · split at h <;> omega
theorem high_eq {a b t : Int} (h : (a - 1) * b = t) : b * a = t + b := by rw [Int.sub_mul, Int.one_mul] at h; rw [Int.mul_comm b a]; omega
theorem mul_d {x d : Int} (h : d = 1 ∨ d = 0 ∨ d = -1) : x * d = x ∨ x * d = 0 ∨ x * d = -x := by
  rcases h with rfl | rfl | rfl
  · exact Or.inl (Int.mul_one x)
  · exact Or.inr (Or.inl (Int.mul_zero x))
  · exact Or.inr (Or.inr (by rw [Int.mul_neg, Int.mul_one]))
/-- the place of the least one, gone through from the end: of the numbers from k on -/
def lstD (zs : List Int) : Nat → Nat → Int
  | 0, k => -1
  | n + 1, k => if lstD zs n k < 0 then ((k - 1 - n : Nat) : Int) else if zat zs (k - 1 - n) ≤ zat zs (lstD zs n k).toNat then ((k - 1 - n : Nat) : Int) else lstD zs n k
theorem lstD_ok (zs : List Int) (k : Nat) : ∀ n, 0 < n → n ≤ k → ∃ a : Nat, lstD zs n k = (a : Int) ∧ k - n ≤ a ∧ a < k ∧ (∀ i, k - n ≤ i → i < k → zat zs a ≤ zat zs i) ∧ (∀ i, k - n ≤ i → i < a → zat zs a < zat zs i)
  | 0, h, _ => absurd h (by omega)
  | 1, _, h => by
    refine ⟨k - 1, ?_, by omega, by omega, fun i h1 h2 => by rw [show i = k - 1 by omega]; exact Int.le_refl _, fun i h1 h2 => absurd h2 (by omega)⟩
    show (if (-1 : Int) < 0 then ((k - 1 - 0 : Nat) : Int) else _) = _
    rw [if_pos (by decide)]; rfl
  | n + 2, _, h => by
    obtain ⟨a, e, a1, a2, le, lt⟩ := lstD_ok zs k (n + 1) (by omega) (by omega)
    have E : lstD zs (n + 2) k = if zat zs (k - 1 - (n + 1)) ≤ zat zs a then ((k - 1 - (n + 1) : Nat) : Int) else (a : Int) := by
      show (if lstD zs (n + 1) k < 0 then _ else if zat zs (k - 1 - (n + 1)) ≤ zat zs (lstD zs (n + 1) k).toNat then _ else lstD zs (n + 1) k) = _
      rw [e, if_neg (by omega), Int.toNat_natCast]
    by_cases c : zat zs (k - 1 - (n + 1)) ≤ zat zs a
    · refine ⟨k - 1 - (n + 1), by rw [E, if_pos c], by omega, by omega, fun i h1 h2 => ?_, fun i h1 h2 => absurd h2 (by omega)⟩
      by_cases ei : i = k - 1 - (n + 1)
      · rw [ei]; exact Int.le_refl _
      · have := le i (by omega) h2; omega
    · refine ⟨a, by rw [E, if_neg c], by omega, a2, fun i h1 h2 => ?_, fun i h1 h2 => ?_⟩
      · by_cases ei : i = k - 1 - (n + 1)
        · rw [ei]; omega
        · exact le i (by omega) h2
      · by_cases ei : i = k - 1 - (n + 1)
        · rw [ei]; omega
        · exact lt i (by omega) h2
theorem lstD_eq (zs : List Int) (k : Nat) : lstD zs k k = lstV zs k := by
  by_cases h : 0 < k
  · obtain ⟨a, e, _, a2, le, lt⟩ := lstD_ok zs k k h (Nat.le_refl _)
    rw [e, lstV_pos zs h]
    have b1 := lst_lt zs k h
    have b2 := lst_le zs k
    have b3 := lst_first zs k
    congr 1
    rcases Nat.lt_trichotomy a (lstN zs k) with c | c | c
    · have := b3 a c; have := le (lstN zs k) (by omega) b1; omega
    · exact c
    · have := lt (lstN zs k) (by omega) c; have := b2 a a2; omega
  · rw [show k = 0 by omega]; rfl
/-- a car's numbers -/
theorem car_at {w : World} {A : Option Addr} {n : Nat} {v : Nat → Nat → Value} (h : RdV w 6 shCar A n v) {i : Nat} (hi : i < n) :
    ∃ (z : Nat → Int) (b : Bool) (R : Option Addr) (k c : Nat), v i 0 = .int .i64 (z 0) ∧ v i 1 = .int .i64 (z 1) ∧ v i 2 = .int .i64 (z 2) ∧ v i 3 = .int .i64 (z 3) ∧ v i 4 = .bool b ∧ v i 5 = .slice R k c ∧ k ≤ maxLen ∧ (-9223372036854775808 ≤ z 0 ∧ z 0 ≤ 9223372036854775807) ∧ (-9223372036854775808 ≤ z 1 ∧ z 1 ≤ 9223372036854775807) := by
  obtain ⟨z0, e0, w0⟩ : ShI (v i 0) := h.sh (j := 0) hi (by omega)
  obtain ⟨z1, e1, w1⟩ : ShI (v i 1) := h.sh (j := 1) hi (by omega)
  obtain ⟨z2, e2, _⟩ : ShI (v i 2) := h.sh (j := 2) hi (by omega)
  obtain ⟨z3, e3, _⟩ : ShI (v i 3) := h.sh (j := 3) hi (by omega)
  obtain ⟨b, e4⟩ : ShB (v i 4) := h.sh (j := 4) hi (by omega)
  obtain ⟨R, k, c, e5, h1, h2⟩ : ShS (v i 5) := h.sh (j := 5) hi (by omega)
  exact ⟨fun j => if j = 0 then z0 else if j = 1 then z1 else if j = 2 then z2 else z3, b, R, k, c, e0, e1, e2, e3, e4, e5, by omega, bounds_i64 w0, bounds_i64 w1⟩
/-- the cost of a car of a row -/
def cstF (v : Nat → Nat → Value) (m t dir : Int) (i : Nat) : Int := costV (intOf (v i 0)) m t (intOf (v i 1)) dir
/-- cars within a building -/
def InB (v : Nat → Nat → Value) (n : Nat) (t : Int) : Prop := ∀ i, i < n → (0 ≤ intOf (v i 0) ∧ intOf (v i 0) ≤ t) ∧ (-1 ≤ intOf (v i 1) ∧ intOf (v i 1) ≤ 1)
theorem cst_bd {v : Nat → Nat → Value} {n i : Nat} {m t dir : Int} (h : InB v n t) (hi : i < n) (m0 : 0 ≤ m) (m1 : m ≤ t) (t1 : t ≤ 1048576) : 0 ≤ cstF v m t dir i ∧ cstF v m t dir i ≤ 4194304 := by
  obtain ⟨⟨a, b⟩, _⟩ := h i hi
  unfold cstF costV
  have f := far_bd (p := intOf (v i 0)) (m := m) a (by omega) m0 (by omega)
  split
  · omega
  · split
    · omega
    · split <;> omega
end Go.Proofs.YteebeiflipfbkaaDoor
