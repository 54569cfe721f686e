/- Legs: what each adds to the sums of what a car does (plain mathematics). -/
import Derived.Test.YtodfjghgcphhhaaGanttMath
namespace Go.Proofs.Ytodfjghgcphhhaa
set_option linter.unusedVariables false
/-- the tick of a leg at which it is first told, in its leg -/
theorem first_in {T : Nat → Int} {n i : Nat} {a b : Int} (hr : Rises T n) (hi : i < n) (hlt : max (T i) a < cutL T n b i) : lastL T (max (T i) a) n = i + 1 := by
  refine in_leg hr hi (by omega) fun h => ?_
  unfold cutL at hlt
  rw [if_pos h] at hlt
  omega
theorem cut_le {T : Nat → Int} {n i : Nat} {b t : Int} (h : t < cutL T n b i) : i + 1 < n → t < T (i + 1) := fun h1 => by
  unfold cutL at h
  rw [if_pos h1] at h
  omega
theorem dor_in (O : Nat → Bool) (i : Nat) : dorL O (i + 1) = O i := by unfold dorL; rw [if_neg (by omega)]; simp
theorem up_step {T P D : Nat → Int} {O : Nat → Bool} {n i : Nat} {a b : Int} (hr : Rises T n) (hi : i < n) (hb : T i < b) (hlt : max (T i) a < cutL T n b i) (hO : O i = false) :
    partL (upL T P D O n) T n a b (i + 1) = partL (upL T P D O n) T n a b i + (if 0 < cameL T P D n (max (T i) a) then 1 else 0) + (if 0 < D i then cutL T n b i - max (T i) a - 1 else 0) := by
  rw [part_step (g := if 0 < D i then 1 else 0) hr hi hb hlt (fun t h1 h2 => by
    unfold upL
    rw [in_leg hr hi (by omega) (cut_le h2), dor_in, came_in hr hi (by omega) (cut_le h2), hO]
    simp)]
  unfold addL
  have e : upL T P D O n (max (T i) a) = if 0 < cameL T P D n (max (T i) a) then 1 else 0 := by
    unfold upL
    rw [first_in hr hi hlt, dor_in, hO]
    simp
  rw [e]
  split <;> split <;> omega
theorem dn_step {T P D : Nat → Int} {O : Nat → Bool} {n i : Nat} {a b : Int} (hr : Rises T n) (hi : i < n) (hb : T i < b) (hlt : max (T i) a < cutL T n b i) (hO : O i = false) :
    partL (dnL T P D O n) T n a b (i + 1) = partL (dnL T P D O n) T n a b i + (if cameL T P D n (max (T i) a) < 0 then 1 else 0) + (if D i < 0 then cutL T n b i - max (T i) a - 1 else 0) := by
  rw [part_step (g := if D i < 0 then 1 else 0) hr hi hb hlt (fun t h1 h2 => by
    unfold dnL
    rw [in_leg hr hi (by omega) (cut_le h2), dor_in, came_in hr hi (by omega) (cut_le h2), hO]
    simp)]
  unfold addL
  have e : dnL T P D O n (max (T i) a) = if cameL T P D n (max (T i) a) < 0 then 1 else 0 := by
    unfold dnL
    rw [first_in hr hi hlt, dor_in, hO]
    simp
  rw [e]
  split <;> split <;> omega
theorem door_step {T : Nat → Int} {O : Nat → Bool} {n i : Nat} {a b : Int} (hr : Rises T n) (hi : i < n) (hb : T i < b) (hlt : max (T i) a < cutL T n b i) :
    partL (doL T O n) T n a b (i + 1) = partL (doL T O n) T n a b i + (if O i = true then cutL T n b i - max (T i) a else 0) := by
  rw [part_step (g := if O i = true then 1 else 0) hr hi hb hlt (fun t h1 h2 => by
    unfold doL
    rw [in_leg hr hi (by omega) (cut_le h2), dor_in])]
  unfold addL
  have e : doL T O n (max (T i) a) = if O i = true then 1 else 0 := by
    unfold doL
    rw [first_in hr hi hlt, dor_in]
  rw [e]
  split <;> omega
theorem still_step {T P D : Nat → Int} {O : Nat → Bool} {n i : Nat} {a b : Int} (hr : Rises T n) (hi : i < n) (hb : T i < b) (hlt : max (T i) a < cutL T n b i) (hO : O i = true) :
    partL (upL T P D O n) T n a b (i + 1) = partL (upL T P D O n) T n a b i ∧ partL (dnL T P D O n) T n a b (i + 1) = partL (dnL T P D O n) T n a b i := by
  constructor
  · rw [part_step (g := 0) hr hi hb hlt (fun t h1 h2 => by
      unfold upL
      rw [in_leg hr hi (by omega) (cut_le h2), dor_in, hO]
      simp)]
    unfold addL
    have e : upL T P D O n (max (T i) a) = 0 := by
      unfold upL
      rw [first_in hr hi hlt, dor_in, hO]
      simp
    rw [e]; omega
  · rw [part_step (g := 0) hr hi hb hlt (fun t h1 h2 => by
      unfold dnL
      rw [in_leg hr hi (by omega) (cut_le h2), dor_in, hO]
      simp)]
    unfold addL
    have e : dnL T P D O n (max (T i) a) = 0 := by
      unfold dnL
      rw [first_in hr hi hlt, dor_in, hO]
      simp
    rw [e]; omega
theorem up01 (T P D : Nat → Int) (O : Nat → Bool) (n : Nat) (t : Int) : 0 ≤ upL T P D O n t ∧ upL T P D O n t ≤ 1 := by unfold upL; split <;> omega
theorem dn01 (T P D : Nat → Int) (O : Nat → Bool) (n : Nat) (t : Int) : 0 ≤ dnL T P D O n t ∧ dnL T P D O n t ≤ 1 := by unfold dnL; split <;> omega
theorem do01 (T : Nat → Int) (O : Nat → Bool) (n : Nat) (t : Int) : 0 ≤ doL T O n t ∧ doL T O n t ≤ 1 := by unfold doL; split <;> omega
theorem up00 (T P D : Nat → Int) (O : Nat → Bool) (n : Nat) (t : Int) (h : lastL T t n = 0) : upL T P D O n t = 0 := by unfold upL cameL; rw [h]; simp
theorem dn00 (T P D : Nat → Int) (O : Nat → Bool) (n : Nat) (t : Int) (h : lastL T t n = 0) : dnL T P D O n t = 0 := by unfold dnL cameL; rw [h]; simp
theorem do00 (T : Nat → Int) (O : Nat → Bool) (n : Nat) (t : Int) (h : lastL T t n = 0) : doL T O n t = 0 := by unfold doL; rw [h]; simp [dorL]
theorem part_bd {f : Int → Int} {T : Nat → Int} {n i : Nat} {a b : Int} (h : ∀ t, 0 ≤ f t ∧ f t ≤ 1) (hb : b ≤ a + 300) : 0 ≤ partL f T n a b i ∧ partL f T n a b i ≤ 300 := by
  unfold partL
  have h1 := sumF_bd f a h (endL T n a b i - a).toNat
  have h2 := endL_ge T n a b i
  omega
end Go.Proofs.Ytodfjghgcphhhaa
