/- Contracts of the document's Div, Ceil and Mod: by the sizes. -/
import Derived.Test.YtjlfflalnjckoaaRows
import Derived.Test.YtjlfflalnjckoaaNumsMath
import Derived.Test.YtjlfflalnjckoaaNumsA
import Derived.Test.YtjlfflalnjckoaaNumsB
import Derived.WalkKit
import Derived.Lib.Hide
import Derived.WalkSpells
import Derived.WalkLawsBesides
namespace Go.Proofs.Ytjlfflalnjckoaa
open Go.RowKit
set_option linter.unusedSimpArgs false
set_option linter.unusedVariables false

set_option maxHeartbeats 1000000 in
theorem rdiv_any (a b q r : Int) (w : World) (ha : -9223372036854775808 ≤ a) (ha' : a ≤ 9223372036854775807) (hb : -9223372036854775808 ≤ b) (hb' : b ≤ 9223372036854775807) (h : IsDiv a b q r) :
    Calls Try.prog 22 #[.int .i64 a, .int .i64 b] w fun e w' => e = .returned (.tuple #[.int .i64 (fitN q), .bool (fitB q)]) ∧ w = w' := by
  have hb0 : b ≠ 0 := by obtain ⟨_, h⟩ := h; omega
  have H := Lib.hid h
  have n0 : 0 ≤ (a.natAbs : Int) / (b.natAbs : Int) := Int.ediv_nonneg (by omega) (by omega)
  have n1 : (a.natAbs : Int) / (b.natAbs : Int) ≤ (a.natAbs : Int) := Int.ediv_le_self _ (by omega)
  have m0 := Int.emod_nonneg (a.natAbs : Int) (b := (b.natAbs : Int)) (by omega)
  have m1 := Int.emod_lt_of_pos (a.natAbs : Int) (b := (b.natAbs : Int)) (by omega)
  have e := Int.ediv_mul_add_emod (a.natAbs : Int) (b.natAbs : Int)
  have p0 : 0 ≤ (a.natAbs : Int) / (b.natAbs : Int) * (b.natAbs : Int) := Int.mul_nonneg n0 (by omega)
  have p1 : (a.natAbs : Int) / (b.natAbs : Int) * (b.natAbs : Int) ≤ (a.natAbs : Int) := by omega
  have E := Lib.hid e
  have z0 : 1 ≤ (b.natAbs : Int) := by omega
  clear h e
  go_enter Try.func22, Try.ntmps22
  go_wp2_with (first
    | (go_at_call 15; refine (rsize_any _ _ (by assumption) (by assumption)).mono ?_; rintro e w' ⟨rfl, rfl⟩)
    | (go_at_call 34; refine (rsigned_any _ _ _ (by omega) (by omega)).mono ?_; rintro e w' ⟨rfl, rfl⟩))
  · rename_i h1 h2
    go_ret2
    simp only [Bool.not_eq_true', Bool.not_eq_false', beq_iff_eq, beq_eq_false_iff_ne, decide_eq_decide, ne_eq] at h1
    have d := (size_div H.out).2.2 h1 (by have e := E.out; omega)
    exact ⟨ret_eqB (by simp only [sgI, if_true]; omega), rfl⟩
  · rename_i h1 h2
    go_ret2
    simp only [Bool.not_eq_true', Bool.not_eq_false', beq_iff_eq, beq_eq_false_iff_ne, decide_eq_decide, ne_eq] at h1
    have d := (size_div H.out).2.1 h1 (by have e := E.out; omega)
    exact ⟨ret_eqB (by simp only [sgI, if_true]; omega), rfl⟩
  · rename_i h1
    go_ret2
    simp only [Bool.not_eq_true', Bool.not_eq_false', beq_iff_eq, beq_eq_false_iff_ne, decide_eq_decide, ne_eq] at h1
    have d := (size_div H.out).1 h1
    exact ⟨ret_eqB (by simp only [sgI, Bool.false_eq_true, if_false]; omega), rfl⟩

set_option maxHeartbeats 1000000 in
theorem rceil_any (a b q r : Int) (w : World) (ha : -9223372036854775808 ≤ a) (ha' : a ≤ 9223372036854775807) (hb : -9223372036854775808 ≤ b) (hb' : b ≤ 9223372036854775807) (h : IsDiv a b q r) (c : Int) (hc : Hid ((r = 0 → c = q) ∧ (r ≠ 0 → c = q + 1))) :
    Calls Try.prog 23 #[.int .i64 a, .int .i64 b] w fun e w' => e = .returned (.tuple #[.int .i64 (fitN c), .bool (fitB c)]) ∧ w = w' := by
  have hb0 : b ≠ 0 := by obtain ⟨_, h⟩ := h; omega
  have H := Lib.hid h
  have n0 : 0 ≤ (a.natAbs : Int) / (b.natAbs : Int) := Int.ediv_nonneg (by omega) (by omega)
  have n1 : (a.natAbs : Int) / (b.natAbs : Int) ≤ (a.natAbs : Int) := Int.ediv_le_self _ (by omega)
  have m0 := Int.emod_nonneg (a.natAbs : Int) (b := (b.natAbs : Int)) (by omega)
  have m1 := Int.emod_lt_of_pos (a.natAbs : Int) (b := (b.natAbs : Int)) (by omega)
  have e := Int.ediv_mul_add_emod (a.natAbs : Int) (b.natAbs : Int)
  have p0 : 0 ≤ (a.natAbs : Int) / (b.natAbs : Int) * (b.natAbs : Int) := Int.mul_nonneg n0 (by omega)
  have p1 : (a.natAbs : Int) / (b.natAbs : Int) * (b.natAbs : Int) ≤ (a.natAbs : Int) := by omega
  have E := Lib.hid e
  have z0 : 1 ≤ (b.natAbs : Int) := by omega
  clear h e
  go_enter Try.func23, Try.ntmps23
  go_wp2_with (first
    | (go_at_call 15; refine (rsize_any _ _ (by assumption) (by assumption)).mono ?_; rintro e w' ⟨rfl, rfl⟩)
    | (go_at_call 34; refine (rsigned_any _ _ _ (by omega) (by omega)).mono ?_; rintro e w' ⟨rfl, rfl⟩))
  · rename_i h1 h2
    go_ret2
    simp only [Bool.not_eq_true', Bool.not_eq_false', beq_iff_eq, beq_eq_false_iff_ne, decide_eq_decide, ne_eq] at h1
    have d := (size_div H.out).1 h1
    have e := E.out
    have c1 := hc.out
    refine ⟨ret_eqB ?_, rfl⟩
    have g : r ≠ 0 := by rw [d.2]; cases decide (b < 0) <;> simp only [sgI, Bool.false_eq_true, if_false, if_true] <;> omega
    have c2 := c1.2 g
    simp only [sgI, Bool.false_eq_true, if_false]
    omega
  · rename_i h1 h2
    go_ret2
    simp only [Bool.not_eq_true', Bool.not_eq_false', beq_iff_eq, beq_eq_false_iff_ne, decide_eq_decide, ne_eq] at h1
    have d := (size_div H.out).1 h1
    have e := E.out
    have c1 := hc.out
    refine ⟨ret_eqB ?_, rfl⟩
    have g : r = 0 := by rw [d.2]; cases decide (b < 0) <;> simp only [sgI, Bool.false_eq_true, if_false, if_true] <;> omega
    have c2 := c1.1 g
    simp only [sgI, Bool.false_eq_true, if_false]
    omega
  · rename_i h1
    go_ret2
    simp only [Bool.not_eq_true', Bool.not_eq_false', beq_iff_eq, beq_eq_false_iff_ne, decide_eq_decide, ne_eq] at h1
    have e := E.out
    have c1 := hc.out
    refine ⟨ret_eqB ?_, rfl⟩
    simp only [sgI, if_true]
    by_cases hm : (a.natAbs : Int) % (b.natAbs : Int) = 0
    · have d := (size_div H.out).2.1 h1 hm
      have c2 := c1.1 d.2
      omega
    · have d := (size_div H.out).2.2 h1 (by omega)
      have g : r ≠ 0 := by rw [d.2]; cases decide (b < 0) <;> simp only [sgI, Bool.false_eq_true, if_false, if_true] <;> omega
      have c2 := c1.2 g
      omega

set_option maxHeartbeats 1000000 in
theorem rmod_any (a b q r : Int) (w : World) (ha : -9223372036854775808 ≤ a) (ha' : a ≤ 9223372036854775807) (hb : -9223372036854775808 ≤ b) (hb' : b ≤ 9223372036854775807) (h : IsDiv a b q r) :
    Calls Try.prog 24 #[.int .i64 a, .int .i64 b] w fun e w' => e = .returned (.int .i64 r) ∧ w = w' := by
  have hb0 : b ≠ 0 := by obtain ⟨_, h⟩ := h; omega
  have H := Lib.hid h
  have n0 : 0 ≤ (a.natAbs : Int) / (b.natAbs : Int) := Int.ediv_nonneg (by omega) (by omega)
  have n1 : (a.natAbs : Int) / (b.natAbs : Int) ≤ (a.natAbs : Int) := Int.ediv_le_self _ (by omega)
  have m0 := Int.emod_nonneg (a.natAbs : Int) (b := (b.natAbs : Int)) (by omega)
  have m1 := Int.emod_lt_of_pos (a.natAbs : Int) (b := (b.natAbs : Int)) (by omega)
  have e := Int.ediv_mul_add_emod (a.natAbs : Int) (b.natAbs : Int)
  have p0 : 0 ≤ (a.natAbs : Int) / (b.natAbs : Int) * (b.natAbs : Int) := Int.mul_nonneg n0 (by omega)
  have p1 : (a.natAbs : Int) / (b.natAbs : Int) * (b.natAbs : Int) ≤ (a.natAbs : Int) := by omega
  have E := Lib.hid e
  have z0 : 1 ≤ (b.natAbs : Int) := by omega
  clear h e
  go_enter Try.func24, Try.ntmps24
  go_wp2_with (first
    | (go_at_call 15; refine (rsize_any _ _ (by assumption) (by assumption)).mono ?_; rintro e w' ⟨rfl, rfl⟩)
    | (go_at_call 34; refine (rsigned_any _ _ _ (by omega) (by omega)).mono ?_; rintro e w' ⟨rfl, rfl⟩))
  · rename_i h2 h1
    go_ret
    simp only [Bool.not_eq_true', Bool.not_eq_false', beq_iff_eq, beq_eq_false_iff_ne, decide_eq_decide, ne_eq] at h1
    have d := (size_div H.out).2.2 h1 h2
    exact ⟨ret_fit1 d.2.symm (by have h := H.out.2; omega), rfl⟩
  · rename_i h2 h1
    go_ret
    simp only [Bool.not_eq_true', Bool.not_eq_false', beq_iff_eq, beq_eq_false_iff_ne, decide_eq_decide, ne_eq] at h1
    have d := (size_div H.out).1 h1
    exact ⟨ret_fit1 d.2.symm (by have h := H.out.2; omega), rfl⟩
  · rename_i h2
    go_ret
    have h3 : (a.natAbs : Int) % (b.natAbs : Int) = 0 := by omega
    by_cases h1 : a < 0 ↔ b < 0
    · have d := (size_div H.out).1 h1
      exact ⟨ret_fit1 d.2.symm (by have h := H.out.2; omega), rfl⟩
    · have d := (size_div H.out).2.1 h1 h3
      refine ⟨ret_fit1 (n := r) ?_ (by have h := H.out.2; omega), rfl⟩
      rw [h3, d.2]
      cases decide (b < 0) <;> rfl
end Go.Proofs.Ytjlfflalnjckoaa
