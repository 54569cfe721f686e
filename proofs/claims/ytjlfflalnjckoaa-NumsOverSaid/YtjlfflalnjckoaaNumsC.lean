/- Contracts of nums.Div, Ceil and Mod and of the document's: quotients rounded down and up, and what is left. -/
import Derived.Test.YtjlfflalnjckoaaRows
import Derived.Test.YtjlfflalnjckoaaNumsMath
import Derived.Test.YtjlfflalnjckoaaNumsA
import Derived.Test.YtjlfflalnjckoaaNumsB
import Derived.WalkKit
import Derived.Lib.Hide
import Derived.WalkSpells
import Derived.WalkLawsBesides
namespace Go.Proofs.Ytjlfflalnjckoaa
open Go.RowKit
set_option linter.unusedSimpArgs false
set_option linter.unusedVariables false

set_option maxHeartbeats 400000 in
theorem div_zero (a : Int) (w : World) :
    Calls Try.prog 19 #[.int .i64 a, .int .i64 0] w fun e w' => e = .returned (.tuple #[.int .i64 0, .int .i64 11]) ∧ w = w' := by
  go_enter Try.func19, Try.ntmps19
  go_wp2
  go_ret2
  exact ⟨rfl, rfl⟩

set_option maxHeartbeats 400000 in
theorem ceil_zero (a : Int) (w : World) :
    Calls Try.prog 20 #[.int .i64 a, .int .i64 0] w fun e w' => e = .returned (.tuple #[.int .i64 0, .int .i64 11]) ∧ w = w' := by
  go_enter Try.func20, Try.ntmps20
  go_wp2
  go_ret2
  exact ⟨rfl, rfl⟩

set_option maxHeartbeats 1000000 in
theorem div_any (a b q r : Int) (w : World) (ha : -9223372036854775808 ≤ a) (ha' : a ≤ 9223372036854775807) (hb : -9223372036854775808 ≤ b) (hb' : b ≤ 9223372036854775807) (h : IsDiv a b q r) :
    Calls Try.prog 19 #[.int .i64 a, .int .i64 b] w fun e w' => e = .returned (.tuple #[.int .i64 (fitN q), .int .i64 (fitE q)]) ∧ w = w' := by
  have hb0 : b ≠ 0 := by obtain ⟨_, h⟩ := h; omega
  have H := Lib.hid h
  have hz : (b == 0) = false := by simp [hb0]
  by_cases hx : a = -9223372036854775808
  · by_cases hy : b = -1
    · subst hx hy
      have hq : q = 9223372036854775808 ∧ r = 0 := isDiv_uniq h ⟨by omega, by omega⟩
      clear h hz
      go_enter Try.func19, Try.ntmps19
      go_wp2
      go_ret2
      exact ⟨ret_fit (.inr ⟨by omega, rfl, rfl⟩), rfl⟩
    · obtain ⟨l1, l2, l3⟩ := tdiv_bd (a := a) hb0 ha ha' (by omega)
      have hx' : (a == -9223372036854775808) = true := by simp [hx]
      have hy' : (b == -1) = false := by simp [hy]
      have L := Lib.hid l3
      clear h l3 hy hx
      go_enter Try.func19, Try.ntmps19
      go_wp2
      · rename_i h1
        go_ret2
        have d := tdiv_zero H.out h1
        exact ⟨ret_fit (.inl (by omega)), rfl⟩
      · rename_i h0 h1
        go_ret2
        simp only [bne_iff_ne, bne_eq_false_iff_eq, Bool.not_eq_true', Bool.not_eq_false', beq_iff_eq, beq_eq_false_iff_ne, decide_eq_decide, decide_eq_true_eq, decide_eq_false_iff_not, ne_eq] at h1
        have d := tdiv_diff H.out h0 (by omega)
        have l := L.out h0
        refine ⟨ret_fit (.inl ?_), rfl⟩
        try simp only [wrap64, and_true]
        omega
      · rename_i h0 h1
        go_ret2
        simp only [bne_iff_ne, bne_eq_false_iff_eq, Bool.not_eq_true', Bool.not_eq_false', beq_iff_eq, beq_eq_false_iff_ne, decide_eq_decide, decide_eq_true_eq, decide_eq_false_iff_not, ne_eq] at h1
        have d := tdiv_same H.out h0 (by omega)
        have l := L.out h0
        refine ⟨ret_fit (.inl ?_), rfl⟩
        try simp only [wrap64, and_true]
        omega
  · obtain ⟨l1, l2, l3⟩ := tdiv_bd (a := a) hb0 ha ha' (by omega)
    have hx' : (a == -9223372036854775808) = false := by simp [hx]
    have L := Lib.hid l3
    clear h hx l3
    go_enter Try.func19, Try.ntmps19
    go_wp2
    · rename_i h1
      go_ret2
      have d := tdiv_zero H.out h1
      exact ⟨ret_fit (.inl (by omega)), rfl⟩
    · rename_i h0 h1
      go_ret2
      simp only [bne_iff_ne, bne_eq_false_iff_eq, Bool.not_eq_true', Bool.not_eq_false', beq_iff_eq, beq_eq_false_iff_ne, decide_eq_decide, decide_eq_true_eq, decide_eq_false_iff_not, ne_eq] at h1
      have d := tdiv_diff H.out h0 (by omega)
      have l := L.out h0
      refine ⟨ret_fit (.inl ?_), rfl⟩
      try simp only [wrap64, and_true]
      omega
    · rename_i h0 h1
      go_ret2
      simp only [bne_iff_ne, bne_eq_false_iff_eq, Bool.not_eq_true', Bool.not_eq_false', beq_iff_eq, beq_eq_false_iff_ne, decide_eq_decide, decide_eq_true_eq, decide_eq_false_iff_not, ne_eq] at h1
      have d := tdiv_same H.out h0 (by omega)
      have l := L.out h0
      refine ⟨ret_fit (.inl ?_), rfl⟩
      try simp only [wrap64, and_true]
      omega

set_option maxHeartbeats 1000000 in
theorem ceil_any (a b q r : Int) (w : World) (ha : -9223372036854775808 ≤ a) (ha' : a ≤ 9223372036854775807) (hb : -9223372036854775808 ≤ b) (hb' : b ≤ 9223372036854775807) (h : IsDiv a b q r) (c : Int) (hc : Hid ((r = 0 → c = q) ∧ (r ≠ 0 → c = q + 1))) :
    Calls Try.prog 20 #[.int .i64 a, .int .i64 b] w fun e w' => e = .returned (.tuple #[.int .i64 (fitN c), .int .i64 (fitE c)]) ∧ w = w' := by
  have hb0 : b ≠ 0 := by obtain ⟨_, h⟩ := h; omega
  have H := Lib.hid h
  have hz : (b == 0) = false := by simp [hb0]
  by_cases hx : a = -9223372036854775808
  · by_cases hy : b = -1
    · subst hx hy
      have hq : q = 9223372036854775808 ∧ r = 0 := isDiv_uniq h ⟨by omega, by omega⟩
      clear h hz
      go_enter Try.func20, Try.ntmps20
      go_wp2
      go_ret2
      have c1 := hc.out
      exact ⟨ret_fit (.inr ⟨by omega, rfl, rfl⟩), rfl⟩
    · obtain ⟨l1, l2, l3⟩ := tdiv_bd (a := a) hb0 ha ha' (by omega)
      have hx' : (a == -9223372036854775808) = true := by simp [hx]
      have hy' : (b == -1) = false := by simp [hy]
      have L := Lib.hid l3
      clear h l3 hy hx
      go_enter Try.func20, Try.ntmps20
      go_wp2
      · rename_i h1
        go_ret2
        have d := tdiv_zero H.out h1
        have c1 := hc.out
        exact ⟨ret_fit (.inl (by omega)), rfl⟩
      · rename_i h0 h1
        go_ret2
        simp only [bne_iff_ne, bne_eq_false_iff_eq, Bool.not_eq_true', Bool.not_eq_false', beq_iff_eq, beq_eq_false_iff_ne, decide_eq_decide, decide_eq_true_eq, decide_eq_false_iff_not, ne_eq] at h1
        have d := tdiv_same H.out h0 (by omega)
        have l := L.out h0
        have c1 := hc.out
        refine ⟨ret_fit (.inl ?_), rfl⟩
        try simp only [wrap64, and_true]
        omega
      · rename_i h0 h1
        go_ret2
        simp only [bne_iff_ne, bne_eq_false_iff_eq, Bool.not_eq_true', Bool.not_eq_false', beq_iff_eq, beq_eq_false_iff_ne, decide_eq_decide, decide_eq_true_eq, decide_eq_false_iff_not, ne_eq] at h1
        have d := tdiv_diff H.out h0 (by omega)
        have l := L.out h0
        have c1 := hc.out
        refine ⟨ret_fit (.inl ?_), rfl⟩
        try simp only [wrap64, and_true]
        omega
  · obtain ⟨l1, l2, l3⟩ := tdiv_bd (a := a) hb0 ha ha' (by omega)
    have hx' : (a == -9223372036854775808) = false := by simp [hx]
    have L := Lib.hid l3
    clear h hx l3
    go_enter Try.func20, Try.ntmps20
    go_wp2
    · rename_i h1
      go_ret2
      have d := tdiv_zero H.out h1
      have c1 := hc.out
      exact ⟨ret_fit (.inl (by omega)), rfl⟩
    · rename_i h0 h1
      go_ret2
      simp only [bne_iff_ne, bne_eq_false_iff_eq, Bool.not_eq_true', Bool.not_eq_false', beq_iff_eq, beq_eq_false_iff_ne, decide_eq_decide, decide_eq_true_eq, decide_eq_false_iff_not, ne_eq] at h1
      have d := tdiv_same H.out h0 (by omega)
      have l := L.out h0
      have c1 := hc.out
      refine ⟨ret_fit (.inl ?_), rfl⟩
      try simp only [wrap64, and_true]
      omega
    · rename_i h0 h1
      go_ret2
      simp only [bne_iff_ne, bne_eq_false_iff_eq, Bool.not_eq_true', Bool.not_eq_false', beq_iff_eq, beq_eq_false_iff_ne, decide_eq_decide, decide_eq_true_eq, decide_eq_false_iff_not, ne_eq] at h1
      have d := tdiv_diff H.out h0 (by omega)
      have l := L.out h0
      have c1 := hc.out
      refine ⟨ret_fit (.inl ?_), rfl⟩
      try simp only [wrap64, and_true]
      omega

set_option maxHeartbeats 400000 in
theorem mod_zero (a : Int) (w : World) :
    Calls Try.prog 21 #[.int .i64 a, .int .i64 0] w fun e w' => e = .returned (.tuple #[.int .i64 0, .int .i64 11]) ∧ w = w' := by
  go_enter Try.func21, Try.ntmps21
  go_wp2
  go_ret2
  exact ⟨rfl, rfl⟩

set_option maxHeartbeats 1000000 in
theorem mod_any (a b q r : Int) (w : World) (ha : -9223372036854775808 ≤ a) (ha' : a ≤ 9223372036854775807) (hb : -9223372036854775808 ≤ b) (hb' : b ≤ 9223372036854775807) (h : IsDiv a b q r) :
    Calls Try.prog 21 #[.int .i64 a, .int .i64 b] w fun e w' => e = .returned (.tuple #[.int .i64 r, .int .i64 0]) ∧ w = w' := by
  have hb0 : b ≠ 0 := by obtain ⟨_, h⟩ := h; omega
  have H := Lib.hid h
  have B := Lib.hid hb0
  have hz : (b == 0) = false := by simp [hb0]
  have R : -9223372036854775808 ≤ r ∧ r ≤ 9223372036854775807 := by obtain ⟨_, h⟩ := h; omega
  clear h
  go_enter Try.func21, Try.ntmps21
  go_wp2
  · rename_i h1
    go_ret2
    have d := tdiv_zero H.out h1
    exact ⟨ret2 (by omega) rfl, rfl⟩
  · rename_i h0 h1
    go_ret2
    simp only [bne_iff_ne, bne_eq_false_iff_eq, Bool.not_eq_true', Bool.not_eq_false', beq_iff_eq, beq_eq_false_iff_ne, decide_eq_decide, decide_eq_true_eq, decide_eq_false_iff_not, ne_eq] at h1
    have g := tmod_sign B.out h0
    have d := tdiv_diff H.out h0 (by omega)
    refine ⟨ret2 ?_ rfl, rfl⟩
    try simp only [wrap64, and_true]
    omega
  · rename_i h0 h1
    go_ret2
    simp only [bne_iff_ne, bne_eq_false_iff_eq, Bool.not_eq_true', Bool.not_eq_false', beq_iff_eq, beq_eq_false_iff_ne, decide_eq_decide, decide_eq_true_eq, decide_eq_false_iff_not, ne_eq] at h1
    have g := tmod_sign B.out h0
    have d := tdiv_same H.out h0 (by omega)
    refine ⟨ret2 ?_ rfl, rfl⟩
    omega
end Go.Proofs.Ytjlfflalnjckoaa
