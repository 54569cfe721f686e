/- Lexer: Letter, Digit, Blank, lead, value; the document's kind. -/
import Derived.Test.YthchgjjnlnadnaaRows
import Derived.Test.YthchgjjnlnadnaaRowKit
import Derived.Test.YthchgjjnlnadnaaShelf
import Derived.Test.YthchgjjnlnadnaaBlocks
import Derived.Test.YthchgjjnlnadnaaBL
import Derived.Test.YthchgjjnlnadnaaLexM
import Derived.WalkKit
import Derived.IntWalk
import Derived.Lib.Hide
import Derived.WalkSpells
import Derived.WalkLawsBesides
import Derived.Laws.IdiomStrings
import Derived.Laws.OwnMore
import Derived.OwnWalk
import Derived.Deep.QuietTactic
import Derived.BigQuiet
import Derived.BigRegion
import Derived.Deep.LoopGhost
namespace Go.Proofs.Ythchgjjnlnadnaa
open Go.RowKit Go.Sort
set_option linter.unusedSimpArgs false
set_option linter.unusedVariables false
theorem ixL (L : List UInt8) (k : Nat) (x : UInt8) (hL : L[k]? = some x) : ∀ h : k < (bL L).size, ((bL L)[k]'h).toNat = x.toNat := fun h => by
  have hk : k < L.length := by rw [bL_size] at h; exact h
  rw [bL_at L k h hk]
  rw [List.getElem?_eq_getElem hk] at hL
  injection hL with hL
  rw [hL]
theorem u8_in (d : Nat) (h : d < 256) : IntKind.u8.wrap (d : Int) = (d : Int) := by
  have e : IntKind.u8.wrap (d : Int) = (d : Int) % 256 := rfl
  rw [e]; omega
theorem letter_any (x : Nat) (w : World) : Calls Try.prog 12 #[.int .u8 x] w fun e w' => e = .returned (.bool (decide (97 ≤ x ∧ x ≤ 122))) ∧ w = w' := by
  by_cases h1 : 97 ≤ x
  · have i1 : (97 : Int) ≤ (x : Int) := by omega
    by_cases h2 : x ≤ 122
    · have i2 : (x : Int) ≤ 122 := by omega
      have e : decide (97 ≤ x ∧ x ≤ 122) = true := by rw [decide_eq_true_iff]; omega
      rw [e]
      go_enter Try.func12, Try.ntmps12
      go_wp2_with fail
      go_ret
      exact ⟨rfl, rfl⟩
    · have i2 : ¬ (x : Int) ≤ 122 := by omega
      have e : decide (97 ≤ x ∧ x ≤ 122) = false := by rw [decide_eq_false_iff_not]; omega
      rw [e]
      go_enter Try.func12, Try.ntmps12
      go_wp2_with fail
      go_ret
      exact ⟨rfl, rfl⟩
  · have i1 : ¬ (97 : Int) ≤ (x : Int) := by omega
    have e : decide (97 ≤ x ∧ x ≤ 122) = false := by rw [decide_eq_false_iff_not]; omega
    rw [e]
    go_enter Try.func12, Try.ntmps12
    go_wp2_with fail
    go_ret
    exact ⟨rfl, rfl⟩
theorem digit_any (x : Nat) (w : World) : Calls Try.prog 13 #[.int .u8 x] w fun e w' => e = .returned (.bool (decide (48 ≤ x ∧ x ≤ 57))) ∧ w = w' := by
  by_cases h1 : 48 ≤ x
  · have i1 : (48 : Int) ≤ (x : Int) := by omega
    by_cases h2 : x ≤ 57
    · have i2 : (x : Int) ≤ 57 := by omega
      have e : decide (48 ≤ x ∧ x ≤ 57) = true := by rw [decide_eq_true_iff]; omega
      rw [e]
      go_enter Try.func13, Try.ntmps13
      go_wp2_with fail
      go_ret
      exact ⟨rfl, rfl⟩
    · have i2 : ¬ (x : Int) ≤ 57 := by omega
      have e : decide (48 ≤ x ∧ x ≤ 57) = false := by rw [decide_eq_false_iff_not]; omega
      rw [e]
      go_enter Try.func13, Try.ntmps13
      go_wp2_with fail
      go_ret
      exact ⟨rfl, rfl⟩
  · have i1 : ¬ (48 : Int) ≤ (x : Int) := by omega
    have e : decide (48 ≤ x ∧ x ≤ 57) = false := by rw [decide_eq_false_iff_not]; omega
    rw [e]
    go_enter Try.func13, Try.ntmps13
    go_wp2_with fail
    go_ret
    exact ⟨rfl, rfl⟩
theorem blk_any (x : Nat) (w : World) : Calls Try.prog 14 #[.int .u8 x] w fun e w' => e = .returned (.bool (decide (x = 32 ∨ x = 9 ∨ x = 13))) ∧ w = w' := by
  by_cases h1 : x = 32
  · subst h1
    go_enter Try.func14, Try.ntmps14
    go_wp2_with fail
    go_ret
    exact ⟨rfl, rfl⟩
  by_cases h2 : x = 9
  · subst h2
    go_enter Try.func14, Try.ntmps14
    go_wp2_with fail
    go_ret
    exact ⟨rfl, rfl⟩
  by_cases h3 : x = 13
  · subst h3
    go_enter Try.func14, Try.ntmps14
    go_wp2_with fail
    go_ret
    exact ⟨rfl, rfl⟩
  have q32 : ((x : Int) == 32) = false := by rw [beq_eq_false_iff_ne]; omega
  have q9 : ((x : Int) == 9) = false := by rw [beq_eq_false_iff_ne]; omega
  have q13 : ((x : Int) == 13) = false := by rw [beq_eq_false_iff_ne]; omega
  have e : decide (x = 32 ∨ x = 9 ∨ x = 13) = false := by rw [decide_eq_false_iff_not]; omega
  rw [e]
  clear h1 h2 h3 e
  go_enter Try.func14, Try.ntmps14
  go_wp2_with fail
  go_ret
  exact ⟨rfl, rfl⟩
def kndN (x : Nat) : Nat := if x = 32 ∨ x = 9 ∨ x = 13 then 1 else if x = 35 then 2 else if x = 10 then 3 else if 97 ≤ x ∧ x ≤ 122 then 4 else if 48 ≤ x ∧ x ≤ 57 then 5 else 0
theorem kndL_eq (c : UInt8) : kndL c = kndN c.toNat := rfl
theorem kind_any (x : Nat) (w : World) : Calls Try.prog 17 #[.int .u8 x] w fun e w' => e = .returned (.int .i64 (kndN x : Nat)) ∧ w = w' := by
  by_cases h32 : x = 32
  · subst h32
    go_enter Try.func17, Try.ntmps17
    go_wp2_with fail
    go_ret
    exact ⟨rfl, rfl⟩
  have q32 : ((x : Int) == 32) = false := by rw [beq_eq_false_iff_ne]; omega
  by_cases h9 : x = 9
  · subst h9
    go_enter Try.func17, Try.ntmps17
    go_wp2_with fail
    go_ret
    exact ⟨rfl, rfl⟩
  have q9 : ((x : Int) == 9) = false := by rw [beq_eq_false_iff_ne]; omega
  by_cases h13 : x = 13
  · subst h13
    go_enter Try.func17, Try.ntmps17
    go_wp2_with fail
    go_ret
    exact ⟨rfl, rfl⟩
  have q13 : ((x : Int) == 13) = false := by rw [beq_eq_false_iff_ne]; omega
  by_cases h35 : x = 35
  · subst h35
    go_enter Try.func17, Try.ntmps17
    go_wp2_with fail
    go_ret
    exact ⟨rfl, rfl⟩
  have q35 : ((x : Int) == 35) = false := by rw [beq_eq_false_iff_ne]; omega
  by_cases h10 : x = 10
  · subst h10
    go_enter Try.func17, Try.ntmps17
    go_wp2_with fail
    go_ret
    exact ⟨rfl, rfl⟩
  have q10 : ((x : Int) == 10) = false := by rw [beq_eq_false_iff_ne]; omega
  have e0 : kndN x = if 97 ≤ x ∧ x ≤ 122 then 4 else if 48 ≤ x ∧ x ≤ 57 then 5 else 0 := by
    unfold kndN
    rw [if_neg (by omega), if_neg h35, if_neg h10]
  by_cases hL : 97 ≤ x ∧ x ≤ 122
  · have e : kndN x = 4 := by rw [e0, if_pos hL]
    have i1 : (97 : Int) ≤ (x : Int) := by omega
    have i2 : (x : Int) ≤ 122 := by omega
    rw [e]
    clear h32 h9 h13 h35 h10 e0 hL e
    go_enter Try.func17, Try.ntmps17
    go_wp2_with fail
    go_ret
    exact ⟨rfl, rfl⟩
  by_cases hD : 48 ≤ x ∧ x ≤ 57
  · have e : kndN x = 5 := by rw [e0, if_neg hL, if_pos hD]
    have i0 : ¬ (97 : Int) ≤ (x : Int) := by omega
    have i1 : (48 : Int) ≤ (x : Int) := by omega
    have i2 : (x : Int) ≤ 57 := by omega
    rw [e]
    clear h32 h9 h13 h35 h10 e0 hL hD e
    go_enter Try.func17, Try.ntmps17
    go_wp2_with fail
    go_ret
    exact ⟨rfl, rfl⟩
  have e : kndN x = 0 := by rw [e0, if_neg hL, if_neg hD]
  rw [e]
  by_cases a1 : 97 ≤ x
  · have i1 : (97 : Int) ≤ (x : Int) := by omega
    have i2 : ¬ (x : Int) ≤ 122 := by omega
    have i3 : (48 : Int) ≤ (x : Int) := by omega
    have i4 : ¬ (x : Int) ≤ 57 := by omega
    clear h32 h9 h13 h35 h10 e0 hL hD e a1
    go_enter Try.func17, Try.ntmps17
    go_wp2_with fail
    go_ret
    exact ⟨rfl, rfl⟩
  · have i1 : ¬ (97 : Int) ≤ (x : Int) := by omega
    by_cases a2 : 48 ≤ x
    · have i3 : (48 : Int) ≤ (x : Int) := by omega
      have i4 : ¬ (x : Int) ≤ 57 := by omega
      clear h32 h9 h13 h35 h10 e0 hL hD e a1 a2
      go_enter Try.func17, Try.ntmps17
      go_wp2_with fail
      go_ret
      exact ⟨rfl, rfl⟩
    · have i3 : ¬ (48 : Int) ≤ (x : Int) := by omega
      clear h32 h9 h13 h35 h10 e0 hL hD e a1 a2
      go_enter Try.func17, Try.ntmps17
      go_wp2_with fail
      go_ret
      exact ⟨rfl, rfl⟩
end Go.Proofs.Ythchgjjnlnadnaa
