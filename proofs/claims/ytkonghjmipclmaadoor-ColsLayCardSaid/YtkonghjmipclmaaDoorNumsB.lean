/- Contracts of nums.Mul and of the document's: the product, or that there is none. -/
import Derived.Test.YtkonghjmipclmaaDoorRows
import Derived.Test.YtkonghjmipclmaaDoorNumsMath
import Derived.Test.YtkonghjmipclmaaDoorNumsA
import Derived.Test.YtkonghjmipclmaaDoorShelf
import Derived.WalkKit
import Derived.Lib.Hide
import Derived.WalkSpells
import Derived.WalkLawsBesides
namespace Go.Proofs.YtkonghjmipclmaaDoor
open Go.RowKit
set_option linter.unusedSimpArgs false
set_option linter.unusedVariables false

set_option maxHeartbeats 400000 in
theorem signed_any (s : Int) (b : Bool) (w : World) (h0 : 0 ≤ s) (h1 : s ≤ 18446744073709551615) :
    Calls Tryd.prog 59 #[.int .u64 s, .bool b] w fun e w' => e = .returned (.tuple #[.int .i64 (fitN (sgI b s)), .int .i64 (fitE (sgI b s))]) ∧ w = w' := by
  cases b
  · go_enter Tryd.func59, Tryd.ntmps59
    go_wp2
    all_goals
      go_ret2
      refine ⟨ret_fit ?_, rfl⟩
      try simp only [beq_iff_eq, beq_eq_false_iff_ne, ne_eq] at *
      try simp only [sgI, wrap64, IntKind.wrap_u64, Bool.false_eq_true, if_false, if_true, reduceCtorEq, and_false, and_true, or_false, false_or]
      omega
  · go_enter Tryd.func59, Tryd.ntmps59
    go_wp2
    all_goals
      go_ret2
      refine ⟨ret_fit ?_, rfl⟩
      try simp only [beq_iff_eq, beq_eq_false_iff_ne, ne_eq] at *
      try simp only [sgI, wrap64, IntKind.wrap_u64, Bool.false_eq_true, if_false, if_true, reduceCtorEq, and_false, and_true, or_false, false_or]
      omega

set_option maxHeartbeats 400000 in
theorem times_any (x y : Nat) (w : World) (hx : x < 18446744073709551616) (hy : y < 18446744073709551616) :
    Calls Tryd.prog 48 #[.int .u64 x, .int .u64 y] w fun e w' => e = .returned (.tuple #[.int .u64 ((x * y / 18446744073709551616 : Nat) : Int), .int .u64 ((x * y % 18446744073709551616 : Nat) : Int)]) ∧ w = w' := by
  obtain ⟨a1, a2⟩ := half_bd (a := (x : Int) / 4294967296) (b := (y : Int) / 4294967296) (by omega) (by omega) (by omega) (by omega)
  obtain ⟨b1, b2⟩ := half_bd (a := (x : Int) / 4294967296) (b := (y : Int) % 4294967296) (by omega) (by omega) (by omega) (by omega)
  obtain ⟨c1, c2⟩ := half_bd (a := (x : Int) % 4294967296) (b := (y : Int) / 4294967296) (by omega) (by omega) (by omega) (by omega)
  obtain ⟨d1, d2⟩ := half_bd (a := (x : Int) % 4294967296) (b := (y : Int) % 4294967296) (by omega) (by omega) (by omega) (by omega)
  have E := Lib.hid (prod_split x y)
  go_enter Tryd.func48, Tryd.ntmps48
  go_wp2
  go_ret2
  have e := E.out
  refine ⟨ret2 ?_ ?_, rfl⟩
  · rw [Int.natCast_ediv, Int.natCast_mul, e]
    generalize (x : Int) / 4294967296 * ((y : Int) / 4294967296) = a at *
    generalize (x : Int) / 4294967296 * ((y : Int) % 4294967296) = b at *
    generalize (x : Int) % 4294967296 * ((y : Int) / 4294967296) = c at *
    generalize (x : Int) % 4294967296 * ((y : Int) % 4294967296) = d at *
    omega
  · rw [Int.natCast_emod, Int.natCast_mul, e]
    generalize (x : Int) / 4294967296 * ((y : Int) / 4294967296) = a at *
    generalize (x : Int) / 4294967296 * ((y : Int) % 4294967296) = b at *
    generalize (x : Int) % 4294967296 * ((y : Int) / 4294967296) = c at *
    generalize (x : Int) % 4294967296 * ((y : Int) % 4294967296) = d at *
    omega

end Go.Proofs.YtkonghjmipclmaaDoor
