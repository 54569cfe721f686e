/- slices.Equal at rows of int, uint64, bytes: two rows with the same numbers are equal. -/
import Derived.Test.YtkonghjmipclmaaDoorRows
import Derived.Test.YtkonghjmipclmaaDoorRowKit
import Derived.Test.YtkonghjmipclmaaDoorSlicesEq
import Derived.WalkKit
import Derived.Lib.Hide
import Derived.WalkSpells
import Derived.WalkLawsBesides
import Derived.Deep.QuietTactic
import Derived.BigQuiet
namespace Go.Proofs.YtkonghjmipclmaaDoor
open Go.RowKit
set_option linter.unusedSimpArgs false
set_option linter.unusedVariables false
set_option maxHeartbeats 400000 in
theorem equal_int_0 (A B : Option Addr) (c d : Nat) (w : World) :
    Calls Tryd.prog 7 #[.slice A 0 c, .slice B 0 d] w fun e w' => e = .returned (.bool true) ∧ ∃ k, w' = w.drewN k := by
  go_enter Tryd.func7, Tryd.ntmps7
  go_wp2_with fail
  go_loop [13] (fun i => i = .int .i64 0) (fun i => 0)
  case atStart => exact rfl
  case round =>
    obtain rfl := hrel
    go_wp2_with fail
    go_ret
    exact ⟨rfl, 0, rfl⟩
set_option maxHeartbeats 400000 in
theorem equal_int (A B : Option Addr) (c d : Nat) (zs : List Int) (w : World) (ha : RdI w .i64 A zs) (hb : RdI w .i64 B zs) (hl : zs.length ≤ 9223372036854775807) :
    Calls Tryd.prog 7 #[.slice A zs.length c, .slice B zs.length d] w fun e w' => e = .returned (.bool true) ∧ ∃ k, w' = w.drewN k := by
  by_cases hn : zs.length = 0
  · rw [hn]; exact equal_int_0 A B c d w
  · obtain ⟨b1, o1, rfl, _, h1⟩ := rdI_row ha (by omega)
    obtain ⟨b2, o2, rfl, _, h2⟩ := rdI_row hb (by omega)
    have H1 := Lib.hid h1
    have H2 := Lib.hid h2
    clear ha hb h1 h2
    go_enter Tryd.func7, Tryd.ntmps7
    go_wp2_with fail
    go_loopw [13] (fun i wr => ∃ k : Nat, k ≤ zs.length ∧ i = .int .i64 k ∧ ∃ q, wr = w.drewN q) (fun i _ => zs.length - (intOf i).toNat)
    case atStart => exact ⟨0, by omega, rfl, 0, rfl⟩
    case round =>
      obtain ⟨k, hk, rfl, q, rfl⟩ := hrel
      by_cases h : k < zs.length
      · have c1 := H1.out k h
        have c2 := H2.out k h
        go_wp2_with fail
        go_quiet (fail)
        go_wp2_with fail
        go_roundw
        case rel => exact ⟨k + 1, by omega, by go_num, _, rfl⟩
        case measure => simp [intOf]; omega
      · go_wp2_with fail
        go_ret
        exact ⟨rfl, _, rfl⟩
end Go.Proofs.YtkonghjmipclmaaDoor
