/- Contracts of digits.plain, counted and Read. -/
import Derived.Test.YtlckgdgmanmbhaaDoorRows
import Derived.Test.YtlckgdgmanmbhaaDoorRowKit
import Derived.Test.YtlckgdgmanmbhaaDoorShelf
import Derived.Test.YtlckgdgmanmbhaaDoorNumsMath
import Derived.Test.YtlckgdgmanmbhaaDoorNumsA
import Derived.Test.YtlckgdgmanmbhaaDoorNumsB
import Derived.Test.YtlckgdgmanmbhaaDoorDigMath
import Derived.WalkKit
import Derived.IntWalk
import Derived.Lib.Hide
import Derived.Lib.ItoaLen
import Derived.WalkSpells
import Derived.WalkLawsBesides
import Derived.Laws.IdiomStrings
import Derived.Deep.QuietTactic
import Derived.BigQuiet
namespace Go.Proofs.YtlckgdgmanmbhaaDoor
open Go.RowKit
set_option linter.unusedSimpArgs false
set_option linter.unusedVariables false
set_option maxRecDepth 100000 in
set_option maxHeartbeats 1000000 in
theorem plain_yes (s : ByteArray) (w : World) (hl : s.size ≤ 1000) (hd : ∀ k (h : k < s.size), 48 ≤ (s[k]'h).toNat ∧ (s[k]'h).toNat ≤ 57) (h0 : (s.toList == [48]) = true ∨ ((s.toList == [48]) = false ∧ s.toList.isEmpty = false ∧ 0 < s.size ∧ ∀ h : 0 < s.size, (s[0]'h).toNat ≠ 48)) :
    Calls Tryd.prog 54 #[.string s] w fun e w' => e = .returned (.bool true) ∧ w = w' := by
  have HD := Lib.hid hd
  have H0 := Lib.hid h0
  clear hd h0
  go_enter Tryd.func54, Tryd.ntmps54
  go_wp2_with fail
  go_loop [6] (fun i => ∃ k : Nat, k ≤ s.size ∧ i = .int .i64 k) (fun i => s.size - (intOf i).toNat)
  case atStart => exact ⟨0, by omega, rfl⟩
  case round =>
    obtain ⟨k, hk, rfl⟩ := hrel
    by_cases h : k < s.size
    · obtain ⟨d1, d2⟩ := HD.out k h
      go_wp2_with fail
      go_round
      case rel => exact ⟨k + 1, by omega, by go_num⟩
      case measure => simp [intOf]; omega
    · obtain rfl : k = s.size := by omega
      rcases H0.out with p | ⟨p, q, r, u⟩
      · go_wp2_with fail
        go_ret
        exact ⟨rfl, rfl⟩
      · have u1 := u r
        have u2 : (((s[0]'r).toNat : Int) != 48) = true := by rw [bne_iff_ne]; omega
        clear u
        go_wp2_with fail
        go_ret
        exact ⟨rfl, rfl⟩
set_option maxRecDepth 100000 in
set_option maxHeartbeats 1000000 in
theorem counted_ok (s : ByteArray) (vv : Nat → Nat) (w : World) (hl : s.size ≤ 1000) (hd : ∀ k (h : k < s.size), 48 ≤ (s[k]'h).toNat ∧ (s[k]'h).toNat ≤ 57) (h0 : vv 0 = 0) (hs : ∀ k (h : k < s.size), vv (k + 1) = 10 * vv k + ((s[k]'h).toNat - 48)) (hm : ∀ k, k ≤ s.size → vv k ≤ 9223372036854775808) :
    Calls Tryd.prog 55 #[.string s] w fun e w' => e = .returned (.tuple #[.int .i64 (-(vv s.size : Int)), .int .i64 0]) ∧ w = w' := by
  have HD := Lib.hid hd
  have H0 := Lib.hid h0
  have HS := Lib.hid hs
  have HM := Lib.hid hm
  clear hd h0 hs hm
  go_enter Tryd.func55, Tryd.ntmps55
  go_wp2_with fail
  go_loop [4, 10] (fun n i => ∃ k : Nat, k ≤ s.size ∧ i = .int .i64 k ∧ n = .int .i64 (-(vv k : Int))) (fun _ i => s.size - (intOf i).toNat)
  case atStart => exact ⟨0, by omega, rfl, by rw [H0.out]; rfl⟩
  case round =>
    obtain ⟨k, hk, rfl, rfl⟩ := hrel
    by_cases h : k < s.size
    · obtain ⟨d1, d2⟩ := HD.out k h
      have e1 := HS.out k h
      have m0 := HM.out k hk
      have m1 := HM.out (k + 1) h
      obtain ⟨V, hV⟩ : ∃ V : Int, -(vv k : Int) = V := ⟨_, rfl⟩
      obtain ⟨U, hU⟩ : ∃ U : Int, -(vv (k + 1) : Int) = U := ⟨_, rfl⟩
      have HU := Lib.hid hU
      have v0 : V ≤ 0 := by omega
      have v1 : -9223372036854775808 ≤ V * 10 := by omega
      have u1 : V * 10 - ((s[k]'h).toNat - 48) = U := by omega
      have u2 : -9223372036854775808 ≤ U := by omega
      have u3 : U ≤ 0 := by omega
      have M := Lib.hid (fun w => mul_any V 10 w (by omega) (by omega) (by omega) (by omega))
      have f1 := (fit_yes (n := V * 10) (by omega))
      have M2 := M.out
      rw [f1.1, f1.2] at M2
      have M := Lib.hid M2
      have S2 := fun w => sub_any (V * 10) ((s[k]'h).toNat - 48) w (by omega) (by omega) (by omega) (by omega)
      have f2 := (fit_yes (n := U) (by omega))
      rw [u1, f2.1, f2.2] at S2
      have S := Lib.hid S2
      have w8 : IntKind.u8.wrap (((s[k]'h).toNat : Int) - 48) = ((s[k]'h).toNat : Int) - 48 := by rw [IntKind.wrap_u8]; omega
      rw [hV]
      clear e1 m0 m1 hV hU M2 S2 f1 f2 u1
      go_wp2_with (first
        | (go_at_call 69; refine (M.out _).mono ?_; rintro e w' ⟨rfl, rfl⟩)
        | (go_at_call 56; refine (S.out _).mono ?_; rintro e w' ⟨rfl, rfl⟩))
      go_round
      case rel => exact ⟨k + 1, by omega, by go_num, by rw [HU.out]⟩
      case measure => simp [intOf]; omega
    · obtain rfl : k = s.size := by omega
      go_wp2_with fail
      go_ret2
      exact ⟨rfl, rfl⟩
end Go.Proofs.YtlckgdgmanmbhaaDoor
