/- A contract of near.Least. -/
import Derived.Test.YtbjcigkakeffmaaDoorRows
import Derived.Test.YtbjcigkakeffmaaDoorKitM
import Derived.Test.YtbjcigkakeffmaaDoorNearMath
import Derived.WalkKit
import Derived.IntWalk
import Derived.Lib.Hide
import Derived.WalkSpells
import Derived.WalkLawsBesides
import Derived.Deep.QuietTactic
import Derived.BigQuiet
import Derived.Below
namespace Go.Proofs.YtbjcigkakeffmaaDoor
open Go.RowKit
set_option linter.unusedSimpArgs false
set_option linter.unusedVariables false
theorem nret {k : IntKind} {a b : Int} (h : a = b) : Ending.returned (.int k a) = .returned (.int k b) := by rw [h]
theorem nvint {k : IntKind} {a b : Int} (h : a = b) : Value.int k a = .int k b := by rw [h]
set_option maxHeartbeats 1000000 in
theorem least_any (A : Option Addr) (c : Nat) (zs : List Int) (w : World) (hr : RdI w .i64 A zs) (hl : zs.length ≤ 1000000) :
    Calls Tryd.prog 35 #[.slice A zs.length c] w fun e w' => e = .returned (.int .i64 (lstV zs zs.length)) ∧ w = w' := by
  obtain ⟨n, hn⟩ : ∃ n, zs.length = n := ⟨_, rfl⟩
  rw [hn] at hl ⊢
  have HN := Lib.hid hn
  clear hn
  go_enter Tryd.func35, Tryd.ntmps35
  go_wp2_with fail
  go_loop [3, 8] (fun x i => ∃ k : Nat, k ≤ n ∧ i = .int .i64 k ∧ x = .int .i64 (lstV zs k)) (fun _ i => n - (intOf i).toNat)
  case atStart => exact ⟨0, by omega, rfl, nvint (lstV_zero zs).symm⟩
  case round =>
    obtain ⟨k, hk, rfl, rfl⟩ := hrel
    by_cases h : k < n
    · obtain ⟨b, off, rfl, hlt, hc⟩ := rdI_row hr (by have := HN.out; omega)
      have ck := hc k (by have := HN.out; omega)
      obtain ⟨x, hx⟩ : ∃ x, lstV zs k = x := ⟨_, rfl⟩
      obtain ⟨u, hu⟩ : ∃ u, zat zs k = u := ⟨_, rfl⟩
      rw [hx]
      rw [hu] at ck
      by_cases h0 : 0 < k
      · obtain ⟨m, hm⟩ : ∃ m, lstN zs k = m := ⟨_, rfl⟩
        have ml := lst_lt zs k h0
        rw [hm] at ml
        have cm := hc m (by have := HN.out; omega)
        obtain ⟨v, hv⟩ : ∃ v, zat zs m = v := ⟨_, rfl⟩
        rw [hv] at cm
        obtain rfl : x = (m : Int) := by rw [← hx, lstV_pos zs h0, hm]
        by_cases d : u < v
        · have E := Lib.hid (show lstV zs (k + 1) = (k : Int) by rw [lstV_pos zs (by omega), lst_new h0 (by rw [hm, hu, hv]; exact d)])
          clear hx hu hm hv hc
          go_wp2_with fail
          go_round
          case rel => exact ⟨k + 1, by omega, by go_num, nvint E.out.symm⟩
          case measure => simp [intOf]; omega
        · have E := Lib.hid (show lstV zs (k + 1) = (m : Int) by rw [lstV_pos zs (by omega), lst_old h0 (by rw [hm, hu, hv]; exact d), hm])
          clear hx hu hm hv hc
          go_wp2_with fail
          go_round
          case rel => exact ⟨k + 1, by omega, by go_num, nvint E.out.symm⟩
          case measure => simp [intOf]; omega
      · have E := Lib.hid (show lstV zs (k + 1) = (k : Int) by rw [show k = 0 by omega]; rfl)
        have xn : x < 0 := by rw [← hx, show k = 0 by omega, lstV_zero]; decide
        clear hx hu hc
        go_wp2_with fail
        go_round
        case rel => exact ⟨k + 1, by omega, by go_num, nvint E.out.symm⟩
        case measure => simp [intOf]; omega
    · obtain rfl : k = n := by omega
      go_wp2_with fail
      go_ret
      exact ⟨rfl, rfl⟩
end Go.Proofs.YtbjcigkakeffmaaDoor
