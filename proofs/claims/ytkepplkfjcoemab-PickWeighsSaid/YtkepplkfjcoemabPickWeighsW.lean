/- The walk of PickWeighs: it answers true for every input, and leaves all old blocks as they were. No condition. -/
import Derived.Test.YtkepplkfjcoemabRows
import Derived.Test.YtkepplkfjcoemabRowKit
import Derived.Test.YtkepplkfjcoemabSlicesEq
import Derived.Test.YtkepplkfjcoemabPickMath
import Derived.Test.YtkepplkfjcoemabPickA
import Derived.Test.YtkepplkfjcoemabPickB
import Derived.WalkKit
import Derived.ProofKit
import Derived.OpenShut
import Derived.Deep.QuietTactic
import Derived.BigQuiet
import Derived.Lib.SmallJoins
import Derived.Lib.Hide
import Derived.WalkSpells
import Derived.WalkLawsBesides
namespace Go.Proofs.Ytkepplkfjcoemab.pickWeighs
open Go.ChangeShapes Go.WideShapes Go.ChangeAt Go.RowKit Go.Joins
set_option linter.unusedSimpArgs false
set_option linter.unusedVariables false

set_option maxHeartbeats 1000000 in
theorem walk_no (A : Option Addr) (c : Nat) (zs : List Int) (v u : Int) (w : World) (hl : zs.length ≤ 200) (hvu : v ≤ u) (he : totE zs ≠ 0)
    (hO : Calls Try.prog 40 #[.int .u32 v, .slice A zs.length c] w fun e w' => e = .returned (.tuple #[.int .i64 0, .int .i64 (totE zs)]) ∧ w = w')
    (hP : Calls Try.prog 40 #[.int .u32 u, .slice A zs.length c] w fun e w' => e = .returned (.tuple #[.int .i64 0, .int .i64 (totE zs)]) ∧ w = w') :
    Calls Try.prog 12 #[.int .u32 v, .int .u32 u, .slice A zs.length c] w fun e w' => e = .returned (.bool true) ∧ Below w.heap.size w w' := by
  have HO := Lib.hid hO
  have HP := Lib.hid hP
  have hne : (totE zs != 0) = true := by rw [bne_iff_ne]; exact he
  clear hO hP he
  go_enter Try.func12, Try.ntmps12
  go_wp2_with fail
  refine HO.out.mono ?_
  rintro e w' ⟨rfl, rfl⟩
  go_wp2_with fail
  refine HP.out.mono ?_
  rintro e w' ⟨rfl, rfl⟩
  go_wp2_with (go_at_call 42; refine (pkalive _).mono ?_; rintro e w1 ⟨rfl, hb⟩)
  go_ret
  exact ⟨rfl, hb⟩
set_option maxHeartbeats 1000000 in
theorem walk_yes (b off c : Nat) (zs : List Int) (v u : Int) (i k : Nat) (w : World) (hr : RdI w .i64 (some ⟨b, off, none⟩) zs) (hl : zs.length ≤ 200) (hvu : v ≤ u) (hik : i ≤ k) (hk : k < zs.length) (hi0 : 0 < zat zs i) (hk0 : 0 < zat zs k)
    (hO : Calls Try.prog 40 #[.int .u32 v, .slice (some ⟨b, off, none⟩) zs.length c] w fun e w' => e = .returned (.tuple #[.int .i64 i, .int .i64 0]) ∧ w = w')
    (hP : Calls Try.prog 40 #[.int .u32 u, .slice (some ⟨b, off, none⟩) zs.length c] w fun e w' => e = .returned (.tuple #[.int .i64 k, .int .i64 0]) ∧ w = w') :
    Calls Try.prog 12 #[.int .u32 v, .int .u32 u, .slice (some ⟨b, off, none⟩) zs.length c] w fun e w' => e = .returned (.bool true) ∧ Below w.heap.size w w' := by
  have HO := Lib.hid hO
  have HP := Lib.hid hP
  obtain ⟨b', o', e, _, hc⟩ := rdI_row hr (by omega)
  cases e
  have c1 := hc i (by omega)
  have c2 := hc k hk
  clear hO hP hr hc
  go_enter Try.func12, Try.ntmps12
  go_wp2_with fail
  refine HO.out.mono ?_
  rintro e w' ⟨rfl, rfl⟩
  go_wp2_with fail
  refine HP.out.mono ?_
  rintro e w' ⟨rfl, rfl⟩
  go_wp2_with (go_at_call 42; refine (pkalive _).mono ?_; rintro e w1 ⟨rfl, hb⟩)
  go_ret
  exact ⟨rfl, hb⟩
set_option maxHeartbeats 1000000 in
theorem walk_big (A : Option Addr) (c n : Nat) (v u : Int) (w : World) (hl : 200 < n ∨ u < v) :
    Calls Try.prog 12 #[.int .u32 v, .int .u32 u, .slice A n c] w fun e w' => e = .returned (.bool true) ∧ Below w.heap.size w w' := by
  by_cases h : 200 < n
  · clear hl
    go_enter Try.func12, Try.ntmps12
    go_wp2_with fail
    go_ret
    exact ⟨rfl, Below.refl _ _⟩
  · have h2 : u < v := by omega
    clear hl
    go_enter Try.func12, Try.ntmps12
    go_wp2_with fail
    go_ret
    exact ⟨rfl, Below.refl _ _⟩
theorem scaled_mono {v u T : Int} (h : v ≤ u) (hT : 0 ≤ T) : v * T / 4294967296 ≤ u * T / 4294967296 := Int.ediv_le_ediv (by omega) (Int.mul_le_mul_of_nonneg_right h hT)
theorem walk {v u : Int} {A : Option Addr} {c : Nat} {zs : List Int} (hv : (Lit.int .u32 v).wf = true) (hu : (Lit.int .u32 u).wf = true) (hlc : zs.length ≤ c) (hm : c ≤ maxLen) {w : World} (hr : RdI w .i64 A zs) :
    Calls Try.prog 12 #[.int .u32 v, .int .u32 u, .slice A zs.length c] w fun e w' => e = .returned (.bool true) ∧ Below w.heap.size w w' := by
  obtain ⟨v0, v1⟩ := bounds_u32 hv
  obtain ⟨u0, u1⟩ := bounds_u32 hu
  by_cases h : zs.length ≤ 200 ∧ v ≤ u
  · by_cases he : totE zs ≠ 0
    · exact walk_no A c zs v u w h.1 h.2 he (of_bad A c zs v w hr (by omega) he) (of_bad A c zs u w hr (by omega) he)
    · have hM := may_of he
      obtain ⟨i, hi⟩ := at_of hM v0 (by omega)
      obtain ⟨k, hk⟩ := at_of hM u0 (by omega)
      have hO := of_may A c zs v i w hr (by omega) hM v0 (by omega) hi
      have hP := of_may A c zs u k w hr (by omega) hM u0 (by omega) hk
      obtain ⟨b, off, rfl, _⟩ := rdI_row hr (by have := hk.1; omega)
      exact walk_yes b off c zs v u i k w hr h.1 h.2 (atP_mono hM.1 hi hk (scaled_mono h.2 (by have := hM.2.2; omega))) hk.1 (atP_pos hi) (atP_pos hk) hO hP
  · exact walk_big A c zs.length v u w (by omega)

end Go.Proofs.Ytkepplkfjcoemab.pickWeighs
