/- Are two cars the same? -/
import Derived.Test.YtffcmfpadaebdaaFaceB
import Derived.Test.YtffcmfpadaebdaaCarM
import Derived.Test.YtffcmfpadaebdaaWantM
import Derived.Test.YtffcmfpadaebdaaRows
import Derived.Test.YtffcmfpadaebdaaKitM
import Derived.Test.YtffcmfpadaebdaaBitM
import Derived.Laws.AppendOwnNone
import Derived.WalkKit
import Derived.OwnWalk
import Derived.Laws.MakeOwn
import Derived.Laws.OwnMore
import Derived.Deep.LoopGhost
import Derived.IntWalk
import Derived.Lib.Hide
import Derived.WalkSpells
import Derived.WalkLawsBesides
import Derived.Laws.CopyOwn
import Derived.Deep.QuietTactic
import Derived.Deep.RegionHeld3
import Derived.BigQuiet
import Derived.BigRegion
import Derived.Test.YtffcmfpadaebdaaMoveB
import Derived.Test.YtffcmfpadaebdaaFaceC
import Derived.Test.YtffcmfpadaebdaaFaceD
import Derived.Test.YtffcmfpadaebdaaNearH
import Derived.Test.YtffcmfpadaebdaaPlaceA
import Derived.Test.YtffcmfpadaebdaaMoveMath
import Derived.Test.YtffcmfpadaebdaaMoveC
import Derived.Maps.AppendAt
import Derived.Test.YtffcmfpadaebdaaMoveD
namespace Go.Proofs.Ytffcmfpadaebdaa
open Go.RowKit
set_option linter.unusedSimpArgs false
set_option linter.unusedVariables false
set_option maxRecDepth 100000 in
set_option maxHeartbeats 2000000 in
theorem riders_any (A B : Option Addr) (c d n : Nat) (z : Nat → Nat → Int) (w : World) (ha : RdZ w 2 A n z) (hb : RdZ w 2 B n z) (hl : n ≤ 100000) :
    Calls Try.prog 28 #[.slice A n c, .slice B n d] w fun e w' => e = .returned (.bool true) ∧ ∃ k, w' = w.drewN k := by
  by_cases hn : n = 0
  · subst hn
    clear ha hb
    go_enter Try.func28, Try.ntmps28
    go_wp2_with fail
    go_loop [5] (fun i => i = .int .i64 0) (fun i => 0)
    case atStart => exact rfl
    case round =>
      obtain rfl := hrel
      go_wp2_with fail
      go_ret
      exact ⟨rfl, 0, rfl⟩
  · obtain ⟨b1, o1, rfl, _, h1⟩ := rdZ_row ha (by omega) (by omega)
    obtain ⟨b2, o2, rfl, _, h2⟩ := rdZ_row hb (by omega) (by omega)
    have H1 := Lib.hid h1
    have H2 := Lib.hid h2
    clear ha hb h1 h2
    go_enter Try.func28, Try.ntmps28
    go_wp2_with fail
    go_loopw [5] (fun i wr => ∃ k : Nat, k ≤ n ∧ i = .int .i64 k ∧ ∃ q, wr = w.drewN q) (fun i _ => n - (intOf i).toNat)
    case atStart => exact ⟨0, by omega, rfl, 0, rfl⟩
    case round =>
      obtain ⟨k, hk, rfl, q, rfl⟩ := hrel
      by_cases h : k < n
      · skip
        have a0 : w.cell? ⟨b1, o1 + k * 2, none⟩ = _ := H1.out k 0 h (by omega)
        have a1 := H1.out k 1 h (by omega)
        have e0 : w.cell? ⟨b2, o2 + k * 2, none⟩ = _ := H2.out k 0 h (by omega)
        have e1 := H2.out k 1 h (by omega)
        obtain ⟨x0, hx0⟩ : ∃ x, z k 0 = x := ⟨_, rfl⟩
        rw [hx0] at a0 e0
        obtain ⟨x1, hx1⟩ : ∃ x, z k 1 = x := ⟨_, rfl⟩
        rw [hx1] at a1 e1
        clear hx0 hx1
        go_wp2_with fail
        go_quiet (fail)
        go_wp2_with fail
        go_roundw
        case rel => exact ⟨k + 1, by omega, by go_num, _, rfl⟩
        case measure => simp [intOf]; omega
      · go_wp2_with fail
        go_ret
        exact ⟨rfl, _, rfl⟩
set_option maxRecDepth 100000 in
set_option maxHeartbeats 2000000 in
theorem rcar_any (p d md le : Int) (wa : Bool) (A B : Option Addr) (n c c2 : Nat) (z : Nat → Nat → Int) (w : World) (ha : RdZ w 2 A n z) (hb : RdZ w 2 B n z) (hl : n ≤ 100000) :
    Calls Try.prog 9 #[carV p d md le wa A n c, carV p d md le wa B n c2] w fun e w' => e = .returned (.bool true) ∧ Below w.heap.size w w' := by
  have RI := Lib.hid (fun w ha hb => riders_any A B c c2 n z w ha hb hl)
  have HA := Lib.hid ha
  have HB := Lib.hid hb
  unfold carV
  have BW := Lib.hid (((Below.refl w.heap.size w).alloc (Nat.le_refl _) (.cells #[.int .i64 p, .int .i64 d, .int .i64 md, .int .i64 le, .bool wa, .slice A n c] 29)).alloc (by simp) (.cells #[.int .i64 p, .int .i64 d, .int .i64 md, .int .i64 le, .bool wa, .slice B n c2] 29))
  clear ha hb
  have bw : (wa == wa) = true := by simp
  go_enter Try.func9, Try.ntmps9
  go_wp2_with fail
  refine (RI.out _ (HA.out.kept BW.out) (HB.out.kept BW.out)).mono ?_
  rintro e v1 ⟨rfl, k, rfl⟩
  go_wp2_with fail
  go_ret
  exact ⟨by first | rfl | (simp; done), below_drewN BW.out k⟩
end Go.Proofs.Ytffcmfpadaebdaa
