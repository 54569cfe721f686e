/- Zones: the example. -/
import Derived.Test.YtbjcigkakeffmabRows
import Derived.Test.YtbjcigkakeffmabRowKit
import Derived.Test.YtbjcigkakeffmabRowS
import Derived.Test.YtbjcigkakeffmabRowZ
import Derived.Test.YtbjcigkakeffmabSlicesEq
import Derived.Test.YtbjcigkakeffmabSlicesEqM
import Derived.Test.YtbjcigkakeffmabRowL
import Derived.Test.YtbjcigkakeffmabRowM
import Derived.Test.YtbjcigkakeffmabMakeI
import Derived.Test.YtbjcigkakeffmabBlocks
import Derived.Test.YtbjcigkakeffmabZoneMath
import Derived.Test.YtbjcigkakeffmabShelf
import Derived.WalkKit
import Derived.IntWalk
import Derived.Lib.Hide
import Derived.WalkSpells
import Derived.WalkLawsBesides
import Derived.Laws.CopyOwn
import Derived.Laws.MakeOwn
import Derived.Laws.OwnMore
import Derived.OwnWalk
import Derived.Deep.QuietTactic
import Derived.BigQuiet
import Derived.Deep.RegionHeld3
import Derived.Deep.LoopGhost
import Derived.BigRegion
import Derived.Deep.AppendLies
import Derived.Maps.AppendAt
import Derived.Below
import Derived.Test.YtbjcigkakeffmabZoneA
import Derived.Test.YtbjcigkakeffmabZoneB
import Derived.Test.YtbjcigkakeffmabZoneC
namespace Go.Proofs.Ytbjcigkakeffmab
open Go.RowKit
set_option linter.unusedSimpArgs false
set_option linter.unusedVariables false
set_option maxRecDepth 100000 in
set_option maxHeartbeats 2000000 in
theorem zequal (A B : Option Addr) (c d n : Nat) (z : Nat → Nat → Int) (w : World) (ha : RdZ w 2 A n z) (hb : RdZ w 2 B n z) (hl : n ≤ 100000) :
    Calls Try.prog 19 #[.slice A n c, .slice B n d] w fun e w' => e = .returned (.bool true) ∧ ∃ k, w' = w.drewN k := by
  by_cases hn : n = 0
  · subst hn
    clear ha hb
    go_enter Try.func19, Try.ntmps19
    go_wp2_with fail
    go_loop [13] (fun i => i = .int .i64 0) (fun i => 0)
    case atStart => exact rfl
    case round =>
      obtain rfl := hrel
      go_wp2_with fail
      go_ret
      exact ⟨rfl, 0, rfl⟩
  · obtain ⟨b1, o1, rfl, _, h1⟩ := rdZ_row ha (by omega) (by omega)
    obtain ⟨b2, o2, rfl, _, h2⟩ := rdZ_row hb (by omega) (by omega)
    have H1 := Lib.hid h1
    have H2 := Lib.hid h2
    clear ha hb h1 h2
    go_enter Try.func19, Try.ntmps19
    go_wp2_with fail
    go_loopw [13] (fun i wr => ∃ k : Nat, k ≤ n ∧ i = .int .i64 k ∧ ∃ q, wr = w.drewN q) (fun i _ => n - (intOf i).toNat)
    case atStart => exact ⟨0, by omega, rfl, 0, rfl⟩
    case round =>
      obtain ⟨k, hk, rfl, q, rfl⟩ := hrel
      by_cases h : k < n
      · skip
        have a0 : w.cell? ⟨b1, o1 + k * 2, none⟩ = _ := H1.out k 0 h (by omega)
        have a1 := H1.out k 1 h (by omega)
        have e0 : w.cell? ⟨b2, o2 + k * 2, none⟩ = _ := H2.out k 0 h (by omega)
        have e1 := H2.out k 1 h (by omega)
        obtain ⟨x0, hx0⟩ : ∃ x, z k 0 = x := ⟨_, rfl⟩
        rw [hx0] at a0 e0
        obtain ⟨x1, hx1⟩ : ∃ x, z k 1 = x := ⟨_, rfl⟩
        rw [hx1] at a1 e1
        clear hx0 hx1
        go_wp2_with fail
        go_quiet (fail)
        go_wp2_with fail
        go_roundw
        case rel => exact ⟨k + 1, by omega, by go_num, _, rfl⟩
        case measure => simp [intOf]; omega
      · go_wp2_with fail
        go_ret
        exact ⟨rfl, _, rfl⟩

theorem rd5 (w : World) : RdI (w.alloc (.cells #[.int .i64 3, .int .i64 1, .int .i64 4, .int .i64 1, .int .i64 5] 3)) .i64 (some ⟨w.heap.size, 0, none⟩) [3, 1, 4, 1, 5] := fun i hi => by
  have hB := Blk.new w #[.int .i64 3, .int .i64 1, .int .i64 4, .int .i64 1, .int .i64 5] 3
  have ha : (⟨w.heap.size, 0, none⟩ : Addr).add i = ⟨w.heap.size, i, none⟩ := by
    unfold Addr.add
    by_cases h : i = 0
    · subst h; simp
    · rw [if_neg h]; simp
  refine ⟨_, rfl, hB.lt, ?_⟩
  rw [ha, hB.cell i]
  rcases (show i = 0 ∨ i = 1 ∨ i = 2 ∨ i = 3 ∨ i = 4 by simp at hi; omega) with rfl | rfl | rfl | rfl | rfl <;> exact ⟨rfl, by decide⟩
theorem rd22 (w : World) : RdZ (w.alloc (.cells #[.int .i64 0, .int .i64 3, .int .i64 3, .int .i64 5] 31)) 2 (some ⟨w.heap.size, 0, none⟩) 2 (zL [(0, 3), (3, 5)]) := by
  have hB := Blk.new w #[.int .i64 0, .int .i64 3, .int .i64 3, .int .i64 5] 31
  refine rdZ_mk (fun i j hi hj => ?_) hB.lt
  rw [hB.cell]
  rcases (show (i = 0 ∨ i = 1) ∧ (j = 0 ∨ j = 1) by omega) with ⟨rfl | rfl, rfl | rfl⟩ <;> exact ⟨rfl, by decide⟩
set_option maxRecDepth 100000 in
set_option maxHeartbeats 4000000 in
theorem zalive (w : World) : Calls Try.prog 10 #[] w fun e w' => e = .returned (.bool true) ∧ Below w.heap.size w w' := by
  have L8 : lsZ [3, 1, 4, 1, 5] 5 2 = 8 := by decide +kernel
  have C2 : cnZ (zat [3, 1, 4, 1, 5]) 8 5 = 2 := by decide +kernel
  have CL : cutL (zat [3, 1, 4, 1, 5]) 8 5 = [(0, 3), (3, 5)] := by decide +kernel
  have RQ : RgZ [3, 1, 4, 1, 5] 5 2 := ⟨by omega, by omega, by omega, fun i hi => by
    rcases (show i = 0 ∨ i = 1 ∨ i = 2 ∨ i = 3 ∨ i = 4 by omega) with rfl | rfl | rfl | rfl | rfl <;> decide⟩
  have KL := fun A w hr => zleast_ok A 5 5 [3, 1, 4, 1, 5] 2 w rfl (by omega) hr RQ
  have KC := fun A w hr => zct_ok A 5 5 [3, 1, 4, 1, 5] 2 w rfl (by omega) hr RQ
  rw [L8] at KL
  unfold CtR at KC
  rw [L8, C2, CL] at KC
  have JL := Lib.hid KL; have JC := Lib.hid KC
  have KE := Lib.hid (fun A B c d w ha hb => zequal A B c d 2 (zL [(0, 3), (3, 5)]) w ha hb (by omega))
  clear KL KC L8 C2 CL RQ
  have BW := Lib.hid ((Below.refl w.heap.size w).alloc (Nat.le_refl _) (.cells #[.int .i64 3, .int .i64 1, .int .i64 4, .int .i64 1, .int .i64 5] 3))
  go_enter Try.func10, Try.ntmps10
  go_wp2_with fail
  refine (JL.out _ _ (rd5 w)).mono ?_
  rintro e w1 ⟨rfl, hb⟩
  have E1 := Lib.hid (BW.out.trans (hb.mono BW.out.size))
  clear hb
  go_wp2_with fail
  refine (JC.out _ _ (rd5 w1)).mono ?_
  rintro e w2 ⟨A', c', rfl, h1, h2, h3, hb⟩
  have B2 := (E1.out.alloc E1.out.size (.cells #[.int .i64 3, .int .i64 1, .int .i64 4, .int .i64 1, .int .i64 5] 3))
  have E2 := Lib.hid (B2.trans (hb.mono B2.size))
  have RZ := Lib.hid h3
  clear hb h1 h2 h3 B2
  go_wp2_with fail
  have B3 := (E2.out.alloc E2.out.size (.cells #[.int .i64 0, .int .i64 3, .int .i64 3, .int .i64 5] 31))
  refine (KE.out _ _ _ _ _ (RZ.out.kept ((Below.refl _ _).alloc (Nat.le_refl _) _)) (rd22 w2)).mono ?_
  rintro e w3 ⟨rfl, q, rfl⟩
  go_wp2_with fail
  go_ret
  exact ⟨rfl, below_drewN B3 q⟩
end Go.Proofs.Ytbjcigkakeffmab
