/- Contracts of the law's own great (layers 24 and 72) and of the chapter's example. -/
import Derived.Test.YtffcmfpadaebdabRows
import Derived.Test.YtffcmfpadaebdabRowKit
import Derived.Test.YtffcmfpadaebdabRowS
import Derived.Test.YtffcmfpadaebdabRowZ
import Derived.Test.YtffcmfpadaebdabSlicesEq
import Derived.Test.YtffcmfpadaebdabRowL
import Derived.Test.YtffcmfpadaebdabRowM
import Derived.Test.YtffcmfpadaebdabBlocks
import Derived.Test.YtffcmfpadaebdabWinMath
import Derived.Test.YtffcmfpadaebdabWindowsA
import Derived.Test.YtffcmfpadaebdabWindowsB
import Derived.Test.YtffcmfpadaebdabWindowsC
import Derived.Test.YtffcmfpadaebdabWindowsD
import Derived.WalkKit
import Derived.IntWalk
import Derived.Lib.Hide
import Derived.Lib.SmallJoins
import Derived.WalkSpells
import Derived.WalkLawsBesides
import Derived.Laws.CopyOwn
import Derived.Laws.MakeOwn
import Derived.Laws.OwnMore
import Derived.OwnWalk
import Derived.Deep.QuietTactic
import Derived.Deep.RegionHeld3
import Derived.Deep.LoopGhost
import Derived.BigQuiet
import Derived.BigRegion
namespace Go.Proofs.Ytffcmfpadaebdab
open Go.RowKit
set_option linter.unusedSimpArgs false
set_option linter.unusedVariables false
def TGreatR (z : Nat → Nat → Int) (n : Nat) (w : World) (e : Ending) (w' : World) : Prop := ∃ b, e = .returned (.bool b) ∧ Below w.heap.size w w' ∧ (b = false → n ≤ 100 ∧ TripB z n)
theorem tripB_succ {z : Nat → Nat → Int} {k : Nat} (h : TripB z k) (h' : (-1 ≤ z k 1 ∧ z k 1 ≤ 1073741824) ∧ (-1 ≤ z k 5 ∧ z k 5 ≤ 1073741824) ∧ (-1 ≤ z k 6 ∧ z k 6 ≤ 1073741824)) : TripB z (k + 1) := fun i hi => by
  by_cases e : i = k
  · rw [e]; exact h'
  · exact h i (by omega)
set_option maxHeartbeats 2000000 in
theorem tgreat24 (A : Option Addr) (c n : Nat) (z : Nat → Nat → Int) (w : World) (hr : RdZ w 7 A n z) (hm : n ≤ 9223372036854775807) :
    Calls Try.prog 10 #[.slice A n c] w (TGreatR z n w) := by
  by_cases hn : 100 < n
  · go_enter Try.func10, Try.ntmps10
    go_wp2_with fail
    go_ret
    exact ⟨true, rfl, Below.refl _ _, fun e => by cases e⟩
  · go_enter Try.func10, Try.ntmps10
    go_wp2_with fail
    go_loopw [3] (fun i wr => ∃ k : Nat, k ≤ n ∧ i = .int .i64 k ∧ Hid (TripB z k) ∧ Below w.heap.size w wr) (fun i _ => n - (intOf i).toNat)
    case atStart => exact ⟨0, by omega, rfl, Lib.hid (fun i h => absurd h (by omega)), Below.refl _ _⟩
    case round =>
      obtain ⟨k, hk, rfl, HB, hb⟩ := hrel
      by_cases h : k < n
      · obtain ⟨b, off, rfl, hlt, hc⟩ := rdZ_row (hr.kept hb) (by omega) (by omega)
        have c0 : wr.cell? ⟨b, off + k * 7, none⟩ = _ := hc k 0 h (by omega)
        have c1 := hc k 1 h (by omega)
        have c2 := hc k 2 h (by omega)
        have c3 := hc k 3 h (by omega)
        have c4 := hc k 4 h (by omega)
        have c5 := hc k 5 h (by omega)
        have c6 := hc k 6 h (by omega)
        clear hc
        have B1 := Lib.hid (hb.alloc hb.size (.cells #[.int .i64 (z k 0), .int .i64 (z k 1), .int .i64 (z k 2), .int .i64 (z k 3), .int .i64 (z k 4), .int .i64 (z k 5), .int .i64 (z k 6)] 38))
        by_cases g1 : z k 1 < -1
        · go_wp2_with fail
          all_goals
            go_ret
            exact ⟨true, rfl, B1.out, fun e => by cases e⟩
        · skip
          by_cases g5 : z k 5 < -1
          · go_wp2_with fail
            all_goals
              go_ret
              exact ⟨true, rfl, B1.out, fun e => by cases e⟩
          · skip
            by_cases g6 : z k 6 < -1
            · go_wp2_with fail
              all_goals
                go_ret
                exact ⟨true, rfl, B1.out, fun e => by cases e⟩
            · skip
              by_cases gm : 1073741824 < max (max (z k 1) (z k 5)) (z k 6)
              · go_wp2_with fail
                all_goals
                  go_ret
                  exact ⟨true, rfl, B1.out, fun e => by cases e⟩
              · skip
                have NX := Lib.hid (tripB_succ HB.out ⟨⟨by omega, by omega⟩, ⟨by omega, by omega⟩, ⟨by omega, by omega⟩⟩)
                go_wp2_with fail
                go_roundw
                case rel => exact ⟨k + 1, by omega, by go_num, NX, B1.out⟩
                case measure => simp [intOf]; omega
      · obtain rfl : k = n := by omega
        go_wp2_with fail
        go_ret
        exact ⟨false, rfl, hb, fun _ => ⟨by omega, HB.out⟩⟩
set_option maxRecDepth 100000 in
set_option maxHeartbeats 4000000 in
theorem tgreat72 (A : Option Addr) (c n : Nat) (z : Nat → Nat → Int) (w : World) (hr : RdZ w 7 A n z) (hm : n ≤ 9223372036854775807) :
    Calls Try.prog 4 #[.slice A n c] w (TGreatR z n w) := by
  have G := Lib.hid (tgreat24 A c n z w hr hm)
  have HR := Lib.hid hr
  clear hr
  go_enter Try.func4, Try.ntmps4
  go_wp2_with fail
  refine G.out.mono ?_
  rintro e w1 ⟨b, rfl, hb, hB⟩
  have HB := Lib.hid hb
  have HR1 := Lib.hid (HR.out.kept hb)
  clear hb HR G
  cases b
  case true =>
    go_wp2_with fail
    go_ret
    exact ⟨true, rfl, HB.out, (fun e => by cases e)⟩
  have HBB := Lib.hid (hB rfl)
  have hn : n ≤ 100 := HBB.out.1
  clear hB
  go_wp2_with fail
  go_loopg [3] n (fun gh i wr => ∃ k d : Nat, k ≤ n ∧ gh = n - k ∧ i = .int .i64 k ∧ wr = w1.drewN d)
  case atStart => exact ⟨0, 0, by omega, rfl, rfl, rfl⟩
  case round =>
    obtain ⟨k, d, hk, rfl, rfl, rfl⟩ := hrel
    by_cases h : k < n
    · obtain ⟨b, off, rfl, hlt, hc⟩ := rdZ_row HR1.out (by omega) (by omega)
      have c0 : w1.cell? ⟨b, off + k * 7, none⟩ = _ := hc k 0 h (by omega)
      have c1 := hc k 1 h (by omega)
      have c2 := hc k 2 h (by omega)
      have c3 := hc k 3 h (by omega)
      have c4 := hc k 4 h (by omega)
      have c5 := hc k 5 h (by omega)
      have c6 := hc k 6 h (by omega)
      have kI : (k : Int) < n := by omega
      clear hc
      by_cases h5 : 0 ≤ z k 5
      · by_cases h1 : z k 5 < z k 1
        · have d5 : decide (0 ≤ z k 5) = true := by simpa using h5
          have d1 : decide (z k 5 < z k 1) = true := by simpa using h1
          go_wp2_with fail
          go_quiet (fail)
          go_wp2_with fail
          go_ret
          exact ⟨true, rfl, below_drewN (below_drewN HB.out _) _, (fun e => by cases e)⟩
        · have d5 : decide (0 ≤ z k 5) = true := by simpa using h5
          have d1 : decide (z k 5 < z k 1) = false := by simpa using h1
          go_wp2_with fail
          go_quiet (fail)
          go_wp2_with fail
          go_roundg (n - (k + 1))
          case measure => omega
          case rel => exact ⟨k + 1, _, by omega, rfl, by go_num, rfl⟩
      · have d5 : decide (0 ≤ z k 5) = false := by simpa using h5
        go_wp2_with fail
        go_quiet (fail)
        go_wp2_with fail
        go_roundg (n - (k + 1))
        case measure => omega
        case rel => exact ⟨k + 1, _, by omega, rfl, by go_num, rfl⟩
    · obtain rfl : k = n := by omega
      go_wp2_with fail
      go_ret
      exact ⟨false, rfl, below_drewN HB.out _, fun _ => HBB.out⟩
/-- the example's trip -/
def exT (i j : Nat) : Int := if j = 1 then 3 else if j = 4 then -1 else if j = 5 then -1 else if j = 6 then -1 else 0
theorem rd_exT (w : World) : RdZ (w.alloc (.cells #[.int .i64 0, .int .i64 3, .int .i64 0, .int .i64 0, .int .i64 (-1), .int .i64 (-1), .int .i64 (-1)] 38)) 7 (some ⟨w.heap.size, 0, none⟩) 1 exT := by
  refine rdZ_mk (fun i j hi hj => ?_) (by simp)
  obtain rfl : i = 0 := by omega
  refine ⟨?_, by rcases j with _ | _ | _ | _ | _ | _ | _ | j <;> first | rfl | omega⟩
  rcases j with _ | _ | _ | _ | _ | _ | _ | j
  · exact World.cell?_alloc_mark w _ _ _ 0
  · exact World.cell?_alloc_mark w _ _ _ 1
  · exact World.cell?_alloc_mark w _ _ _ 2
  · exact World.cell?_alloc_mark w _ _ _ 3
  · exact World.cell?_alloc_mark w _ _ _ 4
  · exact World.cell?_alloc_mark w _ _ _ 5
  · exact World.cell?_alloc_mark w _ _ _ 6
  · omega
set_option maxRecDepth 100000 in
set_option maxHeartbeats 4000000 in
theorem alive72 (w : World) : Calls Try.prog 8 #[] w fun e w' => e = .returned (.bool true) ∧ Below w.heap.size w w' := by
  have S := Lib.hid (fun X => sum_nil none 0 X)
  have OF := Lib.hid (fun (X : World) => show Calls Try.prog 5 #[.slice (some ⟨X.heap.size, 0, none⟩) 1 1, .agg #[.int .i64 0, .int .i64 5]] (X.alloc (.cells #[.int .i64 0, .int .i64 3, .int .i64 0, .int .i64 0, .int .i64 (-1), .int .i64 (-1), .int .i64 (-1)] 38)) (fun e w' => e = .returned (.agg #[.int .i64 0, .int .i64 5, .int .i64 1, .int .i64 0, .int .i64 0, .int .i64 0, .int .i64 1]) ∧ Below (X.alloc (.cells #[.int .i64 0, .int .i64 3, .int .i64 0, .int .i64 0, .int .i64 (-1), .int .i64 (-1), .int .i64 (-1)] 38)).heap.size (X.alloc (.cells #[.int .i64 0, .int .i64 3, .int .i64 0, .int .i64 0, .int .i64 (-1), .int .i64 (-1), .int .i64 (-1)] 38)) w') from
    of_any (some ⟨X.heap.size, 0, none⟩) 1 1 exT 0 5 (X.alloc (.cells #[.int .i64 0, .int .i64 3, .int .i64 0, .int .i64 0, .int .i64 (-1), .int .i64 (-1), .int .i64 (-1)] 38)) (rd_exT X) (by omega) (fun i hi => by
      have e1 : exT i 1 = 3 := rfl
      have e5 : exT i 5 = -1 := rfl
      have e6 : exT i 6 = -1 := rfl
      omega))
  go_enter Try.func8, Try.ntmps8
  go_wp2_with fail
  refine (S.out _).mono ?_
  rintro e w1 ⟨rfl, hb1⟩
  have B1 := hb1.alloc hb1.size (.cells #[.int .i64 0, .int .i64 0, .int .i64 0, .int .i64 0, .int .i64 0, .int .i64 0, .int .i64 0] 28)
  have B2 := Lib.hid (B1.alloc B1.size (.cells #[.int .i64 0, .int .i64 3, .int .i64 0, .int .i64 0, .int .i64 (-1), .int .i64 (-1), .int .i64 (-1)] 38))
  clear hb1 B1
  go_wp2_with fail
  have K := OF.out (w1.alloc (.cells #[.int .i64 0, .int .i64 0, .int .i64 0, .int .i64 0, .int .i64 0, .int .i64 0, .int .i64 0] 28))
  rw [World.size_alloc] at K
  refine K.mono ?_
  rintro e w2 ⟨rfl, hb2⟩
  have hb2 : Below ((w1.alloc (.cells #[.int .i64 0, .int .i64 0, .int .i64 0, .int .i64 0, .int .i64 0, .int .i64 0, .int .i64 0] 28)).alloc (.cells #[.int .i64 0, .int .i64 3, .int .i64 0, .int .i64 0, .int .i64 (-1), .int .i64 (-1), .int .i64 (-1)] 38)).heap.size ((w1.alloc (.cells #[.int .i64 0, .int .i64 0, .int .i64 0, .int .i64 0, .int .i64 0, .int .i64 0, .int .i64 0] 28)).alloc (.cells #[.int .i64 0, .int .i64 3, .int .i64 0, .int .i64 0, .int .i64 (-1), .int .i64 (-1), .int .i64 (-1)] 38)) w2 := hb2
  have B3 := B2.out.trans (hb2.mono B2.out.size)
  have B4 := Lib.hid (B3.alloc B3.size (.cells #[.int .i64 0, .int .i64 5, .int .i64 1, .int .i64 0, .int .i64 0, .int .i64 0, .int .i64 1] 28))
  clear K hb2 B3
  go_wp2_with fail
  go_ret
  exact ⟨rfl, B4.out⟩
end Go.Proofs.Ytffcmfpadaebdab
