/- Contracts of trip.Aboard, of the document's Waits and Aboard, of Great. -/
import Derived.Test.YtmdjncknjbjmbaaRows
import Derived.Test.YtmdjncknjbjmbaaRowKit
import Derived.Test.YtmdjncknjbjmbaaRowS
import Derived.Test.YtmdjncknjbjmbaaRowZ
import Derived.Test.YtmdjncknjbjmbaaSlicesEq
import Derived.Test.YtmdjncknjbjmbaaRowL
import Derived.Test.YtmdjncknjbjmbaaTripMath
import Derived.Test.YtmdjncknjbjmbaaTripA
import Derived.Test.YtmdjncknjbjmbaaTripB
import Derived.WalkKit
import Derived.IntWalk
import Derived.Lib.Hide
import Derived.Lib.SmallJoins
import Derived.WalkSpells
import Derived.WalkLawsBesides
import Derived.Deep.QuietTactic
import Derived.Deep.RegionHeld3
import Derived.Deep.AppendLies
import Derived.BigQuiet
import Derived.Below
import Derived.OwnWalk
namespace Go.Proofs.Ytmdjncknjbjmbaa
open Go.RowKit
set_option linter.unusedSimpArgs false
set_option linter.unusedVariables false
def GreatR (z : Nat → Nat → Int) (n : Nat) (w : World) (e : Ending) (w' : World) : Prop := ∃ b, e = .returned (.bool b) ∧ Below w.heap.size w w' ∧ (b = false → n ≤ 100 ∧ TBd z n)
theorem tbd_succ {z : Nat → Nat → Int} {k : Nat} (h : TBd z k) (h' : (-1 ≤ z k 1 ∧ z k 1 ≤ 1073741824) ∧ (-1 ≤ z k 5 ∧ z k 5 ≤ 1073741824) ∧ (-1 ≤ z k 6 ∧ z k 6 ≤ 1073741824)) : TBd z (k + 1) := fun i hi => by
  by_cases e : i = k
  · rw [e]; exact h'
  · exact h i (by omega)
set_option maxHeartbeats 2000000 in
theorem great_any (A : Option Addr) (c n : Nat) (z : Nat → Nat → Int) (w : World) (hr : RdZ w 7 A n z) (hm : n ≤ 9223372036854775807) :
    Calls Try.prog 29 #[.slice A n c] w (GreatR z n w) := by
  by_cases hn : 100 < n
  · go_enter Try.func29, Try.ntmps29
    go_wp2_with fail
    go_ret
    exact ⟨true, rfl, Below.refl _ _, fun e => by cases e⟩
  · go_enter Try.func29, Try.ntmps29
    go_wp2_with fail
    go_loopw [3] (fun i wr => ∃ k : Nat, k ≤ n ∧ i = .int .i64 k ∧ Hid (TBd z k) ∧ Below w.heap.size w wr) (fun i _ => n - (intOf i).toNat)
    case atStart => exact ⟨0, by omega, rfl, Lib.hid (fun i h => absurd h (by omega)), Below.refl _ _⟩
    case round =>
      obtain ⟨k, hk, rfl, HB, hb⟩ := hrel
      by_cases h : k < n
      · obtain ⟨b, off, rfl, hlt, hc⟩ := rdZ_row (hr.kept hb) (by omega) (by omega)
        have c0 : wr.cell? ⟨b, off + k * 7, none⟩ = _ := hc k 0 h (by omega)
        have c1 := hc k 1 h (by omega)
        have c2 := hc k 2 h (by omega)
        have c3 := hc k 3 h (by omega)
        have c4 := hc k 4 h (by omega)
        have c5 := hc k 5 h (by omega)
        have c6 := hc k 6 h (by omega)
        clear hc
        have B1 := Lib.hid (hb.alloc hb.size (.cells #[.int .i64 (z k 0), .int .i64 (z k 1), .int .i64 (z k 2), .int .i64 (z k 3), .int .i64 (z k 4), .int .i64 (z k 5), .int .i64 (z k 6)] 45))
        by_cases g1 : z k 1 < -1
        · go_wp2_with fail
          all_goals
            go_ret
            exact ⟨true, rfl, B1.out, fun e => by cases e⟩
        · skip
          by_cases g5 : z k 5 < -1
          · go_wp2_with fail
            all_goals
              go_ret
              exact ⟨true, rfl, B1.out, fun e => by cases e⟩
          · skip
            by_cases g6 : z k 6 < -1
            · go_wp2_with fail
              all_goals
                go_ret
                exact ⟨true, rfl, B1.out, fun e => by cases e⟩
            · skip
              by_cases gm : 1073741824 < max (max (z k 1) (z k 5)) (z k 6)
              · go_wp2_with fail
                all_goals
                  go_ret
                  exact ⟨true, rfl, B1.out, fun e => by cases e⟩
              · skip
                have NX := Lib.hid (tbd_succ HB.out ⟨⟨by omega, by omega⟩, ⟨by omega, by omega⟩, ⟨by omega, by omega⟩⟩)
                go_wp2_with fail
                go_roundw
                case rel => exact ⟨k + 1, by omega, by go_num, NX, B1.out⟩
                case measure => simp [intOf]; omega
      · obtain rfl : k = n := by omega
        go_wp2_with fail
        go_ret
        exact ⟨false, rfl, hb, fun _ => ⟨by omega, HB.out⟩⟩
end Go.Proofs.Ytmdjncknjbjmbaa
