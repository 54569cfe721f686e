/- Contracts of trip.Aboard, of the document's Waits and Aboard, of Great. -/
import Derived.Test.YtcofafiacpecnaaRows
import Derived.Test.YtcofafiacpecnaaRowKit
import Derived.Test.YtcofafiacpecnaaRowS
import Derived.Test.YtcofafiacpecnaaRowZ
import Derived.Test.YtcofafiacpecnaaSlicesEq
import Derived.Test.YtcofafiacpecnaaRowL
import Derived.Test.YtcofafiacpecnaaTripMath
import Derived.Test.YtcofafiacpecnaaTripA
import Derived.Test.YtcofafiacpecnaaTripB
import Derived.WalkKit
import Derived.IntWalk
import Derived.Lib.Hide
import Derived.Lib.SmallJoins
import Derived.WalkSpells
import Derived.WalkLawsBesides
import Derived.Deep.QuietTactic
import Derived.Deep.RegionHeld3
import Derived.Deep.AppendLies
import Derived.BigQuiet
import Derived.Below
import Derived.OwnWalk
namespace Go.Proofs.Ytcofafiacpecnaa
open Go.RowKit
set_option linter.unusedSimpArgs false
set_option linter.unusedVariables false
set_option maxHeartbeats 2000000 in
theorem aboard_any (A : Option Addr) (c n : Nat) (u : Int) (z : Nat → Nat → Int) (w : World) (hr : RdZ w 7 A n z) (hn : n ≤ 1000) (hz : TBd z n) (hu0 : -1 ≤ u) (hu1 : u ≤ 1073741824) :
    Calls Try.prog 85 #[.slice A n c, .int .i64 u] w fun e w' => e = .returned (.int .i64 (aboardV z u n)) ∧ Below w.heap.size w w' := by
  have HZ := Lib.hid hz
  have AB := Lib.hid (fun k => aboard_bd z hu1 k)
  have S0 := Lib.hid (aboard_zero z u)
  clear hz
  go_enter Try.func85, Try.ntmps85
  go_wp2_with fail
  go_loopw [5, 11] (fun s i wr => ∃ k : Nat, k ≤ n ∧ i = .int .i64 k ∧ s = .int .i64 (aboardV z u k) ∧ Below w.heap.size w wr) (fun _ i _ => n - (intOf i).toNat)
  case atStart => exact ⟨0, by omega, rfl, rfl, Below.refl _ _⟩
  case round =>
    obtain ⟨k, hk, rfl, rfl, hb⟩ := hrel
    obtain ⟨s0, s1⟩ := AB.out k
    have SS := aboard_succ z u k
    obtain ⟨s, hs⟩ : ∃ s, aboardV z u k = s := ⟨_, rfl⟩
    rw [hs] at s0 s1 SS ⊢
    have HS := Lib.hid hs
    have HSS := Lib.hid SS
    clear hs SS
    have s2 : s ≤ 1099511627776 := by omega
    clear s1
    by_cases h : k < n
    · obtain ⟨b, off, rfl, hlt, hc⟩ := rdZ_row (hr.kept hb) (by omega) (by omega)
      have c0 : wr.cell? ⟨b, off + k * 7, none⟩ = _ := hc k 0 h (by omega)
      have c1 := hc k 1 h (by omega)
      have c2 := hc k 2 h (by omega)
      have c3 := hc k 3 h (by omega)
      have c4 := hc k 4 h (by omega)
      have c5 := hc k 5 h (by omega)
      have c6 := hc k 6 h (by omega)
      clear hc
      have B1 := Lib.hid (hb.alloc hb.size (.cells #[.int .i64 (z k 0), .int .i64 (z k 1), .int .i64 (z k 2), .int .i64 (z k 3), .int .i64 (z k 4), .int .i64 (z k 5), .int .i64 (z k 6)] 125))
      obtain ⟨z1, ⟨z5, z5'⟩, ⟨z6, z6'⟩⟩ := HZ.out k h
      clear z1
      by_cases c1' : z k 5 < 0
      · have E := Lib.hid (show rodeV u (z k 5) (z k 6) = 0 by unfold rodeV; rw [if_pos (.inl c1')])
        go_wp2_with fail
        all_goals
          go_roundw
          case rel => exact ⟨k + 1, by omega, by go_num, tvint (by rw [HSS.out, E.out] <;> omega), B1.out⟩
          case measure => simp [intOf]; omega
      · by_cases c2' : u ≤ z k 5
        · have E := Lib.hid (show rodeV u (z k 5) (z k 6) = 0 by unfold rodeV; rw [if_pos (.inr c2')])
          go_wp2_with fail
          all_goals
            go_roundw
            case rel => exact ⟨k + 1, by omega, by go_num, tvint (by rw [HSS.out, E.out] <;> omega), B1.out⟩
            case measure => simp [intOf]; omega
        · by_cases c3' : 0 ≤ z k 6
          · have E := Lib.hid (show rodeV u (z k 5) (z k 6) = max 0 (min u (z k 6) - z k 5) by unfold rodeV; rw [if_neg (by omega), if_pos c3'])
            go_wp2_with fail
            all_goals
              go_roundw
              case rel => exact ⟨k + 1, by omega, by go_num, tvint (by rw [HSS.out, E.out] <;> omega), B1.out⟩
              case measure => simp [intOf]; omega
          · have E := Lib.hid (show rodeV u (z k 5) (z k 6) = max 0 (u - z k 5) by unfold rodeV; rw [if_neg (by omega), if_neg c3'])
            go_wp2_with fail
            all_goals
              go_roundw
              case rel => exact ⟨k + 1, by omega, by go_num, tvint (by rw [HSS.out, E.out] <;> omega), B1.out⟩
              case measure => simp [intOf]; omega
    · obtain rfl : k = n := by omega
      go_wp2_with fail
      go_ret
      exact ⟨tret (by rw [HS.out]), hb⟩
set_option maxHeartbeats 2000000 in
theorem raboard_any (A : Option Addr) (c n : Nat) (u : Int) (z : Nat → Nat → Int) (w : World) (hr : RdZ w 7 A n z) (hn : n ≤ 1000) (hz : TBd z n) (hu0 : -1 ≤ u) (hu1 : u ≤ 1073741824) :
    Calls Try.prog 46 #[.slice A n c, .int .i64 u] w fun e w' => e = .returned (.int .i64 (aboardV z u n)) ∧ Below w.heap.size w w' := by
  have HZ := Lib.hid hz
  have AB := Lib.hid (fun k => aboard_bd z hu1 k)
  have S0 := Lib.hid (aboard_zero z u)
  clear hz
  go_enter Try.func46, Try.ntmps46
  go_wp2_with fail
  go_loopw [5, 6] (fun s i wr => ∃ k : Nat, k ≤ n ∧ i = .int .i64 k ∧ s = .int .i64 (aboardV z u k) ∧ Below w.heap.size w wr) (fun _ i _ => n - (intOf i).toNat)
  case atStart => exact ⟨0, by omega, rfl, rfl, Below.refl _ _⟩
  case round =>
    obtain ⟨k, hk, rfl, rfl, hb⟩ := hrel
    obtain ⟨s0, s1⟩ := AB.out k
    have SS := aboard_succ z u k
    obtain ⟨s, hs⟩ : ∃ s, aboardV z u k = s := ⟨_, rfl⟩
    rw [hs] at s0 s1 SS ⊢
    have HS := Lib.hid hs
    have HSS := Lib.hid SS
    clear hs SS
    have s2 : s ≤ 1099511627776 := by omega
    clear s1
    by_cases h : k < n
    · obtain ⟨b, off, rfl, hlt, hc⟩ := rdZ_row (hr.kept hb) (by omega) (by omega)
      have c0 : wr.cell? ⟨b, off + k * 7, none⟩ = _ := hc k 0 h (by omega)
      have c1 := hc k 1 h (by omega)
      have c2 := hc k 2 h (by omega)
      have c3 := hc k 3 h (by omega)
      have c4 := hc k 4 h (by omega)
      have c5 := hc k 5 h (by omega)
      have c6 := hc k 6 h (by omega)
      clear hc
      have B1 := Lib.hid (hb.alloc hb.size (.cells #[.int .i64 (z k 0), .int .i64 (z k 1), .int .i64 (z k 2), .int .i64 (z k 3), .int .i64 (z k 4), .int .i64 (z k 5), .int .i64 (z k 6)] 125))
      obtain ⟨z1, ⟨z5, z5'⟩, ⟨z6, z6'⟩⟩ := HZ.out k h
      clear z1
      have E := Lib.hid (show rodeV u (z k 5) (z k 6) = if z k 5 < 0 ∨ u ≤ z k 5 then 0 else max 0 ((if 0 ≤ z k 6 then min u (z k 6) else u) - z k 5) from rfl)
      by_cases c3' : 0 ≤ z k 6
      · by_cases c4' : z k 6 < u
        · skip
          by_cases d0 : z k 5 < 0
          · have F := Lib.hid (show rodeV u (z k 5) (z k 6) = 0 from (by have := E.out; rw [this]; split <;> (try split) <;> omega))
            go_wp2_with fail
            all_goals
              go_roundw
              case rel => exact ⟨k + 1, by omega, by go_num, tvint (by rw [HSS.out, F.out] <;> omega), B1.out⟩
              case measure => simp [intOf]; omega
          · skip
            by_cases d1 : u ≤ z k 5
            · have F := Lib.hid (show rodeV u (z k 5) (z k 6) = 0 from (by have := E.out; rw [this]; split <;> (try split) <;> omega))
              go_wp2_with fail
              all_goals
                go_roundw
                case rel => exact ⟨k + 1, by omega, by go_num, tvint (by rw [HSS.out, F.out] <;> omega), B1.out⟩
                case measure => simp [intOf]; omega
            · skip
              by_cases d2 : z k 6 ≤ z k 5
              · have F := Lib.hid (show rodeV u (z k 5) (z k 6) = 0 from (by have := E.out; rw [this]; split <;> (try split) <;> omega))
                go_wp2_with fail
                all_goals
                  go_roundw
                  case rel => exact ⟨k + 1, by omega, by go_num, tvint (by rw [HSS.out, F.out] <;> omega), B1.out⟩
                  case measure => simp [intOf]; omega
              · skip
                have F := Lib.hid (show rodeV u (z k 5) (z k 6) = z k 6 - z k 5 from (by have := E.out; rw [this]; split <;> (try split) <;> omega))
                go_wp2_with fail
                all_goals
                  go_roundw
                  case rel => exact ⟨k + 1, by omega, by go_num, tvint (by rw [HSS.out, F.out] <;> omega), B1.out⟩
                  case measure => simp [intOf]; omega
        · skip
          by_cases d0 : z k 5 < 0
          · have F := Lib.hid (show rodeV u (z k 5) (z k 6) = 0 from (by have := E.out; rw [this]; split <;> (try split) <;> omega))
            go_wp2_with fail
            all_goals
              go_roundw
              case rel => exact ⟨k + 1, by omega, by go_num, tvint (by rw [HSS.out, F.out] <;> omega), B1.out⟩
              case measure => simp [intOf]; omega
          · skip
            by_cases d1 : u ≤ z k 5
            · have F := Lib.hid (show rodeV u (z k 5) (z k 6) = 0 from (by have := E.out; rw [this]; split <;> (try split) <;> omega))
              go_wp2_with fail
              all_goals
                go_roundw
                case rel => exact ⟨k + 1, by omega, by go_num, tvint (by rw [HSS.out, F.out] <;> omega), B1.out⟩
                case measure => simp [intOf]; omega
            · skip
              have F := Lib.hid (show rodeV u (z k 5) (z k 6) = u - z k 5 from (by have := E.out; rw [this]; split <;> (try split) <;> omega))
              go_wp2_with fail
              all_goals
                go_roundw
                case rel => exact ⟨k + 1, by omega, by go_num, tvint (by rw [HSS.out, F.out] <;> omega), B1.out⟩
                case measure => simp [intOf]; omega
      · skip
        by_cases d0 : z k 5 < 0
        · have F := Lib.hid (show rodeV u (z k 5) (z k 6) = 0 from (by have := E.out; rw [this]; split <;> (try split) <;> omega))
          go_wp2_with fail
          all_goals
            go_roundw
            case rel => exact ⟨k + 1, by omega, by go_num, tvint (by rw [HSS.out, F.out] <;> omega), B1.out⟩
            case measure => simp [intOf]; omega
        · skip
          by_cases d1 : u ≤ z k 5
          · have F := Lib.hid (show rodeV u (z k 5) (z k 6) = 0 from (by have := E.out; rw [this]; split <;> (try split) <;> omega))
            go_wp2_with fail
            all_goals
              go_roundw
              case rel => exact ⟨k + 1, by omega, by go_num, tvint (by rw [HSS.out, F.out] <;> omega), B1.out⟩
              case measure => simp [intOf]; omega
          · skip
            have F := Lib.hid (show rodeV u (z k 5) (z k 6) = u - z k 5 from (by have := E.out; rw [this]; split <;> (try split) <;> omega))
            go_wp2_with fail
            all_goals
              go_roundw
              case rel => exact ⟨k + 1, by omega, by go_num, tvint (by rw [HSS.out, F.out] <;> omega), B1.out⟩
              case measure => simp [intOf]; omega
    · obtain rfl : k = n := by omega
      go_wp2_with fail
      go_ret
      exact ⟨tret (by rw [HS.out]), hb⟩
def GreatR (z : Nat → Nat → Int) (n : Nat) (w : World) (e : Ending) (w' : World) : Prop := ∃ b, e = .returned (.bool b) ∧ Below w.heap.size w w' ∧ (b = false → n ≤ 100 ∧ TBd z n)
theorem tbd_succ {z : Nat → Nat → Int} {k : Nat} (h : TBd z k) (h' : (-1 ≤ z k 1 ∧ z k 1 ≤ 1073741824) ∧ (-1 ≤ z k 5 ∧ z k 5 ≤ 1073741824) ∧ (-1 ≤ z k 6 ∧ z k 6 ≤ 1073741824)) : TBd z (k + 1) := fun i hi => by
  by_cases e : i = k
  · rw [e]; exact h'
  · exact h i (by omega)
set_option maxHeartbeats 2000000 in
theorem great_any (A : Option Addr) (c n : Nat) (z : Nat → Nat → Int) (w : World) (hr : RdZ w 7 A n z) (hm : n ≤ 9223372036854775807) :
    Calls Try.prog 42 #[.slice A n c] w (GreatR z n w) := by
  by_cases hn : 100 < n
  · go_enter Try.func42, Try.ntmps42
    go_wp2_with fail
    go_ret
    exact ⟨true, rfl, Below.refl _ _, fun e => by cases e⟩
  · go_enter Try.func42, Try.ntmps42
    go_wp2_with fail
    go_loopw [3] (fun i wr => ∃ k : Nat, k ≤ n ∧ i = .int .i64 k ∧ Hid (TBd z k) ∧ Below w.heap.size w wr) (fun i _ => n - (intOf i).toNat)
    case atStart => exact ⟨0, by omega, rfl, Lib.hid (fun i h => absurd h (by omega)), Below.refl _ _⟩
    case round =>
      obtain ⟨k, hk, rfl, HB, hb⟩ := hrel
      by_cases h : k < n
      · obtain ⟨b, off, rfl, hlt, hc⟩ := rdZ_row (hr.kept hb) (by omega) (by omega)
        have c0 : wr.cell? ⟨b, off + k * 7, none⟩ = _ := hc k 0 h (by omega)
        have c1 := hc k 1 h (by omega)
        have c2 := hc k 2 h (by omega)
        have c3 := hc k 3 h (by omega)
        have c4 := hc k 4 h (by omega)
        have c5 := hc k 5 h (by omega)
        have c6 := hc k 6 h (by omega)
        clear hc
        have B1 := Lib.hid (hb.alloc hb.size (.cells #[.int .i64 (z k 0), .int .i64 (z k 1), .int .i64 (z k 2), .int .i64 (z k 3), .int .i64 (z k 4), .int .i64 (z k 5), .int .i64 (z k 6)] 125))
        by_cases g1 : z k 1 < -1
        · go_wp2_with fail
          all_goals
            go_ret
            exact ⟨true, rfl, B1.out, fun e => by cases e⟩
        · skip
          by_cases g5 : z k 5 < -1
          · go_wp2_with fail
            all_goals
              go_ret
              exact ⟨true, rfl, B1.out, fun e => by cases e⟩
          · skip
            by_cases g6 : z k 6 < -1
            · go_wp2_with fail
              all_goals
                go_ret
                exact ⟨true, rfl, B1.out, fun e => by cases e⟩
            · skip
              by_cases gm : 1073741824 < max (max (z k 1) (z k 5)) (z k 6)
              · go_wp2_with fail
                all_goals
                  go_ret
                  exact ⟨true, rfl, B1.out, fun e => by cases e⟩
              · skip
                have NX := Lib.hid (tbd_succ HB.out ⟨⟨by omega, by omega⟩, ⟨by omega, by omega⟩, ⟨by omega, by omega⟩⟩)
                go_wp2_with fail
                go_roundw
                case rel => exact ⟨k + 1, by omega, by go_num, NX, B1.out⟩
                case measure => simp [intOf]; omega
      · obtain rfl : k = n := by omega
        go_wp2_with fail
        go_ret
        exact ⟨false, rfl, hb, fun _ => ⟨by omega, HB.out⟩⟩
end Go.Proofs.Ytcofafiacpecnaa
