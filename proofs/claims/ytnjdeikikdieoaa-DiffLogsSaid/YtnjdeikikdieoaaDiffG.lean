/- Great at any log. -/
import Derived.Test.YtnjdeikikdieoaaRows
import Derived.Test.YtnjdeikikdieoaaRowKit
import Derived.Test.YtnjdeikikdieoaaRowS
import Derived.Test.YtnjdeikikdieoaaRowZ
import Derived.Test.YtnjdeikikdieoaaSlicesEq
import Derived.Test.YtnjdeikikdieoaaRowV
import Derived.Test.YtnjdeikikdieoaaRowW
import Derived.Test.YtnjdeikikdieoaaBlocks
import Derived.Below
import Derived.WalkKit
import Derived.Lib.Hide
import Derived.WalkSpells
import Derived.WalkLawsBesides
import Derived.Deep.QuietTactic
import Derived.BigQuiet
namespace Go.Proofs.Ytnjdeikikdieoaa
open Go.RowKit
set_option linter.unusedSimpArgs false
set_option linter.unusedVariables false
/-- a log beyond the sizes -/
def greatW (nt n : Nat) (ln : Nat → Nat) : Bool := decide (100 < nt) || decide (20 < n) || (List.range n).any fun k => decide (100 < ln k)
theorem greatW_false (nt n : Nat) (ln : Nat → Nat) : greatW nt n ln = false ↔ nt ≤ 100 ∧ n ≤ 20 ∧ ∀ k < n, ln k ≤ 100 := by
  unfold greatW
  simp [List.any_eq_false, and_assoc]
theorem greatW_true {nt n : Nat} {ln : Nat → Nat} (h : ¬ (nt ≤ 100 ∧ n ≤ 20 ∧ ∀ k < n, ln k ≤ 100)) : greatW nt n ln = true := by
  rw [← greatW_false] at h; simpa using h
set_option maxRecDepth 100000 in
set_option maxHeartbeats 4000000 in
theorem great_any (T A : Option Addr) (c d nt n : Nat) (u : Int) (P : Nat → Option Addr) (ln cp : Nat → Nat) (v : Nat → Nat → Nat → Value) (w : World) (ha : RdW w 4 shLeg A n P ln cp v) (hl : n ≤ 9223372036854775807) (hl2 : nt ≤ 9223372036854775807) :
    Calls Try.prog 7 #[.agg #[.slice T nt c, .slice A n d, .int .i64 u]] w fun e w' => e = .returned (.bool (greatW nt n ln)) ∧ Below w.heap.size w w' := by
  by_cases g1 : 100 < nt
  · have e : greatW nt n ln = true := greatW_true fun h => by omega
    rw [e]
    clear ha e
    go_enter Try.func7, Try.ntmps7
    have gi : (100 : Int) < (nt : Int) := by omega
    go_wp2_with fail
    go_ret
    exact ⟨rfl, (Below.refl w.heap.size w).alloc (Nat.le_refl _) _⟩
  by_cases g2 : 20 < n
  · have e : greatW nt n ln = true := greatW_true fun h => by omega
    rw [e]
    clear ha e
    have gi : ¬ (100 : Int) < (nt : Int) := by omega
    have gj : (20 : Int) < (n : Int) := by omega
    go_enter Try.func7, Try.ntmps7
    go_wp2_with fail
    go_ret
    exact ⟨rfl, (Below.refl w.heap.size w).alloc (Nat.le_refl _) _⟩
  have gi : ¬ (100 : Int) < (nt : Int) := by omega
  have gj : ¬ (20 : Int) < (n : Int) := by omega
  obtain ⟨R, hR⟩ : ∃ R, greatW nt n ln = R := ⟨_, rfl⟩
  rw [hR]
  have HR := Lib.hid hR
  have G1 := Lib.hid g1
  have G2 := Lib.hid g2
  have BL := Blk.new w #[.slice T nt c, .slice A n d, .int .i64 u] 25
  have BE : Below w.heap.size w (w.alloc (.cells #[.slice T nt c, .slice A n d, .int .i64 u] 25)) := (Below.refl w.heap.size w).alloc (Nat.le_refl _) _
  have hk0 := RdW.kept ha BE
  clear ha hR g1 g2
  go_enter Try.func7, Try.ntmps7
  go_wp2_with fail
  obtain ⟨V0, hV0⟩ : ∃ V, w.alloc (.cells #[.slice T nt c, .slice A n d, .int .i64 u] 25) = V := ⟨_, rfl⟩
  rw [hV0] at BL BE hk0 ⊢
  clear hV0
  have HE := Lib.hid BE
  have HK := Lib.hid hk0
  have k1 : V0.cell? ⟨w.heap.size, 1, none⟩ = some (.slice A n d) := BL.cell 1
  clear BL BE hk0
  go_loopw [3] (fun i wr => ∃ k : Nat, k ≤ n ∧ (Hid (∀ q < k, ln q ≤ 100)) ∧ i = .int .i64 k ∧ ∃ q, wr = V0.drewN q) (fun i _ => n - (intOf i).toNat)
  case atStart => exact ⟨0, by omega, Lib.hid (fun q h => absurd h (by omega)), rfl, 0, rfl⟩
  case round =>
    obtain ⟨k, hk, hall, rfl, q, rfl⟩ := hrel
    by_cases h : k < n
    · obtain ⟨b1, o1, rfl, _, h1⟩ := rdW_row HK.out (by omega)
      have c1 := h1 k h
      obtain ⟨m1, m2, _⟩ := rdW_at HK.out h
      have hM : maxLen ≤ 9223372036854775807 := by decide
      have c2 : ln k ≤ 9223372036854775807 := by omega
      clear h1 m1 m2 hM
      obtain ⟨p1, hp1⟩ : ∃ x, P k = x := ⟨_, rfl⟩
      obtain ⟨l1, hl1⟩ : ∃ x, ln k = x := ⟨_, rfl⟩
      obtain ⟨d1, hd1⟩ : ∃ x, cp k = x := ⟨_, rfl⟩
      rw [hp1, hl1, hd1] at c1
      rw [hl1] at c2
      by_cases hs : l1 ≤ 100
      · have hall2 : Hid (∀ q < k + 1, ln q ≤ 100) := Lib.hid (fun q hq => by
          by_cases hqk : q < k
          · exact hall.out q hqk
          · obtain rfl : q = k := by omega
            rw [hl1]; exact hs)
        have hsi : ¬ (100 : Int) < (l1 : Int) := by omega
        clear hp1 hl1 hd1 hall gi gj
        go_wp2_with fail
        go_roundw
        case rel => exact ⟨k + 1, by omega, hall2, by go_num, _, rfl⟩
        case measure => simp [intOf]; omega
      · obtain rfl : R = true := by
          rw [← HR.out]
          exact greatW_true fun hx => hs (by rw [← hl1]; exact hx.2.2 k h)
        have hsi : (100 : Int) < (l1 : Int) := by omega
        clear hp1 hl1 hd1 hall HR gi gj
        go_wp2_with fail
        go_ret
        exact ⟨rfl, below_drewN HE.out _⟩
    · obtain rfl : R = false := by
        rw [← HR.out]
        exact (greatW_false ..).2 ⟨by have := G1.out; omega, by have := G2.out; omega, fun q hq => hall.out q (by omega)⟩
      clear hall HR gi gj
      go_wp2_with fail
      go_ret
      exact ⟨rfl, below_drewN HE.out _⟩
end Go.Proofs.Ytnjdeikikdieoaa
