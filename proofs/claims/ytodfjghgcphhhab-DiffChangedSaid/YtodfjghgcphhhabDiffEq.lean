/- slices.Equal at trips: any two rows. -/
import Derived.Test.YtodfjghgcphhhabRows
import Derived.Test.YtodfjghgcphhhabRowKit
import Derived.Test.YtodfjghgcphhhabRowS
import Derived.Test.YtodfjghgcphhhabRowZ
import Derived.Test.YtodfjghgcphhhabSlicesEq
import Derived.WalkKit
import Derived.Lib.Hide
import Derived.WalkSpells
import Derived.WalkLawsBesides
import Derived.Deep.QuietTactic
import Derived.BigQuiet
namespace Go.Proofs.Ytodfjghgcphhhab
open Go.RowKit
set_option linter.unusedSimpArgs false
set_option linter.unusedVariables false
def sameZ (m n n2 : Nat) (z z2 : Nat → Nat → Int) : Bool := decide (n = n2) && (List.range n).all fun k => (List.range m).all fun j => z k j == z2 k j
theorem sameZ_true (m n n2 : Nat) (z z2 : Nat → Nat → Int) : sameZ m n n2 z z2 = true ↔ n = n2 ∧ ∀ k < n, ∀ j < m, z k j = z2 k j := by simp [sameZ]
theorem sameZ_false {m n n2 : Nat} {z z2 : Nat → Nat → Int} (h : ¬ (n = n2 ∧ ∀ k < n, ∀ j < m, z k j = z2 k j)) : sameZ m n n2 z z2 = false := by
  rw [← sameZ_true] at h; simpa using h
set_option maxRecDepth 100000 in
set_option maxHeartbeats 4000000 in
theorem trips_eq (A B : Option Addr) (c d n n2 : Nat) (z z2 : Nat → Nat → Int) (w : World) (ha : RdZ w 7 A n z) (hb : RdZ w 7 B n2 z2) (hl : n ≤ 9223372036854775807) (hl2 : n2 ≤ 9223372036854775807) :
    Calls Try.prog 39 #[.slice A n c, .slice B n2 d] w fun e w' => e = .returned (.bool (sameZ 7 n n2 z z2)) ∧ ∃ k, w' = w.drewN k := by
  by_cases hnn : n = n2
  case neg =>
    have e : sameZ 7 n n2 z z2 = false := sameZ_false (fun h => hnn h.1)
    rw [e]
    clear ha hb e
    go_enter Try.func39, Try.ntmps39
    have hne : ((n : Int) == (n2 : Int)) = false := by simp; omega
    have hne2 : ((n : Int) != (n2 : Int)) = true := by simp; omega
    go_wp2_with fail
    go_ret
    exact ⟨rfl, 0, rfl⟩
  subst hnn
  by_cases hn : n = 0
  · subst hn
    have e : sameZ 7 0 0 z z2 = true := (sameZ_true ..).2 ⟨rfl, fun k h => absurd h (by omega)⟩
    rw [e]
    clear ha hb e
    go_enter Try.func39, Try.ntmps39
    go_wp2_with fail
    go_loop [13] (fun i => i = .int .i64 0) (fun i => 0)
    case atStart => exact rfl
    case round =>
      obtain rfl := hrel
      go_wp2_with fail
      go_ret
      exact ⟨rfl, 0, rfl⟩
  · obtain ⟨b1, o1, rfl, _, h1⟩ := rdZ_row ha (by omega) (by omega)
    obtain ⟨b2, o2, rfl, _, h2⟩ := rdZ_row hb (by omega) (by omega)
    have H1 := Lib.hid h1
    have H2 := Lib.hid h2
    clear ha hb h1 h2
    obtain ⟨R, hR⟩ : ∃ R, sameZ 7 n n z z2 = R := ⟨_, rfl⟩
    rw [hR]
    have HR := Lib.hid hR
    clear hR
    go_enter Try.func39, Try.ntmps39
    go_wp2_with fail
    go_loopw [13] (fun i wr => ∃ k : Nat, k ≤ n ∧ (Hid (∀ q < k, ∀ j < 7, z q j = z2 q j)) ∧ i = .int .i64 k ∧ ∃ q, wr = w.drewN q) (fun i _ => n - (intOf i).toNat)
    case atStart => exact ⟨0, by omega, Lib.hid (fun q h => absurd h (by omega)), rfl, 0, rfl⟩
    case round =>
      obtain ⟨k, hk, hall, rfl, q, rfl⟩ := hrel
      by_cases h : k < n
      · skip
        have a0 : w.cell? ⟨b1, o1 + k * 7, none⟩ = _ := H1.out k 0 h (by omega)
        have a1 := H1.out k 1 h (by omega)
        have a2 := H1.out k 2 h (by omega)
        have a3 := H1.out k 3 h (by omega)
        have a4 := H1.out k 4 h (by omega)
        have a5 := H1.out k 5 h (by omega)
        have a6 := H1.out k 6 h (by omega)
        have e0 : w.cell? ⟨b2, o2 + k * 7, none⟩ = _ := H2.out k 0 h (by omega)
        have e1 := H2.out k 1 h (by omega)
        have e2 := H2.out k 2 h (by omega)
        have e3 := H2.out k 3 h (by omega)
        have e4 := H2.out k 4 h (by omega)
        have e5 := H2.out k 5 h (by omega)
        have e6 := H2.out k 6 h (by omega)
        obtain ⟨x0, hx0⟩ : ∃ x, z k 0 = x := ⟨_, rfl⟩
        obtain ⟨y0, hy0⟩ : ∃ y, z2 k 0 = y := ⟨_, rfl⟩
        rw [hx0] at a0
        rw [hy0] at e0
        obtain ⟨x1, hx1⟩ : ∃ x, z k 1 = x := ⟨_, rfl⟩
        obtain ⟨y1, hy1⟩ : ∃ y, z2 k 1 = y := ⟨_, rfl⟩
        rw [hx1] at a1
        rw [hy1] at e1
        obtain ⟨x2, hx2⟩ : ∃ x, z k 2 = x := ⟨_, rfl⟩
        obtain ⟨y2, hy2⟩ : ∃ y, z2 k 2 = y := ⟨_, rfl⟩
        rw [hx2] at a2
        rw [hy2] at e2
        obtain ⟨x3, hx3⟩ : ∃ x, z k 3 = x := ⟨_, rfl⟩
        obtain ⟨y3, hy3⟩ : ∃ y, z2 k 3 = y := ⟨_, rfl⟩
        rw [hx3] at a3
        rw [hy3] at e3
        obtain ⟨x4, hx4⟩ : ∃ x, z k 4 = x := ⟨_, rfl⟩
        obtain ⟨y4, hy4⟩ : ∃ y, z2 k 4 = y := ⟨_, rfl⟩
        rw [hx4] at a4
        rw [hy4] at e4
        obtain ⟨x5, hx5⟩ : ∃ x, z k 5 = x := ⟨_, rfl⟩
        obtain ⟨y5, hy5⟩ : ∃ y, z2 k 5 = y := ⟨_, rfl⟩
        rw [hx5] at a5
        rw [hy5] at e5
        obtain ⟨x6, hx6⟩ : ∃ x, z k 6 = x := ⟨_, rfl⟩
        obtain ⟨y6, hy6⟩ : ∃ y, z2 k 6 = y := ⟨_, rfl⟩
        rw [hx6] at a6
        rw [hy6] at e6
        by_cases hs : x0 = y0 ∧ x1 = y1 ∧ x2 = y2 ∧ x3 = y3 ∧ x4 = y4 ∧ x5 = y5 ∧ x6 = y6
        · have hall2 : Hid (∀ q < k + 1, ∀ j < 7, z q j = z2 q j) := Lib.hid (fun q hq j hj => by
            by_cases hqk : q < k
            · exact hall.out q hqk j hj
            · obtain rfl : q = k := by omega
              rcases j with _ | _ | _ | _ | _ | _ | _ | j <;> first | omega | (simp only [hx0, hx1, hx2, hx3, hx4, hx5, hx6, hy0, hy1, hy2, hy3, hy4, hy5, hy6, hs]))
          clear hx0 hy0 hx1 hy1 hx2 hy2 hx3 hy3 hx4 hy4 hx5 hy5 hx6 hy6 hall
          obtain ⟨rfl, rfl, rfl, rfl, rfl, rfl, rfl⟩ := hs
          go_wp2_with fail
          go_quiet (fail)
          go_wp2_with fail
          go_roundw
          case rel => exact ⟨k + 1, by omega, hall2, by go_num, _, rfl⟩
          case measure => simp [intOf]; omega
        · obtain rfl : R = false := by
            rw [← HR.out]
            exact sameZ_false (fun hc => hs ⟨by rw [← hx0, ← hy0]; exact hc.2 k h 0 (by omega), by rw [← hx1, ← hy1]; exact hc.2 k h 1 (by omega), by rw [← hx2, ← hy2]; exact hc.2 k h 2 (by omega), by rw [← hx3, ← hy3]; exact hc.2 k h 3 (by omega), by rw [← hx4, ← hy4]; exact hc.2 k h 4 (by omega), by rw [← hx5, ← hy5]; exact hc.2 k h 5 (by omega), by rw [← hx6, ← hy6]; exact hc.2 k h 6 (by omega)⟩)
          clear hx0 hy0 hx1 hy1 hx2 hy2 hx3 hy3 hx4 hy4 hx5 hy5 hx6 hy6 hall HR
          have hw : ((x0 == y0) = false) ∨ (x0 = y0 ∧ (x1 == y1) = false) ∨ (x0 = y0 ∧ x1 = y1 ∧ (x2 == y2) = false) ∨ (x0 = y0 ∧ x1 = y1 ∧ x2 = y2 ∧ (x3 == y3) = false) ∨ (x0 = y0 ∧ x1 = y1 ∧ x2 = y2 ∧ x3 = y3 ∧ (x4 == y4) = false) ∨ (x0 = y0 ∧ x1 = y1 ∧ x2 = y2 ∧ x3 = y3 ∧ x4 = y4 ∧ (x5 == y5) = false) ∨ (x0 = y0 ∧ x1 = y1 ∧ x2 = y2 ∧ x3 = y3 ∧ x4 = y4 ∧ x5 = y5 ∧ (x6 == y6) = false) := by
            by_cases g0 : x0 = y0
            case neg => exact Or.inl (by simpa using g0)
            by_cases g1 : x1 = y1
            case neg => exact Or.inr (Or.inl ⟨g0, by simpa using g1⟩)
            by_cases g2 : x2 = y2
            case neg => exact Or.inr (Or.inr (Or.inl ⟨g0, g1, by simpa using g2⟩))
            by_cases g3 : x3 = y3
            case neg => exact Or.inr (Or.inr (Or.inr (Or.inl ⟨g0, g1, g2, by simpa using g3⟩)))
            by_cases g4 : x4 = y4
            case neg => exact Or.inr (Or.inr (Or.inr (Or.inr (Or.inl ⟨g0, g1, g2, g3, by simpa using g4⟩))))
            by_cases g5 : x5 = y5
            case neg => exact Or.inr (Or.inr (Or.inr (Or.inr (Or.inr (Or.inl ⟨g0, g1, g2, g3, g4, by simpa using g5⟩)))))
            by_cases g6 : x6 = y6
            case neg => exact Or.inr (Or.inr (Or.inr (Or.inr (Or.inr (Or.inr (⟨g0, g1, g2, g3, g4, g5, by simpa using g6⟩))))))
            exact absurd ⟨g0, g1, g2, g3, g4, g5, g6⟩ hs
          clear hs
          rcases hw with hb | ⟨rfl, hb⟩ | ⟨rfl, rfl, hb⟩ | ⟨rfl, rfl, rfl, hb⟩ | ⟨rfl, rfl, rfl, rfl, hb⟩ | ⟨rfl, rfl, rfl, rfl, rfl, hb⟩ | ⟨rfl, rfl, rfl, rfl, rfl, rfl, hb⟩
          · go_wp2_with fail
            go_quiet (fail)
            go_wp2_with fail
            go_ret
            exact ⟨rfl, q + nq, World.drewN_drewN ..⟩
          · go_wp2_with fail
            go_quiet (fail)
            go_wp2_with fail
            go_ret
            exact ⟨rfl, q + nq, World.drewN_drewN ..⟩
          · go_wp2_with fail
            go_quiet (fail)
            go_wp2_with fail
            go_ret
            exact ⟨rfl, q + nq, World.drewN_drewN ..⟩
          · go_wp2_with fail
            go_quiet (fail)
            go_wp2_with fail
            go_ret
            exact ⟨rfl, q + nq, World.drewN_drewN ..⟩
          · go_wp2_with fail
            go_quiet (fail)
            go_wp2_with fail
            go_ret
            exact ⟨rfl, q + nq, World.drewN_drewN ..⟩
          · go_wp2_with fail
            go_quiet (fail)
            go_wp2_with fail
            go_ret
            exact ⟨rfl, q + nq, World.drewN_drewN ..⟩
          · go_wp2_with fail
            go_quiet (fail)
            go_wp2_with fail
            go_ret
            exact ⟨rfl, q + nq, World.drewN_drewN ..⟩
      · obtain rfl : R = true := by
          rw [← HR.out]
          exact (sameZ_true ..).2 ⟨rfl, fun q hq j hj => hall.out q (by omega) j hj⟩
        clear hall HR
        go_wp2_with fail
        go_ret
        exact ⟨rfl, _, rfl⟩
end Go.Proofs.Ytodfjghgcphhhab
