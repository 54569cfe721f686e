/- diff.Trips at any two rows. -/
import Derived.Test.YtodfjghgcphhhabRows
import Derived.Test.YtodfjghgcphhhabRowKit
import Derived.Test.YtodfjghgcphhhabRowS
import Derived.Test.YtodfjghgcphhhabRowZ
import Derived.Test.YtodfjghgcphhhabSlicesEq
import Derived.WalkKit
import Derived.Lib.Hide
import Derived.WalkSpells
import Derived.WalkLawsBesides
import Derived.Deep.QuietTactic
import Derived.BigQuiet
namespace Go.Proofs.Ytodfjghgcphhhab
open Go.RowKit
set_option linter.unusedSimpArgs false
set_option linter.unusedVariables false
/-- two rows agree at a place -/
def RowEq (z z2 : Nat → Nat → Int) (k : Nat) : Prop := ∀ j < 7, z k j = z2 k j
/-- where two rows of trips part -/
def PartZ (n n2 : Nat) (z z2 : Nat → Nat → Int) (i : Nat) (b : Bool) : Prop :=
  (b = false ∧ i = 0 ∧ n = n2 ∧ ∀ k < n, RowEq z z2 k) ∨ (b = true ∧ (∀ k < i, RowEq z z2 k) ∧ ((i < n ∧ i < n2 ∧ ¬ RowEq z z2 i) ∨ (i = n ∧ n < n2) ∨ (i = n2 ∧ n2 < n)))
set_option maxRecDepth 100000 in
set_option maxHeartbeats 4000000 in
theorem dtrips_any (A B : Option Addr) (c d n n2 : Nat) (z z2 : Nat → Nat → Int) (w : World) (ha : RdZ w 7 A n z) (hb : RdZ w 7 B n2 z2) (hl : n ≤ 100000) (hl2 : n2 ≤ 100000) :
    Calls Try.prog 28 #[.slice A n c, .slice B n2 d] w fun e w' => ∃ (i : Nat) (b : Bool), e = .returned (.tuple #[.int .i64 i, .bool b]) ∧ Hid (PartZ n n2 z z2 i b) ∧ ∃ k, w' = w.drewN k := by
  by_cases h21 : n2 < n
  · skip
    have hm1 : n2 ≤ n := by omega
    have hm2 : n2 ≤ n2 := by omega
    have hm3 : n2 = n ∨ n2 = n2 := by omega
    obtain ⟨b1, o1, b2, o2, h1, h2, hA, hB⟩ : ∃ b1 o1 b2 o2, (∀ i j, i < n2 → j < 7 → w.cell? ⟨b1, o1 + i * 7 + j, none⟩ = some (.int .i64 (z i j))) ∧ (∀ i j, i < n2 → j < 7 → w.cell? ⟨b2, o2 + i * 7 + j, none⟩ = some (.int .i64 (z2 i j))) ∧ (0 < n2 → A = some ⟨b1, o1, none⟩) ∧ (0 < n2 → B = some ⟨b2, o2, none⟩) := by
      by_cases h : 0 < n2
      · obtain ⟨b1, o1, e1, _, h1⟩ := rdZ_row ha (by omega) (by omega)
        obtain ⟨b2, o2, e2, _, h2⟩ := rdZ_row hb (by omega) (by omega)
        exact ⟨b1, o1, b2, o2, fun i j hi hj => h1 i j (by omega) hj, fun i j hi hj => h2 i j (by omega) hj, fun _ => e1, fun _ => e2⟩
      · exact ⟨0, 0, 0, 0, fun i j hi => absurd hi (by omega), fun i j hi => absurd hi (by omega), fun h' => absurd h' h, fun h' => absurd h' h⟩
    have H1 := Lib.hid h1
    have H2 := Lib.hid h2
    have HA := Lib.hid hA
    have HB := Lib.hid hB
    clear ha hb h1 h2 hA hB
    go_enter Try.func28, Try.ntmps28
    go_wp2_with fail
    go_loopw [14] (fun i wr => ∃ k : Nat, k ≤ n2 ∧ (Hid (∀ q < k, RowEq z z2 q)) ∧ i = .int .i64 k ∧ ∃ q, wr = w.drewN q) (fun i _ => n2 - (intOf i).toNat)
    case atStart => exact ⟨0, by omega, Lib.hid (fun q h => absurd h (by omega)), rfl, 0, rfl⟩
    case round =>
      obtain ⟨k, hk, hall, rfl, q, rfl⟩ := hrel
      by_cases h : k < n2
      · obtain rfl := HA.out (by omega)
        obtain rfl := HB.out (by omega)
        have a0 : w.cell? ⟨b1, o1 + k * 7, none⟩ = _ := H1.out k 0 (by omega) (by omega)
        have a1 := H1.out k 1 (by omega) (by omega)
        have a2 := H1.out k 2 (by omega) (by omega)
        have a3 := H1.out k 3 (by omega) (by omega)
        have a4 := H1.out k 4 (by omega) (by omega)
        have a5 := H1.out k 5 (by omega) (by omega)
        have a6 := H1.out k 6 (by omega) (by omega)
        have e0 : w.cell? ⟨b2, o2 + k * 7, none⟩ = _ := H2.out k 0 (by omega) (by omega)
        have e1 := H2.out k 1 (by omega) (by omega)
        have e2 := H2.out k 2 (by omega) (by omega)
        have e3 := H2.out k 3 (by omega) (by omega)
        have e4 := H2.out k 4 (by omega) (by omega)
        have e5 := H2.out k 5 (by omega) (by omega)
        have e6 := H2.out k 6 (by omega) (by omega)
        obtain ⟨x0, hx0⟩ : ∃ x, z k 0 = x := ⟨_, rfl⟩
        obtain ⟨y0, hy0⟩ : ∃ y, z2 k 0 = y := ⟨_, rfl⟩
        rw [hx0] at a0
        rw [hy0] at e0
        obtain ⟨x1, hx1⟩ : ∃ x, z k 1 = x := ⟨_, rfl⟩
        obtain ⟨y1, hy1⟩ : ∃ y, z2 k 1 = y := ⟨_, rfl⟩
        rw [hx1] at a1
        rw [hy1] at e1
        obtain ⟨x2, hx2⟩ : ∃ x, z k 2 = x := ⟨_, rfl⟩
        obtain ⟨y2, hy2⟩ : ∃ y, z2 k 2 = y := ⟨_, rfl⟩
        rw [hx2] at a2
        rw [hy2] at e2
        obtain ⟨x3, hx3⟩ : ∃ x, z k 3 = x := ⟨_, rfl⟩
        obtain ⟨y3, hy3⟩ : ∃ y, z2 k 3 = y := ⟨_, rfl⟩
        rw [hx3] at a3
        rw [hy3] at e3
        obtain ⟨x4, hx4⟩ : ∃ x, z k 4 = x := ⟨_, rfl⟩
        obtain ⟨y4, hy4⟩ : ∃ y, z2 k 4 = y := ⟨_, rfl⟩
        rw [hx4] at a4
        rw [hy4] at e4
        obtain ⟨x5, hx5⟩ : ∃ x, z k 5 = x := ⟨_, rfl⟩
        obtain ⟨y5, hy5⟩ : ∃ y, z2 k 5 = y := ⟨_, rfl⟩
        rw [hx5] at a5
        rw [hy5] at e5
        obtain ⟨x6, hx6⟩ : ∃ x, z k 6 = x := ⟨_, rfl⟩
        obtain ⟨y6, hy6⟩ : ∃ y, z2 k 6 = y := ⟨_, rfl⟩
        rw [hx6] at a6
        rw [hy6] at e6
        by_cases hs : x0 = y0 ∧ x1 = y1 ∧ x2 = y2 ∧ x3 = y3 ∧ x4 = y4 ∧ x5 = y5 ∧ x6 = y6
        · have hall2 : Hid (∀ q < k + 1, RowEq z z2 q) := Lib.hid (fun q hq => by
            by_cases hqk : q < k
            · exact hall.out q hqk
            · obtain rfl : q = k := by omega
              intro j hj
              rcases j with _ | _ | _ | _ | _ | _ | _ | j <;> first | omega | (simp only [hx0, hx1, hx2, hx3, hx4, hx5, hx6, hy0, hy1, hy2, hy3, hy4, hy5, hy6, hs]))
          clear hx0 hy0 hx1 hy1 hx2 hy2 hx3 hy3 hx4 hy4 hx5 hy5 hx6 hy6 hall hm3
          obtain ⟨rfl, rfl, rfl, rfl, rfl, rfl, rfl⟩ := hs
          go_wp2_with fail
          go_quiet (fail)
          go_wp2_with fail
          go_roundw
          case rel => exact ⟨k + 1, by omega, hall2, by go_num, _, rfl⟩
          case measure => simp [intOf]; omega
        · have HP : Hid (PartZ n n2 z z2 k true) := Lib.hid (Or.inr ⟨rfl, hall.out, Or.inl ⟨by omega, by omega, fun hc => hs ⟨by rw [← hx0, ← hy0]; exact hc 0 (by omega), by rw [← hx1, ← hy1]; exact hc 1 (by omega), by rw [← hx2, ← hy2]; exact hc 2 (by omega), by rw [← hx3, ← hy3]; exact hc 3 (by omega), by rw [← hx4, ← hy4]; exact hc 4 (by omega), by rw [← hx5, ← hy5]; exact hc 5 (by omega), by rw [← hx6, ← hy6]; exact hc 6 (by omega)⟩⟩⟩)
          clear hx0 hy0 hx1 hy1 hx2 hy2 hx3 hy3 hx4 hy4 hx5 hy5 hx6 hy6 hall hm3
          have hw : ((x0 == y0) = false) ∨ (x0 = y0 ∧ (x1 == y1) = false) ∨ (x0 = y0 ∧ x1 = y1 ∧ (x2 == y2) = false) ∨ (x0 = y0 ∧ x1 = y1 ∧ x2 = y2 ∧ (x3 == y3) = false) ∨ (x0 = y0 ∧ x1 = y1 ∧ x2 = y2 ∧ x3 = y3 ∧ (x4 == y4) = false) ∨ (x0 = y0 ∧ x1 = y1 ∧ x2 = y2 ∧ x3 = y3 ∧ x4 = y4 ∧ (x5 == y5) = false) ∨ (x0 = y0 ∧ x1 = y1 ∧ x2 = y2 ∧ x3 = y3 ∧ x4 = y4 ∧ x5 = y5 ∧ (x6 == y6) = false) := by
              by_cases g0 : x0 = y0
              case neg => exact Or.inl (by simpa using g0)
              by_cases g1 : x1 = y1
              case neg => exact Or.inr (Or.inl ⟨g0, by simpa using g1⟩)
              by_cases g2 : x2 = y2
              case neg => exact Or.inr (Or.inr (Or.inl ⟨g0, g1, by simpa using g2⟩))
              by_cases g3 : x3 = y3
              case neg => exact Or.inr (Or.inr (Or.inr (Or.inl ⟨g0, g1, g2, by simpa using g3⟩)))
              by_cases g4 : x4 = y4
              case neg => exact Or.inr (Or.inr (Or.inr (Or.inr (Or.inl ⟨g0, g1, g2, g3, by simpa using g4⟩))))
              by_cases g5 : x5 = y5
              case neg => exact Or.inr (Or.inr (Or.inr (Or.inr (Or.inr (Or.inl ⟨g0, g1, g2, g3, g4, by simpa using g5⟩)))))
              by_cases g6 : x6 = y6
              case neg => exact Or.inr (Or.inr (Or.inr (Or.inr (Or.inr (Or.inr (⟨g0, g1, g2, g3, g4, g5, by simpa using g6⟩))))))
              exact absurd ⟨g0, g1, g2, g3, g4, g5, g6⟩ hs
          clear hs
          rcases hw with hb | ⟨rfl, hb⟩ | ⟨rfl, rfl, hb⟩ | ⟨rfl, rfl, rfl, hb⟩ | ⟨rfl, rfl, rfl, rfl, hb⟩ | ⟨rfl, rfl, rfl, rfl, rfl, hb⟩ | ⟨rfl, rfl, rfl, rfl, rfl, rfl, hb⟩
          · go_wp2_with fail
            go_quiet (fail)
            go_wp2_with fail
            go_ret2
            exact ⟨k, true, rfl, HP, q + nq, World.drewN_drewN ..⟩
          · go_wp2_with fail
            go_quiet (fail)
            go_wp2_with fail
            go_ret2
            exact ⟨k, true, rfl, HP, q + nq, World.drewN_drewN ..⟩
          · go_wp2_with fail
            go_quiet (fail)
            go_wp2_with fail
            go_ret2
            exact ⟨k, true, rfl, HP, q + nq, World.drewN_drewN ..⟩
          · go_wp2_with fail
            go_quiet (fail)
            go_wp2_with fail
            go_ret2
            exact ⟨k, true, rfl, HP, q + nq, World.drewN_drewN ..⟩
          · go_wp2_with fail
            go_quiet (fail)
            go_wp2_with fail
            go_ret2
            exact ⟨k, true, rfl, HP, q + nq, World.drewN_drewN ..⟩
          · go_wp2_with fail
            go_quiet (fail)
            go_wp2_with fail
            go_ret2
            exact ⟨k, true, rfl, HP, q + nq, World.drewN_drewN ..⟩
          · go_wp2_with fail
            go_quiet (fail)
            go_wp2_with fail
            go_ret2
            exact ⟨k, true, rfl, HP, q + nq, World.drewN_drewN ..⟩
      · obtain rfl : n2 = k := by omega
        by_cases hnn : n = n2
        · have HP : Hid (PartZ n n2 z z2 0 false) := Lib.hid (Or.inl ⟨rfl, rfl, hnn, fun q hq => hall.out q (by omega)⟩)
          have hne : ((n : Int) == (n2 : Int)) = true := by simp; omega
          clear hall hm3
          go_wp2_with fail
          go_ret2
          exact ⟨0, false, rfl, HP, _, rfl⟩
        · have HP : Hid (PartZ n n2 z z2 n2 true) := Lib.hid (Or.inr ⟨rfl, fun q hq => hall.out q (by omega), Or.inr (by omega)⟩)
          have hne : ((n : Int) == (n2 : Int)) = false := by simp; omega
          have hne2 : ((n : Int) != (n2 : Int)) = true := by simp; omega
          clear hall hm3
          go_wp2_with fail
          go_ret2
          exact ⟨n2, true, rfl, HP, _, rfl⟩
  · have hnl : ¬ (n2 < n) := h21
    have hm1 : n ≤ n := by omega
    have hm2 : n ≤ n2 := by omega
    have hm3 : n = n ∨ n = n2 := by omega
    obtain ⟨b1, o1, b2, o2, h1, h2, hA, hB⟩ : ∃ b1 o1 b2 o2, (∀ i j, i < n → j < 7 → w.cell? ⟨b1, o1 + i * 7 + j, none⟩ = some (.int .i64 (z i j))) ∧ (∀ i j, i < n → j < 7 → w.cell? ⟨b2, o2 + i * 7 + j, none⟩ = some (.int .i64 (z2 i j))) ∧ (0 < n → A = some ⟨b1, o1, none⟩) ∧ (0 < n → B = some ⟨b2, o2, none⟩) := by
      by_cases h : 0 < n
      · obtain ⟨b1, o1, e1, _, h1⟩ := rdZ_row ha (by omega) (by omega)
        obtain ⟨b2, o2, e2, _, h2⟩ := rdZ_row hb (by omega) (by omega)
        exact ⟨b1, o1, b2, o2, fun i j hi hj => h1 i j (by omega) hj, fun i j hi hj => h2 i j (by omega) hj, fun _ => e1, fun _ => e2⟩
      · exact ⟨0, 0, 0, 0, fun i j hi => absurd hi (by omega), fun i j hi => absurd hi (by omega), fun h' => absurd h' h, fun h' => absurd h' h⟩
    have H1 := Lib.hid h1
    have H2 := Lib.hid h2
    have HA := Lib.hid hA
    have HB := Lib.hid hB
    clear ha hb h1 h2 hA hB
    go_enter Try.func28, Try.ntmps28
    go_wp2_with fail
    go_loopw [14] (fun i wr => ∃ k : Nat, k ≤ n ∧ (Hid (∀ q < k, RowEq z z2 q)) ∧ i = .int .i64 k ∧ ∃ q, wr = w.drewN q) (fun i _ => n - (intOf i).toNat)
    case atStart => exact ⟨0, by omega, Lib.hid (fun q h => absurd h (by omega)), rfl, 0, rfl⟩
    case round =>
      obtain ⟨k, hk, hall, rfl, q, rfl⟩ := hrel
      by_cases h : k < n
      · obtain rfl := HA.out (by omega)
        obtain rfl := HB.out (by omega)
        have a0 : w.cell? ⟨b1, o1 + k * 7, none⟩ = _ := H1.out k 0 (by omega) (by omega)
        have a1 := H1.out k 1 (by omega) (by omega)
        have a2 := H1.out k 2 (by omega) (by omega)
        have a3 := H1.out k 3 (by omega) (by omega)
        have a4 := H1.out k 4 (by omega) (by omega)
        have a5 := H1.out k 5 (by omega) (by omega)
        have a6 := H1.out k 6 (by omega) (by omega)
        have e0 : w.cell? ⟨b2, o2 + k * 7, none⟩ = _ := H2.out k 0 (by omega) (by omega)
        have e1 := H2.out k 1 (by omega) (by omega)
        have e2 := H2.out k 2 (by omega) (by omega)
        have e3 := H2.out k 3 (by omega) (by omega)
        have e4 := H2.out k 4 (by omega) (by omega)
        have e5 := H2.out k 5 (by omega) (by omega)
        have e6 := H2.out k 6 (by omega) (by omega)
        obtain ⟨x0, hx0⟩ : ∃ x, z k 0 = x := ⟨_, rfl⟩
        obtain ⟨y0, hy0⟩ : ∃ y, z2 k 0 = y := ⟨_, rfl⟩
        rw [hx0] at a0
        rw [hy0] at e0
        obtain ⟨x1, hx1⟩ : ∃ x, z k 1 = x := ⟨_, rfl⟩
        obtain ⟨y1, hy1⟩ : ∃ y, z2 k 1 = y := ⟨_, rfl⟩
        rw [hx1] at a1
        rw [hy1] at e1
        obtain ⟨x2, hx2⟩ : ∃ x, z k 2 = x := ⟨_, rfl⟩
        obtain ⟨y2, hy2⟩ : ∃ y, z2 k 2 = y := ⟨_, rfl⟩
        rw [hx2] at a2
        rw [hy2] at e2
        obtain ⟨x3, hx3⟩ : ∃ x, z k 3 = x := ⟨_, rfl⟩
        obtain ⟨y3, hy3⟩ : ∃ y, z2 k 3 = y := ⟨_, rfl⟩
        rw [hx3] at a3
        rw [hy3] at e3
        obtain ⟨x4, hx4⟩ : ∃ x, z k 4 = x := ⟨_, rfl⟩
        obtain ⟨y4, hy4⟩ : ∃ y, z2 k 4 = y := ⟨_, rfl⟩
        rw [hx4] at a4
        rw [hy4] at e4
        obtain ⟨x5, hx5⟩ : ∃ x, z k 5 = x := ⟨_, rfl⟩
        obtain ⟨y5, hy5⟩ : ∃ y, z2 k 5 = y := ⟨_, rfl⟩
        rw [hx5] at a5
        rw [hy5] at e5
        obtain ⟨x6, hx6⟩ : ∃ x, z k 6 = x := ⟨_, rfl⟩
        obtain ⟨y6, hy6⟩ : ∃ y, z2 k 6 = y := ⟨_, rfl⟩
        rw [hx6] at a6
        rw [hy6] at e6
        by_cases hs : x0 = y0 ∧ x1 = y1 ∧ x2 = y2 ∧ x3 = y3 ∧ x4 = y4 ∧ x5 = y5 ∧ x6 = y6
        · have hall2 : Hid (∀ q < k + 1, RowEq z z2 q) := Lib.hid (fun q hq => by
            by_cases hqk : q < k
            · exact hall.out q hqk
            · obtain rfl : q = k := by omega
              intro j hj
              rcases j with _ | _ | _ | _ | _ | _ | _ | j <;> first | omega | (simp only [hx0, hx1, hx2, hx3, hx4, hx5, hx6, hy0, hy1, hy2, hy3, hy4, hy5, hy6, hs]))
          clear hx0 hy0 hx1 hy1 hx2 hy2 hx3 hy3 hx4 hy4 hx5 hy5 hx6 hy6 hall hm3
          obtain ⟨rfl, rfl, rfl, rfl, rfl, rfl, rfl⟩ := hs
          go_wp2_with fail
          go_quiet (fail)
          go_wp2_with fail
          go_roundw
          case rel => exact ⟨k + 1, by omega, hall2, by go_num, _, rfl⟩
          case measure => simp [intOf]; omega
        · have HP : Hid (PartZ n n2 z z2 k true) := Lib.hid (Or.inr ⟨rfl, hall.out, Or.inl ⟨by omega, by omega, fun hc => hs ⟨by rw [← hx0, ← hy0]; exact hc 0 (by omega), by rw [← hx1, ← hy1]; exact hc 1 (by omega), by rw [← hx2, ← hy2]; exact hc 2 (by omega), by rw [← hx3, ← hy3]; exact hc 3 (by omega), by rw [← hx4, ← hy4]; exact hc 4 (by omega), by rw [← hx5, ← hy5]; exact hc 5 (by omega), by rw [← hx6, ← hy6]; exact hc 6 (by omega)⟩⟩⟩)
          clear hx0 hy0 hx1 hy1 hx2 hy2 hx3 hy3 hx4 hy4 hx5 hy5 hx6 hy6 hall hm3
          have hw : ((x0 == y0) = false) ∨ (x0 = y0 ∧ (x1 == y1) = false) ∨ (x0 = y0 ∧ x1 = y1 ∧ (x2 == y2) = false) ∨ (x0 = y0 ∧ x1 = y1 ∧ x2 = y2 ∧ (x3 == y3) = false) ∨ (x0 = y0 ∧ x1 = y1 ∧ x2 = y2 ∧ x3 = y3 ∧ (x4 == y4) = false) ∨ (x0 = y0 ∧ x1 = y1 ∧ x2 = y2 ∧ x3 = y3 ∧ x4 = y4 ∧ (x5 == y5) = false) ∨ (x0 = y0 ∧ x1 = y1 ∧ x2 = y2 ∧ x3 = y3 ∧ x4 = y4 ∧ x5 = y5 ∧ (x6 == y6) = false) := by
              by_cases g0 : x0 = y0
              case neg => exact Or.inl (by simpa using g0)
              by_cases g1 : x1 = y1
              case neg => exact Or.inr (Or.inl ⟨g0, by simpa using g1⟩)
              by_cases g2 : x2 = y2
              case neg => exact Or.inr (Or.inr (Or.inl ⟨g0, g1, by simpa using g2⟩))
              by_cases g3 : x3 = y3
              case neg => exact Or.inr (Or.inr (Or.inr (Or.inl ⟨g0, g1, g2, by simpa using g3⟩)))
              by_cases g4 : x4 = y4
              case neg => exact Or.inr (Or.inr (Or.inr (Or.inr (Or.inl ⟨g0, g1, g2, g3, by simpa using g4⟩))))
              by_cases g5 : x5 = y5
              case neg => exact Or.inr (Or.inr (Or.inr (Or.inr (Or.inr (Or.inl ⟨g0, g1, g2, g3, g4, by simpa using g5⟩)))))
              by_cases g6 : x6 = y6
              case neg => exact Or.inr (Or.inr (Or.inr (Or.inr (Or.inr (Or.inr (⟨g0, g1, g2, g3, g4, g5, by simpa using g6⟩))))))
              exact absurd ⟨g0, g1, g2, g3, g4, g5, g6⟩ hs
          clear hs
          rcases hw with hb | ⟨rfl, hb⟩ | ⟨rfl, rfl, hb⟩ | ⟨rfl, rfl, rfl, hb⟩ | ⟨rfl, rfl, rfl, rfl, hb⟩ | ⟨rfl, rfl, rfl, rfl, rfl, hb⟩ | ⟨rfl, rfl, rfl, rfl, rfl, rfl, hb⟩
          · go_wp2_with fail
            go_quiet (fail)
            go_wp2_with fail
            go_ret2
            exact ⟨k, true, rfl, HP, q + nq, World.drewN_drewN ..⟩
          · go_wp2_with fail
            go_quiet (fail)
            go_wp2_with fail
            go_ret2
            exact ⟨k, true, rfl, HP, q + nq, World.drewN_drewN ..⟩
          · go_wp2_with fail
            go_quiet (fail)
            go_wp2_with fail
            go_ret2
            exact ⟨k, true, rfl, HP, q + nq, World.drewN_drewN ..⟩
          · go_wp2_with fail
            go_quiet (fail)
            go_wp2_with fail
            go_ret2
            exact ⟨k, true, rfl, HP, q + nq, World.drewN_drewN ..⟩
          · go_wp2_with fail
            go_quiet (fail)
            go_wp2_with fail
            go_ret2
            exact ⟨k, true, rfl, HP, q + nq, World.drewN_drewN ..⟩
          · go_wp2_with fail
            go_quiet (fail)
            go_wp2_with fail
            go_ret2
            exact ⟨k, true, rfl, HP, q + nq, World.drewN_drewN ..⟩
          · go_wp2_with fail
            go_quiet (fail)
            go_wp2_with fail
            go_ret2
            exact ⟨k, true, rfl, HP, q + nq, World.drewN_drewN ..⟩
      · obtain rfl : n = k := by omega
        by_cases hnn : n = n2
        · have HP : Hid (PartZ n n2 z z2 0 false) := Lib.hid (Or.inl ⟨rfl, rfl, hnn, fun q hq => hall.out q (by omega)⟩)
          have hne : ((n : Int) == (n2 : Int)) = true := by simp; omega
          clear hall hm3
          go_wp2_with fail
          go_ret2
          exact ⟨0, false, rfl, HP, _, rfl⟩
        · have HP : Hid (PartZ n n2 z z2 n true) := Lib.hid (Or.inr ⟨rfl, fun q hq => hall.out q (by omega), Or.inr (by omega)⟩)
          have hne : ((n : Int) == (n2 : Int)) = false := by simp; omega
          have hne2 : ((n : Int) != (n2 : Int)) = true := by simp; omega
          clear hall hm3
          go_wp2_with fail
          go_ret2
          exact ⟨n, true, rfl, HP, _, rfl⟩
end Go.Proofs.Ytodfjghgcphhhab
