/- slices.Equal at legs: any two rows; the document's comparison. -/
import Derived.Test.YtodfjghgcphhhabRows
import Derived.Test.YtodfjghgcphhhabRowKit
import Derived.Test.YtodfjghgcphhhabRowS
import Derived.Test.YtodfjghgcphhhabRowZ
import Derived.Test.YtodfjghgcphhhabSlicesEq
import Derived.Test.YtodfjghgcphhhabRowV
import Derived.Test.YtodfjghgcphhhabRowW
import Derived.WalkKit
import Derived.Lib.Hide
import Derived.WalkSpells
import Derived.WalkLawsBesides
import Derived.Deep.QuietTactic
import Derived.BigQuiet
namespace Go.Proofs.Ytodfjghgcphhhab
open Go.RowKit
set_option linter.unusedSimpArgs false
set_option linter.unusedVariables false
/-- do two rows agree, cell by cell? -/
noncomputable def sameV (m n n2 : Nat) (v v2 : Nat → Nat → Value) : Bool := @decide (n = n2 ∧ ∀ k < n, ∀ j < m, v k j = v2 k j) (Classical.propDecidable _)
theorem sameV_true (m n n2 : Nat) (v v2 : Nat → Nat → Value) : sameV m n n2 v v2 = true ↔ n = n2 ∧ ∀ k < n, ∀ j < m, v k j = v2 k j := by
  unfold sameV; exact @decide_eq_true_iff _ (Classical.propDecidable _)
theorem sameV_false {m n n2 : Nat} {v v2 : Nat → Nat → Value} (h : ¬ (n = n2 ∧ ∀ k < n, ∀ j < m, v k j = v2 k j)) : sameV m n n2 v v2 = false := by
  rw [← sameV_true] at h; simpa using h
set_option maxRecDepth 100000 in
set_option maxHeartbeats 4000000 in
theorem legs_eq (A B : Option Addr) (c d n n2 : Nat) (v v2 : Nat → Nat → Value) (w : World) (ha : RdV w 4 shLeg A n v) (hb : RdV w 4 shLeg B n2 v2) (hl : n ≤ 9223372036854775807) (hl2 : n2 ≤ 9223372036854775807) :
    Calls Try.prog 57 #[.slice A n c, .slice B n2 d] w fun e w' => e = .returned (.bool (sameV 4 n n2 v v2)) ∧ ∃ k, w' = w.drewN k := by
  by_cases hnn : n = n2
  case neg =>
    have e : sameV 4 n n2 v v2 = false := sameV_false (fun h => hnn h.1)
    rw [e]
    clear ha hb e
    go_enter Try.func57, Try.ntmps57
    have hne : ((n : Int) == (n2 : Int)) = false := by simp; omega
    have hne2 : ((n : Int) != (n2 : Int)) = true := by simp; omega
    go_wp2_with fail
    go_ret
    exact ⟨rfl, 0, rfl⟩
  subst hnn
  by_cases hn : n = 0
  · subst hn
    have e : sameV 4 0 0 v v2 = true := (sameV_true ..).2 ⟨rfl, fun k h => absurd h (by omega)⟩
    rw [e]
    clear ha hb e
    go_enter Try.func57, Try.ntmps57
    go_wp2_with fail
    go_loop [13] (fun i => i = .int .i64 0) (fun i => 0)
    case atStart => exact rfl
    case round =>
      obtain rfl := hrel
      go_wp2_with fail
      go_ret
      exact ⟨rfl, 0, rfl⟩
  · obtain ⟨b1, o1, rfl, _, h1⟩ := rdV_row ha (by omega) (by omega)
    obtain ⟨b2, o2, rfl, _, h2⟩ := rdV_row hb (by omega) (by omega)
    have H1 := Lib.hid h1
    have H2 := Lib.hid h2
    have HA := Lib.hid ha
    have HB := Lib.hid hb
    clear ha hb h1 h2
    obtain ⟨R, hR⟩ : ∃ R, sameV 4 n n v v2 = R := ⟨_, rfl⟩
    rw [hR]
    have HR := Lib.hid hR
    clear hR
    go_enter Try.func57, Try.ntmps57
    go_wp2_with fail
    go_loopw [13] (fun i wr => ∃ k : Nat, k ≤ n ∧ (Hid (∀ q < k, ∀ j < 4, v q j = v2 q j)) ∧ i = .int .i64 k ∧ ∃ q, wr = w.drewN q) (fun i _ => n - (intOf i).toNat)
    case atStart => exact ⟨0, by omega, Lib.hid (fun q h => absurd h (by omega)), rfl, 0, rfl⟩
    case round =>
      obtain ⟨k, hk, hall, rfl, q, rfl⟩ := hrel
      by_cases h : k < n
      · skip
        obtain ⟨x0, x1, x2, x3, hx0, hx1, hx2, hx3, _, _, _⟩ := leg_at HA.out h
        obtain ⟨y0, y1, y2, y3, hy0, hy1, hy2, hy3, _, _, _⟩ := leg_at HB.out h
        have a0 : w.cell? ⟨b1, o1 + k * 4, none⟩ = some (.int .i64 x0) := by rw [← hx0]; exact H1.out k 0 h (by omega)
        have a1 : w.cell? ⟨b1, o1 + k * 4 + 1, none⟩ = some (.int .i64 x1) := by rw [← hx1]; exact H1.out k 1 h (by omega)
        have a2 : w.cell? ⟨b1, o1 + k * 4 + 2, none⟩ = some (.int .i64 x2) := by rw [← hx2]; exact H1.out k 2 h (by omega)
        have a3 : w.cell? ⟨b1, o1 + k * 4 + 3, none⟩ = some (.bool x3) := by rw [← hx3]; exact H1.out k 3 h (by omega)
        have e0 : w.cell? ⟨b2, o2 + k * 4, none⟩ = some (.int .i64 y0) := by rw [← hy0]; exact H2.out k 0 h (by omega)
        have e1 : w.cell? ⟨b2, o2 + k * 4 + 1, none⟩ = some (.int .i64 y1) := by rw [← hy1]; exact H2.out k 1 h (by omega)
        have e2 : w.cell? ⟨b2, o2 + k * 4 + 2, none⟩ = some (.int .i64 y2) := by rw [← hy2]; exact H2.out k 2 h (by omega)
        have e3 : w.cell? ⟨b2, o2 + k * 4 + 3, none⟩ = some (.bool y3) := by rw [← hy3]; exact H2.out k 3 h (by omega)
        by_cases hs : x0 = y0 ∧ x1 = y1 ∧ x2 = y2 ∧ x3 = y3
        · have hall2 : Hid (∀ q < k + 1, ∀ j < 4, v q j = v2 q j) := Lib.hid (fun q hq j hj => by
            by_cases hqk : q < k
            · exact hall.out q hqk j hj
            · obtain rfl : q = k := by omega
              rcases j with _ | _ | _ | _ | j <;> first | omega | (simp only [hx0, hx1, hx2, hx3, hy0, hy1, hy2, hy3, hs]))
          clear hx0 hy0 hx1 hy1 hx2 hy2 hx3 hy3 hall
          obtain ⟨rfl, rfl, rfl, rfl⟩ := hs
          go_wp2_with fail
          go_quiet (fail)
          go_wp2_with fail
          go_roundw
          case rel => exact ⟨k + 1, by omega, hall2, by go_num, _, rfl⟩
          case measure => simp [intOf]; omega
        · obtain rfl : R = false := by
            rw [← HR.out]
            exact sameV_false (fun hc => hs (by
              refine ⟨?_, ?_, ?_, ?_⟩
              · have := hc.2 k h 0 (by omega); rw [hx0, hy0] at this; injection this
              · have := hc.2 k h 1 (by omega); rw [hx1, hy1] at this; injection this
              · have := hc.2 k h 2 (by omega); rw [hx2, hy2] at this; injection this
              · have := hc.2 k h 3 (by omega); rw [hx3, hy3] at this; injection this))
          clear hx0 hy0 hx1 hy1 hx2 hy2 hx3 hy3 hall HR
          have hw : ((x0 == y0) = false) ∨ (x0 = y0 ∧ (x1 == y1) = false) ∨ (x0 = y0 ∧ x1 = y1 ∧ (x2 == y2) = false) ∨ (x0 = y0 ∧ x1 = y1 ∧ x2 = y2 ∧ (x3 == y3) = false) := by
            by_cases g0 : x0 = y0
            case neg => exact Or.inl (by simpa using g0)
            by_cases g1 : x1 = y1
            case neg => exact Or.inr (Or.inl ⟨g0, by simpa using g1⟩)
            by_cases g2 : x2 = y2
            case neg => exact Or.inr (Or.inr (Or.inl ⟨g0, g1, by simpa using g2⟩))
            by_cases g3 : x3 = y3
            case neg => exact Or.inr (Or.inr (Or.inr (⟨g0, g1, g2, by simpa using g3⟩)))
            exact absurd ⟨g0, g1, g2, g3⟩ hs
          clear hs
          rcases hw with hb | ⟨rfl, hb⟩ | ⟨rfl, rfl, hb⟩ | ⟨rfl, rfl, rfl, hb⟩
          · go_wp2_with fail
            go_quiet (fail)
            go_wp2_with fail
            go_ret
            exact ⟨rfl, q + nq, World.drewN_drewN ..⟩
          · go_wp2_with fail
            go_quiet (fail)
            go_wp2_with fail
            go_ret
            exact ⟨rfl, q + nq, World.drewN_drewN ..⟩
          · go_wp2_with fail
            go_quiet (fail)
            go_wp2_with fail
            go_ret
            exact ⟨rfl, q + nq, World.drewN_drewN ..⟩
          · go_wp2_with fail
            go_quiet (fail)
            go_wp2_with fail
            go_ret
            exact ⟨rfl, q + nq, World.drewN_drewN ..⟩
      · obtain rfl : R = true := by
          rw [← HR.out]
          exact (sameV_true ..).2 ⟨rfl, fun q hq j hj => hall.out q (by omega) j hj⟩
        clear hall HR
        go_wp2_with fail
        go_ret
        exact ⟨rfl, _, rfl⟩
theorem dlegs_eq (A B : Option Addr) (c d n n2 : Nat) (v v2 : Nat → Nat → Value) (w : World) (ha : RdV w 4 shLeg A n v) (hb : RdV w 4 shLeg B n2 v2) (hl : n ≤ 9223372036854775807) (hl2 : n2 ≤ 9223372036854775807) :
    Calls Try.prog 41 #[.slice A n c, .slice B n2 d] w fun e w' => e = .returned (.bool (sameV 4 n n2 v v2)) ∧ ∃ k, w' = w.drewN k := by
  have K := Lib.hid (legs_eq A B c d n n2 v v2 w ha hb hl hl2)
  clear ha hb
  go_enter Try.func41, Try.ntmps41
  go_wp2_with fail
  refine K.out.mono fun e W1 ⟨he, k, hk⟩ => ?_
  subst he hk
  go_wp2_with fail
  go_ret
  exact ⟨rfl, _, rfl⟩
end Go.Proofs.Ytodfjghgcphhhab
