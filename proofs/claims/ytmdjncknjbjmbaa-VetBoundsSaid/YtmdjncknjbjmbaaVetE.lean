/- slices.Equal at segments and at numbers of scenarios. -/
import Derived.Test.YtmdjncknjbjmbaaRows
import Derived.Test.YtmdjncknjbjmbaaRowKit
import Derived.Test.YtmdjncknjbjmbaaRowS
import Derived.Test.YtmdjncknjbjmbaaRowZ
import Derived.Test.YtmdjncknjbjmbaaBlocks
import Derived.Test.YtmdjncknjbjmbaaVetA
import Derived.Test.YtmdjncknjbjmbaaVetB
import Derived.Test.YtmdjncknjbjmbaaVetC
import Derived.Test.YtmdjncknjbjmbaaVetD
import Derived.WalkKit
import Derived.IntWalk
import Derived.Lib.Hide
import Derived.Lib.SmallJoins
import Derived.WalkSpells
import Derived.WalkLawsBesides
import Derived.Deep.QuietTactic
import Derived.Deep.RegionHeld3
import Derived.Deep.LoopGhost
import Derived.BigQuiet
import Derived.Below
import Derived.Lib.Strings
namespace Go.Proofs.Ytmdjncknjbjmbaa
open Go.RowKit
set_option linter.unusedSimpArgs false
set_option linter.unusedVariables false
theorem drew_two (w : World) (a b : Nat) : (w.drewN a).drewN b = w.drewN (a + b) := by simp [World.drewN, Nat.add_assoc]
/-- are the first k segments the same? -/
def sgB (z y : Nat → Nat → Int) : Nat → Bool
  | 0 => true
  | k + 1 => sgB z y k && (decide (z k 0 = y k 0) && (decide (z k 1 = y k 1) && decide (z k 2 = y k 2)))
theorem sgB_succ (z y : Nat → Nat → Int) (k : Nat) : sgB z y (k + 1) = (sgB z y k && (decide (z k 0 = y k 0) && (decide (z k 1 = y k 1) && decide (z k 2 = y k 2)))) := rfl
theorem sgB_same {z y : Nat → Nat → Int} {k : Nat} (h : sgB z y k = true) (h0 : z k 0 = y k 0) (h1 : z k 1 = y k 1) (h2 : z k 2 = y k 2) : sgB z y (k + 1) = true := by
  rw [sgB_succ, h, decide_eq_true h0, decide_eq_true h1, decide_eq_true h2]; rfl
theorem sgB_not {z y : Nat → Nat → Int} {k : Nat} (h : ¬ (z k 0 = y k 0 ∧ z k 1 = y k 1 ∧ z k 2 = y k 2)) : ∀ n, k < n → sgB z y n = false
  | 0, hn => absurd hn (by omega)
  | n + 1, hn => by
    rw [sgB_succ]
    by_cases e : k = n
    · subst e
      rw [Bool.and_eq_false_iff]
      right
      by_cases h0 : z k 0 = y k 0
      · by_cases h1 : z k 1 = y k 1
        · rw [decide_eq_false (fun h2 : z k 2 = y k 2 => h ⟨h0, h1, h2⟩)]; simp
        · rw [decide_eq_false h1]; simp
      · rw [decide_eq_false h0]; rfl
    · rw [sgB_not h n (by omega)]; rfl
/-- are the first k numbers the same? -/
def nbB (x y : Nat → Int) : Nat → Bool
  | 0 => true
  | k + 1 => nbB x y k && decide (x k = y k)
theorem nbB_succ (x y : Nat → Int) (k : Nat) : nbB x y (k + 1) = (nbB x y k && decide (x k = y k)) := rfl
theorem nbB_same {x y : Nat → Int} {k : Nat} (h : nbB x y k = true) (h0 : x k = y k) : nbB x y (k + 1) = true := by rw [nbB_succ, h, decide_eq_true h0]; rfl
theorem nbB_not {x y : Nat → Int} {k : Nat} (h : ¬ x k = y k) : ∀ n, k < n → nbB x y n = false
  | 0, hn => absurd hn (by omega)
  | n + 1, hn => by
    rw [nbB_succ]
    by_cases e : k = n
    · subst e; rw [decide_eq_false h]; simp
    · rw [nbB_not h n (by omega)]; rfl
set_option maxHeartbeats 400000 in
theorem seq_len (A B : Option Addr) (n m c d : Nat) (w : World) (h : n ≠ m) :
    Calls Try.prog 63 #[.slice A n c, .slice B m d] w fun e w' => e = .returned (.bool false) ∧ ∃ q, w' = w.drewN q := by
  have h1 : ((n : Int) == m) = false := by rw [beq_eq_false_iff_ne]; omega
  have h2 : (n == m) = false := by rw [beq_eq_false_iff_ne]; exact h
  clear h
  go_enter Try.func63, Try.ntmps63
  go_wp2_with fail
  go_ret
  exact ⟨rfl, 0, rfl⟩
set_option maxRecDepth 100000 in
set_option maxHeartbeats 4000000 in
theorem seq_same (A B : Option Addr) (n c d : Nat) (z y : Nat → Nat → Int) (w : World) (ha : RdZ w 3 A n z) (hb : RdZ w 3 B n y) (hm : n ≤ 9223372036854775807) :
    Calls Try.prog 63 #[.slice A n c, .slice B n d] w fun e w' => e = .returned (.bool (sgB z y n)) ∧ ∃ q, w' = w.drewN q := by
  go_enter Try.func63, Try.ntmps63
  go_wp2_with fail
  go_loopg [13] n (fun gh i wr => ∃ k q : Nat, k ≤ n ∧ gh = n - k ∧ i = .int .i64 k ∧ Hid (sgB z y k = true) ∧ wr = w.drewN q)
  case atStart => exact ⟨0, 0, by omega, rfl, rfl, Lib.hid rfl, rfl⟩
  case round =>
    obtain ⟨k, q, hk, rfl, rfl, HS, rfl⟩ := hrel
    by_cases h : k < n
    · obtain ⟨b1, o1, rfl, _, hc⟩ := rdZ_row ha (by omega) (by omega)
      obtain ⟨b2, o2, rfl, _, hd⟩ := rdZ_row hb (by omega) (by omega)
      have c0 : w.cell? ⟨b1, o1 + k * 3, none⟩ = _ := hc k 0 h (by omega)
      have c1 := hc k 1 h (by omega)
      have c2 := hc k 2 h (by omega)
      have d0 : w.cell? ⟨b2, o2 + k * 3, none⟩ = _ := hd k 0 h (by omega)
      have d1 := hd k 1 h (by omega)
      have d2 := hd k 2 h (by omega)
      clear hc hd
      have GOOD := Lib.hid (fun h0 h1 h2 => sgB_same (z := z) (y := y) HS.out h0 h1 h2)
      have BAD := Lib.hid (fun hh => sgB_not (z := z) (y := y) (k := k) hh n h)
      obtain ⟨z0, e0⟩ : ∃ v, z k 0 = v := ⟨_, rfl⟩
      obtain ⟨z1, e1⟩ : ∃ v, z k 1 = v := ⟨_, rfl⟩
      obtain ⟨z2, e2⟩ : ∃ v, z k 2 = v := ⟨_, rfl⟩
      obtain ⟨y0, f0⟩ : ∃ v, y k 0 = v := ⟨_, rfl⟩
      obtain ⟨y1, f1⟩ : ∃ v, y k 1 = v := ⟨_, rfl⟩
      obtain ⟨y2, f2⟩ : ∃ v, y k 2 = v := ⟨_, rfl⟩
      rw [e0, f0, e1, f1, e2, f2] at GOOD BAD
      rw [e0] at c0
      rw [e1] at c1
      rw [e2] at c2
      rw [f0] at d0
      rw [f1] at d1
      rw [f2] at d2
      clear e0 e1 e2 f0 f1 f2
      by_cases g0 : z0 = y0
      · by_cases g1 : z1 = y1
        · by_cases g2 : z2 = y2
          · have F := Lib.hid (GOOD.out g0 g1 g2)
            subst g0; subst g1; subst g2
            go_wp2_with fail
            go_quiet (fail)
            go_wp2_with fail
            go_roundg (n - (k + 1))
            case measure => omega
            case rel => exact ⟨k + 1, _, by omega, rfl, by go_num, F, rfl⟩
          · have F := Lib.hid (BAD.out (fun hc => g2 hc.2.2))
            subst g0; subst g1
            go_wp2_with fail
            go_quiet (fail)
            go_wp2_with fail
            go_ret
            exact ⟨vretB (by rw [F.out]), _, drew_two w q nq⟩
        · have F := Lib.hid (BAD.out (fun hc => g1 hc.2.1))
          subst g0
          go_wp2_with fail
          go_quiet (fail)
          go_wp2_with fail
          go_ret
          exact ⟨vretB (by rw [F.out]), _, drew_two w q nq⟩
      · have F := Lib.hid (BAD.out (fun hc => g0 hc.1))
        go_wp2_with fail
        go_quiet (fail)
        go_wp2_with fail
        go_ret
        exact ⟨vretB (by rw [F.out]), _, drew_two w q nq⟩
    · obtain rfl : k = n := by omega
      go_wp2_with fail
      go_ret
      exact ⟨vretB (by rw [HS.out]), _, rfl⟩
set_option maxRecDepth 100000 in
set_option maxHeartbeats 4000000 in
theorem neq_any (g1 g2 : Nat) (x y : Nat → Int) (w : World) (ha : NT w g1 x) (hb : NT w g2 y) :
    Calls Try.prog 62 #[.slice (some ⟨g1, 0, none⟩) 11 11, .slice (some ⟨g2, 0, none⟩) 11 11] w fun e w' => e = .returned (.bool (nbB x y 11)) ∧ ∃ q, w' = w.drewN q := by
  have HA := Lib.hid ha
  have HB := Lib.hid hb
  clear ha hb
  go_enter Try.func62, Try.ntmps62
  go_wp2_with fail
  go_loopg [13] 11 (fun gh i wr => ∃ k q : Nat, k ≤ 11 ∧ gh = 11 - k ∧ i = .int .i64 k ∧ Hid (nbB x y k = true) ∧ wr = w.drewN q)
  case atStart => exact ⟨0, 0, by omega, rfl, rfl, Lib.hid rfl, rfl⟩
  case round =>
    obtain ⟨k, q, hk, rfl, rfl, HS, rfl⟩ := hrel
    have k0 : (0 : Int) ≤ (k : Int) := Int.natCast_nonneg _
    by_cases h : k < 11
    · have k1 : (k : Int) < 11 := by omega
      obtain ⟨c0, c1⟩ := HA.out k h
      obtain ⟨d0, d1⟩ := HB.out k h
      have GOOD := Lib.hid (fun h0 => nbB_same (x := x) (y := y) HS.out h0)
      have BAD := Lib.hid (fun hh => nbB_not (x := x) (y := y) (k := k) hh 11 h)
      obtain ⟨s, es⟩ : ∃ v, nm (nmX k) = v := ⟨_, rfl⟩
      obtain ⟨z0, e0⟩ : ∃ v, x k = v := ⟨_, rfl⟩
      obtain ⟨y0, f0⟩ : ∃ v, y k = v := ⟨_, rfl⟩
      rw [e0, f0] at GOOD BAD
      rw [es] at c0 d0
      rw [e0] at c1
      rw [f0] at d1
      clear es e0 f0
      by_cases g0 : z0 = y0
      · have F := Lib.hid (GOOD.out g0)
        subst g0
        go_wp2_with fail
        go_quiet (fail)
        go_wp2_with fail
        go_roundg (11 - (k + 1))
        case measure => omega
        case rel => exact ⟨k + 1, _, by omega, rfl, by go_num, F, rfl⟩
      · have F := Lib.hid (BAD.out g0)
        go_wp2_with fail
        go_quiet (fail)
        go_wp2_with fail
        go_ret
        exact ⟨vretB (by rw [F.out]), _, drew_two w q nq⟩
    · obtain rfl : k = 11 := by omega
      go_wp2_with fail
      go_ret
      exact ⟨vretB (by rw [HS.out]), _, rfl⟩
end Go.Proofs.Ytmdjncknjbjmbaa
