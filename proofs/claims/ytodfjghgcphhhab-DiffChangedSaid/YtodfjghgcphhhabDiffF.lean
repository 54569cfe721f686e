/- slices.EqualFunc at rows of legs: any two. -/
import Derived.Test.YtodfjghgcphhhabRows
import Derived.Test.YtodfjghgcphhhabRowKit
import Derived.Test.YtodfjghgcphhhabRowS
import Derived.Test.YtodfjghgcphhhabRowZ
import Derived.Test.YtodfjghgcphhhabSlicesEq
import Derived.Test.YtodfjghgcphhhabRowV
import Derived.Test.YtodfjghgcphhhabRowW
import Derived.Test.YtodfjghgcphhhabDiffLeg
import Derived.WalkKit
import Derived.Lib.Hide
import Derived.WalkSpells
import Derived.WalkLawsBesides
import Derived.Deep.QuietTactic
import Derived.BigQuiet
namespace Go.Proofs.Ytodfjghgcphhhab
open Go.RowKit
set_option linter.unusedSimpArgs false
set_option linter.unusedVariables false
/-- do two rows of rows of legs agree? -/
noncomputable def sameW (n n2 : Nat) (ln ln2 : Nat → Nat) (v v2 : Nat → Nat → Nat → Value) : Bool := decide (n = n2) && (List.range n).all fun k => sameV 4 (ln k) (ln2 k) (v k) (v2 k)
theorem sameW_true (n n2 : Nat) (ln ln2 : Nat → Nat) (v v2 : Nat → Nat → Nat → Value) : sameW n n2 ln ln2 v v2 = true ↔ n = n2 ∧ ∀ k < n, sameV 4 (ln k) (ln2 k) (v k) (v2 k) = true := by simp [sameW]
theorem sameW_false {n n2 : Nat} {ln ln2 : Nat → Nat} {v v2 : Nat → Nat → Nat → Value} (h : ¬ (n = n2 ∧ ∀ k < n, sameV 4 (ln k) (ln2 k) (v k) (v2 k) = true)) : sameW n n2 ln ln2 v v2 = false := by
  rw [← sameW_true] at h; simpa using h
set_option maxRecDepth 100000 in
set_option maxHeartbeats 4000000 in
theorem lists_eq (A B : Option Addr) (c d n n2 : Nat) (P Q : Nat → Option Addr) (ln ln2 cp cp2 : Nat → Nat) (v v2 : Nat → Nat → Nat → Value) (w : World) (ha : RdW w 4 shLeg A n P ln cp v) (hb : RdW w 4 shLeg B n2 Q ln2 cp2 v2) (hl : n ≤ 9223372036854775807) (hl2 : n2 ≤ 9223372036854775807) :
    Calls Try.prog 40 #[.slice A n c, .slice B n2 d, .func (.func 41) #[] #[]] w fun e w' => e = .returned (.bool (sameW n n2 ln ln2 v v2)) ∧ ∃ k, w' = w.drewN k := by
  by_cases hnn : n = n2
  case neg =>
    have e : sameW n n2 ln ln2 v v2 = false := sameW_false (fun h => hnn h.1)
    rw [e]
    clear ha hb e
    go_enter Try.func40, Try.ntmps40
    have hne : ((n : Int) == (n2 : Int)) = false := by simp; omega
    have hne2 : ((n : Int) != (n2 : Int)) = true := by simp; omega
    go_wp2_with fail
    go_ret
    exact ⟨rfl, 0, rfl⟩
  subst hnn
  by_cases hn : n = 0
  · subst hn
    have e : sameW 0 0 ln ln2 v v2 = true := (sameW_true ..).2 ⟨rfl, fun k h => absurd h (by omega)⟩
    rw [e]
    clear ha hb e
    go_enter Try.func40, Try.ntmps40
    go_wp2_with fail
    go_loop [17] (fun i => i = .int .i64 0) (fun i => 0)
    case atStart => exact rfl
    case round =>
      obtain rfl := hrel
      go_wp2_with fail
      go_ret
      exact ⟨rfl, 0, rfl⟩
  · obtain ⟨b1, o1, rfl, _, h1⟩ := rdW_row ha (by omega)
    obtain ⟨b2, o2, rfl, _, h2⟩ := rdW_row hb (by omega)
    have H1 := Lib.hid h1
    have H2 := Lib.hid h2
    have KC : ∀ k, k < n → ∀ q, Calls Try.prog 41 #[.slice (P k) (ln k) (cp k), .slice (Q k) (ln2 k) (cp2 k)] (w.drewN q) fun e w' => e = .returned (.bool (sameV 4 (ln k) (ln2 k) (v k) (v2 k))) ∧ ∃ k, w' = (w.drewN q).drewN k := fun k hk q => by
      obtain ⟨l1, l2, l3⟩ := rdW_at ha hk
      obtain ⟨m1, m2, m3⟩ := rdW_at hb hk
      have hM : maxLen ≤ 9223372036854775807 := by decide
      exact dlegs_eq _ _ _ _ _ _ _ _ _ l3 m3 (by omega) (by omega)
    have JC := Lib.hid KC
    clear ha hb h1 h2 KC
    obtain ⟨R, hR⟩ : ∃ R, sameW n n ln ln2 v v2 = R := ⟨_, rfl⟩
    rw [hR]
    have HR := Lib.hid hR
    clear hR
    go_enter Try.func40, Try.ntmps40
    go_wp2_with fail
    go_loopw [17] (fun i wr => ∃ k : Nat, k ≤ n ∧ (Hid (∀ q < k, sameV 4 (ln q) (ln2 q) (v q) (v2 q) = true)) ∧ i = .int .i64 k ∧ ∃ q, wr = w.drewN q) (fun i _ => n - (intOf i).toNat)
    case atStart => exact ⟨0, by omega, Lib.hid (fun q h => absurd h (by omega)), rfl, 0, rfl⟩
    case round =>
      obtain ⟨k, hk, hall, rfl, q, rfl⟩ := hrel
      by_cases h : k < n
      · have c1 := H1.out k h
        have c2 := H2.out k h
        have hc := Lib.hid (JC.out k h)
        obtain ⟨p1, hp1⟩ : ∃ x, P k = x := ⟨_, rfl⟩
        obtain ⟨p2, hp2⟩ : ∃ x, Q k = x := ⟨_, rfl⟩
        obtain ⟨l1, hl1⟩ : ∃ x, ln k = x := ⟨_, rfl⟩
        obtain ⟨l2, hl2⟩ : ∃ x, ln2 k = x := ⟨_, rfl⟩
        obtain ⟨d1, hd1⟩ : ∃ x, cp k = x := ⟨_, rfl⟩
        obtain ⟨d2, hd2⟩ : ∃ x, cp2 k = x := ⟨_, rfl⟩
        obtain ⟨r, hr⟩ : ∃ x, sameV 4 l1 l2 (v k) (v2 k) = x := ⟨_, rfl⟩
        rw [hp1, hl1, hd1] at c1 hc
        rw [hp2, hl2, hd2] at c2 hc
        rw [hr] at hc
        cases r
        · obtain rfl : R = false := by
            rw [← HR.out]
            exact sameW_false (fun hx => by have := hx.2 k h; rw [hl1, hl2, hr] at this; cases this)
          clear hp1 hp2 hl1 hl2 hd1 hd2 hr hall HR
          go_wp2_with fail
          refine (hc.out _).mono fun e W1 ⟨he, k2, hk2⟩ => ?_
          subst he hk2
          go_wp2_with fail
          go_ret
          exact ⟨rfl, q + k2, rfl⟩
        · have hall2 : Hid (∀ q < k + 1, sameV 4 (ln q) (ln2 q) (v q) (v2 q) = true) := Lib.hid (fun q hq => by
            by_cases hqk : q < k
            · exact hall.out q hqk
            · obtain rfl : q = k := by omega
              rw [hl1, hl2]; exact hr)
          clear hp1 hp2 hl1 hl2 hd1 hd2 hr hall
          go_wp2_with fail
          refine (hc.out _).mono fun e W1 ⟨he, k2, hk2⟩ => ?_
          subst he hk2
          go_wp2_with fail
          go_roundw
          case rel => exact ⟨k + 1, by omega, hall2, by go_num, q + k2, rfl⟩
          case measure => simp [intOf]; omega
      · obtain rfl : R = true := by
          rw [← HR.out]
          exact (sameW_true ..).2 ⟨rfl, fun q hq => hall.out q (by omega)⟩
        clear hall HR
        go_wp2_with fail
        go_ret
        exact ⟨rfl, _, rfl⟩
end Go.Proofs.Ytodfjghgcphhhab
