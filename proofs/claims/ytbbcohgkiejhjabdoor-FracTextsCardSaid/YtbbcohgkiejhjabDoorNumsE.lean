/- Contracts of nums.Gcd and the document's: the greatest number that divides both. -/
import Derived.Test.YtbbcohgkiejhjabDoorRows
import Derived.Test.YtbbcohgkiejhjabDoorNumsMath
import Derived.Test.YtbbcohgkiejhjabDoorNumsA
import Derived.Test.YtbbcohgkiejhjabDoorNumsB
import Derived.WalkKit
import Derived.Lib.Hide
import Derived.WalkSpells
import Derived.WalkLawsBesides
import Derived.Deep.QuietTactic
import Derived.BigQuiet
namespace Go.Proofs.YtbbcohgkiejhjabDoor
open Go.RowKit
set_option linter.unusedSimpArgs false
set_option linter.unusedVariables false

set_option maxHeartbeats 400000 in
theorem gcd_any (a b : Int) (w : World) (ha : -9223372036854775808 ≤ a) (ha' : a ≤ 9223372036854775807) (hb : -9223372036854775808 ≤ b) (hb' : b ≤ 9223372036854775807) :
    Calls Tryd.prog 23 #[.int .i64 a, .int .i64 b] w fun e w' => e = .returned (.int .u64 (Nat.gcd a.natAbs b.natAbs : Nat)) ∧ ∃ k, w' = w.drewN k := by
  go_enter Tryd.func23, Tryd.ntmps23
  go_wp2_with (go_at_call 37; refine (size_any _ _ (by assumption) (by assumption)).mono ?_; rintro e w' ⟨rfl, rfl⟩)
  go_loopw [5, 6] (fun x y wr => ∃ m n k : Nat, x = .int .u64 m ∧ y = .int .u64 n ∧ Nat.gcd m n = Nat.gcd a.natAbs b.natAbs ∧ m < 18446744073709551616 ∧ n < 18446744073709551616 ∧ wr = w.drewN k) (fun _ y _ => (intOf y).toNat)
  case atStart => exact ⟨a.natAbs, b.natAbs, 0, rfl, rfl, rfl, by omega, by omega, rfl⟩
  case round =>
    obtain ⟨m, n, k, rfl, rfl, hg, hm, hn, rfl⟩ := hrel
    have G := Lib.hid hg
    clear hg
    by_cases h0 : n = 0
    · subst h0
      go_wp2
      go_ret
      refine ⟨ret1 ?_, k, rfl⟩
      have g := G.out
      rw [Nat.gcd_zero_right] at g
      rw [g]
    · have h1 : ((n : Int) != 0) = true := by simp [h0]
      have h2 : 1 ≤ (n : Int) := by omega
      go_wp2
      go_quiet (fail)
      go_wp2
      go_roundw
      case rel => exact ⟨n, m % n, k + nq, rfl, rfl, by rw [← G.out, Nat.gcd_comm n, ← Nat.gcd_rec, Nat.gcd_comm], hn, by have := Nat.mod_lt m (Nat.pos_of_ne_zero h0); omega, by rw [World.drewN_drewN]⟩
      case measure => simp [intOf]; have := Nat.mod_lt m (Nat.pos_of_ne_zero h0); omega

theorem gcd_half_left (m n : Nat) (hn : ¬ n % 2 = 0) : Nat.gcd (2 * m) n = Nat.gcd m n := by
  apply Nat.Coprime.gcd_mul_left_cancel
  show Nat.gcd 2 n = 1
  rw [Nat.gcd_rec, show n % 2 = 1 by omega]
  rfl
/-- what the second loop keeps -/
def Odd1 (g m n : Nat) : Prop := Nat.gcd m n = g ∧ 0 < m ∧ 0 < n ∧ ¬ (m % 2 = 0 ∧ n % 2 = 0)
theorem odd1_left {g m n : Nat} (h : Odd1 g m n) (h2 : m % 2 = 0) : Odd1 g (m / 2) n := by
  obtain ⟨e, hm, hn, ho⟩ := h
  have hn2 : ¬ n % 2 = 0 := fun x => ho ⟨h2, x⟩
  refine ⟨?_, by omega, hn, by omega⟩
  rw [← e, show m = 2 * (m / 2) by omega, gcd_half_left _ _ hn2]
  congr 1; omega
theorem odd1_right {g m n : Nat} (h : Odd1 g m n) (h2 : n % 2 = 0) : Odd1 g m (n / 2) := by
  obtain ⟨e, hm, hn, ho⟩ := h
  have := odd1_left (g := g) (m := n) (n := m) ⟨by rw [Nat.gcd_comm]; exact e, hn, hm, by omega⟩ h2
  exact ⟨by rw [Nat.gcd_comm]; exact this.1, hm, this.2.1, by have := this.2.2.2; omega⟩
theorem odd1_sub {g m n : Nat} (h : Odd1 g m n) (h1 : ¬ m % 2 = 0) (h2 : ¬ n % 2 = 0) (hl : n < m) : Odd1 g ((m - n) / 2) n := by
  obtain ⟨e, hm, hn, ho⟩ := h
  refine ⟨?_, by omega, hn, by omega⟩
  rw [← gcd_half_left _ _ h2, show 2 * ((m - n) / 2) = m - n by omega, Nat.gcd_sub_self_left (by omega)]
  exact e
theorem odd1_sub' {g m n : Nat} (h : Odd1 g m n) (h1 : ¬ m % 2 = 0) (h2 : ¬ n % 2 = 0) (hl : m < n) : Odd1 g m ((n - m) / 2) := by
  obtain ⟨e, hm, hn, ho⟩ := h
  have := odd1_sub (g := g) (m := n) (n := m) ⟨by rw [Nat.gcd_comm]; exact e, hn, hm, by omega⟩ h2 h1 hl
  exact ⟨by rw [Nat.gcd_comm]; exact this.1, hm, this.2.1, by omega⟩
set_option maxHeartbeats 400000 in
theorem rgcd_zero (a b : Nat) (w : World) (ha : a < 9223372036854775809) (hb : b < 9223372036854775809) (h : a = 0 ∨ b = 0) :
    Calls Tryd.prog 24 #[.int .u64 a, .int .u64 b] w fun e w' => e = .returned (.int .u64 (Nat.gcd a b : Nat)) ∧ w = w' := by
  rcases h with rfl | rfl
  · go_enter Tryd.func24, Tryd.ntmps24
    go_wp2
    go_ret
    exact ⟨ret1 (by simp), rfl⟩
  · by_cases h0 : a = 0
    · subst h0
      go_enter Tryd.func24, Tryd.ntmps24
      go_wp2
      go_ret
      exact ⟨ret1 (by simp), rfl⟩
    · have h1 : ((a : Int) == 0) = false := by simp [h0]
      go_enter Tryd.func24, Tryd.ntmps24
      go_wp2
      go_ret
      exact ⟨ret1 (by simp), rfl⟩
set_option maxHeartbeats 1000000 in
theorem rgcd_any (a b : Nat) (w : World) (ha : a < 9223372036854775809) (hb : b < 9223372036854775809) (ha0 : 0 < a) (hb0 : 0 < b) :
    Calls Tryd.prog 24 #[.int .u64 a, .int .u64 b] w fun e w' => e = .returned (.int .u64 (Nat.gcd a b : Nat)) ∧ w = w' := by
  have h1 : ((a : Int) == 0) = false := by simp; omega
  have h2 : ((b : Int) == 0) = false := by simp; omega
  go_enter Tryd.func24, Tryd.ntmps24
  go_wp2
  go_loop [0, 1, 5] (fun x y z => ∃ m n k : Nat, x = .int .u64 m ∧ y = .int .u64 n ∧ z = .int .u64 k ∧ Hid (k * Nat.gcd m n = Nat.gcd a b) ∧ 0 < m ∧ 0 < n ∧ 0 < k ∧ Hid (k * m ≤ a) ∧ m ≤ a ∧ n ≤ b) (fun x _ _ => (intOf x).toNat)
  case atStart => exact ⟨a, b, 1, rfl, rfl, rfl, Nat.one_mul _, ha0, hb0, by omega, by show 1 * a ≤ a; omega, by omega, by omega⟩
  case round =>
    obtain ⟨m, n, k, rfl, rfl, rfl, hg, hm, hn, hk, hkm, hma, hnb⟩ := hrel
    by_cases he : m % 2 = 0 ∧ n % 2 = 0
    · have e1 : ((m : Int) % 2 == 0) = true := by simp; omega
      have e2 : ((n : Int) % 2 == 0) = true := by simp; omega
      have hk2 : 2 * k ≤ a := by have := Nat.mul_le_mul_left k (show 2 ≤ m by omega); have := hkm.out; omega
      obtain ⟨E1, E2⟩ := he
      have X1 := Lib.hid E1
      have X2 := Lib.hid E2
      clear E1 E2
      go_wp2
      go_round
      case rel =>
        have hm2 : m = 2 * (m / 2) := by have := X1.out; omega
        have hn2 : n = 2 * (n / 2) := by have := X2.out; omega
        refine ⟨m / 2, n / 2, 2 * k, by go_num, by go_num, by go_num, ?_, by omega, by omega, by omega, ?_, by omega, by omega⟩
        · have g := hg.out
          rw [hm2, hn2, Nat.gcd_mul_left, ← Nat.mul_assoc, Nat.mul_comm k 2] at g
          exact g
        · have g := hkm.out
          rw [hm2, ← Nat.mul_assoc, Nat.mul_comm k 2] at g
          exact g
      case measure => simp [intOf]; omega
    · have hin : Hid (Odd1 (Nat.gcd m n) m n) := ⟨rfl, hm, hn, he⟩
      have htest : ((m : Int) % 2 == 0) = false ∨ (((m : Int) % 2 == 0) = true ∧ ((n : Int) % 2 == 0) = false) := by simp; omega
      clear he
      rcases htest with e1 | ⟨e1, e2⟩
      all_goals
        go_wp2
        go_loop [0, 1] (fun x y => ∃ p q : Nat, x = .int .u64 p ∧ y = .int .u64 q ∧ Hid (Odd1 (Nat.gcd m n) p q) ∧ p ≤ m ∧ q ≤ n ∧ 0 < p ∧ 0 < q) (fun x y => (intOf x).toNat + (intOf y).toNat)
        case atStart => exact ⟨m, n, rfl, rfl, hin, by omega, by omega, hm, hn⟩
        case round =>
          obtain ⟨p, q, rfl, rfl, ho, hpm, hqn, hp, hq⟩ := hrel
          by_cases hpq : p = q
          · subst hpq
            have b0 : 0 ≤ (k : Int) * (p : Int) := by rw [← Int.natCast_mul]; omega
            have b1 : (k : Int) * (p : Int) ≤ 9223372036854775808 := by
              have h3 := Nat.mul_le_mul_left k hpm
              have h4 := hkm.out
              rw [← Int.natCast_mul]; omega
            go_wp2
            go_ret
            refine ⟨ret1 ?_, rfl⟩
            have h5 := hg.out
            have h6 := ho.out.1
            rw [Nat.gcd_self] at h6
            rw [← h5, ← h6, Int.natCast_mul]
          · have hne : ((p : Int) != (q : Int)) = true := by simp; omega
            clear hpq
            by_cases hp2 : p % 2 = 0
            · have t1 : ((p : Int) % 2 == 0) = true := by simp; omega
              have X := Lib.hid hp2
              clear hp2
              go_wp2
              go_round
              case rel => exact ⟨p / 2, q, by go_num, rfl, odd1_left ho.out X.out, by omega, by omega, by have := X.out; omega, by omega⟩
              case measure => simp [intOf]; omega
            · have t1 : ((p : Int) % 2 == 0) = false := by simp; omega
              have X := Lib.hid hp2
              clear hp2
              by_cases hq2 : q % 2 = 0
              · have t2 : ((q : Int) % 2 == 0) = true := by simp; omega
                have Y := Lib.hid hq2
                clear hq2
                go_wp2
                go_round
                case rel => exact ⟨p, q / 2, rfl, by go_num, odd1_right ho.out Y.out, by omega, by omega, by omega, by have := Y.out; omega⟩
                case measure => simp [intOf]; omega
              · have t2 : ((q : Int) % 2 == 0) = false := by simp; omega
                have Y := Lib.hid hq2
                clear hq2
                have hl : q < p ∨ p < q := by have := hne; simp at this; omega
                rcases hl with hl | hl
                · go_wp2
                  go_round
                  case rel => exact ⟨(p - q) / 2, q, by go_num, rfl, odd1_sub ho.out X.out Y.out hl, by omega, by omega, by have := X.out; have := Y.out; omega, by omega⟩
                  case measure => simp [intOf]; omega
                · go_wp2
                  go_round
                  case rel => exact ⟨p, (q - p) / 2, rfl, by go_num, odd1_sub' ho.out X.out Y.out hl, by omega, by omega, by omega, by have := X.out; have := Y.out; omega⟩
                  case measure => simp [intOf]; omega
theorem rgcd_all (a b : Nat) (w : World) (ha : a < 9223372036854775809) (hb : b < 9223372036854775809) :
    Calls Tryd.prog 24 #[.int .u64 a, .int .u64 b] w fun e w' => e = .returned (.int .u64 (Nat.gcd a b : Nat)) ∧ w = w' := by
  by_cases h : a = 0 ∨ b = 0
  · exact rgcd_zero a b w ha hb h
  · exact rgcd_any a b w ha hb (by omega) (by omega)
end Go.Proofs.YtbbcohgkiejhjabDoor
