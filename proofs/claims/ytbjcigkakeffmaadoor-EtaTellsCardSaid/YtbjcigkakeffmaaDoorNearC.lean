/- Contracts of the document's Cost and Least for calls; the scenario within. -/
import Derived.Test.YtbjcigkakeffmaaDoorRows
import Derived.Test.YtbjcigkakeffmaaDoorKitM
import Derived.Test.YtbjcigkakeffmaaDoorCmp
import Derived.Test.YtbjcigkakeffmaaDoorPlaceA
import Derived.Test.YtbjcigkakeffmaaDoorNearMath
import Derived.Test.YtbjcigkakeffmaaDoorNearA
import Derived.Test.YtbjcigkakeffmaaDoorNearB
import Derived.WalkKit
import Derived.IntWalk
import Derived.Lib.Hide
import Derived.WalkSpells
import Derived.WalkLawsBesides
import Derived.Deep.QuietTactic
import Derived.BigQuiet
import Derived.Below
namespace Go.Proofs.YtbjcigkakeffmaaDoor
open Go.RowKit
set_option linter.unusedSimpArgs false
set_option linter.unusedVariables false
theorem away_iff {m p d : Int} (h : d = 1 ∨ d = -1) : (m - p) * d < 0 ↔ cmpI m p = -d := by
  unfold cmpI
  rcases h with rfl | rfl
  · rw [Int.mul_one]; constructor
    · intro h; rw [if_pos (by omega)]
    · intro h; split at h
      · omega
      · split at h <;> omega
  · rw [Int.mul_neg, Int.mul_one]; constructor
    · intro h; rw [if_neg (by omega), if_pos (by omega)]; rfl
    · intro h; split at h
      · omega
      · split at h <;> omega
theorem high_eq {a b t : Int} (h : (a - 1) * b = t) : b * a = t + b := by rw [Int.sub_mul, Int.one_mul] at h; rw [Int.mul_comm b a]; omega
theorem mul_d {x d : Int} (h : d = 1 ∨ d = 0 ∨ d = -1) : x * d = x ∨ x * d = 0 ∨ x * d = -x := by
  rcases h with rfl | rfl | rfl
  · exact Or.inl (Int.mul_one x)
  · exact Or.inr (Or.inl (Int.mul_zero x))
  · exact Or.inr (Or.inr (by rw [Int.mul_neg, Int.mul_one]))
/-- the place of the least one, gone through from the end: of the numbers from k on -/
def lstD (zs : List Int) : Nat → Nat → Int
  | 0, k => -1
  | n + 1, k => if lstD zs n k < 0 then ((k - 1 - n : Nat) : Int) else if zat zs (k - 1 - n) ≤ zat zs (lstD zs n k).toNat then ((k - 1 - n : Nat) : Int) else lstD zs n k
theorem lstD_ok (zs : List Int) (k : Nat) : ∀ n, 0 < n → n ≤ k → ∃ a : Nat, lstD zs n k = (a : Int) ∧ k - n ≤ a ∧ a < k ∧ (∀ i, k - n ≤ i → i < k → zat zs a ≤ zat zs i) ∧ (∀ i, k - n ≤ i → i < a → zat zs a < zat zs i)
  | 0, h, _ => absurd h (by omega)
  | 1, _, h => by
    refine ⟨k - 1, ?_, by omega, by omega, fun i h1 h2 => by rw [show i = k - 1 by omega]; exact Int.le_refl _, fun i h1 h2 => absurd h2 (by omega)⟩
    show (if (-1 : Int) < 0 then ((k - 1 - 0 : Nat) : Int) else _) = _
    rw [if_pos (by decide)]; rfl
  | n + 2, _, h => by
    obtain ⟨a, e, a1, a2, le, lt⟩ := lstD_ok zs k (n + 1) (by omega) (by omega)
    have E : lstD zs (n + 2) k = if zat zs (k - 1 - (n + 1)) ≤ zat zs a then ((k - 1 - (n + 1) : Nat) : Int) else (a : Int) := by
      show (if lstD zs (n + 1) k < 0 then _ else if zat zs (k - 1 - (n + 1)) ≤ zat zs (lstD zs (n + 1) k).toNat then _ else lstD zs (n + 1) k) = _
      rw [e, if_neg (by omega), Int.toNat_natCast]
    by_cases c : zat zs (k - 1 - (n + 1)) ≤ zat zs a
    · refine ⟨k - 1 - (n + 1), by rw [E, if_pos c], by omega, by omega, fun i h1 h2 => ?_, fun i h1 h2 => absurd h2 (by omega)⟩
      by_cases ei : i = k - 1 - (n + 1)
      · rw [ei]; exact Int.le_refl _
      · have := le i (by omega) h2; omega
    · refine ⟨a, by rw [E, if_neg c], by omega, a2, fun i h1 h2 => ?_, fun i h1 h2 => ?_⟩
      · by_cases ei : i = k - 1 - (n + 1)
        · rw [ei]; omega
        · exact le i (by omega) h2
      · by_cases ei : i = k - 1 - (n + 1)
        · rw [ei]; omega
        · exact lt i (by omega) h2
theorem lstD_eq (zs : List Int) (k : Nat) : lstD zs k k = lstV zs k := by
  by_cases h : 0 < k
  · obtain ⟨a, e, _, a2, le, lt⟩ := lstD_ok zs k k h (Nat.le_refl _)
    rw [e, lstV_pos zs h]
    have b1 := lst_lt zs k h
    have b2 := lst_le zs k
    have b3 := lst_first zs k
    congr 1
    rcases Nat.lt_trichotomy a (lstN zs k) with c | c | c
    · have := b3 a c; have := le (lstN zs k) (by omega) b1; omega
    · exact c
    · have := lt (lstN zs k) (by omega) c; have := b2 a a2; omega
  · rw [show k = 0 by omega]; rfl
set_option maxHeartbeats 1000000 in
theorem rleast_any (A : Option Addr) (c n : Nat) (zs : List Int) (w : World) (hn : zs.length = n) (hr : RdI w .i64 A zs) (hl : n ≤ 1000000) :
    Calls Tryd.prog 17 #[.slice A n c] w fun e w' => e = .returned (.int .i64 (lstV zs n)) ∧ ∃ q, w' = w.drewN q := by
  have HN := Lib.hid hn
  have HE := Lib.hid (lstD_eq zs n)
  have OK := Lib.hid (fun k (h0 : 0 < k) (h1 : k ≤ n) => lstD_ok zs n k h0 h1)
  clear hn
  go_enter Tryd.func17, Tryd.ntmps17
  go_wp2_with fail
  go_loopw [3, 4] (fun x i wr => ∃ (z : Int) (j q : Nat), j ≤ n ∧ z = (n : Int) - 1 - j ∧ i = .int .i64 z ∧ x = .int .i64 (lstD zs j n) ∧ wr = w.drewN q) (fun _ i _ => (intOf i + 1).toNat)
  case atStart => exact ⟨_, 0, 0, by omega, by omega, rfl, rfl, rfl⟩
  case round =>
    obtain ⟨z, j, q, hj, hz, rfl, rfl, rfl⟩ := hrel
    by_cases h : j < n
    · obtain ⟨i, rfl⟩ : ∃ i : Nat, z = (i : Int) := ⟨n - 1 - j, by omega⟩
      have ie : n - 1 - j = i := by omega
      have iln : i < n := by omega
      have IE := Lib.hid ie
      obtain ⟨b, off, rfl, hlt, hc⟩ := rdI_row hr (by have := HN.out; omega)
      have ci := hc i (by have := HN.out; omega)
      obtain ⟨u, hu⟩ : ∃ u, zat zs i = u := ⟨_, rfl⟩
      rw [hu] at ci
      have step : lstD zs (j + 1) n = if lstD zs j n < 0 then (i : Int) else if u ≤ zat zs (lstD zs j n).toNat then (i : Int) else lstD zs j n := by
        show (if lstD zs j n < 0 then ((n - 1 - j : Nat) : Int) else if zat zs (n - 1 - j) ≤ zat zs (lstD zs j n).toNat then ((n - 1 - j : Nat) : Int) else lstD zs j n) = _
        rw [ie, hu]
      clear hz ie
      by_cases j0 : 0 < j
      · obtain ⟨a, ea, _, a2, _, _⟩ := OK.out j j0 (by omega)
        have ca := hc a (by have := HN.out; omega)
        obtain ⟨v, hv⟩ : ∃ v, zat zs a = v := ⟨_, rfl⟩
        rw [hv] at ca
        rw [ea, if_neg (by omega), Int.toNat_natCast, hv] at step
        rw [ea]
        have g0 : decide ((a : Int) < 0) = false := decide_eq_false (by omega)
        by_cases d : u ≤ v
        · rw [if_pos d] at step
          have E := Lib.hid step
          have dd : decide (u ≤ v) = true := decide_eq_true d
          clear hu hv hc step ea d
          go_wp2_with fail
          go_quiet (fail)
          go_wp2_with fail
          go_roundw
          case rel => exact ⟨_, j + 1, _, by omega, by have := IE.out; omega, rfl, nvint E.out.symm, rfl⟩
          case measure => simp [intOf]
        · rw [if_neg d] at step
          have E := Lib.hid step
          have dd : decide (u ≤ v) = false := decide_eq_false d
          clear hu hv hc step ea d
          go_wp2_with fail
          go_quiet (fail)
          go_wp2_with fail
          go_roundw
          case rel => exact ⟨_, j + 1, _, by omega, by have := IE.out; omega, rfl, nvint E.out.symm, rfl⟩
          case measure => simp [intOf]
      · have e0 : lstD zs j n = -1 := by rw [show j = 0 by omega]; rfl
        rw [e0, if_pos (by decide)] at step
        obtain ⟨x, hx⟩ : ∃ x, lstD zs j n = x := ⟨_, rfl⟩
        rw [hx]
        have xn : x < 0 := by rw [← hx, e0]; decide
        have g0 : decide (x < 0) = true := decide_eq_true xn
        have E := Lib.hid step
        clear hu hc step e0 hx
        go_wp2_with fail
        go_quiet (fail)
        go_wp2_with fail
        go_roundw
        case rel => exact ⟨_, j + 1, _, by omega, by have := IE.out; omega, rfl, nvint E.out.symm, rfl⟩
        case measure => simp [intOf]
    · obtain rfl : j = n := by omega
      have zn : z < 0 := by omega
      rw [HE.out]
      clear hz
      go_wp2_with fail
      go_ret
      exact ⟨rfl, _, rfl⟩
/-- a car's numbers -/
theorem car_at {w : World} {A : Option Addr} {n : Nat} {v : Nat → Nat → Value} (h : RdV w 6 shCar A n v) {i : Nat} (hi : i < n) :
    ∃ (z : Nat → Int) (b : Bool) (R : Option Addr) (k c : Nat), v i 0 = .int .i64 (z 0) ∧ v i 1 = .int .i64 (z 1) ∧ v i 2 = .int .i64 (z 2) ∧ v i 3 = .int .i64 (z 3) ∧ v i 4 = .bool b ∧ v i 5 = .slice R k c ∧ k ≤ maxLen ∧ (-9223372036854775808 ≤ z 0 ∧ z 0 ≤ 9223372036854775807) ∧ (-9223372036854775808 ≤ z 1 ∧ z 1 ≤ 9223372036854775807) := by
  obtain ⟨z0, e0, w0⟩ : ShI (v i 0) := h.sh (j := 0) hi (by omega)
  obtain ⟨z1, e1, w1⟩ : ShI (v i 1) := h.sh (j := 1) hi (by omega)
  obtain ⟨z2, e2, _⟩ : ShI (v i 2) := h.sh (j := 2) hi (by omega)
  obtain ⟨z3, e3, _⟩ : ShI (v i 3) := h.sh (j := 3) hi (by omega)
  obtain ⟨b, e4⟩ : ShB (v i 4) := h.sh (j := 4) hi (by omega)
  obtain ⟨R, k, c, e5, h1, h2⟩ : ShS (v i 5) := h.sh (j := 5) hi (by omega)
  exact ⟨fun j => if j = 0 then z0 else if j = 1 then z1 else if j = 2 then z2 else z3, b, R, k, c, e0, e1, e2, e3, e4, e5, by omega, bounds_i64 w0, bounds_i64 w1⟩
/-- the cost of a car of a row -/
def cstF (v : Nat → Nat → Value) (m t dir : Int) (i : Nat) : Int := costV (intOf (v i 0)) m t (intOf (v i 1)) dir
/-- cars within a building -/
def InB (v : Nat → Nat → Value) (n : Nat) (t : Int) : Prop := ∀ i, i < n → (0 ≤ intOf (v i 0) ∧ intOf (v i 0) ≤ t) ∧ (-1 ≤ intOf (v i 1) ∧ intOf (v i 1) ≤ 1)
theorem cst_bd {v : Nat → Nat → Value} {n i : Nat} {m t dir : Int} (h : InB v n t) (hi : i < n) (m0 : 0 ≤ m) (m1 : m ≤ t) (t1 : t ≤ 1048576) : 0 ≤ cstF v m t dir i ∧ cstF v m t dir i ≤ 4194304 := by
  obtain ⟨⟨a, b⟩, _⟩ := h i hi
  unfold cstF costV
  have f := far_bd (p := intOf (v i 0)) (m := m) a (by omega) m0 (by omega)
  split
  · omega
  · split
    · omega
    · split <;> omega
end Go.Proofs.YtbjcigkakeffmaaDoor
