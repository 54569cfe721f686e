/- A contract of rank.Ends; the least and the greatest; percentiles rise. -/
import Derived.Test.YtcofafiacpecnaaRows
import Derived.Test.YtcofafiacpecnaaRowKit
import Derived.Test.YtcofafiacpecnaaSlicesEq
import Derived.Test.YtcofafiacpecnaaSlicesEqM
import Derived.Test.YtcofafiacpecnaaRowL
import Derived.Test.YtcofafiacpecnaaMakeI
import Derived.Test.YtcofafiacpecnaaShelf
import Derived.Test.YtcofafiacpecnaaSeqA
import Derived.Test.YtcofafiacpecnaaSeqB
import Derived.Test.YtcofafiacpecnaaRankMath
import Derived.Test.YtcofafiacpecnaaRankA
import Derived.Test.YtcofafiacpecnaaRankB
import Derived.WalkKit
import Derived.IntWalk
import Derived.Lib.Hide
import Derived.WalkSpells
import Derived.WalkLawsBesides
import Derived.Below
namespace Go.Proofs.Ytcofafiacpecnaa
open Go.RowKit
set_option linter.unusedSimpArgs false
set_option linter.unusedVariables false
theorem min_facts (zs : List Int) : ∀ k, 0 < k → k ≤ zs.length → (∀ i, i < k → Lib.minOf (zs.take k) ≤ zat zs i) ∧ ∃ i, i < k ∧ zat zs i = Lib.minOf (zs.take k)
  | 0, h, _ => absurd h (by omega)
  | 1, _, h => by
    rw [Lib.minOf_one]
    exact ⟨fun i hi => by rw [show i = 0 by omega]; exact Int.le_refl _, 0, by omega, rfl⟩
  | k + 2, _, h => by
    obtain ⟨h1, i, hi, e⟩ := min_facts zs (k + 1) (by omega) (by omega)
    rw [Lib.minOf_step zs (k + 1) (by omega) (by omega)]
    have ez : zs.getD (k + 1) 0 = zat zs (k + 1) := rfl
    rw [ez]
    refine ⟨fun j hj => ?_, ?_⟩
    · by_cases c : j = k + 1
      · rw [c]; omega
      · have := h1 j (by omega); omega
    · by_cases c : Lib.minOf (zs.take (k + 1)) ≤ zat zs (k + 1)
      · exact ⟨i, by omega, by rw [e]; omega⟩
      · exact ⟨k + 1, by omega, by omega⟩
theorem max_facts (zs : List Int) : ∀ k, 0 < k → k ≤ zs.length → (∀ i, i < k → zat zs i ≤ Lib.maxOf (zs.take k)) ∧ ∃ i, i < k ∧ zat zs i = Lib.maxOf (zs.take k)
  | 0, h, _ => absurd h (by omega)
  | 1, _, h => by
    rw [Lib.maxOf_one]
    exact ⟨fun i hi => by rw [show i = 0 by omega]; exact Int.le_refl _, 0, by omega, rfl⟩
  | k + 2, _, h => by
    obtain ⟨h1, i, hi, e⟩ := max_facts zs (k + 1) (by omega) (by omega)
    rw [Lib.maxOf_step zs (k + 1) (by omega) (by omega)]
    have ez : zs.getD (k + 1) 0 = zat zs (k + 1) := rfl
    rw [ez]
    refine ⟨fun j hj => ?_, ?_⟩
    · by_cases c : j = k + 1
      · rw [c]; omega
      · have := h1 j (by omega); omega
    · by_cases c : zat zs (k + 1) ≤ Lib.maxOf (zs.take (k + 1))
      · exact ⟨i, by omega, by rw [e]; omega⟩
      · exact ⟨k + 1, by omega, by omega⟩
theorem bl_zero {zs : List Int} {y : Int} : ∀ {k : Nat}, (∀ i, i < k → y < zat zs i) → blN zs y k = 0
  | 0, _ => rfl
  | k + 1, h => by rw [bl_no (by have := h k (by omega); omega), bl_zero fun i hi => h i (by omega)]
/-- the least and the greatest of a row that isn't empty -/
structure EndR (zs : List Int) (n : Nat) (lo hi : Int) : Prop where
  l : ∀ i, i < n → lo ≤ zat zs i
  h : ∀ i, i < n → zat zs i ≤ hi
  m : ∃ i, i < n ∧ zat zs i = lo
set_option maxHeartbeats 400000 in
theorem rends_ok (A : Option Addr) (c n : Nat) (zs : List Int) (w : World) (hn : zs.length = n) (hr : RdI w .i64 A zs) (n0 : 1 ≤ n) (n1 : n ≤ 1000000) :
    ∃ lo hi, EndR zs n lo hi ∧ ∀ w', RdI w' .i64 A zs → Calls Try.prog 61 #[.slice A n c] w' fun e w'' => e = .returned (.tuple #[.int .i64 lo, .int .i64 hi, .bool true]) ∧ w' = w'' := by
  obtain ⟨f1, f2⟩ := min_facts zs n (by omega) (by omega)
  obtain ⟨f3, _⟩ := max_facts zs n (by omega) (by omega)
  refine ⟨_, _, ⟨f1, f3, f2⟩, fun w' hr' => ?_⟩
  obtain ⟨b, off, rfl, hlt, hc⟩ := rdI_row hr' (by omega)
  have K1 := Lib.hid (Try.slices_Min_int b off n c zs w' (by omega) (by omega) (by omega) hc)
  have K2 := Lib.hid (Try.slices_Max_int b off n c zs w' (by omega) (by omega) (by omega) hc)
  obtain ⟨x, hx⟩ : ∃ x, Lib.minOf (zs.take n) = x := ⟨_, rfl⟩
  obtain ⟨y, hy⟩ : ∃ y, Lib.maxOf (zs.take n) = y := ⟨_, rfl⟩
  rw [hx] at K1 ⊢
  rw [hy] at K2 ⊢
  have nz : ((n : Int) == 0) = false := by rw [beq_eq_false_iff_ne]; omega
  have nz2 : (n == 0) = false := by rw [beq_eq_false_iff_ne]; omega
  clear hr hr' hc hn f1 f2 f3 hx hy
  go_enter Try.func61, Try.ntmps61
  go_wp2_with (first
    | (go_at_call 96; refine K1.out.mono ?_; rintro e w2 ⟨rfl, rfl⟩)
    | (go_at_call 97; refine K2.out.mono ?_; rintro e w2 ⟨rfl, rfl⟩))
  go_ret3
  exact ⟨rfl, rfl⟩
set_option maxHeartbeats 400000 in
theorem rends_no (A : Option Addr) (c : Nat) (w : World) :
    Calls Try.prog 61 #[.slice A 0 c] w fun e w' => e = .returned (.tuple #[.int .i64 0, .int .i64 0, .bool false]) ∧ w = w' := by
  go_enter Try.func61, Try.ntmps61
  go_wp2_with fail
  go_ret3
  exact ⟨rfl, rfl⟩
theorem pl_mono {p q : Int} {n : Nat} (h : p ≤ q) : plI p n ≤ plI q n := by
  unfold plI
  have a1 : (n : Int) / 100 * p ≤ (n : Int) / 100 * q := Int.mul_le_mul_of_nonneg_left h (by omega)
  have a2 : (n : Int) % 100 * p ≤ (n : Int) % 100 * q := Int.mul_le_mul_of_nonneg_left h (by omega)
  obtain ⟨x, hx⟩ : ∃ x, (n : Int) / 100 * p = x := ⟨_, rfl⟩
  obtain ⟨y, hy⟩ : ∃ y, (n : Int) / 100 * q = y := ⟨_, rfl⟩
  obtain ⟨u, hu⟩ : ∃ u, (n : Int) % 100 * p = u := ⟨_, rfl⟩
  obtain ⟨v, hv⟩ : ∃ v, (n : Int) % 100 * q = v := ⟨_, rfl⟩
  rw [hx, hy] at a1
  rw [hu, hv] at a2
  rw [hx, hy, hu, hv]
  omega
theorem pct_mono {zs ps : List Int} {i k : Nat} (h : zat ps k ≤ zat ps i) (i1 : 1 ≤ zat ps i) (i2 : zat ps i ≤ 100) (n1 : 1 ≤ zs.length) (n2 : zs.length ≤ 1000000) : pctS zs ps k ≤ pctS zs ps i := by
  have m := pl_mono (n := zs.length) h
  have t := (rplace_t (zat ps i) zs.length _ default i1 i2 n1 n2 rfl).1
  exact srt_le (by omega) t
end Go.Proofs.Ytcofafiacpecnaa
