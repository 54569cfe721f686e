/- Contracts of cumul.Share, Mean and of the document's Right and Means. -/
import Derived.Test.YtkepplkfjcoemabRows
import Derived.Test.YtkepplkfjcoemabRowKit
import Derived.Test.YtkepplkfjcoemabSlicesEq
import Derived.Test.YtkepplkfjcoemabSorted
import Derived.WalkKit
import Derived.IntWalk
import Derived.Lib.Hide
import Derived.WalkSpells
import Derived.WalkLawsBesides
import Derived.Deep.QuietTactic
import Derived.BigQuiet
namespace Go.Proofs.Ytkepplkfjcoemab
open Go.RowKit
set_option linter.unusedSimpArgs false
set_option linter.unusedVariables false
/-- how many words mean n -/
def shN (zs : List Int) : Nat → Int
  | 0 => zat zs 0
  | n + 1 => IntKind.u64.wrap (zat zs (n + 1) - zat zs n)
/-- how many words mean a number, 0 where there is no such place -/
def shV (zs : List Int) (n : Int) : Int := if 0 ≤ n ∧ n < zs.length then shN zs n.toNat else 0
theorem shV_out {zs : List Int} {n : Int} (h : n < 0 ∨ zs.length ≤ n) : shV zs n = 0 := if_neg (by omega)
theorem shV_in {zs : List Int} {k : Nat} (h : k < zs.length) : shV zs k = shN zs k := by unfold shV; rw [if_pos (by omega), Int.toNat_natCast]
set_option maxHeartbeats 1000000 in
theorem share_out (A : Option Addr) (c m : Nat) (n : Int) (w : World) (h : n < 0 ∨ (m : Int) ≤ n) :
    Calls Try.prog 30 #[.slice A m c, .int .i64 n] w fun e w' => e = .returned (.int .u64 0) ∧ ∃ q, w' = w.drewN q := by
  by_cases h0 : n < 0
  · clear h
    go_enter Try.func30, Try.ntmps30
    go_wp2_with fail
    go_ret
    exact ⟨rfl, 0, rfl⟩
  · have h1 : (m : Int) ≤ n := by omega
    clear h
    go_enter Try.func30, Try.ntmps30
    go_wp2_with fail
    go_ret
    exact ⟨rfl, 0, rfl⟩
set_option maxHeartbeats 1000000 in
theorem share_zero (b off c m : Nat) (v : Int) (w : World) (h0 : 0 < m) (hc : w.cell? ⟨b, off, none⟩ = some (.int .u64 v)) :
    Calls Try.prog 30 #[.slice (some ⟨b, off, none⟩) m c, .int .i64 0] w fun e w' => e = .returned (.int .u64 v) ∧ ∃ q, w' = w.drewN q := by
  have h1 : ¬ (m : Int) ≤ 0 := by omega
  go_enter Try.func30, Try.ntmps30
  go_wp2_with fail
  go_ret
  exact ⟨rfl, 0, rfl⟩
set_option maxHeartbeats 1000000 in
theorem share_more (b off c m j : Nat) (u v : Int) (w : World) (h0 : j + 1 < m) (hm : m ≤ 1000) (hu : w.cell? ⟨b, off + j, none⟩ = some (.int .u64 u)) (hv : w.cell? ⟨b, off + (j + 1), none⟩ = some (.int .u64 v)) :
    Calls Try.prog 30 #[.slice (some ⟨b, off, none⟩) m c, .int .i64 (j + 1 : Nat)] w fun e w' => e = .returned (.int .u64 (IntKind.u64.wrap (v - u))) ∧ ∃ q, w' = w.drewN q := by
  have i1 : (j : Int) + 1 < (m : Int) := by omega
  have i2 : (0 : Int) ≤ (j : Int) + 1 := by omega
  have i3 : ((j : Int) + 1).toNat = j + 1 := by omega
  have i5 : j < m := by omega
  have i6 : (j : Int) < (m : Int) := by omega
  have i7 : ¬ (m : Int) ≤ (j : Int) + 1 := by omega
  have i8 : (((j : Int) + 1) == 0) = false := by rw [beq_eq_false_iff_ne]; omega
  have w1 : IntKind.i64.wrap (j : Int) = j := IntWalk.i64_in _ (by omega)
  go_enter Try.func30, Try.ntmps30
  go_wp2_with fail
  go_quiet (fail)
  go_wp2_with fail
  go_ret
  exact ⟨rfl, _, rfl⟩
theorem share_any (A : Option Addr) (c : Nat) (zs : List Int) (n : Int) (w : World) (hr : RdI w .u64 A zs) (hl : zs.length ≤ 1000) :
    Calls Try.prog 30 #[.slice A zs.length c, .int .i64 n] w fun e w' => e = .returned (.int .u64 (shV zs n)) ∧ ∃ q, w' = w.drewN q := by
  by_cases h : n < 0 ∨ (zs.length : Int) ≤ n
  · rw [shV_out h]; exact share_out A c zs.length n w h
  · obtain ⟨k, rfl⟩ := Int.eq_ofNat_of_zero_le (show 0 ≤ n by omega)
    have hk : k < zs.length := by omega
    rw [shV_in hk]
    obtain ⟨b, off, rfl, _, hc⟩ := rdI_row hr (by omega)
    rcases k with _ | j
    · have := share_zero b off c zs.length (zat zs 0) w (by omega) (by have := hc 0 (by omega); simpa using this)
      exact this
    · exact share_more b off c zs.length j _ _ w hk hl (hc j (by omega)) (hc (j + 1) hk)
/-- how many all words of the first k places mean, together -/
def mnV (zs : List Int) : Nat → Int
  | 0 => 0
  | k + 1 => IntKind.u64.wrap (mnV zs k + IntKind.u64.wrap (k * shN zs k))
theorem mnV_succ (zs : List Int) (k : Nat) : mnV zs (k + 1) = IntKind.u64.wrap (mnV zs k + IntKind.u64.wrap (k * shN zs k)) := rfl
set_option maxHeartbeats 1000000 in
theorem mean_any (A : Option Addr) (c : Nat) (zs : List Int) (w : World) (hr : RdI w .u64 A zs) (hl : zs.length ≤ 1000) :
    Calls Try.prog 31 #[.slice A zs.length c] w fun e w' => e = .returned (.int .u64 (mnV zs zs.length)) ∧ ∃ q, w' = w.drewN q := by
  have HS := Lib.hid (fun (k : Nat) (hk : k < zs.length) q => by have := share_any A c zs k (w.drewN q) hr hl; rw [shV_in hk] at this; exact this)
  have M0 : Hid (mnV zs 0 = 0) := Lib.hid rfl
  have MS := Lib.hid (mnV_succ zs)
  clear hr
  go_enter Try.func31, Try.ntmps31
  go_wp2_with fail
  go_loopw [3, 7] (fun s i wr => ∃ k : Nat, k ≤ zs.length ∧ i = .int .i64 k ∧ s = .int .u64 (mnV zs k) ∧ ∃ q, wr = w.drewN q) (fun _ i _ => zs.length - (intOf i).toNat)
  case atStart => exact ⟨0, by omega, rfl, by rw [M0.out], 0, rfl⟩
  case round =>
    obtain ⟨k, hk, rfl, rfl, q, rfl⟩ := hrel
    by_cases h : k < zs.length
    · have H := Lib.hid (HS.out k h q)
      have E := Lib.hid (MS.out k)
      obtain ⟨x, hx⟩ : ∃ x, shN zs k = x := ⟨_, rfl⟩
      obtain ⟨y, hy⟩ : ∃ y, mnV zs k = y := ⟨_, rfl⟩
      rw [hx] at H E
      rw [hy] at E
      rw [hy]
      clear hx hy
      go_wp2_with (go_at_call 30; refine H.out.mono ?_; rintro e w' ⟨rfl, q2, rfl⟩)
      go_roundw
      case rel => exact ⟨k + 1, by omega, by go_num, by rw [E.out], q + q2, by first | rfl | rw [World.drewN_drewN]⟩
      case measure => simp [intOf]; omega
    · obtain rfl : k = zs.length := by omega
      go_wp2_with fail
      go_ret
      exact ⟨rfl, q, rfl⟩
set_option maxHeartbeats 1000000 in
theorem rright_none (A : Option Addr) (c : Nat) (w : World) :
    Calls Try.prog 29 #[.slice A 0 c] w fun e w' => e = .returned (.bool false) ∧ ∃ q, w' = w.drewN q := by
  go_enter Try.func29, Try.ntmps29
  go_wp2_with fail
  go_loop [3] (fun i => i = .int .i64 1) (fun _ => 0)
  case atStart => exact rfl
  case round =>
    obtain rfl := hrel
    go_wp2_with fail
    go_ret
    exact ⟨rfl, 0, rfl⟩
set_option maxHeartbeats 1000000 in
theorem rright_yes (b off c n : Nat) (zs : List Int) (w : World) (hr : RdI w .u64 (some ⟨b, off, none⟩) zs) (hn : zs.length = n + 1) (hl : n ≤ 1000) (h : Rise zs) (v : Bool) (hv : (zat zs n == 4294967296) = v) :
    Calls Try.prog 29 #[.slice (some ⟨b, off, none⟩) (n + 1) c] w fun e w' => e = .returned (.bool v) ∧ ∃ q, w' = w.drewN q := by
  obtain ⟨b', o', e, _, hc⟩ := rdI_row hr (by omega)
  cases e
  have HC := Lib.hid (fun i (hi : i ≤ n) => hc i (by omega))
  have HR := Lib.hid (fun i (hi : i < n) => h i (by omega))
  have HV := Lib.hid hv
  clear hr hc h hn hv
  go_enter Try.func29, Try.ntmps29
  go_wp2_with fail
  go_loopw [3] (fun i wr => ∃ k : Nat, k ≤ n ∧ i = .int .i64 (k + 1 : Nat) ∧ ∃ q, wr = w.drewN q) (fun i _ => n + 1 - (intOf i).toNat)
  case atStart => exact ⟨0, by omega, rfl, 0, rfl⟩
  case round =>
    obtain ⟨j, hj, rfl, q, rfl⟩ := hrel
    by_cases h : j < n
    · have c1 := HC.out (j + 1) (by omega)
      have c2 := HC.out j (by omega)
      have hle := HR.out j h
      have hnl : decide (zat zs (j + 1) < zat zs j) = false := decide_eq_false (by omega)
      have i1 : (j : Int) + 1 < (n : Int) + 1 := by omega
      have i2 : (0 : Int) ≤ (j : Int) + 1 := by omega
      have i3 : ((j : Int) + 1).toNat = j + 1 := by omega
      have i4 : j + 1 < n + 1 := by omega
      have i5 : j < n + 1 := by omega
      have i6 : (j : Int) < (n : Int) + 1 := by omega
      have w1 : IntKind.i64.wrap (j : Int) = j := IntWalk.i64_in _ (by omega)
      go_wp2_with fail
      go_quiet (fail)
      go_wp2_with fail
      go_roundw
      case rel => exact ⟨j + 1, by omega, by go_num, q + nq, by first | rfl | rw [World.drewN_drewN]⟩
      case measure => simp [intOf]; omega
    · obtain rfl : j = n := by omega
      have c1 := HC.out j (by omega)
      go_wp2_with fail
      go_ret
      exact ⟨by rw [← HV.out]; rfl, q, rfl⟩
set_option maxHeartbeats 1000000 in
theorem rright_no (b off c n m : Nat) (zs : List Int) (w : World) (hr : RdI w .u64 (some ⟨b, off, none⟩) zs) (hn : zs.length = n + 1) (hl : n ≤ 1000) (hm : m < n) (hd : zat zs (m + 1) < zat zs m) (h : ∀ i, i < m → zat zs i ≤ zat zs (i + 1)) :
    Calls Try.prog 29 #[.slice (some ⟨b, off, none⟩) (n + 1) c] w fun e w' => e = .returned (.bool false) ∧ ∃ q, w' = w.drewN q := by
  obtain ⟨b', o', e, _, hc⟩ := rdI_row hr (by omega)
  cases e
  have HC := Lib.hid (fun i (hi : i ≤ n) => hc i (by omega))
  have HR := Lib.hid h
  have HD := Lib.hid hd
  clear hr hc h hn hd
  go_enter Try.func29, Try.ntmps29
  go_wp2_with fail
  go_loopw [3] (fun i wr => ∃ k : Nat, k ≤ m ∧ i = .int .i64 (k + 1 : Nat) ∧ ∃ q, wr = w.drewN q) (fun i _ => n + 1 - (intOf i).toNat)
  case atStart => exact ⟨0, by omega, rfl, 0, rfl⟩
  case round =>
    obtain ⟨j, hj, rfl, q, rfl⟩ := hrel
    have hjn : j < n := by omega
    have c1 := HC.out (j + 1) (by omega)
    have c2 := HC.out j (by omega)
    have i1 : (j : Int) + 1 < (n : Int) + 1 := by omega
    have i2 : (0 : Int) ≤ (j : Int) + 1 := by omega
    have i3 : ((j : Int) + 1).toNat = j + 1 := by omega
    have i4 : j + 1 < n + 1 := by omega
    have i5 : j < n + 1 := by omega
    have i6 : (j : Int) < (n : Int) + 1 := by omega
    have w1 : IntKind.i64.wrap (j : Int) = j := IntWalk.i64_in _ (by omega)
    by_cases h : j < m
    · have hle := HR.out j h
      have hnl : decide (zat zs (j + 1) < zat zs j) = false := decide_eq_false (by omega)
      go_wp2_with fail
      go_quiet (fail)
      go_wp2_with fail
      go_roundw
      case rel => exact ⟨j + 1, by omega, by go_num, q + nq, by first | rfl | rw [World.drewN_drewN]⟩
      case measure => simp [intOf]; omega
    · obtain rfl : j = m := by omega
      have hle := HD.out
      go_wp2_with fail
      go_quiet (fail)
      go_wp2_with fail
      go_ret
      exact ⟨rfl, q + nq, by first | rfl | rw [World.drewN_drewN]⟩
theorem first_fall {zs : List Int} {n : Nat} (hn : zs.length = n + 1) (h : ¬ Rise zs) : ∃ m, m < n ∧ zat zs (m + 1) < zat zs m ∧ ∀ i, i < m → zat zs i ≤ zat zs (i + 1) := by
  obtain ⟨i, hi, hlt⟩ := not_rise h
  have : ∀ j, j < n → zat zs (j + 1) < zat zs j → ∃ m, m < n ∧ zat zs (m + 1) < zat zs m ∧ ∀ i, i < m → zat zs i ≤ zat zs (i + 1) := by
    intro j
    induction j using Nat.strongRecOn with
    | ind j ih =>
      intro hj hl
      by_cases hc : ∃ q, q < j ∧ zat zs (q + 1) < zat zs q
      · obtain ⟨q, h1, h3⟩ := hc
        exact ih q h1 (by omega) h3
      · exact ⟨j, hj, hl, fun i h1 => Int.not_lt.1 fun e => hc ⟨i, h1, e⟩⟩
  exact this i (by omega) hlt
theorem rright_any (A : Option Addr) (c : Nat) (zs : List Int) (w : World) (hr : RdI w .u64 A zs) (hl : zs.length ≤ 1000) :
    Calls Try.prog 29 #[.slice A zs.length c] w fun e w' => e = .returned (.bool (rightV zs)) ∧ ∃ q, w' = w.drewN q := by
  by_cases h0 : zs.length = 0
  · rw [rightV_none h0, h0]; exact rright_none A c w
  · obtain ⟨b, off, rfl, _⟩ := rdI_row hr (by omega)
    obtain ⟨n, hn⟩ : ∃ n, zs.length = n + 1 := ⟨zs.length - 1, by omega⟩
    rw [hn]
    by_cases h : Rise zs
    · by_cases h1 : zat zs n = 4294967296
      · rw [rightV_yes hn h h1]; exact rright_yes b off c n zs w hr hn (by omega) h true (by rw [beq_iff_eq]; exact h1)
      · rw [rightV_last hn h1]; exact rright_yes b off c n zs w hr hn (by omega) h false (by rw [beq_eq_false_iff_ne]; exact h1)
    · obtain ⟨m, hm, hd, hb⟩ := first_fall hn h
      rw [rightV_no h]; exact rright_no b off c n m zs w hr hn (by omega) hm hd hb
end Go.Proofs.Ytkepplkfjcoemab
