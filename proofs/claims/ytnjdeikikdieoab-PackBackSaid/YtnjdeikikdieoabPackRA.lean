/- pack.first, pack.Read, pack.Make at any bytes. -/
import Derived.Test.YtnjdeikikdieoabPackE
import Derived.Test.YtnjdeikikdieoabPackRM
import Derived.WalkKit
import Derived.Deep.QuietTactic
import Derived.Lib.Hide
import Derived.Lib.SmallJoins
import Derived.WalkSpells
import Derived.WalkLawsBesides
import Derived.IntWalk
namespace Go.Proofs.Ytnjdeikikdieoab
open Go.RowKit
set_option linter.unusedVariables false
set_option linter.unusedSimpArgs false
theorem pow_ten {k : Nat} (h : k < 10) : 128 ^ k * 2 ≤ 18446744073709551616 := by
  have h1 : 128 ^ k ≤ 128 ^ 9 := Nat.pow_le_pow_right (by decide) (by omega)
  have h3 : (128 : Nat) ^ 9 = 9223372036854775808 := by decide
  omega
theorem pow_two (k : Nat) : (2 : Int) ^ (7 * (k : Int)).toNat = ((128 ^ k : Nat) : Int) := by
  have : (7 * (k : Int)).toNat = 7 * k := by omega
  rw [this]
  have h : (128 : Nat) ^ k = 2 ^ (7 * k) := by rw [Nat.pow_mul]
  rw [h]
  simp
theorem acc_fits {k acc q : Nat} (hk : k < 10) (ha : acc < 128 ^ k) (hq : q * 128 ^ k < 18446744073709551616) : acc + q * 128 ^ k < 18446744073709551616 := by
  have hd : 18446744073709551616 = 128 ^ k * (18446744073709551616 / 128 ^ k) := by
    have : ∀ j, j < 10 → 18446744073709551616 = 128 ^ j * (18446744073709551616 / 128 ^ j) := by decide +kernel
    exact this k hk
  obtain ⟨d, hd2⟩ : ∃ d, 18446744073709551616 / 128 ^ k = d := ⟨_, rfl⟩
  rw [hd2] at hd
  rw [hd] at hq ⊢
  rw [Nat.mul_comm q] at hq ⊢
  have h1 : q < d := Nat.lt_of_mul_lt_mul_left hq
  have h2 : 128 ^ k * (q + 1) ≤ 128 ^ k * d := Nat.mul_le_mul_left _ h1
  rw [Nat.mul_add] at h2
  omega
set_option maxRecDepth 100000 in
set_option maxHeartbeats 4000000 in
theorem pfirst_any (A : Option Addr) (cp : Nat) (zs : List Int) (w : World) (hr : RdI w .u8 A zs) (hl : zs.length ≤ 1000000) (hcp : zs.length ≤ cp) (hcm : cp ≤ maxLen) :
    Calls Try.prog 43 #[.slice A zs.length cp] w fun e w' => e = .returned (.tuple #[.int .u64 ((numB zs).1 : Nat), .int .i64 ((numB zs).2 : Nat)]) ∧ w = w' := by
  have H := Lib.hid (psize_any 18446744073709551615 w (by decide))
  have L : (putB 18446744073709551615).length = 10 := by
    rw [← size_len 9 18446744073709551615 (by decide) (by decide)]; decide +kernel
  rw [L] at H
  have H := Lib.hid H.out
  clear L
  have hM : maxLen ≤ 9223372036854775807 := by decide
  have hin := Lib.hid (rd_in hr)
  have HR := Lib.hid hr
  clear hr
  obtain ⟨F, hF⟩ : ∃ F, numB zs = F := ⟨_, rfl⟩
  have HF := Lib.hid hF
  rw [hF]
  clear hF
  obtain ⟨n, hn⟩ : ∃ n, zs.length = n := ⟨_, rfl⟩
  have HN := Lib.hid hn
  rw [hn] at hl hcp ⊢
  clear hn
  obtain ⟨L, hL, hL1, hL2⟩ : ∃ L, min n 10 = L ∧ L ≤ n ∧ L ≤ 10 := ⟨_, rfl, by omega, by omega⟩
  have HL := Lib.hid hL
  have hmin : min (n : Int) 10 = (L : Int) := by omega
  have hmax : max (L : Int) 0 = (L : Int) := by omega
  clear hL
  go_enter Try.func43, Try.ntmps43
  go_wp2_with (go_at_call 57; refine H.out.mono ?_; rintro e w' ⟨rfl, rfl⟩)
  go_loop [4, 16] (fun a i => ∃ (k acc : Nat), k ≤ L ∧ a = .int .u64 acc ∧ i = .int .i64 k ∧ Hid (PartB zs k acc)) (fun _ i => L - (intOf i).toNat)
  case atStart => exact ⟨0, 0, by omega, rfl, rfl, Lib.hid (partB_start zs)⟩
  case round =>
    obtain ⟨k, acc, hk, rfl, rfl, HP⟩ := hrel
    by_cases h : k < L
    · skip
      obtain ⟨b, o, rfl, _, hcell⟩ := rdI_row HR.out (by rw [HN.out]; omega)
      have hkz : k < zs.length := by rw [HN.out]; omega
      have c0 := hcell k hkz
      have hb := hin.out (zat zs k) (by unfold zat; rw [List.getD_eq_getElem?_getD, List.getElem?_eq_getElem hkz]; exact List.getElem_mem hkz)
      obtain ⟨c, hc⟩ : ∃ c : Nat, zat zs k = (c : Int) := ⟨(zat zs k).toNat, by omega⟩
      rw [hc] at c0 hb
      clear hcell
      have HC := Lib.hid hc
      have HK := Lib.hid hkz
      clear hc hkz
      have hk10 : k < 10 := by omega
      obtain ⟨q, hq⟩ : ∃ q, c % 128 = q := ⟨_, rfl⟩
      have hq1 : q < 128 := by omega
      have t1 : ((c : Int)).tmod 128 = (q : Int) := by rw [Int.tmod_eq_emod_of_nonneg (by omega)]; omega
      have w8 : IntKind.u8.wrap (q : Int) = q := by rw [IntKind.wrap_u8]; omega
      have w64 : IntKind.u64.wrap (q : Int) = q := by rw [IntKind.wrap_u64]; omega
      have p2 := pow_two k
      obtain ⟨p, hp⟩ : ∃ p, 128 ^ k = p := ⟨_, rfl⟩
      have hp0 : 0 < p := by rw [← hp]; exact Nat.pow_pos (by decide)
      rw [hp] at p2
      have HQ := Lib.hid hq
      have HPP := Lib.hid hp
      clear hq hp
      by_cases hov : q * p < 18446744073709551616
      · skip
        have ms : IntKind.u64.wrap ((q : Int) * (p : Int)) = ((q * p : Nat) : Int) := by rw [IntKind.wrap_u64]; omega
        have md : ((q * p : Nat) : Int) / (p : Int) = (q : Int) := by
          rw [← Int.natCast_ediv, Nat.mul_div_cancel _ hp0]
        obtain ⟨s, hs⟩ : ∃ s, q * p = s := ⟨_, rfl⟩
        rw [hs] at ms md hov
        have HS := Lib.hid hs
        clear hs
        have hfit : acc + s < 18446744073709551616 := by
          have := acc_fits (q := q) hk10 HP.out.1 (by rw [HPP.out, HS.out]; exact hov)
          rwa [HPP.out, HS.out] at this
        have wa : IntKind.u64.wrap ((acc : Int) + (s : Int)) = ((acc + s : Nat) : Int) := by rw [IntKind.wrap_u64]; omega
        by_cases hlo : c < 128
        · by_cases hz : c = 0 ∧ 0 < k
          · obtain ⟨rfl, hk0⟩ := hz
            obtain rfl : F = (0, 0) := by rw [← HF.out]; exact partB_zero HP.out HK.out HC.out hk0
            go_wp2_with fail
            go_ret2
            exact ⟨rfl, rfl⟩
          · obtain rfl : F = (acc + s, k + 1) := by
              rw [← HF.out, ← HS.out, ← HQ.out, ← HPP.out]
              have e : c % 128 = c := by omega
              rw [e]
              refine partB_last HP.out HK.out HC.out hlo hz ?_
              rw [← e, HQ.out, HPP.out, HS.out]; exact hfit
            by_cases hz0 : c = 0
            · have hz1 : ((c : Int) == 0) = true := by simp [hz0]
              have hk0 : ¬ (0 : Int) < (k : Int) := by omega
              clear hz0 hz
              go_wp2_with fail
              go_ret2
              exact ⟨rfl, rfl⟩
            · have hz1 : ((c : Int) == 0) = false := by rw [beq_eq_false_iff_ne]; omega
              go_wp2_with fail
              go_ret2
              exact ⟨rfl, rfl⟩
        · have hz1 : ((c : Int) == 0) = false := by rw [beq_eq_false_iff_ne]; omega
          have HP2 : Hid (PartB zs (k + 1) (acc + s)) := Lib.hid (by
            have := partB_next HP.out HK.out HC.out (by omega) (by omega)
            rwa [HQ.out, HPP.out, HS.out] at this)
          go_wp2_with fail
          go_round
          case rel => exact ⟨k + 1, acc + s, by omega, by first | rfl | go_num, by go_num, HP2⟩
          case measure => simp [intOf]; omega
      · obtain rfl : F = (0, 0) := by
          rw [← HF.out]
          exact partB_over HP.out HK.out HC.out (by omega) (by rw [HQ.out, HPP.out]; omega)
        obtain ⟨s, hs⟩ : ∃ s, IntKind.u64.wrap ((q : Int) * (p : Int)) = s := ⟨_, rfl⟩
        have hne : ((s / (p : Int)) == (q : Int)) = false := by
          rw [beq_eq_false_iff_ne]
          intro he
          rw [IntKind.wrap_u64] at hs
          have h1 : (p : Int) * (s / (p : Int)) ≤ s := Int.mul_ediv_self_le (by omega)
          rw [he, Int.mul_comm] at h1
          have h2 : ((q * p : Nat) : Int) = (q : Int) * (p : Int) := by simp
          omega
        have hne2 : ((s / (p : Int)) != (q : Int)) = true := by simp [bne, hne]
        go_wp2_with fail
        go_ret2
        exact ⟨rfl, rfl⟩
    · obtain rfl : F = (0, 0) := by
        rw [← HF.out]
        by_cases h10 : 10 ≤ k
        · exact partB_ten HP.out h10
        · exact partB_end HP.out (by rw [HN.out]; have := HL.out; omega)
      go_wp2_with fail
      go_ret2
      exact ⟨rfl, rfl⟩
end Go.Proofs.Ytnjdeikikdieoab
