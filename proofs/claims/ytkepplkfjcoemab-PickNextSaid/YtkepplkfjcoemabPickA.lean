/- Contracts of pick.Total, at, Of and of the document's Total and Of. -/
import Derived.Test.YtkepplkfjcoemabRows
import Derived.Test.YtkepplkfjcoemabRowKit
import Derived.Test.YtkepplkfjcoemabSlicesEq
import Derived.Test.YtkepplkfjcoemabBlocks
import Derived.Test.YtkepplkfjcoemabWordsA
import Derived.Test.YtkepplkfjcoemabPickMath
import Derived.WalkKit
import Derived.IntWalk
import Derived.Lib.Hide
import Derived.WalkSpells
import Derived.WalkLawsBesides
import Derived.Deep.QuietTactic
import Derived.BigQuiet
namespace Go.Proofs.Ytkepplkfjcoemab
open Go.RowKit
set_option linter.unusedSimpArgs false
set_option linter.unusedVariables false
theorem wf_i64 {n : Int} (h : (Lit.int .i64 n).wf = true) : -9223372036854775808 ≤ n ∧ n ≤ 9223372036854775807 := bounds_i64 h
set_option maxHeartbeats 1000000 in
theorem total_neg (b off c : Nat) (zs : List Int) (w : World) (hr : RdI w .i64 (some ⟨b, off, none⟩) zs) (h0 : 0 < zs.length) (hl : zs.length ≤ 1000) (hn : ¬ NN zs) :
    Calls Try.prog 38 #[.slice (some ⟨b, off, none⟩) zs.length c] w fun e w' => e = .returned (.tuple #[.int .i64 (totV zs), .int .i64 (totE zs)]) ∧ w = w' := by
  obtain ⟨e1, e2⟩ := tot_neg hn
  rw [e1, e2]
  obtain ⟨m, hm, hneg, hbef⟩ := not_nn hn
  have HB := Lib.hid hbef
  clear e1 e2 hn hbef
  have WF : Hid (∀ i, i < zs.length → zat zs i ≤ 9223372036854775807) := Lib.hid fun i hi => by obtain ⟨_, _, _, _, hw⟩ := hr i hi; exact (wf_i64 hw).2
  obtain ⟨b', o', e, _, hc⟩ := rdI_row hr h0
  cases e
  have HC := Lib.hid hc
  clear hr hc
  go_enter Try.func38, Try.ntmps38
  go_wp2_with fail
  go_loop [11] (fun i => ∃ k : Nat, k ≤ m ∧ i = .int .i64 k) (fun i => zs.length - (intOf i).toNat)
  case atStart => exact ⟨0, by omega, rfl⟩
  case round =>
    obtain ⟨k, hk, rfl⟩ := hrel
    have hkl : k < zs.length := by omega
    have c1 := HC.out k hkl
    by_cases h : k < m
    · have hb := HB.out k h
      go_wp2_with fail
      go_round
      case rel => exact ⟨k + 1, by omega, by go_num⟩
      case measure => simp [intOf]; omega
    · obtain rfl : k = m := by omega
      go_wp2_with fail
      go_ret2
      exact ⟨rfl, rfl⟩
set_option maxHeartbeats 1000000 in
theorem total_none (A : Option Addr) (c : Nat) (w : World) (zs : List Int) (hz : zs.length = 0) :
    Calls Try.prog 38 #[.slice A 0 c] w fun e w' => e = .returned (.tuple #[.int .i64 (totV zs), .int .i64 (totE zs)]) ∧ w = w' := by
  have hn : NN zs := fun i hi => absurd hi (by omega)
  obtain ⟨e1, e2⟩ := tot_zero hn (by rw [hz]; rfl)
  rw [e1, e2]
  clear e1 e2 hn
  go_enter Try.func38, Try.ntmps38
  go_wp2_with fail
  go_loop [11] (fun i => i = .int .i64 0) (fun i => 0)
  case atStart => exact rfl
  case round =>
    obtain rfl := hrel
    go_wp2_with fail
    go_loop [6, 20] (fun s i => i = .int .i64 0 ∧ s = .int .i64 0) (fun _ i => 0)
    case atStart => exact ⟨rfl, rfl⟩
    case round =>
      obtain ⟨rfl, rfl⟩ := hrel
      go_wp2_with fail
      go_ret2
      exact ⟨rfl, rfl⟩
set_option maxHeartbeats 1000000 in
theorem total_big (b off c : Nat) (zs : List Int) (w : World) (hr : RdI w .i64 (some ⟨b, off, none⟩) zs) (h0 : 0 < zs.length) (hl : zs.length ≤ 1000) (hn : NN zs) (hb : 2147483648 < ps zs zs.length) :
    Calls Try.prog 38 #[.slice (some ⟨b, off, none⟩) zs.length c] w fun e w' => e = .returned (.tuple #[.int .i64 (totV zs), .int .i64 (totE zs)]) ∧ w = w' := by
  obtain ⟨e1, e2⟩ := tot_big hn hb
  rw [e1, e2]
  obtain ⟨m, hm, hbig, hbef⟩ := first_big 2147483648 (by omega) hb
  have PS := Lib.hid (fun j (hj : j ≤ m) => And.intro (ps_nonneg hn (show j ≤ zs.length by omega)) (hbef j hj))
  have HM := Lib.hid hbig
  clear e1 e2 hb hbig hbef
  have HN := Lib.hid hn
  have WF : Hid (∀ i, i < zs.length → zat zs i ≤ 9223372036854775807) := Lib.hid fun i hi => by obtain ⟨_, _, _, _, hw⟩ := hr i hi; exact (wf_i64 hw).2
  obtain ⟨b', o', e, _, hc⟩ := rdI_row hr h0
  cases e
  have HC := Lib.hid hc
  clear hr hc
  go_enter Try.func38, Try.ntmps38
  go_wp2_with fail
  go_loop [11] (fun i => ∃ k : Nat, k ≤ zs.length ∧ i = .int .i64 k) (fun i => zs.length - (intOf i).toNat)
  case atStart => exact ⟨0, by omega, rfl⟩
  case round =>
    obtain ⟨k, hk, rfl⟩ := hrel
    by_cases h : k < zs.length
    · have c1 := HC.out k h
      have hb := HN.out k h
      go_wp2_with fail
      go_round
      case rel => exact ⟨k + 1, by omega, by go_num⟩
      case measure => simp [intOf]; omega
    · obtain rfl : k = zs.length := by omega
      go_wp2_with fail
      go_loop [6, 20] (fun s i => ∃ k : Nat, k ≤ m ∧ i = .int .i64 k ∧ s = .int .i64 (ps zs k)) (fun _ i => zs.length - (intOf i).toNat)
      case atStart => exact ⟨0, by omega, rfl, rfl⟩
      case round =>
        obtain ⟨k, hk, rfl, rfl⟩ := hrel
        by_cases h : k < m
        · have h1 : k < zs.length := by omega
          have c1 := HC.out k h1
          have hb := HN.out k h1
          have hp0 := (PS.out k (by omega)).1
          have hp1 := (PS.out k (by omega)).2
          have e4 : zat zs k ≤ 2147483648 - ps zs k := by have := (PS.out (k + 1) (by omega)).2; rw [ps_succ] at this; omega
          have e5 : ¬ 2147483648 - ps zs k < zat zs k := by omega
          go_wp2_with fail
          go_round
          case rel => exact ⟨k + 1, by omega, by go_num, by first | rfl | rw [ps_succ]⟩
          case measure => simp [intOf]; omega
        · obtain rfl : k = m := by omega
          have c1 := HC.out k hm
          have hp0 := (PS.out k (by omega)).1
          have hp1 := (PS.out k (by omega)).2
          have e3 : 2147483648 - ps zs k < zat zs k := by have := HM.out; rw [ps_succ] at this; omega
          go_wp2_with fail
          go_ret2
          exact ⟨rfl, rfl⟩
set_option maxHeartbeats 1000000 in
theorem total_small (b off c : Nat) (zs : List Int) (w : World) (hr : RdI w .i64 (some ⟨b, off, none⟩) zs) (h0 : 0 < zs.length) (hl : zs.length ≤ 1000) (hn : NN zs) (hb : ps zs zs.length ≤ 2147483648) :
    Calls Try.prog 38 #[.slice (some ⟨b, off, none⟩) zs.length c] w fun e w' => e = .returned (.tuple #[.int .i64 (totV zs), .int .i64 (totE zs)]) ∧ w = w' := by
  have PS := Lib.hid (fun j (hj : j ≤ zs.length) => And.intro (ps_nonneg hn hj) (Int.le_trans (ps_mono hn hj (Nat.le_refl _)) hb))
  clear hb
  have HN := Lib.hid hn
  have WF : Hid (∀ i, i < zs.length → zat zs i ≤ 9223372036854775807) := Lib.hid fun i hi => by obtain ⟨_, _, _, _, hw⟩ := hr i hi; exact (wf_i64 hw).2
  obtain ⟨b', o', e, _, hc⟩ := rdI_row hr h0
  cases e
  have HC := Lib.hid hc
  clear hr hc
  go_enter Try.func38, Try.ntmps38
  go_wp2_with fail
  go_loop [11] (fun i => ∃ k : Nat, k ≤ zs.length ∧ i = .int .i64 k) (fun i => zs.length - (intOf i).toNat)
  case atStart => exact ⟨0, by omega, rfl⟩
  case round =>
    obtain ⟨k, hk, rfl⟩ := hrel
    by_cases h : k < zs.length
    · have c1 := HC.out k h
      have hb := HN.out k h
      go_wp2_with fail
      go_round
      case rel => exact ⟨k + 1, by omega, by go_num⟩
      case measure => simp [intOf]; omega
    · obtain rfl : k = zs.length := by omega
      go_wp2_with fail
      go_loop [6, 20] (fun s i => ∃ k : Nat, k ≤ zs.length ∧ i = .int .i64 k ∧ s = .int .i64 (ps zs k)) (fun _ i => zs.length - (intOf i).toNat)
      case atStart => exact ⟨0, by omega, rfl, rfl⟩
      case round =>
        obtain ⟨k, hk, rfl, rfl⟩ := hrel
        by_cases h1 : k < zs.length
        · have h := h1
          have c1 := HC.out k h1
          have hb := HN.out k h1
          have hp0 := (PS.out k (by omega)).1
          have hp1 := (PS.out k (by omega)).2
          have e4 : zat zs k ≤ 2147483648 - ps zs k := by have := (PS.out (k + 1) (by omega)).2; rw [ps_succ] at this; omega
          have e5 : ¬ 2147483648 - ps zs k < zat zs k := by omega
          go_wp2_with fail
          go_round
          case rel => exact ⟨k + 1, by omega, by go_num, by first | rfl | rw [ps_succ]⟩
          case measure => simp [intOf]; omega
        · obtain rfl : k = zs.length := by omega
          have hp0 := (PS.out zs.length (by omega)).1
          have hp1 := (PS.out zs.length (by omega)).2
          by_cases hz : ps zs zs.length = 0
          · have HZ := Lib.hid hz
            have hz' : (ps zs zs.length == 0) = true := by rw [hz]; rfl
            clear hz
            go_wp2_with fail
            go_ret2
            exact ⟨by rw [(tot_zero HN.out HZ.out).1, (tot_zero HN.out HZ.out).2]; rfl, rfl⟩
          · have hz' : (ps zs zs.length == 0) = false := by rw [beq_eq_false_iff_ne]; exact hz
            go_wp2_with fail
            go_ret2
            exact ⟨by rw [(tot_ok HN.out hp1 (by omega)).1, (tot_ok HN.out hp1 (by omega)).2]; rfl, rfl⟩
theorem total_any (A : Option Addr) (c : Nat) (zs : List Int) (w : World) (hr : RdI w .i64 A zs) (hl : zs.length ≤ 1000) :
    Calls Try.prog 38 #[.slice A zs.length c] w fun e w' => e = .returned (.tuple #[.int .i64 (totV zs), .int .i64 (totE zs)]) ∧ w = w' := by
  by_cases h0 : zs.length = 0
  · have := total_none A c w zs h0
    rwa [← h0] at this
  · obtain ⟨b, off, rfl, _⟩ := rdI_row hr (by omega)
    by_cases hn : NN zs
    · by_cases hb : 2147483648 < ps zs zs.length
      · exact total_big b off c zs w hr (by omega) hl hn hb
      · exact total_small b off c zs w hr (by omega) hl hn (by omega)
    · exact total_neg b off c zs w hr (by omega) hl hn
set_option maxHeartbeats 1000000 in
theorem rtotal_neg (b off c : Nat) (zs : List Int) (w : World) (hr : RdI w .i64 (some ⟨b, off, none⟩) zs) (h0 : 0 < zs.length) (hl : zs.length ≤ 1000) (hn : ¬ NN zs) :
    Calls Try.prog 39 #[.slice (some ⟨b, off, none⟩) zs.length c] w fun e w' => e = .returned (.tuple #[.int .i64 (totV zs), .int .i64 (totE zs)]) ∧ w = w' := by
  obtain ⟨e1, e2⟩ := tot_neg hn
  rw [e1, e2]
  obtain ⟨m, hm, hneg, hbef⟩ := not_nn hn
  have HB := Lib.hid hbef
  clear e1 e2 hn hbef
  have WF : Hid (∀ i, i < zs.length → zat zs i ≤ 9223372036854775807) := Lib.hid fun i hi => by obtain ⟨_, _, _, _, hw⟩ := hr i hi; exact (wf_i64 hw).2
  obtain ⟨b', o', e, _, hc⟩ := rdI_row hr h0
  cases e
  have HC := Lib.hid hc
  clear hr hc
  go_enter Try.func39, Try.ntmps39
  go_wp2_with fail
  go_loop [5] (fun i => ∃ k : Nat, k ≤ m ∧ i = .int .i64 k) (fun i => zs.length - (intOf i).toNat)
  case atStart => exact ⟨0, by omega, rfl⟩
  case round =>
    obtain ⟨k, hk, rfl⟩ := hrel
    have hkl : k < zs.length := by omega
    have c1 := HC.out k hkl
    by_cases h : k < m
    · have hb := HB.out k h
      go_wp2_with fail
      go_round
      case rel => exact ⟨k + 1, by omega, by go_num⟩
      case measure => simp [intOf]; omega
    · obtain rfl : k = m := by omega
      go_wp2_with fail
      go_ret2
      exact ⟨rfl, rfl⟩
set_option maxHeartbeats 1000000 in
theorem rtotal_none (A : Option Addr) (c : Nat) (w : World) (zs : List Int) (hz : zs.length = 0) :
    Calls Try.prog 39 #[.slice A 0 c] w fun e w' => e = .returned (.tuple #[.int .i64 (totV zs), .int .i64 (totE zs)]) ∧ w = w' := by
  have hn : NN zs := fun i hi => absurd hi (by omega)
  obtain ⟨e1, e2⟩ := tot_zero hn (by rw [hz]; rfl)
  rw [e1, e2]
  clear e1 e2 hn
  go_enter Try.func39, Try.ntmps39
  go_wp2_with fail
  go_loop [5] (fun i => i = .int .i64 0) (fun i => 0)
  case atStart => exact rfl
  case round =>
    obtain rfl := hrel
    go_wp2_with fail
    go_loop [4, 6] (fun s i => i = .int .i64 0 ∧ s = .int .u64 0) (fun _ i => 0)
    case atStart => exact ⟨rfl, rfl⟩
    case round =>
      obtain ⟨rfl, rfl⟩ := hrel
      go_wp2_with fail
      go_ret2
      exact ⟨rfl, rfl⟩
set_option maxHeartbeats 1000000 in
theorem rtotal_big (b off c : Nat) (zs : List Int) (w : World) (hr : RdI w .i64 (some ⟨b, off, none⟩) zs) (h0 : 0 < zs.length) (hl : zs.length ≤ 1000) (hn : NN zs) (hb : 2147483648 < ps zs zs.length) :
    Calls Try.prog 39 #[.slice (some ⟨b, off, none⟩) zs.length c] w fun e w' => e = .returned (.tuple #[.int .i64 (totV zs), .int .i64 (totE zs)]) ∧ w = w' := by
  obtain ⟨e1, e2⟩ := tot_big hn hb
  rw [e1, e2]
  obtain ⟨m, hm, hbig, hbef⟩ := first_big 2147483648 (by omega) hb
  have PS := Lib.hid (fun j (hj : j ≤ m) => And.intro (ps_nonneg hn (show j ≤ zs.length by omega)) (hbef j hj))
  have HM := Lib.hid hbig
  clear e1 e2 hb hbig hbef
  have HN := Lib.hid hn
  have WF : Hid (∀ i, i < zs.length → zat zs i ≤ 9223372036854775807) := Lib.hid fun i hi => by obtain ⟨_, _, _, _, hw⟩ := hr i hi; exact (wf_i64 hw).2
  obtain ⟨b', o', e, _, hc⟩ := rdI_row hr h0
  cases e
  have HC := Lib.hid hc
  clear hr hc
  go_enter Try.func39, Try.ntmps39
  go_wp2_with fail
  go_loop [5] (fun i => ∃ k : Nat, k ≤ zs.length ∧ i = .int .i64 k) (fun i => zs.length - (intOf i).toNat)
  case atStart => exact ⟨0, by omega, rfl⟩
  case round =>
    obtain ⟨k, hk, rfl⟩ := hrel
    by_cases h : k < zs.length
    · have c1 := HC.out k h
      have hb := HN.out k h
      go_wp2_with fail
      go_round
      case rel => exact ⟨k + 1, by omega, by go_num⟩
      case measure => simp [intOf]; omega
    · obtain rfl : k = zs.length := by omega
      go_wp2_with fail
      go_loop [4, 6] (fun s i => ∃ k : Nat, k ≤ m + 1 ∧ i = .int .i64 k ∧ s = .int .u64 (ps zs k)) (fun _ i => zs.length - (intOf i).toNat)
      case atStart => exact ⟨0, by omega, rfl, rfl⟩
      case round =>
        obtain ⟨k, hk, rfl, rfl⟩ := hrel
        by_cases h : k < m + 1
        · have h1 : k < zs.length := by omega
          have c1 := HC.out k h1
          have hb := HN.out k h1
          have hwf := WF.out k h1
          have hp0 := (PS.out k (by omega)).1
          have hp1 := (PS.out k (by omega)).2
          go_wp2_with fail
          go_round
          case rel => exact ⟨k + 1, by omega, by go_num, by first | rfl | rw [ps_succ]⟩
          case measure => simp [intOf]; omega
        · obtain rfl : k = m + 1 := by omega
          have e3 : 2147483648 < ps zs (m + 1) := HM.out
          have e4 : ¬ ps zs (m + 1) ≤ 2147483648 := by omega
          have e5 : ps zs (m + 1) ≤ 18446744073709551615 := by have := (PS.out m (by omega)).2; have := WF.out m hm; rw [ps_succ]; omega
          go_wp2_with fail
          all_goals
            go_ret2
            exact ⟨rfl, rfl⟩
set_option maxHeartbeats 1000000 in
theorem rtotal_small (b off c : Nat) (zs : List Int) (w : World) (hr : RdI w .i64 (some ⟨b, off, none⟩) zs) (h0 : 0 < zs.length) (hl : zs.length ≤ 1000) (hn : NN zs) (hb : ps zs zs.length ≤ 2147483648) :
    Calls Try.prog 39 #[.slice (some ⟨b, off, none⟩) zs.length c] w fun e w' => e = .returned (.tuple #[.int .i64 (totV zs), .int .i64 (totE zs)]) ∧ w = w' := by
  have PS := Lib.hid (fun j (hj : j ≤ zs.length) => And.intro (ps_nonneg hn hj) (Int.le_trans (ps_mono hn hj (Nat.le_refl _)) hb))
  clear hb
  have HN := Lib.hid hn
  have WF : Hid (∀ i, i < zs.length → zat zs i ≤ 9223372036854775807) := Lib.hid fun i hi => by obtain ⟨_, _, _, _, hw⟩ := hr i hi; exact (wf_i64 hw).2
  obtain ⟨b', o', e, _, hc⟩ := rdI_row hr h0
  cases e
  have HC := Lib.hid hc
  clear hr hc
  go_enter Try.func39, Try.ntmps39
  go_wp2_with fail
  go_loop [5] (fun i => ∃ k : Nat, k ≤ zs.length ∧ i = .int .i64 k) (fun i => zs.length - (intOf i).toNat)
  case atStart => exact ⟨0, by omega, rfl⟩
  case round =>
    obtain ⟨k, hk, rfl⟩ := hrel
    by_cases h : k < zs.length
    · have c1 := HC.out k h
      have hb := HN.out k h
      go_wp2_with fail
      go_round
      case rel => exact ⟨k + 1, by omega, by go_num⟩
      case measure => simp [intOf]; omega
    · obtain rfl : k = zs.length := by omega
      go_wp2_with fail
      go_loop [4, 6] (fun s i => ∃ k : Nat, k ≤ zs.length ∧ i = .int .i64 k ∧ s = .int .u64 (ps zs k)) (fun _ i => zs.length - (intOf i).toNat)
      case atStart => exact ⟨0, by omega, rfl, rfl⟩
      case round =>
        obtain ⟨k, hk, rfl, rfl⟩ := hrel
        by_cases h1 : k < zs.length
        · have h := h1
          have c1 := HC.out k h1
          have hb := HN.out k h1
          have hwf := WF.out k h1
          have hp0 := (PS.out k (by omega)).1
          have hp1 := (PS.out k (by omega)).2
          go_wp2_with fail
          go_round
          case rel => exact ⟨k + 1, by omega, by go_num, by first | rfl | rw [ps_succ]⟩
          case measure => simp [intOf]; omega
        · obtain rfl : k = zs.length := by omega
          have hp0 := (PS.out zs.length (by omega)).1
          have hp1 := (PS.out zs.length (by omega)).2
          by_cases hz : ps zs zs.length = 0
          · have HZ := Lib.hid hz
            have hz' : (ps zs zs.length == 0) = true := by rw [hz]; rfl
            clear hz
            go_wp2_with fail
            go_ret2
            exact ⟨by rw [(tot_zero HN.out HZ.out).1, (tot_zero HN.out HZ.out).2]; rfl, rfl⟩
          · have hz' : (ps zs zs.length == 0) = false := by rw [beq_eq_false_iff_ne]; exact hz
            go_wp2_with fail
            go_ret2
            exact ⟨by rw [(tot_ok HN.out hp1 (by omega)).1, (tot_ok HN.out hp1 (by omega)).2]; rfl, rfl⟩
theorem rtotal_any (A : Option Addr) (c : Nat) (zs : List Int) (w : World) (hr : RdI w .i64 A zs) (hl : zs.length ≤ 1000) :
    Calls Try.prog 39 #[.slice A zs.length c] w fun e w' => e = .returned (.tuple #[.int .i64 (totV zs), .int .i64 (totE zs)]) ∧ w = w' := by
  by_cases h0 : zs.length = 0
  · have := rtotal_none A c w zs h0
    rwa [← h0] at this
  · obtain ⟨b, off, rfl, _⟩ := rdI_row hr (by omega)
    by_cases hn : NN zs
    · by_cases hb : 2147483648 < ps zs zs.length
      · exact rtotal_big b off c zs w hr (by omega) hl hn hb
      · exact rtotal_small b off c zs w hr (by omega) hl hn (by omega)
    · exact rtotal_neg b off c zs w hr (by omega) hl hn
set_option maxHeartbeats 1000000 in
theorem at_pick (b off c : Nat) (zs : List Int) (n : Int) (m : Nat) (w : World) (hr : RdI w .i64 (some ⟨b, off, none⟩) zs) (hl : zs.length ≤ 1000) (hn : NN zs) (hm : AtP zs n m) (n0 : 0 ≤ n) (n1 : n ≤ 4294967295) :
    Calls Try.prog 66 #[.int .u32 n, .slice (some ⟨b, off, none⟩) zs.length c] w fun e w' => e = .returned (.int .i64 m) ∧ w = w' := by
  have hml := hm.1
  have PS := Lib.hid (fun j (hj : j ≤ m) => ps_nonneg hn (show j ≤ zs.length by omega))
  have AT := Lib.hid (fun j (hj : j < m) => atP_below hn hm hj)
  have AM := Lib.hid hm
  have HN := Lib.hid hn
  obtain ⟨b', o', e, _, hc⟩ := rdI_row hr (by omega)
  cases e
  have HC := Lib.hid hc
  clear hr hc hm hn
  go_enter Try.func66, Try.ntmps66
  go_wp2_with fail
  go_loop [5, 6] (fun s i => ∃ k : Nat, k ≤ m ∧ i = .int .i64 k ∧ s = .int .i64 (n - ps zs k)) (fun _ i => zs.length - (intOf i).toNat)
  case atStart => exact ⟨0, by omega, rfl, by rw [ps_zero, Int.sub_zero]⟩
  case round =>
    obtain ⟨k, hk, rfl, rfl⟩ := hrel
    have hkl : k < zs.length := by omega
    have c1 := HC.out k hkl
    have hb := HN.out k hkl
    have hp0 := PS.out k hk
    by_cases h : k < m
    · have e1 : zat zs k ≤ n - ps zs k := by have := AT.out k h; rw [ps_succ] at this; omega
      go_wp2_with fail
      go_round
      case rel => exact ⟨k + 1, by omega, by go_num, by rw [ps_succ]; congr 1; omega⟩
      case measure => simp [intOf]; omega
    · obtain rfl : k = m := by omega
      have e1 : ¬ zat zs k ≤ n - ps zs k := by have := AM.out.2.2; rw [ps_succ] at this; omega
      have e2 : 0 ≤ n - ps zs k := by have := AM.out.2.1; omega
      go_wp2_with fail
      go_ret
      exact ⟨rfl, rfl⟩
theorem scaled {v T : Int} (hv : 0 ≤ v) (hv' : v ≤ 4294967295) (hT : 0 < T) : 0 ≤ v * T / 4294967296 ∧ v * T / 4294967296 < T := by
  refine ⟨Int.ediv_nonneg (Int.mul_nonneg hv (by omega)) (by omega), Int.ediv_lt_of_lt_mul (by omega) ?_⟩
  have := Int.mul_le_mul_of_nonneg_right hv' (show 0 ≤ T by omega)
  omega
set_option maxHeartbeats 1000000 in
theorem of_bad (A : Option Addr) (c : Nat) (zs : List Int) (v : Int) (w : World) (hr : RdI w .i64 A zs) (hl : zs.length ≤ 1000) (he : totE zs ≠ 0) :
    Calls Try.prog 40 #[.int .u32 v, .slice A zs.length c] w fun e w' => e = .returned (.tuple #[.int .i64 0, .int .i64 (totE zs)]) ∧ w = w' := by
  have HT := Lib.hid (total_any A c zs w hr hl)
  have hne : (totE zs != 0) = true := by rw [bne_iff_ne]; exact he
  clear hr he
  go_enter Try.func40, Try.ntmps40
  go_wp2_with (go_at_call 38; refine HT.out.mono ?_; rintro e w' ⟨rfl, rfl⟩)
  go_ret2
  exact ⟨rfl, rfl⟩
set_option maxHeartbeats 1000000 in
theorem of_may (A : Option Addr) (c : Nat) (zs : List Int) (v : Int) (m : Nat) (w : World) (hr : RdI w .i64 A zs) (hl : zs.length ≤ 1000) (hM : May zs) (hv : 0 ≤ v) (hv' : v ≤ 4294967295) (hm : AtP zs (v * ps zs zs.length / 4294967296) m) :
    Calls Try.prog 40 #[.int .u32 v, .slice A zs.length c] w fun e w' => e = .returned (.tuple #[.int .i64 m, .int .i64 0]) ∧ w = w' := by
  have HT := total_any A c zs w hr hl
  obtain ⟨e1, e2⟩ := tot_ok hM.1 hM.2.1 hM.2.2
  rw [e1, e2] at HT
  have HT := Lib.hid HT
  obtain ⟨b, off, rfl, _⟩ := rdI_row hr (by have := hm.1; omega)
  obtain ⟨T, hT⟩ : ∃ T, ps zs zs.length = T := ⟨_, rfl⟩
  have t0 := hM.2.2
  have t1 := hM.2.1
  have HA := at_pick b off c zs _ m w hr hl hM.1 hm
  rw [hT] at t0 t1 HT HA
  obtain ⟨s0, s1⟩ := scaled hv hv' t0
  have HA := Lib.hid (HA s0 (by omega))
  have HS := Lib.hid (scale_any v T w hv hv' (by omega) (by omega))
  clear hr hM hm e1 e2 hT s0 s1
  go_enter Try.func40, Try.ntmps40
  go_wp2_with (first
    | (go_at_call 38; refine HT.out.mono ?_; rintro e w' ⟨rfl, rfl⟩)
    | (go_at_call 67; refine HS.out.mono ?_; rintro e w' ⟨rfl, rfl⟩)
    | (go_at_call 66; refine HA.out.mono ?_; rintro e w' ⟨rfl, rfl⟩))
  go_ret2
  exact ⟨rfl, rfl⟩
set_option maxHeartbeats 1000000 in
theorem rof_bad (A : Option Addr) (c : Nat) (zs : List Int) (v : Int) (w : World) (hr : RdI w .i64 A zs) (hl : zs.length ≤ 1000) (he : totE zs ≠ 0) :
    Calls Try.prog 41 #[.int .u32 v, .slice A zs.length c] w fun e w' => e = .returned (.tuple #[.int .i64 0, .int .i64 (totE zs)]) ∧ w = w' := by
  have HT := Lib.hid (rtotal_any A c zs w hr hl)
  have hne : (totE zs != 0) = true := by rw [bne_iff_ne]; exact he
  clear hr he
  go_enter Try.func41, Try.ntmps41
  go_wp2_with (go_at_call 39; refine HT.out.mono ?_; rintro e w' ⟨rfl, rfl⟩)
  go_ret2
  exact ⟨rfl, rfl⟩
set_option maxHeartbeats 1000000 in
theorem rof_may (A : Option Addr) (c : Nat) (zs : List Int) (v : Int) (m : Nat) (w : World) (hr : RdI w .i64 A zs) (hl : zs.length ≤ 1000) (hM : May zs) (hv : 0 ≤ v) (hv' : v ≤ 4294967295) (hm : AtP zs (v * ps zs zs.length / 4294967296) m) :
    Calls Try.prog 41 #[.int .u32 v, .slice A zs.length c] w fun e w' => e = .returned (.tuple #[.int .i64 m, .int .i64 0]) ∧ w = w' := by
  have HT := rtotal_any A c zs w hr hl
  obtain ⟨e1, e2⟩ := tot_ok hM.1 hM.2.1 hM.2.2
  rw [e1, e2] at HT
  have HT := Lib.hid HT
  have hml := hm.1
  obtain ⟨b, off, rfl, _, hc⟩ := rdI_row hr (by omega)
  have WF : Hid (∀ i, i < zs.length → zat zs i ≤ 9223372036854775807) := Lib.hid fun i hi => by obtain ⟨_, _, _, _, hw⟩ := hr i hi; exact (wf_i64 hw).2
  have HC := Lib.hid hc
  have HN := Lib.hid hM.1
  have PS := Lib.hid (fun j (hj : j ≤ zs.length) => And.intro (ps_nonneg hM.1 hj) (Int.le_trans (ps_mono hM.1 hj (Nat.le_refl _)) hM.2.1))
  have AT := Lib.hid (fun j (hj : j < m) => atP_below hM.1 hm hj)
  have AM := Lib.hid hm.2.2
  obtain ⟨T, hT⟩ : ∃ T, ps zs zs.length = T := ⟨_, rfl⟩
  have t0 := hM.2.2
  have t1 := hM.2.1
  rw [hT] at t0 t1 HT AT AM
  obtain ⟨s0, s1⟩ := scaled hv hv' t0
  obtain ⟨q0, q1⟩ := scale_bd hv hv' (show 0 ≤ T by omega) (show T ≤ 4294967295 by omega)
  obtain ⟨n, hn⟩ : ∃ n, v * T / 4294967296 = n := ⟨_, rfl⟩
  rw [hn] at s0 s1 AT AM
  clear hr hM hm e1 e2 hT hc
  go_enter Try.func41, Try.ntmps41
  go_wp2_with (go_at_call 39; refine HT.out.mono ?_; rintro e w' ⟨rfl, rfl⟩)
  try rw [hn]
  go_loop [9, 10] (fun s i => ∃ k : Nat, k ≤ m ∧ i = .int .i64 k ∧ s = .int .i64 (ps zs k)) (fun _ i => zs.length - (intOf i).toNat)
  case atStart => exact ⟨0, by omega, rfl, rfl⟩
  case round =>
    obtain ⟨k, hk, rfl, rfl⟩ := hrel
    have hkl : k < zs.length := by omega
    have c1 := HC.out k hkl
    have hp0 := (PS.out k (by omega)).1
    have hp1 := (PS.out k (by omega)).2
    have hq0 : 0 ≤ ps zs k + zat zs k := by have := (PS.out (k + 1) (by omega)).1; rw [ps_succ] at this; exact this
    have hq1 : ps zs k + zat zs k ≤ 2147483648 := by have := (PS.out (k + 1) (by omega)).2; rw [ps_succ] at this; exact this
    by_cases h : k < m
    · have e1 : ¬ n < ps zs k + zat zs k := by have := AT.out k h; rw [ps_succ] at this; omega
      clear hn
      go_wp2_with fail
      go_round
      case rel => exact ⟨k + 1, by omega, by go_num, by first | rfl | rw [ps_succ]⟩
      case measure => simp [intOf]; omega
    · obtain rfl : k = m := by omega
      have e1 : n < ps zs k + zat zs k := by have := AM.out; rw [ps_succ] at this; omega
      clear hn
      go_wp2_with fail
      go_ret2
      exact ⟨rfl, rfl⟩
end Go.Proofs.Ytkepplkfjcoemab
