/- Parking: which weights may be; the nearest floor at which someone waits. -/
import Derived.Test.YtloplambpfjioaaRows
import Derived.Test.YtloplambpfjioaaRowKit
import Derived.Test.YtloplambpfjioaaRowS
import Derived.Test.YtloplambpfjioaaRowZ
import Derived.Test.YtloplambpfjioaaSlicesEq
import Derived.Test.YtloplambpfjioaaSlicesEqM
import Derived.Test.YtloplambpfjioaaRowL
import Derived.Test.YtloplambpfjioaaRowM
import Derived.Test.YtloplambpfjioaaMakeI
import Derived.Test.YtloplambpfjioaaBlocks
import Derived.Test.YtloplambpfjioaaParkOpt
import Derived.Test.YtloplambpfjioaaPlaceA
import Derived.Test.YtloplambpfjioaaShelf
import Derived.WalkKit
import Derived.IntWalk
import Derived.Lib.Hide
import Derived.WalkSpells
import Derived.WalkLawsBesides
import Derived.Laws.CopyOwn
import Derived.Laws.MakeOwn
import Derived.Laws.OwnMore
import Derived.OwnWalk
import Derived.Deep.QuietTactic
import Derived.BigQuiet
import Derived.Deep.RegionHeld3
import Derived.Deep.LoopGhost
import Derived.BigRegion
import Derived.Deep.AppendLies
import Derived.Maps.AppendAt
import Derived.Below
namespace Go.Proofs.Ytloplambpfjioaa
open Go.RowKit
set_option linter.unusedSimpArgs false
set_option linter.unusedVariables false
theorem max_of (zs : List Int) : ∀ k, 0 < k → k ≤ zs.length → (∀ i, i < k → zat zs i ≤ Lib.maxOf (zs.take k)) ∧ ∃ i, i < k ∧ zat zs i = Lib.maxOf (zs.take k)
  | 0, h, _ => absurd h (by omega)
  | 1, _, h => by
    rw [Lib.maxOf_one]
    exact ⟨fun i hi => by obtain rfl : i = 0 := by omega
                          exact Int.le_refl _, 0, by omega, rfl⟩
  | k + 2, _, h => by
    obtain ⟨h1, i, hi, he⟩ := max_of zs (k + 1) (by omega) (by omega)
    rw [Lib.maxOf_step zs (k + 1) (by omega) (by omega)]
    have ez : zs.getD (k + 1) 0 = zat zs (k + 1) := rfl
    rw [ez]
    refine ⟨fun j hj => ?_, ?_⟩
    · by_cases e : j = k + 1
      · rw [e]; omega
      · have := h1 j (by omega); omega
    · by_cases c : zat zs (k + 1) ≤ Lib.maxOf (zs.take (k + 1))
      · exact ⟨i, by omega, by omega⟩
      · exact ⟨k + 1, by omega, by omega⟩
theorem min_of (zs : List Int) : ∀ k, 0 < k → k ≤ zs.length → (∀ i, i < k → Lib.minOf (zs.take k) ≤ zat zs i) ∧ ∃ i, i < k ∧ zat zs i = Lib.minOf (zs.take k)
  | 0, h, _ => absurd h (by omega)
  | 1, _, h => by
    rw [Lib.minOf_one]
    exact ⟨fun i hi => by obtain rfl : i = 0 := by omega
                          exact Int.le_refl _, 0, by omega, rfl⟩
  | k + 2, _, h => by
    obtain ⟨h1, i, hi, he⟩ := min_of zs (k + 1) (by omega) (by omega)
    rw [Lib.minOf_step zs (k + 1) (by omega) (by omega)]
    have ez : zs.getD (k + 1) 0 = zat zs (k + 1) := rfl
    rw [ez]
    refine ⟨fun j hj => ?_, ?_⟩
    · by_cases e : j = k + 1
      · rw [e]; omega
      · have := h1 j (by omega); omega
    · by_cases c : Lib.minOf (zs.take (k + 1)) ≤ zat zs (k + 1)
      · exact ⟨i, by omega, by omega⟩
      · exact ⟨k + 1, by omega, by omega⟩
/-- may such weights be? -/
def RgP (zs : List Int) (n : Nat) : Prop := 1 ≤ n ∧ n ≤ 128 ∧ ∀ i, i < n → 0 ≤ zat zs i ∧ zat zs i ≤ 1048576
theorem pmax_any (A : Option Addr) (c n : Nat) (zs : List Int) (w : World) (hn : zs.length = n) (h0 : 0 < n) (h1 : n ≤ 1000) (hr : RdI w .i64 A zs) :
    Calls Try.prog 15 #[.slice A n c] w fun e w' => e = .returned (.int .i64 (Lib.maxOf (zs.take n))) ∧ w = w' := by
  obtain ⟨b, off, rfl, _, hc⟩ := rdI_row hr (by omega)
  refine (Try.slices_Max_int b off n c zs w h0 (by omega) (by omega) (fun j hj => hc j hj)).mono fun e w' h => ⟨h.1, h.2.symm⟩
theorem pmin_any (A : Option Addr) (c n : Nat) (zs : List Int) (w : World) (hn : zs.length = n) (h0 : 0 < n) (h1 : n ≤ 1000) (hr : RdI w .i64 A zs) :
    Calls Try.prog 14 #[.slice A n c] w fun e w' => e = .returned (.int .i64 (Lib.minOf (zs.take n))) ∧ w = w' := by
  obtain ⟨b, off, rfl, _, hc⟩ := rdI_row hr (by omega)
  refine (Try.slices_Min_int b off n c zs w h0 (by omega) (by omega) (fun j hj => hc j hj)).mono fun e w' h => ⟨h.1, h.2.symm⟩
def RtP (Q : Prop) (w : World) (e : Ending) (w' : World) : Prop := ∃ b, e = .returned (.bool b) ∧ (b = true ↔ Q) ∧ w = w'
set_option maxRecDepth 100000 in
set_option maxHeartbeats 4000000 in
theorem pright_any (A : Option Addr) (c n : Nat) (zs : List Int) (w : World) (hn : zs.length = n) (hl : n ≤ 9223372036854775807) (hr : RdI w .i64 A zs) :
    Calls Try.prog 13 #[.slice A n c] w (RtP (RgP zs n) w) := by
  have NO : (¬ RgP zs n) → Hid (∀ e, e = Ending.returned (.bool false) → RtP (RgP zs n) w e w) := fun h => Lib.hid fun e he => ⟨false, he, ⟨(fun h' => by cases h'), fun h' => absurd h' h⟩, rfl⟩
  have YES : RgP zs n → Hid (∀ e, e = Ending.returned (.bool true) → RtP (RgP zs n) w e w) := fun h => Lib.hid fun e he => ⟨true, he, ⟨fun _ => h, fun _ => rfl⟩, rfl⟩
  have D : n = 0 ∨ (0 < n ∧ 128 < n) ∨ (0 < n ∧ n ≤ 128) := by omega
  rcases D with h | ⟨h, h1⟩ | ⟨h, h1⟩
  · have F := NO (fun q => by have := q.1; omega)
    clear NO YES hr
    subst h
    go_enter Try.func13, Try.ntmps13
    go_wp2_with fail
    go_ret
    exact F.out _ rfl
  · have F := NO (fun q => by have := q.2.1; omega)
    have d0 : decide (1 ≤ (n : Int)) = true := decide_eq_true (by omega)
    have d1 : decide ((n : Int) ≤ 128) = false := decide_eq_false (by omega)
    have i0 : 1 ≤ (n : Int) := by omega
    have i1 : 128 < (n : Int) := by omega
    clear NO YES hr
    go_enter Try.func13, Try.ntmps13
    go_wp2_with fail
    go_ret
    exact F.out _ rfl
  · obtain ⟨mn1, i, hi, mn2⟩ := min_of zs n h (by omega)
    obtain ⟨mx1, j, hj, mx2⟩ := max_of zs n h (by omega)
    have JN := Lib.hid (pmin_any A c n zs w hn h (by omega) hr)
    have JX := Lib.hid (pmax_any A c n zs w hn h (by omega) hr)
    have d0 : decide (1 ≤ (n : Int)) = true := decide_eq_true (by omega)
    have d1 : decide ((n : Int) ≤ 128) = true := decide_eq_true (by omega)
    have i0 : 1 ≤ (n : Int) := by omega
    have i1 : (n : Int) ≤ 128 := by omega
    obtain ⟨mn, hmn⟩ : ∃ z, Lib.minOf (zs.take n) = z := ⟨_, rfl⟩
    obtain ⟨mx, hmx⟩ : ∃ z, Lib.maxOf (zs.take n) = z := ⟨_, rfl⟩
    rw [hmn] at JN mn1 mn2
    rw [hmx] at JX mx1 mx2
    by_cases c0 : mn < 0
    · have F := NO (fun q => by have := (q.2.2 i hi).1; omega)
      have d3 : decide (0 ≤ mn) = false := decide_eq_false (by omega)
      clear NO YES hr mn1 mn2 mx1 mx2 hmn hmx
      go_enter Try.func13, Try.ntmps13
      go_wp2_with fail
      refine JN.out.mono ?_
      rintro e w1 ⟨rfl, rfl⟩
      go_wp2_with fail
      go_ret
      exact F.out _ rfl
    · have d3 : decide (0 ≤ mn) = true := decide_eq_true (by omega)
      have c1 : 0 ≤ mn := by omega
      by_cases c2 : mx ≤ 1048576
      · have F := YES ⟨by omega, h1, fun q hq => by have := mn1 q hq; have := mx1 q hq; omega⟩
        have d4 : decide (mx ≤ 1048576) = true := decide_eq_true c2
        clear NO YES hr mn1 mn2 mx1 mx2 hmn hmx
        go_enter Try.func13, Try.ntmps13
        go_wp2_with fail
        refine JN.out.mono ?_
        rintro e w1 ⟨rfl, rfl⟩
        go_wp2_with fail
        refine JX.out.mono ?_
        rintro e w1 ⟨rfl, rfl⟩
        go_wp2_with fail
        go_ret
        exact F.out _ rfl
      · have F := NO (fun q => by have := (q.2.2 j hj).2; omega)
        have d4 : decide (mx ≤ 1048576) = false := decide_eq_false c2
        clear NO YES hr mn1 mn2 mx1 mx2 hmn hmx
        go_enter Try.func13, Try.ntmps13
        go_wp2_with fail
        refine JN.out.mono ?_
        rintro e w1 ⟨rfl, rfl⟩
        go_wp2_with fail
        refine JX.out.mono ?_
        rintro e w1 ⟨rfl, rfl⟩
        go_wp2_with fail
        go_ret
        exact F.out _ rfl
theorem far_dst (a b : Int) : farV a b = dst a b := by unfold farV dst; split <;> split <;> omega
set_option maxRecDepth 100000 in
set_option maxHeartbeats 4000000 in
theorem near_any (g c n : Nat) (b : Nat → Bool) (f : Nat) (w : World) (hc : ∀ j, j < n → w.cell? ⟨g, j, none⟩ = some (.bool (b j))) (hn : n ≤ 128) (hf : f < n) :
    Calls Try.prog 16 #[.slice (some ⟨g, 0, none⟩) n c, .int .i64 f] w fun e w' => e = .returned (.int .i64 (frB b f n n)) ∧ w' = w := by
  have HC := Lib.hid hc
  have HF := Lib.hid (fun k (hk : k < n) => far_any f k w (by omega) (by omega) (by omega) (by omega))
  clear hc
  go_enter Try.func16, Try.ntmps16
  go_wp2_with fail
  go_loop [5, 12] (fun fv i => ∃ (k : Nat) (x : Int), k ≤ n ∧ x = frB b f n k ∧ fv = .int .i64 x ∧ i = .int .i64 k) (fun _ i => n - (intOf i).toNat)
  case atStart => exact ⟨0, n, Nat.zero_le _, (frB_zero b f n).symm, rfl, rfl⟩
  case round =>
    obtain ⟨k, x, hk, hx, rfl, rfl⟩ := hrel
    have HX := Lib.hid hx
    clear hx
    by_cases hkn : k < n
    · have hki : (k : Int) < (n : Int) := by omega
      have c0 : w.cell? ⟨g, k, none⟩ = some (.bool (b k)) := HC.out k hkn
      have hs := frB_succ b f n k
      rw [← HX.out] at hs
      cases hb : b k with
      | true =>
        rw [hb] at c0 hs
        rw [if_pos rfl, ← far_dst] at hs
        have HS := Lib.hid hs
        have KF := Lib.hid (HF.out k hkn)
        obtain ⟨d, hd⟩ : ∃ d, farV f k = d := ⟨_, rfl⟩
        rw [hd] at KF HS
        clear hs hd hb
        by_cases hxd : x ≤ d
        · have hm : min x d = x := by omega
          rw [hm] at HS
          go_wp2_with fail
          refine KF.out.mono ?_
          rintro e w1 ⟨rfl, rfl⟩
          go_wp2_with fail
          go_round
          case rel => exact ⟨k + 1, x, by omega, HS.out.symm, rfl, by go_num⟩
          case measure => simp [intOf]; omega
        · have hm : min x d = d := by omega
          rw [hm] at HS
          go_wp2_with fail
          refine KF.out.mono ?_
          rintro e w1 ⟨rfl, rfl⟩
          go_wp2_with fail
          go_round
          case rel => exact ⟨k + 1, d, by omega, HS.out.symm, rfl, by go_num⟩
          case measure => simp [intOf]; omega
      | false =>
        rw [hb] at c0 hs
        rw [if_neg (by simp)] at hs
        have HS := Lib.hid hs
        clear hs hb
        go_wp2_with fail
        go_round
        case rel => exact ⟨k + 1, x, by omega, HS.out.symm, rfl, by go_num⟩
        case measure => simp [intOf]; omega
    · obtain rfl : k = n := by omega
      go_wp2_with fail
      go_ret
      exact ⟨retI HX.out, rfl⟩
theorem rgP_take {zs : List Int} {n : Nat} (h0 : 0 < n) (h1 : n ≤ 128) (h : ∀ i, i < n → 0 ≤ zat zs i ∧ zat zs i ≤ 1048576) : RgP zs n := ⟨h0, h1, h⟩
set_option maxRecDepth 100000 in
set_option maxHeartbeats 4000000 in
theorem drightP_any (A : Option Addr) (c n : Nat) (zs : List Int) (w : World) (hn : zs.length = n) (hl : n ≤ 9223372036854775807) (hr : RdI w .i64 A zs) :
    Calls Try.prog 10 #[.slice A n c] w (RtP (RgP zs n) w) := by
  obtain ⟨R, hR⟩ : ∃ R : Ending → World → Prop, RtP (RgP zs n) w = R := ⟨_, rfl⟩
  have NO : (¬ RgP zs n) → R (.returned (.bool false)) w := fun h => by rw [← hR]; exact ⟨false, rfl, ⟨(fun h' => by cases h'), fun h' => absurd h' h⟩, rfl⟩
  have YES : RgP zs n → R (.returned (.bool true)) w := fun h => by rw [← hR]; exact ⟨true, rfl, ⟨fun _ => h, fun _ => rfl⟩, rfl⟩
  have HNO := Lib.hid NO; have HYES := Lib.hid YES; have HR := Lib.hid hr
  rw [hR]
  clear NO YES hr hR
  go_enter Try.func10, Try.ntmps10
  go_wp2_with fail
  go_loop [3] (fun i => ∃ k : Nat, k ≤ n ∧ i = .int .i64 k ∧ Hid (∀ j, j < k → 0 ≤ zat zs j ∧ zat zs j ≤ 1048576)) (fun i => n - (intOf i).toNat)
  case atStart => exact ⟨0, Nat.zero_le _, rfl, Lib.hid fun j hj => absurd hj (Nat.not_lt_zero _)⟩
  case round =>
    obtain ⟨k, hk, rfl, HK⟩ := hrel
    by_cases hkn : k < n
    · have hki : (k : Int) < (n : Int) := by omega
      obtain ⟨b, o, rfl, _, hcell⟩ := rdI_row HR.out (by omega)
      have c0 := hcell k (by omega)
      obtain ⟨x, hx⟩ : ∃ x, zat zs k = x := ⟨_, rfl⟩
      rw [hx] at c0
      have HX := Lib.hid hx
      clear hx hcell
      by_cases h0 : x < 0
      · go_wp2_with fail
        exact HNO.out (fun q => by have := (q.2.2 k hkn).1; rw [HX.out] at this; omega)
      · by_cases h1 : 1048576 < x
        · go_wp2_with fail
          exact HNO.out (fun q => by have := (q.2.2 k hkn).2; rw [HX.out] at this; omega)
        · go_wp2_with fail
          go_round
          case rel => exact ⟨k + 1, by omega, by go_num, Lib.hid (fun j hj => by
            by_cases e : j = k
            · rw [e, HX.out]; omega
            · exact HK.out j (by omega))⟩
          case measure => simp [intOf]; omega
    · obtain rfl : k = n := by omega
      by_cases h0 : 0 < k
      · have hi0 : (0 : Int) < (k : Int) := by omega
        by_cases h1 : k ≤ 128
        · have hi1 : (k : Int) ≤ 128 := by omega
          go_wp2_with fail
          exact HYES.out ⟨h0, h1, HK.out⟩
        · have hi1 : ¬ (k : Int) ≤ 128 := by omega
          go_wp2_with fail
          exact HNO.out (fun q => h1 q.2.1)
      · have hi0 : ¬ (0 : Int) < (k : Int) := by omega
        go_wp2_with fail
        exact HNO.out (fun q => h0 q.1)
end Go.Proofs.Ytloplambpfjioaa
