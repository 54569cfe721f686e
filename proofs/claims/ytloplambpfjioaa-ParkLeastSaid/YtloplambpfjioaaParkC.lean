/- Parking: what floors cost, by the document. -/
import Derived.Test.YtloplambpfjioaaRows
import Derived.Test.YtloplambpfjioaaRowKit
import Derived.Test.YtloplambpfjioaaRowS
import Derived.Test.YtloplambpfjioaaRowZ
import Derived.Test.YtloplambpfjioaaSlicesEq
import Derived.Test.YtloplambpfjioaaSlicesEqM
import Derived.Test.YtloplambpfjioaaRowL
import Derived.Test.YtloplambpfjioaaRowM
import Derived.Test.YtloplambpfjioaaMakeI
import Derived.Test.YtloplambpfjioaaBlocks
import Derived.Test.YtloplambpfjioaaParkB
import Derived.Test.YtloplambpfjioaaPlaceA
import Derived.Test.YtloplambpfjioaaShelf
import Derived.WalkKit
import Derived.IntWalk
import Derived.Lib.Hide
import Derived.WalkSpells
import Derived.WalkLawsBesides
import Derived.Laws.CopyOwn
import Derived.Laws.MakeOwn
import Derived.Laws.OwnMore
import Derived.OwnWalk
import Derived.Deep.QuietTactic
import Derived.BigQuiet
import Derived.Deep.RegionHeld3
import Derived.Deep.LoopGhost
import Derived.BigRegion
import Derived.Deep.AppendLies
import Derived.Maps.AppendAt
import Derived.Below
namespace Go.Proofs.Ytloplambpfjioaa
open Go.RowKit
set_option linter.unusedSimpArgs false
set_option linter.unusedVariables false
def DcR (zs fs : List Int) (n m : Nat) (w : World) (e : Ending) (w' : World) : Prop := ∃ v ok, e = .returned (.tuple #[.int .i64 v, .bool ok]) ∧ Below w.heap.size w w' ∧ (GdP zs fs n m → v = coV zs fs n m ∧ ok = true) ∧ (¬ GdP zs fs n m → v = 0 ∧ ok = false)
set_option maxRecDepth 100000 in
set_option maxHeartbeats 20000000 in
theorem dcost_any (A A2 : Option Addr) (c c2 n m : Nat) (zs fs : List Int) (w : World) (hn : zs.length = n) (hm : fs.length = m) (hl : n ≤ 1000000) (hl2 : m ≤ 1000) (hr : RdI w .i64 A zs) (hr2 : RdI w .i64 A2 fs) :
    Calls Try.prog 7 #[.slice A n c, .slice A2 m c2] w (DcR zs fs n m w) := by
  have KR := Lib.hid (drightP_any A c n zs w hn (by omega) hr)
  have HR := Lib.hid hr; have HR2 := Lib.hid hr2
  obtain ⟨R, hR⟩ : ∃ R : Ending → World → Prop, DcR zs fs n m w = R := ⟨_, rfl⟩
  have NO : (¬ GdP zs fs n m) → R (.returned (.tuple #[.int .i64 0, .bool false])) w := fun h => by rw [← hR]; exact ⟨0, false, rfl, Below.refl _ _, fun q => absurd q h, fun _ => ⟨rfl, rfl⟩⟩
  have YES : GdP zs fs n m → R (.returned (.tuple #[.int .i64 (coV zs fs n m), .bool true])) w := fun h => by rw [← hR]; exact ⟨_, true, rfl, Below.refl _ _, fun _ => ⟨rfl, rfl⟩, fun q => absurd h q⟩
  have HNO := Lib.hid NO; have HYES := Lib.hid YES
  rw [hR]
  clear hr hr2 hR NO YES
  go_enter Try.func7, Try.ntmps7
  go_wp2_with fail
  refine KR.out.mono ?_
  rintro e w1 ⟨b, rfl, hb, rfl⟩
  have HQ := Lib.hid hb
  clear hb KR
  cases b with
  | false =>
    go_wp2_with fail
    exact HNO.out (fun q => by have := HQ.out.2 q.1; cases this)
  | true =>
    have hQ : Hid (RgP zs n) := Lib.hid (HQ.out.1 rfl)
    by_cases h0 : m = 0
    · have HM := Lib.hid h0
      have hb0 : ((m : Int) == 0) = true := by simp [h0]
      clear h0
      go_wp2_with fail
      exact HNO.out (fun q => by have := q.2.1; have := HM.out; omega)
    have hb0 : ((m : Int) == 0) = false := by simp; omega
    have hm0 : 0 < m := by omega
    have hn1 : n ≤ 128 := hQ.out.2.1
    have hn0 : 0 < n := hQ.out.1
    clear h0 HQ
    go_wp2_with fail
    go_loopg [6, 7] n (fun g sv i wr => ∃ (j : Nat) (s : Int), g = n - j ∧ j ≤ n ∧ Hid (0 < j → ∀ k, k < m → 0 ≤ zat fs k ∧ zat fs k < n) ∧ s = cst (zat zs) (fun i => nr (zat fs) i m) j ∧ sv = .int .i64 s ∧ i = .int .i64 j ∧ wr = w)
    case atStart => exact ⟨0, 0, rfl, Nat.zero_le _, Lib.hid (fun h => absurd h (Nat.lt_irrefl _)), rfl, rfl, rfl, rfl⟩
    case round =>
      obtain ⟨j, s, rfl, hj, HIN, hs, rfl, rfl, rfl⟩ := hrel
      have HS := Lib.hid hs
      clear hs
      by_cases hjn : j < n
      case neg =>
        obtain rfl : j = n := by omega
        have hG : GdP zs fs j m := ⟨hQ.out, hm0, HIN.out hn0⟩
        have F := HYES.out hG
        unfold coV at F
        rw [← HS.out] at F
        have HF := Lib.hid F
        clear F hG
        go_wp2_with fail
        exact HF.out
      have hji : (j : Int) < (n : Int) := by omega
      go_wp2_with fail
      go_loopg [8, 9] m (fun g bv i wq => ∃ (k : Nat) (x : Int), g = m - k ∧ k ≤ m ∧ Hid (∀ i, i < k → 0 ≤ zat fs i ∧ zat fs i < n) ∧ x = nr (zat fs) j k ∧ bv = .int .i64 x ∧ i = .int .i64 k ∧ wq = wr)
      case atStart => exact ⟨0, -1, rfl, Nat.zero_le _, Lib.hid (fun i h => absurd h (Nat.not_lt_zero _)), rfl, rfl, rfl, rfl⟩
      case round =>
        obtain ⟨k, x, rfl, hk, HK, hx, rfl, rfl, rfl⟩ := hrel
        have HX := Lib.hid hx
        clear hx
        by_cases hkm : k < m
        case neg =>
          obtain rfl : k = m := by omega
          have hG : GdP zs fs n k := ⟨hQ.out, hm0, HK.out⟩
          have hsb := co_bd hG j hj
          rw [← HS.out] at hsb
          have hz := hG.1.2.2 j hjn
          have hd := nr_bd hG j hjn
          rw [← HX.out] at hd
          have hs1 := cst_succ (zat zs) (fun i => nr (zat fs) i k) j
          rw [← HS.out, ← HX.out] at hs1
          obtain ⟨b, off, rfl, hlt, hcell⟩ := rdI_row HR.out (by omega)
          have c1 := hcell j (by omega)
          obtain ⟨y, hy⟩ : ∃ y, zat zs j = y := ⟨_, rfl⟩
          rw [hy] at c1 hz hs1
          have hmul := mul_bd hz.1 hz.2 hd.1 hd.2
          obtain ⟨t, ht⟩ : ∃ t, y * x = t := ⟨_, rfl⟩
          rw [ht] at hmul hs1
          have q1 : IntKind.i64.wrap (y * x) = t := by rw [ht]; exact IntWalk.i64_in _ (by omega)
          have q2 : wrap64 (y * x) = t := by rw [ht]; exact IntWalk.wrap64_in _ (by omega)
          have q3 : IntKind.i64.wrap (s + t) = s + t := IntWalk.i64_in _ (by omega)
          have q4 : wrap64 (s + t) = s + t := IntWalk.wrap64_in _ (by omega)
          have HS1 := Lib.hid hs1
          have HIN2 : Hid (0 < j + 1 → ∀ i, i < k → 0 ≤ zat fs i ∧ zat fs i < n) := Lib.hid (fun _ => HK.out)
          clear hcell hs1 hy ht hz hd hmul hsb hG
          go_wp2_with fail
          go_roundg (n - (j + 1))
          case measure => omega
          case rel => first | exact ⟨j + 1, s + t, rfl, by omega, HIN2, HS1.out.symm, rfl, by go_num, rfl⟩ | exact ⟨j + 1, s + t, rfl, by omega, HIN2, HS1.out.symm, rfl, by go_num⟩
        have hki : (k : Int) < (m : Int) := by omega
        obtain ⟨b, off, rfl, hlt, hcell⟩ := rdI_row HR2.out (by omega)
        have c1 := hcell k (by omega)
        obtain ⟨a, ha⟩ : ∃ y, zat fs k = y := ⟨_, rfl⟩
        rw [ha] at c1
        have HA := Lib.hid ha
        clear hcell ha
        by_cases a0 : a < 0
        · go_wp2_with fail
          exact HNO.out (fun q => by have := (q.2.2 k hkm).1; rw [HA.out] at this; omega)
        by_cases a1 : (n : Int) ≤ a
        · go_wp2_with fail
          exact HNO.out (fun q => by have := (q.2.2 k hkm).2; rw [HA.out] at this; omega)
        have HK2 : Hid (∀ i, i < k + 1 → 0 ≤ zat fs i ∧ zat fs i < n) := Lib.hid (fun i hi => by
          by_cases e : i = k
          · rw [e, HA.out]; omega
          · exact HK.out i (by omega))
        have hns := nr_succ (zat fs) (j : Int) k
        rw [← HX.out, HA.out] at hns
        have q1 : IntKind.i64.wrap (a - (j : Int)) = a - j := IntWalk.i64_in _ (by omega)
        have q2 : wrap64 (a - (j : Int)) = a - j := IntWalk.wrap64_in _ (by omega)
        obtain ⟨d, hd⟩ : ∃ d, a - (j : Int) = d := ⟨_, rfl⟩
        have hdb : -128 ≤ d ∧ d ≤ 128 := by omega
        have hdst : dst a j = if d < 0 then -d else d := by unfold dst; rw [hd]
        rw [hd] at q1 q2
        have q3 : IntKind.i64.wrap (-d) = -d := IntWalk.i64_in _ (by omega)
        have q4 : wrap64 (-d) = -d := IntWalk.wrap64_in _ (by omega)
        by_cases hd0 : d < 0
        · by_cases hx0 : x < 0
          · have HN : Hid (nr (zat fs) j (k + 1) = -d) := Lib.hid (by rw [hns, hdst]; rw [if_pos hd0]; exact if_pos (by omega))
            clear hns hdst
            go_wp2_with fail
            go_roundg (m - (k + 1))
            case measure => omega
            case rel => first | exact ⟨k + 1, -d, rfl, by omega, HK2, HN.out.symm, rfl, by go_num, rfl⟩ | exact ⟨k + 1, -d, rfl, by omega, HK2, HN.out.symm, rfl, by go_num⟩
          · by_cases hx1 : -d < x
            · have HN : Hid (nr (zat fs) j (k + 1) = -d) := Lib.hid (by rw [hns, hdst]; rw [if_pos hd0]; exact if_pos (by omega))
              clear hns hdst
              go_wp2_with fail
              go_roundg (m - (k + 1))
              case measure => omega
              case rel => first | exact ⟨k + 1, -d, rfl, by omega, HK2, HN.out.symm, rfl, by go_num, rfl⟩ | exact ⟨k + 1, -d, rfl, by omega, HK2, HN.out.symm, rfl, by go_num⟩
            · have HN : Hid (nr (zat fs) j (k + 1) = x) := Lib.hid (by rw [hns, hdst]; rw [if_pos hd0]; exact if_neg (by omega))
              clear hns hdst
              go_wp2_with fail
              go_roundg (m - (k + 1))
              case measure => omega
              case rel => first | exact ⟨k + 1, x, rfl, by omega, HK2, HN.out.symm, rfl, by go_num, rfl⟩ | exact ⟨k + 1, x, rfl, by omega, HK2, HN.out.symm, rfl, by go_num⟩
        · by_cases hx0 : x < 0
          · have HN : Hid (nr (zat fs) j (k + 1) = d) := Lib.hid (by rw [hns, hdst]; rw [if_neg hd0]; exact if_pos (by omega))
            clear hns hdst
            go_wp2_with fail
            go_roundg (m - (k + 1))
            case measure => omega
            case rel => first | exact ⟨k + 1, d, rfl, by omega, HK2, HN.out.symm, rfl, by go_num, rfl⟩ | exact ⟨k + 1, d, rfl, by omega, HK2, HN.out.symm, rfl, by go_num⟩
          · by_cases hx1 : d < x
            · have HN : Hid (nr (zat fs) j (k + 1) = d) := Lib.hid (by rw [hns, hdst]; rw [if_neg hd0]; exact if_pos (by omega))
              clear hns hdst
              go_wp2_with fail
              go_roundg (m - (k + 1))
              case measure => omega
              case rel => first | exact ⟨k + 1, d, rfl, by omega, HK2, HN.out.symm, rfl, by go_num, rfl⟩ | exact ⟨k + 1, d, rfl, by omega, HK2, HN.out.symm, rfl, by go_num⟩
            · have HN : Hid (nr (zat fs) j (k + 1) = x) := Lib.hid (by rw [hns, hdst]; rw [if_neg hd0]; exact if_neg (by omega))
              clear hns hdst
              go_wp2_with fail
              go_roundg (m - (k + 1))
              case measure => omega
              case rel => first | exact ⟨k + 1, x, rfl, by omega, HK2, HN.out.symm, rfl, by go_num, rfl⟩ | exact ⟨k + 1, x, rfl, by omega, HK2, HN.out.symm, rfl, by go_num⟩
end Go.Proofs.Ytloplambpfjioaa
