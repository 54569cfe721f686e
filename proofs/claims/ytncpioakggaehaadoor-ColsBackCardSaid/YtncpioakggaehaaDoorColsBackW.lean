/- The walk of ColsBack: it answers true for every input, and leaves all old blocks as they were. No condition but the laid tables, which are tied to the text. -/
import Derived.Test.YtncpioakggaehaaDoorRows
import Derived.Test.YtncpioakggaehaaDoorRowKit
import Derived.Test.YtncpioakggaehaaDoorSlicesEq
import Derived.Test.YtncpioakggaehaaDoorRowT
import Derived.Test.YtncpioakggaehaaDoorBlocks
import Derived.Test.YtncpioakggaehaaDoorColA
import Derived.Test.YtncpioakggaehaaDoorColF
import Derived.Test.YtncpioakggaehaaDoorColG
import Derived.Test.YtncpioakggaehaaDoorColI
import Derived.WalkKit
import Derived.ProofKit
import Derived.OpenShut
import Derived.Deep.QuietTactic
import Derived.BigQuiet
import Derived.Lib.SmallJoins
import Derived.Lib.Hide
import Derived.WalkSpells
import Derived.WalkLawsBesides
import Derived.Lib.LaidTab
import Derived.Lib.LaidU8
import Derived.Deep.LoopGhost
import Derived.BigRegion
import Derived.OwnWalk
import Derived.Laws.OwnMore
import Derived.Laws.IdiomStrings
import Derived.IntWalk
namespace Go.Proofs.YtncpioakggaehaaDoor.colsBack
open Go.ChangeShapes Go.WideShapes Go.ChangeAt Go.RowKit Go.Joins
set_option linter.unusedSimpArgs false
set_option linter.unusedVariables false

set_option maxRecDepth 100000 in
set_option maxHeartbeats 20000000 in
theorem walk {Z A : Option Addr} {cz ca n : Nat} {zs : List Int} {tb : Nat → ByteArray} {w : World} (hc1 : zs.length ≤ cz) (hc2 : cz ≤ maxLen) (hZ : RdI w .i64 Z zs) (hk1 : n ≤ ca) (hk2 : ca ≤ maxLen) (hA : RdT w A n tb) (_ : A = none → ca = 0) (hL : laidMetH Tryd.prog Rows.colsBackRow.laid w) :
    Calls Tryd.prog 4 #[.slice Z zs.length cz, .slice A n ca] w fun e w' => e = .returned (.bool true) ∧ Below w.heap.size w w' := by
  clear hL
  have hM : maxLen ≤ 9223372036854775807 := by decide
  have hcv := fun w s => run_bytes_of_string (P := Tryd.prog) w 9 34 5 s Tryd.underlying9 Tryd.underlying34 Tryd.underlying5
  obtain ⟨m, hm⟩ : ∃ m, zs.length = m := ⟨_, rfl⟩
  rw [hm] at hc1 ⊢
  have hn9 : n ≤ 9223372036854775807 := by omega
  have hm9 : m ≤ 9223372036854775807 := by omega
  have HA := Lib.hid hA; have HZ := Lib.hid hZ; have HM := Lib.hid hm
  obtain ⟨V0, hV0⟩ : ∃ V, w.alloc (.cells #[.slice A n ca] 22) = V := ⟨_, rfl⟩
  have hb0 : Below w.heap.size w V0 := by rw [← hV0]; exact (Below.refl _ _).alloc (Nat.le_refl _) _
  have hB0 : Blk V0 w.heap.size 22 #[.slice A n ca] := by rw [← hV0]; exact Blk.new w _ _
  have E0 := Lib.hid hb0
  have KG := Lib.hid (great16_any (some ⟨w.heap.size, 0, none⟩) 1 1 (fun _ => A) (fun _ => n) (fun _ => ca) (fun _ => tb) V0 (fun i hi => by
    obtain rfl : i = 0 := by omega
    exact ⟨_, _, rfl, hB0.lt, hB0.cell 0, hn9, hA.kept hb0⟩) (by omega))
  have HV0 := Lib.hid hV0
  clear hA hZ hm hb0 hB0 hV0 hc1 hc2 hk1 hk2
  go_enter Tryd.func4, Tryd.ntmps4
  go_wp2_with fail
  rw [HV0.out]
  refine KG.out.mono ?_
  rintro e w' ⟨r, rfl, hfin, rfl⟩
  cases r with
  | true =>
    go_wp2_with fail
    go_ret
    exact ⟨rfl, E0.out⟩
  | false =>
  have hf := hfin rfl
  have h20 : n ≤ 20 := (hf.2 0 (by omega)).1
  have HS := Lib.hid ((hf.2 0 (by omega)).2)
  clear hf hfin KG HV0
  by_cases g2 : 20 < m
  · have i2 : 20 < (m : Int) := by omega
    go_wp2_with fail
    go_ret
    exact ⟨rfl, E0.out⟩
  have i2 : ¬ 20 < (m : Int) := by omega
  have m20 : m ≤ 20 := by omega
  clear g2 hn9 hm9
  go_wp2_with fail
  go_loopg [5] m (fun gh i wr => ∃ k : Nat, k ≤ m ∧ gh = m - k ∧ i = .int .i64 k ∧ Hid (∀ j, j < k → zat zs j ≤ 100) ∧ wr = V0)
  case atStart => exact ⟨0, Nat.zero_le _, rfl, rfl, Lib.hid (fun j hj => absurd hj (Nat.not_lt_zero _)), rfl⟩
  case round =>
  obtain ⟨k, hk, rfl, rfl, HW, rfl⟩ := hrel
  by_cases hkm : k < m
  · have hki : (k : Int) < (m : Int) := by omega
    obtain ⟨b, o, rfl, hbl, hc⟩ := rdI_row HZ.out (by have := HM.out; omega)
    have c0 := (E0.out.cell (p := ⟨b, o + k, none⟩) hbl).trans (hc k (by have := HM.out; omega))
    obtain ⟨x, hx⟩ : ∃ x, zat zs k = x := ⟨_, rfl⟩
    rw [hx] at c0
    have HX := Lib.hid hx
    clear hc hbl hx
    by_cases h1 : 100 < x
    · go_wp2_with fail
      go_ret
      exact ⟨rfl, E0.out⟩
    · have HW2 : Hid (∀ j, j < k + 1 → zat zs j ≤ 100) := Lib.hid (fun j hj => by
        by_cases q : j = k
        · rw [q, HX.out]; omega
        · exact HW.out j (by omega))
      go_wp2_with fail
      go_roundg (m - (k + 1))
      case measure => omega
      case rel => first | exact ⟨k + 1, by omega, rfl, by go_num, HW2, rfl⟩ | exact ⟨k + 1, by omega, rfl, by go_num, HW2⟩ | exact ⟨k + 1, by omega, rfl, by go_num, HW2, trivial⟩
  obtain rfl : k = m := by omega
  rename World => V0
  have hki : ¬ (k : Int) < (k : Int) := by omega
  go_wp2_with fail
  go_loopg [6] n (fun gh i wr => ∃ q : Nat, q ≤ n ∧ gh = n - q ∧ i = .int .i64 q ∧ Hid (∀ j, j < q → (∀ x, x ∈ (tb j).data.toList → x ≠ 32) ∧ (tb j).data.toList ≠ []) ∧ Hid (Below w.heap.size w wr))
  case atStart => exact ⟨0, Nat.zero_le _, rfl, rfl, Lib.hid (fun j hj => absurd hj (Nat.not_lt_zero _)), E0⟩
  case round =>
  clear E0
  obtain ⟨q, hq, rfl, rfl, HN, EE⟩ := hrel
  rename World => V
  by_cases hqn : q < n
  · have hqi : (q : Int) < (n : Int) := by omega
    obtain ⟨ba, oa, rfl, hlt, hca⟩ := rdT_row HA.out (by omega)
    have c0 := (EE.out.cell (p := ⟨ba, oa + q, none⟩) hlt).trans (hca q hqn)
    have hs60 : (tb q).size ≤ 60 := HS.out q hqn
    obtain ⟨s, hs⟩ : ∃ s, tb q = s := ⟨_, rfl⟩
    rw [hs] at c0 hs60
    have HSE := Lib.hid hs
    clear hca hlt hs
    by_cases h0 : s.data.toList = []
    · have hcmp : (s.toList == []) = true := by rw [ByteArray.toList_eq, h0]; rfl
      have hbe : s = ByteArray.empty := by
        apply ByteArray.ext
        apply Array.ext'
        rw [h0]; rfl
      subst hbe
      go_wp2_with fail
      go_ret
      exact ⟨rfl, EE.out⟩
    · have hcmp : (s.toList == []) = false := by rw [ByteArray.toList_eq]; rw [beq_eq_false_iff_ne]; exact h0
      have hbe : ¬ s = ByteArray.empty := fun e => h0 (by rw [e]; rfl)
      have HNE := Lib.hid h0
      have KB := Lib.hid (blank_any s V hs60)
      have E2 := Lib.hid (below_bytes s EE.out EE.out.size)
      clear h0
      go_wp2_with fail
      refine KB.out.mono ?_
      rintro e w' ⟨r, rfl, hr, rfl⟩
      cases r with
      | true =>
        go_wp2_with fail
        go_ret
        exact ⟨rfl, E2.out⟩
      | false =>
        have HN2 : Hid (∀ j, j < q + 1 → (∀ x, x ∈ (tb j).data.toList → x ≠ 32) ∧ (tb j).data.toList ≠ []) := Lib.hid (fun j hj => by
          by_cases e : j = q
          · rw [e, HSE.out]; exact ⟨hr rfl, HNE.out⟩
          · exact HN.out j (by omega))
        clear hr KB
        go_wp2_with fail
        go_roundg (n - (q + 1))
        case measure => omega
        case rel => exact ⟨q + 1, by omega, rfl, by go_num, HN2, E2⟩
  obtain rfl : q = n := by omega
  have hqi : ¬ (q : Int) < (q : Int) := by omega
  have KL := Lib.hid (line_any A Z ca cz q k tb zs V HM.out (by omega) (by omega) (HA.out.kept EE.out) (HZ.out.kept EE.out) HS.out (fun j hj => by have := HW.out j hj; omega))
  have hlen := lnC_len (wd := zat zs) (nw := k) (t := byC tb) (n := q) (by omega) (fun i hi => by rw [byC_len]; exact HS.out i hi) (fun j hj => by have := HW.out j hj; omega)
  have KC := Lib.hid (fun (X : World) => cells_any (bL (lnC (zat zs) k (byC tb) q)) X (by rw [bL_size]; omega))
  have HFL : Hid (Lib.goFieldsP p32 (bL (lnC (zat zs) k (byC tb) q)) = (List.range q).map tb) := Lib.hid (fields_ln (wd := zat zs) (nw := k) (tb := tb) q HN.out)
  obtain ⟨bS, hbS⟩ : ∃ bS, bL (lnC (zat zs) k (byC tb) q) = bS := ⟨_, rfl⟩
  rw [hbS] at KL KC HFL
  obtain ⟨FL, hFL⟩ : ∃ FL, Lib.goFieldsP p32 bS = FL := ⟨_, rfl⟩
  rw [hFL] at KC HFL
  have HFN : Hid (FL.length = q) := Lib.hid (by rw [HFL.out]; simp)
  rw [HFN.out] at KC
  clear hlen hbS hFL HN
  go_wp2_with fail
  refine KL.out.mono ?_
  rintro e V1 ⟨rfl, hb1⟩
  have E1 := Lib.hid (EE.out.trans (hb1.mono EE.out.size))
  clear hb1 KL
  go_wp2_with fail
  refine (KC.out V1).mono ?_
  rintro e V2 ⟨B, rfl, hown, hb2⟩
  have E2 := Lib.hid (E1.out.trans (hb2.mono E1.out.size))
  rw [HFL.out] at hown
  have KE := Lib.hid (eqs_any B A q ca V1.heap.size tb V2 (by omega) hown (HA.out.kept E2.out))
  clear hb2 KC hown
  go_wp2_with fail
  refine KE.out.mono ?_
  rintro e V3 ⟨rfl, d, rfl⟩
  have E3 := Lib.hid (below_drewN E2.out d)
  clear KE
  go_wp2_with fail
  refine (alive16_any _).mono ?_
  rintro e V4 ⟨rfl, hb4⟩
  have E4 := Lib.hid (E3.out.trans (hb4.mono E3.out.size))
  clear hb4
  go_wp2_with fail
  go_ret
  exact ⟨rfl, E4.out⟩

end Go.Proofs.YtncpioakggaehaaDoor.colsBack
