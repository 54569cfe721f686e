/- Contracts of slices.IsSorted at []uint64, cumul.Right, Share, Mean and of the document's Right and Means. -/
import Derived.Test.YtkepplkfjcoemabRows
import Derived.Test.YtkepplkfjcoemabRowKit
import Derived.Test.YtkepplkfjcoemabSlicesEq
import Derived.WalkKit
import Derived.IntWalk
import Derived.Lib.Hide
import Derived.WalkSpells
import Derived.WalkLawsBesides
import Derived.Deep.QuietTactic
import Derived.BigQuiet
namespace Go.Proofs.Ytkepplkfjcoemab
open Go.RowKit
set_option linter.unusedSimpArgs false
set_option linter.unusedVariables false
/-- no number is greater than the next one -/
def Rise (zs : List Int) : Prop := ∀ i, i + 1 < zs.length → zat zs i ≤ zat zs (i + 1)
theorem not_rise {zs : List Int} (h : ¬ Rise zs) : ∃ i, i + 1 < zs.length ∧ zat zs (i + 1) < zat zs i := by
  apply Classical.byContradiction
  intro hc
  exact h fun i hi => Int.not_lt.1 fun e => hc ⟨i, hi, e⟩
theorem rise_le {zs : List Int} (h : Rise zs) {i j : Nat} (hij : i ≤ j) (hj : j < zs.length) : zat zs i ≤ zat zs j := by
  induction hij with
  | refl => exact Int.le_refl _
  | step _ ih => exact Int.le_trans (ih (by omega)) (h _ hj)
open Classical in
noncomputable def riseB (zs : List Int) : Bool := decide (Rise zs)
theorem riseB_yes {zs : List Int} (h : Rise zs) : riseB zs = true := by unfold riseB; simp [h]
theorem riseB_no {zs : List Int} (h : ¬ Rise zs) : riseB zs = false := by unfold riseB; simp [h]
set_option maxHeartbeats 400000 in
theorem nan64 (x : Int) (w : World) : Calls Try.prog 81 #[.int .u64 x] w fun e w' => e = .returned (.bool false) ∧ w = w' := by
  go_enter Try.func81, Try.ntmps81
  go_wp2_with fail
  go_ret
  exact ⟨rfl, rfl⟩
set_option maxHeartbeats 400000 in
theorem less64 (x y : Int) (w : World) : Calls Try.prog 74 #[.int .u64 x, .int .u64 y] w fun e w' => e = .returned (.bool (decide (x < y))) ∧ w = w' := by
  go_enter Try.func74, Try.ntmps74
  go_wp2_with (go_at_call 81; refine (nan64 _ _).mono ?_; rintro e w' ⟨rfl, rfl⟩)
  go_ret
  exact ⟨by simp, rfl⟩
theorem q_at {P : Program} {f : FuncId} {args : Array Value} {w : World} {q n : Nat} {v : Value} (h : Calls P f args (w.drewN (q + n)) fun e w' => e = .returned v ∧ w.drewN (q + n) = w') : Calls P f args (w.drewN (q + n)) fun e w'' => e = .returned v ∧ ∃ m, w'' = w.drewN (q + m) := h.mono fun _ _ ⟨a, b⟩ => ⟨a, n, b.symm⟩
set_option maxHeartbeats 1000000 in
theorem sorted_yes (b off c n : Nat) (zs : List Int) (w : World) (hr : RdI w .u64 (some ⟨b, off, none⟩) zs) (hn : zs.length = n + 1) (hl : n ≤ 1000) (h : Rise zs) :
    Calls Try.prog 62 #[.slice (some ⟨b, off, none⟩) (n + 1) c] w fun e w' => e = .returned (.bool true) ∧ ∃ q, w' = w.drewN q := by
  obtain ⟨b', o', e, _, hc⟩ := rdI_row hr (by omega)
  cases e
  have HC := Lib.hid (fun i (hi : i ≤ n) => hc i (by omega))
  have HR := Lib.hid (fun i (hi : i < n) => h i (by omega))
  clear hr hc h hn
  go_enter Try.func62, Try.ntmps62
  go_wp2_with fail
  go_loopw [3] (fun i wr => ∃ k : Nat, k ≤ n ∧ i = .int .i64 k ∧ ∃ q, wr = w.drewN q) (fun i _ => (intOf i).toNat)
  case atStart => exact ⟨n, by omega, by go_num, 0, rfl⟩
  case round =>
    obtain ⟨k, hk, rfl, q, rfl⟩ := hrel
    rcases k with _ | j
    · go_wp2_with fail
      go_ret
      exact ⟨rfl, _, rfl⟩
    · have c1 := HC.out (j + 1) (by omega)
      have c2 := HC.out j (by omega)
      have hle := HR.out j (by omega)
      have hnl : decide (zat zs (j + 1) < zat zs j) = false := decide_eq_false (by omega)
      have i1 : (j : Int) + 1 < (n : Int) + 1 := by omega
      have i2 : (0 : Int) ≤ (j : Int) + 1 := by omega
      have i3 : ((j : Int) + 1).toNat = j + 1 := by omega
      have i4 : j + 1 < n + 1 := by omega
      have i5 : j < n + 1 := by omega
      have i6 : (j : Int) < (n : Int) + 1 := by omega
      have w1 : IntKind.i64.wrap (j : Int) = j := IntWalk.i64_in _ (by omega)
      go_wp2_with fail
      go_quiet ((go_at_call 74; exact q_at (less64 _ _ _)))
      rw [hnl]
      go_wp2_with fail
      go_roundw
      case rel => exact ⟨j, by omega, by go_num, _, rfl⟩
      case measure => simp [intOf]
set_option maxHeartbeats 1000000 in
theorem sorted_no (b off c n m : Nat) (zs : List Int) (w : World) (hr : RdI w .u64 (some ⟨b, off, none⟩) zs) (hn : zs.length = n + 1) (hl : n ≤ 1000) (hm : m < n) (hd : zat zs (m + 1) < zat zs m) (h : ∀ i, m < i → i < n → zat zs i ≤ zat zs (i + 1)) :
    Calls Try.prog 62 #[.slice (some ⟨b, off, none⟩) (n + 1) c] w fun e w' => e = .returned (.bool false) ∧ ∃ q, w' = w.drewN q := by
  obtain ⟨b', o', e, _, hc⟩ := rdI_row hr (by omega)
  cases e
  have HC := Lib.hid (fun i (hi : i ≤ n) => hc i (by omega))
  have HR := Lib.hid h
  have HD := Lib.hid hd
  clear hr hc h hn hd
  go_enter Try.func62, Try.ntmps62
  go_wp2_with fail
  go_loopw [3] (fun i wr => ∃ k : Nat, k ≤ n ∧ m < k ∧ i = .int .i64 k ∧ ∃ q, wr = w.drewN q) (fun i _ => (intOf i).toNat)
  case atStart => exact ⟨n, by omega, hm, by go_num, 0, rfl⟩
  case round =>
    obtain ⟨k, hk, hmk, rfl, q, rfl⟩ := hrel
    rcases k with _ | j
    · omega
    · have c1 := HC.out (j + 1) (by omega)
      have c2 := HC.out j (by omega)
      have i1 : (j : Int) + 1 < (n : Int) + 1 := by omega
      have i2 : (0 : Int) ≤ (j : Int) + 1 := by omega
      have i3 : ((j : Int) + 1).toNat = j + 1 := by omega
      have i4 : j + 1 < n + 1 := by omega
      have i5 : j < n + 1 := by omega
      have i6 : (j : Int) < (n : Int) + 1 := by omega
      have w1 : IntKind.i64.wrap (j : Int) = j := IntWalk.i64_in _ (by omega)
      by_cases hj : m < j
      · have hle := HR.out j hj (by omega)
        have hnl : decide (zat zs (j + 1) < zat zs j) = false := decide_eq_false (by omega)
        go_wp2_with fail
        go_quiet ((go_at_call 74; exact q_at (less64 _ _ _)))
        rw [hnl]
        go_wp2_with fail
        go_roundw
        case rel => exact ⟨j, by omega, hj, by go_num, _, rfl⟩
        case measure => simp [intOf]
      · obtain rfl : j = m := by omega
        have hle := HD.out
        have hnl : decide (zat zs (j + 1) < zat zs j) = true := decide_eq_true hle
        go_wp2_with fail
        go_quiet ((go_at_call 74; exact q_at (less64 _ _ _)))
        rw [hnl]
        go_wp2_with fail
        go_ret
        exact ⟨rfl, q + nq, by rw [World.drewN_drewN]⟩
theorem last_fall {zs : List Int} {n : Nat} (hn : zs.length = n + 1) (h : ¬ Rise zs) : ∃ m, m < n ∧ zat zs (m + 1) < zat zs m ∧ ∀ i, m < i → i < n → zat zs i ≤ zat zs (i + 1) := by
  obtain ⟨i, hi, hlt⟩ := not_rise h
  have : ∀ d j, n - j = d → j < n → zat zs (j + 1) < zat zs j → ∃ m, m < n ∧ zat zs (m + 1) < zat zs m ∧ ∀ i, m < i → i < n → zat zs i ≤ zat zs (i + 1) := by
    intro d
    induction d using Nat.strongRecOn with
    | ind d ih =>
      intro j hd hj hl
      by_cases hc : ∃ q, j < q ∧ q < n ∧ zat zs (q + 1) < zat zs q
      · obtain ⟨q, h1, h2, h3⟩ := hc
        exact ih (n - q) (by omega) q rfl h2 h3
      · exact ⟨j, hj, hl, fun i h1 h2 => Int.not_lt.1 fun e => hc ⟨i, h1, h2, e⟩⟩
  exact this (n - i) i rfl (by omega) hlt
/-- is it a table? -/
noncomputable def rightV (zs : List Int) : Bool := riseB zs && decide (0 < zs.length ∧ zat zs (zs.length - 1) = 4294967296)
theorem rightV_yes {zs : List Int} {n : Nat} (hn : zs.length = n + 1) (h : Rise zs) (h1 : zat zs n = 4294967296) : rightV zs = true := by
  unfold rightV; rw [riseB_yes h, hn, Nat.add_sub_cancel]; simp [h1]
theorem rightV_last {zs : List Int} {n : Nat} (hn : zs.length = n + 1) (h1 : zat zs n ≠ 4294967296) : rightV zs = false := by
  unfold rightV; rw [hn, Nat.add_sub_cancel]; simp [h1]
theorem rightV_no {zs : List Int} (h : ¬ Rise zs) : rightV zs = false := by unfold rightV; rw [riseB_no h]; rfl
theorem rightV_none {zs : List Int} (h : zs.length = 0) : rightV zs = false := by unfold rightV; simp [h]
set_option maxHeartbeats 1000000 in
theorem right_none (A : Option Addr) (c : Nat) (w : World) :
    Calls Try.prog 28 #[.slice A 0 c] w fun e w' => e = .returned (.bool false) ∧ ∃ q, w' = w.drewN q := by
  go_enter Try.func28, Try.ntmps28
  go_wp2_with fail
  go_ret
  exact ⟨rfl, 0, rfl⟩
set_option maxHeartbeats 1000000 in
theorem right_some (b off c n : Nat) (zs : List Int) (w : World) (hr : RdI w .u64 (some ⟨b, off, none⟩) zs) (hn : zs.length = n + 1) (hl : n ≤ 1000) :
    Calls Try.prog 28 #[.slice (some ⟨b, off, none⟩) (n + 1) c] w fun e w' => e = .returned (.bool (rightV zs)) ∧ ∃ q, w' = w.drewN q := by
  obtain ⟨b', o', e, _, hc⟩ := rdI_row hr (by omega)
  cases e
  have c1 := hc n (by omega)
  by_cases h : Rise zs
  · have HS := Lib.hid (sorted_yes b off c n zs w hr hn hl h)
    by_cases h1 : zat zs n = 4294967296
    · have HV := Lib.hid (rightV_yes hn h h1)
      have hq : (zat zs n == 4294967296) = true := by rw [beq_iff_eq]; exact h1
      clear hr hc h hn h1
      go_enter Try.func28, Try.ntmps28
      go_wp2_with (go_at_call 62; refine HS.out.mono ?_; rintro e w' ⟨rfl, q, rfl⟩)
      go_ret
      exact ⟨by rw [HV.out]; rfl, q, rfl⟩
    · have HV := Lib.hid (rightV_last hn h1)
      have hq : (zat zs n == 4294967296) = false := by rw [beq_eq_false_iff_ne]; exact h1
      clear hr hc h hn h1
      go_enter Try.func28, Try.ntmps28
      go_wp2_with (go_at_call 62; refine HS.out.mono ?_; rintro e w' ⟨rfl, q, rfl⟩)
      go_ret
      exact ⟨by rw [HV.out]; rfl, q, rfl⟩
  · obtain ⟨m, hm, hd, hb⟩ := last_fall hn h
    have HS := Lib.hid (sorted_no b off c n m zs w hr hn hl hm hd hb)
    have HV := Lib.hid (rightV_no h)
    clear hr hc h hn hd hb
    go_enter Try.func28, Try.ntmps28
    go_wp2_with (go_at_call 62; refine HS.out.mono ?_; rintro e w' ⟨rfl, q, rfl⟩)
    go_ret
    exact ⟨by rw [HV.out]; rfl, q, rfl⟩
theorem right_any (A : Option Addr) (c : Nat) (zs : List Int) (w : World) (hr : RdI w .u64 A zs) (hl : zs.length ≤ 1000) :
    Calls Try.prog 28 #[.slice A zs.length c] w fun e w' => e = .returned (.bool (rightV zs)) ∧ ∃ q, w' = w.drewN q := by
  by_cases h0 : zs.length = 0
  · rw [rightV_none h0, h0]; exact right_none A c w
  · obtain ⟨b, off, rfl, _⟩ := rdI_row hr (by omega)
    obtain ⟨n, hn⟩ : ∃ n, zs.length = n + 1 := ⟨zs.length - 1, by omega⟩
    have := right_some b off c n zs w hr hn (by omega)
    rwa [← hn] at this
end Go.Proofs.Ytkepplkfjcoemab
