/- Bars: texts with blanks ahead; the rows of bars, as bytes. -/
import Derived.Test.YtncpioakggaehaaDoorRows
import Derived.Test.YtncpioakggaehaaDoorRowKit
import Derived.Test.YtncpioakggaehaaDoorShelf
import Derived.Test.YtncpioakggaehaaDoorBlocks
import Derived.Test.YtncpioakggaehaaDoorSlicesEq
import Derived.Test.YtncpioakggaehaaDoorAtKit
import Derived.Test.YtncpioakggaehaaDoorRowT
import Derived.Test.YtncpioakggaehaaDoorTab
import Derived.Test.YtncpioakggaehaaDoorDigB
import Derived.Test.YtncpioakggaehaaDoorDigE
import Derived.Test.YtncpioakggaehaaDoorBarsA
import Derived.Test.YtncpioakggaehaaDoorBuA
import Derived.WalkKit
import Derived.IntWalk
import Derived.Lib.Hide
import Derived.Lib.ItoaLen
import Derived.WalkSpells
import Derived.WalkLawsBesides
import Derived.Laws.IdiomStrings
import Derived.Laws.OwnMore
import Derived.OwnWalk
import Derived.Deep.QuietTactic
import Derived.BigQuiet
import Derived.BigRegion
import Derived.Deep.RegionHeld3
import Derived.Deep.LoopGhost
namespace Go.Proofs.YtncpioakggaehaaDoor
open Go.RowKit Go.Sort
set_option linter.unusedSimpArgs false
set_option linter.unusedVariables false
def padL (L : List UInt8) (wd : Nat) : List UInt8 := List.replicate (wd - L.length) 32 ++ L
theorem padL_len (L : List UInt8) (wd : Nat) : (padL L wd).length = max L.length wd := by unfold padL; rw [List.length_append, List.length_replicate]; omega
theorem padL_no (L : List UInt8) (wd : Nat) (h : wd ≤ L.length) : padL L wd = L := by unfold padL; rw [show wd - L.length = 0 by omega]; rfl
set_option maxRecDepth 100000 in
set_option maxHeartbeats 4000000 in
theorem filled_no (L : List UInt8) (len : Nat) (c : Int) (w : World) (h : len ≤ L.length) (hl : L.length ≤ 1000000) :
    Calls Tryd.prog 37 #[.string (bL L), .int .i64 len, .int .u8 c] w fun e w' => e = .returned (.string (bL L)) ∧ w' = w := by
  have hs : len ≤ (bL L).size := by rw [bL_size]; exact h
  have hs2 : (bL L).size ≤ 1000000 := by rw [bL_size]; exact hl
  generalize bL L = s at *
  have hi : (len : Int) ≤ (s.size : Int) := by omega
  clear h hl
  go_enter Tryd.func37, Tryd.ntmps37
  go_wp2_with fail
  go_ret
  exact ⟨rfl, rfl⟩
set_option maxRecDepth 100000 in
set_option maxHeartbeats 4000000 in
theorem pad_any (L : List UInt8) (wd : Nat) (w : World) (h : wd ≤ 65536) (hl : L.length ≤ 1000000) :
    Calls Tryd.prog 22 #[.string (bL L), .int .i64 wd] w fun e w' => e = .returned (.string (bL (padL L wd))) ∧ Below w.heap.size w w' := by
  have hm : min (wd : Int) 65536 = (wd : Int) := by omega
  have hle : (wd : Int) ≤ 65536 := by omega
  have KF : Calls Tryd.prog 37 #[.string (bL L), .int .i64 wd, .int .u8 32] w fun e w' => e = .returned (.string (bL (padL L wd))) ∧ Below w.heap.size w w' := by
    by_cases q : L.length < wd
    · exact filled_any L wd 32 w q h
    · refine (filled_no L wd 32 w (by omega) hl).mono fun e w' h => ⟨?_, by rw [h.2]; exact Below.refl _ _⟩
      rw [padL_no L wd (by omega)]; exact h.1
  generalize bL (padL L wd) = t at *
  generalize bL L = s at *
  have KF := Lib.hid KF
  clear h hl
  go_enter Tryd.func22, Tryd.ntmps22
  go_wp2_with fail
  refine KF.out.mono ?_
  rintro e w1 ⟨rfl, hb⟩
  go_wp2_with fail
  go_ret
  exact ⟨rfl, hb⟩
theorem bL_cons (x : UInt8) (L : List UInt8) : (ByteArray.mk #[x]) ++ bL L = bL (x :: L) := by unfold bL; simp [ByteArray.mk_append_mk]
set_option maxRecDepth 100000 in
set_option maxHeartbeats 4000000 in
theorem rpad_any (L : List UInt8) (wd : Nat) (w : World) (h : wd ≤ 60) (hl : L.length ≤ 1000000) :
    Calls Tryd.prog 27 #[.string (bL L), .int .i64 wd] w fun e w' => e = .returned (.string (bL (padL L wd))) ∧ w' = w := by
  have hle : ¬ 65536 < (wd : Int) := by omega
  obtain ⟨R, hR⟩ : ∃ R : Ending → World → Prop, (fun (e : Ending) (w' : World) => e = .returned (.string (bL (padL L wd))) ∧ w' = w) = R := ⟨_, rfl⟩
  have HF : Hid (R (.returned (.string (bL (padL L wd)))) w) := Lib.hid (by rw [← hR]; exact ⟨rfl, rfl⟩)
  rw [hR]
  clear hR
  obtain ⟨d, hd⟩ : ∃ d, wd - L.length = d := ⟨_, rfl⟩
  have HP : Hid (padL L wd = List.replicate d 32 ++ L) := Lib.hid (by unfold padL; rw [hd])
  have HD := Lib.hid hd
  clear hd
  go_enter Tryd.func27, Tryd.ntmps27
  go_wp2_with fail
  go_loopw [0] (fun sv wr => ∃ (k : Nat) (t : ByteArray), k ≤ d ∧ sv = .string t ∧ Hid (t = bL (List.replicate k 32 ++ L)) ∧ w = wr) (fun sv _ => match sv with | .string t => wd - t.size | _ => 0)
  case atStart => exact ⟨0, bL L, Nat.zero_le _, rfl, Lib.hid rfl, rfl⟩
  obtain ⟨k, t, hk, rfl, HT, rfl⟩ := hrel
  have hts : t.size = k + L.length := by rw [HT.out, bL_size, List.length_append, List.length_replicate]
  have HS := Lib.hid hts
  by_cases hkd : k < d
  · have h1 : (t.size : Int) < (wd : Int) := by have := HD.out; omega
    have hmax : ¬ 9223372036854775807 < 1 + t.size := by omega
    have hmax2 : ¬ 9223372036854775807 < (1 : Int) + (t.size : Int) := by omega
    have hc : (ByteArray.mk #[32]) ++ t = bL (List.replicate (k + 1) 32 ++ L) := by rw [HT.out, bL_cons]; rfl
    obtain ⟨u, hu⟩ : ∃ u, bL (List.replicate (k + 1) 32 ++ L) = u := ⟨_, rfl⟩
    rw [hu] at hc
    have HU := Lib.hid hu.symm
    have HM : Hid (wd - u.size < wd - t.size) := Lib.hid (by
      have e : u.size = k + 1 + L.length := by rw [← hu, bL_size, List.length_append, List.length_replicate]
      have := HD.out
      omega)
    clear hts hu
    go_wp2_with fail
    try rw [hc]
    go_roundw
    case rel => first | exact ⟨k + 1, u, by omega, rfl, HU, rfl⟩ | exact ⟨k + 1, u, by omega, rfl, HU, trivial⟩ | exact ⟨k + 1, u, by omega, rfl, HU⟩
    case measure => exact HM.out
  · have hkd' : k = d := by omega
    have h1 : ¬ (t.size : Int) < (wd : Int) := by have := HD.out; omega
    have ht : bL (padL L wd) = t := by rw [HT.out, HP.out, hkd']
    rw [ht] at HF
    clear hts
    go_wp2_with fail
    exact HF.out
/-- a bar's row -/
def lnB (L : List UInt8) (wd K : Nat) (n : Int) : List UInt8 := padL L wd ++ [32, 124] ++ List.replicate K 61 ++ [32] ++ Lib.itoa n ++ [10]
theorem lnB_len {L : List UInt8} {wd K : Nat} {n : Int} (h1 : L.length ≤ 60) (h2 : wd ≤ 60) (h3 : K ≤ 200) (h4 : -9223372036854775808 ≤ n) (h5 : n ≤ 9223372036854775807) : (lnB L wd K n).length ≤ 400 := by
  have := Lib.itoa_length_le n h4 h5
  have := padL_len L wd
  unfold lnB
  simp only [List.length_append, List.length_replicate, List.length_cons, List.length_nil]
  omega
def txB (t : Nat → List UInt8) (z : Nat → Int) (wd G lg : Nat) : Nat → List UInt8
  | 0 => []
  | k + 1 => txB t z wd G lg k ++ lnB (t k) wd (blK (z k).toNat G lg) (z k)
theorem txB_zero (t : Nat → List UInt8) (z : Nat → Int) (wd G lg : Nat) : txB t z wd G lg 0 = [] := rfl
theorem txB_succ (t : Nat → List UInt8) (z : Nat → Int) (wd G lg k : Nat) : txB t z wd G lg (k + 1) = txB t z wd G lg k ++ lnB (t k) wd (blK (z k).toNat G lg) (z k) := rfl
/-- the greatest number; the longest name -/
def mxB (z : Nat → Int) : Nat → Int
  | 0 => 0
  | k + 1 => max (mxB z k) (z k)
theorem mxB_zero (z : Nat → Int) : mxB z 0 = 0 := rfl
theorem mxB_succ (z : Nat → Int) (k : Nat) : mxB z (k + 1) = max (mxB z k) (z k) := rfl
theorem mxB_nn (z : Nat → Int) : ∀ k, 0 ≤ mxB z k
  | 0 => Int.le_refl _
  | k + 1 => by have := mxB_nn z k; rw [mxB_succ]; omega
theorem mxB_le (z : Nat → Int) : ∀ k i, i < k → z i ≤ mxB z k
  | k + 1, i, hi => by
    rw [mxB_succ]
    by_cases q : i = k
    · subst q; omega
    · have := mxB_le z k i (by omega); omega
theorem mxB_bd {z : Nat → Int} : ∀ {k : Nat}, (∀ i, i < k → z i ≤ 9223372036854775807) → mxB z k ≤ 9223372036854775807
  | 0, _ => by rw [mxB_zero]; omega
  | k + 1, h => by have := mxB_bd (k := k) (fun i hi => h i (by omega)); have := h k (by omega); rw [mxB_succ]; omega
def wdB (t : Nat → List UInt8) : Nat → Nat
  | 0 => 0
  | k + 1 => max (wdB t k) (t k).length
theorem wdB_zero (t : Nat → List UInt8) : wdB t 0 = 0 := rfl
theorem wdB_succ (t : Nat → List UInt8) (k : Nat) : wdB t (k + 1) = max (wdB t k) (t k).length := rfl
theorem wdB_bd {t : Nat → List UInt8} : ∀ {k : Nat}, (∀ i, i < k → (t i).length ≤ 60) → wdB t k ≤ 60
  | 0, _ => by rw [wdB_zero]; omega
  | k + 1, h => by have := wdB_bd (k := k) (fun i hi => h i (by omega)); have := h k (by omega); rw [wdB_succ]; omega
def OkB (z : Nat → Int) (n : Nat) (lg : Int) : Prop := ∀ i, i < n → ¬ blBad (z i) (mxB z n) lg
end Go.Proofs.YtncpioakggaehaaDoor
