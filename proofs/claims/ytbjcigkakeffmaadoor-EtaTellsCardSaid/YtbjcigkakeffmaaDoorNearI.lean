/- Contract of the law's Within over cars, with all that it tells of a car. -/
import Derived.Test.YtbjcigkakeffmaaDoorRows
import Derived.Test.YtbjcigkakeffmaaDoorKitM
import Derived.Test.YtbjcigkakeffmaaDoorCmp
import Derived.Test.YtbjcigkakeffmaaDoorPlaceA
import Derived.Test.YtbjcigkakeffmaaDoorVetA
import Derived.Test.YtbjcigkakeffmaaDoorVetB
import Derived.Test.YtbjcigkakeffmaaDoorNearC
import Derived.Test.YtbjcigkakeffmaaDoorNearG
import Derived.WalkKit
import Derived.IntWalk
import Derived.Lib.Hide
import Derived.WalkSpells
import Derived.WalkLawsBesides
import Derived.Laws.CopyOwn
import Derived.Laws.MakeOwn
import Derived.Laws.OwnMore
import Derived.OwnWalk
import Derived.Deep.QuietTactic
import Derived.BigQuiet
import Derived.Below
namespace Go.Proofs.YtbjcigkakeffmaaDoor
open Go.RowKit
set_option linter.unusedSimpArgs false
set_option linter.unusedVariables false
def lenOf : Value → Nat
  | .slice _ n _ => n
  | _ => 0
/-- what is told of a car within a building -/
structure InCar (t p d m l : Int) (k : Nat) : Prop where
  p0 : 0 ≤ p
  p1 : p ≤ t
  d0 : -1 ≤ d
  d1 : d ≤ 1
  m0 : 0 ≤ m
  m1 : m ≤ 4
  l0 : 0 ≤ l
  l1 : l ≤ 64
  k1 : k ≤ 64
def InC (v : Nat → Nat → Value) (n : Nat) (t : Int) : Prop := ∀ i, i < n → InCar t (intOf (v i 0)) (intOf (v i 1)) (intOf (v i 2)) (intOf (v i 3)) (lenOf (v i 5))
def WithC (s : Nat → Int) (k : Nat) (v : Nat → Nat → Value) (w : World) (e : Ending) (w' : World) : Prop := ∃ b, e = .returned (.bool b) ∧ Below w.heap.size w w' ∧ (b = true → k ≤ 16 ∧ (2 ≤ s 0 ∧ s 0 ≤ 128) ∧ (1 ≤ s 1 ∧ s 1 ≤ 16) ∧ InC v k ((s 0 - 1) * s 1) ∧ NumsOk (numV (s 0) (s 1) (s 2) (s 3) (s 4) (s 5) (s 6) (s 7) (s 10) (s 11) (s 12)) 11)
theorem withC_no {s : Nat → Int} {k : Nat} {v : Nat → Nat → Value} {w w' : World} (hb : Below w.heap.size w w') : WithC s k v w (.returned (.bool false)) w' := ⟨false, rfl, hb, fun h => by cases h⟩
theorem inC_succ {v : Nat → Nat → Value} {k : Nat} {t : Int} (h : InC v k t) (h1 : InCar t (intOf (v k 0)) (intOf (v k 1)) (intOf (v k 2)) (intOf (v k 3)) (lenOf (v k 5))) : InC v (k + 1) t := fun i hi => by
  by_cases e : i = k
  · rw [e]; exact h1
  · exact h i (by omega)
set_option maxRecDepth 100000 in
set_option maxHeartbeats 4000000 in
theorem withinC_ok (s : Nat → Int) (A C : Option Addr) (n c k d : Nat) (z : Nat → Nat → Int) (v : Nat → Nat → Value) (w : World) (hr : RdZ w 3 A n z) (hv : RdV w 6 shCar C k v) (hn : n ≤ 8) (hk : k ≤ 16)
    (hc : ckA (numV (s 0) (s 1) (s 2) (s 3) (s 4) (s 5) (s 6) (s 7) (s 10) (s 11) (s 12)) (s 9) n z = 0) :
    Calls Tryd.prog 5 #[scnV s A n c, .slice C k d] w (WithC s k v w) := by
  have g := ck_ok hc
  have b0 : 2 ≤ s 0 ∧ s 0 ≤ 128 := by have := g 0 (by decide); unfold inV at this; exact of_decide_eq_true this
  have b1 : 1 ≤ s 1 ∧ s 1 ≤ 16 := by have := g 1 (by decide); unfold inV at this; exact of_decide_eq_true this
  have t0 : 0 ≤ (s 0 - 1) * s 1 := Int.mul_nonneg (by omega) (by omega)
  have t1 : (s 0 - 1) * s 1 ≤ 127 * 16 := Int.mul_le_mul (by omega) (by omega) (by omega) (by omega)
  obtain ⟨t, ht⟩ : ∃ t, (s 0 - 1) * s 1 = t := ⟨_, rfl⟩
  rw [ht] at t0 t1
  have hw : IntKind.i64.wrap ((s 0 - 1) * s 1) = t := by rw [ht]; exact IntWalk.i64_in _ (by omega)
  have KC := fun w (h : RdZ w 3 A n z) => rcheck_any (s 0) (s 1) (s 2) (s 3) (s 4) (s 5) (s 6) (s 7) (s 9) (s 10) (s 11) (s 12) A n c z w h (by omega)
  rw [hc] at KC
  have HC := Lib.hid KC
  have HB0 := Lib.hid ((Below.refl w.heap.size w).alloc (Nat.le_refl _) (.cells (scnC s A n c) 25))
  have BX := Lib.hid (box_new w (scnC s A n c) 25)
  have HRZ := Lib.hid (hr.kept HB0.out)
  have HRV := Lib.hid (hv.kept HB0.out)
  have FIN := Lib.hid (show ∀ X, Below w.heap.size w X → InC v k t → WithC s k v w (.returned (.bool true)) X from fun X h1 h2 => ⟨true, rfl, h1, fun _ => ⟨hk, b0, b1, by rw [ht]; exact h2, g⟩⟩)
  obtain ⟨b00, b01⟩ := b0
  obtain ⟨b10, b11⟩ := b1
  unfold scnV
  clear hr hv hc KC g ht
  go_enter Tryd.func5, Tryd.ntmps5
  go_wp2_with fail
  refine (HC.out _ HRZ.out).mono ?_
  rintro e w1 ⟨rfl, hb1⟩
  have B1 := Lib.hid (HB0.out.trans (hb1.mono HB0.out.size))
  have X1 := Lib.hid (BX.out.next hb1)
  have V1 := Lib.hid (HRV.out.kept hb1)
  clear hb1
  go_wp2_with fail
  go_loopw [5] (fun i wr => ∃ j : Nat, j ≤ k ∧ i = .int .i64 j ∧ Hid (InC v j t) ∧ Below w1.heap.size w1 wr) (fun i _ => k - (intOf i).toNat)
  case atStart => exact ⟨0, by omega, rfl, Lib.hid (fun i hi => absurd hi (by omega)), Below.refl _ _⟩
  case round =>
    obtain ⟨j, hj, rfl, HI, hb⟩ := hrel
    have HB := Lib.hid hb
    have BW := Lib.hid (B1.out.trans (hb.mono B1.out.size))
    by_cases h : j < k
    · have RV := V1.out.kept hb
      obtain ⟨y, bw, R, rk, rc, e0, e1, e2, e3, e4, e5, rm, ⟨y00, y01⟩, ⟨y10, y11⟩⟩ := car_at RV h
      obtain ⟨b, off, rfl, hlt, hcl⟩ := rdV_row RV (by omega) (by omega)
      have c0 : wr.cell? ⟨b, off + j * 6, none⟩ = some (.int .i64 (y 0)) := (hcl j 0 h (by omega)).trans (by rw [e0])
      have c1 := (hcl j 1 h (by omega)).trans (congrArg some e1)
      have c2 := (hcl j 2 h (by omega)).trans (congrArg some e2)
      have c3 := (hcl j 3 h (by omega)).trans (congrArg some e3)
      have c4 := (hcl j 4 h (by omega)).trans (congrArg some e4)
      have c5 := (hcl j 5 h (by omega)).trans (congrArg some e5)
      have X2 := X1.out.next hb
      have f0 : wr.cell? ⟨w.heap.size, 0, none⟩ = some (.int .i64 (s 0)) := X2 0 _ rfl
      have f1 : wr.cell? ⟨w.heap.size, 1, none⟩ = some (.int .i64 (s 1)) := X2 1 _ rfl
      have hgs : w.heap.size < wr.heap.size := lt_of_cell f0
      have I1 := Lib.hid (show InCar t (y 0) (y 1) (y 2) (y 3) rk → InC v (j + 1) t from fun h1 => inC_succ HI.out (by rw [e0, e1, e2, e3, e5]; exact h1))
      obtain ⟨p, hp⟩ : ∃ p, y 0 = p := ⟨_, rfl⟩
      obtain ⟨q, hq⟩ : ∃ q, y 1 = q := ⟨_, rfl⟩
      obtain ⟨mo, hmo⟩ : ∃ p, y 2 = p := ⟨_, rfl⟩
      obtain ⟨le, hle⟩ : ∃ p, y 3 = p := ⟨_, rfl⟩
      rw [hp] at c0 y00 y01
      rw [hq] at c1 y10 y11
      rw [hmo] at c2
      rw [hle] at c3
      rw [hp, hq, hmo, hle] at I1
      unfold maxLen at rm
      clear RV hcl e0 e1 e2 e3 e4 e5 X2 hp hq hmo hle
      go_wp2_with fail
      all_goals first
        | (go_ret
           exact withC_no (BW.out.alloc BW.out.size _))
        | (go_roundw
           case rel => exact ⟨j + 1, by omega, by go_num, Lib.hid (I1.out ⟨by omega, by omega, by omega, by omega, by omega, by omega, by omega, by omega, by omega⟩), HB.out.alloc HB.out.size _⟩
           case measure => simp [intOf]; omega)
    · obtain rfl : j = k := by omega
      go_wp2_with fail
      go_ret
      exact FIN.out _ BW.out HI.out
set_option maxRecDepth 100000 in
set_option maxHeartbeats 1000000 in
theorem withinC_long (s : Nat → Int) (A C : Option Addr) (n c k d : Nat) (v : Nat → Nat → Value) (w : World) (hn : 8 < n) :
    Calls Tryd.prog 5 #[scnV s A n c, .slice C k d] w (WithC s k v w) := by
  unfold scnV
  go_enter Tryd.func5, Tryd.ntmps5
  go_wp2_with fail
  go_ret
  exact withC_no ((Below.refl _ _).alloc (Nat.le_refl _) _)
set_option maxRecDepth 100000 in
set_option maxHeartbeats 1000000 in
theorem withinC_bad (s : Nat → Int) (A C : Option Addr) (n c k d : Nat) (z : Nat → Nat → Int) (v : Nat → Nat → Value) (w : World) (hr : RdZ w 3 A n z) (hn : n ≤ 8)
    (hc : ckA (numV (s 0) (s 1) (s 2) (s 3) (s 4) (s 5) (s 6) (s 7) (s 10) (s 11) (s 12)) (s 9) n z ≠ 0 ∨ 16 < k) :
    Calls Tryd.prog 5 #[scnV s A n c, .slice C k d] w (WithC s k v w) := by
  have KC := fun w (h : RdZ w 3 A n z) => rcheck_any (s 0) (s 1) (s 2) (s 3) (s 4) (s 5) (s 6) (s 7) (s 9) (s 10) (s 11) (s 12) A n c z w h (by omega)
  obtain ⟨r, hR⟩ : ∃ r, ckA (numV (s 0) (s 1) (s 2) (s 3) (s 4) (s 5) (s 6) (s 7) (s 10) (s 11) (s 12)) (s 9) n z = r := ⟨_, rfl⟩
  rw [hR] at hc
  simp only [hR] at KC
  have HC := Lib.hid KC
  have HB0 := Lib.hid ((Below.refl w.heap.size w).alloc (Nat.le_refl _) (.cells (scnC s A n c) 25))
  have HRZ := Lib.hid (hr.kept HB0.out)
  unfold scnV
  clear hr KC hR
  by_cases h0 : r = 0
  · have hk : 16 < k := by rcases hc with c | c; exact absurd h0 c; exact c
    subst h0
    clear hc
    go_enter Tryd.func5, Tryd.ntmps5
    go_wp2_with fail
    refine (HC.out _ HRZ.out).mono ?_
    rintro e w1 ⟨rfl, hb1⟩
    have B1 := Lib.hid (HB0.out.trans (hb1.mono HB0.out.size))
    clear hb1
    go_wp2_with fail
    go_ret
    exact withC_no B1.out
  · have b1 : (r != 0) = true := by rw [bne_iff_ne]; exact h0
    clear hc h0
    go_enter Tryd.func5, Tryd.ntmps5
    go_wp2_with fail
    refine (HC.out _ HRZ.out).mono ?_
    rintro e w1 ⟨rfl, hb1⟩
    have B1 := Lib.hid (HB0.out.trans (hb1.mono HB0.out.size))
    clear hb1
    go_wp2_with fail
    go_ret
    exact withC_no B1.out
theorem withinC_any (s : Nat → Int) (A C : Option Addr) (n c k d : Nat) (z : Nat → Nat → Int) (v : Nat → Nat → Value) (w : World) (hr : RdZ w 3 A n z) (hv : RdV w 6 shCar C k v) :
    Calls Tryd.prog 5 #[scnV s A n c, .slice C k d] w (WithC s k v w) := by
  by_cases hn : 8 < n
  · exact withinC_long s A C n c k d v w hn
  · by_cases hc : ckA (numV (s 0) (s 1) (s 2) (s 3) (s 4) (s 5) (s 6) (s 7) (s 10) (s 11) (s 12)) (s 9) n z = 0
    · by_cases hk : 16 < k
      · exact withinC_bad s A C n c k d z v w hr (by omega) (Or.inr hk)
      · exact withinC_ok s A C n c k d z v w hr hv (by omega) (by omega) hc
    · exact withinC_bad s A C n c k d z v w hr (by omega) (Or.inl hc)
end Go.Proofs.YtbjcigkakeffmaaDoor
