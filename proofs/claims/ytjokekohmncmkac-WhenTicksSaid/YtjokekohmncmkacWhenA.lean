/- Contracts of when.ticks, Total, At, Start. -/
import Derived.Test.YtjokekohmncmkacRows
import Derived.Test.YtjokekohmncmkacRowKit
import Derived.Test.YtjokekohmncmkacRowS
import Derived.Test.YtjokekohmncmkacRowZ
import Derived.Test.YtjokekohmncmkacWhenMath
import Derived.WalkKit
import Derived.IntWalk
import Derived.Lib.Hide
import Derived.WalkSpells
import Derived.WalkLawsBesides
import Derived.Deep.QuietTactic
import Derived.BigQuiet
import Derived.Below
namespace Go.Proofs.Ytjokekohmncmkac
open Go.RowKit
set_option linter.unusedSimpArgs false
set_option linter.unusedVariables false
theorem wret {k : IntKind} {a b : Int} (h : a = b) : Ending.returned (.int k a) = .returned (.int k b) := by rw [h]
set_option maxHeartbeats 400000 in
theorem ticks_any (a t r : Int) (w : World) : Calls Try.prog 58 #[.agg #[.int .i64 a, .int .i64 t, .int .i64 r]] w fun e w' => e = .returned (.int .i64 (cutT t)) ∧ Below w.heap.size w w' := by
  go_enter Try.func58, Try.ntmps58
  go_wp2_with fail
  all_goals
    go_ret
    exact ⟨wret (by unfold cutT; omega), (Below.refl _ _).alloc (Nat.le_refl _) _⟩
set_option maxHeartbeats 400000 in
theorem wtotal_any (A : Option Addr) (c n : Nat) (z : Nat → Nat → Int) (w : World) (hr : RdZ w 3 A n z) (hn : n ≤ 1000000) :
    Calls Try.prog 22 #[.slice A n c] w fun e w' => e = .returned (.int .i64 (seg z n)) ∧ Below w.heap.size w w' := by
  go_enter Try.func22, Try.ntmps22
  go_wp2_with fail
  go_loopw [3, 8] (fun s i wr => ∃ k : Nat, k ≤ n ∧ i = .int .i64 k ∧ s = .int .i64 (seg z k) ∧ Below w.heap.size w wr) (fun _ i _ => n - (intOf i).toNat)
  case atStart => exact ⟨0, by omega, rfl, rfl, Below.refl _ _⟩
  case round =>
    obtain ⟨k, hk, rfl, rfl, hb⟩ := hrel
    have sb := seg_bd z k
    have sc := cutT_bd (z k 1)
    by_cases h : k < n
    · obtain ⟨b, off, rfl, hlt, hc⟩ := rdZ_row (hr.kept hb) (by omega) (by omega)
      have c0 : wr.cell? ⟨b, off + k * 3, none⟩ = _ := hc k 0 h (by omega)
      have c1 := hc k 1 h (by omega)
      have c2 := hc k 2 h (by omega)
      clear hc
      have B1 := Lib.hid (hb.alloc hb.size (.cells #[.int .i64 (z k 0), .int .i64 (z k 1), .int .i64 (z k 2)] 49))
      have SS := Lib.hid (seg_succ z k)
      go_wp2_with (go_at_call 58; refine (ticks_any _ _ _ _).mono ?_; rintro e w1 ⟨rfl, hb1⟩)
      go_roundw
      case rel => exact ⟨k + 1, by omega, by go_num, by rw [SS.out], B1.out.trans (Joins.below_le hb1 (by have := B1.out.size; omega))⟩
      case measure => simp [intOf]; omega
    · obtain rfl : k = n := by omega
      go_wp2_with fail
      go_ret
      exact ⟨rfl, hb⟩
theorem wret2b {k : IntKind} {a b : Int} {c d : Bool} (h : a = b) (h' : c = d) : Ending.returned (.tuple #[.int k a, .bool c]) = .returned (.tuple #[.int k b, .bool d]) := by rw [h, h']
set_option maxHeartbeats 400000 in
theorem wat_any (A : Option Addr) (c n : Nat) (z : Nat → Nat → Int) (t : Int) (w : World) (hr : RdZ w 3 A n z) (hn : n ≤ 1000000) :
    Calls Try.prog 20 #[.slice A n c, .int .i64 t] w fun e w' => e = .returned (.tuple #[.int .i64 (atV z t n : Nat), .bool (atF z t n)]) ∧ Below w.heap.size w w' := by
  by_cases ht : t < 0
  · have E1 := Lib.hid (atV_none (z := z) (t := t) (n := n) (.inl ht) n (Nat.le_refl _))
    have E2 := Lib.hid (atF_no (z := z) (t := t) (n := n) (.inl ht))
    go_enter Try.func20, Try.ntmps20
    go_wp2_with fail
    go_ret2
    exact ⟨wret2b (by rw [E1.out]; rfl) E2.out.symm, Below.refl _ _⟩
  · go_enter Try.func20, Try.ntmps20
    go_wp2_with fail
    go_loopw [6, 13] (fun s i wr => ∃ k : Nat, k ≤ n ∧ i = .int .i64 k ∧ s = .int .i64 (seg z k) ∧ seg z k ≤ t ∧ Below w.heap.size w wr) (fun _ i _ => n - (intOf i).toNat)
    case atStart => exact ⟨0, by omega, rfl, rfl, by rw [seg_zero]; omega, Below.refl _ _⟩
    case round =>
      obtain ⟨k, hk, rfl, rfl, hs, hb⟩ := hrel
      have sb := seg_bd z k
      have sc := cutT_bd (z k 1)
      by_cases h : k < n
      · obtain ⟨b, off, rfl, hlt, hc⟩ := rdZ_row (hr.kept hb) (by omega) (by omega)
        have c0 : wr.cell? ⟨b, off + k * 3, none⟩ = _ := hc k 0 h (by omega)
        have c1 := hc k 1 h (by omega)
        have c2 := hc k 2 h (by omega)
        clear hc
        have B1 := Lib.hid (hb.alloc hb.size (.cells #[.int .i64 (z k 0), .int .i64 (z k 1), .int .i64 (z k 2)] 49))
        have SS := Lib.hid (seg_succ z k)
        by_cases hend : t < seg z k + cutT (z k 1)
        · have E1 := Lib.hid (atV_is (z := z) (t := t) (i := k) ⟨hs, by rw [seg_succ]; exact hend⟩ n h)
          have E2 := Lib.hid (atF_yes (z := z) (t := t) (i := k) (n := n) ⟨hs, by rw [seg_succ]; exact hend⟩ h)
          go_wp2_with (go_at_call 58; refine (ticks_any _ _ _ _).mono ?_; rintro e w1 ⟨rfl, hb1⟩)
          go_ret2
          exact ⟨wret2b (by rw [E1.out]) E2.out.symm, B1.out.trans (Joins.below_le hb1 (by have := B1.out.size; omega))⟩
        · go_wp2_with (go_at_call 58; refine (ticks_any _ _ _ _).mono ?_; rintro e w1 ⟨rfl, hb1⟩)
          go_roundw
          case rel => exact ⟨k + 1, by omega, by go_num, by rw [SS.out], by rw [SS.out]; omega, B1.out.trans (Joins.below_le hb1 (by have := B1.out.size; omega))⟩
          case measure => simp [intOf]; omega
      · obtain rfl : k = n := by omega
        have E1 := Lib.hid (atV_none (z := z) (t := t) (n := k) (.inr hs) k (Nat.le_refl _))
        have E2 := Lib.hid (atF_no (z := z) (t := t) (n := k) (.inr hs))
        go_wp2_with fail
        go_ret2
        exact ⟨wret2b (by rw [E1.out]; rfl) E2.out.symm, hb⟩
/-- where a segment begins; 0: there is none -/
def stV (z : Nat → Nat → Int) (n : Nat) (i : Int) : Int := if 0 ≤ i ∧ i < n then seg z i.toNat else 0
def stF (n : Nat) (i : Int) : Bool := decide (0 ≤ i ∧ i < n)
theorem st_no {z : Nat → Nat → Int} {n : Nat} {i : Int} (h : i < 0 ∨ n ≤ i) : stV z n i = 0 ∧ stF n i = false := by
  unfold stV stF; rw [if_neg (by omega)]; exact ⟨rfl, decide_eq_false (by omega)⟩
theorem st_yes {z : Nat → Nat → Int} {n k : Nat} (h : k < n) : stV z n k = seg z k ∧ stF n k = true := by
  unfold stV stF; rw [if_pos (by omega), Int.toNat_natCast]; exact ⟨rfl, decide_eq_true (by omega)⟩
set_option maxHeartbeats 400000 in
theorem wstart_any (A : Option Addr) (c n : Nat) (z : Nat → Nat → Int) (i : Int) (w : World) (hr : RdZ w 3 A n z) (hn : n ≤ 1000000) (hcn : n ≤ c) (hcm : c ≤ maxLen) :
    Calls Try.prog 21 #[.slice A n c, .int .i64 i] w fun e w' => e = .returned (.tuple #[.int .i64 (stV z n i), .bool (stF n i)]) ∧ Below w.heap.size w w' := by
  unfold maxLen at hcm
  by_cases h1 : i < 0
  · have E := Lib.hid (st_no (z := z) (n := n) (i := i) (.inl h1))
    go_enter Try.func21, Try.ntmps21
    go_wp2_with fail
    go_ret2
    exact ⟨wret2b E.out.1.symm E.out.2.symm, Below.refl _ _⟩
  · obtain ⟨k, rfl⟩ := Int.eq_ofNat_of_zero_le (show 0 ≤ i by omega)
    by_cases h2 : n ≤ k
    · have E := Lib.hid (st_no (z := z) (n := n) (i := (k : Int)) (.inr (by omega)))
      go_enter Try.func21, Try.ntmps21
      go_wp2_with fail
      go_ret2
      exact ⟨wret2b E.out.1.symm E.out.2.symm, Below.refl _ _⟩
    · have E := Lib.hid (st_yes (z := z) (n := n) (k := k) (by omega))
      obtain ⟨b, off, rfl, _, _⟩ := rdZ_row hr (by omega) (by omega)
      have h3 : k < n := by omega
      have h4 : k ≤ c := by omega
      go_enter Try.func21, Try.ntmps21
      go_wp2_with (go_at_call 22; refine (wtotal_any _ _ _ _ _ (rdZ_less hr (by omega)) (by omega)).mono ?_; rintro e w1 ⟨rfl, hb1⟩)
      go_ret2
      exact ⟨wret2b E.out.1.symm E.out.2.symm, hb1⟩
set_option maxHeartbeats 400000 in
theorem wcut_any (t : Int) (w : World) : Calls Try.prog 19 #[.int .i64 t, .int .i64 0, .int .i64 1048576] w fun e w' => e = .returned (.int .i64 (cutT t)) ∧ w = w' := by
  go_enter Try.func19, Try.ntmps19
  go_wp2_with fail
  all_goals
    go_ret
    exact ⟨wret (by unfold cutT; omega), rfl⟩
def zalive (i j : Nat) : Int := ([0, 5, 0, 0, 3, 0] : List Int).getD (i * 3 + j) 0
theorem zal_rd (w : World) : RdZ (w.alloc (.cells #[.int .i64 0, .int .i64 5, .int .i64 0, .int .i64 0, .int .i64 3, .int .i64 0] 49)) 3 (some ⟨w.heap.size, 0, none⟩) 2 zalive := by
  refine rdZ_mk (fun i j hi hj => ?_) (by simp)
  match i, j, hi, hj with
  | 0, 0, _, _ => exact ⟨by simp [World.cell?_alloc_mark]; rfl, by decide⟩
  | 0, 1, _, _ => exact ⟨by simp [World.cell?_alloc_mark]; rfl, by decide⟩
  | 0, 2, _, _ => exact ⟨by simp [World.cell?_alloc_mark]; rfl, by decide⟩
  | 1, 0, _, _ => exact ⟨by simp [World.cell?_alloc_mark]; rfl, by decide⟩
  | 1, 1, _, _ => exact ⟨by simp [World.cell?_alloc_mark]; rfl, by decide⟩
  | 1, 2, _, _ => exact ⟨by simp [World.cell?_alloc_mark]; rfl, by decide⟩
set_option maxHeartbeats 400000 in
theorem walive (w : World) : Calls Try.prog 23 #[] w fun e w' => e = .returned (.bool true) ∧ Below w.heap.size w w' := by
  have L := fun W (hr : RdZ W 3 (some ⟨w.heap.size, 0, none⟩) 2 zalive) => wat_any (some ⟨w.heap.size, 0, none⟩) 2 2 zalive 6 W hr (by decide)
  rw [show atV zalive 6 2 = 1 by decide, show atF zalive 6 2 = true by decide] at L
  have HL := Lib.hid L
  clear L
  go_enter Try.func23, Try.ntmps23
  go_wp2_with (go_at_call 20; refine (HL.out _ (zal_rd w)).mono ?_; rintro e w1 ⟨rfl, hb1⟩)
  · go_ret
    exact ⟨rfl, ((Below.refl _ _).alloc (Nat.le_refl _) _).trans (Joins.below_le hb1 (by simp))⟩
end Go.Proofs.Ytjokekohmncmkac
