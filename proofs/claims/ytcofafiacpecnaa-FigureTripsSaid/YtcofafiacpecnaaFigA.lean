/- Contracts of figure.Handling, over, Load. -/
import Derived.Test.YtcofafiacpecnaaRows
import Derived.Test.YtcofafiacpecnaaRowKit
import Derived.Test.YtcofafiacpecnaaRowS
import Derived.Test.YtcofafiacpecnaaRowZ
import Derived.Test.YtcofafiacpecnaaTripMath
import Derived.Test.YtcofafiacpecnaaTripA
import Derived.Test.YtcofafiacpecnaaTripC
import Derived.Test.YtcofafiacpecnaaFracA
import Derived.WalkKit
import Derived.IntWalk
import Derived.Lib.Hide
import Derived.WalkSpells
import Derived.WalkLawsBesides
import Derived.Deep.QuietTactic
import Derived.Deep.RegionHeld3
import Derived.BigQuiet
import Derived.Below
namespace Go.Proofs.Ytcofafiacpecnaa
open Go.RowKit
set_option linter.unusedSimpArgs false
set_option linter.unusedVariables false
theorem fret {k : IntKind} {a b : Int} (h : a = b) : Ending.returned (.int k a) = .returned (.int k b) := by rw [h]
set_option maxHeartbeats 400000 in
theorem handling_no (A : Option Addr) (c n : Nat) (h : Int) (w : World) (hh : h < 1) :
    Calls Try.prog 44 #[.slice A n c, .int .i64 h] w fun e w' => e = .returned (.int .i64 0) ∧ w = w' := by
  go_enter Try.func44, Try.ntmps44
  go_wp2_with fail
  go_ret
  exact ⟨rfl, rfl⟩
set_option maxHeartbeats 400000 in
theorem handling_ok (A : Option Addr) (c n : Nat) (h : Int) (z : Nat → Nat → Int) (w : World) (hr : RdZ w 7 A n z) (hn : n ≤ 1000) (h1 : 1 ≤ h) :
    Calls Try.prog 44 #[.slice A n c, .int .i64 h] w fun e w' => e = .returned (.int .i64 ((cntV z 2 n : Int) * 300 / h)) ∧ Below w.heap.size w w' := by
  have K := Lib.hid (tcounts_any A c n z w hr (by omega))
  have le := cnt_le z 2 n
  obtain ⟨x, hx⟩ : ∃ x, cntV z 2 n = x := ⟨_, rfl⟩
  rw [hx] at K le ⊢
  have hz : (h == 0) = false := by rw [beq_eq_false_iff_ne]; omega
  clear hx
  go_enter Try.func44, Try.ntmps44
  go_wp2_with (go_at_call 86; refine (K.out).mono ?_; rintro e w1 ⟨rfl, hb1⟩)
  go_ret
  exact ⟨rfl, hb1⟩
set_option maxHeartbeats 400000 in
theorem over_ok (n m : Int) (w : World) (h : 0 ≤ n) (h' : 1 ≤ m) (h1 : n ≤ 9223372036854775807) :
    Calls Try.prog 84 #[.int .i64 n, .int .i64 m] w fun e w' => e = .returned (.tuple #[.agg #[.int .i64 (n / m), .int .i64 (n % m), .int .i64 m], .bool true]) ∧ Below w.heap.size w w' := by
  have K := fun w => of_ok n m w h h' h1
  obtain ⟨x, hx⟩ : ∃ x, n / m = x := ⟨_, rfl⟩
  obtain ⟨y, hy⟩ : ∃ y, n % m = y := ⟨_, rfl⟩
  rw [hx, hy] at K ⊢
  have HK := Lib.hid K
  clear K hx hy h h' h1
  go_enter Try.func84, Try.ntmps84
  go_wp2_with (go_at_call 108; refine (HK.out _).mono ?_; rintro e w1 ⟨rfl, hb1⟩; obtain ⟨hc1, hf1⟩ := bcell hb1; have hz1 : w.heap.size < w1.heap.size := (by have := hb1.size; simp at this; omega))
  refine bodyPost_ret (v := .tuple #[.agg #[.int .i64 x, .int .i64 y, .int .i64 m], .bool true]) (by simp [results, Try.results84, go_sem, hc1, hz1]) rfl ⟨rfl, ?_⟩
  exact (((((Below.refl _ _).alloc (Nat.le_refl _) _).trans (hb1.mono (by simp))).setCell (by simp) _).setCell (by simp) _).setCell (by simp) _ |>.alloc (by simp; omega) _
set_option maxHeartbeats 400000 in
theorem load_no (A : Option Addr) (c n : Nat) (k h : Int) (w : World) (hh : k < 1 ∨ h < 1) :
    Calls Try.prog 43 #[.slice A n c, .int .i64 k, .int .i64 h] w fun e w' => e = .returned (.tuple #[.agg #[.int .i64 0, .int .i64 0, .int .i64 0], .bool false]) ∧ Below w.heap.size w w' := by
  by_cases h1 : k < 1
  · clear hh
    go_enter Try.func43, Try.ntmps43
    go_wp2_with fail
    refine bodyPost_ret (v := .tuple #[.agg #[.int .i64 0, .int .i64 0, .int .i64 0], .bool false]) (by simp [results, Try.results43, go_sem]) rfl ⟨rfl, ?_⟩
    exact (Below.refl _ _).alloc (Nat.le_refl _) _
  · have h2 : h < 1 := by omega
    clear hh
    go_enter Try.func43, Try.ntmps43
    go_wp2_with fail
    refine bodyPost_ret (v := .tuple #[.agg #[.int .i64 0, .int .i64 0, .int .i64 0], .bool false]) (by simp [results, Try.results43, go_sem]) rfl ⟨rfl, ?_⟩
    exact (Below.refl _ _).alloc (Nat.le_refl _) _
set_option maxHeartbeats 400000 in
theorem load_ok (A : Option Addr) (c n : Nat) (k h m x : Int) (z : Nat → Nat → Int) (w : World) (hr : RdZ w 7 A n z) (hn : n ≤ 1000) (hz : TBd z n) (h1 : 1 ≤ h) (h2 : h ≤ 1073741824) (k1 : 1 ≤ k) (hm : k * h = m) (m0 : 1 ≤ m) (m1 : m ≤ 9223372036854775807) (hx : aboardV z h n = x) :
    Calls Try.prog 43 #[.slice A n c, .int .i64 k, .int .i64 h] w fun e w' => e = .returned (.tuple #[.agg #[.int .i64 (x / m), .int .i64 (x % m), .int .i64 m], .bool true]) ∧ Below w.heap.size w w' := by
  have hw : IntKind.i64.wrap (k * h) = m := by rw [hm]; exact IntWalk.i64_in _ (by omega)
  have K := fun w (hr : RdZ w 7 A n z) => aboard_any A c n h z w hr hn hz (by omega) h2
  have bd := aboard_bd z h2 n
  simp only [hx] at K
  rw [hx] at bd
  have HK := Lib.hid K
  have O := Lib.hid (fun w => over_ok x m w bd.1 m0 (by omega))
  clear hm hx bd K
  obtain ⟨a, ha⟩ : ∃ a, x / m = a := ⟨_, rfl⟩
  obtain ⟨b, hb⟩ : ∃ b, x % m = b := ⟨_, rfl⟩
  rw [ha, hb] at O ⊢
  clear ha hb
  go_enter Try.func43, Try.ntmps43
  go_wp2_with (first
    | (go_at_call 85; refine (HK.out _ (hr.kept (Joins.below_alloc1 w _))).mono ?_; rintro e w1 ⟨rfl, hb1⟩; obtain ⟨hc1, hf1⟩ := bcell hb1; have hz1 : w.heap.size < w1.heap.size := (by have := hb1.size; simp at this; omega))
    | (go_at_call 84; refine (O.out _).mono ?_; rintro e w2 ⟨rfl, hb2⟩; obtain ⟨hc2, hf2⟩ := bcell hb2; have hz2 : w.heap.size < w2.heap.size := (by have := hb1.size; have := hb2.size; simp at *; omega)))
  refine bodyPost_ret (v := .tuple #[.agg #[.int .i64 a, .int .i64 b, .int .i64 m], .bool true]) (by simp [results, Try.results43, go_sem, hc1, hz1, hc2, hz2]) rfl ⟨rfl, ?_⟩
  exact ((((((Below.refl _ _).alloc (Nat.le_refl _) _).trans (hb1.mono (by simp))).trans (hb2.mono (by omega))).setCell (by simp) _).setCell (by simp) _).setCell (by simp) _
end Go.Proofs.Ytcofafiacpecnaa
