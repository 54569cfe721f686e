/- Contracts of vet.Bounds and vet.In. -/
import Derived.Test.YtmnildjcnpfddaaDoorRows
import Derived.Test.YtmnildjcnpfddaaDoorRowKit
import Derived.Test.YtmnildjcnpfddaaDoorRowS
import Derived.Test.YtmnildjcnpfddaaDoorRowZ
import Derived.Test.YtmnildjcnpfddaaDoorBlocks
import Derived.Test.YtmnildjcnpfddaaDoorVetA
import Derived.Test.YtmnildjcnpfddaaDoorVetB
import Derived.WalkKit
import Derived.IntWalk
import Derived.Lib.Hide
import Derived.Lib.SmallJoins
import Derived.WalkSpells
import Derived.WalkLawsBesides
import Derived.Deep.QuietTactic
import Derived.Deep.RegionHeld3
import Derived.Deep.LoopGhost
import Derived.BigQuiet
import Derived.Below
import Derived.Lib.Strings
namespace Go.Proofs.YtmnildjcnpfddaaDoor
open Go.RowKit
set_option linter.unusedSimpArgs false
set_option linter.unusedVariables false
theorem name_ne {s t : ByteArray} (h : t ≠ s) : (s.toList == t.toList) = false := by rw [beq_eq_false_iff_ne, Lib.toList_data, Lib.toList_data]; exact fun e => h (Go.WideShapes.bytes_inj e).symm
theorem name_neL {s t : ByteArray} {l : List UInt8} (hl : t.data.toList = l) (h : t ≠ s) : (s.toList == l) = false := by rw [← hl, ← Lib.toList_data]; exact name_ne h
set_option maxHeartbeats 1000000 in
theorem pbounds_0 (w : World) : Calls Tryd.prog 26 #[.string ⟨#[102, 108, 111, 111, 114, 115]⟩] w fun e w' => e = .returned (.tuple #[.int .i64 2, .int .i64 128, .bool true]) ∧ w = w' := by
  go_enter Tryd.func26, Tryd.ntmps26
  go_wp2_with fail
  go_ret3
  exact ⟨rfl, rfl⟩
set_option maxHeartbeats 1000000 in
theorem pbounds_1 (w : World) : Calls Tryd.prog 26 #[.string ⟨#[103, 97, 112]⟩] w fun e w' => e = .returned (.tuple #[.int .i64 1, .int .i64 16, .bool true]) ∧ w = w' := by
  go_enter Tryd.func26, Tryd.ntmps26
  go_wp2_with fail
  go_ret3
  exact ⟨rfl, rfl⟩
set_option maxHeartbeats 1000000 in
theorem pbounds_2 (w : World) : Calls Tryd.prog 26 #[.string ⟨#[99, 97, 114, 115]⟩] w fun e w' => e = .returned (.tuple #[.int .i64 1, .int .i64 16, .bool true]) ∧ w = w' := by
  go_enter Tryd.func26, Tryd.ntmps26
  go_wp2_with fail
  go_ret3
  exact ⟨rfl, rfl⟩
set_option maxHeartbeats 1000000 in
theorem pbounds_3 (w : World) : Calls Tryd.prog 26 #[.string ⟨#[99, 97, 112, 97, 99, 105, 116, 121]⟩] w fun e w' => e = .returned (.tuple #[.int .i64 1, .int .i64 64, .bool true]) ∧ w = w' := by
  go_enter Tryd.func26, Tryd.ntmps26
  go_wp2_with fail
  go_ret3
  exact ⟨rfl, rfl⟩
set_option maxHeartbeats 1000000 in
theorem pbounds_4 (w : World) : Calls Tryd.prog 26 #[.string ⟨#[111, 112, 101, 110]⟩] w fun e w' => e = .returned (.tuple #[.int .i64 1, .int .i64 64, .bool true]) ∧ w = w' := by
  go_enter Tryd.func26, Tryd.ntmps26
  go_wp2_with fail
  go_ret3
  exact ⟨rfl, rfl⟩
set_option maxHeartbeats 1000000 in
theorem pbounds_5 (w : World) : Calls Tryd.prog 26 #[.string ⟨#[100, 119, 101, 108, 108]⟩] w fun e w' => e = .returned (.tuple #[.int .i64 1, .int .i64 64, .bool true]) ∧ w = w' := by
  go_enter Tryd.func26, Tryd.ntmps26
  go_wp2_with fail
  go_ret3
  exact ⟨rfl, rfl⟩
set_option maxHeartbeats 1000000 in
theorem pbounds_6 (w : World) : Calls Tryd.prog 26 #[.string ⟨#[99, 108, 111, 115, 101]⟩] w fun e w' => e = .returned (.tuple #[.int .i64 1, .int .i64 64, .bool true]) ∧ w = w' := by
  go_enter Tryd.func26, Tryd.ntmps26
  go_wp2_with fail
  go_ret3
  exact ⟨rfl, rfl⟩
set_option maxHeartbeats 1000000 in
theorem pbounds_7 (w : World) : Calls Tryd.prog 26 #[.string ⟨#[116, 114, 97, 110, 115, 102, 101, 114]⟩] w fun e w' => e = .returned (.tuple #[.int .i64 1, .int .i64 64, .bool true]) ∧ w = w' := by
  go_enter Tryd.func26, Tryd.ntmps26
  go_wp2_with fail
  go_ret3
  exact ⟨rfl, rfl⟩
set_option maxHeartbeats 1000000 in
theorem pbounds_8 (w : World) : Calls Tryd.prog 26 #[.string ⟨#[116, 105, 99, 107, 115]⟩] w fun e w' => e = .returned (.tuple #[.int .i64 1, .int .i64 1048576, .bool true]) ∧ w = w' := by
  go_enter Tryd.func26, Tryd.ntmps26
  go_wp2_with fail
  go_ret3
  exact ⟨rfl, rfl⟩
set_option maxHeartbeats 1000000 in
theorem pbounds_9 (w : World) : Calls Tryd.prog 26 #[.string ⟨#[104, 111, 114, 105, 122, 111, 110]⟩] w fun e w' => e = .returned (.tuple #[.int .i64 1, .int .i64 1048576, .bool true]) ∧ w = w' := by
  go_enter Tryd.func26, Tryd.ntmps26
  go_wp2_with fail
  go_ret3
  exact ⟨rfl, rfl⟩
set_option maxHeartbeats 1000000 in
theorem pbounds_10 (w : World) : Calls Tryd.prog 26 #[.string ⟨#[114, 97, 116, 101]⟩] w fun e w' => e = .returned (.tuple #[.int .i64 0, .int .i64 4000, .bool true]) ∧ w = w' := by
  go_enter Tryd.func26, Tryd.ntmps26
  go_wp2_with fail
  go_ret3
  exact ⟨rfl, rfl⟩
set_option maxHeartbeats 1000000 in
theorem pbounds_11 (w : World) : Calls Tryd.prog 26 #[.string ⟨#[98, 105, 110, 115]⟩] w fun e w' => e = .returned (.tuple #[.int .i64 1, .int .i64 64, .bool true]) ∧ w = w' := by
  go_enter Tryd.func26, Tryd.ntmps26
  go_wp2_with fail
  go_ret3
  exact ⟨rfl, rfl⟩
set_option maxHeartbeats 1000000 in
theorem pbounds_12 (w : World) : Calls Tryd.prog 26 #[.string ⟨#[119, 105, 100, 116, 104]⟩] w fun e w' => e = .returned (.tuple #[.int .i64 1, .int .i64 4096, .bool true]) ∧ w = w' := by
  go_enter Tryd.func26, Tryd.ntmps26
  go_wp2_with fail
  go_ret3
  exact ⟨rfl, rfl⟩
set_option maxHeartbeats 2000000 in
theorem pbounds_no (s : ByteArray) (w : World) (h : ∀ k, k < 13 → nm k ≠ s) : Calls Tryd.prog 26 #[.string s] w fun e w' => e = .returned (.tuple #[.int .i64 0, .int .i64 0, .bool false]) ∧ w = w' := by
  have q0 : (s.toList == [102, 108, 111, 111, 114, 115]) = false := name_neL rfl (h 0 (by decide))
  have q1 : (s.toList == [103, 97, 112]) = false := name_neL rfl (h 1 (by decide))
  have q2 : (s.toList == [99, 97, 114, 115]) = false := name_neL rfl (h 2 (by decide))
  have q3 : (s.toList == [99, 97, 112, 97, 99, 105, 116, 121]) = false := name_neL rfl (h 3 (by decide))
  have q4 : (s.toList == [111, 112, 101, 110]) = false := name_neL rfl (h 4 (by decide))
  have q5 : (s.toList == [100, 119, 101, 108, 108]) = false := name_neL rfl (h 5 (by decide))
  have q6 : (s.toList == [99, 108, 111, 115, 101]) = false := name_neL rfl (h 6 (by decide))
  have q7 : (s.toList == [116, 114, 97, 110, 115, 102, 101, 114]) = false := name_neL rfl (h 7 (by decide))
  have q8 : (s.toList == [116, 105, 99, 107, 115]) = false := name_neL rfl (h 8 (by decide))
  have q9 : (s.toList == [104, 111, 114, 105, 122, 111, 110]) = false := name_neL rfl (h 9 (by decide))
  have q10 : (s.toList == [114, 97, 116, 101]) = false := name_neL rfl (h 10 (by decide))
  have q11 : (s.toList == [98, 105, 110, 115]) = false := name_neL rfl (h 11 (by decide))
  have q12 : (s.toList == [119, 105, 100, 116, 104]) = false := name_neL rfl (h 12 (by decide))
  clear h
  go_enter Tryd.func26, Tryd.ntmps26
  go_wp2_with fail
  go_ret3
  exact ⟨rfl, rfl⟩
theorem pbounds_at (j : Nat) (w : World) (hj : j < 13) : Calls Tryd.prog 26 #[.string (nm j)] w fun e w' => e = .returned (.tuple #[.int .i64 (loB j), .int .i64 (hiB j), .bool true]) ∧ w = w' := by
  match j, hj with
  | 0, _ => exact pbounds_0 w
  | 1, _ => exact pbounds_1 w
  | 2, _ => exact pbounds_2 w
  | 3, _ => exact pbounds_3 w
  | 4, _ => exact pbounds_4 w
  | 5, _ => exact pbounds_5 w
  | 6, _ => exact pbounds_6 w
  | 7, _ => exact pbounds_7 w
  | 8, _ => exact pbounds_8 w
  | 9, _ => exact pbounds_9 w
  | 10, _ => exact pbounds_10 w
  | 11, _ => exact pbounds_11 w
  | 12, _ => exact pbounds_12 w
set_option maxHeartbeats 1000000 in
theorem pin_at (j : Nat) (x : Int) (w : World) (hj : j < 13) :
    Calls Tryd.prog 20 #[.string (nm j), .int .i64 x] w fun e w' => e = .returned (.bool (inV j x)) ∧ w = w' := by
  have C := fun w => pbounds_at j w hj
  obtain ⟨s, hs⟩ : ∃ s, nm j = s := ⟨_, rfl⟩
  obtain ⟨a, ha⟩ : ∃ a, loB j = a := ⟨_, rfl⟩
  obtain ⟨b, hb⟩ : ∃ b, hiB j = b := ⟨_, rfl⟩
  rw [hs, ha, hb] at C
  have E : inV j x = decide (a ≤ x ∧ x ≤ b) := by unfold inV; rw [ha, hb]
  rw [hs, E]
  have HC := Lib.hid C
  clear C hs ha hb E
  by_cases h1 : a ≤ x
  · by_cases h2 : x ≤ b
    · have D := Lib.hid (decide_eq_true (And.intro h1 h2))
      go_enter Tryd.func20, Tryd.ntmps20
      go_wp2_with (go_at_call 26; refine (HC.out _).mono ?_; rintro e w1 ⟨rfl, rfl⟩)
      go_ret
      exact ⟨vretB (by rw [D.out]), rfl⟩
    · have D := Lib.hid (decide_eq_false (show ¬ (a ≤ x ∧ x ≤ b) by omega))
      have h3 : decide (x ≤ b) = false := decide_eq_false h2
      go_enter Tryd.func20, Tryd.ntmps20
      go_wp2_with (go_at_call 26; refine (HC.out _).mono ?_; rintro e w1 ⟨rfl, rfl⟩)
      go_ret
      exact ⟨vretB (by rw [D.out]), rfl⟩
  · have D := Lib.hid (decide_eq_false (show ¬ (a ≤ x ∧ x ≤ b) by omega))
    go_enter Tryd.func20, Tryd.ntmps20
    go_wp2_with (go_at_call 26; refine (HC.out _).mono ?_; rintro e w1 ⟨rfl, rfl⟩)
    go_ret
    exact ⟨vretB (by first | rw [D.out] | (rw [show decide (a ≤ x) = false from decide_eq_false (by omega)]; rfl)), rfl⟩
set_option maxHeartbeats 1000000 in
theorem pin_no (s : ByteArray) (x : Int) (w : World) (h : ∀ k, k < 13 → nm k ≠ s) :
    Calls Tryd.prog 20 #[.string s, .int .i64 x] w fun e w' => e = .returned (.bool false) ∧ w = w' := by
  have HC := Lib.hid (fun w => pbounds_no s w h)
  clear h
  go_enter Tryd.func20, Tryd.ntmps20
  go_wp2_with (go_at_call 26; refine (HC.out _).mono ?_; rintro e w1 ⟨rfl, rfl⟩)
  go_ret
  exact ⟨rfl, rfl⟩
set_option maxHeartbeats 1000000 in
theorem rin_no (s : ByteArray) (x : Int) (w : World) (h : ∀ k, k < 13 → nm k ≠ s) :
    Calls Tryd.prog 23 #[.string s, .int .i64 x] w fun e w' => e = .returned (.bool false) ∧ Below w.heap.size w w' := by
  have HC := Lib.hid (fun w => rbounds_at s 13 w (by omega) (fun k hk => h k hk) (fun h => absurd h (by omega)))
  clear h
  go_enter Tryd.func23, Tryd.ntmps23
  go_wp2_with (go_at_call 30; refine (HC.out _).mono ?_; rintro e w1 ⟨rfl, hb1⟩)
  go_ret
  exact ⟨rfl, hb1⟩
theorem pin_ticks (x : Int) (w : World) : Calls Tryd.prog 20 #[.string ⟨#[116, 105, 99, 107, 115]⟩, .int .i64 x] w fun e w' => e = .returned (.bool (inV 8 x)) ∧ w = w' := pin_at 8 x w (by decide)
theorem pin_rate (x : Int) (w : World) : Calls Tryd.prog 20 #[.string ⟨#[114, 97, 116, 101]⟩, .int .i64 x] w fun e w' => e = .returned (.bool (inV 10 x)) ∧ w = w' := pin_at 10 x w (by decide)
/-- the numbers of a scenario, as the program lays them: a name and a number each -/
def NT (w : World) (g : Nat) (x : Nat → Int) : Prop := ∀ k, k < 11 → w.cell? ⟨g, k * 2, none⟩ = some (.string (nm (nmX k))) ∧ w.cell? ⟨g, k * 2 + 1, none⟩ = some (.int .i64 (x k))
theorem NT.next {w w' : World} {g : Nat} {x : Nat → Int} (h : NT w g x) (hb : Below w.heap.size w w') : NT w' g x := fun k hk => ⟨keepv hb (h k hk).1, keepv hb (h k hk).2⟩
theorem blk_new2 (w : World) (o : Obj) (cs : Array Value) (t : TypeId) : Blk ((w.alloc o).alloc (.cells cs t)) (w.heap.size + 1) t cs := by have := Blk.new (w.alloc o) cs t; rwa [World.size_alloc] at this
set_option maxRecDepth 100000 in
set_option maxHeartbeats 4000000 in
theorem numbers_any (s0 s1 s2 s3 s4 s5 s6 s7 s9 s10 s11 s12 : Int) (A : Option Addr) (n c : Nat) (w : World) :
    Calls Tryd.prog 19 #[.agg #[.int .i64 s0, .int .i64 s1, .int .i64 s2, .int .i64 s3, .int .i64 s4, .int .i64 s5, .int .i64 s6, .int .i64 s7, .slice A n c, .int .i64 s9, .int .i64 s10, .int .i64 s11, .int .i64 s12]] w fun e w' =>
      ∃ g, e = .returned (.slice (some ⟨g, 0, none⟩) 11 11) ∧ NT w' g (numV s0 s1 s2 s3 s4 s5 s6 s7 s10 s11 s12) ∧ Below w.heap.size w w' := by
  go_enter Tryd.func19, Tryd.ntmps19
  go_wp2_with fail
  go_ret
  refine ⟨_, rfl, fun k hk => ?_, ((Below.refl _ _).alloc (Nat.le_refl _) _).alloc (by simp) _⟩
  match k, hk with
  | 0, _ => exact ⟨((blk_new2 _ _ _ _).cell (0 * 2)).trans rfl, ((blk_new2 _ _ _ _).cell (0 * 2 + 1)).trans rfl⟩
  | 1, _ => exact ⟨((blk_new2 _ _ _ _).cell (1 * 2)).trans rfl, ((blk_new2 _ _ _ _).cell (1 * 2 + 1)).trans rfl⟩
  | 2, _ => exact ⟨((blk_new2 _ _ _ _).cell (2 * 2)).trans rfl, ((blk_new2 _ _ _ _).cell (2 * 2 + 1)).trans rfl⟩
  | 3, _ => exact ⟨((blk_new2 _ _ _ _).cell (3 * 2)).trans rfl, ((blk_new2 _ _ _ _).cell (3 * 2 + 1)).trans rfl⟩
  | 4, _ => exact ⟨((blk_new2 _ _ _ _).cell (4 * 2)).trans rfl, ((blk_new2 _ _ _ _).cell (4 * 2 + 1)).trans rfl⟩
  | 5, _ => exact ⟨((blk_new2 _ _ _ _).cell (5 * 2)).trans rfl, ((blk_new2 _ _ _ _).cell (5 * 2 + 1)).trans rfl⟩
  | 6, _ => exact ⟨((blk_new2 _ _ _ _).cell (6 * 2)).trans rfl, ((blk_new2 _ _ _ _).cell (6 * 2 + 1)).trans rfl⟩
  | 7, _ => exact ⟨((blk_new2 _ _ _ _).cell (7 * 2)).trans rfl, ((blk_new2 _ _ _ _).cell (7 * 2 + 1)).trans rfl⟩
  | 8, _ => exact ⟨((blk_new2 _ _ _ _).cell (8 * 2)).trans rfl, ((blk_new2 _ _ _ _).cell (8 * 2 + 1)).trans rfl⟩
  | 9, _ => exact ⟨((blk_new2 _ _ _ _).cell (9 * 2)).trans rfl, ((blk_new2 _ _ _ _).cell (9 * 2 + 1)).trans rfl⟩
  | 10, _ => exact ⟨((blk_new2 _ _ _ _).cell (10 * 2)).trans rfl, ((blk_new2 _ _ _ _).cell (10 * 2 + 1)).trans rfl⟩
end Go.Proofs.YtmnildjcnpfddaaDoor
