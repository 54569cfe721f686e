/- want.Beyond at any set, floor and direction. -/
import Derived.Test.YtbjcigkakeffmaaDoorRows
import Derived.Test.YtbjcigkakeffmaaDoorKitM
import Derived.Test.YtbjcigkakeffmaaDoorBitM
import Derived.WalkKit
import Derived.IntWalk
import Derived.Lib.Hide
import Derived.WalkSpells
import Derived.WalkLawsBesides
import Derived.Laws.CopyOwn
import Derived.Deep.QuietTactic
import Derived.Deep.RegionHeld3
import Derived.BigQuiet
import Derived.BigRegion
namespace Go.Proofs.YtbjcigkakeffmaaDoor
open Go.RowKit
set_option linter.unusedSimpArgs false
set_option linter.unusedVariables false
/-- what lies on from a floor in a direction -/
def byF (F : Nat → Bool) (f d : Int) (j : Nat) : Bool := if 0 < d then F j && decide (f < (j : Int)) else if d < 0 then F j && decide ((j : Int) < f) else false
theorem by_up {F : Nat → Bool} {f d : Int} (h : 0 < d) : setV (woutF (fun j => F j && !lowF f j) f) = setV (byF F f d) := setV_congr fun j _ => by
  unfold woutF byF lowF
  rw [if_pos h]
  show (F j && !decide ((j : Int) < f) && !((j : Int) == f)) = (F j && decide (f < (j : Int)))
  rcases Int.lt_trichotomy (j : Int) f with h1 | h1 | h1
  · rw [decide_eq_true h1, decide_eq_false (show ¬ f < (j : Int) by omega)]; simp
  · have e : ((j : Int) == f) = true := by simp [h1]
    rw [e, decide_eq_false (show ¬ f < (j : Int) by omega)]; simp
  · have e : ((j : Int) == f) = false := by rw [beq_eq_false_iff_ne]; omega
    rw [e, decide_eq_false (show ¬ (j : Int) < f by omega), decide_eq_true h1]; simp
theorem by_down {F : Nat → Bool} {f d : Int} (h : d < 0) : (setV fun j => F j && lowF f j) = setV (byF F f d) := setV_congr fun j _ => by
  unfold byF lowF
  rw [if_neg (by omega), if_pos h]
theorem by_none {F : Nat → Bool} {f d : Int} (h : d = 0) : setV (byF F f d) = .agg #[.int .u64 0, .int .u64 0] := by
  subst h
  have : setV (byF F f 0) = setV fun _ => false := setV_congr fun j _ => by unfold byF; simp
  rw [this]
  unfold setV
  rw [word_none.1, word_none.2]
  rfl
set_option maxRecDepth 100000 in
set_option maxHeartbeats 1000000 in
theorem beyond_any (F : Nat → Bool) (f d : Int) (w : World) : Calls Tryd.prog 30 #[setV F, .int .i64 f, .int .i64 d] w fun e w' => e = .returned (setV (byF F f d)) ∧ Below w.heap.size w w' := by
  rcases (show 0 < d ∨ d < 0 ∨ d = 0 by omega) with h | h | h
  · have PF := from_any F f
    have PW := wout_any (fun j => F j && !lowF f j) f
    rw [by_up h] at PW
    unfold setV at PF PW ⊢
    obtain ⟨x, hX⟩ : ∃ x, wordX F = x := ⟨_, rfl⟩
    obtain ⟨y, hY⟩ : ∃ y, wordY F = y := ⟨_, rfl⟩
    obtain ⟨p, hP⟩ : ∃ x, wordX (fun j => F j && !lowF f j) = x := ⟨_, rfl⟩
    obtain ⟨q, hQ⟩ : ∃ y, wordY (fun j => F j && !lowF f j) = y := ⟨_, rfl⟩
    obtain ⟨r, hR⟩ : ∃ x, wordX (byF F f d) = x := ⟨_, rfl⟩
    obtain ⟨t, hT⟩ : ∃ y, wordY (byF F f d) = y := ⟨_, rfl⟩
    simp only [hX, hY, hP, hQ, hR, hT] at PF PW ⊢
    have PFh := Lib.hid PF
    have PWh := Lib.hid PW
    clear PF PW hX hY hP hQ hR hT
    go_enter Tryd.func30, Tryd.ntmps30
    go_wp2_with fail
    obtain ⟨B1, B2, _, BE⟩ := two_blk (w := w) (Below.refl _ ((w.alloc (.cells #[(.int .u64 x : Value), .int .u64 y] 40)).alloc (.cells #[.int .u64 0, .int .u64 0] 40)))
    obtain ⟨V, hV⟩ : ∃ V, (w.alloc (.cells #[(.int .u64 x : Value), .int .u64 y] 40)).alloc (.cells #[.int .u64 0, .int .u64 0] 40) = V := ⟨_, rfl⟩
    rw [hV] at B1 B2 BE ⊢
    have B2h := Lib.hid B2
    have BEh := Lib.hid BE
    clear hV B1 B2 BE
    refine (PFh.out _).mono ?_
    rintro e w1 ⟨rfl, hb⟩
    have B3 := Lib.hid (B2h.out.next hb)
    have E3 := Lib.hid (BEh.out.trans (hb.mono BEh.out.size))
    clear hb
    go_wp2_with fail
    refine (PWh.out _).mono ?_
    rintro e w2 ⟨rfl, hb⟩
    obtain ⟨c0, c1, f0, f1⟩ := (B3.out.next hb).two
    have E4 := Lib.hid (E3.out.trans (hb.mono E3.out.size))
    clear hb
    go_wp2_with fail
    refine bodyPost_ret (v := .agg #[.int .u64 r, .int .u64 t]) (by simp [results, Tryd.results30, go_sem, *]) rfl ⟨rfl, (E4.out.setCell (by show w.heap.size ≤ w.heap.size + 1; omega) _).setCell (by show w.heap.size ≤ w.heap.size + 1; omega) _⟩
  · have PB := below_any F f
    rw [by_down h] at PB
    unfold setV at PB ⊢
    obtain ⟨x, hX⟩ : ∃ x, wordX F = x := ⟨_, rfl⟩
    obtain ⟨y, hY⟩ : ∃ y, wordY F = y := ⟨_, rfl⟩
    obtain ⟨r, hR⟩ : ∃ x, wordX (byF F f d) = x := ⟨_, rfl⟩
    obtain ⟨t, hT⟩ : ∃ y, wordY (byF F f d) = y := ⟨_, rfl⟩
    simp only [hX, hY, hR, hT] at PB ⊢
    have PBh := Lib.hid PB
    clear PB hX hY hR hT
    go_enter Tryd.func30, Tryd.ntmps30
    go_wp2_with fail
    obtain ⟨B1, B2, _, BE⟩ := two_blk (w := w) (Below.refl _ ((w.alloc (.cells #[(.int .u64 x : Value), .int .u64 y] 40)).alloc (.cells #[.int .u64 0, .int .u64 0] 40)))
    obtain ⟨V, hV⟩ : ∃ V, (w.alloc (.cells #[(.int .u64 x : Value), .int .u64 y] 40)).alloc (.cells #[.int .u64 0, .int .u64 0] 40) = V := ⟨_, rfl⟩
    rw [hV] at B1 B2 BE ⊢
    have B2h := Lib.hid B2
    have BEh := Lib.hid BE
    clear hV B1 B2 BE
    refine (PBh.out _).mono ?_
    rintro e w2 ⟨rfl, hb⟩
    obtain ⟨c0, c1, f0, f1⟩ := (B2h.out.next hb).two
    have E4 := Lib.hid (BEh.out.trans (hb.mono BEh.out.size))
    clear hb
    go_wp2_with fail
    refine bodyPost_ret (v := .agg #[.int .u64 r, .int .u64 t]) (by simp [results, Tryd.results30, go_sem, *]) rfl ⟨rfl, (E4.out.setCell (by show w.heap.size ≤ w.heap.size + 1; omega) _).setCell (by show w.heap.size ≤ w.heap.size + 1; omega) _⟩
  · rw [by_none h]
    subst h
    unfold setV
    go_enter Tryd.func30, Tryd.ntmps30
    go_wp2_with fail
    refine bodyPost_ret (v := .agg #[.int .u64 0, .int .u64 0]) (by simp [results, Tryd.results30, go_sem, *]) rfl ⟨rfl, ?_⟩
    first
      | exact ((Below.refl w.heap.size w).alloc (Nat.le_refl _) _).alloc (by simp) _
      | exact Below.setCell (p := ⟨w.heap.size + 1, 1, none⟩) (Below.setCell (p := ⟨w.heap.size + 1, 0, none⟩) (((Below.refl w.heap.size w).alloc (Nat.le_refl _) _).alloc (by simp) _) (by show w.heap.size ≤ w.heap.size + 1; omega) _) (by show w.heap.size ≤ w.heap.size + 1; omega) _
end Go.Proofs.YtbjcigkakeffmaaDoor
