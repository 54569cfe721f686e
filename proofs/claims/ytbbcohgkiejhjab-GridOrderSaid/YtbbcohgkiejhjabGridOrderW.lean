/- The walk of GridOrder: it answers true for every input, and leaves all old blocks as they were. No condition. -/
import Derived.Test.YtbbcohgkiejhjabRows
import Derived.Test.YtbbcohgkiejhjabRowKit
import Derived.Test.YtbbcohgkiejhjabBlocks
import Derived.Test.YtbbcohgkiejhjabCmp
import Derived.Test.YtbbcohgkiejhjabGridA
import Derived.WalkKit
import Derived.ProofKit
import Derived.OpenShut
import Derived.Deep.QuietTactic
import Derived.BigQuiet
import Derived.Lib.SmallJoins
import Derived.Lib.Hide
import Derived.WalkSpells
import Derived.WalkLawsBesides
import Derived.Deep.RegionHeld3
namespace Go.Proofs.Ytbbcohgkiejhjab.gridOrder
open Go.ChangeShapes Go.WideShapes Go.ChangeAt Go.RowKit Go.Joins
set_option linter.unusedSimpArgs false
set_option linter.unusedVariables false

set_option maxRecDepth 100000 in
set_option maxHeartbeats 400000 in
theorem bef_any (a b c d : Int) (w : World) :
    Calls Try.prog 20 #[.agg #[.int .i64 a, .int .i64 b], .agg #[.int .i64 c, .int .i64 d]] w fun e w' => e = .returned (.bool (decide (a < c ∨ a = c ∧ b < d))) ∧ Below w.heap.size w w' := by
  rcases Int.lt_trichotomy a c with h | h | h
  · go_enter Try.func20, Try.ntmps20
    go_wp2_with fail
    try go_quiet (fail)
    go_wp2_with fail
    go_ret
    exact ⟨by simp [h], by repeat (first | exact ((Below.refl _ _).alloc (Nat.le_refl _) _).alloc (by simp) _ | apply below_drewN | apply Below.drew)⟩
  · subst h
    go_enter Try.func20, Try.ntmps20
    go_wp2_with fail
    try go_quiet (fail)
    go_wp2_with fail
    go_ret
    exact ⟨by simp, by repeat (first | exact ((Below.refl _ _).alloc (Nat.le_refl _) _).alloc (by simp) _ | apply below_drewN | apply Below.drew)⟩
  · have h' : ¬ a < c := by omega
    have h2 : ¬ a = c := by omega
    have h3 : (a == c) = false := by simp [h2]
    go_enter Try.func20, Try.ntmps20
    go_wp2_with fail
    try go_quiet (fail)
    go_wp2_with fail
    go_ret
    exact ⟨by simp [h', h2], by repeat (first | exact ((Below.refl _ _).alloc (Nat.le_refl _) _).alloc (by simp) _ | apply below_drewN | apply Below.drew)⟩
set_option maxRecDepth 100000 in
set_option maxHeartbeats 1000000 in
theorem walk_lt (a b c d : Int) (w : World) (h : a < c ∨ a = c ∧ b < d) :
    Calls Try.prog 5 #[.agg #[.int .i64 a, .int .i64 b], .agg #[.int .i64 c, .int .i64 d]] w fun e w' => e = .returned (.bool true) ∧ Below w.heap.size w w' := by
  have hC := fun W => gcompare_any a b c d W
  have hB := fun W => bef_any a b c d W
  have hc : or2 (cmpI a c) (cmpI b d) = -1 := by unfold or2 cmpI; repeat' split
                                                 all_goals omega
  rw [decide_eq_true h] at hB
  rw [hc] at hC
  have C := Lib.hid hC
  have B := Lib.hid hB
  clear hc hB hC h
  go_enter Try.func5, Try.ntmps5
  go_wp2_with fail
  refine (B.out _).mono ?_
  rintro e x1 ⟨rfl, hr1⟩
  obtain ⟨g1, g2, hz, hb⟩ := two_blk hr1
  clear hr1
  obtain ⟨k0, k1, _, _⟩ := g1.two
  obtain ⟨l0, l1, _, _⟩ := g2.two
  clear g1 g2
  go_wp2_with fail
  refine (C.out _).mono ?_
  rintro e x2 ⟨rfl, hr2⟩
  go_wp2_with fail
  refine (galive_any _).mono ?_
  rintro e x3 ⟨rfl, hr3⟩
  go_wp2_with fail
  go_ret
  exact ⟨rfl, (hb.trans (hr2.mono (by omega))).trans (hr3.mono (by have := hr2.size; omega))⟩
set_option maxRecDepth 100000 in
set_option maxHeartbeats 1000000 in
theorem walk_gt1 (a b c d : Int) (w : World) (h : c < a) :
    Calls Try.prog 5 #[.agg #[.int .i64 a, .int .i64 b], .agg #[.int .i64 c, .int .i64 d]] w fun e w' => e = .returned (.bool true) ∧ Below w.heap.size w w' := by
  have hC := fun W => gcompare_any a b c d W
  have hB := fun W => bef_any a b c d W
  have hc : or2 (cmpI a c) (cmpI b d) = 1 := by unfold or2 cmpI; repeat' split
                                                all_goals omega
  have hn : ¬ (a < c ∨ a = c ∧ b < d) := by omega
  rw [decide_eq_false hn] at hB
  have n1 : ¬ a = c := by omega
  clear hn
  rw [hc] at hC
  have C := Lib.hid hC
  have B := Lib.hid hB
  clear hc hB hC h
  go_enter Try.func5, Try.ntmps5
  go_wp2_with fail
  refine (B.out _).mono ?_
  rintro e x1 ⟨rfl, hr1⟩
  obtain ⟨g1, g2, hz, hb⟩ := two_blk hr1
  clear hr1
  obtain ⟨k0, k1, _, _⟩ := g1.two
  obtain ⟨l0, l1, _, _⟩ := g2.two
  clear g1 g2
  go_wp2_with fail
  refine (C.out _).mono ?_
  rintro e x2 ⟨rfl, hr2⟩
  go_wp2_with fail
  refine (galive_any _).mono ?_
  rintro e x3 ⟨rfl, hr3⟩
  go_wp2_with fail
  go_ret
  exact ⟨rfl, (hb.trans (hr2.mono (by omega))).trans (hr3.mono (by have := hr2.size; omega))⟩
set_option maxRecDepth 100000 in
set_option maxHeartbeats 1000000 in
theorem walk_gt2 (a b d : Int) (w : World) (h : d < b) :
    Calls Try.prog 5 #[.agg #[.int .i64 a, .int .i64 b], .agg #[.int .i64 a, .int .i64 d]] w fun e w' => e = .returned (.bool true) ∧ Below w.heap.size w w' := by
  have hC := fun W => gcompare_any a b a d W
  have hB := fun W => bef_any a b a d W
  have hc : or2 (cmpI a a) (cmpI b d) = 1 := by unfold or2 cmpI; repeat' split
                                                all_goals omega
  have hn : ¬ (a < a ∨ a = a ∧ b < d) := by omega
  rw [decide_eq_false hn] at hB
  have n1 : ¬ b = d := by omega
  clear hn
  rw [hc] at hC
  have C := Lib.hid hC
  have B := Lib.hid hB
  clear hc hB hC h
  go_enter Try.func5, Try.ntmps5
  go_wp2_with fail
  refine (B.out _).mono ?_
  rintro e x1 ⟨rfl, hr1⟩
  obtain ⟨g1, g2, hz, hb⟩ := two_blk hr1
  clear hr1
  obtain ⟨k0, k1, _, _⟩ := g1.two
  obtain ⟨l0, l1, _, _⟩ := g2.two
  clear g1 g2
  go_wp2_with fail
  refine (C.out _).mono ?_
  rintro e x2 ⟨rfl, hr2⟩
  go_wp2_with fail
  refine (galive_any _).mono ?_
  rintro e x3 ⟨rfl, hr3⟩
  go_wp2_with fail
  go_ret
  exact ⟨rfl, (hb.trans (hr2.mono (by omega))).trans (hr3.mono (by have := hr2.size; omega))⟩
set_option maxRecDepth 100000 in
set_option maxHeartbeats 1000000 in
theorem walk_eq (a b : Int) (w : World)  :
    Calls Try.prog 5 #[.agg #[.int .i64 a, .int .i64 b], .agg #[.int .i64 a, .int .i64 b]] w fun e w' => e = .returned (.bool true) ∧ Below w.heap.size w w' := by
  have hC := fun W => gcompare_any a b a b W
  have hB := fun W => bef_any a b a b W
  have hc : or2 (cmpI a a) (cmpI b b) = 0 := by rw [cmpI_eq rfl, cmpI_eq rfl]; rfl
  have hn : ¬ (a < a ∨ a = a ∧ b < b) := by omega
  rw [decide_eq_false hn] at hB
  clear hn
  rw [hc] at hC
  have C := Lib.hid hC
  have B := Lib.hid hB
  clear hc hB hC
  go_enter Try.func5, Try.ntmps5
  go_wp2_with fail
  refine (B.out _).mono ?_
  rintro e x1 ⟨rfl, hr1⟩
  obtain ⟨g1, g2, hz, hb⟩ := two_blk hr1
  clear hr1
  obtain ⟨k0, k1, _, _⟩ := g1.two
  obtain ⟨l0, l1, _, _⟩ := g2.two
  clear g1 g2
  go_wp2_with fail
  refine (C.out _).mono ?_
  rintro e x2 ⟨rfl, hr2⟩
  go_wp2_with fail
  refine (galive_any _).mono ?_
  rintro e x3 ⟨rfl, hr3⟩
  go_wp2_with fail
  go_ret
  exact ⟨rfl, (hb.trans (hr2.mono (by omega))).trans (hr3.mono (by have := hr2.size; omega))⟩
theorem walk {a b c d : Int} (wa : (Lit.int .i64 a).wf = true) (wb : (Lit.int .i64 b).wf = true) (wc : (Lit.int .i64 c).wf = true) (wd : (Lit.int .i64 d).wf = true) (w : World) :
    Calls Try.prog 5 #[.agg #[.int .i64 a, .int .i64 b], .agg #[.int .i64 c, .int .i64 d]] w fun e w' => e = .returned (.bool true) ∧ Below w.heap.size w w' := by
  by_cases h : a < c ∨ a = c ∧ b < d
  · exact walk_lt a b c d w h
  · by_cases h2 : a = c ∧ b = d
    · obtain ⟨rfl, rfl⟩ := h2; exact walk_eq a b w
    · by_cases h3 : c < a
      · exact walk_gt1 a b c d w h3
      · obtain rfl : a = c := by omega
        exact walk_gt2 a b d w (by omega)

end Go.Proofs.Ytbbcohgkiejhjab.gridOrder
