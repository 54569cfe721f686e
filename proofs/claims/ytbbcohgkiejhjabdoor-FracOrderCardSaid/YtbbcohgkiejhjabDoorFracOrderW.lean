/- The walk of FracOrder: it answers true for every input, and leaves all old blocks as they were. No condition but the laid tables, which are tied to the text. -/
import Derived.Test.YtbbcohgkiejhjabDoorRows
import Derived.Test.YtbbcohgkiejhjabDoorRowKit
import Derived.Test.YtbbcohgkiejhjabDoorFracA
import Derived.Test.YtbbcohgkiejhjabDoorFracB
import Derived.Test.YtbbcohgkiejhjabDoorFracC
import Derived.Test.YtbbcohgkiejhjabDoorFracD
import Derived.WalkKit
import Derived.ProofKit
import Derived.OpenShut
import Derived.Deep.QuietTactic
import Derived.BigQuiet
import Derived.Lib.SmallJoins
import Derived.Lib.Hide
import Derived.WalkSpells
import Derived.WalkLawsBesides
import Derived.IntWalk
import Derived.Deep.WholeRow
import Derived.Laws.CopyOwn
import Derived.Deep.RegionHeld3
namespace Go.Proofs.YtbbcohgkiejhjabDoor.fracOrder
open Go.ChangeShapes Go.WideShapes Go.ChangeAt Go.RowKit Go.Joins
set_option linter.unusedSimpArgs false
set_option linter.unusedVariables false

/-- a quotient over less is the same -/
theorem least_prod (b c : Nat) : b * (c / Nat.gcd b c) = b / Nat.gcd b c * c := by
  obtain ⟨x, hx⟩ := Nat.gcd_dvd_left b c
  obtain ⟨y, hy⟩ := Nat.gcd_dvd_right b c
  generalize Nat.gcd b c = g at *
  rcases Nat.eq_zero_or_pos g with h | h
  · subst h; simp at hx hy; subst hx; subst hy; simp
  · subst hx; subst hy
    rw [Nat.mul_div_cancel_left _ h, Nat.mul_div_cancel_left _ h, Nat.mul_comm g x, Nat.mul_assoc]
def Two (w X : World) (a b : Array Value) (t : TypeId) : Prop := X.heap[w.heap.size]? = some (.cells a t) ∧ X.heap[w.heap.size + 1]? = some (.cells b t) ∧ w.heap.size + 2 ≤ X.heap.size ∧ Below w.heap.size w X
theorem Two.next {w X Y : World} {a b : Array Value} {t : TypeId} (h : Two w X a b t) (hb : Below X.heap.size X Y) : Two w Y a b t := by
  obtain ⟨h1, h2, h3, h4⟩ := h
  exact ⟨(hb.block _ (by omega)).trans h1, (hb.block _ (by omega)).trans h2, Nat.le_trans h3 hb.size, h4.trans (hb.mono (by omega))⟩
theorem Two.draw {w X : World} {a b : Array Value} {t : TypeId} (h : Two w X a b t) (n : Nat) : Two w (X.drewN n) a b t := ⟨h.1, h.2.1, h.2.2.1, below_drewN h.2.2.2 n⟩
theorem Two.cells {w X : World} {a b c d e f : Value} {t : TypeId} (h : Two w X #[a, b, c] #[d, e, f] t) :
    X.cell? ⟨w.heap.size, 0, none⟩ = some a ∧ X.cell? ⟨w.heap.size, 1, none⟩ = some b ∧ X.cell? ⟨w.heap.size, 2, none⟩ = some c ∧ X.cell? ⟨w.heap.size + 1, 0, none⟩ = some d ∧ X.cell? ⟨w.heap.size + 1, 1, none⟩ = some e ∧ X.cell? ⟨w.heap.size + 1, 2, none⟩ = some f :=
  ⟨blk_cell h.1 0, blk_cell h.1 1, blk_cell h.1 2, blk_cell h.2.1 0, blk_cell h.2.1 1, blk_cell h.2.1 2⟩
/-- a comparison's contract -/
def CmpC (f : FuncId) (x y : Value) (n : Int) : Prop := ∀ W : World, Calls Tryd.prog f #[x, y] W fun r w' => r = .returned (.int .i64 n) ∧ Below W.heap.size W w'
theorem cmps (a b c d e f : Nat) (ha : a ≤ 9223372036854775807) (hb : b ≤ 9223372036854775807) (hc : c ≤ 9223372036854775807) (hd : d ≤ 9223372036854775807) (he : e ≤ 9223372036854775807) (hf : f ≤ 9223372036854775807) (h1 : b < c) :
    ∃ G : Int, -1 ≤ G ∧ G ≤ 1 ∧ CmpC 14 (.agg #[.int .i64 a, .int .i64 b, .int .i64 c]) (.agg #[.int .i64 d, .int .i64 e, .int .i64 f]) G ∧
      CmpC 15 (.agg #[.int .i64 a, .int .i64 b, .int .i64 c]) (.agg #[.int .i64 d, .int .i64 e, .int .i64 f]) G ∧
      CmpC 14 (.agg #[.int .i64 d, .int .i64 e, .int .i64 f]) (.agg #[.int .i64 a, .int .i64 b, .int .i64 c]) (-G) ∧
      CmpC 14 (.agg #[.int .i64 a, .int .i64 b, .int .i64 c]) (.agg #[.int .i64 a, .int .i64 (lsB a b c), .int .i64 (lsC a b c)]) 0 := by
  refine ⟨cG a d ((b * f : Nat) : Int) ((e * c : Nat) : Int), ?_, ?_, ?_, ?_, ?_, ?_⟩
  · unfold cG cmpI; repeat' split
    all_goals omega
  · unfold cG cmpI; repeat' split
    all_goals omega
  · intro W
    have := compare_any a b c d e f W ha hb hc hd he hf
    rwa [← Int.natCast_mul, ← Int.natCast_mul, cF_eq] at this
  · intro W
    have := rcompare_any a b c d e f W ha hb hc hd he hf
    rwa [← Int.natCast_mul, ← Int.natCast_mul, rc_eq] at this
  · intro W
    have := compare_any d e f a b c W hd he hf ha hb hc
    rwa [← Int.natCast_mul, ← Int.natCast_mul, cF_eq, cG_turn] at this
  · intro W
    have eB : lsB a b c = ((b / Nat.gcd b c : Nat) : Int) := by
      unfold lsB; rw [rgt_yes ⟨by omega, by omega, by omega⟩]; simp
    have eC : lsC a b c = ((c / Nat.gcd b c : Nat) : Int) := by
      unfold lsC; rw [rgt_yes ⟨by omega, by omega, by omega⟩]; simp
    rw [eB, eC]
    have := compare_any a b c a (b / Nat.gcd b c) (c / Nat.gcd b c) W ha hb hc ha (Nat.le_trans (Nat.div_le_self _ _) hb) (Nat.le_trans (Nat.div_le_self _ _) hc)
    rwa [← Int.natCast_mul, ← Int.natCast_mul, cF_eq, least_prod, cG_same] at this
set_option maxRecDepth 100000 in
set_option maxHeartbeats 2000000 in
theorem walk_yes (a b c d e f : Nat) (w : World) (ha : a ≤ 9223372036854775807) (hb : b ≤ 9223372036854775807) (hc : c ≤ 9223372036854775807) (hd : d ≤ 9223372036854775807) (he : e ≤ 9223372036854775807) (hf : f ≤ 9223372036854775807) (h1 : b < c) (h2 : e < f) :
    Calls Tryd.prog 4 #[.agg #[.int .i64 a, .int .i64 b, .int .i64 c], .agg #[.int .i64 d, .int .i64 e, .int .i64 f]] w fun e w' => e = .returned (.bool true) ∧ Below w.heap.size w w' := by
  obtain ⟨G, g1, g2, c1, c2, c3, c4⟩ := cmps a b c d e f ha hb hc hd he hf h1
  have C1 := Lib.hid c1
  have C2 := Lib.hid c2
  have C3 := Lib.hid c3
  have C4 := Lib.hid c4
  clear c1 c2 c3 c4
  go_enter Tryd.func4, Tryd.ntmps4
  go_wp2_with fail
  refine (rright_yes a b c _ (by omega) (by omega) (by omega)).mono ?_
  rintro r x1 ⟨rfl, hr1⟩
  have T1 : Two w x1 _ _ _ := two_blocks hr1
  clear hr1
  obtain ⟨k0, k1, k2, k3, k4, k5⟩ := T1.cells
  have S1 := Lib.hid T1
  clear T1
  go_wp2_with fail
  refine (rright_yes d e f _ (by omega) (by omega) (by omega)).mono ?_
  rintro r x2 ⟨rfl, hr2⟩
  have S2 := Lib.hid (S1.out.next hr2)
  clear k0 k1 k2 k3 k4 k5 hr2 S1
  obtain ⟨k0, k1, k2, k3, k4, k5⟩ := S2.out.cells
  go_wp2_with fail
  refine (C1.out _).mono ?_
  rintro r x3 ⟨rfl, hr3⟩
  have S3 := Lib.hid (S2.out.next hr3)
  clear k0 k1 k2 k3 k4 k5 hr3 S2
  obtain ⟨k0, k1, k2, k3, k4, k5⟩ := S3.out.cells
  go_wp2_with fail
  have hn : IntKind.i64.wrap (-G) = -G := IntWalk.i64_in _ (by omega)
  go_region_held3 (fun W => W.cell? ⟨w.heap.size, 0, none⟩ = some (.int .i64 a) ∧ W.cell? ⟨w.heap.size, 1, none⟩ = some (.int .i64 b) ∧ W.cell? ⟨w.heap.size, 2, none⟩ = some (.int .i64 c) ∧ W.cell? ⟨w.heap.size + 1, 0, none⟩ = some (.int .i64 d) ∧ W.cell? ⟨w.heap.size + 1, 1, none⟩ = some (.int .i64 e) ∧ W.cell? ⟨w.heap.size + 1, 2, none⟩ = some (.int .i64 f))
    (go_keep)
    (first
      | (go_at_call 15; refine (C2.out _).mono ?_; rintro r x4 ⟨rfl, hr4⟩; have S4 := Lib.hid ((S3.out.draw _).next hr4); clear k0 k1 k2 k3 k4 k5; obtain ⟨k0, k1, k2, k3, k4, k5⟩ := S4.out.cells)
      | (go_at_call_of 14 (Value.agg #[.int .i64 d, .int .i64 e, .int .i64 f]); refine (C3.out _).mono ?_; rintro r x5 ⟨rfl, hr5⟩; have S5 := Lib.hid (S4.out.next hr5); clear k0 k1 k2 k3 k4 k5; obtain ⟨k0, k1, k2, k3, k4, k5⟩ := S5.out.cells)
      | (go_at_call 11; refine (least_any _ _ _ _ (by omega)).mono ?_; rintro r x6 ⟨rfl, hr6⟩; have S6 := Lib.hid (S5.out.next hr6); clear k0 k1 k2 k3 k4 k5; obtain ⟨k0, k1, k2, k3, k4, k5⟩ := S6.out.cells)
      | (go_at_call_of 14 (Value.agg #[.int .i64 a, .int .i64 b, .int .i64 c]); refine (C4.out _).mono ?_; rintro r x7 ⟨rfl, hr7⟩; have S7 := Lib.hid (S6.out.next hr7); clear k0 k1 k2 k3 k4 k5; obtain ⟨k0, k1, k2, k3, k4, k5⟩ := S7.out.cells)
      | (go_at_call 13; refine (alive_any _).mono ?_; rintro r x8 ⟨rfl, hr8⟩; have S8 := Lib.hid (S7.out.next hr8); clear k0 k1 k2 k3 k4 k5; obtain ⟨k0, k1, k2, k3, k4, k5⟩ := S8.out.cells))
  go_wp2_with fail
  go_ret
  exact ⟨rfl, S8.out.2.2.2⟩
set_option maxHeartbeats 1000000 in
theorem walk_no1 (a b c d e f : Int) (w : World) (h : ¬ (0 ≤ a ∧ 0 ≤ b ∧ b < c)) :
    Calls Tryd.prog 4 #[.agg #[.int .i64 a, .int .i64 b, .int .i64 c], .agg #[.int .i64 d, .int .i64 e, .int .i64 f]] w fun e w' => e = .returned (.bool true) ∧ Below w.heap.size w w' := by
  have H := Lib.hid h
  clear h
  go_enter Tryd.func4, Tryd.ntmps4
  go_wp2_with fail
  refine (rright_no a b c _ H.out).mono ?_
  rintro r x1 ⟨rfl, hr1⟩
  have T1 := Lib.hid (two_blocks hr1)
  clear hr1
  go_wp2_with fail
  go_ret
  exact ⟨rfl, T1.out.2.2.2⟩
set_option maxHeartbeats 1000000 in
theorem walk_no2 (a b c d e f : Int) (w : World) (h : 0 ≤ a ∧ 0 ≤ b ∧ b < c) (h' : ¬ (0 ≤ d ∧ 0 ≤ e ∧ e < f)) :
    Calls Tryd.prog 4 #[.agg #[.int .i64 a, .int .i64 b, .int .i64 c], .agg #[.int .i64 d, .int .i64 e, .int .i64 f]] w fun e w' => e = .returned (.bool true) ∧ Below w.heap.size w w' := by
  have H := Lib.hid h
  have H' := Lib.hid h'
  clear h h'
  go_enter Tryd.func4, Tryd.ntmps4
  go_wp2_with fail
  refine (rright_yes a b c _ H.out.1 H.out.2.1 H.out.2.2).mono ?_
  rintro r x1 ⟨rfl, hr1⟩
  have T1 : Two w x1 _ _ _ := two_blocks hr1
  clear hr1
  obtain ⟨k0, k1, k2, k3, k4, k5⟩ := T1.cells
  have S1 := Lib.hid T1
  clear T1
  go_wp2_with fail
  refine (rright_no d e f _ H'.out).mono ?_
  rintro r x2 ⟨rfl, hr2⟩
  have S2 := Lib.hid (S1.out.next hr2)
  clear k0 k1 k2 k3 k4 k5 hr2 S1
  go_wp2_with fail
  go_ret
  exact ⟨rfl, S2.out.2.2.2⟩
theorem walk {a b c d e f : Int} (wa : (Lit.int .i64 a).wf = true) (wb : (Lit.int .i64 b).wf = true) (wc : (Lit.int .i64 c).wf = true) (wd : (Lit.int .i64 d).wf = true) (we : (Lit.int .i64 e).wf = true) (wf : (Lit.int .i64 f).wf = true) {LL : Prop} (hL : LL) (w : World) :
    Calls Tryd.prog 4 #[.agg #[.int .i64 a, .int .i64 b, .int .i64 c], .agg #[.int .i64 d, .int .i64 e, .int .i64 f]] w fun e w' => e = .returned (.bool true) ∧ Below w.heap.size w w' := by
  obtain ⟨_, a1⟩ := bounds_i64 wa
  obtain ⟨_, b1⟩ := bounds_i64 wb
  obtain ⟨_, c1⟩ := bounds_i64 wc
  obtain ⟨_, d1⟩ := bounds_i64 wd
  obtain ⟨_, e1⟩ := bounds_i64 we
  obtain ⟨_, f1⟩ := bounds_i64 wf
  by_cases h : 0 ≤ a ∧ 0 ≤ b ∧ b < c
  · by_cases h' : 0 ≤ d ∧ 0 ≤ e ∧ e < f
    · obtain ⟨a, rfl⟩ := Int.eq_ofNat_of_zero_le h.1
      obtain ⟨b, rfl⟩ := Int.eq_ofNat_of_zero_le h.2.1
      obtain ⟨c, rfl⟩ := Int.eq_ofNat_of_zero_le (show 0 ≤ c by omega)
      obtain ⟨d, rfl⟩ := Int.eq_ofNat_of_zero_le h'.1
      obtain ⟨e, rfl⟩ := Int.eq_ofNat_of_zero_le h'.2.1
      obtain ⟨f, rfl⟩ := Int.eq_ofNat_of_zero_le (show 0 ≤ f by omega)
      exact walk_yes a b c d e f w (by omega) (by omega) (by omega) (by omega) (by omega) (by omega) (by omega) (by omega)
    · exact walk_no2 a b c d e f w h h'
  · exact walk_no1 a b c d e f w h

end Go.Proofs.YtbbcohgkiejhjabDoor.fracOrder
