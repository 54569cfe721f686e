/- Contract of bound.Trip; the example of layer 23. -/
import Derived.Test.YtjokekohmncmkacRows
import Derived.Test.YtjokekohmncmkacRowKit
import Derived.Test.YtjokekohmncmkacRowS
import Derived.Test.YtjokekohmncmkacRowZ
import Derived.Test.YtjokekohmncmkacBlocks
import Derived.Test.YtjokekohmncmkacVetA
import Derived.Test.YtjokekohmncmkacVetB
import Derived.Test.YtjokekohmncmkacBoundA
import Derived.WalkKit
import Derived.IntWalk
import Derived.Lib.Hide
import Derived.Lib.SmallJoins
import Derived.WalkSpells
import Derived.WalkLawsBesides
import Derived.Deep.QuietTactic
import Derived.Deep.RegionHeld3
import Derived.BigQuiet
import Derived.Below
import Derived.Lib.Strings
namespace Go.Proofs.Ytjokekohmncmkac
open Go.RowKit
set_option linter.unusedSimpArgs false
set_option linter.unusedVariables false
theorem stopT_bd {s0 s1 s3 s4 s5 s6 s7 n : Int} (h : SB s0 s1 s3 s4 s5 s6 s7) (n0 : 0 ≤ n) (n1 : n ≤ 64) : 0 ≤ stopT s4 s5 s6 s7 n ∧ stopT s4 s5 s6 s7 n ≤ 4288 := by
  obtain ⟨_, _, _, ⟨c0, c1⟩, ⟨d0, d1⟩, ⟨e0, e1⟩, ⟨f0, f1⟩⟩ := h
  have pb := mulb (a := max 0 n) (m := 64) (k := 64) (by omega) (by omega) (show 0 ≤ s7 by omega) f1 (by omega)
  unfold stopT; omega
def btripV (s0 s1 s4 s5 s6 s7 n : Int) : Int := 2 * topV s0 s1 + stopT s4 s5 s6 s7 n + n * stopT s4 s5 s6 s7 1
set_option maxHeartbeats 2000000 in
theorem trip_zero (s0 s1 s2 s3 s4 s5 s6 s7 s9 s10 s11 s12 : Int) (A : Option Addr) (n c : Nat) (p : Int) (w : World) (h : SB s0 s1 s3 s4 s5 s6 s7) (hp : p = 0) :
    Calls Try.prog 30 #[.agg #[.int .i64 s0, .int .i64 s1, .int .i64 s2, .int .i64 s3, .int .i64 s4, .int .i64 s5, .int .i64 s6, .int .i64 s7, .slice A n c, .int .i64 s9, .int .i64 s10, .int .i64 s11, .int .i64 s12], .int .i64 p] w fun e w' => e = .returned (.int .i64 (btripV s0 s1 s4 s5 s6 s7 (0 : Int))) ∧ Below w.heap.size w w' := by
  have h' := h
  obtain ⟨⟨a0, a1⟩, ⟨b0, b1⟩, ⟨g0, g1⟩, _⟩ := h'
  subst hp
  have k3 : 0 < s3 := by omega
  have tok1 : True := trivial
  have nn1 : (0 : Int) ≤ 64 := by omega
  have nn0 : 0 ≤ (0 : Int) := by omega
  have HR := Lib.hid (fun w => bround_any s0 s1 s2 s3 s4 s5 s6 s7 s9 s10 s11 s12 A n c w h)
  have HS := Lib.hid (fun (q : Int) w (hq : q ≤ 1073741824) => stop_any s0 s1 s2 s3 s4 s5 s6 s7 s9 s10 s11 s12 A n c q w h hq)
  obtain ⟨t0, t1⟩ := top_bd a0 a1 b0 b1
  obtain ⟨u0, u1⟩ := stopT_bd h nn0 nn1
  obtain ⟨v0, v1⟩ := stopT_bd (n := 1) h (by omega) (by omega)
  have pb := mulb (m := 64) (k := 4288) nn0 nn1 v0 v1 (by omega)
  have E := Lib.hid (show btripV s0 s1 s4 s5 s6 s7 (0 : Int) = 2 * topV s0 s1 + stopT s4 s5 s6 s7 (0 : Int) + (0 : Int) * stopT s4 s5 s6 s7 1 from rfl)
  have W1 : IntKind.i64.wrap (2 * topV s0 s1 + stopT s4 s5 s6 s7 (0 : Int)) = 2 * topV s0 s1 + stopT s4 s5 s6 s7 (0 : Int) := i64_in (by omega)
  have W2 : IntKind.i64.wrap ((0 : Int) * stopT s4 s5 s6 s7 1) = (0 : Int) * stopT s4 s5 s6 s7 1 := i64_in (by omega)
  have W3 : IntKind.i64.wrap (2 * topV s0 s1 + stopT s4 s5 s6 s7 (0 : Int) + (0 : Int) * stopT s4 s5 s6 s7 1) = 2 * topV s0 s1 + stopT s4 s5 s6 s7 (0 : Int) + (0 : Int) * stopT s4 s5 s6 s7 1 := i64_in (by omega)
  have B := Lib.hid (Joins.below_alloc1 w (.cells #[.int .i64 s0, .int .i64 s1, .int .i64 s2, .int .i64 s3, .int .i64 s4, .int .i64 s5, .int .i64 s6, .int .i64 s7, .slice A n c, .int .i64 s9, .int .i64 s10, .int .i64 s11, .int .i64 s12] 57))
  have hs : w.heap.size < (w.alloc (.cells #[.int .i64 s0, .int .i64 s1, .int .i64 s2, .int .i64 s3, .int .i64 s4, .int .i64 s5, .int .i64 s6, .int .i64 s7, .slice A n c, .int .i64 s9, .int .i64 s10, .int .i64 s11, .int .i64 s12] 57)).heap.size := by simp
  have l := fun j v (h : #[(.int .i64 s0 : Value), .int .i64 s1, .int .i64 s2, .int .i64 s3, .int .i64 s4, .int .i64 s5, .int .i64 s6, .int .i64 s7, .slice A n c, .int .i64 s9, .int .i64 s10, .int .i64 s11, .int .i64 s12][j]? = some v) => (World.cell?_alloc_mark w #[(.int .i64 s0 : Value), .int .i64 s1, .int .i64 s2, .int .i64 s3, .int .i64 s4, .int .i64 s5, .int .i64 s6, .int .i64 s7, .slice A n c, .int .i64 s9, .int .i64 s10, .int .i64 s11, .int .i64 s12] 57 (0, 0) j).trans h
  have l0 := l 0 _ rfl
  have l1 := l 1 _ rfl
  have l2 := l 2 _ rfl
  have l3 := l 3 _ rfl
  have l4 := l 4 _ rfl
  have l5 := l 5 _ rfl
  have l6 := l 6 _ rfl
  have l7 := l 7 _ rfl
  have l8 := l 8 _ rfl
  have l9 := l 9 _ rfl
  have l10 := l 10 _ rfl
  have l11 := l 11 _ rfl
  have l12 := l 12 _ rfl
  clear l h
  go_enter Try.func30, Try.ntmps30
  go_wp2_with fail
  go_region_held3 (fun W => W.cell? ⟨w.heap.size, 0, none⟩ = some (.int .i64 s0) ∧ W.cell? ⟨w.heap.size, 1, none⟩ = some (.int .i64 s1) ∧ W.cell? ⟨w.heap.size, 2, none⟩ = some (.int .i64 s2) ∧ W.cell? ⟨w.heap.size, 3, none⟩ = some (.int .i64 s3) ∧ W.cell? ⟨w.heap.size, 4, none⟩ = some (.int .i64 s4) ∧ W.cell? ⟨w.heap.size, 5, none⟩ = some (.int .i64 s5) ∧ W.cell? ⟨w.heap.size, 6, none⟩ = some (.int .i64 s6) ∧ W.cell? ⟨w.heap.size, 7, none⟩ = some (.int .i64 s7) ∧ W.cell? ⟨w.heap.size, 8, none⟩ = some (.slice A n c) ∧ W.cell? ⟨w.heap.size, 9, none⟩ = some (.int .i64 s9) ∧ W.cell? ⟨w.heap.size, 10, none⟩ = some (.int .i64 s10) ∧ W.cell? ⟨w.heap.size, 11, none⟩ = some (.int .i64 s11) ∧ W.cell? ⟨w.heap.size, 12, none⟩ = some (.int .i64 s12))
    (go_keep)
    (first
      | (go_at_call 28; refine (HR.out _).mono ?_; rintro e w1 ⟨rfl, hb1⟩; have n0 := Lib.hid (keepv hb1 l0); have n1 := Lib.hid (keepv hb1 l1); have n2 := Lib.hid (keepv hb1 l2); have n3 := Lib.hid (keepv hb1 l3); have n4 := Lib.hid (keepv hb1 l4); have n5 := Lib.hid (keepv hb1 l5); have n6 := Lib.hid (keepv hb1 l6); have n7 := Lib.hid (keepv hb1 l7); have n8 := Lib.hid (keepv hb1 l8); have n9 := Lib.hid (keepv hb1 l9); have n10 := Lib.hid (keepv hb1 l10); have n11 := Lib.hid (keepv hb1 l11); have n12 := Lib.hid (keepv hb1 l12); clear l0 l1 l2 l3 l4 l5 l6 l7 l8 l9 l10 l11 l12; have l0 := n0.out; have l1 := n1.out; have l2 := n2.out; have l3 := n3.out; have l4 := n4.out; have l5 := n5.out; have l6 := n6.out; have l7 := n7.out; have l8 := n8.out; have l9 := n9.out; have l10 := n10.out; have l11 := n11.out; have l12 := n12.out;)
      | (go_at_call 29; have _t := tok1; clear tok1; refine (HS.out _ _ (by omega)).mono ?_; rintro e w2 ⟨rfl, hb2⟩; have n0 := Lib.hid (keepv hb2 l0); have n1 := Lib.hid (keepv hb2 l1); have n2 := Lib.hid (keepv hb2 l2); have n3 := Lib.hid (keepv hb2 l3); have n4 := Lib.hid (keepv hb2 l4); have n5 := Lib.hid (keepv hb2 l5); have n6 := Lib.hid (keepv hb2 l6); have n7 := Lib.hid (keepv hb2 l7); have n8 := Lib.hid (keepv hb2 l8); have n9 := Lib.hid (keepv hb2 l9); have n10 := Lib.hid (keepv hb2 l10); have n11 := Lib.hid (keepv hb2 l11); have n12 := Lib.hid (keepv hb2 l12); clear l0 l1 l2 l3 l4 l5 l6 l7 l8 l9 l10 l11 l12; have l0 := n0.out; have l1 := n1.out; have l2 := n2.out; have l3 := n3.out; have l4 := n4.out; have l5 := n5.out; have l6 := n6.out; have l7 := n7.out; have l8 := n8.out; have l9 := n9.out; have l10 := n10.out; have l11 := n11.out; have l12 := n12.out;)
      | (go_at_call 29; refine (HS.out _ _ (by omega)).mono ?_; rintro e w3 ⟨rfl, hb3⟩; have n0 := Lib.hid (keepv hb3 l0); have n1 := Lib.hid (keepv hb3 l1); have n2 := Lib.hid (keepv hb3 l2); have n3 := Lib.hid (keepv hb3 l3); have n4 := Lib.hid (keepv hb3 l4); have n5 := Lib.hid (keepv hb3 l5); have n6 := Lib.hid (keepv hb3 l6); have n7 := Lib.hid (keepv hb3 l7); have n8 := Lib.hid (keepv hb3 l8); have n9 := Lib.hid (keepv hb3 l9); have n10 := Lib.hid (keepv hb3 l10); have n11 := Lib.hid (keepv hb3 l11); have n12 := Lib.hid (keepv hb3 l12); clear l0 l1 l2 l3 l4 l5 l6 l7 l8 l9 l10 l11 l12; have l0 := n0.out; have l1 := n1.out; have l2 := n2.out; have l3 := n3.out; have l4 := n4.out; have l5 := n5.out; have l6 := n6.out; have l7 := n7.out; have l8 := n8.out; have l9 := n9.out; have l10 := n10.out; have l11 := n11.out; have l12 := n12.out;))
  have q1 := (B.out.drew).trans (hb1.mono (B.out.drew).size)
  have q2 := q1.trans (hb2.mono q1.size)
  have q3 := q2.trans (hb3.mono q2.size)
  go_wp2_with fail
  go_ret
  exact ⟨vretI (by rw [E.out] <;> first | (simp; done) | rw [show IntKind.i64.wrap (0 : Int) = 0 by decide, Int.add_zero, W1, Int.zero_mul, Int.add_zero]), q3⟩
set_option maxHeartbeats 2000000 in
theorem trip_less (s0 s1 s2 s3 s4 s5 s6 s7 s9 s10 s11 s12 : Int) (A : Option Addr) (n c : Nat) (p : Int) (w : World) (h : SB s0 s1 s3 s4 s5 s6 s7) (p0 : 0 < p) (p1 : p < s3) :
    Calls Try.prog 30 #[.agg #[.int .i64 s0, .int .i64 s1, .int .i64 s2, .int .i64 s3, .int .i64 s4, .int .i64 s5, .int .i64 s6, .int .i64 s7, .slice A n c, .int .i64 s9, .int .i64 s10, .int .i64 s11, .int .i64 s12], .int .i64 p] w fun e w' => e = .returned (.int .i64 (btripV s0 s1 s4 s5 s6 s7 p)) ∧ Below w.heap.size w w' := by
  have h' := h
  obtain ⟨⟨a0, a1⟩, ⟨b0, b1⟩, ⟨g0, g1⟩, _⟩ := h'
  have tok1 : True := trivial
  have nn1 : p ≤ 64 := by omega
  have nn0 : 0 ≤ p := by omega
  have HR := Lib.hid (fun w => bround_any s0 s1 s2 s3 s4 s5 s6 s7 s9 s10 s11 s12 A n c w h)
  have HS := Lib.hid (fun (q : Int) w (hq : q ≤ 1073741824) => stop_any s0 s1 s2 s3 s4 s5 s6 s7 s9 s10 s11 s12 A n c q w h hq)
  obtain ⟨t0, t1⟩ := top_bd a0 a1 b0 b1
  obtain ⟨u0, u1⟩ := stopT_bd h nn0 nn1
  obtain ⟨v0, v1⟩ := stopT_bd (n := 1) h (by omega) (by omega)
  have pb := mulb (m := 64) (k := 4288) nn0 nn1 v0 v1 (by omega)
  have E := Lib.hid (show btripV s0 s1 s4 s5 s6 s7 p = 2 * topV s0 s1 + stopT s4 s5 s6 s7 p + p * stopT s4 s5 s6 s7 1 from rfl)
  have W1 : IntKind.i64.wrap (2 * topV s0 s1 + stopT s4 s5 s6 s7 p) = 2 * topV s0 s1 + stopT s4 s5 s6 s7 p := i64_in (by omega)
  have W2 : IntKind.i64.wrap (p * stopT s4 s5 s6 s7 1) = p * stopT s4 s5 s6 s7 1 := i64_in (by omega)
  have W3 : IntKind.i64.wrap (2 * topV s0 s1 + stopT s4 s5 s6 s7 p + p * stopT s4 s5 s6 s7 1) = 2 * topV s0 s1 + stopT s4 s5 s6 s7 p + p * stopT s4 s5 s6 s7 1 := i64_in (by omega)
  have B := Lib.hid (Joins.below_alloc1 w (.cells #[.int .i64 s0, .int .i64 s1, .int .i64 s2, .int .i64 s3, .int .i64 s4, .int .i64 s5, .int .i64 s6, .int .i64 s7, .slice A n c, .int .i64 s9, .int .i64 s10, .int .i64 s11, .int .i64 s12] 57))
  have hs : w.heap.size < (w.alloc (.cells #[.int .i64 s0, .int .i64 s1, .int .i64 s2, .int .i64 s3, .int .i64 s4, .int .i64 s5, .int .i64 s6, .int .i64 s7, .slice A n c, .int .i64 s9, .int .i64 s10, .int .i64 s11, .int .i64 s12] 57)).heap.size := by simp
  have l := fun j v (h : #[(.int .i64 s0 : Value), .int .i64 s1, .int .i64 s2, .int .i64 s3, .int .i64 s4, .int .i64 s5, .int .i64 s6, .int .i64 s7, .slice A n c, .int .i64 s9, .int .i64 s10, .int .i64 s11, .int .i64 s12][j]? = some v) => (World.cell?_alloc_mark w #[(.int .i64 s0 : Value), .int .i64 s1, .int .i64 s2, .int .i64 s3, .int .i64 s4, .int .i64 s5, .int .i64 s6, .int .i64 s7, .slice A n c, .int .i64 s9, .int .i64 s10, .int .i64 s11, .int .i64 s12] 57 (0, 0) j).trans h
  have l0 := l 0 _ rfl
  have l1 := l 1 _ rfl
  have l2 := l 2 _ rfl
  have l3 := l 3 _ rfl
  have l4 := l 4 _ rfl
  have l5 := l 5 _ rfl
  have l6 := l 6 _ rfl
  have l7 := l 7 _ rfl
  have l8 := l 8 _ rfl
  have l9 := l 9 _ rfl
  have l10 := l 10 _ rfl
  have l11 := l 11 _ rfl
  have l12 := l 12 _ rfl
  clear l h
  go_enter Try.func30, Try.ntmps30
  go_wp2_with fail
  go_region_held3 (fun W => W.cell? ⟨w.heap.size, 0, none⟩ = some (.int .i64 s0) ∧ W.cell? ⟨w.heap.size, 1, none⟩ = some (.int .i64 s1) ∧ W.cell? ⟨w.heap.size, 2, none⟩ = some (.int .i64 s2) ∧ W.cell? ⟨w.heap.size, 3, none⟩ = some (.int .i64 s3) ∧ W.cell? ⟨w.heap.size, 4, none⟩ = some (.int .i64 s4) ∧ W.cell? ⟨w.heap.size, 5, none⟩ = some (.int .i64 s5) ∧ W.cell? ⟨w.heap.size, 6, none⟩ = some (.int .i64 s6) ∧ W.cell? ⟨w.heap.size, 7, none⟩ = some (.int .i64 s7) ∧ W.cell? ⟨w.heap.size, 8, none⟩ = some (.slice A n c) ∧ W.cell? ⟨w.heap.size, 9, none⟩ = some (.int .i64 s9) ∧ W.cell? ⟨w.heap.size, 10, none⟩ = some (.int .i64 s10) ∧ W.cell? ⟨w.heap.size, 11, none⟩ = some (.int .i64 s11) ∧ W.cell? ⟨w.heap.size, 12, none⟩ = some (.int .i64 s12))
    (go_keep)
    (first
      | (go_at_call 28; refine (HR.out _).mono ?_; rintro e w1 ⟨rfl, hb1⟩; have n0 := Lib.hid (keepv hb1 l0); have n1 := Lib.hid (keepv hb1 l1); have n2 := Lib.hid (keepv hb1 l2); have n3 := Lib.hid (keepv hb1 l3); have n4 := Lib.hid (keepv hb1 l4); have n5 := Lib.hid (keepv hb1 l5); have n6 := Lib.hid (keepv hb1 l6); have n7 := Lib.hid (keepv hb1 l7); have n8 := Lib.hid (keepv hb1 l8); have n9 := Lib.hid (keepv hb1 l9); have n10 := Lib.hid (keepv hb1 l10); have n11 := Lib.hid (keepv hb1 l11); have n12 := Lib.hid (keepv hb1 l12); clear l0 l1 l2 l3 l4 l5 l6 l7 l8 l9 l10 l11 l12; have l0 := n0.out; have l1 := n1.out; have l2 := n2.out; have l3 := n3.out; have l4 := n4.out; have l5 := n5.out; have l6 := n6.out; have l7 := n7.out; have l8 := n8.out; have l9 := n9.out; have l10 := n10.out; have l11 := n11.out; have l12 := n12.out;)
      | (go_at_call 29; have _t := tok1; clear tok1; refine (HS.out _ _ (by omega)).mono ?_; rintro e w2 ⟨rfl, hb2⟩; have n0 := Lib.hid (keepv hb2 l0); have n1 := Lib.hid (keepv hb2 l1); have n2 := Lib.hid (keepv hb2 l2); have n3 := Lib.hid (keepv hb2 l3); have n4 := Lib.hid (keepv hb2 l4); have n5 := Lib.hid (keepv hb2 l5); have n6 := Lib.hid (keepv hb2 l6); have n7 := Lib.hid (keepv hb2 l7); have n8 := Lib.hid (keepv hb2 l8); have n9 := Lib.hid (keepv hb2 l9); have n10 := Lib.hid (keepv hb2 l10); have n11 := Lib.hid (keepv hb2 l11); have n12 := Lib.hid (keepv hb2 l12); clear l0 l1 l2 l3 l4 l5 l6 l7 l8 l9 l10 l11 l12; have l0 := n0.out; have l1 := n1.out; have l2 := n2.out; have l3 := n3.out; have l4 := n4.out; have l5 := n5.out; have l6 := n6.out; have l7 := n7.out; have l8 := n8.out; have l9 := n9.out; have l10 := n10.out; have l11 := n11.out; have l12 := n12.out;)
      | (go_at_call 29; refine (HS.out _ _ (by omega)).mono ?_; rintro e w3 ⟨rfl, hb3⟩; have n0 := Lib.hid (keepv hb3 l0); have n1 := Lib.hid (keepv hb3 l1); have n2 := Lib.hid (keepv hb3 l2); have n3 := Lib.hid (keepv hb3 l3); have n4 := Lib.hid (keepv hb3 l4); have n5 := Lib.hid (keepv hb3 l5); have n6 := Lib.hid (keepv hb3 l6); have n7 := Lib.hid (keepv hb3 l7); have n8 := Lib.hid (keepv hb3 l8); have n9 := Lib.hid (keepv hb3 l9); have n10 := Lib.hid (keepv hb3 l10); have n11 := Lib.hid (keepv hb3 l11); have n12 := Lib.hid (keepv hb3 l12); clear l0 l1 l2 l3 l4 l5 l6 l7 l8 l9 l10 l11 l12; have l0 := n0.out; have l1 := n1.out; have l2 := n2.out; have l3 := n3.out; have l4 := n4.out; have l5 := n5.out; have l6 := n6.out; have l7 := n7.out; have l8 := n8.out; have l9 := n9.out; have l10 := n10.out; have l11 := n11.out; have l12 := n12.out;))
  have q1 := (B.out.drew).trans (hb1.mono (B.out.drew).size)
  have q2 := q1.trans (hb2.mono q1.size)
  have q3 := q2.trans (hb3.mono q2.size)
  go_wp2_with fail
  go_ret
  exact ⟨vretI (by rw [E.out] <;> first | (simp; done) | rw [show IntKind.i64.wrap (0 : Int) = 0 by decide, Int.add_zero, W1, Int.zero_mul, Int.add_zero]), q3⟩
set_option maxHeartbeats 2000000 in
theorem trip_same (s0 s1 s2 s3 s4 s5 s6 s7 s9 s10 s11 s12 : Int) (A : Option Addr) (n c : Nat) (p : Int) (w : World) (h : SB s0 s1 s3 s4 s5 s6 s7) (p1 : s3 = p) :
    Calls Try.prog 30 #[.agg #[.int .i64 s0, .int .i64 s1, .int .i64 s2, .int .i64 s3, .int .i64 s4, .int .i64 s5, .int .i64 s6, .int .i64 s7, .slice A n c, .int .i64 s9, .int .i64 s10, .int .i64 s11, .int .i64 s12], .int .i64 p] w fun e w' => e = .returned (.int .i64 (btripV s0 s1 s4 s5 s6 s7 s3)) ∧ Below w.heap.size w w' := by
  have h' := h
  obtain ⟨⟨a0, a1⟩, ⟨b0, b1⟩, ⟨g0, g1⟩, _⟩ := h'
  subst p1
  have k3 : 0 < s3 := by omega
  have tok1 : True := trivial
  have nn1 : s3 ≤ 64 := by omega
  have nn0 : 0 ≤ s3 := by omega
  have HR := Lib.hid (fun w => bround_any s0 s1 s2 s3 s4 s5 s6 s7 s9 s10 s11 s12 A n c w h)
  have HS := Lib.hid (fun (q : Int) w (hq : q ≤ 1073741824) => stop_any s0 s1 s2 s3 s4 s5 s6 s7 s9 s10 s11 s12 A n c q w h hq)
  obtain ⟨t0, t1⟩ := top_bd a0 a1 b0 b1
  obtain ⟨u0, u1⟩ := stopT_bd h nn0 nn1
  obtain ⟨v0, v1⟩ := stopT_bd (n := 1) h (by omega) (by omega)
  have pb := mulb (m := 64) (k := 4288) nn0 nn1 v0 v1 (by omega)
  have E := Lib.hid (show btripV s0 s1 s4 s5 s6 s7 s3 = 2 * topV s0 s1 + stopT s4 s5 s6 s7 s3 + s3 * stopT s4 s5 s6 s7 1 from rfl)
  have W1 : IntKind.i64.wrap (2 * topV s0 s1 + stopT s4 s5 s6 s7 s3) = 2 * topV s0 s1 + stopT s4 s5 s6 s7 s3 := i64_in (by omega)
  have W2 : IntKind.i64.wrap (s3 * stopT s4 s5 s6 s7 1) = s3 * stopT s4 s5 s6 s7 1 := i64_in (by omega)
  have W3 : IntKind.i64.wrap (2 * topV s0 s1 + stopT s4 s5 s6 s7 s3 + s3 * stopT s4 s5 s6 s7 1) = 2 * topV s0 s1 + stopT s4 s5 s6 s7 s3 + s3 * stopT s4 s5 s6 s7 1 := i64_in (by omega)
  have B := Lib.hid (Joins.below_alloc1 w (.cells #[.int .i64 s0, .int .i64 s1, .int .i64 s2, .int .i64 s3, .int .i64 s4, .int .i64 s5, .int .i64 s6, .int .i64 s7, .slice A n c, .int .i64 s9, .int .i64 s10, .int .i64 s11, .int .i64 s12] 57))
  have hs : w.heap.size < (w.alloc (.cells #[.int .i64 s0, .int .i64 s1, .int .i64 s2, .int .i64 s3, .int .i64 s4, .int .i64 s5, .int .i64 s6, .int .i64 s7, .slice A n c, .int .i64 s9, .int .i64 s10, .int .i64 s11, .int .i64 s12] 57)).heap.size := by simp
  have l := fun j v (h : #[(.int .i64 s0 : Value), .int .i64 s1, .int .i64 s2, .int .i64 s3, .int .i64 s4, .int .i64 s5, .int .i64 s6, .int .i64 s7, .slice A n c, .int .i64 s9, .int .i64 s10, .int .i64 s11, .int .i64 s12][j]? = some v) => (World.cell?_alloc_mark w #[(.int .i64 s0 : Value), .int .i64 s1, .int .i64 s2, .int .i64 s3, .int .i64 s4, .int .i64 s5, .int .i64 s6, .int .i64 s7, .slice A n c, .int .i64 s9, .int .i64 s10, .int .i64 s11, .int .i64 s12] 57 (0, 0) j).trans h
  have l0 := l 0 _ rfl
  have l1 := l 1 _ rfl
  have l2 := l 2 _ rfl
  have l3 := l 3 _ rfl
  have l4 := l 4 _ rfl
  have l5 := l 5 _ rfl
  have l6 := l 6 _ rfl
  have l7 := l 7 _ rfl
  have l8 := l 8 _ rfl
  have l9 := l 9 _ rfl
  have l10 := l 10 _ rfl
  have l11 := l 11 _ rfl
  have l12 := l 12 _ rfl
  clear l h
  go_enter Try.func30, Try.ntmps30
  go_wp2_with fail
  go_region_held3 (fun W => W.cell? ⟨w.heap.size, 0, none⟩ = some (.int .i64 s0) ∧ W.cell? ⟨w.heap.size, 1, none⟩ = some (.int .i64 s1) ∧ W.cell? ⟨w.heap.size, 2, none⟩ = some (.int .i64 s2) ∧ W.cell? ⟨w.heap.size, 3, none⟩ = some (.int .i64 s3) ∧ W.cell? ⟨w.heap.size, 4, none⟩ = some (.int .i64 s4) ∧ W.cell? ⟨w.heap.size, 5, none⟩ = some (.int .i64 s5) ∧ W.cell? ⟨w.heap.size, 6, none⟩ = some (.int .i64 s6) ∧ W.cell? ⟨w.heap.size, 7, none⟩ = some (.int .i64 s7) ∧ W.cell? ⟨w.heap.size, 8, none⟩ = some (.slice A n c) ∧ W.cell? ⟨w.heap.size, 9, none⟩ = some (.int .i64 s9) ∧ W.cell? ⟨w.heap.size, 10, none⟩ = some (.int .i64 s10) ∧ W.cell? ⟨w.heap.size, 11, none⟩ = some (.int .i64 s11) ∧ W.cell? ⟨w.heap.size, 12, none⟩ = some (.int .i64 s12))
    (go_keep)
    (first
      | (go_at_call 28; refine (HR.out _).mono ?_; rintro e w1 ⟨rfl, hb1⟩; have n0 := Lib.hid (keepv hb1 l0); have n1 := Lib.hid (keepv hb1 l1); have n2 := Lib.hid (keepv hb1 l2); have n3 := Lib.hid (keepv hb1 l3); have n4 := Lib.hid (keepv hb1 l4); have n5 := Lib.hid (keepv hb1 l5); have n6 := Lib.hid (keepv hb1 l6); have n7 := Lib.hid (keepv hb1 l7); have n8 := Lib.hid (keepv hb1 l8); have n9 := Lib.hid (keepv hb1 l9); have n10 := Lib.hid (keepv hb1 l10); have n11 := Lib.hid (keepv hb1 l11); have n12 := Lib.hid (keepv hb1 l12); clear l0 l1 l2 l3 l4 l5 l6 l7 l8 l9 l10 l11 l12; have l0 := n0.out; have l1 := n1.out; have l2 := n2.out; have l3 := n3.out; have l4 := n4.out; have l5 := n5.out; have l6 := n6.out; have l7 := n7.out; have l8 := n8.out; have l9 := n9.out; have l10 := n10.out; have l11 := n11.out; have l12 := n12.out;)
      | (go_at_call 29; have _t := tok1; clear tok1; refine (HS.out _ _ (by omega)).mono ?_; rintro e w2 ⟨rfl, hb2⟩; have n0 := Lib.hid (keepv hb2 l0); have n1 := Lib.hid (keepv hb2 l1); have n2 := Lib.hid (keepv hb2 l2); have n3 := Lib.hid (keepv hb2 l3); have n4 := Lib.hid (keepv hb2 l4); have n5 := Lib.hid (keepv hb2 l5); have n6 := Lib.hid (keepv hb2 l6); have n7 := Lib.hid (keepv hb2 l7); have n8 := Lib.hid (keepv hb2 l8); have n9 := Lib.hid (keepv hb2 l9); have n10 := Lib.hid (keepv hb2 l10); have n11 := Lib.hid (keepv hb2 l11); have n12 := Lib.hid (keepv hb2 l12); clear l0 l1 l2 l3 l4 l5 l6 l7 l8 l9 l10 l11 l12; have l0 := n0.out; have l1 := n1.out; have l2 := n2.out; have l3 := n3.out; have l4 := n4.out; have l5 := n5.out; have l6 := n6.out; have l7 := n7.out; have l8 := n8.out; have l9 := n9.out; have l10 := n10.out; have l11 := n11.out; have l12 := n12.out;)
      | (go_at_call 29; refine (HS.out _ _ (by omega)).mono ?_; rintro e w3 ⟨rfl, hb3⟩; have n0 := Lib.hid (keepv hb3 l0); have n1 := Lib.hid (keepv hb3 l1); have n2 := Lib.hid (keepv hb3 l2); have n3 := Lib.hid (keepv hb3 l3); have n4 := Lib.hid (keepv hb3 l4); have n5 := Lib.hid (keepv hb3 l5); have n6 := Lib.hid (keepv hb3 l6); have n7 := Lib.hid (keepv hb3 l7); have n8 := Lib.hid (keepv hb3 l8); have n9 := Lib.hid (keepv hb3 l9); have n10 := Lib.hid (keepv hb3 l10); have n11 := Lib.hid (keepv hb3 l11); have n12 := Lib.hid (keepv hb3 l12); clear l0 l1 l2 l3 l4 l5 l6 l7 l8 l9 l10 l11 l12; have l0 := n0.out; have l1 := n1.out; have l2 := n2.out; have l3 := n3.out; have l4 := n4.out; have l5 := n5.out; have l6 := n6.out; have l7 := n7.out; have l8 := n8.out; have l9 := n9.out; have l10 := n10.out; have l11 := n11.out; have l12 := n12.out;))
  have q1 := (B.out.drew).trans (hb1.mono (B.out.drew).size)
  have q2 := q1.trans (hb2.mono q1.size)
  have q3 := q2.trans (hb3.mono q2.size)
  go_wp2_with fail
  go_ret
  exact ⟨vretI (by rw [E.out] <;> first | (simp; done) | rw [show IntKind.i64.wrap (0 : Int) = 0 by decide, Int.add_zero, W1, Int.zero_mul, Int.add_zero]), q3⟩
set_option maxHeartbeats 2000000 in
theorem trip_more (s0 s1 s2 s3 s4 s5 s6 s7 s9 s10 s11 s12 : Int) (A : Option Addr) (n c : Nat) (p : Int) (w : World) (h : SB s0 s1 s3 s4 s5 s6 s7) (p1 : s3 < p) :
    Calls Try.prog 30 #[.agg #[.int .i64 s0, .int .i64 s1, .int .i64 s2, .int .i64 s3, .int .i64 s4, .int .i64 s5, .int .i64 s6, .int .i64 s7, .slice A n c, .int .i64 s9, .int .i64 s10, .int .i64 s11, .int .i64 s12], .int .i64 p] w fun e w' => e = .returned (.int .i64 (btripV s0 s1 s4 s5 s6 s7 s3)) ∧ Below w.heap.size w w' := by
  have h' := h
  obtain ⟨⟨a0, a1⟩, ⟨b0, b1⟩, ⟨g0, g1⟩, _⟩ := h'
  have k3 : 0 < s3 := by omega
  have k4 : ¬ p < s3 := by omega
  have k5 : ¬ p ≤ s3 := by omega
  have k6 : s3 ≤ p := by omega
  have tok1 : True := trivial
  have nn1 : s3 ≤ 64 := by omega
  have nn0 : 0 ≤ s3 := by omega
  have HR := Lib.hid (fun w => bround_any s0 s1 s2 s3 s4 s5 s6 s7 s9 s10 s11 s12 A n c w h)
  have HS := Lib.hid (fun (q : Int) w (hq : q ≤ 1073741824) => stop_any s0 s1 s2 s3 s4 s5 s6 s7 s9 s10 s11 s12 A n c q w h hq)
  obtain ⟨t0, t1⟩ := top_bd a0 a1 b0 b1
  obtain ⟨u0, u1⟩ := stopT_bd h nn0 nn1
  obtain ⟨v0, v1⟩ := stopT_bd (n := 1) h (by omega) (by omega)
  have pb := mulb (m := 64) (k := 4288) nn0 nn1 v0 v1 (by omega)
  have E := Lib.hid (show btripV s0 s1 s4 s5 s6 s7 s3 = 2 * topV s0 s1 + stopT s4 s5 s6 s7 s3 + s3 * stopT s4 s5 s6 s7 1 from rfl)
  have W1 : IntKind.i64.wrap (2 * topV s0 s1 + stopT s4 s5 s6 s7 s3) = 2 * topV s0 s1 + stopT s4 s5 s6 s7 s3 := i64_in (by omega)
  have W2 : IntKind.i64.wrap (s3 * stopT s4 s5 s6 s7 1) = s3 * stopT s4 s5 s6 s7 1 := i64_in (by omega)
  have W3 : IntKind.i64.wrap (2 * topV s0 s1 + stopT s4 s5 s6 s7 s3 + s3 * stopT s4 s5 s6 s7 1) = 2 * topV s0 s1 + stopT s4 s5 s6 s7 s3 + s3 * stopT s4 s5 s6 s7 1 := i64_in (by omega)
  have B := Lib.hid (Joins.below_alloc1 w (.cells #[.int .i64 s0, .int .i64 s1, .int .i64 s2, .int .i64 s3, .int .i64 s4, .int .i64 s5, .int .i64 s6, .int .i64 s7, .slice A n c, .int .i64 s9, .int .i64 s10, .int .i64 s11, .int .i64 s12] 57))
  have hs : w.heap.size < (w.alloc (.cells #[.int .i64 s0, .int .i64 s1, .int .i64 s2, .int .i64 s3, .int .i64 s4, .int .i64 s5, .int .i64 s6, .int .i64 s7, .slice A n c, .int .i64 s9, .int .i64 s10, .int .i64 s11, .int .i64 s12] 57)).heap.size := by simp
  have l := fun j v (h : #[(.int .i64 s0 : Value), .int .i64 s1, .int .i64 s2, .int .i64 s3, .int .i64 s4, .int .i64 s5, .int .i64 s6, .int .i64 s7, .slice A n c, .int .i64 s9, .int .i64 s10, .int .i64 s11, .int .i64 s12][j]? = some v) => (World.cell?_alloc_mark w #[(.int .i64 s0 : Value), .int .i64 s1, .int .i64 s2, .int .i64 s3, .int .i64 s4, .int .i64 s5, .int .i64 s6, .int .i64 s7, .slice A n c, .int .i64 s9, .int .i64 s10, .int .i64 s11, .int .i64 s12] 57 (0, 0) j).trans h
  have l0 := l 0 _ rfl
  have l1 := l 1 _ rfl
  have l2 := l 2 _ rfl
  have l3 := l 3 _ rfl
  have l4 := l 4 _ rfl
  have l5 := l 5 _ rfl
  have l6 := l 6 _ rfl
  have l7 := l 7 _ rfl
  have l8 := l 8 _ rfl
  have l9 := l 9 _ rfl
  have l10 := l 10 _ rfl
  have l11 := l 11 _ rfl
  have l12 := l 12 _ rfl
  clear l h
  go_enter Try.func30, Try.ntmps30
  go_wp2_with fail
  go_region_held3 (fun W => W.cell? ⟨w.heap.size, 0, none⟩ = some (.int .i64 s0) ∧ W.cell? ⟨w.heap.size, 1, none⟩ = some (.int .i64 s1) ∧ W.cell? ⟨w.heap.size, 2, none⟩ = some (.int .i64 s2) ∧ W.cell? ⟨w.heap.size, 3, none⟩ = some (.int .i64 s3) ∧ W.cell? ⟨w.heap.size, 4, none⟩ = some (.int .i64 s4) ∧ W.cell? ⟨w.heap.size, 5, none⟩ = some (.int .i64 s5) ∧ W.cell? ⟨w.heap.size, 6, none⟩ = some (.int .i64 s6) ∧ W.cell? ⟨w.heap.size, 7, none⟩ = some (.int .i64 s7) ∧ W.cell? ⟨w.heap.size, 8, none⟩ = some (.slice A n c) ∧ W.cell? ⟨w.heap.size, 9, none⟩ = some (.int .i64 s9) ∧ W.cell? ⟨w.heap.size, 10, none⟩ = some (.int .i64 s10) ∧ W.cell? ⟨w.heap.size, 11, none⟩ = some (.int .i64 s11) ∧ W.cell? ⟨w.heap.size, 12, none⟩ = some (.int .i64 s12))
    (go_keep)
    (first
      | (go_at_call 28; refine (HR.out _).mono ?_; rintro e w1 ⟨rfl, hb1⟩; have n0 := Lib.hid (keepv hb1 l0); have n1 := Lib.hid (keepv hb1 l1); have n2 := Lib.hid (keepv hb1 l2); have n3 := Lib.hid (keepv hb1 l3); have n4 := Lib.hid (keepv hb1 l4); have n5 := Lib.hid (keepv hb1 l5); have n6 := Lib.hid (keepv hb1 l6); have n7 := Lib.hid (keepv hb1 l7); have n8 := Lib.hid (keepv hb1 l8); have n9 := Lib.hid (keepv hb1 l9); have n10 := Lib.hid (keepv hb1 l10); have n11 := Lib.hid (keepv hb1 l11); have n12 := Lib.hid (keepv hb1 l12); clear l0 l1 l2 l3 l4 l5 l6 l7 l8 l9 l10 l11 l12; have l0 := n0.out; have l1 := n1.out; have l2 := n2.out; have l3 := n3.out; have l4 := n4.out; have l5 := n5.out; have l6 := n6.out; have l7 := n7.out; have l8 := n8.out; have l9 := n9.out; have l10 := n10.out; have l11 := n11.out; have l12 := n12.out;)
      | (go_at_call 29; have _t := tok1; clear tok1; refine (HS.out _ _ (by omega)).mono ?_; rintro e w2 ⟨rfl, hb2⟩; have n0 := Lib.hid (keepv hb2 l0); have n1 := Lib.hid (keepv hb2 l1); have n2 := Lib.hid (keepv hb2 l2); have n3 := Lib.hid (keepv hb2 l3); have n4 := Lib.hid (keepv hb2 l4); have n5 := Lib.hid (keepv hb2 l5); have n6 := Lib.hid (keepv hb2 l6); have n7 := Lib.hid (keepv hb2 l7); have n8 := Lib.hid (keepv hb2 l8); have n9 := Lib.hid (keepv hb2 l9); have n10 := Lib.hid (keepv hb2 l10); have n11 := Lib.hid (keepv hb2 l11); have n12 := Lib.hid (keepv hb2 l12); clear l0 l1 l2 l3 l4 l5 l6 l7 l8 l9 l10 l11 l12; have l0 := n0.out; have l1 := n1.out; have l2 := n2.out; have l3 := n3.out; have l4 := n4.out; have l5 := n5.out; have l6 := n6.out; have l7 := n7.out; have l8 := n8.out; have l9 := n9.out; have l10 := n10.out; have l11 := n11.out; have l12 := n12.out;)
      | (go_at_call 29; refine (HS.out _ _ (by omega)).mono ?_; rintro e w3 ⟨rfl, hb3⟩; have n0 := Lib.hid (keepv hb3 l0); have n1 := Lib.hid (keepv hb3 l1); have n2 := Lib.hid (keepv hb3 l2); have n3 := Lib.hid (keepv hb3 l3); have n4 := Lib.hid (keepv hb3 l4); have n5 := Lib.hid (keepv hb3 l5); have n6 := Lib.hid (keepv hb3 l6); have n7 := Lib.hid (keepv hb3 l7); have n8 := Lib.hid (keepv hb3 l8); have n9 := Lib.hid (keepv hb3 l9); have n10 := Lib.hid (keepv hb3 l10); have n11 := Lib.hid (keepv hb3 l11); have n12 := Lib.hid (keepv hb3 l12); clear l0 l1 l2 l3 l4 l5 l6 l7 l8 l9 l10 l11 l12; have l0 := n0.out; have l1 := n1.out; have l2 := n2.out; have l3 := n3.out; have l4 := n4.out; have l5 := n5.out; have l6 := n6.out; have l7 := n7.out; have l8 := n8.out; have l9 := n9.out; have l10 := n10.out; have l11 := n11.out; have l12 := n12.out;))
  have q1 := (B.out.drew).trans (hb1.mono (B.out.drew).size)
  have q2 := q1.trans (hb2.mono q1.size)
  have q3 := q2.trans (hb3.mono q2.size)
  go_wp2_with fail
  go_ret
  exact ⟨vretI (by rw [E.out] <;> first | (simp; done) | rw [show IntKind.i64.wrap (0 : Int) = 0 by decide, Int.add_zero, W1, Int.zero_mul, Int.add_zero]), q3⟩
theorem trip_le (s0 s1 s2 s3 s4 s5 s6 s7 s9 s10 s11 s12 : Int) (A : Option Addr) (n c : Nat) (p : Int) (w : World) (h : SB s0 s1 s3 s4 s5 s6 s7) (p0 : 0 ≤ p) (p1 : p < s3) :
    Calls Try.prog 30 #[.agg #[.int .i64 s0, .int .i64 s1, .int .i64 s2, .int .i64 s3, .int .i64 s4, .int .i64 s5, .int .i64 s6, .int .i64 s7, .slice A n c, .int .i64 s9, .int .i64 s10, .int .i64 s11, .int .i64 s12], .int .i64 p] w fun e w' => e = .returned (.int .i64 (btripV s0 s1 s4 s5 s6 s7 p)) ∧ Below w.heap.size w w' := by
  by_cases hp : p = 0
  · have := trip_zero s0 s1 s2 s3 s4 s5 s6 s7 s9 s10 s11 s12 A n c p w h hp
    rw [← hp] at this; exact this
  · exact trip_less s0 s1 s2 s3 s4 s5 s6 s7 s9 s10 s11 s12 A n c p w h (by omega) p1
end Go.Proofs.Ytjokekohmncmkac
