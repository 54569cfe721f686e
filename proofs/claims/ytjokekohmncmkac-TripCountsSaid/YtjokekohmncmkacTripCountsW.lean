/- The walk of TripCounts: it answers true for every input, and leaves all old blocks as they were. No condition. -/
import Derived.Test.YtjokekohmncmkacRows
import Derived.Test.YtjokekohmncmkacRowKit
import Derived.Test.YtjokekohmncmkacRowS
import Derived.Test.YtjokekohmncmkacRowZ
import Derived.Test.YtjokekohmncmkacTripMath
import Derived.Test.YtjokekohmncmkacTripA
import Derived.WalkKit
import Derived.ProofKit
import Derived.OpenShut
import Derived.Deep.QuietTactic
import Derived.BigQuiet
import Derived.Lib.SmallJoins
import Derived.Lib.Hide
import Derived.WalkSpells
import Derived.WalkLawsBesides
import Derived.IntWalk
import Derived.Deep.RegionHeld3
namespace Go.Proofs.Ytjokekohmncmkac.tripCounts
open Go.ChangeShapes Go.WideShapes Go.ChangeAt Go.RowKit Go.Joins
set_option linter.unusedSimpArgs false
set_option linter.unusedVariables false


set_option maxHeartbeats 2000000 in
theorem walk_small {A : Option Addr} {c n : Nat} {z : Nat → Nat → Int} (i t f o : Int) (w : World) (hr : RdZ w 7 A n z) (hn : n ≤ 100) :
    Calls Try.prog 8 #[.slice A n c, .agg #[.int .i64 i, .int .i64 t, .int .i64 f, .int .i64 o]] w fun e w' => e = .returned (.bool true) ∧ Below w.heap.size w w' := by
  have CC := fun W (hb : Below w.heap.size w W) => tcounts_any A c n z W (hr.kept hb) (by omega)
  have M2 := fun W (hb : Below w.heap.size w W) => rmany_any A c n 2 z W (hr.kept hb) (by omega)
  have M1 := fun W (hb : Below w.heap.size w W) => rmany_any A c n 1 z W (hr.kept hb) (by omega)
  have M0 := fun W (hb : Below w.heap.size w W) => rmany_any A c n 0 z W (hr.kept hb) (by omega)
  have all := cnt_all z n
  have s2 := cnt_le z 2 n
  have s1 := cnt_le z 1 n
  have s0 := cnt_le z 0 n
  obtain ⟨x2, h2⟩ : ∃ x, cntV z 2 n = x := ⟨_, rfl⟩
  obtain ⟨x1, h1⟩ : ∃ x, cntV z 1 n = x := ⟨_, rfl⟩
  obtain ⟨x0, h0⟩ : ∃ x, cntV z 0 n = x := ⟨_, rfl⟩
  rw [h2, h1, h0] at CC all
  rw [h2] at M2 s2
  rw [h1] at M1 s1
  rw [h0] at M0 s0
  have KC := Lib.hid CC
  have K2 := Lib.hid M2
  have K1 := Lib.hid M1
  have K0 := Lib.hid M0
  have ALL := Lib.hid all
  have q2 : (x2 == x2) = true := by simp
  have q1 : (x1 == x1) = true := by simp
  have q0 : (x0 == x0) = true := by simp
  have qi : (i == i) = true := by simp
  have qt : (t == t) = true := by simp
  have qf : (f == f) = true := by simp
  have qo : (o == o) = true := by simp
  clear CC M2 M1 M0 h2 h1 h0 all
  go_enter Try.func8, Try.ntmps8
  go_wp2_with fail
  go_loopw [5] (fun i' wr => ∃ k : Nat, k ≤ n ∧ i' = .int .i64 k ∧ Below w.heap.size w wr ∧ (∀ j v, #[(.int .i64 i : Value), .int .i64 t, .int .i64 f, .int .i64 o][j]? = some v → wr.cell? ⟨w.heap.size, j, none⟩ = some v)) (fun i' _ => n - (intOf i').toNat)
  case atStart => exact ⟨0, by omega, rfl, (Below.refl _ _).alloc (Nat.le_refl _) _, fun j v h => by rw [World.cell?_alloc_mark]; exact h⟩
  case round =>
    obtain ⟨k, hk, rfl, hb, hp⟩ := hrel
    have HP := Lib.hid hp
    clear hp
    by_cases h : k < n
    · obtain ⟨b, off, rfl, hlt, hc⟩ := rdZ_row (hr.kept hb) (by omega) (by omega)
      have c0 : wr.cell? ⟨b, off + k * 7, none⟩ = _ := hc k 0 h (by omega)
      have c1 := hc k 1 h (by omega)
      have c2 := hc k 2 h (by omega)
      have c3 := hc k 3 h (by omega)
      have c4 := hc k 4 h (by omega)
      have c5 := hc k 5 h (by omega)
      have c6 := hc k 6 h (by omega)
      clear hc
      have T := fun w => tat_any (z k 0) (z k 1) (z k 2) (z k 3) (z k 4) (z k 5) (z k 6) w
      have U := fun w => rtat_any (z k 0) (z k 1) (z k 2) (z k 3) (z k 4) (z k 5) (z k 6) w
      obtain ⟨p, hp⟩ : ∃ p, phaseV (z k 5) (z k 6) = p := ⟨_, rfl⟩
      rw [hp] at T U
      have HT := Lib.hid T
      have HU := Lib.hid U
      have qp : (p != p) = false := by simp
      have qp2 : (p == p) = true := by simp
      clear T U hp
      go_wp2_with fail
      go_region_held3 (fun W => W.cell? ⟨b, off + k * 7, none⟩ = some (.int .i64 (z k 0)) ∧ W.cell? ⟨b, off + k * 7 + 1, none⟩ = some (.int .i64 (z k 1)) ∧ W.cell? ⟨b, off + k * 7 + 2, none⟩ = some (.int .i64 (z k 2)) ∧ W.cell? ⟨b, off + k * 7 + 3, none⟩ = some (.int .i64 (z k 3)) ∧ W.cell? ⟨b, off + k * 7 + 4, none⟩ = some (.int .i64 (z k 4)) ∧ W.cell? ⟨b, off + k * 7 + 5, none⟩ = some (.int .i64 (z k 5)) ∧ W.cell? ⟨b, off + k * 7 + 6, none⟩ = some (.int .i64 (z k 6)))
        (go_keep)
        (first
          | (go_at_call 32; refine (HT.out _).mono ?_; rintro e w1 ⟨rfl, hb1⟩; have n0 := Lib.hid (keepc hb1 c0); have n1 := Lib.hid (keepc hb1 c1); have n2 := Lib.hid (keepc hb1 c2); have n3 := Lib.hid (keepc hb1 c3); have n4 := Lib.hid (keepc hb1 c4); have n5 := Lib.hid (keepc hb1 c5); have n6 := Lib.hid (keepc hb1 c6); clear c0 c1 c2 c3 c4 c5 c6; have c0 := n0.out; have c1 := n1.out; have c2 := n2.out; have c3 := n3.out; have c4 := n4.out; have c5 := n5.out; have c6 := n6.out;)
          | (go_at_call 33; refine (HU.out _).mono ?_; rintro e w2 ⟨rfl, hb2⟩; have n0 := Lib.hid (keepc hb2 c0); have n1 := Lib.hid (keepc hb2 c1); have n2 := Lib.hid (keepc hb2 c2); have n3 := Lib.hid (keepc hb2 c3); have n4 := Lib.hid (keepc hb2 c4); have n5 := Lib.hid (keepc hb2 c5); have n6 := Lib.hid (keepc hb2 c6); clear c0 c1 c2 c3 c4 c5 c6; have c0 := n0.out; have c1 := n1.out; have c2 := n2.out; have c3 := n3.out; have c4 := n4.out; have c5 := n5.out; have c6 := n6.out;))
      have q3 : Below w.heap.size w w1 := (hb.drew).trans (hb1.mono (hb.drew).size)
      have q4 : Below w.heap.size w w2 := q3.trans (hb2.mono q3.size)
      have HP2 := Lib.hid (fun j v (h : #[(.int .i64 i : Value), .int .i64 t, .int .i64 f, .int .i64 o][j]? = some v) => keepc hb2 (keepc hb1 (HP.out j v h)))
      go_wp2_with fail
      go_roundw
      case rel => exact ⟨k + 1, by omega, by go_num, q4, HP2.out⟩
      case measure => simp [intOf]; omega
    · obtain rfl : k = n := by omega
      have p0 := HP.out 0 _ rfl
      have p1 := HP.out 1 _ rfl
      have p2 := HP.out 2 _ rfl
      have p3 := HP.out 3 _ rfl
      have hs : w.heap.size < wr.heap.size := lt_of_cell p0
      go_wp2_with fail
      refine (KC.out _ hb).mono ?_
      rintro e w1 ⟨rfl, hb1⟩
      have g1 := hb.trans (Joins.below_le hb1 hb.size)
      have p0 := keepc hb1 p0
      have p1 := keepc hb1 p1
      have p2 := keepc hb1 p2
      have p3 := keepc hb1 p3
      go_wp2_with fail
      refine (begin_any _ _ _ _ _).mono ?_
      rintro e w2 ⟨rfl, hb2⟩
      have g2 := g1.trans (Joins.below_le hb2 g1.size)
      have p0 := keepc hb2 p0
      have p1 := keepc hb2 p1
      have p2 := keepc hb2 p2
      have p3 := keepc hb2 p3
      have B3 := Lib.hid (g2.alloc g2.size (.cells #[.int .i64 i, .int .i64 t, .int .i64 f, .int .i64 o, .int .i64 (-1), .int .i64 (-1), .int .i64 (-1)] 68))
      go_wp2_with fail
      refine (K2.out _ B3.out).mono ?_
      rintro e w3 ⟨rfl, hb3⟩
      have g3 := B3.out.trans (Joins.below_le hb3 B3.out.size)
      have l := fun j v (h : #[(.int .i64 i : Value), .int .i64 t, .int .i64 f, .int .i64 o, .int .i64 (-1), .int .i64 (-1), .int .i64 (-1)][j]? = some v) => keepc hb3 (b := w2.heap.size) (o := j) (by rw [World.cell?_alloc_mark]; exact h)
      have l0 := l 0 _ rfl
      have l1 := l 1 _ rfl
      have l2 := l 2 _ rfl
      have l3 := l 3 _ rfl
      have l4 := l 4 _ rfl
      have l5 := l 5 _ rfl
      have l6 := l 6 _ rfl
      clear l
      have p0 := keepc hb3 (keepc (Joins.below_alloc1 w2 _) p0)
      have p1 := keepc hb3 (keepc (Joins.below_alloc1 w2 _) p1)
      have p2 := keepc hb3 (keepc (Joins.below_alloc1 w2 _) p2)
      have p3 := keepc hb3 (keepc (Joins.below_alloc1 w2 _) p3)
      go_wp2_with fail
      refine (K1.out _ g3).mono ?_
      rintro e w4 ⟨rfl, hb4⟩
      have g4 := g3.trans (Joins.below_le hb4 g3.size)
      have l0 := keepc hb4 l0
      have l1 := keepc hb4 l1
      have l2 := keepc hb4 l2
      have l3 := keepc hb4 l3
      have l4 := keepc hb4 l4
      have l5 := keepc hb4 l5
      have l6 := keepc hb4 l6
      have p0 := keepc hb4 p0
      have p1 := keepc hb4 p1
      have p2 := keepc hb4 p2
      have p3 := keepc hb4 p3
      go_wp2_with fail
      refine (K0.out _ g4).mono ?_
      rintro e w5 ⟨rfl, hb5⟩
      have g5 := g4.trans (Joins.below_le hb5 g4.size)
      have l0 := keepc hb5 l0
      have l1 := keepc hb5 l1
      have l2 := keepc hb5 l2
      have l3 := keepc hb5 l3
      have l4 := keepc hb5 l4
      have l5 := keepc hb5 l5
      have l6 := keepc hb5 l6
      have p0 := keepc hb5 p0
      have p1 := keepc hb5 p1
      have p2 := keepc hb5 p2
      have p3 := keepc hb5 p3
      have a1 : ((x2 : Int) + x1 + x0 == (k : Int)) = true := by rw [beq_iff_eq]; have := ALL.out; omega
      have a2 : (x2 + x1 + x0 == k) = true := by rw [beq_iff_eq]; exact ALL.out
      go_wp2_with (go_at_call 37; refine (talive _).mono ?_; rintro e w6 ⟨rfl, hb6⟩)
      go_ret
      exact ⟨rfl, g5.trans (Joins.below_le hb6 g5.size)⟩
theorem walk {A : Option Addr} {c n : Nat} {z : Nat → Nat → Int} {i t f o : Int} {w : World} (hc : n ≤ c) (hm : c ≤ maxLen) (hr : RdZ w 7 A n z) (_ : A = none → c = 0) (w0 : (Lit.int .i64 i).wf = true) (w1 : (Lit.int .i64 t).wf = true) (w2 : (Lit.int .i64 f).wf = true) (w3 : (Lit.int .i64 o).wf = true) :
    Calls Try.prog 8 #[.slice A n c, .agg #[.int .i64 i, .int .i64 t, .int .i64 f, .int .i64 o]] w fun e w' => e = .returned (.bool true) ∧ Below w.heap.size w w' := by
  by_cases hn : n ≤ 100
  · exact walk_small i t f o w hr hn
  · unfold maxLen at hm
    have h : 100 < n := by omega
    go_enter Try.func8, Try.ntmps8
    go_wp2_with fail
    go_ret
    exact ⟨rfl, (Below.refl _ _).alloc (Nat.le_refl _) _⟩

end Go.Proofs.Ytjokekohmncmkac.tripCounts
