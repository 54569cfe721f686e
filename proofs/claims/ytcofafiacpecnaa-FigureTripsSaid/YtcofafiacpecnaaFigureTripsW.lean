/- The walk of FigureTrips: it answers true for every input, and leaves all old blocks as they were. No condition. -/
import Derived.Test.YtcofafiacpecnaaRows
import Derived.Test.YtcofafiacpecnaaRowKit
import Derived.Test.YtcofafiacpecnaaRowS
import Derived.Test.YtcofafiacpecnaaRowZ
import Derived.Test.YtcofafiacpecnaaTripMath
import Derived.Test.YtcofafiacpecnaaTripA
import Derived.Test.YtcofafiacpecnaaTripC
import Derived.Test.YtcofafiacpecnaaFracA
import Derived.Test.YtcofafiacpecnaaFigA
import Derived.Test.YtcofafiacpecnaaFigB
import Derived.WalkKit
import Derived.ProofKit
import Derived.OpenShut
import Derived.Deep.QuietTactic
import Derived.BigQuiet
import Derived.Lib.SmallJoins
import Derived.Lib.Hide
import Derived.WalkSpells
import Derived.WalkLawsBesides
import Derived.IntWalk
import Derived.Deep.RegionHeld3
namespace Go.Proofs.Ytcofafiacpecnaa.figureTrips
open Go.ChangeShapes Go.WideShapes Go.ChangeAt Go.RowKit Go.Joins
set_option linter.unusedSimpArgs false
set_option linter.unusedVariables false

set_option maxRecDepth 100000 in
set_option maxHeartbeats 4000000 in
theorem walk_out {A : Option Addr} {c n : Nat} {z : Nat → Nat → Int} (k h : Int) (w : World) (hr : RdZ w 7 A n z) (hm : n ≤ 9223372036854775807) (ho : k < 0 ∨ 1048576 < k ∨ h < -1 ∨ 1073741824 < h) :
    Calls Try.prog 9 #[.slice A n c, .int .i64 k, .int .i64 h] w fun e w' => e = .returned (.bool true) ∧ Below w.heap.size w w' := by
  by_cases h1 : k < 0
  · clear ho
    go_enter Try.func9, Try.ntmps9
    go_wp2_with fail
    refine (great_any A c n z w hr hm).mono ?_
    rintro e w1 ⟨b, rfl, hb1, _⟩
    cases b
    all_goals
      go_wp2_with fail
      go_ret
      exact ⟨rfl, hb1⟩
  · by_cases h2 : 1048576 < k
    · clear ho
      go_enter Try.func9, Try.ntmps9
      go_wp2_with fail
      refine (great_any A c n z w hr hm).mono ?_
      rintro e w1 ⟨b, rfl, hb1, _⟩
      cases b
      all_goals
        go_wp2_with fail
        go_ret
        exact ⟨rfl, hb1⟩
    · by_cases h3 : h < -1
      · clear ho
        go_enter Try.func9, Try.ntmps9
        go_wp2_with fail
        refine (great_any A c n z w hr hm).mono ?_
        rintro e w1 ⟨b, rfl, hb1, _⟩
        cases b
        all_goals
          go_wp2_with fail
          go_ret
          exact ⟨rfl, hb1⟩
      · have h4 : 1073741824 < h := by omega
        clear ho
        go_enter Try.func9, Try.ntmps9
        go_wp2_with fail
        refine (great_any A c n z w hr hm).mono ?_
        rintro e w1 ⟨b, rfl, hb1, _⟩
        cases b
        all_goals
          go_wp2_with fail
          go_ret
          exact ⟨rfl, hb1⟩
set_option maxRecDepth 100000 in
set_option maxHeartbeats 4000000 in
theorem walk_none {A : Option Addr} {c n : Nat} {z : Nat → Nat → Int} (k h : Int) (w : World) (hr : RdZ w 7 A n z) (hm : n ≤ 9223372036854775807) (k0 : 0 ≤ k) (k1 : k ≤ 1048576) (h0 : -1 ≤ h) (h1 : h ≤ 1073741824) (ho : h < 1 ∨ k < 1) :
    Calls Try.prog 9 #[.slice A n c, .int .i64 k, .int .i64 h] w fun e w' => e = .returned (.bool true) ∧ Below w.heap.size w w' := by
  have KL := Lib.hid (fun w => load_no A c n k h w (by omega))
  by_cases h2 : h < 1
  · have KH := Lib.hid (fun w => handling_no A c n h w h2)
    clear ho
    go_enter Try.func9, Try.ntmps9
    go_wp2_with fail
    refine (great_any A c n z w hr hm).mono ?_
    rintro e w1 ⟨b, rfl, hb1, _⟩
    cases b
    · go_wp2_with (first
        | (go_at_call 43; refine (KL.out _).mono ?_; rintro e w2 ⟨rfl, hb2⟩)
        | (go_at_call 44; refine (KH.out _).mono ?_; rintro e w3 ⟨rfl, rfl⟩)
        | (go_at_call 45; refine (figalive _).mono ?_; rintro e w4 ⟨rfl, hb4⟩))
      go_ret
      exact ⟨rfl, ((hb1.trans (hb2.mono hb1.size)).alloc (by have := hb1.size; have := hb2.size; omega) _).trans (hb4.mono (by have := hb1.size; have := hb2.size; simp; omega))⟩
    · go_wp2_with fail
      go_ret
      exact ⟨rfl, hb1⟩
  · have h3 : k < 1 := by omega
    clear ho
    go_enter Try.func9, Try.ntmps9
    go_wp2_with fail
    refine (great_any A c n z w hr hm).mono ?_
    rintro e w1 ⟨b, rfl, hb1, _⟩
    cases b
    · go_wp2_with (first
        | (go_at_call 43; refine (KL.out _).mono ?_; rintro e w2 ⟨rfl, hb2⟩)
        | (go_at_call 45; refine (figalive _).mono ?_; rintro e w4 ⟨rfl, hb4⟩))
      go_ret
      exact ⟨rfl, ((hb1.trans (hb2.mono hb1.size)).alloc (by have := hb1.size; have := hb2.size; omega) _).trans (hb4.mono (by have := hb1.size; have := hb2.size; simp; omega))⟩
    · go_wp2_with fail
      go_ret
      exact ⟨rfl, hb1⟩
theorem rdZ_drew {w : World} {m n : Nat} {A : Option Addr} {z : Nat → Nat → Int} (h : RdZ w m A n z) : RdZ w.drew m A n z := h
theorem keep3c {X Y : World} {g : Nat} {va vb vc : Value} (hb : Below X.heap.size X Y) (h : X.cell? ⟨g, 0, none⟩ = some va ∧ X.cell? ⟨g, 1, none⟩ = some vb ∧ X.cell? ⟨g, 2, none⟩ = some vc) :
    Y.cell? ⟨g, 0, none⟩ = some va ∧ Y.cell? ⟨g, 1, none⟩ = some vb ∧ Y.cell? ⟨g, 2, none⟩ = some vc := ⟨keepc hb h.1, keepc hb h.2.1, keepc hb h.2.2⟩
set_option maxRecDepth 100000 in
set_option maxHeartbeats 8000000 in
theorem walk_ok {A : Option Addr} {c n : Nat} {z : Nat → Nat → Int} (k h m : Int) (w : World) (hr : RdZ w 7 A n z) (hm : n ≤ 9223372036854775807) (k0 : 1 ≤ k) (k1 : k ≤ 1048576) (h0 : 1 ≤ h) (h1 : h ≤ 1073741824) (he : k * h = m) (m0 : 1 ≤ m) (m1 : m ≤ 1125899906842624) :
    Calls Try.prog 9 #[.slice A n c, .int .i64 k, .int .i64 h] w fun e w' => e = .returned (.bool true) ∧ Below w.heap.size w w' := by
  have hw : IntKind.i64.wrap (k * h) = m := by rw [he]; exact IntWalk.i64_in _ (by omega)
  have HRR := Lib.hid hr
  have HE := Lib.hid he
  clear he
  go_enter Try.func9, Try.ntmps9
  go_wp2_with fail
  refine (great_any A c n z w hr hm).mono ?_
  rintro e w1 ⟨b, rfl, hb1, hG⟩
  cases b
  · obtain ⟨hn, hz⟩ := hG rfl
    have bd := aboard_bd z h1 n
    have cl := cnt_le z 2 n
    obtain ⟨x, hx⟩ : ∃ x, aboardV z h n = x := ⟨_, rfl⟩
    have KL := fun w (hr : RdZ w 7 A n z) => load_ok A c n k h m x z w hr (by omega) hz h0 h1 k0 HE.out m0 (by omega) hx
    have KB := fun w (hr : RdZ w 7 A n z) => raboard_any A c n h z w hr (by omega) hz (by omega) h1
    have KH := fun w (hr : RdZ w 7 A n z) => handling_ok A c n h z w hr (by omega) h0
    have KM := fun w (hr : RdZ w 7 A n z) => rmany_any A c n 2 z w hr (by omega)
    rw [hx] at bd
    simp only [hx] at KB
    obtain ⟨C, hC⟩ : ∃ C, cntV z 2 n = C := ⟨_, rfl⟩
    rw [hC] at cl
    simp only [hC] at KH KM
    obtain ⟨y, hy⟩ : ∃ y, (C : Int) * 300 = y := ⟨_, rfl⟩
    simp only [hy] at KH
    have e1 : IntKind.i64.wrap ((C : Int) * 300) = y := by rw [hy]; exact IntWalk.i64_in _ (by omega)
    obtain ⟨q, hq⟩ : ∃ q, y / h = q := ⟨_, rfl⟩
    simp only [hq] at KH
    have e2 : y.tdiv h = q := by rw [Int.tdiv_eq_ediv_of_nonneg (by omega), hq]
    have e3 : x.tdiv m = x / m := by rw [Int.tdiv_eq_ediv_of_nonneg (by omega)]
    have e4 : x.tmod m = x % m := by rw [Int.tmod_eq_emod_of_nonneg (by omega)]
    have qb : 0 ≤ q ∧ q ≤ y := by rw [← hq]; exact ⟨Int.ediv_nonneg (by omega) (by omega), Int.ediv_le_self _ (by omega)⟩
    have e5 : IntKind.i64.wrap q = q := IntWalk.i64_in _ (by omega)
    obtain ⟨a, ha⟩ : ∃ a, x / m = a := ⟨_, rfl⟩
    obtain ⟨b, hb⟩ : ∃ b, x % m = b := ⟨_, rfl⟩
    have ab : 0 ≤ a ∧ a ≤ x := by rw [← ha]; exact ⟨Int.ediv_nonneg (by omega) (by omega), Int.ediv_le_self _ (by omega)⟩
    have bb : 0 ≤ b ∧ b < m := by rw [← hb]; exact ⟨Int.emod_nonneg _ (by omega), Int.emod_lt_of_pos _ (by omega)⟩
    rw [ha] at e3
    rw [hb] at e4
    simp only [ha, hb] at KL
    have e6 : IntKind.i64.wrap a = a := IntWalk.i64_in _ (by omega)
    have e7 : IntKind.i64.wrap b = b := IntWalk.i64_in _ (by omega)
    have z1 : (h == 0) = false := by rw [beq_eq_false_iff_ne]; omega
    have z2 : (m == 0) = false := by rw [beq_eq_false_iff_ne]; omega
    have q1 : (q == q) = true := by simp
    have q2 : (a == a) = true := by simp
    have q3 : (b == b) = true := by simp
    have q4 : (m == m) = true := by simp
    have HL := Lib.hid KL
    have HB := Lib.hid KB
    have HH := Lib.hid KH
    have HM := Lib.hid KM
    have E1 := Lib.hid e1
    have E2 := Lib.hid e2
    have E3 := Lib.hid e3
    have E4 := Lib.hid e4
    have E5 := Lib.hid e5
    have E6 := Lib.hid e6
    have E7 := Lib.hid e7
    clear KL KB KH KM e1 e2 e3 e4 e5 e6 e7 hx hC hy hq ha hb hz hr hG
    go_wp2_with fail
    refine (HL.out _ (HRR.out.kept hb1)).mono ?_
    rintro e w2 ⟨rfl, hb2⟩
    have B2 : Below w.heap.size w (w2.alloc (.cells #[.int .i64 a, .int .i64 b, .int .i64 m] 74)) := (hb1.trans (hb2.mono hb1.size)).alloc (by have := hb1.size; have := hb2.size; omega) _
    have F2 : _ ∧ _ ∧ _ := ⟨World.cell?_alloc_mark w2 #[.int .i64 a, .int .i64 b, .int .i64 m] 74 (0, 0) 0, World.cell?_alloc_mark w2 #[.int .i64 a, .int .i64 b, .int .i64 m] 74 (0, 0) 1, World.cell?_alloc_mark w2 #[.int .i64 a, .int .i64 b, .int .i64 m] 74 (0, 0) 2⟩
    obtain ⟨g, hg⟩ : ∃ g, w2.heap.size = g := ⟨_, rfl⟩
    have F3 : ∀ {w2 : World}, w2.heap.size = g → (w2.alloc (.cells #[.int .i64 a, .int .i64 b, .int .i64 m] 74)).cell? ⟨g, 0, none⟩ = some (.int .i64 a) ∧ (w2.alloc (.cells #[.int .i64 a, .int .i64 b, .int .i64 m] 74)).cell? ⟨g, 1, none⟩ = some (.int .i64 b) ∧ (w2.alloc (.cells #[.int .i64 a, .int .i64 b, .int .i64 m] 74)).cell? ⟨g, 2, none⟩ = some (.int .i64 m) := by
      intro w2 hg
      subst hg
      exact ⟨by rw [World.cell?_alloc_mark]; rfl, by rw [World.cell?_alloc_mark]; rfl, by rw [World.cell?_alloc_mark]; rfl⟩
    have G3 := Lib.hid (F3 hg)
    have B2h := Lib.hid B2
    clear F2 F3 B2
    go_wp2_with fail
    refine (HB.out _ (HRR.out.kept B2h.out)).mono ?_
    rintro e w3 ⟨rfl, hb3⟩
    have B3 := Lib.hid (B2h.out.trans (hb3.mono B2h.out.size))
    obtain ⟨c0, c1, c2⟩ := keep3c hb3 G3.out
    clear hb3
    have e1 := E1.out
    have e2 := E2.out
    have e3 := E3.out
    have e4 := E4.out
    have e5 := E5.out
    have e6 := E6.out
    have e7 := E7.out
    have R3 := Lib.hid (HRR.out.kept B3.out)
    have nz1 : ¬ h = 0 := by omega
    have nz2 : ¬ m = 0 := by omega
    go_wp2_with fail
    go_region_held3 (fun W => W.cell? ⟨g, 0, none⟩ = some (.int .i64 a) ∧ W.cell? ⟨g, 1, none⟩ = some (.int .i64 b) ∧ W.cell? ⟨g, 2, none⟩ = some (.int .i64 m))
      (go_keep)
      (first
        | (go_at_call 44; refine (HH.out w3.drew (rdZ_drew R3.out)).mono ?_; rintro e w4 ⟨rfl, hb4⟩; have R4 := Lib.hid ((rdZ_drew R3.out).kept hb4); have n0 := Lib.hid (keepc hb4 c0); have n1 := Lib.hid (keepc hb4 c1); have n2 := Lib.hid (keepc hb4 c2); clear c0 c1 c2; have c0 := n0.out; have c1 := n1.out; have c2 := n2.out)
        | (go_at_call 47; refine (HM.out _ R4.out).mono ?_; rintro e w5 ⟨rfl, hb5⟩; have n0 := Lib.hid (keepc hb5 c0); have n1 := Lib.hid (keepc hb5 c1); have n2 := Lib.hid (keepc hb5 c2); clear c0 c1 c2; have c0 := n0.out; have c1 := n1.out; have c2 := n2.out)
        | (go_at_call 45; refine (figalive _).mono ?_; rintro e w6 ⟨rfl, hb6⟩; have n0 := Lib.hid (keepc hb6 c0); have n1 := Lib.hid (keepc hb6 c1); have n2 := Lib.hid (keepc hb6 c2); clear c0 c1 c2; have c0 := n0.out; have c1 := n1.out; have c2 := n2.out))
    have q4 : Below w.heap.size w w4 := (B3.out.drew).trans (hb4.mono (B3.out.drew).size)
    have q5 : Below w.heap.size w w5 := q4.trans (hb5.mono q4.size)
    have q6 : Below w.heap.size w w6 := q5.trans (hb6.mono q5.size)
    go_wp2_with fail
    go_ret
    exact ⟨rfl, q6⟩
  · go_wp2_with fail
    go_ret
    exact ⟨rfl, hb1⟩
theorem walk {A : Option Addr} {c n : Nat} {z : Nat → Nat → Int} {k h : Int} {w : World} (hc : n ≤ c) (hm : c ≤ maxLen) (hr : RdZ w 7 A n z) (_ : A = none → c = 0) (w0 : (Lit.int .i64 k).wf = true) (w1 : (Lit.int .i64 h).wf = true) :
    Calls Try.prog 9 #[.slice A n c, .int .i64 k, .int .i64 h] w fun e w' => e = .returned (.bool true) ∧ Below w.heap.size w w' := by
  unfold maxLen at hm
  by_cases ho : k < 0 ∨ 1048576 < k ∨ h < -1 ∨ 1073741824 < h
  · exact walk_out k h w hr (by omega) ho
  · by_cases h1 : h < 1 ∨ k < 1
    · exact walk_none k h w hr (by omega) (by omega) (by omega) (by omega) (by omega) h1
    · have b1 : (1 : Int) * 1 ≤ k * h := Int.mul_le_mul (by omega) (by omega) (by omega) (by omega)
      have b2 : k * h ≤ 1048576 * 1073741824 := Int.mul_le_mul (by omega) (by omega) (by omega) (by omega)
      exact walk_ok k h _ w hr (by omega) (by omega) (by omega) (by omega) (by omega) rfl (by omega) (by omega)

end Go.Proofs.Ytcofafiacpecnaa.figureTrips
