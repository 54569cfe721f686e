/- Contract of the document's Round of layer 56. -/
import Derived.Test.YtjokekohmncmkadRows
import Derived.Test.YtjokekohmncmkadRowKit
import Derived.Test.YtjokekohmncmkadProbMath
import Derived.Test.YtjokekohmncmkadProbA
import Derived.Test.YtjokekohmncmkadProbB
import Derived.Test.YtjokekohmncmkadProbC
import Derived.WalkKit
import Derived.IntWalk
import Derived.Lib.Hide
import Derived.Lib.SmallJoins
import Derived.WalkSpells
import Derived.WalkLawsBesides
import Derived.Deep.QuietTactic
import Derived.BigQuiet
import Derived.Below
namespace Go.Proofs.Ytjokekohmncmkad
open Go.RowKit
set_option linter.unusedSimpArgs false
set_option linter.unusedVariables false
theorem door_same {a b c : Int} (ha : a ≤ 192) (hb : b ≤ 192) (hc : c ≤ 192) : max a 0 + max b 0 + max c 0 = doorV a b c := by unfold doorV dcut; omega
theorem door_great {a b c : Int} (h : 192 < a ∨ 192 < b ∨ 192 < c) : 192 < doorV a b c := by unfold doorV dcut; omega
theorem pret2b {k : IntKind} {a b : Int} {c d : Bool} (h : a = b) (h' : c = d) : Ending.returned (.tuple #[.int k a, .bool c]) = .returned (.tuple #[.int k b, .bool d]) := by rw [h, h']
theorem rdN_two {x y d u v : Int} (x0 : 0 ≤ x) (y0 : 0 ≤ y) (h : v = (x + y + 4294967295) / 4294967296 + d + u) : (0 < (x + y) % 4294967296 → v = (x + y) / 4294967296 + 1 + d + u) ∧ (¬ 0 < (x + y) % 4294967296 → v = (x + y) / 4294967296 + d + u) := by omega
set_option maxHeartbeats 2000000 in
theorem rround_min (s0 s1 s2 s3 s4 s5 s6 s7 s9 s10 s11 s12 : Int) (A : Option Addr) (n c : Nat) (p : Int) (w : World) (h : s0 = -9223372036854775808) :
    Calls Try.prog 31 #[.agg #[.int .i64 s0, .int .i64 s1, .int .i64 s2, .int .i64 s3, .int .i64 s4, .int .i64 s5, .int .i64 s6, .int .i64 s7, .slice A n c, .int .i64 s9, .int .i64 s10, .int .i64 s11, .int .i64 s12], .int .i64 p] w fun e w' => e = .returned (.tuple #[.int .i64 (rdV s0 s1 s4 s5 s6 s7 p), .bool (decide (RdOk s0 s1 s4 s5 s6 s7 p))]) ∧ Below w.heap.size w w' := by
  have hno : ¬ RdOk s0 s1 s4 s5 s6 s7 p := fun x => by have := x.1; unfold PR at this; omega
  have E := Lib.hid (And.intro (rd_no (s0 := s0) (s1 := s1) (s4 := s4) (s5 := s5) (s6 := s6) (s7 := s7) (p := p) hno).1 (decide_eq_false hno))
  obtain ⟨v, hv, hv2⟩ : ∃ v, IntKind.i64.wrap (s0 - 1) = v ∧ 127 < v := ⟨_, rfl, by rw [h]; decide⟩
  have R := fun w => right_any v p w
  rw [decide_eq_false (show ¬ PR v p by unfold PR; omega)] at R
  have H := Lib.hid R
  clear h R hno
  go_enter Try.func31, Try.ntmps31
  go_wp2_with (go_at_call 32; refine (H.out _).mono ?_; rintro e w' ⟨rfl, rfl⟩)
  go_ret2
  exact ⟨pret2b E.out.1.symm E.out.2.symm, (Below.refl _ _).alloc (Nat.le_refl _) _⟩
set_option maxHeartbeats 2000000 in
theorem rround_pr (s0 s1 s2 s3 s4 s5 s6 s7 s9 s10 s11 s12 : Int) (A : Option Addr) (n c : Nat) (p : Int) (w : World) (h0 : -9223372036854775808 < s0) (h1 : s0 ≤ 9223372036854775807) (h : ¬ PR (s0 - 1) p) :
    Calls Try.prog 31 #[.agg #[.int .i64 s0, .int .i64 s1, .int .i64 s2, .int .i64 s3, .int .i64 s4, .int .i64 s5, .int .i64 s6, .int .i64 s7, .slice A n c, .int .i64 s9, .int .i64 s10, .int .i64 s11, .int .i64 s12], .int .i64 p] w fun e w' => e = .returned (.tuple #[.int .i64 (rdV s0 s1 s4 s5 s6 s7 p), .bool (decide (RdOk s0 s1 s4 s5 s6 s7 p))]) ∧ Below w.heap.size w w' := by
  have hno : ¬ RdOk s0 s1 s4 s5 s6 s7 p := fun x => h x.1
  have E := Lib.hid (And.intro (rd_no (s0 := s0) (s1 := s1) (s4 := s4) (s5 := s5) (s6 := s6) (s7 := s7) (p := p) hno).1 (decide_eq_false hno))
  have R := fun w => right_any (s0 - 1) p w
  rw [decide_eq_false h] at R
  have H := Lib.hid R
  clear h R hno
  go_enter Try.func31, Try.ntmps31
  go_wp2_with (go_at_call 32; refine (H.out _).mono ?_; rintro e w' ⟨rfl, rfl⟩)
  go_ret2
  exact ⟨pret2b E.out.1.symm E.out.2.symm, (Below.refl _ _).alloc (Nat.le_refl _) _⟩
set_option maxHeartbeats 2000000 in
theorem rround_in (s0 s1 s2 s3 s4 s5 s6 s7 s9 s10 s11 s12 : Int) (A : Option Addr) (n c : Nat) (p : Int) (w : World) (h : PR (s0 - 1) p) :
    Calls Try.prog 31 #[.agg #[.int .i64 s0, .int .i64 s1, .int .i64 s2, .int .i64 s3, .int .i64 s4, .int .i64 s5, .int .i64 s6, .int .i64 s7, .slice A n c, .int .i64 s9, .int .i64 s10, .int .i64 s11, .int .i64 s12], .int .i64 p] w fun e w' => e = .returned (.tuple #[.int .i64 (rdV s0 s1 s4 s5 s6 s7 p), .bool (decide (RdOk s0 s1 s4 s5 s6 s7 p))]) ∧ Below w.heap.size w w' := by
  have h' := h
  unfold PR at h'
  obtain ⟨g1, g2, g3, g4⟩ := h'
  have V := val_bd h
  have R := fun w => right_any (s0 - 1) p w
  rw [decide_eq_true h] at R
  have HH := fun w => rhigh_at h w
  have HS := fun w => rstops_at h w
  have NO := Lib.hid (fun (x : ¬ RdOk s0 s1 s4 s5 s6 s7 p) => And.intro (rd_no (s0 := s0) (s1 := s1) (s4 := s4) (s5 := s5) (s6 := s6) (s7 := s7) (p := p) x).1 (decide_eq_false x))
  have YES := Lib.hid (fun (x : RdOk s0 s1 s4 s5 s6 s7 p) => And.intro (rd_yes (s0 := s0) (s1 := s1) (s4 := s4) (s5 := s5) (s6 := s6) (s7 := s7) (p := p) x).1 (decide_eq_true x))
  have PP := Lib.hid h
  obtain ⟨hv, hhv⟩ : ∃ x : Int, ((highV (s0 - 1).toNat p.toNat : Nat) : Int) = x := ⟨_, rfl⟩
  obtain ⟨sv, hsv⟩ : ∃ x : Int, ((stopsV (s0 - 1).toNat p.toNat : Nat) : Int) = x := ⟨_, rfl⟩
  have v0 : 0 ≤ hv := by omega
  have v1 : 0 ≤ sv := by omega
  rw [hhv] at HH V
  rw [hsv] at HS V
  have YV := Lib.hid (show ∀ x : RdOk s0 s1 s4 s5 s6 s7 p, rdV s0 s1 s4 s5 s6 s7 p = rdN hv sv s1 (doorV s4 s5 s6) s7 p from fun x => by rw [← hhv, ← hsv]; exact (YES.out x).1)
  obtain ⟨v2, v3⟩ := V
  have KH := Lib.hid HH
  have KS := Lib.hid HS
  have KR := Lib.hid R
  have s02 : 2 ≤ s0 := by omega
  have B := Lib.hid (Joins.below_alloc2 w (.cells #[.int .i64 s0, .int .i64 s1, .int .i64 s2, .int .i64 s3, .int .i64 s4, .int .i64 s5, .int .i64 s6, .int .i64 s7, .slice A n c, .int .i64 s9, .int .i64 s10, .int .i64 s11, .int .i64 s12] 48) (.cells #[.int .i64 s4, .int .i64 s5, .int .i64 s6] 107))
  clear HH HS R hhv hsv h
  go_enter Try.func31, Try.ntmps31
  go_wp2_with (go_at_call 32; refine (KR.out _).mono ?_; rintro e w' ⟨rfl, rfl⟩)
  go_loop [7, 8] (fun s i => (i = .int .i64 0 ∧ s = .int .i64 0) ∨ (i = .int .i64 1 ∧ s = .int .i64 (max s4 0) ∧ s4 ≤ 192) ∨ (i = .int .i64 2 ∧ s = .int .i64 (max s4 0 + max s5 0) ∧ s4 ≤ 192 ∧ s5 ≤ 192) ∨ (i = .int .i64 3 ∧ s = .int .i64 (max s4 0 + max s5 0 + max s6 0) ∧ s4 ≤ 192 ∧ s5 ≤ 192 ∧ s6 ≤ 192)) (fun _ i => 3 - (intOf i).toNat)
  case atStart => exact .inl ⟨rfl, rfl⟩
  case round =>
    rcases hrel with ⟨rfl, rfl⟩ | ⟨rfl, rfl, c4⟩ | ⟨rfl, rfl, c4, c5⟩ | ⟨rfl, rfl, c4, c5, c6⟩
    · by_cases e : 192 < s4
      · have E := Lib.hid (NO.out (fun x => by unfold RdOk at x; have := door_great (a := s4) (b := s5) (c := s6) (by omega); omega))
        go_wp2_with fail
        go_ret2
        exact ⟨pret2b E.out.1.symm E.out.2.symm, B.out⟩
      · obtain ⟨dv, hdv⟩ : ∃ x, (0 : Int) = x := ⟨_, rfl⟩
        have dv0 : 0 ≤ dv := by omega
        have dv1 : dv ≤ 384 := by omega
        have HD := Lib.hid hdv
        clear hdv
        by_cases e2 : 0 < s4
        · go_wp2_with fail
          go_round
          case rel => exact .inr (.inl ⟨rfl, pvint (by have := HD.out; omega), by omega⟩)
          case measure => simp [intOf]
        · go_wp2_with fail
          go_round
          case rel => exact .inr (.inl ⟨rfl, pvint (by have := HD.out; omega), by omega⟩)
          case measure => simp [intOf]
    · by_cases e : 192 < s5
      · have E := Lib.hid (NO.out (fun x => by unfold RdOk at x; have := door_great (a := s4) (b := s5) (c := s6) (by omega); omega))
        go_wp2_with fail
        go_ret2
        exact ⟨pret2b E.out.1.symm E.out.2.symm, B.out⟩
      · obtain ⟨dv, hdv⟩ : ∃ x, max s4 0 = x := ⟨_, rfl⟩
        have dv0 : 0 ≤ dv := by omega
        have dv1 : dv ≤ 384 := by omega
        rw [hdv]
        have HD := Lib.hid hdv
        clear hdv
        by_cases e2 : 0 < s5
        · go_wp2_with fail
          go_round
          case rel => exact .inr (.inr (.inl ⟨rfl, pvint (by have := HD.out; omega), c4, by omega⟩))
          case measure => simp [intOf]
        · go_wp2_with fail
          go_round
          case rel => exact .inr (.inr (.inl ⟨rfl, pvint (by have := HD.out; omega), c4, by omega⟩))
          case measure => simp [intOf]
    · by_cases e : 192 < s6
      · have E := Lib.hid (NO.out (fun x => by unfold RdOk at x; have := door_great (a := s4) (b := s5) (c := s6) (by omega); omega))
        go_wp2_with fail
        go_ret2
        exact ⟨pret2b E.out.1.symm E.out.2.symm, B.out⟩
      · obtain ⟨dv, hdv⟩ : ∃ x, max s4 0 + max s5 0 = x := ⟨_, rfl⟩
        have dv0 : 0 ≤ dv := by omega
        have dv1 : dv ≤ 384 := by omega
        rw [hdv]
        have HD := Lib.hid hdv
        clear hdv
        by_cases e2 : 0 < s6
        · go_wp2_with fail
          go_round
          case rel => exact .inr (.inr (.inr ⟨rfl, pvint (by have := HD.out; omega), c4, c5, by omega⟩))
          case measure => simp [intOf]
        · go_wp2_with fail
          go_round
          case rel => exact .inr (.inr (.inr ⟨rfl, pvint (by have := HD.out; omega), c4, c5, by omega⟩))
          case measure => simp [intOf]
    · obtain ⟨dv, hdv⟩ : ∃ x, max s4 0 + max s5 0 + max s6 0 = x := ⟨_, rfl⟩
      have dv0 : 0 ≤ dv := by omega
      have dv9 : dv ≤ 576 := by omega
      rw [hdv]
      have HD := Lib.hid ((door_same c4 c5 c6).symm.trans hdv)
      clear hdv
      by_cases y1 : dv ≤ 192
      · by_cases y2 : 0 ≤ s1
        · by_cases y3 : s1 ≤ 16
          · by_cases y4 : 0 ≤ s7
            · by_cases y5 : s7 ≤ 64
              · skip
                have m1 := mul_bd (m := 1090921693184) (k := 16) (show 0 ≤ hv * 2 by omega) (by omega) y2 y3 (by omega)
                have m2 := mul_bd (m := 545460846592) (k := 192) v1 v3 dv0 y1 (by omega)
                have m3 := mul_bd (m := 128) (k := 64) (show 0 ≤ 2 * p by omega) (by omega) y4 y5 (by omega)
                have ok : RdOk s0 s1 s4 s5 s6 s7 p := ⟨PP.out, by rw [HD.out]; exact y1, y2, y3, y4, y5⟩
                have EV := YV.out ok
                have EB := Lib.hid (YES.out ok).2
                rw [HD.out] at EV
                have EV2 : rdN hv sv s1 dv s7 p = (hv * 2 * s1 + sv * dv + 4294967295) / 4294967296 + dv + 2 * p * s7 := rfl
                rw [EV2] at EV
                have ea : hv * (2 * s1) = hv * 2 * s1 := by rw [Int.mul_assoc]
                obtain ⟨x, hx⟩ : ∃ x, hv * 2 * s1 = x := ⟨_, rfl⟩
                obtain ⟨y, hy⟩ : ∃ y, sv * dv = y := ⟨_, rfl⟩
                obtain ⟨u, hu⟩ : ∃ u, 2 * p * s7 = u := ⟨_, rfl⟩
                rw [hx, hy, hu] at EV
                have W1 : IntKind.u64.wrap (hv * (2 * s1)) = x := by rw [ea, hx, u64_in (by omega) (by omega)]
                have W2 : IntKind.u64.wrap (sv * dv) = y := by rw [hy, u64_in (by omega) (by omega)]
                have W3 : IntKind.i64.wrap (2 * p * s7) = u := by rw [hu]; exact IntWalk.i64_in _ (by omega)
                have x0 : 0 ≤ x := by omega
                have x1 : x ≤ 17454747090944 := by omega
                have z0 : 0 ≤ y := by omega
                have z1 : y ≤ 104728482545664 := by omega
                have u0 : 0 ≤ u := by omega
                have u1 : u ≤ 8192 := by omega
                have EE := Lib.hid (rdN_two x0 z0 EV)
                clear m1 m2 m3 EV EV2 ea hx hy hu ok
                have W4 : IntKind.i64.wrap (s0 - 1) = s0 - 1 := IntWalk.i64_in _ (by omega)
                have W5 : IntKind.i64.wrap (2 * s1) = 2 * s1 := IntWalk.i64_in _ (by omega)
                have W6 : IntKind.u64.wrap (2 * s1) = 2 * s1 := u64_in (by omega) (by omega)
                have W7 : IntKind.u64.wrap dv = dv := u64_in (by omega) (by omega)
                have W8 : IntKind.u64.wrap (x + y) = x + y := u64_in (by omega) (by omega)
                have xy0 : 0 ≤ x + y := by omega
                have xy1 : x + y ≤ 200000000000000 := by omega
                go_wp2_with fail
                go_quiet ((first
                  | (go_at_call 34; exact Calls.quiet_of_same ((KH.out _).mono fun _ _ h => ⟨h.1, h.2.symm⟩))
                  | (go_at_call 33; exact Calls.quiet_of_same ((KS.out _).mono fun _ _ h => ⟨h.1, h.2.symm⟩))))
                clear W4 W5 W6 W7 W8 W1 W2
                by_cases hr : 0 < (x + y) % 4294967296
                · go_wp2_with fail
                  go_ret2
                  exact ⟨pret2b (by rw [EE.out.1 hr]) EB.out.symm, below_drewN B.out _⟩
                · go_wp2_with fail
                  go_ret2
                  exact ⟨pret2b (by rw [EE.out.2 hr]) EB.out.symm, below_drewN B.out _⟩
              · have E := Lib.hid (NO.out (fun x => by unfold RdOk at x; omega))
                go_wp2_with fail
                go_ret2
                exact ⟨pret2b E.out.1.symm E.out.2.symm, B.out⟩
            · have E := Lib.hid (NO.out (fun x => by unfold RdOk at x; omega))
              go_wp2_with fail
              go_ret2
              exact ⟨pret2b E.out.1.symm E.out.2.symm, B.out⟩
          · have E := Lib.hid (NO.out (fun x => by unfold RdOk at x; omega))
            go_wp2_with fail
            go_ret2
            exact ⟨pret2b E.out.1.symm E.out.2.symm, B.out⟩
        · have E := Lib.hid (NO.out (fun x => by unfold RdOk at x; omega))
          go_wp2_with fail
          go_ret2
          exact ⟨pret2b E.out.1.symm E.out.2.symm, B.out⟩
      · have E := Lib.hid (NO.out (fun x => by unfold RdOk at x; have := HD.out; omega))
        go_wp2_with fail
        go_ret2
        exact ⟨pret2b E.out.1.symm E.out.2.symm, B.out⟩
theorem rround_any (s0 s1 s2 s3 s4 s5 s6 s7 s9 s10 s11 s12 : Int) (A : Option Addr) (n c : Nat) (p : Int) (w : World) (a0 : -9223372036854775808 ≤ s0) (a1 : s0 ≤ 9223372036854775807) :
    Calls Try.prog 31 #[.agg #[.int .i64 s0, .int .i64 s1, .int .i64 s2, .int .i64 s3, .int .i64 s4, .int .i64 s5, .int .i64 s6, .int .i64 s7, .slice A n c, .int .i64 s9, .int .i64 s10, .int .i64 s11, .int .i64 s12], .int .i64 p] w fun e w' => e = .returned (.tuple #[.int .i64 (rdV s0 s1 s4 s5 s6 s7 p), .bool (decide (RdOk s0 s1 s4 s5 s6 s7 p))]) ∧ Below w.heap.size w w' := by
  by_cases h : PR (s0 - 1) p
  · exact rround_in s0 s1 s2 s3 s4 s5 s6 s7 s9 s10 s11 s12 A n c p w h
  · by_cases hm : s0 = -9223372036854775808
    · exact rround_min s0 s1 s2 s3 s4 s5 s6 s7 s9 s10 s11 s12 A n c p w hm
    · exact rround_pr s0 s1 s2 s3 s4 s5 s6 s7 s9 s10 s11 s12 A n c p w (by omega) a1 h
end Go.Proofs.Ytjokekohmncmkad
