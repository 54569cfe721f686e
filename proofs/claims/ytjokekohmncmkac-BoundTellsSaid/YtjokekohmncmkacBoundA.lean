/- Contracts of place.Top and of bound's functions. -/
import Derived.Test.YtjokekohmncmkacRows
import Derived.Test.YtjokekohmncmkacRowKit
import Derived.Test.YtjokekohmncmkacRowS
import Derived.Test.YtjokekohmncmkacRowZ
import Derived.Test.YtjokekohmncmkacBlocks
import Derived.Test.YtjokekohmncmkacVetA
import Derived.WalkKit
import Derived.IntWalk
import Derived.Lib.Hide
import Derived.Lib.SmallJoins
import Derived.WalkSpells
import Derived.WalkLawsBesides
import Derived.Deep.QuietTactic
import Derived.Deep.RegionHeld3
import Derived.BigQuiet
import Derived.Below
import Derived.Lib.Strings
namespace Go.Proofs.Ytjokekohmncmkac
open Go.RowKit
set_option linter.unusedSimpArgs false
set_option linter.unusedVariables false
/-- the bounds that a scenario's numbers have -/
def SB (s0 s1 s3 s4 s5 s6 s7 : Int) : Prop := (2 ≤ s0 ∧ s0 ≤ 128) ∧ (1 ≤ s1 ∧ s1 ≤ 16) ∧ (1 ≤ s3 ∧ s3 ≤ 64) ∧ (1 ≤ s4 ∧ s4 ≤ 64) ∧ (1 ≤ s5 ∧ s5 ≤ 64) ∧ (1 ≤ s6 ∧ s6 ≤ 64) ∧ (1 ≤ s7 ∧ s7 ≤ 64)
theorem i64_in {n : Int} (h : -9223372036854775808 ≤ n ∧ n ≤ 9223372036854775807) : IntKind.i64.wrap n = n := IntWalk.i64_in _ (by omega)
theorem mulb {a b m k : Int} (a0 : 0 ≤ a) (a1 : a ≤ m) (b0 : 0 ≤ b) (b1 : b ≤ k) (m0 : 0 ≤ m) : 0 ≤ a * b ∧ a * b ≤ m * k :=
  ⟨Int.mul_nonneg a0 b0, Int.mul_le_mul a1 b1 b0 m0⟩
def topV (f g : Int) : Int := (f - 1) * g
theorem top_bd {f g : Int} (h0 : 2 ≤ f) (h1 : f ≤ 128) (h2 : 1 ≤ g) (h3 : g ≤ 16) : 0 ≤ topV f g ∧ topV f g ≤ 2032 := by
  have := mulb (m := 127) (k := 16) (show 0 ≤ f - 1 by omega) (by omega) (show 0 ≤ g by omega) h3 (by omega)
  unfold topV; omega
set_option maxHeartbeats 400000 in
theorem top_any (f g : Int) (w : World) (h0 : 2 ≤ f) (h1 : f ≤ 128) (h2 : 1 ≤ g) (h3 : g ≤ 16) :
    Calls Try.prog 60 #[.int .i64 f, .int .i64 g] w fun e w' => e = .returned (.int .i64 (topV f g)) ∧ w = w' := by
  have T := top_bd h0 h1 h2 h3
  have W1 : ∀ x : Int, x = f - 1 → IntKind.i64.wrap (x * g) = topV f g := fun x hx => by rw [hx]; exact i64_in (by unfold topV at T; omega)
  have HA : Hid (∀ w, Calls Try.prog 76 #[.int .i64 (f - 1), .int .i64 g] w fun e w' => e = .returned (.int .i64 (topV f g)) ∧ w = w') := Lib.hid (fun w => by
    obtain ⟨x, hx⟩ : ∃ x, f - 1 = x := ⟨_, rfl⟩
    have W2 := W1 x hx.symm
    obtain ⟨v, hv⟩ : ∃ v, topV f g = v := ⟨_, rfl⟩
    rw [hx]
    rw [hv] at W2 ⊢
    clear W1 T hx hv
    go_enter Try.func76, Try.ntmps76
    go_wp2_with fail
    go_ret
    exact ⟨vretI (by first | rfl | rw [W2]), rfl⟩)
  clear W1 T
  go_enter Try.func60, Try.ntmps60
  go_wp2_with (go_at_call 76; refine (HA.out _).mono ?_; rintro e w1 ⟨rfl, rfl⟩)
  go_ret
  exact ⟨rfl, rfl⟩
def quietV (s0 s1 s4 s5 s6 s7 : Int) : Int := 2 * s4 + max s7 s5 + s5 + s6 + topV s0 s1 + s1 + 4
theorem quiet_bd {s0 s1 s3 s4 s5 s6 s7 : Int} (h : SB s0 s1 s3 s4 s5 s6 s7) : 0 ≤ quietV s0 s1 s4 s5 s6 s7 ∧ quietV s0 s1 s4 s5 s6 s7 ≤ 3000 := by
  obtain ⟨⟨a0, a1⟩, ⟨b0, b1⟩, _, c, d, e, f⟩ := h
  have := top_bd a0 a1 b0 b1
  unfold quietV; omega
set_option maxHeartbeats 1000000 in
theorem quiet_any (s0 s1 s2 s3 s4 s5 s6 s7 s9 s10 s11 s12 : Int) (A : Option Addr) (n c : Nat) (w : World) (h : SB s0 s1 s3 s4 s5 s6 s7) :
    Calls Try.prog 25 #[.agg #[.int .i64 s0, .int .i64 s1, .int .i64 s2, .int .i64 s3, .int .i64 s4, .int .i64 s5, .int .i64 s6, .int .i64 s7, .slice A n c, .int .i64 s9, .int .i64 s10, .int .i64 s11, .int .i64 s12]] w fun e w' => e = .returned (.int .i64 (quietV s0 s1 s4 s5 s6 s7)) ∧ Below w.heap.size w w' := by
  obtain ⟨⟨a0, a1⟩, ⟨b0, b1⟩, _, ⟨c0, c1⟩, ⟨d0, d1⟩, ⟨e0, e1⟩, ⟨f0, f1⟩⟩ := h
  have HT := Lib.hid (fun w => top_any s0 s1 w a0 a1 b0 b1)
  obtain ⟨t0, t1⟩ := top_bd a0 a1 b0 b1
  have E := Lib.hid (show quietV s0 s1 s4 s5 s6 s7 = 2 * s4 + max s7 s5 + s5 + s6 + topV s0 s1 + s1 + 4 from rfl)
  obtain ⟨T, hT⟩ : ∃ x, topV s0 s1 = x := ⟨_, rfl⟩
  rw [hT] at t0 t1 E
  have HT2 := Lib.hid (show ∀ w, _ from fun w => by have := HT.out w; rw [hT] at this; exact this)
  clear HT hT
  obtain ⟨m, hm⟩ : ∃ x, max s7 s5 = x := ⟨_, rfl⟩
  rw [hm] at E
  have m0 : 1 ≤ m := by omega
  have m1 : m ≤ 64 := by omega
  have W1 : IntKind.i64.wrap (2 * s4) = 2 * s4 := i64_in (by omega)
  have W2 : IntKind.i64.wrap (2 * s4 + m) = 2 * s4 + m := i64_in (by omega)
  have W3 : IntKind.i64.wrap (2 * s4 + m + s5) = 2 * s4 + m + s5 := i64_in (by omega)
  have W4 : IntKind.i64.wrap (2 * s4 + m + s5 + s6) = 2 * s4 + m + s5 + s6 := i64_in (by omega)
  have W5 : IntKind.i64.wrap (2 * s4 + m + s5 + s6 + T) = 2 * s4 + m + s5 + s6 + T := i64_in (by omega)
  have W6 : IntKind.i64.wrap (2 * s4 + m + s5 + s6 + T + s1) = 2 * s4 + m + s5 + s6 + T + s1 := i64_in (by omega)
  have W7 : IntKind.i64.wrap (2 * s4 + m + s5 + s6 + T + s1 + 4) = 2 * s4 + m + s5 + s6 + T + s1 + 4 := i64_in (by omega)
  have B := Lib.hid (Joins.below_alloc1 w (.cells #[.int .i64 s0, .int .i64 s1, .int .i64 s2, .int .i64 s3, .int .i64 s4, .int .i64 s5, .int .i64 s6, .int .i64 s7, .slice A n c, .int .i64 s9, .int .i64 s10, .int .i64 s11, .int .i64 s12] 57))
  go_enter Try.func25, Try.ntmps25
  go_wp2_with fail
  go_quiet ((go_at_call 60; exact Calls.quiet_of_same ((HT2.out _).mono fun _ _ h => ⟨h.1, h.2.symm⟩)))
  go_wp2_with fail
  all_goals
    go_ret
    exact ⟨vretI (by rw [E.out] <;> omega), below_drewN B.out _⟩
set_option maxHeartbeats 400000 in
theorem each_any (s0 s1 s2 s3 s4 s5 s6 s7 s9 s10 s11 s12 : Int) (A : Option Addr) (n c : Nat) (w : World) (h : SB s0 s1 s3 s4 s5 s6 s7) :
    Calls Try.prog 26 #[.agg #[.int .i64 s0, .int .i64 s1, .int .i64 s2, .int .i64 s3, .int .i64 s4, .int .i64 s5, .int .i64 s6, .int .i64 s7, .slice A n c, .int .i64 s9, .int .i64 s10, .int .i64 s11, .int .i64 s12]] w fun e w' => e = .returned (.int .i64 (2 * quietV s0 s1 s4 s5 s6 s7)) ∧ Below w.heap.size w w' := by
  have HQ := fun w => quiet_any s0 s1 s2 s3 s4 s5 s6 s7 s9 s10 s11 s12 A n c w h
  obtain ⟨q0, q1⟩ := quiet_bd h
  obtain ⟨q, hq⟩ : ∃ x, quietV s0 s1 s4 s5 s6 s7 = x := ⟨_, rfl⟩
  rw [hq] at HQ q0 q1 ⊢
  have H := Lib.hid HQ
  clear HQ hq h
  have B := Lib.hid (Joins.below_alloc1 w (.cells #[.int .i64 s0, .int .i64 s1, .int .i64 s2, .int .i64 s3, .int .i64 s4, .int .i64 s5, .int .i64 s6, .int .i64 s7, .slice A n c, .int .i64 s9, .int .i64 s10, .int .i64 s11, .int .i64 s12] 57))
  go_enter Try.func26, Try.ntmps26
  go_wp2_with (go_at_call 25; refine (H.out _).mono ?_; rintro e w1 ⟨rfl, hb1⟩)
  go_ret
  exact ⟨rfl, B.out.trans (Joins.below_le hb1 (by simp))⟩
set_option maxHeartbeats 400000 in
theorem enough_any (s0 s1 s2 s3 s4 s5 s6 s7 s9 s10 s11 s12 : Int) (A : Option Addr) (n c : Nat) (p l x : Int) (w : World) (h : SB s0 s1 s3 s4 s5 s6 s7) (p0 : 0 ≤ p) (p1 : p ≤ 1073741824) (l0 : 0 ≤ l) (l1 : l ≤ 1073741824) (hx : p * (2 * quietV s0 s1 s4 s5 s6 s7) = x) :
    Calls Try.prog 27 #[.agg #[.int .i64 s0, .int .i64 s1, .int .i64 s2, .int .i64 s3, .int .i64 s4, .int .i64 s5, .int .i64 s6, .int .i64 s7, .slice A n c, .int .i64 s9, .int .i64 s10, .int .i64 s11, .int .i64 s12], .int .i64 p, .int .i64 l] w fun e w' => e = .returned (.int .i64 (l + x)) ∧ Below w.heap.size w w' := by
  have HQ := fun w => each_any s0 s1 s2 s3 s4 s5 s6 s7 s9 s10 s11 s12 A n c w h
  obtain ⟨q0, q1⟩ := quiet_bd h
  have pb := mulb (m := 1073741824) (k := 6000) p0 p1 (show 0 ≤ 2 * quietV s0 s1 s4 s5 s6 s7 by omega) (by omega) (by omega)
  rw [hx] at pb
  obtain ⟨y, hy⟩ : ∃ x, 2 * quietV s0 s1 s4 s5 s6 s7 = x := ⟨_, rfl⟩
  rw [hy] at HQ hx
  have W1 : IntKind.i64.wrap (p * y) = x := by rw [hx]; exact i64_in (by omega)
  have H := Lib.hid HQ
  have x0 := pb.1
  have x1 : x ≤ 6442450944000 := by omega
  clear HQ hx hy h q0 q1 pb
  have B := Lib.hid (Joins.below_alloc1 w (.cells #[.int .i64 s0, .int .i64 s1, .int .i64 s2, .int .i64 s3, .int .i64 s4, .int .i64 s5, .int .i64 s6, .int .i64 s7, .slice A n c, .int .i64 s9, .int .i64 s10, .int .i64 s11, .int .i64 s12] 57))
  go_enter Try.func27, Try.ntmps27
  go_wp2_with (go_at_call 26; refine (H.out _).mono ?_; rintro e w1 ⟨rfl, hb1⟩)
  go_ret
  exact ⟨vretI (by first | rfl | (rw [W1])), B.out.trans (Joins.below_le hb1 (by simp))⟩
set_option maxHeartbeats 400000 in
theorem bround_any (s0 s1 s2 s3 s4 s5 s6 s7 s9 s10 s11 s12 : Int) (A : Option Addr) (n c : Nat) (w : World) (h : SB s0 s1 s3 s4 s5 s6 s7) :
    Calls Try.prog 28 #[.agg #[.int .i64 s0, .int .i64 s1, .int .i64 s2, .int .i64 s3, .int .i64 s4, .int .i64 s5, .int .i64 s6, .int .i64 s7, .slice A n c, .int .i64 s9, .int .i64 s10, .int .i64 s11, .int .i64 s12]] w fun e w' => e = .returned (.int .i64 (2 * topV s0 s1)) ∧ Below w.heap.size w w' := by
  obtain ⟨⟨a0, a1⟩, ⟨b0, b1⟩, _⟩ := h
  have HT := fun w => top_any s0 s1 w a0 a1 b0 b1
  obtain ⟨t0, t1⟩ := top_bd a0 a1 b0 b1
  obtain ⟨T, hT⟩ : ∃ x, topV s0 s1 = x := ⟨_, rfl⟩
  rw [hT] at t0 t1 HT ⊢
  have H := Lib.hid HT
  clear HT hT
  have B := Lib.hid (Joins.below_alloc1 w (.cells #[.int .i64 s0, .int .i64 s1, .int .i64 s2, .int .i64 s3, .int .i64 s4, .int .i64 s5, .int .i64 s6, .int .i64 s7, .slice A n c, .int .i64 s9, .int .i64 s10, .int .i64 s11, .int .i64 s12] 57))
  go_enter Try.func28, Try.ntmps28
  go_wp2_with (go_at_call 60; refine (H.out _).mono ?_; rintro e w1 ⟨rfl, rfl⟩)
  go_ret
  exact ⟨rfl, B.out⟩
def stopT (s4 s5 s6 s7 n : Int) : Int := s4 + max 0 n * s7 + s5 + s6
set_option maxHeartbeats 400000 in
theorem stop_any (s0 s1 s2 s3 s4 s5 s6 s7 s9 s10 s11 s12 : Int) (A : Option Addr) (n c : Nat) (p : Int) (w : World) (h : SB s0 s1 s3 s4 s5 s6 s7) (p1 : p ≤ 1073741824) :
    Calls Try.prog 29 #[.agg #[.int .i64 s0, .int .i64 s1, .int .i64 s2, .int .i64 s3, .int .i64 s4, .int .i64 s5, .int .i64 s6, .int .i64 s7, .slice A n c, .int .i64 s9, .int .i64 s10, .int .i64 s11, .int .i64 s12], .int .i64 p] w fun e w' => e = .returned (.int .i64 (stopT s4 s5 s6 s7 p)) ∧ Below w.heap.size w w' := by
  obtain ⟨_, _, _, ⟨c0, c1⟩, ⟨d0, d1⟩, ⟨e0, e1⟩, ⟨f0, f1⟩⟩ := h
  have pb := mulb (a := max 0 p) (m := 1073741824) (k := 64) (by omega) (by omega) (show 0 ≤ s7 by omega) f1 (by omega)
  have E := Lib.hid (show stopT s4 s5 s6 s7 p = s4 + max 0 p * s7 + s5 + s6 from rfl)
  obtain ⟨m, hm⟩ : ∃ x, max 0 p = x := ⟨_, rfl⟩
  rw [hm] at pb E
  obtain ⟨x, hx⟩ : ∃ x, m * s7 = x := ⟨_, rfl⟩
  rw [hx] at pb E
  have W1 : IntKind.i64.wrap (m * s7) = x := by rw [hx]; exact i64_in (by omega)
  obtain ⟨x0, x1⟩ := pb
  have B := Lib.hid (Joins.below_alloc1 w (.cells #[.int .i64 s0, .int .i64 s1, .int .i64 s2, .int .i64 s3, .int .i64 s4, .int .i64 s5, .int .i64 s6, .int .i64 s7, .slice A n c, .int .i64 s9, .int .i64 s10, .int .i64 s11, .int .i64 s12] 57))
  by_cases hp : 0 < p
  · have e1 : m = p := by omega
    subst e1
    clear hm hx
    go_enter Try.func29, Try.ntmps29
    go_wp2_with fail
    all_goals
      go_ret
      exact ⟨vretI (by rw [E.out] <;> omega), B.out⟩
  · have e1 : m = 0 := by omega
    have hx0 : x = 0 := by rw [← hx, e1, Int.zero_mul]
    have HX := Lib.hid hx0
    clear hm W1 hx0 e1 hx
    go_enter Try.func29, Try.ntmps29
    go_wp2_with fail
    all_goals
      go_ret
      exact ⟨vretI (by rw [E.out, HX.out] <;> omega), B.out⟩
end Go.Proofs.Ytjokekohmncmkac
