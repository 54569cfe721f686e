/- The walk of HistEdges: it answers true for every input, and leaves all old blocks as they were. No condition. -/
import Derived.Test.YtkepplkfjcoemabRows
import Derived.Test.YtkepplkfjcoemabRowKit
import Derived.Test.YtkepplkfjcoemabSlicesEq
import Derived.Test.YtkepplkfjcoemabSlicesEqM
import Derived.Test.YtkepplkfjcoemabRowL
import Derived.Test.YtkepplkfjcoemabPickMath
import Derived.Test.YtkepplkfjcoemabHistA
import Derived.Test.YtkepplkfjcoemabHistB
import Derived.WalkKit
import Derived.ProofKit
import Derived.OpenShut
import Derived.Deep.QuietTactic
import Derived.BigQuiet
import Derived.Lib.SmallJoins
import Derived.Lib.Hide
import Derived.WalkSpells
import Derived.WalkLawsBesides
import Derived.IntWalk
namespace Go.Proofs.Ytkepplkfjcoemab.histEdges
open Go.ChangeShapes Go.WideShapes Go.ChangeAt Go.RowKit Go.Joins
set_option linter.unusedSimpArgs false
set_option linter.unusedVariables false

set_option maxHeartbeats 1000000 in
theorem edge_bad (b d k : Int) (w : World) (h : ¬ HR b d) :
    Calls Try.prog 52 #[.int .i64 b, .int .i64 d, .int .i64 k] w fun e w' => e = .returned (.tuple #[.int .i64 0, .int .i64 0, .bool false]) ∧ w = w' := by
  have HC := Lib.hid (fun w => hright_any b d w)
  have D : Hid (decide (1 ≤ b ∧ b ≤ 64 ∧ 1 ≤ d ∧ d ≤ 4096) = false) := Lib.hid (decide_eq_false h)
  clear h
  go_enter Try.func52, Try.ntmps52
  go_wp2_with (go_at_call 47; refine (HC.out _).mono ?_; rintro e w' ⟨rfl, rfl⟩; rw [D.out])
  go_ret3
  exact ⟨rfl, rfl⟩
set_option maxHeartbeats 1000000 in
theorem edge_out (b d k : Int) (w : World) (h : HR b d) (hk : k < 0 ∨ b ≤ k) :
    Calls Try.prog 52 #[.int .i64 b, .int .i64 d, .int .i64 k] w fun e w' => e = .returned (.tuple #[.int .i64 0, .int .i64 0, .bool false]) ∧ w = w' := by
  have HC := Lib.hid (fun w => hright_any b d w)
  have D : Hid (decide (1 ≤ b ∧ b ≤ 64 ∧ 1 ≤ d ∧ d ≤ 4096) = true) := Lib.hid (decide_eq_true h)
  clear h
  by_cases h0 : k < 0
  · clear hk
    go_enter Try.func52, Try.ntmps52
    go_wp2_with (go_at_call 47; refine (HC.out _).mono ?_; rintro e w' ⟨rfl, rfl⟩; rw [D.out])
    go_ret3
    exact ⟨rfl, rfl⟩
  · have h1 : b ≤ k := by omega
    clear hk
    go_enter Try.func52, Try.ntmps52
    go_wp2_with (go_at_call 47; refine (HC.out _).mono ?_; rintro e w' ⟨rfl, rfl⟩; rw [D.out])
    go_ret3
    exact ⟨rfl, rfl⟩
set_option maxHeartbeats 1000000 in
theorem edge_last (b d k y : Int) (w : World) (h : HR b d) (hk : k = b - 1) (hy : k * d = y) (y0 : 0 ≤ y) (y1 : y ≤ 262144) :
    Calls Try.prog 52 #[.int .i64 b, .int .i64 d, .int .i64 k] w fun e w' => e = .returned (.tuple #[.int .i64 y, .int .i64 0, .bool false]) ∧ w = w' := by
  have HC := Lib.hid (fun w => hright_any b d w)
  have D : Hid (decide (1 ≤ b ∧ b ≤ 64 ∧ 1 ≤ d ∧ d ≤ 4096) = true) := Lib.hid (decide_eq_true h)
  have h3 := h.1
  have h4 := h.2.1
  have k0 : ¬ k < 0 := by omega
  have k1 : ¬ b ≤ k := by omega
  have kq : (k == b - 1) = true := by rw [beq_iff_eq]; exact hk
  have k2 : -1 ≤ k := by omega
  have k3 : k ≤ 64 := by omega
  clear h hk
  go_enter Try.func52, Try.ntmps52
  go_wp2_with (go_at_call 47; refine (HC.out _).mono ?_; rintro e w' ⟨rfl, rfl⟩; rw [D.out])
  go_ret3
  exact ⟨rfl, rfl⟩
set_option maxHeartbeats 1000000 in
theorem edge_mid (b d k y : Int) (w : World) (h : HR b d) (k0 : 0 ≤ k) (hk : k < b - 1) (hy : k * d = y) (hy2 : (k + 1) * d = y + d) (y0 : 0 ≤ y) (y1 : y ≤ 262144) :
    Calls Try.prog 52 #[.int .i64 b, .int .i64 d, .int .i64 k] w fun e w' => e = .returned (.tuple #[.int .i64 y, .int .i64 (y + d), .bool true]) ∧ w = w' := by
  have HC := Lib.hid (fun w => hright_any b d w)
  have D : Hid (decide (1 ≤ b ∧ b ≤ 64 ∧ 1 ≤ d ∧ d ≤ 4096) = true) := Lib.hid (decide_eq_true h)
  have h3 := h.1
  have h4 := h.2.1
  have h5 := h.2.2.1
  have h6 := h.2.2.2
  have k1 : ¬ b ≤ k := by omega
  have kq : (k == b - 1) = false := by rw [beq_eq_false_iff_ne]; omega
  have k3 : k ≤ 64 := by omega
  clear h
  go_enter Try.func52, Try.ntmps52
  go_wp2_with (go_at_call 47; refine (HC.out _).mono ?_; rintro e w' ⟨rfl, rfl⟩; rw [D.out])
  go_ret3
  exact ⟨rfl, rfl⟩
set_option maxHeartbeats 1000000 in
theorem walk_bad (b d n : Int) (w : World) (h : ¬ HR b d) :
    Calls Try.prog 14 #[.int .i64 b, .int .i64 d, .int .i64 n] w fun e w' => e = .returned (.bool true) ∧ Below w.heap.size w w' := by
  have HC := Lib.hid (fun w => hlright_any b d w)
  have D : Hid (decide (1 ≤ b ∧ b ≤ 64 ∧ 1 ≤ d ∧ d ≤ 4096) = false) := Lib.hid (decide_eq_false h)
  have HE := Lib.hid (fun w => edge_bad b d n w h)
  clear h
  go_enter Try.func14, Try.ntmps14
  go_wp2_with (first
    | (go_at_call 45; refine (HC.out _).mono ?_; rintro e w' ⟨rfl, rfl⟩; rw [D.out])
    | (go_at_call 52; refine (HE.out _).mono ?_; rintro e w' ⟨rfl, rfl⟩)
    | (go_at_call 48; refine (hialive _).mono ?_; rintro e w1 ⟨rfl, hb⟩))
  go_ret
  exact ⟨rfl, hb⟩
set_option maxHeartbeats 1000000 in
theorem walk_neg (b d n : Int) (w : World) (h : HR b d) (hn : n < 0) :
    Calls Try.prog 14 #[.int .i64 b, .int .i64 d, .int .i64 n] w fun e w' => e = .returned (.bool true) ∧ Below w.heap.size w w' := by
  have HC := Lib.hid (fun w => hlright_any b d w)
  have D : Hid (decide (1 ≤ b ∧ b ≤ 64 ∧ 1 ≤ d ∧ d ≤ 4096) = true) := Lib.hid (decide_eq_true h)
  have HE := Lib.hid (fun w => edge_out b d n w h (.inl hn))
  have hn2 : ¬ 0 ≤ n := by omega
  clear h
  go_enter Try.func14, Try.ntmps14
  go_wp2_with (first
    | (go_at_call 45; refine (HC.out _).mono ?_; rintro e w' ⟨rfl, rfl⟩; rw [D.out])
    | (go_at_call 52; refine (HE.out _).mono ?_; rintro e w' ⟨rfl, rfl⟩)
    | (go_at_call 48; refine (hialive _).mono ?_; rintro e w1 ⟨rfl, hb⟩))
  go_ret
  exact ⟨rfl, hb⟩
set_option maxRecDepth 100000 in
set_option maxHeartbeats 1000000 in
theorem walk_in (b m : Nat) (d n : Int) (w : World) (h : HR b d) (hn : 0 ≤ n) (hn2 : n ≤ 9223372036854775807) (hmb : m ≤ b - 1) (hv : binV b d n = m) (hlo : ∀ k : Nat, k ≤ m → (k : Int) * d ≤ n) (hhi : ∀ k : Nat, m < k → k < b → n < (k : Int) * d) :
    Calls Try.prog 14 #[.int .i64 b, .int .i64 d, .int .i64 n] w fun e w' => e = .returned (.bool true) ∧ Below w.heap.size w w' := by
  have HC := Lib.hid (fun w => hlright_any b d w)
  have D : Hid (decide (1 ≤ (b : Int) ∧ (b : Int) ≤ 64 ∧ 1 ≤ d ∧ d ≤ 4096) = true) := Lib.hid (decide_eq_true h)
  have HB := fun w => hbin_any b d n w hn2
  rw [hv, (bin_ok h hn).2] at HB
  have HB := Lib.hid HB
  have EO := Lib.hid (fun (k : Int) w (hk : k < 0 ∨ (b : Int) ≤ k) => edge_out b d k w h hk)
  have EL := Lib.hid (fun (k y : Int) w (hk : k = b - 1) (hy : k * d = y) (y0 : 0 ≤ y) (y1 : y ≤ 262144) => edge_last b d k y w h hk hy y0 y1)
  have EM := Lib.hid (fun (k y : Int) w (k0 : 0 ≤ k) (hk : k < (b : Int) - 1) (hy : k * d = y) (hy2 : (k + 1) * d = y + d) (y0 : 0 ≤ y) (y1 : y ≤ 262144) => edge_mid b d k y w h k0 hk hy hy2 y0 y1)
  have h3 := h.1
  have h4 := h.2.1
  have h5 := h.2.2.1
  have h6 := h.2.2.2
  have LO := Lib.hid hlo
  have HI := Lib.hid hhi
  have hnn : ¬ n < 0 := by omega
  clear h hv hlo hhi
  go_enter Try.func14, Try.ntmps14
  go_wp2_with (first
    | (go_at_call 45; refine (HC.out _).mono ?_; rintro e w' ⟨rfl, rfl⟩; rw [D.out])
    | (go_at_call 46; refine (HB.out _).mono ?_; rintro e w' ⟨rfl, rfl⟩))
  go_loop [12] (fun i => ∃ k : Nat, k ≤ b ∧ i = .int .i64 k) (fun i => b + 1 - (intOf i).toNat)
  case atStart => exact ⟨0, by omega, rfl⟩
  case round =>
    obtain ⟨k, hk, rfl⟩ := hrel
    have y0 : 0 ≤ (k : Int) * d := Int.mul_nonneg (by omega) (by omega)
    have y1 : (k : Int) * d ≤ 262144 := by
      have := Int.mul_le_mul (show (k : Int) ≤ 64 by omega) h6 (by omega) (by omega); omega
    have y2 : ((k : Int) + 1) * d = k * d + d := by rw [Int.add_mul]; omega
    have L1 := LO.out k
    have L2 := LO.out (k + 1)
    have H1 := HI.out k
    have H2 := HI.out (k + 1)
    rw [show (((k + 1 : Nat) : Int)) * d = k * d + d by rw [Int.natCast_add]; exact y2] at L2 H2
    obtain ⟨y, hy⟩ : ∃ y, (k : Int) * d = y := ⟨_, rfl⟩
    have HY := Lib.hid hy
    have HY2 : Hid (((k : Int) + 1) * d = y + d) := Lib.hid (by rw [y2, hy])
    have W1 : IntKind.i64.wrap ((k : Int) * d) = y := by rw [hy]; exact IntWalk.i64_in _ (by omega)
    rw [hy] at y0 y1 L1 L2 H1 H2
    clear y2 hy
    by_cases e0 : k = b
    · have H := Lib.hid (EO.out k w (.inr (by omega)))
      have q0 : ((k : Int) == (b : Int)) = true := by rw [beq_iff_eq]; omega
      have q1 : (k == b) = true := by rw [beq_iff_eq]; exact e0
      have hbk : b ≤ k := by omega
      clear L1 L2 H1 H2 W1 e0
      go_wp2_with (first
        | (go_at_call 52; refine H.out.mono ?_; rintro e w' ⟨rfl, rfl⟩)
        | (go_at_call 48; refine (hialive _).mono ?_; rintro e w1 ⟨rfl, hb⟩))
      go_ret
      exact ⟨rfl, hb⟩
    · have q0 : ((k : Int) == (b : Int)) = false := by rw [beq_eq_false_iff_ne]; omega
      have q1 : (k == b) = false := by rw [beq_eq_false_iff_ne]; exact e0
      have hkb : k < b := by omega
      by_cases e1 : k + 1 < b
      · have H := Lib.hid (EM.out k y w (by omega) (by omega) HY.out HY2.out y0 y1)
        have r1 : (k : Int) < (b : Int) - 1 := by omega
        rcases Nat.lt_trichotomy k m with e2 | e2 | e2
        · skip
          have p0 : ((k : Int) == (m : Int)) = false := by rw [beq_eq_false_iff_ne]; omega
          have p1 : (k == m) = false := by rw [beq_eq_false_iff_ne]; omega
          have f1 := L1 (by omega)
          have f2 := L2 (by omega)
          have f3 : ¬ n < y + d := by omega
          clear L1 L2 H1 H2
          go_wp2_with (go_at_call 52; refine H.out.mono ?_; rintro e w' ⟨rfl, rfl⟩)
          go_round
          case rel => exact ⟨k + 1, by omega, by go_num⟩
          case measure => simp [intOf]; omega
        · skip
          have p0 : ((k : Int) == (m : Int)) = true := by rw [beq_iff_eq]; omega
          have p1 : (k == m) = true := by rw [beq_iff_eq]; omega
          have f1 := L1 (by omega)
          have f2 := H2 (by omega) (by omega)
          have km1 : k ≤ m := by omega
          have km2 : m ≤ k := by omega
          clear L1 L2 H1 H2 e2
          go_wp2_with (go_at_call 52; refine H.out.mono ?_; rintro e w' ⟨rfl, rfl⟩)
          go_round
          case rel => exact ⟨k + 1, by omega, by go_num⟩
          case measure => simp [intOf]; omega
        · skip
          have p0 : ((k : Int) == (m : Int)) = false := by rw [beq_eq_false_iff_ne]; omega
          have p1 : (k == m) = false := by rw [beq_eq_false_iff_ne]; omega
          have f1 := H1 (by omega) (by omega)
          have f2 : ¬ y ≤ n := by omega
          clear L1 L2 H1 H2
          go_wp2_with (go_at_call 52; refine H.out.mono ?_; rintro e w' ⟨rfl, rfl⟩)
          go_round
          case rel => exact ⟨k + 1, by omega, by go_num⟩
          case measure => simp [intOf]; omega
      · have hkl : k + 1 = b := by omega
        have H := Lib.hid (EL.out k y w (by omega) HY.out y0 y1)
        have r1 : ¬ (k : Int) < (b : Int) - 1 := by omega
        by_cases e2 : k = m
        · skip
          have p0 : ((k : Int) == (m : Int)) = true := by rw [beq_iff_eq]; omega
          have p1 : (k == m) = true := by rw [beq_iff_eq]; omega
          have f1 := L1 (by omega)
          have km1 : k ≤ m := by omega
          have km2 : m ≤ k := by omega
          have kb1 : b ≤ k + 1 := by omega
          clear L1 L2 H1 H2 e2 hkl
          go_wp2_with (go_at_call 52; refine H.out.mono ?_; rintro e w' ⟨rfl, rfl⟩)
          go_round
          case rel => exact ⟨k + 1, by omega, by go_num⟩
          case measure => simp [intOf]; omega
        · skip
          have p0 : ((k : Int) == (m : Int)) = false := by rw [beq_eq_false_iff_ne]; omega
          have p1 : (k == m) = false := by rw [beq_eq_false_iff_ne]; omega
          have f1 := H1 (by omega) (by omega)
          have f2 : ¬ y ≤ n := by omega
          have kb1 : b ≤ k + 1 := by omega
          clear L1 L2 H1 H2 hkl
          go_wp2_with (go_at_call 52; refine H.out.mono ?_; rintro e w' ⟨rfl, rfl⟩)
          go_round
          case rel => exact ⟨k + 1, by omega, by go_num⟩
          case measure => simp [intOf]; omega
theorem walk {b d n : Int} (w0 : (Lit.int .i64 b).wf = true) (w1 : (Lit.int .i64 d).wf = true) (w2 : (Lit.int .i64 n).wf = true) (w : World) :
    Calls Try.prog 14 #[.int .i64 b, .int .i64 d, .int .i64 n] w fun e w' => e = .returned (.bool true) ∧ Below w.heap.size w w' := by
  obtain ⟨n0, n1⟩ := bounds_i64 w2
  by_cases h : HR b d
  · by_cases hn : n < 0
    · exact walk_neg b d n w h hn
    · obtain ⟨B, rfl⟩ := Int.eq_ofNat_of_zero_le (show 0 ≤ b by have := h.1; omega)
      obtain ⟨e1, _⟩ := bin_ok h (show 0 ≤ n by omega)
      have h1 := h.1
      have h5 := h.2.2.1
      have hq : 0 ≤ n / d := Int.ediv_nonneg (by omega) (by omega)
      refine walk_in B (min (n / d) ((B : Int) - 1)).toNat d n w h (by omega) n1 (by omega) (by rw [e1]; omega) (fun k hk => ?_) (fun k hk hkB => ?_)
      · have := Int.mul_le_of_le_ediv (show 0 < d by omega) (show (k : Int) ≤ n / d by omega); exact this
      · exact Int.lt_mul_of_ediv_lt (show 0 < d by omega) (show n / d < (k : Int) by omega)
  · exact walk_bad b d n w h

end Go.Proofs.Ytkepplkfjcoemab.histEdges
