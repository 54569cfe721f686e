/- What a car sees: calls, what lies on, which way it faces, whether it stops. -/
import Derived.Test.YtdcollehdhkngaaRows
import Derived.Test.YtdcollehdhkngaaRowKit
import Derived.Test.YtdcollehdhkngaaSlicesEq
import Derived.Test.YtdcollehdhkngaaRowL
import Derived.Test.YtdcollehdhkngaaMakeI
import Derived.Test.YtdcollehdhkngaaBlocks
import Derived.Test.YtdcollehdhkngaaBitsMath
import Derived.Test.YtdcollehdhkngaaBitsA2
import Derived.Test.YtdcollehdhkngaaBitsD
import Derived.Test.YtdcollehdhkngaaBitsE
import Derived.Test.YtdcollehdhkngaaBitsH
import Derived.Test.YtdcollehdhkngaaBitsK
import Derived.Test.YtdcollehdhkngaaBitsP
import Derived.Test.YtdcollehdhkngaaBitsS
import Derived.Test.YtdcollehdhkngaaRowS
import Derived.Test.YtdcollehdhkngaaRowZ
import Derived.Test.YtdcollehdhkngaaCarA
import Derived.Test.YtdcollehdhkngaaCarB
import Derived.Test.YtdcollehdhkngaaWantA
import Derived.WalkKit
import Derived.DeepKeys
import Derived.Deep.LoopGhost
import Derived.IntWalk
import Derived.Lib.Hide
import Derived.WalkSpells
import Derived.WalkLawsBesides
import Derived.Laws.CopyOwn
import Derived.Deep.QuietTactic
import Derived.Deep.RegionHeld3
import Derived.BigQuiet
import Derived.BigRegion
namespace Go.Proofs.Ytdcollehdhkngaa
open Go.RowKit
set_option linter.unusedSimpArgs false
set_option linter.unusedVariables false
theorem u64_cmp (d : Nat) (a b : Int) (w : World) : (Op.equalIn (d + 1) 26 (.int .u64 a) (.int .u64 b)).run Try.prog w = .ok (a == b) w := by
  simp [Op.equalIn, run_underlying Try.underlying26]
theorem set_cmp0 (d : Nat) (x y a b : Int) (w : World) : (Op.equalIn (d + 1 + 1) 28 (.agg #[.int .u64 x, .int .u64 y]) (.agg #[.int .u64 a, .int .u64 b])).run Try.prog w = .ok (x == a && y == b) w := by
  obtain ⟨i, hi⟩ : ∃ i, Try.prog.info? 26 = some i := Option.isSome_iff_exists.1 (by kernel_rfl)
  have hc : Try.prog.cellsOf 26 = 1 := by kernel_rfl
  have p0 : (part 26 #[(.int .u64 x : Value), .int .u64 y] 0).run Try.prog w = .ok (.int .u64 x) w := by kernel_rfl
  have p1 : (part 26 #[(.int .u64 x : Value), .int .u64 y] 1).run Try.prog w = .ok (.int .u64 y) w := by kernel_rfl
  have q0 : (part 26 #[(.int .u64 a : Value), .int .u64 b] 0).run Try.prog w = .ok (.int .u64 a) w := by kernel_rfl
  have q1 : (part 26 #[(.int .u64 a : Value), .int .u64 b] 1).run Try.prog w = .ok (.int .u64 b) w := by kernel_rfl
  rw [run_equalIn_array (P := Try.prog) w (d + 1) _ _ Try.underlying28 hi, hc]
  show (Op.eqItems (d + 1) 26 1 _ _ [0, 1]).run Try.prog w = _
  simp only [Op.eqItems, Sem.run_bind, p0, p1, q0, q1, Nat.zero_mul, Nat.one_mul, u64_cmp, Result.andThen_ok]
  cases h : (x == a)
  · simp [p1, q1, u64_cmp]
  · simp [p1, q1, u64_cmp]
    split
    · rename_i hy; simp [hy]
    · rename_i hy; simp [hy]
theorem set_cmp (x y a b : Int) (w : World) : (Op.equalIn 10000 28 (.agg #[.int .u64 x, .int .u64 y]) (.agg #[.int .u64 a, .int .u64 b])).run Try.prog w = .ok (x == a && y == b) w := set_cmp0 9998 x y a b w
/-- is there anything in a set? -/
def neF (G : Nat → Bool) : Bool := !(((wordX G : Int) == 0) && ((wordY G : Int) == 0))
theorem neF_iff (G : Nat → Bool) : neF G = true ↔ ∃ j, j < 128 ∧ G j = true := by
  unfold neF
  constructor
  · intro h
    by_cases hn : ∃ j, j < 128 ∧ G j = true
    · exact hn
    · exfalso
      have hz : ∀ j, j < 128 → G j = false := fun j hj => by
        cases hg : G j
        · rfl
        · exact absurd ⟨j, hj, hg⟩ hn
      have hx : wordX G = 0 := by rw [(word_congr (G := fun _ => false) hz).1, word_none.1]
      have hy : wordY G = 0 := by rw [(word_congr (G := fun _ => false) hz).2, word_none.2]
      rw [hx, hy] at h
      simp at h
  · rintro ⟨j, hj, hg⟩
    cases hb : (((wordX G : Int) == 0) && ((wordY G : Int) == 0))
    · rfl
    · exfalso
      simp at hb
      by_cases h6 : j < 64
      · have := wordX_bit G j
        rw [hb.1] at this
        simp [h6, hg] at this
      · have := wordY_bit G (j - 64)
        rw [hb.2, show 64 + (j - 64) = j by omega] at this
        simp [show j - 64 < 64 by omega, hg] at this
/-- is there a call at a floor for a direction? -/
def callF (U D : Nat → Bool) (f d : Int) : Bool := if 0 < d then hasF U f else if d < 0 then hasF D f else false
def othF (d : Int) : Int := if 0 < d then -1 else 1
/-- what a car sees, as a value -/
def sgtV (W U D : Nat → Bool) : Value := .agg #[.int .u64 (wordX W), .int .u64 (wordY W), .int .u64 (wordX U), .int .u64 (wordY U), .int .u64 (wordX D), .int .u64 (wordY D)]
set_option maxHeartbeats 1000000 in
theorem other_any (d : Int) (w : World) : Calls Try.prog 30 #[.int .i64 d] w fun e w' => e = .returned (.int .i64 (othF d)) ∧ w = w' := by
  unfold othF
  by_cases h : 0 < d
  · rw [if_pos h]
    go_enter Try.func30, Try.ntmps30
    go_wp2
    go_ret
    exact ⟨rfl, rfl⟩
  · rw [if_neg h]
    go_enter Try.func30, Try.ntmps30
    go_wp2
    go_ret
    exact ⟨rfl, rfl⟩
set_option maxRecDepth 100000 in
set_option maxHeartbeats 1000000 in
theorem scall_any (W U D : Nat → Bool) (f d : Int) (w : World) : Calls Try.prog 31 #[sgtV W U D, .int .i64 f, .int .i64 d] w fun e w' => e = .returned (.bool (callF U D f d)) ∧ Below w.heap.size w w' := by
  have HU := fun w => has_any U f w
  have HD := fun w => has_any D f w
  unfold sgtV callF
  unfold setV at HU HD
  obtain ⟨w0, hw0⟩ : ∃ x, wordX W = x := ⟨_, rfl⟩
  obtain ⟨w1, hw1⟩ : ∃ x, wordY W = x := ⟨_, rfl⟩
  obtain ⟨u0, hu0⟩ : ∃ x, wordX U = x := ⟨_, rfl⟩
  obtain ⟨u1, hu1⟩ : ∃ x, wordY U = x := ⟨_, rfl⟩
  obtain ⟨d0, hd0⟩ : ∃ x, wordX D = x := ⟨_, rfl⟩
  obtain ⟨d1, hd1⟩ : ∃ x, wordY D = x := ⟨_, rfl⟩
  simp only [hw0, hw1, hu0, hu1, hd0, hd1] at HU HD ⊢
  have HUh := Lib.hid HU
  have HDh := Lib.hid HD
  clear hw0 hw1 hu0 hu1 hd0 hd1 HU HD
  obtain ⟨bu, hbu⟩ : ∃ b, hasF U f = b := ⟨_, rfl⟩
  obtain ⟨bd, hbd⟩ : ∃ b, hasF D f = b := ⟨_, rfl⟩
  rw [hbu] at HUh ⊢
  rw [hbd] at HDh ⊢
  clear hbu hbd
  rcases (show 0 < d ∨ d < 0 ∨ d = 0 by omega) with h | h | h
  · rw [if_pos h]
    go_enter Try.func31, Try.ntmps31
    go_wp2_with fail
    refine (HUh.out _).mono ?_
    rintro e w2 ⟨rfl, hb⟩
    have E2 := Lib.hid (((Below.refl w.heap.size w).alloc (Nat.le_refl _) (.cells #[.int .u64 w0, .int .u64 w1, .int .u64 u0, .int .u64 u1, .int .u64 d0, .int .u64 d1] 32)).trans (hb.mono (by simp)))
    clear hb
    go_wp2_with fail
    go_ret
    exact ⟨rfl, E2.out⟩
  · rw [if_neg (by omega), if_pos h]
    go_enter Try.func31, Try.ntmps31
    go_wp2_with fail
    refine (HDh.out _).mono ?_
    rintro e w2 ⟨rfl, hb⟩
    have E2 := Lib.hid (((Below.refl w.heap.size w).alloc (Nat.le_refl _) (.cells #[.int .u64 w0, .int .u64 w1, .int .u64 u0, .int .u64 u1, .int .u64 d0, .int .u64 d1] 32)).trans (hb.mono (by simp)))
    clear hb
    go_wp2_with fail
    go_ret
    exact ⟨rfl, E2.out⟩
  · rw [if_neg (by omega), if_neg (by omega)]
    subst h
    go_enter Try.func31, Try.ntmps31
    go_wp2_with fail
    go_ret
    exact ⟨rfl, (Below.refl w.heap.size w).alloc (Nat.le_refl _) _⟩
set_option maxRecDepth 100000 in
set_option maxHeartbeats 1000000 in
theorem sbey_any (W U D : Nat → Bool) (f d : Int) (w : World) : Calls Try.prog 11 #[sgtV W U D, .int .i64 f, .int .i64 d] w fun e w' => e = .returned (.bool (neF (byF W f d))) ∧ Below w.heap.size w w' := by
  have BY := fun w => beyond_any W f d w
  have CM := set_cmp (wordX (byF W f d)) (wordY (byF W f d)) 0 0
  unfold sgtV neF
  unfold setV at BY
  obtain ⟨w0, hw0⟩ : ∃ x, wordX W = x := ⟨_, rfl⟩
  obtain ⟨w1, hw1⟩ : ∃ x, wordY W = x := ⟨_, rfl⟩
  obtain ⟨u0, hu0⟩ : ∃ x, wordX U = x := ⟨_, rfl⟩
  obtain ⟨u1, hu1⟩ : ∃ x, wordY U = x := ⟨_, rfl⟩
  obtain ⟨d0, hd0⟩ : ∃ x, wordX D = x := ⟨_, rfl⟩
  obtain ⟨d1, hd1⟩ : ∃ x, wordY D = x := ⟨_, rfl⟩
  obtain ⟨r, hr⟩ : ∃ x, wordX (byF W f d) = x := ⟨_, rfl⟩
  obtain ⟨t, ht⟩ : ∃ x, wordY (byF W f d) = x := ⟨_, rfl⟩
  simp only [hw0, hw1, hu0, hu1, hd0, hd1, hr, ht] at BY CM ⊢
  have BYh := Lib.hid BY
  obtain ⟨bb, hbb⟩ : ∃ b, ((r : Int) == 0 && (t : Int) == 0) = b := ⟨_, rfl⟩
  rw [hbb] at CM ⊢
  clear hw0 hw1 hu0 hu1 hd0 hd1 hr ht hbb BY
  go_enter Try.func11, Try.ntmps11
  go_wp2_with fail
  refine (BYh.out _).mono ?_
  rintro e w2 ⟨rfl, hb⟩
  have E2 := Lib.hid (((Below.refl w.heap.size w).alloc (Nat.le_refl _) (.cells #[.int .u64 w0, .int .u64 w1, .int .u64 u0, .int .u64 u1, .int .u64 d0, .int .u64 d1] 32)).trans (hb.mono (by simp)))
  clear hb
  go_wp2_with fail
  go_ret
  exact ⟨rfl, E2.out⟩
end Go.Proofs.Ytdcollehdhkngaa
