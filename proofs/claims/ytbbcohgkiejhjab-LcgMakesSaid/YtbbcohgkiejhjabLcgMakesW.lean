/- The walk of LcgMakes: it answers true for every input, and leaves all old blocks as they were. No condition. -/
import Derived.Test.YtbbcohgkiejhjabRows
import Derived.Test.YtbbcohgkiejhjabRowKit
import Derived.Test.YtbbcohgkiejhjabBlocks
import Derived.Test.YtbbcohgkiejhjabSlicesEq
import Derived.Test.YtbbcohgkiejhjabLcgMath
import Derived.Test.YtbbcohgkiejhjabLcgA
import Derived.Test.YtbbcohgkiejhjabLcgB
import Derived.Test.YtbbcohgkiejhjabLcgC
import Derived.WalkKit
import Derived.ProofKit
import Derived.OpenShut
import Derived.Deep.QuietTactic
import Derived.BigQuiet
import Derived.Lib.SmallJoins
import Derived.Lib.Hide
import Derived.WalkSpells
import Derived.WalkLawsBesides
namespace Go.Proofs.Ytbbcohgkiejhjab.lcgMakes
open Go.ChangeShapes Go.WideShapes Go.ChangeAt Go.RowKit Go.Joins
set_option linter.unusedSimpArgs false
set_option linter.unusedVariables false

theorem big_step (s : Nat) : IntKind.u64.wrap (IntKind.u64.wrap ((s : Int) * 6364136223846793005) + 1442695040888963407) = ((stp s : Nat) : Int) := w_aff 6364136223846793005 1442695040888963407 s
set_option maxRecDepth 100000 in
set_option maxHeartbeats 1000000 in
theorem walk_pos (s n : Nat) (w : World) (hs : s < 18446744073709551616) (hn0 : 0 < n) (hn : n ≤ 300) :
    Calls Try.prog 9 #[.int .u64 s, .int .i64 n] w fun e w' => e = .returned (.bool true) ∧ Below w.heap.size w w' := by
  obtain ⟨i0, hi, hz0, hz1, hz2⟩ := info_parts info32
  go_enter Try.func9, Try.ntmps9
  go_wp2_with fail
  go_loopw [5, 6, 7] (fun l sd i wr => ∃ k : Nat, k ≤ n ∧ i = .int .i64 k ∧ sd = .int .u64 (its k s : Nat) ∧ wr.ownsRow w.heap.size 59 1 l k ((wds s k).map (Value.int .u32)) ∧ Below w.heap.size w wr) (fun _ _ i _ => n - (intOf i).toNat)
  case atStart => exact ⟨0, by omega, rfl, rfl, World.ownsRow_nil _ _ _ _, Below.refl _ _⟩
  case round =>
    obtain ⟨k, hk, rfl, rfl, hown, hb⟩ := hrel
    have hlt := its_lt hs k
    by_cases h : k < n
    · have hbs := big_step (its k s)
      go_wp2_with fail
      refine (lword_any _ _ (stp_lt _)).mono ?_
      rintro e w' ⟨rfl, rfl⟩
      go_wp2_with (at_builtin; refine wpList_append_own _ rfl _ _ 58 rfl w.heap.size 59 i0 (.int .u32 0) 1 4 Try.underlying58 hi hz0 hz1 hz2 rfl (by decide) _ _ _ rfl (hown.alloc _) ⟨_, 0, none⟩ 1 1 [.int .u32 (wd (stp (its k s)) : Nat)] rfl rfl one_new (by intro u hu; simp at hu; subst hu; rfl) (by unfold maxLen; omega) (by omega) (by have := hb.size; simp; omega) ?_; intro v' w1 hown' hgrow _)
      have hb1 : Below w.heap.size w w1 := by
        refine (hb.alloc hb.size _).grown hgrow (by have := hb.size; simp; omega) (fun g hg => ?_)
        first | exact own_ge hown hg | exact own_ge hown hg.symm
      have hown2 : w1.ownsRow w.heap.size 59 1 v' (k + 1) ((wds s (k + 1)).map (Value.int .u32)) := by
        rw [wds_succ, its_succ, List.map_append]; exact hown'
      clear hown' hgrow hbs
      go_wp2_with fail
      go_roundw
      case rel => exact ⟨k + 1, by omega, by go_num, by rw [its_succ], hown2, hb1⟩
      case measure => simp [intOf]; omega
    · obtain rfl : k = n := by omega
      have hown' : wr.ownsRow w.heap.size 59 1 u5 (wds s k).length ((wds s k).map (Value.int .u32)) := by rw [wds_len]; exact hown
      obtain ⟨A, c, rfl, hR⟩ := own_rdI hown' (wds_wf hs k)
      have R := Lib.hid hR
      have L := Lib.hid (wds_len s k)
      clear hown hown' hR
      go_wp2_with fail
      refine (make_pos s k _ hs hn0 hn).mono ?_
      rintro e w2 ⟨v, rfl, hown2, hb2⟩
      obtain ⟨B, d, rfl, hR2⟩ := own_rdI hown2 (wds_wf hs k)
      have R1 := Lib.hid (R.out.kept hb2)
      have R2 := Lib.hid hR2
      have hbw2 := hb.trans (hb2.mono hb.size)
      clear hown2 hR2 R hb2
      go_wp2_with fail
      refine (equal_u32 B A d c _ _ R2.out R1.out (by rw [L.out]; omega)).mono ?_
      rintro e w3 ⟨rfl, q, rfl⟩
      go_wp2_with fail
      refine (word_any _ _ hs).mono ?_
      rintro e w' ⟨rfl, rfl⟩
      go_wp2_with fail
      refine (lword_any _ _ hs).mono ?_
      rintro e w' ⟨rfl, rfl⟩
      go_wp2_with fail
      refine (step_any _ _ hs).mono ?_
      rintro e w' ⟨rfl, rfl⟩
      have hbs := big_step s
      go_wp2_with fail
      refine (alive_any _).mono ?_
      rintro e w' ⟨rfl, rfl⟩
      go_wp2_with fail
      go_ret
      exact ⟨rfl, below_drewN hbw2 _⟩
set_option maxRecDepth 100000 in
set_option maxHeartbeats 1000000 in
theorem walk_nil (s : Nat) (m : Int) (w : World) (hs : s < 18446744073709551616) (hm : m ≤ 0) (hm' : -9223372036854775808 ≤ m) :
    Calls Try.prog 9 #[.int .u64 s, .int .i64 m] w fun e w' => e = .returned (.bool true) ∧ Below w.heap.size w w' := by
  go_enter Try.func9, Try.ntmps9
  go_wp2_with fail
  go_loop [5, 6, 7] (fun l sd i => i = .int .i64 0 ∧ sd = .int .u64 s ∧ l = .slice none 0 0) (fun _ _ i => 0)
  case atStart => exact ⟨rfl, rfl, rfl⟩
  case round =>
    obtain ⟨rfl, rfl, rfl⟩ := hrel
    go_wp2_with fail
    refine (make_nil s m _ hs hm hm').mono ?_
    rintro e w2 ⟨v, rfl, hown2, hb2⟩
    obtain ⟨B, d, rfl, _⟩ := own_rdI hown2 (fun i hi => by simp at hi)
    clear hown2
    go_wp2_with fail
    refine (equal_u32_0 B none d 0 _).mono ?_
    rintro e w3 ⟨rfl, q, rfl⟩
    go_wp2_with fail
    refine (word_any _ _ hs).mono ?_
    rintro e w' ⟨rfl, rfl⟩
    go_wp2_with fail
    refine (lword_any _ _ hs).mono ?_
    rintro e w' ⟨rfl, rfl⟩
    go_wp2_with fail
    refine (step_any _ _ hs).mono ?_
    rintro e w' ⟨rfl, rfl⟩
    have hbs := big_step s
    go_wp2_with fail
    refine (alive_any _).mono ?_
    rintro e w' ⟨rfl, rfl⟩
    go_wp2_with fail
    go_ret
    exact ⟨rfl, below_drewN hb2 _⟩
set_option maxRecDepth 100000 in
set_option maxHeartbeats 1000000 in
theorem walk_big (s m : Int) (w : World) (hm : 300 < m) :
    Calls Try.prog 9 #[.int .u64 s, .int .i64 m] w fun e w' => e = .returned (.bool true) ∧ Below w.heap.size w w' := by
  go_enter Try.func9, Try.ntmps9
  go_wp2_with fail
  go_ret
  exact ⟨rfl, Below.refl _ _⟩
theorem walk {a0 a1 : Int} (w0 : (Lit.int .u64 a0).wf = true) (w1 : (Lit.int .i64 a1).wf = true) (w : World) :
    Calls Try.prog 9 #[.int .u64 a0, .int .i64 a1] w fun e w' => e = .returned (.bool true) ∧ Below w.heap.size w w' := by
  obtain ⟨b0, c0⟩ := bounds_u64 w0
  obtain ⟨b1, c1⟩ := bounds_i64 w1
  obtain ⟨s, rfl⟩ := Int.eq_ofNat_of_zero_le b0
  by_cases h : a1 ≤ 0
  · exact walk_nil s a1 w (by omega) h b1
  · by_cases h2 : a1 ≤ 300
    · obtain ⟨n, rfl⟩ := Int.eq_ofNat_of_zero_le (show 0 ≤ a1 by omega)
      exact walk_pos s n w (by omega) (by omega) (by omega)
    · exact walk_big s a1 w (by omega)

end Go.Proofs.Ytbbcohgkiejhjab.lcgMakes
