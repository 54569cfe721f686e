/- The walk of NearLeast: it answers true for every input, and leaves all old blocks as they were. No condition. -/
import Derived.Test.YtcofafiacpecnaaRows
import Derived.Test.YtcofafiacpecnaaRowKit
import Derived.Test.YtcofafiacpecnaaNearMath
import Derived.Test.YtcofafiacpecnaaNearA
import Derived.Test.YtcofafiacpecnaaNearB
import Derived.Test.YtcofafiacpecnaaSlicesEq
import Derived.WalkKit
import Derived.ProofKit
import Derived.OpenShut
import Derived.Deep.QuietTactic
import Derived.BigQuiet
import Derived.Lib.SmallJoins
import Derived.Lib.Hide
import Derived.WalkSpells
import Derived.WalkLawsBesides
import Derived.IntWalk
import Derived.Deep.LoopGhost
namespace Go.Proofs.Ytcofafiacpecnaa.nearLeast
open Go.ChangeShapes Go.WideShapes Go.ChangeAt Go.RowKit Go.Joins
set_option linter.unusedSimpArgs false
set_option linter.unusedVariables false

set_option maxHeartbeats 8000000 in
theorem walk_some (A : Option Addr) (c n m : Nat) (zs : List Int) (w : World) (hn : zs.length = n) (hn0 : 0 < n) (hn1 : n ≤ 200) (hm : lstN zs n = m) (hr : RdI w .i64 A zs) :
    Calls Try.prog 5 #[.slice A n c] w fun e w' => e = .returned (.bool true) ∧ Below w.heap.size w w' := by
  have KL := fun w (h : RdI w .i64 A zs) => least_any A c zs w h (by omega)
  rw [hn, lstV_pos zs hn0, hm] at KL
  have HL := Lib.hid KL
  have ml := lst_lt zs n hn0
  rw [hm] at ml
  have LE := Lib.hid (fun i (hi : i < n) => lst_le zs n i hi)
  have LF := Lib.hid (fun i (hi : i < lstN zs n) => lst_first zs n i hi)
  rw [hm] at LE LF
  obtain ⟨b, off, rfl, hlt, hc⟩ := rdI_row hr (by omega)
  have HC := Lib.hid hc
  have HN := Lib.hid hn
  have cm := hc m (by omega)
  obtain ⟨v, hv⟩ : ∃ v, zat zs m = v := ⟨_, rfl⟩
  rw [hv] at cm LE LF
  have nz : (n == 0) = false := by rw [beq_eq_false_iff_ne]; omega
  have dn : decide (n ≤ m) = false := decide_eq_false (by omega)
  clear hc hn hm KL hv
  go_enter Try.func5, Try.ntmps5
  go_wp2_with (go_at_call 26; refine (HL.out _ hr).mono ?_; rintro e w' ⟨rfl, rfl⟩)
  go_loopg [4] n (fun g i wr => ∃ k q : Nat, k ≤ n ∧ g = n - k ∧ i = .int .i64 k ∧ wr = w.drewN q)
  case atStart => exact ⟨0, 0, by omega, by omega, rfl, rfl⟩
  case round =>
    obtain ⟨k, q, hk, rfl, rfl, rfl⟩ := hrel
    by_cases h : k < n
    · have ck := HC.out k (by have := HN.out; omega)
      have le := LE.out k h
      have lf := LF.out k
      obtain ⟨u, hu⟩ : ∃ u, zat zs k = u := ⟨_, rfl⟩
      rw [hu] at ck le lf
      have lt : ¬ u < v := by omega
      by_cases d : k < m
      · have ne : (u == v) = false := by rw [beq_eq_false_iff_ne]; have := lf d; omega
        clear hu lf le
        go_wp2_with fail
        go_quiet (fail)
        go_wp2_with fail
        go_roundg (n - (k + 1))
        case measure => omega
        case rel => exact ⟨k + 1, _, by omega, rfl, by go_num, rfl⟩
      · have dd : decide (k < m) = false := decide_eq_false d
        have dl : decide (u < v) = false := decide_eq_false lt
        clear hu lf le d lt
        go_wp2_with fail
        go_quiet (fail)
        go_wp2_with fail
        go_roundg (n - (k + 1))
        case measure => omega
        case rel => exact ⟨k + 1, _, by omega, rfl, by go_num, rfl⟩
    · obtain rfl : k = n := by omega
      go_wp2_with (go_at_call 27; refine (nalive _).mono ?_; rintro e w' ⟨rfl, hb⟩)
      go_ret
      exact ⟨rfl, (below_drewN (Below.refl _ _) _).trans (hb.mono (by simp))⟩
theorem walk {A : Option Addr} {c : Nat} {zs : List Int} {w : World} (hl : zs.length ≤ c) (hm : c ≤ maxLen) (hr : RdI w .i64 A zs) :
    Calls Try.prog 5 #[.slice A zs.length c] w fun e w' => e = .returned (.bool true) ∧ Below w.heap.size w w' := by
  obtain ⟨n, hn⟩ : ∃ n, zs.length = n := ⟨_, rfl⟩
  by_cases h1 : n ≤ 200
  · by_cases h0 : 0 < n
    · rw [hn]
      exact walk_some A c n _ zs w hn h0 h1 rfl hr
    · have hz : zs = [] := List.eq_nil_of_length_eq_zero (by omega)
      subst hz
      have KL := fun w => least_any A c [] w (fun i hi => by simp at hi) (by decide)
      have HL : Hid (∀ w, Calls Try.prog 26 #[.slice A 0 c] w fun e w' => e = .returned (.int .i64 (-1)) ∧ w = w') := KL
      clear KL hr hn h0
      show Calls Try.prog 5 #[.slice A 0 c] w _
      go_enter Try.func5, Try.ntmps5
      go_wp2_with (first
        | (go_at_call 26; refine (HL.out _).mono ?_; rintro e w' ⟨rfl, rfl⟩)
        | (go_at_call 27; refine (nalive _).mono ?_; rintro e w' ⟨rfl, hb⟩))
      go_ret
      exact ⟨rfl, hb⟩
  · rw [hn]
    unfold maxLen at hm
    have h2 : 200 < n := by omega
    clear hr hn
    go_enter Try.func5, Try.ntmps5
    go_wp2_with fail
    go_ret
    exact ⟨rfl, Below.refl _ _⟩

end Go.Proofs.Ytcofafiacpecnaa.nearLeast
