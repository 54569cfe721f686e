/- The walk of WhenTicks: it answers true for every input, and leaves all old blocks as they were. No condition. -/
import Derived.Test.YtjokekohmncmkacRows
import Derived.Test.YtjokekohmncmkacRowKit
import Derived.Test.YtjokekohmncmkacRowS
import Derived.Test.YtjokekohmncmkacRowZ
import Derived.Test.YtjokekohmncmkacWhenMath
import Derived.Test.YtjokekohmncmkacWhenA
import Derived.WalkKit
import Derived.ProofKit
import Derived.OpenShut
import Derived.Deep.QuietTactic
import Derived.BigQuiet
import Derived.Lib.SmallJoins
import Derived.Lib.Hide
import Derived.WalkSpells
import Derived.WalkLawsBesides
import Derived.IntWalk
namespace Go.Proofs.Ytjokekohmncmkac.whenTicks
open Go.ChangeShapes Go.WideShapes Go.ChangeAt Go.RowKit Go.Joins
set_option linter.unusedSimpArgs false
set_option linter.unusedVariables false


set_option maxHeartbeats 2000000 in
theorem walk_small {A : Option Addr} {c n : Nat} {z : Nat → Nat → Int} (w : World) (hc : n ≤ c) (hm : c ≤ maxLen) (hr : RdZ w 3 A n z) (hn : n ≤ 10) :
    Calls Try.prog 6 #[.slice A n c] w fun e w' => e = .returned (.bool true) ∧ Below w.heap.size w w' := by
  have CA := Lib.hid (fun W t (hb : Below w.heap.size w W) => wat_any A c n z t W (hr.kept hb) (by omega))
  have CS := Lib.hid (fun W q (hb : Below w.heap.size w W) => wstart_any A c n z q W (hr.kept hb) (by omega) hc hm)
  have CT := Lib.hid (fun W (hb : Below w.heap.size w W) => wtotal_any A c n z W (hr.kept hb) (by omega))
  unfold maxLen at hm
  go_enter Try.func6, Try.ntmps6
  go_wp2_with fail
  go_loop [3] (fun i => ∃ k : Nat, k ≤ n ∧ i = .int .i64 k) (fun i => n - (intOf i).toNat)
  case atStart => exact ⟨0, by omega, rfl⟩
  case round =>
    obtain ⟨k, hk, rfl⟩ := hrel
    by_cases h : k < n
    · obtain ⟨b, off, rfl, hlt, hcl⟩ := rdZ_row hr (by omega) (by omega)
      have c1 := hcl k 1 h (by omega)
      clear hcl
      by_cases e : 50 < z k 1
      · go_wp2_with fail
        go_ret
        exact ⟨rfl, Below.refl _ _⟩
      · go_wp2_with fail
        go_round
        case rel => exact ⟨k + 1, by omega, by go_num⟩
        case measure => simp [intOf]; omega
    · obtain rfl : k = n := by omega
      have sb := seg_bd z k
      obtain ⟨T, hT⟩ := Int.eq_ofNat_of_zero_le sb.1
      have HT := Lib.hid hT
      have T2 : T ≤ 10485760 := by omega
      have CT' := CT.out
      rw [hT] at CT'
      have KT := Lib.hid CT'
      clear CT CT' hT sb
      go_wp2_with fail
      go_loopw [4] (fun i wr => ∃ j : Nat, j ≤ T ∧ i = .int .i64 j ∧ Below w.heap.size w wr) (fun i _ => T - (intOf i).toNat)
      case atStart => exact ⟨0, by omega, rfl, Below.refl _ _⟩
      case round =>
        obtain ⟨j, hj, rfl, hb⟩ := hrel
        by_cases h2 : j < T
        · obtain ⟨i, hi, hs⟩ := inS_ex (z := z) (t := (j : Int)) (by omega) k (by rw [HT.out]; omega)
          have KA := Lib.hid (show ∀ W, Below w.heap.size w W → _ from fun W hb => by
            have := CA.out W (j : Int) hb
            rw [atV_is hs k hi, atF_yes hs hi] at this
            exact this)
          have KS := Lib.hid (show ∀ W, Below w.heap.size w W → _ from fun W hb => by
            have := CS.out W (i : Int) hb
            rw [(st_yes (z := z) hi).1, (st_yes (z := z) hi).2] at this
            exact this)
          have s1 := hs.1
          have s2 := hs.2
          obtain ⟨x, hx⟩ : ∃ x, seg z i = x := ⟨_, rfl⟩
          rw [hx] at s1 KS
          by_cases h3 : i + 1 < k
          · have KS2 := Lib.hid (show ∀ W, Below w.heap.size w W → _ from fun W hb => by
              have := CS.out W ((i : Int) + 1) hb
              rw [show ((i : Int) + 1) = ((i + 1 : Nat) : Int) by omega, (st_yes (z := z) h3).1, (st_yes (z := z) h3).2] at this
              rw [show ((i + 1 : Nat) : Int) = (i : Int) + 1 by omega] at this
              exact this)
            obtain ⟨y, hy⟩ : ∃ y, seg z (i + 1) = y := ⟨_, rfl⟩
            rw [hy] at s2 KS2
            have s3 : ¬ j < x := by omega
            have s4 : ¬ y ≤ j := by omega
            clear hx hy hs CS CA
            go_wp2_with fail
            refine (KT.out _ hb).mono ?_
            rintro e w1 ⟨rfl, hb1⟩
            have hb1 := hb.trans (Joins.below_le hb1 hb.size)
            go_wp2_with fail
            refine (KA.out _ hb1).mono ?_
            rintro e w2 ⟨rfl, hb2⟩
            have hb2 := hb1.trans (Joins.below_le hb2 hb1.size)
            go_wp2_with fail
            refine (KS.out _ hb2).mono ?_
            rintro e w3 ⟨rfl, hb3⟩
            have hb3 := hb2.trans (Joins.below_le hb3 hb2.size)
            go_wp2_with fail
            refine (KS2.out _ hb3).mono ?_
            rintro e w4 ⟨rfl, hb4⟩
            have hb4 := hb3.trans (Joins.below_le hb4 hb3.size)
            go_wp2_with fail
            go_roundw
            case rel => exact ⟨j + 1, by omega, by go_num, hb4⟩
            case measure => simp [intOf]; omega
          · have KS2 := Lib.hid (show ∀ W, Below w.heap.size w W → _ from fun W hb => by
              have := CS.out W ((i : Int) + 1) hb
              rw [(st_no (z := z) (n := k) (i := (i : Int) + 1) (.inr (by omega))).1, (st_no (z := z) (n := k) (i := (i : Int) + 1) (.inr (by omega))).2] at this
              exact this)
            have s3 : ¬ j < x := by omega
            clear hx hs CS CA
            go_wp2_with fail
            refine (KT.out _ hb).mono ?_
            rintro e w1 ⟨rfl, hb1⟩
            have hb1 := hb.trans (Joins.below_le hb1 hb.size)
            go_wp2_with fail
            refine (KA.out _ hb1).mono ?_
            rintro e w2 ⟨rfl, hb2⟩
            have hb2 := hb1.trans (Joins.below_le hb2 hb1.size)
            go_wp2_with fail
            refine (KS.out _ hb2).mono ?_
            rintro e w3 ⟨rfl, hb3⟩
            have hb3 := hb2.trans (Joins.below_le hb3 hb2.size)
            go_wp2_with fail
            refine (KS2.out _ hb3).mono ?_
            rintro e w4 ⟨rfl, hb4⟩
            have hb4 := hb3.trans (Joins.below_le hb4 hb3.size)
            go_wp2_with fail
            go_roundw
            case rel => exact ⟨j + 1, by omega, by go_num, hb4⟩
            case measure => simp [intOf]; omega
        · obtain rfl : j = T := by omega
          have KA := Lib.hid (show ∀ W, Below w.heap.size w W → _ from fun W hb => by
            have := CA.out W (j : Int) hb
            rw [atV_none (z := z) (t := (j : Int)) (n := k) (.inr (by rw [HT.out]; omega)) k (Nat.le_refl _), atF_no (z := z) (t := (j : Int)) (n := k) (.inr (by rw [HT.out]; omega))] at this
            exact this)
          clear CS CA
          go_wp2_with fail
          refine (KT.out _ hb).mono ?_
          rintro e w1 ⟨rfl, hb1⟩
          have hb1 := hb.trans (Joins.below_le hb1 hb.size)
          go_wp2_with fail
          refine (KT.out _ hb1).mono ?_
          rintro e w2 ⟨rfl, hb2⟩
          have hb2 := hb1.trans (Joins.below_le hb2 hb1.size)
          go_wp2_with fail
          refine (KA.out _ hb2).mono ?_
          rintro e w3 ⟨rfl, hb3⟩
          have hb3 := hb2.trans (Joins.below_le hb3 hb2.size)
          go_wp2_with fail
          refine (walive _).mono ?_
          rintro e w4 ⟨rfl, hb4⟩
          have hb4 := hb3.trans (Joins.below_le hb4 hb3.size)
          go_wp2_with fail
          go_ret
          exact ⟨rfl, hb4⟩
theorem walk {A : Option Addr} {c n : Nat} {z : Nat → Nat → Int} {w : World} (hc : n ≤ c) (hm : c ≤ maxLen) (hr : RdZ w 3 A n z) (_ : A = none → c = 0) :
    Calls Try.prog 6 #[.slice A n c] w fun e w' => e = .returned (.bool true) ∧ Below w.heap.size w w' := by
  by_cases hn : n ≤ 10
  · exact walk_small w hc hm hr hn
  · unfold maxLen at hm
    have h : 10 < n := by omega
    go_enter Try.func6, Try.ntmps6
    go_wp2_with fail
    go_ret
    exact ⟨rfl, Below.refl _ _⟩

end Go.Proofs.Ytjokekohmncmkac.whenTicks
