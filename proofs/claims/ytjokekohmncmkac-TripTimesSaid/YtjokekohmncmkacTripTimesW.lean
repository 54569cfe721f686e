/- The walk of TripTimes: it answers true for every input, and leaves all old blocks as they were. No condition. -/
import Derived.Test.YtjokekohmncmkacRows
import Derived.Test.YtjokekohmncmkacRowKit
import Derived.Test.YtjokekohmncmkacRowS
import Derived.Test.YtjokekohmncmkacRowZ
import Derived.Test.YtjokekohmncmkacSlicesEq
import Derived.Test.YtjokekohmncmkacSlicesEqM
import Derived.Test.YtjokekohmncmkacRowL
import Derived.Test.YtjokekohmncmkacTripMath
import Derived.Test.YtjokekohmncmkacTripA
import Derived.Test.YtjokekohmncmkacTripB
import Derived.Test.YtjokekohmncmkacTripC
import Derived.WalkKit
import Derived.ProofKit
import Derived.OpenShut
import Derived.Deep.QuietTactic
import Derived.BigQuiet
import Derived.Lib.SmallJoins
import Derived.Lib.Hide
import Derived.WalkSpells
import Derived.WalkLawsBesides
import Derived.IntWalk
import Derived.Below
namespace Go.Proofs.Ytjokekohmncmkac.tripTimes
open Go.ChangeShapes Go.WideShapes Go.ChangeAt Go.RowKit Go.Joins
set_option linter.unusedSimpArgs false
set_option linter.unusedVariables false


theorem zat_mem {L : List Int} {i : Nat} (h : i < L.length) : zat L i ∈ L := by
  unfold zat; rw [List.getD_eq_getElem?_getD, List.getElem?_eq_getElem h]; exact List.getElem_mem h
theorem done_mem (z : Nat → Nat → Int) (x y : Nat) : ∀ k e, e ∈ doneV z x y k → ∃ i, i < k ∧ e = z i x - z i y
  | 0, e, h => by rw [done_zero] at h; cases h
  | k + 1, e, h => by
    by_cases c : 0 ≤ z k 6
    · rw [done_yes c, List.mem_append] at h
      rcases h with h | h
      · obtain ⟨i, hi, e1⟩ := done_mem z x y k e h; exact ⟨i, by omega, e1⟩
      · simp at h; exact ⟨k, by omega, h⟩
    · rw [done_no c] at h
      obtain ⟨i, hi, e1⟩ := done_mem z x y k e h; exact ⟨i, by omega, e1⟩
theorem wf_small {n : Int} (h0 : -9223372036854775808 ≤ n) (h1 : n ≤ 9223372036854775807) : (Lit.int .i64 n).wf = true := by
  simp [Lit.wf, IntKind.min, IntKind.max, IntKind.signed, IntKind.bits]; omega
theorem done_wf51 {z : Nat → Nat → Int} {n : Nat} (h : TBd z n) : ∀ i, i < (doneV z 5 1 n).length → (Lit.int .i64 (zat (doneV z 5 1 n) i)).wf = true := fun i hi => by
  obtain ⟨j, hj, e⟩ := done_mem z 5 1 n _ (zat_mem hi)
  have := h j hj
  exact wf_small (by rw [e]; omega) (by rw [e]; omega)
theorem done_wf65 {z : Nat → Nat → Int} {n : Nat} (h : TBd z n) : ∀ i, i < (doneV z 6 5 n).length → (Lit.int .i64 (zat (doneV z 6 5 n) i)).wf = true := fun i hi => by
  obtain ⟨j, hj, e⟩ := done_mem z 6 5 n _ (zat_mem hi)
  have := h j hj
  exact wf_small (by rw [e]; omega) (by rw [e]; omega)
set_option maxHeartbeats 4000000 in
theorem walk_any {A : Option Addr} {c n : Nat} {z : Nat → Nat → Int} (u : Int) (w : World) (hr : RdZ w 7 A n z) (hm : n ≤ 9223372036854775807) :
    Calls Try.prog 9 #[.slice A n c, .int .i64 u] w fun e w' => e = .returned (.bool true) ∧ Below w.heap.size w w' := by
  have HG := Lib.hid (great_any A c n z w hr hm)
  by_cases u0 : u < -1
  · go_enter Try.func9, Try.ntmps9
    go_wp2_with fail
    refine HG.out.mono ?_
    rintro e w1 ⟨b, rfl, hb1, hz⟩
    cases b
    all_goals
      go_wp2_with fail
      go_ret
      exact ⟨rfl, hb1⟩
  by_cases u1 : 1073741824 < u
  · go_enter Try.func9, Try.ntmps9
    go_wp2_with fail
    refine HG.out.mono ?_
    rintro e w1 ⟨b, rfl, hb1, hz⟩
    cases b
    all_goals
      go_wp2_with fail
      go_ret
      exact ⟨rfl, hb1⟩
  go_enter Try.func9, Try.ntmps9
  go_wp2_with fail
  refine HG.out.mono ?_
  rintro e w1 ⟨b, rfl, hb1, hz⟩
  cases b
  case true =>
    go_wp2_with fail
    go_ret
    exact ⟨rfl, hb1⟩
  obtain ⟨hn, hz⟩ := hz rfl
  have n1 := Nat.le_trans hn (show 100 ≤ 1000 by decide)
  have KA := Lib.hid (fun W (hb : Below w.heap.size w W) => waits_any A c n z W (hr.kept hb) n1 hz)
  have KB := Lib.hid (fun W (hb : Below w.heap.size w W) => rwaits_any A c n z W (hr.kept hb) n1 hz)
  have KC := Lib.hid (fun W (hb : Below w.heap.size w W) => transits_any A c n z W (hr.kept hb) n1 hz)
  have KD := Lib.hid (fun W (hb : Below w.heap.size w W) => rtransits_any A c n z W (hr.kept hb) n1 hz)
  have KE := Lib.hid (fun W (hb : Below w.heap.size w W) => aboard_any A c n u z W (hr.kept hb) n1 hz (by omega) (by omega))
  have KF := Lib.hid (fun W (hb : Below w.heap.size w W) => raboard_any A c n u z W (hr.kept hb) n1 hz (by omega) (by omega))
  have L1 := Lib.hid (done_len z 5 1 n)
  have L2 := Lib.hid (done_len z 6 5 n)
  have F1 := Lib.hid (done_wf51 hz)
  have F2 := Lib.hid (done_wf65 hz)
  clear hz HG
  obtain ⟨P, hP⟩ : ∃ P, doneV z 5 1 n = P := ⟨_, rfl⟩
  obtain ⟨Q, hQ⟩ : ∃ Q, doneV z 6 5 n = Q := ⟨_, rfl⟩
  obtain ⟨s, hs⟩ : ∃ s, aboardV z u n = s := ⟨_, rfl⟩
  rw [hP] at KA KB L1 F1
  rw [hQ] at KC KD L2 F2
  rw [hs] at KE KF
  clear hP hQ hs
  have qs : (s == s) = true := by simp
  have l1 : P.length ≤ 9223372036854775807 := by have := L1.out; omega
  have l2 : Q.length ≤ 9223372036854775807 := by have := L2.out; omega
  go_wp2_with fail
  refine (KA.out _ hb1).mono ?_
  rintro e w2 ⟨v2, rfl, o2, hb2⟩
  have g2 := hb1.trans (Joins.below_le hb2 hb1.size)
  obtain ⟨A2, C2, rfl, r2⟩ := ownR_rd o2 F1.out
  clear o2
  go_wp2_with fail
  refine (KB.out _ g2).mono ?_
  rintro e w3 ⟨v3, rfl, o3, hb3⟩
  have g3 := g2.trans (Joins.below_le hb3 g2.size)
  obtain ⟨A3, C3, rfl, r3⟩ := ownR_rd o3 F1.out
  have r2 := r2.kept hb3
  clear o3
  go_wp2_with fail
  refine (equal_int A2 A3 C2 C3 P w3 r2 r3 l1).mono ?_
  rintro e w4 ⟨rfl, k4, rfl⟩
  have g4 := below_drewN g3 k4
  go_wp2_with fail
  refine (KC.out _ g4).mono ?_
  rintro e w5 ⟨v5, rfl, o5, hb5⟩
  have g5 := g4.trans (Joins.below_le hb5 g4.size)
  obtain ⟨A5, C5, rfl, r5⟩ := ownR_rd o5 F2.out
  clear o5
  go_wp2_with fail
  refine (KD.out _ g5).mono ?_
  rintro e w6 ⟨v6, rfl, o6, hb6⟩
  have g6 := g5.trans (Joins.below_le hb6 g5.size)
  obtain ⟨A6, C6, rfl, r6⟩ := ownR_rd o6 F2.out
  have r5 := r5.kept hb6
  clear o6
  go_wp2_with fail
  refine (equal_int A5 A6 C5 C6 Q w6 r5 r6 l2).mono ?_
  rintro e w7 ⟨rfl, k7, rfl⟩
  have g7 := below_drewN g6 k7
  go_wp2_with fail
  refine (KE.out _ g7).mono ?_
  rintro e w8 ⟨rfl, hb8⟩
  have g8 := g7.trans (Joins.below_le hb8 g7.size)
  go_wp2_with fail
  refine (KF.out _ g8).mono ?_
  rintro e w9 ⟨rfl, hb9⟩
  have g9 := g8.trans (Joins.below_le hb9 g8.size)
  go_wp2_with fail
  refine (talive _).mono ?_
  rintro e w10 ⟨rfl, hb10⟩
  have g10 := g9.trans (Joins.below_le hb10 g9.size)
  go_wp2_with fail
  go_ret
  exact ⟨rfl, g10⟩
theorem walk {A : Option Addr} {c n : Nat} {z : Nat → Nat → Int} {u : Int} {w : World} (hc : n ≤ c) (hm : c ≤ maxLen) (hr : RdZ w 7 A n z) (_ : A = none → c = 0) (w1 : (Lit.int .i64 u).wf = true) :
    Calls Try.prog 9 #[.slice A n c, .int .i64 u] w fun e w' => e = .returned (.bool true) ∧ Below w.heap.size w w' := by
  unfold maxLen at hm
  exact walk_any u w hr (by omega)

end Go.Proofs.Ytjokekohmncmkac.tripTimes
