/- The walk of VetBounds: it answers true for every input, and leaves all old blocks as they were. No condition. -/
import Derived.Test.YtmdjncknjbjmbaaRows
import Derived.Test.YtmdjncknjbjmbaaRowKit
import Derived.Test.YtmdjncknjbjmbaaRowS
import Derived.Test.YtmdjncknjbjmbaaRowZ
import Derived.Test.YtmdjncknjbjmbaaBlocks
import Derived.Test.YtmdjncknjbjmbaaVetA
import Derived.Test.YtmdjncknjbjmbaaVetB
import Derived.Test.YtmdjncknjbjmbaaVetC
import Derived.Test.YtmdjncknjbjmbaaVetD
import Derived.Test.YtmdjncknjbjmbaaVetE
import Derived.Test.YtmdjncknjbjmbaaVetF
import Derived.Test.YtmdjncknjbjmbaaVetG
import Derived.WalkKit
import Derived.ProofKit
import Derived.OpenShut
import Derived.Deep.QuietTactic
import Derived.BigQuiet
import Derived.Lib.SmallJoins
import Derived.Lib.Hide
import Derived.WalkSpells
import Derived.WalkLawsBesides
import Derived.IntWalk
import Derived.Lib.Strings
namespace Go.Proofs.Ytmdjncknjbjmbaa.vetBounds
open Go.ChangeShapes Go.WideShapes Go.ChangeAt Go.RowKit Go.Joins
set_option linter.unusedSimpArgs false
set_option linter.unusedVariables false

set_option maxHeartbeats 1000000 in
theorem walk_big (s : ByteArray) (n : Int) (w : World) (h : 100 < s.size) :
    Calls Try.prog 3 #[.string s, .int .i64 n] w fun e w' => e = .returned (.bool true) ∧ Below w.heap.size w w' := by
  go_enter Try.func3, Try.ntmps3
  go_wp2_with fail
  go_ret
  exact ⟨rfl, Below.refl _ _⟩
set_option maxHeartbeats 2000000 in
theorem walk_of (s : ByteArray) (n lo hi : Int) (is i : Bool) (w : World) (h : s.size ≤ 100)
    (h1 : ∀ w, Calls Try.prog 15 #[.string s] w fun e w' => e = .returned (.tuple #[.int .i64 lo, .int .i64 hi, .bool is]) ∧ w = w')
    (h2 : ∀ w, Calls Try.prog 16 #[.string s] w fun e w' => e = .returned (.tuple #[.int .i64 lo, .int .i64 hi, .bool is]) ∧ Below w.heap.size w w')
    (h3 : ∀ w, Calls Try.prog 17 #[.string s, .int .i64 n] w fun e w' => e = .returned (.bool i) ∧ w = w')
    (h4 : ∀ w, Calls Try.prog 18 #[.string s, .int .i64 n] w fun e w' => e = .returned (.bool i) ∧ Below w.heap.size w w') :
    Calls Try.prog 3 #[.string s, .int .i64 n] w fun e w' => e = .returned (.bool true) ∧ Below w.heap.size w w' := by
  have H1 := Lib.hid h1
  have H2 := Lib.hid h2
  have H3 := Lib.hid h3
  have H4 := Lib.hid h4
  clear h1 h2 h3 h4
  go_enter Try.func3, Try.ntmps3
  go_wp2_with fail
  refine (H1.out _).mono ?_
  rintro e w1 ⟨rfl, rfl⟩
  go_wp2_with fail
  refine (H2.out _).mono ?_
  rintro e w2 ⟨rfl, hb2⟩
  go_wp2_with fail
  refine (H3.out _).mono ?_
  rintro e w3 ⟨rfl, rfl⟩
  go_wp2_with fail
  refine (H4.out _).mono ?_
  rintro e w4 ⟨rfl, hb4⟩
  go_wp2_with fail
  refine (valive _).mono ?_
  rintro e w5 ⟨rfl, hb5⟩
  go_wp2_with fail
  go_ret
  exact ⟨rfl, (hb2.trans (Joins.below_le hb4 hb2.size)).trans (Joins.below_le hb5 (hb2.trans (Joins.below_le hb4 hb2.size)).size)⟩
theorem walk {s : ByteArray} {n : Int} (_ : s.size ≤ maxLen) (h1 : (Lit.int .i64 n).wf = true) (w : World) :
    Calls Try.prog 3 #[.string s, .int .i64 n] w fun e w' => e = .returned (.bool true) ∧ Below w.heap.size w w' := by
  rcases Nat.lt_or_ge 100 s.size with g | g
  · exact walk_big s n w g
  · by_cases h : ∃ m, m < 13 ∧ nm m = s
    · obtain ⟨m, hm, rfl⟩ := h
      refine walk_of (nm m) n (loB m) (hiB m) true (inV m n) w g (fun w => pbounds_at m w hm) (fun w => ?_) (fun w => pin_at m n w hm) (fun w => rin_at m n w hm)
      have := rbounds_at (nm m) m w (by omega) (nm_ne m hm) (fun _ => rfl)
      rwa [decide_eq_true hm] at this
    · have hn : ∀ k, k < 13 → nm k ≠ s := fun k hk c => h ⟨k, hk, c⟩
      exact walk_of s n 0 0 false false w g (fun w => pbounds_no s w hn) (fun w => rbounds_at s 13 w (by omega) (fun k hk => hn k hk) (fun h => absurd h (by omega))) (fun w => pin_no s n w hn) (fun w => rin_no s n w hn)

end Go.Proofs.Ytmdjncknjbjmbaa.vetBounds
