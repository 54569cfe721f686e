/- The walk of ParkCosts: it answers true for every input, and leaves all old blocks as they were. No condition. -/
import Derived.Test.YtloplambpfjioaaRows
import Derived.Test.YtloplambpfjioaaRowKit
import Derived.Test.YtloplambpfjioaaRowS
import Derived.Test.YtloplambpfjioaaRowZ
import Derived.Test.YtloplambpfjioaaSlicesEq
import Derived.Test.YtloplambpfjioaaBlocks
import Derived.Test.YtloplambpfjioaaParkI
import Derived.WalkKit
import Derived.ProofKit
import Derived.OpenShut
import Derived.Deep.QuietTactic
import Derived.BigQuiet
import Derived.Lib.SmallJoins
import Derived.Lib.Hide
import Derived.WalkSpells
import Derived.WalkLawsBesides
import Derived.OwnWalk
import Derived.BigRegion
import Derived.Deep.LoopGhost
import Derived.Deep.RegionHeld3
import Derived.IntWalk
namespace Go.Proofs.Ytloplambpfjioaa.parkCosts
open Go.ChangeShapes Go.WideShapes Go.ChangeAt Go.RowKit Go.Joins
set_option linter.unusedSimpArgs false
set_option linter.unusedVariables false

set_option maxRecDepth 100000 in
set_option maxHeartbeats 8000000 in
theorem walk {A B : Option Addr} {ca cb : Nat} {a b : List Int} {w : World} (h1 : a.length ≤ ca) (h2 : ca ≤ maxLen) (hra : RdI w .i64 A a) (h3 : b.length ≤ cb) (h4 : cb ≤ maxLen) (hrb : RdI w .i64 B b) :
    Calls Try.prog 3 #[.slice A a.length ca, .slice B b.length cb] w fun e w' => e = .returned (.bool true) ∧ Below w.heap.size w w' := by
  obtain ⟨n, hn⟩ : ∃ n, a.length = n := ⟨_, rfl⟩
  obtain ⟨m, hm⟩ : ∃ m, b.length = m := ⟨_, rfl⟩
  rw [hn, hm]
  by_cases g1 : 200 < n
  · have i1 : 200 < (n : Int) := by omega
    clear hra hrb h1 h3 hn hm
    go_enter Try.func3, Try.ntmps3
    go_wp2_with fail
    go_ret
    exact ⟨rfl, Below.refl _ _⟩
  · have i1 : ¬ 200 < (n : Int) := by omega
    by_cases g2 : 100 < m
    · have i2 : 100 < (m : Int) := by omega
      clear hra hrb h1 h3 hn hm
      go_enter Try.func3, Try.ntmps3
      go_wp2_with fail
      go_ret
      exact ⟨rfl, Below.refl _ _⟩
    · have i2 : ¬ 100 < (m : Int) := by omega
      have KC := Lib.hid (cost_any A B ca cb n m a b w hn hm (by omega) (by omega) hra hrb)
      have KD := Lib.hid (fun (W : World) (hb : Below w.heap.size w W) => dcost_any A B ca cb n m a b W hn hm (by omega) (by omega) (hra.kept hb) (hrb.kept hb))
      clear hra hrb h1 h3 hn hm g1 g2
      go_enter Try.func3, Try.ntmps3
      go_wp2_with fail
      refine KC.out.mono ?_
      rintro e w1 ⟨v, er, rfl, hb1, hy, hno⟩
      have KD1 := Lib.hid (KD.out w1 hb1)
      have E1 := Lib.hid hb1
      have HY := Lib.hid hy; have HN := Lib.hid hno
      clear hb1 hy hno KC KD
      go_wp2_with fail
      refine KD1.out.mono ?_
      rintro e w2 ⟨v2, ok, rfl, hb2, hy, hno⟩
      have E2 := Lib.hid (E1.out.trans (hb2.mono E1.out.size))
      have KA := Lib.hid (alive61 w2)
      have HC : (v2 = v ∧ ok = true ∧ er = 0) ∨ (v2 = v ∧ ok = false ∧ er = 22) := by
        by_cases g : GdP a b n m
        · left
          obtain ⟨q1, q2⟩ := HY.out g
          obtain ⟨q3, q4⟩ := hy g
          exact ⟨by rw [q1, q3], q4, q2⟩
        · right
          obtain ⟨q1, q2⟩ := HN.out g
          obtain ⟨q3, q4⟩ := hno g
          exact ⟨by rw [q1, q3], q4, q2⟩
      clear hb2 hy hno HY HN E1 KD1
      rcases HC with ⟨rfl, rfl, rfl⟩ | ⟨rfl, rfl, rfl⟩
      · go_wp2_with fail
        refine KA.out.mono ?_
        rintro e w3 ⟨rfl, hb⟩
        go_wp2_with fail
        go_ret
        exact ⟨rfl, E2.out.trans (hb.mono E2.out.size)⟩
      · go_wp2_with fail
        refine KA.out.mono ?_
        rintro e w3 ⟨rfl, hb⟩
        go_wp2_with fail
        go_ret
        exact ⟨rfl, E2.out.trans (hb.mono E2.out.size)⟩

end Go.Proofs.Ytloplambpfjioaa.parkCosts
