/- The walk of ParkLeast: it answers true for every input, and leaves all old blocks as they were. No condition. -/
import Derived.Test.YtloplambpfjioaaRows
import Derived.Test.YtloplambpfjioaaRowKit
import Derived.Test.YtloplambpfjioaaRowS
import Derived.Test.YtloplambpfjioaaRowZ
import Derived.Test.YtloplambpfjioaaSlicesEq
import Derived.Test.YtloplambpfjioaaBlocks
import Derived.Test.YtloplambpfjioaaAtKit
import Derived.Test.YtloplambpfjioaaParkK
import Derived.WalkKit
import Derived.ProofKit
import Derived.OpenShut
import Derived.Deep.QuietTactic
import Derived.BigQuiet
import Derived.Lib.SmallJoins
import Derived.Lib.Hide
import Derived.WalkSpells
import Derived.WalkLawsBesides
import Derived.OwnWalk
import Derived.BigRegion
import Derived.Deep.LoopGhost
import Derived.Deep.RegionHeld3
import Derived.IntWalk
namespace Go.Proofs.Ytloplambpfjioaa.parkLeast
open Go.ChangeShapes Go.WideShapes Go.ChangeAt Go.RowKit Go.Joins
set_option linter.unusedSimpArgs false
set_option linter.unusedVariables false

set_option maxRecDepth 100000 in
set_option maxHeartbeats 20000000 in
theorem walk {A : Option Addr} {ca : Nat} {a : List Int} {k : Int} {w : World} (h1 : a.length ≤ ca) (h2 : ca ≤ maxLen) (hra : RdI w .i64 A a) (wk : (Lit.int .i64 k).wf = true) :
    Calls Try.prog 4 #[.slice A a.length ca, .int .i64 k] w fun e w' => e = .returned (.bool true) ∧ Below w.heap.size w w' := by
  obtain ⟨n, hn⟩ : ∃ n, a.length = n := ⟨_, rfl⟩
  rw [hn]
  have hM : maxLen ≤ 9223372036854775807 := by decide
  have KR := Lib.hid (fun (W : World) (hb : Below w.heap.size w W) => drightP_any A ca n a W hn (by omega) (hra.kept hb))
  have KB := Lib.hid (best_any A ca n a k w hn (by omega) h2 hra)
  have KL := Lib.hid (fun (W : World) (hb : Below w.heap.size w W) (hq : RgP a n) (h9 : n ≤ 9) => dleast_any A ca n a k W hn h9 hq (hra.kept hb))
  clear hra h1 h2 hM hn
  go_enter Try.func4, Try.ntmps4
  go_wp2_with fail
  refine KB.out.mono ?_
  rintro e w2 ⟨hb, h⟩
  have E2 := Lib.hid hb
  have KR2 := Lib.hid (KR.out w2 hb)
  clear KR hb
  rcases h with ⟨hq, hk, P, c, fs, v, rfl, hr, hf, hopt⟩ | ⟨hno, rfl⟩
  · have HQ := Lib.hid hq
    have HB := Lib.hid (bsL_best hq hopt)
    have hk1 : ¬ k < 1 := by omega
    have KL2 := Lib.hid (fun h9 => KL.out w2 E2.out hq h9)
    clear hr hf hopt hq hk KL KB
    go_wp2_with fail
    refine KR2.out.mono ?_
    rintro e w3 ⟨b, rfl, hb, rfl⟩
    obtain rfl := hb.2 HQ.out
    clear hb KR2
    by_cases h9 : n ≤ 9
    · have hi : ¬ 9 < (n : Int) := by omega
      have KL3 := Lib.hid (KL2.out h9)
      rw [HB.out] at KL3
      go_wp2_with fail
      refine KL3.out.mono ?_
      rintro e w4 ⟨rfl, hb⟩
      have E4 := Lib.hid (E2.out.trans (hb.mono E2.out.size))
      have KA := Lib.hid (alive61 w4)
      clear hb
      go_wp2_with fail
      refine KA.out.mono ?_
      rintro e w5 ⟨rfl, hb⟩
      go_wp2_with fail
      go_ret
      exact ⟨rfl, E4.out.trans (hb.mono E4.out.size)⟩
    · have hi : 9 < (n : Int) := by omega
      have KA := Lib.hid (alive61 w2)
      go_wp2_with fail
      refine KA.out.mono ?_
      rintro e w5 ⟨rfl, hb⟩
      go_wp2_with fail
      go_ret
      exact ⟨rfl, E2.out.trans (hb.mono E2.out.size)⟩
  · have HNO := Lib.hid hno
    have KA := Lib.hid (alive61 w2)
    clear hno KB KL
    go_wp2_with fail
    refine KR2.out.mono ?_
    rintro e w3 ⟨b, rfl, hb, rfl⟩
    have HBB := Lib.hid hb
    clear hb KR2
    cases b with
    | false =>
      go_wp2_with fail
      refine KA.out.mono ?_
      rintro e w5 ⟨rfl, hb⟩
      go_wp2_with fail
      go_ret
      exact ⟨rfl, E2.out.trans (hb.mono E2.out.size)⟩
    | true =>
      have hk1 : k < 1 := by
        by_cases h : k < 1
        · exact h
        · exact absurd ⟨HBB.out.1 rfl, by omega⟩ HNO.out
      go_wp2_with fail
      refine KA.out.mono ?_
      rintro e w5 ⟨rfl, hb⟩
      go_wp2_with fail
      go_ret
      exact ⟨rfl, E2.out.trans (hb.mono E2.out.size)⟩

end Go.Proofs.Ytloplambpfjioaa.parkLeast
