/- A tick of a car whose door is closed: the document's. -/
import Derived.Test.YtffcmfpadaebdaaFaceB
import Derived.Test.YtffcmfpadaebdaaCarM
import Derived.Test.YtffcmfpadaebdaaWantM
import Derived.Test.YtffcmfpadaebdaaRows
import Derived.Test.YtffcmfpadaebdaaKitM
import Derived.Test.YtffcmfpadaebdaaBitM
import Derived.Laws.AppendOwnNone
import Derived.WalkKit
import Derived.OwnWalk
import Derived.Laws.MakeOwn
import Derived.Laws.OwnMore
import Derived.Deep.LoopGhost
import Derived.IntWalk
import Derived.Lib.Hide
import Derived.WalkSpells
import Derived.WalkLawsBesides
import Derived.Laws.CopyOwn
import Derived.Deep.QuietTactic
import Derived.Deep.RegionHeld3
import Derived.BigQuiet
import Derived.BigRegion
import Derived.Test.YtffcmfpadaebdaaMoveB
import Derived.Test.YtffcmfpadaebdaaFaceC
import Derived.Test.YtffcmfpadaebdaaFaceD
import Derived.Test.YtffcmfpadaebdaaNearH
import Derived.Test.YtffcmfpadaebdaaPlaceA
import Derived.Test.YtffcmfpadaebdaaMoveMath
import Derived.Test.YtffcmfpadaebdaaMoveC
import Derived.Maps.AppendAt
import Derived.Test.YtffcmfpadaebdaaMoveD
namespace Go.Proofs.Ytffcmfpadaebdaa
open Go.RowKit
set_option linter.unusedSimpArgs false
set_option linter.unusedVariables false
set_option maxRecDepth 100000 in
set_option maxHeartbeats 2000000 in
theorem rstep_go (s : Nat → Int) (SA : Option Addr) (sn sc : Nat) (p d md le : Int) (wa : Bool) (A : Option Addr) (n c : Nat) (z : Nat → Nat → Int) (U D : Nat → Bool) (q r : Int) (w : World) (hr : RdZ w 2 A n z) (hl : n ≤ 1000) (hg : 1 ≤ s 1) (hp : 0 ≤ p) (hp' : p ≤ 1048576) (r0 : 0 ≤ r) (r1 : r < s 1) (e : p = q * s 1 + r) (d0 : -1 ≤ d) (d1 : d ≤ 1) (g1 : s 1 ≤ 1048576) (hr0 : r ≠ 0) :
    Calls Try.prog 10 #[scnV s SA sn sc, carV p d md le wa A n c, setV U, setV D] w fun e w' => e = .returned (carV (p + d) d md le wa A n c) ∧ Below w.heap.size w w' := by
  have hz : (s 1 == 0) = false := by rw [beq_eq_false_iff_ne]; omega
  obtain ⟨e1, e2⟩ := ediv_of hg r0 r1 e
  unfold scnV carV setV at *
  obtain ⟨a0, ha0⟩ : ∃ x, wordX U = x := ⟨_, rfl⟩
  obtain ⟨a1, ha1⟩ : ∃ x, wordY U = x := ⟨_, rfl⟩
  obtain ⟨b0, hb0⟩ : ∃ x, wordX D = x := ⟨_, rfl⟩
  obtain ⟨b1, hb1⟩ : ∃ x, wordY D = x := ⟨_, rfl⟩
  simp only [ha0, ha1, hb0, hb1] at ⊢
  have HRd := Lib.hid hr
  clear ha0 ha1 hb0 hb1 hr
  have hdr : decide (r = 0) = false := decide_eq_false hr0
  have hmod : (p % s 1 != 0) = true := by rw [e2, bne_iff_ne]; exact hr0
  have E1 := Lib.hid e1; have E2 := Lib.hid e2
  clear e
  go_enter Try.func10, Try.ntmps10
  go_wp2_with fail
  all_goals refine bodyPost_ret (v := .agg #[.int .i64 (p + d), .int .i64 d, .int .i64 md, .int .i64 le, .bool wa, .slice A n c]) (by simp [results, Try.results10, go_sem, *]) rfl ⟨rfl, ?_⟩
  all_goals ((iterate 0 refine Below.setCell ?_ (by first | omega | (dsimp only; omega)) _); exact ((((((Below.refl w.heap.size w).alloc (Nat.le_refl _) _).alloc (by simp <;> omega) _).alloc (by simp <;> omega) _).alloc (by simp <;> omega) _).alloc (by simp <;> omega) _))
end Go.Proofs.Ytffcmfpadaebdaa
