/- A tick of a car whose door is closed. -/
import Derived.Test.YtffcmfpadaebdaaFaceB
import Derived.Test.YtffcmfpadaebdaaCarM
import Derived.Test.YtffcmfpadaebdaaWantM
import Derived.Test.YtffcmfpadaebdaaRows
import Derived.Test.YtffcmfpadaebdaaKitM
import Derived.Test.YtffcmfpadaebdaaBitM
import Derived.Laws.AppendOwnNone
import Derived.WalkKit
import Derived.OwnWalk
import Derived.Laws.MakeOwn
import Derived.Laws.OwnMore
import Derived.Deep.LoopGhost
import Derived.IntWalk
import Derived.Lib.Hide
import Derived.WalkSpells
import Derived.WalkLawsBesides
import Derived.Laws.CopyOwn
import Derived.Deep.QuietTactic
import Derived.Deep.RegionHeld3
import Derived.BigQuiet
import Derived.BigRegion
import Derived.Test.YtffcmfpadaebdaaMoveB
import Derived.Test.YtffcmfpadaebdaaFaceC
import Derived.Test.YtffcmfpadaebdaaFaceD
import Derived.Test.YtffcmfpadaebdaaNearH
import Derived.Test.YtffcmfpadaebdaaPlaceA
import Derived.Test.YtffcmfpadaebdaaMoveMath
import Derived.Test.YtffcmfpadaebdaaMoveC
import Derived.Maps.AppendAt
import Derived.Test.YtffcmfpadaebdaaMoveD
import Derived.Test.YtffcmfpadaebdaaMoveDgo
import Derived.Test.YtffcmfpadaebdaaMoveDstop
import Derived.Test.YtffcmfpadaebdaaMoveDidle
import Derived.Test.YtffcmfpadaebdaaMoveDon
import Derived.Test.YtffcmfpadaebdaaMoveEgo
import Derived.Test.YtffcmfpadaebdaaMoveEstop
import Derived.Test.YtffcmfpadaebdaaMoveEidle
import Derived.Test.YtffcmfpadaebdaaMoveEon1
import Derived.Test.YtffcmfpadaebdaaMoveEonm
namespace Go.Proofs.Ytffcmfpadaebdaa
open Go.RowKit
set_option linter.unusedSimpArgs false
set_option linter.unusedVariables false
theorem mstep_any (s : Nat → Int) (SA : Option Addr) (sn sc : Nat) (p d md le : Int) (wa : Bool) (A : Option Addr) (n c : Nat) (z : Nat → Nat → Int) (U D : Nat → Bool) (q r : Int) (w : World) (hr : RdZ w 2 A n z) (hl : n ≤ 1000) (hg : 1 ≤ s 1) (hp : 0 ≤ p) (hp' : p ≤ 1048576) (r0 : 0 ≤ r) (r1 : r < s 1) (e : p = q * s 1 + r) (d0 : -1 ≤ d) (d1 : d ≤ 1) (g1 : s 1 ≤ 1048576) :
    Calls Try.prog 8 #[scnV s SA sn sc, carV p d md le wa A n c, setV U, setV D] w fun e w' => ∃ A' c', e = .returned (carV (stp r (stopB (rdF z n) (waF z n (s 3) U D) (laF n (s 3) U) (laF n (s 3) D) q d) (ofWay (waF z n (s 3) U D) (laF n (s 3) U) (laF n (s 3) D) q d) p d md le (s 4) 0) (stp r (stopB (rdF z n) (waF z n (s 3) U D) (laF n (s 3) U) (laF n (s 3) D) q d) (ofWay (waF z n (s 3) U D) (laF n (s 3) U) (laF n (s 3) D) q d) p d md le (s 4) 1) (stp r (stopB (rdF z n) (waF z n (s 3) U D) (laF n (s 3) U) (laF n (s 3) D) q d) (ofWay (waF z n (s 3) U D) (laF n (s 3) U) (laF n (s 3) D) q d) p d md le (s 4) 2) (stp r (stopB (rdF z n) (waF z n (s 3) U D) (laF n (s 3) U) (laF n (s 3) D) q d) (ofWay (waF z n (s 3) U D) (laF n (s 3) U) (laF n (s 3) D) q d) p d md le (s 4) 3) wa A' n c') ∧ RdZ w' 2 A' n z ∧ (n ≤ c' ∧ c' ≤ maxLen) ∧ Below w.heap.size w w' := by
  by_cases h : r = 0
  · cases hs : stopB (rdF z n) (waF z n (s 3) U D) (laF n (s 3) U) (laF n (s 3) D) q d
    · by_cases ho : ofWay (waF z n (s 3) U D) (laF n (s 3) U) (laF n (s 3) D) q d = 0
      · have h1 := mstep_idle s SA sn sc p d md le wa A n c z U D q r w hr hl hg hp hp' r0 r1 e d0 d1 g1 h hs ho
        simp only [stp, h, ho, if_true, if_false, Int.add_zero, Bool.false_eq_true] at h1 ⊢
        exact h1
      · have h1 := mstep_on s SA sn sc p d md le wa A n c z U D q r w hr hl hg hp hp' r0 r1 e d0 d1 g1 h hs ho
        simp only [stp, h, ho, if_true, if_false, Bool.false_eq_true] at h1 ⊢
        exact h1
    · have h1 := mstep_stop s SA sn sc p d md le wa A n c z U D q r w hr hl hg hp hp' r0 r1 e d0 d1 g1 h hs
      simp only [stp, h, if_true, if_false] at h1 ⊢
      exact h1
  · have h1 := mstep_go s SA sn sc p d md le wa A n c z U D q r w hr hl hg hp hp' r0 r1 e d0 d1 g1 h
    simp only [stp, h, if_false] at h1 ⊢
    exact h1
theorem rstep_any (s : Nat → Int) (SA : Option Addr) (sn sc : Nat) (p d md le : Int) (wa : Bool) (A : Option Addr) (n c : Nat) (z : Nat → Nat → Int) (U D : Nat → Bool) (q r : Int) (w : World) (hr : RdZ w 2 A n z) (hl : n ≤ 1000) (hg : 1 ≤ s 1) (hp : 0 ≤ p) (hp' : p ≤ 1048576) (r0 : 0 ≤ r) (r1 : r < s 1) (e : p = q * s 1 + r) (d0 : -1 ≤ d) (d1 : d ≤ 1) (g1 : s 1 ≤ 1048576) :
    Calls Try.prog 10 #[scnV s SA sn sc, carV p d md le wa A n c, setV U, setV D] w fun e w' => e = .returned (carV (stp r (stopB (rdF z n) (waF z n (s 3) U D) (laF n (s 3) U) (laF n (s 3) D) q d) (ofWay (waF z n (s 3) U D) (laF n (s 3) U) (laF n (s 3) D) q d) p d md le (s 4) 0) (stp r (stopB (rdF z n) (waF z n (s 3) U D) (laF n (s 3) U) (laF n (s 3) D) q d) (ofWay (waF z n (s 3) U D) (laF n (s 3) U) (laF n (s 3) D) q d) p d md le (s 4) 1) (stp r (stopB (rdF z n) (waF z n (s 3) U D) (laF n (s 3) U) (laF n (s 3) D) q d) (ofWay (waF z n (s 3) U D) (laF n (s 3) U) (laF n (s 3) D) q d) p d md le (s 4) 2) (stp r (stopB (rdF z n) (waF z n (s 3) U D) (laF n (s 3) U) (laF n (s 3) D) q d) (ofWay (waF z n (s 3) U D) (laF n (s 3) U) (laF n (s 3) D) q d) p d md le (s 4) 3) wa A n c) ∧ Below w.heap.size w w' := by
  by_cases h : r = 0
  · cases hs : stopB (rdF z n) (waF z n (s 3) U D) (laF n (s 3) U) (laF n (s 3) D) q d
    · by_cases ho : ofWay (waF z n (s 3) U D) (laF n (s 3) U) (laF n (s 3) D) q d = 0
      · have h1 := rstep_idle s SA sn sc p d md le wa A n c z U D q r w hr hl hg hp hp' r0 r1 e d0 d1 g1 h hs ho
        simp only [stp, h, ho, if_true, if_false, Int.add_zero, Bool.false_eq_true] at h1 ⊢
        exact h1
      · have h1 : Calls Try.prog 10 #[scnV s SA sn sc, carV p d md le wa A n c, setV U, setV D] w fun e w' => e = .returned (carV (p + ofWay (waF z n (s 3) U D) (laF n (s 3) U) (laF n (s 3) D) q d) (ofWay (waF z n (s 3) U D) (laF n (s 3) U) (laF n (s 3) D) q d) 1 le wa A n c) ∧ Below w.heap.size w w' := by
          have bd := ofWay_bd (waF z n (s 3) U D) (laF n (s 3) U) (laF n (s 3) D) q d d0 d1
          rcases (show ofWay (waF z n (s 3) U D) (laF n (s 3) U) (laF n (s 3) D) q d = 1 ∨ ofWay (waF z n (s 3) U D) (laF n (s 3) U) (laF n (s 3) D) q d = -1 by omega) with h2 | h2
          · exact rstep_on1 s SA sn sc p d md le wa A n c z U D q r w hr hl hg hp hp' r0 r1 e d0 d1 g1 h hs h2
          · exact rstep_onm s SA sn sc p d md le wa A n c z U D q r w hr hl hg hp hp' r0 r1 e d0 d1 g1 h hs h2
        simp only [stp, h, ho, if_true, if_false, Bool.false_eq_true] at h1 ⊢
        exact h1
    · have h1 := rstep_stop s SA sn sc p d md le wa A n c z U D q r w hr hl hg hp hp' r0 r1 e d0 d1 g1 h hs
      simp only [stp, h, if_true, if_false] at h1 ⊢
      exact h1
  · have h1 := rstep_go s SA sn sc p d md le wa A n c z U D q r w hr hl hg hp hp' r0 r1 e d0 d1 g1 h
    simp only [stp, h, if_false] at h1 ⊢
    exact h1
end Go.Proofs.Ytffcmfpadaebdaa
