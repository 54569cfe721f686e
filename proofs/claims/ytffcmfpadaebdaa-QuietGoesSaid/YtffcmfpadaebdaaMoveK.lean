/- The example of layer 40; floors that a car passes lie within. -/
import Derived.Test.YtffcmfpadaebdaaFaceB
import Derived.Test.YtffcmfpadaebdaaCarM
import Derived.Test.YtffcmfpadaebdaaWantM
import Derived.Test.YtffcmfpadaebdaaRows
import Derived.Test.YtffcmfpadaebdaaKitM
import Derived.Test.YtffcmfpadaebdaaBitM
import Derived.Laws.AppendOwnNone
import Derived.WalkKit
import Derived.OwnWalk
import Derived.Laws.MakeOwn
import Derived.Laws.OwnMore
import Derived.Deep.LoopGhost
import Derived.IntWalk
import Derived.Lib.Hide
import Derived.WalkSpells
import Derived.WalkLawsBesides
import Derived.Laws.CopyOwn
import Derived.Deep.QuietTactic
import Derived.Deep.RegionHeld3
import Derived.BigQuiet
import Derived.BigRegion
import Derived.Test.YtffcmfpadaebdaaMoveB
import Derived.Test.YtffcmfpadaebdaaFaceC
import Derived.Test.YtffcmfpadaebdaaFaceD
import Derived.Test.YtffcmfpadaebdaaNearH
import Derived.Test.YtffcmfpadaebdaaPlaceA
import Derived.Test.YtffcmfpadaebdaaMoveMath
import Derived.Test.YtffcmfpadaebdaaMoveC
import Derived.Maps.AppendAt
import Derived.Test.YtffcmfpadaebdaaMoveF
import Derived.Test.YtffcmfpadaebdaaMoveG
import Derived.Test.YtffcmfpadaebdaaMoveH
import Derived.Test.YtffcmfpadaebdaaMoveE
import Derived.Test.YtffcmfpadaebdaaMoveDgo
import Derived.Test.YtffcmfpadaebdaaFaceE
namespace Go.Proofs.Ytffcmfpadaebdaa
open Go.RowKit
set_option linter.unusedSimpArgs false
set_option linter.unusedVariables false
theorem rdF_in {z : Nat → Nat → Int} {n j : Nat} (h : rdF z n j = true) : ∃ i, i < n ∧ z i 1 = j := by
  induction n with
  | zero => simp [rdF] at h
  | succ n ih =>
    have h' : (rdF z n j || ((j : Int) == z n 1)) = true := h
    rw [Bool.or_eq_true] at h'
    rcases h' with h2 | h2
    · obtain ⟨i, hi, he⟩ := ih h2
      exact ⟨i, by omega, he⟩
    · exact ⟨n, by omega, (eq_of_beq h2).symm⟩
theorem wa_in {s : Nat → Int} {p d md le : Int} {n : Nat} {z : Nat → Nat → Int} {U D : Nat → Bool} (B : InBld s p d md le n z U D) (cap : Int) {j : Nat} (hj : j < 128) (h : waF z n cap U D j = true) : (j : Int) < s 0 := by
  unfold waF laF at h
  simp only [Bool.or_eq_true] at h
  rcases h with h | h
  · obtain ⟨i, hi, he⟩ := rdF_in h
    have := B.to i hi
    omega
  · split at h
    · cases h
    · rw [Bool.or_eq_true] at h
      rcases h with h | h
      · exact B.u j hj h
      · exact B.dn j hj h
theorem pass_in {s : Nat → Int} {p d md le : Int} {n : Nat} {z : Nat → Nat → Int} {U D : Nat → Bool} (B : InBld s p d md le n z U D) (cap : Int) (hd : d = 1 ∨ d = -1) (f : Int) (f0 : 0 ≤ f) (f1 : f ≤ s 0 - 1)
    (h : passB (rdF z n) (waF z n cap U D) (laF n cap U) (laF n cap D) d f = true) : 0 ≤ f + d ∧ f + d ≤ s 0 - 1 := by
  obtain ⟨j, hj, hb⟩ := (neF_iff _).1 (pass_on hd h)
  unfold byF at hb
  rcases hd with rfl | rfl
  · simp only [Int.reduceLT, if_true, Bool.and_eq_true, decide_eq_true_eq] at hb
    have := wa_in B cap hj hb.1
    omega
  · simp only [Int.reduceLT, Int.reduceNeg, if_true, if_false, Bool.and_eq_true, decide_eq_true_eq] at hb
    omega
def exS : Nat → Int := fun j => if j = 0 then 3 else if j = 1 then 2 else if j = 10 then 9 else 1
set_option maxRecDepth 100000 in
set_option maxHeartbeats 1000000 in
theorem malive (w : World) : Calls Try.prog 11 #[] w fun e w' => e = .returned (.bool true) ∧ Below w.heap.size w w' := by
  have ST := fun SA w => mstep_go exS SA 1 1 3 (-1) 1 0 false none 0 0 z00 (fun _ => false) (fun _ => false) 1 1 w (fun i hi => absurd hi (by omega)) (by omega) (by decide) (by omega) (by omega) (by omega) (by decide) (by decide) (by omega) (by omega) (by decide) (by omega)
  rw [set_none] at ST
  unfold scnV carV at ST
  simp only [show exS 0 = 3 from rfl, show exS 1 = 2 from rfl, show exS 2 = 1 from rfl, show exS 3 = 1 from rfl, show exS 4 = 1 from rfl, show exS 5 = 1 from rfl, show exS 6 = 1 from rfl, show exS 7 = 1 from rfl, show exS 9 = 1 from rfl, show exS 10 = 9 from rfl, show exS 11 = 1 from rfl, show exS 12 = 1 from rfl, show (3 : Int) + -1 = 2 from rfl] at ST
  have STh := Lib.hid ST
  clear ST
  go_enter Try.func11, Try.ntmps11
  go_wp2_with fail
  refine (STh.out _ _).mono ?_
  rintro e v1 ⟨A', c', rfl, _, _, hb⟩
  have E1 := Lib.hid (((Below.refl w.heap.size w).alloc (Nat.le_refl _) _).trans (hb.mono (by simp)))
  clear hb
  go_wp2_with fail
  go_ret
  exact ⟨rfl, E1.out.alloc E1.out.size _⟩
end Go.Proofs.Ytffcmfpadaebdaa
