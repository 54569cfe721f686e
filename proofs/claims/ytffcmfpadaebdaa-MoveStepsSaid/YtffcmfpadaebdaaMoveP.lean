/- A tick leads no farther than a place, and stays within. -/
import Derived.Test.YtffcmfpadaebdaaFaceB
import Derived.Test.YtffcmfpadaebdaaCarM
import Derived.Test.YtffcmfpadaebdaaWantM
import Derived.Test.YtffcmfpadaebdaaRows
import Derived.Test.YtffcmfpadaebdaaKitM
import Derived.Test.YtffcmfpadaebdaaBitM
import Derived.Laws.AppendOwnNone
import Derived.WalkKit
import Derived.OwnWalk
import Derived.Laws.MakeOwn
import Derived.Laws.OwnMore
import Derived.Deep.LoopGhost
import Derived.IntWalk
import Derived.Lib.Hide
import Derived.WalkSpells
import Derived.WalkLawsBesides
import Derived.Laws.CopyOwn
import Derived.Deep.QuietTactic
import Derived.Deep.RegionHeld3
import Derived.BigQuiet
import Derived.BigRegion
import Derived.Test.YtffcmfpadaebdaaMoveB
import Derived.Test.YtffcmfpadaebdaaFaceC
import Derived.Test.YtffcmfpadaebdaaFaceD
import Derived.Test.YtffcmfpadaebdaaNearH
import Derived.Test.YtffcmfpadaebdaaPlaceA
import Derived.Test.YtffcmfpadaebdaaMoveMath
import Derived.Test.YtffcmfpadaebdaaMoveC
import Derived.Maps.AppendAt
import Derived.Test.YtffcmfpadaebdaaMoveK
import Derived.Test.YtffcmfpadaebdaaMoveL
namespace Go.Proofs.Ytffcmfpadaebdaa
open Go.RowKit
set_option linter.unusedSimpArgs false
set_option linter.unusedVariables false
theorem step_beyond {R W U D : Nat → Bool} {f d : Int} (hd : d = 0 ∨ d = 1 ∨ d = -1) (hs : stopB R W U D f d = false) (h0 : ofWay W U D f d ≠ 0) : (ofWay W U D f d = 1 ∨ ofWay W U D f d = -1) ∧ neF (byF W f (ofWay W U D f d)) = true := by
  have o1 : othF 1 = -1 := rfl
  have o2 : othF (-1) = 1 := rfl
  unfold stopB at hs
  unfold ofWay bgF at *
  rcases hd with rfl | rfl | rfl
  all_goals simp only [o1, o2] at hs h0 ⊢
  all_goals (
    cases hr : hasF R f <;> cases hu : callF U D f 1 <;> cases hdd : callF U D f (-1) <;> cases hy1 : neF (byF W f 1) <;> cases hy2 : neF (byF W f (-1)) <;> simp_all)
theorem way_ok {s : Nat → Int} {p d md le : Int} {n : Nat} {z : Nat → Nat → Int} {U D : Nat → Bool} (B : InBld s p d md le n z U D) (cap : Int) {q r : Int} (r0 : 0 ≤ r) (r1 : r < s 1) (e : p = q * s 1 + r) (hf : r = 0 ∨ (md = 1 ∧ d ≠ 0)) (op : Int) :
    (0 ≤ stp r (stopB (rdF z n) (waF z n cap U D) (laF n cap U) (laF n cap D) q d) (ofWay (waF z n cap U D) (laF n cap U) (laF n cap D) q d) p d md le op 0 ∧ stp r (stopB (rdF z n) (waF z n cap U D) (laF n cap U) (laF n cap D) q d) (ofWay (waF z n cap U D) (laF n cap U) (laF n cap D) q d) p d md le op 0 ≤ (s 0 - 1) * s 1) ∧
    (stp r (stopB (rdF z n) (waF z n cap U D) (laF n cap U) (laF n cap D) q d) (ofWay (waF z n cap U D) (laF n cap U) (laF n cap D) q d) p d md le op 0 = p ∨
     ∃ o, (o = 1 ∨ o = -1) ∧ stp r (stopB (rdF z n) (waF z n cap U D) (laF n cap U) (laF n cap D) q d) (ofWay (waF z n cap U D) (laF n cap U) (laF n cap D) q d) p d md le op 0 = p + o ∧ stp r (stopB (rdF z n) (waF z n cap U D) (laF n cap U) (laF n cap D) q d) (ofWay (waF z n cap U D) (laF n cap U) (laF n cap D) q d) p d md le op 1 = o ∧ stp r (stopB (rdF z n) (waF z n cap U D) (laF n cap U) (laF n cap D) q d) (ofWay (waF z n cap U D) (laF n cap U) (laF n cap D) q d) p d md le op 2 = 1) := by
  obtain ⟨p0, p1, d0, d1, _, _, _, _, _⟩ := B.car
  have hg := B.s10
  by_cases hr : r = 0
  · have SB := fun hs h0 => step_beyond (R := rdF z n) (W := waF z n cap U D) (U := laF n cap U) (D := laF n cap D) (f := q) (d := d) (by omega) hs h0
    have NI := nx_in (d := d) hg r0 r1 e p0 p1
    have WI := fun j hj h => wa_in B cap (j := j) hj h
    cases hst : stopB (rdF z n) (waF z n cap U D) (laF n cap U) (laF n cap D) q d
    · by_cases ho : ofWay (waF z n cap U D) (laF n cap U) (laF n cap D) q d = 0
      · rw [ho]
        simp only [stp, hr, if_true, if_false, Bool.false_eq_true, Int.add_zero]
        exact ⟨⟨p0, p1⟩, .inl trivial⟩
      · obtain ⟨h1, h2⟩ := SB hst ho
        obtain ⟨o, hoo⟩ : ∃ o, ofWay (waF z n cap U D) (laF n cap U) (laF n cap D) q d = o := ⟨_, rfl⟩
        rw [hoo] at h1 h2 ho ⊢
        obtain ⟨j, hj, hb⟩ := (neF_iff _).1 h2
        have hpq : p = q * s 1 := by omega
        have key : 0 ≤ p + o ∧ p + o ≤ (s 0 - 1) * s 1 := by
          unfold byF at hb
          rcases h1 with rfl | rfl
          · simp only [Int.reduceLT, if_true, Bool.and_eq_true, decide_eq_true_eq] at hb
            have h3 := WI j hj hb.1
            have h4 := floor_in (m := q + 1) (s0 := s 0) hg (by omega) (by omega)
            rw [Int.add_mul] at h4
            omega
          · simp only [Int.reduceLT, Int.reduceNeg, if_true, if_false, Bool.and_eq_true, decide_eq_true_eq] at hb
            have h4 := floor_in (m := q - 1) (s0 := s 0) hg (by omega) (by omega)
            rw [Int.sub_mul] at h4
            omega
        simp only [stp, hr, ho, if_true, if_false, Bool.false_eq_true]
        exact ⟨key, .inr ⟨o, h1, rfl, rfl, by first | rfl | trivial⟩⟩
    · simp only [stp, hr, if_true]
      exact ⟨⟨p0, p1⟩, .inl trivial⟩
  · obtain ⟨hm, hd⟩ : md = 1 ∧ d ≠ 0 := by rcases hf with h | h; exact absurd h hr; exact h
    have hd1 : d = 1 ∨ d = -1 := by omega
    have NI := nx_in (d := d) hg r0 r1 e p0 p1
    have FI := floor_in hg NI.2.1 NI.2.2
    have NP := nx_place (g := s 1) (r := r) (q := q) hd1 e
    rw [← NP] at FI
    have NT : 1 ≤ nxT (s 1) r d := by unfold nxT; rw [if_neg hr]; split <;> omega
    simp only [stp, hr, if_false]
    refine ⟨?_, .inr ⟨d, hd1, rfl, rfl, hm⟩⟩
    rcases hd1 with rfl | rfl <;> omega
end Go.Proofs.Ytffcmfpadaebdaa
