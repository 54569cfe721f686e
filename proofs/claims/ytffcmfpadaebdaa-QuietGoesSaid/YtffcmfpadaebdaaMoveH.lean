/- May a scenario, a car in it, and what it wants, be so? The law's Fine, and the other law's fine. -/
import Derived.Test.YtffcmfpadaebdaaFaceB
import Derived.Test.YtffcmfpadaebdaaCarM
import Derived.Test.YtffcmfpadaebdaaWantM
import Derived.Test.YtffcmfpadaebdaaRows
import Derived.Test.YtffcmfpadaebdaaKitM
import Derived.Test.YtffcmfpadaebdaaBitM
import Derived.Laws.AppendOwnNone
import Derived.WalkKit
import Derived.OwnWalk
import Derived.Laws.MakeOwn
import Derived.Laws.OwnMore
import Derived.Deep.LoopGhost
import Derived.IntWalk
import Derived.Lib.Hide
import Derived.WalkSpells
import Derived.WalkLawsBesides
import Derived.Laws.CopyOwn
import Derived.Deep.QuietTactic
import Derived.Deep.RegionHeld3
import Derived.BigQuiet
import Derived.BigRegion
import Derived.Test.YtffcmfpadaebdaaMoveB
import Derived.Test.YtffcmfpadaebdaaFaceC
import Derived.Test.YtffcmfpadaebdaaFaceD
import Derived.Test.YtffcmfpadaebdaaNearH
import Derived.Test.YtffcmfpadaebdaaPlaceA
import Derived.Test.YtffcmfpadaebdaaMoveMath
import Derived.Test.YtffcmfpadaebdaaMoveC
import Derived.Maps.AppendAt
import Derived.Test.YtffcmfpadaebdaaMoveF
import Derived.Test.YtffcmfpadaebdaaStops
import Derived.Test.YtffcmfpadaebdaaVetA
import Derived.Test.YtffcmfpadaebdaaVetB
namespace Go.Proofs.Ytffcmfpadaebdaa
open Go.RowKit
set_option linter.unusedSimpArgs false
set_option linter.unusedVariables false
theorem rdV_one {w : World} {g : Nat} {T : TypeId} {cs : Array Value} (hB : Blk w g T cs) (h6 : cs.size = 6) (hsh : ∀ j v, cs[j]? = some v → shCar j v) : RdV w 6 shCar (some ⟨g, 0, none⟩) 1 (fun _ j => (cs[j]?).getD undef) := fun i hi => by
  obtain rfl : i = 0 := by omega
  refine ⟨_, rfl, hB.lt, fun j hj => ?_⟩
  have e : cs[j]? = some (cs[j]'(by omega)) := Array.getElem?_eq_getElem (by omega)
  have ha : (⟨g, 0, none⟩ : Addr).add (0 * 6 + j) = ⟨g, j, none⟩ := by
    unfold Addr.add
    by_cases h : 0 * 6 + j = 0
    · rw [if_pos h]; simp at h; subst h; rfl
    · rw [if_neg h]; simp
  rw [ha, hB.cell j]
  refine ⟨?_, ?_⟩
  · show cs[j]? = some ((cs[j]?).getD undef); rw [e]; rfl
  · show shCar j ((cs[j]?).getD undef); rw [e]; exact hsh j _ e
theorem setV_at {F G : Nat → Bool} (h : setV F = setV G) (j : Nat) (hj : j < 128) : F j = G j := by
  unfold setV at h
  simp only [Value.agg.injEq, Array.mk.injEq, List.cons.injEq, Value.int.injEq, true_and, and_true] at h
  obtain ⟨h1, h2⟩ := h
  rw [← mem_word F j hj, ← mem_word G j hj, Int.ofNat_inj.1 h1, Int.ofNat_inj.1 h2]
theorem cut_in {F : Nat → Bool} {s0 : Int} (h : setV (cutF F 0 s0) = setV F) (j : Nat) (hj : j < 128) (hF : F j = true) : (j : Int) < s0 := by
  have h1 := setV_at h j hj
  rw [hF] at h1
  unfold cutF at h1
  simp at h1
  exact h1.2
/-- a scenario that may be, a car within its building, and riders and calls to floors of it -/
structure InBld (s : Nat → Int) (p d md le : Int) (n : Nat) (z : Nat → Nat → Int) (U D : Nat → Bool) : Prop where
  car : InCar ((s 0 - 1) * s 1) p d md le n
  s00 : 2 ≤ s 0
  s01 : s 0 ≤ 128
  s10 : 1 ≤ s 1
  s11 : s 1 ≤ 16
  u : ∀ j : Nat, j < 128 → U j = true → (j : Int) < s 0
  dn : ∀ j : Nat, j < 128 → D j = true → (j : Int) < s 0
  to : ∀ i, i < n → 0 ≤ z i 1 ∧ z i 1 < s 0
def FineR (Q : Prop) (w : World) (e : Ending) (w' : World) : Prop := ∃ b, e = .returned (.bool b) ∧ Below w.heap.size w w' ∧ (b = true → Q)
theorem fine_no {Q : Prop} {w w' : World} (hb : Below w.heap.size w w') : FineR Q w (.returned (.bool false)) w' := ⟨false, rfl, hb, fun h => by cases h⟩
theorem rd_two {w : World} {g : Nat} {T : TypeId} {a0 a1 b0 b1 : Nat} (h : Blk w g T #[.int .u64 a0, .int .u64 a1, .int .u64 b0, .int .u64 b1]) (h0 : a0 < 18446744073709551616) (h1 : a1 < 18446744073709551616) (h2 : b0 < 18446744073709551616) (h3 : b1 < 18446744073709551616) :
    RdK w .u64 2 (some ⟨g, 0, none⟩) 2 (fun i j => if i = 0 then (if j = 0 then (a0 : Int) else a1) else (if j = 0 then (b0 : Int) else b1)) := by
  intro i hi
  refine ⟨_, rfl, h.lt, fun j hj => ?_⟩
  have wf : ∀ x : Nat, x < 18446744073709551616 → (Lit.int .u64 (x : Int)).wf = true := fun x hx => by simp [Lit.wf, IntKind.min, IntKind.max, IntKind.signed, IntKind.bits]; omega
  rcases (show (i = 0 ∨ i = 1) ∧ (j = 0 ∨ j = 1) by omega) with ⟨rfl | rfl, rfl | rfl⟩
  · exact ⟨h.cell 0, wf a0 h0⟩
  · exact ⟨h.cell 1, wf a1 h1⟩
  · exact ⟨h.cell 2, wf b0 h2⟩
  · exact ⟨h.cell 3, wf b1 h3⟩
theorem in_of_wf40 {z : Int} (h : (Lit.int .i64 z).wf = true) : -9223372036854775808 ≤ z ∧ z ≤ 9223372036854775807 := by simpa [Lit.wf, IntKind.min, IntKind.max, IntKind.signed, IntKind.bits] using h
end Go.Proofs.Ytffcmfpadaebdaa
