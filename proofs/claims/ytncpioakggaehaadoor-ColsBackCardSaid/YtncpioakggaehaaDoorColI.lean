/- Columns: rows of texts are the same; a text's bytes hold a blank or not. -/
import Derived.Test.YtncpioakggaehaaDoorRows
import Derived.Test.YtncpioakggaehaaDoorRowKit
import Derived.Test.YtncpioakggaehaaDoorShelf
import Derived.Test.YtncpioakggaehaaDoorBlocks
import Derived.Test.YtncpioakggaehaaDoorSlicesEq
import Derived.Test.YtncpioakggaehaaDoorRowT
import Derived.Test.YtncpioakggaehaaDoorDigE
import Derived.Test.YtncpioakggaehaaDoorBuA
import Derived.Test.YtncpioakggaehaaDoorColM
import Derived.Test.YtncpioakggaehaaDoorColH
import Derived.WalkKit
import Derived.IntWalk
import Derived.Lib.Hide
import Derived.WalkSpells
import Derived.WalkLawsBesides
import Derived.Laws.IdiomStrings
import Derived.Laws.OwnMore
import Derived.OwnWalk
import Derived.Deep.QuietTactic
import Derived.BigQuiet
import Derived.BigRegion
import Derived.Deep.LoopGhost
namespace Go.Proofs.YtncpioakggaehaaDoor
open Go.RowKit Go.Sort
set_option linter.unusedSimpArgs false
set_option linter.unusedVariables false
theorem eqs_any (B : Nat) (A : Option Addr) (n ca b0 : Nat) (tb : Nat → ByteArray) (V : World) (hn : n ≤ 1000) (ho : V.ownsRow b0 9 1 (.slice (some ⟨B, 0, none⟩) n n) n (((List.range n).map tb).map Value.string)) (hA : RdT V A n tb) :
    Calls Tryd.prog 11 #[.slice (some ⟨B, 0, none⟩) n n, .slice A n ca] V fun e w' => e = .returned (.bool true) ∧ ∃ q, w' = V.drewN q := by
  by_cases h0 : n = 0
  · subst h0
    refine (Tryd.slices_Equal_string_empty (some ⟨B, 0, none⟩) A 0 0 ca V (by omega)).mono ?_
    rintro e w' ⟨rfl, rfl⟩
    exact ⟨by simp, 0, rfl⟩
  · obtain ⟨ba, oa, rfl, hlt, hca⟩ := rdT_row hA (by omega)
    have hl : ((List.range n).map tb).length = n := by simp
    have hg : ∀ j, j < n → ((List.range n).map tb).getD j ByteArray.empty = tb j := fun j hj => by simp [List.getD_eq_getElem?_getD, hj]
    refine (Tryd.slices_Equal_string B 0 n n ba oa n ca ((List.range n).map tb) ((List.range n).map tb) V (by rw [hl]; exact Nat.le_refl _) (by rw [hl]; exact Nat.le_refl _) (by omega) (by omega) (fun j hj => ?_) (fun j hj => ?_)).mono ?_
    · rw [hl] at hj
      rw [hg j hj, Nat.zero_add, ho.cellAt j (by simpa using hj)]
      simp [hj]
    · rw [hl] at hj
      rw [hg j hj]
      exact hca j hj
    · rintro e w' ⟨rfl, q⟩
      exact ⟨by simp, q⟩
theorem blank_any (s : ByteArray) (X : World) (hs : s.size ≤ 60) :
    Calls Tryd.prog 10 #[.slice (some ⟨X.heap.size, 0, none⟩) s.size (grownCap X s.size 0 5), .int .u8 32] (X.drew.alloc (.cells (bytesRow s (grownCap X s.size 0 5)) 5 ((bytesRow s (grownCap X s.size 0 5)).size, (bytesRow s (grownCap X s.size 0 5)).size + 1))) fun e w' => ∃ r, e = .returned (.bool r) ∧ (r = false → ∀ x, x ∈ s.data.toList → x ≠ 32) ∧ w' = (X.drew.alloc (.cells (bytesRow s (grownCap X s.size 0 5)) 5 ((bytesRow s (grownCap X s.size 0 5)).size, (bytesRow s (grownCap X s.size 0 5)).size + 1))) := by
  refine (bcontains X.heap.size 0 (grownCap X s.size 0 5) s.size (fun j => ((s.data.toList.getD j 0).toNat : Int)) 32 _ ?_ (by omega)).mono ?_
  · intro j hj
    have h : j < s.data.size := hj
    rw [Nat.zero_add]
    have e := World.cell?_alloc_mark X.drew (bytesRow s (grownCap X s.size 0 5)) 5 ((bytesRow s (grownCap X s.size 0 5)).size, (bytesRow s (grownCap X s.size 0 5)).size + 1) j
    refine e.trans ((bytesRow_at s _ j h).trans ?_)
    simp [List.getD_eq_getElem?_getD, h]
    rw [Array.getElem?_eq_getElem h]
    rfl
  · rintro e w' ⟨r, rfl, hr, rfl⟩
    refine ⟨r, rfl, fun h x hx e => ?_, rfl⟩
    obtain ⟨j, hj, rfl⟩ := List.mem_iff_getElem.1 hx
    refine hr h j hj ?_
    show (((s.data.toList.getD j 0).toNat : Nat) : Int) = 32
    rw [List.getD_eq_getElem?_getD, List.getElem?_eq_getElem hj]
    show ((s.data.toList[j].toNat : Nat) : Int) = 32
    rw [e]; rfl
theorem below_bytes (s : ByteArray) {B : Nat} {w X : World} (h : Below B w X) (hB : B ≤ X.heap.size) : Below B w (X.drew.alloc (.cells (bytesRow s (grownCap X s.size 0 5)) 5 ((bytesRow s (grownCap X s.size 0 5)).size, (bytesRow s (grownCap X s.size 0 5)).size + 1))) := by
  have e : Below B w X.drew := by
    first
    | exact below_drewN h 1
    | exact h.drew
    | exact ⟨h.1, h.2, h.3, h.4, h.5⟩
    | exact h.trans ((Below.refl B X).drewN 1)
  exact e.alloc hB _
end Go.Proofs.YtncpioakggaehaaDoor
