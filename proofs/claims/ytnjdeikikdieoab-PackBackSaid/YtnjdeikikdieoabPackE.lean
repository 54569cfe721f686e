/- The walk of PackPuts. -/
import Derived.Test.YtnjdeikikdieoabRows
import Derived.Test.YtnjdeikikdieoabRowKit
import Derived.Test.YtnjdeikikdieoabShelf
import Derived.Test.YtnjdeikikdieoabSlicesEq
import Derived.Test.YtnjdeikikdieoabRowL
import Derived.Test.YtnjdeikikdieoabPackA
import Derived.Test.YtnjdeikikdieoabPackB
import Derived.Test.YtnjdeikikdieoabPackC
import Derived.Test.YtnjdeikikdieoabBlocks
import Derived.Test.YtnjdeikikdieoabPackD
import Derived.Lib.AppendStr
import Derived.WalkKit
import Derived.IntWalk
import Derived.Lib.Hide
import Derived.Lib.BitFns
import Derived.WalkSpells
import Derived.WalkLawsBesides
import Derived.Laws.IdiomStrings
import Derived.Laws.CopyOwn
import Derived.Laws.MakeOwn
import Derived.Laws.OwnMore
import Derived.Deep.Onto
import Derived.Deep.WholeRow
import Derived.Deep.QuietTactic
import Derived.BigQuiet
namespace Go.Proofs.Ytnjdeikikdieoab
open Go.RowKit Go.Sort
set_option linter.unusedSimpArgs false
set_option linter.unusedVariables false
theorem rd_cells {w : World} {a : Addr} {zs : List Int} (h : RdI w .u8 (some a) zs) : ∀ j u, (zs.map (Value.int .u8))[j]? = some u → w.cell? (a.add j) = some u := by
  intro j u hu
  rw [List.getElem?_map] at hu
  have hj : j < zs.length := by
    rcases Nat.lt_or_ge j zs.length with h | h
    · exact h
    · rw [List.getElem?_eq_none h] at hu; cases hu
  obtain ⟨a', e, hlt, hc, _⟩ := h j hj
  cases e
  rw [hc]
  rw [List.getElem?_eq_getElem hj] at hu
  unfold zat
  rw [List.getD_eq_getElem?_getD, List.getElem?_eq_getElem hj]
  simpa using hu
theorem rd_in {w : World} {A : Option Addr} {zs : List Int} (h : RdI w .u8 A zs) : ∀ z, z ∈ zs → 0 ≤ z ∧ z < 256 := by
  intro z hz
  obtain ⟨i, hi, rfl⟩ := List.getElem_of_mem hz
  obtain ⟨_, _, _, _, hw⟩ := h i hi
  have e : zat zs i = zs[i] := by unfold zat; rw [List.getD_eq_getElem?_getD, List.getElem?_eq_getElem hi]; rfl
  rw [e] at hw
  have e1 : IntKind.u8.min = 0 := by decide
  have e2 : IntKind.u8.max = 255 := by decide
  have hw' : (decide (IntKind.u8.min ≤ zs[i]) && decide (zs[i] ≤ IntKind.u8.max)) = true := hw
  rw [e1, e2] at hw'
  simp at hw'
  omega
theorem in_app {ys zs : List Int} (h : ∀ z, z ∈ ys → 0 ≤ z ∧ z < 256) (h' : ∀ z, z ∈ zs → 0 ≤ z ∧ z < 256) : ∀ z, z ∈ ys ++ zs → 0 ≤ z ∧ z < 256 := by
  intro z hz
  rcases List.mem_append.1 hz with q | q
  · exact h z q
  · exact h' z q
theorem strI_in (s : ByteArray) : ∀ z, z ∈ strI s → 0 ≤ z ∧ z < 256 := by
  intro z hz
  unfold strI at hz
  obtain ⟨b, _, rfl⟩ := List.mem_map.1 hz
  have := b.toNat_lt
  omega
end Go.Proofs.Ytnjdeikikdieoab
