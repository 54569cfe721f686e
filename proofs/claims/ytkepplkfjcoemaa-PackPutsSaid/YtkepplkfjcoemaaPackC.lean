/- Contracts of slices.Clone at bytes and of the law's example. -/
import Derived.Test.YtkepplkfjcoemaaRows
import Derived.Test.YtkepplkfjcoemaaRowKit
import Derived.Test.YtkepplkfjcoemaaShelf
import Derived.Test.YtkepplkfjcoemaaSlicesEq
import Derived.Test.YtkepplkfjcoemaaRowL
import Derived.Test.YtkepplkfjcoemaaPackA
import Derived.Test.YtkepplkfjcoemaaPackB
import Derived.WalkKit
import Derived.IntWalk
import Derived.Lib.Hide
import Derived.Lib.AppendStr
import Derived.WalkSpells
import Derived.WalkLawsBesides
import Derived.Laws.IdiomStrings
import Derived.Laws.CopyOwn
import Derived.Laws.MakeOwn
import Derived.Laws.OwnMore
import Derived.Laws.AppendOwnNone
import Derived.Lib.SliceRun
import Derived.Deep.Onto
import Derived.Deep.WholeRow
import Derived.Deep.QuietTactic
import Derived.BigQuiet
namespace Go.Proofs.Ytkepplkfjcoemaa
open Go.RowKit Go.Sort
set_option linter.unusedSimpArgs false
set_option linter.unusedVariables false
theorem owB_zero (w : World) : OwB (w.alloc (.cells #[] 5)) w.heap.size (.slice (some ⟨w.heap.size, 0, none⟩) 0 0) [] :=
  ⟨rfl, Or.inr ⟨w.heap.size, 0, #[], rfl, Nat.le_refl _, heap_alloc_last w _, Nat.le_refl _, by decide, rfl, rfl⟩⟩
theorem rd_news {w : World} {b off : Nat} {zs : List Int} (h : RdI w .u8 (some ⟨b, off, none⟩) zs) : ∀ j u, (zs.map (Value.int .u8))[j]? = some u → w.cell? ((⟨b, off, none⟩ : Addr).add j) = some u := by
  intro j u hu
  rw [List.getElem?_map] at hu
  have hj : j < zs.length := by
    rcases Nat.lt_or_ge j zs.length with h | h
    · exact h
    · rw [List.getElem?_eq_none h] at hu; cases hu
  obtain ⟨a, e, _, hc, _⟩ := h j hj
  cases e
  rw [hc]
  rw [List.getElem?_eq_getElem hj] at hu
  unfold zat
  rw [List.getD_eq_getElem?_getD, List.getElem?_eq_getElem hj]
  simpa using hu
set_option maxRecDepth 100000 in
set_option maxHeartbeats 1000000 in
theorem clone_nil (c : Nat) (w : World) :
    Calls Try.prog 13 #[.slice none 0 0] w fun e w' => e = .returned (.slice none 0 0) ∧ w = w' := by
  have hq : ∀ w, (binOp .eql 22 (.slice none 0 0) (.slice none 0 0)).run Try.prog w = .ok (.bool true) w := fun w => Lib.run_eql_slice_nil w _ _ none 0 0 0 0 Try.underlying22
  go_enter Try.func13, Try.ntmps13
  go_wp2_with fail
  go_ret
  exact ⟨rfl, rfl⟩
theorem owB_nil (w : World) (B : Nat) : OwB w B (.slice none 0 0) [] := ⟨rfl, Or.inl ⟨rfl, rfl⟩⟩
set_option maxRecDepth 100000 in
set_option maxHeartbeats 1000000 in
theorem clone_some (a : Addr) (c : Nat) (zs : List Int) (w : World) (hz : zs.length ≤ 1000) (hr : RdI w .u8 (some a) zs) :
    Calls Try.prog 13 #[.slice (some a) zs.length c] w fun e w' => ∃ v', e = .returned v' ∧ OwB w' w.heap.size v' zs ∧ Below w.heap.size w w' := by
  obtain ⟨i0, hi, hz0, hz1, hz2⟩ := info_parts info8p
  have HN : ∀ (o : Obj) j u, (zs.map (Value.int .u8))[j]? = some u → (w.alloc o).cell? (a.add j) = some u := by
    intro o j u hu
    rw [List.getElem?_map] at hu
    have hj : j < zs.length := by
      rcases Nat.lt_or_ge j zs.length with h | h
      · exact h
      · rw [List.getElem?_eq_none h] at hu; cases hu
    obtain ⟨a', e, hlt, hc, _⟩ := hr j hj
    cases e
    have hc2 : (w.alloc o).cell? (a.add j) = some (.int .u8 (zat zs j)) := (((Below.refl w.heap.size w).alloc (Nat.le_refl _) o).cell (p := a.add j) (by rw [block_add]; exact hlt)).trans hc
    rw [hc2]
    rw [List.getElem?_eq_getElem hj] at hu
    unfold zat
    rw [List.getD_eq_getElem?_getD, List.getElem?_eq_getElem hj]
    simpa using hu
  have HN := Lib.hid HN
  have hq : ∀ w, (binOp .eql 22 (.slice (some a) zs.length c) (.slice none 0 0)).run Try.prog w = .ok (.bool false) w := fun w => Lib.run_eql_slice_nil w _ _ (some a) zs.length c 0 0 Try.underlying22
  clear hr
  have hown0 := owB_zero w
  go_enter Try.func13, Try.ntmps13
  go_wp2_with (at_builtin; refine wpList_append_own _ rfl _ _ 22 rfl w.heap.size 5 i0 (.int .u8 0) 1 1 Try.underlying22 hi hz0 hz1 hz2 rfl (by decide) _ _ _ rfl hown0 a zs.length c (zs.map (Value.int .u8)) rfl (by simp) (HN.out _) (one_cells zs) (by unfold maxLen; simp; omega) (by simp; omega) (by simp) ?_; intro v' w1 hown' hgrow _)
  have hb1 : RowKit.Below w.heap.size w w1 := by
    refine ((RowKit.Below.refl _ _).alloc (Nat.le_refl _) _).grown hgrow (by simp) (fun g hg => ?_)
    first | exact ownR_ge hown0 hg | exact ownR_ge hown0 hg.symm
  have how : OwB w1 w.heap.size v' ([] ++ zs) := owB_len hown' rfl
  rw [List.nil_append] at how
  clear hown' hgrow hown0
  go_wp2_with fail
  go_ret
  exact ⟨_, rfl, how, hb1⟩
end Go.Proofs.Ytkepplkfjcoemaa
