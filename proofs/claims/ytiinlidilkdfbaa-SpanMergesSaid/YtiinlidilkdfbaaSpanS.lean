/- slices.SortFunc at any row of spans: by the library's contract. -/
import Derived.Test.YtiinlidilkdfbaaSpanR
import Derived.Test.YtiinlidilkdfbaaSortShelf
import Derived.Lib.OwnBridge
import Derived.WalkKit
import Derived.IntWalk
import Derived.Lib.Hide
import Derived.WalkSpells
import Derived.WalkLawsBesides
import Derived.Laws.CopyOwn
import Derived.Laws.MakeOwn
import Derived.Laws.OwnMore
import Derived.Laws.AppendOwnNone
import Derived.OwnWalk
import Derived.BigRegion
import Derived.Deep.LoopGhost
import Derived.Deep.RegionHeld3
import Derived.Deep.QuietTactic
import Derived.BigQuiet
namespace Go.Proofs.Ytiinlidilkdfbaa
open Go.RowKit
set_option linter.unusedVariables false
set_option linter.unusedSimpArgs false
def encS (p : Int × Int) : List Value := [.int .i64 p.1, .int .i64 p.2]
def cfS (x y : Int × Int) : Int := Lib.compareInt x.1 y.1
theorem ltS (x y : Int × Int) : ltOf cfS x y = decide (x.1 < y.1) := by
  unfold ltOf cfS Lib.compareInt
  by_cases h1 : x.1 < y.1
  · simp [h1]
  · by_cases h2 : y.1 < x.1 <;> simp [h1, h2]
theorem swoS : Sort.SWO (ltOf cfS) where
  irrefl x := by rw [ltS]; simp
  trans x y z h1 h2 := by rw [ltS] at *; simp at *; omega
  ntrans x y z h1 h2 := by rw [ltS] at *; simp at *; omega
theorem arr_at (d : Array (Int × Int)) (i : Nat) (hi : i < d.size) : encS d[i]! = [.int .i64 (zS d.toList i 0), .int .i64 (zS d.toList i 1)] := by
  have e : d.toList.getD i (0, 0) = d[i]! := by
    rw [getElem!_pos d i hi, List.getD_eq_getElem?_getD, List.getElem?_eq_getElem (by simpa using hi)]
    simp
  unfold encS zS
  rw [e]
  rfl
theorem OwS.holds {w : World} {g : Nat} {L : List (Int × Int)} (h : OwS w g L) : Sort.HoldsK encS 2 w g 0 L.toArray := by
  intro t ht
  have ht' : t < L.length * 2 := by simpa using ht
  rw [Sort.get_flatK _ _ _ _ (by simpa using ht'), arr_at _ _ (by simp; omega)]
  have := h.2 (t / 2) (t % 2) (by omega) (by omega)
  rw [show t / 2 * 2 + t % 2 = t by omega] at this
  rw [Nat.zero_add]
  refine ⟨this.1.trans ?_, this.2⟩
  rcases Nat.mod_two_eq_zero_or_one t with e | e <;> rw [e] <;> rfl
theorem holds_owS {w : World} {g : Nat} {d : Array (Int × Int)} (hg : g < w.heap.size) (h : Sort.HoldsK encS 2 w g 0 d) : OwS w g d.toList := by
  refine ⟨hg, fun i j hi hj => ?_⟩
  have hi' : i < d.size := by simpa using hi
  have := h.cell hi' hj
  rw [Nat.zero_add, arr_at d i hi'] at this
  refine ⟨this.1.trans ?_, this.2⟩
  rcases j with _ | _ | j
  · rfl
  · rfl
  · omega
theorem below_growS (w : World) (os : Array Obj) : Below w.heap.size w (Sort.grow w os) := by
  refine ⟨rfl, rfl, rfl, by simp [Sort.grow], fun i hi => ?_⟩
  simp [Sort.grow, Array.getElem?_append_left hi]
def SorR (L : List (Int × Int)) (g : Nat) (w : World) (e : Ending) (w' : World) : Prop := e = .returned (.tuple #[]) ∧ ∃ M, M.Perm L ∧ (∀ i j, i < j → j < M.length → zS M i 0 ≤ zS M j 0) ∧ OwS w' g M ∧ Below g w w'
theorem sortS_any (g c : Nat) (L : List (Int × Int)) (w : World) (h : OwS w g L) (hl : L.length ≤ 1000) :
    Calls Try.prog 27 #[.slice (some ⟨g, 0, none⟩) L.length c, .func (.func 28) #[] #[]] w (SorR L g w) := by
  have eg : ∀ args w, (callFunc 28 args).run Try.prog w = .ok (.enter 28 args) w := enters_of Try.func28 (by kernel_rfl) rfl
  have hcon := AnyQ.slices_SortFunc Try.sortSpan 2 Try.isAgg26 Try.sizeOf26 encS (fun _ => rfl) (fun x v hv => by simp [encS] at hv; rcases hv with rfl | rfl <;> rfl) cfS swoS 28 #[] g 0 c L.toArray w eg (fun _ _ _ _ x y => m1_any x y _) h.holds h.1 (by simp; omega)
  change Calls Try.prog 27 _ _ _ at hcon
  rw [List.size_toArray] at hcon
  refine hcon.mono ?_
  rintro e w' ⟨rfl, d', n, os, ⟨hs, _, hp⟩, hso, rfl⟩
  have hs' : d'.size = L.length := by simpa using hs
  refine ⟨rfl, d'.toList, ?_, ?_, ?_, ?_⟩
  · rw [← hs', Array.extract_size] at hp
    rw [hs', show L.length = L.toArray.size by simp, Array.extract_size] at hp
    simpa using hp
  · intro i j hij hj
    have hj' : j < d'.size := by simpa using hj
    have := hso i j (Nat.zero_le _) hij (by omega)
    rw [ltS] at this
    have e1 := arr_at d' i (by omega); have e2 := arr_at d' j hj'
    simp only [encS, List.cons.injEq, Value.int.injEq, true_and, and_true] at e1 e2
    rw [← e1.1, ← e2.1]
    simpa using this
  · exact holds_owS (lt_sortWorldK encS 2 w g 0 n d' os h.1) (holdsK_sortWorldK encS 2 w g 0 n L.toArray d' os h.1 h.holds hs)
  · have hb : Below g w (Sort.putRow id (Sort.ahead w n) g 0 (Sort.flatK encS 2 d')) := Lib.below_putRow (Below.refl g w) (Nat.le_refl _)
    have hb2 := below_growS (Sort.putRow id (Sort.ahead w n) g 0 (Sort.flatK encS 2 d')) os
    exact hb.trans (hb2.mono (by rw [Sort.size_putRow]; show g ≤ w.heap.size; have := h.1; omega))
end Go.Proofs.Ytiinlidilkdfbaa
