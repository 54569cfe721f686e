/- heap.Sorted at any row of entries: by the library's contract of slices.SortFunc. -/
import Derived.Test.YtobeppajomhfjaaHeapC
import Derived.Test.YtobeppajomhfjaaEntShelf
import Derived.Lib.OwnBridge
import Derived.WalkKit
import Derived.IntWalk
import Derived.Lib.Hide
import Derived.WalkSpells
import Derived.WalkLawsBesides
import Derived.OwnWalk
import Derived.BigRegion
import Derived.Deep.LoopGhost
import Derived.Deep.RegionHeld3
import Derived.Deep.QuietTactic
import Derived.BigQuiet
namespace Go.Proofs.Ytobeppajomhfjaa
open Go.RowKit
set_option linter.unusedVariables false
set_option linter.unusedSimpArgs false
def encE (x : Ent) : List Value := [.int .i64 x.1, .int .i64 x.2.1, .int .i64 x.2.2]
/-- does an entry come ahead? -/
def ltE (x y : Ent) : Prop := x.1 < y.1 ∨ (x.1 = y.1 ∧ (x.2.1 < y.2.1 ∨ (x.2.1 = y.2.1 ∧ x.2.2 < y.2.2)))
theorem cfE_lt (x y : Ent) : cfE x y < 0 ↔ ltE x y := by
  unfold cfE or3 cmpI ltE
  split <;> split <;> (try split) <;> (try split) <;> (try split) <;> (try split) <;> (try split) <;> (try split) <;> (try split) <;> omega
theorem ltEB (x y : Ent) : ltOf cfE x y = true ↔ ltE x y := by
  unfold ltOf
  rw [decide_eq_true_eq, cfE_lt]
theorem ltEN (x y : Ent) : ltOf cfE x y = false ↔ ¬ ltE x y := by rw [← ltEB]; simp
theorem swoE : Sort.SWO (ltOf cfE) where
  irrefl x := by rw [ltEN]; unfold ltE; omega
  trans x y z h1 h2 := by rw [ltEB] at *; unfold ltE at *; omega
  ntrans x y z h1 h2 := by rw [ltEN] at *; unfold ltE at *; omega
theorem arr_atE (d : Array Ent) (i : Nat) (hi : i < d.size) : encE d[i]! = [.int .i64 (zE d.toList i 0), .int .i64 (zE d.toList i 1), .int .i64 (zE d.toList i 2)] := by
  have e := zE_at (L := d.toList) (i := i) (by simpa using hi)
  rw [getElem!_pos d i hi]
  have e2 : d[i] = d.toList[i]'(by simpa using hi) := by simp
  rw [e2, e]
  rfl
def OwE (w : World) (g : Nat) (L : List Ent) : Prop := g < w.heap.size ∧ ∀ i j, i < L.length → j < 3 → w.cell? ⟨g, i * 3 + j, none⟩ = some (.int .i64 (zE L i j)) ∧ w.frozen? ⟨g, i * 3 + j, none⟩ = false
theorem OwE.holds {w : World} {g : Nat} {L : List Ent} (h : OwE w g L) : Sort.HoldsK encE 3 w g 0 L.toArray := by
  intro t ht
  have ht' : t < L.length * 3 := by simpa using ht
  rw [Sort.get_flatK _ _ _ _ (by simpa using ht'), arr_atE _ _ (by simp; omega)]
  have := h.2 (t / 3) (t % 3) (by omega) (by omega)
  rw [show t / 3 * 3 + t % 3 = t by omega] at this
  rw [Nat.zero_add]
  refine ⟨this.1.trans ?_, this.2⟩
  have h3 : t % 3 = 0 ∨ t % 3 = 1 ∨ t % 3 = 2 := by omega
  rcases h3 with e | e | e <;> rw [e] <;> rfl
theorem holds_owE {w : World} {g : Nat} {d : Array Ent} (hg : g < w.heap.size) (h : Sort.HoldsK encE 3 w g 0 d) : OwE w g d.toList := by
  refine ⟨hg, fun i j hi hj => ?_⟩
  have hi' : i < d.size := by simpa using hi
  have := h.cell hi' hj
  rw [Nat.zero_add, arr_atE d i hi'] at this
  refine ⟨this.1.trans ?_, this.2⟩
  have h3 : j = 0 ∨ j = 1 ∨ j = 2 := by omega
  rcases h3 with rfl | rfl | rfl <;> rfl
theorem below_growE (w : World) (os : Array Obj) : Below w.heap.size w (Sort.grow w os) := by
  refine ⟨rfl, rfl, rfl, by simp [Sort.grow], fun i hi => ?_⟩
  simp [Sort.grow, Array.getElem?_append_left hi]
/-- in order -/
def OrdE (M : List Ent) : Prop := ∀ i j, (_ : i < j) → (h : j < M.length) → ¬ ltE M[j] (M[i]'(by omega))
def SorE (L : List Ent) (g : Nat) (w : World) (e : Ending) (w' : World) : Prop := e = .returned (.tuple #[]) ∧ ∃ M, M.Perm L ∧ OrdE M ∧ OwE w' g M ∧ Below g w w'
theorem sortE_any (g c : Nat) (L : List Ent) (w : World) (h : OwE w g L) (hl : L.length ≤ 1000) :
    Calls Try.prog 31 #[.slice (some ⟨g, 0, none⟩) L.length c, .func (.func 24) #[] #[]] w (SorE L g w) := by
  have eg : ∀ args w, (callFunc 24 args).run Try.prog w = .ok (.enter 24 args) w := enters_of Try.func24 (by kernel_rfl) rfl
  have hcon := AnyQ.slices_SortFunc Try.sortEnt 3 Try.isAgg24 Try.sizeOf24 encE (fun _ => rfl) (fun x v hv => by simp [encE] at hv; rcases hv with rfl | rfl | rfl <;> rfl) cfE swoE 24 #[] g 0 c L.toArray w eg (fun _ _ _ _ x y => ecompare_any x y _) h.holds h.1 (by simp; omega)
  change Calls Try.prog 31 _ _ _ at hcon
  rw [List.size_toArray] at hcon
  refine hcon.mono ?_
  rintro e w' ⟨rfl, d', n, os, ⟨hs, _, hp⟩, hso, rfl⟩
  have hs' : d'.size = L.length := by simpa using hs
  refine ⟨rfl, d'.toList, ?_, ?_, ?_, ?_⟩
  · rw [← hs', Array.extract_size] at hp
    rw [hs', show L.length = L.toArray.size by simp, Array.extract_size] at hp
    simpa using hp
  · intro i j hij hj
    have hj' : j < d'.size := by simpa using hj
    have := hso i j (Nat.zero_le _) hij (by omega)
    rw [ltEN, getElem!_pos d' j hj', getElem!_pos d' i (by omega)] at this
    simpa using this
  · exact holds_owE (lt_sortWorldK encE 3 w g 0 n d' os h.1) (holdsK_sortWorldK encE 3 w g 0 n L.toArray d' os h.1 h.holds hs)
  · have hb : Below g w (Sort.putRow id (Sort.ahead w n) g 0 (Sort.flatK encE 3 d')) := Lib.below_putRow (Below.refl g w) (Nat.le_refl _)
    have hb2 := below_growE (Sort.putRow id (Sort.ahead w n) g 0 (Sort.flatK encE 3 d')) os
    exact hb.trans (hb2.mono (by rw [Sort.size_putRow]; show g ≤ w.heap.size; have := h.1; omega))
theorem sortE_none (A : Option Addr) (c : Nat) (w : World) :
    Calls Try.prog 31 #[.slice A 0 c, .func (.func 24) #[] #[]] w fun e w' => e = .returned (.tuple #[]) ∧ w' = w := by
  have h := AnyF.slices_SortFunc_none (P := Try.prog) (ρ := Try.sortEnt_ren) Try.sortEnt A c (.func (.func 24) #[] #[]) w
  exact h
end Go.Proofs.Ytobeppajomhfjaa
