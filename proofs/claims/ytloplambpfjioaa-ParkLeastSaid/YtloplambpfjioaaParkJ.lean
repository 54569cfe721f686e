/- Parking: a copy of floors, one of them changed. -/
import Derived.Test.YtloplambpfjioaaRows
import Derived.Test.YtloplambpfjioaaRowKit
import Derived.Test.YtloplambpfjioaaRowS
import Derived.Test.YtloplambpfjioaaRowZ
import Derived.Test.YtloplambpfjioaaSlicesEq
import Derived.Test.YtloplambpfjioaaSlicesEqM
import Derived.Test.YtloplambpfjioaaRowL
import Derived.Test.YtloplambpfjioaaRowM
import Derived.Test.YtloplambpfjioaaMakeI
import Derived.Test.YtloplambpfjioaaBlocks
import Derived.Test.YtloplambpfjioaaParkI
import Derived.Test.YtloplambpfjioaaParkPlan
import Derived.Test.YtloplambpfjioaaRowM
import Derived.Test.YtloplambpfjioaaPlaceA
import Derived.Test.YtloplambpfjioaaShelf
import Derived.WalkKit
import Derived.IntWalk
import Derived.Lib.Hide
import Derived.WalkSpells
import Derived.WalkLawsBesides
import Derived.Laws.CopyOwn
import Derived.Laws.MakeOwn
import Derived.Laws.OwnMore
import Derived.OwnWalk
import Derived.Deep.QuietTactic
import Derived.BigQuiet
import Derived.Deep.RegionHeld3
import Derived.Deep.LoopGhost
import Derived.BigRegion
import Derived.Deep.AppendLies
import Derived.Maps.AppendAt
import Derived.Below
namespace Go.Proofs.Ytloplambpfjioaa
open Go.RowKit
set_option linter.unusedSimpArgs false
set_option linter.unusedVariables false
def ClR (fs : List Int) (n : Nat) (w : World) (e : Ending) (w' : World) : Prop := ∃ g cap, e = .returned (.slice (some ⟨g, 0, none⟩) n cap) ∧ w'.ownsRow w.heap.size 3 1 (.slice (some ⟨g, 0, none⟩) n cap) n (fs.map (Value.int .i64)) ∧ Below w.heap.size w w'
theorem clone_at (A : Option Addr) (c n : Nat) (fs : List Int) (w : World) (hn : fs.length = n) (h0 : 0 < n) (h1 : n ≤ 100000) (hr : RdI w .i64 A fs) : Calls Try.prog 12 #[.slice A n c] w (ClR fs n w) := by
  obtain ⟨b, off, rfl, _, hc⟩ := rdI_row hr (by omega)
  refine (Try.slices_Clone_int b off n c fs w (by omega) (by omega) (fun j hj => hc j hj)).mono ?_
  rintro e w' ⟨v, rfl, hown, _, hb⟩
  rw [← hn, List.take_length, hn] at hown
  obtain ⟨g, cap, rfl, _, _⟩ := ownR_head hown h0
  exact ⟨g, cap, rfl, hown, hb⟩
theorem set_rd {w : World} {B g cap n : Nat} {fs : List Int} {i : Nat} {u : Int} (hn : fs.length = n) (h : w.ownsRow B 3 1 (.slice (some ⟨g, 0, none⟩) n cap) n (fs.map (Value.int .i64))) (hi : i < n) (hb : ∀ s, s ∈ fs → 0 ≤ s ∧ s < 1000) (hu : -1000 ≤ u ∧ u ≤ 1000) : RdI (w.setCell ⟨g, i, none⟩ (.int .i64 u)) .i64 (some ⟨g, 0, none⟩) (fs.set i u) := by
  have h1 := (h.stored i (.int .i64 u)).1
  rw [← List.map_set] at h1
  have hl : (fs.set i u).length = n := by rw [List.length_set, hn]
  have h2 := ownR_len h1 hl
  obtain ⟨A, c, e, hr⟩ := ownR_rd h2 (fun j hj => by
    have hm := zat_mem hj
    have : -1000 ≤ zat (fs.set i u) j ∧ zat (fs.set i u) j ≤ 1000 := by
      rcases List.mem_or_eq_of_mem_set hm with q | q
      · have := hb _ q; omega
      · rw [q]; exact hu
    exact WalkArith.wf_i64 (by omega))
  injection e with e1 e2 e3
  rw [← e1] at hr; exact hr
theorem at_zat {w : World} {b off n : Nat} {fs : List Int} (h : RdI w .i64 (some ⟨b, off, none⟩) fs) (hn : fs.length = n) {i : Nat} (hi : i < n) : w.cell? ⟨b, off + i, none⟩ = some (.int .i64 (zat fs i)) := by
  obtain ⟨b', off', e, _, hc⟩ := rdI_row h (by omega)
  cases e
  exact hc i (by omega)
theorem rise_zat {fs : List Int} (h : fs.Pairwise (· < ·)) {p i : Nat} (hp : p < i) (hi : i < fs.length) : zat fs p < zat fs i := by
  have := List.pairwise_iff_getElem.1 h p i (by omega) hi hp
  unfold zat
  rw [List.getD_eq_getElem?_getD, List.getElem?_eq_getElem (by omega), List.getD_eq_getElem?_getD, List.getElem?_eq_getElem hi]
  exact this
end Go.Proofs.Ytloplambpfjioaa
