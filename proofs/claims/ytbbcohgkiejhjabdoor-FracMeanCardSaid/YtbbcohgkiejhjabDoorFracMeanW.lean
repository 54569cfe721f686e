/- The walk of FracMean: it answers true for every input, and leaves all old blocks as they were. No condition but the laid tables, which are tied to the text. -/
import Derived.Test.YtbbcohgkiejhjabDoorRows
import Derived.Test.YtbbcohgkiejhjabDoorRowKit
import Derived.Test.YtbbcohgkiejhjabDoorFracA
import Derived.Test.YtbbcohgkiejhjabDoorFracB
import Derived.Test.YtbbcohgkiejhjabDoorFracE
import Derived.WalkKit
import Derived.ProofKit
import Derived.OpenShut
import Derived.Deep.QuietTactic
import Derived.BigQuiet
import Derived.Lib.SmallJoins
import Derived.Lib.Hide
import Derived.WalkSpells
import Derived.WalkLawsBesides
import Derived.IntWalk
import Derived.Deep.WholeRow
import Derived.Laws.CopyOwn
import Derived.Deep.RegionHeld3
namespace Go.Proofs.YtbbcohgkiejhjabDoor.fracMean
open Go.ChangeShapes Go.WideShapes Go.ChangeAt Go.RowKit Go.Joins
set_option linter.unusedSimpArgs false
set_option linter.unusedVariables false

theorem blk_of {w w1 : World} {c : Array Value} {t : TypeId} (hb : Below (w.alloc (.cells c t)).heap.size (w.alloc (.cells c t)) w1) :
    w1.heap[w.heap.size]? = some (.cells c t) ∧ w.heap.size + 1 ≤ w1.heap.size ∧ Below w.heap.size w w1 :=
  ⟨(hb.block w.heap.size (by simp)).trans (heap_alloc_last w _), by have := hb.size; simpa using this, ((Below.refl _ _).alloc (Nat.le_refl _) _).trans (hb.mono (by simp))⟩
set_option maxHeartbeats 1000000 in
theorem walk_big (A : Option Addr) (c : Nat) (zs : List Int) (w : World) (hl : 200 < zs.length) (hc : zs.length ≤ 9223372036854775807) :
    Calls Tryd.prog 6 #[.slice A zs.length c] w fun e w' => e = .returned (.bool true) ∧ Below w.heap.size w w' := by
  go_enter Tryd.func6, Tryd.ntmps6
  go_wp2_with fail
  go_ret
  exact ⟨rfl, Below.refl _ _⟩
/-- both means of a row, with the same answer -/
def MeanC (A : Option Addr) (n c : Nat) (q r b e : Int) (w : World) : Prop := ∀ W : World, Below w.heap.size w W → 
  (Calls Tryd.prog 20 #[.slice A n c] W fun x w' => x = .returned (.tuple #[.agg #[.int .i64 q, .int .i64 r, .int .i64 b], .int .i64 e]) ∧ Below W.heap.size W w') ∧
  (Calls Tryd.prog 21 #[.slice A n c] W fun x w' => x = .returned (.tuple #[.agg #[.int .i64 q, .int .i64 r, .int .i64 b], .int .i64 e]) ∧ Below W.heap.size W w')
theorem means (A : Option Addr) (c : Nat) (zs : List Int) (w : World) (hr : RdI w .i64 A zs) (hl : zs.length ≤ 200) : ∃ q r b e : Int, MeanC A zs.length c q r b e w := by
  have hx : ∀ j, j < zs.length → zat zs j ≤ 9223372036854775807 := fun j hj => by
    obtain ⟨_, _, _, _, h⟩ := hr j hj
    exact (bounds_i64 h).2
  by_cases hn : ∃ i, i < zs.length ∧ zat zs i < 0
  · obtain ⟨m, hm, hneg, hpos⟩ := first_of hn
    have hp : ∀ j, j < m → 0 ≤ zat zs j := fun j hj => by have := hpos j hj; omega
    exact ⟨0, 0, 0, 22, fun W hW => ⟨mean_neg A c m zs W (hr.kept hW) hl hm hneg hp, rmean_neg A c zs W (hr.kept hW) hl m hm hneg hp hx⟩⟩
  · have hp : ∀ j, j < zs.length → 0 ≤ zat zs j := fun j hj => by
      by_cases h : zat zs j < 0
      · exact absurd ⟨j, hj, h⟩ hn
      · omega
    by_cases h0 : zs.length = 0
    · rw [h0]
      exact ⟨0, 0, 0, 11, fun W hW => ⟨mean_none A c W, rmean_none A c W⟩⟩
    · by_cases hs : psum zs zs.length ≤ 9223372036854775807
      · exact ⟨_, _, _, 0, fun W hW => ⟨mean_ok A c zs W (hr.kept hW) hl (by omega) hp hs, rmean_ok A c zs W (hr.kept hW) hl (by omega) hp hs⟩⟩
      · have : ∃ i, i < zs.length ∧ 9223372036854775807 < psum zs (i + 1) := ⟨zs.length - 1, by omega, by rw [show zs.length - 1 + 1 = zs.length by omega]; omega⟩
        obtain ⟨m, hm, h2, h1⟩ := first_of this
        rw [psum_succ zs m hm] at h2
        have h3 : psum zs m ≤ 9223372036854775807 := by
          by_cases e : m = 0
          · subst e; rw [psum_zero]; omega
          · have := h1 (m - 1) (by omega)
            rw [show m - 1 + 1 = m by omega] at this
            omega
        exact ⟨0, 0, 0, 10, fun W hW => ⟨mean_range A c zs W (hr.kept hW) hl m hm hp h3 h2 hx, rmean_range A c zs W (hr.kept hW) hl m hm hp h3 h2 hx⟩⟩
set_option maxRecDepth 100000 in
set_option maxHeartbeats 1000000 in
theorem walk_small (A : Option Addr) (c n : Nat) (q r b e : Int) (w : World) (hl : n ≤ 200) (hM : MeanC A n c q r b e w) :
    Calls Tryd.prog 6 #[.slice A n c] w fun e w' => e = .returned (.bool true) ∧ Below w.heap.size w w' := by
  have M := Lib.hid hM
  clear hM
  go_enter Tryd.func6, Tryd.ntmps6
  go_wp2_with fail
  refine ((M.out _ (Below.refl _ _)).1).mono ?_
  rintro x x1 ⟨rfl, h1⟩
  go_wp2_with fail
  refine ((M.out _ (h1.alloc h1.size _)).2).mono ?_
  rintro x x2 ⟨rfl, h2⟩
  obtain ⟨g1, z1, b1⟩ := blk_of h2
  clear h2
  have k0 := blk_cell g1 0
  have k1 := blk_cell g1 1
  have k2 := blk_cell g1 2
  simp at k0 k1 k2
  have G1 := Lib.hid g1
  clear g1
  have z2 : x1.heap.size < x2.heap.size := by omega
  clear z1
  go_wp2_with fail
  refine (alive_any _).mono ?_
  rintro x x3 ⟨rfl, h3⟩
  go_wp2_with fail
  go_ret
  exact ⟨rfl, ((h1.trans (b1.mono h1.size)).alloc (Nat.le_trans h1.size b1.size) _).trans (h3.mono (by have := h1.size; have := b1.size; simp; omega))⟩
theorem walk {A : Option Addr} {c : Nat} {zs : List Int} (hc : zs.length ≤ c) (hm : c ≤ maxLen) {w : World} (hr : RdI w .i64 A zs) {LL : Prop} (hL : LL) :
    Calls Tryd.prog 6 #[.slice A zs.length c] w fun e w' => e = .returned (.bool true) ∧ Below w.heap.size w w' := by
  by_cases h : zs.length ≤ 200
  · obtain ⟨q, r, b, e, hM⟩ := means A c zs w hr h
    exact walk_small A c zs.length q r b e w h hM
  · unfold maxLen at hm
    exact walk_big A c zs w (by omega) (by omega)

end Go.Proofs.YtbbcohgkiejhjabDoor.fracMean
