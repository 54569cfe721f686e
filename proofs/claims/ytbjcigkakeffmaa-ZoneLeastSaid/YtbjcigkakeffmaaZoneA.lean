/- Zones: what floors weigh, which zone has a floor; zones cut. -/
import Derived.Test.YtbjcigkakeffmaaRows
import Derived.Test.YtbjcigkakeffmaaRowKit
import Derived.Test.YtbjcigkakeffmaaRowS
import Derived.Test.YtbjcigkakeffmaaRowZ
import Derived.Test.YtbjcigkakeffmaaSlicesEq
import Derived.Test.YtbjcigkakeffmaaSlicesEqM
import Derived.Test.YtbjcigkakeffmaaRowL
import Derived.Test.YtbjcigkakeffmaaRowM
import Derived.Test.YtbjcigkakeffmaaMakeI
import Derived.Test.YtbjcigkakeffmaaBlocks
import Derived.Test.YtbjcigkakeffmaaZoneMath
import Derived.Test.YtbjcigkakeffmaaShelf
import Derived.WalkKit
import Derived.IntWalk
import Derived.Lib.Hide
import Derived.WalkSpells
import Derived.WalkLawsBesides
import Derived.Laws.CopyOwn
import Derived.Laws.MakeOwn
import Derived.Laws.OwnMore
import Derived.OwnWalk
import Derived.Deep.QuietTactic
import Derived.BigQuiet
import Derived.Deep.RegionHeld3
import Derived.Deep.LoopGhost
import Derived.BigRegion
import Derived.Deep.AppendLies
import Derived.Maps.AppendAt
import Derived.Below
namespace Go.Proofs.Ytbjcigkakeffmaa
open Go.RowKit
set_option linter.unusedSimpArgs false
set_option linter.unusedVariables false
theorem Blk.drew {w : World} {g : Nat} {T : TypeId} {cs : Array Value} (h : Blk w g T cs) : Blk w.drew g T cs := h
theorem nretZ {k : IntKind} {a b : Int} (h : a = b) : Ending.returned (.int k a) = .returned (.int k b) := by rw [h]
def hasZ (a b f : Int) : Bool := decide (a ≤ f) && decide (f < b)
theorem hasZ_yes {a b f : Int} (h : a ≤ f) (h1 : f < b) : hasZ a b f = true := by unfold hasZ; simp [h, h1]
theorem hasZ_no {a b f : Int} (h : f < a ∨ b ≤ f) : hasZ a b f = false := by
  unfold hasZ
  rcases h with h | h
  · rw [decide_eq_false (show ¬ a ≤ f by omega)]; rfl
  · rw [decide_eq_false (show ¬ f < b by omega)]; simp
/-- what floors weigh that a span has, as sums go -/
def wgA (zs : List Int) (a b : Int) : Nat → Int
  | 0 => 0
  | k + 1 => if hasZ a b k then wrap64 (wgA zs a b k + zat zs k) else wgA zs a b k
theorem wg_yes {zs : List Int} {a b : Int} {k : Nat} (h : hasZ a b k = true) : wgA zs a b (k + 1) = wrap64 (wgA zs a b k + zat zs k) := by show (if _ then _ else _) = _; rw [if_pos h]
theorem wg_no {zs : List Int} {a b : Int} {k : Nat} (h : hasZ a b k = false) : wgA zs a b (k + 1) = wgA zs a b k := by show (if _ then _ else _) = _; rw [if_neg (by rw [h]; decide)]
/-- the first zone that has a floor, as the law looks for it -/
def fsA (z : Nat → Nat → Int) (f : Int) : Nat → Int
  | 0 => -1
  | k + 1 => if fsA z f k < 0 ∧ hasZ (z k 0) (z k 1) f = true then (k : Int) else fsA z f k
theorem fs_none {z : Nat → Nat → Int} {f : Int} : ∀ k, (∀ i, i < k → hasZ (z i 0) (z i 1) f = false) → fsA z f k = -1
  | 0, _ => rfl
  | k + 1, h => by
    show (if _ then _ else _) = _
    rw [if_neg (by rw [h k (by omega)]; simp)]
    exact fs_none k fun i hi => h i (by omega)
theorem fs_stay {z : Nat → Nat → Int} {f : Int} {k : Nat} (h : fsA z f k = (k - 1 : Nat)) (hk : 0 < k) : ∀ m, k ≤ m → fsA z f m = (k - 1 : Nat)
  | 0, hm => by omega
  | m + 1, hm => by
    by_cases e : m + 1 = k
    · rw [e]; exact h
    · have := fs_stay h hk m (by omega)
      show (if _ then _ else _) = _
      rw [this, if_neg (by omega)]
theorem fs_at {z : Nat → Nat → Int} {f : Int} {k n : Nat} (h : ∀ i, i < k → hasZ (z i 0) (z i 1) f = false) (h1 : hasZ (z k 0) (z k 1) f = true) (hn : k < n) : fsA z f n = k := by
  have : fsA z f (k + 1) = (k + 1 - 1 : Nat) := by
    show (if _ then _ else _) = _
    rw [fs_none k h, if_pos ⟨by omega, h1⟩]; rfl
  exact fs_stay this (by omega) n (by omega)
end Go.Proofs.Ytbjcigkakeffmaa
