/- Contract of shuffle.Some. -/
import Derived.Test.YteebeiflipfbkaaRows
import Derived.Test.YteebeiflipfbkaaRowKit
import Derived.Test.YteebeiflipfbkaaSlicesEq
import Derived.Test.YteebeiflipfbkaaSlicesEqM
import Derived.Test.YteebeiflipfbkaaRowL
import Derived.Test.YteebeiflipfbkaaMakeI
import Derived.Test.YteebeiflipfbkaaBlocks
import Derived.Test.YteebeiflipfbkaaWordsA
import Derived.Test.YteebeiflipfbkaaShufMath
import Derived.Test.YteebeiflipfbkaaShufA
import Derived.Test.YteebeiflipfbkaaShufB
import Derived.Test.YteebeiflipfbkaaShufD
import Derived.Test.YteebeiflipfbkaaShufE
import Derived.WalkKit
import Derived.IntWalk
import Derived.Lib.Hide
import Derived.Lib.SmallJoins
import Derived.WalkSpells
import Derived.WalkLawsBesides
import Derived.Laws.CopyOwn
import Derived.Laws.MakeOwn
import Derived.Laws.OwnMore
import Derived.OwnWalk
import Derived.Deep.QuietTactic
import Derived.Deep.RegionHeld3
import Derived.Deep.LoopGhost
import Derived.Deep.Onto
import Derived.BigQuiet
import Derived.BigRegion
namespace Go.Proofs.Yteebeiflipfbkaa
open Go.RowKit
set_option linter.unusedSimpArgs false
set_option linter.unusedVariables false
/-- what stands in memory: the numbers, the stream that is left, the stream, the result's -/
structure ON (w X : World) (n g l : Nat) (f : Nat → Int) (W : Option Addr) (m c : Nat) (a a0 : Int) : Prop where
  o : X.ownsRow w.heap.size 3 1 (.slice (some ⟨g, 0, none⟩) n n) n ((rowL f n).map (Value.int .i64))
  s : Blk X l 64 #[.slice W m c, .int .i64 a]
  b : Blk X w.heap.size 64 #[.slice W m c, .int .i64 a0]
  r : Blk X (w.heap.size + 1) 64 #[.slice none 0 0, .int .i64 0]
  e : Below w.heap.size w X
theorem own_base {w : World} {base base' : Nat} {e : TypeId} {v : Value} {n : Nat} {xs : List Value} (h : w.ownsRow base e 1 v n xs) (hb : base' ≤ base) : w.ownsRow base' e 1 v n xs := by
  refine ⟨h.1, ?_⟩
  rcases h.2 with h2 | ⟨g, cap, cur, h1, h2, h3⟩
  · exact .inl h2
  · exact .inr ⟨g, cap, cur, h1, Nat.le_trans hb h2, h3⟩
theorem own_dr {w : World} {base : Nat} {e : TypeId} {v : Value} {n : Nat} {xs : List Value} (h : w.ownsRow base e 1 v n xs) : w.drew.ownsRow base e 1 v n xs := h
theorem on_first {w w1 : World} {n m c : Nat} {W : Option Addr} {a : Int} {f : Nat → Int}
    (hown : w1.ownsRow ((w.alloc (.cells #[.slice W m c, .int .i64 a] 64)).alloc (.cells #[.slice none 0 0, .int .i64 0] 64)).drew.heap.size 3 1 (.slice (some ⟨((w.alloc (.cells #[.slice W m c, .int .i64 a] 64)).alloc (.cells #[.slice none 0 0, .int .i64 0] 64)).drew.heap.size, 0, none⟩) n n) n ((rowL f n).map (Value.int .i64)))
    (hb : Below ((w.alloc (.cells #[.slice W m c, .int .i64 a] 64)).alloc (.cells #[.slice none 0 0, .int .i64 0] 64)).drew.heap.size ((w.alloc (.cells #[.slice W m c, .int .i64 a] 64)).alloc (.cells #[.slice none 0 0, .int .i64 0] 64)).drew w1) :
    ON w (w1.alloc (.cells #[.slice W m c, .int .i64 a] 64)) n (w.heap.size + 1 + 1) w1.heap.size f W m c a a ∧ w.heap.size + 1 + 1 < w1.heap.size := by
  have hs : ((w.alloc (.cells #[.slice W m c, .int .i64 a] 64)).alloc (.cells #[.slice none 0 0, .int .i64 0] 64)).drew.heap.size = w.heap.size + 1 + 1 := by
    show ((w.alloc (.cells #[.slice W m c, .int .i64 a] 64)).alloc (.cells #[.slice none 0 0, .int .i64 0] 64)).heap.size = _
    rw [World.size_alloc, World.size_alloc]
  have hR := blk_last hb
  rw [World.size_alloc] at hR
  have hB : Blk w1 w.heap.size 64 #[.slice W m c, .int .i64 a] := Blk.next (w := ((w.alloc (.cells #[.slice W m c, .int .i64 a] 64)).alloc (.cells #[.slice none 0 0, .int .i64 0] 64)).drew) ((Blk.new w _ _).alloc _) hb
  have hb0 : Below w.heap.size w ((w.alloc (.cells #[.slice W m c, .int .i64 a] 64)).alloc (.cells #[.slice none 0 0, .int .i64 0] 64)).drew := (((Below.refl _ _).alloc (Nat.le_refl _) _).alloc (by simp) _).drew
  have hbw : Below w.heap.size w w1 := hb0.trans (hb.mono hb0.size)
  rw [hs] at hown
  exact ⟨⟨(own_base hown (by omega)).alloc _, Blk.new _ _ _, hB.alloc _, hR.alloc _, hbw.alloc hbw.size _⟩, (hown.lt _ rfl).2⟩
theorem on_second {w w1 : World} {n m c : Nat} {W : Option Addr} {a : Int} {f : Nat → Int}
    (hown : w1.ownsRow (((w.alloc (.cells #[.slice W m c, .int .i64 a] 64)).alloc (.cells #[.slice none 0 0, .int .i64 0] 64)).alloc (.cells #[.slice none 0 0, .int .i64 0] 64)).drew.heap.size 3 1 (.slice (some ⟨(((w.alloc (.cells #[.slice W m c, .int .i64 a] 64)).alloc (.cells #[.slice none 0 0, .int .i64 0] 64)).alloc (.cells #[.slice none 0 0, .int .i64 0] 64)).drew.heap.size, 0, none⟩) n n) n ((rowL f n).map (Value.int .i64)))
    (hb : Below (((w.alloc (.cells #[.slice W m c, .int .i64 a] 64)).alloc (.cells #[.slice none 0 0, .int .i64 0] 64)).alloc (.cells #[.slice none 0 0, .int .i64 0] 64)).drew.heap.size (((w.alloc (.cells #[.slice W m c, .int .i64 a] 64)).alloc (.cells #[.slice none 0 0, .int .i64 0] 64)).alloc (.cells #[.slice none 0 0, .int .i64 0] 64)).drew w1) :
    ON w ((w1.setCell ⟨w.heap.size + 1 + 1, 0, none⟩ (.slice W m c)).setCell ⟨w.heap.size + 1 + 1, 1, none⟩ (.int .i64 a)) n (w.heap.size + 1 + 1 + 1) (w.heap.size + 1 + 1) f W m c a a := by
  have hs : (((w.alloc (.cells #[.slice W m c, .int .i64 a] 64)).alloc (.cells #[.slice none 0 0, .int .i64 0] 64)).alloc (.cells #[.slice none 0 0, .int .i64 0] 64)).drew.heap.size = w.heap.size + 1 + 1 + 1 := by
    show (((w.alloc (.cells #[.slice W m c, .int .i64 a] 64)).alloc (.cells #[.slice none 0 0, .int .i64 0] 64)).alloc (.cells #[.slice none 0 0, .int .i64 0] 64)).heap.size = _
    rw [World.size_alloc, World.size_alloc, World.size_alloc]
  have hL := third_blk hb
  have hR : Blk w1 (w.heap.size + 1) 64 #[.slice none 0 0, .int .i64 0] := by
    have h := Blk.new (w.alloc (.cells #[.slice W m c, .int .i64 a] 64)) #[(.slice none 0 0 : Value), .int .i64 0] 64
    rw [World.size_alloc] at h
    exact Blk.next (w := (((w.alloc (.cells #[.slice W m c, .int .i64 a] 64)).alloc (.cells #[.slice none 0 0, .int .i64 0] 64)).alloc (.cells #[.slice none 0 0, .int .i64 0] 64)).drew) (h.alloc _) hb
  have hB : Blk w1 w.heap.size 64 #[.slice W m c, .int .i64 a] := Blk.next (w := (((w.alloc (.cells #[.slice W m c, .int .i64 a] 64)).alloc (.cells #[.slice none 0 0, .int .i64 0] 64)).alloc (.cells #[.slice none 0 0, .int .i64 0] 64)).drew) (((Blk.new w _ _).alloc _).alloc _) hb
  have hb0 : Below w.heap.size w (((w.alloc (.cells #[.slice W m c, .int .i64 a] 64)).alloc (.cells #[.slice none 0 0, .int .i64 0] 64)).alloc (.cells #[.slice none 0 0, .int .i64 0] 64)).drew := ((((Below.refl _ _).alloc (Nat.le_refl _) _).alloc (by simp) _).alloc (by simp; omega) _).drew
  have hbw : Below w.heap.size w w1 := hb0.trans (hb.mono hb0.size)
  rw [hs] at hown
  refine ⟨own_far (own_far (own_base hown (by omega)) ?_ _) ?_ _, hL.put2 _ _, (hB.far ?_ _).far ?_ _, (hR.far ?_ _).far ?_ _, (hbw.setCell ?_ _).setCell ?_ _⟩
  · show some (w.heap.size + 1 + 1 + 1) ≠ some (w.heap.size + 1 + 1); intro c; have := Option.some.inj c; omega
  · show some (w.heap.size + 1 + 1 + 1) ≠ some (w.heap.size + 1 + 1); intro c; have := Option.some.inj c; omega
  · show w.heap.size ≠ w.heap.size + 1 + 1; omega
  · show w.heap.size ≠ w.heap.size + 1 + 1; omega
  · show w.heap.size + 1 ≠ w.heap.size + 1 + 1; omega
  · show w.heap.size + 1 ≠ w.heap.size + 1 + 1; omega
  · show w.heap.size ≤ w.heap.size + 1 + 1; omega
  · show w.heap.size ≤ w.heap.size + 1 + 1; omega
end Go.Proofs.Yteebeiflipfbkaa
