/- Columns: the example. -/
import Derived.Test.YtkonghjmipclmaaDoorRows
import Derived.Test.YtkonghjmipclmaaDoorRowKit
import Derived.Test.YtkonghjmipclmaaDoorShelf
import Derived.Test.YtkonghjmipclmaaDoorBlocks
import Derived.Test.YtkonghjmipclmaaDoorSlicesEq
import Derived.Test.YtkonghjmipclmaaDoorRowT
import Derived.Test.YtkonghjmipclmaaDoorDigE
import Derived.Test.YtkonghjmipclmaaDoorBuA
import Derived.Test.YtkonghjmipclmaaDoorColM
import Derived.Test.YtkonghjmipclmaaDoorColT
import Derived.WalkKit
import Derived.IntWalk
import Derived.Lib.Hide
import Derived.WalkSpells
import Derived.WalkLawsBesides
import Derived.Laws.IdiomStrings
import Derived.Laws.OwnMore
import Derived.OwnWalk
import Derived.Deep.QuietTactic
import Derived.BigQuiet
import Derived.BigRegion
import Derived.Deep.LoopGhost
namespace Go.Proofs.YtkonghjmipclmaaDoor
open Go.RowKit Go.Sort
set_option linter.unusedSimpArgs false
set_option linter.unusedVariables false
def exT (i j : Nat) : ByteArray := if i = 0 then (if j = 0 then (ByteArray.mk #[97]) else (ByteArray.mk #[49, 48])) else (if j = 0 then (ByteArray.mk #[98, 99, 100]) else (ByteArray.mk #[53]))
def exA (h i : Nat) : Option Addr := if i = 0 then some ⟨h, 0, none⟩ else some ⟨h + 1, 0, none⟩
theorem ex_eq : bL (txC (zat (rowL (wdCols (fun _ => 2) exT 2).2 (wdCols (fun _ => 2) exT 2).1)) (wdCols (fun _ => 2) exT 2).1 (fun _ => 2) exT 2) = (ByteArray.mk #[97, 32, 32, 32, 32, 49, 48, 10, 98, 99, 100, 32, 32, 32, 53, 10]) := by kernel_rfl
set_option maxRecDepth 100000 in
set_option maxHeartbeats 4000000 in
theorem alive16_any (w : World) : Calls Tryd.prog 12 #[] w fun e w' => e = .returned (.bool true) ∧ Below w.heap.size w w' := by
  have b1 : Below w.heap.size w (w.alloc (.cells #[.string (ByteArray.mk #[97]), .string (ByteArray.mk #[49, 48])] 9)) := (Below.refl _ _).alloc (Nat.le_refl _) _
  have b2 : Below w.heap.size w ((w.alloc (.cells #[.string (ByteArray.mk #[97]), .string (ByteArray.mk #[49, 48])] 9)).alloc (.cells #[.string (ByteArray.mk #[98, 99, 100]), .string (ByteArray.mk #[53])] 9)) := b1.alloc b1.size _
  have b3 : Below w.heap.size w (((w.alloc (.cells #[.string (ByteArray.mk #[97]), .string (ByteArray.mk #[49, 48])] 9)).alloc (.cells #[.string (ByteArray.mk #[98, 99, 100]), .string (ByteArray.mk #[53])] 9)).alloc (.cells #[.slice (some ⟨w.heap.size, 0, none⟩) 2 2, .slice (some ⟨w.heap.size + 1, 0, none⟩) 2 2] 29)) := b2.alloc b2.size _
  have B1 : Blk (((w.alloc (.cells #[.string (ByteArray.mk #[97]), .string (ByteArray.mk #[49, 48])] 9)).alloc (.cells #[.string (ByteArray.mk #[98, 99, 100]), .string (ByteArray.mk #[53])] 9)).alloc (.cells #[.slice (some ⟨w.heap.size, 0, none⟩) 2 2, .slice (some ⟨w.heap.size + 1, 0, none⟩) 2 2] 29)) w.heap.size 9 #[.string (ByteArray.mk #[97]), .string (ByteArray.mk #[49, 48])] := ((Blk.new w _ _).alloc _).alloc _
  have B2 : Blk (((w.alloc (.cells #[.string (ByteArray.mk #[97]), .string (ByteArray.mk #[49, 48])] 9)).alloc (.cells #[.string (ByteArray.mk #[98, 99, 100]), .string (ByteArray.mk #[53])] 9)).alloc (.cells #[.slice (some ⟨w.heap.size, 0, none⟩) 2 2, .slice (some ⟨w.heap.size + 1, 0, none⟩) 2 2] 29)) (w.alloc (.cells #[.string (ByteArray.mk #[97]), .string (ByteArray.mk #[49, 48])] 9)).heap.size 9 #[.string (ByteArray.mk #[98, 99, 100]), .string (ByteArray.mk #[53])] := (Blk.new (w.alloc (.cells #[.string (ByteArray.mk #[97]), .string (ByteArray.mk #[49, 48])] 9)) _ _).alloc _
  have B3 : Blk (((w.alloc (.cells #[.string (ByteArray.mk #[97]), .string (ByteArray.mk #[49, 48])] 9)).alloc (.cells #[.string (ByteArray.mk #[98, 99, 100]), .string (ByteArray.mk #[53])] 9)).alloc (.cells #[.slice (some ⟨w.heap.size, 0, none⟩) 2 2, .slice (some ⟨w.heap.size + 1, 0, none⟩) 2 2] 29)) ((w.alloc (.cells #[.string (ByteArray.mk #[97]), .string (ByteArray.mk #[49, 48])] 9)).alloc (.cells #[.string (ByteArray.mk #[98, 99, 100]), .string (ByteArray.mk #[53])] 9)).heap.size 29 #[.slice (some ⟨w.heap.size, 0, none⟩) 2 2, .slice (some ⟨w.heap.size + 1, 0, none⟩) 2 2] := Blk.new ((w.alloc (.cells #[.string (ByteArray.mk #[97]), .string (ByteArray.mk #[49, 48])] 9)).alloc (.cells #[.string (ByteArray.mk #[98, 99, 100]), .string (ByteArray.mk #[53])] 9)) _ _
  rw [World.size_alloc] at B2 B3
  rw [World.size_alloc] at B3
  go_enter Tryd.func12, Tryd.ntmps12
  go_wp2_with fail
  obtain ⟨V, hV⟩ : ∃ V, (((w.alloc (.cells #[.string (ByteArray.mk #[97]), .string (ByteArray.mk #[49, 48])] 9)).alloc (.cells #[.string (ByteArray.mk #[98, 99, 100]), .string (ByteArray.mk #[53])] 9)).alloc (.cells #[.slice (some ⟨w.heap.size, 0, none⟩) 2 2, .slice (some ⟨w.heap.size + 1, 0, none⟩) 2 2] 29)) = V := ⟨_, rfl⟩
  rw [hV] at B1 B2 B3 b3 ⊢
  have R1 : RdTT V (some ⟨w.heap.size + 1 + 1, 0, none⟩) 2 (exA w.heap.size) (fun _ => 2) (fun _ => 2) exT := by
    intro i hi
    refine ⟨_, _, rfl, B3.lt, ?_, (by show 2 ≤ 9223372036854775807; omega), ?_⟩
    · have := B3.cell (0 + i)
      rcases i with _ | _ | i
      · exact this
      · exact this
      · omega
    · rcases i with _ | _ | i
      · intro j hj'
        have hj : j < 2 := hj'
        clear hj'
        have := B1.cell (0 + j)
        refine ⟨⟨w.heap.size, 0, none⟩, rfl, B1.lt, ?_, ?_⟩
        · rcases j with _ | _ | j
          · exact this
          · exact this
          · omega
        · rcases j with _ | _ | j
          · decide
          · decide
          · omega
      · intro j hj'
        have hj : j < 2 := hj'
        clear hj'
        have := B2.cell (0 + j)
        refine ⟨⟨w.heap.size + 1, 0, none⟩, rfl, B2.lt, ?_, ?_⟩
        · rcases j with _ | _ | j
          · exact this
          · exact this
          · omega
        · rcases j with _ | _ | j
          · decide
          · decide
          · omega
      · omega
  have KT := ctext_any (some ⟨w.heap.size + 1 + 1, 0, none⟩) 2 2 (exA w.heap.size) (fun _ => 2) (fun _ => 2) exT V R1 (by omega) (fun i hi => ⟨by show 2 ≤ 20; omega, fun j hj => by
    have hj : j < 2 := hj
    rcases i with _ | _ | i
    · rcases j with _ | _ | j
      · decide
      · decide
      · omega
    · rcases j with _ | _ | j
      · decide
      · decide
      · omega
    · omega⟩)
  rw [ex_eq] at KT
  have E3 := Lib.hid b3
  clear hV b1 b2 b3 B1 B2 B3 R1
  refine KT.mono ?_
  rintro e V2 ⟨rfl, hb⟩
  have E4 := Lib.hid (E3.out.trans (hb.mono E3.out.size))
  clear hb
  go_wp2_with fail
  go_ret
  exact ⟨rfl, E4.out⟩
end Go.Proofs.YtkonghjmipclmaaDoor
