/- The example of the sets: From and Below there. -/
import Derived.Test.YteebeiflipfbkaaDoorRows
import Derived.Test.YteebeiflipfbkaaDoorRowKit
import Derived.Test.YteebeiflipfbkaaDoorShelf
import Derived.Test.YteebeiflipfbkaaDoorBlocks
import Derived.Test.YteebeiflipfbkaaDoorBitsMath
import Derived.Test.YteebeiflipfbkaaDoorBitsA2
import Derived.Test.YteebeiflipfbkaaDoorBitsD
import Derived.Test.YteebeiflipfbkaaDoorBitsJ
import Derived.WalkKit
import Derived.IntWalk
import Derived.Lib.Hide
import Derived.WalkSpells
import Derived.WalkLawsBesides
import Derived.Laws.CopyOwn
import Derived.Deep.QuietTactic
import Derived.Deep.RegionHeld3
import Derived.BigQuiet
import Derived.BigRegion
namespace Go.Proofs.YteebeiflipfbkaaDoor
open Go.RowKit
set_option linter.unusedSimpArgs false
set_option linter.unusedVariables false
theorem bkeep {w w' : World} {g i : Nat} {v : Value} (hb : Below w.heap.size w w') (h : w.cell? ⟨g, i, none⟩ = some v) : w'.cell? ⟨g, i, none⟩ = some v := (hb.cell (lt_of_cell h)).trans h
set_option maxRecDepth 100000 in
set_option maxHeartbeats 1000000 in
theorem from_ex (w : World) : Calls Tryd.prog 32 #[.agg #[.int .u64 8, .int .u64 64], .int .i64 4] w fun e w' => e = .returned (.agg #[.int .u64 0, .int .u64 64]) ∧ Below w.heap.size w w' := by
  have E0 := Lib.hid (show bits .andNot .u64 8 15 = 0 by decide +kernel)
  have E1 := Lib.hid (show bits .andNot .u64 64 0 = 64 by decide +kernel)
  have SU := fun w => sub_any 8 64 15 0 w
  rw [E0.out, E1.out] at SU
  have SUh := Lib.hid SU
  clear SU E0 E1
  go_enter Tryd.func32, Tryd.ntmps32
  go_wp2_with fail
  obtain ⟨B1, B2, _, BE⟩ := two_blk (w := w) (Below.refl _ ((w.alloc (.cells #[.int .u64 8, .int .u64 64] 38)).alloc (.cells #[.int .u64 0, .int .u64 0] 38)))
  obtain ⟨V, hV⟩ : ∃ V, (w.alloc (.cells #[.int .u64 8, .int .u64 64] 38)).alloc (.cells #[.int .u64 0, .int .u64 0] 38) = V := ⟨_, rfl⟩
  rw [hV] at B1 B2 BE ⊢
  obtain ⟨c0, c1, _, _⟩ := B1.two
  have B2h := Lib.hid B2
  have BEh := Lib.hid BE
  clear hV B1 B2 BE
  go_region_held3 (fun W => W.cell? ⟨w.heap.size, 0, none⟩ = some (.int .u64 8) ∧ W.cell? ⟨w.heap.size, 1, none⟩ = some (.int .u64 64))
    (go_keep)
    (first
      | (go_at_call 42; refine (lowest_4 V.drew).mono ?_; rintro e w2 ⟨rfl, hb2⟩; have n0 := Lib.hid (bkeep (w := V.drew) hb2 c0); have n1 := Lib.hid (bkeep (w := V.drew) hb2 c1); clear c0 c1; have c0 := n0.out; have c1 := n1.out; have B2i := Lib.hid (Blk.next (w := V.drew) B2h.out hb2); have BEi := Lib.hid (BEh.out.drew.trans (hb2.mono BEh.out.drew.size)))
      | (go_at_call 41; refine (SUh.out w2).mono ?_; rintro e w3 ⟨rfl, hb3⟩; have n2 := Lib.hid (bkeep hb3 c0); have n3 := Lib.hid (bkeep hb3 c1); clear c0 c1; have c0 := n2.out; have c1 := n3.out; obtain ⟨r0, r1, f0, f1⟩ := (B2i.out.next hb3).two; have BEj := Lib.hid (BEi.out.trans (hb3.mono BEi.out.size))))
  go_wp2_with fail
  refine bodyPost_ret (v := .agg #[.int .u64 0, .int .u64 64]) (by simp [results, Tryd.results32, go_sem, *]) rfl ⟨rfl, (BEj.out.setCell (by show w.heap.size ≤ w.heap.size + 1; omega) _).setCell (by show w.heap.size ≤ w.heap.size + 1; omega) _⟩
set_option maxRecDepth 100000 in
set_option maxHeartbeats 1000000 in
theorem below_ex (w : World) : Calls Tryd.prog 33 #[.agg #[.int .u64 8, .int .u64 64], .int .i64 70] w fun e w' => e = .returned (.agg #[.int .u64 8, .int .u64 0]) ∧ Below w.heap.size w w' := by
  have E0 := Lib.hid (show bits .and .u64 8 18446744073709551615 = 8 by decide +kernel)
  have E1 := Lib.hid (show bits .and .u64 64 63 = 0 by decide +kernel)
  have SU := fun w => and_any 8 64 18446744073709551615 63 w
  rw [E0.out, E1.out] at SU
  have SUh := Lib.hid SU
  clear SU E0 E1
  go_enter Tryd.func33, Tryd.ntmps33
  go_wp2_with fail
  obtain ⟨B1, B2, _, BE⟩ := two_blk (w := w) (Below.refl _ ((w.alloc (.cells #[.int .u64 8, .int .u64 64] 38)).alloc (.cells #[.int .u64 0, .int .u64 0] 38)))
  obtain ⟨V, hV⟩ : ∃ V, (w.alloc (.cells #[.int .u64 8, .int .u64 64] 38)).alloc (.cells #[.int .u64 0, .int .u64 0] 38) = V := ⟨_, rfl⟩
  rw [hV] at B1 B2 BE ⊢
  obtain ⟨c0, c1, _, _⟩ := B1.two
  have B2h := Lib.hid B2
  have BEh := Lib.hid BE
  clear hV B1 B2 BE
  go_region_held3 (fun W => W.cell? ⟨w.heap.size, 0, none⟩ = some (.int .u64 8) ∧ W.cell? ⟨w.heap.size, 1, none⟩ = some (.int .u64 64))
    (go_keep)
    (first
      | (go_at_call 42; refine (lowest_70 V.drew).mono ?_; rintro e w2 ⟨rfl, hb2⟩; have n0 := Lib.hid (bkeep (w := V.drew) hb2 c0); have n1 := Lib.hid (bkeep (w := V.drew) hb2 c1); clear c0 c1; have c0 := n0.out; have c1 := n1.out; have B2i := Lib.hid (Blk.next (w := V.drew) B2h.out hb2); have BEi := Lib.hid (BEh.out.drew.trans (hb2.mono BEh.out.drew.size)))
      | (go_at_call 43; refine (SUh.out w2).mono ?_; rintro e w3 ⟨rfl, hb3⟩; have n2 := Lib.hid (bkeep hb3 c0); have n3 := Lib.hid (bkeep hb3 c1); clear c0 c1; have c0 := n2.out; have c1 := n3.out; obtain ⟨r0, r1, f0, f1⟩ := (B2i.out.next hb3).two; have BEj := Lib.hid (BEi.out.trans (hb3.mono BEi.out.size))))
  go_wp2_with fail
  refine bodyPost_ret (v := .agg #[.int .u64 8, .int .u64 0]) (by simp [results, Tryd.results33, go_sem, *]) rfl ⟨rfl, (BEj.out.setCell (by show w.heap.size ≤ w.heap.size + 1; omega) _).setCell (by show w.heap.size ≤ w.heap.size + 1; omega) _⟩
end Go.Proofs.YteebeiflipfbkaaDoor
