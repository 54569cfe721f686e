/- The walk of BitsShift: it answers true for every input, and leaves all old blocks as they were. No condition but the laid tables, which are tied to the text. -/
import Derived.Test.YtcofafiacpecnabDoorRows
import Derived.Test.YtcofafiacpecnabDoorRowKit
import Derived.Test.YtcofafiacpecnabDoorRowS
import Derived.Test.YtcofafiacpecnabDoorSlicesEq
import Derived.Test.YtcofafiacpecnabDoorRowL
import Derived.Test.YtcofafiacpecnabDoorMakeI
import Derived.Test.YtcofafiacpecnabDoorBlocks
import Derived.Test.YtcofafiacpecnabDoorBitsMath
import Derived.Test.YtcofafiacpecnabDoorBitsA2
import Derived.Test.YtcofafiacpecnabDoorBitsD
import Derived.Test.YtcofafiacpecnabDoorBitsE
import Derived.Test.YtcofafiacpecnabDoorBitsF
import Derived.Test.YtcofafiacpecnabDoorBitsG
import Derived.Test.YtcofafiacpecnabDoorBitsH
import Derived.Test.YtcofafiacpecnabDoorBitsI
import Derived.Test.YtcofafiacpecnabDoorBitsJ
import Derived.Test.YtcofafiacpecnabDoorBitsK
import Derived.Test.YtcofafiacpecnabDoorBitsL
import Derived.Test.YtcofafiacpecnabDoorBitsN
import Derived.WalkKit
import Derived.ProofKit
import Derived.OpenShut
import Derived.Deep.QuietTactic
import Derived.BigQuiet
import Derived.Lib.SmallJoins
import Derived.Lib.Hide
import Derived.WalkSpells
import Derived.WalkLawsBesides
import Derived.IntWalk
import Derived.Deep.RegionHeld3
import Derived.Lib.LaidU8
import Derived.Lib.LaidTab
import Derived.Lib.TrailingZeros
namespace Go.Proofs.YtcofafiacpecnabDoor.bitsShift
open Go.ChangeShapes Go.WideShapes Go.ChangeAt Go.RowKit Go.Joins
set_option linter.unusedSimpArgs false
set_option linter.unusedVariables false

theorem bz_gT : Tryd.prog.globalNamed "math/bits.deBruijn64tab" = some 0 := by kernel_rfl
theorem bz_gTType : (Tryd.prog.globals[0]?).map (·.type) = some 56 := by kernel_rfl
theorem tz_of_laid {w : World} (h0 : laidMetH Tryd.prog Rows.bitsShiftRow.laid w) : TzC w := by
  have h : laidMet Tryd.prog Rows.bitsShiftRow.laid w := h0
  obtain ⟨g', t', cs, fuel, p, hg', ht', hvar, hd⟩ := Lib.laidMet.reads h (.head _)
  obtain rfl := Option.some.inj (bz_gT.symm.trans hg')
  obtain rfl := Option.some.inj (bz_gTType.symm.trans ht')
  have e := Lib.cells_of_tab (zs := Lib.deBruijn64tab.map Int.ofNat) Tryd.underlying56 Tryd.underlying5 (by kernel_rfl) (by kernel_rfl) hd
  unfold World.var? at hvar
  rw [bz_gT] at hvar
  simp only [Option.bind_some] at hvar
  split at hvar
  · rename_i cs' t fr hg
    cases hvar
    show w.cell? _ = _
    rw [cell_of_row w _ 63 cs t fr hg, ← Array.getElem?_toList, e]
    rfl
  · cases hvar
theorem walk_f (F : Nat → Bool) (k : Int) (w : World) (hT : TzC w) :
    Calls Tryd.prog 6 #[setV F, .int .i64 k] w fun e w' => e = .returned (.bool true) ∧ Below w.heap.size w w' := by
  have HT := Lib.hid hT
  have PS := shift_any F k
  have DS := rshift_any F k
  unfold setV at PS DS ⊢
  obtain ⟨x, hX⟩ : ∃ x, wordX F = x := ⟨_, rfl⟩
  obtain ⟨y, hY⟩ : ∃ y, wordY F = y := ⟨_, rfl⟩
  obtain ⟨x', hX'⟩ : ∃ x, wordX (shF F k) = x := ⟨_, rfl⟩
  obtain ⟨y', hY'⟩ : ∃ y, wordY (shF F k) = y := ⟨_, rfl⟩
  rw [hX, hY, hX', hY'] at PS DS
  rw [hX, hY]
  have PSh := Lib.hid PS
  have DSh := Lib.hid DS
  have EQ := set_same x' y'
  clear hX hY hX' hY' PS DS
  go_enter Tryd.func6, Tryd.ntmps6
  go_wp2_with fail
  have B1 := Blk.new w #[(.int .u64 x : Value), .int .u64 y] 24
  have BE := (Below.refl w.heap.size w).alloc (Nat.le_refl _) (.cells #[(.int .u64 x : Value), .int .u64 y] 24)
  obtain ⟨V, hV⟩ : ∃ V, w.alloc (.cells #[(.int .u64 x : Value), .int .u64 y] 24) = V := ⟨_, rfl⟩
  rw [hV] at B1 BE ⊢
  obtain ⟨c0, c1, _, _⟩ := B1.two
  have BEh := Lib.hid BE
  clear hV B1 BE
  go_region_held3 (fun W => W.cell? ⟨w.heap.size, 0, none⟩ = some (.int .u64 x) ∧ W.cell? ⟨w.heap.size, 1, none⟩ = some (.int .u64 y))
    (go_keep)
    (first
      | (go_at_call 29; refine (PSh.out V.drew).mono ?_; rintro e w2 ⟨rfl, hb2⟩; have n0 := Lib.hid (bkeep (w := V.drew) hb2 c0); have n1 := Lib.hid (bkeep (w := V.drew) hb2 c1); clear c0 c1; have c0 := n0.out; have c1 := n1.out; have E2 := Lib.hid (BEh.out.drew.trans (hb2.mono BEh.out.drew.size)))
      | (go_at_call 30; refine (DSh.out w2).mono ?_; rintro e w3 ⟨rfl, hb3⟩; have n2 := Lib.hid (bkeep hb3 c0); have n3 := Lib.hid (bkeep hb3 c1); clear c0 c1; have c0 := n2.out; have c1 := n3.out; have E3 := Lib.hid (E2.out.trans (hb3.mono E2.out.size)))
      | (go_at_call 16; refine (balive w3 (HT.out.kept E3.out)).mono ?_; rintro e w4 ⟨rfl, hb4⟩; have n4 := Lib.hid (bkeep hb4 c0); have n5 := Lib.hid (bkeep hb4 c1); clear c0 c1; have c0 := n4.out; have c1 := n5.out; have E4 := Lib.hid (E3.out.trans (hb4.mono E3.out.size))))
  go_wp2_with fail
  go_ret
  exact ⟨rfl, E4.out⟩
theorem walk {a b k : Int} (w0 : (Lit.int .u64 a).wf = true) (w1 : (Lit.int .u64 b).wf = true) (_ : (Lit.int .i64 k).wf = true) (w : World) (hL : laidMetH Tryd.prog Rows.bitsShiftRow.laid w) :
    Calls Tryd.prog 6 #[.agg #[.int .u64 a, .int .u64 b], .int .i64 k] w fun e w' => e = .returned (.bool true) ∧ Below w.heap.size w w' := by
  have ha : 0 ≤ a ∧ a ≤ 18446744073709551615 := by simpa [Lit.wf, IntKind.min, IntKind.max, IntKind.signed, IntKind.bits] using w0
  have hb : 0 ≤ b ∧ b ≤ 18446744073709551615 := by simpa [Lit.wf, IntKind.min, IntKind.max, IntKind.signed, IntKind.bits] using w1
  obtain ⟨x, rfl⟩ := Int.eq_ofNat_of_zero_le ha.1
  obtain ⟨y, rfl⟩ := Int.eq_ofNat_of_zero_le hb.1
  have := walk_f (mem x y) k w (tz_of_laid hL)
  rwa [← setV_mem (by omega) (by omega)] at this

end Go.Proofs.YtcofafiacpecnabDoor.bitsShift
