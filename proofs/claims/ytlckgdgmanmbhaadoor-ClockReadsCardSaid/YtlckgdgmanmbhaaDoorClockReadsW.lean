/- The walk of ClockReads: it answers true for every input, and leaves all old blocks as they were. No condition but the laid tables, which are tied to the text. -/
import Derived.Test.YtlckgdgmanmbhaaDoorRows
import Derived.Test.YtlckgdgmanmbhaaDoorRowKit
import Derived.Test.YtlckgdgmanmbhaaDoorTab
import Derived.Test.YtlckgdgmanmbhaaDoorClockA
import Derived.Test.YtlckgdgmanmbhaaDoorClockB
import Derived.Test.YtlckgdgmanmbhaaDoorDigI
import Derived.Test.YtlckgdgmanmbhaaDoorClockG
import Derived.WalkKit
import Derived.ProofKit
import Derived.OpenShut
import Derived.Deep.QuietTactic
import Derived.BigQuiet
import Derived.Lib.SmallJoins
import Derived.Lib.Hide
import Derived.WalkSpells
import Derived.WalkLawsBesides
import Derived.Lib.LaidTab
import Derived.Lib.LaidU8
import Derived.IntWalk
namespace Go.Proofs.YtlckgdgmanmbhaaDoor.clockReads
open Go.ChangeShapes Go.WideShapes Go.ChangeAt Go.RowKit Go.Joins
set_option linter.unusedSimpArgs false
set_option linter.unusedVariables false

theorem gT : Tryd.prog.globalNamed "internal/strconv.uint64pow10" = some 1 := by kernel_rfl
theorem gTType : (Tryd.prog.globals[1]?).map (·.type) = some 110 := by kernel_rfl
theorem tab_of_laid {w : World} (h0 : laidMetH Tryd.prog Rows.clockReadsRow.laid w) : Tab w := by
  have h : laidMet Tryd.prog Rows.clockReadsRow.laid w := h0
  obtain ⟨g', t', cs, fuel, p, hg', ht', hvar, hd⟩ := Lib.laidMet.reads h (.tail _ (.tail _ (.head _)))
  obtain rfl := Option.some.inj (gT.symm.trans hg')
  obtain rfl := Option.some.inj (gTType.symm.trans ht')
  unfold Tab Lib.TabIs
  rw [hvar, ← Lib.cells_of_tab (zs := Lib.pow10Tab) Tryd.underlying110 Tryd.underlying65 (by kernel_rfl) (by kernel_rfl) hd]
theorem bL_of (s : ByteArray) : bL s.data.toList = s := by unfold bL; simp
set_option maxRecDepth 100000 in
set_option maxHeartbeats 2000000 in
theorem walk_long (s : ByteArray) (w : World) (hs : 100 < s.size) :
    Calls Tryd.prog 3 #[.string s] w fun e w' => e = .returned (.bool true) ∧ Below w.heap.size w w' := by
  go_enter Tryd.func3, Tryd.ntmps3
  go_wp2_with fail
  go_ret
  exact ⟨rfl, Below.refl _ _⟩
set_option maxRecDepth 100000 in
set_option maxHeartbeats 2000000 in
theorem walk_in (S : List UInt8) (w : World) (ht : Tab w) (hl : S.length ≤ 100) :
    Calls Tryd.prog 3 #[.string (bL S)] w fun e w' => e = .returned (.bool true) ∧ Below w.heap.size w w' := by
  obtain ⟨v, r, h1, h2, h3⟩ := both_any S hl
  have hs : (bL S).size ≤ 100 := by rw [bL_size]; exact hl
  have H1 := Lib.hid h1; have H2 := Lib.hid h2; have HT := Lib.hid ht
  generalize bL S = s at *
  clear h1 h2 ht hl
  go_enter Tryd.func3, Tryd.ntmps3
  go_wp2_with fail
  refine (H1.out _).mono ?_
  rintro e w1 ⟨rfl, n, rfl⟩
  have b1 : Below w.heap.size w (w.drewN n) := below_drewN (Below.refl _ _) n
  have t1 := Lib.hid (tab_next HT.out b1)
  have B1 := Lib.hid b1
  clear b1
  go_wp2_with fail
  refine (H2.out _).mono ?_
  rintro e w2 ⟨rfl, hb⟩
  have t2 := Lib.hid (tab_next t1.out hb)
  have B2 := Lib.hid (B1.out.trans (hb.mono B1.out.size))
  clear hb
  go_wp2_with fail
  refine (ckalive _ t2.out).mono ?_
  rintro e w3 ⟨rfl, hb⟩
  go_wp2_with fail
  go_ret
  exact ⟨rfl, B2.out.trans (hb.mono B2.out.size)⟩
theorem walk {s : ByteArray} (w0 : s.size ≤ maxLen) (w : World) (hL : laidMetH Tryd.prog Rows.clockReadsRow.laid w) :
    Calls Tryd.prog 3 #[.string s] w fun e w' => e = .returned (.bool true) ∧ Below w.heap.size w w' := by
  by_cases h : 100 < s.size
  · exact walk_long s w h
  · rw [← bL_of s]
    exact walk_in s.data.toList w (tab_of_laid hL) (by have e : s.data.toList.length = s.size := rfl; omega)

end Go.Proofs.YtlckgdgmanmbhaaDoor.clockReads
