/- The walk of DigitsReads: it answers true for every input, and leaves all old blocks as they were. No condition but the laid tables, which are tied to the text. -/
import Derived.Test.YtkepplkfjcoemaaDoorRows
import Derived.Test.YtkepplkfjcoemaaDoorRowKit
import Derived.Test.YtkepplkfjcoemaaDoorNumsMath
import Derived.Test.YtkepplkfjcoemaaDoorNumsA
import Derived.Test.YtkepplkfjcoemaaDoorDigA
import Derived.Test.YtkepplkfjcoemaaDoorDigB
import Derived.Test.YtkepplkfjcoemaaDoorTab
import Derived.Test.YtkepplkfjcoemaaDoorDigMath
import Derived.Test.YtkepplkfjcoemaaDoorDigC
import Derived.Test.YtkepplkfjcoemaaDoorDigD
import Derived.Test.YtkepplkfjcoemaaDoorDigE
import Derived.Test.YtkepplkfjcoemaaDoorDigF
import Derived.Test.YtkepplkfjcoemaaDoorDigG
import Derived.Test.YtkepplkfjcoemaaDoorDigH
import Derived.Test.YtkepplkfjcoemaaDoorDigI
import Derived.WalkKit
import Derived.ProofKit
import Derived.OpenShut
import Derived.Deep.QuietTactic
import Derived.BigQuiet
import Derived.Lib.SmallJoins
import Derived.Lib.Hide
import Derived.WalkSpells
import Derived.WalkLawsBesides
import Derived.IntWalk
import Derived.Lib.LaidU8
import Derived.Lib.LaidTab
namespace Go.Proofs.YtkepplkfjcoemaaDoor.digitsReads
open Go.ChangeShapes Go.WideShapes Go.ChangeAt Go.RowKit Go.Joins
set_option linter.unusedSimpArgs false
set_option linter.unusedVariables false

theorem gT : Tryd.prog.globalNamed "internal/strconv.uint64pow10" = some 1 := by kernel_rfl
theorem gTType : (Tryd.prog.globals[1]?).map (·.type) = some 85 := by kernel_rfl
theorem tab_of_laid {w : World} (h0 : laidMetH Tryd.prog Rows.digitsReadsRow.laid w) : Tab w := by
  have h : laidMet Tryd.prog Rows.digitsReadsRow.laid w := h0
  obtain ⟨g', t', cs, fuel, p, hg', ht', hvar, hd⟩ := Lib.laidMet.reads h (.tail _ (.tail _ (.head _)))
  obtain rfl := Option.some.inj (gT.symm.trans hg')
  obtain rfl := Option.some.inj (gTType.symm.trans ht')
  unfold Tab Lib.TabIs
  rw [hvar, ← Lib.cells_of_tab (zs := Lib.pow10Tab) Tryd.underlying85 Tryd.underlying32 (by kernel_rfl) (by kernel_rfl) hd]
theorem bL_of (s : ByteArray) : bL s.data.toList = s := by unfold bL; simp
set_option maxRecDepth 100000 in
set_option maxHeartbeats 2000000 in
theorem walk_long (s : ByteArray) (w : World) (hs : 200 < s.size) :
    Calls Tryd.prog 4 #[.string s] w fun e w' => e = .returned (.bool true) ∧ Below w.heap.size w w' := by
  go_enter Tryd.func4, Tryd.ntmps4
  go_wp2_with fail
  go_ret
  exact ⟨rfl, Below.refl _ _⟩
set_option maxRecDepth 100000 in
set_option maxHeartbeats 2000000 in
theorem walk_ok (s : ByteArray) (n : Int) (w : World) (ht : Tab w) (hs : s.size ≤ 200)
    (h1 : ∀ w, Calls Tryd.prog 10 #[.string s] w fun e w' => e = .returned (.tuple #[.int .i64 n, .int .i64 0]) ∧ w = w')
    (h2 : ∀ w, Calls Tryd.prog 15 #[.string s] w fun e w' => e = .returned (.tuple #[.int .i64 n, .int .i64 0]) ∧ w = w')
    (h3 : ∀ w, Hid (Tab w) → Calls Tryd.prog 11 #[.int .i64 n] w fun e w' => e = .returned (.string s) ∧ Below w.heap.size w w') :
    Calls Tryd.prog 4 #[.string s] w fun e w' => e = .returned (.bool true) ∧ Below w.heap.size w w' := by
  have H1 := Lib.hid h1
  have H2 := Lib.hid h2
  have H3 := Lib.hid h3
  have hT := Lib.hid ht
  clear ht h1 h2 h3
  go_enter Tryd.func4, Tryd.ntmps4
  go_wp2_with fail
  refine (H1.out _).mono ?_
  rintro e w' ⟨rfl, rfl⟩
  go_wp2_with fail
  refine (H2.out _).mono ?_
  rintro e w' ⟨rfl, rfl⟩
  go_wp2_with fail
  refine (H3.out _ hT).mono ?_
  rintro e w1 ⟨rfl, hb1⟩
  have t1 := Lib.hid (tab_next hT.out hb1)
  go_wp2_with fail
  refine (dgalive _ t1.out).mono ?_
  rintro e w2 ⟨rfl, hb2⟩
  go_wp2_with fail
  go_ret
  exact ⟨rfl, hb1.trans (hb2.mono hb1.size)⟩
set_option maxRecDepth 100000 in
set_option maxHeartbeats 2000000 in
theorem walk_bad (s : ByteArray) (n r : Int) (w : World) (ht : Tab w) (hs : s.size ≤ 200) (hr : r = 10 ∨ r = 20)
    (h1 : ∀ w, Calls Tryd.prog 10 #[.string s] w fun e w' => e = .returned (.tuple #[.int .i64 n, .int .i64 r]) ∧ w = w')
    (h2 : ∀ w, Calls Tryd.prog 15 #[.string s] w fun e w' => e = .returned (.tuple #[.int .i64 n, .int .i64 r]) ∧ w = w') :
    Calls Tryd.prog 4 #[.string s] w fun e w' => e = .returned (.bool true) ∧ Below w.heap.size w w' := by
  have H1 := Lib.hid h1
  have H2 := Lib.hid h2
  have hT := Lib.hid ht
  clear ht h1 h2
  rcases hr with rfl | rfl
  · go_enter Tryd.func4, Tryd.ntmps4
    go_wp2_with fail
    refine (H1.out _).mono ?_
    rintro e w' ⟨rfl, rfl⟩
    go_wp2_with fail
    refine (H2.out _).mono ?_
    rintro e w' ⟨rfl, rfl⟩
    go_wp2_with fail
    refine (dgalive _ hT.out).mono ?_
    rintro e w2 ⟨rfl, hb2⟩
    go_wp2_with fail
    go_ret
    exact ⟨rfl, hb2⟩
  · go_enter Tryd.func4, Tryd.ntmps4
    go_wp2_with fail
    refine (H1.out _).mono ?_
    rintro e w' ⟨rfl, rfl⟩
    go_wp2_with fail
    refine (H2.out _).mono ?_
    rintro e w' ⟨rfl, rfl⟩
    go_wp2_with fail
    refine (dgalive _ hT.out).mono ?_
    rintro e w2 ⟨rfl, hb2⟩
    go_wp2_with fail
    go_ret
    exact ⟨rfl, hb2⟩
theorem walk1 (s : ByteArray) (w : World) (ht : Tab w) :
    Calls Tryd.prog 4 #[.string s] w fun e w' => e = .returned (.bool true) ∧ Below w.heap.size w w' := by
  by_cases hs : 200 < s.size
  · exact walk_long s w hs
  · obtain ⟨L, rfl⟩ : ∃ L, s = bL L := ⟨s.data.toList, (bL_of s).symm⟩
    have hl : L.length ≤ 200 := by rw [bL_size] at hs; omega
    obtain ⟨n, r, h1, h2, n0, n1, hr⟩ := alike_any L hl
    rcases hr with ⟨rfl, he⟩ | hr
    · refine walk_ok (bL L) n w ht (by omega) h1 h2 (fun w t => ?_)
      have := dtx_any n w t n0 n1
      rw [he] at this
      exact this
    · exact walk_bad (bL L) n r w ht (by omega) hr h1 h2
theorem walk {s : ByteArray} (w0 : s.size ≤ maxLen) (w : World) (hL : laidMetH Tryd.prog Rows.digitsReadsRow.laid w) :
    Calls Tryd.prog 4 #[.string s] w fun e w' => e = .returned (.bool true) ∧ Below w.heap.size w w' := walk1 s w (tab_of_laid hL)

end Go.Proofs.YtkepplkfjcoemaaDoor.digitsReads
