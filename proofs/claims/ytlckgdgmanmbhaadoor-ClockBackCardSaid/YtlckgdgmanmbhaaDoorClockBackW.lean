/- The walk of ClockBack: it answers true for every input, and leaves all old blocks as they were. No condition but the laid tables, which are tied to the text. -/
import Derived.Test.YtlckgdgmanmbhaaDoorRows
import Derived.Test.YtlckgdgmanmbhaaDoorRowKit
import Derived.Test.YtlckgdgmanmbhaaDoorTab
import Derived.Test.YtlckgdgmanmbhaaDoorClockA
import Derived.Test.YtlckgdgmanmbhaaDoorClockB
import Derived.Test.YtlckgdgmanmbhaaDoorDigI
import Derived.Test.YtlckgdgmanmbhaaDoorClockG
import Derived.WalkKit
import Derived.ProofKit
import Derived.OpenShut
import Derived.Deep.QuietTactic
import Derived.BigQuiet
import Derived.Lib.SmallJoins
import Derived.Lib.Hide
import Derived.WalkSpells
import Derived.WalkLawsBesides
import Derived.Lib.LaidTab
import Derived.Lib.LaidU8
import Derived.IntWalk
namespace Go.Proofs.YtlckgdgmanmbhaaDoor.clockBack
open Go.ChangeShapes Go.WideShapes Go.ChangeAt Go.RowKit Go.Joins
set_option linter.unusedSimpArgs false
set_option linter.unusedVariables false

theorem gT : Tryd.prog.globalNamed "internal/strconv.uint64pow10" = some 1 := by kernel_rfl
theorem gTType : (Tryd.prog.globals[1]?).map (·.type) = some 110 := by kernel_rfl
theorem tab_of_laid {w : World} (h0 : laidMetH Tryd.prog Rows.clockBackRow.laid w) : Tab w := by
  have h : laidMet Tryd.prog Rows.clockBackRow.laid w := h0
  obtain ⟨g', t', cs, fuel, p, hg', ht', hvar, hd⟩ := Lib.laidMet.reads h (.tail _ (.tail _ (.head _)))
  obtain rfl := Option.some.inj (gT.symm.trans hg')
  obtain rfl := Option.some.inj (gTType.symm.trans ht')
  unfold Tab Lib.TabIs
  rw [hvar, ← Lib.cells_of_tab (zs := Lib.pow10Tab) Tryd.underlying110 Tryd.underlying65 (by kernel_rfl) (by kernel_rfl) hd]
set_option maxRecDepth 100000 in
set_option maxHeartbeats 2000000 in
theorem walk {t : Int} (w0 : (Lit.int .i64 t).wf = true) (w : World) (hL : laidMetH Tryd.prog Rows.clockBackRow.laid w) :
    Calls Tryd.prog 4 #[.int .i64 t] w fun e w' => e = .returned (.bool true) ∧ Below w.heap.size w w' := by
  have HT := Lib.hid (tab_of_laid hL)
  clear hL
  by_cases h0 : t < 0
  · go_enter Tryd.func4, Tryd.ntmps4
    go_wp2_with fail
    go_ret
    exact ⟨rfl, Below.refl _ _⟩
  by_cases h1 : 1099511627776 < t
  · go_enter Tryd.func4, Tryd.ntmps4
    go_wp2_with fail
    go_ret
    exact ⟨rfl, Below.refl _ _⟩
  have KT := ctext_any t w HT.out (by omega) (by omega)
  have e : ckL t = ckP t.toNat := by unfold ckL; rw [if_neg h0]; congr 1; omega
  rw [e] at KT
  have KB := fun W => back_any t.toNat (by omega) W
  rw [show ((t.toNat : Nat) : Int) = t by omega] at KB
  obtain ⟨s, hs⟩ : ∃ s, bL (ckP t.toNat) = s := ⟨_, rfl⟩
  have KT : Calls Tryd.prog 9 #[.int .i64 t] w fun e w' => e = .returned (.string s) ∧ Below w.heap.size w w' := by rw [← hs]; exact KT
  rw [hs] at KB
  have KT := Lib.hid KT; have KB := Lib.hid KB
  clear e hs
  go_enter Tryd.func4, Tryd.ntmps4
  go_wp2_with fail
  refine KT.out.mono ?_
  rintro e w1 ⟨rfl, hb⟩
  have t1 := Lib.hid (tab_next HT.out hb)
  have B1 := Lib.hid hb
  clear hb
  go_wp2_with fail
  refine (KB.out _).mono ?_
  rintro e w2 ⟨rfl, n, rfl⟩
  have b2 : Below w1.heap.size w1 (w1.drewN n) := below_drewN (Below.refl _ _) n
  have t2 := Lib.hid (tab_next t1.out b2)
  have B2 := Lib.hid (B1.out.trans (b2.mono B1.out.size))
  clear b2
  go_wp2_with fail
  refine (ckalive _ t2.out).mono ?_
  rintro e w3 ⟨rfl, hb⟩
  go_wp2_with fail
  go_ret
  exact ⟨rfl, B2.out.trans (hb.mono B2.out.size)⟩

end Go.Proofs.YtlckgdgmanmbhaaDoor.clockBack
