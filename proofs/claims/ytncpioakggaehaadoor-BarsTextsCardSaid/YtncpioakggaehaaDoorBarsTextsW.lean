/- The walk of BarsTexts: it answers true for every input, and leaves all old blocks as they were. No condition but the laid tables, which are tied to the text. -/
import Derived.Test.YtncpioakggaehaaDoorRows
import Derived.Test.YtncpioakggaehaaDoorRowKit
import Derived.Test.YtncpioakggaehaaDoorSlicesEq
import Derived.Test.YtncpioakggaehaaDoorRowT
import Derived.Test.YtncpioakggaehaaDoorTab
import Derived.Test.YtncpioakggaehaaDoorDigB
import Derived.Test.YtncpioakggaehaaDoorBarsA
import Derived.Test.YtncpioakggaehaaDoorBarP
import Derived.Test.YtncpioakggaehaaDoorBarQ
import Derived.Test.YtncpioakggaehaaDoorBarR
import Derived.WalkKit
import Derived.ProofKit
import Derived.OpenShut
import Derived.Deep.QuietTactic
import Derived.BigQuiet
import Derived.Lib.SmallJoins
import Derived.Lib.Hide
import Derived.WalkSpells
import Derived.WalkLawsBesides
import Derived.OwnWalk
import Derived.Lib.LaidTab
import Derived.Lib.LaidU8
import Derived.IntWalk
namespace Go.Proofs.YtncpioakggaehaaDoor.barsTexts
open Go.ChangeShapes Go.WideShapes Go.ChangeAt Go.RowKit Go.Joins
set_option linter.unusedSimpArgs false
set_option linter.unusedVariables false

theorem gT : Tryd.prog.globalNamed "internal/strconv.uint64pow10" = some 3 := by kernel_rfl
theorem gTType : (Tryd.prog.globals[3]?).map (·.type) = some 110 := by kernel_rfl
theorem tab_of_laid {w : World} (h0 : laidMetH Tryd.prog Rows.barsTextsRow.laid w) : Tab w := by
  have h : laidMet Tryd.prog Rows.barsTextsRow.laid w := h0
  obtain ⟨g', t', cs, fuel, p, hg', ht', hvar, hd⟩ := Lib.laidMet.reads h (.tail _ (.tail _ (.head _)))
  obtain rfl := Option.some.inj (gT.symm.trans hg')
  obtain rfl := Option.some.inj (gTType.symm.trans ht')
  unfold Tab Lib.TabIs
  rw [hvar, ← Lib.cells_of_tab (zs := Lib.pow10Tab) Tryd.underlying110 Tryd.underlying72 (by kernel_rfl) (by kernel_rfl) hd]
set_option maxRecDepth 100000 in
set_option maxHeartbeats 4000000 in
theorem btext_len (A Z : Option Addr) (ca cz n m : Nat) (lg : Int) (w : World) (h : n ≠ m) (h1 : n ≤ 1000) (h2 : m ≤ 1000) :
    Calls Tryd.prog 6 #[.slice A n ca, .slice Z m cz, .int .i64 lg] w fun e w' => e = .returned (.tuple #[.string (bL []), .int .i64 22]) ∧ w' = w := by
  have hb : ((n : Int) != (m : Int)) = true := by rw [bne_iff_ne]; omega
  go_enter Tryd.func6, Tryd.ntmps6
  go_wp2_with fail
  go_ret2
  exact ⟨rfl, rfl⟩
set_option maxRecDepth 100000 in
set_option maxHeartbeats 4000000 in
theorem dtext_len (A Z : Option Addr) (ca cz n m : Nat) (lg : Int) (w : World) (h : n ≠ m) (h1 : n ≤ 1000) (h2 : m ≤ 1000) :
    Calls Tryd.prog 7 #[.slice A n ca, .slice Z m cz, .int .i64 lg] w fun e w' => e = .returned (.tuple #[.string (bL []), .int .i64 22]) ∧ w' = w := by
  have hb : ((n : Int) != (m : Int)) = true := by rw [bne_iff_ne]; omega
  go_enter Tryd.func7, Tryd.ntmps7
  go_wp2_with fail
  go_ret2
  exact ⟨rfl, rfl⟩
/-- both tell the same -/
def Alk (A Z : Option Addr) (ca cz n m : Nat) (lg : Int) (w : World) (v : ByteArray) (er : Int) : Prop :=
  Calls Tryd.prog 6 #[.slice A n ca, .slice Z m cz, .int .i64 lg] w (fun e w' => e = .returned (.tuple #[.string v, .int .i64 er]) ∧ Below w.heap.size w w') ∧
  ∀ W, Below w.heap.size w W → Calls Tryd.prog 7 #[.slice A n ca, .slice Z m cz, .int .i64 lg] W (fun e w' => e = .returned (.tuple #[.string v, .int .i64 er]) ∧ Below W.heap.size W w')
theorem alk_any (A Z : Option Addr) (ca cz n m : Nat) (tb : Nat → ByteArray) (zs : List Int) (lg : Int) (w : World) (hm : zs.length = m) (h30 : n ≤ 30) (h40 : m ≤ 40) (hA : RdT w A n tb) (hZ : RdI w .i64 Z zs) (hsz : ∀ i, i < n → (tb i).size ≤ 60)
    (hz : ∀ i, i < m → -9223372036854775808 ≤ zat zs i ∧ zat zs i ≤ 9223372036854775807) (hlg0 : -9223372036854775808 ≤ lg) (hlg1 : lg ≤ 9223372036854775807) (hT : Tab w) : ∃ v er, Alk A Z ca cz n m lg w v er := by
  by_cases h : n = m
  · subst h
    by_cases ok : OkB (zat zs) n lg
    · refine ⟨bL (btV tb zs n lg n), 0, (btext_any A Z ca cz n tb zs lg w hm (by omega) hA hZ hsz hz hlg0 hlg1 hT).mono ?_, fun W hb => (dtext_any A Z ca cz n tb zs lg W hm (by omega) (hA.kept hb) (hZ.kept hb) hsz hz).mono ?_⟩
      · rintro e w' ⟨v, er, rfl, hb, hy, _⟩
        obtain ⟨rfl, rfl⟩ := hy ok
        exact ⟨rfl, hb⟩
      · rintro e w' ⟨v, er, rfl, hb, hy, _⟩
        obtain ⟨rfl, rfl⟩ := hy ok
        exact ⟨rfl, hb⟩
    · refine ⟨bL [], 22, (btext_any A Z ca cz n tb zs lg w hm (by omega) hA hZ hsz hz hlg0 hlg1 hT).mono ?_, fun W hb => (dtext_any A Z ca cz n tb zs lg W hm (by omega) (hA.kept hb) (hZ.kept hb) hsz hz).mono ?_⟩
      · rintro e w' ⟨v, er, rfl, hb, _, hy⟩
        obtain ⟨rfl, rfl⟩ := hy ok
        exact ⟨rfl, hb⟩
      · rintro e w' ⟨v, er, rfl, hb, _, hy⟩
        obtain ⟨rfl, rfl⟩ := hy ok
        exact ⟨rfl, hb⟩
  · refine ⟨bL [], 22, (btext_len A Z ca cz n m lg w h (by omega) (by omega)).mono ?_, fun W _ => (dtext_len A Z ca cz n m lg W h (by omega) (by omega)).mono ?_⟩
    · rintro e w' ⟨rfl, rfl⟩
      exact ⟨rfl, Below.refl _ _⟩
    · rintro e w' ⟨rfl, rfl⟩
      exact ⟨rfl, Below.refl _ _⟩
set_option maxRecDepth 100000 in
set_option maxHeartbeats 20000000 in
theorem walk {A Z : Option Addr} {ca cz n : Nat} {tb : Nat → ByteArray} {zs : List Int} {lg : Int} {w : World} (hk1 : n ≤ ca) (hk2 : ca ≤ maxLen) (hA : RdT w A n tb) (_ : A = none → ca = 0) (hc1 : zs.length ≤ cz) (hc2 : cz ≤ maxLen) (hZ : RdI w .i64 Z zs) (wl : (Lit.int .i64 lg).wf = true) (hL : laidMetH Tryd.prog Rows.barsTextsRow.laid w) :
    Calls Tryd.prog 3 #[.slice A n ca, .slice Z zs.length cz, .int .i64 lg] w fun e w' => e = .returned (.bool true) ∧ Below w.heap.size w w' := by
  have hT := tab_of_laid hL
  clear hL
  obtain ⟨b0, b1⟩ := bounds_i64 wl
  obtain ⟨m, hm⟩ : ∃ m, zs.length = m := ⟨_, rfl⟩
  rw [hm] at hc1 ⊢
  have hM : maxLen ≤ 9223372036854775807 := by decide
  have hzb : ∀ i, i < m → -9223372036854775808 ≤ zat zs i ∧ zat zs i ≤ 9223372036854775807 := fun i hi => by
    obtain ⟨_, _, _, _, hwf⟩ := hZ i (by omega)
    exact bounds_i64 hwf
  by_cases g1 : 30 < n
  · have i1 : 30 < (n : Int) := by omega
    clear hA hZ hT hzb
    go_enter Tryd.func3, Tryd.ntmps3
    go_wp2_with fail
    go_ret
    exact ⟨rfl, Below.refl _ _⟩
  have i1 : ¬ 30 < (n : Int) := by omega
  by_cases g2 : 40 < m
  · have i2 : 40 < (m : Int) := by omega
    clear hA hZ hT hzb
    go_enter Tryd.func3, Tryd.ntmps3
    go_wp2_with fail
    go_ret
    exact ⟨rfl, Below.refl _ _⟩
  have i2 : ¬ 40 < (m : Int) := by omega
  have HAL := Lib.hid (fun hsz => alk_any A Z ca cz n m tb zs lg w hm (by omega) (by omega) hA hZ hsz hzb b0 b1 hT)
  have HA := Lib.hid hA
  have n30 : n ≤ 30 := by omega
  clear hA hZ hT hzb g1 g2 b0 b1
  go_enter Tryd.func3, Tryd.ntmps3
  go_wp2_with fail
  go_loopw [7] (fun i wr => ∃ k : Nat, k ≤ n ∧ i = .int .i64 k ∧ Hid (∀ j, j < k → (tb j).size ≤ 60) ∧ w = wr) (fun i _ => n - (intOf i).toNat)
  case atStart => exact ⟨0, Nat.zero_le _, rfl, Lib.hid (fun j hj => absurd hj (Nat.not_lt_zero _)), rfl⟩
  obtain ⟨k, hk, rfl, HS, rfl⟩ := hrel
  by_cases hkn : k < n
  · have hki : (k : Int) < (n : Int) := by omega
    obtain ⟨ba, oa, rfl, _, hca⟩ := rdT_row HA.out (by omega)
    have c0 := hca k hkn
    obtain ⟨s, hs⟩ : ∃ s, tb k = s := ⟨_, rfl⟩
    rw [hs] at c0
    have HSE := Lib.hid hs
    clear hca hs
    by_cases h60 : 60 < s.size
    · have h60i : 60 < (s.size : Int) := by omega
      clear HAL
      go_wp2_with fail
      go_ret
      exact ⟨rfl, Below.refl _ _⟩
    · have h60i : ¬ 60 < (s.size : Int) := by omega
      have HS2 : Hid (∀ j, j < k + 1 → (tb j).size ≤ 60) := Lib.hid (fun j hj => by
        by_cases q : j = k
        · rw [q, HSE.out]; omega
        · exact HS.out j (by omega))
      go_wp2_with fail
      go_roundw
      case rel => first | exact ⟨k + 1, by omega, by go_num, HS2, rfl⟩ | exact ⟨k + 1, by omega, by go_num, HS2, trivial⟩ | exact ⟨k + 1, by omega, by go_num, HS2⟩
      case measure => simp [intOf] <;> omega
  have hkn2 : k = n := by omega
  obtain ⟨v, er, h1, h2⟩ := HAL.out (fun i hi => HS.out i (by omega))
  have H1 := Lib.hid h1; have H2 := Lib.hid h2
  clear h1 h2 HAL HS
  have hki : ¬ (k : Int) < (n : Int) := by omega
  go_wp2_with fail
  refine H1.out.mono ?_
  rintro e w1 ⟨rfl, hb⟩
  have E1 := Lib.hid hb
  clear hb
  go_wp2_with fail
  refine (H2.out w1 E1.out).mono ?_
  rintro e w2 ⟨rfl, hb⟩
  have E2 := Lib.hid (E1.out.trans (hb.mono E1.out.size))
  clear hb H1 H2
  go_wp2_with fail
  refine (balive w2).mono ?_
  rintro e w3 ⟨rfl, q, rfl⟩
  go_wp2_with fail
  go_ret
  exact ⟨rfl, below_drewN E2.out q⟩

end Go.Proofs.YtncpioakggaehaaDoor.barsTexts
