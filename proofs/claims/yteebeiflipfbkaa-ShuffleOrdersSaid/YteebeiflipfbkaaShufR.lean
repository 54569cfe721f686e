/- The words that are left, by the law's own left. -/
import Derived.Test.YteebeiflipfbkaaRows
import Derived.Test.YteebeiflipfbkaaRowKit
import Derived.Test.YteebeiflipfbkaaSlicesEq
import Derived.Test.YteebeiflipfbkaaSlicesEqM
import Derived.Test.YteebeiflipfbkaaRowL
import Derived.Test.YteebeiflipfbkaaMakeI
import Derived.Test.YteebeiflipfbkaaBlocks
import Derived.Test.YteebeiflipfbkaaWordsA
import Derived.Test.YteebeiflipfbkaaShufMath
import Derived.Test.YteebeiflipfbkaaShufA
import Derived.Test.YteebeiflipfbkaaShufB
import Derived.Test.YteebeiflipfbkaaShufC
import Derived.Test.YteebeiflipfbkaaShufD
import Derived.Test.YteebeiflipfbkaaShufE
import Derived.Test.YteebeiflipfbkaaShufF
import Derived.Test.YteebeiflipfbkaaShufG
import Derived.Test.YteebeiflipfbkaaShufH
import Derived.Test.YteebeiflipfbkaaRowKit2
import Derived.WalkKit
import Derived.ProofKit
import Derived.OpenShut
import Derived.Deep.QuietTactic
import Derived.BigQuiet
import Derived.Lib.SmallJoins
import Derived.Lib.Hide
import Derived.WalkSpells
import Derived.WalkLawsBesides
import Derived.IntWalk
import Derived.OwnWalk
import Derived.Laws.CopyOwn
import Derived.Laws.MakeOwn
import Derived.Laws.OwnMore
import Derived.Deep.LoopGhost
namespace Go.Proofs.Yteebeiflipfbkaa
open Go.ChangeShapes Go.WideShapes Go.ChangeAt Go.RowKit Go.Joins
set_option linter.unusedSimpArgs false
set_option linter.unusedVariables false
/-- the word so many places behind -/
def wsF (zs : List Int) (a : Int) (j : Nat) : Int := zat zs (a.toNat + j)
theorem ws_at {zs : List Int} {a : Int} {j : Nat} (h : (j : Int) < lf zs.length a) : 0 ≤ a ∧ a.toNat + j < zs.length ∧ a + j = ((a.toNat + j : Nat) : Int) := by
  unfold lf at h
  split at h <;> omega
theorem ws_bd {zs : List Int} {a : Int} {w : World} {W : Option Addr} (hr : RdI w .u32 W zs) {j : Nat} (h : (j : Int) < lf zs.length a) : 0 ≤ wsF zs a j ∧ wsF zs a j ≤ 4294967295 := by
  obtain ⟨_, _, _, _, hw⟩ := hr _ (ws_at h).2.1
  exact bounds_u32 hw
theorem ws_cell {zs : List Int} {a : Int} {w X : World} {W : Option Addr} (hr : RdI w .u32 W zs) (hb : Below w.heap.size w X) {j : Nat} (h : (j : Int) < lf zs.length a) : ∃ b o ka : Nat, W = some ⟨b, o, none⟩ ∧ a + j = (ka : Nat) ∧ ka < zs.length ∧ X.cell? ⟨b, o + ka, none⟩ = some (.int .u32 (wsF zs a j)) := by
  obtain ⟨h0, h1, h2⟩ := ws_at h
  obtain ⟨b, o, e, _, hc⟩ := rdI_row (hr.kept hb) (by omega)
  exact ⟨b, o, _, e, h2, h1, hc _ h1⟩
/-- the words that are left -/
def LeftR (L : Nat) (ws : Nat → Int) (w : World) (e : Ending) (w' : World) : Prop := ∃ A c, e = .returned (.slice A L c) ∧ WAt w' A L ws ∧ Below w.heap.size w w'
theorem left_all (W : Option Addr) (c : Nat) (a : Int) (zs : List Int) (L : Nat) (w : World) (hr : RdI w .u32 W zs) (hl : zs.length ≤ c) (hm : c ≤ maxLen) (hL : lf zs.length a = L) (hnil : W = none → c = 0) :
    Calls Try.prog 40 #[.agg #[.slice W zs.length c, .int .i64 a]] w (LeftR L (wsF zs a) w) := by
  by_cases h : 0 ≤ a ∧ a ≤ zs.length
  · rw [lf_in h] at hL
    obtain ⟨ka, rfl⟩ := Int.eq_ofNat_of_zero_le h.1
    cases W with
    | none =>
      have hc := hnil rfl
      have hz : zs.length = 0 := by omega
      have hka : ka = 0 := by omega
      subst hc; subst hka
      rw [hz]
      refine (sleft_nil w).mono fun e w' ⟨he, hb⟩ => ⟨none, 0, ?_, fun j hj => absurd hj (by omega), hb⟩
      rw [he, show L = 0 by omega]
    | some ad =>
      by_cases hz : zs.length = 0
      · have hka : ka = 0 := by omega
        subst hka
        rw [hz]
        refine (sleft_zero ad c w hm).mono fun e w' ⟨⟨A, c', he⟩, hb⟩ => ⟨A, c', ?_, fun j hj => absurd hj (by omega), hb⟩
        rw [he, show L = 0 by omega]
      · obtain ⟨b, o, e, hlt, hc⟩ := rdI_row hr (by omega)
        cases e
        refine (sleft_in b o zs.length c ka w (by omega) hl hm).mono fun e w' ⟨⟨A, he, hA⟩, hb⟩ => ⟨A, c - ka, by rw [he, show zs.length - ka = L by omega], fun j hj => ?_, hb⟩
        refine ⟨b, o + ka, hA (by omega), Nat.lt_of_lt_of_le hlt hb.size, ?_⟩
        have := (hb.cell (p := ⟨b, o + (ka + j), none⟩) hlt).trans (hc (ka + j) (by omega))
        rw [Nat.add_assoc]
        exact this
  · rw [lf_out h] at hL
    refine (sleft_out W _ c a w h).mono fun e w' ⟨he, hb⟩ => ⟨none, 0, by rw [he, show L = 0 by omega], fun j hj => absurd hj (by omega), hb⟩
/-- the two streams in memory -/
structure TW (w X : World) (nb : Nat) (W : Option Addr) (m c : Nat) (a a' : Int) : Prop where
  b : Blk X w.heap.size 64 #[.slice W m c, .int .i64 a]
  t : Blk X nb 64 #[.slice W m c, .int .i64 a']
theorem TW.next {w X Y : World} {nb : Nat} {W : Option Addr} {m c : Nat} {a a' : Int} (h : TW w X nb W m c a a') (hb : Below X.heap.size X Y) : TW w Y nb W m c a a' := ⟨h.b.next hb, h.t.next hb⟩
end Go.Proofs.Yteebeiflipfbkaa
