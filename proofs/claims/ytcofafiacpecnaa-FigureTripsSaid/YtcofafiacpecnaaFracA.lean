/- Contracts of frac.Of, Right, Least and of the document's. -/
import Derived.Test.YtcofafiacpecnaaRows
import Derived.Test.YtcofafiacpecnaaNumsMath
import Derived.Test.YtcofafiacpecnaaNumsA
import Derived.Test.YtcofafiacpecnaaNumsE
import Derived.Test.YtcofafiacpecnaaRowKit
import Derived.WalkKit
import Derived.Lib.Hide
import Derived.WalkSpells
import Derived.WalkLawsBesides
import Derived.Laws.CopyOwn
import Derived.Deep.WholeRow
import Derived.Deep.QuietTactic
import Derived.BigQuiet
namespace Go.Proofs.Ytcofafiacpecnaa
open Go.RowKit
set_option linter.unusedSimpArgs false
set_option linter.unusedVariables false
theorem bcell {W w1 : World} (hb : Below W.heap.size W w1) : (∀ b o, b < W.heap.size → w1.cell? ⟨b, o, none⟩ = W.cell? ⟨b, o, none⟩) ∧ (∀ b o, b < W.heap.size → w1.frozen? ⟨b, o, none⟩ = W.frozen? ⟨b, o, none⟩) :=
  ⟨fun b o h => hb.cell (p := ⟨b, o, none⟩) h, fun b o h => hb.frozen (p := ⟨b, o, none⟩) h⟩
/-- a quotient as the program keeps it -/
def frV (a b c : Int) : Value := .agg #[.int .i64 a, .int .i64 b, .int .i64 c]
set_option maxHeartbeats 400000 in
theorem of_neg (n m : Int) (w : World) (h : n < 0 ∨ m < 0) :
    Calls Try.prog 108 #[.int .i64 n, .int .i64 m] w fun e w' => e = .returned (.tuple #[.agg #[.int .i64 0, .int .i64 0, .int .i64 0], .int .i64 22]) ∧ Below w.heap.size w w' := by
  by_cases h1 : n < 0
  · go_enter Try.func108, Try.ntmps108
    go_wp2
    exact bodyPost_ret (v := .tuple #[.agg #[.int .i64 0, .int .i64 0, .int .i64 0], .int .i64 22]) (by simp [results, Try.results108, go_sem]) rfl ⟨rfl, (Below.refl _ _).alloc (Nat.le_refl _) _⟩
  · have h2 : m < 0 := by omega
    go_enter Try.func108, Try.ntmps108
    go_wp2
    exact bodyPost_ret (v := .tuple #[.agg #[.int .i64 0, .int .i64 0, .int .i64 0], .int .i64 22]) (by simp [results, Try.results108, go_sem]) rfl ⟨rfl, (Below.refl _ _).alloc (Nat.le_refl _) _⟩
set_option maxHeartbeats 400000 in
theorem of_zero (n : Int) (w : World) (h : 0 ≤ n) :
    Calls Try.prog 108 #[.int .i64 n, .int .i64 0] w fun e w' => e = .returned (.tuple #[.agg #[.int .i64 0, .int .i64 0, .int .i64 0], .int .i64 11]) ∧ Below w.heap.size w w' := by
  go_enter Try.func108, Try.ntmps108
  go_wp2
  exact bodyPost_ret (v := .tuple #[.agg #[.int .i64 0, .int .i64 0, .int .i64 0], .int .i64 11]) (by simp [results, Try.results108, go_sem]) rfl ⟨rfl, (Below.refl _ _).alloc (Nat.le_refl _) _⟩
set_option maxHeartbeats 400000 in
theorem of_ok (n m : Int) (w : World) (h : 0 ≤ n) (h' : 1 ≤ m) (h1 : n ≤ 9223372036854775807) :
    Calls Try.prog 108 #[.int .i64 n, .int .i64 m] w fun e w' => e = .returned (.tuple #[.agg #[.int .i64 (n / m), .int .i64 (n % m), .int .i64 m], .int .i64 0]) ∧ Below w.heap.size w w' := by
  have hz : (m == 0) = false := by simp; omega
  go_enter Try.func108, Try.ntmps108
  go_wp2
  go_region
  all_goals
    go_wp2
    exact bodyPost_ret (v := .tuple #[.agg #[.int .i64 (n / m), .int .i64 (n % m), .int .i64 m], .int .i64 0]) (by simp [results, Try.results108, go_sem]) rfl ⟨rfl, ((Below.refl _ _).alloc (Nat.le_refl _) _).drew⟩
/-- what is known of the two blocks behind a call -/
theorem two_blocks {w w1 : World} {c d : Array Value} {t s : TypeId} (hb : Below ((w.alloc (.cells c t)).alloc (.cells d s)).heap.size ((w.alloc (.cells c t)).alloc (.cells d s)) w1) :
    w1.heap[w.heap.size]? = some (.cells c t) ∧ w1.heap[w.heap.size + 1]? = some (.cells d s) ∧ w.heap.size + 2 ≤ w1.heap.size ∧ Below w.heap.size w w1 := by
  have h1 := hb.block w.heap.size (by simp; omega)
  have h2 := hb.block (w.heap.size + 1) (by simp)
  refine ⟨h1.trans ?_, h2.trans ?_, by have := hb.size; simp at this; omega, ?_⟩
  · rw [Below.heap_alloc _ _ _ (by simp)]; exact heap_alloc_last w _
  · have := heap_alloc_last (w.alloc (.cells c t)) (.cells d s); simpa using this
  · exact (((Below.refl _ _).alloc (Nat.le_refl _) _).alloc (by simp) _).trans (hb.mono (by simp; omega))
theorem blk_cell {w : World} {g : Nat} {cs : Array Value} {t : TypeId} (h : w.heap[g]? = some (.cells cs t)) (i : Nat) : w.cell? ⟨g, i, none⟩ = cs[i]? := cell_of_row w g i cs t (0, 0) h
theorem blk_frozen {w : World} {g : Nat} {cs : Array Value} {t : TypeId} (h : w.heap[g]? = some (.cells cs t)) (i : Nat) : w.frozen? ⟨g, i, none⟩ = false := by simp [World.frozen?, h]
/-- may a quotient be? -/
def rgt (a b c : Int) : Bool := decide (0 ≤ a ∧ 0 ≤ b ∧ b < c)
/-- what is left, over as little as may be -/
def lsB (a b c : Int) : Int := if rgt a b c then b / (Nat.gcd b.natAbs c.natAbs : Nat) else b
def lsC (a b c : Int) : Int := if rgt a b c then c / (Nat.gcd b.natAbs c.natAbs : Nat) else c
theorem rgt_yes {a b c : Int} (h : 0 ≤ a ∧ 0 ≤ b ∧ b < c) : rgt a b c = true := decide_eq_true h
theorem rgt_no {a b c : Int} (h : ¬ (0 ≤ a ∧ 0 ≤ b ∧ b < c)) : rgt a b c = false := decide_eq_false h
theorem keep3 {X Y : World} {g : Nat} {va vb vc : Value} (hb : Below X.heap.size X Y) (hlt : g < X.heap.size) (h : X.cell? ⟨g, 0, none⟩ = some va ∧ X.cell? ⟨g, 1, none⟩ = some vb ∧ X.cell? ⟨g, 2, none⟩ = some vc) :
    Y.cell? ⟨g, 0, none⟩ = some va ∧ Y.cell? ⟨g, 1, none⟩ = some vb ∧ Y.cell? ⟨g, 2, none⟩ = some vc ∧ g < Y.heap.size :=
  ⟨(hb.cell (p := ⟨g, 0, none⟩) hlt).trans h.1, (hb.cell (p := ⟨g, 1, none⟩) hlt).trans h.2.1, (hb.cell (p := ⟨g, 2, none⟩) hlt).trans h.2.2, Nat.lt_of_lt_of_le hlt hb.size⟩
end Go.Proofs.Ytcofafiacpecnaa
