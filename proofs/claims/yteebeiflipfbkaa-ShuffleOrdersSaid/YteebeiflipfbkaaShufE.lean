/- The document's Some of layer 69; plain numbers of both. -/
import Derived.Test.YteebeiflipfbkaaRows
import Derived.Test.YteebeiflipfbkaaRowKit
import Derived.Test.YteebeiflipfbkaaSlicesEq
import Derived.Test.YteebeiflipfbkaaSlicesEqM
import Derived.Test.YteebeiflipfbkaaRowL
import Derived.Test.YteebeiflipfbkaaMakeI
import Derived.Test.YteebeiflipfbkaaBlocks
import Derived.Test.YteebeiflipfbkaaShufA
import Derived.Test.YteebeiflipfbkaaShufD
import Derived.WalkKit
import Derived.IntWalk
import Derived.Lib.Hide
import Derived.WalkSpells
import Derived.WalkLawsBesides
import Derived.Deep.QuietTactic
import Derived.Deep.LoopGhost
import Derived.BigQuiet
namespace Go.Proofs.Yteebeiflipfbkaa
open Go.RowKit
set_option linter.unusedSimpArgs false
set_option linter.unusedVariables false
/-- with which place the j-th one changes -/
def atF (ws : Nat → Int) (n j : Nat) : Nat := j + (ws j * ((n : Int) - j) / 4294967296).toNat
theorem atF_eq {ws : Nat → Int} {n j : Nat} (h0 : 0 ≤ ws j) (h1 : ws j ≤ 4294967295) (hj : j < n) : (j : Int) + ws j * ((n : Int) - j) / 4294967296 = (atF ws n j : Nat) ∧ atF ws n j < n ∧ 0 ≤ ws j * ((n : Int) - j) / 4294967296 := by
  have a0 : 0 ≤ ws j * ((n : Int) - j) := Int.mul_nonneg h0 (by omega)
  have a1 : ws j * ((n : Int) - j) ≤ 4294967295 * ((n : Int) - j) := Int.mul_le_mul_of_nonneg_right h1 (by omega)
  have q0 : 0 ≤ ws j * ((n : Int) - j) / 4294967296 := Int.ediv_nonneg a0 (by omega)
  obtain ⟨x, hx⟩ : ∃ x, ws j * ((n : Int) - j) = x := ⟨_, rfl⟩
  unfold atF
  rw [hx] at a0 a1 q0 ⊢
  omega
/-- the numbers behind so many rounds -/
def someF (ws : Nat → Int) (n : Nat) : Nat → Nat → Int
  | 0 => fun i => i
  | j + 1 => swF (someF ws n j) j (atF ws n j)
theorem some_bd {ws : Nat → Int} {n : Nat} : ∀ k, (∀ j, j < k → j < n ∧ 0 ≤ ws j ∧ ws j ≤ 4294967295) → ∀ i, i < n → 0 ≤ someF ws n k i ∧ someF ws n k i < n
  | 0, _, i, hi => by show (0 : Int) ≤ (i : Int) ∧ (i : Int) < n; omega
  | k + 1, h, i, hi => by
    obtain ⟨hk, h0, h1⟩ := h k (by omega)
    have hat := (atF_eq h0 h1 hk).2.1
    have ih := some_bd k (fun j hj => h j (by omega))
    show 0 ≤ swF _ _ _ i ∧ swF _ _ _ i < n
    unfold swF
    split
    · exact ih k hk
    · split
      · exact ih _ hat
      · exact ih i hi
def tau (i k j : Nat) : Nat := if j = k then i else if j = i then k else j
theorem sw_tau (f : Nat → Int) (i k j : Nat) : swF f i k j = f (tau i k j) := by
  unfold swF tau
  split
  · rfl
  · split <;> rfl
theorem tau_lt {i k n j : Nat} (hi : i < n) (hk : k < n) (hj : j < n) : tau i k j < n := by
  unfold tau
  split
  · exact hi
  · split
    · exact hk
    · exact hj
theorem tau_inj {i k a b : Nat} (h : tau i k a = tau i k b) : a = b := by
  unfold tau at h
  split at h <;> split at h <;> (try split at h) <;> (try split at h) <;> omega
theorem some_inj {ws : Nat → Int} {n : Nat} : ∀ k, (∀ j, j < k → j < n ∧ 0 ≤ ws j ∧ ws j ≤ 4294967295) → ∀ a b, a < n → b < n → someF ws n k a = someF ws n k b → a = b
  | 0, _, a, b, _, _, e => by have e' : (a : Int) = b := e; omega
  | k + 1, h, a, b, ha, hb, e => by
    obtain ⟨hk, h0, h1⟩ := h k (by omega)
    have hat := (atF_eq h0 h1 hk).2.1
    have e' : swF (someF ws n k) k (atF ws n k) a = swF (someF ws n k) k (atF ws n k) b := e
    rw [sw_tau, sw_tau] at e'
    exact tau_inj (some_inj k (fun j hj => h j (by omega)) _ _ (tau_lt hk hat ha) (tau_lt hk hat hb) e')
theorem some_wf {ws : Nat → Int} {n : Nat} {k : Nat} (hn : n ≤ 65536) (h : ∀ j, j < k → j < n ∧ 0 ≤ ws j ∧ ws j ≤ 4294967295) {m : Nat} (hm : m ≤ n) : ∀ i, i < (rowL (someF ws n k) m).length → (Lit.int .i64 (zat (rowL (someF ws n k) m) i)).wf = true := by
  intro i hi
  rw [rowL_len] at hi
  rw [rowL_at _ hi]
  have := some_bd k h i (by omega)
  exact WalkArith.wf_i64 (by omega)
theorem some_row {ws : Nat → Int} {n j : Nat} (hj : j < n) (ha : atF ws n j < n) : rowL (swF (zat (rowL (someF ws n j) n)) j (atF ws n j)) n = rowL (someF ws n (j + 1)) n := by
  refine rowL_congr fun i hi => ?_
  show swF _ _ _ i = swF _ _ _ i
  rw [sw_tau, sw_tau, rowL_at _ (tau_lt hj ha hi)]
/-- a row's first so many -/
theorem rdI_pre {w : World} {A : Option Addr} {a : Nat → Int} {n k : Nat} (h : RdI w .i64 A (rowL a n)) (hk : k ≤ n) : RdI w .i64 A (rowL a k) := fun i hi => by
  rw [rowL_len] at hi
  obtain ⟨ad, e, hl, hc, hw⟩ := h i (by rw [rowL_len]; omega)
  rw [rowL_at _ (by omega)] at hc hw
  rw [rowL_at _ hi]
  exact ⟨ad, e, hl, hc, hw⟩
/-- the words are words -/
def WD (ws : Nat → Int) (m : Nat) : Prop := ∀ j, j < m → 0 ≤ ws j ∧ ws j ≤ 4294967295
/-- the words stand in memory -/
def WAt (w : World) (W : Option Addr) (m : Nat) (ws : Nat → Int) : Prop := ∀ j, j < m → ∃ b o, W = some ⟨b, o, none⟩ ∧ b < w.heap.size ∧ w.cell? ⟨b, o + j, none⟩ = some (.int .u32 (ws j))
theorem WAt.kept {w w' : World} {W : Option Addr} {m : Nat} {ws : Nat → Int} (h : WAt w W m ws) (hb : Below w.heap.size w w') : WAt w' W m ws := fun j hj => by
  obtain ⟨b, o, e, hl, hc⟩ := h j hj
  exact ⟨b, o, e, Nat.lt_of_lt_of_le hl hb.size, (hb.cell (p := ⟨b, o + j, none⟩) hl).trans hc⟩
/-- some numbers, and that there are as many words -/
def SomeR (k : Nat) (ys : List Int) (w : World) (e : Ending) (w' : World) : Prop := ∃ A c, e = .returned (.tuple #[.slice A k c, .bool true]) ∧ RdI w' .i64 A ys ∧ Below w.heap.size w w'
end Go.Proofs.Yteebeiflipfbkaa
