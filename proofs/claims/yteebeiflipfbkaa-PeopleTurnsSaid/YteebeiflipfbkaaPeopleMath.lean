/- Rows of passengers, changed: later, on their heads, back, within a span (plain mathematics). -/
import Derived.Test.YteebeiflipfbkaaRows
namespace Go.Proofs.Yteebeiflipfbkaa
set_option linter.unusedVariables false
def laterP (z : Nat → Nat → Int) (n : Int) (i j : Nat) : Int := if j = 1 then z i 1 + n else z i j
def mirrorP (z : Nat → Nat → Int) (n : Int) (i j : Nat) : Int := if j = 2 then n - 1 - z i 2 else if j = 3 then n - 1 - z i 3 else z i j
def backP (z : Nat → Nat → Int) (i j : Nat) : Int := if j = 2 then z i 3 else if j = 3 then z i 2 else z i j
/-- up to k changed, from there on as they were -/
def mixP (a b : Nat → Nat → Int) (k i j : Nat) : Int := if i < k then a i j else b i j
theorem mixP_lt {a b : Nat → Nat → Int} {k i j : Nat} (h : i < k) : mixP a b k i j = a i j := by unfold mixP; rw [if_pos h]
theorem mixP_ge {a b : Nat → Nat → Int} {k i j : Nat} (h : k ≤ i) : mixP a b k i j = b i j := by unfold mixP; rw [if_neg (by omega)]
/-- those of the first k that are in a span -/
def selP (p : Nat → Bool) : Nat → List Nat
  | 0 => []
  | k + 1 => if p k then selP p k ++ [k] else selP p k
theorem selP_len (p : Nat → Bool) : ∀ k, (selP p k).length ≤ k
  | 0 => Nat.le_refl _
  | k + 1 => by
    have := selP_len p k
    show (if p k then selP p k ++ [k] else selP p k).length ≤ _
    split
    · simp; omega
    · omega
theorem selP_lt (p : Nat → Bool) : ∀ k x, x ∈ selP p k → x < k
  | 0, x, h => by cases h
  | k + 1, x, h => by
    have e : selP p (k + 1) = if p k then selP p k ++ [k] else selP p k := rfl
    rw [e] at h
    split at h
    · rcases List.mem_append.1 h with h | h
      · have := selP_lt p k x h; omega
      · simp at h; omega
    · have := selP_lt p k x h; omega
theorem selP_yes {p : Nat → Bool} {k : Nat} (h : p k = true) : selP p (k + 1) = selP p k ++ [k] := by
  show (if p k then selP p k ++ [k] else selP p k) = _
  rw [if_pos h]
theorem selP_no {p : Nat → Bool} {k : Nat} (h : p k = false) : selP p (k + 1) = selP p k := by
  show (if p k then selP p k ++ [k] else selP p k) = _
  rw [if_neg (by simp [h])]
/-- the chosen, as they are; the chosen, numbered anew -/
def pickP (z : Nat → Nat → Int) (l : List Nat) (i j : Nat) : Int := z (l.getD i 0) j
def numP (f : Nat → Nat → Int) (i j : Nat) : Int := if j = 0 then (i : Int) else f i j
theorem pickP_old {z : Nat → Nat → Int} {l : List Nat} {x i j : Nat} (h : i < l.length) : pickP z (l ++ [x]) i j = pickP z l i j := by
  unfold pickP
  rw [List.getD_eq_getElem?_getD, List.getD_eq_getElem?_getD, List.getElem?_append_left h]
theorem pickP_new {z : Nat → Nat → Int} {l : List Nat} {x j : Nat} : pickP z (l ++ [x]) l.length j = z x j := by
  unfold pickP
  rw [List.getD_eq_getElem?_getD, List.getElem?_append_right (Nat.le_refl _)]
  simp
theorem numP_old {z : Nat → Nat → Int} {l : List Nat} {x i j : Nat} (h : i < l.length) : numP (pickP z (l ++ [x])) i j = numP (pickP z l) i j := by
  unfold numP
  split
  · rfl
  · exact pickP_old h
/-- how many go up -/
def upP (z : Nat → Nat → Int) : Nat → Nat
  | 0 => 0
  | k + 1 => if z k 2 < z k 3 then upP z k + 1 else upP z k
theorem upP_le (z : Nat → Nat → Int) : ∀ k, upP z k ≤ k
  | 0 => Nat.le_refl _
  | k + 1 => by
    have := upP_le z k
    show (if z k 2 < z k 3 then upP z k + 1 else upP z k) ≤ _
    split <;> omega
end Go.Proofs.Yteebeiflipfbkaa
