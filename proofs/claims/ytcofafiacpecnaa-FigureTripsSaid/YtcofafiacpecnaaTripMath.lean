/- Trips: how far each is, how many are, how long all rode. Plain numbers. -/
import Derived.Test.YtcofafiacpecnaaRows
import Derived.WalkKit
import Derived.Lib.Hide
namespace Go.Proofs.Ytcofafiacpecnaa
set_option linter.unusedVariables false
/-- how far one is, by Board and Alight -/
def phaseV (b a : Int) : Int := if 0 ≤ a then 2 else if 0 ≤ b then 1 else 0
theorem phase_done {b a : Int} (h : 0 ≤ a) : phaseV b a = 2 := by unfold phaseV; rw [if_pos h]
theorem phase_ride {b a : Int} (h : ¬ 0 ≤ a) (h' : 0 ≤ b) : phaseV b a = 1 := by unfold phaseV; rw [if_neg h, if_pos h']
theorem phase_wait {b a : Int} (h : ¬ 0 ≤ a) (h' : ¬ 0 ≤ b) : phaseV b a = 0 := by unfold phaseV; rw [if_neg h, if_neg h']
theorem phase_bd (b a : Int) : 0 ≤ phaseV b a ∧ phaseV b a ≤ 2 := by unfold phaseV; split <;> (try split) <;> omega
def cntS (d : Nat → Bool) : Nat → Nat
  | 0 => 0
  | k + 1 => cntS d k + (if d k then 1 else 0)
/-- how many of the first k are so far -/
def cntV (z : Nat → Nat → Int) (p : Int) (k : Nat) : Nat := cntS (fun i => phaseV (z i 5) (z i 6) == p) k
theorem cnt_zero (z : Nat → Nat → Int) (p : Int) : cntV z p 0 = 0 := rfl
theorem cnt_succ (z : Nat → Nat → Int) (p : Int) (k : Nat) : cntV z p (k + 1) = cntV z p k + (if phaseV (z k 5) (z k 6) == p then 1 else 0) := rfl
theorem cnt_yes {z : Nat → Nat → Int} {p : Int} {k : Nat} (h : phaseV (z k 5) (z k 6) = p) : cntV z p (k + 1) = cntV z p k + 1 := by rw [cnt_succ, if_pos (by rw [beq_iff_eq]; exact h)]
theorem cnt_no {z : Nat → Nat → Int} {p : Int} {k : Nat} (h : ¬ phaseV (z k 5) (z k 6) = p) : cntV z p (k + 1) = cntV z p k := by
  rw [cnt_succ, if_neg (by rw [beq_iff_eq]; exact h)]; rfl
theorem cnt_le (z : Nat → Nat → Int) (p : Int) : ∀ k, cntV z p k ≤ k
  | 0 => Nat.le_refl _
  | k + 1 => by
    have := cnt_le z p k
    by_cases h : phaseV (z k 5) (z k 6) = p
    · rw [cnt_yes h]; omega
    · rw [cnt_no h]; omega
theorem cnt_all (z : Nat → Nat → Int) : ∀ k, cntV z 2 k + cntV z 1 k + cntV z 0 k = k
  | 0 => rfl
  | k + 1 => by
    have := cnt_all z k
    rcases (show phaseV (z k 5) (z k 6) = 2 ∨ phaseV (z k 5) (z k 6) = 1 ∨ phaseV (z k 5) (z k 6) = 0 by have := phase_bd (z k 5) (z k 6); omega) with h | h | h
    · rw [cnt_yes h, cnt_no (p := 1) (by omega), cnt_no (p := 0) (by omega)]; omega
    · rw [cnt_yes h, cnt_no (p := 2) (by omega), cnt_no (p := 0) (by omega)]; omega
    · rw [cnt_yes h, cnt_no (p := 2) (by omega), cnt_no (p := 1) (by omega)]; omega
/-- a number of each of the first k who are done -/
def doneS (d : Nat → Bool) (f : Nat → Int) : Nat → List Int
  | 0 => []
  | k + 1 => if d k then doneS d f k ++ [f k] else doneS d f k
def doneV (z : Nat → Nat → Int) (x y : Nat) (k : Nat) : List Int := doneS (fun i => decide (0 ≤ z i 6)) (fun i => z i x - z i y) k
theorem done_zero (z : Nat → Nat → Int) (x y : Nat) : doneV z x y 0 = [] := rfl
theorem done_yes {z : Nat → Nat → Int} {x y k : Nat} (h : 0 ≤ z k 6) : doneV z x y (k + 1) = doneV z x y k ++ [z k x - z k y] := by
  show (if decide (0 ≤ z k 6) = true then _ else _) = _
  rw [if_pos (by rw [decide_eq_true_iff]; exact h)]; rfl
theorem done_no {z : Nat → Nat → Int} {x y k : Nat} (h : ¬ 0 ≤ z k 6) : doneV z x y (k + 1) = doneV z x y k := by
  show (if decide (0 ≤ z k 6) = true then _ else _) = _
  rw [if_neg (by rw [decide_eq_true_iff]; exact h)]; rfl
theorem done_len (z : Nat → Nat → Int) (x y : Nat) : ∀ k, (doneV z x y k).length ≤ k
  | 0 => Nat.le_refl _
  | k + 1 => by
    have := done_len z x y k
    by_cases h : 0 ≤ z k 6
    · rw [done_yes h, List.length_append]; simp only [List.length_singleton]; omega
    · rw [done_no h]; omega
/-- how long one rode ahead of a tick -/
def rodeV (u b a : Int) : Int := if b < 0 ∨ u ≤ b then 0 else max 0 ((if 0 ≤ a then min u a else u) - b)
theorem rode_bd {u b a : Int} (hu : u ≤ 1073741824) : 0 ≤ rodeV u b a ∧ rodeV u b a ≤ 1073741824 := by
  unfold rodeV; split
  · omega
  · split <;> omega
def rodeS (f : Nat → Int) : Nat → Int
  | 0 => 0
  | k + 1 => rodeS f k + f k
def aboardV (z : Nat → Nat → Int) (u : Int) (k : Nat) : Int := rodeS (fun i => rodeV u (z i 5) (z i 6)) k
theorem aboard_zero (z : Nat → Nat → Int) (u : Int) : aboardV z u 0 = 0 := rfl
theorem aboard_succ (z : Nat → Nat → Int) (u : Int) (k : Nat) : aboardV z u (k + 1) = aboardV z u k + rodeV u (z k 5) (z k 6) := rfl
theorem aboard_bd (z : Nat → Nat → Int) {u : Int} (hu : u ≤ 1073741824) : ∀ k, 0 ≤ aboardV z u k ∧ aboardV z u k ≤ k * 1073741824
  | 0 => by rw [aboard_zero]; omega
  | k + 1 => by have := aboard_bd z hu k; have := rode_bd (b := z k 5) (a := z k 6) hu; rw [aboard_succ]; omega
end Go.Proofs.Ytcofafiacpecnaa
