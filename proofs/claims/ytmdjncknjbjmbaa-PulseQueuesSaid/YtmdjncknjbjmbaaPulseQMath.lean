/- Layer 63: how many wait behind each tick: by differences, and one by one. Plain numbers. -/
import Derived.Test.YtmdjncknjbjmbaaRows
import Derived.Test.YtmdjncknjbjmbaaRowKit
import Derived.Test.YtmdjncknjbjmbaaRowL
import Derived.WalkKit
import Derived.Lib.Hide
namespace Go.Proofs.Ytmdjncknjbjmbaa
open Go.RowKit
set_option linter.unusedVariables false
/-- when those got out who did, of the first k -/
def outsV (z : Nat → Nat → Int) : Nat → List Int
  | 0 => []
  | k + 1 => if 0 ≤ z k 6 then outsV z k ++ [z k 6] else outsV z k
theorem outs_yes {z : Nat → Nat → Int} {k : Nat} (h : 0 ≤ z k 6) : outsV z (k + 1) = outsV z k ++ [z k 6] := if_pos h
theorem outs_no {z : Nat → Nat → Int} {k : Nat} (h : ¬ 0 ≤ z k 6) : outsV z (k + 1) = outsV z k := if_neg h
theorem outs_len (z : Nat → Nat → Int) : ∀ k, (outsV z k).length ≤ k
  | 0 => Nat.le_refl _
  | k + 1 => by
    have := outs_len z k
    by_cases h : 0 ≤ z k 6
    · rw [outs_yes h, List.length_append]; show _ + 1 ≤ _; omega
    · rw [outs_no h]; omega
/-- from which tick on, and up to which, one waits, ahead of a horizon -/
def bgV (z : Nat → Nat → Int) (j : Nat) : Int := max 0 (z j 1)
def enV (z : Nat → Nat → Int) (H : Nat) (j : Nat) : Int := if 0 ≤ z j 5 then min (H : Int) (z j 5) else H
/-- how many more, or fewer, wait than behind the tick ahead, by the first k -/
def dlt (z : Nat → Nat → Int) (H : Nat) : Nat → Nat → Int
  | 0, _ => 0
  | k + 1, t => if bgV z k < enV z H k then (if (t : Int) = bgV z k then dlt z H k t + 1 else if (t : Int) = enV z H k then dlt z H k t - 1 else dlt z H k t) else dlt z H k t
theorem dlt_bd (z : Nat → Nat → Int) (H : Nat) : ∀ k t : Nat, -(k : Int) ≤ dlt z H k t ∧ dlt z H k t ≤ k
  | 0, t => by show -((0 : Nat) : Int) ≤ 0 ∧ (0 : Int) ≤ ((0 : Nat) : Int); omega
  | k + 1, t => by
    have := dlt_bd z H k t
    unfold dlt
    split
    · split
      · omega
      · split <;> omega
    · omega
/-- how many wait behind a tick, of the first k -/
def cntW (z : Nat → Nat → Int) (t : Nat) : Nat → Int
  | 0 => 0
  | k + 1 => if z k 1 ≤ t ∧ (z k 5 < 0 ∨ (t : Int) < z k 5) then cntW z t k + 1 else cntW z t k
theorem cntW_yes {z : Nat → Nat → Int} {t k : Nat} (h : z k 1 ≤ t ∧ (z k 5 < 0 ∨ (t : Int) < z k 5)) : cntW z t (k + 1) = cntW z t k + 1 := if_pos h
theorem cntW_no {z : Nat → Nat → Int} {t k : Nat} (h : ¬ (z k 1 ≤ t ∧ (z k 5 < 0 ∨ (t : Int) < z k 5))) : cntW z t (k + 1) = cntW z t k := if_neg h
theorem cntW_bd (z : Nat → Nat → Int) (t : Nat) : ∀ k, 0 ≤ cntW z t k ∧ cntW z t k ≤ k
  | 0 => by show (0 : Int) ≤ 0 ∧ (0 : Int) ≤ ((0 : Nat) : Int); omega
  | k + 1 => by
    have := cntW_bd z t k
    unfold cntW
    split <;> omega
/-- all up to a tick together -/
def sumD (f : Nat → Int) : Nat → Int
  | 0 => f 0
  | t + 1 => sumD f t + f (t + 1)
theorem sumD_at (a : Int) (h0 : 0 ≤ a) : ∀ t : Nat, sumD (fun s => if (s : Int) = a then 1 else 0) t = if a ≤ t then 1 else 0
  | 0 => by
    show (if ((0 : Nat) : Int) = a then (1 : Int) else 0) = _
    split <;> split <;> omega
  | t + 1 => by
    show sumD _ t + (if ((t + 1 : Nat) : Int) = a then (1 : Int) else 0) = _
    rw [sumD_at a h0 t]
    split <;> split <;> split <;> omega
theorem sumD_lin (f g h : Nat → Int) (c : ∀ s, f s = g s + h s) : ∀ t, sumD f t = sumD g t + sumD h t
  | 0 => c 0
  | t + 1 => by
    show sumD f t + f (t + 1) = (sumD g t + g (t + 1)) + (sumD h t + h (t + 1))
    rw [sumD_lin f g h c t, c]; omega
theorem sumD_neg (f g : Nat → Int) (c : ∀ s, f s = - g s) : ∀ t, sumD f t = - sumD g t
  | 0 => c 0
  | t + 1 => by
    show sumD f t + f (t + 1) = - (sumD g t + g (t + 1))
    rw [sumD_neg f g c t, c]; omega
theorem sumD_zero (t : Nat) : sumD (fun _ => 0) t = 0 := by
  induction t with
  | zero => rfl
  | succ t ih => show sumD _ t + 0 = 0; rw [ih]; rfl
/-- the differences summed up: those who wait -/
theorem sumD_cnt (z : Nat → Nat → Int) (H t : Nat) (ht : t < H) : ∀ k, sumD (dlt z H k) t = cntW z t k
  | 0 => sumD_zero t
  | k + 1 => by
    have ih := sumD_cnt z H t ht k
    have hb0 : 0 ≤ bgV z k := by unfold bgV; omega
    by_cases hlt : bgV z k < enV z H k
    · have he0 : 0 ≤ enV z H k := by omega
      have e : sumD (dlt z H (k + 1)) t = sumD (dlt z H k) t + (sumD (fun s => if (s : Int) = bgV z k then 1 else 0) t + sumD (fun s => - (if (s : Int) = enV z H k then 1 else 0)) t) := by
        rw [← sumD_lin (fun s => (if (s : Int) = bgV z k then 1 else 0) + - (if (s : Int) = enV z H k then 1 else 0)) _ _ (fun s => rfl) t]
        refine sumD_lin _ _ _ (fun s => ?_) t
        show (if bgV z k < enV z H k then _ else _) = _
        rw [if_pos hlt]
        by_cases h1 : (s : Int) = bgV z k
        · rw [if_pos h1, if_pos h1, if_neg (by omega)]; omega
        · rw [if_neg h1, if_neg h1]
          by_cases h2 : (s : Int) = enV z H k
          · rw [if_pos h2, if_pos h2]; omega
          · rw [if_neg h2, if_neg h2]; omega
      rw [e, ih, sumD_at _ hb0, sumD_neg _ (fun s => if (s : Int) = enV z H k then 1 else 0) (fun s => rfl), sumD_at _ he0]
      have hB : bgV z k = max 0 (z k 1) := rfl
      have hE : (0 ≤ z k 5 ∧ enV z H k = min (H : Int) (z k 5)) ∨ (¬ 0 ≤ z k 5 ∧ enV z H k = H) := by
        unfold enV
        split
        · exact .inl ⟨by assumption, rfl⟩
        · exact .inr ⟨by assumption, rfl⟩
      obtain ⟨p, hp⟩ : ∃ p, bgV z k = p := ⟨_, rfl⟩
      obtain ⟨q, hq⟩ : ∃ q, enV z H k = q := ⟨_, rfl⟩
      rw [hp] at hB hlt ⊢
      rw [hq] at hE hlt ⊢
      clear hp hq e ih
      by_cases hc : z k 1 ≤ t ∧ (z k 5 < 0 ∨ (t : Int) < z k 5)
      · rw [cntW_yes hc, if_pos (by omega), if_neg (by omega)]; omega
      · rw [cntW_no hc]
        split <;> split <;> omega
    · have e : dlt z H (k + 1) = dlt z H k := funext fun s => by
        show (if bgV z k < enV z H k then _ else _) = _
        rw [if_neg hlt]
      rw [e, ih, cntW_no]
      unfold bgV enV at hlt
      split at hlt <;> omega
/-- summed up below m, not yet from there on -/
def row2 (f : Nat → Int) (m j : Nat) : Int := if j < m then sumD f j else f j
theorem row2_one (f : Nat → Int) (n : Nat) : rowL (row2 f 1) n = rowL f n := rowL_congr fun j _ => by
  unfold row2
  split
  · rw [show j = 0 by omega]; rfl
  · rfl
theorem row2_next (f : Nat → Int) (m n : Nat) (hm : 1 ≤ m) : (rowL (row2 f m) n).set m (row2 f m m + row2 f m (m - 1)) = rowL (row2 f (m + 1)) n := by
  rw [rowL_set]
  refine rowL_congr fun j _ => ?_
  obtain ⟨p, rfl⟩ : ∃ p, m = p + 1 := ⟨m - 1, by omega⟩
  by_cases h : j = p + 1
  · subst h
    show (if p + 1 = p + 1 then _ else _) = _
    unfold row2
    rw [if_pos rfl, if_neg (by omega), if_pos (by omega), if_pos (by omega)]
    show f (p + 1) + sumD f p = sumD f p + f (p + 1)
    omega
  · show (if j = p + 1 then _ else row2 f (p + 1) j) = _
    rw [if_neg h]
    unfold row2
    by_cases h2 : j < p + 1
    · rw [if_pos h2, if_pos (by omega)]
    · rw [if_neg h2, if_neg (by omega)]
end Go.Proofs.Ytmdjncknjbjmbaa
