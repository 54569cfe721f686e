/- Columns: mathematics: blanks at a line's end, and the line of a row. -/
import Derived.Test.YtkonghjmipclmaaDoorRows
import Derived.Lib.TrimByte
namespace Go.Proofs.YtkonghjmipclmaaDoor
set_option linter.unusedVariables false
open Lib (trimRightB)
theorem dw_rep (c : UInt8) (M : List UInt8) : ∀ b, (List.replicate b c ++ M).dropWhile (· == c) = M.dropWhile (· == c)
  | 0 => rfl
  | b + 1 => by rw [List.replicate_succ, List.cons_append, List.dropWhile_cons, if_pos (by simp), dw_rep c M b]
theorem tr_app (L : List UInt8) (b : Nat) (c : UInt8) : trimRightB (L ++ List.replicate b c) c = trimRightB L c := by
  unfold Lib.trimRightB
  rw [List.reverse_append, List.reverse_replicate, dw_rep]
theorem tw_rep (c : UInt8) : ∀ M : List UInt8, M.takeWhile (· == c) = List.replicate (M.takeWhile (· == c)).length c
  | [] => rfl
  | x :: M => by
    rw [List.takeWhile_cons]
    by_cases h : (x == c) = true
    · rw [if_pos h, List.length_cons, List.replicate_succ, ← tw_rep c M, eq_of_beq h]
    · rw [if_neg h]; rfl
theorem tr_split (l : List UInt8) (c : UInt8) : ∃ k, l = trimRightB l c ++ List.replicate k c := by
  refine ⟨(l.reverse.takeWhile (· == c)).length, ?_⟩
  unfold Lib.trimRightB
  have h := List.takeWhile_append_dropWhile (p := (· == c)) (l := l.reverse)
  have h2 := congrArg List.reverse h
  rw [List.reverse_append, List.reverse_reverse] at h2
  rw [← List.reverse_replicate, ← tw_rep]
  exact h2.symm
theorem tr_len (l : List UInt8) (c : UInt8) : (trimRightB l c).length ≤ l.length := by
  obtain ⟨k, hk⟩ := tr_split l c
  have := congrArg List.length hk
  rw [List.length_append] at this; omega
theorem tr_parts (l : List UInt8) (c : UInt8) : l = trimRightB l c ++ List.replicate (l.length - (trimRightB l c).length) c := by
  obtain ⟨k, hk⟩ := tr_split l c
  have h := congrArg List.length hk
  rw [List.length_append, List.length_replicate] at h
  rw [show l.length - (trimRightB l c).length = k by omega]; exact hk
theorem dw_head (c : UInt8) : ∀ M : List UInt8, M.dropWhile (· == c) = [] ∨ ∃ y r, M.dropWhile (· == c) = y :: r ∧ y ≠ c
  | [] => Or.inl rfl
  | x :: M => by
    rw [List.dropWhile_cons]
    by_cases h : (x == c) = true
    · rw [if_pos h]; exact dw_head c M
    · rw [if_neg h]; exact Or.inr ⟨x, M, rfl, fun e => h (by rw [e]; simp)⟩
/-- does it end in nothing, or in another byte? -/
def NoEnd (L : List UInt8) (c : UInt8) : Prop := L = [] ∨ ∃ X y, L = X ++ [y] ∧ y ≠ c
theorem tr_noEnd (l : List UInt8) (c : UInt8) : NoEnd (trimRightB l c) c := by
  unfold Lib.trimRightB
  rcases dw_head c l.reverse with h | ⟨y, r, h, hy⟩
  · left; rw [h]; rfl
  · right; exact ⟨r.reverse, y, by rw [h, List.reverse_cons], hy⟩
theorem noEnd_fix {L : List UInt8} {c : UInt8} (h : NoEnd L c) : trimRightB L c = L := by
  rcases h with rfl | ⟨X, y, rfl, hy⟩
  · rfl
  · unfold Lib.trimRightB
    rw [List.reverse_append, List.reverse_singleton, List.singleton_append, List.dropWhile_cons, if_neg (by simpa using hy), List.reverse_cons, List.reverse_reverse]
theorem noEnd_app (X : List UInt8) {s : List UInt8} {c : UInt8} (h : NoEnd s c) (h0 : s ≠ []) : NoEnd (X ++ s) c := by
  rcases h with h | ⟨Y, y, rfl, hy⟩
  · exact absurd h h0
  · exact Or.inr ⟨X ++ Y, y, by rw [List.append_assoc], hy⟩
theorem rep_add (a b : Nat) : List.replicate (a + b) (32 : UInt8) = List.replicate a 32 ++ List.replicate b 32 := List.replicate_append_replicate.symm
/-- how many blanks a text lacks -/
def lkC (wd : Nat → Int) (nw : Nat) (t : Nat → List UInt8) (i : Nat) : Nat := if i < nw then (wd i - (t i).length).toNat else 0
/-- the line of the first i texts, blanks behind and all -/
def fuC (wd : Nat → Int) (nw : Nat) (t : Nat → List UInt8) : Nat → List UInt8
  | 0 => []
  | i + 1 => if i = 0 then t 0 ++ List.replicate (lkC wd nw t 0) 32 else fuC wd nw t i ++ ([32, 32] ++ List.replicate (lkC wd nw t i) 32 ++ t i)
theorem fuC_zero (wd : Nat → Int) (nw : Nat) (t : Nat → List UInt8) : fuC wd nw t 0 = [] := rfl
theorem fuC_one (wd : Nat → Int) (nw : Nat) (t : Nat → List UInt8) : fuC wd nw t 1 = t 0 ++ List.replicate (lkC wd nw t 0) 32 := rfl
theorem fuC_succ (wd : Nat → Int) (nw : Nat) (t : Nat → List UInt8) {i : Nat} (h : 0 < i) : fuC wd nw t (i + 1) = fuC wd nw t i ++ ([32, 32] ++ List.replicate (lkC wd nw t i) 32 ++ t i) := if_neg (by omega)
def lnC (wd : Nat → Int) (nw : Nat) (t : Nat → List UInt8) (n : Nat) : List UInt8 := trimRightB (fuC wd nw t n) 32
/-- what the program has written, and how many blanks it owes -/
def WrC (wd : Nat → Int) (nw : Nat) (t : Nat → List UInt8) (i : Nat) (L : List UInt8) (b : Nat) : Prop := L ++ List.replicate b 32 = fuC wd nw t i ∧ NoEnd L 32
theorem wrC_end {wd : Nat → Int} {nw : Nat} {t : Nat → List UInt8} {i : Nat} {L : List UInt8} {b : Nat} (h : WrC wd nw t i L b) : L = lnC wd nw t i := by
  unfold lnC
  rw [← h.1, tr_app, noEnd_fix h.2]
theorem wrC_start (wd : Nat → Int) (nw : Nat) (t : Nat → List UInt8) : WrC wd nw t 0 [] 0 := ⟨rfl, Or.inl rfl⟩
/-- the blanks ahead of a text -/
def bfC (wd : Nat → Int) (nw : Nat) (t : Nat → List UInt8) (i b : Nat) : Nat := if 0 < i then b + (2 + lkC wd nw t i) else b
theorem fuC_step {wd : Nat → Int} {nw : Nat} {t : Nat → List UInt8} {i : Nat} {L : List UInt8} {b : Nat} (h : WrC wd nw t i L b) : fuC wd nw t (i + 1) = (L ++ List.replicate (bfC wd nw t i b) 32 ++ t i) ++ List.replicate (if i = 0 then lkC wd nw t 0 else 0) 32 := by
  by_cases h0 : i = 0
  · subst h0
    have e : L ++ List.replicate b 32 = [] := h.1
    obtain ⟨rfl, hb⟩ := List.append_eq_nil_iff.1 e
    have hb0 : b = 0 := by simpa using hb
    subst hb0
    rw [fuC_one]
    simp [bfC]
  · rw [fuC_succ _ _ _ (by omega), ← h.1, if_neg h0]
    unfold bfC
    rw [if_pos (by omega), rep_add, rep_add]
    simp [List.append_assoc, List.replicate]
theorem wrC_text {wd : Nat → Int} {nw : Nat} {t : Nat → List UInt8} {i : Nat} {L : List UInt8} {b : Nat} (h : WrC wd nw t i L b) (hs : trimRightB (t i) 32 ≠ []) : WrC wd nw t (i + 1) (L ++ List.replicate (bfC wd nw t i b) 32 ++ trimRightB (t i) 32) ((t i).length - (trimRightB (t i) 32).length + (if i = 0 then lkC wd nw t 0 else 0)) := by
  refine ⟨?_, noEnd_app _ (tr_noEnd _ _) hs⟩
  rw [fuC_step h, rep_add]
  conv => rhs; rw [tr_parts (t i) 32]
  simp [List.append_assoc]
theorem wrC_none {wd : Nat → Int} {nw : Nat} {t : Nat → List UInt8} {i : Nat} {L : List UInt8} {b : Nat} (h : WrC wd nw t i L b) (hs : trimRightB (t i) 32 = []) : WrC wd nw t (i + 1) L (bfC wd nw t i b + (t i).length + (if i = 0 then lkC wd nw t 0 else 0)) := by
  refine ⟨?_, h.2⟩
  have e := tr_parts (t i) 32
  rw [hs, List.nil_append, List.length_nil, Nat.sub_zero] at e
  rw [fuC_step h, rep_add, rep_add]
  conv => rhs; rw [e]
  simp [List.append_assoc]
theorem fuC_len {wd : Nat → Int} {nw : Nat} {t : Nat → List UInt8} : ∀ n, (∀ i, i < n → (t i).length ≤ 60 ∧ lkC wd nw t i ≤ 1000) → (fuC wd nw t n).length ≤ n * 1100
  | 0, _ => by rw [fuC_zero]; simp
  | n + 1, h => by
    have h1 := h n (by omega)
    by_cases h0 : n = 0
    · subst h0
      rw [fuC_one]
      simp only [List.length_append, List.length_replicate]
      have := h1.1; have := h1.2; omega
    · have ih := fuC_len (wd := wd) (nw := nw) (t := t) n (fun i hi => h i (by omega))
      rw [fuC_succ _ _ _ (by omega)]
      simp only [List.length_append, List.length_replicate, List.length_cons, List.length_nil]
      have := h1.1; have := h1.2; omega
theorem wrC_len {wd : Nat → Int} {nw : Nat} {t : Nat → List UInt8} {i : Nat} {L : List UInt8} {b : Nat} (h : WrC wd nw t i L b) : L.length + b = (fuC wd nw t i).length := by rw [← h.1]; simp
end Go.Proofs.YtkonghjmipclmaaDoor
