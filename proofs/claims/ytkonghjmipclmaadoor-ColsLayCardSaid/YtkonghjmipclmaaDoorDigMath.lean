/- Digits as a number: what they mean, that they are written as they were, and that a greater number of as many digits is the later text. -/
import Derived.Test.YtkonghjmipclmaaDoorRows
import Derived.WalkKit
import Derived.Lib.ItoaNum
import Derived.Lib.ItoaLen
namespace Go.Proofs.YtkonghjmipclmaaDoor
open Go.RowKit
set_option linter.unusedVariables false
/-- the number that digits mean -/
def dval (L : List UInt8) : Nat := L.foldl (fun n c => 10 * n + (c.toNat - 48)) 0
theorem dval_nil : dval [] = 0 := rfl
theorem dval_snoc (L : List UInt8) (c : UInt8) : dval (L ++ [c]) = 10 * dval L + (c.toNat - 48) := by simp [dval]
/-- digits alone -/
def AllD (L : List UInt8) : Prop := ∀ c, c ∈ L → 48 ≤ c.toNat ∧ c.toNat ≤ 57
theorem allD_snoc {L : List UInt8} {c : UInt8} (h : AllD (L ++ [c])) : AllD L ∧ 48 ≤ c.toNat ∧ c.toNat ≤ 57 :=
  ⟨fun d hd => h d (by simp [hd]), h c (by simp)⟩
theorem of48 {d : Nat} (h : d < 10) : (UInt8.ofNat (48 + d)).toNat = 48 + d := by show (48 + d) % 256 = _; omega
theorem of48_eq {c : UInt8} (h : 48 ≤ c.toNat ∧ c.toNat ≤ 57) : UInt8.ofNat (48 + (c.toNat - 48)) = c := by
  apply UInt8.toNat_inj.1
  rw [of48 (by omega)]; omega
theorem dec_many {n : Nat} (h : ¬ n < 10) : Lib.decDigits n = Lib.decDigits (n / 10) ++ [UInt8.ofNat (48 + n % 10)] := by
  rw [Lib.decDigits, dif_neg h]
theorem dval_dec (n : Nat) : dval (Lib.decDigits n) = n := by
  induction n using Nat.strongRecOn with
  | ind n ih =>
    by_cases h : n < 10
    · rw [Lib.decDigits_one h]
      show 10 * 0 + ((UInt8.ofNat (48 + n)).toNat - 48) = n
      rw [of48 h]; omega
    · rw [dec_many h, dval_snoc, ih _ (by omega), of48 (by omega)]; omega
theorem allD_dec (n : Nat) : AllD (Lib.decDigits n) := by
  induction n using Nat.strongRecOn with
  | ind n ih =>
    by_cases h : n < 10
    · rw [Lib.decDigits_one h]
      intro c hc
      rw [List.mem_singleton.1 hc, of48 h]; omega
    · rw [dec_many h]
      intro c hc
      rcases List.mem_append.1 hc with h1 | h1
      · exact ih _ (by omega) c h1
      · rw [List.mem_singleton.1 h1, of48 (by omega)]; omega
/-- one digit at least, and no noughts ahead -/
def Plain (L : List UInt8) : Prop := AllD L ∧ (L = [48] ∨ (L ≠ [] ∧ L.head? ≠ some 48))
theorem dec_ne (n : Nat) : Lib.decDigits n ≠ [] := by
  intro h
  have := Lib.decDigits_length n
  rw [h] at this
  have := Lib.nDigits_pos n
  simp at *
  omega
theorem dec_head {n : Nat} (h : 0 < n) : (Lib.decDigits n).head? ≠ some 48 := by
  induction n using Nat.strongRecOn with
  | ind n ih =>
    by_cases h1 : n < 10
    · rw [Lib.decDigits_one h1]
      show some (UInt8.ofNat (48 + n)) ≠ some 48
      intro e
      have h3 : (UInt8.ofNat (48 + n)).toNat = 48 := by rw [Option.some.inj e]; rfl
      rw [of48 h1] at h3
      omega
    · rw [dec_many h1]
      have h2 := ih (n / 10) (by omega) (by omega)
      rcases hd : Lib.decDigits (n / 10) with _ | ⟨c, t⟩
      · exact absurd hd (dec_ne _)
      · rw [hd] at h2; simpa using h2
theorem plain_dec (n : Nat) : Plain (Lib.decDigits n) := by
  refine ⟨allD_dec n, ?_⟩
  by_cases h : n = 0
  · subst h; left; rw [Lib.decDigits_one (by omega)]; rfl
  · exact .inr ⟨dec_ne n, dec_head (by omega)⟩
theorem dval_pos : ∀ (m : Nat) (L : List UInt8), L.length = m → AllD L → L ≠ [] → L.head? ≠ some 48 → 0 < dval L
  | 0, L, hm, _, h, _ => absurd (List.length_eq_zero_iff.1 hm) h
  | m + 1, L, hm, hD, h, h0 => by
    rcases List.eq_nil_or_concat L with e | ⟨l, c, e⟩
    · exact absurd e h
    · rw [List.concat_eq_append] at e
      subst e
      obtain ⟨hl, hc⟩ := allD_snoc hD
      rw [dval_snoc]
      by_cases hn : l = []
      · subst hn
        simp at h0
        have : c.toNat ≠ 48 := fun e => h0 (UInt8.toNat_inj.1 (e.trans rfl))
        omega
      · have := dval_pos m l (by simpa using hm) hl hn (by
          rcases l with _ | ⟨x, t⟩
          · exact absurd rfl hn
          · simpa using h0)
        omega
theorem dec_dval : ∀ (m : Nat) (L : List UInt8), L.length = m → Plain L → Lib.decDigits (dval L) = L
  | 0, L, hm, h => by
    obtain rfl := List.length_eq_zero_iff.1 hm
    rcases h.2 with e | ⟨e, _⟩
    · cases e
    · exact absurd rfl e
  | m + 1, L, hm, h => by
    rcases List.eq_nil_or_concat L with e | ⟨l, c, e⟩
    · subst e; simp at hm
    · rw [List.concat_eq_append] at e
      subst e
      obtain ⟨hl, hc⟩ := allD_snoc h.1
      rw [dval_snoc]
      by_cases hn : l = []
      · subst hn
        rw [dval_nil, Lib.decDigits_one (by omega)]
        simp only [Nat.mul_zero, Nat.zero_add, List.nil_append]
        rw [of48_eq hc]
      · have hh : l.head? ≠ some 48 := by
          rcases h.2 with e | ⟨_, e⟩
          · rcases l with _ | ⟨x, t⟩
            · exact absurd rfl hn
            · simp at e
          · rcases l with _ | ⟨x, t⟩
            · exact absurd rfl hn
            · simpa using e
        have hp := dval_pos m l (by simpa using hm) hl hn hh
        rw [dec_many (by omega)]
        have e1 : (10 * dval l + (c.toNat - 48)) / 10 = dval l := by omega
        have e2 : (10 * dval l + (c.toNat - 48)) % 10 = c.toNat - 48 := by omega
        rw [e1, e2, of48_eq hc, dec_dval m l (by simpa using hm) ⟨hl, .inr ⟨hn, hh⟩⟩]
theorem dval_lt : ∀ (m : Nat) (L : List UInt8), L.length = m → AllD L → dval L < 10 ^ m
  | 0, L, hm, _ => by obtain rfl := List.length_eq_zero_iff.1 hm; simp [dval_nil]
  | m + 1, L, hm, hD => by
    rcases List.eq_nil_or_concat L with e | ⟨l, c, e⟩
    · subst e; simp at hm
    · rw [List.concat_eq_append] at e
      subst e
      obtain ⟨hl, hc⟩ := allD_snoc hD
      have := dval_lt m l (by simpa using hm) hl
      rw [dval_snoc, Nat.pow_succ]; omega
theorem dval_ge {L : List UInt8} (hD : AllD L) (hn : L ≠ []) (h0 : L.head? ≠ some 48) : 10 ^ (L.length - 1) ≤ dval L := by
  have h1 := dec_dval L.length L rfl ⟨hD, .inr ⟨hn, h0⟩⟩
  have h2 := Lib.decDigits_length (dval L)
  rw [h1] at h2
  have hp := dval_pos L.length L rfl hD hn h0
  apply Nat.le_of_not_lt
  intro hlt
  have hlen : 1 ≤ L.length := by
    rcases L with _ | ⟨x, t⟩
    · exact absurd rfl hn
    · simp
  -- a number below 10^k has at most k digits
  have hk : ∀ k u, u < 10 ^ (k + 1) → Lib.nDigits u ≤ k + 1 := by
    intro k
    induction k with
    | zero => intro u hu; rw [Lib.nDigits_small (by simpa using hu)]; omega
    | succ k ih =>
      intro u hu
      by_cases hs : u < 10
      · rw [Lib.nDigits_small hs]; omega
      · rw [Lib.nDigits_big hs]
        have := ih (u / 10) (by rw [Nat.pow_succ] at hu; omega)
        omega
  rcases hL : L.length - 1 with _ | k
  · rw [hL] at hlt; simp at hlt; omega
  · rw [hL] at hlt
    have := hk k _ hlt
    omega
end Go.Proofs.YtkonghjmipclmaaDoor
