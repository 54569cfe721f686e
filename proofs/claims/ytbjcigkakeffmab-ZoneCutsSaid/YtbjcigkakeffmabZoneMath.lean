/- Zones: as many floors as a zone may have, from the lowest floor on, is as good as any cut (plain mathematics). -/
import Derived.Test.YtbjcigkakeffmabRows
namespace Go.Proofs.Ytbjcigkakeffmab
/-- the sum of the first weights -/
def sumZ (l : Nat → Int) : Nat → Int
  | 0 => 0
  | n + 1 => sumZ l n + l n
/-- the sum of the zone that is open behind so many floors; how many are closed; where it begins -/
def gsZ (l : Nat → Int) (M : Int) : Nat → Int
  | 0 => 0
  | n + 1 => if M < gsZ l M n + l n then l n else gsZ l M n + l n
def zcZ (l : Nat → Int) (M : Int) : Nat → Nat
  | 0 => 0
  | n + 1 => if M < gsZ l M n + l n then zcZ l M n + 1 else zcZ l M n
def gbZ (l : Nat → Int) (M : Int) : Nat → Nat
  | 0 => 0
  | n + 1 => if M < gsZ l M n + l n then n else gbZ l M n
theorem gs_succ (l : Nat → Int) (M : Int) (n : Nat) : gsZ l M (n + 1) = if M < gsZ l M n + l n then l n else gsZ l M n + l n := rfl
theorem zc_succ (l : Nat → Int) (M : Int) (n : Nat) : zcZ l M (n + 1) = if M < gsZ l M n + l n then zcZ l M n + 1 else zcZ l M n := rfl
theorem gb_succ (l : Nat → Int) (M : Int) (n : Nat) : gbZ l M (n + 1) = if M < gsZ l M n + l n then n else gbZ l M n := rfl
theorem gb_le (l : Nat → Int) (M : Int) : ∀ n, gbZ l M n ≤ n ∧ (0 < n → gbZ l M n < n)
  | 0 => ⟨Nat.le_refl _, fun h => absurd h (by omega)⟩
  | n + 1 => by
    have := gb_le l M n
    rw [gb_succ]
    split <;> omega
theorem gs_eq (l : Nat → Int) (M : Int) : ∀ n, gsZ l M n = sumZ l n - sumZ l (gbZ l M n)
  | 0 => by simp [gsZ, sumZ, gbZ]
  | n + 1 => by
    have := gs_eq l M n
    have hs : sumZ l (n + 1) = sumZ l n + l n := rfl
    rw [gs_succ, gb_succ, hs]
    split <;> omega
theorem zc_lt (l : Nat → Int) (M : Int) : ∀ n, zcZ l M n ≤ n
  | 0 => Nat.le_refl _
  | n + 1 => by
    have := zc_lt l M n
    rw [zc_succ]
    split <;> omega
/-- how many zones the first floors have -/
def cnZ (l : Nat → Int) (M : Int) (n : Nat) : Nat := if n = 0 then 0 else zcZ l M n + 1
theorem sum_mono {l : Nat → Int} {n : Nat} (h : ∀ i, i < n → 0 ≤ l i) : ∀ {k m : Nat}, m ≤ k → k ≤ n → sumZ l m ≤ sumZ l k
  | 0, m, hm, _ => by
    obtain rfl : m = 0 := by omega
    exact Int.le_refl _
  | k + 1, m, hm, hk => by
    rcases Nat.lt_or_ge m (k + 1) with c | c
    · have := sum_mono h (k := k) (m := m) (by omega) (by omega)
      have h0 := h k (by omega)
      show _ ≤ sumZ l k + l k
      omega
    · obtain rfl : m = k + 1 := by omega
      exact Int.le_refl _
theorem sum_has {l : Nat → Int} {n : Nat} (h : ∀ i, i < n → 0 ≤ l i) {k m i : Nat} (hm : m ≤ i) (hi : i < k) (hk : k ≤ n) : l i ≤ sumZ l k - sumZ l m := by
  have h1 := sum_mono h (k := i) (m := m) hm (by omega)
  have h2 := sum_mono h (k := k) (m := i + 1) (by omega) hk
  have : sumZ l (i + 1) = sumZ l i + l i := rfl
  omega
theorem zc_first {l : Nat → Int} {M : Int} {N : Nat} (h : ∀ i, i < N → 0 ≤ l i ∧ l i ≤ M) (hN : 0 < N) : zcZ l M 1 = 0 ∧ gbZ l M 1 = 0 := by
  have := h 0 hN
  have e : ¬ M < gsZ l M 0 + l 0 := by show ¬ M < 0 + l 0; omega
  exact ⟨by show (if _ then _ else _) = _; rw [if_neg e]; rfl, by show (if _ then _ else _) = _; rw [if_neg e]; rfl⟩
theorem gs_le {l : Nat → Int} {M : Int} {N : Nat} (h : ∀ i, i < N → 0 ≤ l i ∧ l i ≤ M) (hM : 0 ≤ M) : ∀ n, n ≤ N → gsZ l M n ≤ M
  | 0, _ => hM
  | n + 1, hn => by
    have := h n (by omega)
    have := gs_le h hM n (by omega)
    rw [gs_succ]
    split <;> omega
theorem inv {l : Nat → Int} {M : Int} {N : Nat} (h : ∀ i, i < N → 0 ≤ l i ∧ l i ≤ M) : ∀ n, n ≤ N → ∀ m, m ≤ n → (cnZ l M n ≤ cnZ l M m + 1 ∨ M < sumZ l n - sumZ l m) ∧ (cnZ l M n ≤ cnZ l M m ∨ m ≤ gbZ l M n)
  | 0, _, m, hm => by
    obtain rfl : m = 0 := by omega
    exact ⟨.inl (by omega), .inl (Nat.le_refl _)⟩
  | n + 1, hn, m, hm => by
    rcases Nat.lt_or_ge m (n + 1) with c | c
    · have ih := inv h n (by omega) m (by omega)
      have hs : sumZ l (n + 1) = sumZ l n + l n := rfl
      have hl := h n (by omega)
      have hg := gs_eq l M n
      rcases Nat.eq_zero_or_pos n with e | e
      · subst e
        obtain rfl : m = 0 := by omega
        obtain ⟨z1, z2⟩ := zc_first h (by omega)
        refine ⟨.inl ?_, .inr (by omega)⟩
        simp [cnZ, z1]
      · have c1 : cnZ l M n = zcZ l M n + 1 := by unfold cnZ; rw [if_neg (by omega)]
        have c2 : cnZ l M (n + 1) = zcZ l M (n + 1) + 1 := by unfold cnZ; rw [if_neg (by omega)]
        have z1 : zcZ l M (n + 1) = if M < gsZ l M n + l n then zcZ l M n + 1 else zcZ l M n := rfl
        have b1 : gbZ l M (n + 1) = if M < gsZ l M n + l n then n else gbZ l M n := rfl
        by_cases hc : M < gsZ l M n + l n
        · rw [if_pos hc] at z1 b1
          refine ⟨?_, .inr (by omega)⟩
          rcases ih.2 with i2 | i2
          · exact .inl (by omega)
          · have := sum_mono (fun i hi => (h i hi).1) (k := gbZ l M n) (m := m) i2 (by have := (gb_le l M n).1; omega)
            exact .inr (by omega)
        · rw [if_neg hc] at z1 b1
          refine ⟨?_, ?_⟩
          · rcases ih.1 with i1 | i1
            · exact .inl (by omega)
            · exact .inr (by omega)
          · rcases ih.2 with i2 | i2
            · exact .inl (by omega)
            · exact .inr (by omega)
    · obtain rfl : m = n + 1 := by omega
      exact ⟨.inl (by omega), .inl (Nat.le_refl _)⟩
/-- of the first n floors, with one zone more: the places m = n - 1, .. so many of them have been tried -/
def nxZ (l : Nat → Int) (b : Nat → Int) (n : Nat) : Nat → Int
  | 0 => b n
  | j + 1 => min (nxZ l b n j) (max (sumZ l n - sumZ l (n - 1 - j)) (b (n - 1 - j)))
/-- the least that the heaviest of at most z + 1 zones weighs -/
def bestZ (l : Nat → Int) : Nat → Nat → Int
  | 0 => sumZ l
  | z + 1 => fun n => nxZ l (bestZ l z) n n
theorem nx_le {l b : Nat → Int} {n : Nat} {M : Int} : ∀ j, j ≤ n → (nxZ l b n j ≤ M ↔ b n ≤ M ∨ ∃ m, n - j ≤ m ∧ m < n ∧ sumZ l n - sumZ l m ≤ M ∧ b m ≤ M)
  | 0, _ => ⟨fun h => .inl h, fun h => h.elim id fun ⟨m, h1, h2, _⟩ => by omega⟩
  | j + 1, hj => by
    have ih := nx_le (l := l) (b := b) (n := n) (M := M) j (by omega)
    show min _ _ ≤ M ↔ _
    constructor
    · intro h
      by_cases c : nxZ l b n j ≤ M
      · rcases ih.1 c with c | ⟨m, h1, h2, h3⟩
        · exact .inl c
        · exact .inr ⟨m, by omega, h2, h3⟩
      · exact .inr ⟨n - 1 - j, by omega, by omega, by omega, by omega⟩
    · rintro (h | ⟨m, h1, h2, h3, h4⟩)
      · have := ih.2 (.inl h); omega
      · rcases Nat.lt_or_ge m (n - j) with c | c
        · obtain rfl : m = n - 1 - j := by omega
          omega
        · have := ih.2 (.inr ⟨m, c, h2, h3, h4⟩); omega
theorem best_zero (l : Nat → Int) : ∀ z, bestZ l z 0 = 0
  | 0 => rfl
  | z + 1 => best_zero l z
theorem best_cn {l : Nat → Int} {M : Int} {N : Nat} (h : ∀ i, i < N → 0 ≤ l i ∧ l i ≤ M) : ∀ z n, n ≤ N → bestZ l z n ≤ M → cnZ l M n ≤ z + 1
  | 0, n, hn, hb => by
    rcases (inv h n hn 0 (by omega)).1 with c | c
    · exact c
    · have e : sumZ l n ≤ M := hb
      have e0 : sumZ l 0 = 0 := rfl
      omega
  | z + 1, n, hn, hb => by
    rcases (nx_le n (Nat.le_refl n)).1 hb with c | ⟨m, h1, h2, h3, h4⟩
    · have := best_cn h z n hn c; omega
    · have i1 := best_cn h z m (by omega) h4
      rcases (inv h n hn m (by omega)).1 with c | c
      · omega
      · omega
theorem zc_zero {l : Nat → Int} {M : Int} : ∀ n, zcZ l M n = 0 → gbZ l M n = 0
  | 0, _ => rfl
  | n + 1, h => by
    have z1 : zcZ l M (n + 1) = if M < gsZ l M n + l n then zcZ l M n + 1 else zcZ l M n := rfl
    have b1 : gbZ l M (n + 1) = if M < gsZ l M n + l n then n else gbZ l M n := rfl
    by_cases hc : M < gsZ l M n + l n
    · rw [if_pos hc] at z1; omega
    · rw [if_neg hc] at z1 b1
      rw [b1]; exact zc_zero n (by omega)
theorem cn_gb {l : Nat → Int} {M : Int} {N : Nat} (h : ∀ i, i < N → 0 ≤ l i ∧ l i ≤ M) : ∀ n, n ≤ N → 0 < zcZ l M n → cnZ l M (gbZ l M n) = zcZ l M n
  | 0, _, h0 => absurd h0 (by simp [zcZ])
  | n + 1, hn, h0 => by
    have z1 : zcZ l M (n + 1) = if M < gsZ l M n + l n then zcZ l M n + 1 else zcZ l M n := rfl
    have b1 : gbZ l M (n + 1) = if M < gsZ l M n + l n then n else gbZ l M n := rfl
    by_cases hc : M < gsZ l M n + l n
    · rw [if_pos hc] at z1 b1
      have : 0 < n := by
        rcases Nat.eq_zero_or_pos n with e | e
        · subst e
          have := (zc_first h (by omega)).1
          have z2 : zcZ l M 1 = zcZ l M 0 + 1 := z1
          omega
        · exact e
      rw [b1, z1]; unfold cnZ; rw [if_neg (by omega)]
    · rw [if_neg hc] at z1 b1
      rw [b1, z1]; exact cn_gb h n (by omega) (by omega)
theorem cn_best {l : Nat → Int} {M : Int} {N : Nat} (h : ∀ i, i < N → 0 ≤ l i ∧ l i ≤ M) (hM : 0 ≤ M) : ∀ z n, n ≤ N → cnZ l M n ≤ z + 1 → bestZ l z n ≤ M
  | z, 0, _, _ => by rw [best_zero]; exact hM
  | 0, n + 1, hn, hc => by
    have c1 : cnZ l M (n + 1) = zcZ l M (n + 1) + 1 := by unfold cnZ; rw [if_neg (by omega)]
    have g1 := gs_eq l M (n + 1)
    have g2 := gs_le h hM (n + 1) hn
    rw [zc_zero (n + 1) (by omega)] at g1
    have e0 : sumZ l 0 = 0 := rfl
    show sumZ l (n + 1) ≤ M
    omega
  | z + 1, n + 1, hn, hc => by
    have c1 : cnZ l M (n + 1) = zcZ l M (n + 1) + 1 := by unfold cnZ; rw [if_neg (by omega)]
    refine (nx_le (n + 1) (Nat.le_refl _)).2 ?_
    by_cases hz : cnZ l M (n + 1) ≤ z + 1
    · exact .inl (cn_best h hM z (n + 1) hn hz)
    · have hg := (gb_le l M (n + 1)).2 (by omega)
      have e := cn_gb h (n + 1) hn (by omega)
      have g1 := gs_eq l M (n + 1)
      have g2 := gs_le h hM (n + 1) hn
      exact .inr ⟨gbZ l M (n + 1), by omega, hg, by omega, cn_best h hM z _ (by omega) (by omega)⟩
theorem best_max {l : Nat → Int} {M : Int} {N : Nat} (h : ∀ i, i < N → 0 ≤ l i) : ∀ z n, n ≤ N → bestZ l z n ≤ M → ∀ i, i < n → l i ≤ M
  | 0, n, hn, hb, i, hi => by
    have := sum_has h (k := n) (m := 0) (i := i) (by omega) hi hn
    have e : sumZ l n ≤ M := hb
    have e0 : sumZ l 0 = 0 := rfl
    omega
  | z + 1, n, hn, hb, i, hi => by
    rcases (nx_le n (Nat.le_refl n)).1 hb with c | ⟨m, h1, h2, h3, h4⟩
    · exact best_max h z n hn c i hi
    · rcases Nat.lt_or_ge i m with c | c
      · exact best_max h z m (by omega) h4 i c
      · have := sum_has h (k := n) (m := m) (i := i) c hi hn; omega
theorem zc_less {l : Nat → Int} {M : Int} {N : Nat} (h : ∀ i, i < N → 0 ≤ l i ∧ l i ≤ M) : ∀ n, n + 1 ≤ N → zcZ l M (n + 1) ≤ n
  | 0, hn => by rw [(zc_first h (by omega)).1]; exact Nat.le_refl _
  | n + 1, hn => by
    have := zc_less h n (by omega)
    rw [zc_succ]
    split <;> omega
/-- the least weight, from the heaviest floor's on, of which no more zones come than may be, is the least by all cuts -/
theorem least_eq {l : Nat → Int} {n k : Nat} {P H : Int} (hn : 0 < n) (hk : 0 < k) (h : ∀ i, i < n → 0 ≤ l i) (hH : ∀ i, i < n → l i ≤ H) (hHi : ∃ i, i < n ∧ l i = H) (hP : H ≤ P) (hc : cnZ l P n ≤ k) (hmin : ∀ M, H ≤ M → M < P → ¬ cnZ l M n ≤ k) :
    bestZ l (min k n - 1) n = P := by
  obtain ⟨i, hi, he⟩ := hHi
  have h0 : 0 ≤ H := by rw [← he]; exact h i hi
  have hw : ∀ M, H ≤ M → ∀ i, i < n → 0 ≤ l i ∧ l i ≤ M := fun M hM i hi => ⟨h i hi, by have := hH i hi; omega⟩
  have hcn : cnZ l P n ≤ n := by
    obtain ⟨m, rfl⟩ : ∃ m, n = m + 1 := ⟨n - 1, by omega⟩
    have := zc_less (hw P hP) m (Nat.le_refl _)
    unfold cnZ
    rw [if_neg (by omega)]
    omega
  have hle : bestZ l (min k n - 1) n ≤ P := cn_best (hw P hP) (by omega) _ n (Nat.le_refl _) (by omega)
  have hge : H ≤ bestZ l (min k n - 1) n := by
    have := best_max h _ n (Nat.le_refl n) (Int.le_refl (bestZ l (min k n - 1) n)) i hi
    omega
  rcases Int.lt_or_le (bestZ l (min k n - 1) n) P with c | c
  · have := best_cn (hw _ hge) (min k n - 1) n (Nat.le_refl _) (Int.le_refl _)
    exact absurd (by omega) (hmin _ hge c)
  · omega
end Go.Proofs.Ytbjcigkakeffmab
