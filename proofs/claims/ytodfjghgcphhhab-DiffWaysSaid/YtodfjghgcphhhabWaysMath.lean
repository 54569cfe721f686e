/- Two ways of a car: the first tick behind which they part is one at which a leg begins, or the one behind it, or one of the first two (plain mathematics). -/
import Derived.Test.YtodfjghgcphhhabGanttMath
namespace Go.Proofs.Ytodfjghgcphhhab
set_option linter.unusedVariables false
theorem lastL_congr {T : Nat → Int} {t t' : Int} : ∀ n, (∀ i, i < n → (T i ≤ t ↔ T i ≤ t')) → lastL T t n = lastL T t' n
  | 0, _ => rfl
  | n + 1, h => by
    have h1 := lastL_congr n fun i hi => h i (by omega)
    have h2 := h n (by omega)
    rw [lastL_succ, lastL_succ, h1]
    by_cases c : T n ≤ t
    · rw [if_pos c, if_pos (h2.1 c)]
    · rw [if_neg c, if_neg (fun hh => c (h2.2 hh))]
/-- no leg begins at a tick, nor at the one ahead: then three ticks are of one leg -/
theorem three_same {T P D : Nat → Int} {n : Nat} {t : Int} (h : ∀ i, i < n → T i ≠ t ∧ T i + 1 ≠ t) :
    lastL T (t - 1) n = lastL T t n ∧ lastL T (t - 2) n = lastL T t n ∧ posL T P D t (lastL T t n) = 2 * posL T P D (t - 1) (lastL T t n) - posL T P D (t - 2) (lastL T t n) := by
  refine ⟨lastL_congr n fun i hi => ?_, lastL_congr n fun i hi => ?_, ?_⟩
  · have := h i hi; omega
  · have := h i hi; omega
  · unfold posL
    split
    · omega
    · obtain ⟨y, hy⟩ : ∃ y, t - 2 - T (lastL T t n - 1) = y := ⟨_, rfl⟩
      have e1 : t - T (lastL T t n - 1) = y + 2 := by omega
      have e2 : t - 1 - T (lastL T t n - 1) = y + 1 := by omega
      have m1 := Int.mul_add (D (lastL T t n - 1)) y 2
      have m2 := Int.mul_add (D (lastL T t n - 1)) y 1
      rw [hy, e1, e2, m1, m2]
      omega
/-- do two ways tell unlike things behind a tick? -/
def apW (T P D : Nat → Int) (O : Nat → Bool) (n : Nat) (T' P' D' : Nat → Int) (O' : Nat → Bool) (m : Nat) (t : Int) : Bool :=
  (posL T P D t (lastL T t n) != posL T' P' D' t (lastL T' t m)) || (dorL O (lastL T t n) != dorL O' (lastL T' t m)) || (decide (0 < lastL T t n) != decide (0 < lastL T' t m))
theorem apW_false {T P D : Nat → Int} {O : Nat → Bool} {n : Nat} {T' P' D' : Nat → Int} {O' : Nat → Bool} {m : Nat} {t : Int} :
    apW T P D O n T' P' D' O' m t = false ↔ posL T P D t (lastL T t n) = posL T' P' D' t (lastL T' t m) ∧ dorL O (lastL T t n) = dorL O' (lastL T' t m) ∧ decide (0 < lastL T t n) = decide (0 < lastL T' t m) := by
  unfold apW
  simp only [Bool.or_eq_false_iff, bne_eq_false_iff_eq, and_assoc]
/-- is a tick one at which something may begin? -/
def candW (T : Nat → Int) (n : Nat) (T' : Nat → Int) (m : Nat) (t : Int) : Prop := t = 0 ∨ t = 1 ∨ (∃ i, i < n ∧ (T i = t ∨ T i + 1 = t)) ∨ (∃ i, i < m ∧ (T' i = t ∨ T' i + 1 = t))
theorem ap_step {T P D : Nat → Int} {O : Nat → Bool} {n : Nat} {T' P' D' : Nat → Int} {O' : Nat → Bool} {m : Nat} {t : Int} (hc : ¬ candW T n T' m t) (h1 : apW T P D O n T' P' D' O' m (t - 1) = false) (h2 : apW T P D O n T' P' D' O' m (t - 2) = false) :
    apW T P D O n T' P' D' O' m t = false := by
  have ha : ∀ i, i < n → T i ≠ t ∧ T i + 1 ≠ t := fun i hi => ⟨fun e => hc (.inr (.inr (.inl ⟨i, hi, .inl e⟩))), fun e => hc (.inr (.inr (.inl ⟨i, hi, .inr e⟩)))⟩
  have hb : ∀ i, i < m → T' i ≠ t ∧ T' i + 1 ≠ t := fun i hi => ⟨fun e => hc (.inr (.inr (.inr ⟨i, hi, .inl e⟩))), fun e => hc (.inr (.inr (.inr ⟨i, hi, .inr e⟩)))⟩
  obtain ⟨a1, a2, a3⟩ := three_same (P := P) (D := D) ha
  obtain ⟨b1, b2, b3⟩ := three_same (P := P') (D := D') hb
  rw [apW_false] at h1 h2 ⊢
  rw [a1, b1] at h1
  rw [a2, b2] at h2
  refine ⟨?_, h1.2.1, h1.2.2⟩
  rw [a3, b3, h1.1, h2.1]
theorem ap_cand {T P D : Nat → Int} {O : Nat → Bool} {n : Nat} {T' P' D' : Nat → Int} {O' : Nat → Bool} {m : Nat} : ∀ (k : Nat) (t : Int), 0 ≤ t → t ≤ k → apW T P D O n T' P' D' O' m t = true →
    ∃ c, 0 ≤ c ∧ c ≤ t ∧ candW T n T' m c ∧ apW T P D O n T' P' D' O' m c = true
  | 0, t, h0, h1, h => ⟨t, h0, Int.le_refl _, .inl (by omega), h⟩
  | k + 1, t, h0, h1, h => by
    by_cases hc : candW T n T' m t
    · exact ⟨t, h0, Int.le_refl _, hc, h⟩
    · have ht : 2 ≤ t := by
        rcases (show t = 0 ∨ t = 1 ∨ 2 ≤ t by omega) with e | e | e
        · exact absurd (.inl e) hc
        · exact absurd (.inr (.inl e)) hc
        · exact e
      by_cases h3 : apW T P D O n T' P' D' O' m (t - 1) = true
      · obtain ⟨c, c0, c1, c2⟩ := ap_cand k (t - 1) (by omega) (by omega) h3
        exact ⟨c, c0, by omega, c2⟩
      · by_cases h4 : apW T P D O n T' P' D' O' m (t - 2) = true
        · obtain ⟨c, c0, c1, c2⟩ := ap_cand k (t - 2) (by omega) (by omega) h4
          exact ⟨c, c0, by omega, c2⟩
        · have := ap_step hc (by simpa using h3) (by simpa using h4)
          rw [this] at h; cases h
/-- where two ways part ahead of a horizon, if they do -/
def FirstW (f : Int → Bool) (h at' : Int) (ap : Bool) : Prop := (ap = false ∧ at' = 0 ∧ ∀ t, 0 ≤ t → t < h → f t = false) ∨ (ap = true ∧ 0 ≤ at' ∧ at' < h ∧ f at' = true ∧ ∀ t, 0 ≤ t → t < at' → f t = false)
theorem firstW_one {f : Int → Bool} {h a b : Int} {p q : Bool} (h1 : FirstW f h a p) (h2 : FirstW f h b q) : a = b ∧ p = q := by
  rcases h1 with ⟨rfl, rfl, h1⟩ | ⟨rfl, a0, a1, a2, h1⟩
  · rcases h2 with ⟨rfl, rfl, h2⟩ | ⟨rfl, b0, b1, b2, h2⟩
    · exact ⟨rfl, rfl⟩
    · rw [h1 b b0 b1] at b2; cases b2
  · rcases h2 with ⟨rfl, rfl, h2⟩ | ⟨rfl, b0, b1, b2, h2⟩
    · rw [h2 a a0 a1] at a2; cases a2
    · rcases Int.lt_trichotomy a b with h | h | h
      · rw [h2 a a0 h] at a2; cases a2
      · exact ⟨h, rfl⟩
      · rw [h1 b b0 h] at b2; cases b2
/-- the first of a rising row of all such ticks is the first of all -/
theorem first_cand {f : Int → Bool} {h : Int} {C : Int → Prop} (hc : ∀ t, 0 ≤ t → f t = true → ∃ c, 0 ≤ c ∧ c ≤ t ∧ C c ∧ f c = true) {l : List Int} (hl : ∀ t, C t → t ∈ l) (hs : l.Pairwise (· ≤ ·)) {k : Nat} {a : Int}
    (hk : l[k]? = some a) (ha : 0 ≤ a ∧ a < h ∧ f a = true) (hb : ∀ j b, j < k → l[j]? = some b → ¬ (0 ≤ b ∧ b < h ∧ f b = true)) : FirstW f h a true := by
  refine .inr ⟨rfl, ha.1, ha.2.1, ha.2.2, fun t t0 t1 => ?_⟩
  cases hf : f t with
  | false => rfl
  | true =>
    obtain ⟨c, c0, c1, c2, c3⟩ := hc t t0 hf
    obtain ⟨j, hj, e⟩ := List.getElem_of_mem (hl c c2)
    have ej : l[j]? = some c := by rw [List.getElem?_eq_getElem hj, e]
    rcases Nat.lt_or_ge j k with h1 | h1
    · exact absurd ⟨c0, by omega, c3⟩ (hb j c h1 ej)
    · have hka : k < l.length := by
        rcases Nat.lt_or_ge k l.length with h2 | h2
        · exact h2
        · rw [List.getElem?_eq_none h2] at hk; cases hk
      have ek : l[k] = a := by rw [List.getElem?_eq_getElem hka] at hk; exact Option.some.inj hk
      rcases Nat.lt_or_ge k j with h2 | h2
      · have := List.pairwise_iff_getElem.1 hs k j hka hj h2
        rw [ek, e] at this; omega
      · have : k = j := by omega
        subst this
        rw [ek] at e; omega
theorem first_none {f : Int → Bool} {h : Int} {C : Int → Prop} (hc : ∀ t, 0 ≤ t → f t = true → ∃ c, 0 ≤ c ∧ c ≤ t ∧ C c ∧ f c = true) {l : List Int} (hl : ∀ t, C t → t ∈ l)
    (hb : ∀ (j : Nat) b, l[j]? = some b → ¬ (0 ≤ b ∧ b < h ∧ f b = true)) : FirstW f h 0 false := by
  refine .inl ⟨rfl, rfl, fun t t0 t1 => ?_⟩
  cases hf : f t with
  | false => rfl
  | true =>
    obtain ⟨c, c0, c1, c2, c3⟩ := hc t t0 hf
    obtain ⟨j, hj, e⟩ := List.getElem_of_mem (hl c c2)
    exact absurd ⟨c0, by omega, c3⟩ (hb j c (by rw [List.getElem?_eq_getElem hj, e]))
/-- the ticks at which legs begin, and those behind them -/
def tickL (T : Nat → Int) : Nat → List Int
  | 0 => [0, 1]
  | n + 1 => tickL T n ++ [T n, T n + 1]
theorem tickL_succ (T : Nat → Int) (n : Nat) : tickL T (n + 1) = tickL T n ++ [T n, T n + 1] := rfl
theorem tickL_len (T : Nat → Int) : ∀ n, (tickL T n).length = 2 * n + 2
  | 0 => rfl
  | n + 1 => by rw [tickL_succ, List.length_append, tickL_len T n]; simp; omega
theorem tickL_first (T : Nat → Int) : ∀ n, 0 ∈ tickL T n ∧ 1 ∈ tickL T n
  | 0 => by simp [tickL]
  | n + 1 => by have := tickL_first T n; rw [tickL_succ]; simp [this.1, this.2]
theorem tickL_mem (T : Nat → Int) : ∀ n i, i < n → T i ∈ tickL T n ∧ T i + 1 ∈ tickL T n
  | 0, _, h => absurd h (by omega)
  | n + 1, i, h => by
    rw [tickL_succ]
    by_cases e : i = n
    · subst e; simp
    · have := tickL_mem T n i (by omega); simp [this.1, this.2]
theorem tickL_in (T : Nat → Int) (B : Int) (hB : 1 ≤ B) : ∀ n, (∀ i, i < n → -B ≤ T i ∧ T i ≤ B) → ∀ t, t ∈ tickL T n → -B ≤ t ∧ t ≤ B + 1
  | 0, _, t, h => by simp [tickL] at h; omega
  | n + 1, hh, t, h => by
    rw [tickL_succ, List.mem_append] at h
    rcases h with h | h
    · exact tickL_in T B hB n (fun i hi => hh i (by omega)) t h
    · have := hh n (by omega)
      simp at h; omega
/-- two rows of legs behind each other -/
def catI (f g : Nat → Int) (n i : Nat) : Int := if i < n then f i else g (i - n)
def catB (f g : Nat → Bool) (n i : Nat) : Bool := if i < n then f i else g (i - n)
theorem cand_mem {T T' : Nat → Int} {n m : Nat} {t : Int} (h : candW T n T' m t) : t ∈ tickL (catI T T' n) (n + m) := by
  rcases h with rfl | rfl | ⟨i, hi, h⟩ | ⟨i, hi, h⟩
  · exact (tickL_first _ _).1
  · exact (tickL_first _ _).2
  · have := tickL_mem (catI T T' n) (n + m) i (by omega)
    have e : catI T T' n i = T i := by unfold catI; rw [if_pos hi]
    rw [e] at this
    rcases h with rfl | rfl
    · exact this.1
    · exact this.2
  · have := tickL_mem (catI T T' n) (n + m) (n + i) (by omega)
    have e : catI T T' n (n + i) = T' i := by unfold catI; rw [if_neg (by omega), Nat.add_sub_cancel_left]
    rw [e] at this
    rcases h with rfl | rfl
    · exact this.1
    · exact this.2
end Go.Proofs.Ytodfjghgcphhhab
