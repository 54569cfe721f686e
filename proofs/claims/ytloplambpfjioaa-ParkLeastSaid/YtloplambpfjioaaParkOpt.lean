/- Parking: mathematics: rows of plans cost as little as any floors do, and what they tell costs just that. -/
import Derived.Test.YtloplambpfjioaaParkMath
namespace Go.Proofs.Ytloplambpfjioaa
set_option linter.unusedVariables false
/-- k numbers together, from one on -/
def sm (g : Nat → Int) (b : Nat) : Nat → Int
  | 0 => 0
  | k + 1 => sm g b k + g (b + k)
theorem sm_zero (g : Nat → Int) (b : Nat) : sm g b 0 = 0 := rfl
theorem sm_succ (g : Nat → Int) (b k : Nat) : sm g b (k + 1) = sm g b k + g (b + k) := rfl
theorem sm_add (g : Nat → Int) (b j : Nat) : ∀ k, sm g b (j + k) = sm g b j + sm g (b + j) k
  | 0 => by rw [Nat.add_zero, sm_zero]; omega
  | k + 1 => by rw [← Nat.add_assoc, sm_succ, sm_succ, sm_add g b j k, Nat.add_assoc]; omega
theorem sm_le {g h : Nat → Int} {b : Nat} : ∀ {k : Nat}, (∀ f, b ≤ f → f < b + k → g f ≤ h f) → sm g b k ≤ sm h b k
  | 0, _ => by rw [sm_zero, sm_zero]; omega
  | k + 1, hh => by
    have := sm_le (k := k) (fun f h1 h2 => hh f h1 (by omega))
    have := hh (b + k) (by omega) (by omega)
    rw [sm_succ, sm_succ]; omega
theorem sm_congr {g h : Nat → Int} {b k : Nat} (hh : ∀ f, b ≤ f → f < b + k → g f = h f) : sm g b k = sm h b k := by
  have h1 := sm_le (g := g) (h := h) (b := b) (k := k) (fun f a c => by rw [hh f a c]; exact Int.le_refl _)
  have h2 := sm_le (g := h) (h := g) (b := b) (k := k) (fun f a c => by rw [hh f a c]; exact Int.le_refl _)
  omega
theorem sm_addf (g h : Nat → Int) (b : Nat) : ∀ k, sm (fun f => g f + h f) b k = sm g b k + sm h b k
  | 0 => by simp only [sm_zero]; omega
  | k + 1 => by simp only [sm_succ]; rw [sm_addf g h b k]; omega
theorem sm_mul (g : Nat → Int) (c : Int) (b : Nat) : ∀ k, sm (fun f => g f * c) b k = sm g b k * c
  | 0 => by simp only [sm_zero]; omega
  | k + 1 => by simp only [sm_succ]; rw [sm_mul g c b k, Int.add_mul]
theorem sm_nn {g : Nat → Int} {b k : Nat} (h : ∀ f, b ≤ f → f < b + k → 0 ≤ g f) : 0 ≤ sm g b k := by
  have := sm_le (g := fun _ => 0) (h := g) (b := b) (k := k) h
  have e : ∀ k, sm (fun _ => (0 : Int)) b k = 0 := fun k => by
    induction k with
    | zero => rfl
    | succ k ih => rw [sm_succ, ih]; rfl
  rw [e] at this; exact this
/-- what k floors from b on cost, waited for at s -/
def sgl (l : Nat → Int) (s : Int) (b k : Nat) : Int := sm (fun f => l f * dst f s) b k
/-- is it where half of all lie below or at? -/
def IsMed (l : Nat → Int) (b k m : Nat) : Prop := b ≤ m ∧ m < b + k ∧ sm l b k ≤ 2 * sm l b (m + 1 - b) ∧ (b < m → 2 * sm l b (m - b) < sm l b k)
theorem med_least {l : Nat → Int} {b k m : Nat} (hl : ∀ f, b ≤ f → f < b + k → 0 ≤ l f) (h : IsMed l b k m) (s : Int) : sgl l m b k ≤ sgl l s b k := by
  obtain ⟨h1, h2, h3, h4⟩ := h
  by_cases hs : (m : Int) ≤ s
  · obtain ⟨d, hd⟩ : ∃ d, s - m = d := ⟨_, rfl⟩
    obtain ⟨i, hi⟩ : ∃ i, m + 1 - b = i := ⟨_, rfl⟩
    obtain ⟨j, rfl⟩ : ∃ j, k = i + j := ⟨k - i, by omega⟩
    rw [hi, sm_add] at h3
    have a1 : sm (fun f => l f * dst f m + l f * d) b i ≤ sm (fun f => l f * dst f s) b i := sm_le (fun f f1 f2 => by
      rw [← Int.mul_add]
      refine Int.mul_le_mul_of_nonneg_left ?_ (hl f f1 (by omega))
      have : (f : Int) ≤ m := by omega
      unfold dst; split <;> split <;> omega)
    have a2 : sm (fun f => l f * dst f m + l f * (-d)) (b + i) j ≤ sm (fun f => l f * dst f s) (b + i) j := sm_le (fun f f1 f2 => by
      rw [← Int.mul_add]
      refine Int.mul_le_mul_of_nonneg_left ?_ (hl f (by omega) (by omega))
      unfold dst; split <;> split <;> omega)
    rw [sm_addf, sm_mul] at a1 a2
    unfold sgl
    rw [sm_add, sm_add]
    have c : 0 ≤ (sm l b i - sm l (b + i) j) * d := Int.mul_nonneg (by omega) (by omega)
    rw [Int.sub_mul] at c
    rw [Int.mul_neg] at a2
    omega
  · obtain ⟨d, hd⟩ : ∃ d, (m : Int) - s = d := ⟨_, rfl⟩
    obtain ⟨i, hi⟩ : ∃ i, m - b = i := ⟨_, rfl⟩
    obtain ⟨j, rfl⟩ : ∃ j, k = i + j := ⟨k - i, by omega⟩
    have a1 : sm (fun f => l f * dst f m + l f * (-d)) b i ≤ sm (fun f => l f * dst f s) b i := sm_le (fun f f1 f2 => by
      rw [← Int.mul_add]
      refine Int.mul_le_mul_of_nonneg_left ?_ (hl f f1 (by omega))
      unfold dst; split <;> split <;> omega)
    have a2 : sm (fun f => l f * dst f m + l f * d) (b + i) j ≤ sm (fun f => l f * dst f s) (b + i) j := sm_le (fun f f1 f2 => by
      rw [← Int.mul_add]
      refine Int.mul_le_mul_of_nonneg_left ?_ (hl f (by omega) (by omega))
      have : (m : Int) ≤ f := by omega
      unfold dst; split <;> split <;> omega)
    rw [sm_addf, sm_mul] at a1 a2
    have h5 : 0 ≤ sm l (b + i) j - sm l b i := by
      by_cases hb : b < m
      · have := h4 hb; rw [hi, sm_add] at this; omega
      · obtain rfl : i = 0 := by omega
        have := sm_nn (g := l) (b := b + 0) (k := j) (fun f f1 f2 => hl f (by omega) (by omega))
        rw [sm_zero]; omega
    unfold sgl
    rw [sm_add, sm_add]
    have c : 0 ≤ (sm l (b + i) j - sm l b i) * d := Int.mul_nonneg h5 (by omega)
    rw [Int.sub_mul] at c
    rw [Int.mul_neg] at a1
    omega
/-- the least distance to some floors -/
def IsNL (S : List Int) (f : Int) (d : Int) : Prop := (∃ s, s ∈ S ∧ d = dst s f) ∧ ∀ s, s ∈ S → d ≤ dst s f
theorem exists_max : ∀ (S : List Int), S ≠ [] → ∃ m, m ∈ S ∧ ∀ s, s ∈ S → s ≤ m
  | [], h => absurd rfl h
  | [x], _ => ⟨x, by simp, fun s hs => by rw [List.mem_singleton.1 hs]; exact Int.le_refl _⟩
  | x :: y :: r, _ => by
    obtain ⟨m, hm, h⟩ := exists_max (y :: r) (by simp)
    by_cases hx : x ≤ m
    · exact ⟨m, List.mem_cons_of_mem _ hm, fun s hs => by
        rcases List.mem_cons.1 hs with rfl | hs
        · exact hx
        · exact h s hs⟩
    · exact ⟨x, by simp, fun s hs => by
        rcases List.mem_cons.1 hs with rfl | hs
        · exact Int.le_refl _
        · have := h s hs; omega⟩
theorem exists_first (P : Nat → Prop) (e : Nat) : ∃ b, b ≤ e ∧ (b < e → P b) ∧ ∀ f, f < b → ¬ P f := by
  induction e with
  | zero => exact ⟨0, Nat.le_refl _, fun h => absurd h (Nat.lt_irrefl _), fun f h => absurd h (Nat.not_lt_zero _)⟩
  | succ e ih =>
    obtain ⟨b, h1, h2, h3⟩ := ih
    by_cases hb : b < e
    · exact ⟨b, by omega, fun _ => h2 hb, h3⟩
    · obtain rfl : b = e := by omega
      by_cases hp : P b
      · exact ⟨b, by omega, fun _ => hp, h3⟩
      · exact ⟨b + 1, Nat.le_refl _, fun h => absurd h (Nat.lt_irrefl _), fun f hf => by
          by_cases e : f = b
          · rw [e]; exact hp
          · exact h3 f (by omega)⟩
/-- the rows of plans: one car; one car more -/
structure Rows (l : Nat → Int) (n : Nat) (sg : Nat → Nat → Int) (R : Nat → Nat → Int) : Prop where
  least : ∀ b e (s : Int), b ≤ e → e ≤ n → sg b e ≤ sgl l s b (e - b)
  one : ∀ e, e ≤ n → R 0 e ≤ sg 0 e
  all : ∀ j e, e ≤ n → R (j + 1) e ≤ sg 0 e
  more : ∀ j b e, 0 < b → b < e → e ≤ n → R (j + 1) e ≤ R j b + sg b e
  mono : ∀ j e, e ≤ n → R (j + 1) e ≤ R j e
theorem rows_all {l : Nat → Int} {n : Nat} {sg R : Nat → Nat → Int} (h : Rows l n sg R) : ∀ j e, e ≤ n → R j e ≤ sg 0 e
  | 0, e, he => h.one e he
  | j + 1, e, he => h.all j e he
/-- no floors cost less than the plan's row says -/
theorem lower {l : Nat → Int} {n : Nat} {sg R : Nat → Nat → Int} (hl : ∀ f, f < n → 0 ≤ l f) (h : Rows l n sg R) : ∀ (j e : Nat) (S : List Int) (g : Nat → Int), e ≤ n → S ≠ [] → S.length ≤ j + 1 → (∀ f, f < e → IsNL S f (g f)) → R j e ≤ sm (fun f => l f * g f) 0 e := by
  intro j
  induction j with
  | zero =>
    intro e S g he hS hl1 hg
    obtain ⟨m, rfl⟩ : ∃ m, S = [m] := by
      match S, hS, hl1 with
      | [m], _, _ => exact ⟨m, rfl⟩
    have hc : sm (fun f => l f * g f) 0 e = sgl l m 0 e := sm_congr (fun f _ hf => by
      obtain ⟨⟨s, hs, e1⟩, _⟩ := hg f (by omega)
      rw [List.mem_singleton.1 hs] at e1
      show l f * g f = l f * dst f m
      rw [e1, dst_comm])
    have := h.least 0 e m (Nat.zero_le _) he
    have := h.one e he
    rw [hc]
    simp only [Nat.sub_zero] at *
    omega
  | succ j ih =>
    intro e S g he hS hl1 hg
    obtain ⟨m, hm, hmax⟩ := exists_max S hS
    have hTl : (S.filter fun s => decide (s ≠ m)).length < S.length := by
      rcases Nat.lt_or_ge (S.filter fun s => decide (s ≠ m)).length S.length with h | h
      · exact h
      · have := List.filter_eq_self.1 (List.Sublist.eq_of_length (List.filter_sublist (l := S) (p := fun s => decide (s ≠ m))) (by have := List.length_filter_le (fun s => decide (s ≠ m)) S; omega)) m hm
        simp at this
    obtain ⟨T, hT⟩ : ∃ T, (S.filter fun s => decide (s ≠ m)) = T := ⟨_, rfl⟩
    have hmem : ∀ t, t ∈ T ↔ t ∈ S ∧ t ≠ m := fun t => by rw [← hT]; simp
    rw [hT] at hTl
    by_cases hT0 : T = []
    · have hc : sm (fun f => l f * g f) 0 e = sgl l m 0 e := sm_congr (fun f _ hf => by
        obtain ⟨⟨s, hs, e1⟩, _⟩ := hg f (by omega)
        have : s = m := by
          by_cases q : s = m
          · exact q
          · have := (hmem s).2 ⟨hs, q⟩; rw [hT0] at this; simp at this
        show l f * g f = l f * dst f m
        rw [e1, this, dst_comm])
      have := h.least 0 e m (Nat.zero_le _) he
      have := h.all j e he
      rw [hc]
      simp only [Nat.sub_zero] at *
      omega
    · obtain ⟨b, hb, hb1, hb2⟩ := exists_first (fun f => ∀ t, t ∈ T → dst m f ≤ dst t f) e
      -- behind b the last floor is nearest
      have up : ∀ f, b ≤ f → f < e → g f = dst m f := fun f f1 f2 => by
        have hb' := hb1 (by omega)
        obtain ⟨⟨s, hs, e1⟩, h2⟩ := hg f f2
        have h3 := h2 m hm
        by_cases q : s = m
        · rw [e1, q]
        · have h4 := hb' s ((hmem s).2 ⟨hs, q⟩)
          have h5 := hmax s hs
          have : dst m f ≤ dst s f := by
            have f1' : (b : Int) ≤ f := by omega
            unfold dst at *
            split at h4 <;> split at h4 <;> split <;> split <;> omega
          omega
      have dn : ∀ f, f < b → IsNL T f (g f) := fun f f1 => by
        obtain ⟨⟨s, hs, e1⟩, h2⟩ := hg f (by omega)
        refine ⟨⟨s, (hmem s).2 ⟨hs, fun q => hb2 f f1 (fun t ht => ?_)⟩, e1⟩, fun t ht => h2 t ((hmem t).1 ht).1⟩
        rw [← q, ← e1]; exact h2 t ((hmem t).1 ht).1
      obtain ⟨k, rfl⟩ : ∃ k, e = b + k := ⟨e - b, by omega⟩
      rw [sm_add, Nat.zero_add]
      have hup : sm (fun f => l f * g f) b k = sgl l m b k := sm_congr (fun f f1 f2 => by
        show l f * g f = l f * dst f m
        rw [up f f1 f2, dst_comm])
      rw [hup]
      have hls := h.least b (b + k) m (by omega) he
      rw [Nat.add_sub_cancel_left] at hls
      by_cases hb0 : b = 0
      · subst hb0
        have := h.all j (0 + k) he
        rw [sm_zero]; omega
      · have hi := ih b T g (by omega) hT0 (by omega) dn
        by_cases hk : k = 0
        · subst hk
          have := h.mono j b (by omega)
          show R (j + 1) b ≤ _
          unfold sgl
          rw [sm_zero]; omega
        · have := h.more j b (b + k) (by omega) (by omega) he
          omega
/-- the least distance, worked out -/
def nl : List Int → Int → Int
  | [], _ => 0
  | x :: r, f => if r = [] then dst x f else min (dst x f) (nl r f)
theorem nl_is (f : Int) : ∀ (S : List Int), S ≠ [] → IsNL S f (nl S f)
  | [], h => absurd rfl h
  | x :: r, _ => by
    unfold nl
    by_cases hr : r = []
    · rw [if_pos hr, hr]
      exact ⟨⟨x, by simp, rfl⟩, fun s hs => by rw [List.mem_singleton.1 hs]; exact Int.le_refl _⟩
    · rw [if_neg hr]
      obtain ⟨⟨s, hs, e⟩, h2⟩ := nl_is f r hr
      refine ⟨?_, fun t ht => ?_⟩
      · by_cases q : dst x f ≤ nl r f
        · exact ⟨x, by simp, by omega⟩
        · exact ⟨s, List.mem_cons_of_mem _ hs, by omega⟩
      · rcases List.mem_cons.1 ht with rfl | ht
        · omega
        · have := h2 t ht; omega
theorem isNL_unique {S : List Int} {f d e : Int} (h : IsNL S f d) (g : IsNL S f e) : d = e := by
  obtain ⟨⟨k, hk, rfl⟩, h2⟩ := h
  obtain ⟨⟨j, hj, rfl⟩, g2⟩ := g
  have := h2 j hj
  have := g2 k hk
  omega
/-- what the rows of plans hold: where the last car's floors begin, where it waits -/
structure Plans (l : Nat → Int) (n : Nat) (bg pt : Nat → Nat → Nat) (R : Nat → Nat → Int) : Prop where
  lt : ∀ j e, 0 < e → e ≤ n → bg j e ≤ pt j e ∧ pt j e < e
  one : ∀ e, 0 < e → e ≤ n → bg 0 e = 0
  cost : ∀ j e, 0 < e → e ≤ n → R j e = (if bg j e = 0 then 0 else R (j - 1) (bg j e)) + sgl l (pt j e) (bg j e) (e - bg j e)
/-- where cars wait, by the plans of so many -/
def chn (bg pt : Nat → Nat → Nat) : Nat → Nat → List Int
  | 0, e => if e = 0 then [] else [((pt 0 e : Nat) : Int)]
  | k + 1, e => if e = 0 then [] else chn bg pt k (bg (k + 1) e) ++ [((pt (k + 1) e : Nat) : Int)]
theorem chn_zero (bg pt : Nat → Nat → Nat) : ∀ k, chn bg pt k 0 = []
  | 0 => rfl
  | k + 1 => rfl
theorem chn_len (bg pt : Nat → Nat → Nat) : ∀ k e, (chn bg pt k e).length ≤ k + 1
  | 0, e => by unfold chn; split <;> simp
  | k + 1, e => by
    unfold chn
    split
    · simp
    · rw [List.length_append]; have := chn_len bg pt k (bg (k + 1) e); simp; omega
theorem chn_mem {l : Nat → Int} {n : Nat} {bg pt : Nat → Nat → Nat} {R : Nat → Nat → Int} (h : Plans l n bg pt R) : ∀ k e, e ≤ n → ∀ s, s ∈ chn bg pt k e → 0 ≤ s ∧ s < e
  | 0, e, he, s, hs => by
    unfold chn at hs
    split at hs
    · simp at hs
    · rw [List.mem_singleton.1 hs]
      have := h.lt 0 e (by omega) he
      omega
  | k + 1, e, he, s, hs => by
    unfold chn at hs
    split at hs
    · simp at hs
    · have hl := h.lt (k + 1) e (by omega) he
      rcases List.mem_append.1 hs with q | q
      · have := chn_mem h k (bg (k + 1) e) (by omega) s q; omega
      · rw [List.mem_singleton.1 q]; omega
theorem chn_rise {l : Nat → Int} {n : Nat} {bg pt : Nat → Nat → Nat} {R : Nat → Nat → Int} (h : Plans l n bg pt R) : ∀ k e, e ≤ n → (chn bg pt k e).Pairwise (· < ·)
  | 0, e, he => by unfold chn; split <;> simp
  | k + 1, e, he => by
    unfold chn
    split
    · simp
    · have hl := h.lt (k + 1) e (by omega) he
      rw [List.pairwise_append]
      refine ⟨chn_rise h k _ (by omega), by simp, fun a ha b hb => ?_⟩
      have := chn_mem h k (bg (k + 1) e) (by omega) a ha
      rw [List.mem_singleton.1 hb]; omega
theorem chn_ne {bg pt : Nat → Nat → Nat} (k : Nat) {e : Nat} (he : 0 < e) : chn bg pt k e ≠ [] := by
  cases k with
  | zero => unfold chn; rw [if_neg (by omega)]; simp
  | succ k => unfold chn; rw [if_neg (by omega)]; simp
theorem upper {l : Nat → Int} {n : Nat} {bg pt : Nat → Nat → Nat} {R : Nat → Nat → Int} (hl : ∀ f, f < n → 0 ≤ l f) (h : Plans l n bg pt R) : ∀ (k e : Nat) (g : Nat → Int), 0 < e → e ≤ n → (∀ f, f < e → IsNL (chn bg pt k e) f (g f)) → sm (fun f => l f * g f) 0 e ≤ R k e
  | 0, e, g, h0, he, hg => by
    have hb := h.one e h0 he
    rw [h.cost 0 e h0 he, hb, if_pos rfl, Nat.sub_zero]
    have : sm (fun f => l f * g f) 0 e = sgl l (pt 0 e) 0 e := sm_congr (fun f _ hf => by
      obtain ⟨⟨s, hs, e1⟩, _⟩ := hg f (by omega)
      unfold chn at hs
      rw [if_neg (by omega)] at hs
      rw [List.mem_singleton.1 hs] at e1
      show l f * g f = l f * dst f _
      rw [e1, dst_comm])
    omega
  | k + 1, e, g, h0, he, hg => by
    have hlt := h.lt (k + 1) e h0 he
    rw [h.cost (k + 1) e h0 he]
    obtain ⟨b, hb⟩ : ∃ b, bg (k + 1) e = b := ⟨_, rfl⟩
    obtain ⟨p, hp⟩ : ∃ p, pt (k + 1) e = p := ⟨_, rfl⟩
    have hch : chn bg pt (k + 1) e = chn bg pt k b ++ [(p : Int)] := by
      show (if e = 0 then [] else _) = _
      rw [if_neg (by omega), hb, hp]
    rw [hch] at hg
    rw [hb, hp] at hlt ⊢
    obtain ⟨i, rfl⟩ : ∃ i, e = b + i := ⟨e - b, by omega⟩
    rw [sm_add, Nat.zero_add, Nat.add_sub_cancel_left, Nat.add_sub_cancel]
    have a2 : sm (fun f => l f * g f) b i ≤ sgl l p b i := sm_le (fun f f1 f2 => by
      refine Int.mul_le_mul_of_nonneg_left ?_ (hl f (by omega))
      rw [dst_comm]
      exact (hg f f2).2 p (by simp))
    by_cases hb0 : b = 0
    · subst hb0
      rw [if_pos rfl, sm_zero]; omega
    · rw [if_neg hb0]
      have a1 := upper hl h k b (fun f => nl (chn bg pt k b) f) (by omega) (by omega) (fun f _ => nl_is f _ (chn_ne k (by omega)))
      have a3 : sm (fun f => l f * g f) 0 b ≤ sm (fun f => l f * nl (chn bg pt k b) f) 0 b := sm_le (fun f f1 f2 => by
        refine Int.mul_le_mul_of_nonneg_left ?_ (hl f (by omega))
        obtain ⟨⟨s, hs, e1⟩, _⟩ := nl_is f (chn bg pt k b) (chn_ne k (by omega))
        rw [e1]
        exact (hg f (by omega)).2 s (List.mem_append_left _ hs))
      omega
/-- as many cars as floors cost nothing -/
theorem enough {l : Nat → Int} {n : Nat} {sg R : Nat → Nat → Int} (hl : ∀ f, f < n → 0 ≤ l f) (h : Rows l n sg R) (h0 : 0 < n) {j : Nat} (hj : n ≤ j + 1) : R j n ≤ 0 := by
  have := lower hl h j n ((List.range n).map (fun i : Nat => (i : Int))) (fun _ => 0) (Nat.le_refl _) (by intro e; have := congrArg List.length e; simp at this; omega) (by simp; omega) (fun f hf => ⟨⟨(f : Int), by simp; exact ⟨f, hf, rfl⟩, by unfold dst; split <;> omega⟩, fun s _ => dst_nn _ _⟩)
  have e : sm (fun f => l f * 0) 0 n = 0 := by rw [sm_mul]; omega
  rw [e] at this
  exact this
end Go.Proofs.Ytloplambpfjioaa
