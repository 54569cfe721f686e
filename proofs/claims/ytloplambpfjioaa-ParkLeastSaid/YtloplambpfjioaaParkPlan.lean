/- Parking: mathematics: the rows of plans that the program makes. -/
import Derived.Test.YtloplambpfjioaaParkOpt
namespace Go.Proofs.Ytloplambpfjioaa
set_option linter.unusedVariables false
/-- the best plan among those whose last car's floors begin below t: F the rows with a car less, A one car alone -/
def stp (F : Nat → Nat → Int) (A : Nat → Nat → Nat → Int) (e : Nat) : Nat → Nat → Int
  | 0, j => A 0 e j
  | t + 1, j => if 0 < t ∧ A t e 2 + F t 2 < stp F A e t 2 then (if j = 2 then A t e 2 + F t 2 else A t e j) else stp F A e t j
theorem stp_zero (F : Nat → Nat → Int) (A : Nat → Nat → Nat → Int) (e j : Nat) : stp F A e 0 j = A 0 e j := rfl
theorem stp_succ (F : Nat → Nat → Int) (A : Nat → Nat → Nat → Int) (e t j : Nat) : stp F A e (t + 1) j = if 0 < t ∧ A t e 2 + F t 2 < stp F A e t 2 then (if j = 2 then A t e 2 + F t 2 else A t e j) else stp F A e t j := rfl
theorem stp_one (F : Nat → Nat → Int) (A : Nat → Nat → Nat → Int) (e j : Nat) : stp F A e 1 j = A 0 e j := by
  rw [stp_succ, if_neg (by omega), stp_zero]
theorem stp_le0 (F : Nat → Nat → Int) (A : Nat → Nat → Nat → Int) (e : Nat) : ∀ t, stp F A e t 2 ≤ A 0 e 2
  | 0 => by rw [stp_zero]; exact Int.le_refl _
  | t + 1 => by
    have := stp_le0 F A e t
    rw [stp_succ]
    split
    · rw [if_pos rfl]; omega
    · exact this
theorem stp_le (F : Nat → Nat → Int) (A : Nat → Nat → Nat → Int) (e : Nat) : ∀ t b, 0 < b → b < t → stp F A e t 2 ≤ A b e 2 + F b 2
  | t + 1, b, h0, h1 => by
    rw [stp_succ]
    by_cases q : b = t
    · subst q
      split
      · rw [if_pos rfl]; exact Int.le_refl _
      · omega
    · have := stp_le F A e t b h0 (by omega)
      split
      · rw [if_pos rfl]; omega
      · exact this
theorem stp_is (F : Nat → Nat → Int) (A : Nat → Nat → Nat → Int) (e : Nat) : ∀ t, (∀ j, stp F A e t j = A 0 e j) ∨ ∃ b, 0 < b ∧ b < t ∧ stp F A e t 0 = A b e 0 ∧ stp F A e t 1 = A b e 1 ∧ stp F A e t 2 = A b e 2 + F b 2
  | 0 => Or.inl (fun j => rfl)
  | t + 1 => by
    simp only [stp_succ]
    by_cases q : 0 < t ∧ A t e 2 + F t 2 < stp F A e t 2
    · right
      refine ⟨t, q.1, by omega, ?_, ?_, ?_⟩ <;> rw [if_pos q] <;> simp
    · rcases stp_is F A e t with h | ⟨b, h0, h1, h2⟩
      · left; intro j; rw [if_neg q]; exact h j
      · right
        refine ⟨b, h0, by omega, ?_⟩
        rw [if_neg q, if_neg q, if_neg q]; exact h2
/-- the rows: one car; one car more .. -/
def rwP (A : Nat → Nat → Nat → Int) : Nat → Nat → Nat → Int
  | 0, e, j => A 0 e j
  | k + 1, e, j => stp (rwP A k) A e e j
theorem rwP_zero (A : Nat → Nat → Nat → Int) : rwP A 0 = A 0 := rfl
theorem rwP_succ (A : Nat → Nat → Nat → Int) (k e j : Nat) : rwP A (k + 1) e j = stp (rwP A k) A e e j := rfl
/-- are these the plans of one car alone? -/
structure Sgs (l : Nat → Int) (n : Nat) (A : Nat → Nat → Nat → Int) : Prop where
  low : ∀ j, j < 3 → A 0 0 j = 0
  big : ∀ b e, b < e → e ≤ n → A b e 0 = b ∧ ∃ m : Nat, IsMed l b (e - b) m ∧ A b e 1 = m ∧ A b e 2 = sgl l m b (e - b)
theorem sgl_nn {l : Nat → Int} {n : Nat} (hl : ∀ f, f < n → 0 ≤ l f) (s : Int) (b k : Nat) (h : b + k ≤ n) : 0 ≤ sgl l s b k := sm_nn (fun f f1 f2 => Int.mul_nonneg (hl f (by omega)) (dst_nn _ _))
theorem sgs_nn {l : Nat → Int} {n : Nat} {A : Nat → Nat → Nat → Int} (hl : ∀ f, f < n → 0 ≤ l f) (h : Sgs l n A) {b e : Nat} (hb : b < e) (he : e ≤ n) : 0 ≤ A b e 2 := by
  obtain ⟨_, m, _, _, h3⟩ := h.big b e hb he
  rw [h3]; exact sgl_nn hl _ _ _ (by omega)
theorem sgs_nn0 {l : Nat → Int} {n : Nat} {A : Nat → Nat → Nat → Int} (hl : ∀ f, f < n → 0 ≤ l f) (h : Sgs l n A) {e : Nat} (he : e ≤ n) : 0 ≤ A 0 e 2 := by
  by_cases h0 : e = 0
  · rw [h0, h.low 2 (by omega)]; exact Int.le_refl _
  · exact sgs_nn hl h (by omega) he
theorem rwP_nn {l : Nat → Int} {n : Nat} {A : Nat → Nat → Nat → Int} (hl : ∀ f, f < n → 0 ≤ l f) (h : Sgs l n A) : ∀ k e, e ≤ n → 0 ≤ rwP A k e 2
  | 0, e, he => sgs_nn0 hl h he
  | k + 1, e, he => by
    rw [rwP_succ]
    rcases stp_is (rwP A k) A e e with q | ⟨b, h0, h1, _, _, q⟩
    · rw [q]; exact sgs_nn0 hl h he
    · rw [q]
      have := sgs_nn hl h h1 he
      have := rwP_nn hl h k b (by omega)
      omega
theorem rwP_le {A : Nat → Nat → Nat → Int} (k e : Nat) : rwP A k e 2 ≤ A 0 e 2 := by
  cases k with
  | zero => exact Int.le_refl _
  | succ k => exact stp_le0 _ _ _ _
/-- what one car alone costs, for floors from b on, ahead of e -/
def sgE (A : Nat → Nat → Nat → Int) (b e : Nat) : Int := if b < e then A b e 2 else 0
theorem rows_of {l : Nat → Int} {n : Nat} {A : Nat → Nat → Nat → Int} (hl : ∀ f, f < n → 0 ≤ l f) (h : Sgs l n A) : Rows l n (sgE A) (fun k e => rwP A k e 2) where
  least := fun b e s hb he => by
    unfold sgE
    by_cases q : b < e
    · rw [if_pos q]
      obtain ⟨_, m, h1, _, h3⟩ := h.big b e q he
      rw [h3]; exact med_least (fun f f1 f2 => hl f (by omega)) h1 s
    · rw [if_neg q]; exact sgl_nn hl _ _ _ (by omega)
  one := fun e he => by
    unfold sgE
    by_cases q : 0 < e
    · rw [if_pos q]; exact Int.le_refl _
    · rw [if_neg q]
      obtain rfl : e = 0 := by omega
      show A 0 0 2 ≤ 0
      rw [h.low 2 (by omega)]; exact Int.le_refl _
  all := fun j e he => by
    unfold sgE
    by_cases q : 0 < e
    · rw [if_pos q]; exact rwP_le _ _
    · rw [if_neg q]
      obtain rfl : e = 0 := by omega
      have := rwP_le (A := A) (j + 1) 0
      rw [h.low 2 (by omega)] at this; exact this
  more := fun j b e h0 h1 he => by
    unfold sgE
    rw [if_pos h1]
    have := stp_le (rwP A j) A e e b h0 h1
    show stp (rwP A j) A e e 2 ≤ _
    omega
  mono := fun j => by
    induction j with
    | zero => intro e he; exact rwP_le 1 e
    | succ j ih =>
      intro e he
      show stp (rwP A (j + 1)) A e e 2 ≤ stp (rwP A j) A e e 2
      rcases stp_is (rwP A j) A e e with q | ⟨b, h0, h1, _, _, q⟩
      · rw [q]; exact stp_le0 _ _ _ _
      · rw [q]
        have a := stp_le (rwP A (j + 1)) A e e b h0 h1
        have c := ih b (by omega)
        have c' : rwP A (j + 1) b 2 ≤ rwP A j b 2 := c
        omega
theorem plans_of {l : Nat → Int} {n : Nat} {A : Nat → Nat → Nat → Int} (h : Sgs l n A) : Plans l n (fun k e => (rwP A k e 0).toNat) (fun k e => (rwP A k e 1).toNat) (fun k e => rwP A k e 2) := by
  have one : ∀ e, 0 < e → e ≤ n → ∃ m : Nat, m < e ∧ A 0 e 0 = 0 ∧ A 0 e 1 = m ∧ A 0 e 2 = sgl l m 0 e := fun e h0 he => by
    obtain ⟨a, m, b, c, d⟩ := h.big 0 e h0 he
    rw [Nat.sub_zero] at d b
    exact ⟨m, by have := b.2.1; omega, a, c, d⟩
  have all : ∀ k e, 0 < e → e ≤ n → ∃ b m : Nat, b ≤ m ∧ m < e ∧ rwP A k e 0 = b ∧ rwP A k e 1 = m ∧ (k = 0 → b = 0) ∧ rwP A k e 2 = (if b = 0 then 0 else rwP A (k - 1) b 2) + sgl l m b (e - b) := fun k e h0 he => by
    cases k with
    | zero =>
      obtain ⟨m, h1, h2, h3, h4⟩ := one e h0 he
      exact ⟨0, m, by omega, h1, h2, h3, fun _ => rfl, by rw [if_pos rfl, Nat.sub_zero]; show A 0 e 2 = _; omega⟩
    | succ k =>
      simp only [rwP_succ]
      rcases stp_is (rwP A k) A e e with q | ⟨b, hb0, hb1, q0, q1, q2⟩
      · obtain ⟨m, h1, h2, h3, h4⟩ := one e h0 he
        exact ⟨0, m, by omega, h1, by rw [q]; exact h2, by rw [q]; exact h3, fun _ => rfl, by rw [if_pos rfl, Nat.sub_zero, q, h4]; omega⟩
      · obtain ⟨a, m, b1, c, d⟩ := h.big b e hb1 he
        refine ⟨b, m, b1.1, by have := b1.2.1; omega, by rw [q0, a], by rw [q1, c], fun hh => by omega, ?_⟩
        rw [if_neg (by omega), q2, d, Nat.add_sub_cancel]; omega
  refine ⟨fun k e h0 he => ?_, fun e h0 he => ?_, fun k e h0 he => ?_⟩
  · obtain ⟨b, m, h1, h2, h3, h4, _⟩ := all k e h0 he
    show (rwP A k e 0).toNat ≤ (rwP A k e 1).toNat ∧ _
    rw [h3, h4]; omega
  · obtain ⟨b, m, h1, h2, h3, h4, h5, _⟩ := all 0 e h0 he
    show (rwP A 0 e 0).toNat = 0
    rw [h3, h5 rfl]; rfl
  · obtain ⟨b, m, h1, h2, h3, h4, h5, h6⟩ := all k e h0 he
    show rwP A k e 2 = (if (rwP A k e 0).toNat = 0 then 0 else rwP A (k - 1) (rwP A k e 0).toNat 2) + sgl l ((rwP A k e 1).toNat : Nat) (rwP A k e 0).toNat (e - (rwP A k e 0).toNat)
    rw [h3, h4, Int.toNat_natCast, Int.toNat_natCast]; exact h6
theorem plan_at {l : Nat → Int} {n : Nat} {A : Nat → Nat → Nat → Int} (h : Sgs l n A) (k : Nat) {e : Nat} (h0 : 0 < e) (he : e ≤ n) : ∃ b m : Nat, b ≤ m ∧ m < e ∧ rwP A k e 0 = b ∧ rwP A k e 1 = m ∧ (k = 0 → b = 0) := by
  cases k with
  | zero =>
    obtain ⟨a, m, b1, c, _⟩ := h.big 0 e h0 he
    exact ⟨0, m, by omega, by have := b1.2.1; omega, a, c, fun _ => rfl⟩
  | succ k =>
    rw [rwP_succ, rwP_succ]
    rcases stp_is (rwP A k) A e e with q | ⟨b, hb0, hb1, q0, q1, _⟩
    · obtain ⟨a, m, b1, c, _⟩ := h.big 0 e h0 he
      exact ⟨0, m, by omega, by have := b1.2.1; omega, by rw [q]; exact a, by rw [q]; exact c, fun _ => rfl⟩
    · obtain ⟨a, m, b1, c, _⟩ := h.big b e hb1 he
      exact ⟨b, m, b1.1, by have := b1.2.1; omega, by rw [q0, a], by rw [q1, c], fun hh => by omega⟩
end Go.Proofs.Ytloplambpfjioaa
