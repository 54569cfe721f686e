/- Legs: which has a tick, where a car is, and what it does at the ticks of a span (plain mathematics). -/
import Derived.Test.YtobeppajomhfjacDoorRows
namespace Go.Proofs.YtobeppajomhfjacDoor
/-- the number behind the last leg that begins at or before a tick; 0: there is none -/
def lastL (T : Nat → Int) (t : Int) : Nat → Nat
  | 0 => 0
  | n + 1 => if T n ≤ t then n + 1 else lastL T t n
theorem lastL_succ (T : Nat → Int) (t : Int) (n : Nat) : lastL T t (n + 1) = if T n ≤ t then n + 1 else lastL T t n := rfl
theorem lastL_le (T : Nat → Int) (t : Int) : ∀ n, lastL T t n ≤ n
  | 0 => Nat.le_refl _
  | n + 1 => by have := lastL_le T t n; rw [lastL_succ]; split <;> omega
theorem lastL_at (T : Nat → Int) (t : Int) : ∀ n, 0 < lastL T t n → T (lastL T t n - 1) ≤ t
  | 0, h => absurd h (by simp [lastL])
  | n + 1, h => by
    rw [lastL_succ] at h ⊢
    split
    · rename_i c; simpa using c
    · rename_i c; rw [if_neg c] at h; exact lastL_at T t n h
theorem lastL_gt (T : Nat → Int) (t : Int) : ∀ n i, lastL T t n ≤ i → i < n → t < T i
  | 0, _, _, h => absurd h (by omega)
  | n + 1, i, h, hi => by
    rw [lastL_succ] at h
    split at h
    · omega
    · rename_i c
      by_cases e : i = n
      · rw [e]; omega
      · exact lastL_gt T t n i h (by omega)
/-- do the ticks of so many legs rise? -/
def Rises (T : Nat → Int) (n : Nat) : Prop := ∀ i, i + 1 < n → T i < T (i + 1)
theorem rises_lt {T : Nat → Int} {n : Nat} (h : Rises T n) : ∀ k i, i < k → k < n → T i < T k
  | 0, _, h1, _ => absurd h1 (by omega)
  | k + 1, i, h1, h2 => by
    have h3 := h k h2
    by_cases e : i = k
    · rw [e]; exact h3
    · have := rises_lt h k i (by omega) (by omega); omega
theorem lastL_eq {T : Nat → Int} {n : Nat} (hr : Rises T n) {t : Int} {r : Nat} (h0 : r ≤ n) (h1 : 0 < r → T (r - 1) ≤ t) (h2 : r < n → t < T r) : lastL T t n = r := by
  have a := lastL_le T t n
  rcases Nat.lt_trichotomy (lastL T t n) r with h | h | h
  · have := lastL_gt T t n (r - 1) (by omega) (by omega); have := h1 (by omega); omega
  · exact h
  · have h3 := lastL_at T t n (by omega)
    have h4 := h2 (by omega)
    by_cases e : r = lastL T t n - 1
    · rw [← e] at h3; omega
    · have := rises_lt hr (lastL T t n - 1) r (by omega) (by omega); omega
/-- where it is behind a tick, of so many legs: 0, if no leg has it -/
def posL (T P D : Nat → Int) (t : Int) (r : Nat) : Int := if r = 0 then 0 else P (r - 1) + D (r - 1) * (t - T (r - 1))
def dorL (O : Nat → Bool) (r : Nat) : Bool := if r = 0 then false else O (r - 1)
/-- what a car does at a tick: by how much it is higher; whether its door is other than closed -/
def cameL (T P D : Nat → Int) (n : Nat) (t : Int) : Int :=
  if lastL T (t - 1) n = 0 ∨ lastL T t n = 0 then 0 else posL T P D t (lastL T t n) - posL T P D (t - 1) (lastL T (t - 1) n)
def upL (T P D : Nat → Int) (O : Nat → Bool) (n : Nat) (t : Int) : Int := if dorL O (lastL T t n) = false ∧ 0 < cameL T P D n t then 1 else 0
def dnL (T P D : Nat → Int) (O : Nat → Bool) (n : Nat) (t : Int) : Int := if dorL O (lastL T t n) = false ∧ cameL T P D n t < 0 then 1 else 0
def doL (T : Nat → Int) (O : Nat → Bool) (n : Nat) (t : Int) : Int := if dorL O (lastL T t n) = true then 1 else 0
/-- the sum over so many ticks -/
def sumF (f : Int → Int) (a : Int) : Nat → Int
  | 0 => 0
  | m + 1 => sumF f a m + f (a + m)
theorem sumF_succ (f : Int → Int) (a : Int) (m : Nat) : sumF f a (m + 1) = sumF f a m + f (a + m) := rfl
theorem sumF_add (f : Int → Int) (a : Int) (m : Nat) : ∀ k, sumF f a (m + k) = sumF f a m + sumF f (a + m) k
  | 0 => by simp [sumF]
  | k + 1 => by
    have := sumF_add f a m k
    rw [← Nat.add_assoc, sumF_succ, sumF_succ, this]
    have e : a + ((m + k : Nat) : Int) = a + (m : Int) + (k : Int) := by omega
    rw [e]; omega
theorem sumF_const (f : Int → Int) (a c : Int) : ∀ k, (∀ j : Nat, j < k → f (a + j) = c) → sumF f a k = c * k
  | 0, _ => by simp [sumF]
  | k + 1, h => by
    have := sumF_const f a c k fun j hj => h j (by omega)
    rw [sumF_succ, this, h k (by omega)]
    have e : c * ((k + 1 : Nat) : Int) = c * k + c := by rw [Int.natCast_add, Int.mul_add]; simp
    rw [e]
theorem sumF_bd (f : Int → Int) (a : Int) (h : ∀ t, 0 ≤ f t ∧ f t ≤ 1) : ∀ k, 0 ≤ sumF f a k ∧ sumF f a k ≤ k
  | 0 => by simp [sumF]
  | k + 1 => by have := sumF_bd f a h k; have := h (a + k); rw [sumF_succ]; omega
/-- up to which tick the legs ahead of one have told -/
def endL (T : Nat → Int) (n : Nat) (a b : Int) (i : Nat) : Int := if i < n then max a (min b (T i)) else max a b
/-- the sum of what is done at the ticks of a span ahead of a leg -/
def partL (f : Int → Int) (T : Nat → Int) (n : Nat) (a b : Int) (i : Nat) : Int := sumF f a (endL T n a b i - a).toNat
theorem endL_ge (T : Nat → Int) (n : Nat) (a b : Int) (i : Nat) : a ≤ endL T n a b i ∧ endL T n a b i ≤ max a b := by unfold endL; split <;> omega
/-- the tick at which a leg ends in a span -/
def cutL (T : Nat → Int) (n : Nat) (b : Int) (i : Nat) : Int := if i + 1 < n then min b (T (i + 1)) else b
theorem endL_next {T : Nat → Int} {n i : Nat} {a b : Int} (hr : Rises T n) (hi : i < n) (hb : T i < b) :
    (max (T i) a < cutL T n b i → endL T n a b i = max (T i) a ∧ endL T n a b (i + 1) = cutL T n b i) ∧ (cutL T n b i ≤ max (T i) a → endL T n a b (i + 1) = endL T n a b i) := by
  unfold endL cutL
  rw [if_pos hi]
  by_cases h : i + 1 < n
  · have := hr i h
    rw [if_pos h, if_pos h]
    constructor <;> intro h1 <;> (try constructor) <;> omega
  · rw [if_neg h, if_neg h]
    constructor <;> intro h1 <;> (try constructor) <;> omega
/-- the ticks within a leg -/
theorem in_leg {T : Nat → Int} {n i : Nat} (hr : Rises T n) (hi : i < n) {t : Int} (h0 : T i ≤ t) (h1 : i + 1 < n → t < T (i + 1)) : lastL T t n = i + 1 := lastL_eq hr (by omega) (fun _ => by simpa using h0) h1
theorem came_in {T P D : Nat → Int} {n i : Nat} (hr : Rises T n) (hi : i < n) {t : Int} (h0 : T i < t) (h1 : i + 1 < n → t < T (i + 1)) : cameL T P D n t = D i := by
  unfold cameL
  rw [in_leg hr hi (by omega) h1, in_leg hr hi (t := t - 1) (by omega) (fun h => by have := h1 h; omega), if_neg (by omega)]
  unfold posL
  rw [if_neg (by omega), if_neg (by omega)]
  simp only [Nat.add_sub_cancel]
  obtain ⟨y, hy⟩ : ∃ y, t - 1 - T i = y := ⟨_, rfl⟩
  have e : t - T i = y + 1 := by omega
  rw [hy, e, Int.mul_add, Int.mul_one]; omega
/-- what a leg adds -/
def addL (f : Int → Int) (g a b : Int) : Int := f a + g * (b - a - 1)
theorem part_step {f : Int → Int} {T : Nat → Int} {n i : Nat} {a b g : Int} (hr : Rises T n) (hi : i < n) (hb : T i < b) (hlt : max (T i) a < cutL T n b i)
    (hg : ∀ t, max (T i) a < t → t < cutL T n b i → f t = g) : partL f T n a b (i + 1) = partL f T n a b i + addL f g (max (T i) a) (cutL T n b i) := by
  obtain ⟨e1, e2⟩ := (endL_next hr hi hb).1 hlt
  unfold partL
  rw [e1, e2]
  have e3 : (cutL T n b i - a).toNat = (max (T i) a - a).toNat + (1 + (cutL T n b i - max (T i) a - 1).toNat) := by omega
  rw [e3, sumF_add, sumF_add]
  have e4 : a + ((max (T i) a - a).toNat : Int) = max (T i) a := by omega
  rw [e4, sumF_const f (max (T i) a + (1 : Nat)) g _ (fun j hj => hg _ (by omega) (by omega))]
  have e5 : ((cutL T n b i - max (T i) a - 1).toNat : Int) = cutL T n b i - max (T i) a - 1 := by omega
  rw [e5]
  unfold addL
  have e6 : sumF f (max (T i) a) 1 = f (max (T i) a) := by simp [sumF]
  rw [e6]
theorem part_same {f : Int → Int} {T : Nat → Int} {n i : Nat} {a b : Int} (hr : Rises T n) (hi : i < n) (hb : T i < b) (hle : cutL T n b i ≤ max (T i) a) : partL f T n a b (i + 1) = partL f T n a b i := by
  unfold partL
  rw [(endL_next hr hi hb).2 hle]
/-- where the count begins -/
theorem part_start {f : Int → Int} {T : Nat → Int} {n : Nat} {a b : Int} (hr : Rises T n) (hf : ∀ t, lastL T t n = 0 → f t = 0) : partL f T n a b (lastL T a n - 1) = 0 := by
  unfold partL
  have hk : ∀ j : Nat, j < (endL T n a b (lastL T a n - 1) - a).toNat → f (a + j) = 0 := by
    intro j hj
    by_cases h0 : lastL T a n = 0
    · rw [h0] at hj
      refine hf _ (lastL_eq hr (by omega) (fun h => absurd h (by omega)) (fun h => ?_))
      have h1 := lastL_gt T a n 0 (by omega) h
      have e : endL T n a b (0 - 1) = max a (min b (T 0)) := by unfold endL; rw [if_pos (by omega)]
      rw [e] at hj
      omega
    · have h1 := lastL_at T a n (by omega)
      have h2 := lastL_le T a n
      have e : endL T n a b (lastL T a n - 1) = max a (min b (T (lastL T a n - 1))) := by unfold endL; rw [if_pos (by omega)]
      rw [e] at hj; omega
  rw [sumF_const f a 0 _ hk, Int.zero_mul]
theorem part_end {f : Int → Int} {T : Nat → Int} {n i : Nat} {a b : Int} (h : i < n → b ≤ T i) : partL f T n a b i = sumF f a (b - a).toNat := by
  unfold partL endL
  split
  · have := h (by assumption)
    congr 1; omega
  · congr 1; omega
end Go.Proofs.YtobeppajomhfjacDoor
