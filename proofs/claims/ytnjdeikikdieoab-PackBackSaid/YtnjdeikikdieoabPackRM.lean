/- Mathematics of reading numbers off bytes. -/
import Derived.Test.YtnjdeikikdieoabPackE
import Derived.WalkKit
import Derived.Lib.Hide
namespace Go.Proofs.Ytnjdeikikdieoab
open Go.RowKit
set_option linter.unusedVariables false
set_option linter.unusedSimpArgs false
/-- the number that bytes are, seven bits each -/
def valB : List Int → Nat
  | [] => 0
  | c :: cs => (c % 128).toNat + 128 * valB cs
/-- how many bytes go on -/
def leadB : List Int → Nat
  | [] => 0
  | c :: cs => if 128 ≤ c then leadB cs + 1 else 0
theorem leadB_le : ∀ zs : List Int, leadB zs ≤ zs.length
  | [] => by simp [leadB]
  | c :: cs => by
    have := leadB_le cs
    unfold leadB
    split <;> simp <;> omega
/-- the number with which bytes begin, and how many it has -/
def numB (zs : List Int) : Nat × Nat :=
  if leadB zs = zs.length ∨ 9 < leadB zs then (0, 0)
  else if putB (valB (zs.take (leadB zs + 1)) % 18446744073709551616) = zs.take (leadB zs + 1) then (valB (zs.take (leadB zs + 1)) % 18446744073709551616, leadB zs + 1)
  else (0, 0)
theorem numB_bd (zs : List Int) : (numB zs).1 < 18446744073709551616 ∧ (numB zs).2 ≤ zs.length ∧ (numB zs).2 ≤ 10 ∧ ((numB zs).2 = 0 → (numB zs).1 = 0) := by
  have h := leadB_le zs
  unfold numB
  split
  · simp
  · split
    · simp only
      exact ⟨by omega, by omega, by omega, by omega⟩
    · simp
/-- bytes that begin with a number -/
def BegB (m : Nat) (l : List Int) : Prop := ∃ r, l = putB m ++ r
theorem begB_nil (m : Nat) : ¬ BegB m [] := by
  rintro ⟨r, h⟩
  by_cases hm : m < 128
  · rw [putB_lo hm] at h; simp at h
  · rw [putB_hi hm] at h; simp at h
theorem begB_cons (m : Nat) (c : Int) (cs : List Int) : BegB m (c :: cs) ↔ (m < 128 ∧ c = (m : Int)) ∨ (¬ m < 128 ∧ c = ((m % 128 + 128 : Nat) : Int) ∧ BegB (m / 128) cs) := by
  constructor
  · rintro ⟨r, h⟩
    by_cases hm : m < 128
    · rw [putB_lo hm] at h
      simp only [List.cons_append, List.nil_append, List.cons.injEq] at h
      exact Or.inl ⟨hm, h.1⟩
    · rw [putB_hi hm] at h
      simp only [List.cons_append, List.cons.injEq] at h
      exact Or.inr ⟨hm, h.1, r, h.2⟩
  · rintro (⟨hm, rfl⟩ | ⟨hm, rfl, r, rfl⟩)
    · exact ⟨cs, by rw [putB_lo hm]; rfl⟩
    · exact ⟨r, by rw [putB_hi hm]; rfl⟩
theorem beg_put : ∀ (k u : Nat) (r : List Int), u < 128 ^ (k + 1) → leadB (putB u ++ r) + 1 = (putB u).length ∧ valB (putB u) = u ∧ (putB u).length ≤ k + 1
  | k, u, r, h => by
    by_cases hm : u < 128
    · rw [putB_lo hm]
      refine ⟨?_, ?_, by simp⟩
      · have : ¬ (128 : Int) ≤ (u : Int) := by omega
        simp [leadB, this]
      · simp only [valB]
        omega
    · rcases k with _ | k
      · exact absurd h (by simpa using hm)
      · have h1 : u / 128 < 128 ^ (k + 1) := by
          rw [Nat.pow_succ] at h
          exact Nat.div_lt_of_lt_mul (by rw [Nat.mul_comm]; exact h)
        obtain ⟨i1, i2, i3⟩ := beg_put k (u / 128) r h1
        rw [putB_hi hm]
        have hc : (128 : Int) ≤ ((u % 128 + 128 : Nat) : Int) := by omega
        refine ⟨?_, ?_, by simp; omega⟩
        · show leadB (_ :: (putB (u / 128) ++ r)) + 1 = _
          unfold leadB
          rw [if_pos hc]
          simp only [List.length_cons]
          omega
        · simp only [valB, i2]
          omega
theorem numB_some {zs : List Int} {u : Nat} (hu : u < 18446744073709551616) (h : BegB u zs) : numB zs = (u, (putB u).length) := by
  obtain ⟨r, rfl⟩ := h
  obtain ⟨h1, h2, h3⟩ := beg_put 9 u r (Nat.lt_of_lt_of_le hu (by decide))
  have e1 : (putB u ++ r).take (leadB (putB u ++ r) + 1) = putB u := by
    rw [h1]; simp
  have e2 : ¬ (leadB (putB u ++ r) = (putB u ++ r).length ∨ 9 < leadB (putB u ++ r)) := by
    rw [List.length_append]; omega
  unfold numB
  rw [if_neg e2, e1, h2, Nat.mod_eq_of_lt hu, if_pos rfl, h1]
theorem numB_none {zs : List Int} (h : ∀ u, u < 18446744073709551616 → ¬ BegB u zs) : numB zs = (0, 0) := by
  unfold numB
  split
  · rfl
  · split
    · rename_i e
      exfalso
      refine h (valB (zs.take (leadB zs + 1)) % 18446744073709551616) (Nat.mod_lt _ (by decide)) ⟨zs.drop (leadB zs + 1), ?_⟩
      rw [e, List.take_append_drop]
    · rfl
/-- behind so many bytes: what they say, and what is still wanted -/
def PartB (zs : List Int) (i acc : Nat) : Prop :=
  acc < 128 ^ i ∧ (∀ u, BegB u zs → ∃ m, u = acc + 128 ^ i * m ∧ BegB m (zs.drop i) ∧ (0 < i → m ≠ 0) ∧ (putB u).length = i + (putB m).length) ∧ ∀ m, BegB m (zs.drop i) → (0 < i → m ≠ 0) → BegB (acc + 128 ^ i * m) zs
theorem partB_start (zs : List Int) : PartB zs 0 0 := by
  refine ⟨by decide, ?_, ?_⟩
  · intro u h
    refine ⟨u, by simp, by simpa using h, ?_, by omega⟩
    intro h
    omega
  · intro m h _
    simpa using h
theorem drop_zat {zs : List Int} {i : Nat} (h : i < zs.length) : zs.drop i = zat zs i :: zs.drop (i + 1) := by
  rw [List.drop_eq_getElem_cons h]
  simp [zat, List.getD, List.getElem?_eq_getElem h]
theorem partB_next {zs : List Int} {i acc c : Nat} (hp : PartB zs i acc) (hi : i < zs.length) (hz : zat zs i = (c : Int)) (h1 : 128 ≤ c) (h2 : c < 256) : PartB zs (i + 1) (acc + (c % 128) * 128 ^ i) := by
  obtain ⟨ha, hu, hv⟩ := hp
  have hP : 128 ^ (i + 1) = 128 ^ i * 128 := Nat.pow_succ ..
  rw [drop_zat hi, hz] at hu hv
  refine ⟨?_, fun u hb => ?_, fun m hb hm => ?_⟩
  · rw [hP]
    have : (c % 128) * 128 ^ i ≤ 127 * 128 ^ i := Nat.mul_le_mul_right _ (by omega)
    omega
  · obtain ⟨m, e, hb, -, hl⟩ := hu u hb
    rcases (begB_cons ..).1 hb with ⟨k1, k2⟩ | ⟨k1, k2, k3⟩
    · omega
    · refine ⟨m / 128, ?_, k3, fun _ => by omega, ?_⟩
      · have e2 : m = c % 128 + 128 * (m / 128) := by omega
        rw [e]
        conv => lhs; rw [e2]
        rw [hP, Nat.mul_add, Nat.mul_comm (c % 128), Nat.mul_assoc, Nat.add_assoc]
      · rw [hl, putB_hi k1, List.length_cons]; omega
  · have hm := hm (by omega)
    have := hv (c % 128 + 128 * m) ((begB_cons ..).2 (Or.inr ⟨by omega, by omega, by rw [show (c % 128 + 128 * m) / 128 = m by omega]; exact hb⟩)) (fun _ => by omega)
    rw [hP]
    rwa [Nat.mul_add, Nat.mul_comm (128 ^ i) (c % 128), ← Nat.mul_assoc, ← Nat.add_assoc] at this
/-- the next byte's part is too great -/
theorem partB_over {zs : List Int} {i acc c : Nat} (hp : PartB zs i acc) (hi : i < zs.length) (hz : zat zs i = (c : Int)) (h2 : c < 256) (ho : 18446744073709551616 ≤ (c % 128) * 128 ^ i) : numB zs = (0, 0) := by
  refine numB_none fun u hu hb => ?_
  obtain ⟨m, rfl, hb, -⟩ := hp.2.1 u hb
  rw [drop_zat hi, hz] at hb
  have hm : c % 128 ≤ m := by
    rcases (begB_cons ..).1 hb with ⟨k1, k2⟩ | ⟨k1, k2, k3⟩ <;> omega
  have := Nat.mul_le_mul_left (128 ^ i) hm
  rw [Nat.mul_comm] at ho
  omega
theorem partB_zero {zs : List Int} {i acc : Nat} (hp : PartB zs i acc) (hi : i < zs.length) (hz : zat zs i = 0) (h0 : 0 < i) : numB zs = (0, 0) := by
  refine numB_none fun u hu hb => ?_
  obtain ⟨m, rfl, hb, hm, -⟩ := hp.2.1 u hb
  rw [drop_zat hi, hz] at hb
  have hm := hm h0
  rcases (begB_cons ..).1 hb with ⟨k1, k2⟩ | ⟨k1, k2, k3⟩ <;> omega
theorem partB_last {zs : List Int} {i acc c : Nat} (hp : PartB zs i acc) (hi : i < zs.length) (hz : zat zs i = (c : Int)) (h1 : c < 128) (h0 : ¬ (c = 0 ∧ 0 < i)) (hu : acc + c * 128 ^ i < 18446744073709551616) : numB zs = (acc + c * 128 ^ i, i + 1) := by
  have hb : BegB (acc + c * 128 ^ i) zs := by
    have := hp.2.2 c (by rw [drop_zat hi, hz]; exact (begB_cons ..).2 (Or.inl ⟨h1, rfl⟩)) (fun h => by omega)
    rwa [Nat.mul_comm] at this
  rw [numB_some hu hb]
  obtain ⟨m, e, hm, -, hl⟩ := hp.2.1 _ hb
  rw [drop_zat hi, hz] at hm
  rw [hl]
  rcases (begB_cons ..).1 hm with ⟨k1, k2⟩ | ⟨k1, k2, k3⟩
  · rw [putB_lo k1]; rfl
  · omega
theorem partB_end {zs : List Int} {i acc : Nat} (hp : PartB zs i acc) (hi : zs.length ≤ i) : numB zs = (0, 0) := by
  refine numB_none fun u hu hb => ?_
  obtain ⟨m, rfl, hb, hm, -⟩ := hp.2.1 u hb
  rw [List.drop_eq_nil_of_le hi] at hb
  exact begB_nil _ hb
theorem partB_ten {zs : List Int} {i acc : Nat} (hp : PartB zs i acc) (hi : 10 ≤ i) : numB zs = (0, 0) := by
  refine numB_none fun u hu hb => ?_
  obtain ⟨m, rfl, hb, hm, -⟩ := hp.2.1 u hb
  have hm := hm (by omega)
  have h1 : 128 ^ 10 ≤ 128 ^ i := Nat.pow_le_pow_right (by decide) hi
  have h2 : 128 ^ i * 1 ≤ 128 ^ i * m := Nat.mul_le_mul_left _ (by omega)
  have h3 : (128 : Nat) ^ 10 = 1180591620717411303424 := by decide
  omega
end Go.Proofs.Ytnjdeikikdieoab
