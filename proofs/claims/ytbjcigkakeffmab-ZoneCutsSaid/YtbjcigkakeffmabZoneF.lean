/- Zones: what the cut's zones are like (plain mathematics). -/
import Derived.Test.YtbjcigkakeffmabRows
import Derived.Test.YtbjcigkakeffmabRowKit
import Derived.Test.YtbjcigkakeffmabRowL
import Derived.Test.YtbjcigkakeffmabRowM
import Derived.Test.YtbjcigkakeffmabZoneMath
import Derived.Test.YtbjcigkakeffmabZoneA
import Derived.Test.YtbjcigkakeffmabZoneB
import Derived.Test.YtbjcigkakeffmabZoneC
namespace Go.Proofs.Ytbjcigkakeffmab
open Go.RowKit
set_option linter.unusedSimpArgs false
set_option linter.unusedVariables false
/-- what a zone weighs -/
def wtZ (l : Nat → Int) (a b : Nat) : Int := sumZ l b - sumZ l a
/-- the zones that are closed, each full, side by side, from the lowest floor on -/
structure InvZ (l : Nat → Int) (M : Int) (k : Nat) (S : List (Int × Int)) : Prop where
  each : ∀ i, i < S.length → ∃ a b : Nat, zL S i 0 = a ∧ zL S i 1 = b ∧ a < b ∧ b < k ∧ wtZ l a b ≤ M ∧ M < wtZ l a b + l b
  chain : ∀ i, i + 1 < S.length → zL S (i + 1) 0 = zL S i 1
  first : (S.length = 0 → gbZ l M k = 0) ∧ (0 < S.length → zL S 0 0 = 0)
  last : 0 < S.length → zL S (S.length - 1) 1 = (gbZ l M k : Nat)
  most : ∀ t, t ≤ k → (∃ i a b : Nat, i < S.length ∧ zL S i 0 = a ∧ zL S i 1 = b ∧ gsZ l M t ≤ wtZ l a b) ∨ gsZ l M t ≤ gsZ l M k
theorem inv_sz {l : Nat → Int} {M : Int} {n : Nat} (h : ∀ i, i < n → 0 ≤ l i ∧ l i ≤ M) (hM : 0 ≤ M) : ∀ k, k ≤ n → InvZ l M k (szA l M k)
  | 0, _ => ⟨fun i hi => absurd hi (by simp [szA]), fun i hi => absurd hi (by simp [szA]), ⟨fun _ => rfl, fun h => absurd h (by simp [szA])⟩, fun h => absurd h (by simp [szA]), fun t ht => .inr (by rw [show t = 0 by omega]; exact Int.le_refl _)⟩
  | k + 1, hk => by
    have ih := inv_sz h hM k (by omega)
    have hl := h k (by omega)
    have gl := gs_le h hM k (by omega)
    have ge := gs_eq l M k
    have G1 := gs_succ l M k
    have B1 := gb_succ l M k
    by_cases c : M < gsZ l M k + l k
    · rw [if_pos c] at G1 B1
      have k0 : 0 < k := by
        rcases Nat.eq_zero_or_pos k with e | e
        · subst e
          have : gsZ l M 0 = 0 := rfl
          omega
        · exact e
      have gb := (gb_le l M k).2 k0
      rw [sz_yes c]
      obtain ⟨z0, z1⟩ := zL_last (szA l M k) ((gbZ l M k : Nat) : Int) (k : Int)
      have old := fun i (hi : i < (szA l M k).length) j => zL_old (szA l M k) (((gbZ l M k : Nat) : Int), (k : Int)) hi j
      have len : (szA l M k ++ [(((gbZ l M k : Nat) : Int), (k : Int))]).length = (szA l M k).length + 1 := by simp
      refine ⟨fun i hi => ?_, fun i hi => ?_, ⟨fun h0 => by rw [len] at h0; omega, fun _ => ?_⟩, fun _ => ?_, fun t ht => ?_⟩
      · rw [len] at hi
        by_cases e : i = (szA l M k).length
        · rw [e, z0, z1]
          exact ⟨gbZ l M k, k, rfl, rfl, gb, by omega, by unfold wtZ; omega, by unfold wtZ; omega⟩
        · obtain ⟨a, b, h1, h2, h3, h4, h5, h6⟩ := ih.each i (by omega)
          exact ⟨a, b, by rw [old i (by omega)]; exact h1, by rw [old i (by omega)]; exact h2, h3, by omega, h5, h6⟩
      · rw [len] at hi
        by_cases e : i + 1 = (szA l M k).length
        · rw [old i (by omega), e, z0]
          have := ih.last (by omega)
          rw [show (szA l M k).length - 1 = i by omega] at this
          rw [this]
        · rw [old i (by omega), old (i + 1) (by omega)]; exact ih.chain i (by omega)
      · by_cases e : (szA l M k).length = 0
        · have := ih.first.1 e
          have z := z0
          rw [e] at z
          rw [z, this]; rfl
        · rw [old 0 (by omega)]; exact ih.first.2 (by omega)
      · rw [len, show (szA l M k).length + 1 - 1 = (szA l M k).length by omega, z1, B1]
      · rcases Nat.lt_or_ge k t with c2 | c2
        · obtain rfl : t = k + 1 := by omega
          exact .inr (Int.le_refl _)
        · rcases ih.most t c2 with ⟨i, a, b, h1, h2, h3, h4⟩ | h4
          · exact .inl ⟨i, a, b, by rw [len]; omega, by rw [old i h1]; exact h2, by rw [old i h1]; exact h3, h4⟩
          · exact .inl ⟨(szA l M k).length, gbZ l M k, k, by rw [len]; omega, z0, z1, by unfold wtZ; omega⟩
    · rw [if_neg c] at G1 B1
      rw [sz_no c]
      refine ⟨fun i hi => ?_, ih.chain, ⟨fun h0 => by rw [B1]; exact ih.first.1 h0, ih.first.2⟩, fun h0 => by rw [B1]; exact ih.last h0, fun t ht => ?_⟩
      · obtain ⟨a, b, h1, h2, h3, h4, h5, h6⟩ := ih.each i hi
        exact ⟨a, b, h1, h2, h3, by omega, h5, h6⟩
      · rcases Nat.lt_or_ge k t with c2 | c2
        · obtain rfl : t = k + 1 := by omega
          exact .inr (Int.le_refl _)
        · rcases ih.most t c2 with h4 | h4
          · exact .inl h4
          · exact .inr (by omega)
theorem gs_same {l : Nat → Int} {M M' : Int} (hM : M' ≤ M) : ∀ k, (∀ t, t ≤ k → gsZ l M t ≤ M') → gsZ l M' k = gsZ l M k ∧ zcZ l M' k = zcZ l M k
  | 0, _ => ⟨rfl, rfl⟩
  | k + 1, h => by
    obtain ⟨h1, h2⟩ := gs_same hM k fun t ht => h t (by omega)
    have h3 := h (k + 1) (Nat.le_refl _)
    rw [gs_succ] at h3
    rw [gs_succ, gs_succ, zc_succ, zc_succ, h1, h2]
    by_cases c : M < gsZ l M k + l k
    · rw [if_pos c, if_pos (show M' < _ by omega), if_pos c, if_pos (show M' < _ by omega)]; exact ⟨rfl, rfl⟩
    · rw [if_neg c] at h3
      rw [if_neg c, if_neg (show ¬ M' < _ by omega), if_neg c, if_neg (show ¬ M' < _ by omega)]; exact ⟨rfl, rfl⟩
theorem gs_nn {l : Nat → Int} {M : Int} {n : Nat} (h : ∀ i, i < n → 0 ≤ l i ∧ l i ≤ M) : ∀ k, k ≤ n → 0 ≤ gsZ l M k
  | 0, _ => Int.le_refl _
  | k + 1, hk => by
    have := gs_nn h k (by omega)
    have := h k (by omega)
    rw [gs_succ]; split <;> omega
/-- what is told of the zones -/
structure Zones (l : Nat → Int) (n : Nat) (M : Int) (cnt : Nat) (z : Nat → Nat → Int) : Prop where
  pos : 0 < cnt
  each : ∀ i, i < cnt → ∃ a b : Nat, z i 0 = a ∧ z i 1 = b ∧ a < b ∧ b ≤ n ∧ 0 ≤ wtZ l a b ∧ wtZ l a b ≤ M ∧ (i + 1 < cnt → M < wtZ l a b + l b)
  chain : ∀ i, i + 1 < cnt → z (i + 1) 0 = z i 1
  first : z 0 0 = 0
  last : z (cnt - 1) 1 = n
  some : ∃ i a b : Nat, i < cnt ∧ z i 0 = a ∧ z i 1 = b ∧ wtZ l a b = M
theorem zones_of {zs : List Int} {n : Nat} {k : Int} (h : RgZ zs n k) : Zones (zat zs) n (lsZ zs n k) (cnZ (zat zs) (lsZ zs n k) n) (zL (cutL (zat zs) (lsZ zs n k) n)) ∧ (cnZ (zat zs) (lsZ zs n k) n : Int) ≤ k := by
  obtain ⟨hz, b0, b1⟩ := ls_bd h
  obtain ⟨h0, h1, hk, hw⟩ := h
  have CK : cnZ (zat zs) (lsZ zs n k) n ≤ k.toNat := by
    have := best_cn (l := zat zs) (M := lsZ zs n k) (N := n) hz (min k.toNat n - 1) n (Nat.le_refl _) (Int.le_refl _)
    omega
  have I := inv_sz hz b0 n (Nat.le_refl _)
  have CL := cut_len (zat zs) (lsZ zs n k) (n := n) (by omega)
  have gl := gs_le hz b0 n (Nat.le_refl _)
  have gn := gs_nn hz n (Nat.le_refl _)
  have ge := gs_eq (zat zs) (lsZ zs n k) n
  have gb := (gb_le (zat zs) (lsZ zs n k) n).2 (by omega)
  have mono := fun a b (h1 : a ≤ b) (h2 : b ≤ n) => sum_mono (l := zat zs) (n := n) (fun i hi => (hz i hi).1) (k := b) (m := a) h1 h2
  obtain ⟨l, hl⟩ : ∃ l, zat zs = l := ⟨_, rfl⟩
  obtain ⟨M, hM⟩ : ∃ M, lsZ zs n k = M := ⟨_, rfl⟩
  have LS : ∀ M', 0 ≤ M' → (∀ i, i < n → 0 ≤ l i ∧ l i ≤ M') → cnZ l M' n ≤ k.toNat → M ≤ M' := fun M' p0 p1 p2 => by
    rw [← hM]; unfold lsZ; rw [hl]
    have hcn : cnZ l M' n ≤ n := by
      obtain ⟨m, rfl⟩ : ∃ m, n = m + 1 := ⟨n - 1, by omega⟩
      have := zc_less p1 m (Nat.le_refl _)
      unfold cnZ
      rw [if_neg (by omega)]
      omega
    exact cn_best p1 p0 _ n (Nat.le_refl _) (by omega)
  rw [hl, hM] at hz CK I CL gl gn ge gb ⊢
  rw [hl] at hw mono
  rw [hM] at b0 b1
  unfold cutL at CL ⊢
  obtain ⟨S, hS⟩ : ∃ S, szA l M n = S := ⟨_, rfl⟩
  rw [hS] at I CL ⊢
  obtain ⟨B, hB⟩ : ∃ B, gbZ l M n = B := ⟨_, rfl⟩
  have IL := I.last
  have IF := I.first
  rw [hB] at ge gb CL IL IF ⊢
  obtain ⟨z0, z1⟩ := zL_last S (B : Int) (n : Int)
  have old := fun i (hi : i < S.length) j => zL_old S ((B : Int), (n : Int)) hi j
  have len : (S ++ [((B : Int), (n : Int))]).length = S.length + 1 := by simp
  rw [len] at CL
  rw [← CL]
  have wl : wtZ l B n = gsZ l M n := by unfold wtZ; omega
  refine ⟨⟨by omega, fun i hi => ?_, fun i hi => ?_, ?_, ?_, ?_⟩, by omega⟩
  · by_cases e : i = S.length
    · rw [e, z0, z1]
      exact ⟨B, n, rfl, rfl, gb, Nat.le_refl _, by omega, by omega, fun h => by omega⟩
    · obtain ⟨a, b, h1, h2, h3, h4, h5, h6⟩ := I.each i (by omega)
      have := mono a b (by omega) (by omega)
      exact ⟨a, b, by rw [old i (by omega)]; exact h1, by rw [old i (by omega)]; exact h2, h3, by omega, by unfold wtZ; omega, h5, fun _ => h6⟩
  · by_cases e : i + 1 = S.length
    · rw [old i (by omega), e, z0]
      have := IL (by omega)
      rw [show S.length - 1 = i by omega] at this
      rw [this]
    · rw [old i (by omega), old (i + 1) (by omega)]; exact I.chain i (by omega)
  · by_cases e : S.length = 0
    · have := IF.1 e
      have z := z0
      rw [e] at z
      rw [z, this]; rfl
    · rw [old 0 (by omega)]; exact IF.2 (by omega)
  · rw [show S.length + 1 - 1 = S.length by omega, z1]
  · refine Classical.byContradiction fun hno => ?_
    have hlt : ∀ i a b : Nat, i < S.length + 1 → zL (S ++ [((B : Int), (n : Int))]) i 0 = a → zL (S ++ [((B : Int), (n : Int))]) i 1 = b → wtZ l a b ≤ M → wtZ l a b ≤ M - 1 := fun i a b h1 h2 h3 h4 => by
      by_cases e : wtZ l a b = M
      · exact absurd ⟨i, a, b, h1, h2, h3, e⟩ hno
      · omega
    have gsn : gsZ l M n ≤ M - 1 := by
      have := hlt S.length B n (by omega) z0 z1 (by omega)
      omega
    have all : ∀ t, t ≤ n → gsZ l M t ≤ M - 1 := fun t ht => by
      rcases I.most t ht with ⟨i, a, b, h1, h2, h3, h4⟩ | h4
      · obtain ⟨a', b', e1, e2, _, _, e5, _⟩ := I.each i h1
        obtain rfl : a = a' := by rw [h2] at e1; omega
        obtain rfl : b = b' := by rw [h3] at e2; omega
        have := hlt i a b (by omega) (by rw [old i h1]; exact h2) (by rw [old i h1]; exact h3) e5
        omega
      · omega
    have z00 := all 0 (by omega)
    have e00 : gsZ l M 0 = 0 := rfl
    have same := gs_same (l := l) (M := M) (M' := M - 1) (by omega) n all
    have p1 : ∀ i, i < n → 0 ≤ l i ∧ l i ≤ M - 1 := fun i hi => by
      have a1 := all (i + 1) (by omega)
      have a2 := gs_nn hz i (by omega)
      have a3 := hz i hi
      rw [gs_succ] at a1
      split at a1 <;> omega
    have CE : cnZ l (M - 1) n = cnZ l M n := by unfold cnZ; rw [same.2]
    have := LS (M - 1) (by omega) p1 (by rw [CE]; omega)
    omega
/-- what a zone weighs, as the program's sums go -/
theorem wg_wt {zs : List Int} {n a b : Nat} (hz : ∀ i, i < n → 0 ≤ zat zs i ∧ zat zs i ≤ 1048576) (h1 : n ≤ 128) (hab : a ≤ b) (hb : b ≤ n) : ∀ k, k ≤ n → wgA zs a b k = (if k ≤ a then 0 else if k ≤ b then sumZ (zat zs) k - sumZ (zat zs) a else sumZ (zat zs) b - sumZ (zat zs) a)
  | 0, _ => by rw [if_pos (by omega)]; rfl
  | k + 1, hk => by
    have ih := wg_wt hz h1 hab hb k (by omega)
    have ss : sumZ (zat zs) (k + 1) = sumZ (zat zs) k + zat zs k := rfl
    have bd := fun i (hi : i ≤ n) => (show 0 ≤ sumZ (zat zs) i ∧ sumZ (zat zs) i ≤ 1048576 * 128 from by
      have a := sum_mono (l := zat zs) (n := n) (fun i hi => (hz i hi).1) (k := i) (m := 0) (by omega) hi
      have b := sum_bd (l := zat zs) (H := 1048576) i (fun q hq => (hz q (by omega)).2)
      have e0 : sumZ (zat zs) 0 = 0 := rfl
      omega)
    have b1 := bd (k + 1) hk
    have b2 := bd k (by omega)
    have b3 := bd a (by omega)
    have b4 := bd b hb
    by_cases c0 : k < a
    · rw [wg_no (hasZ_no (.inl (by omega))), ih, if_pos (by omega), if_pos (by omega)]
    · by_cases c1 : k < b
      · rw [wg_yes (hasZ_yes (by omega) (by omega)), ih]
        rw [if_neg (show ¬ k + 1 ≤ a by omega), if_pos (show k + 1 ≤ b by omega)]
        by_cases c2 : k = a
        · subst c2
          rw [if_pos (Nat.le_refl _)]
          unfold wrap64; omega
        · rw [if_neg (show ¬ k ≤ a by omega), if_pos (show k ≤ b by omega)]
          unfold wrap64; omega
      · rw [wg_no (hasZ_no (.inr (by omega))), ih]
        rw [if_neg (show ¬ k + 1 ≤ a by omega), if_neg (show ¬ k + 1 ≤ b by omega)]
        by_cases c2 : k = b
        · subst c2
          by_cases c3 : k ≤ a
          · obtain rfl : k = a := by omega
            rw [if_pos (Nat.le_refl _)]; omega
          · rw [if_neg c3, if_pos (Nat.le_refl _)]
        · rw [if_neg (show ¬ k ≤ a by omega), if_neg (show ¬ k ≤ b by omega)]
theorem wg_all {zs : List Int} {n a b : Nat} (hz : ∀ i, i < n → 0 ≤ zat zs i ∧ zat zs i ≤ 1048576) (h1 : n ≤ 128) (hab : a < b) (hb : b ≤ n) : wgA zs a b n = wtZ (zat zs) a b := by
  rw [wg_wt hz h1 (by omega) hb n (Nat.le_refl _), if_neg (by omega)]
  unfold wtZ
  split
  · have : n = b := by omega
    rw [this]
  · rfl
/-- zones rise -/
theorem zn_rise {l : Nat → Int} {n cnt : Nat} {M : Int} {z : Nat → Nat → Int} (h : Zones l n M cnt z) : ∀ i j, i < j → j < cnt → z i 1 ≤ z j 0
  | i, 0, h1, _ => by omega
  | i, j + 1, h1, h2 => by
    rw [h.chain j h2]
    by_cases e : i = j
    · rw [e]; exact Int.le_refl _
    · have := zn_rise h i j (by omega) (by omega)
      obtain ⟨a, b, e1, e2, e3, _⟩ := h.each j (by omega)
      rw [e1] at this; rw [e2]; omega
theorem zn_of {l : Nat → Int} {n cnt : Nat} {M : Int} {z : Nat → Nat → Int} (h : Zones l n M cnt z) {i : Nat} {f : Int} (hi : i < cnt) (h0 : z i 0 ≤ f) (h1 : f < z i 1) : fsA z f cnt = i :=
  fs_at (fun j hj => hasZ_no (.inr (by have := zn_rise h j i hj hi; omega))) (hasZ_yes h0 h1) hi
theorem zn_low {l : Nat → Int} {n cnt : Nat} {M : Int} {z : Nat → Nat → Int} (h : Zones l n M cnt z) : fsA z (-1) cnt = -1 :=
  fs_none cnt fun i hi => by
    obtain ⟨a, b, e1, _⟩ := h.each i hi
    exact hasZ_no (.inl (by omega))
theorem zn_high {l : Nat → Int} {n cnt : Nat} {M : Int} {z : Nat → Nat → Int} (h : Zones l n M cnt z) : fsA z (n : Int) cnt = -1 :=
  fs_none cnt fun i hi => by
    obtain ⟨a, b, _, e2, _, e3, _⟩ := h.each i hi
    exact hasZ_no (.inr (by omega))
/-- the greatest of some numbers, from 0 on -/
def mxA (f : Nat → Int) : Nat → Int
  | 0 => 0
  | i + 1 => max (mxA f i) (f i)
theorem mx_le {f : Nat → Int} {M : Int} (h0 : 0 ≤ M) : ∀ k, (∀ i, i < k → f i ≤ M) → mxA f k ≤ M
  | 0, _ => h0
  | k + 1, h => by
    have := mx_le h0 k fun i hi => h i (by omega)
    have := h k (by omega)
    show max _ _ ≤ M
    omega
theorem mx_ge {f : Nat → Int} : ∀ k i, i < k → f i ≤ mxA f k
  | 0, i, h => by omega
  | k + 1, i, h => by
    show f i ≤ max _ _
    by_cases e : i = k
    · subst e; omega
    · have := mx_ge (f := f) k i (by omega); omega
end Go.Proofs.Ytbjcigkakeffmab
