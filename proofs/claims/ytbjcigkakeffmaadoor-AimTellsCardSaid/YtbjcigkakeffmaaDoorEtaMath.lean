/- Eta: what lies on, and between, place by place as floor by floor; where a car turns. -/
import Derived.Test.YtbjcigkakeffmaaDoorRows
import Derived.Test.YtbjcigkakeffmaaDoorKitM
import Derived.Test.YtbjcigkakeffmaaDoorCmp
import Derived.Test.YtbjcigkakeffmaaDoorPlaceA
import Derived.Test.YtbjcigkakeffmaaDoorNearMath
import Derived.Test.YtbjcigkakeffmaaDoorNearC
import Derived.Test.YtbjcigkakeffmaaDoorBitM
import Derived.Test.YtbjcigkakeffmaaDoorBitsU
import Derived.Test.YtbjcigkakeffmaaDoorBitsV
import Derived.Test.YtbjcigkakeffmaaDoorBitsX
import Derived.Test.YtbjcigkakeffmaaDoorWantA
import Derived.Test.YtbjcigkakeffmaaDoorWantB
import Derived.Test.YtbjcigkakeffmaaDoorWantC
namespace Go.Proofs.YtbjcigkakeffmaaDoor
open Go.RowKit
set_option linter.unusedSimpArgs false
set_option linter.unusedVariables false
/-- does a place lie on from another one in a direction? -/
def ahB (p d x : Int) : Bool := decide (0 < (x - p) * d)
def ahA (l : List Int) (p d : Int) : Nat → List Int
  | 0 => []
  | k + 1 => if ahB p d (zat l k) then ahA l p d k ++ [zat l k] else ahA l p d k
theorem ahA_len (l : List Int) (p d : Int) : ∀ k, (ahA l p d k).length ≤ k
  | 0 => Nat.le_refl _
  | k + 1 => by
    have := ahA_len l p d k
    unfold ahA
    split
    · simp; omega
    · omega
theorem take_zatE {zs : List Int} {k : Nat} (h : k < zs.length) : zs.take (k + 1) = zs.take k ++ [zat zs k] := by
  rw [List.take_succ_eq_append_getElem h]; unfold zat; rw [List.getD_eq_getElem?_getD, List.getElem?_eq_getElem h]; rfl
theorem ahA_filter (l : List Int) (p d : Int) : ∀ k, k ≤ l.length → ahA l p d k = (l.take k).filter (ahB p d)
  | 0, _ => rfl
  | k + 1, hk => by
    rw [take_zatE (by omega), List.filter_append, ← ahA_filter l p d k (by omega)]
    show (if ahB p d (zat l k) = true then ahA l p d k ++ [zat l k] else ahA l p d k) = _
    cases h : ahB p d (zat l k) <;> simp [h]
theorem ahA_all (l : List Int) (p d : Int) : ahA l p d l.length = l.filter (ahB p d) := by rw [ahA_filter _ _ _ _ (Nat.le_refl _), List.take_length]
/-- the places of floors -/
def plL (l : List Int) (g : Int) (k : Nat) : List Int := rowL (fun i => zat l i * g) k
theorem plL_map (l : List Int) (g : Int) : ∀ k, k ≤ l.length → plL l g k = (l.take k).map (· * g)
  | 0, _ => rfl
  | k + 1, hk => by
    unfold plL; rw [rowL_succ, take_zatE (by omega), List.map_append, ← plL_map l g k (by omega)]; rfl
theorem plL_all (l : List Int) (g : Int) : plL l g l.length = l.map (· * g) := by rw [plL_map _ _ _ (Nat.le_refl _), List.take_length]
theorem itL_filter (F : Nat → Bool) (C : Int → Bool) : ∀ k, (itL F k).filter C = itL (fun j => F j && C j) k
  | 0 => rfl
  | k + 1 => by
    have ih := itL_filter F C k
    cases hF : F k
    · rw [itL_no hF, itL_no (by simp [hF]), ih]
    · rw [itL_yes hF, List.filter_append, ih]
      cases hC : C k
      · rw [itL_no (by simp [hF, hC])]; simp [hC]
      · rw [itL_yes (by simp [hF, hC])]; simp [hC]
theorem itL_congr {F G : Nat → Bool} : ∀ {k : Nat}, (∀ j, j < k → F j = G j) → itL F k = itL G k
  | 0, _ => rfl
  | k + 1, h => by
    have ih := itL_congr (k := k) (fun j hj => h j (by omega))
    have hk := h k (by omega)
    cases hF : F k
    · rw [itL_no hF, itL_no (by rw [← hk]; exact hF), ih]
    · rw [itL_yes hF, itL_yes (by rw [← hk]; exact hF), ih]
theorem gap_lt {a b g : Int} (hg : 1 ≤ g) : a * g < b * g ↔ a < b := ⟨fun h => Int.lt_of_mul_lt_mul_right h (by omega), fun h => Int.mul_lt_mul_of_pos_right h (by omega)⟩
theorem gap_up {q r g m : Int} (hg : 1 ≤ g) (r0 : 0 ≤ r) (r1 : r < g) : q * g + r < m * g ↔ q < m := by
  constructor
  · intro h
    by_cases h1 : q < m
    · exact h1
    · have := Int.mul_le_mul_of_nonneg_right (show m ≤ q by omega) (show 0 ≤ g by omega); omega
  · intro h
    have := Int.mul_le_mul_of_nonneg_right (show q + 1 ≤ m by omega) (show 0 ≤ g by omega)
    rw [Int.add_mul] at this; omega
theorem gap_dn {q r g m : Int} (hg : 1 ≤ g) (r0 : 0 ≤ r) (r1 : r < g) : m * g < q * g + r ↔ m < nxF q r 1 := by
  unfold nxF
  by_cases h : r = 0
  · rw [if_pos h, h, Int.add_zero]; exact gap_lt hg
  · rw [if_neg h, if_pos (by decide)]
    constructor
    · intro h2
      by_cases h1 : m < q + 1
      · exact h1
      · have := Int.mul_le_mul_of_nonneg_right (show q + 1 ≤ m by omega) (show 0 ≤ g by omega)
        rw [Int.add_mul] at this; omega
    · intro h2
      have := Int.mul_le_mul_of_nonneg_right (show m ≤ q by omega) (show 0 ≤ g by omega); omega
theorem nx_dn {q r : Int} : nxF q r (-1) = q := by unfold nxF; split <;> simp
/-- on from where a car is: by places as by floors -/
theorem ah_by {p q r g d : Int} (hg : 1 ≤ g) (r0 : 0 ≤ r) (r1 : r < g) (e : p = q * g + r) (hd : d = -1 ∨ d = 0 ∨ d = 1) (F : Nat → Bool) (j : Nat) : (F j && ahB p d ((j : Int) * g)) = byF F (nxF q r (-d)) d j := by
  unfold ahB byF
  rcases hd with rfl | rfl | rfl
  · rw [if_neg (by decide), if_pos (by decide)]
    have := gap_dn (q := q) (m := (j : Int)) hg r0 r1
    congr 1
    rw [decide_eq_decide]
    show 0 < ((j : Int) * g - p) * -1 ↔ (j : Int) < nxF q r 1
    rw [← this, e]; omega
  · simp
  · rw [if_pos (by decide)]
    have := gap_up (q := q) (m := (j : Int)) hg r0 r1
    congr 1
    rw [decide_eq_decide]
    show 0 < ((j : Int) * g - p) * 1 ↔ nxF q r (-1) < (j : Int)
    rw [nx_dn, ← this, e]; omega
theorem ah_at {f g d : Int} (hg : 1 ≤ g) (hd : d = -1 ∨ d = 0 ∨ d = 1) (F : Nat → Bool) (j : Nat) : (F j && ahB (f * g) d ((j : Int) * g)) = byF F f d j := by
  have h := ah_by (p := f * g) (q := f) (r := 0) hg (Int.le_refl _) (by omega) (by omega) hd F j
  rw [h]; unfold nxF; rw [if_pos rfl]
theorem filter_map_mul (l : List Int) (g : Int) (C : Int → Bool) : (l.map (· * g)).filter C = (l.filter fun z => C (z * g)).map (· * g) := by
  rw [List.filter_map]; rfl
theorem on_list {p q r g d : Int} (hg : 1 ≤ g) (r0 : 0 ≤ r) (r1 : r < g) (e : p = q * g + r) (hd : d = -1 ∨ d = 0 ∨ d = 1) (F : Nat → Bool) :
    ((itL F 128).map (· * g)).filter (ahB p d) = (itL (byF F (nxF q r (-d)) d) 128).map (· * g) := by
  rw [filter_map_mul, itL_filter]
  congr 1
  exact itL_congr fun j _ => ah_by hg r0 r1 e hd F j
theorem at_list {f g d : Int} (hg : 1 ≤ g) (hd : d = -1 ∨ d = 0 ∨ d = 1) (F : Nat → Bool) :
    ((itL F 128).map (· * g)).filter (ahB (f * g) d) = (itL (byF F f d) 128).map (· * g) := by
  rw [filter_map_mul, itL_filter]
  congr 1
  exact itL_congr fun j _ => ah_at hg hd F j
theorem filter_len_congr {l : List Int} {C D : Int → Bool} (h : ∀ z, z ∈ l → C z = D z) : (l.filter C).length = (l.filter D).length := by
  induction l with
  | nil => rfl
  | cons z l ih =>
    have hz := h z (by simp)
    have := ih fun y hy => h y (by simp [hy])
    rw [List.filter_cons, List.filter_cons, hz]
    split <;> simp [this]
/-- how many lie between -/
theorem bt_places {p q r g f : Int} (hg : 1 ≤ g) (r0 : 0 ≤ r) (r1 : r < g) (e : p = q * g + r) (l : List Int) :
    btP p (f * g) (l.map (· * g)) = btP (nxF q r (-(cmpI (f * g) p))) f l := by
  unfold btP
  rw [filter_map_mul, List.length_map]
  refine filter_len_congr fun z _ => ?_
  have U := gap_up (q := q) (m := z) hg r0 r1
  have UF := gap_up (q := q) (m := f) hg r0 r1
  have D := gap_dn (q := q) (m := z) hg r0 r1
  have DF := gap_dn (q := q) (m := f) hg r0 r1
  have L1 := gap_lt (a := z) (b := f) hg
  have L2 := gap_lt (a := f) (b := z) hg
  rw [← e] at U UF D DF
  rw [Bool.eq_iff_iff]
  unfold btC
  rcases Int.lt_trichotomy (f * g) p with h | h | h
  · rw [cmpI_lt h]
    show _ ↔ (decide (min (nxF q r 1) f < z) && decide (z < max (nxF q r 1) f)) = true
    have hf := DF.1 h
    simp only [Bool.and_eq_true, decide_eq_true_eq]
    rw [show min p (f * g) = f * g by omega, show max p (f * g) = p by omega, show min (nxF q r 1) f = f by omega, show max (nxF q r 1) f = nxF q r 1 by omega, D, L2]
  · rw [cmpI_eq h]
    have h0 : r = 0 := by
      have a1 : ¬ q < f := fun h1 => by have := UF.2 h1; omega
      have a2 : ¬ f < nxF q r 1 := fun h1 => by have := DF.2 h1; omega
      unfold nxF at a2
      by_cases h0 : r = 0
      · exact h0
      · rw [if_neg h0, if_pos (by decide)] at a2; omega
    have hq : q = f := by
      have a1 : ¬ q < f := fun h1 => by have := UF.2 h1; omega
      have a2 : ¬ f < nxF q r 1 := fun h1 => by have := DF.2 h1; omega
      unfold nxF at a2; rw [if_pos h0] at a2; omega
    have hn : nxF q r (-0) = f := by unfold nxF; rw [if_pos h0]; exact hq
    rw [hn, h]
    simp only [Bool.and_eq_true, decide_eq_true_eq]
    omega
  · rw [cmpI_gt h]
    show _ ↔ (decide (min (nxF q r (-1)) f < z) && decide (z < max (nxF q r (-1)) f)) = true
    rw [nx_dn]
    have hf := UF.1 h
    simp only [Bool.and_eq_true, decide_eq_true_eq]
    rw [show min p (f * g) = p by omega, show max p (f * g) = f * g by omega, show min q f = q by omega, show max q f = f by omega, U, L1]
/-- the farthest, as the document looks for it -/
def tnA (l : List Int) (p : Int) : Nat → Int
  | 0 => zat l 0
  | k + 1 => if farV (tnA l p k) p < farV (zat l k) p then zat l k else tnA l p k
/-- where a car turns: the last floor on -/
def trn (l : List Int) (d : Int) : Int := if d < 0 then zat l 0 else zat l (l.length - 1)
theorem tn_up (l : List Int) (p : Int) (hr : ∀ i j, i < j → j < l.length → zat l i < zat l j) (hp : ∀ i, i < l.length → p < zat l i) : ∀ k, k ≤ l.length → tnA l p k = zat l (k - 1)
  | 0, _ => rfl
  | 1, h => by
    show (if farV (zat l 0) p < farV (zat l 0) p then zat l 0 else zat l 0) = _
    rw [if_neg (by omega)]
  | k + 2, h => by
    show (if farV (tnA l p (k + 1)) p < farV (zat l (k + 1)) p then zat l (k + 1) else tnA l p (k + 1)) = _
    rw [tn_up l p hr hp (k + 1) (by omega)]
    have h1 := hr k (k + 1) (by omega) (by omega)
    have h2 := hp k (by omega)
    rw [if_pos (by unfold farV; rw [if_neg (by show ¬ zat l k ≤ p; omega), if_neg (by omega)]; show zat l k - p < _; omega)]
    rfl
theorem tn_dn (l : List Int) (p : Int) (hr : ∀ i j, i < j → j < l.length → zat l i < zat l j) (hp : ∀ i, i < l.length → zat l i < p) : ∀ k, k ≤ l.length → tnA l p k = zat l 0
  | 0, _ => rfl
  | k + 1, h => by
    show (if farV (tnA l p k) p < farV (zat l k) p then zat l k else tnA l p k) = _
    rw [tn_dn l p hr hp k (by omega)]
    by_cases h0 : k = 0
    · subst h0; rw [if_neg (by omega)]
    · have h1 := hr 0 k (by omega) (by omega)
      have h2 := hp k (by omega)
      rw [if_neg (by unfold farV; rw [if_pos (by omega), if_pos (by omega)]; omega)]
theorem zat_map {l : List Int} {g : Int} {i : Nat} (h : i < l.length) : zat (l.map (· * g)) i = zat l i * g := by
  unfold zat
  rw [List.getD_eq_getElem?_getD, List.getD_eq_getElem?_getD, List.getElem?_map, List.getElem?_eq_getElem h]; rfl
theorem by_side {F : Nat → Bool} {f d : Int} {j : Nat} (h : byF F f d j = true) : (0 < d ∧ f < j) ∨ (d < 0 ∧ (j : Int) < f) := by
  unfold byF at h
  split at h
  · rename_i hd; simp at h; exact .inl ⟨hd, h.2⟩
  · split at h
    · rename_i hd; simp at h; exact .inr ⟨hd, h.2⟩
    · cases h
theorem by_zero (F : Nat → Bool) (f : Int) : itL (byF F f 0) 128 = [] := by
  rw [itL_congr (G := fun _ => false) (fun j _ => by unfold byF; simp)]
  rw [itL_skip (fun _ => false) 0 128 (by omega) (fun _ _ _ => rfl)]; rfl
/-- the document's farthest is the floor of the turn -/
theorem tn_trn {p q r g d : Int} (hg : 1 ≤ g) (r0 : 0 ≤ r) (r1 : r < g) (e : p = q * g + r) (hd : d = -1 ∨ d = 0 ∨ d = 1) (F : Nat → Bool) (hn : 0 < (itL (byF F (nxF q r (-d)) d) 128).length) :
    tnA ((itL (byF F (nxF q r (-d)) d) 128).map (· * g)) p (itL (byF F (nxF q r (-d)) d) 128).length = trn (itL (byF F (nxF q r (-d)) d) 128) d * g := by
  obtain ⟨l, hl⟩ : ∃ l, itL (byF F (nxF q r (-d)) d) 128 = l := ⟨_, rfl⟩
  have hr : ∀ i j, i < j → j < l.length → zat l i < zat l j := fun i j h1 h2 => by rw [← hl] at h2 ⊢; exact itL_rise _ 128 i j h1 h2
  have hs : ∀ i, i < l.length → (0 < d ∧ nxF q r (-d) < zat l i) ∨ (d < 0 ∧ zat l i < nxF q r (-d)) := fun i h => by
    rw [← hl] at h ⊢
    obtain ⟨m, _, hb, ez⟩ := itL_at _ i h
    rw [ez]; exact by_side hb
  rw [hl] at hn ⊢
  have hr' : ∀ i j, i < j → j < (l.map (· * g)).length → zat (l.map (· * g)) i < zat (l.map (· * g)) j := fun i j h1 h2 => by
    rw [List.length_map] at h2
    rw [zat_map (by omega), zat_map h2]
    exact (gap_lt hg).2 (hr i j h1 h2)
  unfold trn
  rcases hd with rfl | rfl | rfl
  · rw [if_pos (by decide)]
    rw [tn_dn _ p hr' (fun i h => ?_) l.length (by rw [List.length_map]; exact Nat.le_refl _), zat_map hn]
    rw [List.length_map] at h
    rw [zat_map h, e]
    rcases hs i h with ⟨h1, _⟩ | ⟨_, h1⟩
    · omega
    · exact (gap_dn hg r0 r1).2 h1
  · rcases hs 0 hn with ⟨h1, _⟩ | ⟨h1, _⟩ <;> omega
  · rw [if_neg (by decide)]
    rw [tn_up _ p hr' (fun i h => ?_) l.length (by rw [List.length_map]; exact Nat.le_refl _), zat_map (by omega)]
    rw [List.length_map] at h
    rw [zat_map h, e]
    rcases hs i h with ⟨_, h1⟩ | ⟨h1, _⟩
    · rw [nx_dn] at h1; exact (gap_up hg r0 r1).2 h1
    · omega
/-- the last floor on, as the program tells it -/
theorem last_trn {G : Nat → Bool} {d r : Int} (h : IsEnd false G d r true) : 0 < (itL G 128).length ∧ r = trn (itL G 128) d := by
  unfold IsEnd at h
  unfold trn
  by_cases hd : d < 0
  · rw [if_neg (by simp [hd])] at h
    rw [if_pos hd]
    rcases h with ⟨_, m, rfl, hm, hg, hl⟩ | ⟨h, _⟩
    · obtain ⟨i, hi, ez⟩ := itL_has G m hm hg
      refine ⟨by omega, ?_⟩
      obtain ⟨m', hm', hg', ez'⟩ := itL_at G 0 (by omega)
      rw [ez']
      by_cases h0 : i = 0
      · subst h0; rw [← ez, ez']
      · have := itL_rise G 128 0 i (by omega) hi
        rw [ez, ez'] at this
        have := hl m' (by omega)
        rw [hg'] at this; cases this
    · cases h
  · rw [if_pos (by simp [hd])] at h
    rw [if_neg hd]
    rcases h with ⟨_, m, rfl, hm, hg, hl⟩ | ⟨h, _⟩
    · obtain ⟨i, hi, ez⟩ := itL_has G m hm hg
      refine ⟨by omega, ?_⟩
      obtain ⟨m', hm', hg', ez'⟩ := itL_at G ((itL G 128).length - 1) (by omega)
      rw [ez']
      by_cases h0 : i = (itL G 128).length - 1
      · subst h0; rw [← ez, ez']
      · have := itL_rise G 128 i ((itL G 128).length - 1) (by omega) (by omega)
        rw [ez, ez'] at this
        have := hl m' (by omega) hm'
        rw [hg'] at this; cases this
    · cases h
theorem last_none {G : Nat → Bool} {d r : Int} (h : IsEnd false G d r false) : (itL G 128).length = 0 := by
  have hn : ∀ j, j < 128 → G j = false := by
    unfold IsEnd at h
    split at h <;> rcases h with ⟨h, _⟩ | ⟨_, _, h⟩
    · cases h
    · exact h
    · cases h
    · exact h
  rw [itL_skip G 0 128 (by omega) (fun j _ h => hn j h)]; rfl
theorem away_dir {m p d : Int} (hd : d = -1 ∨ d = 1) : 0 ≤ (m - p) * d ↔ ¬ cmpI m p = -d := by
  have := away_iff (m := m) (p := p) (d := d) (by omega)
  rw [← this]; omega
/-- in how many ticks a car is there: D its door, st a stop's time, G what lies on from it, on: does nothing lie on from the floor? -/
def eofV (D p d g q r st fl dir : Int) (F : Nat → Bool) : Int :=
  if (itL (byF F (nxF q r (-d)) d) 128).length = 0 ∨ (¬ cmpI (fl * g) p = -d ∧ (dir = d ∨ (itL (byF F fl d) 128).length = 0)) then D + farV p (fl * g) + st * (btP (nxF q r (-(cmpI (fl * g) p))) fl (itL F 128) : Nat)
  else D + farV p (trn (itL (byF F (nxF q r (-d)) d) 128) d * g) + farV (trn (itL (byF F (nxF q r (-d)) d) 128) d * g) (fl * g) + st * (((itL (byF F (nxF q r (-d)) d) 128).length + if cmpI (fl * g) p = -d then btP (nxF q r (-(cmpI (fl * g) p))) fl (itL F 128) else 0 : Nat) : Int)
end Go.Proofs.YtbjcigkakeffmaaDoor
