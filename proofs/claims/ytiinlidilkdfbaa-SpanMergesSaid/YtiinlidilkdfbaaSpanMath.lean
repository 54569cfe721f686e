/- Mathematics of rows of spans: which numbers they have, right rows, bounds, what two rows both have, how many numbers. -/
import Derived.Test.YtiinlidilkdfbaaRowKit
import Derived.WalkKit
namespace Go.Proofs.Ytiinlidilkdfbaa
open Go.RowKit
set_option linter.unusedVariables false
set_option linter.unusedSimpArgs false
/-- has a row of spans a number? -/
def hasL : List (Int × Int) → Int → Bool
  | [], _ => false
  | p :: r, n => (decide (p.1 ≤ n) && decide (n < p.2)) || hasL r n
/-- a right row, behind a number -/
def RtL : Int → List (Int × Int) → Prop
  | _, [] => True
  | lo, p :: r => lo < p.1 ∧ p.1 < p.2 ∧ RtL p.2 r
/-- a row whose spans may be empty -/
def WkL : Int → List (Int × Int) → Prop
  | _, [] => True
  | lo, p :: r => lo < p.1 ∧ p.1 ≤ p.2 ∧ WkL p.2 r
def endL : Int → List (Int × Int) → Int
  | lo, [] => lo
  | _, p :: r => endL p.2 r
theorem rt_wk : ∀ (lo : Int) (L : List (Int × Int)), RtL lo L → WkL lo L
  | _, [], _ => trivial
  | _, p :: r, ⟨h1, h2, h3⟩ => ⟨h1, by omega, rt_wk _ r h3⟩
theorem has_app (L M : List (Int × Int)) (n : Int) : hasL (L ++ M) n = (hasL L n || hasL M n) := by
  induction L with
  | nil => simp [hasL]
  | cons p r ih => simp only [List.cons_append, hasL, ih, Bool.or_assoc]
theorem has_one (a b n : Int) : hasL [(a, b)] n = (decide (a ≤ n) && decide (n < b)) := by simp [hasL]
theorem rt_app : ∀ (L : List (Int × Int)) (lo a b : Int), RtL lo (L ++ [(a, b)]) ↔ RtL lo L ∧ endL lo L < a ∧ a < b
  | [], lo, a, b => by simp [RtL, endL]
  | p :: r, lo, a, b => by
    simp only [List.cons_append, RtL, endL, rt_app r p.2 a b]
    constructor
    · rintro ⟨h1, h2, h3, h4, h5⟩; exact ⟨⟨h1, h2, h3⟩, h4, h5⟩
    · rintro ⟨⟨h1, h2, h3⟩, h4, h5⟩; exact ⟨h1, h2, h3, h4, h5⟩
theorem end_app (L : List (Int × Int)) (lo a b : Int) : endL lo (L ++ [(a, b)]) = b := by
  induction L generalizing lo with
  | nil => rfl
  | cons p r ih => exact ih p.2
theorem has_iff (L : List (Int × Int)) (n : Int) : hasL L n = true ↔ ∃ p, p ∈ L ∧ p.1 ≤ n ∧ n < p.2 := by
  induction L with
  | nil => simp [hasL]
  | cons p r ih =>
    simp only [hasL, Bool.or_eq_true, Bool.and_eq_true, decide_eq_true_eq, ih, List.mem_cons]
    constructor
    · rintro (h | ⟨q, hq, h⟩)
      · exact ⟨p, Or.inl rfl, h⟩
      · exact ⟨q, Or.inr hq, h⟩
    · rintro ⟨q, rfl | hq, h⟩
      · exact Or.inl h
      · exact Or.inr ⟨q, hq, h⟩
theorem wk_lo : ∀ (L : List (Int × Int)) (lo n : Int), WkL lo L → hasL L n = true → lo < n
  | [], _, _, _, h => by simp [hasL] at h
  | p :: r, lo, n, ⟨h1, h2, h3⟩, h => by
    simp only [hasL, Bool.or_eq_true, Bool.and_eq_true, decide_eq_true_eq] at h
    rcases h with h | h
    · omega
    · have := wk_lo r p.2 n h3 h; omega
theorem rt_lo {L : List (Int × Int)} {lo n : Int} (h : RtL lo L) (hn : hasL L n = true) : lo < n := wk_lo L lo n (rt_wk lo L h) hn
theorem rt_end : ∀ (L : List (Int × Int)) (lo : Int), RtL lo L → lo ≤ endL lo L ∧ ∀ n, hasL L n = true → n < endL lo L
  | [], lo, _ => ⟨Int.le_refl _, fun n h => by simp [hasL] at h⟩
  | p :: r, lo, ⟨h1, h2, h3⟩ => by
    obtain ⟨i1, i2⟩ := rt_end r p.2 h3
    refine ⟨by show lo ≤ endL p.2 r; omega, fun n h => ?_⟩
    simp only [hasL, Bool.or_eq_true, Bool.and_eq_true, decide_eq_true_eq] at h
    show n < endL p.2 r
    rcases h with h | h
    · omega
    · exact i2 n h
/-- right rows with the same numbers are the same -/
theorem rt_unique : ∀ (L M : List (Int × Int)) (lo lo' : Int), RtL lo L → RtL lo' M → (∀ n, hasL L n = hasL M n) → L = M
  | [], [], _, _, _, _, _ => rfl
  | [], q :: s, _, _, _, ⟨_, h, _⟩, hh => by
    have := hh q.1
    simp [hasL, h] at this
  | p :: r, [], _, _, ⟨_, h, _⟩, _, hh => by
    have := hh p.1
    simp [hasL, h] at this
  | p :: r, q :: s, lo, lo', ⟨h1, h2, h3⟩, ⟨k1, k2, k3⟩, hh => by
    have up : ∀ n, hasL r n = true → p.2 < n := fun n h => rt_lo h3 h
    have us : ∀ n, hasL s n = true → q.2 < n := fun n h => rt_lo k3 h
    have e : ∀ n, ((p.1 ≤ n ∧ n < p.2) ∨ hasL r n = true) ↔ ((q.1 ≤ n ∧ n < q.2) ∨ hasL s n = true) := fun n => by
      have := hh n
      simp only [hasL] at this
      rw [Bool.eq_iff_iff] at this
      simpa only [Bool.or_eq_true, Bool.and_eq_true, decide_eq_true_eq] using this
    have a1 : q.1 ≤ p.1 := by
      rcases (e p.1).1 (Or.inl ⟨Int.le_refl _, h2⟩) with h | h
      · omega
      · have := us _ h; omega
    have a2 : p.1 ≤ q.1 := by
      rcases (e q.1).2 (Or.inl ⟨Int.le_refl _, k2⟩) with h | h
      · omega
      · have := up _ h; omega
    have b1 : q.2 ≤ p.2 := by
      rcases Int.lt_or_le p.2 q.2 with h | h
      · rcases (e p.2).2 (Or.inl ⟨by omega, h⟩) with g | g
        · omega
        · have := up _ g; omega
      · exact h
    have b2 : p.2 ≤ q.2 := by
      rcases Int.lt_or_le q.2 p.2 with h | h
      · rcases (e q.2).1 (Or.inl ⟨by omega, h⟩) with g | g
        · omega
        · have := us _ g; omega
      · exact h
    have ep : p = q := by
      obtain ⟨x, y⟩ := p; obtain ⟨x', y'⟩ := q
      simp only at a1 a2 b1 b2
      rw [show x = x' by omega, show y = y' by omega]
    subst ep
    rw [rt_unique r s p.2 p.2 h3 k3 (fun n => by
      rw [Bool.eq_iff_iff]
      constructor
      · intro h
        have := up n h
        rcases (e n).1 (Or.inr h) with g | g
        · omega
        · exact g
      · intro h
        have := us n h
        rcases (e n).2 (Or.inr h) with g | g
        · omega
        · exact g)]
/-- a number more in a rising row -/
def insL (x : Int) : List Int → List Int
  | [] => [x]
  | y :: r => if y < x then y :: insL x r else if y = x then y :: r else x :: y :: r
def RiL : Int → List Int → Prop
  | _, [] => True
  | lo, y :: r => lo < y ∧ RiL y r
theorem ins_mem (x : Int) : ∀ (l : List Int) (y : Int), y ∈ insL x l ↔ y = x ∨ y ∈ l
  | [], y => by simp [insL]
  | z :: r, y => by
    unfold insL
    split
    · rw [List.mem_cons, ins_mem x r y, List.mem_cons]
      constructor
      · rintro (h | h | h)
        · exact Or.inr (Or.inl h)
        · exact Or.inl h
        · exact Or.inr (Or.inr h)
      · rintro (h | h | h)
        · exact Or.inr (Or.inl h)
        · exact Or.inl h
        · exact Or.inr (Or.inr h)
    · split
      · rename_i h1 h2; subst h2; simp
      · rw [List.mem_cons]
theorem ins_rise (x : Int) : ∀ (l : List Int) (lo : Int), RiL lo l → lo < x → RiL lo (insL x l)
  | [], lo, _, h => ⟨h, trivial⟩
  | y :: r, lo, ⟨h1, h2⟩, h => by
    unfold insL
    split
    · rename_i g; exact ⟨h1, ins_rise x r y h2 g⟩
    · split
      · exact ⟨h1, h2⟩
      · exact ⟨h, by omega, h2⟩
theorem ins_at (x : Int) : ∀ (l : List Int) (k : Nat), k ≤ l.length → (∀ j, j < k → zat l j < x) → (k < l.length → ¬ zat l k < x) → insL x l = if k < l.length ∧ zat l k = x then l else l.take k ++ x :: l.drop k
  | [], k, hk, _, _ => by
    obtain rfl : k = 0 := by simpa using hk
    simp [insL]
  | y :: r, 0, hk, h1, h2 => by
    have h2 := h2 (by simp)
    have hz : zat (y :: r) 0 = y := rfl
    rw [hz] at h2 ⊢
    unfold insL
    rw [if_neg h2]
    by_cases e : y = x
    · rw [if_pos e, if_pos ⟨by simp, e⟩]
    · rw [if_neg e, if_neg (fun h => e h.2)]; rfl
  | y :: r, k + 1, hk, h1, h2 => by
    have hz : ∀ j, zat (y :: r) (j + 1) = zat r j := fun j => by simp [zat]
    have h0 := h1 0 (by omega)
    have ih := ins_at x r k (by simpa using hk) (fun j hj => by rw [← hz]; exact h1 (j + 1) (by omega)) (fun h => by rw [← hz]; exact h2 (by simpa using h))
    unfold insL
    rw [if_pos (show y < x from h0), ih, hz]
    by_cases c : k < r.length ∧ zat r k = x
    · rw [if_pos c, if_pos ⟨by simpa using c.1, c.2⟩]
    · rw [if_neg c, if_neg (fun h => c ⟨by simpa using h.1, h.2⟩)]; rfl
/-- the bounds of spans, one by one -/
def xsL (L : List (Int × Int)) (i : Nat) : Int := if i % 2 = 1 then (L.getD (i / 2) (0, 0)).2 else (L.getD (i / 2) (0, 0)).1
def bdS (L : List (Int × Int)) : Nat → List Int
  | 0 => []
  | i + 1 => insL (xsL L i) (bdS L i)
def bdL (L : List (Int × Int)) : List Int := bdS L (2 * L.length)
theorem bds_mem (L : List (Int × Int)) : ∀ i y, y ∈ bdS L i ↔ ∃ j, j < i ∧ y = xsL L j
  | 0, y => by simp [bdS]
  | i + 1, y => by
    rw [bdS, ins_mem, bds_mem L i y]
    constructor
    · rintro (h | ⟨j, hj, h⟩)
      · exact ⟨i, by omega, h⟩
      · exact ⟨j, by omega, h⟩
    · rintro ⟨j, hj, h⟩
      by_cases e : j = i
      · subst e; exact Or.inl h
      · exact Or.inr ⟨j, by omega, h⟩
theorem bds_rise (L : List (Int × Int)) (lo : Int) (hx : ∀ j, j < 2 * L.length → lo < xsL L j) : ∀ i, i ≤ 2 * L.length → RiL lo (bdS L i)
  | 0, _ => trivial
  | i + 1, h => ins_rise _ _ _ (bds_rise L lo hx i (by omega)) (hx i (by omega))
theorem bds_len (L : List (Int × Int)) : ∀ i, (bdS L i).length ≤ i
  | 0 => by simp [bdS]
  | i + 1 => by
    have := bds_len L i
    have h : ∀ (x : Int) (l : List Int), (insL x l).length ≤ l.length + 1 := fun x l => by
      induction l with
      | nil => simp [insL]
      | cons y r ih =>
        unfold insL
        split
        · simp only [List.length_cons]; omega
        · split <;> simp
    have := h (xsL L i) (bdS L i)
    rw [bdS]; omega
theorem getD_mem {L : List (Int × Int)} {k : Nat} (h : k < L.length) : L.getD k (0, 0) ∈ L := by
  rw [List.getD_eq_getElem?_getD, List.getElem?_eq_getElem h]; exact List.getElem_mem h
theorem bd_mem (L : List (Int × Int)) (y : Int) : y ∈ bdL L ↔ ∃ p, p ∈ L ∧ (y = p.1 ∨ y = p.2) := by
  unfold bdL
  rw [bds_mem]
  constructor
  · rintro ⟨j, hj, h⟩
    refine ⟨L.getD (j / 2) (0, 0), getD_mem (by omega), ?_⟩
    unfold xsL at h
    split at h
    · exact Or.inr h
    · exact Or.inl h
  · rintro ⟨p, hp, h⟩
    obtain ⟨k, hk, e⟩ := List.getElem_of_mem hp
    have eg : L.getD k (0, 0) = p := by rw [List.getD_eq_getElem?_getD, List.getElem?_eq_getElem hk]; exact e
    rcases h with h | h
    · refine ⟨2 * k, by omega, ?_⟩
      unfold xsL
      rw [if_neg (by omega), show 2 * k / 2 = k by omega, eg]; exact h
    · refine ⟨2 * k + 1, by omega, ?_⟩
      unfold xsL
      rw [if_pos (by omega), show (2 * k + 1) / 2 = k by omega, eg]; exact h
theorem ri_lt : ∀ (l : List Int) (lo : Int), RiL lo l → (∀ y, y ∈ l → lo < y) ∧ ∀ i j, i < j → j < l.length → zat l i < zat l j
  | [], lo, _ => ⟨fun y h => (List.not_mem_nil h).elim, fun i j _ h => absurd h (Nat.not_lt_zero _)⟩
  | y :: r, lo, ⟨h1, h2⟩ => by
    obtain ⟨i1, i2⟩ := ri_lt r y h2
    refine ⟨fun z hz => ?_, fun i j hij hj => ?_⟩
    · rcases List.mem_cons.1 hz with rfl | hz
      · exact h1
      · have := i1 z hz; omega
    · rcases j with _ | j
      · omega
      · have hj' : j < r.length := by simpa using hj
        have ej : zat (y :: r) (j + 1) = zat r j := by simp [zat]
        rcases i with _ | i
        · rw [ej]
          refine i1 _ ?_
          unfold zat; rw [List.getD_eq_getElem?_getD, List.getElem?_eq_getElem hj']; exact List.getElem_mem hj'
        · have ei : zat (y :: r) (i + 1) = zat r i := by simp [zat]
          rw [ei, ej]; exact i2 i j (by omega) hj'
theorem mem_at {l : List Int} {y : Int} (h : y ∈ l) : ∃ i, i < l.length ∧ zat l i = y := by
  obtain ⟨i, hi, e⟩ := List.getElem_of_mem h
  exact ⟨i, hi, by unfold zat; rw [List.getD_eq_getElem?_getD, List.getElem?_eq_getElem hi]; exact e⟩
theorem at_mem {l : List Int} {i : Nat} (h : i < l.length) : zat l i ∈ l := by
  unfold zat; rw [List.getD_eq_getElem?_getD, List.getElem?_eq_getElem h]; exact List.getElem_mem h
/-- between two bounds that follow each other all are alike -/
theorem has_const {L : List (Int × Int)} {x y n : Int} (hx : x ≤ n) (hy : n < y) (h : ∀ p, p ∈ L → (p.1 ≤ x ∨ y ≤ p.1) ∧ (p.2 ≤ x ∨ y ≤ p.2)) : hasL L n = hasL L x := by
  rw [Bool.eq_iff_iff, has_iff, has_iff]
  constructor
  · rintro ⟨p, hp, h1, h2⟩
    have := h p hp
    exact ⟨p, hp, by omega, by omega⟩
  · rintro ⟨p, hp, h1, h2⟩
    have := h p hp
    exact ⟨p, hp, by omega, by omega⟩
def kindF (kind : Int) (a b : List (Int × Int)) (n : Int) : Bool := hasL a n && (if kind = 1 then hasL b n else true) && (if kind = 2 then !hasL b n else true)
/-- the spans of those that are had, one behind the other -/
def mkA (f : Nat → Bool) (b : Nat → Int) : Nat → List (Int × Int)
  | 0 => []
  | i + 1 => if f i then (match (mkA f b i).getLast? with
      | some p => if p.2 = b i then (mkA f b i).dropLast ++ [(p.1, b (i + 1))] else mkA f b i ++ [(b i, b (i + 1))]
      | none => mkA f b i ++ [(b i, b (i + 1))]) else mkA f b i
theorem mk_no {f : Nat → Bool} {b : Nat → Int} {i : Nat} (h : f i = false) : mkA f b (i + 1) = mkA f b i := by
  show (if f i then _ else _) = _; rw [h]; rfl
theorem mk_new {f : Nat → Bool} {b : Nat → Int} {i : Nat} (h : f i = true) (hn : ∀ L p, mkA f b i = L ++ [p] → p.2 ≠ b i) : mkA f b (i + 1) = mkA f b i ++ [(b i, b (i + 1))] := by
  show (if f i then _ else _) = _; rw [h]
  simp only [if_true]
  split
  · rename_i p hp
    obtain ⟨L, hL⟩ := List.getLast?_eq_some_iff.1 hp
    rw [if_neg (hn L p hL)]
  · rfl
theorem mk_old {f : Nat → Bool} {b : Nat → Int} {i : Nat} {L : List (Int × Int)} {a : Int} (h : f i = true) (hL : mkA f b i = L ++ [(a, b i)]) : mkA f b (i + 1) = L ++ [(a, b (i + 1))] := by
  show (if f i then _ else _) = _; rw [h, hL]
  simp
theorem mk_spec (f : Nat → Bool) (b : Nat → Int) (lo : Int) (N : Nat) (h0 : lo < b 0) (hb : ∀ i, i < N → b i < b (i + 1)) : ∀ i, i ≤ N → RtL lo (mkA f b i) ∧ endL lo (mkA f b i) ≤ b i ∧ ∀ n, hasL (mkA f b i) n = true ↔ ∃ j, j < i ∧ f j = true ∧ b j ≤ n ∧ n < b (j + 1)
  | 0, _ => ⟨trivial, by show lo ≤ b 0; omega, fun n => by simp [mkA, hasL]⟩
  | i + 1, hi => by
    obtain ⟨h1, h2, h3⟩ := mk_spec f b lo N h0 hb i (by omega)
    have hbi := hb i (by omega)
    cases hf : f i with
    | false =>
      rw [mk_no hf]
      refine ⟨h1, by omega, fun n => (h3 n).trans ?_⟩
      constructor
      · rintro ⟨j, hj, g⟩; exact ⟨j, by omega, g⟩
      · rintro ⟨j, hj, g⟩
        by_cases e : j = i
        · subst e; rw [hf] at g; cases g.1
        · exact ⟨j, by omega, g⟩
    | true =>
      have step : ∀ n, (∃ j, j < i + 1 ∧ f j = true ∧ b j ≤ n ∧ n < b (j + 1)) ↔ (∃ j, j < i ∧ f j = true ∧ b j ≤ n ∧ n < b (j + 1)) ∨ (b i ≤ n ∧ n < b (i + 1)) := fun n => by
        constructor
        · rintro ⟨j, hj, g⟩
          by_cases e : j = i
          · subst e; exact Or.inr g.2
          · exact Or.inl ⟨j, by omega, g⟩
        · rintro (⟨j, hj, g⟩ | g)
          · exact ⟨j, by omega, g⟩
          · exact ⟨i, by omega, hf, g⟩
      by_cases hc : ∃ L a, mkA f b i = L ++ [(a, b i)]
      · obtain ⟨L, a, hL⟩ := hc
        rw [mk_old hf hL]
        rw [hL] at h1 h3
        obtain ⟨g1, g2, g3⟩ := (rt_app ..).1 h1
        refine ⟨(rt_app ..).2 ⟨g1, g2, by omega⟩, by rw [end_app]; exact Int.le_refl _, fun n => ?_⟩
        rw [step n, ← h3 n, has_app, has_app, has_one, has_one]
        simp only [Bool.or_eq_true, Bool.and_eq_true, decide_eq_true_eq]
        constructor
        · rintro (g | g)
          · exact Or.inl (Or.inl g)
          · by_cases q : n < b i
            · exact Or.inl (Or.inr ⟨g.1, q⟩)
            · exact Or.inr ⟨by omega, g.2⟩
        · rintro ((g | g) | g)
          · exact Or.inl g
          · exact Or.inr ⟨g.1, by omega⟩
          · exact Or.inr ⟨by omega, g.2⟩
      · have hn : ∀ L p, mkA f b i = L ++ [p] → p.2 ≠ b i := fun L p e hp => hc ⟨L, p.1, by rw [e, ← hp]⟩
        rw [mk_new hf hn]
        have he : endL lo (mkA f b i) < b i := by
          rcases List.eq_nil_or_concat (mkA f b i) with e | ⟨L, p, e⟩
          · rw [e]
            have : ∀ k, k ≤ i → b 0 ≤ b k := fun k => by
              induction k with
              | zero => intro _; exact Int.le_refl _
              | succ k ih => intro hk; have := ih (by omega); have := hb k (by omega); omega
            have := this i (Nat.le_refl _)
            show lo < b i; omega
          · rw [List.concat_eq_append] at e
            have := hn L p e
            rw [e] at h2 ⊢
            have e2 : endL lo (L ++ [p]) = p.2 := end_app L lo p.1 p.2
            rw [e2] at h2 ⊢; omega
        refine ⟨(rt_app ..).2 ⟨h1, he, hbi⟩, by rw [end_app]; exact Int.le_refl _, fun n => ?_⟩
        rw [step n, ← h3 n, has_app, has_one]
        simp only [Bool.or_eq_true, Bool.and_eq_true, decide_eq_true_eq]
/-- the row of the document -/
def makeL (a b : List (Int × Int)) (kind : Int) : List (Int × Int) := mkA (fun i => kindF kind a b (zat (bdL (a ++ b)) i)) (zat (bdL (a ++ b))) ((bdL (a ++ b)).length - 1)
theorem make_spec (a b : List (Int × Int)) (kind lo : Int) (hx : ∀ p, p ∈ a ++ b → lo < p.1 ∧ lo < p.2) : RtL lo (makeL a b kind) ∧ ∀ n, hasL (makeL a b kind) n = kindF kind a b n := by
  have hri : RiL lo (bdL (a ++ b)) := bds_rise (a ++ b) lo (fun j hj => by
    have := hx _ (getD_mem (L := a ++ b) (k := j / 2) (by omega))
    unfold xsL; split <;> omega) _ (Nat.le_refl _)
  have hmem := bd_mem (a ++ b)
  obtain ⟨B, hB⟩ : ∃ B, bdL (a ++ b) = B := ⟨_, rfl⟩
  unfold makeL
  rw [hB] at hri hmem ⊢
  obtain ⟨r1, r2⟩ := ri_lt B lo hri
  -- numbers that are had lie between the first bound and the last one
  have hin : ∀ L, (∀ p, p ∈ L → p ∈ a ++ b) → ∀ n, hasL L n = true → ∃ i, i + 1 < B.length ∧ zat B i ≤ n ∧ n < zat B (i + 1) := fun L hL n hn => by
    obtain ⟨p, hp, h1, h2⟩ := (has_iff L n).1 hn
    obtain ⟨i, hi, ei⟩ := mem_at ((hmem p.1).2 ⟨p, hL p hp, Or.inl rfl⟩)
    obtain ⟨j, hj, ej⟩ := mem_at ((hmem p.2).2 ⟨p, hL p hp, Or.inr rfl⟩)
    have key : ∀ d, ∀ i, zat B i ≤ n → i + d = j → ∃ i, i + 1 < B.length ∧ zat B i ≤ n ∧ n < zat B (i + 1) := fun d => by
      induction d with
      | zero => intro i h1' e; have : i = j := by omega
                subst this; rw [ej] at h1'; omega
      | succ d ih =>
        intro i h1' e
        by_cases c : n < zat B (i + 1)
        · exact ⟨i, by omega, h1', c⟩
        · exact ih (i + 1) (by omega) (by omega)
    have hij : i ≤ j := by
      rcases Nat.lt_or_ge j i with h | h
      · have := r2 j i h hi; omega
      · exact h
    exact key (j - i) i (by omega) (by omega)
  have hconst : ∀ L, (∀ p, p ∈ L → p ∈ a ++ b) → ∀ i n, i + 1 < B.length → zat B i ≤ n → n < zat B (i + 1) → hasL L n = hasL L (zat B i) := fun L hL i n hi h1 h2 => by
    refine has_const h1 h2 (fun p hp => ?_)
    have far : ∀ y, y ∈ B → y ≤ zat B i ∨ zat B (i + 1) ≤ y := fun y hy => by
      obtain ⟨k, hk, ek⟩ := mem_at hy
      rcases Nat.lt_trichotomy k i with h | h | h
      · have := r2 k i h (by omega); omega
      · subst h; omega
      · by_cases e : k = i + 1
        · subst e; omega
        · have := r2 (i + 1) k (by omega) hk; omega
    exact ⟨far _ ((hmem p.1).2 ⟨p, hL p hp, Or.inl rfl⟩), far _ ((hmem p.2).2 ⟨p, hL p hp, Or.inr rfl⟩)⟩
  have ka : ∀ p, p ∈ a → p ∈ a ++ b := fun p h => List.mem_append_left _ h
  have kb : ∀ p, p ∈ b → p ∈ a ++ b := fun p h => List.mem_append_right _ h
  have hcF : ∀ i n, i + 1 < B.length → zat B i ≤ n → n < zat B (i + 1) → kindF kind a b n = kindF kind a b (zat B i) := fun i n hi h1 h2 => by
    unfold kindF
    rw [hconst a ka i n hi h1 h2, hconst b kb i n hi h1 h2]
  have hlo : lo < zat B 0 ∨ B.length = 0 := by
    rcases Nat.eq_zero_or_pos B.length with h | h
    · exact Or.inr h
    · exact Or.inl (r1 _ (at_mem h))
  rcases hlo with hlo | hlo
  · obtain ⟨s1, s2, s3⟩ := mk_spec (fun i => kindF kind a b (zat B i)) (zat B) lo (B.length - 1) hlo (fun i hi => r2 i (i + 1) (by omega) (by omega)) (B.length - 1) (Nat.le_refl _)
    refine ⟨s1, fun n => ?_⟩
    rw [Bool.eq_iff_iff, s3 n]
    constructor
    · rintro ⟨j, hj, g1, g2, g3⟩
      rw [hcF j n (by omega) g2 g3]; exact g1
    · intro h
      have ha : hasL a n = true := by unfold kindF at h; simp only [Bool.and_eq_true] at h; exact h.1.1
      obtain ⟨i, hi, h1, h2⟩ := hin a ka n ha
      exact ⟨i, by omega, by rw [← hcF i n hi h1 h2]; exact h, h1, h2⟩
  · have e : mkA (fun i => kindF kind a b (zat B i)) (zat B) (B.length - 1) = [] := by rw [show B.length - 1 = 0 by omega]; rfl
    rw [e]
    refine ⟨trivial, fun n => ?_⟩
    cases hk : kindF kind a b n with
    | false => rfl
    | true =>
      have ha : hasL a n = true := by unfold kindF at hk; simp only [Bool.and_eq_true] at hk; exact hk.1.1
      obtain ⟨i, hi, _⟩ := hin a ka n ha
      omega
/-- what a row hasn't -/
def gapA : Int → List (Int × Int) → List (Int × Int)
  | cur, [] => [(cur, 9223372036854775807)]
  | cur, p :: r => (cur, p.1) :: gapA p.2 r
theorem gap_spec : ∀ (L : List (Int × Int)) (cur : Int), RtL (cur - 1) L → (∀ p, p ∈ L → p.2 ≤ 9223372036854775807) → cur ≤ 9223372036854775807 → WkL (cur - 1) (gapA cur L) ∧ ∀ n, hasL (gapA cur L) n = (decide (cur ≤ n) && (decide (n < 9223372036854775807) && !hasL L n))
  | [], cur, _, _, hc => ⟨⟨by show cur - 1 < cur; omega, hc, trivial⟩, fun n => by simp [gapA, hasL]⟩
  | p :: r, cur, ⟨h1, h2, h3⟩, hm, hc => by
    have hr : RtL (p.2 - 1) r := by
      cases r with
      | nil => trivial
      | cons q s => exact ⟨by have := h3.1; omega, h3.2⟩
    have hp := hm p (List.mem_cons_self ..)
    obtain ⟨i1, i2⟩ := gap_spec r p.2 hr (fun q hq => hm q (List.mem_cons_of_mem _ hq)) hp
    have hw : WkL p.1 (gapA p.2 r) := by
      cases r with
      | nil => exact ⟨h2, hp, trivial⟩
      | cons q s => exact ⟨h2, i1.2⟩
    refine ⟨⟨by show cur - 1 < cur; omega, by show cur ≤ p.1; omega, hw⟩, fun n => ?_⟩
    show ((decide (cur ≤ n) && decide (n < p.1)) || hasL (gapA p.2 r) n) = _
    rw [i2 n]
    have hrn : hasL r n = true → p.2 < n := fun h => rt_lo h3 h
    show _ = (decide (cur ≤ n) && (decide (n < 9223372036854775807) && !((decide (p.1 ≤ n) && decide (n < p.2)) || hasL r n)))
    cases hh : hasL r n with
    | false =>
      rw [Bool.eq_iff_iff]
      simp
      omega
    | true =>
      have := hrn hh
      rw [Bool.eq_iff_iff]
      simp
      omega
/-- how many numbers -/
def lenL : List (Int × Int) → Int
  | [] => 0
  | p :: r => (p.2 - p.1) + lenL r
def cntF (F : Int → Bool) (lo : Int) : Nat → Int
  | 0 => 0
  | k + 1 => cntF F lo k + (if F (lo + k) then 1 else 0)
theorem cnt_congr {F G : Int → Bool} (lo : Int) (h : ∀ n, F n = G n) : ∀ k, cntF F lo k = cntF G lo k
  | 0 => rfl
  | k + 1 => by rw [cntF, cntF, cnt_congr lo h k, h]
theorem cnt_or {F G : Int → Bool} (lo : Int) (h : ∀ n, ¬ (F n = true ∧ G n = true)) : ∀ k, cntF (fun n => F n || G n) lo k = cntF F lo k + cntF G lo k
  | 0 => rfl
  | k + 1 => by
    rw [cntF, cntF, cntF, cnt_or lo h k]
    have := h (lo + k)
    cases hf : F (lo + k) <;> cases hg : G (lo + k) <;> simp_all <;> omega
theorem cnt_in {a b lo : Int} (h1 : lo ≤ a) (h2 : a ≤ b) : ∀ k : Nat, cntF (fun n => decide (a ≤ n) && decide (n < b)) lo k = if lo + k ≤ a then 0 else if lo + k ≤ b then lo + k - a else b - a
  | 0 => by rw [cntF, if_pos (by simpa using h1)]
  | k + 1 => by
    rw [cntF, cnt_in h1 h2 k]
    by_cases c1 : a ≤ lo + (k : Int) <;> by_cases c2 : lo + (k : Int) < b
    all_goals (
      simp only [c1, c2, decide_true, decide_false, Bool.and_true, Bool.and_false, Bool.true_and, Bool.false_and, if_true, Bool.false_eq_true, if_false]
      repeat' split
      all_goals (first | omega))
theorem len_cnt : ∀ (L : List (Int × Int)) (lo lo' : Int) (k : Nat), WkL lo' L → lo ≤ lo' + 1 → (∀ p, p ∈ L → p.2 ≤ lo + k) → lenL L = cntF (hasL L) lo k
  | [], lo, lo', k, _, _, _ => by
    show (0 : Int) = cntF (fun _ => false) lo k
    induction k with
    | zero => rfl
    | succ k ih => rw [cntF, ← ih (fun p hp => by cases hp)]; rfl
  | p :: r, lo, lo', k, ⟨h1, h2, h3⟩, hlo, hm => by
    have i := len_cnt r lo p.2 k h3 (by omega) (fun q hq => hm q (List.mem_cons_of_mem _ hq))
    have hp := hm p (List.mem_cons_self ..)
    have e : cntF (hasL (p :: r)) lo k = cntF (fun n => (decide (p.1 ≤ n) && decide (n < p.2)) || hasL r n) lo k := rfl
    rw [e, cnt_or lo (fun n h => by
      have := wk_lo r p.2 n h3 h.2
      have := h.1
      simp at this
      omega), cnt_in (by omega) h2, ← i]
    show (p.2 - p.1) + lenL r = _
    congr 1
    split
    · omega
    · split <;> omega
theorem len_parts {a x y : List (Int × Int)} {lo : Int} {k : Nat} (ha : RtL lo a) (hx : RtL lo x) (hy : RtL lo y) (ka : ∀ p, p ∈ a → p.2 ≤ lo + k) (kx : ∀ p, p ∈ x → p.2 ≤ lo + k) (ky : ∀ p, p ∈ y → p.2 ≤ lo + k)
    (h1 : ∀ n, hasL a n = (hasL x n || hasL y n)) (h2 : ∀ n, ¬ (hasL x n = true ∧ hasL y n = true)) : lenL a = lenL x + lenL y := by
  rw [len_cnt a lo lo k (rt_wk _ _ ha) (by omega) ka, len_cnt x lo lo k (rt_wk _ _ hx) (by omega) kx, len_cnt y lo lo k (rt_wk _ _ hy) (by omega) ky, ← cnt_or lo h2, cnt_congr lo h1]
end Go.Proofs.Ytiinlidilkdfbaa
