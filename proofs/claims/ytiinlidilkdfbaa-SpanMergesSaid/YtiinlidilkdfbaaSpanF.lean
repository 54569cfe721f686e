/- span.And, span.Sub. -/
import Derived.Test.YtiinlidilkdfbaaRows
import Derived.Test.YtiinlidilkdfbaaRowKit
import Derived.Test.YtiinlidilkdfbaaRowS
import Derived.Test.YtiinlidilkdfbaaRowZ
import Derived.Test.YtiinlidilkdfbaaSlicesEq
import Derived.Test.YtiinlidilkdfbaaSlicesEqM
import Derived.Test.YtiinlidilkdfbaaRowL
import Derived.Test.YtiinlidilkdfbaaRowM
import Derived.Test.YtiinlidilkdfbaaMakeI
import Derived.Test.YtiinlidilkdfbaaBlocks
import Derived.Test.YtiinlidilkdfbaaSpanMath
import Derived.Test.YtiinlidilkdfbaaSpanA
import Derived.Test.YtiinlidilkdfbaaSpanB
import Derived.Test.YtiinlidilkdfbaaSpanC
import Derived.Test.YtiinlidilkdfbaaSpanD
import Derived.WalkKit
import Derived.IntWalk
import Derived.Lib.Hide
import Derived.WalkSpells
import Derived.WalkLawsBesides
import Derived.Laws.CopyOwn
import Derived.Laws.MakeOwn
import Derived.Laws.OwnMore
import Derived.Laws.AppendOwnNone
import Derived.OwnWalk
import Derived.BigRegion
import Derived.Deep.LoopGhost
import Derived.Deep.RegionHeld3
import Derived.Deep.QuietTactic
import Derived.BigQuiet
import Derived.Maps.AppendAt
namespace Go.Proofs.Ytiinlidilkdfbaa
open Go.RowKit
set_option linter.unusedSimpArgs false
set_option linter.unusedVariables false
theorem and_far {p q : Int × Int} {r s : List (Int × Int)} (hr : WkL p.2 r) (hs : WkL q.2 s) (n : Int) :
    (p.2 < q.2 → (hasL (p :: r) n && hasL (q :: s) n) = ((decide (max p.1 q.1 ≤ n) && decide (n < min p.2 q.2)) || (hasL r n && hasL (q :: s) n))) ∧
    (¬ p.2 < q.2 → (hasL (p :: r) n && hasL (q :: s) n) = ((decide (max p.1 q.1 ≤ n) && decide (n < min p.2 q.2)) || (hasL (p :: r) n && hasL s n))) := by
  have h1 := wk_lo r p.2 n hr
  have h2 := wk_lo s q.2 n hs
  constructor
  · intro hpq
    rw [Bool.eq_iff_iff]
    simp only [hasL, Bool.and_eq_true, Bool.or_eq_true, decide_eq_true_eq]
    constructor
    · rintro ⟨h | h, k | k⟩
      · exact Or.inl ⟨by omega, by omega⟩
      · have := h2 k; omega
      · exact Or.inr ⟨h, Or.inl k⟩
      · exact Or.inr ⟨h, Or.inr k⟩
    · rintro (⟨h, k⟩ | ⟨h, k⟩)
      · exact ⟨Or.inl ⟨by omega, by omega⟩, Or.inl ⟨by omega, by omega⟩⟩
      · exact ⟨Or.inr h, k⟩
  · intro hpq
    rw [Bool.eq_iff_iff]
    simp only [hasL, Bool.and_eq_true, Bool.or_eq_true, decide_eq_true_eq]
    constructor
    · rintro ⟨h | h, k | k⟩
      · exact Or.inl ⟨by omega, by omega⟩
      · exact Or.inr ⟨Or.inl h, k⟩
      · have := h1 h; omega
      · exact Or.inr ⟨Or.inr h, k⟩
    · rintro (⟨h, k⟩ | ⟨h, k⟩)
      · exact ⟨Or.inl ⟨by omega, by omega⟩, Or.inl ⟨by omega, by omega⟩⟩
      · exact ⟨h, Or.inr k⟩
def LO : Int := -9223372036854775809
def AndI (a b : List (Int × Int)) (N : Nat) (a' b' R : List (Int × Int)) (la lb : Int) : Prop :=
  WkL la a' ∧ WkL lb b' ∧ RtL LO R ∧ endL LO R ≤ max la lb ∧ (∀ n, (hasL a n && hasL b n) = (hasL R n || (hasL a' n && hasL b' n))) ∧ R.length + a'.length + b'.length ≤ N
theorem wk_mono {lo lo' : Int} (h : lo' ≤ lo) : ∀ {L : List (Int × Int)}, WkL lo L → WkL lo' L
  | [], _ => trivial
  | p :: r, ⟨h1, h2, h3⟩ => ⟨by omega, h2, h3⟩
theorem and_step {a b : List (Int × Int)} {N : Nat} {p q : Int × Int} {r s R : List (Int × Int)} {la lb : Int} (h : AndI a b N (p :: r) (q :: s) R la lb) :
    (p.2 < q.2 → (max p.1 q.1 < min p.2 q.2 → AndI a b N r (q :: s) (R ++ [(max p.1 q.1, min p.2 q.2)]) p.2 lb) ∧ (¬ max p.1 q.1 < min p.2 q.2 → AndI a b N r (q :: s) R p.2 lb)) ∧
    (¬ p.2 < q.2 → (max p.1 q.1 < min p.2 q.2 → AndI a b N (p :: r) s (R ++ [(max p.1 q.1, min p.2 q.2)]) la q.2) ∧ (¬ max p.1 q.1 < min p.2 q.2 → AndI a b N (p :: r) s R la q.2)) := by
  obtain ⟨ha, hb, hR, he, hn, hl⟩ := h
  have ha' := ha; have hb' := hb
  obtain ⟨a1, a2, a3⟩ := ha
  obtain ⟨b1, b2, b3⟩ := hb
  simp only [List.length_cons] at hl
  have F := and_far (p := p) (q := q) a3 b3
  refine ⟨fun hpq => ⟨fun hlt => ⟨a3, hb', (rt_app ..).2 ⟨hR, by omega, hlt⟩, by rw [end_app]; omega, fun n => ?_, by simp; omega⟩, fun hlt => ⟨a3, hb', hR, by omega, fun n => ?_, by simp; omega⟩⟩,
    fun hpq => ⟨fun hlt => ⟨ha', b3, (rt_app ..).2 ⟨hR, by omega, hlt⟩, by rw [end_app]; omega, fun n => ?_, by simp; omega⟩, fun hlt => ⟨ha', b3, hR, by omega, fun n => ?_, by simp; omega⟩⟩⟩
  · rw [hn n, (F n).1 hpq, has_app, has_one, Bool.or_assoc]
  · rw [hn n, (F n).1 hpq]
    have : (decide (max p.1 q.1 ≤ n) && decide (n < min p.2 q.2)) = false := by
      rw [Bool.and_eq_false_iff, decide_eq_false_iff_not, decide_eq_false_iff_not]; omega
    rw [this, Bool.false_or]
  · rw [hn n, (F n).2 hpq, has_app, has_one, Bool.or_assoc]
  · rw [hn n, (F n).2 hpq]
    have : (decide (max p.1 q.1 ≤ n) && decide (n < min p.2 q.2)) = false := by
      rw [Bool.and_eq_false_iff, decide_eq_false_iff_not, decide_eq_false_iff_not]; omega
    rw [this, Bool.false_or]
theorem and_done {a b : List (Int × Int)} {N : Nat} {a' b' R : List (Int × Int)} {la lb : Int} (h : AndI a b N a' b' R la lb) (he : a' = [] ∨ b' = []) : RtL LO R ∧ (∀ n, hasL R n = (hasL a n && hasL b n)) ∧ R.length ≤ N := by
  obtain ⟨_, _, hR, _, hn, hl⟩ := h
  refine ⟨hR, fun n => ?_, by omega⟩
  rw [hn n]
  rcases he with rfl | rfl <;> simp [hasL]
/-- what both have -/
def AndR (a b : List (Int × Int)) (w : World) (e : Ending) (w' : World) : Prop := ∃ v' R, e = .returned v' ∧ IsS w' v' R ∧ RtL LO R ∧ (∀ n, hasL R n = (hasL a n && hasL b n)) ∧ R.length ≤ a.length + b.length ∧ Below w.heap.size w w'
theorem tail_isS {w : World} {b o c : Nat} {p : Int × Int} {r : List (Int × Int)} (h : RdZ w 2 (some ⟨b, o, none⟩) (p :: r).length (zS (p :: r))) : RdZ w 2 (some ⟨b, o + 2, none⟩) r.length (zS r) := fun i hi => by
  obtain ⟨a, ha, h1, hc⟩ := h (i + 1) (by simpa using hi)
  obtain rfl := Option.some.inj ha
  refine ⟨⟨b, o + 2, none⟩, rfl, h1, fun j hj => ?_⟩
  have ez : zS (p :: r) (i + 1) j = zS r i j := by unfold zS; simp
  have := hc j hj
  rw [ez] at this
  have e2 : ∀ n, (⟨b, o, none⟩ : Addr).add n = ⟨b, o + n, none⟩ := fun n => by unfold Addr.add; split <;> simp_all
  have e3 : ∀ n, (⟨b, o + 2, none⟩ : Addr).add n = ⟨b, o + 2 + n, none⟩ := fun n => by unfold Addr.add; split <;> simp_all
  rw [e2] at this
  rw [e3, show o + 2 + (i * 2 + j) = o + ((i + 1) * 2 + j) by omega]
  exact this
theorem head_isS {w : World} {v : Value} {p : Int × Int} {r : List (Int × Int)} (h : IsS w v (p :: r)) : ∃ b o c, v = .slice (some ⟨b, o, none⟩) (r.length + 1) c ∧ r.length + 1 ≤ c ∧ c ≤ maxLen ∧ RdZ w 2 (some ⟨b, o, none⟩) (p :: r).length (zS (p :: r)) ∧ w.cell? ⟨b, o, none⟩ = some (.int .i64 p.1) ∧ w.cell? ⟨b, o + 1, none⟩ = some (.int .i64 p.2) := by
  obtain ⟨A, c, rfl, hr, h1, h2, _⟩ := h
  obtain ⟨b, o, rfl, _, hc⟩ := rdZ_row hr (by omega) (by simp)
  have c0 := hc 0 0 (by simp) (by omega)
  have c1 := hc 0 1 (by simp) (by omega)
  exact ⟨b, o, c, rfl, h1, h2, hr, by simpa [zS] using c0, by simpa [zS] using c1⟩
theorem rt_mem : ∀ (L : List (Int × Int)) (lo : Int), RtL lo L → ∀ p, p ∈ L → p.1 < p.2
  | q :: s, lo, ⟨h1, h2, h3⟩, p, hp => by
    rcases List.mem_cons.1 hp with rfl | hp
    · exact h2
    · exact rt_mem s q.2 h3 p hp
theorem rt_bounds {a b R : List (Int × Int)} {lo : Int} (hR : RtL lo R) (hn : ∀ n, hasL R n = (hasL a n && hasL b n)) (ha : ∀ p, p ∈ a → (-9223372036854775808 ≤ p.1 ∧ p.1 ≤ 9223372036854775807) ∧ (-9223372036854775808 ≤ p.2 ∧ p.2 ≤ 9223372036854775807)) : ∀ p, p ∈ R → (-9223372036854775808 ≤ p.1 ∧ p.1 ≤ 9223372036854775807) ∧ (-9223372036854775808 ≤ p.2 ∧ p.2 ≤ 9223372036854775807) := fun p hp => by
  have hlt := rt_mem R lo hR p hp
  have in1 : hasL R p.1 = true := (has_iff R _).2 ⟨p, hp, Int.le_refl _, hlt⟩
  have in2 : hasL R (p.2 - 1) = true := (has_iff R _).2 ⟨p, hp, by omega, by omega⟩
  rw [hn] at in1 in2
  simp only [Bool.and_eq_true] at in1 in2
  obtain ⟨x, hx, h1, h2⟩ := (has_iff a _).1 in1.1
  obtain ⟨y, hy, h3, h4⟩ := (has_iff a _).1 in2.1
  have := ha x hx; have := ha y hy
  omega
end Go.Proofs.Ytiinlidilkdfbaa
