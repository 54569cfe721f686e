/- span.And, span.Sub. -/
import Derived.Test.YtnjdeikikdieoaaRows
import Derived.Test.YtnjdeikikdieoaaRowKit
import Derived.Test.YtnjdeikikdieoaaRowS
import Derived.Test.YtnjdeikikdieoaaRowZ
import Derived.Test.YtnjdeikikdieoaaSlicesEq
import Derived.Test.YtnjdeikikdieoaaSlicesEqM
import Derived.Test.YtnjdeikikdieoaaRowL
import Derived.Test.YtnjdeikikdieoaaRowM
import Derived.Test.YtnjdeikikdieoaaMakeI
import Derived.Test.YtnjdeikikdieoaaBlocks
import Derived.Test.YtnjdeikikdieoaaSpanMath
import Derived.Test.YtnjdeikikdieoaaSpanA
import Derived.Test.YtnjdeikikdieoaaSpanB
import Derived.Test.YtnjdeikikdieoaaSpanC
import Derived.Test.YtnjdeikikdieoaaSpanD
import Derived.WalkKit
import Derived.IntWalk
import Derived.Lib.Hide
import Derived.WalkSpells
import Derived.WalkLawsBesides
import Derived.Laws.CopyOwn
import Derived.Laws.MakeOwn
import Derived.Laws.OwnMore
import Derived.Laws.AppendOwnNone
import Derived.OwnWalk
import Derived.BigRegion
import Derived.Deep.LoopGhost
import Derived.Deep.RegionHeld3
import Derived.Deep.QuietTactic
import Derived.BigQuiet
import Derived.Maps.AppendAt
namespace Go.Proofs.Ytnjdeikikdieoaa
open Go.RowKit
set_option linter.unusedSimpArgs false
set_option linter.unusedVariables false
theorem and_far {p q : Int × Int} {r s : List (Int × Int)} (hr : WkL p.2 r) (hs : WkL q.2 s) (n : Int) :
    (p.2 < q.2 → (hasL (p :: r) n && hasL (q :: s) n) = ((decide (max p.1 q.1 ≤ n) && decide (n < min p.2 q.2)) || (hasL r n && hasL (q :: s) n))) ∧
    (¬ p.2 < q.2 → (hasL (p :: r) n && hasL (q :: s) n) = ((decide (max p.1 q.1 ≤ n) && decide (n < min p.2 q.2)) || (hasL (p :: r) n && hasL s n))) := by
  have h1 := wk_lo r p.2 n hr
  have h2 := wk_lo s q.2 n hs
  constructor
  · intro hpq
    rw [Bool.eq_iff_iff]
    simp only [hasL, Bool.and_eq_true, Bool.or_eq_true, decide_eq_true_eq]
    constructor
    · rintro ⟨h | h, k | k⟩
      · exact Or.inl ⟨by omega, by omega⟩
      · have := h2 k; omega
      · exact Or.inr ⟨h, Or.inl k⟩
      · exact Or.inr ⟨h, Or.inr k⟩
    · rintro (⟨h, k⟩ | ⟨h, k⟩)
      · exact ⟨Or.inl ⟨by omega, by omega⟩, Or.inl ⟨by omega, by omega⟩⟩
      · exact ⟨Or.inr h, k⟩
  · intro hpq
    rw [Bool.eq_iff_iff]
    simp only [hasL, Bool.and_eq_true, Bool.or_eq_true, decide_eq_true_eq]
    constructor
    · rintro ⟨h | h, k | k⟩
      · exact Or.inl ⟨by omega, by omega⟩
      · exact Or.inr ⟨Or.inl h, k⟩
      · have := h1 h; omega
      · exact Or.inr ⟨Or.inr h, k⟩
    · rintro (⟨h, k⟩ | ⟨h, k⟩)
      · exact ⟨Or.inl ⟨by omega, by omega⟩, Or.inl ⟨by omega, by omega⟩⟩
      · exact ⟨h, Or.inr k⟩
def LO : Int := -9223372036854775809
def AndI (a b : List (Int × Int)) (N : Nat) (a' b' R : List (Int × Int)) (la lb : Int) : Prop :=
  WkL la a' ∧ WkL lb b' ∧ RtL LO R ∧ endL LO R ≤ max la lb ∧ (∀ n, (hasL a n && hasL b n) = (hasL R n || (hasL a' n && hasL b' n))) ∧ R.length + a'.length + b'.length ≤ N
theorem wk_mono {lo lo' : Int} (h : lo' ≤ lo) : ∀ {L : List (Int × Int)}, WkL lo L → WkL lo' L
  | [], _ => trivial
  | p :: r, ⟨h1, h2, h3⟩ => ⟨by omega, h2, h3⟩
theorem and_step {a b : List (Int × Int)} {N : Nat} {p q : Int × Int} {r s R : List (Int × Int)} {la lb : Int} (h : AndI a b N (p :: r) (q :: s) R la lb) :
    (p.2 < q.2 → (max p.1 q.1 < min p.2 q.2 → AndI a b N r (q :: s) (R ++ [(max p.1 q.1, min p.2 q.2)]) p.2 lb) ∧ (¬ max p.1 q.1 < min p.2 q.2 → AndI a b N r (q :: s) R p.2 lb)) ∧
    (¬ p.2 < q.2 → (max p.1 q.1 < min p.2 q.2 → AndI a b N (p :: r) s (R ++ [(max p.1 q.1, min p.2 q.2)]) la q.2) ∧ (¬ max p.1 q.1 < min p.2 q.2 → AndI a b N (p :: r) s R la q.2)) := by
  obtain ⟨ha, hb, hR, he, hn, hl⟩ := h
  have ha' := ha; have hb' := hb
  obtain ⟨a1, a2, a3⟩ := ha
  obtain ⟨b1, b2, b3⟩ := hb
  simp only [List.length_cons] at hl
  have F := and_far (p := p) (q := q) a3 b3
  refine ⟨fun hpq => ⟨fun hlt => ⟨a3, hb', (rt_app ..).2 ⟨hR, by omega, hlt⟩, by rw [end_app]; omega, fun n => ?_, by simp; omega⟩, fun hlt => ⟨a3, hb', hR, by omega, fun n => ?_, by simp; omega⟩⟩,
    fun hpq => ⟨fun hlt => ⟨ha', b3, (rt_app ..).2 ⟨hR, by omega, hlt⟩, by rw [end_app]; omega, fun n => ?_, by simp; omega⟩, fun hlt => ⟨ha', b3, hR, by omega, fun n => ?_, by simp; omega⟩⟩⟩
  · rw [hn n, (F n).1 hpq, has_app, has_one, Bool.or_assoc]
  · rw [hn n, (F n).1 hpq]
    have : (decide (max p.1 q.1 ≤ n) && decide (n < min p.2 q.2)) = false := by
      rw [Bool.and_eq_false_iff, decide_eq_false_iff_not, decide_eq_false_iff_not]; omega
    rw [this, Bool.false_or]
  · rw [hn n, (F n).2 hpq, has_app, has_one, Bool.or_assoc]
  · rw [hn n, (F n).2 hpq]
    have : (decide (max p.1 q.1 ≤ n) && decide (n < min p.2 q.2)) = false := by
      rw [Bool.and_eq_false_iff, decide_eq_false_iff_not, decide_eq_false_iff_not]; omega
    rw [this, Bool.false_or]
theorem and_done {a b : List (Int × Int)} {N : Nat} {a' b' R : List (Int × Int)} {la lb : Int} (h : AndI a b N a' b' R la lb) (he : a' = [] ∨ b' = []) : RtL LO R ∧ (∀ n, hasL R n = (hasL a n && hasL b n)) ∧ R.length ≤ N := by
  obtain ⟨_, _, hR, _, hn, hl⟩ := h
  refine ⟨hR, fun n => ?_, by omega⟩
  rw [hn n]
  rcases he with rfl | rfl <;> simp [hasL]
/-- what both have -/
def AndR (a b : List (Int × Int)) (w : World) (e : Ending) (w' : World) : Prop := ∃ v' R, e = .returned v' ∧ IsS w' v' R ∧ RtL LO R ∧ (∀ n, hasL R n = (hasL a n && hasL b n)) ∧ R.length ≤ a.length + b.length ∧ Below w.heap.size w w'
theorem tail_isS {w : World} {b o c : Nat} {p : Int × Int} {r : List (Int × Int)} (h : RdZ w 2 (some ⟨b, o, none⟩) (p :: r).length (zS (p :: r))) : RdZ w 2 (some ⟨b, o + 2, none⟩) r.length (zS r) := fun i hi => by
  obtain ⟨a, ha, h1, hc⟩ := h (i + 1) (by simpa using hi)
  obtain rfl := Option.some.inj ha
  refine ⟨⟨b, o + 2, none⟩, rfl, h1, fun j hj => ?_⟩
  have ez : zS (p :: r) (i + 1) j = zS r i j := by unfold zS; simp
  have := hc j hj
  rw [ez] at this
  have e2 : ∀ n, (⟨b, o, none⟩ : Addr).add n = ⟨b, o + n, none⟩ := fun n => by unfold Addr.add; split <;> simp_all
  have e3 : ∀ n, (⟨b, o + 2, none⟩ : Addr).add n = ⟨b, o + 2 + n, none⟩ := fun n => by unfold Addr.add; split <;> simp_all
  rw [e2] at this
  rw [e3, show o + 2 + (i * 2 + j) = o + ((i + 1) * 2 + j) by omega]
  exact this
theorem head_isS {w : World} {v : Value} {p : Int × Int} {r : List (Int × Int)} (h : IsS w v (p :: r)) : ∃ b o c, v = .slice (some ⟨b, o, none⟩) (r.length + 1) c ∧ r.length + 1 ≤ c ∧ c ≤ maxLen ∧ RdZ w 2 (some ⟨b, o, none⟩) (p :: r).length (zS (p :: r)) ∧ w.cell? ⟨b, o, none⟩ = some (.int .i64 p.1) ∧ w.cell? ⟨b, o + 1, none⟩ = some (.int .i64 p.2) := by
  obtain ⟨A, c, rfl, hr, h1, h2, _⟩ := h
  obtain ⟨b, o, rfl, _, hc⟩ := rdZ_row hr (by omega) (by simp)
  have c0 := hc 0 0 (by simp) (by omega)
  have c1 := hc 0 1 (by simp) (by omega)
  exact ⟨b, o, c, rfl, h1, h2, hr, by simpa [zS] using c0, by simpa [zS] using c1⟩
theorem rt_mem : ∀ (L : List (Int × Int)) (lo : Int), RtL lo L → ∀ p, p ∈ L → p.1 < p.2
  | q :: s, lo, ⟨h1, h2, h3⟩, p, hp => by
    rcases List.mem_cons.1 hp with rfl | hp
    · exact h2
    · exact rt_mem s q.2 h3 p hp
theorem rt_bounds {a b R : List (Int × Int)} {lo : Int} (hR : RtL lo R) (hn : ∀ n, hasL R n = (hasL a n && hasL b n)) (ha : ∀ p, p ∈ a → (-9223372036854775808 ≤ p.1 ∧ p.1 ≤ 9223372036854775807) ∧ (-9223372036854775808 ≤ p.2 ∧ p.2 ≤ 9223372036854775807)) : ∀ p, p ∈ R → (-9223372036854775808 ≤ p.1 ∧ p.1 ≤ 9223372036854775807) ∧ (-9223372036854775808 ≤ p.2 ∧ p.2 ≤ 9223372036854775807) := fun p hp => by
  have hlt := rt_mem R lo hR p hp
  have in1 : hasL R p.1 = true := (has_iff R _).2 ⟨p, hp, Int.le_refl _, hlt⟩
  have in2 : hasL R (p.2 - 1) = true := (has_iff R _).2 ⟨p, hp, by omega, by omega⟩
  rw [hn] at in1 in2
  simp only [Bool.and_eq_true] at in1 in2
  obtain ⟨x, hx, h1, h2⟩ := (has_iff a _).1 in1.1
  obtain ⟨y, hy, h3, h4⟩ := (has_iff a _).1 in2.1
  have := ha x hx; have := ha y hy
  omega
set_option maxRecDepth 100000 in
set_option maxHeartbeats 8000000 in
theorem and_any (va vb : Value) (a b : List (Int × Int)) (la0 lb0 : Int) (w : World) (ha : IsS w va a) (hb : IsS w vb b) (wa : WkL la0 a) (wb : WkL lb0 b) (hlo : LO ≤ la0) (hla : a.length ≤ 10000) (hlb : b.length ≤ 10000) :
    Calls Try.prog 15 #[va, vb] w (AndR a b w) := by
  have HA := Lib.hid ha; have HB := Lib.hid hb
  have HWA := Lib.hid wa; have HWB := Lib.hid wb
  obtain ⟨N, hN⟩ : ∃ N, a.length + b.length = N := ⟨_, rfl⟩
  have HNN := Lib.hid hN
  have hN2 : N ≤ 20000 := by omega
  obtain ⟨Z, hZ⟩ : ∃ Z : Ending → World → Prop, AndR a b w = Z := ⟨_, rfl⟩
  have HZ := Lib.hid hZ
  rw [hZ]
  clear ha hb wa wb hN hZ
  go_enter Try.func15, Try.ntmps15
  go_wp2_with fail
  go_loopg [0, 1, 5] (a.length + b.length) (fun g v0 v1 rv wr => ∃ a' b' R la lb, g = a'.length + b'.length ∧ Hid (IsS w v0 a' ∧ IsS w v1 b' ∧ AndI a b N a' b' R la lb ∧ wr.ownsRow w.heap.size 42 2 rv R.length (rowM 2 (zS R) R.length) ∧ Below w.heap.size w wr))
  case atStart => exact ⟨a, b, [], la0, lb0, rfl, Lib.hid ⟨HA.out, HB.out, ⟨HWA.out, HWB.out, trivial, by show LO ≤ _; omega, fun n => by simp [hasL], by simp; rw [← HNN.out]; omega⟩, ⟨rfl, Or.inl ⟨rfl, rfl⟩⟩, Below.refl _ _⟩⟩
  case round =>
    obtain ⟨a', b', R, la, lb, rfl, HI⟩ := hrel
    have FIN : a' = [] ∨ b' = [] → Hid (∀ v, wr.ownsRow w.heap.size 42 2 v R.length (rowM 2 (zS R) R.length) → Z (.returned v) wr) := fun he => Lib.hid fun v hv => by
      obtain ⟨q1, q2, q3⟩ := and_done HI.out.2.2.1 he
      rw [← HZ.out]
      refine ⟨v, R, rfl, own_isS hv (fun p hp => ?_), q1, q2, by rw [HNN.out]; exact q3, HI.out.2.2.2.2⟩
      exact HI.out.2.2.2.1 |> fun _ => rt_bounds q1 q2 (zS_in HA.out) p hp
    cases a' with
    | nil =>
      have FF := FIN (Or.inl rfl)
      clear FIN
      obtain ⟨A0, c0, rfl, _, _, _, _⟩ := HI.out.1
      have FV := Lib.hid (FF.out _ HI.out.2.2.2.1)
      go_wp2_with fail
      exact FV.out
    | cons p r =>
      cases b' with
      | nil =>
        have FF := FIN (Or.inr rfl)
        clear FIN
        obtain ⟨b0, o0, c0, rfl, _, _, _, _⟩ := head_isS HI.out.1
        obtain ⟨B0, d0, rfl, _, _, _, _⟩ := HI.out.2.1
        have FV := Lib.hid (FF.out _ HI.out.2.2.2.1)
        go_wp2_with fail
        exact FV.out
      | cons q s =>
        clear FIN
        obtain ⟨p1, p2⟩ := p
        obtain ⟨q1, q2⟩ := q
        have hwp := zS_in HI.out.1 _ (List.mem_cons_self ..)
        have hwq := zS_in HI.out.2.1 _ (List.mem_cons_self ..)
        have HIA := Lib.hid HI.out.1; have HIB := Lib.hid HI.out.2.1
        obtain ⟨ba, oa, ca, rfl, ka1, ka2, ra, xa0, xa1⟩ := head_isS HI.out.1
        obtain ⟨bb, ob, cb, rfl, kb1, kb2, rb, xb0, xb1⟩ := head_isS HI.out.2.1
        have HTa := Lib.hid ra; have HTb := Lib.hid rb
        have HCA0 := Lib.hid xa0; have HCA1 := Lib.hid xa1; have HCB0 := Lib.hid xb0; have HCB1 := Lib.hid xb1
        obtain ⟨_, _, hAI, hOW, hBW⟩ := HI.out
        have hRl : R.length ≤ N := by have := hAI.2.2.2.2.2; simp at this; omega
        have HST := and_step hAI
        simp only at HST hwp hwq HCA0 HCA1 HCB0 HCB1
        have HOW := Lib.hid hOW; have HBW := Lib.hid hBW
        obtain ⟨f, hf⟩ : ∃ f, max p1 q1 = f := ⟨_, rfl⟩
        obtain ⟨t, ht⟩ : ∃ t, min p2 q2 = t := ⟨_, rfl⟩
        have hf2 : (if p1 < q1 then q1 else p1) = f := by rw [← hf]; split <;> omega
        have ht2 : (if q2 < p2 then q2 else p2) = t := by rw [← ht]; split <;> omega
        rw [hf, ht] at HST
        have HST := Lib.hid HST
        have hfw : -9223372036854775808 ≤ f ∧ f ≤ 9223372036854775807 := by omega
        have htw : -9223372036854775808 ≤ t ∧ t ≤ 9223372036854775807 := by omega
        have HFW := Lib.hid hfw; have HTW := Lib.hid htw
        have HS : Hid (wr.drew.cell? ⟨ba, oa, none⟩ = some (.int .i64 p1) ∧ wr.drew.cell? ⟨ba, oa + 1, none⟩ = some (.int .i64 p2) ∧ wr.drew.cell? ⟨bb, ob, none⟩ = some (.int .i64 q1) ∧ wr.drew.cell? ⟨bb, ob + 1, none⟩ = some (.int .i64 q2)) := Lib.hid (And.intro (cell_on HBW.out.drew HCA0.out) (And.intro (cell_on HBW.out.drew HCA1.out) (And.intro (cell_on HBW.out.drew HCB0.out) (cell_on HBW.out.drew HCB1.out))))
        have hw2 : Below wr.heap.size wr ((wr.alloc (.cells #[.int .i64 0, .int .i64 0] 42)).drew) := ((Below.refl wr.heap.size wr).alloc (Nat.le_refl _) _).drew
        have HB2 : Hid (Below w.heap.size w ((wr.alloc (.cells #[.int .i64 0, .int .i64 0] 42)).drew)) := Lib.hid (HBW.out.trans (hw2.mono HBW.out.size))
        have HS2 : Hid (((wr.alloc (.cells #[.int .i64 0, .int .i64 0] 42)).drew).cell? ⟨ba, oa, none⟩ = some (.int .i64 p1) ∧ ((wr.alloc (.cells #[.int .i64 0, .int .i64 0] 42)).drew).cell? ⟨ba, oa + 1, none⟩ = some (.int .i64 p2) ∧ ((wr.alloc (.cells #[.int .i64 0, .int .i64 0] 42)).drew).cell? ⟨bb, ob, none⟩ = some (.int .i64 q1) ∧ ((wr.alloc (.cells #[.int .i64 0, .int .i64 0] 42)).drew).cell? ⟨bb, ob + 1, none⟩ = some (.int .i64 q2)) := Lib.hid (And.intro (cell_on HB2.out HCA0.out) (And.intro (cell_on HB2.out HCA1.out) (And.intro (cell_on HB2.out HCB0.out) (cell_on HB2.out HCB1.out))))
        have HG2 : Hid (Blk ((wr.alloc (.cells #[.int .i64 0, .int .i64 0] 42)).drew) wr.heap.size 42 #[.int .i64 0, .int .i64 0]) := Lib.hid (Blk.new wr _ _)
        obtain ⟨WX, hWX⟩ : ∃ X, (wr.alloc (.cells #[.int .i64 f, .int .i64 t] 42)).drew = X := ⟨_, rfl⟩
        have hw3 : Below wr.heap.size wr WX := by rw [← hWX]; exact ((Below.refl wr.heap.size wr).alloc (Nat.le_refl _) _).drew
        have HB3 : Hid (Below w.heap.size w WX) := Lib.hid (HBW.out.trans (hw3.mono HBW.out.size))
        have HG3 : Hid (Blk WX wr.heap.size 42 #[.int .i64 f, .int .i64 t]) := Lib.hid (by rw [← hWX]; exact Blk.new wr _ _)
        have HO3 := Lib.hid (ownM_below HOW.out hw3)
        have HS3 : Hid ((wr.alloc (.cells #[.int .i64 f, .int .i64 t] 42)).drew.cell? ⟨ba, oa, none⟩ = some (.int .i64 p1) ∧ (wr.alloc (.cells #[.int .i64 f, .int .i64 t] 42)).drew.cell? ⟨ba, oa + 1, none⟩ = some (.int .i64 p2) ∧ (wr.alloc (.cells #[.int .i64 f, .int .i64 t] 42)).drew.cell? ⟨bb, ob, none⟩ = some (.int .i64 q1) ∧ (wr.alloc (.cells #[.int .i64 f, .int .i64 t] 42)).drew.cell? ⟨bb, ob + 1, none⟩ = some (.int .i64 q2)) := Lib.hid (by rw [hWX]; exact (And.intro (cell_on HB3.out HCA0.out) (And.intro (cell_on HB3.out HCA1.out) (And.intro (cell_on HB3.out HCB0.out) (cell_on HB3.out HCB1.out)))))
        have HWX := Lib.hid hWX
        clear hwp hwq ra rb xa0 xa1 xb0 xb1 hAI hOW hBW hw2 hw3 hfw htw hWX
        go_wp2_with fail
        refine wp_region_held_drew (S := (fun X : World => X.cell? ⟨ba, oa, none⟩ = some (.int .i64 p1) ∧ X.cell? ⟨ba, oa + 1, none⟩ = some (.int .i64 p2) ∧ X.cell? ⟨bb, ob, none⟩ = some (.int .i64 q1) ∧ X.cell? ⟨bb, ob + 1, none⟩ = some (.int .i64 q2))) (by kernel_rfl) HS.out (fun hHeld => ?_)
        clear hHeld
        refine wpAnyH_take (i := 0) (v := ?_) rfl (by kernel_rfl) (by kernel_rfl) (by kernel_rfl) (fun _ _ _ h => h) (Or.inl ⟨by rfl, ?_⟩) HS.out ?_
        rotate_left
        · (intro wS hSw; (try dsimp only at hSw); go_simp; try with_reducible rfl)
        simp only [Act.put, List.getElem_toArray, List.getElem_cons_zero, List.getElem_cons_succ, List.setIfInBounds_toArray, List.set_cons_zero, List.set_cons_succ]
        refine wpAnyH_take (i := 1) (v := ?_) rfl (by kernel_rfl) (by kernel_rfl) (by kernel_rfl) (fun _ _ _ h => h) (Or.inl ⟨by rfl, ?_⟩) HS.out ?_
        rotate_left
        · (intro wS hSw; (try dsimp only at hSw); go_simp; try with_reducible rfl)
        simp only [Act.put, List.getElem_toArray, List.getElem_cons_zero, List.getElem_cons_succ, List.setIfInBounds_toArray, List.set_cons_zero, List.set_cons_succ]
        refine wpAnyH_take (i := 2) (v := ?_) rfl (by kernel_rfl) (by kernel_rfl) (by kernel_rfl) (fun _ _ _ h => h) (Or.inl ⟨by rfl, ?_⟩) HS.out ?_
        rotate_left
        · (intro wS hSw; (try dsimp only at hSw); go_simp; try with_reducible rfl)
        simp only [Act.put, List.getElem_toArray, List.getElem_cons_zero, List.getElem_cons_succ, List.setIfInBounds_toArray, List.set_cons_zero, List.set_cons_succ]
        refine wpAnyH_take (i := 3) (v := ?_) rfl (by kernel_rfl) (by kernel_rfl) (by kernel_rfl) (fun _ _ _ h => h) (Or.inl ⟨by rfl, ?_⟩) HS.out ?_
        rotate_left
        · (intro wS hSw; (try dsimp only at hSw); go_simp; try with_reducible rfl)
        simp only [Act.put, List.getElem_toArray, List.getElem_cons_zero, List.getElem_cons_succ, List.setIfInBounds_toArray, List.set_cons_zero, List.set_cons_succ]
        refine wpAnyH_take (i := 4) (v := ?_) rfl (by kernel_rfl) (by kernel_rfl) (by kernel_rfl) (fun _ _ _ h => h) (Or.inl ⟨by rfl, ?_⟩) HS.out ?_
        rotate_left
        · (intro wS hSw; (try dsimp only at hSw); go_simp; try with_reducible rfl)
        simp only [Act.put, List.getElem_toArray, List.getElem_cons_zero, List.getElem_cons_succ, List.setIfInBounds_toArray, List.set_cons_zero, List.set_cons_succ]
        refine wpAnyH_take (i := 5) (v := ?_) rfl (by kernel_rfl) (by kernel_rfl) (by kernel_rfl) (fun _ _ _ h => h) (Or.inl ⟨by rfl, ?_⟩) HS.out ?_
        rotate_left
        · (intro wS hSw; (try dsimp only at hSw); go_simp; try with_reducible rfl)
        simp only [Act.put, List.getElem_toArray, List.getElem_cons_zero, List.getElem_cons_succ, List.setIfInBounds_toArray, List.set_cons_zero, List.set_cons_succ]
        refine wpAnyH_take (i := 6) (v := ?_) rfl (by kernel_rfl) (by kernel_rfl) (by kernel_rfl) (fun _ _ _ h => h) (Or.inl ⟨by rfl, ?_⟩) HS.out ?_
        rotate_left
        · (intro wS hSw; (try dsimp only at hSw); go_simp; try with_reducible rfl)
        simp only [Act.put, List.getElem_toArray, List.getElem_cons_zero, List.getElem_cons_succ, List.setIfInBounds_toArray, List.set_cons_zero, List.set_cons_succ]
        refine wpAnyH_take (i := 7) (v := ?_) rfl (by kernel_rfl) (by kernel_rfl) (by kernel_rfl) (fun _ _ _ h => h) (Or.inl ⟨by rfl, ?_⟩) HS.out ?_
        rotate_left
        · (intro wS hSw; (try dsimp only at hSw); go_simp; try with_reducible rfl)
        simp only [Act.put, List.getElem_toArray, List.getElem_cons_zero, List.getElem_cons_succ, List.setIfInBounds_toArray, List.set_cons_zero, List.set_cons_succ]
        refine wpAnyH_take (i := 8) (v := ?_) rfl (by kernel_rfl) (by kernel_rfl) (by kernel_rfl) (fun _ _ _ h => h) (Or.inl ⟨by rfl, ?_⟩) HS.out ?_
        rotate_left
        · (intro wS hSw; (try dsimp only at hSw); go_simp; try with_reducible rfl)
        simp only [Act.put, List.getElem_toArray, List.getElem_cons_zero, List.getElem_cons_succ, List.setIfInBounds_toArray, List.set_cons_zero, List.set_cons_succ]
        refine wpAnyH_take (i := 9) (v := ?_) rfl (by kernel_rfl) (by kernel_rfl) (by kernel_rfl) (fun _ _ _ h => h) (Or.inl ⟨by rfl, ?_⟩) HS.out ?_
        rotate_left
        · (intro wS hSw; (try dsimp only at hSw); go_simp; try with_reducible rfl)
        simp only [Act.put, List.getElem_toArray, List.getElem_cons_zero, List.getElem_cons_succ, List.setIfInBounds_toArray, List.set_cons_zero, List.set_cons_succ]
        refine wpAnyH_take (i := 10) (v := ?_) rfl (by kernel_rfl) (by kernel_rfl) (by kernel_rfl) (fun _ _ _ h => h) (Or.inl ⟨by rfl, ?_⟩) HS.out ?_
        rotate_left
        · (intro wS hSw; (try dsimp only at hSw); go_simp; try with_reducible rfl)
        simp only [Act.put, List.getElem_toArray, List.getElem_cons_zero, List.getElem_cons_succ, List.setIfInBounds_toArray, List.set_cons_zero, List.set_cons_succ]
        refine wpAnyH_take (i := 11) (v := ?_) rfl (by kernel_rfl) (by kernel_rfl) (by kernel_rfl) (fun _ _ _ h => h) (Or.inl ⟨by rfl, ?_⟩) HS.out ?_
        rotate_left
        · (intro wS hSw; (try dsimp only at hSw); go_simp; try with_reducible rfl)
        simp only [Act.put, List.getElem_toArray, List.getElem_cons_zero, List.getElem_cons_succ, List.setIfInBounds_toArray, List.set_cons_zero, List.set_cons_succ]
        refine wpAnyH_take (i := 12) (v := ?_) rfl (by kernel_rfl) (by kernel_rfl) (by kernel_rfl) (fun _ _ _ h => h) (Or.inl ⟨by rfl, ?_⟩) HS.out ?_
        rotate_left
        · (intro wS hSw; (try dsimp only at hSw); go_simp; try with_reducible rfl)
        simp only [Act.put, List.getElem_toArray, List.getElem_cons_zero, List.getElem_cons_succ, List.setIfInBounds_toArray, List.set_cons_zero, List.set_cons_succ]
        refine wpAnyH_take (i := 13) (v := ?_) rfl (by kernel_rfl) (by kernel_rfl) (by kernel_rfl) (fun _ _ _ h => h) (Or.inl ⟨by rfl, ?_⟩) HS.out ?_
        rotate_left
        · (intro wS hSw; (try dsimp only at hSw); go_simp; try with_reducible rfl)
        simp only [Act.put, List.getElem_toArray, List.getElem_cons_zero, List.getElem_cons_succ, List.setIfInBounds_toArray, List.set_cons_zero, List.set_cons_succ]
        refine wpAnyH_take (i := 14) (v := ?_) rfl (by kernel_rfl) (by kernel_rfl) (by kernel_rfl) (fun _ _ _ h => h) (Or.inl ⟨by rfl, ?_⟩) HS.out ?_
        rotate_left
        · (intro wS hSw; (try dsimp only at hSw); go_simp; try with_reducible rfl)
        simp only [Act.put, List.getElem_toArray, List.getElem_cons_zero, List.getElem_cons_succ, List.setIfInBounds_toArray, List.set_cons_zero, List.set_cons_succ]
        refine wpAnyH_take (i := 15) (v := ?_) rfl (by kernel_rfl) (by kernel_rfl) (by kernel_rfl) (fun _ _ _ h => h) (Or.inl ⟨by rfl, ?_⟩) HS.out ?_
        rotate_left
        · (intro wS hSw; (try dsimp only at hSw); go_simp; try with_reducible rfl)
        simp only [Act.put, List.getElem_toArray, List.getElem_cons_zero, List.getElem_cons_succ, List.setIfInBounds_toArray, List.set_cons_zero, List.set_cons_succ]
        refine wpAnyH_take (i := 16) (v := ?_) rfl (by kernel_rfl) (by kernel_rfl) (by kernel_rfl) (fun _ _ _ h => h) (Or.inl ⟨by rfl, ?_⟩) HS.out ?_
        rotate_left
        · (intro wS hSw; (try dsimp only at hSw); go_simp; try with_reducible rfl)
        simp only [Act.put, List.getElem_toArray, List.getElem_cons_zero, List.getElem_cons_succ, List.setIfInBounds_toArray, List.set_cons_zero, List.set_cons_succ]
        refine wpAnyH_take (i := 17) (v := ?_) rfl (by kernel_rfl) (by kernel_rfl) (by kernel_rfl) (fun _ _ _ h => h) (Or.inl ⟨by rfl, ?_⟩) HS.out ?_
        rotate_left
        · (intro wS hSw; (try dsimp only at hSw); go_simp; try with_reducible rfl)
        simp only [Act.put, List.getElem_toArray, List.getElem_cons_zero, List.getElem_cons_succ, List.setIfInBounds_toArray, List.set_cons_zero, List.set_cons_succ]
        refine wpAnyH_take (i := 18) (v := ?_) rfl (by kernel_rfl) (by kernel_rfl) (by kernel_rfl) (fun _ _ _ h => h) (Or.inl ⟨by rfl, ?_⟩) HS.out ?_
        rotate_left
        · (intro wS hSw; (try dsimp only at hSw); go_simp; try with_reducible rfl)
        simp only [Act.put, List.getElem_toArray, List.getElem_cons_zero, List.getElem_cons_succ, List.setIfInBounds_toArray, List.set_cons_zero, List.set_cons_succ]
        refine wpAnyH_ready (rs := [19]) (by kernel_rfl) (by simp) ?_
        refine AllReadyH.cons rfl (fun K hK => ?_) AllReadyH.nil
        go_simp
        refine hK.out _ _ HS2.out (fun hHeld => ?_)
        clear hK K hHeld
        try simp only [Act.put, List.getElem_toArray, List.getElem_cons_zero, List.getElem_cons_succ, List.setIfInBounds_toArray, List.set_cons_zero, List.set_cons_succ]
        refine wpAnyH_ready (rs := [20]) (by kernel_rfl) (by simp) ?_
        refine AllReadyH.cons rfl (fun K hK => ?_) AllReadyH.nil
        have s0 := HG2.out.cell 0; have s1 := HG2.out.cell 1; have f0 := HG2.out.frozen 0; have f1 := HG2.out.frozen 1
        go_simp
        clear s0 s1 f0 f1
        refine hK.out _ _ HS3.out (fun hHeld => ?_)
        clear hK K hHeld
        try simp only [Act.put, List.getElem_toArray, List.getElem_cons_zero, List.getElem_cons_succ, List.setIfInBounds_toArray, List.set_cons_zero, List.set_cons_succ]
        refine wpAnyH_done (by kernel_rfl) ?_ _
        rw [HWX.out]
        clear HS HS2 HS3 HG2 HB2 hf ht hf2 ht2
        have z0 := HG3.out.cell 0; have z1 := HG3.out.cell 1
        go_wp2_with fail
        refine (fempty_any f t WX).mono ?_
        rintro e WZ ⟨rfl, hbZ⟩
        have HG4 := Lib.hid (Blk.next (w := WX) HG3.out hbZ)
        have HBZ : Hid (Below w.heap.size w WZ) := Lib.hid (HB3.out.trans (hbZ.mono HB3.out.size))
        have HOZ := Lib.hid (ownM_below HO3.out hbZ)
        have hszZ := hbZ.size
        have hgZ := HG4.out.lt
        clear z0 z1 hbZ HG3 HB3 HO3 HWX
        by_cases hlt : f < t
        · have hemp : decide (t ≤ f) = false := by simp; omega
          rw [hemp]
          have y0 := HG4.out.cell 0; have y1 := HG4.out.cell 1
          go_wp2_with (at_builtin; refine append_spans2 rfl _ _ rfl w.heap.size _ R.length _ rfl (HOZ.out.alloc _) WZ.heap.size 1 f t rfl (Blk.new WZ _ _) (by omega) (by have := HBZ.out.size; simp; omega) ?_; intro v1 w1 o1 q1' t1)
          have HB1 : Hid (Below w.heap.size w w1) := Lib.hid ((HBZ.out.alloc HBZ.out.size _).trans q1')
          have HO1 : Hid (w1.ownsRow w.heap.size 42 2 v1 (R ++ [(f, t)]).length (rowM 2 (zS (R ++ [(f, t)])) (R ++ [(f, t)]).length)) := Lib.hid (by
            rw [← rowS_push, List.length_append]
            exact o1)
          clear o1 q1' t1 y0 y1 HOZ HBZ HG4 hszZ hgZ
          obtain ⟨WZ, hWZ⟩ : ∃ X, w1 = X := ⟨_, rfl⟩
          have HBZ := HB1; have HOZ := HO1
          rw [hWZ] at HBZ HOZ ⊢
          clear HB1 HO1 hWZ
          go_wp2_with fail
          have HSZ : Hid (WZ.drew.cell? ⟨ba, oa, none⟩ = some (.int .i64 p1) ∧ WZ.drew.cell? ⟨ba, oa + 1, none⟩ = some (.int .i64 p2) ∧ WZ.drew.cell? ⟨bb, ob, none⟩ = some (.int .i64 q1) ∧ WZ.drew.cell? ⟨bb, ob + 1, none⟩ = some (.int .i64 q2)) := Lib.hid (And.intro (cell_on HBZ.out.drew HCA0.out) (And.intro (cell_on HBZ.out.drew HCA1.out) (And.intro (cell_on HBZ.out.drew HCB0.out) (cell_on HBZ.out.drew HCB1.out))))
          obtain ⟨WY, hWY⟩ : ∃ X, WZ.drew = X := ⟨_, rfl⟩
          refine wp_region_held_drew (S := (fun X : World => X.cell? ⟨ba, oa, none⟩ = some (.int .i64 p1) ∧ X.cell? ⟨ba, oa + 1, none⟩ = some (.int .i64 p2) ∧ X.cell? ⟨bb, ob, none⟩ = some (.int .i64 q1) ∧ X.cell? ⟨bb, ob + 1, none⟩ = some (.int .i64 q2))) (by kernel_rfl) HSZ.out (fun hHeld => ?_)
          clear hHeld
          refine wpAnyH_take (i := 0) (v := ?_) rfl (by kernel_rfl) (by kernel_rfl) (by kernel_rfl) (fun _ _ _ h => h) (Or.inl ⟨by rfl, ?_⟩) HSZ.out ?_
          rotate_left
          · (intro wS hSw; (try dsimp only at hSw); go_simp; try with_reducible rfl)
          simp only [Act.put, List.getElem_toArray, List.getElem_cons_zero, List.getElem_cons_succ, List.setIfInBounds_toArray, List.set_cons_zero, List.set_cons_succ]
          refine wpAnyH_take (i := 1) (v := ?_) rfl (by kernel_rfl) (by kernel_rfl) (by kernel_rfl) (fun _ _ _ h => h) (Or.inl ⟨by rfl, ?_⟩) HSZ.out ?_
          rotate_left
          · (intro wS hSw; (try dsimp only at hSw); go_simp; try with_reducible rfl)
          simp only [Act.put, List.getElem_toArray, List.getElem_cons_zero, List.getElem_cons_succ, List.setIfInBounds_toArray, List.set_cons_zero, List.set_cons_succ]
          refine wpAnyH_take (i := 2) (v := ?_) rfl (by kernel_rfl) (by kernel_rfl) (by kernel_rfl) (fun _ _ _ h => h) (Or.inl ⟨by rfl, ?_⟩) HSZ.out ?_
          rotate_left
          · (intro wS hSw; (try dsimp only at hSw); go_simp; try with_reducible rfl)
          simp only [Act.put, List.getElem_toArray, List.getElem_cons_zero, List.getElem_cons_succ, List.setIfInBounds_toArray, List.set_cons_zero, List.set_cons_succ]
          refine wpAnyH_take (i := 3) (v := ?_) rfl (by kernel_rfl) (by kernel_rfl) (by kernel_rfl) (fun _ _ _ h => h) (Or.inl ⟨by rfl, ?_⟩) HSZ.out ?_
          rotate_left
          · (intro wS hSw; (try dsimp only at hSw); go_simp; try with_reducible rfl)
          simp only [Act.put, List.getElem_toArray, List.getElem_cons_zero, List.getElem_cons_succ, List.setIfInBounds_toArray, List.set_cons_zero, List.set_cons_succ]
          refine wpAnyH_take (i := 4) (v := ?_) rfl (by kernel_rfl) (by kernel_rfl) (by kernel_rfl) (fun _ _ _ h => h) (Or.inl ⟨by rfl, ?_⟩) HSZ.out ?_
          rotate_left
          · (intro wS hSw; (try dsimp only at hSw); go_simp; try with_reducible rfl)
          simp only [Act.put, List.getElem_toArray, List.getElem_cons_zero, List.getElem_cons_succ, List.setIfInBounds_toArray, List.set_cons_zero, List.set_cons_succ]
          refine wpAnyH_take (i := 5) (v := ?_) rfl (by kernel_rfl) (by kernel_rfl) (by kernel_rfl) (fun _ _ _ h => h) (Or.inl ⟨by rfl, ?_⟩) HSZ.out ?_
          rotate_left
          · (intro wS hSw; (try dsimp only at hSw); go_simp; try with_reducible rfl)
          simp only [Act.put, List.getElem_toArray, List.getElem_cons_zero, List.getElem_cons_succ, List.setIfInBounds_toArray, List.set_cons_zero, List.set_cons_succ]
          refine wpAnyH_take (i := 6) (v := ?_) rfl (by kernel_rfl) (by kernel_rfl) (by kernel_rfl) (fun _ _ _ h => h) (Or.inl ⟨by rfl, ?_⟩) HSZ.out ?_
          rotate_left
          · (intro wS hSw; (try dsimp only at hSw); go_simp; try with_reducible rfl)
          simp only [Act.put, List.getElem_toArray, List.getElem_cons_zero, List.getElem_cons_succ, List.setIfInBounds_toArray, List.set_cons_zero, List.set_cons_succ]
          refine wpAnyH_take (i := 7) (v := ?_) rfl (by kernel_rfl) (by kernel_rfl) (by kernel_rfl) (fun _ _ _ h => h) (Or.inl ⟨by rfl, ?_⟩) HSZ.out ?_
          rotate_left
          · (intro wS hSw; (try dsimp only at hSw); go_simp; try with_reducible rfl)
          simp only [Act.put, List.getElem_toArray, List.getElem_cons_zero, List.getElem_cons_succ, List.setIfInBounds_toArray, List.set_cons_zero, List.set_cons_succ]
          refine wpAnyH_take (i := 8) (v := ?_) rfl (by kernel_rfl) (by kernel_rfl) (by kernel_rfl) (fun _ _ _ h => h) (Or.inl ⟨by rfl, ?_⟩) HSZ.out ?_
          rotate_left
          · (intro wS hSw; (try dsimp only at hSw); go_simp; try with_reducible rfl)
          simp only [Act.put, List.getElem_toArray, List.getElem_cons_zero, List.getElem_cons_succ, List.setIfInBounds_toArray, List.set_cons_zero, List.set_cons_succ]
          refine wpAnyH_done (by kernel_rfl) ?_ _
          have HBZ0 := HBZ
          have HBZ : Hid (Below w.heap.size w WZ.drew) := Lib.hid HBZ0.out.drew
          have HOZ0 := HOZ
          have HOZ := Lib.hid (ownM_below HOZ0.out (Below.refl WZ.heap.size WZ).drew)
          rw [hWY] at HBZ HOZ
          try rw [hWY]
          clear hWY HBZ0 HOZ0 HSZ
          by_cases hpq : p2 < q2
          · have hpq0 := hpq
            have HN : Hid (AndI a b N r ((q1, q2) :: s) (R ++ [(f, t)]) p2 lb) := Lib.hid ((HST.out.1 (by omega)).1 (by omega))
            by_cases hcc : 1 < ca
            · have hcc1 : (1 : Int) < (ca : Int) := by omega
              have HV : Hid (IsS w (.slice (some ⟨ba, oa + 2, none⟩) r.length (ca - 1)) r) := Lib.hid ⟨_, _, rfl, tail_isS (c := 0) HTa.out, by omega, by omega, fun e => by cases e⟩
              go_wp2_with fail
              go_roundg (r.length + ((q1, q2) :: s).length)
              case rel => exact ⟨r, ((q1, q2) :: s), (R ++ [(f, t)]), p2, lb, rfl, Lib.hid ⟨HV.out, HIB.out, HN.out, HOZ.out, HBZ.out⟩⟩
              case measure => simp only [List.length_cons]; omega
            · obtain rfl : ca = 1 := by omega
              obtain rfl : r = [] := List.eq_nil_of_length_eq_zero (by omega)
              have HV : Hid (IsS w (.slice (some ⟨ba, oa, none⟩) 0 0) []) := Lib.hid ⟨_, _, rfl, fun i hi => absurd hi (by simp), by simp, by simp [maxLen], fun e => by cases e⟩
              clear hcc
              simp only [List.length_nil] at *
              go_wp2_with fail
              go_roundg (0 + ((q1, q2) :: s).length)
              case rel => exact ⟨[], ((q1, q2) :: s), (R ++ [(f, t)]), p2, lb, rfl, Lib.hid ⟨HV.out, HIB.out, HN.out, HOZ.out, HBZ.out⟩⟩
              case measure => simp only [List.length_cons]; omega
          · have hpq0 := hpq
            have HN : Hid (AndI a b N ((p1, p2) :: r) s (R ++ [(f, t)]) la q2) := Lib.hid ((HST.out.2 (by omega)).1 (by omega))
            by_cases hcc : 1 < cb
            · have hcc1 : (1 : Int) < (cb : Int) := by omega
              have HV : Hid (IsS w (.slice (some ⟨bb, ob + 2, none⟩) s.length (cb - 1)) s) := Lib.hid ⟨_, _, rfl, tail_isS (c := 0) HTb.out, by omega, by omega, fun e => by cases e⟩
              go_wp2_with fail
              go_roundg (((p1, p2) :: r).length + s.length)
              case rel => exact ⟨((p1, p2) :: r), s, (R ++ [(f, t)]), la, q2, rfl, Lib.hid ⟨HIA.out, HV.out, HN.out, HOZ.out, HBZ.out⟩⟩
              case measure => simp only [List.length_cons]; omega
            · obtain rfl : cb = 1 := by omega
              obtain rfl : s = [] := List.eq_nil_of_length_eq_zero (by omega)
              have HV : Hid (IsS w (.slice (some ⟨bb, ob, none⟩) 0 0) []) := Lib.hid ⟨_, _, rfl, fun i hi => absurd hi (by simp), by simp, by simp [maxLen], fun e => by cases e⟩
              clear hcc
              simp only [List.length_nil] at *
              go_wp2_with fail
              go_roundg (((p1, p2) :: r).length + 0)
              case rel => exact ⟨((p1, p2) :: r), [], (R ++ [(f, t)]), la, q2, rfl, Lib.hid ⟨HIA.out, HV.out, HN.out, HOZ.out, HBZ.out⟩⟩
              case measure => simp only [List.length_cons]; omega
        · have hemp : decide (t ≤ f) = true := by simp; omega
          rw [hemp]
          clear HG4 hszZ hgZ
          go_wp2_with fail
          have HSZ : Hid (WZ.drew.cell? ⟨ba, oa, none⟩ = some (.int .i64 p1) ∧ WZ.drew.cell? ⟨ba, oa + 1, none⟩ = some (.int .i64 p2) ∧ WZ.drew.cell? ⟨bb, ob, none⟩ = some (.int .i64 q1) ∧ WZ.drew.cell? ⟨bb, ob + 1, none⟩ = some (.int .i64 q2)) := Lib.hid (And.intro (cell_on HBZ.out.drew HCA0.out) (And.intro (cell_on HBZ.out.drew HCA1.out) (And.intro (cell_on HBZ.out.drew HCB0.out) (cell_on HBZ.out.drew HCB1.out))))
          obtain ⟨WY, hWY⟩ : ∃ X, WZ.drew = X := ⟨_, rfl⟩
          refine wp_region_held_drew (S := (fun X : World => X.cell? ⟨ba, oa, none⟩ = some (.int .i64 p1) ∧ X.cell? ⟨ba, oa + 1, none⟩ = some (.int .i64 p2) ∧ X.cell? ⟨bb, ob, none⟩ = some (.int .i64 q1) ∧ X.cell? ⟨bb, ob + 1, none⟩ = some (.int .i64 q2))) (by kernel_rfl) HSZ.out (fun hHeld => ?_)
          clear hHeld
          refine wpAnyH_take (i := 0) (v := ?_) rfl (by kernel_rfl) (by kernel_rfl) (by kernel_rfl) (fun _ _ _ h => h) (Or.inl ⟨by rfl, ?_⟩) HSZ.out ?_
          rotate_left
          · (intro wS hSw; (try dsimp only at hSw); go_simp; try with_reducible rfl)
          simp only [Act.put, List.getElem_toArray, List.getElem_cons_zero, List.getElem_cons_succ, List.setIfInBounds_toArray, List.set_cons_zero, List.set_cons_succ]
          refine wpAnyH_take (i := 1) (v := ?_) rfl (by kernel_rfl) (by kernel_rfl) (by kernel_rfl) (fun _ _ _ h => h) (Or.inl ⟨by rfl, ?_⟩) HSZ.out ?_
          rotate_left
          · (intro wS hSw; (try dsimp only at hSw); go_simp; try with_reducible rfl)
          simp only [Act.put, List.getElem_toArray, List.getElem_cons_zero, List.getElem_cons_succ, List.setIfInBounds_toArray, List.set_cons_zero, List.set_cons_succ]
          refine wpAnyH_take (i := 2) (v := ?_) rfl (by kernel_rfl) (by kernel_rfl) (by kernel_rfl) (fun _ _ _ h => h) (Or.inl ⟨by rfl, ?_⟩) HSZ.out ?_
          rotate_left
          · (intro wS hSw; (try dsimp only at hSw); go_simp; try with_reducible rfl)
          simp only [Act.put, List.getElem_toArray, List.getElem_cons_zero, List.getElem_cons_succ, List.setIfInBounds_toArray, List.set_cons_zero, List.set_cons_succ]
          refine wpAnyH_take (i := 3) (v := ?_) rfl (by kernel_rfl) (by kernel_rfl) (by kernel_rfl) (fun _ _ _ h => h) (Or.inl ⟨by rfl, ?_⟩) HSZ.out ?_
          rotate_left
          · (intro wS hSw; (try dsimp only at hSw); go_simp; try with_reducible rfl)
          simp only [Act.put, List.getElem_toArray, List.getElem_cons_zero, List.getElem_cons_succ, List.setIfInBounds_toArray, List.set_cons_zero, List.set_cons_succ]
          refine wpAnyH_take (i := 4) (v := ?_) rfl (by kernel_rfl) (by kernel_rfl) (by kernel_rfl) (fun _ _ _ h => h) (Or.inl ⟨by rfl, ?_⟩) HSZ.out ?_
          rotate_left
          · (intro wS hSw; (try dsimp only at hSw); go_simp; try with_reducible rfl)
          simp only [Act.put, List.getElem_toArray, List.getElem_cons_zero, List.getElem_cons_succ, List.setIfInBounds_toArray, List.set_cons_zero, List.set_cons_succ]
          refine wpAnyH_take (i := 5) (v := ?_) rfl (by kernel_rfl) (by kernel_rfl) (by kernel_rfl) (fun _ _ _ h => h) (Or.inl ⟨by rfl, ?_⟩) HSZ.out ?_
          rotate_left
          · (intro wS hSw; (try dsimp only at hSw); go_simp; try with_reducible rfl)
          simp only [Act.put, List.getElem_toArray, List.getElem_cons_zero, List.getElem_cons_succ, List.setIfInBounds_toArray, List.set_cons_zero, List.set_cons_succ]
          refine wpAnyH_take (i := 6) (v := ?_) rfl (by kernel_rfl) (by kernel_rfl) (by kernel_rfl) (fun _ _ _ h => h) (Or.inl ⟨by rfl, ?_⟩) HSZ.out ?_
          rotate_left
          · (intro wS hSw; (try dsimp only at hSw); go_simp; try with_reducible rfl)
          simp only [Act.put, List.getElem_toArray, List.getElem_cons_zero, List.getElem_cons_succ, List.setIfInBounds_toArray, List.set_cons_zero, List.set_cons_succ]
          refine wpAnyH_take (i := 7) (v := ?_) rfl (by kernel_rfl) (by kernel_rfl) (by kernel_rfl) (fun _ _ _ h => h) (Or.inl ⟨by rfl, ?_⟩) HSZ.out ?_
          rotate_left
          · (intro wS hSw; (try dsimp only at hSw); go_simp; try with_reducible rfl)
          simp only [Act.put, List.getElem_toArray, List.getElem_cons_zero, List.getElem_cons_succ, List.setIfInBounds_toArray, List.set_cons_zero, List.set_cons_succ]
          refine wpAnyH_take (i := 8) (v := ?_) rfl (by kernel_rfl) (by kernel_rfl) (by kernel_rfl) (fun _ _ _ h => h) (Or.inl ⟨by rfl, ?_⟩) HSZ.out ?_
          rotate_left
          · (intro wS hSw; (try dsimp only at hSw); go_simp; try with_reducible rfl)
          simp only [Act.put, List.getElem_toArray, List.getElem_cons_zero, List.getElem_cons_succ, List.setIfInBounds_toArray, List.set_cons_zero, List.set_cons_succ]
          refine wpAnyH_done (by kernel_rfl) ?_ _
          have HBZ0 := HBZ
          have HBZ : Hid (Below w.heap.size w WZ.drew) := Lib.hid HBZ0.out.drew
          have HOZ0 := HOZ
          have HOZ := Lib.hid (ownM_below HOZ0.out (Below.refl WZ.heap.size WZ).drew)
          rw [hWY] at HBZ HOZ
          try rw [hWY]
          clear hWY HBZ0 HOZ0 HSZ
          by_cases hpq : p2 < q2
          · have hpq0 := hpq
            have HN : Hid (AndI a b N r ((q1, q2) :: s) R p2 lb) := Lib.hid ((HST.out.1 (by omega)).2 (by omega))
            by_cases hcc : 1 < ca
            · have hcc1 : (1 : Int) < (ca : Int) := by omega
              have HV : Hid (IsS w (.slice (some ⟨ba, oa + 2, none⟩) r.length (ca - 1)) r) := Lib.hid ⟨_, _, rfl, tail_isS (c := 0) HTa.out, by omega, by omega, fun e => by cases e⟩
              go_wp2_with fail
              go_roundg (r.length + ((q1, q2) :: s).length)
              case rel => exact ⟨r, ((q1, q2) :: s), R, p2, lb, rfl, Lib.hid ⟨HV.out, HIB.out, HN.out, HOZ.out, HBZ.out⟩⟩
              case measure => simp only [List.length_cons]; omega
            · obtain rfl : ca = 1 := by omega
              obtain rfl : r = [] := List.eq_nil_of_length_eq_zero (by omega)
              have HV : Hid (IsS w (.slice (some ⟨ba, oa, none⟩) 0 0) []) := Lib.hid ⟨_, _, rfl, fun i hi => absurd hi (by simp), by simp, by simp [maxLen], fun e => by cases e⟩
              clear hcc
              simp only [List.length_nil] at *
              go_wp2_with fail
              go_roundg (0 + ((q1, q2) :: s).length)
              case rel => exact ⟨[], ((q1, q2) :: s), R, p2, lb, rfl, Lib.hid ⟨HV.out, HIB.out, HN.out, HOZ.out, HBZ.out⟩⟩
              case measure => simp only [List.length_cons]; omega
          · have hpq0 := hpq
            have HN : Hid (AndI a b N ((p1, p2) :: r) s R la q2) := Lib.hid ((HST.out.2 (by omega)).2 (by omega))
            by_cases hcc : 1 < cb
            · have hcc1 : (1 : Int) < (cb : Int) := by omega
              have HV : Hid (IsS w (.slice (some ⟨bb, ob + 2, none⟩) s.length (cb - 1)) s) := Lib.hid ⟨_, _, rfl, tail_isS (c := 0) HTb.out, by omega, by omega, fun e => by cases e⟩
              go_wp2_with fail
              go_roundg (((p1, p2) :: r).length + s.length)
              case rel => exact ⟨((p1, p2) :: r), s, R, la, q2, rfl, Lib.hid ⟨HIA.out, HV.out, HN.out, HOZ.out, HBZ.out⟩⟩
              case measure => simp only [List.length_cons]; omega
            · obtain rfl : cb = 1 := by omega
              obtain rfl : s = [] := List.eq_nil_of_length_eq_zero (by omega)
              have HV : Hid (IsS w (.slice (some ⟨bb, ob, none⟩) 0 0) []) := Lib.hid ⟨_, _, rfl, fun i hi => absurd hi (by simp), by simp, by simp [maxLen], fun e => by cases e⟩
              clear hcc
              simp only [List.length_nil] at *
              go_wp2_with fail
              go_roundg (((p1, p2) :: r).length + 0)
              case rel => exact ⟨((p1, p2) :: r), [], R, la, q2, rfl, Lib.hid ⟨HIA.out, HV.out, HN.out, HOZ.out, HBZ.out⟩⟩
              case measure => simp only [List.length_cons]; omega
set_option maxHeartbeats 1000000 in
theorem sub_any (va vb : Value) (a b : List (Int × Int)) (w : World) (ha : IsS w va a) (hb : IsS w vb b) (wa : RtL LO a) (wb : RtL LO b) (hla : a.length ≤ 5000) (hlb : b.length ≤ 5000) :
    Calls Try.prog 16 #[va, vb] w fun e w' => ∃ v' R, e = .returned v' ∧ IsS w' v' R ∧ RtL LO R ∧ (∀ n, hasL R n = (hasL a n && !hasL b n)) ∧ R.length ≤ a.length + b.length + 1 ∧ Below w.heap.size w w' := by
  have KG := Lib.hid (gaps_any vb b w hb (by omega))
  have eLO : (-9223372036854775808 : Int) - 1 = LO := by decide
  have wb' : RtL (-9223372036854775808 - 1) b := by rw [eLO]; exact wb
  have hg := gap_spec b (-9223372036854775808) wb' (fun p hp => (zS_in hb p hp).2.2) (by omega)
  have hgl : (gapA (-9223372036854775808) b).length = b.length + 1 := by rw [gap_end, List.length_append, gapP_len]; rfl
  obtain ⟨G, hG⟩ : ∃ G, gapA (-9223372036854775808) b = G := ⟨_, rfl⟩
  rw [hG] at KG hg hgl
  have hin := zS_in ha
  have HA := Lib.hid ha
  have hM : ∀ n, hasL a n = true → -9223372036854775808 ≤ n ∧ n < 9223372036854775807 := fun n hn => by
    obtain ⟨p, hp, h1, h2⟩ := (has_iff a n).1 hn
    have := hin p hp; omega
  have HM := Lib.hid hM
  clear hin hb ha hG hM
  go_enter Try.func16, Try.ntmps16
  go_wp2_with fail
  refine KG.out.mono ?_
  rintro e w1 ⟨v1, rfl, hi1, hb1⟩
  have HB1 := Lib.hid hb1
  have KA := Lib.hid (and_any va v1 a G LO _ w1 (HA.out.kept hb1) hi1 (rt_wk _ _ wa) hg.1 (Int.le_refl _) (by omega) (by omega))
  clear hi1 hb1
  go_wp2_with fail
  refine KA.out.mono ?_
  rintro e w2 ⟨v2, R, rfl, hi2, hr2, hn2, hl2, hb2⟩
  go_wp2_with fail
  go_ret
  refine ⟨v2, R, rfl, hi2, hr2, fun n => ?_, by omega, HB1.out.trans (hb2.mono HB1.out.size)⟩
  rw [hn2 n, hg.2 n]
  cases ha : hasL a n with
  | false => rfl
  | true =>
    have := HM.out n ha
    simp [this]
end Go.Proofs.Ytnjdeikikdieoaa
