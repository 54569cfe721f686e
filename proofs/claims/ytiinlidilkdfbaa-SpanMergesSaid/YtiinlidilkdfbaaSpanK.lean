/- span.Has at right rows. -/
import Derived.Test.YtiinlidilkdfbaaRows
import Derived.Test.YtiinlidilkdfbaaRowKit
import Derived.Test.YtiinlidilkdfbaaRowS
import Derived.Test.YtiinlidilkdfbaaRowZ
import Derived.Test.YtiinlidilkdfbaaSlicesEq
import Derived.Test.YtiinlidilkdfbaaSlicesEqM
import Derived.Test.YtiinlidilkdfbaaRowL
import Derived.Test.YtiinlidilkdfbaaRowM
import Derived.Test.YtiinlidilkdfbaaMakeI
import Derived.Test.YtiinlidilkdfbaaBlocks
import Derived.Test.YtiinlidilkdfbaaSpanMath
import Derived.Test.YtiinlidilkdfbaaSpanA
import Derived.Test.YtiinlidilkdfbaaSpanB
import Derived.Test.YtiinlidilkdfbaaSpanC
import Derived.Test.YtiinlidilkdfbaaSpanD
import Derived.WalkKit
import Derived.IntWalk
import Derived.Lib.Hide
import Derived.WalkSpells
import Derived.WalkLawsBesides
import Derived.Laws.CopyOwn
import Derived.Laws.MakeOwn
import Derived.Laws.OwnMore
import Derived.Laws.AppendOwnNone
import Derived.OwnWalk
import Derived.BigRegion
import Derived.Deep.LoopGhost
import Derived.Deep.RegionHeld3
import Derived.Deep.QuietTactic
import Derived.BigQuiet
import Derived.Maps.AppendAt
namespace Go.Proofs.Ytiinlidilkdfbaa
open Go.RowKit
set_option linter.unusedSimpArgs false
set_option linter.unusedVariables false
theorem rt_at : ∀ (L : List (Int × Int)) (lo : Int), RtL lo L → (∀ i, i < L.length → lo < zS L i 0 ∧ zS L i 0 < zS L i 1) ∧ ∀ i j, i < j → j < L.length → zS L i 1 < zS L j 0
  | [], lo, _ => ⟨fun i h => absurd h (Nat.not_lt_zero _), fun i j _ h => absurd h (Nat.not_lt_zero _)⟩
  | p :: r, lo, ⟨h1, h2, h3⟩ => by
    obtain ⟨i1, i2⟩ := rt_at r p.2 h3
    have ez : ∀ k j, zS (p :: r) (k + 1) j = zS r k j := fun k j => by unfold zS; simp
    have e0 : zS (p :: r) 0 0 = p.1 := rfl
    have e1 : zS (p :: r) 0 1 = p.2 := rfl
    refine ⟨fun i hi => ?_, fun i j hij hj => ?_⟩
    · rcases i with _ | i
      · rw [e0, e1]; exact ⟨h1, h2⟩
      · rw [ez, ez]
        have := i1 i (by simpa using hi)
        exact ⟨by omega, this.2⟩
    · rcases j with _ | j
      · omega
      · have hj' : j < r.length := by simpa using hj
        rcases i with _ | i
        · rw [e1, ez]; exact (i1 j hj').1
        · rw [ez, ez]; exact i2 i j (by omega) hj'
set_option maxHeartbeats 1000000 in
theorem hascl (p q x : Int) (w : World) :
    Calls Try.prog 32 #[.agg #[.int .i64 p, .int .i64 q], .int .i64 x] w fun e w' => e = .returned (.int .i64 (if q ≤ x then -1 else 1)) ∧ Below w.heap.size w w' := by
  by_cases h : q ≤ x
  · rw [if_pos h]
    go_enter Try.func32, Try.ntmps32
    go_wp2_with fail
    go_ret
    exact ⟨rfl, (Below.refl _ _).alloc (Nat.le_refl _) _⟩
  · rw [if_neg h]
    go_enter Try.func32, Try.ntmps32
    go_wp2_with fail
    go_ret
    exact ⟨rfl, (Below.refl _ _).alloc (Nat.le_refl _) _⟩
/-- where a number may be -/
def SrS (L : List (Int × Int)) (x : Int) (w : World) (e : Ending) (w' : World) : Prop := ∃ i : Nat, e = .returned (.tuple #[.int .i64 i, .bool false]) ∧ i ≤ L.length ∧ (∀ m, m < i → zS L m 1 ≤ x) ∧ (i < L.length → x < zS L i 1) ∧ Below w.heap.size w w'
set_option maxRecDepth 100000 in
set_option maxHeartbeats 4000000 in
theorem bsearch_any (A : Option Addr) (c n : Nat) (L : List (Int × Int)) (x : Int) (w : World) (hn : L.length = n) (hr : RdZ w 2 A n (zS L)) (hl : n ≤ 100000) (hs : ∀ i j, i < j → j < n → zS L i 1 < zS L j 1) :
    Calls Try.prog 31 #[.slice A n c, .int .i64 x, .func (.func 32) #[] #[]] w (SrS L x w) := by
  have HR := Lib.hid hr; have HS := Lib.hid hs; have HN := Lib.hid hn
  obtain ⟨Z, hZ⟩ : ∃ Z : Ending → World → Prop, SrS L x w = Z := ⟨_, rfl⟩
  have HZ := Lib.hid hZ
  rw [hZ]
  clear hr hs hn hZ
  go_enter Try.func31, Try.ntmps31
  go_wp2_with fail
  go_loopg [9, 10] n (fun g i j wr => ∃ a b : Nat, g = b - a ∧ i = .int .i64 a ∧ j = .int .i64 b ∧ a ≤ b ∧ b ≤ n ∧ Hid ((∀ m, m < a → zS L m 1 ≤ x) ∧ (b < n → x < zS L b 1) ∧ Below w.heap.size w wr))
  case atStart => exact ⟨0, n, by omega, rfl, rfl, by omega, by omega, Lib.hid ⟨fun m h => absurd h (by omega), fun h => absurd h (by omega), Below.refl _ _⟩⟩
  case round =>
    obtain ⟨a, b, rfl, rfl, rfl, hab, hbn, HI⟩ := hrel
    by_cases h : a < b
    · obtain ⟨m, hm⟩ : ∃ m, (a + b) / 2 = m := ⟨_, rfl⟩
      have m0 : a ≤ m := by omega
      have m1 : m < b := by omega
      have hw : IntKind.i64.wrap ((a : Int) + (b : Int)) = (a : Int) + b := IntWalk.i64_in _ (by omega)
      have hw2 : IntKind.u64.wrap ((a : Int) + (b : Int)) = (a : Int) + b := by unfold IntKind.wrap; simp [IntKind.signed, IntKind.bits]; omega
      have hm2 : ((a : Int) + (b : Int)) / 2 = (m : Int) := by omega
      have hw3 : IntKind.i64.wrap (m : Int) = m := IntWalk.i64_in _ (by omega)
      have hw4 : IntKind.u64.wrap (m : Int) = m := by unfold IntKind.wrap; simp [IntKind.signed, IntKind.bits]; omega
      have hmn : m < n := by omega
      obtain ⟨bb, oo, rfl, _, hcell⟩ := rdZ_row (RdZ.kept HR.out HI.out.2.2) (by omega) (by omega)
      have c0 : wr.cell? ⟨bb, oo + m * 2, none⟩ = _ := hcell m 0 hmn (by omega)
      have c1 := hcell m 1 hmn (by omega)
      obtain ⟨p, hp⟩ : ∃ p, zS L m 0 = p := ⟨_, rfl⟩
      obtain ⟨q, hq⟩ : ∃ q, zS L m 1 = q := ⟨_, rfl⟩
      rw [hp] at c0
      rw [hq] at c1
      have HQ := Lib.hid hq
      clear hcell hp hq hm
      go_wp2_with fail
      refine (hascl p q x wr).mono ?_
      rintro e w1 ⟨rfl, hb⟩
      have HB1 := Lib.hid (HI.out.2.2.trans (hb.mono HI.out.2.2.size))
      by_cases hqx : q ≤ x
      · rw [if_pos hqx]
        have HL : Hid (∀ k, k < m + 1 → zS L k 1 ≤ x) := Lib.hid fun k hk => by
          by_cases e : k = m
          · rw [e, HQ.out]; exact hqx
          · have := HS.out k m (by omega) (by omega); rw [HQ.out] at this; omega
        clear hb hw hw2 hm2
        go_wp2_with fail
        go_roundg (b - (m + 1))
        case rel => exact ⟨m + 1, b, rfl, by go_num, rfl, by omega, hbn, Lib.hid ⟨HL.out, HI.out.2.1, HB1.out⟩⟩
        case measure => omega
      · rw [if_neg hqx]
        have HH : Hid (m < n → x < zS L m 1) := Lib.hid fun _ => by rw [HQ.out]; omega
        clear hb hw hw2 hm2
        go_wp2_with fail
        go_roundg (m - a)
        case rel => exact ⟨a, m, rfl, rfl, rfl, m0, by omega, Lib.hid ⟨HI.out.1, HH.out, HB1.out⟩⟩
        case measure => omega
    · obtain rfl : a = b := by omega
      by_cases han : a < n
      · obtain ⟨bb, oo, rfl, _, hcell⟩ := rdZ_row (RdZ.kept HR.out HI.out.2.2) (by omega) (by omega)
        have c0 : wr.cell? ⟨bb, oo + a * 2, none⟩ = _ := hcell a 0 han (by omega)
        have c1 := hcell a 1 han (by omega)
        have hgt := HI.out.2.1 han
        obtain ⟨p, hp⟩ : ∃ p, zS L a 0 = p := ⟨_, rfl⟩
        obtain ⟨q, hq⟩ : ∃ q, zS L a 1 = q := ⟨_, rfl⟩
        rw [hp] at c0
        rw [hq] at c1 hgt
        clear hcell hp hq
        go_wp2_with fail
        refine (hascl p q x wr).mono ?_
        rintro e w1 ⟨rfl, hb⟩
        have HB1 := Lib.hid (HI.out.2.2.trans (hb.mono HI.out.2.2.size))
        rw [if_neg (by omega)]
        clear hb
        go_wp2_with fail
        rw [← HZ.out]
        exact ⟨a, rfl, by rw [HN.out]; omega, HI.out.1, by rw [HN.out]; exact HI.out.2.1, HB1.out⟩
      · go_wp2_with fail
        rw [← HZ.out]
        exact ⟨a, rfl, by rw [HN.out]; omega, HI.out.1, by rw [HN.out]; exact HI.out.2.1, HI.out.2.2⟩
set_option maxRecDepth 100000 in
set_option maxHeartbeats 4000000 in
theorem has_any (v : Value) (L : List (Int × Int)) (x lo : Int) (w : World) (hv : IsS w v L) (hrt : RtL lo L) (hl : L.length ≤ 100000) :
    Calls Try.prog 11 #[v, .int .i64 x] w fun e w' => e = .returned (.bool (hasL L x)) ∧ Below w.heap.size w w' := by
  obtain ⟨A, c, rfl, hr, hc1, hc2, hc3⟩ := hv
  obtain ⟨r1, r2⟩ := rt_at L lo hrt
  have hs : ∀ i j, i < j → j < L.length → zS L i 1 < zS L j 1 := fun i j hij hj => by
    have := r2 i j hij hj; have := (r1 j hj).2; omega
  have K := Lib.hid (bsearch_any A c L.length L x w rfl hr hl hs)
  have R1 := Lib.hid r1; have R2 := Lib.hid r2
  obtain ⟨Rv, hRv⟩ : ∃ v, hasL L x = v := ⟨_, rfl⟩
  have HRV := Lib.hid hRv
  rw [hRv]
  obtain ⟨n, hn⟩ : ∃ n, L.length = n := ⟨_, rfl⟩
  have HN := Lib.hid hn
  rw [hn] at hl hc1 hr K ⊢
  have HR := Lib.hid hr
  clear hrt r1 r2 hs hRv hn hr
  go_enter Try.func11, Try.ntmps11
  go_wp2_with fail
  refine K.out.mono ?_
  rintro e w1 ⟨i, rfl, hi, hlo, hhi, hb⟩
  rw [HN.out] at hi hhi
  have HB := Lib.hid hb
  have HLO := Lib.hid hlo; have HHI := Lib.hid hhi
  clear hlo hhi hb
  by_cases h : i < n
  · obtain ⟨bb, oo, rfl, _, hcell⟩ := rdZ_row (RdZ.kept HR.out HB.out) (by omega) (by omega)
    have c0 : w1.cell? ⟨bb, oo + i * 2, none⟩ = _ := hcell i 0 h (by omega)
    obtain ⟨p, hp⟩ : ∃ p, zS L i 0 = p := ⟨_, rfl⟩
    rw [hp] at c0
    have HP := Lib.hid hp
    clear hcell hp
    by_cases hpx : p ≤ x
    · obtain rfl : Rv = true := by rw [← HRV.out]; exact has_yes (i := i) (by rw [HN.out]; exact h) (by rw [HP.out]; exact hpx) (HHI.out h)
      have hd : decide (p ≤ x) = true := by simpa using hpx
      go_wp2_with fail
      go_ret
      first | exact ⟨rfl, HB.out⟩ | exact ⟨by rw [← hd]; rfl, HB.out⟩ | exact ⟨by simp [hpx], HB.out⟩
    · obtain rfl : Rv = false := by
        rw [← HRV.out]
        refine has_not (fun k hk => ?_)
        rintro ⟨h1, h2⟩
        rcases Nat.lt_trichotomy k i with q | q | q
        · have := HLO.out k q; omega
        · subst q; rw [HP.out] at h1; omega
        · have := R2.out i k q hk; have := HHI.out h; omega
      have hd : decide (p ≤ x) = false := by simpa using hpx
      go_wp2_with fail
      go_ret
      first | exact ⟨rfl, HB.out⟩ | exact ⟨by simp [hpx], HB.out⟩
  · obtain rfl : Rv = false := by
      rw [← HRV.out]
      refine has_not (fun k hk => ?_)
      rintro ⟨h1, h2⟩
      have := HLO.out k (by rw [HN.out] at hk; omega)
      omega
    go_wp2_with fail
    go_ret
    exact ⟨rfl, HB.out⟩
end Go.Proofs.Ytiinlidilkdfbaa
