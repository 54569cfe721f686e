/- Contracts of bars.Long and of the document's: how long a bar is. -/
import Derived.Test.YtncpioakggaehaaDoorRows
import Derived.Test.YtncpioakggaehaaDoorNumsMath
import Derived.Test.YtncpioakggaehaaDoorNumsA
import Derived.Test.YtncpioakggaehaaDoorNumsB
import Derived.Test.YtncpioakggaehaaDoorDivC
import Derived.WalkKit
import Derived.IntWalk
import Derived.Lib.Hide
import Derived.WalkSpells
import Derived.WalkLawsBesides
import Derived.Deep.QuietTactic
import Derived.BigQuiet
namespace Go.Proofs.YtncpioakggaehaaDoor
open Go.RowKit
set_option linter.unusedSimpArgs false
set_option linter.unusedVariables false
def blBad (n g l : Int) : Prop := n < 0 ∨ g < n ∨ l < 1 ∨ 200 < l
instance (n g l : Int) : Decidable (blBad n g l) := by unfold blBad; infer_instance
def blV (n g l : Int) : Int := if blBad n g l then 0 else if g = 0 then 0 else l - (g - n) * l / g
def blE (n g l : Int) : Int := if blBad n g l then 22 else 0
theorem bl_bad {n g l : Int} (h : blBad n g l) : blV n g l = 0 ∧ blE n g l = 22 := by
  unfold blV blE; rw [if_pos h, if_pos h]; exact ⟨rfl, rfl⟩
theorem bl_zero {n g l : Int} (h : ¬ blBad n g l) (h0 : g = 0) : blV n g l = 0 ∧ blE n g l = 0 := by
  unfold blV blE; rw [if_neg h, if_neg h, if_pos h0]; exact ⟨rfl, rfl⟩
theorem bl_ok {n g l : Int} (h : ¬ blBad n g l) (h0 : ¬ g = 0) : blV n g l = l - (g - n) * l / g ∧ blE n g l = 0 := by
  unfold blV blE; rw [if_neg h, if_neg h, if_neg h0]; exact ⟨rfl, rfl⟩
/-- how many steps, in numbers from 0 on -/
def blK (N G L : Nat) : Nat := if G = 0 then 0 else L - (G - N) * L / G
theorem bl_quot {N G L : Nat} (h : N ≤ G) (h0 : 0 < G) : (G - N) * L / G ≤ L := by
  rw [Nat.div_le_iff_le_mul h0, Nat.mul_comm L G]
  have := Nat.mul_le_mul_right L (Nat.sub_le G N)
  omega
theorem bl_steps {N G L : Nat} (h : N ≤ G) : blK N G L ≤ L ∧ N * L ≤ blK N G L * G ∧ (∀ k, k < blK N G L → k * G < N * L) ∧ (1 ≤ L → (0 < blK N G L ↔ 0 < N)) := by
  unfold blK
  by_cases g0 : G = 0
  · subst g0
    obtain rfl : N = 0 := by omega
    rw [if_pos rfl]
    exact ⟨Nat.zero_le _, by simp, fun k hk => absurd hk (by omega), fun _ => by omega⟩
  · rw [if_neg g0]
    have G0 : 0 < G := by omega
    have hq := bl_quot (L := L) h G0
    have h1 := Nat.div_mul_le_self ((G - N) * L) G
    have h2 := Nat.lt_div_mul_add (a := (G - N) * L) G0
    have h3 : (G - N) * L = G * L - N * L := Nat.sub_mul _ _ _
    have h4 : N * L ≤ G * L := Nat.mul_le_mul_right _ h
    generalize (G - N) * L / G = q at hq h1 h2
    have h5 : (L - q) * G = L * G - q * G := Nat.sub_mul _ _ _
    have h6 : q * G ≤ L * G := Nat.mul_le_mul_right _ hq
    have h7 : L * G = G * L := Nat.mul_comm _ _
    have hK : N * L ≤ (L - q) * G := by omega
    refine ⟨by omega, hK, fun k hk => ?_, fun hL => ⟨fun hp => ?_, fun hn => ?_⟩⟩
    · have := Nat.mul_le_mul_right G (show k + 1 ≤ L - q by omega)
      rw [Nat.add_mul, Nat.one_mul] at this
      omega
    · rcases Nat.eq_zero_or_pos N with e | e
      · exfalso
        subst e
        have := Nat.mul_le_mul_right G (show 1 ≤ L - q by omega)
        rw [Nat.zero_mul] at h3
        omega
      · exact e
    · rcases Nat.eq_zero_or_pos (L - q) with e | e
      · exfalso
        rw [e, Nat.zero_mul] at hK
        have := Nat.mul_pos hn (show 0 < L by omega)
        omega
      · exact e
theorem bl_cast {N G L : Nat} (h : N ≤ G) (h1 : 1 ≤ L) (h2 : L ≤ 200) : ¬ blBad N G L ∧ blV N G L = (blK N G L : Nat) ∧ blE N G L = 0 := by
  have hb : ¬ blBad N G L := by unfold blBad; omega
  refine ⟨hb, ?_, ?_⟩
  · by_cases g0 : (G : Int) = 0
    · rw [(bl_zero hb g0).1]; unfold blK; rw [if_pos (by omega)]; rfl
    · rw [(bl_ok hb g0).1]
      have hq := bl_quot (L := L) h (show 0 < G by omega)
      unfold blK
      rw [if_neg (by omega), Int.natCast_sub hq, Int.natCast_ediv, Int.natCast_mul, Int.natCast_sub h]
  · unfold blE; rw [if_neg hb]
theorem bl_two {k l : IntKind} {a b c d : Int} (h : a = c ∧ b = d) : Ending.returned (.tuple #[.int k c, .int l d]) = .returned (.tuple #[.int k a, .int l b]) := by rw [h.1, h.2]
set_option maxHeartbeats 400000 in
theorem long_any (n g l : Int) (w : World) (a0 : -9223372036854775808 ≤ n) (a1 : n ≤ 9223372036854775807) (b0 : -9223372036854775808 ≤ g) (b1 : g ≤ 9223372036854775807) (c0 : -9223372036854775808 ≤ l) (c1 : l ≤ 9223372036854775807) :
    Calls Tryd.prog 20 #[.int .i64 n, .int .i64 g, .int .i64 l] w fun e w' => e = .returned (.tuple #[.int .i64 (blV n g l), .int .i64 (blE n g l)]) ∧ ∃ k, w' = w.drewN k := by
  by_cases n1 : n < 0
  · go_enter Tryd.func20, Tryd.ntmps20
    go_wp2_with fail
    go_ret2
    exact ⟨bl_two (bl_bad (.inl n1)), 0, rfl⟩
  by_cases n2 : g < n
  · go_enter Tryd.func20, Tryd.ntmps20
    go_wp2_with fail
    go_ret2
    exact ⟨bl_two (bl_bad (.inr (.inl n2))), 0, rfl⟩
  by_cases n3 : l < 1
  · go_enter Tryd.func20, Tryd.ntmps20
    go_wp2_with fail
    go_ret2
    exact ⟨bl_two (bl_bad (.inr (.inr (.inl n3)))), 0, rfl⟩
  by_cases n4 : 200 < l
  · go_enter Tryd.func20, Tryd.ntmps20
    go_wp2_with fail
    go_ret2
    exact ⟨bl_two (bl_bad (.inr (.inr (.inr n4)))), 0, rfl⟩
  have HBad : Hid (¬ blBad n g l) := Lib.hid (by unfold blBad; omega)
  by_cases n5 : g = 0
  · have H0 := Lib.hid n5
    have q0 : (g == 0) = true := by rw [beq_iff_eq]; exact n5
    clear n5
    go_enter Tryd.func20, Tryd.ntmps20
    go_wp2_with fail
    go_ret2
    exact ⟨bl_two (bl_zero HBad.out H0.out), 0, rfl⟩
  · have q0 : (g == 0) = false := by rw [beq_eq_false_iff_ne]; exact n5
    have M := fun w => muldiv_any (g - n) l g w (by omega) (by omega) (by omega) (by omega) (by omega) (by omega)
    have hv : mdV (g - n) l g = (g - n) * l / g := by
      obtain ⟨N, rfl⟩ := Int.eq_ofNat_of_zero_le (show 0 ≤ n by omega)
      obtain ⟨G, rfl⟩ := Int.eq_ofNat_of_zero_le (show 0 ≤ g by omega)
      obtain ⟨L, rfl⟩ := Int.eq_ofNat_of_zero_le (show 0 ≤ l by omega)
      have hq := bl_quot (N := N) (G := G) (L := L) (by omega) (by omega)
      rw [← Int.natCast_sub (by omega), (md_nat _ _ _ (by omega)).1, ← Int.natCast_mul, ← Int.natCast_ediv]
      generalize (G - N) * L / G = q at hq ⊢
      exact (fit_yes (by omega)).1
    have hr : 0 ≤ (g - n) * l / g ∧ (g - n) * l / g ≤ 200 := by
      obtain ⟨N, rfl⟩ := Int.eq_ofNat_of_zero_le (show 0 ≤ n by omega)
      obtain ⟨G, rfl⟩ := Int.eq_ofNat_of_zero_le (show 0 ≤ g by omega)
      obtain ⟨L, rfl⟩ := Int.eq_ofNat_of_zero_le (show 0 ≤ l by omega)
      have hq := bl_quot (N := N) (G := G) (L := L) (by omega) (by omega)
      rw [← Int.natCast_sub (by omega), ← Int.natCast_mul, ← Int.natCast_ediv]
      generalize (G - N) * L / G = q at hq ⊢
      omega
    rw [hv] at M
    have HO := Lib.hid (bl_ok HBad.out n5)
    obtain ⟨q, hq⟩ : ∃ q, (g - n) * l / g = q := ⟨_, rfl⟩
    rw [hq] at M hr HO
    have r0 := hr.1
    have r1 := hr.2
    obtain ⟨me, hme⟩ : ∃ me, mdE (g - n) l g = me := ⟨_, rfl⟩
    rw [hme] at M
    have HM := Lib.hid M
    clear M hv hq hme hr n5
    go_enter Tryd.func20, Tryd.ntmps20
    go_wp2_with (go_at_call 35; refine (HM.out _).mono ?_; rintro e w' ⟨rfl, k, rfl⟩)
    go_ret2
    exact ⟨bl_two HO.out, k, rfl⟩
set_option maxHeartbeats 1000000 in
theorem rlong_ok (N G L : Nat) (w : World) (h : N ≤ G) (hG : G ≤ 9223372036854775807) (h1 : 1 ≤ L) (h2 : L ≤ 200) :
    Calls Tryd.prog 26 #[.int .i64 N, .int .i64 G, .int .i64 L] w fun e w' => e = .returned (.tuple #[.int .i64 (blK N G L : Nat), .int .i64 0]) ∧ w = w' := by
  obtain ⟨k0, k1, k2, _⟩ := bl_steps (L := L) h
  obtain ⟨K, hK⟩ : ∃ K, blK N G L = K := ⟨_, rfl⟩
  rw [hK] at k0 k1 k2 ⊢
  clear hK
  have T := fun w => times_any N L w (by omega) (by omega)
  obtain ⟨ph, hph⟩ : ∃ x, N * L / 18446744073709551616 = x := ⟨_, rfl⟩
  obtain ⟨pl, hpl⟩ : ∃ x, N * L % 18446744073709551616 = x := ⟨_, rfl⟩
  rw [hph, hpl] at T
  have HP := Lib.hid (And.intro hph hpl)
  have HT := Lib.hid T
  have TK := Lib.hid (fun (k : Nat) (hk : k ≤ 200) w => times_any k G w (by omega) (by omega))
  have H1 := Lib.hid k1
  have H2 := Lib.hid k2
  clear hph hpl T k1 k2
  go_enter Tryd.func26, Tryd.ntmps26
  go_wp2_with (go_at_call 43; refine (HT.out _).mono ?_; rintro e w' ⟨rfl, rfl⟩)
  go_loop [10] (fun i => ∃ k : Nat, k ≤ K ∧ i = .int .i64 k) (fun i => K + 1 - (intOf i).toNat)
  case atStart => exact ⟨0, by omega, rfl⟩
  case round =>
    obtain ⟨k, hk, rfl⟩ := hrel
    by_cases e : k < K
    · have hkL : k < L := by omega
      have lt := H2.out k e
      have TT := TK.out k (by omega)
      obtain ⟨qh, hqh⟩ : ∃ x, k * G / 18446744073709551616 = x := ⟨_, rfl⟩
      obtain ⟨ql, hql⟩ : ∃ x, k * G % 18446744073709551616 = x := ⟨_, rfl⟩
      rw [hqh, hql] at TT
      obtain ⟨p1, p2⟩ := HP.out
      have hord : qh < ph ∨ (qh = ph ∧ ql < pl) := by omega
      have HTT := Lib.hid TT
      clear TT hqh hql p1 p2 lt
      rcases hord with o | ⟨o, o'⟩
      · have a1 : ¬ ph < qh := by omega
        have a2 : (qh == ph) = false := by rw [beq_eq_false_iff_ne]; omega
        have a3 : ((qh : Int) == (ph : Int)) = false := by rw [beq_eq_false_iff_ne]; omega
        go_wp2_with (go_at_call 43; refine (HTT.out _).mono ?_; rintro e w' ⟨rfl, rfl⟩)
        go_round
        case rel => exact ⟨k + 1, by omega, by go_num⟩
        case measure => simp [intOf]; omega
      · subst o
        have a1 : ¬ qh < qh := by omega
        have a2 : (qh == qh) = true := by simp
        have a3 : ((qh : Int) == (qh : Int)) = true := by simp
        have a4 : ¬ pl ≤ ql := by omega
        go_wp2_with (go_at_call 43; refine (HTT.out _).mono ?_; rintro e w' ⟨rfl, rfl⟩)
        go_round
        case rel => exact ⟨k + 1, by omega, by go_num⟩
        case measure => simp [intOf]; omega
    · obtain rfl : k = K := by omega
      by_cases eL : k < L
      · have TT := TK.out k (by omega)
        have ge := H1.out
        obtain ⟨qh, hqh⟩ : ∃ x, k * G / 18446744073709551616 = x := ⟨_, rfl⟩
        obtain ⟨ql, hql⟩ : ∃ x, k * G % 18446744073709551616 = x := ⟨_, rfl⟩
        rw [hqh, hql] at TT
        obtain ⟨p1, p2⟩ := HP.out
        have hord : ph < qh ∨ (qh = ph ∧ pl ≤ ql) := by omega
        have HTT := Lib.hid TT
        clear TT hqh hql p1 p2 ge
        rcases hord with o | ⟨o, o'⟩
        · go_wp2_with (go_at_call 43; refine (HTT.out _).mono ?_; rintro e w' ⟨rfl, rfl⟩)
          go_ret2
          exact ⟨rfl, rfl⟩
        · subst o
          have a1 : ¬ qh < qh := by omega
          have a2 : (qh == qh) = true := by simp
          have a3 : ((qh : Int) == (qh : Int)) = true := by simp
          go_wp2_with (go_at_call 43; refine (HTT.out _).mono ?_; rintro e w' ⟨rfl, rfl⟩)
          go_ret2
          exact ⟨rfl, rfl⟩
      · obtain rfl : k = L := by omega
        go_wp2_with fail
        go_ret2
        exact ⟨rfl, rfl⟩
set_option maxHeartbeats 400000 in
theorem rlong_bad (n g l : Int) (w : World) (h : blBad n g l) :
    Calls Tryd.prog 26 #[.int .i64 n, .int .i64 g, .int .i64 l] w fun e w' => e = .returned (.tuple #[.int .i64 0, .int .i64 22]) ∧ w = w' := by
  by_cases n1 : n < 0
  · clear h
    go_enter Tryd.func26, Tryd.ntmps26
    go_wp2_with fail
    go_ret2
    exact ⟨rfl, rfl⟩
  by_cases n2 : g < n
  · clear h
    go_enter Tryd.func26, Tryd.ntmps26
    go_wp2_with fail
    go_ret2
    exact ⟨rfl, rfl⟩
  by_cases n3 : l < 1
  · clear h
    go_enter Tryd.func26, Tryd.ntmps26
    go_wp2_with fail
    go_ret2
    exact ⟨rfl, rfl⟩
  have n4 : 200 < l := by unfold blBad at h; omega
  clear h
  go_enter Tryd.func26, Tryd.ntmps26
  go_wp2_with fail
  go_ret2
  exact ⟨rfl, rfl⟩
set_option maxHeartbeats 400000 in
theorem balive (w : World) : Calls Tryd.prog 8 #[] w fun e w' => e = .returned (.bool true) ∧ ∃ k, w' = w.drewN k := by
  have L := fun w => long_any 1 3 10 w (by decide) (by decide) (by decide) (by decide) (by decide) (by decide)
  have e1 : blV 1 3 10 = 4 := by decide
  have e2 : blE 1 3 10 = 0 := by decide
  rw [e1, e2] at L
  have HL := Lib.hid L
  clear L e1 e2
  go_enter Tryd.func8, Tryd.ntmps8
  go_wp2_with (go_at_call 20; refine (HL.out _).mono ?_; rintro e w' ⟨rfl, k, rfl⟩)
  go_ret
  exact ⟨rfl, k, rfl⟩
end Go.Proofs.YtncpioakggaehaaDoor
