/- Contract of math/bits.Div64. -/
import Derived.Test.YtncpioakggaehaaDoorRows
import Derived.Test.YtncpioakggaehaaDoorDivMath
import Derived.Test.YtncpioakggaehaaDoorDivA
import Derived.Test.YtncpioakggaehaaDoorShelf
import Derived.Lib.ItoaNum
import Derived.Laws.BitsLemmas
import Derived.WalkKit
import Derived.Lib.Hide
import Derived.WalkSpells
import Derived.WalkLawsBesides
import Derived.Deep.QuietTactic
import Derived.BigQuiet
namespace Go.Proofs.YtncpioakggaehaaDoor
open Go.RowKit
set_option linter.unusedSimpArgs false
set_option linter.unusedVariables false
theorem norm_s (y : Nat) (hy : 0 < y) (h : y < 18446744073709551616) : ∃ s : Nat, (64 - (Lib.bitLen y : Int)) = s ∧ s ≤ 63 ∧ 9223372036854775808 ≤ y * 2 ^ s ∧ y * 2 ^ s < 18446744073709551616 := by
  have e64 : (2 : Nat) ^ 64 = 18446744073709551616 := by decide
  have hb : y < 2 ^ 64 := by omega
  obtain ⟨a, b, c⟩ := Lib.bitLenAux_bounds 64 y hb (by omega)
  have hL : Lib.bitLenAux 64 y ≤ 64 := Lib.bitLen_le y 64 (Nat.le_refl _) hb
  unfold Lib.bitLen
  generalize Lib.bitLenAux 64 y = L at a b c hL ⊢
  refine ⟨64 - L, by omega, by omega, ?_, ?_⟩
  · have := Nat.mul_le_mul_right (2 ^ (64 - L)) b
    rw [← Nat.pow_add, show L - 1 + (64 - L) = 63 by omega] at this
    have e63 : (2 : Nat) ^ 63 = 9223372036854775808 := by decide
    omega
  · have := Nat.mul_lt_mul_of_pos_right c (Nat.two_pow_pos (64 - L))
    rw [← Nat.pow_add, show L + (64 - L) = 64 by omega] at this
    omega
theorem wraps64 (n : Int) (h₀ : 0 ≤ n) (h₁ : n < 2 ^ 64) : IntKind.u64.wrap n = n := by
  have e64 : (2 : Int) ^ 64 = 18446744073709551616 := by decide
  rw [IntKind.wrap_u64]; omega
theorem cut64 (n : Nat) : IntKind.u64.wrap (n : Int) = ((n % 18446744073709551616 : Nat) : Int) := by rw [IntKind.wrap_u64]; omega
theorem low_mask (n : Nat) (h : n < 18446744073709551616) : bits .and .u64 (n : Int) 4294967295 = ((n % 4294967296 : Nat) : Int) := by
  have e64 : (2 : Int) ^ 64 = 18446744073709551616 := by decide
  have m := bits_mask .u64 64 (by decide) wraps64 32 (by decide) (n : Int) (by omega) (by omega)
  have e : ((2 : Int) ^ 32 - 1) = 4294967295 := by decide
  have e2 : ((2 : Int) ^ 32) = 4294967296 := by decide
  rw [e, e2] at m
  rw [m]; omega
theorem or_nat (a b : Nat) (ha : a < 18446744073709551616) (hb : b < 18446744073709551616) : bits .or .u64 (a : Int) (b : Int) = ((a ||| b : Nat) : Int) := by
  have e64 : (2 : Nat) ^ 64 = 18446744073709551616 := by decide
  exact (bits_nat .u64 64 (by decide) wraps64 a b (by omega) (by omega)).2
theorem shl_nat (a s : Nat) : IntKind.u64.wrap ((a : Int) * 2 ^ s) = ((a * 2 ^ s % 18446744073709551616 : Nat) : Int) := by
  rw [show (a : Int) * 2 ^ s = ((a * 2 ^ s : Nat) : Int) by rw [Int.natCast_mul, Int.natCast_pow]; rfl, cut64]
theorem shr_nat (a s : Nat) : (a : Int) / 2 ^ s = ((a / 2 ^ s : Nat) : Int) := by
  rw [Int.natCast_ediv, Int.natCast_pow]; rfl
theorem first_q {u y1 : Nat} (h : u < 18446744073709551616) : IntKind.u64.wrap ((u : Int).tdiv y1) = ((u / y1 : Nat) : Int) := by
  rw [show (u : Int).tdiv y1 = ((u / y1 : Nat) : Int) from rfl, cut64, Nat.mod_eq_of_lt (Nat.lt_of_le_of_lt (Nat.div_le_self _ _) h)]
theorem first_r {u y1 : Nat} (h : u < 18446744073709551616) : IntKind.u64.wrap ((u : Int) - IntKind.u64.wrap (((u / y1 : Nat) : Int) * y1)) = ((u % y1 : Nat) : Int) := by
  have e := Nat.div_add_mod u y1
  rw [Nat.mul_comm] at e
  rw [← Int.natCast_mul]
  generalize u / y1 * y1 = p at e ⊢
  rw [IntKind.wrap_u64, IntKind.wrap_u64]
  omega
theorem cut_mod {n a b : Nat} (e : n = a * 4294967296 + b) (h : b < 4294967296) : n % 4294967296 = b := by omega
theorem cut_div {n a b : Nat} (e : n = a * 4294967296 + b) (h : b < 4294967296) : (n : Int) / 4294967296 = a := by omega
theorem cut_lt {n a b : Nat} (e : n = a * 4294967296 + b) (h : n < 18446744073709551616) : a < 4294967296 := by omega
theorem cut_ge {n a b : Nat} (e : n = a * 4294967296 + b) (h0 : b < 4294967296) (h : 9223372036854775808 ≤ n) : 2147483648 ≤ a := by omega
theorem prod_u64 {a b : Nat} (ha : a < 4294967296) (hb : b < 4294967296) : IntKind.u64.wrap ((a : Int) * b) = ((a * b : Nat) : Int) := by
  have : a * b ≤ 4294967295 * 4294967295 := Nat.mul_le_mul (by omega) (by omega)
  rw [← Int.natCast_mul, cut64, Nat.mod_eq_of_lt (by omega)]
theorem join_u64 {r d : Nat} (hr : r < 4294967296) (hd : d < 4294967296) : IntKind.u64.wrap (IntKind.u64.wrap (4294967296 * (r : Int)) + d) = ((4294967296 * r + d : Nat) : Int) := by
  rw [IntKind.wrap_u64, IntKind.wrap_u64]; omega
theorem pred_u64 {q : Nat} (h : 1 ≤ q) (h1 : q ≤ 4294967297) : IntKind.u64.wrap ((q : Int) - 1) = ((q - 1 : Nat) : Int) := by
  rw [IntKind.wrap_u64]; omega
theorem sum_u64 {r y1 : Nat} (h : r < 4294967296) (h1 : y1 < 4294967296) : IntKind.u64.wrap ((r : Int) + y1) = ((r + y1 : Nat) : Int) := by
  rw [IntKind.wrap_u64]; omega
theorem rest_eq {u d y1 y0 N Q : Nat} (D : Dig u d y1 y0 N Q) (hN : N < 18446744073709551616) : IntKind.u64.wrap (IntKind.u64.wrap (IntKind.u64.wrap ((u : Int) * 4294967296) + d) - IntKind.u64.wrap ((Q : Int) * N)) = (((u * 4294967296 + d) % N : Nat) : Int) := by
  have e := D.sum
  have l := D.less
  have m := Nat.mod_lt (u * 4294967296 + d) (show 0 < N by omega)
  rw [← Int.natCast_mul Q N]
  generalize (u * 4294967296 + d) % N = R at e m ⊢
  generalize Q * N = P at e ⊢
  rw [IntKind.wrap_u64, IntKind.wrap_u64, IntKind.wrap_u64, IntKind.wrap_u64]
  omega
theorem fin_u64 {a b : Nat} (ha : a < 4294967296) (hb : b < 4294967296) : IntKind.u64.wrap (IntKind.u64.wrap ((a : Int) * 4294967296) + b) = ((a * 4294967296 + b : Nat) : Int) := by
  rw [IntKind.wrap_u64, IntKind.wrap_u64]; omega
theorem two_dig {u d1 d0 y1 y0 N D : Nat} (h11 : 2147483648 ≤ y1) (h12 : y1 < 4294967296) (h10 : y0 < 4294967296) (hd1 : d1 < 4294967296) (hd0 : d0 < 4294967296) (hN : N = y1 * 4294967296 + y0) (hDD : D = d1 * 4294967296 + d0) (hu : u < N) (hn2 : N < 18446744073709551616) :
    ∃ Q1 U Q0 : Nat, Dig u d1 y1 y0 N Q1 ∧ Dig U d0 y1 y0 N Q0 ∧ (u * 18446744073709551616 + D) / N = Q1 * 4294967296 + Q0 ∧ IntKind.u64.wrap (IntKind.u64.wrap (IntKind.u64.wrap ((u : Int) * 4294967296) + d1) - IntKind.u64.wrap ((Q1 : Int) * N)) = (U : Int) := by
  have D1 : Dig u d1 y1 y0 N ((u * 4294967296 + d1) / N) := ⟨h11, h12, h10, hd1, hN, hu, rfl⟩
  refine ⟨_, _, _, D1, D1.next hd0, ?_, rest_eq D1 hn2⟩
  rw [hDD]; exact two_digits (by omega)
theorem parts (n : Nat) : ∃ a b, n = a * 4294967296 + b ∧ b < 4294967296 := ⟨n / 4294967296, n % 4294967296, by omega, by omega⟩
set_option maxHeartbeats 1000000 in
set_option maxRecDepth 4000 in
theorem div64_any (hi lo y : Nat) (w : World) (hc : hi < y) (hl : lo < 18446744073709551616) (h2 : y < 18446744073709551616) :
    Calls Tryd.prog 51 #[.int .u64 hi, .int .u64 lo, .int .u64 y] w fun e w' => (∃ r : Int, e = .returned (.tuple #[.int .u64 ((hi * 18446744073709551616 + lo) / y : Nat), .int .u64 r])) ∧ ∃ k, w' = w.drewN k := by
  have h0 : ¬ (y : Int) = 0 := by omega
  have h3 : ¬ (y : Int) ≤ hi := by omega
  by_cases hz : hi = 0
  · subst hz
    go_enter Tryd.func51, Tryd.ntmps51
    go_wp2_with fail
    have t0 : ¬ (y : Int) = 0 := by omega
    have t1 : (lo : Int).tdiv y = ((lo / y : Nat) : Int) := rfl
    have t2 : (lo : Int).tmod y = ((lo % y : Nat) : Int) := rfl
    have t3 : IntKind.u64.wrap ((lo / y : Nat) : Int) = ((lo / y : Nat) : Int) := by rw [cut64, Nat.mod_eq_of_lt (Nat.lt_of_le_of_lt (Nat.div_le_self _ _) hl)]
    go_quiet (fail)
    go_wp2_with fail
    go_ret2
    refine ⟨⟨_, dret2 ?_ rfl⟩, nq, rfl⟩
    rw [Nat.zero_mul, Nat.zero_add]
    exact first_q hl
  · obtain ⟨s, hs, hs63, hn1, hn2⟩ := norm_s y (by omega) h2
    have hu := norm_lt (s := s) hs63 hc hl
    have hq := norm_quot (hi := hi) (y := y) hs63 hl
    have ho := norm_or (hi := hi) hs63 hl
    have h9 : hi * 2 ^ s < 18446744073709551616 := Nat.lt_of_le_of_lt (Nat.le_add_right _ _) (Nat.lt_trans hu hn2)
    have h8 : lo / 2 ^ (64 - s) < 18446744073709551616 := Nat.lt_of_le_of_lt (Nat.div_le_self _ _) hl
    have e8 : bits .or .u64 (IntKind.u64.wrap ((hi : Int) * 2 ^ s)) ((lo : Int) / 2 ^ (64 - s)) = ((hi * 2 ^ s + lo / 2 ^ (64 - s) : Nat) : Int) := by
      rw [shl_nat, shr_nat, Nat.mod_eq_of_lt h9, or_nat _ _ h9 h8, ho]
    have e5 := shl_nat lo s
    have e1 := shl_nat y s
    rw [Nat.mod_eq_of_lt hn2] at e1
    generalize hi * 2 ^ s + lo / 2 ^ (64 - s) = u at hu hq e8
    have hD : lo * 2 ^ s % 18446744073709551616 < 18446744073709551616 := Nat.mod_lt _ (by decide)
    generalize lo * 2 ^ s % 18446744073709551616 = D at hq e5 hD
    generalize y * 2 ^ s = N at hn1 hn2 hu hq e1
    clear ho h9 h8
    obtain ⟨y1, y0, hN, h10⟩ := parts N
    obtain ⟨d1, d0, hDD, hd0⟩ := parts D
    have hd1 := cut_lt hDD hD
    have h11 := cut_ge hN h10 hn1
    have h12 := cut_lt hN hn2
    have e2 := low_mask N hn2
    rw [cut_mod hN h10] at e2
    have e3 := cut_div hN h10
    have e6 := low_mask D hD
    rw [cut_mod hDD hd0] at e6
    have e7 := cut_div hDD hd0
    have e9 := first_q (u := u) (y1 := y1) (by omega)
    have e10 := first_r (u := u) (y1 := y1) (by omega)
    obtain ⟨Q1, U, Q0, D1, D2, hqq, e11⟩ := two_dig h11 h12 h10 hd1 hd0 hN hDD hu hn2
    have hU := D2.less
    have e12 := first_q (u := U) (y1 := y1) (by omega)
    have e13 := first_r (u := U) (y1 := y1) (by omega)
    have HQ := Lib.hid (hq.trans hqq)
    have HG := Lib.hid D1.start
    have HG2 := Lib.hid D2.start
    have HF := Lib.hid D1
    have HF2 := Lib.hid D2
    have E1 := Lib.hid e1
    have E2 := Lib.hid e2
    have E3 := Lib.hid e3
    have E5 := Lib.hid e5
    have E6 := Lib.hid e6
    have E7 := Lib.hid e7
    have E8 := Lib.hid e8
    have E9 := Lib.hid e9
    have E10 := Lib.hid e10
    have E11 := Lib.hid e11
    have E12 := Lib.hid e12
    have E13 := Lib.hid e13
    have hy1 : ¬ IntKind.u64.wrap ((y : Int) * 2 ^ s) / 4294967296 = 0 := by rw [e1, e3]; omega
    clear e1 e2 e3 e5 e6 e7 e8 e9 e10 e11 e12 e13 hq hqq D1 D2 hU hN hDD hn1 hn2 hD h10 hd0 hd1 h11 h12 hu
    go_enter Tryd.func51, Tryd.ntmps51
    go_wp2_with (go_at_call 63; refine (Tryd.bits_LeadingZeros64 _ _ (by omega) (by omega)).mono ?_; rintro e w' ⟨rfl, rfl⟩)
    rw [E1.out, E5.out, E8.out, E2.out, E3.out, E6.out, E7.out, E9.out, E10.out]
    clear hc hl h2 h0 hz hs h3 hs63 E1 E2 E3 E5 E6 E7 E8 E9 E10 hy1
    go_loop [15, 16] (fun a b => ∃ q r : Nat, Hid (Guess u d1 y1 y0 q r) ∧ a = .int .u64 q ∧ b = .int .u64 r) (fun a _ => (intOf a).toNat)
    case atStart => exact ⟨u / y1, u % y1, HG, rfl, rfl⟩
    case round =>
      obtain ⟨q, r, G, rfl, rfl⟩ := hrel
      have Dg := HF.out
      have hr := G.out.rest
      have hq := G.out.top
      have f2 := Dg.one'
      have f3 := Dg.zero
      have t1 := prod_u64 (a := q) (b := y0)
      have t2 := join_u64 hr Dg.dig
      have t4 := sum_u64 hr f2
      have t5 := pred_u64 (q := q)
      have hy0 : ¬ y1 = 0 := by have := Dg.one; omega
      have hy1 : ¬ (y1 : Int) = 0 := by omega
      by_cases hc : 4294967296 ≤ q
      · have hc' : (q : Int) ≥ 4294967296 := by omega
        have C : 4294967296 ≤ q ∨ 4294967296 * r + d1 < q * y0 := .inl hc
        have hd' : (0 : Int) = 0 := rfl
        have F := guess_pos G.out C
        by_cases hs : 4294967296 ≤ r + y1
        · have hs' : IntKind.u64.wrap ((r : Int) + y1) ≥ 4294967296 := by rw [t4]; omega
          have e := Dg.out G.out C hs
          have HM := Lib.hid (show ((q : Int) - 1) = (Q1 : Int) by omega)
          have HW := Lib.hid (show IntKind.u64.wrap ((q : Int) - 1) = (Q1 : Int) by rw [t5 F hq, e])
          clear e Dg t1 t2 t4 t5 f2 f3 hr hc hs C
          go_wp2_with fail
          first | rw [HW.out] | rw [HM.out]
          rw [E11.out, E12.out, E13.out]
          (try clear G); (try clear F); (try clear HM); (try clear HW); (try clear hs'); (try clear hq); (try clear hd'); (try clear hc')
          go_loop [18, 16] (fun a b => ∃ q r : Nat, Hid (Guess U d0 y1 y0 q r) ∧ a = .int .u64 q ∧ b = .int .u64 r) (fun a _ => (intOf a).toNat)
          case atStart => exact ⟨U / y1, U % y1, HG2, rfl, rfl⟩
          case round =>
            obtain ⟨q, r, G, rfl, rfl⟩ := hrel
            have Dg := HF2.out
            have hr := G.out.rest
            have hq := G.out.top
            have f2 := Dg.one'
            have f3 := Dg.zero
            have t1 := prod_u64 (a := q) (b := y0)
            have t2 := join_u64 hr Dg.dig
            have t4 := sum_u64 hr f2
            have t5 := pred_u64 (q := q)
            have hy0 : ¬ y1 = 0 := by have := Dg.one; omega
            have hy1 : ¬ (y1 : Int) = 0 := by omega
            by_cases hc : 4294967296 ≤ q
            · have hc' : (q : Int) ≥ 4294967296 := by omega
              have C : 4294967296 ≤ q ∨ 4294967296 * r + d0 < q * y0 := .inl hc
              have hd' : (0 : Int) = 0 := rfl
              have F := guess_pos G.out C
              by_cases hs : 4294967296 ≤ r + y1
              · have hs' : IntKind.u64.wrap ((r : Int) + y1) ≥ 4294967296 := by rw [t4]; omega
                have e := Dg.out G.out C hs
                have HM := Lib.hid (show ((q : Int) - 1) = (Q0 : Int) by omega)
                have HW := Lib.hid (show IntKind.u64.wrap ((q : Int) - 1) = (Q0 : Int) by rw [t5 F hq, e])
                clear e Dg t1 t2 t4 t5 f2 f3 hr hc hs C
                go_wp2_with fail
                first | rw [HW.out] | rw [HM.out]
                go_ret2
                exact ⟨⟨_, dret2 ((fin_u64 HF.out.lt HF2.out.lt).trans (by rw [← HQ.out]; rfl)) rfl⟩, 0, rfl⟩
              · have hs' : ¬ IntKind.u64.wrap ((r : Int) + y1) ≥ 4294967296 := by rw [t4]; omega
                have F4 := Lib.hid (Dg.on G.out C (by omega))
                have HM := Lib.hid (show ((q : Int) - 1) = ((q - 1 : Nat) : Int) by omega)
                have HW := Lib.hid (t5 F hq)
                have HS := Lib.hid t4
                clear Dg t1 t2 t4 t5 f2 f3 hr hc hs C
                go_wp2_with fail
                go_round
                case rel => exact ⟨q - 1, r + y1, F4, by first | rw [HW.out] | rw [HM.out], by first | rw [HS.out] | rfl⟩
                case measure => simp [intOf]; omega
            · have hc' : ¬ (q : Int) ≥ 4294967296 := by omega
              have e1 := t1 (by omega) f3
              by_cases hd : 4294967296 * r + d0 < q * y0
              · have hd' : IntKind.u64.wrap ((q : Int) * y0) > IntKind.u64.wrap (IntKind.u64.wrap (4294967296 * (r : Int)) + d0) := by rw [e1, t2]; exact Int.ofNat_lt.mpr hd
                have C : 4294967296 ≤ q ∨ 4294967296 * r + d0 < q * y0 := .inr hd
                clear hd e1
                have F := guess_pos G.out C
                by_cases hs : 4294967296 ≤ r + y1
                · have hs' : IntKind.u64.wrap ((r : Int) + y1) ≥ 4294967296 := by rw [t4]; omega
                  have e := Dg.out G.out C hs
                  have HM := Lib.hid (show ((q : Int) - 1) = (Q0 : Int) by omega)
                  have HW := Lib.hid (show IntKind.u64.wrap ((q : Int) - 1) = (Q0 : Int) by rw [t5 F hq, e])
                  clear e Dg t1 t2 t4 t5 f2 f3 hr hc hs C
                  go_wp2_with fail
                  first | rw [HW.out] | rw [HM.out]
                  go_ret2
                  exact ⟨⟨_, dret2 ((fin_u64 HF.out.lt HF2.out.lt).trans (by rw [← HQ.out]; rfl)) rfl⟩, 0, rfl⟩
                · have hs' : ¬ IntKind.u64.wrap ((r : Int) + y1) ≥ 4294967296 := by rw [t4]; omega
                  have F4 := Lib.hid (Dg.on G.out C (by omega))
                  have HM := Lib.hid (show ((q : Int) - 1) = ((q - 1 : Nat) : Int) by omega)
                  have HW := Lib.hid (t5 F hq)
                  have HS := Lib.hid t4
                  clear Dg t1 t2 t4 t5 f2 f3 hr hc hs C
                  go_wp2_with fail
                  go_round
                  case rel => exact ⟨q - 1, r + y1, F4, by first | rw [HW.out] | rw [HM.out], by first | rw [HS.out] | rfl⟩
                  case measure => simp [intOf]; omega
              · have hd' : ¬ IntKind.u64.wrap ((q : Int) * y0) > IntKind.u64.wrap (IntKind.u64.wrap (4294967296 * (r : Int)) + d0) := by rw [e1, t2]; exact fun x => hd (Int.ofNat_lt.mp x)
                have E := Lib.hid (Dg.stop G.out hd)
                clear Dg t1 t2 t4 t5 f2 f3 hr hq hc hd e1
                go_wp2_with fail
                rw [E.out]
                go_ret2
                exact ⟨⟨_, dret2 ((fin_u64 HF.out.lt HF2.out.lt).trans (by rw [← HQ.out]; rfl)) rfl⟩, 0, rfl⟩
        · have hs' : ¬ IntKind.u64.wrap ((r : Int) + y1) ≥ 4294967296 := by rw [t4]; omega
          have F4 := Lib.hid (Dg.on G.out C (by omega))
          have HM := Lib.hid (show ((q : Int) - 1) = ((q - 1 : Nat) : Int) by omega)
          have HW := Lib.hid (t5 F hq)
          have HS := Lib.hid t4
          clear Dg t1 t2 t4 t5 f2 f3 hr hc hs C
          go_wp2_with fail
          go_round
          case rel => exact ⟨q - 1, r + y1, F4, by first | rw [HW.out] | rw [HM.out], by first | rw [HS.out] | rfl⟩
          case measure => simp [intOf]; omega
      · have hc' : ¬ (q : Int) ≥ 4294967296 := by omega
        have e1 := t1 (by omega) f3
        by_cases hd : 4294967296 * r + d1 < q * y0
        · have hd' : IntKind.u64.wrap ((q : Int) * y0) > IntKind.u64.wrap (IntKind.u64.wrap (4294967296 * (r : Int)) + d1) := by rw [e1, t2]; exact Int.ofNat_lt.mpr hd
          have C : 4294967296 ≤ q ∨ 4294967296 * r + d1 < q * y0 := .inr hd
          clear hd e1
          have F := guess_pos G.out C
          by_cases hs : 4294967296 ≤ r + y1
          · have hs' : IntKind.u64.wrap ((r : Int) + y1) ≥ 4294967296 := by rw [t4]; omega
            have e := Dg.out G.out C hs
            have HM := Lib.hid (show ((q : Int) - 1) = (Q1 : Int) by omega)
            have HW := Lib.hid (show IntKind.u64.wrap ((q : Int) - 1) = (Q1 : Int) by rw [t5 F hq, e])
            clear e Dg t1 t2 t4 t5 f2 f3 hr hc hs C
            go_wp2_with fail
            first | rw [HW.out] | rw [HM.out]
            rw [E11.out, E12.out, E13.out]
            (try clear G); (try clear F); (try clear HM); (try clear HW); (try clear hs'); (try clear hq); (try clear hd'); (try clear hc')
            go_loop [18, 16] (fun a b => ∃ q r : Nat, Hid (Guess U d0 y1 y0 q r) ∧ a = .int .u64 q ∧ b = .int .u64 r) (fun a _ => (intOf a).toNat)
            case atStart => exact ⟨U / y1, U % y1, HG2, rfl, rfl⟩
            case round =>
              obtain ⟨q, r, G, rfl, rfl⟩ := hrel
              have Dg := HF2.out
              have hr := G.out.rest
              have hq := G.out.top
              have f2 := Dg.one'
              have f3 := Dg.zero
              have t1 := prod_u64 (a := q) (b := y0)
              have t2 := join_u64 hr Dg.dig
              have t4 := sum_u64 hr f2
              have t5 := pred_u64 (q := q)
              have hy0 : ¬ y1 = 0 := by have := Dg.one; omega
              have hy1 : ¬ (y1 : Int) = 0 := by omega
              by_cases hc : 4294967296 ≤ q
              · have hc' : (q : Int) ≥ 4294967296 := by omega
                have C : 4294967296 ≤ q ∨ 4294967296 * r + d0 < q * y0 := .inl hc
                have hd' : (0 : Int) = 0 := rfl
                have F := guess_pos G.out C
                by_cases hs : 4294967296 ≤ r + y1
                · have hs' : IntKind.u64.wrap ((r : Int) + y1) ≥ 4294967296 := by rw [t4]; omega
                  have e := Dg.out G.out C hs
                  have HM := Lib.hid (show ((q : Int) - 1) = (Q0 : Int) by omega)
                  have HW := Lib.hid (show IntKind.u64.wrap ((q : Int) - 1) = (Q0 : Int) by rw [t5 F hq, e])
                  clear e Dg t1 t2 t4 t5 f2 f3 hr hc hs C
                  go_wp2_with fail
                  first | rw [HW.out] | rw [HM.out]
                  go_ret2
                  exact ⟨⟨_, dret2 ((fin_u64 HF.out.lt HF2.out.lt).trans (by rw [← HQ.out]; rfl)) rfl⟩, 0, rfl⟩
                · have hs' : ¬ IntKind.u64.wrap ((r : Int) + y1) ≥ 4294967296 := by rw [t4]; omega
                  have F4 := Lib.hid (Dg.on G.out C (by omega))
                  have HM := Lib.hid (show ((q : Int) - 1) = ((q - 1 : Nat) : Int) by omega)
                  have HW := Lib.hid (t5 F hq)
                  have HS := Lib.hid t4
                  clear Dg t1 t2 t4 t5 f2 f3 hr hc hs C
                  go_wp2_with fail
                  go_round
                  case rel => exact ⟨q - 1, r + y1, F4, by first | rw [HW.out] | rw [HM.out], by first | rw [HS.out] | rfl⟩
                  case measure => simp [intOf]; omega
              · have hc' : ¬ (q : Int) ≥ 4294967296 := by omega
                have e1 := t1 (by omega) f3
                by_cases hd : 4294967296 * r + d0 < q * y0
                · have hd' : IntKind.u64.wrap ((q : Int) * y0) > IntKind.u64.wrap (IntKind.u64.wrap (4294967296 * (r : Int)) + d0) := by rw [e1, t2]; exact Int.ofNat_lt.mpr hd
                  have C : 4294967296 ≤ q ∨ 4294967296 * r + d0 < q * y0 := .inr hd
                  clear hd e1
                  have F := guess_pos G.out C
                  by_cases hs : 4294967296 ≤ r + y1
                  · have hs' : IntKind.u64.wrap ((r : Int) + y1) ≥ 4294967296 := by rw [t4]; omega
                    have e := Dg.out G.out C hs
                    have HM := Lib.hid (show ((q : Int) - 1) = (Q0 : Int) by omega)
                    have HW := Lib.hid (show IntKind.u64.wrap ((q : Int) - 1) = (Q0 : Int) by rw [t5 F hq, e])
                    clear e Dg t1 t2 t4 t5 f2 f3 hr hc hs C
                    go_wp2_with fail
                    first | rw [HW.out] | rw [HM.out]
                    go_ret2
                    exact ⟨⟨_, dret2 ((fin_u64 HF.out.lt HF2.out.lt).trans (by rw [← HQ.out]; rfl)) rfl⟩, 0, rfl⟩
                  · have hs' : ¬ IntKind.u64.wrap ((r : Int) + y1) ≥ 4294967296 := by rw [t4]; omega
                    have F4 := Lib.hid (Dg.on G.out C (by omega))
                    have HM := Lib.hid (show ((q : Int) - 1) = ((q - 1 : Nat) : Int) by omega)
                    have HW := Lib.hid (t5 F hq)
                    have HS := Lib.hid t4
                    clear Dg t1 t2 t4 t5 f2 f3 hr hc hs C
                    go_wp2_with fail
                    go_round
                    case rel => exact ⟨q - 1, r + y1, F4, by first | rw [HW.out] | rw [HM.out], by first | rw [HS.out] | rfl⟩
                    case measure => simp [intOf]; omega
                · have hd' : ¬ IntKind.u64.wrap ((q : Int) * y0) > IntKind.u64.wrap (IntKind.u64.wrap (4294967296 * (r : Int)) + d0) := by rw [e1, t2]; exact fun x => hd (Int.ofNat_lt.mp x)
                  have E := Lib.hid (Dg.stop G.out hd)
                  clear Dg t1 t2 t4 t5 f2 f3 hr hq hc hd e1
                  go_wp2_with fail
                  rw [E.out]
                  go_ret2
                  exact ⟨⟨_, dret2 ((fin_u64 HF.out.lt HF2.out.lt).trans (by rw [← HQ.out]; rfl)) rfl⟩, 0, rfl⟩
          · have hs' : ¬ IntKind.u64.wrap ((r : Int) + y1) ≥ 4294967296 := by rw [t4]; omega
            have F4 := Lib.hid (Dg.on G.out C (by omega))
            have HM := Lib.hid (show ((q : Int) - 1) = ((q - 1 : Nat) : Int) by omega)
            have HW := Lib.hid (t5 F hq)
            have HS := Lib.hid t4
            clear Dg t1 t2 t4 t5 f2 f3 hr hc hs C
            go_wp2_with fail
            go_round
            case rel => exact ⟨q - 1, r + y1, F4, by first | rw [HW.out] | rw [HM.out], by first | rw [HS.out] | rfl⟩
            case measure => simp [intOf]; omega
        · have hd' : ¬ IntKind.u64.wrap ((q : Int) * y0) > IntKind.u64.wrap (IntKind.u64.wrap (4294967296 * (r : Int)) + d1) := by rw [e1, t2]; exact fun x => hd (Int.ofNat_lt.mp x)
          have E := Lib.hid (Dg.stop G.out hd)
          clear Dg t1 t2 t4 t5 f2 f3 hr hq hc hd e1
          go_wp2_with fail
          rw [E.out]
          rw [E11.out, E12.out, E13.out]
          (try clear G); (try clear E); (try clear hd'); (try clear hc')
          go_loop [18, 16] (fun a b => ∃ q r : Nat, Hid (Guess U d0 y1 y0 q r) ∧ a = .int .u64 q ∧ b = .int .u64 r) (fun a _ => (intOf a).toNat)
          case atStart => exact ⟨U / y1, U % y1, HG2, rfl, rfl⟩
          case round =>
            obtain ⟨q, r, G, rfl, rfl⟩ := hrel
            have Dg := HF2.out
            have hr := G.out.rest
            have hq := G.out.top
            have f2 := Dg.one'
            have f3 := Dg.zero
            have t1 := prod_u64 (a := q) (b := y0)
            have t2 := join_u64 hr Dg.dig
            have t4 := sum_u64 hr f2
            have t5 := pred_u64 (q := q)
            have hy0 : ¬ y1 = 0 := by have := Dg.one; omega
            have hy1 : ¬ (y1 : Int) = 0 := by omega
            by_cases hc : 4294967296 ≤ q
            · have hc' : (q : Int) ≥ 4294967296 := by omega
              have C : 4294967296 ≤ q ∨ 4294967296 * r + d0 < q * y0 := .inl hc
              have hd' : (0 : Int) = 0 := rfl
              have F := guess_pos G.out C
              by_cases hs : 4294967296 ≤ r + y1
              · have hs' : IntKind.u64.wrap ((r : Int) + y1) ≥ 4294967296 := by rw [t4]; omega
                have e := Dg.out G.out C hs
                have HM := Lib.hid (show ((q : Int) - 1) = (Q0 : Int) by omega)
                have HW := Lib.hid (show IntKind.u64.wrap ((q : Int) - 1) = (Q0 : Int) by rw [t5 F hq, e])
                clear e Dg t1 t2 t4 t5 f2 f3 hr hc hs C
                go_wp2_with fail
                first | rw [HW.out] | rw [HM.out]
                go_ret2
                exact ⟨⟨_, dret2 ((fin_u64 HF.out.lt HF2.out.lt).trans (by rw [← HQ.out]; rfl)) rfl⟩, 0, rfl⟩
              · have hs' : ¬ IntKind.u64.wrap ((r : Int) + y1) ≥ 4294967296 := by rw [t4]; omega
                have F4 := Lib.hid (Dg.on G.out C (by omega))
                have HM := Lib.hid (show ((q : Int) - 1) = ((q - 1 : Nat) : Int) by omega)
                have HW := Lib.hid (t5 F hq)
                have HS := Lib.hid t4
                clear Dg t1 t2 t4 t5 f2 f3 hr hc hs C
                go_wp2_with fail
                go_round
                case rel => exact ⟨q - 1, r + y1, F4, by first | rw [HW.out] | rw [HM.out], by first | rw [HS.out] | rfl⟩
                case measure => simp [intOf]; omega
            · have hc' : ¬ (q : Int) ≥ 4294967296 := by omega
              have e1 := t1 (by omega) f3
              by_cases hd : 4294967296 * r + d0 < q * y0
              · have hd' : IntKind.u64.wrap ((q : Int) * y0) > IntKind.u64.wrap (IntKind.u64.wrap (4294967296 * (r : Int)) + d0) := by rw [e1, t2]; exact Int.ofNat_lt.mpr hd
                have C : 4294967296 ≤ q ∨ 4294967296 * r + d0 < q * y0 := .inr hd
                clear hd e1
                have F := guess_pos G.out C
                by_cases hs : 4294967296 ≤ r + y1
                · have hs' : IntKind.u64.wrap ((r : Int) + y1) ≥ 4294967296 := by rw [t4]; omega
                  have e := Dg.out G.out C hs
                  have HM := Lib.hid (show ((q : Int) - 1) = (Q0 : Int) by omega)
                  have HW := Lib.hid (show IntKind.u64.wrap ((q : Int) - 1) = (Q0 : Int) by rw [t5 F hq, e])
                  clear e Dg t1 t2 t4 t5 f2 f3 hr hc hs C
                  go_wp2_with fail
                  first | rw [HW.out] | rw [HM.out]
                  go_ret2
                  exact ⟨⟨_, dret2 ((fin_u64 HF.out.lt HF2.out.lt).trans (by rw [← HQ.out]; rfl)) rfl⟩, 0, rfl⟩
                · have hs' : ¬ IntKind.u64.wrap ((r : Int) + y1) ≥ 4294967296 := by rw [t4]; omega
                  have F4 := Lib.hid (Dg.on G.out C (by omega))
                  have HM := Lib.hid (show ((q : Int) - 1) = ((q - 1 : Nat) : Int) by omega)
                  have HW := Lib.hid (t5 F hq)
                  have HS := Lib.hid t4
                  clear Dg t1 t2 t4 t5 f2 f3 hr hc hs C
                  go_wp2_with fail
                  go_round
                  case rel => exact ⟨q - 1, r + y1, F4, by first | rw [HW.out] | rw [HM.out], by first | rw [HS.out] | rfl⟩
                  case measure => simp [intOf]; omega
              · have hd' : ¬ IntKind.u64.wrap ((q : Int) * y0) > IntKind.u64.wrap (IntKind.u64.wrap (4294967296 * (r : Int)) + d0) := by rw [e1, t2]; exact fun x => hd (Int.ofNat_lt.mp x)
                have E := Lib.hid (Dg.stop G.out hd)
                clear Dg t1 t2 t4 t5 f2 f3 hr hq hc hd e1
                go_wp2_with fail
                rw [E.out]
                go_ret2
                exact ⟨⟨_, dret2 ((fin_u64 HF.out.lt HF2.out.lt).trans (by rw [← HQ.out]; rfl)) rfl⟩, 0, rfl⟩
end Go.Proofs.YtncpioakggaehaaDoor
