/- The walk of CumulFair: it answers true for every input, and leaves all old blocks as they were. No condition. -/
import Derived.Test.YtkepplkfjcoemabRows
import Derived.Test.YtkepplkfjcoemabRowKit
import Derived.Test.YtkepplkfjcoemabSlicesEq
import Derived.Test.YtkepplkfjcoemabSlicesEqM
import Derived.Test.YtkepplkfjcoemabRowL
import Derived.Test.YtkepplkfjcoemabCumulMath
import Derived.Test.YtkepplkfjcoemabCumulFM
import Derived.Test.YtkepplkfjcoemabCumulA
import Derived.Test.YtkepplkfjcoemabCumulB
import Derived.Test.YtkepplkfjcoemabCumulC
import Derived.Test.YtkepplkfjcoemabSorted
import Derived.Test.YtkepplkfjcoemabCumulS
import Derived.WalkKit
import Derived.ProofKit
import Derived.OpenShut
import Derived.Deep.QuietTactic
import Derived.BigQuiet
import Derived.Lib.SmallJoins
import Derived.Lib.Hide
import Derived.WalkSpells
import Derived.WalkLawsBesides
import Derived.IntWalk
namespace Go.Proofs.Ytkepplkfjcoemab.cumulFair
open Go.ChangeShapes Go.WideShapes Go.ChangeAt Go.RowKit Go.Joins
set_option linter.unusedSimpArgs false
set_option linter.unusedVariables false

theorem wrap00 : IntKind.u64.wrap 0 = 0 := by rw [IntKind.wrap_u64]; rfl
/-- the row of a table -/
def tz (r n : Nat) : List Int := rowL (tbI r n) n
theorem tz_len (r n : Nat) : (tz r n).length = n := rowL_len _ _
theorem tz_at {r n k : Nat} (h : k < n) : zat (tz r n) k = tbI r n k := rowL_at _ h
theorem tb_step {r n k : Nat} (h : k + 1 < n) : tbI r n k ≤ tbI r n (k + 1) := by
  have := tbv_mono 4294967296 67108864 r n (show k ≤ k + 1 by omega)
  unfold tbI; omega
theorem tb_end {r n : Nat} (h : Cnt r n) : tbI r n (n - 1) = 4294967296 := by
  unfold tbI; rw [tbv_last 4294967296 67108864 r n h.n1 h.h0]; rfl
theorem u64_same {x : Int} (h0 : 0 ≤ x) (h1 : x < 18446744073709551616) : IntKind.u64.wrap x = x := by
  rw [IntKind.wrap_u64]; exact Int.emod_eq_of_lt h0 h1
theorem sh_zero {r n : Nat} (h : Cnt r n) : shN (tz r n) 0 = tbI r n 0 := tz_at h.n1
theorem sh_more {r n k : Nat} (h : Cnt r n) (hk : k + 1 < n) : shN (tz r n) (k + 1) = tbI r n (k + 1) - tbI r n k := by
  show IntKind.u64.wrap (zat (tz r n) (k + 1) - zat (tz r n) k) = _
  rw [tz_at hk, tz_at (show k < n by omega)]
  have h1 := tb_step (r := r) hk
  have h2 := tbI_bd h hk
  have h3 := tbI_bd h (show k < n by omega)
  exact u64_same (by omega) (by omega)
def tsI (r n k : Nat) : Int := (tsum 4294967296 67108864 r n k : Nat)
theorem ts_step (r n k : Nat) : tsI r n (k + 1) = tsI r n k + tbI r n k := by unfold tsI tbI; show ((tsum _ _ r n k + tbv _ _ r n k : Nat) : Int) = _; omega
/-- what the first places mean, by parts -/
theorem mn_tab {r n : Nat} (h : Cnt r n) : ∀ k, k < n → mnV (tz r n) (k + 1) = k * tbI r n k - tsI r n k ∧ 0 ≤ k * tbI r n k - tsI r n k ∧ k * tbI r n k - tsI r n k ≤ k * 4294967296
  | 0, _ => by
    have e : tsI r n 0 = 0 := rfl
    refine ⟨?_, ?_, ?_⟩
    · rw [mnV_succ, e]
      show IntKind.u64.wrap (0 + IntKind.u64.wrap ((0 : Nat) * shN (tz r n) 0)) = _
      simp [wrap00]
    · rw [e]; simp
    · rw [e]; simp
  | k + 1, hk => by
    obtain ⟨e1, e2, e3⟩ := mn_tab h k (by omega)
    have s1 := tb_step (r := r) hk
    have b1 := tbI_bd h hk
    have b0 := tbI_bd h (show k < n by omega)
    have hn := h.n2
    have t0 : 0 ≤ tsI r n k := by unfold tsI; omega
    rw [mnV_succ, e1, sh_more h hk, ts_step]
    generalize tbI r n (k + 1) = y at *
    generalize tbI r n k = x at *
    generalize tsI r n k = t at *
    have m1 : (k : Int) * x ≤ k * y := Int.mul_le_mul_of_nonneg_left s1 (by omega)
    have m2 : (k : Int) * y ≤ k * 4294967296 := Int.mul_le_mul_of_nonneg_left b1.2 (by omega)
    have m0 : 0 ≤ (k : Int) * x := Int.mul_nonneg (by omega) b0.1
    have p1 : ((k + 1 : Nat) : Int) * (y - x) = k * y - k * x + (y - x) := by rw [Int.natCast_add, Int.add_mul, Int.mul_sub]; simp
    have p2 : ((k + 1 : Nat) : Int) * y = k * y + y := by rw [Int.natCast_add, Int.add_mul]; simp
    rw [p1, p2]
    generalize (k : Int) * x = a at *
    generalize (k : Int) * y = b at *
    have k40 : (k : Int) ≤ 40 := by omega
    rw [u64_same (x := b - a + (y - x)) (by omega) (by omega), u64_same (by omega) (by omega)]
    refine ⟨by omega, by omega, by omega⟩
theorem mn_all {r n : Nat} (h : Cnt r n) : mnV (tz r n) n = n * 4294967296 - tsI r n n := by
  obtain ⟨m, rfl⟩ : ∃ m, n = m + 1 := ⟨n - 1, by have := h.n1; omega⟩
  rw [(mn_tab h m (by omega)).1, ts_step]
  have e := tb_end h
  rw [Nat.add_sub_cancel] at e
  rw [e]; omega
theorem mn_fair {r n : Nat} (h : Cnt r n) : 0 ≤ mnV (tz r n) n ∧ mnV (tz r n) n ≤ 171798691840 ∧ 1000 * mnV (tz r n) n ≤ r * 4294967296 + 4294967296 ∧ (r : Int) * 4294967296 ≤ 1000 * mnV (tz r n) n + 4294967296 := by
  have f := fair_at h.hr h.n1 h.n2 h.hz h.hp
  have g := mn_tab h (n - 1) (by have := h.n1; omega)
  rw [show n - 1 + 1 = n by have := h.n1; omega] at g
  have e := mn_all h
  rw [← g.1] at g
  have hn := h.n2
  have hn1 := h.n1
  unfold tsI at e
  refine ⟨g.2.1, ?_, ?_, ?_⟩
  · have := g.2.2; omega
  · have := g.2.1; omega
  · have := g.2.1; omega
theorem tz_rise {r n : Nat} (h : Cnt r n) : Rise (tz r n) := by
  intro i hi
  rw [tz_len] at hi
  rw [tz_at hi, tz_at (show i < n by omega)]
  exact tb_step hi
theorem tz_right {r n : Nat} (h : Cnt r n) : rightV (tz r n) = true := by
  obtain ⟨m, rfl⟩ : ∃ m, n = m + 1 := ⟨n - 1, by have := h.n1; omega⟩
  have e := tb_end h
  rw [Nat.add_sub_cancel] at e
  exact rightV_yes (tz_len r (m + 1)) (tz_rise h) (by rw [tz_at (by omega)]; exact e)
/-- the shares of the first k places, together -/
def suV (r n : Nat) : Nat → Int
  | 0 => 0
  | k + 1 => tbI r n k
theorem su_step {r n k : Nat} (h : Cnt r n) (hk : k < n) : suV r n k + shN (tz r n) k = suV r n (k + 1) ∧ 0 ≤ suV r n k ∧ suV r n k ≤ 4294967296 ∧ 0 ≤ suV r n (k + 1) ∧ suV r n (k + 1) ≤ 4294967296 := by
  rcases k with _ | j
  · rw [sh_zero h]
    have := tbI_bd h hk
    show 0 + tbI r n 0 = tbI r n 0 ∧ (0 : Int) ≤ 0 ∧ (0 : Int) ≤ 4294967296 ∧ 0 ≤ tbI r n 0 ∧ tbI r n 0 ≤ 4294967296
    omega
  · rw [sh_more h hk]
    have h1 := tbI_bd h hk
    have h2 := tbI_bd h (show j < n by omega)
    show tbI r n j + (tbI r n (j + 1) - tbI r n j) = tbI r n (j + 1) ∧ 0 ≤ tbI r n j ∧ tbI r n j ≤ 4294967296 ∧ 0 ≤ tbI r n (j + 1) ∧ tbI r n (j + 1) ≤ 4294967296
    omega
theorem su_all {r n : Nat} (h : Cnt r n) : suV r n n = 4294967296 := by
  obtain ⟨m, rfl⟩ : ∃ m, n = m + 1 := ⟨n - 1, by have := h.n1; omega⟩
  have e := tb_end h
  rwa [Nat.add_sub_cancel] at e
theorem to_w {P : Program} {f : FuncId} {args : Array Value} {w : World} {q : Nat} {v : Value} (h : Calls P f args (w.drewN q) fun e w' => e = .returned v ∧ ∃ k, w' = (w.drewN q).drewN k) : Calls P f args (w.drewN q) fun e w' => e = .returned v ∧ ∃ k, w' = w.drewN k :=
  h.mono fun _ _ ⟨a, k, b⟩ => ⟨a, q + k, by rw [b, World.drewN_drewN]⟩
theorem calls_n {A : Option Addr} {c r n : Nat} {w : World} (h : Cnt r n) (hr : RdI w .u64 A (tz r n)) (q : Nat) :
    (Calls Try.prog 28 #[.slice A n c] (w.drewN q) fun e w' => e = .returned (.bool true) ∧ ∃ k, w' = w.drewN k) ∧
    (∀ k : Nat, k < n → Calls Try.prog 30 #[.slice A n c, .int .i64 k] (w.drewN q) fun e w' => e = .returned (.int .u64 (shN (tz r n) k)) ∧ ∃ k, w' = w.drewN k) ∧
    (Calls Try.prog 31 #[.slice A n c] (w.drewN q) fun e w' => e = .returned (.int .u64 (mnV (tz r n) n)) ∧ ∃ k, w' = w.drewN k) := by
  have L := tz_len r n
  have hl : (tz r n).length ≤ 1000 := by rw [L]; have := h.n2; omega
  have a1 := to_w (right_any A c (tz r n) (w.drewN q) hr hl)
  have a3 := to_w (mean_any A c (tz r n) (w.drewN q) hr hl)
  rw [tz_right h, L] at a1
  rw [L] at a3
  refine ⟨a1, fun k hk => ?_, a3⟩
  have a2 := to_w (share_any A c (tz r n) k (w.drewN q) hr hl)
  rw [shV_in (by rw [L]; exact hk), L] at a2
  exact a2
set_option maxHeartbeats 1000000 in
theorem walk_out (r : Int) (w : World) (h : r < 0 ∨ 4000 < r) :
    Calls Try.prog 7 #[.int .i64 r] w fun e w' => e = .returned (.bool true) ∧ Below w.heap.size w w' := by
  by_cases h0 : r < 0
  · clear h
    go_enter Try.func7, Try.ntmps7
    go_wp2_with fail
    go_ret
    exact ⟨rfl, Below.refl _ _⟩
  · have h1 : 4000 < r := by omega
    clear h
    go_enter Try.func7, Try.ntmps7
    go_wp2_with fail
    go_ret
    exact ⟨rfl, Below.refl _ _⟩
set_option maxRecDepth 100000 in
set_option maxHeartbeats 2000000 in
theorem walk_in (r n : Nat) (R m : Int) (w : World) (h : Cnt r n) (hR : (r : Int) = R) (hm : mnV (tz r n) n = m) (m0 : 0 ≤ m) (m1 : m ≤ 171798691840) (f1 : 1000 * m ≤ R * 4294967296 + 4294967296) (f2 : R * 4294967296 ≤ 1000 * m + 4294967296) :
    Calls Try.prog 7 #[.int .i64 R] w fun e w' => e = .returned (.bool true) ∧ Below w.heap.size w w' := by
  have HT := table_rd h w
  rw [hR] at HT
  have HT := Lib.hid HT
  have H := Lib.hid h
  have HM := Lib.hid hm
  have r0 : 0 ≤ R := by omega
  have r1 : R ≤ 4000 := by have := h.hr; omega
  have n1 := h.n1
  have n2 := h.n2
  have S0 : Hid (suV r n 0 = 0) := Lib.hid rfl
  have SA := Lib.hid (su_all h)
  clear h hR hm
  go_enter Try.func7, Try.ntmps7
  go_wp2_with fail
  refine HT.out.mono ?_
  rintro e w1 ⟨A, c, rfl, hR, hb⟩
  have HC := Lib.hid (fun q => calls_n (c := c) H.out hR q)
  have HB := Lib.hid hb
  clear hR hb
  go_wp2_with fail
  have HR0 : Calls Try.prog 28 #[.slice A n c] w1 fun e w' => e = .returned (.bool true) ∧ ∃ k, w' = w1.drewN k := (HC.out 0).1
  refine HR0.mono ?_
  rintro e w' ⟨rfl, q, rfl⟩
  clear HR0
  go_wp2_with fail
  go_loopw [5, 6] (fun s i wr => ∃ k : Nat, k ≤ n ∧ i = .int .i64 k ∧ s = .int .u64 (suV r n k) ∧ ∃ q, wr = w1.drewN q) (fun _ i _ => n - (intOf i).toNat)
  case atStart => exact ⟨0, by omega, rfl, by rw [S0.out], q, rfl⟩
  case round =>
    obtain ⟨k, hk, rfl, rfl, q2, rfl⟩ := hrel
    by_cases hkn : k < n
    · obtain ⟨e1, e2, e3, e4, e5⟩ := su_step H.out hkn
      have HS := Lib.hid ((HC.out q2).2.1 k hkn)
      obtain ⟨x, hx⟩ : ∃ x, shN (tz r n) k = x := ⟨_, rfl⟩
      obtain ⟨y, hy⟩ : ∃ y, suV r n k = y := ⟨_, rfl⟩
      obtain ⟨z, hz⟩ : ∃ z, suV r n (k + 1) = z := ⟨_, rfl⟩
      have HZ := Lib.hid hz
      rw [hx, hy, hz] at e1
      rw [hy] at e2 e3
      rw [hz] at e4 e5
      rw [hx] at HS
      rw [hy]
      clear hx hy hz
      go_wp2_with (go_at_call 30; refine HS.out.mono ?_; rintro e w' ⟨rfl, q3, rfl⟩)
      go_roundw
      case rel => exact ⟨k + 1, by omega, by go_num, by rw [HZ.out], q3, rfl⟩
      case measure => simp [intOf]; omega
    · obtain rfl : k = n := by omega
      have HMn := (HC.out q2).2.2
      rw [HM.out] at HMn
      have HMn := Lib.hid HMn
      rw [SA.out]
      rcases Int.lt_trichotomy (1000 * m) (R * 4294967296) with hc | hc | hc
      · have x1 : max (1000 * m) (R * 4294967296) = R * 4294967296 := by omega
        have x2 : min (1000 * m) (R * 4294967296) = 1000 * m := by omega
        have x3 : ¬ R * 4294967296 ≤ 1000 * m := by omega
        have x4 : 1000 * m ≤ R * 4294967296 := by omega
        go_wp2_with (first
          | (go_at_call 31; refine HMn.out.mono ?_; rintro e w' ⟨rfl, q3, rfl⟩)
          | (go_at_call 24; refine (cualive _).mono ?_; rintro e w2 ⟨rfl, hb2⟩))
        go_ret
        exact ⟨rfl, (below_drewN HB.out q3).trans (hb2.mono HB.out.size)⟩
      · have x1 : max (1000 * m) (R * 4294967296) = R * 4294967296 := by omega
        have x2 : min (1000 * m) (R * 4294967296) = R * 4294967296 := by omega
        have x4 : 1000 * m ≤ R * 4294967296 := by omega
        have x3 : R * 4294967296 ≤ 1000 * m := by omega
        clear hc
        go_wp2_with (first
          | (go_at_call 31; refine HMn.out.mono ?_; rintro e w' ⟨rfl, q3, rfl⟩)
          | (go_at_call 24; refine (cualive _).mono ?_; rintro e w2 ⟨rfl, hb2⟩))
        all_goals
          go_ret
          exact ⟨rfl, (below_drewN HB.out q3).trans (hb2.mono HB.out.size)⟩
      · have x1 : max (1000 * m) (R * 4294967296) = 1000 * m := by omega
        have x2 : min (1000 * m) (R * 4294967296) = R * 4294967296 := by omega
        have x3 : ¬ 1000 * m ≤ R * 4294967296 := by omega
        have x4 : R * 4294967296 ≤ 1000 * m := by omega
        go_wp2_with (first
          | (go_at_call 31; refine HMn.out.mono ?_; rintro e w' ⟨rfl, q3, rfl⟩)
          | (go_at_call 24; refine (cualive _).mono ?_; rintro e w2 ⟨rfl, hb2⟩))
        go_ret
        exact ⟨rfl, (below_drewN HB.out q3).trans (hb2.mono HB.out.size)⟩
theorem walk {r : Int} (w0 : (Lit.int .i64 r).wf = true) (w : World) :
    Calls Try.prog 7 #[.int .i64 r] w fun e w' => e = .returned (.bool true) ∧ Below w.heap.size w w' := by
  by_cases h : r < 0 ∨ 4000 < r
  · exact walk_out r w h
  · obtain ⟨k, rfl⟩ := Int.eq_ofNat_of_zero_le (show 0 ≤ r by omega)
    obtain ⟨n, hn⟩ := cnt_ex (r := k) (by omega)
    obtain ⟨a, b, c, d⟩ := mn_fair hn
    exact walk_in k n k _ w hn rfl rfl a b c d

end Go.Proofs.Ytkepplkfjcoemab.cumulFair
