/- Contracts of frac.Hundredths and of the document's: a quotient in hundredths, rounded down. -/
import Derived.Test.YtbbcohgkiejhjabDoorRows
import Derived.Test.YtbbcohgkiejhjabDoorRowKit
import Derived.Test.YtbbcohgkiejhjabDoorNumsMath
import Derived.Test.YtbbcohgkiejhjabDoorNumsA
import Derived.Test.YtbbcohgkiejhjabDoorNumsB
import Derived.Test.YtbbcohgkiejhjabDoorDivMath
import Derived.Test.YtbbcohgkiejhjabDoorDivA
import Derived.Test.YtbbcohgkiejhjabDoorDivB
import Derived.Test.YtbbcohgkiejhjabDoorDivC
import Derived.Test.YtbbcohgkiejhjabDoorFracA
import Derived.WalkKit
import Derived.Lib.Hide
import Derived.WalkSpells
import Derived.WalkLawsBesides
import Derived.Deep.QuietTactic
import Derived.BigQuiet
namespace Go.Proofs.YtbbcohgkiejhjabDoor
open Go.RowKit
set_option linter.unusedSimpArgs false
set_option linter.unusedVariables false
/-- what is answered: the hundredths, and the error -/
def hdV (a b c : Int) : Int := if 0 ≤ a ∧ 0 ≤ b ∧ b < c then fitN (a * 100 + b * 100 / c) else 0
def hdE (a b c : Int) : Int := if 0 ≤ a ∧ 0 ≤ b ∧ b < c then fitE (a * 100 + b * 100 / c) else 22
theorem hd_no {a b c : Int} (h : ¬ (0 ≤ a ∧ 0 ≤ b ∧ b < c)) : hdV a b c = 0 ∧ hdE a b c = 22 := by
  unfold hdV hdE; rw [if_neg h, if_neg h]; exact ⟨rfl, rfl⟩
theorem hd_yes {a b c : Int} (h : 0 ≤ a ∧ 0 ≤ b ∧ b < c) : hdV a b c = fitN (a * 100 + b * 100 / c) ∧ hdE a b c = fitE (a * 100 + b * 100 / c) := by
  unfold hdV hdE; rw [if_pos h, if_pos h]; exact ⟨rfl, rfl⟩
theorem hund_q {b c : Nat} (h : b < c) : b * 100 / c < 100 := by
  rw [Nat.div_lt_iff_lt_mul (by omega), Nat.mul_comm 100]; omega
theorem one_block {w w1 : World} {c : Array Value} {t : TypeId} (hb : Below (w.alloc (.cells c t)).heap.size (w.alloc (.cells c t)) w1) :
    w1.heap[w.heap.size]? = some (.cells c t) ∧ w.heap.size + 1 ≤ w1.heap.size ∧ Below w.heap.size w w1 :=
  ⟨(hb.block w.heap.size (by simp)).trans (heap_alloc_last w _), by have := hb.size; simpa using this, ((Below.refl _ _).alloc (Nat.le_refl _) _).trans (hb.mono (by simp))⟩
set_option maxHeartbeats 400000 in
theorem hund_no (a b c : Int) (w : World) (h : ¬ (0 ≤ a ∧ 0 ≤ b ∧ b < c)) :
    Calls Tryd.prog 16 #[.agg #[.int .i64 a, .int .i64 b, .int .i64 c]] w fun e w' => e = .returned (.tuple #[.int .i64 (hdV a b c), .int .i64 (hdE a b c)]) ∧ Below w.heap.size w w' := by
  have M := Lib.hid (hd_no h)
  have H := Lib.hid h
  clear h
  go_enter Tryd.func16, Tryd.ntmps16
  go_wp2_with fail
  refine (right_no _ _ _ _ H.out).mono ?_
  rintro e w1 ⟨rfl, hb1⟩
  go_wp2_with fail
  go_ret2
  exact ⟨ret_two M.out, ((Below.refl _ _).alloc (Nat.le_refl _) _).trans (hb1.mono (by simp))⟩
set_option maxHeartbeats 800000 in
theorem hund_yes (a b c : Nat) (w : World) (h1 : b < c) (h2 : c ≤ 9223372036854775807) (h3 : a ≤ 9223372036854775807) :
    Calls Tryd.prog 16 #[.agg #[.int .i64 a, .int .i64 b, .int .i64 c]] w fun e w' => e = .returned (.tuple #[.int .i64 (hdV a b c), .int .i64 (hdE a b c)]) ∧ Below w.heap.size w w' := by
  have Y := hd_yes (a := a) (b := b) (c := c) ⟨by omega, by omega, by omega⟩
  have q1 := hund_q h1
  have md : mdV (b : Int) 100 c = fitN ((b * 100 / c : Nat) : Int) ∧ mdE (b : Int) 100 c = fitE ((b * 100 / c : Nat) : Int) := md_nat b 100 c (by omega)
  rw [show ((b : Int) * 100 / c) = ((b * 100 / c : Nat) : Int) from rfl] at Y
  have MD := fun w => muldiv_any (b : Int) 100 c w (by omega) (by omega) (by omega) (by omega) (by omega) (by omega)
  rw [md.1, md.2] at MD
  generalize b * 100 / c = q at Y q1 MD md
  rw [(fit_yes (n := (q : Int)) ⟨by omega, by omega⟩).1, (fit_yes (n := (q : Int)) ⟨by omega, by omega⟩).2] at MD
  by_cases hf : (a : Int) * 100 ≤ 9223372036854775807
  · have M := fun w => mul_ok (a : Int) 100 ((a : Int) * 100) w (by omega) (by omega) (by omega) (by omega) rfl ⟨by omega, hf⟩
    generalize hA : (a : Int) * 100 = A at M Y hf
    have A0 : 0 ≤ A := by omega
    have AD := fun w => add_any A q w (by omega) hf (by omega) (by omega)
    have HY := Lib.hid Y
    have HM := Lib.hid M
    have HD := Lib.hid MD
    have HA := Lib.hid AD
    have HR := Lib.hid (fun w => right_yes (a : Int) b c w (by omega) (by omega) (by omega))
    clear Y M MD AD md hf hA q1 h2 h3
    go_enter Tryd.func16, Tryd.ntmps16
    go_wp2_with fail
    refine (HR.out _).mono ?_
    rintro e w1 ⟨rfl, hb1⟩
    obtain ⟨g1, hz, hb⟩ := one_block hb1
    clear hb1
    have k0 := blk_cell g1 0
    have k1 := blk_cell g1 1
    have k2 := blk_cell g1 2
    have H1 := Lib.hid g1
    clear g1
    simp at k0 k1 k2
    have z1 : ((0 : Int) != 0) = false := rfl
    go_wp2_with (first
      | (go_at_call 30; refine (HM.out _).mono ?_; rintro e w' ⟨rfl, rfl⟩)
      | (go_at_call 31; refine (HD.out _).mono ?_; rintro e w' ⟨rfl, k, rfl⟩)
      | (go_at_call 32; refine (HA.out _).mono ?_; rintro e w' ⟨rfl, rfl⟩))
    go_ret2
    exact ⟨ret_two HY.out, below_drewN hb _⟩
  · have hf' : 9223372036854775807 < (a : Int) * 100 := by omega
    have M := fun w => mul_no (a : Int) 100 ((a : Int) * 100) w (by omega) (by omega) (by omega) (by omega) rfl (.inr hf')
    have N := fit_no (n := (a : Int) * 100 + q) (.inr (by omega))
    rw [N.1, N.2] at Y
    have HY := Lib.hid Y
    have HM := Lib.hid M
    have HR := Lib.hid (fun w => right_yes (a : Int) b c w (by omega) (by omega) (by omega))
    clear Y M MD md hf hf' q1 h2 h3 N
    go_enter Tryd.func16, Tryd.ntmps16
    go_wp2_with fail
    refine (HR.out _).mono ?_
    rintro e w1 ⟨rfl, hb1⟩
    obtain ⟨g1, hz, hb⟩ := one_block hb1
    clear hb1
    have k0 := blk_cell g1 0
    have k1 := blk_cell g1 1
    have k2 := blk_cell g1 2
    have H1 := Lib.hid g1
    clear g1
    simp at k0 k1 k2
    go_wp2_with (first
      | (go_at_call 30; refine (HM.out _).mono ?_; rintro e w' ⟨rfl, rfl⟩))
    go_ret2
    exact ⟨ret_two HY.out, hb⟩
set_option maxHeartbeats 400000 in
theorem rhund_no (a b c : Int) (w : World) (h : ¬ (0 ≤ a ∧ 0 ≤ b ∧ b < c)) :
    Calls Tryd.prog 17 #[.agg #[.int .i64 a, .int .i64 b, .int .i64 c]] w fun e w' => e = .returned (.tuple #[.int .i64 (hdV a b c), .int .i64 (hdE a b c)]) ∧ Below w.heap.size w w' := by
  have M := Lib.hid (hd_no h)
  have H := Lib.hid h
  clear h
  go_enter Tryd.func17, Tryd.ntmps17
  go_wp2_with fail
  refine (rright_no _ _ _ _ H.out).mono ?_
  rintro e w1 ⟨rfl, hb1⟩
  go_wp2_with fail
  go_ret2
  exact ⟨ret_two M.out, ((Below.refl _ _).alloc (Nat.le_refl _) _).trans (hb1.mono (by simp))⟩
theorem hi_lt {b c : Nat} (h : b < c) (h2 : c ≤ 9223372036854775807) : b * 100 / 18446744073709551616 < c := by
  rw [Nat.div_lt_iff_lt_mul (by decide)]; omega
set_option maxHeartbeats 800000 in
theorem rhund_yes (a b c : Nat) (w : World) (h1 : b < c) (h2 : c ≤ 9223372036854775807) (h3 : a ≤ 9223372036854775807) :
    Calls Tryd.prog 17 #[.agg #[.int .i64 a, .int .i64 b, .int .i64 c]] w fun e w' => e = .returned (.tuple #[.int .i64 (hdV a b c), .int .i64 (hdE a b c)]) ∧ Below w.heap.size w w' := by
  have Y := hd_yes (a := a) (b := b) (c := c) ⟨by omega, by omega, by omega⟩
  have q1 := hund_q h1
  rw [show ((b : Int) * 100 / c) = ((b * 100 / c : Nat) : Int) from rfl] at Y
  have T := fun w => times_any b 100 w (by omega) (by omega)
  have O := fun w => over_any (b * 100 / 18446744073709551616) (b * 100 % 18446744073709551616) c w (hi_lt h1 h2) (Nat.mod_lt _ (by decide)) h2
  rw [q_join] at O
  generalize b * 100 / c = q at Y q1 O
  generalize b * 100 / 18446744073709551616 = th at T O
  generalize b * 100 % 18446744073709551616 = tl at T O
  generalize (th * 18446744073709551616 + tl) % c = r at O
  have HT := Lib.hid T
  have HO := Lib.hid O
  have HR := Lib.hid (fun w => rright_yes (a : Int) b c w (by omega) (by omega) (by omega))
  have e1 : IntKind.u64.wrap (b : Int) = b := by rw [IntKind.wrap_u64]; omega
  have e2 : IntKind.u64.wrap (c : Int) = c := by rw [IntKind.wrap_u64]; omega
  have e3 : IntKind.i64.wrap (q : Int) = q := by rw [IntKind.wrap_i64]; omega
  by_cases hf : (a : Int) * 100 ≤ 9223372036854775807
  · have M := fun w => rmul_ok (a : Int) 100 ((a : Int) * 100) w (by omega) (by omega) (by omega) (by omega) rfl ⟨by omega, hf⟩
    generalize hA : (a : Int) * 100 = A at M Y hf
    have A0 : 0 ≤ A := by omega
    have AD := fun w => radd_any A q w (by omega) hf (by omega) (by omega)
    by_cases hg : A + q ≤ 9223372036854775807
    · have N := fit_yes (n := A + q) ⟨by omega, hg⟩
      rw [N.1, N.2] at Y
      rw [N.1, fitB_yes ⟨by omega, hg⟩] at AD
      have HY := Lib.hid Y
      have HM := Lib.hid M
      have HA := Lib.hid AD
      clear Y M T O AD hf hA h2 h3 hg N h1
      go_enter Tryd.func17, Tryd.ntmps17
      go_wp2_with fail
      refine (HR.out _).mono ?_
      rintro e w1 ⟨rfl, hb1⟩
      obtain ⟨g1, hz, hb⟩ := one_block hb1
      clear hb1
      have k0 := blk_cell g1 0
      have k1 := blk_cell g1 1
      have k2 := blk_cell g1 2
      have H1 := Lib.hid g1
      clear g1
      simp at k0 k1 k2
      go_wp2_with (first
        | (go_at_call 29; refine (HT.out _).mono ?_; rintro e w' ⟨rfl, rfl⟩)
        | (go_at_call 33; refine (HO.out _).mono ?_; rintro e w' ⟨rfl, k, rfl⟩)
        | (go_at_call 34; refine (HM.out _).mono ?_; rintro e w' ⟨rfl, rfl⟩)
        | (go_at_call 22; refine (HA.out _).mono ?_; rintro e w' ⟨rfl, rfl⟩))
      go_ret2
      exact ⟨ret_two HY.out, below_drewN hb _⟩
    · have N := fit_no (n := A + q) (.inr (by omega))
      rw [N.1, N.2] at Y
      rw [N.1, fitB_no (.inr (by omega))] at AD
      have HY := Lib.hid Y
      have HM := Lib.hid M
      have HA := Lib.hid AD
      clear Y M T O AD hf hA h2 h3 hg N h1
      go_enter Tryd.func17, Tryd.ntmps17
      go_wp2_with fail
      refine (HR.out _).mono ?_
      rintro e w1 ⟨rfl, hb1⟩
      obtain ⟨g1, hz, hb⟩ := one_block hb1
      clear hb1
      have k0 := blk_cell g1 0
      have k1 := blk_cell g1 1
      have k2 := blk_cell g1 2
      have H1 := Lib.hid g1
      clear g1
      simp at k0 k1 k2
      go_wp2_with (first
        | (go_at_call 29; refine (HT.out _).mono ?_; rintro e w' ⟨rfl, rfl⟩)
        | (go_at_call 33; refine (HO.out _).mono ?_; rintro e w' ⟨rfl, k, rfl⟩)
        | (go_at_call 34; refine (HM.out _).mono ?_; rintro e w' ⟨rfl, rfl⟩)
        | (go_at_call 22; refine (HA.out _).mono ?_; rintro e w' ⟨rfl, rfl⟩))
      go_ret2
      exact ⟨ret_two HY.out, below_drewN hb _⟩
  · have hf' : 9223372036854775807 < (a : Int) * 100 := by omega
    have M := fun w => rmul_no (a : Int) 100 ((a : Int) * 100) w (by omega) (by omega) (by omega) (by omega) rfl (.inr hf')
    have N := fit_no (n := (a : Int) * 100 + q) (.inr (by omega))
    rw [N.1, N.2] at Y
    have HY := Lib.hid Y
    have HM := Lib.hid M
    clear Y M T O hf hf' h2 h3 N h1
    go_enter Tryd.func17, Tryd.ntmps17
    go_wp2_with fail
    refine (HR.out _).mono ?_
    rintro e w1 ⟨rfl, hb1⟩
    obtain ⟨g1, hz, hb⟩ := one_block hb1
    clear hb1
    have k0 := blk_cell g1 0
    have k1 := blk_cell g1 1
    have k2 := blk_cell g1 2
    have H1 := Lib.hid g1
    clear g1
    simp at k0 k1 k2
    go_wp2_with (first
      | (go_at_call 29; refine (HT.out _).mono ?_; rintro e w' ⟨rfl, rfl⟩)
      | (go_at_call 33; refine (HO.out _).mono ?_; rintro e w' ⟨rfl, k, rfl⟩)
      | (go_at_call 34; refine (HM.out _).mono ?_; rintro e w' ⟨rfl, rfl⟩))
    go_ret2
    exact ⟨ret_two HY.out, below_drewN hb _⟩
end Go.Proofs.YtbbcohgkiejhjabDoor
