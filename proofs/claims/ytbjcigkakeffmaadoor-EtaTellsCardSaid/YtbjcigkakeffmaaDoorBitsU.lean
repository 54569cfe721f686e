/- Contracts of the sets: Next, Prev at any set and number. -/
import Derived.Test.YtbjcigkakeffmaaDoorRows
import Derived.Test.YtbjcigkakeffmaaDoorKitM
import Derived.Test.YtbjcigkakeffmaaDoorShelf
import Derived.Test.YtbjcigkakeffmaaDoorBitM
import Derived.Test.YtbjcigkakeffmaaDoorBitsL
import Derived.Shelf.Spec.TrailingZeros
import Derived.Lib.ItoaNum
import Derived.WalkKit
import Derived.IntWalk
import Derived.Lib.Hide
import Derived.Lib.LaidTab
import Derived.WalkSpells
import Derived.WalkLawsBesides
import Derived.Laws.CopyOwn
import Derived.Deep.QuietTactic
import Derived.BigQuiet
namespace Go.Proofs.YtbjcigkakeffmaaDoor
open Go.RowKit
set_option linter.unusedSimpArgs false
set_option linter.unusedVariables false
/-- the least number of a set, or that there is none; the greatest one -/
def IsLo (G : Nat → Bool) (r : Int) (b : Bool) : Prop := (b = true ∧ ∃ m : Nat, r = m ∧ m < 128 ∧ G m = true ∧ ∀ j, j < m → G j = false) ∨ (b = false ∧ r = 0 ∧ ∀ j, j < 128 → G j = false)
def IsHi (G : Nat → Bool) (r : Int) (b : Bool) : Prop := (b = true ∧ ∃ m : Nat, r = m ∧ m < 128 ∧ G m = true ∧ ∀ j, m < j → j < 128 → G j = false) ∨ (b = false ∧ r = 0 ∧ ∀ j, j < 128 → G j = false)
theorem IsLo.same {G : Nat → Bool} {r r' : Int} {b b' : Bool} (h : IsLo G r b) (h' : IsLo G r' b') : r = r' ∧ b = b' := by
  rcases h with ⟨rfl, m, rfl, hm, g, l⟩ | ⟨rfl, rfl, n⟩ <;> rcases h' with ⟨rfl, m', rfl, hm', g', l'⟩ | ⟨rfl, rfl, n'⟩
  · rcases Nat.lt_trichotomy m m' with h | rfl | h
    · rw [l' _ h] at g; cases g
    · exact ⟨rfl, rfl⟩
    · rw [l _ h] at g'; cases g'
  · rw [n' _ hm] at g; cases g
  · rw [n _ hm'] at g'; cases g'
  · exact ⟨rfl, rfl⟩
theorem IsHi.same {G : Nat → Bool} {r r' : Int} {b b' : Bool} (h : IsHi G r b) (h' : IsHi G r' b') : r = r' ∧ b = b' := by
  rcases h with ⟨rfl, m, rfl, hm, g, l⟩ | ⟨rfl, rfl, n⟩ <;> rcases h' with ⟨rfl, m', rfl, hm', g', l'⟩ | ⟨rfl, rfl, n'⟩
  · rcases Nat.lt_trichotomy m m' with h | rfl | h
    · rw [l _ h hm'] at g'; cases g'
    · exact ⟨rfl, rfl⟩
    · rw [l' _ h hm] at g; cases g
  · rw [n' _ hm] at g; cases g
  · rw [n _ hm'] at g'; cases g'
  · exact ⟨rfl, rfl⟩
theorem IsLo.congr {F G : Nat → Bool} {r : Int} {b : Bool} (h : IsLo F r b) (e : ∀ j, j < 128 → F j = G j) : IsLo G r b := by
  rcases h with ⟨rfl, m, rfl, hm, g, l⟩ | ⟨rfl, rfl, n⟩
  · exact .inl ⟨rfl, m, rfl, hm, by rw [← e m hm]; exact g, fun j hj => by rw [← e j (by omega)]; exact l j hj⟩
  · exact .inr ⟨rfl, rfl, fun j hj => by rw [← e j hj]; exact n j hj⟩
theorem IsHi.congr {F G : Nat → Bool} {r : Int} {b : Bool} (h : IsHi F r b) (e : ∀ j, j < 128 → F j = G j) : IsHi G r b := by
  rcases h with ⟨rfl, m, rfl, hm, g, l⟩ | ⟨rfl, rfl, n⟩
  · exact .inl ⟨rfl, m, rfl, hm, by rw [← e m hm]; exact g, fun j hj h => by rw [← e j h]; exact l j hj h⟩
  · exact .inr ⟨rfl, rfl, fun j hj => by rw [← e j hj]; exact n j hj⟩
theorem ctz_bits (x : Nat) (h0 : x ≠ 0) (hx : x < 18446744073709551616) : Lib.ctz 64 x < 64 ∧ x.testBit (Lib.ctz 64 x) = true ∧ ∀ j, j < Lib.ctz 64 x → x.testBit j = false := by
  obtain ⟨m, e, hk⟩ := Lib.ctzFrom_spec 64 x (by omega) hx
  have ec : Lib.ctz 64 x = Lib.ctzFrom 64 x := by unfold Lib.ctz; rw [if_neg h0]
  rw [ec]
  generalize Lib.ctzFrom 64 x = k at *
  subst e
  refine ⟨hk, ?_, fun j hj => ?_⟩
  · rw [Nat.testBit_two_pow_mul]
    simp
  · rw [Nat.testBit_two_pow_mul]
    simp; omega
theorem len_bits (x : Nat) (h0 : x ≠ 0) (hx : x < 18446744073709551616) : 1 ≤ Lib.bitLen x ∧ Lib.bitLen x ≤ 64 ∧ x.testBit (Lib.bitLen x - 1) = true ∧ ∀ j, Lib.bitLen x ≤ j → x.testBit j = false := by
  obtain ⟨h1, h2, h3⟩ := Lib.bitLenAux_bounds 64 x hx h0
  have h4 := Lib.bitLen_le x 64 (by omega) hx
  change 1 ≤ Lib.bitLen x at h1
  change 2 ^ (Lib.bitLen x - 1) ≤ x at h2
  change x < 2 ^ Lib.bitLen x at h3
  generalize Lib.bitLen x = k at *
  refine ⟨h1, h4, ?_, fun j hj => Nat.testBit_lt_two_pow (Nat.lt_of_lt_of_le h3 (Nat.pow_le_pow_right (by omega) hj))⟩
  rw [Nat.testBit_eq_decide_div_mod_eq]
  have e : x / 2 ^ (k - 1) = 1 := by
    have hp : 0 < 2 ^ (k - 1) := Nat.pow_pos (by omega)
    have hk : 2 ^ k = 2 ^ (k - 1) * 2 := by rw [← Nat.pow_succ]; congr 1; omega
    rw [hk] at h3
    exact Nat.div_eq_of_lt_le (by omega) (by omega)
  rw [e]; rfl
def TzT (w : World) : Prop := TabAt 0 Lib.deBruijn64tab w
theorem TzT.kept {w w' : World} (h : TzT w) (hb : Below w.heap.size w w') : TzT w' := fun j hj => bkeep hb (h j hj)
theorem TzT.c {w : World} (h : TzT w) : TzC w := h 63 (by decide)
set_option maxRecDepth 100000 in
set_option maxHeartbeats 1000000 in
theorem tz_core (x k idx : Nat) (w : World) (hx0 : ((x : Int) == 0) = false)
    (key : IntKind.u64.wrap (bits BinOp.and IntKind.u64 (x : Int) (IntKind.u64.wrap (-(x : Int))) * 285870213051353865) / 288230376151711744 = (idx : Int))
    (hi : idx < 64) (hk : k < 64) (hcell : w.cell? ⟨0, idx, none⟩ = some (.int .u8 k)) :
    Calls Tryd.prog 63 #[.int .u64 x] w fun e w' => e = .returned (.int .i64 k) ∧ w = w' := by
  go_enter Tryd.func63, Tryd.ntmps63
  go_wp2_with (simp only [key])
  go_ret
  exact ⟨rfl, rfl⟩
theorem tz_any (x : Nat) (h0 : x ≠ 0) (hx : x < 18446744073709551616) (w : World) (hT : TzT w) :
    Calls Tryd.prog 63 #[.int .u64 x] w fun e w' => e = .returned (.int .i64 (Lib.ctz 64 x)) ∧ w = w' := by
  obtain ⟨hlow, hk⟩ := Lib.lowest_bit 64 x h0 hx
  obtain ⟨hi, htab⟩ := Lib.deBruijn64_at _ hk
  have hcell := hT _ hi
  rw [htab] at hcell
  exact tz_core x _ _ w (by rw [beq_eq_false_iff_ne]; omega) (tz64_key x _ hx h0 hlow) hi hk hcell
/-- the words of a set: which of them is none -/
theorem word_zero (G : Nat → Bool) : (wordX G = 0 → ∀ j, j < 64 → G j = false) ∧ (wordY G = 0 → ∀ j, 64 ≤ j → j < 128 → G j = false) := by
  constructor
  · intro h j hj
    have := wordX_bit G j
    rw [h] at this
    simpa [hj] using this.symm
  · intro h j hj hj2
    have := wordY_bit G (j - 64)
    rw [h, show 64 + (j - 64) = j by omega] at this
    simpa [show j - 64 < 64 by omega] using this.symm
theorem lo_x (G : Nat → Bool) (h : wordX G ≠ 0) : IsLo G (Lib.ctz 64 (wordX G)) true := by
  obtain ⟨h1, h2, h3⟩ := ctz_bits _ h (wordX_lt G)
  refine .inl ⟨rfl, _, rfl, by omega, ?_, fun j hj => ?_⟩
  · rw [wordX_bit] at h2; simpa [h1] using h2
  · have := h3 j hj
    rw [wordX_bit] at this
    simpa [show j < 64 by omega] using this
theorem lo_y (G : Nat → Bool) (h0 : wordX G = 0) (h : wordY G ≠ 0) : IsLo G (64 + (Lib.ctz 64 (wordY G) : Nat) : Int) true := by
  obtain ⟨h1, h2, h3⟩ := ctz_bits _ h (wordY_lt G)
  refine .inl ⟨rfl, 64 + Lib.ctz 64 (wordY G), by omega, by omega, ?_, fun j hj => ?_⟩
  · rw [wordY_bit] at h2; simpa [h1] using h2
  · by_cases hj6 : j < 64
    · exact (word_zero G).1 h0 j hj6
    · have := h3 (j - 64) (by omega)
      rw [wordY_bit, show 64 + (j - 64) = j by omega] at this
      simpa [show j - 64 < 64 by omega] using this
theorem none_xy (G : Nat → Bool) (h0 : wordX G = 0) (h1 : wordY G = 0) : ∀ j, j < 128 → G j = false := fun j hj => by
  by_cases h : j < 64
  · exact (word_zero G).1 h0 j h
  · exact (word_zero G).2 h1 j (by omega) hj
theorem hi_y (G : Nat → Bool) (h : wordY G ≠ 0) : IsHi G (64 + (Lib.bitLen (wordY G) : Nat) - 1 : Int) true := by
  obtain ⟨h1, h1', h2, h3⟩ := len_bits _ h (wordY_lt G)
  refine .inl ⟨rfl, 64 + (Lib.bitLen (wordY G) - 1), by omega, by omega, ?_, fun j hj hj2 => ?_⟩
  · rw [wordY_bit] at h2; simpa [show Lib.bitLen (wordY G) - 1 < 64 by omega] using h2
  · have := h3 (j - 64) (by omega)
    rw [wordY_bit, show 64 + (j - 64) = j by omega] at this
    simpa [show j - 64 < 64 by omega] using this
theorem hi_x (G : Nat → Bool) (h0 : wordY G = 0) (h : wordX G ≠ 0) : IsHi G ((Lib.bitLen (wordX G) : Nat) - 1 : Int) true := by
  obtain ⟨h1, h1', h2, h3⟩ := len_bits _ h (wordX_lt G)
  refine .inl ⟨rfl, Lib.bitLen (wordX G) - 1, by omega, by omega, ?_, fun j hj hj2 => ?_⟩
  · rw [wordX_bit] at h2; simpa [show Lib.bitLen (wordX G) - 1 < 64 by omega] using h2
  · by_cases hj6 : j < 64
    · have := h3 j (by omega)
      rw [wordX_bit] at this
      simpa [hj6] using this
    · exact (word_zero G).2 h0 j (by omega) hj2
/-- what is in F from n on; up to n -/
def geF (F : Nat → Bool) (n : Int) (j : Nat) : Bool := F j && !lowF n j
def leF (F : Nat → Bool) (n : Int) (j : Nat) : Bool := F j && decide ((j : Int) ≤ n)
set_option maxRecDepth 100000 in
set_option maxHeartbeats 1000000 in
theorem next_any (F : Nat → Bool) (n : Int) (w : World) (hT : TzT w) :
    Calls Tryd.prog 57 #[setV F, .int .i64 n] w fun e w' => ∃ r b, e = .returned (.tuple #[.int .i64 r, .bool b]) ∧ IsLo (geF F n) r b ∧ Below w.heap.size w w' := by
  have HT := Lib.hid hT
  have FR := from_any F n
  change ∀ w, Calls Tryd.prog 50 #[setV F, .int .i64 n] w fun e w' => e = .returned (setV (geF F n)) ∧ Below w.heap.size w w' at FR
  have TX := fun w h0 hT => tz_any (wordX (geF F n)) h0 (wordX_lt _) w hT
  have TY := fun w h0 hT => tz_any (wordY (geF F n)) h0 (wordY_lt _) w hT
  have LX := lo_x (geF F n)
  have LY := lo_y (geF F n)
  have LN := none_xy (geF F n)
  have cx := fun h => (ctz_bits (wordX (geF F n)) h (wordX_lt _)).1
  have cy := fun h => (ctz_bits (wordY (geF F n)) h (wordY_lt _)).1
  unfold setV at FR ⊢
  obtain ⟨x, hX⟩ : ∃ x, wordX F = x := ⟨_, rfl⟩
  obtain ⟨y, hY⟩ : ∃ y, wordY F = y := ⟨_, rfl⟩
  obtain ⟨a, hA⟩ : ∃ x, wordX (geF F n) = x := ⟨_, rfl⟩
  obtain ⟨b, hB⟩ : ∃ x, wordY (geF F n) = x := ⟨_, rfl⟩
  rw [hX, hY, hA, hB] at FR
  rw [hX, hY]
  rw [hA] at TX LX LY LN cx
  rw [hB] at TY LY LN cy
  have FRh := Lib.hid FR
  have LNh := Lib.hid LN
  have TXh := Lib.hid TX
  have TYh := Lib.hid TY
  clear hX hY hA hB FR LN hT TX TY
  have main : ∀ (P : Int → Bool → Prop), True := fun _ => trivial
  by_cases ha : a = 0
  · by_cases hb0 : b = 0
    · have LR : Hid (IsLo (geF F n) 0 false) := Lib.hid (.inr ⟨rfl, rfl, LNh.out ha hb0⟩)
      subst ha hb0
      clear LX LY cx cy LNh TXh TYh
      go_enter Tryd.func57, Tryd.ntmps57
      go_wp2_with fail
      refine (FRh.out _).mono ?_
      rintro e w2 ⟨rfl, hb2⟩
      obtain ⟨B1, _, BE⟩ := one_blk hb2
      obtain ⟨c0, c1, f0, f1⟩ := B1.two
      have BEh := Lib.hid BE
      clear hb2 B1 BE
      go_wp2_with fail
      go_ret2
      exact ⟨_, _, rfl, LR.out, (BEh.out.setCell (Nat.le_refl _) _).setCell (Nat.le_refl _) _⟩
    · have LR := Lib.hid (LY ha hb0)
      have TR := Lib.hid (fun w => TYh.out w hb0)
      have ck := cy hb0
      obtain ⟨k, hk⟩ : ∃ k, Lib.ctz 64 b = k := ⟨_, rfl⟩
      rw [hk] at LR TR ck
      have b0 : ((b : Int) == 0) = false := by rw [beq_eq_false_iff_ne]; omega
      subst ha
      clear LX LY cx cy LNh TXh TYh hk hb0
      go_enter Tryd.func57, Tryd.ntmps57
      go_wp2_with fail
      refine (FRh.out _).mono ?_
      rintro e w2 ⟨rfl, hb2⟩
      obtain ⟨B1, _, BE⟩ := one_blk hb2
      obtain ⟨c0, c1, f0, f1⟩ := B1.two
      have BEh := Lib.hid BE
      clear hb2 B1 BE
      go_wp2_with (go_at_call 63; refine (TR.out _ (HT.out.kept ((BEh.out.setCell (Nat.le_refl _) _).setCell (Nat.le_refl _) _))).mono ?_; rintro e w3 ⟨rfl, rfl⟩)
      go_ret2
      exact ⟨_, _, rfl, LR.out, (BEh.out.setCell (Nat.le_refl _) _).setCell (Nat.le_refl _) _⟩
  · have LR := Lib.hid (LX ha)
    have TR := Lib.hid (fun w => TXh.out w ha)
    have ck := cx ha
    obtain ⟨k, hk⟩ : ∃ k, Lib.ctz 64 a = k := ⟨_, rfl⟩
    rw [hk] at LR TR ck
    have a0 : ((a : Int) == 0) = false := by rw [beq_eq_false_iff_ne]; omega
    clear LX LY cx cy LNh TXh TYh hk ha
    go_enter Tryd.func57, Tryd.ntmps57
    go_wp2_with fail
    refine (FRh.out _).mono ?_
    rintro e w2 ⟨rfl, hb2⟩
    obtain ⟨B1, _, BE⟩ := one_blk hb2
    obtain ⟨c0, c1, f0, f1⟩ := B1.two
    have BEh := Lib.hid BE
    clear hb2 B1 BE
    go_wp2_with (go_at_call 63; refine (TR.out _ (HT.out.kept ((BEh.out.setCell (Nat.le_refl _) _).setCell (Nat.le_refl _) _))).mono ?_; rintro e w3 ⟨rfl, rfl⟩)
    go_ret2
    exact ⟨_, _, rfl, LR.out, (BEh.out.setCell (Nat.le_refl _) _).setCell (Nat.le_refl _) _⟩
set_option maxRecDepth 100000 in
set_option maxHeartbeats 1000000 in
theorem prev_any (F : Nat → Bool) (n : Int) (hn : -9223372036854775808 ≤ n) (w : World) :
    Calls Tryd.prog 58 #[setV F, .int .i64 n] w fun e w' => ∃ r b, e = .returned (.tuple #[.int .i64 r, .bool b]) ∧ IsHi (leF F n) r b ∧ Below w.heap.size w w' := by
  have hS : ∀ G : Nat → Bool, (setV fun j => F j && lowF (min n 128 + 1) j) = setV (leF F n) := fun _ => setV_congr fun j hj => by
    unfold leF lowF
    congr 1
    rw [decide_eq_decide]; omega
  have FR := below_any F (min n 128 + 1)
  rw [hS F] at FR
  have TX := fun w => (Tryd.bits_Len64 (wordX (leF F n)) w (by omega) (by have := wordX_lt (leF F n); omega)).mono (R' := fun e w' => e = .returned (.int .i64 (Lib.bitLen (wordX (leF F n)))) ∧ w = w') fun _ _ h => ⟨h.1, h.2.symm⟩
  have TY := fun w => (Tryd.bits_Len64 (wordY (leF F n)) w (by omega) (by have := wordY_lt (leF F n); omega)).mono (R' := fun e w' => e = .returned (.int .i64 (Lib.bitLen (wordY (leF F n)))) ∧ w = w') fun _ _ h => ⟨h.1, h.2.symm⟩
  have LX := hi_x (leF F n)
  have LY := hi_y (leF F n)
  have LN := none_xy (leF F n)
  have cx := fun h => len_bits (wordX (leF F n)) h (wordX_lt _)
  have cy := fun h => len_bits (wordY (leF F n)) h (wordY_lt _)
  have wr : IntKind.i64.wrap (min n 128 + 1) = min n 128 + 1 := by rw [IntKind.wrap_i64]; omega
  unfold setV at FR ⊢
  obtain ⟨x, hX⟩ : ∃ x, wordX F = x := ⟨_, rfl⟩
  obtain ⟨y, hY⟩ : ∃ y, wordY F = y := ⟨_, rfl⟩
  obtain ⟨a, hA⟩ : ∃ x, wordX (leF F n) = x := ⟨_, rfl⟩
  obtain ⟨b, hB⟩ : ∃ x, wordY (leF F n) = x := ⟨_, rfl⟩
  rw [hX, hY, hA, hB] at FR
  rw [hX, hY]
  rw [hA] at TX LX LN cx
  rw [hB] at TY LX LY LN cy
  have FRh := Lib.hid FR
  have LNh := Lib.hid LN
  have TXh := Lib.hid TX
  have TYh := Lib.hid TY
  clear hX hY hA hB FR LN TX TY hS
  by_cases hb0 : b = 0
  · by_cases ha : a = 0
    · have LR : Hid (IsHi (leF F n) 0 false) := Lib.hid (.inr ⟨rfl, rfl, LNh.out ha hb0⟩)
      subst ha hb0
      clear LX LY cx cy LNh TXh TYh
      go_enter Tryd.func58, Tryd.ntmps58
      go_wp2_with fail
      refine (FRh.out _).mono ?_
      rintro e w2 ⟨rfl, hb2⟩
      obtain ⟨B1, _, BE⟩ := one_blk hb2
      obtain ⟨c0, c1, f0, f1⟩ := B1.two
      have BEh := Lib.hid BE
      clear hb2 B1 BE
      go_wp2_with fail
      go_ret2
      exact ⟨_, _, rfl, LR.out, (BEh.out.setCell (Nat.le_refl _) _).setCell (Nat.le_refl _) _⟩
    · have LR := Lib.hid (LX hb0 ha)
      have TR := Lib.hid TXh.out
      obtain ⟨ck1, ck2, _, _⟩ := cx ha
      obtain ⟨k, hk⟩ : ∃ k, Lib.bitLen a = k := ⟨_, rfl⟩
      simp only [Int.toNat_natCast, hk] at LR TR ck1 ck2
      have a0 : ((a : Int) == 0) = false := by rw [beq_eq_false_iff_ne]; omega
      subst hb0
      clear LX LY cx cy LNh TXh TYh hk ha
      go_enter Tryd.func58, Tryd.ntmps58
      go_wp2_with fail
      refine (FRh.out _).mono ?_
      rintro e w2 ⟨rfl, hb2⟩
      obtain ⟨B1, _, BE⟩ := one_blk hb2
      obtain ⟨c0, c1, f0, f1⟩ := B1.two
      have BEh := Lib.hid BE
      clear hb2 B1 BE
      go_wp2_with (go_at_call 64; refine (TR.out _).mono ?_; rintro e w3 ⟨rfl, rfl⟩)
      go_ret2
      exact ⟨_, _, rfl, LR.out, (BEh.out.setCell (Nat.le_refl _) _).setCell (Nat.le_refl _) _⟩
  · have T : True := trivial
    · have LR := Lib.hid (LY hb0)
      have TR := Lib.hid TYh.out
      obtain ⟨ck1, ck2, _, _⟩ := cy hb0
      obtain ⟨k, hk⟩ : ∃ k, Lib.bitLen b = k := ⟨_, rfl⟩
      simp only [Int.toNat_natCast, hk] at LR TR ck1 ck2
      have b0 : ((b : Int) == 0) = false := by rw [beq_eq_false_iff_ne]; omega
      clear LX LY cx cy LNh TXh TYh hk hb0
      go_enter Tryd.func58, Tryd.ntmps58
      go_wp2_with fail
      refine (FRh.out _).mono ?_
      rintro e w2 ⟨rfl, hb2⟩
      obtain ⟨B1, _, BE⟩ := one_blk hb2
      obtain ⟨c0, c1, f0, f1⟩ := B1.two
      have BEh := Lib.hid BE
      clear hb2 B1 BE
      go_wp2_with (go_at_call 64; refine (TR.out _).mono ?_; rintro e w3 ⟨rfl, rfl⟩)
      go_ret2
      exact ⟨_, _, rfl, LR.out, (BEh.out.setCell (Nat.le_refl _) _).setCell (Nat.le_refl _) _⟩
end Go.Proofs.YtbjcigkakeffmaaDoor
