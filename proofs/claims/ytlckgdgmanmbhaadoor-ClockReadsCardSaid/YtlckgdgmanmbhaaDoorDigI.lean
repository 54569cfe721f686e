/- digits.Read of the program and of the document answer alike, at any list of at most 200 bytes. -/
import Derived.Test.YtlckgdgmanmbhaaDoorRows
import Derived.Test.YtlckgdgmanmbhaaDoorRowKit
import Derived.Test.YtlckgdgmanmbhaaDoorShelf
import Derived.Test.YtlckgdgmanmbhaaDoorNumsMath
import Derived.Test.YtlckgdgmanmbhaaDoorNumsA
import Derived.Test.YtlckgdgmanmbhaaDoorNumsB
import Derived.Test.YtlckgdgmanmbhaaDoorDigMath
import Derived.Test.YtlckgdgmanmbhaaDoorDigC
import Derived.Test.YtlckgdgmanmbhaaDoorDigD
import Derived.Test.YtlckgdgmanmbhaaDoorDigF
import Derived.Test.YtlckgdgmanmbhaaDoorDigG
import Derived.Test.YtlckgdgmanmbhaaDoorDigH
import Derived.WalkKit
import Derived.IntWalk
import Derived.Lib.Hide
import Derived.Lib.ItoaLen
import Derived.Lib.ItoaMem
import Derived.WalkSpells
import Derived.WalkLawsBesides
import Derived.Laws.IdiomStrings
import Derived.Laws.StructEq
import Derived.Deep.QuietTactic
import Derived.BigQuiet
namespace Go.Proofs.YtlckgdgmanmbhaaDoor
open Go.RowKit Go.Sort
set_option linter.unusedSimpArgs false
set_option linter.unusedVariables false
theorem x45 {x : UInt8} (h : x.toNat = 45) : x = 45 := UInt8.toNat_inj.1 (h.trans rfl)
theorem x48 {x : UInt8} (h : x.toNat = 48) : x = 48 := UInt8.toNat_inj.1 (h.trans rfl)
theorem ne_of {A B : List UInt8} (h : A ≠ B) : (A == B) = false := by rw [beq_eq_false_iff_ne]; exact h
theorem noM_of {L : List UInt8} (h : AllD L) : NoM L := by
  intro T e
  have := h 45 (by rw [e]; simp)
  simp at this
theorem stop_at {L : List UInt8} (h : ¬ AllD L) : ∃ m, ∃ hm : m < (bL L).size, (((bL L)[m]'hm).toNat < 48 ∨ 57 < ((bL L)[m]'hm).toNat) ∧ ∀ k (hk : k < m), 48 ≤ ((bL L)[k]'(by omega)).toNat ∧ ((bL L)[k]'(by omega)).toNat ≤ 57 := by
  obtain ⟨m, hm, h1, h2⟩ := first_non h
  refine ⟨m, by rw [bL_size]; exact hm, ?_, ?_⟩
  · rw [bL_at L m _ hm]; omega
  · intro k hk
    rw [bL_at L k _ (by omega)]; exact h2 k hk
/-- the document's form of a text without a stroke -/
theorem form_yes (L : List UInt8) (w : World) (h : Plain L) (hl : L.length ≤ 1000) : Calls Tryd.prog 42 #[.string (bL L)] w fun e w' => e = .returned (.bool true) ∧ w = w' := by
  by_cases e : L = [48]
  · exact rform_zero (bL L) w (by rw [bL_list, e]; rfl)
  · rcases h.2 with e2 | ⟨hn, h0⟩
    · exact absurd e2 e
    cases L with
    | nil => exact absurd rfl hn
    | cons x T =>
      have x1 := h.1 x (by simp)
      have x2 : x.toNat ≠ 48 := fun q => h0 (by rw [x48 q]; rfl)
      refine rform_plain (bL (x :: T)) w (by rw [bL_size]; exact hl) (by rw [bL_list]; exact ne_of e) (by rw [bL_size]; simp) (fun _ => ?_) true (fun _ => ?_) (dig_at h.1)
      · show x.toNat ≠ 45; omega
      · show (((x.toNat : Int)) != 48) = true
        simp; omega
theorem form_no (L : List UInt8) (w : World) (hN : NoM L) (h : ¬ Plain L) (hl : L.length ≤ 1000) : Calls Tryd.prog 42 #[.string (bL L)] w fun e w' => e = .returned (.bool false) ∧ w = w' := by
  have e : L ≠ [48] := fun e => h ⟨by rw [e]; intro c hc; simp at hc; subst hc; exact ⟨by decide, by decide⟩, Or.inl e⟩
  have h1 : ((bL L).toList == [48]) = false := by rw [bL_list]; exact ne_of e
  cases L with
  | nil => exact rform_none (bL []) w h1 (by rw [bL_size]; rfl)
  | cons x T =>
    have p0 : 0 < (bL (x :: T)).size := by rw [bL_size]; simp
    have m0 : x.toNat ≠ 45 := fun q => hN T (by rw [x45 q])
    by_cases hD : AllD (x :: T)
    · have x2 : x.toNat = 48 := by
        by_cases q : x.toNat = 48
        · exact q
        · exact absurd ⟨hD, Or.inr ⟨by simp, fun r => q (by simp at r; rw [r]; rfl)⟩⟩ h
      refine rform_plain (bL (x :: T)) w (by rw [bL_size]; exact hl) h1 p0 (fun _ => m0) false (fun _ => ?_) (dig_at hD)
      show (((x.toNat : Int)) != 48) = false
      rw [x2]; rfl
    · obtain ⟨m, hm, g1, g2⟩ := stop_at hD
      exact rform_stop (bL (x :: T)) m w (by rw [bL_size]; exact hl) h1 p0 m0 hm g1 g2
/-- the document's form of a text with a stroke -/
theorem forms_yes (T : List UInt8) (w : World) (h : Plain T) (h48 : T ≠ [48]) (hl : T.length ≤ 1000) : Calls Tryd.prog 42 #[.string (bL (45 :: T))] w fun e w' => e = .returned (.bool true) ∧ w = w' := by
  have h1 : ((bL (45 :: T)).toList == [48]) = false := by rw [bL_list]; exact ne_of (by simp)
  have p0 : 0 < (bL (45 :: T)).size := by rw [bL_size]; simp
  rcases h.2 with e2 | ⟨hn, h0⟩
  · exact absurd e2 h48
  cases T with
  | nil => exact absurd rfl hn
  | cons x U =>
    have x2 : x.toNat ≠ 48 := fun q => h0 (by rw [x48 q]; rfl)
    refine rforms_plain (bL (45 :: x :: U)) (bL (x :: U)) w (by rw [bL_size]; exact hl) h1 p0 rfl (bL_tail 45 (x :: U)) (by rw [bL_size]; simp) true ?_ (dig_at h.1)
    show (((x.toNat : Int)) != 48) = true
    simp; omega
theorem forms_no (T : List UInt8) (w : World) (h : ¬ (Plain T ∧ T ≠ [48])) (hl : T.length ≤ 1000) : Calls Tryd.prog 42 #[.string (bL (45 :: T))] w fun e w' => e = .returned (.bool false) ∧ w = w' := by
  have h1 : ((bL (45 :: T)).toList == [48]) = false := by rw [bL_list]; exact ne_of (by simp)
  have p0 : 0 < (bL (45 :: T)).size := by rw [bL_size]; simp
  have hx := bL_tail 45 T
  cases T with
  | nil => exact rforms_none (bL [45]) (bL []) w (by rw [bL_size]; exact hl) h1 p0 rfl hx (by rw [bL_size]; rfl)
  | cons x U =>
    by_cases hD : AllD (x :: U)
    · have x2 : x.toNat = 48 := by
        by_cases q : x.toNat = 48
        · exact q
        · exact absurd ⟨⟨hD, Or.inr ⟨by simp, fun r => q (by simp at r; rw [r]; rfl)⟩⟩, fun r => q (by simp at r; rw [r.1]; rfl)⟩ h
      refine rforms_plain (bL (45 :: x :: U)) (bL (x :: U)) w (by rw [bL_size]; exact hl) h1 p0 rfl hx (by rw [bL_size]; simp) false ?_ (dig_at hD)
      show (((x.toNat : Int)) != 48) = false
      rw [x2]; rfl
    · obtain ⟨m, hm, g1, g2⟩ := stop_at hD
      exact rforms_stop (bL (45 :: x :: U)) (bL (x :: U)) m w (by rw [bL_size]; exact hl) h1 p0 rfl hx hm g1 g2
/-- both read a text alike; what is a number is written so -/
def Alike (L : List UInt8) : Prop := ∃ n r : Int, (∀ w, Calls Tryd.prog 37 #[.string (bL L)] w fun e w' => e = .returned (.tuple #[.int .i64 n, .int .i64 r]) ∧ w = w') ∧ (∀ w, Calls Tryd.prog 23 #[.string (bL L)] w fun e w' => e = .returned (.tuple #[.int .i64 n, .int .i64 r]) ∧ w = w') ∧ -9223372036854775808 ≤ n ∧ n ≤ 9223372036854775807 ∧ ((r = 0 ∧ Lib.itoa n = L) ∨ r = 10 ∨ r = 20)
theorem mostn : AllD [57, 50, 50, 51, 51, 55, 50, 48, 51, 54, 56, 53, 52, 55, 55, 53, 56, 48, 55] ∧ dval [57, 50, 50, 51, 51, 55, 50, 48, 51, 54, 56, 53, 52, 55, 55, 53, 56, 48, 55] = 9223372036854775807 := ⟨by
  intro c hc
  have : ∀ c ∈ ([57, 50, 50, 51, 51, 55, 50, 48, 51, 54, 56, 53, 52, 55, 55, 53, 56, 48, 55] : List UInt8), 48 ≤ c.toNat ∧ c.toNat ≤ 57 := by decide
  exact this c hc, by decide +kernel⟩
theorem mosts : AllD [57, 50, 50, 51, 51, 55, 50, 48, 51, 54, 56, 53, 52, 55, 55, 53, 56, 48, 56] ∧ dval [57, 50, 50, 51, 51, 55, 50, 48, 51, 54, 56, 53, 52, 55, 55, 53, 56, 48, 56] = 9223372036854775808 := ⟨by
  intro c hc
  have : ∀ c ∈ ([57, 50, 50, 51, 51, 55, 50, 48, 51, 54, 56, 53, 52, 55, 55, 53, 56, 48, 56] : List UInt8), 48 ≤ c.toNat ∧ c.toNat ≤ 57 := by decide
  exact this c hc, by decide +kernel⟩
theorem len_big {L : List UInt8} (h : Plain L) (hl : 19 < L.length) : 9223372036854775808 < dval L := by
  rcases h.2 with e | ⟨hn, h0⟩
  · rw [e] at hl; simp at hl
  · have g := dval_ge h.1 hn h0
    have : 10 ^ 19 ≤ 10 ^ (L.length - 1) := Nat.pow_le_pow_right (by omega) (by omega)
    have e : (10 : Nat) ^ 19 = 10000000000000000000 := by decide
    omega
theorem len_few {L : List UInt8} (h : AllD L) (hl : L.length < 19) : dval L ≤ 999999999999999999 := by
  have g := dval_lt L.length L rfl h
  have : 10 ^ L.length ≤ 10 ^ 18 := Nat.pow_le_pow_right (by omega) (by omega)
  have e : (10 : Nat) ^ 18 = 1000000000000000000 := by decide
  omega
theorem ne_of_plain {L : List UInt8} (h : Plain L) : L ≠ [] := by
  rcases h.2 with e | ⟨hn, h0⟩
  · rw [e]; simp
  · exact hn
theorem docn_ok (L : List UInt8) (w : World) (h : Plain L) (hl : L.length ≤ 200) (hm : dval L ≤ 9223372036854775807) : Calls Tryd.prog 23 #[.string (bL L)] w fun e w' => e = .returned (.tuple #[.int .i64 ((dval L : Int)), .int .i64 0]) ∧ w = w' := by
  have p0 : 0 < (bL L).size := by
    rw [bL_size]
    cases L with
    | nil => exact absurd rfl (ne_of_plain h)
    | cons x T => simp
  have hs0 : ((bL L)[0]'p0).toNat ≠ 45 := by have := (dig_at h.1 0 p0).1; omega
  have H := form_yes L w h (by omega)
  have hvs : ∀ k (hk : k < (bL L).size), dval (L.take (k + 1)) = 10 * dval (L.take k) + (((bL L)[k]'hk).toNat - 48) := fun k hk => by
    have h' : k < L.length := by rw [← bL_size]; exact hk
    rw [bL_at L k hk h']; exact take_val h'
  have hms : ∀ k, k ≤ (bL L).size → dval (L.take k) ≤ 9223372036854775807 := fun k hk => by
    rw [bL_size] at hk; exact Nat.le_trans (take_le L (L.length - k) k (by omega)) hm
  have hlen : L.length ≤ 19 := by
    by_cases q : 19 < L.length
    · have := len_big h q; omega
    · omega
  have hr : (fun k => dval (L.take k)) (bL L).size = dval L := by show dval (L.take (bL L).size) = _; rw [bL_size, List.take_length]
  by_cases q : L.length < 19
  · have := rreadn_few (bL L) w p0 hs0 (fun k => dval (L.take k)) H (by rw [bL_size]; exact q) (dig_at h.1) rfl hvs hms
    rw [show dval (L.take (bL L).size) = dval L from hr] at this
    exact this
  · have q9 : L.length = 19 := by omega
    obtain ⟨m1, m2⟩ := mostn
    obtain ⟨e1, e2⟩ := less_val L [57, 50, 50, 51, 51, 55, 50, 48, 51, 54, 56, 53, 52, 55, 55, 53, 56, 48, 55] (by rw [q9]; rfl) h.1 m1
    have g : (Op.bytesLess (bL L).toList [57, 50, 50, 51, 51, 55, 50, 48, 51, 54, 56, 53, 52, 55, 55, 53, 56, 48, 55] || (bL L).toList == [57, 50, 50, 51, 51, 55, 50, 48, 51, 54, 56, 53, 52, 55, 55, 53, 56, 48, 55]) = true := by
      rw [bL_list, e1, e2, m2]
      by_cases r : dval L = 9223372036854775807
      · simp [r]
      · have : dval L < 9223372036854775807 := by omega
        simp [this]
    have := rreadn_eq (bL L) w p0 hs0 (fun k => dval (L.take k)) H (by rw [bL_size]; exact q9) g (dig_at h.1) rfl hvs hms
    rw [show dval (L.take (bL L).size) = dval L from hr] at this
    exact this
theorem docn_big (L : List UInt8) (w : World) (h : Plain L) (hl : L.length ≤ 200) (hm : 9223372036854775807 < dval L) : Calls Tryd.prog 23 #[.string (bL L)] w fun e w' => e = .returned (.tuple #[.int .i64 0, .int .i64 10]) ∧ w = w' := by
  have p0 : 0 < (bL L).size := by
    rw [bL_size]
    cases L with
    | nil => exact absurd rfl (ne_of_plain h)
    | cons x T => simp
  have hs0 : ((bL L)[0]'p0).toNat ≠ 45 := by have := (dig_at h.1 0 p0).1; omega
  have H := form_yes L w h (by omega)
  have q : ¬ L.length < 19 := fun q => by have := len_few h.1 q; omega
  by_cases q2 : 19 < L.length
  · exact rreadn_long (bL L) w p0 hs0 H (by rw [bL_size]; exact q2) (by rw [bL_size]; omega)
  · have q9 : L.length = 19 := by omega
    obtain ⟨m1, m2⟩ := mostn
    obtain ⟨e1, e2⟩ := less_val L [57, 50, 50, 51, 51, 55, 50, 48, 51, 54, 56, 53, 52, 55, 55, 53, 56, 48, 55] (by rw [q9]; rfl) h.1 m1
    rw [m2] at e1 e2
    refine rreadn_more (bL L) w p0 hs0 H (by rw [bL_size]; exact q9) ?_ ?_
    · rw [bL_list, e1]; simp; omega
    · rw [bL_list, e2]; simp; omega
theorem docs_ok (L : List UInt8) (w : World) (h : Plain L) (h48 : L ≠ [48]) (hl : L.length ≤ 200) (hm : dval L ≤ 9223372036854775808) : Calls Tryd.prog 23 #[.string (bL (45 :: L))] w fun e w' => e = .returned (.tuple #[.int .i64 (-(dval L : Int)), .int .i64 0]) ∧ w = w' := by
  have p0 : 0 < (bL (45 :: L)).size := by rw [bL_size]; simp
  have H := forms_yes L w h h48 (by omega)
  have hvs : ∀ k (hk : k < (bL L).size), dval (L.take (k + 1)) = 10 * dval (L.take k) + (((bL L)[k]'hk).toNat - 48) := fun k hk => by
    have h' : k < L.length := by rw [← bL_size]; exact hk
    rw [bL_at L k hk h']; exact take_val h'
  have hms : ∀ k, k ≤ (bL L).size → dval (L.take k) ≤ 9223372036854775808 := fun k hk => by
    rw [bL_size] at hk; exact Nat.le_trans (take_le L (L.length - k) k (by omega)) hm
  have hlen : L.length ≤ 19 := by
    by_cases q : 19 < L.length
    · have := len_big h q; omega
    · omega
  have hr : (fun k => dval (L.take k)) (bL L).size = dval L := by show dval (L.take (bL L).size) = _; rw [bL_size, List.take_length]
  by_cases q : L.length < 19
  · have := rreads_few (bL (45 :: L)) (bL L) w p0 rfl (bL_tail 45 L) (fun k => dval (L.take k)) H (by rw [bL_size]; exact q) (dig_at h.1) rfl hvs hms
    rw [show dval (L.take (bL L).size) = dval L from hr] at this
    exact this
  · have q9 : L.length = 19 := by omega
    obtain ⟨m1, m2⟩ := mosts
    obtain ⟨e1, e2⟩ := less_val L [57, 50, 50, 51, 51, 55, 50, 48, 51, 54, 56, 53, 52, 55, 55, 53, 56, 48, 56] (by rw [q9]; rfl) h.1 m1
    have g : (Op.bytesLess (bL L).toList [57, 50, 50, 51, 51, 55, 50, 48, 51, 54, 56, 53, 52, 55, 55, 53, 56, 48, 56] || (bL L).toList == [57, 50, 50, 51, 51, 55, 50, 48, 51, 54, 56, 53, 52, 55, 55, 53, 56, 48, 56]) = true := by
      rw [bL_list, e1, e2, m2]
      by_cases r : dval L = 9223372036854775808
      · simp [r]
      · have : dval L < 9223372036854775808 := by omega
        simp [this]
    have := rreads_eq (bL (45 :: L)) (bL L) w p0 rfl (bL_tail 45 L) (fun k => dval (L.take k)) H (by rw [bL_size]; exact q9) g (dig_at h.1) rfl hvs hms
    rw [show dval (L.take (bL L).size) = dval L from hr] at this
    exact this
theorem docs_big (L : List UInt8) (w : World) (h : Plain L) (h48 : L ≠ [48]) (hl : L.length ≤ 200) (hm : 9223372036854775808 < dval L) : Calls Tryd.prog 23 #[.string (bL (45 :: L))] w fun e w' => e = .returned (.tuple #[.int .i64 0, .int .i64 10]) ∧ w = w' := by
  have p0 : 0 < (bL (45 :: L)).size := by rw [bL_size]; simp
  have H := forms_yes L w h h48 (by omega)
  have q : ¬ L.length < 19 := fun q => by have := len_few h.1 q; omega
  by_cases q2 : 19 < L.length
  · exact rreads_long (bL (45 :: L)) (bL L) w p0 rfl (bL_tail 45 L) H (by rw [bL_size]; exact q2) (by rw [bL_size]; omega)
  · have q9 : L.length = 19 := by omega
    obtain ⟨m1, m2⟩ := mosts
    obtain ⟨e1, e2⟩ := less_val L [57, 50, 50, 51, 51, 55, 50, 48, 51, 54, 56, 53, 52, 55, 55, 53, 56, 48, 56] (by rw [q9]; rfl) h.1 m1
    rw [m2] at e1 e2
    refine rreads_more (bL (45 :: L)) (bL L) w p0 rfl (bL_tail 45 L) H (by rw [bL_size]; exact q9) ?_ ?_
    · rw [bL_list, e1]; simp; omega
    · rw [bL_list, e2]; simp; omega
theorem alike_any (L : List UInt8) (hl : L.length ≤ 200) : Alike L := by
  by_cases hM : ∃ T, L = 45 :: T
  · obtain ⟨T, rfl⟩ := hM
    have hT : T.length ≤ 200 := by simp at hl; omega
    by_cases h : Plain T
    · by_cases e : T = [48]
      · exact ⟨0, 20, fun w => read_nought _ (bL T) w (by rw [bL_list, e]; rfl) (cut_yes T w) (plain_L T w h (by omega)), fun w => rread_form _ w (forms_no T w (fun q => q.2 e) (by omega)), by omega, by omega, Or.inr (Or.inr rfl)⟩
      · by_cases hm : dval T ≤ 9223372036854775808
        · refine ⟨-(dval T : Int), 0, fun w => read_neg T w h (by omega) hm e, fun w => docs_ok T w h e hT hm, by omega, by omega, Or.inl ⟨rfl, ?_⟩⟩
          have hp : 0 < dval T := by
            rcases h.2 with e2 | ⟨hn, h0⟩
            · exact absurd e2 e
            · exact dval_pos T.length T rfl h.1 hn h0
          unfold Lib.itoa
          rw [if_pos (by omega), show (-(dval T : Int)).natAbs = dval T by omega, dec_dval T.length T rfl h]
        · exact ⟨0, 10, fun w => read_big _ (bL T) true w (fun _ => by rw [bL_list]; exact ne_of e) (cut_yes T w) (plain_L T w h (by omega)) (countedN_L T w h.1 (by omega) (by omega)), fun w => docs_big T w h e hT (by omega), by omega, by omega, Or.inr (Or.inl rfl)⟩
    · exact ⟨0, 20, fun w => read_form _ (bL T) true w (cut_yes T w) (plainN_L T w h (by omega)), fun w => rread_form _ w (forms_no T w (fun q => h q.1) (by omega)), by omega, by omega, Or.inr (Or.inr rfl)⟩
  · have hN : NoM L := fun T e => hM ⟨T, e⟩
    by_cases h : Plain L
    · by_cases hm : dval L ≤ 9223372036854775807
      · refine ⟨(dval L : Int), 0, fun w => read_pos L w h (by omega) hm, fun w => docn_ok L w h hl hm, by omega, by omega, Or.inl ⟨rfl, ?_⟩⟩
        rw [Lib.itoa_nonneg, dec_dval L.length L rfl h]
      · refine ⟨0, 10, fun w => ?_, fun w => docn_big L w h hl (by omega), by omega, by omega, Or.inr (Or.inl rfl)⟩
        by_cases q : dval L ≤ 9223372036854775808
        · have c := counted_L L w h.1 (by omega) q
          rw [show (-(dval L : Int)) = -9223372036854775808 by omega] at c
          exact read_edge (bL L) w (cut_nom L w hN) (plain_L L w h (by omega)) c
        · exact read_big _ (bL L) false w (fun q => by cases q) (cut_nom L w hN) (plain_L L w h (by omega)) (countedN_L L w h.1 (by omega) (by omega))
    · exact ⟨0, 20, fun w => read_form _ (bL L) false w (cut_nom L w hN) (plainN_L L w h (by omega)), fun w => rread_form _ w (form_no L w hN h (by omega)), by omega, by omega, Or.inr (Or.inr rfl)⟩
end Go.Proofs.YtlckgdgmanmbhaaDoor
