/- Texts of digits in order; contracts of digits.plain, counted and Read at any text. -/
import Derived.Test.YtlckgdgmanmbhaaDoorRows
import Derived.Test.YtlckgdgmanmbhaaDoorRowKit
import Derived.Test.YtlckgdgmanmbhaaDoorShelf
import Derived.Test.YtlckgdgmanmbhaaDoorNumsMath
import Derived.Test.YtlckgdgmanmbhaaDoorNumsA
import Derived.Test.YtlckgdgmanmbhaaDoorNumsB
import Derived.Test.YtlckgdgmanmbhaaDoorDigMath
import Derived.Test.YtlckgdgmanmbhaaDoorDigC
import Derived.Test.YtlckgdgmanmbhaaDoorDigD
import Derived.WalkKit
import Derived.IntWalk
import Derived.Lib.Hide
import Derived.Lib.ItoaLen
import Derived.Lib.ItoaMem
import Derived.WalkSpells
import Derived.WalkLawsBesides
import Derived.Laws.IdiomStrings
import Derived.Laws.StructEq
import Derived.Deep.QuietTactic
import Derived.BigQuiet
namespace Go.Proofs.YtlckgdgmanmbhaaDoor
open Go.RowKit Go.Sort
set_option linter.unusedSimpArgs false
set_option linter.unusedVariables false
theorem fold_acc : ∀ (L : List UInt8) (a : Nat), L.foldl (fun n c => 10 * n + (c.toNat - 48)) a = a * 10 ^ L.length + dval L
  | [], a => by simp [dval]
  | c :: L, a => by
    have h1 := fold_acc L (10 * a + (c.toNat - 48))
    have h2 := fold_acc L (10 * 0 + (c.toNat - 48))
    have e : dval (c :: L) = L.foldl (fun n c => 10 * n + (c.toNat - 48)) (10 * 0 + (c.toNat - 48)) := rfl
    rw [List.foldl_cons, h1, e, h2, List.length_cons, Nat.pow_succ, Nat.add_mul, Nat.add_mul]
    have : 10 * a * 10 ^ L.length = a * (10 ^ L.length * 10) := by rw [Nat.mul_comm 10 a, Nat.mul_assoc, Nat.mul_comm 10]
    omega
theorem dval_cons (c : UInt8) (L : List UInt8) : dval (c :: L) = (c.toNat - 48) * 10 ^ L.length + dval L := by
  have := fold_acc (c :: L) 0
  have e : dval (c :: L) = L.foldl (fun n c => 10 * n + (c.toNat - 48)) (10 * 0 + (c.toNat - 48)) := rfl
  rw [e, fold_acc, Nat.mul_zero, Nat.zero_add]
/-- of as many digits the greater number is the later text -/
theorem less_val : ∀ (A B : List UInt8), A.length = B.length → AllD A → AllD B → (Op.bytesLess A B = decide (dval A < dval B) ∧ (A == B) = decide (dval A = dval B))
  | [], [], _, _, _ => by simp [Op.bytesLess, dval]
  | [], _ :: _, h, _, _ => by simp at h
  | _ :: _, [], h, _, _ => by simp at h
  | a :: A, b :: B, h, hA, hB => by
    have hl : A.length = B.length := by simpa using h
    have a1 := hA a (by simp)
    have b1 := hB b (by simp)
    have hA' : AllD A := fun c hc => hA c (by simp [hc])
    have hB' : AllD B := fun c hc => hB c (by simp [hc])
    obtain ⟨e1, e2⟩ := less_val A B hl hA' hB'
    have vA := dval_lt A.length A rfl hA'
    have vB := dval_lt B.length B rfl hB'
    have cA := dval_cons a A
    have cB := dval_cons b B
    rw [hl] at vA cA
    generalize 10 ^ B.length = P at *
    rcases Nat.lt_trichotomy a.toNat b.toNat with h1 | h1 | h1
    · have m := Nat.mul_le_mul_right P (show a.toNat - 48 + 1 ≤ b.toNat - 48 by omega)
      rw [Nat.add_mul] at m
      have lt : dval (a :: A) < dval (b :: B) := by omega
      have hlt : a < b := UInt8.lt_iff_toNat_lt.2 h1
      have hne : (a == b) = false := by rw [beq_eq_false_iff_ne]; intro e; subst e; omega
      refine ⟨?_, ?_⟩
      · rw [decide_eq_true lt]; simp [Op.bytesLess, hlt]
      · rw [decide_eq_false (by omega)]; simp [hne]
    · have e : a = b := UInt8.toNat_inj.1 h1
      subst e
      refine ⟨?_, ?_⟩
      · have : ¬ a < a := by rw [UInt8.lt_iff_toNat_lt]; omega
        simp [Op.bytesLess, this, e1]; rw [cA, cB]
        constructor <;> intro h <;> omega
      · have : ((a :: A) == (a :: B)) = (A == B) := by simp
        rw [this, e2, cA, cB]
        by_cases hq : dval A = dval B
        · rw [decide_eq_true hq, decide_eq_true (by omega)]
        · rw [decide_eq_false hq, decide_eq_false (by omega)]
    · have m := Nat.mul_le_mul_right P (show b.toNat - 48 + 1 ≤ a.toNat - 48 by omega)
      rw [Nat.add_mul] at m
      have gt : dval (b :: B) < dval (a :: A) := by omega
      have hlt : ¬ a < b := by rw [UInt8.lt_iff_toNat_lt]; omega
      have hne : (a == b) = false := by rw [beq_eq_false_iff_ne]; intro e; subst e; omega
      refine ⟨?_, ?_⟩
      · rw [decide_eq_false (by omega)]; simp [Op.bytesLess, hlt, hne]
      · rw [decide_eq_false (by omega)]; simp [hne]
theorem first_ix {p : Nat → Prop} (m : Nat) (h : p m) : ∃ k, k ≤ m ∧ p k ∧ ∀ j, j < k → ¬ p j := by
  induction m using Nat.strongRecOn with
  | ind m ih =>
    by_cases hc : ∃ j, j < m ∧ p j
    · obtain ⟨j, hj, hp⟩ := hc
      obtain ⟨k, hk, r⟩ := ih j hj hp
      exact ⟨k, by omega, r⟩
    · exact ⟨m, Nat.le_refl _, h, fun j hj e => hc ⟨j, hj, e⟩⟩
/-- the first letter that is no digit -/
theorem first_non {L : List UInt8} (h : ¬ AllD L) : ∃ m, ∃ hm : m < L.length, ¬ (48 ≤ (L[m]'hm).toNat ∧ (L[m]'hm).toNat ≤ 57) ∧ ∀ j (hj : j < m), 48 ≤ (L[j]'(by omega)).toNat ∧ (L[j]'(by omega)).toNat ≤ 57 := by
  have h1 : ∃ m, ∃ hm : m < L.length, ¬ (48 ≤ (L[m]'hm).toNat ∧ (L[m]'hm).toNat ≤ 57) := by
    apply Classical.byContradiction
    intro hc
    refine h fun c hcm => ?_
    obtain ⟨i, hi, e⟩ := List.getElem_of_mem hcm
    apply Classical.byContradiction
    intro hn
    exact hc ⟨i, hi, by rw [e]; exact hn⟩
  obtain ⟨m, hm⟩ := h1
  obtain ⟨k, hk, ⟨hkl, hp⟩, hb⟩ := first_ix (p := fun m => ∃ hm : m < L.length, ¬ (48 ≤ (L[m]'hm).toNat ∧ (L[m]'hm).toNat ≤ 57)) m hm
  refine ⟨k, hkl, hp, fun j hj => ?_⟩
  apply Classical.byContradiction
  intro hn
  exact hb j hj ⟨by omega, hn⟩
set_option maxRecDepth 100000 in
set_option maxHeartbeats 1000000 in
theorem plain_stop (s : ByteArray) (m : Nat) (w : World) (hl : s.size ≤ 1000) (hm : m < s.size) (hx : (s[m]'hm).toNat < 48 ∨ 57 < (s[m]'hm).toNat) (hd : ∀ k (h : k < m), 48 ≤ (s[k]'(by omega)).toNat ∧ (s[k]'(by omega)).toNat ≤ 57) :
    Calls Tryd.prog 54 #[.string s] w fun e w' => e = .returned (.bool false) ∧ w = w' := by
  have HD := Lib.hid hd
  have HX := Lib.hid hx
  clear hd hx
  go_enter Tryd.func54, Tryd.ntmps54
  go_wp2_with fail
  go_loop [6] (fun i => ∃ k : Nat, k ≤ m ∧ i = .int .i64 k) (fun i => s.size - (intOf i).toNat)
  case atStart => exact ⟨0, by omega, rfl⟩
  case round =>
    obtain ⟨k, hk, rfl⟩ := hrel
    by_cases h : k < m
    · obtain ⟨d1, d2⟩ := HD.out k h
      have hks : k < s.size := by omega
      go_wp2_with fail
      go_round
      case rel => exact ⟨k + 1, by omega, by go_num⟩
      case measure => simp [intOf]; omega
    · obtain rfl : k = m := by omega
      rcases HX.out with x | x
      · go_wp2_with fail
        go_ret
        exact ⟨rfl, rfl⟩
      · have x2 : ¬ (s[k]'hm).toNat < 48 := by omega
        go_wp2_with fail
        go_ret
        exact ⟨rfl, rfl⟩
set_option maxRecDepth 100000 in
set_option maxHeartbeats 1000000 in
theorem plain_end (s : ByteArray) (w : World) (hl : s.size ≤ 1000) (hd : ∀ k (h : k < s.size), 48 ≤ (s[k]'h).toNat ∧ (s[k]'h).toNat ≤ 57) (p : (s.toList == [48]) = false) (h0 : s.toList.isEmpty = true ∨ (s.toList.isEmpty = false ∧ 0 < s.size ∧ ∀ h : 0 < s.size, (s[0]'h).toNat = 48)) :
    Calls Tryd.prog 54 #[.string s] w fun e w' => e = .returned (.bool false) ∧ w = w' := by
  have HD := Lib.hid hd
  have H0 := Lib.hid h0
  clear hd h0
  go_enter Tryd.func54, Tryd.ntmps54
  go_wp2_with fail
  go_loop [6] (fun i => ∃ k : Nat, k ≤ s.size ∧ i = .int .i64 k) (fun i => s.size - (intOf i).toNat)
  case atStart => exact ⟨0, by omega, rfl⟩
  case round =>
    obtain ⟨k, hk, rfl⟩ := hrel
    by_cases h : k < s.size
    · obtain ⟨d1, d2⟩ := HD.out k h
      go_wp2_with fail
      go_round
      case rel => exact ⟨k + 1, by omega, by go_num⟩
      case measure => simp [intOf]; omega
    · obtain rfl : k = s.size := by omega
      rcases H0.out with q | ⟨q, r, u⟩
      · go_wp2_with fail
        go_ret
        exact ⟨rfl, rfl⟩
      · have u1 := u r
        have u2 : (((s[0]'r).toNat : Int) != 48) = false := by rw [bne_eq_false_iff_eq]; omega
        clear u
        go_wp2_with fail
        go_ret
        exact ⟨rfl, rfl⟩
theorem plainN_L (L : List UInt8) (w : World) (h : ¬ Plain L) (hl : L.length ≤ 1000) :
    Calls Tryd.prog 54 #[.string (bL L)] w fun e w' => e = .returned (.bool false) ∧ w = w' := by
  by_cases hD : AllD L
  · refine plain_end (bL L) w (by rw [bL_size]; exact hl) (dig_at hD) ?_ ?_
    · rw [bL_list, beq_eq_false_iff_ne]; intro e; exact h ⟨hD, .inl e⟩
    · rw [bL_list]
      cases L with
      | nil => left; rfl
      | cons x t =>
        right
        refine ⟨rfl, by rw [bL_size]; simp, fun h1 => ?_⟩
        apply Classical.byContradiction
        intro hx
        refine h ⟨hD, .inr ⟨by simp, ?_⟩⟩
        intro e
        have e2 : x = 48 := by simpa using e
        apply hx
        show x.toNat = 48
        rw [e2]; rfl
  · obtain ⟨m, hm, hx, hb⟩ := first_non hD
    have hm' : m < (bL L).size := by rw [bL_size]; exact hm
    exact plain_stop (bL L) m w (by rw [bL_size]; exact hl) hm' (by rw [bL_at L m hm' hm]; omega) (fun k hk => by rw [bL_at L k _ (by omega)]; exact hb k hk)
set_option maxRecDepth 100000 in
set_option maxHeartbeats 1000000 in
theorem counted_big (s : ByteArray) (vv : Nat → Nat) (m : Nat) (w : World) (hl : s.size ≤ 1000) (hd : ∀ k (h : k < s.size), 48 ≤ (s[k]'h).toNat ∧ (s[k]'h).toNat ≤ 57) (h0 : vv 0 = 0) (hs : ∀ k (h : k < s.size), vv (k + 1) = 10 * vv k + ((s[k]'h).toNat - 48)) (hm : m < s.size) (hb : 9223372036854775808 < vv (m + 1)) (hbef : ∀ k, k ≤ m → vv k ≤ 9223372036854775808) :
    Calls Tryd.prog 55 #[.string s] w fun e w' => e = .returned (.tuple #[.int .i64 0, .int .i64 10]) ∧ w = w' := by
  have HD := Lib.hid hd
  have H0 := Lib.hid h0
  have HS := Lib.hid hs
  have HM := Lib.hid hbef
  have HBg := Lib.hid hb
  clear hd h0 hs hbef hb
  go_enter Tryd.func55, Tryd.ntmps55
  go_wp2_with fail
  go_loop [4, 10] (fun n i => ∃ k : Nat, k ≤ m ∧ i = .int .i64 k ∧ n = .int .i64 (-(vv k : Int))) (fun _ i => s.size - (intOf i).toNat)
  case atStart => exact ⟨0, by omega, rfl, by rw [H0.out]; rfl⟩
  case round =>
    obtain ⟨k, hk, rfl, rfl⟩ := hrel
    have hks : k < s.size := by omega
    obtain ⟨d1, d2⟩ := HD.out k hks
    have e1 := HS.out k hks
    have m0 := HM.out k hk
    have w8 : IntKind.u8.wrap (((s[k]'hks).toNat : Int) - 48) = ((s[k]'hks).toNat : Int) - 48 := by rw [IntKind.wrap_u8]; omega
    by_cases h : k < m
    · have m1 := HM.out (k + 1) h
      obtain ⟨V, hV⟩ : ∃ V : Int, -(vv k : Int) = V := ⟨_, rfl⟩
      obtain ⟨U, hU⟩ : ∃ U : Int, -(vv (k + 1) : Int) = U := ⟨_, rfl⟩
      have HU := Lib.hid hU
      have v0 : V ≤ 0 := by omega
      have v1 : -9223372036854775808 ≤ V * 10 := by omega
      have u1 : V * 10 - ((s[k]'hks).toNat - 48) = U := by omega
      have u2 : -9223372036854775808 ≤ U := by omega
      have u3 : U ≤ 0 := by omega
      have f1 := (fit_yes (n := V * 10) (by omega))
      have M2 := (fun w => mul_any V 10 w (by omega) (by omega) (by omega) (by omega))
      rw [f1.1, f1.2] at M2
      have M := Lib.hid M2
      have S2 := fun w => sub_any (V * 10) ((s[k]'hks).toNat - 48) w (by omega) (by omega) (by omega) (by omega)
      have f2 := (fit_yes (n := U) (by omega))
      rw [u1, f2.1, f2.2] at S2
      have S := Lib.hid S2
      rw [hV]
      clear e1 m0 m1 hV hU M2 S2 f1 f2 u1
      go_wp2_with (first
        | (go_at_call 69; refine (M.out _).mono ?_; rintro e w' ⟨rfl, rfl⟩)
        | (go_at_call 56; refine (S.out _).mono ?_; rintro e w' ⟨rfl, rfl⟩))
      go_round
      case rel => exact ⟨k + 1, by omega, by go_num, by rw [HU.out]⟩
      case measure => simp [intOf]; omega
    · obtain rfl : k = m := by omega
      have m1 := HBg.out
      obtain ⟨V, hV⟩ : ∃ V : Int, -(vv k : Int) = V := ⟨_, rfl⟩
      have v0 : V ≤ 0 := by omega
      have v1 : -9223372036854775808 ≤ V := by omega
      have M2 := (fun w => mul_any V 10 w (by omega) (by omega) (by omega) (by omega))
      have u1 : V * 10 - ((s[k]'hks).toNat - 48) < -9223372036854775808 := by omega
      rw [hV]
      by_cases hf : -9223372036854775808 ≤ V * 10
      · have f1 := (fit_yes (n := V * 10) (by omega))
        rw [f1.1, f1.2] at M2
        have M := Lib.hid M2
        have S2 := fun w => sub_any (V * 10) ((s[k]'hks).toNat - 48) w (by omega) (by omega) (by omega) (by omega)
        have f2 := (fit_no (n := V * 10 - ((s[k]'hks).toNat - 48)) (by omega))
        rw [f2.1, f2.2] at S2
        have S := Lib.hid S2
        clear e1 m0 m1 hV M2 S2 f1 f2 u1
        go_wp2_with (first
          | (go_at_call 69; refine (M.out _).mono ?_; rintro e w' ⟨rfl, rfl⟩)
          | (go_at_call 56; refine (S.out _).mono ?_; rintro e w' ⟨rfl, rfl⟩))
        go_ret2
        exact ⟨rfl, rfl⟩
      · have f1 := (fit_no (n := V * 10) (by omega))
        rw [f1.1, f1.2] at M2
        have M := Lib.hid M2
        clear e1 m0 m1 hV M2 f1 u1
        go_wp2_with (go_at_call 69; refine (M.out _).mono ?_; rintro e w' ⟨rfl, rfl⟩)
        go_ret2
        exact ⟨rfl, rfl⟩
theorem countedN_L (L : List UInt8) (w : World) (h : AllD L) (hl : L.length ≤ 1000) (hm : 9223372036854775808 < dval L) :
    Calls Tryd.prog 55 #[.string (bL L)] w fun e w' => e = .returned (.tuple #[.int .i64 0, .int .i64 10]) ∧ w = w' := by
  obtain ⟨k, hk, hp, hb⟩ := first_ix (p := fun k => 9223372036854775808 < dval (L.take k)) L.length (by rw [List.take_length]; exact hm)
  rcases k with _ | k
  · simp [dval_nil] at hp
  · refine counted_big (bL L) (fun k => dval (L.take k)) k w (by rw [bL_size]; exact hl) (dig_at h) rfl
      (fun j hj => by have h' : j < L.length := by rw [← bL_size]; exact hj
                      rw [bL_at L j hj h']; exact take_val h') (by rw [bL_size]; omega) hp (fun j hj => Nat.not_lt.1 (hb j (by omega)))
end Go.Proofs.YtlckgdgmanmbhaaDoor
