/- Lexer: lead, value. -/
import Derived.Test.YthchgjjnlnadnaaRows
import Derived.Test.YthchgjjnlnadnaaRowKit
import Derived.Test.YthchgjjnlnadnaaShelf
import Derived.Test.YthchgjjnlnadnaaBlocks
import Derived.Test.YthchgjjnlnadnaaBL
import Derived.Test.YthchgjjnlnadnaaLexM
import Derived.Test.YthchgjjnlnadnaaLexA
import Derived.WalkKit
import Derived.IntWalk
import Derived.Lib.Hide
import Derived.WalkSpells
import Derived.WalkLawsBesides
import Derived.Laws.IdiomStrings
import Derived.Laws.OwnMore
import Derived.OwnWalk
import Derived.Deep.QuietTactic
import Derived.BigQuiet
import Derived.BigRegion
import Derived.Deep.LoopGhost
namespace Go.Proofs.Ythchgjjnlnadnaa
open Go.RowKit Go.Sort
set_option linter.unusedSimpArgs false
set_option linter.unusedVariables false
/-- lead, by a function that tells of each byte whether it is of a kind -/
theorem tw_at {p : UInt8 → Bool} : ∀ (L : List UInt8) (k : Nat), k < (L.takeWhile p).length → ∃ x, L[k]? = some x ∧ p x = true
  | [], k, h => absurd h (by simp)
  | y :: L, k, h => by
    rw [List.takeWhile_cons] at h
    by_cases q : p y = true
    · rw [if_pos q] at h
      rcases k with _ | k
      · exact ⟨y, rfl, q⟩
      · exact tw_at L k (by simpa using h)
    · rw [if_neg q] at h; simp at h
theorem tw_stop {p : UInt8 → Bool} : ∀ (L : List UInt8) {x : UInt8}, L[(L.takeWhile p).length]? = some x → p x = false
  | [], x, h => by simp at h
  | y :: L, x, h => by
    rw [List.takeWhile_cons] at h
    by_cases q : p y = true
    · rw [if_pos q] at h
      exact tw_stop L (by simpa using h)
    · rw [if_neg q] at h
      simp at h
      rw [← h]; simpa using q
theorem tw_take {p : UInt8 → Bool} (L : List UInt8) : L.take (L.takeWhile p).length = L.takeWhile p := (List.prefix_iff_eq_take.1 (List.takeWhile_prefix p)).symm
theorem tw_len {p : UInt8 → Bool} (L : List UInt8) : (L.takeWhile p).length ≤ L.length := (List.takeWhile_prefix p).length_le
theorem cnt4 (y : UInt8) : cntL 4 y = decide (97 ≤ y.toNat ∧ y.toNat ≤ 122) := by
  unfold cntL kndL
  by_cases h : 97 ≤ y.toNat ∧ y.toNat ≤ 122
  · rw [if_neg (by omega), if_neg (by omega), if_neg (by omega), if_pos h, decide_eq_true h]; rfl
  · rw [decide_eq_false h, if_neg h]
    repeat' split
    all_goals simp
theorem cnt5 (y : UInt8) : cntL 5 y = decide (48 ≤ y.toNat ∧ y.toNat ≤ 57) := by
  unfold cntL kndL
  by_cases h : 48 ≤ y.toNat ∧ y.toNat ≤ 57
  · rw [if_neg (by omega), if_neg (by omega), if_neg (by omega), if_neg (by omega), if_pos h, decide_eq_true h]; rfl
  · rw [decide_eq_false h, if_neg h]
    repeat' split
    all_goals simp
set_option maxRecDepth 100000 in
set_option maxHeartbeats 4000000 in
theorem lead_let (T : List UInt8) (w : World) (hT : T.length ≤ 100000) :
    Calls Try.prog 28 #[.string (bL T), .func (.func 12) #[] #[]] w fun e w' => e = .returned (.string (bL (rnL 4 T))) ∧ w = w' := by
  have HF := Lib.hid (fun (x : UInt8) (W : World) => letter_any x.toNat W)
  have HS : Hid (∀ k, k < (rnL 4 T).length → ∃ x, T[k]? = some x ∧ cntL 4 x = true) := Lib.hid (fun k => tw_at (p := cntL 4) T k)
  have HE : Hid (∀ x, T[(rnL 4 T).length]? = some x → cntL 4 x = false) := Lib.hid (fun x => tw_stop (p := cntL 4) T (x := x))
  have hml : (rnL 4 T).length ≤ T.length := tw_len (p := cntL 4) T
  have hs := bL_size T
  have HX : Hid (∀ k x, T[k]? = some x → ∀ h : k < (bL T).size, ((bL T)[k]'h).toNat = x.toNat) := Lib.hid (fun k x hx => ixL T k x hx)
  have HC : Hid ((bL T).extract 0 (rnL 4 T).length = bL (rnL 4 T)) := Lib.hid (by rw [bL_sub, List.drop_zero, Nat.sub_zero, show T.take (rnL 4 T).length = rnL 4 T from tw_take T])
  obtain ⟨m, hm⟩ : ∃ m, (rnL 4 T).length = m := ⟨_, rfl⟩
  rw [hm] at HS HE hml HC
  obtain ⟨r, hr⟩ : ∃ r, bL (rnL 4 T) = r := ⟨_, rfl⟩
  rw [hr] at HC ⊢
  obtain ⟨s, hss⟩ : ∃ s, bL T = s := ⟨_, rfl⟩
  rw [hss] at hs HX HC ⊢
  have HL : Hid (s.size = T.length) := Lib.hid hs
  have hsz : s.size ≤ 100000 := by omega
  have hms : m ≤ s.size := by omega
  clear hm hr hss hs hml hT
  go_enter Try.func28, Try.ntmps28
  go_wp2_with fail
  go_loopg [5] m (fun gh iv wr => ∃ k : Nat, k ≤ m ∧ gh = m - k ∧ iv = .int .i64 k ∧ w = wr)
  case atStart => exact ⟨0, Nat.zero_le _, rfl, rfl, rfl⟩
  case round =>
    obtain ⟨k, hk, rfl, rfl, rfl⟩ := hrel
    by_cases hkm : k < m
    · obtain ⟨x, hx, hp⟩ := HS.out k hkm
      have kk : k < s.size := by omega
      have g := HX.out k x hx kk
      have KF := Lib.hid (HF.out x w)
      rw [← cnt4, hp] at KF
      obtain ⟨xn, hxn⟩ : ∃ xn, x.toNat = xn := ⟨_, rfl⟩
      rw [hxn] at g KF
      have hki : (k : Int) < (s.size : Int) := by omega
      clear hx hp hxn
      go_wp2_with fail
      refine KF.out.mono ?_
      rintro e w1 ⟨rfl, rfl⟩
      go_wp2_with fail
      go_roundg (m - (k + 1))
      case measure => omega
      case rel => exact ⟨k + 1, by omega, rfl, by go_num, rfl⟩
    · obtain rfl : k = m := by omega
      by_cases hks : k < s.size
      · have hki : (k : Int) < (s.size : Int) := by omega
        obtain ⟨x, hx⟩ : ∃ x, T[k]? = some x := ⟨T[k]'(by rw [← HL.out]; exact hks), List.getElem?_eq_getElem _⟩
        have hp := HE.out x hx
        have g := HX.out k x hx hks
        have KF := Lib.hid (HF.out x w)
        rw [← cnt4, hp] at KF
        obtain ⟨xn, hxn⟩ : ∃ xn, x.toNat = xn := ⟨_, rfl⟩
        rw [hxn] at g KF
        have e1 := HC.out
        clear hx hp hxn
        go_wp2_with fail
        refine KF.out.mono ?_
        rintro e w1 ⟨rfl, rfl⟩
        go_wp2_with fail
        go_ret
        first | exact ⟨rfl, rfl⟩ | exact ⟨by rw [e1], rfl⟩
      · have hki : ¬ (k : Int) < (s.size : Int) := by omega
        have e1 := HC.out
        go_wp2_with fail
        go_ret
        first | exact ⟨rfl, rfl⟩ | exact ⟨by rw [e1], rfl⟩
set_option maxRecDepth 100000 in
set_option maxHeartbeats 4000000 in
theorem lead_dig (T : List UInt8) (w : World) (hT : T.length ≤ 100000) :
    Calls Try.prog 28 #[.string (bL T), .func (.func 13) #[] #[]] w fun e w' => e = .returned (.string (bL (rnL 5 T))) ∧ w = w' := by
  have HF := Lib.hid (fun (x : UInt8) (W : World) => digit_any x.toNat W)
  have HS : Hid (∀ k, k < (rnL 5 T).length → ∃ x, T[k]? = some x ∧ cntL 5 x = true) := Lib.hid (fun k => tw_at (p := cntL 5) T k)
  have HE : Hid (∀ x, T[(rnL 5 T).length]? = some x → cntL 5 x = false) := Lib.hid (fun x => tw_stop (p := cntL 5) T (x := x))
  have hml : (rnL 5 T).length ≤ T.length := tw_len (p := cntL 5) T
  have hs := bL_size T
  have HX : Hid (∀ k x, T[k]? = some x → ∀ h : k < (bL T).size, ((bL T)[k]'h).toNat = x.toNat) := Lib.hid (fun k x hx => ixL T k x hx)
  have HC : Hid ((bL T).extract 0 (rnL 5 T).length = bL (rnL 5 T)) := Lib.hid (by rw [bL_sub, List.drop_zero, Nat.sub_zero, show T.take (rnL 5 T).length = rnL 5 T from tw_take T])
  obtain ⟨m, hm⟩ : ∃ m, (rnL 5 T).length = m := ⟨_, rfl⟩
  rw [hm] at HS HE hml HC
  obtain ⟨r, hr⟩ : ∃ r, bL (rnL 5 T) = r := ⟨_, rfl⟩
  rw [hr] at HC ⊢
  obtain ⟨s, hss⟩ : ∃ s, bL T = s := ⟨_, rfl⟩
  rw [hss] at hs HX HC ⊢
  have HL : Hid (s.size = T.length) := Lib.hid hs
  have hsz : s.size ≤ 100000 := by omega
  have hms : m ≤ s.size := by omega
  clear hm hr hss hs hml hT
  go_enter Try.func28, Try.ntmps28
  go_wp2_with fail
  go_loopg [5] m (fun gh iv wr => ∃ k : Nat, k ≤ m ∧ gh = m - k ∧ iv = .int .i64 k ∧ w = wr)
  case atStart => exact ⟨0, Nat.zero_le _, rfl, rfl, rfl⟩
  case round =>
    obtain ⟨k, hk, rfl, rfl, rfl⟩ := hrel
    by_cases hkm : k < m
    · obtain ⟨x, hx, hp⟩ := HS.out k hkm
      have kk : k < s.size := by omega
      have g := HX.out k x hx kk
      have KF := Lib.hid (HF.out x w)
      rw [← cnt5, hp] at KF
      obtain ⟨xn, hxn⟩ : ∃ xn, x.toNat = xn := ⟨_, rfl⟩
      rw [hxn] at g KF
      have hki : (k : Int) < (s.size : Int) := by omega
      clear hx hp hxn
      go_wp2_with fail
      refine KF.out.mono ?_
      rintro e w1 ⟨rfl, rfl⟩
      go_wp2_with fail
      go_roundg (m - (k + 1))
      case measure => omega
      case rel => exact ⟨k + 1, by omega, rfl, by go_num, rfl⟩
    · obtain rfl : k = m := by omega
      by_cases hks : k < s.size
      · have hki : (k : Int) < (s.size : Int) := by omega
        obtain ⟨x, hx⟩ : ∃ x, T[k]? = some x := ⟨T[k]'(by rw [← HL.out]; exact hks), List.getElem?_eq_getElem _⟩
        have hp := HE.out x hx
        have g := HX.out k x hx hks
        have KF := Lib.hid (HF.out x w)
        rw [← cnt5, hp] at KF
        obtain ⟨xn, hxn⟩ : ∃ xn, x.toNat = xn := ⟨_, rfl⟩
        rw [hxn] at g KF
        have e1 := HC.out
        clear hx hp hxn
        go_wp2_with fail
        refine KF.out.mono ?_
        rintro e w1 ⟨rfl, rfl⟩
        go_wp2_with fail
        go_ret
        first | exact ⟨rfl, rfl⟩ | exact ⟨by rw [e1], rfl⟩
      · have hki : ¬ (k : Int) < (s.size : Int) := by omega
        have e1 := HC.out
        go_wp2_with fail
        go_ret
        first | exact ⟨rfl, rfl⟩ | exact ⟨by rw [e1], rfl⟩
end Go.Proofs.Ythchgjjnlnadnaa
