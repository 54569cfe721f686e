/- Contracts of digits.Read and of the document's form and Read at any text. -/
import Derived.Test.YtlckgdgmanmbhaaDoorRows
import Derived.Test.YtlckgdgmanmbhaaDoorRowKit
import Derived.Test.YtlckgdgmanmbhaaDoorShelf
import Derived.Test.YtlckgdgmanmbhaaDoorNumsMath
import Derived.Test.YtlckgdgmanmbhaaDoorNumsA
import Derived.Test.YtlckgdgmanmbhaaDoorNumsB
import Derived.Test.YtlckgdgmanmbhaaDoorDigMath
import Derived.Test.YtlckgdgmanmbhaaDoorDigC
import Derived.Test.YtlckgdgmanmbhaaDoorDigD
import Derived.Test.YtlckgdgmanmbhaaDoorDigF
import Derived.WalkKit
import Derived.IntWalk
import Derived.Lib.Hide
import Derived.Lib.ItoaLen
import Derived.Lib.ItoaMem
import Derived.WalkSpells
import Derived.WalkLawsBesides
import Derived.Laws.IdiomStrings
import Derived.Laws.StructEq
import Derived.Deep.QuietTactic
import Derived.BigQuiet
namespace Go.Proofs.YtlckgdgmanmbhaaDoor
open Go.RowKit Go.Sort
set_option linter.unusedSimpArgs false
set_option linter.unusedVariables false
/-- no stroke ahead -/
def NoM (L : List UInt8) : Prop := ∀ T, L ≠ 45 :: T
theorem pre_nom {L : List UInt8} (h : NoM L) : Lib.hasPrefix L [45] = false ∧ Lib.trimPrefix L [45] = L := by
  have e : Lib.hasPrefix L [45] = false := by
    cases L with
    | nil => rfl
    | cons x t =>
      show ([45] : List UInt8).isPrefixOf (x :: t) = false
      have hx : ((45 : UInt8) == x) = false := by
        rw [beq_eq_false_iff_ne]; intro e; exact h t (by rw [← e])
      simp [List.isPrefixOf, hx]
  exact ⟨e, by unfold Lib.trimPrefix; rw [e]; rfl⟩
theorem cut_nom (L : List UInt8) (w : World) (h : NoM L) :
    Calls Tryd.prog 53 #[.string (bL L), .string ⟨#[45]⟩] w fun e w' => e = .returned (.tuple #[.string (bL L), .bool false]) ∧ w = w' :=
  (Tryd.strings_CutPrefix (bL L) ⟨#[45]⟩ w).mono fun e w' ⟨h1, h2⟩ => ⟨by
    rw [h1]
    show Ending.returned (.tuple #[.string ⟨(Lib.trimPrefix L [45]).toArray⟩, .bool (Lib.hasPrefix L [45])]) = _
    rw [(pre_nom h).1, (pre_nom h).2]; rfl, h2.symm⟩
set_option maxRecDepth 100000 in
set_option maxHeartbeats 1000000 in
/-- what is behind the stroke, if there is one, is no plain number: no number -/
theorem read_form (s t : ByteArray) (b : Bool) (w : World)
    (h1 : Calls Tryd.prog 53 #[.string s, .string ⟨#[45]⟩] w fun e w' => e = .returned (.tuple #[.string t, .bool b]) ∧ w = w')
    (h2 : Calls Tryd.prog 54 #[.string t] w fun e w' => e = .returned (.bool false) ∧ w = w') :
    Calls Tryd.prog 37 #[.string s] w fun e w' => e = .returned (.tuple #[.int .i64 0, .int .i64 20]) ∧ w = w' := by
  have H1 := Lib.hid h1
  have H2 := Lib.hid h2
  clear h1 h2
  go_enter Tryd.func37, Tryd.ntmps37
  go_wp2_with (first
    | (go_at_call 53; refine H1.out.mono ?_; rintro e w' ⟨rfl, rfl⟩)
    | (go_at_call 54; refine H2.out.mono ?_; rintro e w' ⟨rfl, rfl⟩))
  go_ret2
  exact ⟨rfl, rfl⟩
set_option maxRecDepth 100000 in
set_option maxHeartbeats 1000000 in
/-- a nought with a stroke -/
theorem read_nought (s t : ByteArray) (w : World) (p : (t.toList == [48]) = true)
    (h1 : Calls Tryd.prog 53 #[.string s, .string ⟨#[45]⟩] w fun e w' => e = .returned (.tuple #[.string t, .bool true]) ∧ w = w')
    (h2 : Calls Tryd.prog 54 #[.string t] w fun e w' => e = .returned (.bool true) ∧ w = w') :
    Calls Tryd.prog 37 #[.string s] w fun e w' => e = .returned (.tuple #[.int .i64 0, .int .i64 20]) ∧ w = w' := by
  have H1 := Lib.hid h1
  have H2 := Lib.hid h2
  clear h1 h2
  go_enter Tryd.func37, Tryd.ntmps37
  go_wp2_with (first
    | (go_at_call 53; refine H1.out.mono ?_; rintro e w' ⟨rfl, rfl⟩)
    | (go_at_call 54; refine H2.out.mono ?_; rintro e w' ⟨rfl, rfl⟩))
  go_ret2
  exact ⟨rfl, rfl⟩
set_option maxRecDepth 100000 in
set_option maxHeartbeats 1000000 in
/-- too great a number -/
theorem read_big (s t : ByteArray) (b : Bool) (w : World) (p : b = true → (t.toList == [48]) = false)
    (h1 : Calls Tryd.prog 53 #[.string s, .string ⟨#[45]⟩] w fun e w' => e = .returned (.tuple #[.string t, .bool b]) ∧ w = w')
    (h2 : Calls Tryd.prog 54 #[.string t] w fun e w' => e = .returned (.bool true) ∧ w = w')
    (h3 : Calls Tryd.prog 55 #[.string t] w fun e w' => e = .returned (.tuple #[.int .i64 0, .int .i64 10]) ∧ w = w') :
    Calls Tryd.prog 37 #[.string s] w fun e w' => e = .returned (.tuple #[.int .i64 0, .int .i64 10]) ∧ w = w' := by
  have H1 := Lib.hid h1
  have H2 := Lib.hid h2
  have H3 := Lib.hid h3
  clear h1 h2 h3
  cases b with
  | false =>
    clear p
    go_enter Tryd.func37, Tryd.ntmps37
    go_wp2_with (first
      | (go_at_call 53; refine H1.out.mono ?_; rintro e w' ⟨rfl, rfl⟩)
      | (go_at_call 54; refine H2.out.mono ?_; rintro e w' ⟨rfl, rfl⟩)
      | (go_at_call 55; refine H3.out.mono ?_; rintro e w' ⟨rfl, rfl⟩))
    go_ret2
    exact ⟨rfl, rfl⟩
  | true =>
    have p' := p rfl
    clear p
    go_enter Tryd.func37, Tryd.ntmps37
    go_wp2_with (first
      | (go_at_call 53; refine H1.out.mono ?_; rintro e w' ⟨rfl, rfl⟩)
      | (go_at_call 54; refine H2.out.mono ?_; rintro e w' ⟨rfl, rfl⟩)
      | (go_at_call 55; refine H3.out.mono ?_; rintro e w' ⟨rfl, rfl⟩))
    go_ret2
    exact ⟨rfl, rfl⟩
set_option maxRecDepth 100000 in
set_option maxHeartbeats 1000000 in
/-- 2^63 without a stroke -/
theorem read_edge (s : ByteArray) (w : World)
    (h1 : Calls Tryd.prog 53 #[.string s, .string ⟨#[45]⟩] w fun e w' => e = .returned (.tuple #[.string s, .bool false]) ∧ w = w')
    (h2 : Calls Tryd.prog 54 #[.string s] w fun e w' => e = .returned (.bool true) ∧ w = w')
    (h3 : Calls Tryd.prog 55 #[.string s] w fun e w' => e = .returned (.tuple #[.int .i64 (-9223372036854775808), .int .i64 0]) ∧ w = w') :
    Calls Tryd.prog 37 #[.string s] w fun e w' => e = .returned (.tuple #[.int .i64 0, .int .i64 10]) ∧ w = w' := by
  have H1 := Lib.hid h1
  have H2 := Lib.hid h2
  have H3 := Lib.hid h3
  have H4 := sub_any 0 (-9223372036854775808) w (by omega) (by omega) (by omega) (by omega)
  have f := fit_no (n := 0 - (-9223372036854775808)) (by omega)
  rw [f.1, f.2] at H4
  have H4 := Lib.hid H4
  clear h1 h2 h3 f
  go_enter Tryd.func37, Tryd.ntmps37
  go_wp2_with (first
    | (go_at_call 53; refine H1.out.mono ?_; rintro e w' ⟨rfl, rfl⟩)
    | (go_at_call 54; refine H2.out.mono ?_; rintro e w' ⟨rfl, rfl⟩)
    | (go_at_call 55; refine H3.out.mono ?_; rintro e w' ⟨rfl, rfl⟩)
    | (go_at_call 56; refine H4.out.mono ?_; rintro e w' ⟨rfl, rfl⟩))
  go_ret2
  exact ⟨rfl, rfl⟩
/-- the text behind a stroke -/
theorem bL_tail (x : UInt8) (T : List UInt8) : (bL (x :: T)).extract 1 (bL (x :: T)).size = bL T := by
  rw [bL_size]
  unfold bL
  rw [ByteArray.extract_mk]
  simp
set_option maxRecDepth 100000 in
set_option maxHeartbeats 1000000 in
/-- the loop of the document's form over digits alone -/
theorem rform_plain (s : ByteArray) (w : World) (hl : s.size ≤ 1000) (h1 : (s.toList == [48]) = false) (h0 : 0 < s.size) (hm : ∀ h : 0 < s.size, (s[0]'h).toNat ≠ 45) (b : Bool) (hb : ∀ h : 0 < s.size, (((s[0]'h).toNat : Int) != 48) = b) (hd : ∀ k (h : k < s.size), 48 ≤ (s[k]'h).toNat ∧ (s[k]'h).toNat ≤ 57) :
    Calls Tryd.prog 42 #[.string s] w fun e w' => e = .returned (.bool b) ∧ w = w' := by
  have HD := Lib.hid hd
  have m0 : (((s[0]'h0).toNat : Int) == 45) = false := by rw [beq_eq_false_iff_ne]; have := hm h0; omega
  have HB := Lib.hid (hb h0)
  clear hd hm hb
  go_enter Tryd.func42, Tryd.ntmps42
  go_wp2_with fail
  go_loop [3] (fun i => ∃ k : Nat, k ≤ s.size ∧ i = .int .i64 k) (fun i => s.size - (intOf i).toNat)
  case atStart => exact ⟨0, by omega, rfl⟩
  case round =>
    obtain ⟨k, hk, rfl⟩ := hrel
    by_cases h : k < s.size
    · obtain ⟨d1, d2⟩ := HD.out k h
      go_wp2_with fail
      go_round
      case rel => exact ⟨k + 1, by omega, by go_num⟩
      case measure => simp [intOf]; omega
    · obtain rfl : k = s.size := by omega
      have hb' := HB.out
      go_wp2_with fail
      go_ret
      exact ⟨by first | rfl | simp [hb'], rfl⟩
end Go.Proofs.YtlckgdgmanmbhaaDoor
