/- strings.Cut at one byte. -/
import Derived.Test.YthchgjjnlnadnaaRows
import Derived.Test.YthchgjjnlnadnaaRowKit
import Derived.Test.YthchgjjnlnadnaaShelf
import Derived.Test.YthchgjjnlnadnaaBL
import Derived.WalkKit
import Derived.IntWalk
import Derived.Lib.Hide
import Derived.WalkSpells
import Derived.WalkLawsBesides
import Derived.Laws.IdiomStrings
import Derived.Deep.QuietTactic
import Derived.BigQuiet
import Derived.BigRegion
import Derived.OwnWalk
namespace Go.Proofs.Ythchgjjnlnadnaa
open Go.RowKit Go.Sort
set_option linter.unusedSimpArgs false
set_option linter.unusedVariables false
theorem ixB (P B : List UInt8) (c : UInt8) (h : c ∉ P) : Lib.indexByte (P ++ c :: B) c = P.length := by
  induction P with
  | nil => simp [Lib.indexByte]
  | cons x P ih =>
    have hx : ¬ x = c := fun e => h (by rw [e]; simp)
    have := ih (fun q => h (List.mem_cons_of_mem _ q))
    show (if x == c then 0 else if Lib.indexByte (P ++ c :: B) c == -1 then -1 else Lib.indexByte (P ++ c :: B) c + 1) = _
    rw [if_neg (by simpa using hx), this, if_neg (by simp), List.length_cons]; omega
theorem ixN (P : List UInt8) (c : UInt8) (h : c ∉ P) : Lib.indexByte P c = -1 := by
  induction P with
  | nil => rfl
  | cons x P ih =>
    have hx : ¬ x = c := fun e => h (by rw [e]; simp)
    have := ih (fun q => h (List.mem_cons_of_mem _ q))
    show (if x == c then 0 else if Lib.indexByte P c == -1 then -1 else Lib.indexByte P c + 1) = _
    rw [if_neg (by simpa using hx), this]; rfl
set_option maxRecDepth 100000 in
set_option maxHeartbeats 4000000 in
theorem scut_yes (P B : List UInt8) (c : UInt8) (w : World) (h : c ∉ P) (hl : (P ++ c :: B).length ≤ 1000000) :
    Calls Try.prog 21 #[.string (bL (P ++ c :: B)), .string ⟨#[c]⟩] w fun e w' => e = .returned (.tuple #[.string (bL P), .string (bL B), .bool true]) ∧ ∃ n, w' = w.drewN n := by
  have HI := Try.stringslite_Index_one (bL (P ++ c :: B)) c w
  rw [show (bL (P ++ c :: B)).data.toList = P ++ c :: B from rfl, ixB P B c h] at HI
  have HH := bL_head P (c :: B)
  have HT := bL_rest P B c (bL (P ++ c :: B)).size (bL_size _)
  have hs := bL_size (P ++ c :: B)
  have hP : P.length < (bL (P ++ c :: B)).size := by rw [hs]; simp
  obtain ⟨p, hp⟩ : ∃ p, P.length = p := ⟨_, rfl⟩
  rw [hp] at HI HH HT hP
  have hsl : (bL (P ++ c :: B)).size ≤ 1000000 := by rw [hs]; exact hl
  generalize bL (P ++ c :: B) = s at *
  have HI := Lib.hid HI
  have i0 : (0 : Int) ≤ (p : Int) := by omega
  have i1 : (p : Int) ≤ (s.size : Int) := by omega
  have i2 : (p : Int) + 1 ≤ (s.size : Int) := by omega
  have i3 : p ≤ s.size := by omega
  have i4 : p + 1 ≤ s.size := by omega
  have i5 : ((p : Int) + 1).toNat = p + 1 := by omega
  have i6 : (0 : Int) ≤ (p : Int) + 1 := by omega
  have q1 : IntKind.i64.wrap ((p : Int) + 1) = (p : Int) + 1 := IntWalk.i64_in _ (by omega)
  have q2 : wrap64 ((p : Int) + 1) = (p : Int) + 1 := IntWalk.wrap64_in _ (by omega)
  clear hs hl hp h
  go_enter Try.func21, Try.ntmps21
  go_wp2_with fail
  refine HI.out.mono ?_
  rintro e w1 ⟨rfl, rfl⟩
  go_wp2_with fail
  go_region
  go_wp2_with fail
  refine bodyPost_ret (v := .tuple #[.string (bL P), .string (bL B), .bool true]) (by simp [results, Try.results21, go_sem]) rfl ?_
  exact ⟨rfl, 1, rfl⟩
set_option maxRecDepth 100000 in
set_option maxHeartbeats 4000000 in
theorem scut_no (P : List UInt8) (c : UInt8) (w : World) (h : c ∉ P) :
    Calls Try.prog 21 #[.string (bL P), .string ⟨#[c]⟩] w fun e w' => e = .returned (.tuple #[.string (bL P), .string (bL []), .bool false]) ∧ ∃ n, w' = w.drewN n := by
  have HI := Try.stringslite_Index_one (bL P) c w
  rw [show (bL P).data.toList = P from rfl, ixN P c h] at HI
  generalize bL P = s at *
  have HI := Lib.hid HI
  go_enter Try.func21, Try.ntmps21
  go_wp2_with fail
  refine HI.out.mono ?_
  rintro e w1 ⟨rfl, rfl⟩
  go_wp2_with fail
  refine bodyPost_ret (v := .tuple #[.string s, .string (bL []), .bool false]) (by simp [results, Try.results21, go_sem, bL]) rfl ?_
  exact ⟨rfl, 0, rfl⟩
theorem cut_of (s a b : ByteArray) (t : Bool) (c : UInt8) (w : World) (H : Calls Try.prog 21 #[.string s, .string ⟨#[c]⟩] w fun e w' => e = .returned (.tuple #[.string a, .string b, .bool t]) ∧ ∃ n, w' = w.drewN n) :
    Calls Try.prog 15 #[.string s, .string ⟨#[c]⟩] w fun e w' => e = .returned (.tuple #[.string a, .string b, .bool t]) ∧ ∃ n, w' = w.drewN n := by
  have HI := Lib.hid H
  clear H
  go_enter Try.func15, Try.ntmps15
  go_wp2_with fail
  refine HI.out.mono ?_
  rintro e w1 ⟨rfl, n, rfl⟩
  go_wp2_with fail
  refine bodyPost_ret (v := .tuple #[.string a, .string b, .bool t]) (by simp [results, Try.results15, go_sem]) rfl ?_
  exact ⟨rfl, n, rfl⟩
end Go.Proofs.Ythchgjjnlnadnaa
