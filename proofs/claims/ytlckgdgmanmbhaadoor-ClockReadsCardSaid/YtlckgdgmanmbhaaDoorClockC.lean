/- Clock: a text cut at a byte; two digits; a time of day, read. -/
import Derived.Test.YtlckgdgmanmbhaaDoorRows
import Derived.Test.YtlckgdgmanmbhaaDoorRowKit
import Derived.Test.YtlckgdgmanmbhaaDoorShelf
import Derived.Test.YtlckgdgmanmbhaaDoorDigI
import Derived.Test.YtlckgdgmanmbhaaDoorClockB
import Derived.WalkKit
import Derived.IntWalk
import Derived.Lib.Hide
import Derived.Lib.ItoaLen
import Derived.Lib.ItoaMem
import Derived.WalkSpells
import Derived.WalkLawsBesides
import Derived.Laws.IdiomStrings
import Derived.Laws.StructEq
import Derived.Deep.QuietTactic
import Derived.BigQuiet
import Derived.BigRegion
import Derived.Deep.LoopGhost
import Derived.OwnWalk
namespace Go.Proofs.YtlckgdgmanmbhaaDoor
open Go.RowKit Go.Sort
set_option linter.unusedSimpArgs false
set_option linter.unusedVariables false
theorem ixB (P B : List UInt8) (c : UInt8) (h : c ∉ P) : Lib.indexByte (P ++ c :: B) c = P.length := by
  induction P with
  | nil => simp [Lib.indexByte]
  | cons x P ih =>
    have hx : ¬ x = c := fun e => h (by rw [e]; simp)
    have := ih (fun q => h (List.mem_cons_of_mem _ q))
    show (if x == c then 0 else if Lib.indexByte (P ++ c :: B) c == -1 then -1 else Lib.indexByte (P ++ c :: B) c + 1) = _
    rw [if_neg (by simpa using hx), this, if_neg (by simp), List.length_cons]; omega
theorem ixN (P : List UInt8) (c : UInt8) (h : c ∉ P) : Lib.indexByte P c = -1 := by
  induction P with
  | nil => rfl
  | cons x P ih =>
    have hx : ¬ x = c := fun e => h (by rw [e]; simp)
    have := ih (fun q => h (List.mem_cons_of_mem _ q))
    show (if x == c then 0 else if Lib.indexByte P c == -1 then -1 else Lib.indexByte P c + 1) = _
    rw [if_neg (by simpa using hx), this]; rfl
theorem bL_sub (L : List UInt8) (i j : Nat) : (bL L).extract i j = bL ((L.drop i).take (j - i)) := by
  unfold bL
  rw [ByteArray.extract_mk]
  first | done | (congr 1; done) | (congr 1; apply Array.ext'; simp [List.take_drop, List.drop_take])
theorem bL_head (P B : List UInt8) : (bL (P ++ B)).extract 0 P.length = bL P := by
  rw [bL_sub]; simp
theorem bL_rest (P B : List UInt8) (c : UInt8) (n : Nat) (hn : n = (P ++ c :: B).length) : (bL (P ++ c :: B)).extract (P.length + 1) n = bL B := by
  rw [bL_sub, hn]
  congr 1
  rw [show P ++ c :: B = (P ++ [c]) ++ B by simp]
  rw [show P.length + 1 = (P ++ [c]).length by simp, List.drop_left]
  exact List.take_of_length_le (by simp; omega)
set_option maxRecDepth 100000 in
set_option maxHeartbeats 4000000 in
theorem scut_yes (P B : List UInt8) (c : UInt8) (w : World) (h : c ∉ P) (hl : (P ++ c :: B).length ≤ 1000000) :
    Calls Tryd.prog 36 #[.string (bL (P ++ c :: B)), .string ⟨#[c]⟩] w fun e w' => e = .returned (.tuple #[.string (bL P), .string (bL B), .bool true]) ∧ ∃ n, w' = w.drewN n := by
  have HI := Tryd.stringslite_Index_one (bL (P ++ c :: B)) c w
  rw [show (bL (P ++ c :: B)).data.toList = P ++ c :: B from rfl, ixB P B c h] at HI
  have HH := bL_head P (c :: B)
  have HT := bL_rest P B c (bL (P ++ c :: B)).size (bL_size _)
  have hs := bL_size (P ++ c :: B)
  have hP : P.length < (bL (P ++ c :: B)).size := by rw [hs]; simp
  obtain ⟨p, hp⟩ : ∃ p, P.length = p := ⟨_, rfl⟩
  rw [hp] at HI HH HT hP
  have hsl : (bL (P ++ c :: B)).size ≤ 1000000 := by rw [hs]; exact hl
  generalize bL (P ++ c :: B) = s at *
  have HI := Lib.hid HI
  have i0 : (0 : Int) ≤ (p : Int) := by omega
  have i1 : (p : Int) ≤ (s.size : Int) := by omega
  have i2 : (p : Int) + 1 ≤ (s.size : Int) := by omega
  have i3 : p ≤ s.size := by omega
  have i4 : p + 1 ≤ s.size := by omega
  have i5 : ((p : Int) + 1).toNat = p + 1 := by omega
  have i6 : (0 : Int) ≤ (p : Int) + 1 := by omega
  have q1 : IntKind.i64.wrap ((p : Int) + 1) = (p : Int) + 1 := IntWalk.i64_in _ (by omega)
  have q2 : wrap64 ((p : Int) + 1) = (p : Int) + 1 := IntWalk.wrap64_in _ (by omega)
  clear hs hl hp h
  go_enter Tryd.func36, Tryd.ntmps36
  go_wp2_with fail
  refine HI.out.mono ?_
  rintro e w1 ⟨rfl, rfl⟩
  go_wp2_with fail
  go_region
  go_wp2_with fail
  refine bodyPost_ret (v := .tuple #[.string (bL P), .string (bL B), .bool true]) (by simp [results, Tryd.results36, go_sem]) rfl ?_
  exact ⟨rfl, 1, rfl⟩
set_option maxRecDepth 100000 in
set_option maxHeartbeats 4000000 in
theorem scut_no (P : List UInt8) (c : UInt8) (w : World) (h : c ∉ P) :
    Calls Tryd.prog 36 #[.string (bL P), .string ⟨#[c]⟩] w fun e w' => e = .returned (.tuple #[.string (bL P), .string (bL []), .bool false]) ∧ ∃ n, w' = w.drewN n := by
  have HI := Tryd.stringslite_Index_one (bL P) c w
  rw [show (bL P).data.toList = P from rfl, ixN P c h] at HI
  generalize bL P = s at *
  have HI := Lib.hid HI
  go_enter Tryd.func36, Tryd.ntmps36
  go_wp2_with fail
  refine HI.out.mono ?_
  rintro e w1 ⟨rfl, rfl⟩
  go_wp2_with fail
  refine bodyPost_ret (v := .tuple #[.string s, .string (bL []), .bool false]) (by simp [results, Tryd.results36, go_sem, bL]) rfl ?_
  exact ⟨rfl, 0, rfl⟩
theorem cut_of (s a b : ByteArray) (t : Bool) (c : UInt8) (w : World) (H : Calls Tryd.prog 36 #[.string s, .string ⟨#[c]⟩] w fun e w' => e = .returned (.tuple #[.string a, .string b, .bool t]) ∧ ∃ n, w' = w.drewN n) :
    Calls Tryd.prog 19 #[.string s, .string ⟨#[c]⟩] w fun e w' => e = .returned (.tuple #[.string a, .string b, .bool t]) ∧ ∃ n, w' = w.drewN n := by
  have HI := Lib.hid H
  clear H
  go_enter Tryd.func19, Tryd.ntmps19
  go_wp2_with fail
  refine HI.out.mono ?_
  rintro e w1 ⟨rfl, n, rfl⟩
  go_wp2_with fail
  refine bodyPost_ret (v := .tuple #[.string a, .string b, .bool t]) (by simp [results, Tryd.results19, go_sem]) rfl ?_
  exact ⟨rfl, n, rfl⟩
/-- is it a digit? -/
def dgN (x : Nat) : Prop := 48 ≤ x ∧ x ≤ 57
instance (x : Nat) : Decidable (dgN x) := inferInstanceAs (Decidable (_ ∧ _))
def R2 (x y : Nat) (l v : Int) (ok : Bool) : Prop := (dgN x ∧ dgN y → v = 10 * ((x : Int) - 48) + ((y : Int) - 48) ∧ ok = decide (v < l)) ∧ (¬ (dgN x ∧ dgN y) → v = 0 ∧ ok = false)
set_option maxRecDepth 100000 in
set_option maxHeartbeats 4000000 in
theorem two_rd (s : ByteArray) (x y : Nat) (l : Int) (w : World) (hs : s.size = 2) (h0 : ∀ h : 0 < s.size, (s[0]'h).toNat = x) (h1 : ∀ h : 1 < s.size, (s[1]'h).toNat = y) (hx : x < 256) (hy : y < 256) :
    Calls Tryd.prog 39 #[.string s, .int .i64 l] w fun e w' => ∃ v ok, e = .returned (.tuple #[.int .i64 v, .bool ok]) ∧ R2 x y l v ok ∧ w = w' := by
  have g0 := h0 (by omega)
  have g1 := h1 (by omega)
  have k0 : 0 < s.size := by omega
  have k1 : 1 < s.size := by omega
  obtain ⟨R, hR⟩ : ∃ R : Ending → World → Prop, (fun (e : Ending) (w' : World) => ∃ v ok, e = .returned (.tuple #[.int .i64 v, .bool ok]) ∧ R2 x y l v ok ∧ w = w') = R := ⟨_, rfl⟩
  have HNO : Hid (¬ (dgN x ∧ dgN y) → R (.returned (.tuple #[.int .i64 0, .bool false])) w) := Lib.hid (fun h => by rw [← hR]; exact ⟨0, false, rfl, ⟨fun q => absurd q h, fun _ => ⟨rfl, rfl⟩⟩, rfl⟩)
  have HYES : Hid (∀ v : Int, dgN x → dgN y → v = 10 * ((x : Int) - 48) + ((y : Int) - 48) → R (.returned (.tuple #[.int .i64 v, .bool (decide (v < l))])) w) := Lib.hid (fun v hx hy hv => by rw [← hR]; exact ⟨v, _, rfl, ⟨fun _ => ⟨hv, rfl⟩, fun q => absurd ⟨hx, hy⟩ q⟩, rfl⟩)
  rw [hR]
  clear hR h0 h1
  go_enter Tryd.func39, Tryd.ntmps39
  go_wp2_with fail
  go_loop [6, 10] (fun n i => ∃ k : Nat, i = .int .i64 k ∧ ((k = 0 ∧ n = .int .i64 0) ∨ (k = 1 ∧ dgN x ∧ n = .int .i64 ((x : Int) - 48)) ∨ (k = 2 ∧ dgN x ∧ dgN y ∧ n = .int .i64 (10 * ((x : Int) - 48) + ((y : Int) - 48))))) (fun _ i => 2 - (intOf i).toNat)
  case atStart => exact ⟨0, rfl, Or.inl ⟨rfl, rfl⟩⟩
  case round =>
    obtain ⟨k, rfl, D⟩ := hrel
    rcases D with ⟨rfl, rfl⟩ | ⟨rfl, dx, rfl⟩ | ⟨rfl, dx, dy, rfl⟩
    · by_cases dx : dgN x
      · have HX := Lib.hid dx
        obtain ⟨d1, d2⟩ := dx
        have w8 : IntKind.u8.wrap ((x : Int) - 48) = (x : Int) - 48 := by rw [IntKind.wrap_u8]; omega
        have n1 : ¬ x < 48 := by omega
        have n2 : ¬ 57 < x := by omega
        go_wp2_with fail
        go_round
        case rel => exact ⟨1, by go_num, Or.inr (Or.inl ⟨rfl, HX.out, by simp⟩)⟩
        case measure => simp [intOf]
      · have HX := Lib.hid dx
        by_cases n1 : x < 48
        · go_wp2_with fail
          exact HNO.out (fun q => HX.out q.1)
        · have n2 : 57 < x := by unfold dgN at dx; omega
          go_wp2_with fail
          exact HNO.out (fun q => HX.out q.1)
    · have HX := Lib.hid dx
      obtain ⟨e1, e2⟩ := dx
      by_cases dy : dgN y
      · have HY := Lib.hid dy
        obtain ⟨d1, d2⟩ := dy
        have w8 : IntKind.u8.wrap ((y : Int) - 48) = (y : Int) - 48 := by rw [IntKind.wrap_u8]; omega
        have n1 : ¬ y < 48 := by omega
        have n2 : ¬ 57 < y := by omega
        obtain ⟨X, hX⟩ : ∃ X : Int, (x : Int) - 48 = X := ⟨_, rfl⟩
        rw [hX]
        obtain ⟨U, hU⟩ : ∃ U : Int, (y : Int) - 48 = U := ⟨_, rfl⟩
        rw [hU] at w8
        obtain ⟨V, hV⟩ : ∃ V : Int, X * 10 + U = V := ⟨_, rfl⟩
        have q1 : IntKind.i64.wrap (X * 10) = X * 10 := IntWalk.i64_in _ (by omega)
        have q2 : wrap64 (X * 10) = X * 10 := IntWalk.wrap64_in _ (by omega)
        have q3 : IntKind.i64.wrap (X * 10 + U) = V := by rw [hV]; exact IntWalk.i64_in _ (by omega)
        have q4 : wrap64 (X * 10 + U) = V := by rw [hV]; exact IntWalk.wrap64_in _ (by omega)
        have HVV := Lib.hid (show V = 10 * X + U by omega)
        have HU := Lib.hid hU
        have w9 : IntKind.u8.wrap ((y : Int) - 48) = U := by rw [hU]; exact w8
        have w10 : wrap64 U = U := IntWalk.wrap64_in _ (by omega)
        have w11 : IntKind.i64.wrap U = U := IntWalk.i64_in _ (by omega)
        clear hX hV d1 d2 e1 e2
        go_wp2_with fail
        go_round
        case rel => exact ⟨2, by go_num, Or.inr (Or.inr ⟨rfl, HX.out, HY.out, by rw [HVV.out, ← HU.out]⟩)⟩
        case measure => simp [intOf]
      · have HY := Lib.hid dy
        by_cases n1 : y < 48
        · go_wp2_with fail
          exact HNO.out (fun q => HY.out q.2)
        · have n2 : 57 < y := by unfold dgN at dy; omega
          go_wp2_with fail
          exact HNO.out (fun q => HY.out q.2)
    · obtain ⟨V, hV⟩ : ∃ V : Int, 10 * ((x : Int) - 48) + ((y : Int) - 48) = V := ⟨_, rfl⟩
      rw [hV]
      have HF := Lib.hid (HYES.out V dx dy hV.symm)
      clear dx dy hV
      go_wp2_with fail
      exact HF.out
end Go.Proofs.YtlckgdgmanmbhaaDoor
