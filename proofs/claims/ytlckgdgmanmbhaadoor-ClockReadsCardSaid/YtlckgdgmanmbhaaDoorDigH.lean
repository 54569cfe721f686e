/- Contracts of the document's form and Read at any text. -/
import Derived.Test.YtlckgdgmanmbhaaDoorRows
import Derived.Test.YtlckgdgmanmbhaaDoorRowKit
import Derived.Test.YtlckgdgmanmbhaaDoorShelf
import Derived.Test.YtlckgdgmanmbhaaDoorNumsMath
import Derived.Test.YtlckgdgmanmbhaaDoorNumsA
import Derived.Test.YtlckgdgmanmbhaaDoorNumsB
import Derived.Test.YtlckgdgmanmbhaaDoorDigMath
import Derived.Test.YtlckgdgmanmbhaaDoorDigC
import Derived.Test.YtlckgdgmanmbhaaDoorDigD
import Derived.Test.YtlckgdgmanmbhaaDoorDigF
import Derived.Test.YtlckgdgmanmbhaaDoorDigG
import Derived.WalkKit
import Derived.IntWalk
import Derived.Lib.Hide
import Derived.Lib.ItoaLen
import Derived.Lib.ItoaMem
import Derived.WalkSpells
import Derived.WalkLawsBesides
import Derived.Laws.IdiomStrings
import Derived.Laws.StructEq
import Derived.Deep.QuietTactic
import Derived.BigQuiet
namespace Go.Proofs.YtlckgdgmanmbhaaDoor
open Go.RowKit Go.Sort
set_option linter.unusedSimpArgs false
set_option linter.unusedVariables false
set_option maxRecDepth 100000 in
set_option maxHeartbeats 1000000 in
theorem rform_zero (s : ByteArray) (w : World) (h1 : (s.toList == [48]) = true) :
    Calls Tryd.prog 42 #[.string s] w fun e w' => e = .returned (.bool true) ∧ w = w' := by
  go_enter Tryd.func42, Tryd.ntmps42
  go_wp2_with fail
  go_ret
  exact ⟨rfl, rfl⟩
set_option maxRecDepth 100000 in
set_option maxHeartbeats 1000000 in
theorem rform_none (s : ByteArray) (w : World) (h1 : (s.toList == [48]) = false) (h0 : s.size = 0) :
    Calls Tryd.prog 42 #[.string s] w fun e w' => e = .returned (.bool false) ∧ w = w' := by
  go_enter Tryd.func42, Tryd.ntmps42
  go_wp2_with fail
  go_loop [3] (fun i => i = .int .i64 0) (fun i => 0)
  case atStart => exact rfl
  case round =>
    obtain rfl := hrel
    go_wp2_with fail
    go_ret
    exact ⟨rfl, rfl⟩
set_option maxRecDepth 100000 in
set_option maxHeartbeats 1000000 in
theorem rform_stop (s : ByteArray) (m : Nat) (w : World) (hl : s.size ≤ 1000) (h1 : (s.toList == [48]) = false) (h0 : 0 < s.size) (hm0 : (s[0]'h0).toNat ≠ 45) (hm : m < s.size) (hx : (s[m]'hm).toNat < 48 ∨ 57 < (s[m]'hm).toNat) (hd : ∀ k (h : k < m), 48 ≤ (s[k]'(by omega)).toNat ∧ (s[k]'(by omega)).toNat ≤ 57) :
    Calls Tryd.prog 42 #[.string s] w fun e w' => e = .returned (.bool false) ∧ w = w' := by
  have HD := Lib.hid hd
  have HX := Lib.hid hx
  have m0 : (((s[0]'h0).toNat : Int) == 45) = false := by rw [beq_eq_false_iff_ne]; omega
  clear hd hx hm0
  go_enter Tryd.func42, Tryd.ntmps42
  go_wp2_with fail
  go_loop [3] (fun i => ∃ k : Nat, k ≤ m ∧ i = .int .i64 k) (fun i => s.size - (intOf i).toNat)
  case atStart => exact ⟨0, by omega, rfl⟩
  case round =>
    obtain ⟨k, hk, rfl⟩ := hrel
    by_cases h : k < m
    · obtain ⟨d1, d2⟩ := HD.out k h
      have hks : k < s.size := by omega
      go_wp2_with fail
      go_round
      case rel => exact ⟨k + 1, by omega, by go_num⟩
      case measure => simp [intOf]; omega
    · obtain rfl : k = m := by omega
      rcases HX.out with x | x
      · go_wp2_with fail
        go_ret
        exact ⟨rfl, rfl⟩
      · have x2 : ¬ (s[k]'hm).toNat < 48 := by omega
        go_wp2_with fail
        go_ret
        exact ⟨rfl, rfl⟩
set_option maxRecDepth 100000 in
set_option maxHeartbeats 1000000 in
theorem rforms_none (s t : ByteArray) (w : World) (hl : t.size ≤ 1000) (h1 : (s.toList == [48]) = false) (h0 : 0 < s.size) (hs0 : (s[0]'h0).toNat = 45) (hx0 : s.extract 1 s.size = t) (ht : t.size = 0) :
    Calls Tryd.prog 42 #[.string s] w fun e w' => e = .returned (.bool false) ∧ w = w' := by
  have m0 : (((s[0]'h0).toNat : Int) == 45) = true := by rw [beq_iff_eq]; omega
  have h01 : 1 ≤ s.size := h0
  clear hs0
  go_enter Tryd.func42, Tryd.ntmps42
  go_wp2_with fail
  go_loop [3] (fun i => i = .int .i64 0) (fun i => 0)
  case atStart => exact rfl
  case round =>
    obtain rfl := hrel
    go_wp2_with fail
    go_ret
    exact ⟨rfl, rfl⟩
set_option maxRecDepth 100000 in
set_option maxHeartbeats 1000000 in
theorem rforms_plain (s t : ByteArray) (w : World) (hl : t.size ≤ 1000) (h1 : (s.toList == [48]) = false) (h0 : 0 < s.size) (hs0 : (s[0]'h0).toNat = 45) (hx0 : s.extract 1 s.size = t) (t0 : 0 < t.size) (b : Bool) (hb : (((t[0]'t0).toNat : Int) != 48) = b) (hd : ∀ k (h : k < t.size), 48 ≤ (t[k]'h).toNat ∧ (t[k]'h).toNat ≤ 57) :
    Calls Tryd.prog 42 #[.string s] w fun e w' => e = .returned (.bool b) ∧ w = w' := by
  have m0 : (((s[0]'h0).toNat : Int) == 45) = true := by rw [beq_iff_eq]; omega
  have h01 : 1 ≤ s.size := h0
  clear hs0
  have HD := Lib.hid hd
  have HB := Lib.hid hb
  clear hd hb
  go_enter Tryd.func42, Tryd.ntmps42
  go_wp2_with fail
  go_loop [3] (fun i => ∃ k : Nat, k ≤ t.size ∧ i = .int .i64 k) (fun i => t.size - (intOf i).toNat)
  case atStart => exact ⟨0, by omega, rfl⟩
  case round =>
    obtain ⟨k, hk, rfl⟩ := hrel
    by_cases h : k < t.size
    · obtain ⟨d1, d2⟩ := HD.out k h
      go_wp2_with fail
      go_round
      case rel => exact ⟨k + 1, by omega, by go_num⟩
      case measure => simp [intOf]; omega
    · obtain rfl : k = t.size := by omega
      have hb' := HB.out
      go_wp2_with fail
      go_ret
      exact ⟨by first | rfl | simp [hb'], rfl⟩
set_option maxRecDepth 100000 in
set_option maxHeartbeats 1000000 in
theorem rforms_stop (s t : ByteArray) (m : Nat) (w : World) (hl : t.size ≤ 1000) (h1 : (s.toList == [48]) = false) (h0 : 0 < s.size) (hs0 : (s[0]'h0).toNat = 45) (hx0 : s.extract 1 s.size = t) (hm : m < t.size) (hx : (t[m]'hm).toNat < 48 ∨ 57 < (t[m]'hm).toNat) (hd : ∀ k (h : k < m), 48 ≤ (t[k]'(by omega)).toNat ∧ (t[k]'(by omega)).toNat ≤ 57) :
    Calls Tryd.prog 42 #[.string s] w fun e w' => e = .returned (.bool false) ∧ w = w' := by
  have m0 : (((s[0]'h0).toNat : Int) == 45) = true := by rw [beq_iff_eq]; omega
  have h01 : 1 ≤ s.size := h0
  clear hs0
  have HD := Lib.hid hd
  have HX := Lib.hid hx
  clear hd hx
  go_enter Tryd.func42, Tryd.ntmps42
  go_wp2_with fail
  go_loop [3] (fun i => ∃ k : Nat, k ≤ m ∧ i = .int .i64 k) (fun i => t.size - (intOf i).toNat)
  case atStart => exact ⟨0, by omega, rfl⟩
  case round =>
    obtain ⟨k, hk, rfl⟩ := hrel
    by_cases h : k < m
    · obtain ⟨d1, d2⟩ := HD.out k h
      have hks : k < t.size := by omega
      go_wp2_with fail
      go_round
      case rel => exact ⟨k + 1, by omega, by go_num⟩
      case measure => simp [intOf]; omega
    · obtain rfl : k = m := by omega
      rcases HX.out with x | x
      · go_wp2_with fail
        go_ret
        exact ⟨rfl, rfl⟩
      · have x2 : ¬ (t[k]'hm).toNat < 48 := by omega
        go_wp2_with fail
        go_ret
        exact ⟨rfl, rfl⟩
set_option maxRecDepth 100000 in
set_option maxHeartbeats 1000000 in
theorem rread_form (s : ByteArray) (w : World) (hf : Calls Tryd.prog 42 #[.string s] w fun e w' => e = .returned (.bool false) ∧ w = w') :
    Calls Tryd.prog 23 #[.string s] w fun e w' => e = .returned (.tuple #[.int .i64 0, .int .i64 20]) ∧ w = w' := by
  have HF := Lib.hid hf
  clear hf
  go_enter Tryd.func23, Tryd.ntmps23
  go_wp2_with (go_at_call 42; refine HF.out.mono ?_; rintro e w' ⟨rfl, rfl⟩)
  go_ret2
  exact ⟨rfl, rfl⟩
set_option maxRecDepth 100000 in
set_option maxHeartbeats 1000000 in
theorem rreadn_long (s : ByteArray) (w : World) (h0 : 0 < s.size) (hs0 : (s[0]'h0).toNat ≠ 45) (hf : Calls Tryd.prog 42 #[.string s] w fun e w' => e = .returned (.bool true) ∧ w = w') (hl : 19 < s.size) (hl2 : s.size ≤ 1000) :
    Calls Tryd.prog 23 #[.string s] w fun e w' => e = .returned (.tuple #[.int .i64 0, .int .i64 10]) ∧ w = w' := by
  have HF := Lib.hid hf
  clear hf
  have m0 : (((s[0]'h0).toNat : Int) == 45) = false := by rw [beq_eq_false_iff_ne]; omega
  have h01 : 1 ≤ s.size := h0
  clear hs0
  go_enter Tryd.func23, Tryd.ntmps23
  go_wp2_with (go_at_call 42; refine HF.out.mono ?_; rintro e w' ⟨rfl, rfl⟩)
  go_ret2
  exact ⟨rfl, rfl⟩
set_option maxRecDepth 100000 in
set_option maxHeartbeats 1000000 in
theorem rreadn_more (s : ByteArray) (w : World) (h0 : 0 < s.size) (hs0 : (s[0]'h0).toNat ≠ 45) (hf : Calls Tryd.prog 42 #[.string s] w fun e w' => e = .returned (.bool true) ∧ w = w') (hl : s.size = 19) (g1 : Op.bytesLess s.toList [57, 50, 50, 51, 51, 55, 50, 48, 51, 54, 56, 53, 52, 55, 55, 53, 56, 48, 55] = false) (g2 : (s.toList == [57, 50, 50, 51, 51, 55, 50, 48, 51, 54, 56, 53, 52, 55, 55, 53, 56, 48, 55]) = false) :
    Calls Tryd.prog 23 #[.string s] w fun e w' => e = .returned (.tuple #[.int .i64 0, .int .i64 10]) ∧ w = w' := by
  have HF := Lib.hid hf
  clear hf
  have m0 : (((s[0]'h0).toNat : Int) == 45) = false := by rw [beq_eq_false_iff_ne]; omega
  have h01 : 1 ≤ s.size := h0
  clear hs0
  go_enter Tryd.func23, Tryd.ntmps23
  go_wp2_with (go_at_call 42; refine HF.out.mono ?_; rintro e w' ⟨rfl, rfl⟩)
  go_ret2
  exact ⟨rfl, rfl⟩
set_option maxRecDepth 100000 in
set_option maxHeartbeats 1000000 in
theorem rreadn_few (s : ByteArray) (w : World) (h0 : 0 < s.size) (hs0 : (s[0]'h0).toNat ≠ 45) (vv : Nat → Nat) (hf : Calls Tryd.prog 42 #[.string s] w fun e w' => e = .returned (.bool true) ∧ w = w') (hl : s.size < 19) (hd : ∀ k (h : k < s.size), 48 ≤ (s[k]'h).toNat ∧ (s[k]'h).toNat ≤ 57) (hv0 : vv 0 = 0) (hvs : ∀ k (h : k < s.size), vv (k + 1) = 10 * vv k + ((s[k]'h).toNat - 48)) (hm : ∀ k, k ≤ s.size → vv k ≤ 9223372036854775807) :
    Calls Tryd.prog 23 #[.string s] w fun e w' => e = .returned (.tuple #[.int .i64 (vv s.size : Int), .int .i64 0]) ∧ w = w' := by
  have HF := Lib.hid hf
  have HD := Lib.hid hd
  have H0 := Lib.hid hv0
  have HS := Lib.hid hvs
  have HM := Lib.hid hm
  clear hf hd hv0 hvs hm
  have m0 : (((s[0]'h0).toNat : Int) == 45) = false := by rw [beq_eq_false_iff_ne]; omega
  have h01 : 1 ≤ s.size := h0
  clear hs0
  go_enter Tryd.func23, Tryd.ntmps23
  go_wp2_with (go_at_call 42; refine HF.out.mono ?_; rintro e w' ⟨rfl, rfl⟩)
  go_loop [7, 8] (fun n i => ∃ k : Nat, k ≤ s.size ∧ i = .int .i64 k ∧ n = .int .u64 (vv k)) (fun _ i => s.size - (intOf i).toNat)
  case atStart => exact ⟨0, by omega, rfl, by rw [H0.out]; rfl⟩
  case round =>
    obtain ⟨k, hk, rfl, rfl⟩ := hrel
    by_cases h : k < s.size
    · obtain ⟨d1, d2⟩ := HD.out k h
      have e1 := HS.out k h
      have m1 := HM.out (k + 1) h
      have m2 := HM.out k hk
      obtain ⟨V, hV⟩ : ∃ V : Int, (vv k : Int) = V := ⟨_, rfl⟩
      obtain ⟨U, hU⟩ : ∃ U : Int, (vv (k + 1) : Int) = U := ⟨_, rfl⟩
      have HU := Lib.hid hU
      have v0 : 0 ≤ V := by omega
      have v1 : V ≤ 922337203685477581 := by omega
      have u1 : 10 * V + ((s[k]'h).toNat - 48) = U := by omega
      have w8 : IntKind.u8.wrap (((s[k]'h).toNat : Int) - 48) = ((s[k]'h).toNat : Int) - 48 := by rw [IntKind.wrap_u8]; omega
      rw [hV]
      have U1 := Lib.hid u1
      clear e1 m1 m2 hV hU u1
      go_wp2_with fail
      go_round
      case rel => exact ⟨k + 1, by omega, by go_num, by rw [HU.out, ← U1.out]⟩
      case measure => simp [intOf]; omega
    · obtain rfl : k = s.size := by omega
      have m1 := HM.out s.size (Nat.le_refl _)
      obtain ⟨V, hV⟩ : ∃ V : Int, (vv s.size : Int) = V := ⟨_, rfl⟩
      have v0 : 0 ≤ V := by omega
      have v1 : V ≤ 9223372036854775807 := by omega
      have HV := Lib.hid hV
      rw [hV]
      clear hV m1
      go_wp2_with fail
      go_ret2
      refine ⟨?_, rfl⟩
      first | (rw [HV.out]; rfl) | (have h5 := HV.out; rw [hl] at h5; rw [h5]; rfl)
set_option maxRecDepth 100000 in
set_option maxHeartbeats 1000000 in
theorem rreadn_eq (s : ByteArray) (w : World) (h0 : 0 < s.size) (hs0 : (s[0]'h0).toNat ≠ 45) (vv : Nat → Nat) (hf : Calls Tryd.prog 42 #[.string s] w fun e w' => e = .returned (.bool true) ∧ w = w') (hl : s.size = 19) (g : (Op.bytesLess s.toList [57, 50, 50, 51, 51, 55, 50, 48, 51, 54, 56, 53, 52, 55, 55, 53, 56, 48, 55] || s.toList == [57, 50, 50, 51, 51, 55, 50, 48, 51, 54, 56, 53, 52, 55, 55, 53, 56, 48, 55]) = true) (hd : ∀ k (h : k < s.size), 48 ≤ (s[k]'h).toNat ∧ (s[k]'h).toNat ≤ 57) (hv0 : vv 0 = 0) (hvs : ∀ k (h : k < s.size), vv (k + 1) = 10 * vv k + ((s[k]'h).toNat - 48)) (hm : ∀ k, k ≤ s.size → vv k ≤ 9223372036854775807) :
    Calls Tryd.prog 23 #[.string s] w fun e w' => e = .returned (.tuple #[.int .i64 (vv s.size : Int), .int .i64 0]) ∧ w = w' := by
  have HF := Lib.hid hf
  have HD := Lib.hid hd
  have H0 := Lib.hid hv0
  have HS := Lib.hid hvs
  have HM := Lib.hid hm
  clear hf hd hv0 hvs hm
  have m0 : (((s[0]'h0).toNat : Int) == 45) = false := by rw [beq_eq_false_iff_ne]; omega
  have h01 : 1 ≤ s.size := h0
  clear hs0
  have g3 : (!(Op.bytesLess s.toList [57, 50, 50, 51, 51, 55, 50, 48, 51, 54, 56, 53, 52, 55, 55, 53, 56, 48, 55] || s.toList == [57, 50, 50, 51, 51, 55, 50, 48, 51, 54, 56, 53, 52, 55, 55, 53, 56, 48, 55])) = false := by rw [g]; rfl
  go_enter Tryd.func23, Tryd.ntmps23
  go_wp2_with (go_at_call 42; refine HF.out.mono ?_; rintro e w' ⟨rfl, rfl⟩)
  go_loop [7, 8] (fun n i => ∃ k : Nat, k ≤ s.size ∧ i = .int .i64 k ∧ n = .int .u64 (vv k)) (fun _ i => s.size - (intOf i).toNat)
  case atStart => exact ⟨0, by omega, rfl, by rw [H0.out]; rfl⟩
  case round =>
    obtain ⟨k, hk, rfl, rfl⟩ := hrel
    by_cases h : k < s.size
    · obtain ⟨d1, d2⟩ := HD.out k h
      have e1 := HS.out k h
      have m1 := HM.out (k + 1) h
      have m2 := HM.out k hk
      obtain ⟨V, hV⟩ : ∃ V : Int, (vv k : Int) = V := ⟨_, rfl⟩
      obtain ⟨U, hU⟩ : ∃ U : Int, (vv (k + 1) : Int) = U := ⟨_, rfl⟩
      have HU := Lib.hid hU
      have v0 : 0 ≤ V := by omega
      have v1 : V ≤ 922337203685477581 := by omega
      have u1 : 10 * V + ((s[k]'h).toNat - 48) = U := by omega
      have w8 : IntKind.u8.wrap (((s[k]'h).toNat : Int) - 48) = ((s[k]'h).toNat : Int) - 48 := by rw [IntKind.wrap_u8]; omega
      rw [hV]
      have U1 := Lib.hid u1
      clear e1 m1 m2 hV hU u1
      go_wp2_with fail
      go_round
      case rel => exact ⟨k + 1, by omega, by go_num, by rw [HU.out, ← U1.out]⟩
      case measure => simp [intOf]; omega
    · obtain rfl : k = s.size := by omega
      have m1 := HM.out s.size (Nat.le_refl _)
      obtain ⟨V, hV⟩ : ∃ V : Int, (vv s.size : Int) = V := ⟨_, rfl⟩
      have v0 : 0 ≤ V := by omega
      have v1 : V ≤ 9223372036854775807 := by omega
      have HV := Lib.hid hV
      rw [hV]
      clear hV m1
      go_wp2_with fail
      go_ret2
      refine ⟨?_, rfl⟩
      first | (rw [HV.out]; rfl) | (have h5 := HV.out; rw [hl] at h5; rw [h5]; rfl)
set_option maxRecDepth 100000 in
set_option maxHeartbeats 1000000 in
theorem rreads_long (s t : ByteArray) (w : World) (h0 : 0 < s.size) (hs0 : (s[0]'h0).toNat = 45) (hx0 : s.extract 1 s.size = t) (hf : Calls Tryd.prog 42 #[.string s] w fun e w' => e = .returned (.bool true) ∧ w = w') (hl : 19 < t.size) (hl2 : t.size ≤ 1000) :
    Calls Tryd.prog 23 #[.string s] w fun e w' => e = .returned (.tuple #[.int .i64 0, .int .i64 10]) ∧ w = w' := by
  have HF := Lib.hid hf
  clear hf
  have m0 : (((s[0]'h0).toNat : Int) == 45) = true := by rw [beq_iff_eq]; omega
  have h01 : 1 ≤ s.size := h0
  clear hs0
  go_enter Tryd.func23, Tryd.ntmps23
  go_wp2_with (go_at_call 42; refine HF.out.mono ?_; rintro e w' ⟨rfl, rfl⟩)
  go_ret2
  exact ⟨rfl, rfl⟩
set_option maxRecDepth 100000 in
set_option maxHeartbeats 1000000 in
theorem rreads_more (s t : ByteArray) (w : World) (h0 : 0 < s.size) (hs0 : (s[0]'h0).toNat = 45) (hx0 : s.extract 1 s.size = t) (hf : Calls Tryd.prog 42 #[.string s] w fun e w' => e = .returned (.bool true) ∧ w = w') (hl : t.size = 19) (g1 : Op.bytesLess t.toList [57, 50, 50, 51, 51, 55, 50, 48, 51, 54, 56, 53, 52, 55, 55, 53, 56, 48, 56] = false) (g2 : (t.toList == [57, 50, 50, 51, 51, 55, 50, 48, 51, 54, 56, 53, 52, 55, 55, 53, 56, 48, 56]) = false) :
    Calls Tryd.prog 23 #[.string s] w fun e w' => e = .returned (.tuple #[.int .i64 0, .int .i64 10]) ∧ w = w' := by
  have HF := Lib.hid hf
  clear hf
  have m0 : (((s[0]'h0).toNat : Int) == 45) = true := by rw [beq_iff_eq]; omega
  have h01 : 1 ≤ s.size := h0
  clear hs0
  go_enter Tryd.func23, Tryd.ntmps23
  go_wp2_with (go_at_call 42; refine HF.out.mono ?_; rintro e w' ⟨rfl, rfl⟩)
  go_ret2
  exact ⟨rfl, rfl⟩
set_option maxRecDepth 100000 in
set_option maxHeartbeats 1000000 in
theorem rreads_few (s t : ByteArray) (w : World) (h0 : 0 < s.size) (hs0 : (s[0]'h0).toNat = 45) (hx0 : s.extract 1 s.size = t) (vv : Nat → Nat) (hf : Calls Tryd.prog 42 #[.string s] w fun e w' => e = .returned (.bool true) ∧ w = w') (hl : t.size < 19) (hd : ∀ k (h : k < t.size), 48 ≤ (t[k]'h).toNat ∧ (t[k]'h).toNat ≤ 57) (hv0 : vv 0 = 0) (hvs : ∀ k (h : k < t.size), vv (k + 1) = 10 * vv k + ((t[k]'h).toNat - 48)) (hm : ∀ k, k ≤ t.size → vv k ≤ 9223372036854775808) :
    Calls Tryd.prog 23 #[.string s] w fun e w' => e = .returned (.tuple #[.int .i64 (-(vv t.size : Int)), .int .i64 0]) ∧ w = w' := by
  have HF := Lib.hid hf
  have HD := Lib.hid hd
  have H0 := Lib.hid hv0
  have HS := Lib.hid hvs
  have HM := Lib.hid hm
  clear hf hd hv0 hvs hm
  have m0 : (((s[0]'h0).toNat : Int) == 45) = true := by rw [beq_iff_eq]; omega
  have h01 : 1 ≤ s.size := h0
  clear hs0
  go_enter Tryd.func23, Tryd.ntmps23
  go_wp2_with (go_at_call 42; refine HF.out.mono ?_; rintro e w' ⟨rfl, rfl⟩)
  go_loop [7, 8] (fun n i => ∃ k : Nat, k ≤ t.size ∧ i = .int .i64 k ∧ n = .int .u64 (vv k)) (fun _ i => t.size - (intOf i).toNat)
  case atStart => exact ⟨0, by omega, rfl, by rw [H0.out]; rfl⟩
  case round =>
    obtain ⟨k, hk, rfl, rfl⟩ := hrel
    by_cases h : k < t.size
    · obtain ⟨d1, d2⟩ := HD.out k h
      have e1 := HS.out k h
      have m1 := HM.out (k + 1) h
      have m2 := HM.out k hk
      obtain ⟨V, hV⟩ : ∃ V : Int, (vv k : Int) = V := ⟨_, rfl⟩
      obtain ⟨U, hU⟩ : ∃ U : Int, (vv (k + 1) : Int) = U := ⟨_, rfl⟩
      have HU := Lib.hid hU
      have v0 : 0 ≤ V := by omega
      have v1 : V ≤ 922337203685477581 := by omega
      have u1 : 10 * V + ((t[k]'h).toNat - 48) = U := by omega
      have w8 : IntKind.u8.wrap (((t[k]'h).toNat : Int) - 48) = ((t[k]'h).toNat : Int) - 48 := by rw [IntKind.wrap_u8]; omega
      rw [hV]
      have U1 := Lib.hid u1
      clear e1 m1 m2 hV hU u1
      go_wp2_with fail
      go_round
      case rel => exact ⟨k + 1, by omega, by go_num, by rw [HU.out, ← U1.out]⟩
      case measure => simp [intOf]; omega
    · obtain rfl : k = t.size := by omega
      have m1 := HM.out t.size (Nat.le_refl _)
      obtain ⟨V, hV⟩ : ∃ V : Int, (vv t.size : Int) = V := ⟨_, rfl⟩
      have v0 : 0 ≤ V := by omega
      have v1 : V ≤ 9223372036854775808 := by omega
      have HV := Lib.hid hV
      rw [hV]
      clear hV m1
      have w9 : IntKind.i64.wrap (IntKind.u64.wrap (-V)) = -V := by simp only [IntKind.wrap_u64, IntKind.wrap_i64]; omega
      go_wp2_with fail
      go_ret2
      refine ⟨?_, rfl⟩
      first | (rw [HV.out]; rfl) | (have h5 := HV.out; rw [hl] at h5; rw [h5]; rfl)
set_option maxRecDepth 100000 in
set_option maxHeartbeats 1000000 in
theorem rreads_eq (s t : ByteArray) (w : World) (h0 : 0 < s.size) (hs0 : (s[0]'h0).toNat = 45) (hx0 : s.extract 1 s.size = t) (vv : Nat → Nat) (hf : Calls Tryd.prog 42 #[.string s] w fun e w' => e = .returned (.bool true) ∧ w = w') (hl : t.size = 19) (g : (Op.bytesLess t.toList [57, 50, 50, 51, 51, 55, 50, 48, 51, 54, 56, 53, 52, 55, 55, 53, 56, 48, 56] || t.toList == [57, 50, 50, 51, 51, 55, 50, 48, 51, 54, 56, 53, 52, 55, 55, 53, 56, 48, 56]) = true) (hd : ∀ k (h : k < t.size), 48 ≤ (t[k]'h).toNat ∧ (t[k]'h).toNat ≤ 57) (hv0 : vv 0 = 0) (hvs : ∀ k (h : k < t.size), vv (k + 1) = 10 * vv k + ((t[k]'h).toNat - 48)) (hm : ∀ k, k ≤ t.size → vv k ≤ 9223372036854775808) :
    Calls Tryd.prog 23 #[.string s] w fun e w' => e = .returned (.tuple #[.int .i64 (-(vv t.size : Int)), .int .i64 0]) ∧ w = w' := by
  have HF := Lib.hid hf
  have HD := Lib.hid hd
  have H0 := Lib.hid hv0
  have HS := Lib.hid hvs
  have HM := Lib.hid hm
  clear hf hd hv0 hvs hm
  have m0 : (((s[0]'h0).toNat : Int) == 45) = true := by rw [beq_iff_eq]; omega
  have h01 : 1 ≤ s.size := h0
  clear hs0
  have g3 : (!(Op.bytesLess t.toList [57, 50, 50, 51, 51, 55, 50, 48, 51, 54, 56, 53, 52, 55, 55, 53, 56, 48, 56] || t.toList == [57, 50, 50, 51, 51, 55, 50, 48, 51, 54, 56, 53, 52, 55, 55, 53, 56, 48, 56])) = false := by rw [g]; rfl
  go_enter Tryd.func23, Tryd.ntmps23
  go_wp2_with (go_at_call 42; refine HF.out.mono ?_; rintro e w' ⟨rfl, rfl⟩)
  go_loop [7, 8] (fun n i => ∃ k : Nat, k ≤ t.size ∧ i = .int .i64 k ∧ n = .int .u64 (vv k)) (fun _ i => t.size - (intOf i).toNat)
  case atStart => exact ⟨0, by omega, rfl, by rw [H0.out]; rfl⟩
  case round =>
    obtain ⟨k, hk, rfl, rfl⟩ := hrel
    by_cases h : k < t.size
    · obtain ⟨d1, d2⟩ := HD.out k h
      have e1 := HS.out k h
      have m1 := HM.out (k + 1) h
      have m2 := HM.out k hk
      obtain ⟨V, hV⟩ : ∃ V : Int, (vv k : Int) = V := ⟨_, rfl⟩
      obtain ⟨U, hU⟩ : ∃ U : Int, (vv (k + 1) : Int) = U := ⟨_, rfl⟩
      have HU := Lib.hid hU
      have v0 : 0 ≤ V := by omega
      have v1 : V ≤ 922337203685477581 := by omega
      have u1 : 10 * V + ((t[k]'h).toNat - 48) = U := by omega
      have w8 : IntKind.u8.wrap (((t[k]'h).toNat : Int) - 48) = ((t[k]'h).toNat : Int) - 48 := by rw [IntKind.wrap_u8]; omega
      rw [hV]
      have U1 := Lib.hid u1
      clear e1 m1 m2 hV hU u1
      go_wp2_with fail
      go_round
      case rel => exact ⟨k + 1, by omega, by go_num, by rw [HU.out, ← U1.out]⟩
      case measure => simp [intOf]; omega
    · obtain rfl : k = t.size := by omega
      have m1 := HM.out t.size (Nat.le_refl _)
      obtain ⟨V, hV⟩ : ∃ V : Int, (vv t.size : Int) = V := ⟨_, rfl⟩
      have v0 : 0 ≤ V := by omega
      have v1 : V ≤ 9223372036854775808 := by omega
      have HV := Lib.hid hV
      rw [hV]
      clear hV m1
      have w9 : IntKind.i64.wrap (IntKind.u64.wrap (-V)) = -V := by simp only [IntKind.wrap_u64, IntKind.wrap_i64]; omega
      go_wp2_with fail
      go_ret2
      refine ⟨?_, rfl⟩
      first | (rw [HV.out]; rfl) | (have h5 := HV.out; rw [hl] at h5; rw [h5]; rfl)
end Go.Proofs.YtlckgdgmanmbhaaDoor
