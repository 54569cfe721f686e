/- Lexer: value. -/
import Derived.Test.YthchgjjnlnadnaaRows
import Derived.Test.YthchgjjnlnadnaaRowKit
import Derived.Test.YthchgjjnlnadnaaShelf
import Derived.Test.YthchgjjnlnadnaaBlocks
import Derived.Test.YthchgjjnlnadnaaBL
import Derived.Test.YthchgjjnlnadnaaLexM
import Derived.Test.YthchgjjnlnadnaaLexA
import Derived.WalkKit
import Derived.IntWalk
import Derived.Lib.Hide
import Derived.WalkSpells
import Derived.WalkLawsBesides
import Derived.Laws.IdiomStrings
import Derived.Laws.OwnMore
import Derived.OwnWalk
import Derived.Deep.QuietTactic
import Derived.BigQuiet
import Derived.BigRegion
import Derived.Deep.LoopGhost
namespace Go.Proofs.Ythchgjjnlnadnaa
open Go.RowKit Go.Sort
set_option linter.unusedSimpArgs false
set_option linter.unusedVariables false
def dgL (W : List UInt8) : Prop := ∀ (k : Nat) (x : UInt8), W[k]? = some x → 48 ≤ x.toNat ∧ x.toNat ≤ 57
set_option maxRecDepth 100000 in
set_option maxHeartbeats 4000000 in
theorem value_any (D : List UInt8) (w : World) (hD : dgL D) (h0 : 0 < D.length) (hl : D.length ≤ 100000) :
    Calls Try.prog 29 #[.string (bL D)] w fun e w' => e = .returned (.tuple #[.int .i64 (if nokL D = true then (nvL D 0 : Nat) else 0 : Nat), .bool (nokL D)]) ∧ w = w' := by
  have hs := bL_size D
  have HX : Hid (∀ k x, D[k]? = some x → ∀ h : k < (bL D).size, ((bL D)[k]'h).toNat = x.toNat) := Lib.hid (fun k x hx => ixL D k x hx)
  obtain ⟨s, hss⟩ : ∃ s, bL D = s := ⟨_, rfl⟩
  rw [hss] at hs HX ⊢
  have HL : Hid (s.size = D.length) := Lib.hid hs
  obtain ⟨x0, hx0⟩ : ∃ x, D[0]? = some x := ⟨D[0]'h0, List.getElem?_eq_getElem _⟩
  have hs0 : 0 < s.size := by omega
  have g0 := HX.out 0 x0 hx0 hs0
  have hhd : D.head? = some x0 := by rw [List.head?_eq_getElem?]; exact hx0
  have HDD := Lib.hid hD
  obtain ⟨y0, hy0⟩ : ∃ y, x0.toNat = y := ⟨_, rfl⟩
  rw [hy0] at g0
  have hszm : s.size ≤ 100000 := by omega
  obtain ⟨R, hR⟩ : ∃ R : Ending → World → Prop, (fun (e : Ending) (w' : World) => e = .returned (.tuple #[.int .i64 (if nokL D = true then (nvL D 0 : Nat) else 0 : Nat), .bool (nokL D)]) ∧ w = w') = R := ⟨_, rfl⟩
  rw [hR]
  have HNO : Hid (nokL D = false → R (.returned (.tuple #[.int .i64 0, .bool false])) w) := Lib.hid (fun h => by rw [← hR]; refine ⟨?_, rfl⟩; rw [h]; rfl)
  have HYES : Hid (nokL D = true → R (.returned (.tuple #[.int .i64 (nvL D 0 : Nat), .bool true])) w) := Lib.hid (fun h => by rw [← hR]; refine ⟨?_, rfl⟩; rw [h]; rfl)
  by_cases hz : 1 < s.size ∧ y0 = 48
  · have n1 : (1 : Int) < (s.size : Int) := by omega
    have q0 : ((y0 : Int) == 48) = true := by rw [beq_iff_eq]; omega
    have HN := Lib.hid (HNO.out (by
      unfold nokL
      rw [hhd]
      have e1 : (D.length == 1) = false := by rw [beq_eq_false_iff_ne]; omega
      rw [e1]
      simp [hy0, hz.2]))
    clear hhd hx0 hy0 hR hD h0 hl hs hz
    go_enter Try.func29, Try.ntmps29
    go_wp2_with fail
    exact HN.out
  · have HLEAD : Hid (nokL D = decide (nvL D 0 ≤ 1073741824)) := Lib.hid (by
      unfold nokL
      rw [hhd]
      have e1 : (D.length == 1 || (Option.map (fun x : UInt8 => x.toNat) (some x0) != some 48)) = true := by
        by_cases e : D.length = 1
        · simp [e]
        · have : y0 ≠ 48 := fun q => hz ⟨by omega, q⟩
          simp [hy0, this]
      rw [e1, Bool.and_true])
    have H0 : Hid ((¬ (1 : Int) < (s.size : Int)) ∨ ((1 : Int) < (s.size : Int) ∧ ((y0 : Int) == 48) = false)) := Lib.hid (by
      by_cases e : 1 < s.size
      · right; exact ⟨by omega, by rw [beq_eq_false_iff_ne]; intro q; exact hz ⟨e, by omega⟩⟩
      · left; omega)
    clear hhd hx0 hy0 hR hD h0 hl hs hz
    go_enter Try.func29, Try.ntmps29
    rcases H0.out with n1 | ⟨n1, q0⟩
    all_goals
      go_wp2_with fail
      go_loopg [4, 16] s.size (fun gh nv iv wr => ∃ k n : Nat, k ≤ s.size ∧ gh = s.size - k ∧ iv = .int .i64 k ∧ nv = .int .i64 n ∧ Hid (n = nvL (D.take k) 0) ∧ n ≤ 1073741824 ∧ w = wr)
      case atStart => exact ⟨0, 0, Nat.zero_le _, rfl, rfl, rfl, Lib.hid rfl, by omega, rfl⟩
      case round =>
        obtain ⟨k, n, hk, rfl, rfl, rfl, HN, hn, rfl⟩ := hrel
        by_cases hks : k < s.size
        · have hki : (k : Int) < (s.size : Int) := by omega
          obtain ⟨x, hx⟩ : ∃ x, D[k]? = some x := ⟨D[k]'(by rw [← HL.out]; exact hks), List.getElem?_eq_getElem _⟩
          have g := HX.out k x hx hks
          have hd := HDD.out k x hx
          have HM := nv_take hx
          rw [← HN.out] at HM
          obtain ⟨y, hy⟩ : ∃ y, x.toNat = y := ⟨_, rfl⟩
          rw [hy] at g hd HM
          obtain ⟨d, hd2⟩ : ∃ d, y - 48 = d := ⟨_, rfl⟩
          rw [hd2] at HM
          have U1 : Hid (IntKind.u8.wrap ((y : Int) - 48) = (d : Int)) := Lib.hid (by rw [show ((y : Int) - 48) = (d : Int) by omega]; exact u8_in d (by omega))
          have U2 : Hid (IntKind.i64.wrap (d : Int) = (d : Int)) := Lib.hid (IntWalk.i64_in _ (by omega))
          have U3 : Hid (wrap64 (d : Int) = (d : Int)) := Lib.hid (IntWalk.wrap64_in _ (by omega))
          obtain ⟨n2, hn2⟩ : ∃ n2, 10 * n + d = n2 := ⟨_, rfl⟩
          rw [hn2] at HM
          have V1 : Hid (IntKind.i64.wrap ((n : Int) * 10) = (n : Int) * 10) := Lib.hid (IntWalk.i64_in _ (by omega))
          have V2 : Hid (wrap64 ((n : Int) * 10) = (n : Int) * 10) := Lib.hid (IntWalk.wrap64_in _ (by omega))
          have V3 : Hid (IntKind.i64.wrap ((n : Int) * 10 + (d : Int)) = (n2 : Int)) := Lib.hid (by rw [IntWalk.i64_in _ (by omega)]; omega)
          have V4 : Hid (wrap64 ((n : Int) * 10 + (d : Int)) = (n2 : Int)) := Lib.hid (by rw [IntWalk.wrap64_in _ (by omega)]; omega)
          have HM2 := Lib.hid HM
          clear hx hy hd2 hn2 HM
          by_cases hgt : 1073741824 < n2
          · have hgi : (1073741824 : Int) < (n2 : Int) := by omega
            have HF := Lib.hid (HNO.out (by
              rw [HLEAD.out, decide_eq_false_iff_not]
              have := nv_mono D (k + 1)
              rw [HM2.out] at this
              omega))
            have u1 := U1.out; have u2 := U2.out; have u3 := U3.out; have v1 := V1.out; have v2 := V2.out; have v3 := V3.out; have v4 := V4.out
            go_wp2_with fail
            exact HF.out
          · have hgi : ¬ (1073741824 : Int) < (n2 : Int) := by omega
            have u1 := U1.out; have u2 := U2.out; have u3 := U3.out; have v1 := V1.out; have v2 := V2.out; have v3 := V3.out; have v4 := V4.out
            go_wp2_with fail
            clear u1 u2 u3 v1 v2 v3 v4
            go_roundg (s.size - (k + 1))
            case measure => omega
            case rel => exact ⟨k + 1, n2, by omega, rfl, by go_num, rfl, Lib.hid HM2.out.symm, by omega, rfl⟩
        · obtain rfl : k = s.size := by omega
          have hki : ¬ (s.size : Int) < (s.size : Int) := by omega
          have hnn : n = nvL D 0 := by rw [HN.out, HL.out, List.take_length]
          have HF := Lib.hid (HYES.out (by rw [HLEAD.out, decide_eq_true_iff, ← hnn]; exact hn))
          rw [← hnn] at HF
          clear hnn
          go_wp2_with fail
          exact HF.out
end Go.Proofs.Ythchgjjnlnadnaa
