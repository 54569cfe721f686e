/- The walk of DrawInverse: it answers true for every input, and leaves all old blocks as they were. No condition. -/
import Derived.Test.YtkepplkfjcoemabRows
import Derived.Test.YtkepplkfjcoemabRowKit
import Derived.Test.YtkepplkfjcoemabSlicesEq
import Derived.Test.YtkepplkfjcoemabSlicesEqM
import Derived.Test.YtkepplkfjcoemabRowL
import Derived.Test.YtkepplkfjcoemabCumulMath
import Derived.Test.YtkepplkfjcoemabCumulA
import Derived.Test.YtkepplkfjcoemabCumulB
import Derived.Test.YtkepplkfjcoemabCumulC
import Derived.Test.YtkepplkfjcoemabSorted
import Derived.Test.YtkepplkfjcoemabCumulS
import Derived.Test.YtkepplkfjcoemabDrawA
import Derived.WalkKit
import Derived.ProofKit
import Derived.OpenShut
import Derived.Deep.QuietTactic
import Derived.BigQuiet
import Derived.Lib.SmallJoins
import Derived.Lib.Hide
import Derived.WalkSpells
import Derived.WalkLawsBesides
import Derived.IntWalk
namespace Go.Proofs.Ytkepplkfjcoemab.drawInverse
open Go.ChangeShapes Go.WideShapes Go.ChangeAt Go.RowKit Go.Joins
set_option linter.unusedSimpArgs false
set_option linter.unusedVariables false

/-- the row of a table -/
def tz (r n : Nat) : List Int := rowL (tbI r n) n
theorem tz_len (r n : Nat) : (tz r n).length = n := rowL_len _ _
theorem tz_at {r n k : Nat} (h : k < n) : zat (tz r n) k = tbI r n k := rowL_at _ h
theorem tb_step {r n k : Nat} (h : k + 1 < n) : tbI r n k ≤ tbI r n (k + 1) := by
  have := tbv_mono 4294967296 67108864 r n (show k ≤ k + 1 by omega)
  unfold tbI; omega
theorem tb_le {r n j k : Nat} (h : j ≤ k) : tbI r n j ≤ tbI r n k := by
  have := tbv_mono 4294967296 67108864 r n h
  unfold tbI; omega
theorem tb_end {r n : Nat} (h : Cnt r n) : tbI r n (n - 1) = 4294967296 := by
  unfold tbI; rw [tbv_last 4294967296 67108864 r n h.n1 h.h0]; rfl
theorem u64_same {x : Int} (h0 : 0 ≤ x) (h1 : x < 18446744073709551616) : IntKind.u64.wrap x = x := by
  rw [IntKind.wrap_u64]; exact Int.emod_eq_of_lt h0 h1
theorem sh_zero {r n : Nat} (h : Cnt r n) : shN (tz r n) 0 = tbI r n 0 := tz_at h.n1
theorem sh_more {r n k : Nat} (h : Cnt r n) (hk : k + 1 < n) : shN (tz r n) (k + 1) = tbI r n (k + 1) - tbI r n k := by
  show IntKind.u64.wrap (zat (tz r n) (k + 1) - zat (tz r n) k) = _
  rw [tz_at hk, tz_at (show k < n by omega)]
  have h1 := tb_step (r := r) hk
  have h2 := tbI_bd h hk
  have h3 := tbI_bd h (show k < n by omega)
  exact u64_same (by omega) (by omega)
/-- the first word that means a number -/
def fsV (zs : List Int) (i : Nat) : Int := if shN zs i = 0 then 0 else (if i = 0 then 0 else zat zs (i - 1))
theorem fs_none {zs : List Int} {i : Nat} (h : shN zs i = 0) : fsV zs i = 0 := if_pos h
theorem fs_zero (zs : List Int) : fsV zs 0 = 0 := by unfold fsV; split <;> rfl
theorem fs_more {zs : List Int} {j : Nat} (h : ¬ shN zs (j + 1) = 0) : fsV zs (j + 1) = zat zs j := by
  unfold fsV; rw [if_neg h, if_neg (by omega), Nat.add_sub_cancel]
set_option maxHeartbeats 1000000 in
theorem span_at (b off c i : Nat) (zs : List Int) (w : World) (hr : RdI w .u64 (some ⟨b, off, none⟩) zs) (hl : zs.length ≤ 1000) (hi : i < zs.length) :
    Calls Try.prog 37 #[.slice (some ⟨b, off, none⟩) zs.length c, .int .i64 i] w fun e w' => e = .returned (.tuple #[.int .u64 (fsV zs i), .int .u64 (shN zs i)]) ∧ ∃ q, w' = w.drewN q := by
  have HS := share_any (some ⟨b, off, none⟩) c zs i w hr hl
  rw [shV_in hi] at HS
  obtain ⟨b', o', e, _, hc⟩ := rdI_row hr (by omega)
  cases e
  by_cases h0 : shN zs i = 0
  · rw [fs_none h0]
    rw [h0] at HS
    rw [h0]
    have HS := Lib.hid HS
    clear hr hc h0
    go_enter Try.func37, Try.ntmps37
    go_wp2_with (go_at_call 30; refine HS.out.mono ?_; rintro e w' ⟨rfl, q, rfl⟩)
    go_ret2
    exact ⟨rfl, q, rfl⟩
  · rcases i with _ | j
    · rw [fs_zero]
      obtain ⟨x, hx⟩ : ∃ x, shN zs 0 = x := ⟨_, rfl⟩
      rw [hx] at HS h0
      rw [hx]
      have hz : (x == 0) = false := by rw [beq_eq_false_iff_ne]; exact h0
      have HS := Lib.hid HS
      clear hr hc hx h0
      go_enter Try.func37, Try.ntmps37
      go_wp2_with (go_at_call 30; refine HS.out.mono ?_; rintro e w' ⟨rfl, q, rfl⟩)
      go_ret2
      exact ⟨rfl, q, rfl⟩
    · rw [fs_more h0]
      have c1 := hc j (by omega)
      obtain ⟨x, hx⟩ : ∃ x, shN zs (j + 1) = x := ⟨_, rfl⟩
      rw [hx] at HS h0
      rw [hx]
      have hz : (x == 0) = false := by rw [beq_eq_false_iff_ne]; exact h0
      have hz2 : (((j : Int) + 1) == 0) = false := by rw [beq_eq_false_iff_ne]; omega
      have i2 : (0 : Int) ≤ (j : Int) + 1 := by omega
      have i5 : j < zs.length := by omega
      have w1 : IntKind.i64.wrap (j : Int) = j := IntWalk.i64_in _ (by omega)
      have HS := Lib.hid HS
      clear hr hc hx h0
      go_enter Try.func37, Try.ntmps37
      go_wp2_with (go_at_call 30; refine HS.out.mono ?_; rintro e w' ⟨rfl, q, rfl⟩)
      go_ret2
      exact ⟨rfl, q, rfl⟩
/-- just the words of its span mean a number -/
theorem span_just {r n k i : Nat} {v : Int} (h : Cnt r n) (hv : 0 ≤ v) (hf : FirstAb (tz r n) v k) (hk : k < n) (hi : i < n) :
    (fsV (tz r n) i ≤ v ∧ v - fsV (tz r n) i < shN (tz r n) i) ↔ i = k := by
  have hkl : k < (tz r n).length := by rw [tz_len]; exact hk
  have f1 := hf.2.1
  have f2 := hf.2.2 hkl
  rw [tz_at hk] at f2
  have g1 : ∀ j, j < k → tbI r n j ≤ v := fun j hj => by have := f1 j hj; rwa [tz_at (by omega)] at this
  rcases i with _ | j
  · rw [fs_zero, sh_zero h]
    constructor
    · intro ⟨_, h2⟩
      rcases Nat.eq_zero_or_pos k with h3 | h3
      · exact h3.symm
      · have := g1 0 h3; omega
    · intro e; subst e; exact ⟨hv, by omega⟩
  · rw [sh_more h hi]
    have s1 := tb_step (r := r) hi
    by_cases h0 : shN (tz r n) (j + 1) = 0
    · rw [fs_none h0]
      have e0 : tbI r n (j + 1) - tbI r n j = 0 := by rw [← sh_more h hi]; exact h0
      constructor
      · intro ⟨_, h2⟩; omega
      · intro e; subst e
        have := g1 j (by omega); omega
    · rw [fs_more h0, tz_at (show j < n by omega)]
      constructor
      · intro ⟨h1, h2⟩
        rcases Nat.lt_trichotomy (j + 1) k with h3 | h3 | h3
        · have := g1 (j + 1) h3; omega
        · exact h3
        · have := tb_le (r := r) (n := n) (show k ≤ j by omega); omega
      · intro e; subst e
        have := g1 j (by omega)
        exact ⟨this, by omega⟩
theorem sp_bd {r n i : Nat} (h : Cnt r n) (hi : i < n) : 0 ≤ fsV (tz r n) i ∧ fsV (tz r n) i ≤ 4294967296 ∧ 0 ≤ shN (tz r n) i ∧ shN (tz r n) i ≤ 4294967296 := by
  rcases i with _ | j
  · rw [fs_zero, sh_zero h]; have := tbI_bd h hi; omega
  · have b1 := tbI_bd h hi
    have b0 := tbI_bd h (show j < n by omega)
    have s1 := tb_step (r := r) hi
    rw [sh_more h hi]
    by_cases h0 : shN (tz r n) (j + 1) = 0
    · rw [fs_none h0]; omega
    · rw [fs_more h0, tz_at (show j < n by omega)]; omega
theorem first_in {r n k : Nat} {v : Int} (h : Cnt r n) (hv : v ≤ 4294967295) (hf : FirstAb (tz r n) v k) : k < n := by
  have h1 := hf.1
  rw [tz_len] at h1
  rcases Nat.lt_or_ge k n with h2 | h2
  · exact h2
  · have := hf.2.1 (n - 1) (by have := h.n1; omega)
    rw [tz_at (by have := h.n1; omega), tb_end h] at this
    omega
set_option maxHeartbeats 1000000 in
theorem walk_out (r v : Int) (w : World) (h : r < 0 ∨ 4000 < r) :
    Calls Try.prog 9 #[.int .i64 r, .int .u32 v] w fun e w' => e = .returned (.bool true) ∧ Below w.heap.size w w' := by
  by_cases h0 : r < 0
  · clear h
    go_enter Try.func9, Try.ntmps9
    go_wp2_with fail
    go_ret
    exact ⟨rfl, Below.refl _ _⟩
  · have h1 : 4000 < r := by omega
    clear h
    go_enter Try.func9, Try.ntmps9
    go_wp2_with fail
    go_ret
    exact ⟨rfl, Below.refl _ _⟩
set_option maxRecDepth 100000 in
set_option maxHeartbeats 2000000 in
theorem walk_in (r n k : Nat) (v : Int) (w : World) (h : Cnt r n) (hv : 0 ≤ v) (hv' : v ≤ 4294967295) (hf : FirstAb (tz r n) v k) (hk : k < n) :
    Calls Try.prog 9 #[.int .i64 r, .int .u32 v] w fun e w' => e = .returned (.bool true) ∧ Below w.heap.size w w' := by
  have HT := Lib.hid (rtable_rd h w)
  have H := Lib.hid h
  have HF := Lib.hid hf
  have hr := h.hr
  have n1 := h.n1
  have n2 := h.n2
  clear h hf
  go_enter Try.func9, Try.ntmps9
  go_wp2_with fail
  refine HT.out.mono ?_
  rintro e w1 ⟨A, c, rfl, hR, hb⟩
  obtain ⟨b, off, rfl, _⟩ := rdI_row hR (by rw [rowL_len]; omega)
  have HD := dof_any (some ⟨b, off, none⟩) c k (tz r n) v w1 hR (by rw [tz_len]; omega) HF.out hv hv'
  rw [tz_len] at HD
  have HD := Lib.hid HD
  have HR := Lib.hid hR
  have HB := Lib.hid hb
  clear hR hb
  go_wp2_with fail
  refine HD.out.mono ?_
  rintro e w2 ⟨rfl, hb2⟩
  have HR2 := Lib.hid (HR.out.kept hb2)
  have HB2 := Lib.hid (HB.out.trans (hb2.mono HB.out.size))
  clear hb2
  have hkn : ¬ n ≤ k := by omega
  have hkd : decide (n ≤ k) = false := decide_eq_false hkn
  have hkd2 : decide ((n : Int) ≤ (k : Int)) = false := decide_eq_false (by omega)
  go_wp2_with fail
  go_loopw [7] (fun i wr => ∃ j : Nat, j ≤ n ∧ i = .int .i64 j ∧ ∃ q, wr = w2.drewN q) (fun i _ => n - (intOf i).toNat)
  case atStart => exact ⟨0, by omega, rfl, 0, rfl⟩
  case round =>
    obtain ⟨j, hj, rfl, q, rfl⟩ := hrel
    by_cases hjn : j < n
    · have HS := span_at b off c j (tz r n) (w2.drewN q) HR2.out (by rw [tz_len]; omega) (by rw [tz_len]; exact hjn)
      rw [tz_len] at HS
      have hJ := span_just H.out hv HF.out hk hjn
      obtain ⟨b1, b2, b3, b4⟩ := sp_bd H.out hjn
      obtain ⟨F, hF⟩ : ∃ F, fsV (tz r n) j = F := ⟨_, rfl⟩
      obtain ⟨M, hM⟩ : ∃ M, shN (tz r n) j = M := ⟨_, rfl⟩
      rw [hF] at HS hJ b1 b2
      rw [hM] at HS hJ b3 b4
      have HS := Lib.hid HS
      clear hF hM
      by_cases e : j = k
      · obtain ⟨a1, a2⟩ := hJ.2 e
        have hq : ((j : Int) == (k : Int)) = true := by rw [beq_iff_eq]; omega
        have hq2 : (j == k) = true := by rw [beq_iff_eq]; exact e
        clear hJ e
        go_wp2_with (go_at_call 37; refine HS.out.mono ?_; rintro e w' ⟨rfl, q2, rfl⟩)
        go_roundw
        case rel => exact ⟨j + 1, by omega, by go_num, q + q2, by first | rfl | rw [World.drewN_drewN]⟩
        case measure => simp [intOf]; omega
      · have hN : ¬ (F ≤ v ∧ v - F < M) := fun hc => e (hJ.1 hc)
        have hq : ((j : Int) == (k : Int)) = false := by rw [beq_eq_false_iff_ne]; omega
        have hq2 : (j == k) = false := by rw [beq_eq_false_iff_ne]; exact e
        by_cases a1 : F ≤ v
        · have a2 : ¬ v - F < M := fun hc => hN ⟨a1, hc⟩
          clear hJ hN
          go_wp2_with (go_at_call 37; refine HS.out.mono ?_; rintro e w' ⟨rfl, q2, rfl⟩)
          go_roundw
          case rel => exact ⟨j + 1, by omega, by go_num, q + q2, by first | rfl | rw [World.drewN_drewN]⟩
          case measure => simp [intOf]; omega
        · clear hJ hN
          go_wp2_with (go_at_call 37; refine HS.out.mono ?_; rintro e w' ⟨rfl, q2, rfl⟩)
          go_roundw
          case rel => exact ⟨j + 1, by omega, by go_num, q + q2, by first | rfl | rw [World.drewN_drewN]⟩
          case measure => simp [intOf]; omega
    · obtain rfl : j = n := by omega
      go_wp2_with (go_at_call 34; refine (dralive _).mono ?_; rintro e w3 ⟨rfl, hb3⟩)
      go_ret
      exact ⟨rfl, (below_drewN HB2.out q).trans (hb3.mono HB2.out.size)⟩
theorem walk {r v : Int} (w0 : (Lit.int .i64 r).wf = true) (w1 : (Lit.int .u32 v).wf = true) (w : World) :
    Calls Try.prog 9 #[.int .i64 r, .int .u32 v] w fun e w' => e = .returned (.bool true) ∧ Below w.heap.size w w' := by
  obtain ⟨v0, v1⟩ := bounds_u32 w1
  by_cases h : r < 0 ∨ 4000 < r
  · exact walk_out r v w h
  · obtain ⟨k, rfl⟩ := Int.eq_ofNat_of_zero_le (show 0 ≤ r by omega)
    obtain ⟨n, hn⟩ := cnt_ex (r := k) (by omega)
    obtain ⟨m, hm⟩ := firstAb_ex (tz k n) v
    exact walk_in k n m v w hn v0 (by omega) hm (first_in hn (by omega) hm)

end Go.Proofs.Ytkepplkfjcoemab.drawInverse
