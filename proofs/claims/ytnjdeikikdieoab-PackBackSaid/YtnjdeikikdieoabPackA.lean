/- Contracts of pack.Fold, pack.Unfold, pack.Put and of the document's, behind any bytes that are owned. -/
import Derived.Test.YtnjdeikikdieoabRows
import Derived.Test.YtnjdeikikdieoabRowKit
import Derived.Test.YtnjdeikikdieoabRowL
import Derived.WalkKit
import Derived.IntWalk
import Derived.Lib.Hide
import Derived.WalkSpells
import Derived.WalkLawsBesides
import Derived.Laws.IdiomStrings
import Derived.Laws.CopyOwn
import Derived.Laws.MakeOwn
import Derived.Laws.OwnMore
import Derived.Lib.Zigzag
namespace Go.Proofs.Ytnjdeikikdieoab
open Go.RowKit Go.Sort
set_option linter.unusedSimpArgs false
set_option linter.unusedVariables false
/-- a number with a sign as one without -/
def foldI (n : Int) : Int := if n < 0 then 2 * (-n - 1) + 1 else 2 * n
/-- back -/
def unfoldI (u : Int) : Int := if u % 2 = 1 then -(u / 2) - 1 else u / 2
theorem fold_bd {n : Int} (h0 : -9223372036854775808 ≤ n) (h1 : n ≤ 9223372036854775807) : 0 ≤ foldI n ∧ foldI n < 18446744073709551616 := by
  unfold foldI; split <;> omega
theorem unfold_fold (n : Int) : unfoldI (foldI n) = n := by
  unfold unfoldI foldI; split <;> split <;> omega
/-- a number's bytes -/
def putB (n : Nat) : List Int := if h : n < 128 then [(n : Int)] else ((n % 128 + 128 : Nat) : Int) :: putB (n / 128)
termination_by n
decreasing_by omega
theorem putB_lo {n : Nat} (h : n < 128) : putB n = [(n : Int)] := by rw [putB, dif_pos h]
theorem putB_hi {n : Nat} (h : ¬ n < 128) : putB n = ((n % 128 + 128 : Nat) : Int) :: putB (n / 128) := by rw [putB, dif_neg h]
theorem putB_len : ∀ (k n : Nat), n < 128 ^ (k + 1) → 1 ≤ (putB n).length ∧ (putB n).length ≤ k + 1
  | 0, n, h => by rw [putB_lo (by simpa using h)]; simp
  | k + 1, n, h => by
    by_cases q : n < 128
    · rw [putB_lo q]; simp
    · have := putB_len k (n / 128) (by rw [Nat.pow_succ] at h; exact Nat.div_lt_of_lt_mul (by rw [Nat.mul_comm]; exact h))
      rw [putB_hi q]; simp; omega
theorem putB_ten {n : Nat} (h : n < 18446744073709551616) : 1 ≤ (putB n).length ∧ (putB n).length ≤ 10 :=
  putB_len 9 n (Nat.lt_of_lt_of_le h (by decide))
theorem putB_in : ∀ (k n : Nat), n < 128 ^ (k + 1) → ∀ z, z ∈ putB n → 0 ≤ z ∧ z < 256
  | 0, n, h => by
    have h' : n < 128 := by simpa using h
    rw [putB_lo h']; intro z hz; simp at hz; omega
  | k + 1, n, h => by
    intro z hz
    by_cases q : n < 128
    · rw [putB_lo q] at hz; simp at hz; omega
    · rw [putB_hi q, List.mem_cons] at hz
      rcases hz with hz | hz
      · omega
      · exact putB_in k (n / 128) (by rw [Nat.pow_succ] at h; exact Nat.div_lt_of_lt_mul (by rw [Nat.mul_comm]; exact h)) z hz
theorem not_neg (n : Int) (h0 : -9223372036854775808 ≤ n) (h : n < 0) : bits .xor .i64 (-1) n = -n - 1 := by
  show IntKind.i64.wrap ((BitVec.ofInt 64 (-1) ^^^ BitVec.ofInt 64 n).toNat : Int) = _
  have h1 : (BitVec.ofInt 64 (-1)).toNat = 2 ^ 64 - 1 := by decide
  have h2 : (BitVec.ofInt 64 n).toNat = (n + 18446744073709551616).toNat := by
    rw [BitVec.toNat_ofInt]; congr 1; omega
  rw [BitVec.toNat_xor, h1, h2, Lib.xor_ones64 _ (by omega), IntKind.wrap_i64]
  omega
theorem ret1p {k : IntKind} {a b : Int} (h : a = b) : Ending.returned (.int k a) = .returned (.int k b) := by rw [h]
theorem info8p : (Try.prog.info? 5).map (fun i => (i.zero, i.size, i.bytes)) = some (some (.int .u8 0), 1, 1) := by kernel_rfl
set_option maxHeartbeats 400000 in
theorem pfold_any (n : Int) (w : World) (h0 : -9223372036854775808 ≤ n) (h1 : n ≤ 9223372036854775807) :
    Calls Try.prog 38 #[.int .i64 n] w fun e w' => e = .returned (.int .u64 (foldI n)) ∧ w = w' := by
  by_cases h : n < 0
  · have hf : foldI n = 2 * (-n - 1) + 1 := if_pos h
    have x1 := not_neg n h0 h
    rw [hf]
    go_enter Try.func38, Try.ntmps38
    go_wp2_with fail
    go_ret
    refine ⟨?_, rfl⟩
    first | rfl | (refine ret1p ?_; omega) | (refine ret1p ?_; simp only [IntKind.wrap_u64, IntKind.wrap_i64]; omega)
  · have hf : foldI n = 2 * n := if_neg h
    rw [hf]
    go_enter Try.func38, Try.ntmps38
    go_wp2_with fail
    go_ret
    refine ⟨?_, rfl⟩
    first | rfl | (refine ret1p ?_; omega) | (refine ret1p ?_; simp only [IntKind.wrap_u64, IntKind.wrap_i64]; omega)
set_option maxHeartbeats 400000 in
theorem punfold_any (u : Nat) (w : World) (h : u < 18446744073709551616) :
    Calls Try.prog 39 #[.int .u64 u] w fun e w' => e = .returned (.int .i64 (unfoldI u)) ∧ w = w' := by
  obtain ⟨q, hq⟩ : ∃ q : Nat, u / 2 = q := ⟨_, rfl⟩
  have d1 : ((u : Int)).tdiv 2 = q := by rw [Int.tdiv_eq_ediv_of_nonneg (by omega)]; omega
  have d2 : (u : Int) / 2 = q := by omega
  have q1 : q < 9223372036854775808 := by omega
  by_cases h1 : u % 2 = 1
  · have hf : unfoldI u = -(q : Int) - 1 := by unfold unfoldI; rw [if_pos (by omega), d2]
    have m1 : ((u : Int)).tmod 2 = 1 := by rw [Int.tmod_eq_emod_of_nonneg (by omega)]; omega
    have m2 : (u : Int) % 2 = 1 := by omega
    have x1 := Lib.i64_not q q1
    rw [hf]
    go_enter Try.func39, Try.ntmps39
    go_wp2_with fail
    go_ret
    refine ⟨?_, rfl⟩
    first | rfl | (refine ret1p ?_; omega) | (refine ret1p ?_; simp only [IntKind.wrap_u64, IntKind.wrap_i64]; omega)
  · have hf : unfoldI u = (q : Int) := by unfold unfoldI; rw [if_neg (by omega), d2]
    have m1 : ((u : Int)).tmod 2 = 0 := by rw [Int.tmod_eq_emod_of_nonneg (by omega)]; omega
    have m2 : (u : Int) % 2 = 0 := by omega
    rw [hf]
    go_enter Try.func39, Try.ntmps39
    go_wp2_with fail
    go_ret
    refine ⟨?_, rfl⟩
    first | rfl | (refine ret1p ?_; omega) | (refine ret1p ?_; simp only [IntKind.wrap_u64, IntKind.wrap_i64]; omega)
/-- bytes that are owned -/
def OwB (w : World) (B : Nat) (v : Value) (ys : List Int) : Prop := w.ownsRow B 5 1 v ys.length (ys.map (Value.int .u8))
theorem owB_len {w : World} {B n : Nat} {v : Value} {ys zs : List Int} (h : w.ownsRow B 5 1 v n (ys.map (Value.int .u8) ++ zs.map (Value.int .u8))) (hn : n = ys.length + zs.length) : OwB w B v (ys ++ zs) := by
  unfold OwB
  rw [List.map_append, List.length_append, ← hn]; exact h
set_option maxRecDepth 100000 in
set_option maxHeartbeats 1000000 in
/-- a number's bytes behind bytes -/
theorem pput_any (ys : List Int) (v : Value) (u B : Nat) (w : World) (hu : u < 18446744073709551616) (hy : ys.length ≤ 1000000) (hB : B ≤ w.heap.size) (hown : OwB w B v ys) :
    Calls Try.prog 37 #[v, .int .u64 u] w fun e w' => ∃ v', e = .returned v' ∧ OwB w' B v' (ys ++ putB u) ∧ Below B w w' := by
  obtain ⟨i0, hi, hz0, hz1, hz2⟩ := info_parts info8p
  obtain ⟨b1, b2⟩ := putB_ten hu
  obtain ⟨P, hP⟩ : ∃ P, putB u = P := ⟨_, rfl⟩
  have HP := Lib.hid hP
  rw [hP] at b1 b2 ⊢
  have HO := Lib.hid hown
  clear hown hP
  go_enter Try.func37, Try.ntmps37
  go_wp2_with fail
  go_loopw [0, 1] (fun b n wr => ∃ (m : Nat) (ds : List Int), n = .int .u64 m ∧ m < 18446744073709551616 ∧ Hid (ds ++ putB m = P) ∧ OwB wr B b (ys ++ ds) ∧ Below B w wr) (fun _ n _ => (intOf n).toNat)
  case atStart => exact ⟨u, [], rfl, hu, Lib.hid (by rw [List.nil_append]; exact HP.out), by rw [List.append_nil]; exact HO.out, Below.refl _ _⟩
  case round =>
    obtain ⟨m, ds, rfl, hm, HD, hown, hb⟩ := hrel
    have hlen : (ys ++ ds).length ≤ 1000010 := by
      have h1 := congrArg List.length HD.out
      rw [List.length_append] at h1 ⊢; omega
    obtain ⟨zs, hzs⟩ : ∃ zs, ys ++ ds = zs := ⟨_, rfl⟩
    have HZ := Lib.hid hzs
    rw [hzs] at hlen hown
    clear hzs
    unfold OwB at hown
    have hsz := hb.size
    obtain ⟨zl, hzl⟩ : ∃ zl, zs.length = zl := ⟨_, rfl⟩
    have HZL := Lib.hid hzl
    rw [hzl] at hlen hown
    clear hzl
    by_cases hlo : m < 128
    · have l1 : ¬ 128 ≤ (m : Int) := by omega
      have l2 : IntKind.u8.wrap (m : Int) = m := by rw [IntKind.wrap_u8]; omega
      go_wp2_with (at_builtin; refine wpList_append_own _ rfl _ _ 42 rfl B 5 i0 (.int .u8 0) 1 1 Try.underlying42 hi hz0 hz1 hz2 rfl (by decide) _ _ _ rfl (hown.alloc _) ⟨_, 0, none⟩ 1 1 [.int .u8 m] rfl rfl one_newR (by intro u hu; simp at hu; subst hu; rfl) (by unfold maxLen; omega) (by omega) (by simp; omega) ?_; intro v' w1 hown' hgrow _)
      have hb1 : Below B w w1 := by
        refine (hb.alloc (by omega) _).grown hgrow (by simp; omega) (fun g hg => ?_)
        first | exact ownR_ge hown hg | exact ownR_ge hown hg.symm
      have how : OwB w1 B v' (zs ++ [(m : Int)]) := owB_len hown' (by rw [HZL.out]; rfl)
      have hfin : ys ++ P = zs ++ [(m : Int)] := by rw [← HZ.out, List.append_assoc, ← HD.out, putB_lo hlo]
      rw [← hfin] at how
      clear hown' hgrow hfin hown
      go_wp2_with fail
      go_ret
      exact ⟨_, rfl, how, hb1⟩
    · have l1 : 128 ≤ (m : Int) := by omega
      obtain ⟨C, hC⟩ : ∃ C : Int, ((m % 128 + 128 : Nat) : Int) = C := ⟨_, rfl⟩
      have HC := Lib.hid hC
      have c1 : (m : Int) % 128 + 128 = C := by omega
      have c3 : 128 ≤ C ∧ C < 256 := by omega
      have w8 : IntKind.u8.wrap C = C := by rw [IntKind.wrap_u8]; omega
      have w64 : IntKind.u64.wrap ((m : Int) % 128 + 128) = C := by rw [IntKind.wrap_u64]; omega
      have t1 : ((m : Int)).tmod 128 = (m : Int) % 128 := Int.tmod_eq_emod_of_nonneg (by omega)
      have t2 : ((m : Int)).tdiv 128 = ((m / 128 : Nat) : Int) := by rw [Int.tdiv_eq_ediv_of_nonneg (by omega)]; omega
      clear hC
      go_wp2_with (at_builtin; refine wpList_append_own _ rfl _ _ 42 rfl B 5 i0 (.int .u8 0) 1 1 Try.underlying42 hi hz0 hz1 hz2 rfl (by decide) _ _ _ rfl (hown.alloc _) ⟨_, 0, none⟩ 1 1 [.int .u8 C] rfl rfl one_newR (by intro u hu; simp at hu; subst hu; rfl) (by unfold maxLen; omega) (by omega) (by simp; omega) ?_; intro v' w1 hown' hgrow _)
      have hb1 : Below B w w1 := by
        refine (hb.alloc (by omega) _).grown hgrow (by simp; omega) (fun g hg => ?_)
        first | exact ownR_ge hown hg | exact ownR_ge hown hg.symm
      have how : OwB w1 B v' (zs ++ [C]) := owB_len hown' (by rw [HZL.out]; rfl)
      rw [← HZ.out, List.append_assoc] at how
      have HD2 : Hid ((ds ++ [C]) ++ putB (m / 128) = P) := Lib.hid (by rw [List.append_assoc, ← HD.out, putB_hi hlo, HC.out]; rfl)
      clear hown' hgrow hown
      go_wp2_with fail
      go_roundw
      case rel => exact ⟨m / 128, ds ++ [C], by go_num, by omega, HD2, how, hb1⟩
      case measure => simp [intOf]; omega
end Go.Proofs.Ytnjdeikikdieoab
