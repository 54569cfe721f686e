/- The law QuietGoes answers true for every input, and leaves its arguments alone. No condition. -/
import Derived.Test.YtffcmfpadaebdaaRows
import Derived.Test.YtffcmfpadaebdaaKitM
import Derived.Test.YtffcmfpadaebdaaQuietGoesW
import Derived.Deep.Fields
import Derived.WalkKit
import Derived.ProofKit
import Derived.OpenShut
import Derived.Deep.QuietTactic
import Derived.BigQuiet
import Derived.Lib.SmallJoins
import Derived.Lib.Hide
import Derived.WalkSpells
import Derived.WalkLawsBesides
namespace Go.Proofs.Ytffcmfpadaebdaa.quietGoes
open Go.ChangeShapes Go.WideShapes Go.ChangeAt Go.RowKit Go.Joins
set_option linter.unusedSimpArgs false
set_option linter.unusedVariables false
theorem own : ownKnob Try.prog.godebug = none := by kernel_rfl
set_option maxRecDepth 100000 in
theorem lifted (os : Os) (started : os.Started) (H : Type) (enc : TypeId × Value → H) :
    ReturnsInHanded {} Try.checked os 6 .any (Rows.quietGoesSpec.pre6 enc Try.prog Try.f6 Rows.quietGoesRow.domain false) (Rows.quietGoesSpec.post enc Try.prog Try.f6 false true false false) := by
  refine returnsInHanded_of_change (C := Try.checked) own started (by kernel_rfl) Try.func6
    (ChangeSpec.witness6 (enc := enc) (C := Try.checked) false ⟨#[], #[.agg #[.int .i64 0, .int .i64 0, .int .i64 0, .int .i64 0, .int .i64 0, .int .i64 0, .int .i64 0, .int .i64 0, .slice none 0 0, .int .i64 0, .int .i64 0, .int .i64 0, .int .i64 0], .agg #[.int .i64 0, .int .i64 0, .int .i64 0, .int .i64 0, .bool false, .slice none 0 0], .agg #[.int .u64 0, .int .u64 0, .int .u64 0, .int .u64 0]], []⟩ 6 (by kernel_rfl) (by kernel_rfl) (by kernel_rfl) (by kernel_rfl)) ?_
  intro W base args ds gs before hval0 hW hcnd _
  have hval : ∀ (j : Nat) t v, Try.f6.params[j]? = some t → args[j]? = some v → Value.okWide Try.prog W .any base t v := hval0
  have hW' := hW
  obtain ⟨p, q, hA0, hV, rfl, hfz, hnd⟩ := hW
  have hA : DataW.TrodAll enc Try.prog W 0 (fun _ => true) true Try.f6.params.toList args.toList ds p := hA0
  rw [Try.params6] at hA hval
  obtain ⟨v0, vs0, d0, ds0, p0, q0, hargs, rfl, rfl, h0, r0⟩ := trodAll_cons hA
  obtain ⟨v1, vs1, d1, ds1, p1, q1, rfl, rfl, rfl, h1, r1⟩ := trodAll_cons r0
  obtain ⟨v2, vs2, d2, ds2, p2, q2, rfl, rfl, rfl, h2, r2⟩ := trodAll_cons r1
  obtain ⟨rfl, rfl, rfl⟩ := trodAll_nil r2
  obtain rfl : args = #[v0, v1, v2] := by cases args; simp_all
  obtain ⟨rfl, rfl⟩ := trodVars_none hV
  clear hA0 hval0
  obtain ⟨L0, rfl, z0, n0, f0⟩ := open_fields Try.underlying25 (by kernel_rfl) (by kernel_rfl) (hval 0 25 v0 rfl rfl) h0
  obtain ⟨x0_0, x0_1, x0_2, x0_3, x0_4, x0_5, x0_6, x0_7, x0_8, x0_9, x0_10, x0_11, x0_12, rfl⟩ : ∃ x0_0 x0_1 x0_2 x0_3 x0_4 x0_5 x0_6 x0_7 x0_8 x0_9 x0_10 x0_11 x0_12, L0 = [x0_0, x0_1, x0_2, x0_3, x0_4, x0_5, x0_6, x0_7, x0_8, x0_9, x0_10, x0_11, x0_12] := list13 z0
  obtain ⟨y0_0, t0_0⟩ := f0 0 _ _ rfl rfl
  obtain ⟨y0_1, t0_1⟩ := f0 1 _ _ rfl rfl
  obtain ⟨y0_2, t0_2⟩ := f0 2 _ _ rfl rfl
  obtain ⟨y0_3, t0_3⟩ := f0 3 _ _ rfl rfl
  obtain ⟨y0_4, t0_4⟩ := f0 4 _ _ rfl rfl
  obtain ⟨y0_5, t0_5⟩ := f0 5 _ _ rfl rfl
  obtain ⟨y0_6, t0_6⟩ := f0 6 _ _ rfl rfl
  obtain ⟨y0_7, t0_7⟩ := f0 7 _ _ rfl rfl
  obtain ⟨y0_8, t0_8⟩ := f0 8 _ _ rfl rfl
  obtain ⟨y0_9, t0_9⟩ := f0 9 _ _ rfl rfl
  obtain ⟨y0_10, t0_10⟩ := f0 10 _ _ rfl rfl
  obtain ⟨y0_11, t0_11⟩ := f0 11 _ _ rfl rfl
  obtain ⟨y0_12, t0_12⟩ := f0 12 _ _ rfl rfl
  obtain ⟨a00, rfl, w00⟩ := trod_i Try.underlying3 t0_0
  obtain ⟨a01, rfl, w01⟩ := trod_i Try.underlying3 t0_1
  obtain ⟨a02, rfl, w02⟩ := trod_i Try.underlying3 t0_2
  obtain ⟨a03, rfl, w03⟩ := trod_i Try.underlying3 t0_3
  obtain ⟨a04, rfl, w04⟩ := trod_i Try.underlying3 t0_4
  obtain ⟨a05, rfl, w05⟩ := trod_i Try.underlying3 t0_5
  obtain ⟨a06, rfl, w06⟩ := trod_i Try.underlying3 t0_6
  obtain ⟨a07, rfl, w07⟩ := trod_i Try.underlying3 t0_7
  obtain ⟨A0_8, c0_8, k0_8, z0_8, rfl, l0_8, m0_8, w0_8, n0_8⟩ := trod_rdZ Try.underlying22 Try.underlying61 (by kernel_rfl) (by kernel_rfl) (by decide) (by intro j f hj; rcases j with _ | _ | _ | j <;> simp at hj <;> subst hj <;> kernel_rfl) t0_8
  obtain ⟨a09, rfl, w09⟩ := trod_i Try.underlying23 t0_9
  obtain ⟨a010, rfl, w010⟩ := trod_i Try.underlying3 t0_10
  obtain ⟨a011, rfl, w011⟩ := trod_i Try.underlying3 t0_11
  obtain ⟨a012, rfl, w012⟩ := trod_i Try.underlying3 t0_12
  obtain ⟨L1, rfl, z1, n1, f1⟩ := open_fields Try.underlying29 (by kernel_rfl) (by kernel_rfl) (hval 1 29 v1 rfl rfl) h1
  obtain ⟨x1_0, x1_1, x1_2, x1_3, x1_4, x1_5, rfl⟩ : ∃ x1_0 x1_1 x1_2 x1_3 x1_4 x1_5, L1 = [x1_0, x1_1, x1_2, x1_3, x1_4, x1_5] := list6 z1
  obtain ⟨y1_0, t1_0⟩ := f1 0 _ _ rfl rfl
  obtain ⟨y1_1, t1_1⟩ := f1 1 _ _ rfl rfl
  obtain ⟨y1_2, t1_2⟩ := f1 2 _ _ rfl rfl
  obtain ⟨y1_3, t1_3⟩ := f1 3 _ _ rfl rfl
  obtain ⟨y1_4, t1_4⟩ := f1 4 _ _ rfl rfl
  obtain ⟨y1_5, t1_5⟩ := f1 5 _ _ rfl rfl
  obtain ⟨a10, rfl, w10⟩ := trod_i Try.underlying3 t1_0
  obtain ⟨a11, rfl, w11⟩ := trod_i Try.underlying3 t1_1
  obtain ⟨a12, rfl, w12⟩ := trod_i Try.underlying26 t1_2
  obtain ⟨a13, rfl, w13⟩ := trod_i Try.underlying3 t1_3
  obtain ⟨a1_4, rfl⟩ := trod_b Try.underlying4 t1_4
  obtain ⟨A1_5, c1_5, k1_5, z1_5, rfl, l1_5, m1_5, w1_5, n1_5⟩ := trod_rdZ Try.underlying27 Try.underlying53 (by kernel_rfl) (by kernel_rfl) (by decide) (by intro j f hj; rcases j with _ | _ | j <;> simp at hj <;> subst hj <;> kernel_rfl) t1_5
  obtain ⟨L2, rfl, z2, f2⟩ := open_array2 Try.underlying33 Try.underlying32 Try.underlying30 (by kernel_rfl) (by kernel_rfl) (by kernel_rfl) (hval 2 33 v2 rfl rfl) h2
  obtain ⟨x2_0, x2_1, x2_2, x2_3, rfl⟩ : ∃ x2_0 x2_1 x2_2 x2_3, L2 = [x2_0, x2_1, x2_2, x2_3] := list4 z2
  have w2_0 := f2 0 _ rfl
  have w2_1 := f2 1 _ rfl
  have w2_2 := f2 2 _ rfl
  have w2_3 := f2 3 _ rfl
  simp only [List.append_nil] at hW'
  refine (walk w00 w01 w02 w03 w04 w05 w06 w07 l0_8 m0_8 w0_8 n0_8 w09 w010 w011 w012 w10 w11 w12 w13 l1_5 m1_5 w1_5 n1_5 w2_0 w2_1 w2_2 w2_3 ).mono fun e W' ⟨he, hb⟩ => ?_
  subst he
  exact ⟨_, rfl, post_true (tb := 4) laidOut hW' (by kernel_rfl) rfl Try.underlying4 (by kernel_rfl) rfl hb⟩

theorem over : Rows.quietGoesRow.holds Try.pinned (OpenSpec.ofChange Rows.quietGoesSpec) :=
  OpenClaim.holds_of_wide 6 Try.f6 rfl rfl rfl rfl rfl rfl rfl ⟨rfl, rfl, rfl, rfl, rfl⟩ rfl rfl rfl rfl rfl (by kernel_rfl) Try.func6 (by kernel_rfl)
    (of_decide_eq_true (by kernel_rfl)) (by unfold Func.isWrapper; first | (rw [if_pos (by decide +kernel)]; kernel_rfl) | (rw [if_neg (by decide +kernel)]; exact ⟨rfl, rfl⟩))
    (fun os started H enc _ => lifted os started H enc)

theorem proved : Rows.QuietGoesSaid :=
  over
end Go.Proofs.Ytffcmfpadaebdaa.quietGoes
