/- The law TripCounts answers true for every input, and leaves its arguments alone. No condition. -/
import Derived.Test.YtjokekohmncmkacRows
import Derived.Test.YtjokekohmncmkacRowKit
import Derived.Test.YtjokekohmncmkacTripCountsW
import Derived.Test.YtjokekohmncmkacRowS
import Derived.Deep.Fields
import Derived.WalkKit
import Derived.ProofKit
import Derived.OpenShut
import Derived.Deep.QuietTactic
import Derived.BigQuiet
import Derived.Lib.SmallJoins
import Derived.Lib.Hide
import Derived.WalkSpells
import Derived.WalkLawsBesides
namespace Go.Proofs.Ytjokekohmncmkac.tripCounts
open Go.ChangeShapes Go.WideShapes Go.ChangeAt Go.RowKit Go.Joins
set_option linter.unusedSimpArgs false
set_option linter.unusedVariables false
theorem own : ownKnob Try.prog.godebug = none := by kernel_rfl
set_option maxRecDepth 100000 in
theorem lifted (os : Os) (started : os.Started) (H : Type) (enc : TypeId × Value → H) :
    ReturnsInHanded {} Try.checked os 8 .any (Rows.tripCountsSpec.pre6 enc Try.prog Try.f8 Rows.tripCountsRow.domain false) (Rows.tripCountsSpec.post enc Try.prog Try.f8 false true false false) := by
  refine returnsInHanded_of_change (C := Try.checked) own started (by kernel_rfl) Try.func8
    (ChangeSpec.witness6 (enc := enc) (C := Try.checked) false ⟨#[], #[.slice none 0 0, .agg #[.int .i64 0, .int .i64 0, .int .i64 0, .int .i64 0]], []⟩ 8 (by kernel_rfl) (by kernel_rfl) (by kernel_rfl) (by kernel_rfl)) ?_
  intro W base args ds gs before hval0 hW hcnd _
  have hval : ∀ (j : Nat) t v, Try.f8.params[j]? = some t → args[j]? = some v → Value.okWide Try.prog W .any base t v := hval0
  have hW' := hW
  obtain ⟨p, q, hA0, hV, rfl, hfz, hnd⟩ := hW
  have hA : DataW.TrodAll enc Try.prog W 0 (fun _ => true) true Try.f8.params.toList args.toList ds p := hA0
  rw [Try.params8] at hA hval
  obtain ⟨v0, vs0, d0, ds0, p0, q0, hargs, rfl, rfl, h0, r0⟩ := trodAll_cons hA
  obtain ⟨v1, vs1, d1, ds1, p1, q1, rfl, rfl, rfl, h1, r1⟩ := trodAll_cons r0
  obtain ⟨rfl, rfl, rfl⟩ := trodAll_nil r1
  obtain rfl : args = #[v0, v1] := by cases args; simp_all
  obtain ⟨rfl, rfl⟩ := trodVars_none hV
  clear hA0 hval0
  obtain ⟨A0, c0, k0, z0, rfl, l0, m0, w0, n0⟩ := open_rdZ Try.underlying62 Try.underlying68 (by kernel_rfl) (by kernel_rfl) (by decide) (by intro j f hj; rcases j with _ | _ | _ | _ | _ | _ | _ | j <;> simp at hj <;> subst hj <;> kernel_rfl) (by obtain ⟨s, _, _, e⟩ := okWide_slice Try.underlying62 (hval 0 62 v0 rfl rfl); rw [e]; rfl) h0
  obtain ⟨L1, rfl, z1, n1, f1⟩ := open_fields Try.underlying64 (by kernel_rfl) (by kernel_rfl) (hval 1 64 v1 rfl rfl) h1
  obtain ⟨x1_0, x1_1, x1_2, x1_3, rfl⟩ : ∃ x1_0 x1_1 x1_2 x1_3, L1 = [x1_0, x1_1, x1_2, x1_3] := list4 z1
  obtain ⟨y1_0, t1_0⟩ := f1 0 _ _ rfl rfl
  obtain ⟨y1_1, t1_1⟩ := f1 1 _ _ rfl rfl
  obtain ⟨y1_2, t1_2⟩ := f1 2 _ _ rfl rfl
  obtain ⟨y1_3, t1_3⟩ := f1 3 _ _ rfl rfl
  obtain ⟨a10, rfl, w10⟩ := trod_i Try.underlying3 t1_0
  obtain ⟨a11, rfl, w11⟩ := trod_i Try.underlying3 t1_1
  obtain ⟨a12, rfl, w12⟩ := trod_i Try.underlying3 t1_2
  obtain ⟨a13, rfl, w13⟩ := trod_i Try.underlying3 t1_3
  simp only [List.append_nil] at hW'
  refine (walk l0 m0 w0 n0 w10 w11 w12 w13 ).mono fun e W' ⟨he, hb⟩ => ?_
  subst he
  exact ⟨_, rfl, post_true (tb := 4) laidOut hW' (by kernel_rfl) rfl Try.underlying4 (by kernel_rfl) rfl hb⟩

theorem over : Rows.tripCountsRow.holds Try.pinned (OpenSpec.ofChange Rows.tripCountsSpec) :=
  OpenClaim.holds_of_wide 8 Try.f8 rfl rfl rfl rfl rfl rfl rfl ⟨rfl, rfl, rfl, rfl, rfl⟩ rfl rfl rfl rfl rfl (by kernel_rfl) Try.func8 (by kernel_rfl)
    (of_decide_eq_true (by kernel_rfl)) (by unfold Func.isWrapper; first | (rw [if_pos (by decide +kernel)]; kernel_rfl) | (rw [if_neg (by decide +kernel)]; exact ⟨rfl, rfl⟩))
    (fun os started H enc _ => lifted os started H enc)

theorem proved : Rows.TripCountsSaid :=
  over
end Go.Proofs.Ytjokekohmncmkac.tripCounts
