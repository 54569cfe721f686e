/- The law DiffLogs answers true for every input, and leaves its arguments alone. No condition. -/
import Derived.Test.YtnjdeikikdieoaaRows
import Derived.Test.YtnjdeikikdieoaaRowKit
import Derived.Test.YtnjdeikikdieoaaDiffLogsW
import Derived.Test.YtnjdeikikdieoaaRowS
import Derived.Deep.Fields
import Derived.WalkKit
import Derived.ProofKit
import Derived.OpenShut
import Derived.Deep.QuietTactic
import Derived.BigQuiet
import Derived.Lib.SmallJoins
import Derived.Lib.Hide
import Derived.WalkSpells
import Derived.WalkLawsBesides
namespace Go.Proofs.Ytnjdeikikdieoaa.diffLogs
open Go.ChangeShapes Go.WideShapes Go.ChangeAt Go.RowKit Go.Joins
set_option linter.unusedSimpArgs false
set_option linter.unusedVariables false
theorem own : ownKnob Try.prog.godebug = none := by kernel_rfl
set_option maxRecDepth 100000 in
theorem lifted (os : Os) (started : os.Started) (H : Type) (enc : TypeId × Value → H) :
    ReturnsInHanded {} Try.checked os 3 .any (Rows.diffLogsSpec.pre6 enc Try.prog Try.f3 Rows.diffLogsRow.domain false) (Rows.diffLogsSpec.post enc Try.prog Try.f3 false true false false) := by
  refine returnsInHanded_of_change (C := Try.checked) own started (by kernel_rfl) Try.func3
    (ChangeSpec.witness6 (enc := enc) (C := Try.checked) false ⟨#[], #[.agg #[.slice none 0 0, .slice none 0 0, .int .i64 0], .agg #[.slice none 0 0, .slice none 0 0, .int .i64 0]], []⟩ 3 (by kernel_rfl) (by kernel_rfl) (by kernel_rfl) (by kernel_rfl)) ?_
  intro W base args ds gs before hval0 hW hcnd _
  have hval : ∀ (j : Nat) t v, Try.f3.params[j]? = some t → args[j]? = some v → Value.okWide Try.prog W .any base t v := hval0
  have hW' := hW
  obtain ⟨p, q, hA0, hV, rfl, hfz, hnd⟩ := hW
  have hA : DataW.TrodAll enc Try.prog W 0 (fun _ => true) true Try.f3.params.toList args.toList ds p := hA0
  rw [Try.params3] at hA hval
  obtain ⟨v0, vs0, d0, ds0, p0, q0, hargs, rfl, rfl, h0, r0⟩ := trodAll_cons hA
  obtain ⟨v1, vs1, d1, ds1, p1, q1, rfl, rfl, rfl, h1, r1⟩ := trodAll_cons r0
  obtain ⟨rfl, rfl, rfl⟩ := trodAll_nil r1
  obtain rfl : args = #[v0, v1] := by cases args; simp_all
  obtain ⟨rfl, rfl⟩ := trodVars_none hV
  clear hA0 hval0
  obtain ⟨L0, rfl, z0, n0, f0⟩ := open_fields Try.underlying25 (by kernel_rfl) (by kernel_rfl) (hval 0 25 v0 rfl rfl) h0
  obtain ⟨x0_0, x0_1, x0_2, rfl⟩ : ∃ x0_0 x0_1 x0_2, L0 = [x0_0, x0_1, x0_2] := list3 z0
  obtain ⟨y0_0, t0_0⟩ := f0 0 _ _ rfl rfl
  obtain ⟨y0_1, t0_1⟩ := f0 1 _ _ rfl rfl
  obtain ⟨y0_2, t0_2⟩ := f0 2 _ _ rfl rfl
  obtain ⟨A0_0, c0_0, k0_0, z0_0, rfl, l0_0, m0_0, w0_0, n0_0⟩ := trod_rdZ Try.underlying22 Try.underlying28 (by kernel_rfl) (by kernel_rfl) (by decide) (by intro j f hj; rcases j with _ | _ | _ | _ | _ | _ | _ | j <;> simp at hj <;> subst hj <;> kernel_rfl) t0_0
  obtain ⟨A0_1, c0_1, k0_1, B0_1, g0_1, e0_1, z0_1, rfl, l0_1, m0_1, w0_1, n0_1⟩ := trod_rdW shLeg Try.underlying23 (by kernel_rfl) Try.underlying32 Try.underlying34 (by kernel_rfl) (by kernel_rfl) (by decide) (by
      intro j f hj u n x hx
      rcases j with _ | _ | _ | _ | j <;> simp at hj <;> subst hj
      · exact sh_int Try.underlying3 hx
      · exact sh_int Try.underlying3 hx
      · exact sh_int Try.underlying3 hx
      · exact sh_bool Try.underlying4 hx) t0_1
  obtain ⟨a02, rfl, w02⟩ := trod_i Try.underlying3 t0_2
  obtain ⟨L1, rfl, z1, n1, f1⟩ := open_fields Try.underlying25 (by kernel_rfl) (by kernel_rfl) (hval 1 25 v1 rfl rfl) h1
  obtain ⟨x1_0, x1_1, x1_2, rfl⟩ : ∃ x1_0 x1_1 x1_2, L1 = [x1_0, x1_1, x1_2] := list3 z1
  obtain ⟨y1_0, t1_0⟩ := f1 0 _ _ rfl rfl
  obtain ⟨y1_1, t1_1⟩ := f1 1 _ _ rfl rfl
  obtain ⟨y1_2, t1_2⟩ := f1 2 _ _ rfl rfl
  obtain ⟨A1_0, c1_0, k1_0, z1_0, rfl, l1_0, m1_0, w1_0, n1_0⟩ := trod_rdZ Try.underlying22 Try.underlying28 (by kernel_rfl) (by kernel_rfl) (by decide) (by intro j f hj; rcases j with _ | _ | _ | _ | _ | _ | _ | j <;> simp at hj <;> subst hj <;> kernel_rfl) t1_0
  obtain ⟨A1_1, c1_1, k1_1, B1_1, g1_1, e1_1, z1_1, rfl, l1_1, m1_1, w1_1, n1_1⟩ := trod_rdW shLeg Try.underlying23 (by kernel_rfl) Try.underlying32 Try.underlying34 (by kernel_rfl) (by kernel_rfl) (by decide) (by
      intro j f hj u n x hx
      rcases j with _ | _ | _ | _ | j <;> simp at hj <;> subst hj
      · exact sh_int Try.underlying3 hx
      · exact sh_int Try.underlying3 hx
      · exact sh_int Try.underlying3 hx
      · exact sh_bool Try.underlying4 hx) t1_1
  obtain ⟨a12, rfl, w12⟩ := trod_i Try.underlying3 t1_2
  simp only [List.append_nil] at hW'
  refine (walk l0_0 m0_0 w0_0 n0_0 l0_1 m0_1 w0_1 n0_1 w02 l1_0 m1_0 w1_0 n1_0 l1_1 m1_1 w1_1 n1_1 w12 ).mono fun e W' ⟨he, hb⟩ => ?_
  subst he
  exact ⟨_, rfl, post_true (tb := 4) laidOut hW' (by kernel_rfl) rfl Try.underlying4 (by kernel_rfl) rfl hb⟩

theorem over : Rows.diffLogsRow.holds Try.pinned (OpenSpec.ofChange Rows.diffLogsSpec) :=
  OpenClaim.holds_of_wide 3 Try.f3 rfl rfl rfl rfl rfl rfl rfl ⟨rfl, rfl, rfl, rfl, rfl⟩ rfl rfl rfl rfl rfl (by kernel_rfl) Try.func3 (by kernel_rfl)
    (of_decide_eq_true (by kernel_rfl)) (by unfold Func.isWrapper; first | (rw [if_pos (by decide +kernel)]; kernel_rfl) | (rw [if_neg (by decide +kernel)]; exact ⟨rfl, rfl⟩))
    (fun os started H enc _ => lifted os started H enc)

theorem proved : Rows.DiffLogsSaid :=
  over
end Go.Proofs.Ytnjdeikikdieoaa.diffLogs
