/- The law WantTells answers true for every input, and leaves its arguments alone. No condition but the laid tables, which are tied to the text. -/
import Derived.Test.YtdcollehdhkngaaDoorRows
import Derived.Test.YtdcollehdhkngaaDoorRowKit
import Derived.Test.YtdcollehdhkngaaDoorWantTellsW
import Derived.Test.YtdcollehdhkngaaDoorRowS
import Derived.Deep.Fields
import Derived.Test.YtdcollehdhkngaaDoorCards
import Derived.Test.YtdcollehdhkngaaDoorTie
import Derived.SevenTiedAt
import Derived.LaidMore
import Derived.Stop.Joined
import Derived.WalkKit
import Derived.ProofKit
import Derived.OpenShut
import Derived.Deep.QuietTactic
import Derived.BigQuiet
import Derived.Lib.SmallJoins
import Derived.Lib.Hide
import Derived.WalkSpells
import Derived.WalkLawsBesides
namespace Go.Proofs.YtdcollehdhkngaaDoor.wantTells
open Go.ChangeShapes Go.WideShapes Go.ChangeAt Go.RowKit Go.Joins
set_option linter.unusedSimpArgs false
set_option linter.unusedVariables false
theorem own : ownKnob Tryd.prog.godebug = none := by kernel_rfl
set_option maxRecDepth 100000 in
theorem door_met (os : Os) (args : Array Value) : laidMetH Tryd.prog Rows.wantTellsRow.laid ((World.doorLaid Tryd.prog 14 os).forCall (fun _ _ => 0) ⟨#[], args, []⟩).memory :=
  laidMetH_of_parts3 (fuel := 8) (laidMet_of_run' 8 (by kernel_rfl) (by kernel_rfl)) (by kernel_rfl) (by kernel_rfl)
set_option maxRecDepth 100000 in
theorem lifted (os : Os) (started : os.Started) (H : Type) (enc : TypeId × Value → H) :
    ReturnsInHanded {} Tryd.checked os 6 .any (fun w args => (Rows.wantTellsSpec.pre enc Tryd.prog Tryd.f6 [] false w args ∧ laidMetH Tryd.prog Rows.wantTellsRow.laid w) ∧ sizedMet enc Tryd.prog Tryd.f6 (OpenSpec.ofChange Rows.wantTellsSpec) false w args)
      (Rows.wantTellsSpec.post enc Tryd.prog Tryd.f6 false true false false) := by
  refine returnsInHanded_of_change_and (C := Tryd.checked) (X := fun w _ => laidMetH Tryd.prog Rows.wantTellsRow.laid w) (fun _ _ _ hh h => h.of_heap hh) own started (by kernel_rfl) Tryd.func6
    (ChangeSpec.witness_shaped (enc := enc) (C := Tryd.checked) (os := os) (X := fun w _ => laidMetH Tryd.prog Rows.wantTellsRow.laid w) false (World.doorLaid Tryd.prog 14 os) #[.agg #[.int .i64 0, .int .i64 0, .int .i64 0, .int .i64 0, .bool false, .slice none 0 0], .int .i64 0, .agg #[.int .u64 0, .int .u64 0, .int .u64 0, .int .u64 0]] 8 rfl (World.shaped_of_RefB (by kernel_rfl) (by kernel_rfl)) (by kernel_rfl) (by kernel_rfl) (by kernel_rfl) (door_met os _)) ?_
  intro W base args ds gs before hval0 hW _ _ hL _
  have hval : ∀ (j : Nat) t v, Tryd.f6.params[j]? = some t → args[j]? = some v → Value.okWide Tryd.prog W .any base t v := hval0
  have hW' := hW
  obtain ⟨p, q, hA0, hV, rfl, hfz, hnd⟩ := hW
  have hA : DataW.TrodAll enc Tryd.prog W 0 (fun _ => true) true Tryd.f6.params.toList args.toList ds p := hA0
  rw [Tryd.params6] at hA hval
  obtain ⟨v0, vs0, d0, ds0, p0, q0, hargs, rfl, rfl, h0, r0⟩ := trodAll_cons hA
  obtain ⟨v1, vs1, d1, ds1, p1, q1, rfl, rfl, rfl, h1, r1⟩ := trodAll_cons r0
  obtain ⟨v2, vs2, d2, ds2, p2, q2, rfl, rfl, rfl, h2, r2⟩ := trodAll_cons r1
  obtain ⟨rfl, rfl, rfl⟩ := trodAll_nil r2
  obtain rfl : args = #[v0, v1, v2] := by cases args; simp_all
  obtain ⟨rfl, rfl⟩ := trodVars_none hV
  clear hA0 hval0
  obtain ⟨L0, rfl, z0, n0, f0⟩ := open_fields Tryd.underlying47 (by kernel_rfl) (by kernel_rfl) (hval 0 47 v0 rfl rfl) h0
  obtain ⟨x0_0, x0_1, x0_2, x0_3, x0_4, x0_5, rfl⟩ : ∃ x0_0 x0_1 x0_2 x0_3 x0_4 x0_5, L0 = [x0_0, x0_1, x0_2, x0_3, x0_4, x0_5] := list6 z0
  obtain ⟨y0_0, t0_0⟩ := f0 0 _ _ rfl rfl
  obtain ⟨y0_1, t0_1⟩ := f0 1 _ _ rfl rfl
  obtain ⟨y0_2, t0_2⟩ := f0 2 _ _ rfl rfl
  obtain ⟨y0_3, t0_3⟩ := f0 3 _ _ rfl rfl
  obtain ⟨y0_4, t0_4⟩ := f0 4 _ _ rfl rfl
  obtain ⟨y0_5, t0_5⟩ := f0 5 _ _ rfl rfl
  obtain ⟨a00, rfl, w00⟩ := trod_i Tryd.underlying3 t0_0
  obtain ⟨a01, rfl, w01⟩ := trod_i Tryd.underlying3 t0_1
  obtain ⟨a02, rfl, w02⟩ := trod_i Tryd.underlying44 t0_2
  obtain ⟨a03, rfl, w03⟩ := trod_i Tryd.underlying3 t0_3
  obtain ⟨a0_4, rfl⟩ := trod_b Tryd.underlying4 t0_4
  obtain ⟨A0_5, c0_5, k0_5, z0_5, rfl, l0_5, m0_5, w0_5, n0_5⟩ := trod_rdZ Tryd.underlying45 Tryd.underlying96 (by kernel_rfl) (by kernel_rfl) (by decide) (by intro j f hj; rcases j with _ | _ | j <;> simp at hj <;> subst hj <;> kernel_rfl) t0_5
  obtain ⟨a1, rfl, rfl, rfl, w1⟩ := open_int Tryd.underlying3 (hval 1 3 v1 rfl rfl) h1
  obtain ⟨L2, rfl, z2, f2⟩ := open_array2 Tryd.underlying48 Tryd.underlying24 Tryd.underlying22 (by kernel_rfl) (by kernel_rfl) (by kernel_rfl) (hval 2 48 v2 rfl rfl) h2
  obtain ⟨x2_0, x2_1, x2_2, x2_3, rfl⟩ : ∃ x2_0 x2_1 x2_2 x2_3, L2 = [x2_0, x2_1, x2_2, x2_3] := list4 z2
  have w2_0 := f2 0 _ rfl
  have w2_1 := f2 1 _ rfl
  have w2_2 := f2 2 _ rfl
  have w2_3 := f2 3 _ rfl
  simp only [List.append_nil] at hW'
  refine (walk w00 w01 w02 w03 l0_5 m0_5 w0_5 n0_5 w1 w2_0 w2_1 w2_2 w2_3 hL ).mono fun e W' ⟨he, hb⟩ => ?_
  subst he
  exact ⟨_, rfl, post_true (tb := 4) laidOut hW' (by kernel_rfl) rfl Tryd.underlying4 (by kernel_rfl) rfl hb⟩

theorem over : Rows.wantTellsRow.holds Tryd.pinned (OpenSpec.ofChange Rows.wantTellsSpec) :=
  OpenClaim.holds_of_wide 6 Tryd.f6 rfl rfl rfl rfl rfl rfl rfl ⟨rfl, rfl, rfl, rfl, rfl⟩ rfl rfl rfl rfl rfl (by kernel_rfl) Tryd.func6 (by kernel_rfl)
    (of_decide_eq_true (by kernel_rfl)) (by unfold Func.isWrapper; first | (rw [if_pos (by decide +kernel)]; kernel_rfl) | (rw [if_neg (by decide +kernel)]; exact ⟨rfl, rfl⟩))
    (fun os started H enc _ => lifted os started H enc)

set_option maxRecDepth 100000 in
theorem proved : Rows.WantTellsCardSaid :=
  Claim7.holds_tied_plain_at .later [] Rows.wantTellsCard.laidKinds true Rows.wantTellsCard.stood.harness false
    over (fun _ h => by cases h) (by kernel_rfl) (fun _ h => by cases h) wantTells_row_tie rfl ⟨rfl, rfl⟩ (by kernel_rfl) rfl
    (fun f fn hf hfn => by
      obtain rfl : f = 6 := Option.some.inj ((show Tryd.prog.funcNamed "hoistway/hoistwaylaw30.WantTells" = some 6 by kernel_rfl).symm.trans hf) |>.symm
      obtain rfl : fn = Tryd.f6 := (Option.some.inj (Tryd.func6.symm.trans hfn)).symm
      exact ⟨by kernel_rfl, fun j t ht => by
        have hm : t ∈ Tryd.f6.params.toList := by simpa using Array.mem_of_getElem? ht
        have hall : (Tryd.f6.params.toList.all fun u => !Tryd.prog.wantsStandIn u) = true := by kernel_rfl
        exact (show Tryd.prog.wantsStandIn t = false by simpa using List.all_eq_true.1 hall t hm)⟩)
    (by kernel_rfl)
end Go.Proofs.YtdcollehdhkngaaDoor.wantTells
