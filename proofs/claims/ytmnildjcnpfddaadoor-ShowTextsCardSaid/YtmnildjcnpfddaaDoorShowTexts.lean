/- The law ShowTexts answers true for every input, and leaves its arguments alone. No condition but the laid tables, which are tied to the text. -/
import Derived.Test.YtmnildjcnpfddaaDoorRows
import Derived.Test.YtmnildjcnpfddaaDoorRowKit
import Derived.Test.YtmnildjcnpfddaaDoorShowTextsW
import Derived.Test.YtmnildjcnpfddaaDoorRowS
import Derived.Deep.Fields
import Derived.Test.YtmnildjcnpfddaaDoorCards
import Derived.Test.YtmnildjcnpfddaaDoorTie
import Derived.SevenTiedAt
import Derived.LaidMore
import Derived.Stop.Joined
import Derived.WalkKit
import Derived.ProofKit
import Derived.OpenShut
import Derived.Deep.QuietTactic
import Derived.BigQuiet
import Derived.Lib.SmallJoins
import Derived.Lib.Hide
import Derived.WalkSpells
import Derived.WalkLawsBesides
namespace Go.Proofs.YtmnildjcnpfddaaDoor.showTexts
open Go.ChangeShapes Go.WideShapes Go.ChangeAt Go.RowKit Go.Joins
set_option linter.unusedSimpArgs false
set_option linter.unusedVariables false
theorem own : ownKnob Tryd.prog.godebug = none := by kernel_rfl
set_option maxRecDepth 100000 in
theorem door_met (os : Os) (args : Array Value) : laidMetH Tryd.prog Rows.showTextsRow.laid ((World.doorLaid Tryd.prog 24 os).forCall (fun _ _ => 0) ⟨#[], args, []⟩).memory :=
  laidMetH_of_parts3 (fuel := 8) (laidMet_of_run' 8 (by kernel_rfl) (by kernel_rfl)) (by kernel_rfl) (by kernel_rfl)
set_option maxRecDepth 100000 in
theorem lifted (os : Os) (started : os.Started) (H : Type) (enc : TypeId × Value → H) :
    ReturnsInHanded {} Tryd.checked os 3 .any (fun w args => (Rows.showTextsSpec.pre enc Tryd.prog Tryd.f3 [] false w args ∧ laidMetH Tryd.prog Rows.showTextsRow.laid w) ∧ sizedMet enc Tryd.prog Tryd.f3 (OpenSpec.ofChange Rows.showTextsSpec) false w args)
      (Rows.showTextsSpec.post enc Tryd.prog Tryd.f3 false true false false) := by
  refine returnsInHanded_of_change_and (C := Tryd.checked) (X := fun w _ => laidMetH Tryd.prog Rows.showTextsRow.laid w) (fun _ _ _ hh h => h.of_heap hh) own started (by kernel_rfl) Tryd.func3
    (ChangeSpec.witness_shaped (enc := enc) (C := Tryd.checked) (os := os) (X := fun w _ => laidMetH Tryd.prog Rows.showTextsRow.laid w) false (World.doorLaid Tryd.prog 24 os) #[.agg #[.int .i64 0, .int .i64 0, .int .i64 0, .int .i64 0, .int .i64 0, .int .i64 0, .int .i64 0, .int .i64 0, .slice none 0 0, .int .i64 0, .int .i64 0, .int .i64 0, .int .i64 0], .agg #[.int .i64 0, .int .i64 0, .int .i64 0]] 8 rfl (World.shaped_of_RefB (by kernel_rfl) (by kernel_rfl)) (by kernel_rfl) (by kernel_rfl) (by kernel_rfl) (door_met os _)) ?_
  intro W base args ds gs before hval0 hW _ _ hL _
  have hval : ∀ (j : Nat) t v, Tryd.f3.params[j]? = some t → args[j]? = some v → Value.okWide Tryd.prog W .any base t v := hval0
  have hW' := hW
  obtain ⟨p, q, hA0, hV, rfl, hfz, hnd⟩ := hW
  have hA : DataW.TrodAll enc Tryd.prog W 0 (fun _ => true) true Tryd.f3.params.toList args.toList ds p := hA0
  rw [Tryd.params3] at hA hval
  obtain ⟨v0, vs0, d0, ds0, p0, q0, hargs, rfl, rfl, h0, r0⟩ := trodAll_cons hA
  obtain ⟨v1, vs1, d1, ds1, p1, q1, rfl, rfl, rfl, h1, r1⟩ := trodAll_cons r0
  obtain ⟨rfl, rfl, rfl⟩ := trodAll_nil r1
  obtain rfl : args = #[v0, v1] := by cases args; simp_all
  obtain ⟨rfl, rfl⟩ := trodVars_none hV
  clear hA0 hval0
  obtain ⟨L0, rfl, z0, n0, f0⟩ := open_fields Tryd.underlying25 (by kernel_rfl) (by kernel_rfl) (hval 0 25 v0 rfl rfl) h0
  obtain ⟨x0_0, x0_1, x0_2, x0_3, x0_4, x0_5, x0_6, x0_7, x0_8, x0_9, x0_10, x0_11, x0_12, rfl⟩ : ∃ x0_0 x0_1 x0_2 x0_3 x0_4 x0_5 x0_6 x0_7 x0_8 x0_9 x0_10 x0_11 x0_12, L0 = [x0_0, x0_1, x0_2, x0_3, x0_4, x0_5, x0_6, x0_7, x0_8, x0_9, x0_10, x0_11, x0_12] := list13 z0
  obtain ⟨y0_0, t0_0⟩ := f0 0 _ _ rfl rfl
  obtain ⟨y0_1, t0_1⟩ := f0 1 _ _ rfl rfl
  obtain ⟨y0_2, t0_2⟩ := f0 2 _ _ rfl rfl
  obtain ⟨y0_3, t0_3⟩ := f0 3 _ _ rfl rfl
  obtain ⟨y0_4, t0_4⟩ := f0 4 _ _ rfl rfl
  obtain ⟨y0_5, t0_5⟩ := f0 5 _ _ rfl rfl
  obtain ⟨y0_6, t0_6⟩ := f0 6 _ _ rfl rfl
  obtain ⟨y0_7, t0_7⟩ := f0 7 _ _ rfl rfl
  obtain ⟨y0_8, t0_8⟩ := f0 8 _ _ rfl rfl
  obtain ⟨y0_9, t0_9⟩ := f0 9 _ _ rfl rfl
  obtain ⟨y0_10, t0_10⟩ := f0 10 _ _ rfl rfl
  obtain ⟨y0_11, t0_11⟩ := f0 11 _ _ rfl rfl
  obtain ⟨y0_12, t0_12⟩ := f0 12 _ _ rfl rfl
  obtain ⟨a00, rfl, w00⟩ := trod_i Tryd.underlying3 t0_0
  obtain ⟨a01, rfl, w01⟩ := trod_i Tryd.underlying3 t0_1
  obtain ⟨a02, rfl, w02⟩ := trod_i Tryd.underlying3 t0_2
  obtain ⟨a03, rfl, w03⟩ := trod_i Tryd.underlying3 t0_3
  obtain ⟨a04, rfl, w04⟩ := trod_i Tryd.underlying3 t0_4
  obtain ⟨a05, rfl, w05⟩ := trod_i Tryd.underlying3 t0_5
  obtain ⟨a06, rfl, w06⟩ := trod_i Tryd.underlying3 t0_6
  obtain ⟨a07, rfl, w07⟩ := trod_i Tryd.underlying3 t0_7
  obtain ⟨A0_8, c0_8, k0_8, z0_8, rfl, l0_8, m0_8, w0_8, n0_8⟩ := trod_rdZ Tryd.underlying22 Tryd.underlying42 (by kernel_rfl) (by kernel_rfl) (by decide) (by intro j f hj; rcases j with _ | _ | _ | j <;> simp at hj <;> subst hj <;> kernel_rfl) t0_8
  obtain ⟨a09, rfl, w09⟩ := trod_i Tryd.underlying23 t0_9
  obtain ⟨a010, rfl, w010⟩ := trod_i Tryd.underlying3 t0_10
  obtain ⟨a011, rfl, w011⟩ := trod_i Tryd.underlying3 t0_11
  obtain ⟨a012, rfl, w012⟩ := trod_i Tryd.underlying3 t0_12
  obtain ⟨L1, rfl, z1, n1, f1⟩ := open_fields Tryd.underlying28 (by kernel_rfl) (by kernel_rfl) (hval 1 28 v1 rfl rfl) h1
  obtain ⟨x1_0, x1_1, x1_2, rfl⟩ : ∃ x1_0 x1_1 x1_2, L1 = [x1_0, x1_1, x1_2] := list3 z1
  obtain ⟨y1_0, t1_0⟩ := f1 0 _ _ rfl rfl
  obtain ⟨y1_1, t1_1⟩ := f1 1 _ _ rfl rfl
  obtain ⟨y1_2, t1_2⟩ := f1 2 _ _ rfl rfl
  obtain ⟨a10, rfl, w10⟩ := trod_i Tryd.underlying26 t1_0
  obtain ⟨a11, rfl, w11⟩ := trod_i Tryd.underlying3 t1_1
  obtain ⟨a12, rfl, w12⟩ := trod_i Tryd.underlying3 t1_2
  simp only [List.append_nil] at hW'
  refine (walk w00 w01 w02 w03 w04 w05 w06 w07 l0_8 m0_8 w0_8 n0_8 w09 w010 w011 w012 w10 w11 w12 hL ).mono fun e W' ⟨he, hb⟩ => ?_
  subst he
  exact ⟨_, rfl, post_true (tb := 4) laidOut hW' (by kernel_rfl) rfl Tryd.underlying4 (by kernel_rfl) rfl hb⟩

theorem over : Rows.showTextsRow.holds Tryd.pinned (OpenSpec.ofChange Rows.showTextsSpec) :=
  OpenClaim.holds_of_wide 3 Tryd.f3 rfl rfl rfl rfl rfl rfl rfl ⟨rfl, rfl, rfl, rfl, rfl⟩ rfl rfl rfl rfl rfl (by kernel_rfl) Tryd.func3 (by kernel_rfl)
    (of_decide_eq_true (by kernel_rfl)) (by unfold Func.isWrapper; first | (rw [if_pos (by decide +kernel)]; kernel_rfl) | (rw [if_neg (by decide +kernel)]; exact ⟨rfl, rfl⟩))
    (fun os started H enc _ => lifted os started H enc)

set_option maxRecDepth 100000 in
theorem proved : Rows.ShowTextsCardSaid :=
  Claim7.holds_tied_plain_at .later [] Rows.showTextsCard.laidKinds true Rows.showTextsCard.stood.harness false
    over (fun _ h => by cases h) (by kernel_rfl) (fun _ h => by cases h) showTexts_row_tie rfl ⟨rfl, rfl⟩ (by kernel_rfl) rfl
    (fun f fn hf hfn => by
      obtain rfl : f = 3 := Option.some.inj ((show Tryd.prog.funcNamed "hoistway/hoistwaylaw27.ShowTexts" = some 3 by kernel_rfl).symm.trans hf) |>.symm
      obtain rfl : fn = Tryd.f3 := (Option.some.inj (Tryd.func3.symm.trans hfn)).symm
      exact ⟨by kernel_rfl, fun j t ht => by
        have hm : t ∈ Tryd.f3.params.toList := by simpa using Array.mem_of_getElem? ht
        have hall : (Tryd.f3.params.toList.all fun u => !Tryd.prog.wantsStandIn u) = true := by kernel_rfl
        exact (show Tryd.prog.wantsStandIn t = false by simpa using List.all_eq_true.1 hall t hm)⟩)
    (by kernel_rfl)
end Go.Proofs.YtmnildjcnpfddaaDoor.showTexts
