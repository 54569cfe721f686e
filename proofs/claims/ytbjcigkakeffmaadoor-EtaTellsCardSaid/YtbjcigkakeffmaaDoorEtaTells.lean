/- The law EtaTells answers true for every input, and leaves its arguments alone. No condition but the laid tables, which are tied to the text. -/
import Derived.Test.YtbjcigkakeffmaaDoorRows
import Derived.Test.YtbjcigkakeffmaaDoorKitM
import Derived.Test.YtbjcigkakeffmaaDoorEtaTellsW
import Derived.Deep.Fields
import Derived.Test.YtbjcigkakeffmaaDoorCards
import Derived.Test.YtbjcigkakeffmaaDoorTie
import Derived.SevenTiedAt
import Derived.LaidMore
import Derived.Stop.Joined
import Derived.WalkKit
import Derived.ProofKit
import Derived.OpenShut
import Derived.Deep.QuietTactic
import Derived.BigQuiet
import Derived.Lib.SmallJoins
import Derived.Lib.Hide
import Derived.WalkSpells
import Derived.WalkLawsBesides
namespace Go.Proofs.YtbjcigkakeffmaaDoor.etaTells
open Go.ChangeShapes Go.WideShapes Go.ChangeAt Go.RowKit Go.Joins
set_option linter.unusedSimpArgs false
set_option linter.unusedVariables false
theorem own : ownKnob Tryd.prog.godebug = none := by kernel_rfl
set_option maxRecDepth 100000 in
theorem door_met (os : Os) (args : Array Value) : laidMetH Tryd.prog Rows.etaTellsRow.laid ((World.doorLaid Tryd.prog 14 os).forCall (fun _ _ => 0) ⟨#[], args, []⟩).memory :=
  laidMetH_of_parts3 (fuel := 8) (laidMet_of_run' 8 (by kernel_rfl) (by kernel_rfl)) (by kernel_rfl) (by kernel_rfl)
set_option maxRecDepth 100000 in
theorem lifted (os : Os) (started : os.Started) (H : Type) (enc : TypeId × Value → H) :
    ReturnsInHanded {} Tryd.checked os 3 .any (fun w args => (Rows.etaTellsSpec.pre enc Tryd.prog Tryd.f3 [] false w args ∧ laidMetH Tryd.prog Rows.etaTellsRow.laid w) ∧ sizedMet enc Tryd.prog Tryd.f3 (OpenSpec.ofChange Rows.etaTellsSpec) false w args)
      (Rows.etaTellsSpec.post enc Tryd.prog Tryd.f3 false true false false) := by
  refine returnsInHanded_of_change_and (C := Tryd.checked) (X := fun w _ => laidMetH Tryd.prog Rows.etaTellsRow.laid w) (fun _ _ _ hh h => h.of_heap hh) own started (by kernel_rfl) Tryd.func3
    (ChangeSpec.witness_shaped (enc := enc) (C := Tryd.checked) (os := os) (X := fun w _ => laidMetH Tryd.prog Rows.etaTellsRow.laid w) false (World.doorLaid Tryd.prog 14 os) #[.agg #[.int .i64 0, .int .i64 0, .int .i64 0, .int .i64 0, .int .i64 0, .int .i64 0, .int .i64 0, .int .i64 0, .slice none 0 0, .int .i64 0, .int .i64 0, .int .i64 0, .int .i64 0], .slice none 0 0, .agg #[.slice none 0 0, .int .i64 0, .int .i64 0]] 8 rfl (World.shaped_of_RefB (by kernel_rfl) (by kernel_rfl)) (by kernel_rfl) (by kernel_rfl) (by kernel_rfl) (door_met os _)) ?_
  intro W base args ds gs before hval0 hW _ _ hL _
  have hval : ∀ (j : Nat) t v, Tryd.f3.params[j]? = some t → args[j]? = some v → Value.okWide Tryd.prog W .any base t v := hval0
  have hW' := hW
  obtain ⟨p, q, hA0, hV, rfl, hfz, hnd⟩ := hW
  have hA : DataW.TrodAll enc Tryd.prog W 0 (fun _ => true) true Tryd.f3.params.toList args.toList ds p := hA0
  rw [Tryd.params3] at hA hval
  obtain ⟨v0, vs0, d0, ds0, p0, q0, hargs, rfl, rfl, h0, r0⟩ := trodAll_cons hA
  obtain ⟨v1, vs1, d1, ds1, p1, q1, rfl, rfl, rfl, h1, r1⟩ := trodAll_cons r0
  obtain ⟨v2, vs2, d2, ds2, p2, q2, rfl, rfl, rfl, h2, r2⟩ := trodAll_cons r1
  obtain ⟨rfl, rfl, rfl⟩ := trodAll_nil r2
  obtain rfl : args = #[v0, v1, v2] := by cases args; simp_all
  obtain ⟨rfl, rfl⟩ := trodVars_none hV
  clear hA0 hval0
  obtain ⟨L0, rfl, z0, n0, f0⟩ := open_fields Tryd.underlying25 (by kernel_rfl) (by kernel_rfl) (hval 0 25 v0 rfl rfl) h0
  obtain ⟨x0_0, x0_1, x0_2, x0_3, x0_4, x0_5, x0_6, x0_7, x0_8, x0_9, x0_10, x0_11, x0_12, rfl⟩ : ∃ x0_0 x0_1 x0_2 x0_3 x0_4 x0_5 x0_6 x0_7 x0_8 x0_9 x0_10 x0_11 x0_12, L0 = [x0_0, x0_1, x0_2, x0_3, x0_4, x0_5, x0_6, x0_7, x0_8, x0_9, x0_10, x0_11, x0_12] := list13 z0
  obtain ⟨y0_0, t0_0⟩ := f0 0 _ _ rfl rfl
  obtain ⟨y0_1, t0_1⟩ := f0 1 _ _ rfl rfl
  obtain ⟨y0_2, t0_2⟩ := f0 2 _ _ rfl rfl
  obtain ⟨y0_3, t0_3⟩ := f0 3 _ _ rfl rfl
  obtain ⟨y0_4, t0_4⟩ := f0 4 _ _ rfl rfl
  obtain ⟨y0_5, t0_5⟩ := f0 5 _ _ rfl rfl
  obtain ⟨y0_6, t0_6⟩ := f0 6 _ _ rfl rfl
  obtain ⟨y0_7, t0_7⟩ := f0 7 _ _ rfl rfl
  obtain ⟨y0_8, t0_8⟩ := f0 8 _ _ rfl rfl
  obtain ⟨y0_9, t0_9⟩ := f0 9 _ _ rfl rfl
  obtain ⟨y0_10, t0_10⟩ := f0 10 _ _ rfl rfl
  obtain ⟨y0_11, t0_11⟩ := f0 11 _ _ rfl rfl
  obtain ⟨y0_12, t0_12⟩ := f0 12 _ _ rfl rfl
  obtain ⟨a00, rfl, w00⟩ := trod_i Tryd.underlying3 t0_0
  obtain ⟨a01, rfl, w01⟩ := trod_i Tryd.underlying3 t0_1
  obtain ⟨a02, rfl, w02⟩ := trod_i Tryd.underlying3 t0_2
  obtain ⟨a03, rfl, w03⟩ := trod_i Tryd.underlying3 t0_3
  obtain ⟨a04, rfl, w04⟩ := trod_i Tryd.underlying3 t0_4
  obtain ⟨a05, rfl, w05⟩ := trod_i Tryd.underlying3 t0_5
  obtain ⟨a06, rfl, w06⟩ := trod_i Tryd.underlying3 t0_6
  obtain ⟨a07, rfl, w07⟩ := trod_i Tryd.underlying3 t0_7
  obtain ⟨A0_8, c0_8, k0_8, z0_8, rfl, l0_8, m0_8, w0_8, n0_8⟩ := trod_rdZ Tryd.underlying22 Tryd.underlying69 (by kernel_rfl) (by kernel_rfl) (by decide) (by intro j f hj; rcases j with _ | _ | _ | j <;> simp at hj <;> subst hj <;> kernel_rfl) t0_8
  obtain ⟨a09, rfl, w09⟩ := trod_i Tryd.underlying23 t0_9
  obtain ⟨a010, rfl, w010⟩ := trod_i Tryd.underlying3 t0_10
  obtain ⟨a011, rfl, w011⟩ := trod_i Tryd.underlying3 t0_11
  obtain ⟨a012, rfl, w012⟩ := trod_i Tryd.underlying3 t0_12
  obtain ⟨A1, c1, k1, z1, rfl, l1, m1, w1, n1⟩ := open_rdV shCar Tryd.underlying26 Tryd.underlying36 (by kernel_rfl) (by kernel_rfl) (by decide) (by
      intro j f hj u n x hx
      rcases j with _ | _ | _ | _ | _ | _ | j <;> simp at hj <;> subst hj
      · exact sh_int Tryd.underlying3 hx
      · exact sh_int Tryd.underlying3 hx
      · exact sh_int Tryd.underlying33 hx
      · exact sh_int Tryd.underlying3 hx
      · exact sh_bool Tryd.underlying4 hx
      · exact sh_slice Tryd.underlying34 hx) (by obtain ⟨s, _, _, e⟩ := okWide_slice Tryd.underlying26 (hval 1 26 v1 rfl rfl); rw [e]; rfl) h1
  obtain ⟨L2, rfl, z2, n2, f2⟩ := open_fields Tryd.underlying29 (by kernel_rfl) (by kernel_rfl) (hval 2 29 v2 rfl rfl) h2
  obtain ⟨x2_0, x2_1, x2_2, rfl⟩ : ∃ x2_0 x2_1 x2_2, L2 = [x2_0, x2_1, x2_2] := list3 z2
  obtain ⟨y2_0, t2_0⟩ := f2 0 _ _ rfl rfl
  obtain ⟨y2_1, t2_1⟩ := f2 1 _ _ rfl rfl
  obtain ⟨y2_2, t2_2⟩ := f2 2 _ _ rfl rfl
  obtain ⟨A2_0, c2_0, k2_0, z2_0, rfl, l2_0, m2_0, w2_0, n2_0⟩ := trod_rdK Tryd.underlying27 Tryd.underlying40 Tryd.underlying38 (by kernel_rfl) (by kernel_rfl) (by decide) t2_0
  obtain ⟨a21, rfl, w21⟩ := trod_i Tryd.underlying3 t2_1
  obtain ⟨a22, rfl, w22⟩ := trod_i Tryd.underlying3 t2_2
  simp only [List.append_nil] at hW'
  refine (walk w00 w01 w02 w03 w04 w05 w06 w07 l0_8 m0_8 w0_8 n0_8 w09 w010 w011 w012 l1 m1 w1 n1 l2_0 m2_0 w2_0 n2_0 w21 w22 hL ).mono fun e W' ⟨he, hb⟩ => ?_
  subst he
  exact ⟨_, rfl, post_true (tb := 4) laidOut hW' (by kernel_rfl) rfl Tryd.underlying4 (by kernel_rfl) rfl hb⟩

theorem over : Rows.etaTellsRow.holds Tryd.pinned (OpenSpec.ofChange Rows.etaTellsSpec) :=
  OpenClaim.holds_of_wide 3 Tryd.f3 rfl rfl rfl rfl rfl rfl rfl ⟨rfl, rfl, rfl, rfl, rfl⟩ rfl rfl rfl rfl rfl (by kernel_rfl) Tryd.func3 (by kernel_rfl)
    (of_decide_eq_true (by kernel_rfl)) (by unfold Func.isWrapper; first | (rw [if_pos (by decide +kernel)]; kernel_rfl) | (rw [if_neg (by decide +kernel)]; exact ⟨rfl, rfl⟩))
    (fun os started H enc _ => lifted os started H enc)

set_option maxRecDepth 100000 in
theorem proved : Rows.EtaTellsCardSaid :=
  Claim7.holds_tied_plain_at .later [] Rows.etaTellsCard.laidKinds true Rows.etaTellsCard.stood.harness false
    over (fun _ h => by cases h) (by kernel_rfl) (fun _ h => by cases h) etaTells_row_tie rfl ⟨rfl, rfl⟩ (by kernel_rfl) rfl
    (fun f fn hf hfn => by
      obtain rfl : f = 3 := Option.some.inj ((show Tryd.prog.funcNamed "hoistway/hoistwaylaw34.EtaTells" = some 3 by kernel_rfl).symm.trans hf) |>.symm
      obtain rfl : fn = Tryd.f3 := (Option.some.inj (Tryd.func3.symm.trans hfn)).symm
      exact ⟨by kernel_rfl, fun j t ht => by
        have hm : t ∈ Tryd.f3.params.toList := by simpa using Array.mem_of_getElem? ht
        have hall : (Tryd.f3.params.toList.all fun u => !Tryd.prog.wantsStandIn u) = true := by kernel_rfl
        exact (show Tryd.prog.wantsStandIn t = false by simpa using List.all_eq_true.1 hall t hm)⟩)
    (by kernel_rfl)
end Go.Proofs.YtbjcigkakeffmaaDoor.etaTells
