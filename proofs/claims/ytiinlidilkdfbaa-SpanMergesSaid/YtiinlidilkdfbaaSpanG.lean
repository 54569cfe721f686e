/- span.Merge at the chapter's example: its parts. -/
import Derived.Test.YtiinlidilkdfbaaRows
import Derived.Test.YtiinlidilkdfbaaRowKit
import Derived.Test.YtiinlidilkdfbaaRowS
import Derived.Test.YtiinlidilkdfbaaRowZ
import Derived.Test.YtiinlidilkdfbaaSlicesEq
import Derived.Test.YtiinlidilkdfbaaSlicesEqM
import Derived.Test.YtiinlidilkdfbaaRowL
import Derived.Test.YtiinlidilkdfbaaRowM
import Derived.Test.YtiinlidilkdfbaaMakeI
import Derived.Test.YtiinlidilkdfbaaBlocks
import Derived.Test.YtiinlidilkdfbaaSpanMath
import Derived.Test.YtiinlidilkdfbaaShelf
import Derived.Test.YtiinlidilkdfbaaSpanA
import Derived.Test.YtiinlidilkdfbaaSpanB
import Derived.Test.YtiinlidilkdfbaaSpanC
import Derived.Test.YtiinlidilkdfbaaSpanD
import Derived.WalkKit
import Derived.IntWalk
import Derived.Lib.Hide
import Derived.WalkSpells
import Derived.WalkLawsBesides
import Derived.Laws.CopyOwn
import Derived.Laws.MakeOwn
import Derived.Laws.OwnMore
import Derived.Laws.AppendOwnNone
import Derived.OwnWalk
import Derived.BigRegion
import Derived.Deep.LoopGhost
import Derived.Deep.RegionHeld3
import Derived.Deep.QuietTactic
import Derived.BigQuiet
import Derived.Maps.AppendAt
import Derived.Lib.SliceRun
namespace Go.Proofs.Ytiinlidilkdfbaa
open Go.RowKit
set_option linter.unusedSimpArgs false
set_option linter.unusedVariables false
def L3 : List (Int × Int) := [(3, 5), (1, 3), (9, 9)]
theorem L3_wf : ∀ p, p ∈ L3 → (-9223372036854775808 ≤ p.1 ∧ p.1 ≤ 9223372036854775807) ∧ (-9223372036854775808 ≤ p.2 ∧ p.2 ≤ 9223372036854775807) := by
  intro p hp
  simp only [L3, List.mem_cons, List.not_mem_nil, or_false] at hp
  rcases hp with rfl | rfl | rfl <;> exact ⟨⟨by decide, by decide⟩, ⟨by decide, by decide⟩⟩
set_option maxHeartbeats 8000000 in
theorem clone3 (g : Nat) (w : World) (hg : Blk w g 26 #[.int .i64 3, .int .i64 5, .int .i64 1, .int .i64 3, .int .i64 9, .int .i64 9]) :
    Calls Try.prog 25 #[.slice (some ⟨g, 0, none⟩) 3 3] w fun e w' => ∃ h c, e = .returned (.slice (some ⟨h, 0, none⟩) 3 c) ∧ 3 ≤ c ∧ c ≤ maxLen ∧ w'.ownsRow w.heap.size 26 2 (.slice (some ⟨h, 0, none⟩) 3 c) 3 (rowM 2 (zS L3) 3) ∧ w.heap.size ≤ h ∧ Below w.heap.size w w' := by
  have hr : RdZ w 2 (some ⟨g, 0, none⟩) 3 (zS L3) := fun i hi => ⟨⟨g, 0, none⟩, rfl, hg.lt, fun j hj => by
    have hwf := L3_wf _ (getD_mem (L := L3) (k := i) hi)
    refine ⟨?_, ?_⟩
    · rcases i with _ | _ | _ | i
      all_goals (first | omega | skip)
      all_goals (rcases j with _ | _ | j; all_goals (first | omega | skip))
      · exact hg.cell 0
      · exact hg.cell 1
      · exact hg.cell 2
      · exact hg.cell 3
      · exact hg.cell 4
      · exact hg.cell 5
    · rw [wf_i64_iff]; unfold zS; split
      · exact hwf.1
      · exact hwf.2⟩
  have HR := Lib.hid hr
  have hnil : ∀ w, (binOp .eql 22 (.slice (some ⟨g, 0, none⟩) 3 3) (.slice none 0 0)).run Try.prog w = .ok (.bool false) w := fun w => Lib.run_eql_slice_nil w 22 26 (some ⟨g, 0, none⟩) 3 3 0 0 Try.underlying22
  have ha0 : Below w.heap.size w (w.alloc (.cells #[] 26)) := (Below.refl w.heap.size w).alloc (Nat.le_refl _) _
  clear hr hg
  go_enter Try.func25, Try.ntmps25
  go_wp2_with (at_builtin; refine append_spans rfl _ _ rfl w.heap.size _ 0 [] rfl (own0S w) (some ⟨g, 0, none⟩) 3 3 (zS L3) rfl (RdZ.kept HR.out ha0) (by omega) (fun e => by cases e) (by omega) (by simp) ?_; intro v1 w1 o1 q1)
  have o2 : w1.ownsRow w.heap.size 26 2 v1 3 (rowM 2 (zS L3) 3) := o1
  obtain ⟨h, cap, rfl, hge, hcap⟩ := ownM_head o2 (by omega)
  have hcm : cap ≤ maxLen := by
    rcases o2.2 with ⟨hv, _⟩ | ⟨g', cap', cur, hv, _, _, _, hc, _⟩
    · cases hv
    · simp only [Value.slice.injEq] at hv; omega
  have HO := Lib.hid o2
  clear o1 o2
  go_wp2_with fail
  go_ret
  exact ⟨h, cap, rfl, hcap, hcm, HO.out, hge, ha0.trans q1⟩
set_option maxRecDepth 100000 in
set_option maxHeartbeats 2000000 in
theorem idx3 (g c : Nat) (w : World) (k0 : w.cell? ⟨g, 0, none⟩ = some (.int .i64 3)) (k1 : w.cell? ⟨g, 1, none⟩ = some (.int .i64 5)) (k2 : w.cell? ⟨g, 2, none⟩ = some (.int .i64 1)) (k3 : w.cell? ⟨g, 3, none⟩ = some (.int .i64 3)) (k4 : w.cell? ⟨g, 4, none⟩ = some (.int .i64 9)) (k5 : w.cell? ⟨g, 5, none⟩ = some (.int .i64 9)) :
    Calls Try.prog 40 #[.slice (some ⟨g, 0, none⟩) 3 c, .func (.func 26) #[] #[]] w fun e w' => e = .returned (.int .i64 2) ∧ Below w.heap.size w w' := by
  have K0 := Lib.hid k0; have K1 := Lib.hid k1; have K2 := Lib.hid k2; have K3 := Lib.hid k3; have K4 := Lib.hid k4; have K5 := Lib.hid k5
  clear k0 k1 k2 k3 k4 k5
  go_enter Try.func40, Try.ntmps40
  go_wp2_with fail
  go_loopw [8] (fun i wr => Hid (Below w.heap.size w wr) ∧ (i = .int .i64 0 ∨ i = .int .i64 1 ∨ i = .int .i64 2)) (fun i _ => 3 - (intOf i).toNat)
  case atStart => exact ⟨Lib.hid (Below.refl _ _), Or.inl rfl⟩
  case round =>
    obtain ⟨HB, hi⟩ := hrel
    have k0 := cell_on HB.out K0.out; have k1 := cell_on HB.out K1.out; have k2 := cell_on HB.out K2.out; have k3 := cell_on HB.out K3.out; have k4 := cell_on HB.out K4.out; have k5 := cell_on HB.out K5.out
    rcases hi with rfl | rfl | rfl
    · go_wp2_with fail
      refine (fempty_any 3 5 wr).mono ?_
      rintro e w1 ⟨rfl, hb⟩
      have HB1 := Lib.hid (HB.out.trans (hb.mono HB.out.size))
      have hd : decide ((5 : Int) ≤ 3) = false := by decide
      rw [hd]
      clear k0 k1 k2 k3 k4 k5 hb
      go_wp2_with fail
      go_roundw
      case rel => exact ⟨HB1, Or.inr (Or.inl rfl)⟩
      case measure => simp [intOf]
    · go_wp2_with fail
      refine (fempty_any 1 3 wr).mono ?_
      rintro e w1 ⟨rfl, hb⟩
      have HB1 := Lib.hid (HB.out.trans (hb.mono HB.out.size))
      have hd : decide ((3 : Int) ≤ 1) = false := by decide
      rw [hd]
      clear k0 k1 k2 k3 k4 k5 hb
      go_wp2_with fail
      go_roundw
      case rel => exact ⟨HB1, Or.inr (Or.inr rfl)⟩
      case measure => simp [intOf]
    · go_wp2_with fail
      refine (fempty_any 9 9 wr).mono ?_
      rintro e w1 ⟨rfl, hb⟩
      have HB1 := Lib.hid (HB.out.trans (hb.mono HB.out.size))
      have hd : decide ((9 : Int) ≤ 9) = true := by decide
      rw [hd]
      clear k0 k1 k2 k3 k4 k5 hb
      go_wp2_with fail
      go_ret
      exact ⟨rfl, HB1.out⟩
theorem zero_span (w : World) : (zeroValue 26).run Try.prog w = .ok (.agg #[.int .i64 0, .int .i64 0]) w := by
  have hz : Try.t26.zero = some (.agg #[.int .i64 0, .int .i64 0]) := by kernel_rfl
  simp [zeroValue, hz]
theorem clear_one (w : World) (g c : Nat) (ty : TypeId) (h0 : (w.cell? ⟨g, 4, none⟩).isSome = true) (h1 : (w.cell? ⟨g, 5, none⟩).isSome = true) (f0 : w.frozen? ⟨g, 4, none⟩ = false) (f1 : w.frozen? ⟨g, 5, none⟩ = false) :
    (Builtin.clear_ #[22] ty #[.slice (some ⟨g, 4, none⟩) 1 c]).run Try.prog w = .ok (.tuple #[]) (w.setCells g 4 [.int .i64 0, .int .i64 0]) := by
  have hst := run_storeCells_cells (P := Try.prog) g 4 [.int .i64 0, .int .i64 0] 0 w (by intro j hj; rcases j with _ | _ | j; exact h0; exact h1; simp at hj; omega) (by intro j hj; rcases j with _ | _ | j; exact f0; exact f1; simp at hj; omega) (by intro v hv; simp at hv; subst hv; rfl)
  simp only [Nat.add_zero] at hst
  have hz : (Builtin.zeroCells (Value.cells (.agg #[.int .i64 0, .int .i64 0])) 1).toList = [.int .i64 0, .int .i64 0] := by kernel_rfl
  simp [Builtin.clear_, run_underlying Try.underlying22, zero_span, hz, hst]
/-- two spans in a row: their four numbers, which may be written -/
def P4 (w : World) (g : Nat) (a b c d : Int) : Prop := (w.cell? ⟨g, 0, none⟩ = some (.int .i64 a) ∧ w.cell? ⟨g, 1, none⟩ = some (.int .i64 b) ∧ w.cell? ⟨g, 2, none⟩ = some (.int .i64 c) ∧ w.cell? ⟨g, 3, none⟩ = some (.int .i64 d)) ∧ (w.frozen? ⟨g, 0, none⟩ = false ∧ w.frozen? ⟨g, 1, none⟩ = false ∧ w.frozen? ⟨g, 2, none⟩ = false ∧ w.frozen? ⟨g, 3, none⟩ = false)
theorem p4_drew {w : World} {g : Nat} {a b c d : Int} (h : P4 w g a b c d) : P4 w.drew g a b c d := h
theorem p4_on {w w' : World} {g : Nat} {a b c d : Int} (h : P4 w g a b c d) (hb : Below w.heap.size w w') : P4 w' g a b c d := by
  obtain ⟨⟨h0, h1, h2, h3⟩, f0, f1, f2, f3⟩ := h
  have hl := lt_of_cell h0
  have hf : ∀ j, w'.frozen? ⟨g, j, none⟩ = w.frozen? ⟨g, j, none⟩ := fun j => by
    have := hb.block g hl
    simp only [World.frozen?, this]
  exact ⟨⟨cell_on hb h0, cell_on hb h1, cell_on hb h2, cell_on hb h3⟩, by rw [hf]; exact f0, by rw [hf]; exact f1, by rw [hf]; exact f2, by rw [hf]; exact f3⟩
set_option maxRecDepth 100000 in
set_option maxHeartbeats 2000000 in
theorem del3 (g c : Nat) (w : World) (hc : 3 ≤ c) (hcm : c ≤ maxLen) (hp : P4 w g 3 5 1 3) (k4 : w.cell? ⟨g, 4, none⟩ = some (.int .i64 9)) (k5 : w.cell? ⟨g, 5, none⟩ = some (.int .i64 9)) (f4 : w.frozen? ⟨g, 4, none⟩ = false) (f5 : w.frozen? ⟨g, 5, none⟩ = false) :
    Calls Try.prog 24 #[.slice (some ⟨g, 0, none⟩) 3 c, .func (.func 26) #[] #[]] w fun e w' => e = .returned (.slice (some ⟨g, 0, none⟩) 2 c) ∧ P4 w' g 3 5 1 3 ∧ Below g w w' := by
  have KI := Lib.hid (idx3 g c w hp.1.1 hp.1.2.1 hp.1.2.2.1 hp.1.2.2.2 k4 k5)
  have hl := lt_of_cell k4
  have HL : Hid (g < w.heap.size) := Lib.hid hl
  have HP := Lib.hid hp; have H4 := Lib.hid k4; have H5 := Lib.hid k5; have F4 := Lib.hid f4; have F5 := Lib.hid f5
  have hM : maxLen ≤ 9223372036854775807 := by decide
  clear hp k4 k5 f4 f5 hl
  go_enter Try.func24, Try.ntmps24
  go_wp2_with fail
  refine KI.out.mono ?_
  rintro e w1 ⟨rfl, hb⟩
  have hfr : ∀ j, w1.frozen? ⟨g, j, none⟩ = w.frozen? ⟨g, j, none⟩ := fun j => by
    have := hb.block g HL.out
    simp only [World.frozen?, this]
  have HP1 := Lib.hid (p4_on HP.out hb)
  have hcl := fun ty => clear_one w1 g (c - 2) ty (by rw [cell_on hb H4.out]; rfl) (by rw [cell_on hb H5.out]; rfl) (by rw [hfr]; exact F4.out) (by rw [hfr]; exact F5.out)
  have HB1 : Hid (Below g w w1) := Lib.hid (hb.mono (by have := HL.out; omega))
  have h2c : (2 : Int) < (c : Int) := by omega
  have h2c' : 2 < c := by omega
  have HCL := Lib.hid hcl
  clear hfr hb hcl
  go_wp2_with fail
  go_loopw [5, 6] (fun i j wr => i = .int .i64 2 ∧ j = .int .i64 3 ∧ wr = w1) (fun _ _ _ => 0)
  case atStart => exact ⟨rfl, rfl, rfl⟩
  case round =>
    obtain ⟨rfl, rfl, rfl⟩ := hrel
    have hcl := HCL.out
    go_wp2_with fail
    go_ret
    refine ⟨rfl, ?_, ?_⟩
    · obtain ⟨⟨h0, h1, h2, h3⟩, f0, f1, f2, f3⟩ := HP1.out
      have hk : ∀ o, o < 4 → (wr.setCells g 4 [.int .i64 0, .int .i64 0]).cell? ⟨g, o, none⟩ = wr.cell? ⟨g, o, none⟩ := fun o ho => World.cell?_setCells_out g _ 4 wr ⟨g, o, none⟩ (fun _ _ => Or.inl ho)
      have hf : ∀ o, (wr.setCells g 4 [.int .i64 0, .int .i64 0]).frozen? ⟨g, o, none⟩ = wr.frozen? ⟨g, o, none⟩ := fun o => World.frozen?_setCells g _ 4 wr ⟨g, o, none⟩
      exact ⟨⟨(hk 0 (by omega)).trans h0, (hk 1 (by omega)).trans h1, (hk 2 (by omega)).trans h2, (hk 3 (by omega)).trans h3⟩, (hf 0).trans f0, (hf 1).trans f1, (hf 2).trans f2, (hf 3).trans f3⟩
    · have e : wr.setCells g 4 [.int .i64 0, .int .i64 0] = (wr.setCell ⟨g, 4, none⟩ (.int .i64 0)).setCell ⟨g, 5, none⟩ (.int .i64 0) := by rfl
      rw [e]
      exact (HB1.out.setCell (p := ⟨g, 4, none⟩) (Nat.le_refl _) _).setCell (p := ⟨g, 5, none⟩) (Nat.le_refl _) _
set_option maxHeartbeats 8000000 in
theorem m1_at (w : World) :
    Calls Try.prog 28 #[.agg #[.int .i64 1, .int .i64 3], .agg #[.int .i64 3, .int .i64 5]] w fun e w' => e = .returned (.int .i64 (-1)) ∧ Below w.heap.size w w' := by
  go_enter Try.func28, Try.ntmps28
  go_wp2_with fail
  refine (Try.cmp_Compare_int 1 3 _).mono ?_
  rintro e w1 ⟨rfl, rfl⟩
  go_wp2_with fail
  go_ret
  exact ⟨rfl, ((Below.refl _ _).alloc (Nat.le_refl _) _).alloc (by simp <;> omega) _⟩
end Go.Proofs.Ytiinlidilkdfbaa
