/- Scenarios as texts: the document's Text. -/
import Derived.Test.YtmnildjcnpfddaaDoorRows
import Derived.Test.YtmnildjcnpfddaaDoorRowKit
import Derived.Test.YtmnildjcnpfddaaDoorShelf
import Derived.Test.YtmnildjcnpfddaaDoorRowS
import Derived.Test.YtmnildjcnpfddaaDoorRowZ
import Derived.Test.YtmnildjcnpfddaaDoorRowL
import Derived.Test.YtmnildjcnpfddaaDoorRowM
import Derived.Test.YtmnildjcnpfddaaDoorBlocks
import Derived.Test.YtmnildjcnpfddaaDoorBL
import Derived.Test.YtmnildjcnpfddaaDoorTab
import Derived.Test.YtmnildjcnpfddaaDoorDigB
import Derived.Lib.ItoaLen
import Derived.Lib.Join
import Derived.Test.YtmnildjcnpfddaaDoorAtKit
import Derived.Test.YtmnildjcnpfddaaDoorShowA
import Derived.Test.YtmnildjcnpfddaaDoorShowB
import Derived.Test.YtmnildjcnpfddaaDoorVetA
import Derived.Test.YtmnildjcnpfddaaDoorVetB
import Derived.Test.YtmnildjcnpfddaaDoorShowM
import Derived.Deep.RegionHeld3
import Derived.WalkKit
import Derived.IntWalk
import Derived.Lib.Hide
import Derived.WalkSpells
import Derived.WalkLawsBesides
import Derived.Laws.IdiomStrings
import Derived.Laws.OwnMore
import Derived.Laws.MakeOwn
import Derived.OwnWalk
import Derived.Deep.QuietTactic
import Derived.BigQuiet
import Derived.BigRegion
import Derived.Deep.LoopGhost
namespace Go.Proofs.YtmnildjcnpfddaaDoor
open Go.RowKit Go.Sort
set_option linter.unusedSimpArgs false
set_option linter.unusedVariables false
theorem at3 {w : World} {b o : Nat} {v0 v1 v2 : Value} (h0 : w.cell? ⟨b, o, none⟩ = some v0) (h1 : w.cell? ⟨b, o + 1, none⟩ = some v1) (h2 : w.cell? ⟨b, o + 2, none⟩ = some v2) : At w b o #[v0, v1, v2] := fun i v hv => by
  rcases i with _ | _ | _ | i <;> simp at hv <;> subst hv <;> assumption
set_option maxRecDepth 100000 in
set_option maxHeartbeats 80000000 in
theorem dtext_any (s0 s1 s2 s3 s4 s5 s6 s7 s9 s10 s11 s12 : Int) (A : Option Addr) (n c : Nat) (z : Nat → Nat → Int) (w : World) (hs : SOk s0 s1 s2 s3 s4 s5 s6 s7 s9 s10 s11 s12) (hz : sgB2 z n) (hr : RdZ w 3 A n z) (hn : n ≤ 30) :
    Calls Tryd.prog 5 #[.agg #[.int .i64 s0, .int .i64 s1, .int .i64 s2, .int .i64 s3, .int .i64 s4, .int .i64 s5, .int .i64 s6, .int .i64 s7, .slice A n c, .int .i64 s9, .int .i64 s10, .int .i64 s11, .int .i64 s12]] w (TxR s0 s1 s2 s3 s4 s5 s6 s7 s9 s10 s11 s12 n z w) := by
  obtain ⟨Q, hQ⟩ : ∃ Q : Ending → World → Prop, TxR s0 s1 s2 s3 s4 s5 s6 s7 s9 s10 s11 s12 n z w = Q := ⟨_, rfl⟩
  rw [hQ]
  have B0 := Blk.new w #[.int .i64 s0, .int .i64 s1, .int .i64 s2, .int .i64 s3, .int .i64 s4, .int .i64 s5, .int .i64 s6, .int .i64 s7, .slice A n c, .int .i64 s9, .int .i64 s10, .int .i64 s11, .int .i64 s12] 25
  have E0 := (Below.refl w.heap.size w).alloc (Nat.le_refl _) (.cells #[.int .i64 s0, .int .i64 s1, .int .i64 s2, .int .i64 s3, .int .i64 s4, .int .i64 s5, .int .i64 s6, .int .i64 s7, .slice A n c, .int .i64 s9, .int .i64 s10, .int .i64 s11, .int .i64 s12] 25)
  have KC := Lib.hid (fun W (h : RdZ W 3 A n z) => rcheck_any s0 s1 s2 s3 s4 s5 s6 s7 s9 s10 s11 s12 A n c z W h (by omega))
  obtain ⟨ck, hck⟩ : ∃ ck, ckA (numV s0 s1 s2 s3 s4 s5 s6 s7 s10 s11 s12) s9 n z = ck := ⟨_, rfl⟩
  have HQ : Hid ((∀ w', Below w.heap.size w w' → ck = 0 → Q (.returned (.tuple #[.string (bL (txT s0 s1 s2 s3 s4 s5 s6 s7 s9 s10 s11 s12 n z)), .int .i64 0])) w') ∧ (∀ w', Below w.heap.size w w' → ck ≠ 0 → Q (.returned (.tuple #[.string (ByteArray.mk #[]), .int .i64 ck])) w')) := Lib.hid ⟨fun w' h1 h2 => by rw [← hQ]; exact ⟨h1, Or.inl ⟨by rw [hck]; exact h2, rfl⟩⟩, fun w' h1 h2 => by rw [← hQ]; exact ⟨h1, Or.inr ⟨by rw [hck]; exact h2, by rw [hck]; rfl⟩⟩⟩
  rw [hck] at KC
  have HR := Lib.hid hr; have HOKS := Lib.hid hs; have HZ := Lib.hid hz
  obtain ⟨V0, hV⟩ : ∃ V, w.alloc (.cells #[.int .i64 s0, .int .i64 s1, .int .i64 s2, .int .i64 s3, .int .i64 s4, .int .i64 s5, .int .i64 s6, .int .i64 s7, .slice A n c, .int .i64 s9, .int .i64 s10, .int .i64 s11, .int .i64 s12] 25) = V := ⟨_, rfl⟩
  rw [hV] at B0 E0
  have HV := Lib.hid hV
  have HB0 := Lib.hid B0; have HE0 := Lib.hid E0
  clear hQ hck hr hs hz hV B0 E0
  go_enter Tryd.func5, Tryd.ntmps5
  go_wp2_with fail
  rw [HV.out]
  refine (KC.out V0 (RdZ.kept HR.out HE0.out)).mono ?_
  rintro e V ⟨rfl, hb⟩
  have HS := Lib.hid (HB0.out.next hb)
  have EE := Lib.hid (HE0.out.trans (hb.mono HE0.out.size))
  clear hb KC HB0 HE0
  by_cases hc0 : ck = 0
  case neg =>
    have q0 : (ck == 0) = false := by rw [beq_eq_false_iff_ne]; exact hc0
    have q1 : (ck != 0) = true := by rw [bne_iff_ne]; exact hc0
    have HF := Lib.hid (HQ.out.2 V EE.out hc0)
    clear hc0
    go_wp2_with fail
    exact HF.out
  subst hc0
  have HQ0 := Lib.hid (fun w' h => HQ.out.1 w' h rfl)
  clear HQ
  obtain ⟨t1, ht1⟩ : ∃ t, bL (lnS ([98, 117, 105, 108, 100, 105, 110, 103]) (fun i : Nat => [s0, s1].getD i 0) 2) = t := ⟨_, rfl⟩
  have K1 : Hid (∀ (W : World) (g : Nat), Blk W g 3 #[.int .i64 s0, .int .i64 s1] → Calls Tryd.prog 16 #[.string (ByteArray.mk #[98, 117, 105, 108, 100, 105, 110, 103]), .slice (some ⟨g, 0, none⟩) 2 2] W fun e w' => e = .returned (.string t1) ∧ Below W.heap.size W w') := Lib.hid (fun W g hB => by
    rw [← ht1]
    exact dline_any ([98, 117, 105, 108, 100, 105, 110, 103]) (some ⟨g, 0, none⟩) 2 2 (fun i : Nat => [s0, s1].getD i 0) W (by decide) (by decide) (wf2 HOKS.out.1.1 HOKS.out.1.2.1) (fun _ => ⟨g, 0, rfl, hB.lt, fun i hi => by
      rw [Nat.zero_add, hB.cell i]
      rcases i with _ | _ | i <;> first | rfl | omega⟩))
  have st1 : t1.size ≤ 300 := by
    rw [← ht1, bL_size]
    have := lnS_len ([98, 117, 105, 108, 100, 105, 110, 103]) (fun i : Nat => [s0, s1].getD i 0) 2 (wf2 HOKS.out.1.1 HOKS.out.1.2.1)
    simp only [List.length_cons, List.length_nil] at this; omega
  obtain ⟨t2, ht2⟩ : ∃ t, bL (lnS ([99, 97, 114, 115]) (fun i : Nat => [s2, s3].getD i 0) 2) = t := ⟨_, rfl⟩
  have K2 : Hid (∀ (W : World) (g : Nat), Blk W g 3 #[.int .i64 s2, .int .i64 s3] → Calls Tryd.prog 16 #[.string (ByteArray.mk #[99, 97, 114, 115]), .slice (some ⟨g, 0, none⟩) 2 2] W fun e w' => e = .returned (.string t2) ∧ Below W.heap.size W w') := Lib.hid (fun W g hB => by
    rw [← ht2]
    exact dline_any ([99, 97, 114, 115]) (some ⟨g, 0, none⟩) 2 2 (fun i : Nat => [s2, s3].getD i 0) W (by decide) (by decide) (wf2 HOKS.out.1.2.2.1 HOKS.out.1.2.2.2) (fun _ => ⟨g, 0, rfl, hB.lt, fun i hi => by
      rw [Nat.zero_add, hB.cell i]
      rcases i with _ | _ | i <;> first | rfl | omega⟩))
  have st2 : t2.size ≤ 300 := by
    rw [← ht2, bL_size]
    have := lnS_len ([99, 97, 114, 115]) (fun i : Nat => [s2, s3].getD i 0) 2 (wf2 HOKS.out.1.2.2.1 HOKS.out.1.2.2.2)
    simp only [List.length_cons, List.length_nil] at this; omega
  obtain ⟨t3, ht3⟩ : ∃ t, bL (lnS ([100, 111, 111, 114, 115]) (fun i : Nat => [s4, s5, s6, s7].getD i 0) 4) = t := ⟨_, rfl⟩
  have K3 : Hid (∀ (W : World) (g : Nat), Blk W g 3 #[.int .i64 s4, .int .i64 s5, .int .i64 s6, .int .i64 s7] → Calls Tryd.prog 16 #[.string (ByteArray.mk #[100, 111, 111, 114, 115]), .slice (some ⟨g, 0, none⟩) 4 4] W fun e w' => e = .returned (.string t3) ∧ Below W.heap.size W w') := Lib.hid (fun W g hB => by
    rw [← ht3]
    exact dline_any ([100, 111, 111, 114, 115]) (some ⟨g, 0, none⟩) 4 4 (fun i : Nat => [s4, s5, s6, s7].getD i 0) W (by decide) (by decide) (wf4 HOKS.out.2.1.1 HOKS.out.2.1.2.1 HOKS.out.2.1.2.2.1 HOKS.out.2.1.2.2.2) (fun _ => ⟨g, 0, rfl, hB.lt, fun i hi => by
      rw [Nat.zero_add, hB.cell i]
      rcases i with _ | _ | _ | _ | i <;> first | rfl | omega⟩))
  have st3 : t3.size ≤ 300 := by
    rw [← ht3, bL_size]
    have := lnS_len ([100, 111, 111, 114, 115]) (fun i : Nat => [s4, s5, s6, s7].getD i 0) 4 (wf4 HOKS.out.2.1.1 HOKS.out.2.1.2.1 HOKS.out.2.1.2.2.1 HOKS.out.2.1.2.2.2)
    simp only [List.length_cons, List.length_nil] at this; omega
  have Hht1 := Lib.hid ht1; have Hht2 := Lib.hid ht2; have Hht3 := Lib.hid ht3
  clear ht1 ht2 ht3
  have y1 : ¬ 9223372036854775807 < t1.size + t2.size := by omega
  have y2 : ¬ 9223372036854775807 < t1.size + t2.size + t3.size := by omega
  have kS0 : V.cell? ⟨w.heap.size, 0, none⟩ = some (.int .i64 s0) := HS.out.cell 0
  have kS1 : V.cell? ⟨w.heap.size, 1, none⟩ = some (.int .i64 s1) := HS.out.cell 1
  have kS2 : V.cell? ⟨w.heap.size, 2, none⟩ = some (.int .i64 s2) := HS.out.cell 2
  have kS3 : V.cell? ⟨w.heap.size, 3, none⟩ = some (.int .i64 s3) := HS.out.cell 3
  have kS4 : V.cell? ⟨w.heap.size, 4, none⟩ = some (.int .i64 s4) := HS.out.cell 4
  have kS5 : V.cell? ⟨w.heap.size, 5, none⟩ = some (.int .i64 s5) := HS.out.cell 5
  have kS6 : V.cell? ⟨w.heap.size, 6, none⟩ = some (.int .i64 s6) := HS.out.cell 6
  have kS7 : V.cell? ⟨w.heap.size, 7, none⟩ = some (.int .i64 s7) := HS.out.cell 7
  have kS8 : V.cell? ⟨w.heap.size, 8, none⟩ = some (.slice A n c) := HS.out.cell 8
  have kS9 : V.cell? ⟨w.heap.size, 9, none⟩ = some (.int .i64 s9) := HS.out.cell 9
  have kS10 : V.cell? ⟨w.heap.size, 10, none⟩ = some (.int .i64 s10) := HS.out.cell 10
  have kS11 : V.cell? ⟨w.heap.size, 11, none⟩ = some (.int .i64 s11) := HS.out.cell 11
  have kS12 : V.cell? ⟨w.heap.size, 12, none⟩ = some (.int .i64 s12) := HS.out.cell 12
  go_wp2_with fail
  refine Code.wp_mono (Q := fun e a W => e = .normal ∧ ∃ gN gM gO : Nat, a = { tmps := #[.agg #[.int .i64 s0, .int .i64 s1, .int .i64 s2, .int .i64 s3, .int .i64 s4, .int .i64 s5, .int .i64 s6, .int .i64 s7, .slice A n c, .int .i64 s9, .int .i64 s10, .int .i64 s11, .int .i64 s12], .pointer (some ⟨w.heap.size, 0, none⟩), .string (ByteArray.mk #[]), .int .i64 0, .int .i64 0, .string (t1 ++ t2 ++ t3), undef, .agg #[.int .i64 s0, .int .i64 s1, .int .i64 s2, .int .i64 s3, .int .i64 s4, .int .i64 s5, .int .i64 s6, .int .i64 s7, .slice A n c, .int .i64 s9, .int .i64 s10, .int .i64 s11, .int .i64 s12], .int .i64 0, .int .i64 0, .bool false, undef, .pointer (some ⟨w.heap.size, 0, none⟩), .int .i64 s0, .pointer (some ⟨w.heap.size, 1, none⟩), .int .i64 s1, .slice (some ⟨gN, 0, none⟩) 2 2, .string t1, .pointer (some ⟨w.heap.size, 2, none⟩), .int .i64 s2, .pointer (some ⟨w.heap.size, 3, none⟩), .int .i64 s3, .slice (some ⟨gM, 0, none⟩) 2 2, .string t2, .string (t1 ++ t2), .pointer (some ⟨w.heap.size, 4, none⟩), .int .i64 s4, .pointer (some ⟨w.heap.size, 5, none⟩), .int .i64 s5, .pointer (some ⟨w.heap.size, 6, none⟩), .int .i64 s6, .pointer (some ⟨w.heap.size, 7, none⟩), .int .i64 s7, .slice (some ⟨gO, 0, none⟩) 4 4, .string t3, .string (t1 ++ t2 ++ t3), undef, undef, undef, undef, undef, undef, undef, undef, undef, undef, undef, undef, undef, undef, undef, undef, undef, undef, undef, undef, undef, undef, undef, undef, undef, undef, undef, undef, undef, undef, undef, undef, undef, undef, undef, undef, undef, undef, undef, undef, undef, undef, undef, undef, undef, undef, undef, undef, undef, undef], defers := [] } ∧ Below w.heap.size w W ∧ Blk W w.heap.size 25 #[.int .i64 s0, .int .i64 s1, .int .i64 s2, .int .i64 s3, .int .i64 s4, .int .i64 s5, .int .i64 s6, .int .i64 s7, .slice A n c, .int .i64 s9, .int .i64 s10, .int .i64 s11, .int .i64 s12]) (fun e a W hq => ?_) ?_
  case refine_2 =>
    have sK : ∀ X, Blk X (w.heap.size) 25 #[.int .i64 s0, .int .i64 s1, .int .i64 s2, .int .i64 s3, .int .i64 s4, .int .i64 s5, .int .i64 s6, .int .i64 s7, .slice A n c, .int .i64 s9, .int .i64 s10, .int .i64 s11, .int .i64 s12] → (fun X => X.cell? ⟨w.heap.size, 0, none⟩ = some (.int .i64 s0) ∧ X.cell? ⟨w.heap.size, 1, none⟩ = some (.int .i64 s1) ∧ X.cell? ⟨w.heap.size, 2, none⟩ = some (.int .i64 s2) ∧ X.cell? ⟨w.heap.size, 3, none⟩ = some (.int .i64 s3) ∧ X.cell? ⟨w.heap.size, 4, none⟩ = some (.int .i64 s4) ∧ X.cell? ⟨w.heap.size, 5, none⟩ = some (.int .i64 s5) ∧ X.cell? ⟨w.heap.size, 6, none⟩ = some (.int .i64 s6) ∧ X.cell? ⟨w.heap.size, 7, none⟩ = some (.int .i64 s7) ∧ X.cell? ⟨w.heap.size, 8, none⟩ = some (.slice A n c) ∧ X.cell? ⟨w.heap.size, 9, none⟩ = some (.int .i64 s9) ∧ X.cell? ⟨w.heap.size, 10, none⟩ = some (.int .i64 s10) ∧ X.cell? ⟨w.heap.size, 11, none⟩ = some (.int .i64 s11) ∧ X.cell? ⟨w.heap.size, 12, none⟩ = some (.int .i64 s12)) X := fun X hS => ⟨hS.cell 0, hS.cell 1, hS.cell 2, hS.cell 3, hS.cell 4, hS.cell 5, hS.cell 6, hS.cell 7, hS.cell 8, hS.cell 9, hS.cell 10, hS.cell 11, hS.cell 12⟩
    have LS0 := Lib.hid (HS.out.drew)
    have E0 := Lib.hid (EE.out.drew)
    clear kS0 kS1 kS2 kS3 kS4 kS5 kS6 kS7 kS8 kS9 kS10 kS11 kS12
    refine wp_region_held_drew (S := (fun X => X.cell? ⟨w.heap.size, 0, none⟩ = some (.int .i64 s0) ∧ X.cell? ⟨w.heap.size, 1, none⟩ = some (.int .i64 s1) ∧ X.cell? ⟨w.heap.size, 2, none⟩ = some (.int .i64 s2) ∧ X.cell? ⟨w.heap.size, 3, none⟩ = some (.int .i64 s3) ∧ X.cell? ⟨w.heap.size, 4, none⟩ = some (.int .i64 s4) ∧ X.cell? ⟨w.heap.size, 5, none⟩ = some (.int .i64 s5) ∧ X.cell? ⟨w.heap.size, 6, none⟩ = some (.int .i64 s6) ∧ X.cell? ⟨w.heap.size, 7, none⟩ = some (.int .i64 s7) ∧ X.cell? ⟨w.heap.size, 8, none⟩ = some (.slice A n c) ∧ X.cell? ⟨w.heap.size, 9, none⟩ = some (.int .i64 s9) ∧ X.cell? ⟨w.heap.size, 10, none⟩ = some (.int .i64 s10) ∧ X.cell? ⟨w.heap.size, 11, none⟩ = some (.int .i64 s11) ∧ X.cell? ⟨w.heap.size, 12, none⟩ = some (.int .i64 s12))) (by kernel_rfl) (sK _ LS0.out) (fun hHeld => ?_)
    clear hHeld
    refine wpAnyH_take (i := 0) (v := ?_) rfl (by kernel_rfl) (by kernel_rfl) (by kernel_rfl) (fun _ _ _ h => nomatch h.1) (Or.inl ⟨by rfl, ?_⟩) (sK _ LS0.out) ?_
    rotate_left
    · (intro wS hSw; (try dsimp only at hSw); go_simp; try with_reducible rfl)
    simp only [Act.put, List.getElem_toArray, List.getElem_cons_zero, List.getElem_cons_succ, List.setIfInBounds_toArray, List.set_cons_zero, List.set_cons_succ]
    refine wpAnyH_take (i := 2) (v := ?_) rfl (by kernel_rfl) (by kernel_rfl) (by kernel_rfl) (fun _ _ _ h => nomatch h.1) (Or.inl ⟨by rfl, ?_⟩) (sK _ LS0.out) ?_
    rotate_left
    · (intro wS hSw; (try dsimp only at hSw); go_simp; try with_reducible rfl)
    simp only [Act.put, List.getElem_toArray, List.getElem_cons_zero, List.getElem_cons_succ, List.setIfInBounds_toArray, List.set_cons_zero, List.set_cons_succ]
    refine wpAnyH_take (i := 6) (v := ?_) rfl (by kernel_rfl) (by kernel_rfl) (by kernel_rfl) (fun _ _ _ h => nomatch h.1) (Or.inl ⟨by rfl, ?_⟩) (sK _ LS0.out) ?_
    rotate_left
    · (intro wS hSw; (try dsimp only at hSw); go_simp; try with_reducible rfl)
    simp only [Act.put, List.getElem_toArray, List.getElem_cons_zero, List.getElem_cons_succ, List.setIfInBounds_toArray, List.set_cons_zero, List.set_cons_succ]
    refine wpAnyH_take (i := 8) (v := ?_) rfl (by kernel_rfl) (by kernel_rfl) (by kernel_rfl) (fun _ _ _ h => nomatch h.1) (Or.inl ⟨by rfl, ?_⟩) (sK _ LS0.out) ?_
    rotate_left
    · (intro wS hSw; (try dsimp only at hSw); go_simp; try with_reducible rfl)
    simp only [Act.put, List.getElem_toArray, List.getElem_cons_zero, List.getElem_cons_succ, List.setIfInBounds_toArray, List.set_cons_zero, List.set_cons_succ]
    refine wpAnyH_take (i := 13) (v := ?_) rfl (by kernel_rfl) (by kernel_rfl) (by kernel_rfl) (fun _ _ _ h => nomatch h.1) (Or.inl ⟨by rfl, ?_⟩) (sK _ LS0.out) ?_
    rotate_left
    · (intro wS hSw; (try dsimp only at hSw); go_simp; try with_reducible rfl)
    simp only [Act.put, List.getElem_toArray, List.getElem_cons_zero, List.getElem_cons_succ, List.setIfInBounds_toArray, List.set_cons_zero, List.set_cons_succ]
    refine wpAnyH_take (i := 15) (v := ?_) rfl (by kernel_rfl) (by kernel_rfl) (by kernel_rfl) (fun _ _ _ h => nomatch h.1) (Or.inl ⟨by rfl, ?_⟩) (sK _ LS0.out) ?_
    rotate_left
    · (intro wS hSw; (try dsimp only at hSw); go_simp; try with_reducible rfl)
    simp only [Act.put, List.getElem_toArray, List.getElem_cons_zero, List.getElem_cons_succ, List.setIfInBounds_toArray, List.set_cons_zero, List.set_cons_succ]
    refine wpAnyH_take (i := 17) (v := ?_) rfl (by kernel_rfl) (by kernel_rfl) (by kernel_rfl) (fun _ _ _ h => nomatch h.1) (Or.inl ⟨by rfl, ?_⟩) (sK _ LS0.out) ?_
    rotate_left
    · (intro wS hSw; (try dsimp only at hSw); go_simp; try with_reducible rfl)
    simp only [Act.put, List.getElem_toArray, List.getElem_cons_zero, List.getElem_cons_succ, List.setIfInBounds_toArray, List.set_cons_zero, List.set_cons_succ]
    refine wpAnyH_take (i := 19) (v := ?_) rfl (by kernel_rfl) (by kernel_rfl) (by kernel_rfl) (fun _ _ _ h => nomatch h.1) (Or.inl ⟨by rfl, ?_⟩) (sK _ LS0.out) ?_
    rotate_left
    · (intro wS hSw; (try dsimp only at hSw); go_simp; try with_reducible rfl)
    simp only [Act.put, List.getElem_toArray, List.getElem_cons_zero, List.getElem_cons_succ, List.setIfInBounds_toArray, List.set_cons_zero, List.set_cons_succ]
    refine wpAnyH_take (i := 1) (v := ?_) rfl (by kernel_rfl) (by kernel_rfl) (by kernel_rfl) (fun _ _ _ h => nomatch h.1) (Or.inl ⟨by rfl, ?_⟩) (sK _ LS0.out) ?_
    rotate_left
    · (intro wS hSw; (try dsimp only at hSw); go_simp; try with_reducible rfl)
    simp only [Act.put, List.getElem_toArray, List.getElem_cons_zero, List.getElem_cons_succ, List.setIfInBounds_toArray, List.set_cons_zero, List.set_cons_succ]
    refine wpAnyH_take (i := 3) (v := ?_) rfl (by kernel_rfl) (by kernel_rfl) (by kernel_rfl) (fun _ _ _ h => nomatch h.1) (Or.inl ⟨by rfl, ?_⟩) (sK _ LS0.out) ?_
    rotate_left
    · (intro wS hSw; (try dsimp only at hSw); go_simp; try with_reducible rfl)
    simp only [Act.put, List.getElem_toArray, List.getElem_cons_zero, List.getElem_cons_succ, List.setIfInBounds_toArray, List.set_cons_zero, List.set_cons_succ]
    refine wpAnyH_take (i := 7) (v := ?_) rfl (by kernel_rfl) (by kernel_rfl) (by kernel_rfl) (fun _ _ _ h => nomatch h.1) (Or.inl ⟨by rfl, ?_⟩) (sK _ LS0.out) ?_
    rotate_left
    · (intro wS hSw; (try dsimp only at hSw); go_simp; try with_reducible rfl)
    simp only [Act.put, List.getElem_toArray, List.getElem_cons_zero, List.getElem_cons_succ, List.setIfInBounds_toArray, List.set_cons_zero, List.set_cons_succ]
    refine wpAnyH_take (i := 9) (v := ?_) rfl (by kernel_rfl) (by kernel_rfl) (by kernel_rfl) (fun _ _ _ h => nomatch h.1) (Or.inl ⟨by rfl, ?_⟩) (sK _ LS0.out) ?_
    rotate_left
    · (intro wS hSw; (try dsimp only at hSw); go_simp; try with_reducible rfl)
    simp only [Act.put, List.getElem_toArray, List.getElem_cons_zero, List.getElem_cons_succ, List.setIfInBounds_toArray, List.set_cons_zero, List.set_cons_succ]
    refine wpAnyH_take (i := 14) (v := ?_) rfl (by kernel_rfl) (by kernel_rfl) (by kernel_rfl) (fun _ _ _ h => nomatch h.1) (Or.inl ⟨by rfl, ?_⟩) (sK _ LS0.out) ?_
    rotate_left
    · (intro wS hSw; (try dsimp only at hSw); go_simp; try with_reducible rfl)
    simp only [Act.put, List.getElem_toArray, List.getElem_cons_zero, List.getElem_cons_succ, List.setIfInBounds_toArray, List.set_cons_zero, List.set_cons_succ]
    refine wpAnyH_take (i := 16) (v := ?_) rfl (by kernel_rfl) (by kernel_rfl) (by kernel_rfl) (fun _ _ _ h => nomatch h.1) (Or.inl ⟨by rfl, ?_⟩) (sK _ LS0.out) ?_
    rotate_left
    · (intro wS hSw; (try dsimp only at hSw); go_simp; try with_reducible rfl)
    simp only [Act.put, List.getElem_toArray, List.getElem_cons_zero, List.getElem_cons_succ, List.setIfInBounds_toArray, List.set_cons_zero, List.set_cons_succ]
    refine wpAnyH_take (i := 18) (v := ?_) rfl (by kernel_rfl) (by kernel_rfl) (by kernel_rfl) (fun _ _ _ h => nomatch h.1) (Or.inl ⟨by rfl, ?_⟩) (sK _ LS0.out) ?_
    rotate_left
    · (intro wS hSw; (try dsimp only at hSw); go_simp; try with_reducible rfl)
    simp only [Act.put, List.getElem_toArray, List.getElem_cons_zero, List.getElem_cons_succ, List.setIfInBounds_toArray, List.set_cons_zero, List.set_cons_succ]
    refine wpAnyH_take (i := 20) (v := ?_) rfl (by kernel_rfl) (by kernel_rfl) (by kernel_rfl) (fun _ _ _ h => nomatch h.1) (Or.inl ⟨by rfl, ?_⟩) (sK _ LS0.out) ?_
    rotate_left
    · (intro wS hSw; (try dsimp only at hSw); go_simp; try with_reducible rfl)
    simp only [Act.put, List.getElem_toArray, List.getElem_cons_zero, List.getElem_cons_succ, List.setIfInBounds_toArray, List.set_cons_zero, List.set_cons_succ]
    refine wpAnyH_ready (rs := [4, 10, 21]) (by kernel_rfl) (by simp) ?_
    refine AllReadyH.cons rfl (fun K hK => ?_) ?_
    · go_simp
      have LS1 : Blk ((V.alloc (.cells #[.int .i64 s0, .int .i64 s1] 3)).drew) (w.heap.size) 25 #[.int .i64 s0, .int .i64 s1, .int .i64 s2, .int .i64 s3, .int .i64 s4, .int .i64 s5, .int .i64 s6, .int .i64 s7, .slice A n c, .int .i64 s9, .int .i64 s10, .int .i64 s11, .int .i64 s12] := Blk.alloc (w := V) HS.out (.cells #[.int .i64 s0, .int .i64 s1] 3)
      have LN1 : Blk ((V.alloc (.cells #[.int .i64 s0, .int .i64 s1] 3)).drew) V.heap.size 3 #[.int .i64 s0, .int .i64 s1] := Blk.new V _ _
      have E1 : Below w.heap.size w ((V.alloc (.cells #[.int .i64 s0, .int .i64 s1] 3)).drew) := (EE.out.alloc EE.out.size (.cells #[.int .i64 s0, .int .i64 s1] 3)).drew
      obtain ⟨r1, hr1⟩ : ∃ VV, (V.alloc (.cells #[.int .i64 s0, .int .i64 s1] 3)).drew = VV := ⟨_, rfl⟩
      obtain ⟨gN, hg1⟩ : ∃ g, V.heap.size = g := ⟨_, rfl⟩
      try rw [hr1]
      try rw [hg1]
      simp only [hr1, hg1] at LS1 LN1 E1
      try simp only [hr1, hg1]
      clear hr1 hg1
      replace LS1 := Lib.hid LS1
      replace LN1 := Lib.hid LN1
      replace E1 := Lib.hid E1
      refine hK.out _ _ (sK _ LS1.out) (fun hHeld => ?_)
      clear hK K hHeld
      try simp only [Act.put, List.getElem_toArray, List.getElem_cons_zero, List.getElem_cons_succ, List.setIfInBounds_toArray, List.set_cons_zero, List.set_cons_succ]
      refine wpAnyH_ready (rs := [5, 10, 21]) (by kernel_rfl) (by simp) ?_
      refine AllReadyH.cons rfl (fun K hK => ?_) ?_
      · go_simp
        refine (K1.out _ gN LN1.out).mono ?_
        rintro e r2 ⟨rfl, hb⟩
        have LS2 := Lib.hid (Blk.next (w := r1) LS1.out hb)
        have LN2 := Lib.hid (Blk.next (w := r1) LN1.out hb)
        have E2 := Lib.hid (E1.out.trans (hb.mono E1.out.size))
        clear hb
        go_wp2_with fail
        refine hK.out _ _ (sK _ LS2.out) (fun hHeld => ?_)
        clear hK K hHeld
        try simp only [Act.put, List.getElem_toArray, List.getElem_cons_zero, List.getElem_cons_succ, List.setIfInBounds_toArray, List.set_cons_zero, List.set_cons_succ]
        refine wpAnyH_ready (rs := [10, 21]) (by kernel_rfl) (by simp) ?_
        refine AllReadyH.cons rfl (fun K hK => ?_) ?_
        · go_simp
          have LS3 : Blk ((r2.alloc (.cells #[.int .i64 s2, .int .i64 s3] 3))) (w.heap.size) 25 #[.int .i64 s0, .int .i64 s1, .int .i64 s2, .int .i64 s3, .int .i64 s4, .int .i64 s5, .int .i64 s6, .int .i64 s7, .slice A n c, .int .i64 s9, .int .i64 s10, .int .i64 s11, .int .i64 s12] := Blk.alloc (w := r2) LS2.out (.cells #[.int .i64 s2, .int .i64 s3] 3)
          have LN3 : Blk ((r2.alloc (.cells #[.int .i64 s2, .int .i64 s3] 3))) (gN) 3 #[.int .i64 s0, .int .i64 s1] := Blk.alloc (w := r2) LN2.out (.cells #[.int .i64 s2, .int .i64 s3] 3)
          have LM3 : Blk ((r2.alloc (.cells #[.int .i64 s2, .int .i64 s3] 3))) r2.heap.size 3 #[.int .i64 s2, .int .i64 s3] := Blk.new r2 _ _
          have E3 : Below w.heap.size w ((r2.alloc (.cells #[.int .i64 s2, .int .i64 s3] 3))) := (E2.out.alloc E2.out.size (.cells #[.int .i64 s2, .int .i64 s3] 3))
          obtain ⟨r3, hr3⟩ : ∃ VV, (r2.alloc (.cells #[.int .i64 s2, .int .i64 s3] 3)) = VV := ⟨_, rfl⟩
          obtain ⟨gM, hg3⟩ : ∃ g, r2.heap.size = g := ⟨_, rfl⟩
          try rw [hr3]
          try rw [hg3]
          simp only [hr3, hg3] at LS3 LN3 LM3 E3
          try simp only [hr3, hg3]
          clear hr3 hg3
          replace LS3 := Lib.hid LS3
          replace LN3 := Lib.hid LN3
          replace LM3 := Lib.hid LM3
          replace E3 := Lib.hid E3
          refine hK.out _ _ (sK _ LS3.out) (fun hHeld => ?_)
          clear hK K hHeld
          try simp only [Act.put, List.getElem_toArray, List.getElem_cons_zero, List.getElem_cons_succ, List.setIfInBounds_toArray, List.set_cons_zero, List.set_cons_succ]
          refine wpAnyH_ready (rs := [11, 21]) (by kernel_rfl) (by simp) ?_
          refine AllReadyH.cons rfl (fun K hK => ?_) ?_
          · go_simp
            refine (K2.out _ gM LM3.out).mono ?_
            rintro e r4 ⟨rfl, hb⟩
            have LS4 := Lib.hid (Blk.next (w := r3) LS3.out hb)
            have LN4 := Lib.hid (Blk.next (w := r3) LN3.out hb)
            have LM4 := Lib.hid (Blk.next (w := r3) LM3.out hb)
            have E4 := Lib.hid (E3.out.trans (hb.mono E3.out.size))
            clear hb
            go_wp2_with fail
            refine hK.out _ _ (sK _ LS4.out) (fun hHeld => ?_)
            clear hK K hHeld
            try simp only [Act.put, List.getElem_toArray, List.getElem_cons_zero, List.getElem_cons_succ, List.setIfInBounds_toArray, List.set_cons_zero, List.set_cons_succ]
            refine wpAnyH_take (i := 12) (v := ?_) rfl (by kernel_rfl) (by kernel_rfl) (by kernel_rfl) (fun _ _ _ h => nomatch h.1) (Or.inl ⟨by rfl, ?_⟩) (sK _ LS4.out) ?_
            rotate_left
            · (intro wS hSw; (try dsimp only at hSw); go_simp; try with_reducible rfl)
            simp only [Act.put, List.getElem_toArray, List.getElem_cons_zero, List.getElem_cons_succ, List.setIfInBounds_toArray, List.set_cons_zero, List.set_cons_succ]
            refine wpAnyH_ready (rs := [21]) (by kernel_rfl) (by simp) ?_
            refine AllReadyH.cons rfl (fun K hK => ?_) AllReadyH.nil
            go_simp
            have LS5 : Blk ((r4.alloc (.cells #[.int .i64 s4, .int .i64 s5, .int .i64 s6, .int .i64 s7] 3))) (w.heap.size) 25 #[.int .i64 s0, .int .i64 s1, .int .i64 s2, .int .i64 s3, .int .i64 s4, .int .i64 s5, .int .i64 s6, .int .i64 s7, .slice A n c, .int .i64 s9, .int .i64 s10, .int .i64 s11, .int .i64 s12] := Blk.alloc (w := r4) LS4.out (.cells #[.int .i64 s4, .int .i64 s5, .int .i64 s6, .int .i64 s7] 3)
            have LN5 : Blk ((r4.alloc (.cells #[.int .i64 s4, .int .i64 s5, .int .i64 s6, .int .i64 s7] 3))) (gN) 3 #[.int .i64 s0, .int .i64 s1] := Blk.alloc (w := r4) LN4.out (.cells #[.int .i64 s4, .int .i64 s5, .int .i64 s6, .int .i64 s7] 3)
            have LM5 : Blk ((r4.alloc (.cells #[.int .i64 s4, .int .i64 s5, .int .i64 s6, .int .i64 s7] 3))) (gM) 3 #[.int .i64 s2, .int .i64 s3] := Blk.alloc (w := r4) LM4.out (.cells #[.int .i64 s4, .int .i64 s5, .int .i64 s6, .int .i64 s7] 3)
            have LO5 : Blk ((r4.alloc (.cells #[.int .i64 s4, .int .i64 s5, .int .i64 s6, .int .i64 s7] 3))) r4.heap.size 3 #[.int .i64 s4, .int .i64 s5, .int .i64 s6, .int .i64 s7] := Blk.new r4 _ _
            have E5 : Below w.heap.size w ((r4.alloc (.cells #[.int .i64 s4, .int .i64 s5, .int .i64 s6, .int .i64 s7] 3))) := (E4.out.alloc E4.out.size (.cells #[.int .i64 s4, .int .i64 s5, .int .i64 s6, .int .i64 s7] 3))
            obtain ⟨r5, hr5⟩ : ∃ VV, (r4.alloc (.cells #[.int .i64 s4, .int .i64 s5, .int .i64 s6, .int .i64 s7] 3)) = VV := ⟨_, rfl⟩
            obtain ⟨gO, hg5⟩ : ∃ g, r4.heap.size = g := ⟨_, rfl⟩
            try rw [hr5]
            try rw [hg5]
            simp only [hr5, hg5] at LS5 LN5 LM5 LO5 E5
            try simp only [hr5, hg5]
            clear hr5 hg5
            replace LS5 := Lib.hid LS5
            replace LN5 := Lib.hid LN5
            replace LM5 := Lib.hid LM5
            replace LO5 := Lib.hid LO5
            replace E5 := Lib.hid E5
            refine hK.out _ _ (sK _ LS5.out) (fun hHeld => ?_)
            clear hK K hHeld
            try simp only [Act.put, List.getElem_toArray, List.getElem_cons_zero, List.getElem_cons_succ, List.setIfInBounds_toArray, List.set_cons_zero, List.set_cons_succ]
            refine wpAnyH_ready (rs := [22]) (by kernel_rfl) (by simp) ?_
            refine AllReadyH.cons rfl (fun K hK => ?_) AllReadyH.nil
            go_simp
            refine (K3.out _ gO LO5.out).mono ?_
            rintro e r6 ⟨rfl, hb⟩
            have LS6 := Lib.hid (Blk.next (w := r5) LS5.out hb)
            have LN6 := Lib.hid (Blk.next (w := r5) LN5.out hb)
            have LM6 := Lib.hid (Blk.next (w := r5) LM5.out hb)
            have LO6 := Lib.hid (Blk.next (w := r5) LO5.out hb)
            have E6 := Lib.hid (E5.out.trans (hb.mono E5.out.size))
            clear hb
            go_wp2_with fail
            refine hK.out _ _ (sK _ LS6.out) (fun hHeld => ?_)
            clear hK K hHeld
            try simp only [Act.put, List.getElem_toArray, List.getElem_cons_zero, List.getElem_cons_succ, List.setIfInBounds_toArray, List.set_cons_zero, List.set_cons_succ]
            refine wpAnyH_take (i := 23) (v := ?_) rfl (by kernel_rfl) (by kernel_rfl) (by kernel_rfl) (fun _ _ _ h => nomatch h.1) (Or.inl ⟨by rfl, ?_⟩) (sK _ LS6.out) ?_
            rotate_left
            · (intro wS hSw; (try dsimp only at hSw); go_simp; try with_reducible rfl)
            simp only [Act.put, List.getElem_toArray, List.getElem_cons_zero, List.getElem_cons_succ, List.setIfInBounds_toArray, List.set_cons_zero, List.set_cons_succ]
            refine wpAnyH_take (i := 24) (v := ?_) rfl (by kernel_rfl) (by kernel_rfl) (by kernel_rfl) (fun _ _ _ h => nomatch h.1) (Or.inl ⟨by rfl, ?_⟩) (sK _ LS6.out) ?_
            rotate_left
            · (intro wS hSw; (try dsimp only at hSw); go_simp; try with_reducible rfl)
            simp only [Act.put, List.getElem_toArray, List.getElem_cons_zero, List.getElem_cons_succ, List.setIfInBounds_toArray, List.set_cons_zero, List.set_cons_succ]
            refine wpAnyH_done (by kernel_rfl) ?_ _
            exact ⟨rfl, gN, gM, gO, rfl, E6.out, LS6.out⟩
          refine AllReadyH.cons rfl (fun K hK => ?_) ?_
          · go_simp
            have LS4 : Blk ((r3.alloc (.cells #[.int .i64 s4, .int .i64 s5, .int .i64 s6, .int .i64 s7] 3))) (w.heap.size) 25 #[.int .i64 s0, .int .i64 s1, .int .i64 s2, .int .i64 s3, .int .i64 s4, .int .i64 s5, .int .i64 s6, .int .i64 s7, .slice A n c, .int .i64 s9, .int .i64 s10, .int .i64 s11, .int .i64 s12] := Blk.alloc (w := r3) LS3.out (.cells #[.int .i64 s4, .int .i64 s5, .int .i64 s6, .int .i64 s7] 3)
            have LN4 : Blk ((r3.alloc (.cells #[.int .i64 s4, .int .i64 s5, .int .i64 s6, .int .i64 s7] 3))) (gN) 3 #[.int .i64 s0, .int .i64 s1] := Blk.alloc (w := r3) LN3.out (.cells #[.int .i64 s4, .int .i64 s5, .int .i64 s6, .int .i64 s7] 3)
            have LM4 : Blk ((r3.alloc (.cells #[.int .i64 s4, .int .i64 s5, .int .i64 s6, .int .i64 s7] 3))) (gM) 3 #[.int .i64 s2, .int .i64 s3] := Blk.alloc (w := r3) LM3.out (.cells #[.int .i64 s4, .int .i64 s5, .int .i64 s6, .int .i64 s7] 3)
            have LO4 : Blk ((r3.alloc (.cells #[.int .i64 s4, .int .i64 s5, .int .i64 s6, .int .i64 s7] 3))) r3.heap.size 3 #[.int .i64 s4, .int .i64 s5, .int .i64 s6, .int .i64 s7] := Blk.new r3 _ _
            have E4 : Below w.heap.size w ((r3.alloc (.cells #[.int .i64 s4, .int .i64 s5, .int .i64 s6, .int .i64 s7] 3))) := (E3.out.alloc E3.out.size (.cells #[.int .i64 s4, .int .i64 s5, .int .i64 s6, .int .i64 s7] 3))
            obtain ⟨r4, hr4⟩ : ∃ VV, (r3.alloc (.cells #[.int .i64 s4, .int .i64 s5, .int .i64 s6, .int .i64 s7] 3)) = VV := ⟨_, rfl⟩
            obtain ⟨gO, hg4⟩ : ∃ g, r3.heap.size = g := ⟨_, rfl⟩
            try rw [hr4]
            try rw [hg4]
            simp only [hr4, hg4] at LS4 LN4 LM4 LO4 E4
            try simp only [hr4, hg4]
            clear hr4 hg4
            replace LS4 := Lib.hid LS4
            replace LN4 := Lib.hid LN4
            replace LM4 := Lib.hid LM4
            replace LO4 := Lib.hid LO4
            replace E4 := Lib.hid E4
            refine hK.out _ _ (sK _ LS4.out) (fun hHeld => ?_)
            clear hK K hHeld
            try simp only [Act.put, List.getElem_toArray, List.getElem_cons_zero, List.getElem_cons_succ, List.setIfInBounds_toArray, List.set_cons_zero, List.set_cons_succ]
            refine wpAnyH_ready (rs := [11]) (by kernel_rfl) (by simp) ?_
            refine AllReadyH.cons rfl (fun K hK => ?_) AllReadyH.nil
            go_simp
            refine (K2.out _ gM LM4.out).mono ?_
            rintro e r5 ⟨rfl, hb⟩
            have LS5 := Lib.hid (Blk.next (w := r4) LS4.out hb)
            have LN5 := Lib.hid (Blk.next (w := r4) LN4.out hb)
            have LM5 := Lib.hid (Blk.next (w := r4) LM4.out hb)
            have LO5 := Lib.hid (Blk.next (w := r4) LO4.out hb)
            have E5 := Lib.hid (E4.out.trans (hb.mono E4.out.size))
            clear hb
            go_wp2_with fail
            refine hK.out _ _ (sK _ LS5.out) (fun hHeld => ?_)
            clear hK K hHeld
            try simp only [Act.put, List.getElem_toArray, List.getElem_cons_zero, List.getElem_cons_succ, List.setIfInBounds_toArray, List.set_cons_zero, List.set_cons_succ]
            refine wpAnyH_take (i := 12) (v := ?_) rfl (by kernel_rfl) (by kernel_rfl) (by kernel_rfl) (fun _ _ _ h => nomatch h.1) (Or.inl ⟨by rfl, ?_⟩) (sK _ LS5.out) ?_
            rotate_left
            · (intro wS hSw; (try dsimp only at hSw); go_simp; try with_reducible rfl)
            simp only [Act.put, List.getElem_toArray, List.getElem_cons_zero, List.getElem_cons_succ, List.setIfInBounds_toArray, List.set_cons_zero, List.set_cons_succ]
            refine wpAnyH_ready (rs := [22]) (by kernel_rfl) (by simp) ?_
            refine AllReadyH.cons rfl (fun K hK => ?_) AllReadyH.nil
            go_simp
            refine (K3.out _ gO LO5.out).mono ?_
            rintro e r6 ⟨rfl, hb⟩
            have LS6 := Lib.hid (Blk.next (w := r5) LS5.out hb)
            have LN6 := Lib.hid (Blk.next (w := r5) LN5.out hb)
            have LM6 := Lib.hid (Blk.next (w := r5) LM5.out hb)
            have LO6 := Lib.hid (Blk.next (w := r5) LO5.out hb)
            have E6 := Lib.hid (E5.out.trans (hb.mono E5.out.size))
            clear hb
            go_wp2_with fail
            refine hK.out _ _ (sK _ LS6.out) (fun hHeld => ?_)
            clear hK K hHeld
            try simp only [Act.put, List.getElem_toArray, List.getElem_cons_zero, List.getElem_cons_succ, List.setIfInBounds_toArray, List.set_cons_zero, List.set_cons_succ]
            refine wpAnyH_take (i := 23) (v := ?_) rfl (by kernel_rfl) (by kernel_rfl) (by kernel_rfl) (fun _ _ _ h => nomatch h.1) (Or.inl ⟨by rfl, ?_⟩) (sK _ LS6.out) ?_
            rotate_left
            · (intro wS hSw; (try dsimp only at hSw); go_simp; try with_reducible rfl)
            simp only [Act.put, List.getElem_toArray, List.getElem_cons_zero, List.getElem_cons_succ, List.setIfInBounds_toArray, List.set_cons_zero, List.set_cons_succ]
            refine wpAnyH_take (i := 24) (v := ?_) rfl (by kernel_rfl) (by kernel_rfl) (by kernel_rfl) (fun _ _ _ h => nomatch h.1) (Or.inl ⟨by rfl, ?_⟩) (sK _ LS6.out) ?_
            rotate_left
            · (intro wS hSw; (try dsimp only at hSw); go_simp; try with_reducible rfl)
            simp only [Act.put, List.getElem_toArray, List.getElem_cons_zero, List.getElem_cons_succ, List.setIfInBounds_toArray, List.set_cons_zero, List.set_cons_succ]
            refine wpAnyH_done (by kernel_rfl) ?_ _
            exact ⟨rfl, gN, gM, gO, rfl, E6.out, LS6.out⟩
          exact AllReadyH.nil
        refine AllReadyH.cons rfl (fun K hK => ?_) ?_
        · go_simp
          have LS3 : Blk ((r2.alloc (.cells #[.int .i64 s4, .int .i64 s5, .int .i64 s6, .int .i64 s7] 3))) (w.heap.size) 25 #[.int .i64 s0, .int .i64 s1, .int .i64 s2, .int .i64 s3, .int .i64 s4, .int .i64 s5, .int .i64 s6, .int .i64 s7, .slice A n c, .int .i64 s9, .int .i64 s10, .int .i64 s11, .int .i64 s12] := Blk.alloc (w := r2) LS2.out (.cells #[.int .i64 s4, .int .i64 s5, .int .i64 s6, .int .i64 s7] 3)
          have LN3 : Blk ((r2.alloc (.cells #[.int .i64 s4, .int .i64 s5, .int .i64 s6, .int .i64 s7] 3))) (gN) 3 #[.int .i64 s0, .int .i64 s1] := Blk.alloc (w := r2) LN2.out (.cells #[.int .i64 s4, .int .i64 s5, .int .i64 s6, .int .i64 s7] 3)
          have LO3 : Blk ((r2.alloc (.cells #[.int .i64 s4, .int .i64 s5, .int .i64 s6, .int .i64 s7] 3))) r2.heap.size 3 #[.int .i64 s4, .int .i64 s5, .int .i64 s6, .int .i64 s7] := Blk.new r2 _ _
          have E3 : Below w.heap.size w ((r2.alloc (.cells #[.int .i64 s4, .int .i64 s5, .int .i64 s6, .int .i64 s7] 3))) := (E2.out.alloc E2.out.size (.cells #[.int .i64 s4, .int .i64 s5, .int .i64 s6, .int .i64 s7] 3))
          obtain ⟨r3, hr3⟩ : ∃ VV, (r2.alloc (.cells #[.int .i64 s4, .int .i64 s5, .int .i64 s6, .int .i64 s7] 3)) = VV := ⟨_, rfl⟩
          obtain ⟨gO, hg3⟩ : ∃ g, r2.heap.size = g := ⟨_, rfl⟩
          try rw [hr3]
          try rw [hg3]
          simp only [hr3, hg3] at LS3 LN3 LO3 E3
          try simp only [hr3, hg3]
          clear hr3 hg3
          replace LS3 := Lib.hid LS3
          replace LN3 := Lib.hid LN3
          replace LO3 := Lib.hid LO3
          replace E3 := Lib.hid E3
          refine hK.out _ _ (sK _ LS3.out) (fun hHeld => ?_)
          clear hK K hHeld
          try simp only [Act.put, List.getElem_toArray, List.getElem_cons_zero, List.getElem_cons_succ, List.setIfInBounds_toArray, List.set_cons_zero, List.set_cons_succ]
          refine wpAnyH_ready (rs := [10]) (by kernel_rfl) (by simp) ?_
          refine AllReadyH.cons rfl (fun K hK => ?_) AllReadyH.nil
          go_simp
          have LS4 : Blk ((r3.alloc (.cells #[.int .i64 s2, .int .i64 s3] 3))) (w.heap.size) 25 #[.int .i64 s0, .int .i64 s1, .int .i64 s2, .int .i64 s3, .int .i64 s4, .int .i64 s5, .int .i64 s6, .int .i64 s7, .slice A n c, .int .i64 s9, .int .i64 s10, .int .i64 s11, .int .i64 s12] := Blk.alloc (w := r3) LS3.out (.cells #[.int .i64 s2, .int .i64 s3] 3)
          have LN4 : Blk ((r3.alloc (.cells #[.int .i64 s2, .int .i64 s3] 3))) (gN) 3 #[.int .i64 s0, .int .i64 s1] := Blk.alloc (w := r3) LN3.out (.cells #[.int .i64 s2, .int .i64 s3] 3)
          have LO4 : Blk ((r3.alloc (.cells #[.int .i64 s2, .int .i64 s3] 3))) (gO) 3 #[.int .i64 s4, .int .i64 s5, .int .i64 s6, .int .i64 s7] := Blk.alloc (w := r3) LO3.out (.cells #[.int .i64 s2, .int .i64 s3] 3)
          have LM4 : Blk ((r3.alloc (.cells #[.int .i64 s2, .int .i64 s3] 3))) r3.heap.size 3 #[.int .i64 s2, .int .i64 s3] := Blk.new r3 _ _
          have E4 : Below w.heap.size w ((r3.alloc (.cells #[.int .i64 s2, .int .i64 s3] 3))) := (E3.out.alloc E3.out.size (.cells #[.int .i64 s2, .int .i64 s3] 3))
          obtain ⟨r4, hr4⟩ : ∃ VV, (r3.alloc (.cells #[.int .i64 s2, .int .i64 s3] 3)) = VV := ⟨_, rfl⟩
          obtain ⟨gM, hg4⟩ : ∃ g, r3.heap.size = g := ⟨_, rfl⟩
          try rw [hr4]
          try rw [hg4]
          simp only [hr4, hg4] at LS4 LN4 LO4 LM4 E4
          try simp only [hr4, hg4]
          clear hr4 hg4
          replace LS4 := Lib.hid LS4
          replace LN4 := Lib.hid LN4
          replace LO4 := Lib.hid LO4
          replace LM4 := Lib.hid LM4
          replace E4 := Lib.hid E4
          refine hK.out _ _ (sK _ LS4.out) (fun hHeld => ?_)
          clear hK K hHeld
          try simp only [Act.put, List.getElem_toArray, List.getElem_cons_zero, List.getElem_cons_succ, List.setIfInBounds_toArray, List.set_cons_zero, List.set_cons_succ]
          refine wpAnyH_ready (rs := [11]) (by kernel_rfl) (by simp) ?_
          refine AllReadyH.cons rfl (fun K hK => ?_) AllReadyH.nil
          go_simp
          refine (K2.out _ gM LM4.out).mono ?_
          rintro e r5 ⟨rfl, hb⟩
          have LS5 := Lib.hid (Blk.next (w := r4) LS4.out hb)
          have LN5 := Lib.hid (Blk.next (w := r4) LN4.out hb)
          have LO5 := Lib.hid (Blk.next (w := r4) LO4.out hb)
          have LM5 := Lib.hid (Blk.next (w := r4) LM4.out hb)
          have E5 := Lib.hid (E4.out.trans (hb.mono E4.out.size))
          clear hb
          go_wp2_with fail
          refine hK.out _ _ (sK _ LS5.out) (fun hHeld => ?_)
          clear hK K hHeld
          try simp only [Act.put, List.getElem_toArray, List.getElem_cons_zero, List.getElem_cons_succ, List.setIfInBounds_toArray, List.set_cons_zero, List.set_cons_succ]
          refine wpAnyH_take (i := 12) (v := ?_) rfl (by kernel_rfl) (by kernel_rfl) (by kernel_rfl) (fun _ _ _ h => nomatch h.1) (Or.inl ⟨by rfl, ?_⟩) (sK _ LS5.out) ?_
          rotate_left
          · (intro wS hSw; (try dsimp only at hSw); go_simp; try with_reducible rfl)
          simp only [Act.put, List.getElem_toArray, List.getElem_cons_zero, List.getElem_cons_succ, List.setIfInBounds_toArray, List.set_cons_zero, List.set_cons_succ]
          refine wpAnyH_ready (rs := [22]) (by kernel_rfl) (by simp) ?_
          refine AllReadyH.cons rfl (fun K hK => ?_) AllReadyH.nil
          go_simp
          refine (K3.out _ gO LO5.out).mono ?_
          rintro e r6 ⟨rfl, hb⟩
          have LS6 := Lib.hid (Blk.next (w := r5) LS5.out hb)
          have LN6 := Lib.hid (Blk.next (w := r5) LN5.out hb)
          have LO6 := Lib.hid (Blk.next (w := r5) LO5.out hb)
          have LM6 := Lib.hid (Blk.next (w := r5) LM5.out hb)
          have E6 := Lib.hid (E5.out.trans (hb.mono E5.out.size))
          clear hb
          go_wp2_with fail
          refine hK.out _ _ (sK _ LS6.out) (fun hHeld => ?_)
          clear hK K hHeld
          try simp only [Act.put, List.getElem_toArray, List.getElem_cons_zero, List.getElem_cons_succ, List.setIfInBounds_toArray, List.set_cons_zero, List.set_cons_succ]
          refine wpAnyH_take (i := 23) (v := ?_) rfl (by kernel_rfl) (by kernel_rfl) (by kernel_rfl) (fun _ _ _ h => nomatch h.1) (Or.inl ⟨by rfl, ?_⟩) (sK _ LS6.out) ?_
          rotate_left
          · (intro wS hSw; (try dsimp only at hSw); go_simp; try with_reducible rfl)
          simp only [Act.put, List.getElem_toArray, List.getElem_cons_zero, List.getElem_cons_succ, List.setIfInBounds_toArray, List.set_cons_zero, List.set_cons_succ]
          refine wpAnyH_take (i := 24) (v := ?_) rfl (by kernel_rfl) (by kernel_rfl) (by kernel_rfl) (fun _ _ _ h => nomatch h.1) (Or.inl ⟨by rfl, ?_⟩) (sK _ LS6.out) ?_
          rotate_left
          · (intro wS hSw; (try dsimp only at hSw); go_simp; try with_reducible rfl)
          simp only [Act.put, List.getElem_toArray, List.getElem_cons_zero, List.getElem_cons_succ, List.setIfInBounds_toArray, List.set_cons_zero, List.set_cons_succ]
          refine wpAnyH_done (by kernel_rfl) ?_ _
          exact ⟨rfl, gN, gM, gO, rfl, E6.out, LS6.out⟩
        exact AllReadyH.nil
      refine AllReadyH.cons rfl (fun K hK => ?_) ?_
      · go_simp
        have LS2 : Blk ((r1.alloc (.cells #[.int .i64 s2, .int .i64 s3] 3))) (w.heap.size) 25 #[.int .i64 s0, .int .i64 s1, .int .i64 s2, .int .i64 s3, .int .i64 s4, .int .i64 s5, .int .i64 s6, .int .i64 s7, .slice A n c, .int .i64 s9, .int .i64 s10, .int .i64 s11, .int .i64 s12] := Blk.alloc (w := r1) LS1.out (.cells #[.int .i64 s2, .int .i64 s3] 3)
        have LN2 : Blk ((r1.alloc (.cells #[.int .i64 s2, .int .i64 s3] 3))) (gN) 3 #[.int .i64 s0, .int .i64 s1] := Blk.alloc (w := r1) LN1.out (.cells #[.int .i64 s2, .int .i64 s3] 3)
        have LM2 : Blk ((r1.alloc (.cells #[.int .i64 s2, .int .i64 s3] 3))) r1.heap.size 3 #[.int .i64 s2, .int .i64 s3] := Blk.new r1 _ _
        have E2 : Below w.heap.size w ((r1.alloc (.cells #[.int .i64 s2, .int .i64 s3] 3))) := (E1.out.alloc E1.out.size (.cells #[.int .i64 s2, .int .i64 s3] 3))
        obtain ⟨r2, hr2⟩ : ∃ VV, (r1.alloc (.cells #[.int .i64 s2, .int .i64 s3] 3)) = VV := ⟨_, rfl⟩
        obtain ⟨gM, hg2⟩ : ∃ g, r1.heap.size = g := ⟨_, rfl⟩
        try rw [hr2]
        try rw [hg2]
        simp only [hr2, hg2] at LS2 LN2 LM2 E2
        try simp only [hr2, hg2]
        clear hr2 hg2
        replace LS2 := Lib.hid LS2
        replace LN2 := Lib.hid LN2
        replace LM2 := Lib.hid LM2
        replace E2 := Lib.hid E2
        refine hK.out _ _ (sK _ LS2.out) (fun hHeld => ?_)
        clear hK K hHeld
        try simp only [Act.put, List.getElem_toArray, List.getElem_cons_zero, List.getElem_cons_succ, List.setIfInBounds_toArray, List.set_cons_zero, List.set_cons_succ]
        refine wpAnyH_ready (rs := [5, 21]) (by kernel_rfl) (by simp) ?_
        refine AllReadyH.cons rfl (fun K hK => ?_) ?_
        · go_simp
          refine (K1.out _ gN LN2.out).mono ?_
          rintro e r3 ⟨rfl, hb⟩
          have LS3 := Lib.hid (Blk.next (w := r2) LS2.out hb)
          have LN3 := Lib.hid (Blk.next (w := r2) LN2.out hb)
          have LM3 := Lib.hid (Blk.next (w := r2) LM2.out hb)
          have E3 := Lib.hid (E2.out.trans (hb.mono E2.out.size))
          clear hb
          go_wp2_with fail
          refine hK.out _ _ (sK _ LS3.out) (fun hHeld => ?_)
          clear hK K hHeld
          try simp only [Act.put, List.getElem_toArray, List.getElem_cons_zero, List.getElem_cons_succ, List.setIfInBounds_toArray, List.set_cons_zero, List.set_cons_succ]
          refine wpAnyH_ready (rs := [11, 21]) (by kernel_rfl) (by simp) ?_
          refine AllReadyH.cons rfl (fun K hK => ?_) ?_
          · go_simp
            refine (K2.out _ gM LM3.out).mono ?_
            rintro e r4 ⟨rfl, hb⟩
            have LS4 := Lib.hid (Blk.next (w := r3) LS3.out hb)
            have LN4 := Lib.hid (Blk.next (w := r3) LN3.out hb)
            have LM4 := Lib.hid (Blk.next (w := r3) LM3.out hb)
            have E4 := Lib.hid (E3.out.trans (hb.mono E3.out.size))
            clear hb
            go_wp2_with fail
            refine hK.out _ _ (sK _ LS4.out) (fun hHeld => ?_)
            clear hK K hHeld
            try simp only [Act.put, List.getElem_toArray, List.getElem_cons_zero, List.getElem_cons_succ, List.setIfInBounds_toArray, List.set_cons_zero, List.set_cons_succ]
            refine wpAnyH_take (i := 12) (v := ?_) rfl (by kernel_rfl) (by kernel_rfl) (by kernel_rfl) (fun _ _ _ h => nomatch h.1) (Or.inl ⟨by rfl, ?_⟩) (sK _ LS4.out) ?_
            rotate_left
            · (intro wS hSw; (try dsimp only at hSw); go_simp; try with_reducible rfl)
            simp only [Act.put, List.getElem_toArray, List.getElem_cons_zero, List.getElem_cons_succ, List.setIfInBounds_toArray, List.set_cons_zero, List.set_cons_succ]
            refine wpAnyH_ready (rs := [21]) (by kernel_rfl) (by simp) ?_
            refine AllReadyH.cons rfl (fun K hK => ?_) AllReadyH.nil
            go_simp
            have LS5 : Blk ((r4.alloc (.cells #[.int .i64 s4, .int .i64 s5, .int .i64 s6, .int .i64 s7] 3))) (w.heap.size) 25 #[.int .i64 s0, .int .i64 s1, .int .i64 s2, .int .i64 s3, .int .i64 s4, .int .i64 s5, .int .i64 s6, .int .i64 s7, .slice A n c, .int .i64 s9, .int .i64 s10, .int .i64 s11, .int .i64 s12] := Blk.alloc (w := r4) LS4.out (.cells #[.int .i64 s4, .int .i64 s5, .int .i64 s6, .int .i64 s7] 3)
            have LN5 : Blk ((r4.alloc (.cells #[.int .i64 s4, .int .i64 s5, .int .i64 s6, .int .i64 s7] 3))) (gN) 3 #[.int .i64 s0, .int .i64 s1] := Blk.alloc (w := r4) LN4.out (.cells #[.int .i64 s4, .int .i64 s5, .int .i64 s6, .int .i64 s7] 3)
            have LM5 : Blk ((r4.alloc (.cells #[.int .i64 s4, .int .i64 s5, .int .i64 s6, .int .i64 s7] 3))) (gM) 3 #[.int .i64 s2, .int .i64 s3] := Blk.alloc (w := r4) LM4.out (.cells #[.int .i64 s4, .int .i64 s5, .int .i64 s6, .int .i64 s7] 3)
            have LO5 : Blk ((r4.alloc (.cells #[.int .i64 s4, .int .i64 s5, .int .i64 s6, .int .i64 s7] 3))) r4.heap.size 3 #[.int .i64 s4, .int .i64 s5, .int .i64 s6, .int .i64 s7] := Blk.new r4 _ _
            have E5 : Below w.heap.size w ((r4.alloc (.cells #[.int .i64 s4, .int .i64 s5, .int .i64 s6, .int .i64 s7] 3))) := (E4.out.alloc E4.out.size (.cells #[.int .i64 s4, .int .i64 s5, .int .i64 s6, .int .i64 s7] 3))
            obtain ⟨r5, hr5⟩ : ∃ VV, (r4.alloc (.cells #[.int .i64 s4, .int .i64 s5, .int .i64 s6, .int .i64 s7] 3)) = VV := ⟨_, rfl⟩
            obtain ⟨gO, hg5⟩ : ∃ g, r4.heap.size = g := ⟨_, rfl⟩
            try rw [hr5]
            try rw [hg5]
            simp only [hr5, hg5] at LS5 LN5 LM5 LO5 E5
            try simp only [hr5, hg5]
            clear hr5 hg5
            replace LS5 := Lib.hid LS5
            replace LN5 := Lib.hid LN5
            replace LM5 := Lib.hid LM5
            replace LO5 := Lib.hid LO5
            replace E5 := Lib.hid E5
            refine hK.out _ _ (sK _ LS5.out) (fun hHeld => ?_)
            clear hK K hHeld
            try simp only [Act.put, List.getElem_toArray, List.getElem_cons_zero, List.getElem_cons_succ, List.setIfInBounds_toArray, List.set_cons_zero, List.set_cons_succ]
            refine wpAnyH_ready (rs := [22]) (by kernel_rfl) (by simp) ?_
            refine AllReadyH.cons rfl (fun K hK => ?_) AllReadyH.nil
            go_simp
            refine (K3.out _ gO LO5.out).mono ?_
            rintro e r6 ⟨rfl, hb⟩
            have LS6 := Lib.hid (Blk.next (w := r5) LS5.out hb)
            have LN6 := Lib.hid (Blk.next (w := r5) LN5.out hb)
            have LM6 := Lib.hid (Blk.next (w := r5) LM5.out hb)
            have LO6 := Lib.hid (Blk.next (w := r5) LO5.out hb)
            have E6 := Lib.hid (E5.out.trans (hb.mono E5.out.size))
            clear hb
            go_wp2_with fail
            refine hK.out _ _ (sK _ LS6.out) (fun hHeld => ?_)
            clear hK K hHeld
            try simp only [Act.put, List.getElem_toArray, List.getElem_cons_zero, List.getElem_cons_succ, List.setIfInBounds_toArray, List.set_cons_zero, List.set_cons_succ]
            refine wpAnyH_take (i := 23) (v := ?_) rfl (by kernel_rfl) (by kernel_rfl) (by kernel_rfl) (fun _ _ _ h => nomatch h.1) (Or.inl ⟨by rfl, ?_⟩) (sK _ LS6.out) ?_
            rotate_left
            · (intro wS hSw; (try dsimp only at hSw); go_simp; try with_reducible rfl)
            simp only [Act.put, List.getElem_toArray, List.getElem_cons_zero, List.getElem_cons_succ, List.setIfInBounds_toArray, List.set_cons_zero, List.set_cons_succ]
            refine wpAnyH_take (i := 24) (v := ?_) rfl (by kernel_rfl) (by kernel_rfl) (by kernel_rfl) (fun _ _ _ h => nomatch h.1) (Or.inl ⟨by rfl, ?_⟩) (sK _ LS6.out) ?_
            rotate_left
            · (intro wS hSw; (try dsimp only at hSw); go_simp; try with_reducible rfl)
            simp only [Act.put, List.getElem_toArray, List.getElem_cons_zero, List.getElem_cons_succ, List.setIfInBounds_toArray, List.set_cons_zero, List.set_cons_succ]
            refine wpAnyH_done (by kernel_rfl) ?_ _
            exact ⟨rfl, gN, gM, gO, rfl, E6.out, LS6.out⟩
          refine AllReadyH.cons rfl (fun K hK => ?_) ?_
          · go_simp
            have LS4 : Blk ((r3.alloc (.cells #[.int .i64 s4, .int .i64 s5, .int .i64 s6, .int .i64 s7] 3))) (w.heap.size) 25 #[.int .i64 s0, .int .i64 s1, .int .i64 s2, .int .i64 s3, .int .i64 s4, .int .i64 s5, .int .i64 s6, .int .i64 s7, .slice A n c, .int .i64 s9, .int .i64 s10, .int .i64 s11, .int .i64 s12] := Blk.alloc (w := r3) LS3.out (.cells #[.int .i64 s4, .int .i64 s5, .int .i64 s6, .int .i64 s7] 3)
            have LN4 : Blk ((r3.alloc (.cells #[.int .i64 s4, .int .i64 s5, .int .i64 s6, .int .i64 s7] 3))) (gN) 3 #[.int .i64 s0, .int .i64 s1] := Blk.alloc (w := r3) LN3.out (.cells #[.int .i64 s4, .int .i64 s5, .int .i64 s6, .int .i64 s7] 3)
            have LM4 : Blk ((r3.alloc (.cells #[.int .i64 s4, .int .i64 s5, .int .i64 s6, .int .i64 s7] 3))) (gM) 3 #[.int .i64 s2, .int .i64 s3] := Blk.alloc (w := r3) LM3.out (.cells #[.int .i64 s4, .int .i64 s5, .int .i64 s6, .int .i64 s7] 3)
            have LO4 : Blk ((r3.alloc (.cells #[.int .i64 s4, .int .i64 s5, .int .i64 s6, .int .i64 s7] 3))) r3.heap.size 3 #[.int .i64 s4, .int .i64 s5, .int .i64 s6, .int .i64 s7] := Blk.new r3 _ _
            have E4 : Below w.heap.size w ((r3.alloc (.cells #[.int .i64 s4, .int .i64 s5, .int .i64 s6, .int .i64 s7] 3))) := (E3.out.alloc E3.out.size (.cells #[.int .i64 s4, .int .i64 s5, .int .i64 s6, .int .i64 s7] 3))
            obtain ⟨r4, hr4⟩ : ∃ VV, (r3.alloc (.cells #[.int .i64 s4, .int .i64 s5, .int .i64 s6, .int .i64 s7] 3)) = VV := ⟨_, rfl⟩
            obtain ⟨gO, hg4⟩ : ∃ g, r3.heap.size = g := ⟨_, rfl⟩
            try rw [hr4]
            try rw [hg4]
            simp only [hr4, hg4] at LS4 LN4 LM4 LO4 E4
            try simp only [hr4, hg4]
            clear hr4 hg4
            replace LS4 := Lib.hid LS4
            replace LN4 := Lib.hid LN4
            replace LM4 := Lib.hid LM4
            replace LO4 := Lib.hid LO4
            replace E4 := Lib.hid E4
            refine hK.out _ _ (sK _ LS4.out) (fun hHeld => ?_)
            clear hK K hHeld
            try simp only [Act.put, List.getElem_toArray, List.getElem_cons_zero, List.getElem_cons_succ, List.setIfInBounds_toArray, List.set_cons_zero, List.set_cons_succ]
            refine wpAnyH_ready (rs := [11]) (by kernel_rfl) (by simp) ?_
            refine AllReadyH.cons rfl (fun K hK => ?_) AllReadyH.nil
            go_simp
            refine (K2.out _ gM LM4.out).mono ?_
            rintro e r5 ⟨rfl, hb⟩
            have LS5 := Lib.hid (Blk.next (w := r4) LS4.out hb)
            have LN5 := Lib.hid (Blk.next (w := r4) LN4.out hb)
            have LM5 := Lib.hid (Blk.next (w := r4) LM4.out hb)
            have LO5 := Lib.hid (Blk.next (w := r4) LO4.out hb)
            have E5 := Lib.hid (E4.out.trans (hb.mono E4.out.size))
            clear hb
            go_wp2_with fail
            refine hK.out _ _ (sK _ LS5.out) (fun hHeld => ?_)
            clear hK K hHeld
            try simp only [Act.put, List.getElem_toArray, List.getElem_cons_zero, List.getElem_cons_succ, List.setIfInBounds_toArray, List.set_cons_zero, List.set_cons_succ]
            refine wpAnyH_take (i := 12) (v := ?_) rfl (by kernel_rfl) (by kernel_rfl) (by kernel_rfl) (fun _ _ _ h => nomatch h.1) (Or.inl ⟨by rfl, ?_⟩) (sK _ LS5.out) ?_
            rotate_left
            · (intro wS hSw; (try dsimp only at hSw); go_simp; try with_reducible rfl)
            simp only [Act.put, List.getElem_toArray, List.getElem_cons_zero, List.getElem_cons_succ, List.setIfInBounds_toArray, List.set_cons_zero, List.set_cons_succ]
            refine wpAnyH_ready (rs := [22]) (by kernel_rfl) (by simp) ?_
            refine AllReadyH.cons rfl (fun K hK => ?_) AllReadyH.nil
            go_simp
            refine (K3.out _ gO LO5.out).mono ?_
            rintro e r6 ⟨rfl, hb⟩
            have LS6 := Lib.hid (Blk.next (w := r5) LS5.out hb)
            have LN6 := Lib.hid (Blk.next (w := r5) LN5.out hb)
            have LM6 := Lib.hid (Blk.next (w := r5) LM5.out hb)
            have LO6 := Lib.hid (Blk.next (w := r5) LO5.out hb)
            have E6 := Lib.hid (E5.out.trans (hb.mono E5.out.size))
            clear hb
            go_wp2_with fail
            refine hK.out _ _ (sK _ LS6.out) (fun hHeld => ?_)
            clear hK K hHeld
            try simp only [Act.put, List.getElem_toArray, List.getElem_cons_zero, List.getElem_cons_succ, List.setIfInBounds_toArray, List.set_cons_zero, List.set_cons_succ]
            refine wpAnyH_take (i := 23) (v := ?_) rfl (by kernel_rfl) (by kernel_rfl) (by kernel_rfl) (fun _ _ _ h => nomatch h.1) (Or.inl ⟨by rfl, ?_⟩) (sK _ LS6.out) ?_
            rotate_left
            · (intro wS hSw; (try dsimp only at hSw); go_simp; try with_reducible rfl)
            simp only [Act.put, List.getElem_toArray, List.getElem_cons_zero, List.getElem_cons_succ, List.setIfInBounds_toArray, List.set_cons_zero, List.set_cons_succ]
            refine wpAnyH_take (i := 24) (v := ?_) rfl (by kernel_rfl) (by kernel_rfl) (by kernel_rfl) (fun _ _ _ h => nomatch h.1) (Or.inl ⟨by rfl, ?_⟩) (sK _ LS6.out) ?_
            rotate_left
            · (intro wS hSw; (try dsimp only at hSw); go_simp; try with_reducible rfl)
            simp only [Act.put, List.getElem_toArray, List.getElem_cons_zero, List.getElem_cons_succ, List.setIfInBounds_toArray, List.set_cons_zero, List.set_cons_succ]
            refine wpAnyH_done (by kernel_rfl) ?_ _
            exact ⟨rfl, gN, gM, gO, rfl, E6.out, LS6.out⟩
          exact AllReadyH.nil
        refine AllReadyH.cons rfl (fun K hK => ?_) ?_
        · go_simp
          have LS3 : Blk ((r2.alloc (.cells #[.int .i64 s4, .int .i64 s5, .int .i64 s6, .int .i64 s7] 3))) (w.heap.size) 25 #[.int .i64 s0, .int .i64 s1, .int .i64 s2, .int .i64 s3, .int .i64 s4, .int .i64 s5, .int .i64 s6, .int .i64 s7, .slice A n c, .int .i64 s9, .int .i64 s10, .int .i64 s11, .int .i64 s12] := Blk.alloc (w := r2) LS2.out (.cells #[.int .i64 s4, .int .i64 s5, .int .i64 s6, .int .i64 s7] 3)
          have LN3 : Blk ((r2.alloc (.cells #[.int .i64 s4, .int .i64 s5, .int .i64 s6, .int .i64 s7] 3))) (gN) 3 #[.int .i64 s0, .int .i64 s1] := Blk.alloc (w := r2) LN2.out (.cells #[.int .i64 s4, .int .i64 s5, .int .i64 s6, .int .i64 s7] 3)
          have LM3 : Blk ((r2.alloc (.cells #[.int .i64 s4, .int .i64 s5, .int .i64 s6, .int .i64 s7] 3))) (gM) 3 #[.int .i64 s2, .int .i64 s3] := Blk.alloc (w := r2) LM2.out (.cells #[.int .i64 s4, .int .i64 s5, .int .i64 s6, .int .i64 s7] 3)
          have LO3 : Blk ((r2.alloc (.cells #[.int .i64 s4, .int .i64 s5, .int .i64 s6, .int .i64 s7] 3))) r2.heap.size 3 #[.int .i64 s4, .int .i64 s5, .int .i64 s6, .int .i64 s7] := Blk.new r2 _ _
          have E3 : Below w.heap.size w ((r2.alloc (.cells #[.int .i64 s4, .int .i64 s5, .int .i64 s6, .int .i64 s7] 3))) := (E2.out.alloc E2.out.size (.cells #[.int .i64 s4, .int .i64 s5, .int .i64 s6, .int .i64 s7] 3))
          obtain ⟨r3, hr3⟩ : ∃ VV, (r2.alloc (.cells #[.int .i64 s4, .int .i64 s5, .int .i64 s6, .int .i64 s7] 3)) = VV := ⟨_, rfl⟩
          obtain ⟨gO, hg3⟩ : ∃ g, r2.heap.size = g := ⟨_, rfl⟩
          try rw [hr3]
          try rw [hg3]
          simp only [hr3, hg3] at LS3 LN3 LM3 LO3 E3
          try simp only [hr3, hg3]
          clear hr3 hg3
          replace LS3 := Lib.hid LS3
          replace LN3 := Lib.hid LN3
          replace LM3 := Lib.hid LM3
          replace LO3 := Lib.hid LO3
          replace E3 := Lib.hid E3
          refine hK.out _ _ (sK _ LS3.out) (fun hHeld => ?_)
          clear hK K hHeld
          try simp only [Act.put, List.getElem_toArray, List.getElem_cons_zero, List.getElem_cons_succ, List.setIfInBounds_toArray, List.set_cons_zero, List.set_cons_succ]
          refine wpAnyH_ready (rs := [5]) (by kernel_rfl) (by simp) ?_
          refine AllReadyH.cons rfl (fun K hK => ?_) AllReadyH.nil
          go_simp
          refine (K1.out _ gN LN3.out).mono ?_
          rintro e r4 ⟨rfl, hb⟩
          have LS4 := Lib.hid (Blk.next (w := r3) LS3.out hb)
          have LN4 := Lib.hid (Blk.next (w := r3) LN3.out hb)
          have LM4 := Lib.hid (Blk.next (w := r3) LM3.out hb)
          have LO4 := Lib.hid (Blk.next (w := r3) LO3.out hb)
          have E4 := Lib.hid (E3.out.trans (hb.mono E3.out.size))
          clear hb
          go_wp2_with fail
          refine hK.out _ _ (sK _ LS4.out) (fun hHeld => ?_)
          clear hK K hHeld
          try simp only [Act.put, List.getElem_toArray, List.getElem_cons_zero, List.getElem_cons_succ, List.setIfInBounds_toArray, List.set_cons_zero, List.set_cons_succ]
          refine wpAnyH_ready (rs := [11]) (by kernel_rfl) (by simp) ?_
          refine AllReadyH.cons rfl (fun K hK => ?_) AllReadyH.nil
          go_simp
          refine (K2.out _ gM LM4.out).mono ?_
          rintro e r5 ⟨rfl, hb⟩
          have LS5 := Lib.hid (Blk.next (w := r4) LS4.out hb)
          have LN5 := Lib.hid (Blk.next (w := r4) LN4.out hb)
          have LM5 := Lib.hid (Blk.next (w := r4) LM4.out hb)
          have LO5 := Lib.hid (Blk.next (w := r4) LO4.out hb)
          have E5 := Lib.hid (E4.out.trans (hb.mono E4.out.size))
          clear hb
          go_wp2_with fail
          refine hK.out _ _ (sK _ LS5.out) (fun hHeld => ?_)
          clear hK K hHeld
          try simp only [Act.put, List.getElem_toArray, List.getElem_cons_zero, List.getElem_cons_succ, List.setIfInBounds_toArray, List.set_cons_zero, List.set_cons_succ]
          refine wpAnyH_take (i := 12) (v := ?_) rfl (by kernel_rfl) (by kernel_rfl) (by kernel_rfl) (fun _ _ _ h => nomatch h.1) (Or.inl ⟨by rfl, ?_⟩) (sK _ LS5.out) ?_
          rotate_left
          · (intro wS hSw; (try dsimp only at hSw); go_simp; try with_reducible rfl)
          simp only [Act.put, List.getElem_toArray, List.getElem_cons_zero, List.getElem_cons_succ, List.setIfInBounds_toArray, List.set_cons_zero, List.set_cons_succ]
          refine wpAnyH_ready (rs := [22]) (by kernel_rfl) (by simp) ?_
          refine AllReadyH.cons rfl (fun K hK => ?_) AllReadyH.nil
          go_simp
          refine (K3.out _ gO LO5.out).mono ?_
          rintro e r6 ⟨rfl, hb⟩
          have LS6 := Lib.hid (Blk.next (w := r5) LS5.out hb)
          have LN6 := Lib.hid (Blk.next (w := r5) LN5.out hb)
          have LM6 := Lib.hid (Blk.next (w := r5) LM5.out hb)
          have LO6 := Lib.hid (Blk.next (w := r5) LO5.out hb)
          have E6 := Lib.hid (E5.out.trans (hb.mono E5.out.size))
          clear hb
          go_wp2_with fail
          refine hK.out _ _ (sK _ LS6.out) (fun hHeld => ?_)
          clear hK K hHeld
          try simp only [Act.put, List.getElem_toArray, List.getElem_cons_zero, List.getElem_cons_succ, List.setIfInBounds_toArray, List.set_cons_zero, List.set_cons_succ]
          refine wpAnyH_take (i := 23) (v := ?_) rfl (by kernel_rfl) (by kernel_rfl) (by kernel_rfl) (fun _ _ _ h => nomatch h.1) (Or.inl ⟨by rfl, ?_⟩) (sK _ LS6.out) ?_
          rotate_left
          · (intro wS hSw; (try dsimp only at hSw); go_simp; try with_reducible rfl)
          simp only [Act.put, List.getElem_toArray, List.getElem_cons_zero, List.getElem_cons_succ, List.setIfInBounds_toArray, List.set_cons_zero, List.set_cons_succ]
          refine wpAnyH_take (i := 24) (v := ?_) rfl (by kernel_rfl) (by kernel_rfl) (by kernel_rfl) (fun _ _ _ h => nomatch h.1) (Or.inl ⟨by rfl, ?_⟩) (sK _ LS6.out) ?_
          rotate_left
          · (intro wS hSw; (try dsimp only at hSw); go_simp; try with_reducible rfl)
          simp only [Act.put, List.getElem_toArray, List.getElem_cons_zero, List.getElem_cons_succ, List.setIfInBounds_toArray, List.set_cons_zero, List.set_cons_succ]
          refine wpAnyH_done (by kernel_rfl) ?_ _
          exact ⟨rfl, gN, gM, gO, rfl, E6.out, LS6.out⟩
        exact AllReadyH.nil
      refine AllReadyH.cons rfl (fun K hK => ?_) ?_
      · go_simp
        have LS2 : Blk ((r1.alloc (.cells #[.int .i64 s4, .int .i64 s5, .int .i64 s6, .int .i64 s7] 3))) (w.heap.size) 25 #[.int .i64 s0, .int .i64 s1, .int .i64 s2, .int .i64 s3, .int .i64 s4, .int .i64 s5, .int .i64 s6, .int .i64 s7, .slice A n c, .int .i64 s9, .int .i64 s10, .int .i64 s11, .int .i64 s12] := Blk.alloc (w := r1) LS1.out (.cells #[.int .i64 s4, .int .i64 s5, .int .i64 s6, .int .i64 s7] 3)
        have LN2 : Blk ((r1.alloc (.cells #[.int .i64 s4, .int .i64 s5, .int .i64 s6, .int .i64 s7] 3))) (gN) 3 #[.int .i64 s0, .int .i64 s1] := Blk.alloc (w := r1) LN1.out (.cells #[.int .i64 s4, .int .i64 s5, .int .i64 s6, .int .i64 s7] 3)
        have LO2 : Blk ((r1.alloc (.cells #[.int .i64 s4, .int .i64 s5, .int .i64 s6, .int .i64 s7] 3))) r1.heap.size 3 #[.int .i64 s4, .int .i64 s5, .int .i64 s6, .int .i64 s7] := Blk.new r1 _ _
        have E2 : Below w.heap.size w ((r1.alloc (.cells #[.int .i64 s4, .int .i64 s5, .int .i64 s6, .int .i64 s7] 3))) := (E1.out.alloc E1.out.size (.cells #[.int .i64 s4, .int .i64 s5, .int .i64 s6, .int .i64 s7] 3))
        obtain ⟨r2, hr2⟩ : ∃ VV, (r1.alloc (.cells #[.int .i64 s4, .int .i64 s5, .int .i64 s6, .int .i64 s7] 3)) = VV := ⟨_, rfl⟩
        obtain ⟨gO, hg2⟩ : ∃ g, r1.heap.size = g := ⟨_, rfl⟩
        try rw [hr2]
        try rw [hg2]
        simp only [hr2, hg2] at LS2 LN2 LO2 E2
        try simp only [hr2, hg2]
        clear hr2 hg2
        replace LS2 := Lib.hid LS2
        replace LN2 := Lib.hid LN2
        replace LO2 := Lib.hid LO2
        replace E2 := Lib.hid E2
        refine hK.out _ _ (sK _ LS2.out) (fun hHeld => ?_)
        clear hK K hHeld
        try simp only [Act.put, List.getElem_toArray, List.getElem_cons_zero, List.getElem_cons_succ, List.setIfInBounds_toArray, List.set_cons_zero, List.set_cons_succ]
        refine wpAnyH_ready (rs := [5, 10]) (by kernel_rfl) (by simp) ?_
        refine AllReadyH.cons rfl (fun K hK => ?_) ?_
        · go_simp
          refine (K1.out _ gN LN2.out).mono ?_
          rintro e r3 ⟨rfl, hb⟩
          have LS3 := Lib.hid (Blk.next (w := r2) LS2.out hb)
          have LN3 := Lib.hid (Blk.next (w := r2) LN2.out hb)
          have LO3 := Lib.hid (Blk.next (w := r2) LO2.out hb)
          have E3 := Lib.hid (E2.out.trans (hb.mono E2.out.size))
          clear hb
          go_wp2_with fail
          refine hK.out _ _ (sK _ LS3.out) (fun hHeld => ?_)
          clear hK K hHeld
          try simp only [Act.put, List.getElem_toArray, List.getElem_cons_zero, List.getElem_cons_succ, List.setIfInBounds_toArray, List.set_cons_zero, List.set_cons_succ]
          refine wpAnyH_ready (rs := [10]) (by kernel_rfl) (by simp) ?_
          refine AllReadyH.cons rfl (fun K hK => ?_) AllReadyH.nil
          go_simp
          have LS4 : Blk ((r3.alloc (.cells #[.int .i64 s2, .int .i64 s3] 3))) (w.heap.size) 25 #[.int .i64 s0, .int .i64 s1, .int .i64 s2, .int .i64 s3, .int .i64 s4, .int .i64 s5, .int .i64 s6, .int .i64 s7, .slice A n c, .int .i64 s9, .int .i64 s10, .int .i64 s11, .int .i64 s12] := Blk.alloc (w := r3) LS3.out (.cells #[.int .i64 s2, .int .i64 s3] 3)
          have LN4 : Blk ((r3.alloc (.cells #[.int .i64 s2, .int .i64 s3] 3))) (gN) 3 #[.int .i64 s0, .int .i64 s1] := Blk.alloc (w := r3) LN3.out (.cells #[.int .i64 s2, .int .i64 s3] 3)
          have LO4 : Blk ((r3.alloc (.cells #[.int .i64 s2, .int .i64 s3] 3))) (gO) 3 #[.int .i64 s4, .int .i64 s5, .int .i64 s6, .int .i64 s7] := Blk.alloc (w := r3) LO3.out (.cells #[.int .i64 s2, .int .i64 s3] 3)
          have LM4 : Blk ((r3.alloc (.cells #[.int .i64 s2, .int .i64 s3] 3))) r3.heap.size 3 #[.int .i64 s2, .int .i64 s3] := Blk.new r3 _ _
          have E4 : Below w.heap.size w ((r3.alloc (.cells #[.int .i64 s2, .int .i64 s3] 3))) := (E3.out.alloc E3.out.size (.cells #[.int .i64 s2, .int .i64 s3] 3))
          obtain ⟨r4, hr4⟩ : ∃ VV, (r3.alloc (.cells #[.int .i64 s2, .int .i64 s3] 3)) = VV := ⟨_, rfl⟩
          obtain ⟨gM, hg4⟩ : ∃ g, r3.heap.size = g := ⟨_, rfl⟩
          try rw [hr4]
          try rw [hg4]
          simp only [hr4, hg4] at LS4 LN4 LO4 LM4 E4
          try simp only [hr4, hg4]
          clear hr4 hg4
          replace LS4 := Lib.hid LS4
          replace LN4 := Lib.hid LN4
          replace LO4 := Lib.hid LO4
          replace LM4 := Lib.hid LM4
          replace E4 := Lib.hid E4
          refine hK.out _ _ (sK _ LS4.out) (fun hHeld => ?_)
          clear hK K hHeld
          try simp only [Act.put, List.getElem_toArray, List.getElem_cons_zero, List.getElem_cons_succ, List.setIfInBounds_toArray, List.set_cons_zero, List.set_cons_succ]
          refine wpAnyH_ready (rs := [11]) (by kernel_rfl) (by simp) ?_
          refine AllReadyH.cons rfl (fun K hK => ?_) AllReadyH.nil
          go_simp
          refine (K2.out _ gM LM4.out).mono ?_
          rintro e r5 ⟨rfl, hb⟩
          have LS5 := Lib.hid (Blk.next (w := r4) LS4.out hb)
          have LN5 := Lib.hid (Blk.next (w := r4) LN4.out hb)
          have LO5 := Lib.hid (Blk.next (w := r4) LO4.out hb)
          have LM5 := Lib.hid (Blk.next (w := r4) LM4.out hb)
          have E5 := Lib.hid (E4.out.trans (hb.mono E4.out.size))
          clear hb
          go_wp2_with fail
          refine hK.out _ _ (sK _ LS5.out) (fun hHeld => ?_)
          clear hK K hHeld
          try simp only [Act.put, List.getElem_toArray, List.getElem_cons_zero, List.getElem_cons_succ, List.setIfInBounds_toArray, List.set_cons_zero, List.set_cons_succ]
          refine wpAnyH_take (i := 12) (v := ?_) rfl (by kernel_rfl) (by kernel_rfl) (by kernel_rfl) (fun _ _ _ h => nomatch h.1) (Or.inl ⟨by rfl, ?_⟩) (sK _ LS5.out) ?_
          rotate_left
          · (intro wS hSw; (try dsimp only at hSw); go_simp; try with_reducible rfl)
          simp only [Act.put, List.getElem_toArray, List.getElem_cons_zero, List.getElem_cons_succ, List.setIfInBounds_toArray, List.set_cons_zero, List.set_cons_succ]
          refine wpAnyH_ready (rs := [22]) (by kernel_rfl) (by simp) ?_
          refine AllReadyH.cons rfl (fun K hK => ?_) AllReadyH.nil
          go_simp
          refine (K3.out _ gO LO5.out).mono ?_
          rintro e r6 ⟨rfl, hb⟩
          have LS6 := Lib.hid (Blk.next (w := r5) LS5.out hb)
          have LN6 := Lib.hid (Blk.next (w := r5) LN5.out hb)
          have LO6 := Lib.hid (Blk.next (w := r5) LO5.out hb)
          have LM6 := Lib.hid (Blk.next (w := r5) LM5.out hb)
          have E6 := Lib.hid (E5.out.trans (hb.mono E5.out.size))
          clear hb
          go_wp2_with fail
          refine hK.out _ _ (sK _ LS6.out) (fun hHeld => ?_)
          clear hK K hHeld
          try simp only [Act.put, List.getElem_toArray, List.getElem_cons_zero, List.getElem_cons_succ, List.setIfInBounds_toArray, List.set_cons_zero, List.set_cons_succ]
          refine wpAnyH_take (i := 23) (v := ?_) rfl (by kernel_rfl) (by kernel_rfl) (by kernel_rfl) (fun _ _ _ h => nomatch h.1) (Or.inl ⟨by rfl, ?_⟩) (sK _ LS6.out) ?_
          rotate_left
          · (intro wS hSw; (try dsimp only at hSw); go_simp; try with_reducible rfl)
          simp only [Act.put, List.getElem_toArray, List.getElem_cons_zero, List.getElem_cons_succ, List.setIfInBounds_toArray, List.set_cons_zero, List.set_cons_succ]
          refine wpAnyH_take (i := 24) (v := ?_) rfl (by kernel_rfl) (by kernel_rfl) (by kernel_rfl) (fun _ _ _ h => nomatch h.1) (Or.inl ⟨by rfl, ?_⟩) (sK _ LS6.out) ?_
          rotate_left
          · (intro wS hSw; (try dsimp only at hSw); go_simp; try with_reducible rfl)
          simp only [Act.put, List.getElem_toArray, List.getElem_cons_zero, List.getElem_cons_succ, List.setIfInBounds_toArray, List.set_cons_zero, List.set_cons_succ]
          refine wpAnyH_done (by kernel_rfl) ?_ _
          exact ⟨rfl, gN, gM, gO, rfl, E6.out, LS6.out⟩
        refine AllReadyH.cons rfl (fun K hK => ?_) ?_
        · go_simp
          have LS3 : Blk ((r2.alloc (.cells #[.int .i64 s2, .int .i64 s3] 3))) (w.heap.size) 25 #[.int .i64 s0, .int .i64 s1, .int .i64 s2, .int .i64 s3, .int .i64 s4, .int .i64 s5, .int .i64 s6, .int .i64 s7, .slice A n c, .int .i64 s9, .int .i64 s10, .int .i64 s11, .int .i64 s12] := Blk.alloc (w := r2) LS2.out (.cells #[.int .i64 s2, .int .i64 s3] 3)
          have LN3 : Blk ((r2.alloc (.cells #[.int .i64 s2, .int .i64 s3] 3))) (gN) 3 #[.int .i64 s0, .int .i64 s1] := Blk.alloc (w := r2) LN2.out (.cells #[.int .i64 s2, .int .i64 s3] 3)
          have LO3 : Blk ((r2.alloc (.cells #[.int .i64 s2, .int .i64 s3] 3))) (gO) 3 #[.int .i64 s4, .int .i64 s5, .int .i64 s6, .int .i64 s7] := Blk.alloc (w := r2) LO2.out (.cells #[.int .i64 s2, .int .i64 s3] 3)
          have LM3 : Blk ((r2.alloc (.cells #[.int .i64 s2, .int .i64 s3] 3))) r2.heap.size 3 #[.int .i64 s2, .int .i64 s3] := Blk.new r2 _ _
          have E3 : Below w.heap.size w ((r2.alloc (.cells #[.int .i64 s2, .int .i64 s3] 3))) := (E2.out.alloc E2.out.size (.cells #[.int .i64 s2, .int .i64 s3] 3))
          obtain ⟨r3, hr3⟩ : ∃ VV, (r2.alloc (.cells #[.int .i64 s2, .int .i64 s3] 3)) = VV := ⟨_, rfl⟩
          obtain ⟨gM, hg3⟩ : ∃ g, r2.heap.size = g := ⟨_, rfl⟩
          try rw [hr3]
          try rw [hg3]
          simp only [hr3, hg3] at LS3 LN3 LO3 LM3 E3
          try simp only [hr3, hg3]
          clear hr3 hg3
          replace LS3 := Lib.hid LS3
          replace LN3 := Lib.hid LN3
          replace LO3 := Lib.hid LO3
          replace LM3 := Lib.hid LM3
          replace E3 := Lib.hid E3
          refine hK.out _ _ (sK _ LS3.out) (fun hHeld => ?_)
          clear hK K hHeld
          try simp only [Act.put, List.getElem_toArray, List.getElem_cons_zero, List.getElem_cons_succ, List.setIfInBounds_toArray, List.set_cons_zero, List.set_cons_succ]
          refine wpAnyH_ready (rs := [5]) (by kernel_rfl) (by simp) ?_
          refine AllReadyH.cons rfl (fun K hK => ?_) AllReadyH.nil
          go_simp
          refine (K1.out _ gN LN3.out).mono ?_
          rintro e r4 ⟨rfl, hb⟩
          have LS4 := Lib.hid (Blk.next (w := r3) LS3.out hb)
          have LN4 := Lib.hid (Blk.next (w := r3) LN3.out hb)
          have LO4 := Lib.hid (Blk.next (w := r3) LO3.out hb)
          have LM4 := Lib.hid (Blk.next (w := r3) LM3.out hb)
          have E4 := Lib.hid (E3.out.trans (hb.mono E3.out.size))
          clear hb
          go_wp2_with fail
          refine hK.out _ _ (sK _ LS4.out) (fun hHeld => ?_)
          clear hK K hHeld
          try simp only [Act.put, List.getElem_toArray, List.getElem_cons_zero, List.getElem_cons_succ, List.setIfInBounds_toArray, List.set_cons_zero, List.set_cons_succ]
          refine wpAnyH_ready (rs := [11]) (by kernel_rfl) (by simp) ?_
          refine AllReadyH.cons rfl (fun K hK => ?_) AllReadyH.nil
          go_simp
          refine (K2.out _ gM LM4.out).mono ?_
          rintro e r5 ⟨rfl, hb⟩
          have LS5 := Lib.hid (Blk.next (w := r4) LS4.out hb)
          have LN5 := Lib.hid (Blk.next (w := r4) LN4.out hb)
          have LO5 := Lib.hid (Blk.next (w := r4) LO4.out hb)
          have LM5 := Lib.hid (Blk.next (w := r4) LM4.out hb)
          have E5 := Lib.hid (E4.out.trans (hb.mono E4.out.size))
          clear hb
          go_wp2_with fail
          refine hK.out _ _ (sK _ LS5.out) (fun hHeld => ?_)
          clear hK K hHeld
          try simp only [Act.put, List.getElem_toArray, List.getElem_cons_zero, List.getElem_cons_succ, List.setIfInBounds_toArray, List.set_cons_zero, List.set_cons_succ]
          refine wpAnyH_take (i := 12) (v := ?_) rfl (by kernel_rfl) (by kernel_rfl) (by kernel_rfl) (fun _ _ _ h => nomatch h.1) (Or.inl ⟨by rfl, ?_⟩) (sK _ LS5.out) ?_
          rotate_left
          · (intro wS hSw; (try dsimp only at hSw); go_simp; try with_reducible rfl)
          simp only [Act.put, List.getElem_toArray, List.getElem_cons_zero, List.getElem_cons_succ, List.setIfInBounds_toArray, List.set_cons_zero, List.set_cons_succ]
          refine wpAnyH_ready (rs := [22]) (by kernel_rfl) (by simp) ?_
          refine AllReadyH.cons rfl (fun K hK => ?_) AllReadyH.nil
          go_simp
          refine (K3.out _ gO LO5.out).mono ?_
          rintro e r6 ⟨rfl, hb⟩
          have LS6 := Lib.hid (Blk.next (w := r5) LS5.out hb)
          have LN6 := Lib.hid (Blk.next (w := r5) LN5.out hb)
          have LO6 := Lib.hid (Blk.next (w := r5) LO5.out hb)
          have LM6 := Lib.hid (Blk.next (w := r5) LM5.out hb)
          have E6 := Lib.hid (E5.out.trans (hb.mono E5.out.size))
          clear hb
          go_wp2_with fail
          refine hK.out _ _ (sK _ LS6.out) (fun hHeld => ?_)
          clear hK K hHeld
          try simp only [Act.put, List.getElem_toArray, List.getElem_cons_zero, List.getElem_cons_succ, List.setIfInBounds_toArray, List.set_cons_zero, List.set_cons_succ]
          refine wpAnyH_take (i := 23) (v := ?_) rfl (by kernel_rfl) (by kernel_rfl) (by kernel_rfl) (fun _ _ _ h => nomatch h.1) (Or.inl ⟨by rfl, ?_⟩) (sK _ LS6.out) ?_
          rotate_left
          · (intro wS hSw; (try dsimp only at hSw); go_simp; try with_reducible rfl)
          simp only [Act.put, List.getElem_toArray, List.getElem_cons_zero, List.getElem_cons_succ, List.setIfInBounds_toArray, List.set_cons_zero, List.set_cons_succ]
          refine wpAnyH_take (i := 24) (v := ?_) rfl (by kernel_rfl) (by kernel_rfl) (by kernel_rfl) (fun _ _ _ h => nomatch h.1) (Or.inl ⟨by rfl, ?_⟩) (sK _ LS6.out) ?_
          rotate_left
          · (intro wS hSw; (try dsimp only at hSw); go_simp; try with_reducible rfl)
          simp only [Act.put, List.getElem_toArray, List.getElem_cons_zero, List.getElem_cons_succ, List.setIfInBounds_toArray, List.set_cons_zero, List.set_cons_succ]
          refine wpAnyH_done (by kernel_rfl) ?_ _
          exact ⟨rfl, gN, gM, gO, rfl, E6.out, LS6.out⟩
        exact AllReadyH.nil
      exact AllReadyH.nil
    refine AllReadyH.cons rfl (fun K hK => ?_) ?_
    · go_simp
      have LS1 : Blk ((V.alloc (.cells #[.int .i64 s2, .int .i64 s3] 3)).drew) (w.heap.size) 25 #[.int .i64 s0, .int .i64 s1, .int .i64 s2, .int .i64 s3, .int .i64 s4, .int .i64 s5, .int .i64 s6, .int .i64 s7, .slice A n c, .int .i64 s9, .int .i64 s10, .int .i64 s11, .int .i64 s12] := Blk.alloc (w := V) HS.out (.cells #[.int .i64 s2, .int .i64 s3] 3)
      have LM1 : Blk ((V.alloc (.cells #[.int .i64 s2, .int .i64 s3] 3)).drew) V.heap.size 3 #[.int .i64 s2, .int .i64 s3] := Blk.new V _ _
      have E1 : Below w.heap.size w ((V.alloc (.cells #[.int .i64 s2, .int .i64 s3] 3)).drew) := (EE.out.alloc EE.out.size (.cells #[.int .i64 s2, .int .i64 s3] 3)).drew
      obtain ⟨r1, hr1⟩ : ∃ VV, (V.alloc (.cells #[.int .i64 s2, .int .i64 s3] 3)).drew = VV := ⟨_, rfl⟩
      obtain ⟨gM, hg1⟩ : ∃ g, V.heap.size = g := ⟨_, rfl⟩
      try rw [hr1]
      try rw [hg1]
      simp only [hr1, hg1] at LS1 LM1 E1
      try simp only [hr1, hg1]
      clear hr1 hg1
      replace LS1 := Lib.hid LS1
      replace LM1 := Lib.hid LM1
      replace E1 := Lib.hid E1
      refine hK.out _ _ (sK _ LS1.out) (fun hHeld => ?_)
      clear hK K hHeld
      try simp only [Act.put, List.getElem_toArray, List.getElem_cons_zero, List.getElem_cons_succ, List.setIfInBounds_toArray, List.set_cons_zero, List.set_cons_succ]
      refine wpAnyH_ready (rs := [4, 21]) (by kernel_rfl) (by simp) ?_
      refine AllReadyH.cons rfl (fun K hK => ?_) ?_
      · go_simp
        have LS2 : Blk ((r1.alloc (.cells #[.int .i64 s0, .int .i64 s1] 3))) (w.heap.size) 25 #[.int .i64 s0, .int .i64 s1, .int .i64 s2, .int .i64 s3, .int .i64 s4, .int .i64 s5, .int .i64 s6, .int .i64 s7, .slice A n c, .int .i64 s9, .int .i64 s10, .int .i64 s11, .int .i64 s12] := Blk.alloc (w := r1) LS1.out (.cells #[.int .i64 s0, .int .i64 s1] 3)
        have LM2 : Blk ((r1.alloc (.cells #[.int .i64 s0, .int .i64 s1] 3))) (gM) 3 #[.int .i64 s2, .int .i64 s3] := Blk.alloc (w := r1) LM1.out (.cells #[.int .i64 s0, .int .i64 s1] 3)
        have LN2 : Blk ((r1.alloc (.cells #[.int .i64 s0, .int .i64 s1] 3))) r1.heap.size 3 #[.int .i64 s0, .int .i64 s1] := Blk.new r1 _ _
        have E2 : Below w.heap.size w ((r1.alloc (.cells #[.int .i64 s0, .int .i64 s1] 3))) := (E1.out.alloc E1.out.size (.cells #[.int .i64 s0, .int .i64 s1] 3))
        obtain ⟨r2, hr2⟩ : ∃ VV, (r1.alloc (.cells #[.int .i64 s0, .int .i64 s1] 3)) = VV := ⟨_, rfl⟩
        obtain ⟨gN, hg2⟩ : ∃ g, r1.heap.size = g := ⟨_, rfl⟩
        try rw [hr2]
        try rw [hg2]
        simp only [hr2, hg2] at LS2 LM2 LN2 E2
        try simp only [hr2, hg2]
        clear hr2 hg2
        replace LS2 := Lib.hid LS2
        replace LM2 := Lib.hid LM2
        replace LN2 := Lib.hid LN2
        replace E2 := Lib.hid E2
        refine hK.out _ _ (sK _ LS2.out) (fun hHeld => ?_)
        clear hK K hHeld
        try simp only [Act.put, List.getElem_toArray, List.getElem_cons_zero, List.getElem_cons_succ, List.setIfInBounds_toArray, List.set_cons_zero, List.set_cons_succ]
        refine wpAnyH_ready (rs := [5, 21]) (by kernel_rfl) (by simp) ?_
        refine AllReadyH.cons rfl (fun K hK => ?_) ?_
        · go_simp
          refine (K1.out _ gN LN2.out).mono ?_
          rintro e r3 ⟨rfl, hb⟩
          have LS3 := Lib.hid (Blk.next (w := r2) LS2.out hb)
          have LM3 := Lib.hid (Blk.next (w := r2) LM2.out hb)
          have LN3 := Lib.hid (Blk.next (w := r2) LN2.out hb)
          have E3 := Lib.hid (E2.out.trans (hb.mono E2.out.size))
          clear hb
          go_wp2_with fail
          refine hK.out _ _ (sK _ LS3.out) (fun hHeld => ?_)
          clear hK K hHeld
          try simp only [Act.put, List.getElem_toArray, List.getElem_cons_zero, List.getElem_cons_succ, List.setIfInBounds_toArray, List.set_cons_zero, List.set_cons_succ]
          refine wpAnyH_ready (rs := [11, 21]) (by kernel_rfl) (by simp) ?_
          refine AllReadyH.cons rfl (fun K hK => ?_) ?_
          · go_simp
            refine (K2.out _ gM LM3.out).mono ?_
            rintro e r4 ⟨rfl, hb⟩
            have LS4 := Lib.hid (Blk.next (w := r3) LS3.out hb)
            have LM4 := Lib.hid (Blk.next (w := r3) LM3.out hb)
            have LN4 := Lib.hid (Blk.next (w := r3) LN3.out hb)
            have E4 := Lib.hid (E3.out.trans (hb.mono E3.out.size))
            clear hb
            go_wp2_with fail
            refine hK.out _ _ (sK _ LS4.out) (fun hHeld => ?_)
            clear hK K hHeld
            try simp only [Act.put, List.getElem_toArray, List.getElem_cons_zero, List.getElem_cons_succ, List.setIfInBounds_toArray, List.set_cons_zero, List.set_cons_succ]
            refine wpAnyH_take (i := 12) (v := ?_) rfl (by kernel_rfl) (by kernel_rfl) (by kernel_rfl) (fun _ _ _ h => nomatch h.1) (Or.inl ⟨by rfl, ?_⟩) (sK _ LS4.out) ?_
            rotate_left
            · (intro wS hSw; (try dsimp only at hSw); go_simp; try with_reducible rfl)
            simp only [Act.put, List.getElem_toArray, List.getElem_cons_zero, List.getElem_cons_succ, List.setIfInBounds_toArray, List.set_cons_zero, List.set_cons_succ]
            refine wpAnyH_ready (rs := [21]) (by kernel_rfl) (by simp) ?_
            refine AllReadyH.cons rfl (fun K hK => ?_) AllReadyH.nil
            go_simp
            have LS5 : Blk ((r4.alloc (.cells #[.int .i64 s4, .int .i64 s5, .int .i64 s6, .int .i64 s7] 3))) (w.heap.size) 25 #[.int .i64 s0, .int .i64 s1, .int .i64 s2, .int .i64 s3, .int .i64 s4, .int .i64 s5, .int .i64 s6, .int .i64 s7, .slice A n c, .int .i64 s9, .int .i64 s10, .int .i64 s11, .int .i64 s12] := Blk.alloc (w := r4) LS4.out (.cells #[.int .i64 s4, .int .i64 s5, .int .i64 s6, .int .i64 s7] 3)
            have LM5 : Blk ((r4.alloc (.cells #[.int .i64 s4, .int .i64 s5, .int .i64 s6, .int .i64 s7] 3))) (gM) 3 #[.int .i64 s2, .int .i64 s3] := Blk.alloc (w := r4) LM4.out (.cells #[.int .i64 s4, .int .i64 s5, .int .i64 s6, .int .i64 s7] 3)
            have LN5 : Blk ((r4.alloc (.cells #[.int .i64 s4, .int .i64 s5, .int .i64 s6, .int .i64 s7] 3))) (gN) 3 #[.int .i64 s0, .int .i64 s1] := Blk.alloc (w := r4) LN4.out (.cells #[.int .i64 s4, .int .i64 s5, .int .i64 s6, .int .i64 s7] 3)
            have LO5 : Blk ((r4.alloc (.cells #[.int .i64 s4, .int .i64 s5, .int .i64 s6, .int .i64 s7] 3))) r4.heap.size 3 #[.int .i64 s4, .int .i64 s5, .int .i64 s6, .int .i64 s7] := Blk.new r4 _ _
            have E5 : Below w.heap.size w ((r4.alloc (.cells #[.int .i64 s4, .int .i64 s5, .int .i64 s6, .int .i64 s7] 3))) := (E4.out.alloc E4.out.size (.cells #[.int .i64 s4, .int .i64 s5, .int .i64 s6, .int .i64 s7] 3))
            obtain ⟨r5, hr5⟩ : ∃ VV, (r4.alloc (.cells #[.int .i64 s4, .int .i64 s5, .int .i64 s6, .int .i64 s7] 3)) = VV := ⟨_, rfl⟩
            obtain ⟨gO, hg5⟩ : ∃ g, r4.heap.size = g := ⟨_, rfl⟩
            try rw [hr5]
            try rw [hg5]
            simp only [hr5, hg5] at LS5 LM5 LN5 LO5 E5
            try simp only [hr5, hg5]
            clear hr5 hg5
            replace LS5 := Lib.hid LS5
            replace LM5 := Lib.hid LM5
            replace LN5 := Lib.hid LN5
            replace LO5 := Lib.hid LO5
            replace E5 := Lib.hid E5
            refine hK.out _ _ (sK _ LS5.out) (fun hHeld => ?_)
            clear hK K hHeld
            try simp only [Act.put, List.getElem_toArray, List.getElem_cons_zero, List.getElem_cons_succ, List.setIfInBounds_toArray, List.set_cons_zero, List.set_cons_succ]
            refine wpAnyH_ready (rs := [22]) (by kernel_rfl) (by simp) ?_
            refine AllReadyH.cons rfl (fun K hK => ?_) AllReadyH.nil
            go_simp
            refine (K3.out _ gO LO5.out).mono ?_
            rintro e r6 ⟨rfl, hb⟩
            have LS6 := Lib.hid (Blk.next (w := r5) LS5.out hb)
            have LM6 := Lib.hid (Blk.next (w := r5) LM5.out hb)
            have LN6 := Lib.hid (Blk.next (w := r5) LN5.out hb)
            have LO6 := Lib.hid (Blk.next (w := r5) LO5.out hb)
            have E6 := Lib.hid (E5.out.trans (hb.mono E5.out.size))
            clear hb
            go_wp2_with fail
            refine hK.out _ _ (sK _ LS6.out) (fun hHeld => ?_)
            clear hK K hHeld
            try simp only [Act.put, List.getElem_toArray, List.getElem_cons_zero, List.getElem_cons_succ, List.setIfInBounds_toArray, List.set_cons_zero, List.set_cons_succ]
            refine wpAnyH_take (i := 23) (v := ?_) rfl (by kernel_rfl) (by kernel_rfl) (by kernel_rfl) (fun _ _ _ h => nomatch h.1) (Or.inl ⟨by rfl, ?_⟩) (sK _ LS6.out) ?_
            rotate_left
            · (intro wS hSw; (try dsimp only at hSw); go_simp; try with_reducible rfl)
            simp only [Act.put, List.getElem_toArray, List.getElem_cons_zero, List.getElem_cons_succ, List.setIfInBounds_toArray, List.set_cons_zero, List.set_cons_succ]
            refine wpAnyH_take (i := 24) (v := ?_) rfl (by kernel_rfl) (by kernel_rfl) (by kernel_rfl) (fun _ _ _ h => nomatch h.1) (Or.inl ⟨by rfl, ?_⟩) (sK _ LS6.out) ?_
            rotate_left
            · (intro wS hSw; (try dsimp only at hSw); go_simp; try with_reducible rfl)
            simp only [Act.put, List.getElem_toArray, List.getElem_cons_zero, List.getElem_cons_succ, List.setIfInBounds_toArray, List.set_cons_zero, List.set_cons_succ]
            refine wpAnyH_done (by kernel_rfl) ?_ _
            exact ⟨rfl, gN, gM, gO, rfl, E6.out, LS6.out⟩
          refine AllReadyH.cons rfl (fun K hK => ?_) ?_
          · go_simp
            have LS4 : Blk ((r3.alloc (.cells #[.int .i64 s4, .int .i64 s5, .int .i64 s6, .int .i64 s7] 3))) (w.heap.size) 25 #[.int .i64 s0, .int .i64 s1, .int .i64 s2, .int .i64 s3, .int .i64 s4, .int .i64 s5, .int .i64 s6, .int .i64 s7, .slice A n c, .int .i64 s9, .int .i64 s10, .int .i64 s11, .int .i64 s12] := Blk.alloc (w := r3) LS3.out (.cells #[.int .i64 s4, .int .i64 s5, .int .i64 s6, .int .i64 s7] 3)
            have LM4 : Blk ((r3.alloc (.cells #[.int .i64 s4, .int .i64 s5, .int .i64 s6, .int .i64 s7] 3))) (gM) 3 #[.int .i64 s2, .int .i64 s3] := Blk.alloc (w := r3) LM3.out (.cells #[.int .i64 s4, .int .i64 s5, .int .i64 s6, .int .i64 s7] 3)
            have LN4 : Blk ((r3.alloc (.cells #[.int .i64 s4, .int .i64 s5, .int .i64 s6, .int .i64 s7] 3))) (gN) 3 #[.int .i64 s0, .int .i64 s1] := Blk.alloc (w := r3) LN3.out (.cells #[.int .i64 s4, .int .i64 s5, .int .i64 s6, .int .i64 s7] 3)
            have LO4 : Blk ((r3.alloc (.cells #[.int .i64 s4, .int .i64 s5, .int .i64 s6, .int .i64 s7] 3))) r3.heap.size 3 #[.int .i64 s4, .int .i64 s5, .int .i64 s6, .int .i64 s7] := Blk.new r3 _ _
            have E4 : Below w.heap.size w ((r3.alloc (.cells #[.int .i64 s4, .int .i64 s5, .int .i64 s6, .int .i64 s7] 3))) := (E3.out.alloc E3.out.size (.cells #[.int .i64 s4, .int .i64 s5, .int .i64 s6, .int .i64 s7] 3))
            obtain ⟨r4, hr4⟩ : ∃ VV, (r3.alloc (.cells #[.int .i64 s4, .int .i64 s5, .int .i64 s6, .int .i64 s7] 3)) = VV := ⟨_, rfl⟩
            obtain ⟨gO, hg4⟩ : ∃ g, r3.heap.size = g := ⟨_, rfl⟩
            try rw [hr4]
            try rw [hg4]
            simp only [hr4, hg4] at LS4 LM4 LN4 LO4 E4
            try simp only [hr4, hg4]
            clear hr4 hg4
            replace LS4 := Lib.hid LS4
            replace LM4 := Lib.hid LM4
            replace LN4 := Lib.hid LN4
            replace LO4 := Lib.hid LO4
            replace E4 := Lib.hid E4
            refine hK.out _ _ (sK _ LS4.out) (fun hHeld => ?_)
            clear hK K hHeld
            try simp only [Act.put, List.getElem_toArray, List.getElem_cons_zero, List.getElem_cons_succ, List.setIfInBounds_toArray, List.set_cons_zero, List.set_cons_succ]
            refine wpAnyH_ready (rs := [11]) (by kernel_rfl) (by simp) ?_
            refine AllReadyH.cons rfl (fun K hK => ?_) AllReadyH.nil
            go_simp
            refine (K2.out _ gM LM4.out).mono ?_
            rintro e r5 ⟨rfl, hb⟩
            have LS5 := Lib.hid (Blk.next (w := r4) LS4.out hb)
            have LM5 := Lib.hid (Blk.next (w := r4) LM4.out hb)
            have LN5 := Lib.hid (Blk.next (w := r4) LN4.out hb)
            have LO5 := Lib.hid (Blk.next (w := r4) LO4.out hb)
            have E5 := Lib.hid (E4.out.trans (hb.mono E4.out.size))
            clear hb
            go_wp2_with fail
            refine hK.out _ _ (sK _ LS5.out) (fun hHeld => ?_)
            clear hK K hHeld
            try simp only [Act.put, List.getElem_toArray, List.getElem_cons_zero, List.getElem_cons_succ, List.setIfInBounds_toArray, List.set_cons_zero, List.set_cons_succ]
            refine wpAnyH_take (i := 12) (v := ?_) rfl (by kernel_rfl) (by kernel_rfl) (by kernel_rfl) (fun _ _ _ h => nomatch h.1) (Or.inl ⟨by rfl, ?_⟩) (sK _ LS5.out) ?_
            rotate_left
            · (intro wS hSw; (try dsimp only at hSw); go_simp; try with_reducible rfl)
            simp only [Act.put, List.getElem_toArray, List.getElem_cons_zero, List.getElem_cons_succ, List.setIfInBounds_toArray, List.set_cons_zero, List.set_cons_succ]
            refine wpAnyH_ready (rs := [22]) (by kernel_rfl) (by simp) ?_
            refine AllReadyH.cons rfl (fun K hK => ?_) AllReadyH.nil
            go_simp
            refine (K3.out _ gO LO5.out).mono ?_
            rintro e r6 ⟨rfl, hb⟩
            have LS6 := Lib.hid (Blk.next (w := r5) LS5.out hb)
            have LM6 := Lib.hid (Blk.next (w := r5) LM5.out hb)
            have LN6 := Lib.hid (Blk.next (w := r5) LN5.out hb)
            have LO6 := Lib.hid (Blk.next (w := r5) LO5.out hb)
            have E6 := Lib.hid (E5.out.trans (hb.mono E5.out.size))
            clear hb
            go_wp2_with fail
            refine hK.out _ _ (sK _ LS6.out) (fun hHeld => ?_)
            clear hK K hHeld
            try simp only [Act.put, List.getElem_toArray, List.getElem_cons_zero, List.getElem_cons_succ, List.setIfInBounds_toArray, List.set_cons_zero, List.set_cons_succ]
            refine wpAnyH_take (i := 23) (v := ?_) rfl (by kernel_rfl) (by kernel_rfl) (by kernel_rfl) (fun _ _ _ h => nomatch h.1) (Or.inl ⟨by rfl, ?_⟩) (sK _ LS6.out) ?_
            rotate_left
            · (intro wS hSw; (try dsimp only at hSw); go_simp; try with_reducible rfl)
            simp only [Act.put, List.getElem_toArray, List.getElem_cons_zero, List.getElem_cons_succ, List.setIfInBounds_toArray, List.set_cons_zero, List.set_cons_succ]
            refine wpAnyH_take (i := 24) (v := ?_) rfl (by kernel_rfl) (by kernel_rfl) (by kernel_rfl) (fun _ _ _ h => nomatch h.1) (Or.inl ⟨by rfl, ?_⟩) (sK _ LS6.out) ?_
            rotate_left
            · (intro wS hSw; (try dsimp only at hSw); go_simp; try with_reducible rfl)
            simp only [Act.put, List.getElem_toArray, List.getElem_cons_zero, List.getElem_cons_succ, List.setIfInBounds_toArray, List.set_cons_zero, List.set_cons_succ]
            refine wpAnyH_done (by kernel_rfl) ?_ _
            exact ⟨rfl, gN, gM, gO, rfl, E6.out, LS6.out⟩
          exact AllReadyH.nil
        refine AllReadyH.cons rfl (fun K hK => ?_) ?_
        · go_simp
          have LS3 : Blk ((r2.alloc (.cells #[.int .i64 s4, .int .i64 s5, .int .i64 s6, .int .i64 s7] 3))) (w.heap.size) 25 #[.int .i64 s0, .int .i64 s1, .int .i64 s2, .int .i64 s3, .int .i64 s4, .int .i64 s5, .int .i64 s6, .int .i64 s7, .slice A n c, .int .i64 s9, .int .i64 s10, .int .i64 s11, .int .i64 s12] := Blk.alloc (w := r2) LS2.out (.cells #[.int .i64 s4, .int .i64 s5, .int .i64 s6, .int .i64 s7] 3)
          have LM3 : Blk ((r2.alloc (.cells #[.int .i64 s4, .int .i64 s5, .int .i64 s6, .int .i64 s7] 3))) (gM) 3 #[.int .i64 s2, .int .i64 s3] := Blk.alloc (w := r2) LM2.out (.cells #[.int .i64 s4, .int .i64 s5, .int .i64 s6, .int .i64 s7] 3)
          have LN3 : Blk ((r2.alloc (.cells #[.int .i64 s4, .int .i64 s5, .int .i64 s6, .int .i64 s7] 3))) (gN) 3 #[.int .i64 s0, .int .i64 s1] := Blk.alloc (w := r2) LN2.out (.cells #[.int .i64 s4, .int .i64 s5, .int .i64 s6, .int .i64 s7] 3)
          have LO3 : Blk ((r2.alloc (.cells #[.int .i64 s4, .int .i64 s5, .int .i64 s6, .int .i64 s7] 3))) r2.heap.size 3 #[.int .i64 s4, .int .i64 s5, .int .i64 s6, .int .i64 s7] := Blk.new r2 _ _
          have E3 : Below w.heap.size w ((r2.alloc (.cells #[.int .i64 s4, .int .i64 s5, .int .i64 s6, .int .i64 s7] 3))) := (E2.out.alloc E2.out.size (.cells #[.int .i64 s4, .int .i64 s5, .int .i64 s6, .int .i64 s7] 3))
          obtain ⟨r3, hr3⟩ : ∃ VV, (r2.alloc (.cells #[.int .i64 s4, .int .i64 s5, .int .i64 s6, .int .i64 s7] 3)) = VV := ⟨_, rfl⟩
          obtain ⟨gO, hg3⟩ : ∃ g, r2.heap.size = g := ⟨_, rfl⟩
          try rw [hr3]
          try rw [hg3]
          simp only [hr3, hg3] at LS3 LM3 LN3 LO3 E3
          try simp only [hr3, hg3]
          clear hr3 hg3
          replace LS3 := Lib.hid LS3
          replace LM3 := Lib.hid LM3
          replace LN3 := Lib.hid LN3
          replace LO3 := Lib.hid LO3
          replace E3 := Lib.hid E3
          refine hK.out _ _ (sK _ LS3.out) (fun hHeld => ?_)
          clear hK K hHeld
          try simp only [Act.put, List.getElem_toArray, List.getElem_cons_zero, List.getElem_cons_succ, List.setIfInBounds_toArray, List.set_cons_zero, List.set_cons_succ]
          refine wpAnyH_ready (rs := [5]) (by kernel_rfl) (by simp) ?_
          refine AllReadyH.cons rfl (fun K hK => ?_) AllReadyH.nil
          go_simp
          refine (K1.out _ gN LN3.out).mono ?_
          rintro e r4 ⟨rfl, hb⟩
          have LS4 := Lib.hid (Blk.next (w := r3) LS3.out hb)
          have LM4 := Lib.hid (Blk.next (w := r3) LM3.out hb)
          have LN4 := Lib.hid (Blk.next (w := r3) LN3.out hb)
          have LO4 := Lib.hid (Blk.next (w := r3) LO3.out hb)
          have E4 := Lib.hid (E3.out.trans (hb.mono E3.out.size))
          clear hb
          go_wp2_with fail
          refine hK.out _ _ (sK _ LS4.out) (fun hHeld => ?_)
          clear hK K hHeld
          try simp only [Act.put, List.getElem_toArray, List.getElem_cons_zero, List.getElem_cons_succ, List.setIfInBounds_toArray, List.set_cons_zero, List.set_cons_succ]
          refine wpAnyH_ready (rs := [11]) (by kernel_rfl) (by simp) ?_
          refine AllReadyH.cons rfl (fun K hK => ?_) AllReadyH.nil
          go_simp
          refine (K2.out _ gM LM4.out).mono ?_
          rintro e r5 ⟨rfl, hb⟩
          have LS5 := Lib.hid (Blk.next (w := r4) LS4.out hb)
          have LM5 := Lib.hid (Blk.next (w := r4) LM4.out hb)
          have LN5 := Lib.hid (Blk.next (w := r4) LN4.out hb)
          have LO5 := Lib.hid (Blk.next (w := r4) LO4.out hb)
          have E5 := Lib.hid (E4.out.trans (hb.mono E4.out.size))
          clear hb
          go_wp2_with fail
          refine hK.out _ _ (sK _ LS5.out) (fun hHeld => ?_)
          clear hK K hHeld
          try simp only [Act.put, List.getElem_toArray, List.getElem_cons_zero, List.getElem_cons_succ, List.setIfInBounds_toArray, List.set_cons_zero, List.set_cons_succ]
          refine wpAnyH_take (i := 12) (v := ?_) rfl (by kernel_rfl) (by kernel_rfl) (by kernel_rfl) (fun _ _ _ h => nomatch h.1) (Or.inl ⟨by rfl, ?_⟩) (sK _ LS5.out) ?_
          rotate_left
          · (intro wS hSw; (try dsimp only at hSw); go_simp; try with_reducible rfl)
          simp only [Act.put, List.getElem_toArray, List.getElem_cons_zero, List.getElem_cons_succ, List.setIfInBounds_toArray, List.set_cons_zero, List.set_cons_succ]
          refine wpAnyH_ready (rs := [22]) (by kernel_rfl) (by simp) ?_
          refine AllReadyH.cons rfl (fun K hK => ?_) AllReadyH.nil
          go_simp
          refine (K3.out _ gO LO5.out).mono ?_
          rintro e r6 ⟨rfl, hb⟩
          have LS6 := Lib.hid (Blk.next (w := r5) LS5.out hb)
          have LM6 := Lib.hid (Blk.next (w := r5) LM5.out hb)
          have LN6 := Lib.hid (Blk.next (w := r5) LN5.out hb)
          have LO6 := Lib.hid (Blk.next (w := r5) LO5.out hb)
          have E6 := Lib.hid (E5.out.trans (hb.mono E5.out.size))
          clear hb
          go_wp2_with fail
          refine hK.out _ _ (sK _ LS6.out) (fun hHeld => ?_)
          clear hK K hHeld
          try simp only [Act.put, List.getElem_toArray, List.getElem_cons_zero, List.getElem_cons_succ, List.setIfInBounds_toArray, List.set_cons_zero, List.set_cons_succ]
          refine wpAnyH_take (i := 23) (v := ?_) rfl (by kernel_rfl) (by kernel_rfl) (by kernel_rfl) (fun _ _ _ h => nomatch h.1) (Or.inl ⟨by rfl, ?_⟩) (sK _ LS6.out) ?_
          rotate_left
          · (intro wS hSw; (try dsimp only at hSw); go_simp; try with_reducible rfl)
          simp only [Act.put, List.getElem_toArray, List.getElem_cons_zero, List.getElem_cons_succ, List.setIfInBounds_toArray, List.set_cons_zero, List.set_cons_succ]
          refine wpAnyH_take (i := 24) (v := ?_) rfl (by kernel_rfl) (by kernel_rfl) (by kernel_rfl) (fun _ _ _ h => nomatch h.1) (Or.inl ⟨by rfl, ?_⟩) (sK _ LS6.out) ?_
          rotate_left
          · (intro wS hSw; (try dsimp only at hSw); go_simp; try with_reducible rfl)
          simp only [Act.put, List.getElem_toArray, List.getElem_cons_zero, List.getElem_cons_succ, List.setIfInBounds_toArray, List.set_cons_zero, List.set_cons_succ]
          refine wpAnyH_done (by kernel_rfl) ?_ _
          exact ⟨rfl, gN, gM, gO, rfl, E6.out, LS6.out⟩
        exact AllReadyH.nil
      refine AllReadyH.cons rfl (fun K hK => ?_) ?_
      · go_simp
        have LS2 : Blk ((r1.alloc (.cells #[.int .i64 s4, .int .i64 s5, .int .i64 s6, .int .i64 s7] 3))) (w.heap.size) 25 #[.int .i64 s0, .int .i64 s1, .int .i64 s2, .int .i64 s3, .int .i64 s4, .int .i64 s5, .int .i64 s6, .int .i64 s7, .slice A n c, .int .i64 s9, .int .i64 s10, .int .i64 s11, .int .i64 s12] := Blk.alloc (w := r1) LS1.out (.cells #[.int .i64 s4, .int .i64 s5, .int .i64 s6, .int .i64 s7] 3)
        have LM2 : Blk ((r1.alloc (.cells #[.int .i64 s4, .int .i64 s5, .int .i64 s6, .int .i64 s7] 3))) (gM) 3 #[.int .i64 s2, .int .i64 s3] := Blk.alloc (w := r1) LM1.out (.cells #[.int .i64 s4, .int .i64 s5, .int .i64 s6, .int .i64 s7] 3)
        have LO2 : Blk ((r1.alloc (.cells #[.int .i64 s4, .int .i64 s5, .int .i64 s6, .int .i64 s7] 3))) r1.heap.size 3 #[.int .i64 s4, .int .i64 s5, .int .i64 s6, .int .i64 s7] := Blk.new r1 _ _
        have E2 : Below w.heap.size w ((r1.alloc (.cells #[.int .i64 s4, .int .i64 s5, .int .i64 s6, .int .i64 s7] 3))) := (E1.out.alloc E1.out.size (.cells #[.int .i64 s4, .int .i64 s5, .int .i64 s6, .int .i64 s7] 3))
        obtain ⟨r2, hr2⟩ : ∃ VV, (r1.alloc (.cells #[.int .i64 s4, .int .i64 s5, .int .i64 s6, .int .i64 s7] 3)) = VV := ⟨_, rfl⟩
        obtain ⟨gO, hg2⟩ : ∃ g, r1.heap.size = g := ⟨_, rfl⟩
        try rw [hr2]
        try rw [hg2]
        simp only [hr2, hg2] at LS2 LM2 LO2 E2
        try simp only [hr2, hg2]
        clear hr2 hg2
        replace LS2 := Lib.hid LS2
        replace LM2 := Lib.hid LM2
        replace LO2 := Lib.hid LO2
        replace E2 := Lib.hid E2
        refine hK.out _ _ (sK _ LS2.out) (fun hHeld => ?_)
        clear hK K hHeld
        try simp only [Act.put, List.getElem_toArray, List.getElem_cons_zero, List.getElem_cons_succ, List.setIfInBounds_toArray, List.set_cons_zero, List.set_cons_succ]
        refine wpAnyH_ready (rs := [4]) (by kernel_rfl) (by simp) ?_
        refine AllReadyH.cons rfl (fun K hK => ?_) AllReadyH.nil
        go_simp
        have LS3 : Blk ((r2.alloc (.cells #[.int .i64 s0, .int .i64 s1] 3))) (w.heap.size) 25 #[.int .i64 s0, .int .i64 s1, .int .i64 s2, .int .i64 s3, .int .i64 s4, .int .i64 s5, .int .i64 s6, .int .i64 s7, .slice A n c, .int .i64 s9, .int .i64 s10, .int .i64 s11, .int .i64 s12] := Blk.alloc (w := r2) LS2.out (.cells #[.int .i64 s0, .int .i64 s1] 3)
        have LM3 : Blk ((r2.alloc (.cells #[.int .i64 s0, .int .i64 s1] 3))) (gM) 3 #[.int .i64 s2, .int .i64 s3] := Blk.alloc (w := r2) LM2.out (.cells #[.int .i64 s0, .int .i64 s1] 3)
        have LO3 : Blk ((r2.alloc (.cells #[.int .i64 s0, .int .i64 s1] 3))) (gO) 3 #[.int .i64 s4, .int .i64 s5, .int .i64 s6, .int .i64 s7] := Blk.alloc (w := r2) LO2.out (.cells #[.int .i64 s0, .int .i64 s1] 3)
        have LN3 : Blk ((r2.alloc (.cells #[.int .i64 s0, .int .i64 s1] 3))) r2.heap.size 3 #[.int .i64 s0, .int .i64 s1] := Blk.new r2 _ _
        have E3 : Below w.heap.size w ((r2.alloc (.cells #[.int .i64 s0, .int .i64 s1] 3))) := (E2.out.alloc E2.out.size (.cells #[.int .i64 s0, .int .i64 s1] 3))
        obtain ⟨r3, hr3⟩ : ∃ VV, (r2.alloc (.cells #[.int .i64 s0, .int .i64 s1] 3)) = VV := ⟨_, rfl⟩
        obtain ⟨gN, hg3⟩ : ∃ g, r2.heap.size = g := ⟨_, rfl⟩
        try rw [hr3]
        try rw [hg3]
        simp only [hr3, hg3] at LS3 LM3 LO3 LN3 E3
        try simp only [hr3, hg3]
        clear hr3 hg3
        replace LS3 := Lib.hid LS3
        replace LM3 := Lib.hid LM3
        replace LO3 := Lib.hid LO3
        replace LN3 := Lib.hid LN3
        replace E3 := Lib.hid E3
        refine hK.out _ _ (sK _ LS3.out) (fun hHeld => ?_)
        clear hK K hHeld
        try simp only [Act.put, List.getElem_toArray, List.getElem_cons_zero, List.getElem_cons_succ, List.setIfInBounds_toArray, List.set_cons_zero, List.set_cons_succ]
        refine wpAnyH_ready (rs := [5]) (by kernel_rfl) (by simp) ?_
        refine AllReadyH.cons rfl (fun K hK => ?_) AllReadyH.nil
        go_simp
        refine (K1.out _ gN LN3.out).mono ?_
        rintro e r4 ⟨rfl, hb⟩
        have LS4 := Lib.hid (Blk.next (w := r3) LS3.out hb)
        have LM4 := Lib.hid (Blk.next (w := r3) LM3.out hb)
        have LO4 := Lib.hid (Blk.next (w := r3) LO3.out hb)
        have LN4 := Lib.hid (Blk.next (w := r3) LN3.out hb)
        have E4 := Lib.hid (E3.out.trans (hb.mono E3.out.size))
        clear hb
        go_wp2_with fail
        refine hK.out _ _ (sK _ LS4.out) (fun hHeld => ?_)
        clear hK K hHeld
        try simp only [Act.put, List.getElem_toArray, List.getElem_cons_zero, List.getElem_cons_succ, List.setIfInBounds_toArray, List.set_cons_zero, List.set_cons_succ]
        refine wpAnyH_ready (rs := [11]) (by kernel_rfl) (by simp) ?_
        refine AllReadyH.cons rfl (fun K hK => ?_) AllReadyH.nil
        go_simp
        refine (K2.out _ gM LM4.out).mono ?_
        rintro e r5 ⟨rfl, hb⟩
        have LS5 := Lib.hid (Blk.next (w := r4) LS4.out hb)
        have LM5 := Lib.hid (Blk.next (w := r4) LM4.out hb)
        have LO5 := Lib.hid (Blk.next (w := r4) LO4.out hb)
        have LN5 := Lib.hid (Blk.next (w := r4) LN4.out hb)
        have E5 := Lib.hid (E4.out.trans (hb.mono E4.out.size))
        clear hb
        go_wp2_with fail
        refine hK.out _ _ (sK _ LS5.out) (fun hHeld => ?_)
        clear hK K hHeld
        try simp only [Act.put, List.getElem_toArray, List.getElem_cons_zero, List.getElem_cons_succ, List.setIfInBounds_toArray, List.set_cons_zero, List.set_cons_succ]
        refine wpAnyH_take (i := 12) (v := ?_) rfl (by kernel_rfl) (by kernel_rfl) (by kernel_rfl) (fun _ _ _ h => nomatch h.1) (Or.inl ⟨by rfl, ?_⟩) (sK _ LS5.out) ?_
        rotate_left
        · (intro wS hSw; (try dsimp only at hSw); go_simp; try with_reducible rfl)
        simp only [Act.put, List.getElem_toArray, List.getElem_cons_zero, List.getElem_cons_succ, List.setIfInBounds_toArray, List.set_cons_zero, List.set_cons_succ]
        refine wpAnyH_ready (rs := [22]) (by kernel_rfl) (by simp) ?_
        refine AllReadyH.cons rfl (fun K hK => ?_) AllReadyH.nil
        go_simp
        refine (K3.out _ gO LO5.out).mono ?_
        rintro e r6 ⟨rfl, hb⟩
        have LS6 := Lib.hid (Blk.next (w := r5) LS5.out hb)
        have LM6 := Lib.hid (Blk.next (w := r5) LM5.out hb)
        have LO6 := Lib.hid (Blk.next (w := r5) LO5.out hb)
        have LN6 := Lib.hid (Blk.next (w := r5) LN5.out hb)
        have E6 := Lib.hid (E5.out.trans (hb.mono E5.out.size))
        clear hb
        go_wp2_with fail
        refine hK.out _ _ (sK _ LS6.out) (fun hHeld => ?_)
        clear hK K hHeld
        try simp only [Act.put, List.getElem_toArray, List.getElem_cons_zero, List.getElem_cons_succ, List.setIfInBounds_toArray, List.set_cons_zero, List.set_cons_succ]
        refine wpAnyH_take (i := 23) (v := ?_) rfl (by kernel_rfl) (by kernel_rfl) (by kernel_rfl) (fun _ _ _ h => nomatch h.1) (Or.inl ⟨by rfl, ?_⟩) (sK _ LS6.out) ?_
        rotate_left
        · (intro wS hSw; (try dsimp only at hSw); go_simp; try with_reducible rfl)
        simp only [Act.put, List.getElem_toArray, List.getElem_cons_zero, List.getElem_cons_succ, List.setIfInBounds_toArray, List.set_cons_zero, List.set_cons_succ]
        refine wpAnyH_take (i := 24) (v := ?_) rfl (by kernel_rfl) (by kernel_rfl) (by kernel_rfl) (fun _ _ _ h => nomatch h.1) (Or.inl ⟨by rfl, ?_⟩) (sK _ LS6.out) ?_
        rotate_left
        · (intro wS hSw; (try dsimp only at hSw); go_simp; try with_reducible rfl)
        simp only [Act.put, List.getElem_toArray, List.getElem_cons_zero, List.getElem_cons_succ, List.setIfInBounds_toArray, List.set_cons_zero, List.set_cons_succ]
        refine wpAnyH_done (by kernel_rfl) ?_ _
        exact ⟨rfl, gN, gM, gO, rfl, E6.out, LS6.out⟩
      exact AllReadyH.nil
    refine AllReadyH.cons rfl (fun K hK => ?_) ?_
    · go_simp
      have LS1 : Blk ((V.alloc (.cells #[.int .i64 s4, .int .i64 s5, .int .i64 s6, .int .i64 s7] 3)).drew) (w.heap.size) 25 #[.int .i64 s0, .int .i64 s1, .int .i64 s2, .int .i64 s3, .int .i64 s4, .int .i64 s5, .int .i64 s6, .int .i64 s7, .slice A n c, .int .i64 s9, .int .i64 s10, .int .i64 s11, .int .i64 s12] := Blk.alloc (w := V) HS.out (.cells #[.int .i64 s4, .int .i64 s5, .int .i64 s6, .int .i64 s7] 3)
      have LO1 : Blk ((V.alloc (.cells #[.int .i64 s4, .int .i64 s5, .int .i64 s6, .int .i64 s7] 3)).drew) V.heap.size 3 #[.int .i64 s4, .int .i64 s5, .int .i64 s6, .int .i64 s7] := Blk.new V _ _
      have E1 : Below w.heap.size w ((V.alloc (.cells #[.int .i64 s4, .int .i64 s5, .int .i64 s6, .int .i64 s7] 3)).drew) := (EE.out.alloc EE.out.size (.cells #[.int .i64 s4, .int .i64 s5, .int .i64 s6, .int .i64 s7] 3)).drew
      obtain ⟨r1, hr1⟩ : ∃ VV, (V.alloc (.cells #[.int .i64 s4, .int .i64 s5, .int .i64 s6, .int .i64 s7] 3)).drew = VV := ⟨_, rfl⟩
      obtain ⟨gO, hg1⟩ : ∃ g, V.heap.size = g := ⟨_, rfl⟩
      try rw [hr1]
      try rw [hg1]
      simp only [hr1, hg1] at LS1 LO1 E1
      try simp only [hr1, hg1]
      clear hr1 hg1
      replace LS1 := Lib.hid LS1
      replace LO1 := Lib.hid LO1
      replace E1 := Lib.hid E1
      refine hK.out _ _ (sK _ LS1.out) (fun hHeld => ?_)
      clear hK K hHeld
      try simp only [Act.put, List.getElem_toArray, List.getElem_cons_zero, List.getElem_cons_succ, List.setIfInBounds_toArray, List.set_cons_zero, List.set_cons_succ]
      refine wpAnyH_ready (rs := [4, 10]) (by kernel_rfl) (by simp) ?_
      refine AllReadyH.cons rfl (fun K hK => ?_) ?_
      · go_simp
        have LS2 : Blk ((r1.alloc (.cells #[.int .i64 s0, .int .i64 s1] 3))) (w.heap.size) 25 #[.int .i64 s0, .int .i64 s1, .int .i64 s2, .int .i64 s3, .int .i64 s4, .int .i64 s5, .int .i64 s6, .int .i64 s7, .slice A n c, .int .i64 s9, .int .i64 s10, .int .i64 s11, .int .i64 s12] := Blk.alloc (w := r1) LS1.out (.cells #[.int .i64 s0, .int .i64 s1] 3)
        have LO2 : Blk ((r1.alloc (.cells #[.int .i64 s0, .int .i64 s1] 3))) (gO) 3 #[.int .i64 s4, .int .i64 s5, .int .i64 s6, .int .i64 s7] := Blk.alloc (w := r1) LO1.out (.cells #[.int .i64 s0, .int .i64 s1] 3)
        have LN2 : Blk ((r1.alloc (.cells #[.int .i64 s0, .int .i64 s1] 3))) r1.heap.size 3 #[.int .i64 s0, .int .i64 s1] := Blk.new r1 _ _
        have E2 : Below w.heap.size w ((r1.alloc (.cells #[.int .i64 s0, .int .i64 s1] 3))) := (E1.out.alloc E1.out.size (.cells #[.int .i64 s0, .int .i64 s1] 3))
        obtain ⟨r2, hr2⟩ : ∃ VV, (r1.alloc (.cells #[.int .i64 s0, .int .i64 s1] 3)) = VV := ⟨_, rfl⟩
        obtain ⟨gN, hg2⟩ : ∃ g, r1.heap.size = g := ⟨_, rfl⟩
        try rw [hr2]
        try rw [hg2]
        simp only [hr2, hg2] at LS2 LO2 LN2 E2
        try simp only [hr2, hg2]
        clear hr2 hg2
        replace LS2 := Lib.hid LS2
        replace LO2 := Lib.hid LO2
        replace LN2 := Lib.hid LN2
        replace E2 := Lib.hid E2
        refine hK.out _ _ (sK _ LS2.out) (fun hHeld => ?_)
        clear hK K hHeld
        try simp only [Act.put, List.getElem_toArray, List.getElem_cons_zero, List.getElem_cons_succ, List.setIfInBounds_toArray, List.set_cons_zero, List.set_cons_succ]
        refine wpAnyH_ready (rs := [5, 10]) (by kernel_rfl) (by simp) ?_
        refine AllReadyH.cons rfl (fun K hK => ?_) ?_
        · go_simp
          refine (K1.out _ gN LN2.out).mono ?_
          rintro e r3 ⟨rfl, hb⟩
          have LS3 := Lib.hid (Blk.next (w := r2) LS2.out hb)
          have LO3 := Lib.hid (Blk.next (w := r2) LO2.out hb)
          have LN3 := Lib.hid (Blk.next (w := r2) LN2.out hb)
          have E3 := Lib.hid (E2.out.trans (hb.mono E2.out.size))
          clear hb
          go_wp2_with fail
          refine hK.out _ _ (sK _ LS3.out) (fun hHeld => ?_)
          clear hK K hHeld
          try simp only [Act.put, List.getElem_toArray, List.getElem_cons_zero, List.getElem_cons_succ, List.setIfInBounds_toArray, List.set_cons_zero, List.set_cons_succ]
          refine wpAnyH_ready (rs := [10]) (by kernel_rfl) (by simp) ?_
          refine AllReadyH.cons rfl (fun K hK => ?_) AllReadyH.nil
          go_simp
          have LS4 : Blk ((r3.alloc (.cells #[.int .i64 s2, .int .i64 s3] 3))) (w.heap.size) 25 #[.int .i64 s0, .int .i64 s1, .int .i64 s2, .int .i64 s3, .int .i64 s4, .int .i64 s5, .int .i64 s6, .int .i64 s7, .slice A n c, .int .i64 s9, .int .i64 s10, .int .i64 s11, .int .i64 s12] := Blk.alloc (w := r3) LS3.out (.cells #[.int .i64 s2, .int .i64 s3] 3)
          have LO4 : Blk ((r3.alloc (.cells #[.int .i64 s2, .int .i64 s3] 3))) (gO) 3 #[.int .i64 s4, .int .i64 s5, .int .i64 s6, .int .i64 s7] := Blk.alloc (w := r3) LO3.out (.cells #[.int .i64 s2, .int .i64 s3] 3)
          have LN4 : Blk ((r3.alloc (.cells #[.int .i64 s2, .int .i64 s3] 3))) (gN) 3 #[.int .i64 s0, .int .i64 s1] := Blk.alloc (w := r3) LN3.out (.cells #[.int .i64 s2, .int .i64 s3] 3)
          have LM4 : Blk ((r3.alloc (.cells #[.int .i64 s2, .int .i64 s3] 3))) r3.heap.size 3 #[.int .i64 s2, .int .i64 s3] := Blk.new r3 _ _
          have E4 : Below w.heap.size w ((r3.alloc (.cells #[.int .i64 s2, .int .i64 s3] 3))) := (E3.out.alloc E3.out.size (.cells #[.int .i64 s2, .int .i64 s3] 3))
          obtain ⟨r4, hr4⟩ : ∃ VV, (r3.alloc (.cells #[.int .i64 s2, .int .i64 s3] 3)) = VV := ⟨_, rfl⟩
          obtain ⟨gM, hg4⟩ : ∃ g, r3.heap.size = g := ⟨_, rfl⟩
          try rw [hr4]
          try rw [hg4]
          simp only [hr4, hg4] at LS4 LO4 LN4 LM4 E4
          try simp only [hr4, hg4]
          clear hr4 hg4
          replace LS4 := Lib.hid LS4
          replace LO4 := Lib.hid LO4
          replace LN4 := Lib.hid LN4
          replace LM4 := Lib.hid LM4
          replace E4 := Lib.hid E4
          refine hK.out _ _ (sK _ LS4.out) (fun hHeld => ?_)
          clear hK K hHeld
          try simp only [Act.put, List.getElem_toArray, List.getElem_cons_zero, List.getElem_cons_succ, List.setIfInBounds_toArray, List.set_cons_zero, List.set_cons_succ]
          refine wpAnyH_ready (rs := [11]) (by kernel_rfl) (by simp) ?_
          refine AllReadyH.cons rfl (fun K hK => ?_) AllReadyH.nil
          go_simp
          refine (K2.out _ gM LM4.out).mono ?_
          rintro e r5 ⟨rfl, hb⟩
          have LS5 := Lib.hid (Blk.next (w := r4) LS4.out hb)
          have LO5 := Lib.hid (Blk.next (w := r4) LO4.out hb)
          have LN5 := Lib.hid (Blk.next (w := r4) LN4.out hb)
          have LM5 := Lib.hid (Blk.next (w := r4) LM4.out hb)
          have E5 := Lib.hid (E4.out.trans (hb.mono E4.out.size))
          clear hb
          go_wp2_with fail
          refine hK.out _ _ (sK _ LS5.out) (fun hHeld => ?_)
          clear hK K hHeld
          try simp only [Act.put, List.getElem_toArray, List.getElem_cons_zero, List.getElem_cons_succ, List.setIfInBounds_toArray, List.set_cons_zero, List.set_cons_succ]
          refine wpAnyH_take (i := 12) (v := ?_) rfl (by kernel_rfl) (by kernel_rfl) (by kernel_rfl) (fun _ _ _ h => nomatch h.1) (Or.inl ⟨by rfl, ?_⟩) (sK _ LS5.out) ?_
          rotate_left
          · (intro wS hSw; (try dsimp only at hSw); go_simp; try with_reducible rfl)
          simp only [Act.put, List.getElem_toArray, List.getElem_cons_zero, List.getElem_cons_succ, List.setIfInBounds_toArray, List.set_cons_zero, List.set_cons_succ]
          refine wpAnyH_ready (rs := [22]) (by kernel_rfl) (by simp) ?_
          refine AllReadyH.cons rfl (fun K hK => ?_) AllReadyH.nil
          go_simp
          refine (K3.out _ gO LO5.out).mono ?_
          rintro e r6 ⟨rfl, hb⟩
          have LS6 := Lib.hid (Blk.next (w := r5) LS5.out hb)
          have LO6 := Lib.hid (Blk.next (w := r5) LO5.out hb)
          have LN6 := Lib.hid (Blk.next (w := r5) LN5.out hb)
          have LM6 := Lib.hid (Blk.next (w := r5) LM5.out hb)
          have E6 := Lib.hid (E5.out.trans (hb.mono E5.out.size))
          clear hb
          go_wp2_with fail
          refine hK.out _ _ (sK _ LS6.out) (fun hHeld => ?_)
          clear hK K hHeld
          try simp only [Act.put, List.getElem_toArray, List.getElem_cons_zero, List.getElem_cons_succ, List.setIfInBounds_toArray, List.set_cons_zero, List.set_cons_succ]
          refine wpAnyH_take (i := 23) (v := ?_) rfl (by kernel_rfl) (by kernel_rfl) (by kernel_rfl) (fun _ _ _ h => nomatch h.1) (Or.inl ⟨by rfl, ?_⟩) (sK _ LS6.out) ?_
          rotate_left
          · (intro wS hSw; (try dsimp only at hSw); go_simp; try with_reducible rfl)
          simp only [Act.put, List.getElem_toArray, List.getElem_cons_zero, List.getElem_cons_succ, List.setIfInBounds_toArray, List.set_cons_zero, List.set_cons_succ]
          refine wpAnyH_take (i := 24) (v := ?_) rfl (by kernel_rfl) (by kernel_rfl) (by kernel_rfl) (fun _ _ _ h => nomatch h.1) (Or.inl ⟨by rfl, ?_⟩) (sK _ LS6.out) ?_
          rotate_left
          · (intro wS hSw; (try dsimp only at hSw); go_simp; try with_reducible rfl)
          simp only [Act.put, List.getElem_toArray, List.getElem_cons_zero, List.getElem_cons_succ, List.setIfInBounds_toArray, List.set_cons_zero, List.set_cons_succ]
          refine wpAnyH_done (by kernel_rfl) ?_ _
          exact ⟨rfl, gN, gM, gO, rfl, E6.out, LS6.out⟩
        refine AllReadyH.cons rfl (fun K hK => ?_) ?_
        · go_simp
          have LS3 : Blk ((r2.alloc (.cells #[.int .i64 s2, .int .i64 s3] 3))) (w.heap.size) 25 #[.int .i64 s0, .int .i64 s1, .int .i64 s2, .int .i64 s3, .int .i64 s4, .int .i64 s5, .int .i64 s6, .int .i64 s7, .slice A n c, .int .i64 s9, .int .i64 s10, .int .i64 s11, .int .i64 s12] := Blk.alloc (w := r2) LS2.out (.cells #[.int .i64 s2, .int .i64 s3] 3)
          have LO3 : Blk ((r2.alloc (.cells #[.int .i64 s2, .int .i64 s3] 3))) (gO) 3 #[.int .i64 s4, .int .i64 s5, .int .i64 s6, .int .i64 s7] := Blk.alloc (w := r2) LO2.out (.cells #[.int .i64 s2, .int .i64 s3] 3)
          have LN3 : Blk ((r2.alloc (.cells #[.int .i64 s2, .int .i64 s3] 3))) (gN) 3 #[.int .i64 s0, .int .i64 s1] := Blk.alloc (w := r2) LN2.out (.cells #[.int .i64 s2, .int .i64 s3] 3)
          have LM3 : Blk ((r2.alloc (.cells #[.int .i64 s2, .int .i64 s3] 3))) r2.heap.size 3 #[.int .i64 s2, .int .i64 s3] := Blk.new r2 _ _
          have E3 : Below w.heap.size w ((r2.alloc (.cells #[.int .i64 s2, .int .i64 s3] 3))) := (E2.out.alloc E2.out.size (.cells #[.int .i64 s2, .int .i64 s3] 3))
          obtain ⟨r3, hr3⟩ : ∃ VV, (r2.alloc (.cells #[.int .i64 s2, .int .i64 s3] 3)) = VV := ⟨_, rfl⟩
          obtain ⟨gM, hg3⟩ : ∃ g, r2.heap.size = g := ⟨_, rfl⟩
          try rw [hr3]
          try rw [hg3]
          simp only [hr3, hg3] at LS3 LO3 LN3 LM3 E3
          try simp only [hr3, hg3]
          clear hr3 hg3
          replace LS3 := Lib.hid LS3
          replace LO3 := Lib.hid LO3
          replace LN3 := Lib.hid LN3
          replace LM3 := Lib.hid LM3
          replace E3 := Lib.hid E3
          refine hK.out _ _ (sK _ LS3.out) (fun hHeld => ?_)
          clear hK K hHeld
          try simp only [Act.put, List.getElem_toArray, List.getElem_cons_zero, List.getElem_cons_succ, List.setIfInBounds_toArray, List.set_cons_zero, List.set_cons_succ]
          refine wpAnyH_ready (rs := [5]) (by kernel_rfl) (by simp) ?_
          refine AllReadyH.cons rfl (fun K hK => ?_) AllReadyH.nil
          go_simp
          refine (K1.out _ gN LN3.out).mono ?_
          rintro e r4 ⟨rfl, hb⟩
          have LS4 := Lib.hid (Blk.next (w := r3) LS3.out hb)
          have LO4 := Lib.hid (Blk.next (w := r3) LO3.out hb)
          have LN4 := Lib.hid (Blk.next (w := r3) LN3.out hb)
          have LM4 := Lib.hid (Blk.next (w := r3) LM3.out hb)
          have E4 := Lib.hid (E3.out.trans (hb.mono E3.out.size))
          clear hb
          go_wp2_with fail
          refine hK.out _ _ (sK _ LS4.out) (fun hHeld => ?_)
          clear hK K hHeld
          try simp only [Act.put, List.getElem_toArray, List.getElem_cons_zero, List.getElem_cons_succ, List.setIfInBounds_toArray, List.set_cons_zero, List.set_cons_succ]
          refine wpAnyH_ready (rs := [11]) (by kernel_rfl) (by simp) ?_
          refine AllReadyH.cons rfl (fun K hK => ?_) AllReadyH.nil
          go_simp
          refine (K2.out _ gM LM4.out).mono ?_
          rintro e r5 ⟨rfl, hb⟩
          have LS5 := Lib.hid (Blk.next (w := r4) LS4.out hb)
          have LO5 := Lib.hid (Blk.next (w := r4) LO4.out hb)
          have LN5 := Lib.hid (Blk.next (w := r4) LN4.out hb)
          have LM5 := Lib.hid (Blk.next (w := r4) LM4.out hb)
          have E5 := Lib.hid (E4.out.trans (hb.mono E4.out.size))
          clear hb
          go_wp2_with fail
          refine hK.out _ _ (sK _ LS5.out) (fun hHeld => ?_)
          clear hK K hHeld
          try simp only [Act.put, List.getElem_toArray, List.getElem_cons_zero, List.getElem_cons_succ, List.setIfInBounds_toArray, List.set_cons_zero, List.set_cons_succ]
          refine wpAnyH_take (i := 12) (v := ?_) rfl (by kernel_rfl) (by kernel_rfl) (by kernel_rfl) (fun _ _ _ h => nomatch h.1) (Or.inl ⟨by rfl, ?_⟩) (sK _ LS5.out) ?_
          rotate_left
          · (intro wS hSw; (try dsimp only at hSw); go_simp; try with_reducible rfl)
          simp only [Act.put, List.getElem_toArray, List.getElem_cons_zero, List.getElem_cons_succ, List.setIfInBounds_toArray, List.set_cons_zero, List.set_cons_succ]
          refine wpAnyH_ready (rs := [22]) (by kernel_rfl) (by simp) ?_
          refine AllReadyH.cons rfl (fun K hK => ?_) AllReadyH.nil
          go_simp
          refine (K3.out _ gO LO5.out).mono ?_
          rintro e r6 ⟨rfl, hb⟩
          have LS6 := Lib.hid (Blk.next (w := r5) LS5.out hb)
          have LO6 := Lib.hid (Blk.next (w := r5) LO5.out hb)
          have LN6 := Lib.hid (Blk.next (w := r5) LN5.out hb)
          have LM6 := Lib.hid (Blk.next (w := r5) LM5.out hb)
          have E6 := Lib.hid (E5.out.trans (hb.mono E5.out.size))
          clear hb
          go_wp2_with fail
          refine hK.out _ _ (sK _ LS6.out) (fun hHeld => ?_)
          clear hK K hHeld
          try simp only [Act.put, List.getElem_toArray, List.getElem_cons_zero, List.getElem_cons_succ, List.setIfInBounds_toArray, List.set_cons_zero, List.set_cons_succ]
          refine wpAnyH_take (i := 23) (v := ?_) rfl (by kernel_rfl) (by kernel_rfl) (by kernel_rfl) (fun _ _ _ h => nomatch h.1) (Or.inl ⟨by rfl, ?_⟩) (sK _ LS6.out) ?_
          rotate_left
          · (intro wS hSw; (try dsimp only at hSw); go_simp; try with_reducible rfl)
          simp only [Act.put, List.getElem_toArray, List.getElem_cons_zero, List.getElem_cons_succ, List.setIfInBounds_toArray, List.set_cons_zero, List.set_cons_succ]
          refine wpAnyH_take (i := 24) (v := ?_) rfl (by kernel_rfl) (by kernel_rfl) (by kernel_rfl) (fun _ _ _ h => nomatch h.1) (Or.inl ⟨by rfl, ?_⟩) (sK _ LS6.out) ?_
          rotate_left
          · (intro wS hSw; (try dsimp only at hSw); go_simp; try with_reducible rfl)
          simp only [Act.put, List.getElem_toArray, List.getElem_cons_zero, List.getElem_cons_succ, List.setIfInBounds_toArray, List.set_cons_zero, List.set_cons_succ]
          refine wpAnyH_done (by kernel_rfl) ?_ _
          exact ⟨rfl, gN, gM, gO, rfl, E6.out, LS6.out⟩
        exact AllReadyH.nil
      refine AllReadyH.cons rfl (fun K hK => ?_) ?_
      · go_simp
        have LS2 : Blk ((r1.alloc (.cells #[.int .i64 s2, .int .i64 s3] 3))) (w.heap.size) 25 #[.int .i64 s0, .int .i64 s1, .int .i64 s2, .int .i64 s3, .int .i64 s4, .int .i64 s5, .int .i64 s6, .int .i64 s7, .slice A n c, .int .i64 s9, .int .i64 s10, .int .i64 s11, .int .i64 s12] := Blk.alloc (w := r1) LS1.out (.cells #[.int .i64 s2, .int .i64 s3] 3)
        have LO2 : Blk ((r1.alloc (.cells #[.int .i64 s2, .int .i64 s3] 3))) (gO) 3 #[.int .i64 s4, .int .i64 s5, .int .i64 s6, .int .i64 s7] := Blk.alloc (w := r1) LO1.out (.cells #[.int .i64 s2, .int .i64 s3] 3)
        have LM2 : Blk ((r1.alloc (.cells #[.int .i64 s2, .int .i64 s3] 3))) r1.heap.size 3 #[.int .i64 s2, .int .i64 s3] := Blk.new r1 _ _
        have E2 : Below w.heap.size w ((r1.alloc (.cells #[.int .i64 s2, .int .i64 s3] 3))) := (E1.out.alloc E1.out.size (.cells #[.int .i64 s2, .int .i64 s3] 3))
        obtain ⟨r2, hr2⟩ : ∃ VV, (r1.alloc (.cells #[.int .i64 s2, .int .i64 s3] 3)) = VV := ⟨_, rfl⟩
        obtain ⟨gM, hg2⟩ : ∃ g, r1.heap.size = g := ⟨_, rfl⟩
        try rw [hr2]
        try rw [hg2]
        simp only [hr2, hg2] at LS2 LO2 LM2 E2
        try simp only [hr2, hg2]
        clear hr2 hg2
        replace LS2 := Lib.hid LS2
        replace LO2 := Lib.hid LO2
        replace LM2 := Lib.hid LM2
        replace E2 := Lib.hid E2
        refine hK.out _ _ (sK _ LS2.out) (fun hHeld => ?_)
        clear hK K hHeld
        try simp only [Act.put, List.getElem_toArray, List.getElem_cons_zero, List.getElem_cons_succ, List.setIfInBounds_toArray, List.set_cons_zero, List.set_cons_succ]
        refine wpAnyH_ready (rs := [4]) (by kernel_rfl) (by simp) ?_
        refine AllReadyH.cons rfl (fun K hK => ?_) AllReadyH.nil
        go_simp
        have LS3 : Blk ((r2.alloc (.cells #[.int .i64 s0, .int .i64 s1] 3))) (w.heap.size) 25 #[.int .i64 s0, .int .i64 s1, .int .i64 s2, .int .i64 s3, .int .i64 s4, .int .i64 s5, .int .i64 s6, .int .i64 s7, .slice A n c, .int .i64 s9, .int .i64 s10, .int .i64 s11, .int .i64 s12] := Blk.alloc (w := r2) LS2.out (.cells #[.int .i64 s0, .int .i64 s1] 3)
        have LO3 : Blk ((r2.alloc (.cells #[.int .i64 s0, .int .i64 s1] 3))) (gO) 3 #[.int .i64 s4, .int .i64 s5, .int .i64 s6, .int .i64 s7] := Blk.alloc (w := r2) LO2.out (.cells #[.int .i64 s0, .int .i64 s1] 3)
        have LM3 : Blk ((r2.alloc (.cells #[.int .i64 s0, .int .i64 s1] 3))) (gM) 3 #[.int .i64 s2, .int .i64 s3] := Blk.alloc (w := r2) LM2.out (.cells #[.int .i64 s0, .int .i64 s1] 3)
        have LN3 : Blk ((r2.alloc (.cells #[.int .i64 s0, .int .i64 s1] 3))) r2.heap.size 3 #[.int .i64 s0, .int .i64 s1] := Blk.new r2 _ _
        have E3 : Below w.heap.size w ((r2.alloc (.cells #[.int .i64 s0, .int .i64 s1] 3))) := (E2.out.alloc E2.out.size (.cells #[.int .i64 s0, .int .i64 s1] 3))
        obtain ⟨r3, hr3⟩ : ∃ VV, (r2.alloc (.cells #[.int .i64 s0, .int .i64 s1] 3)) = VV := ⟨_, rfl⟩
        obtain ⟨gN, hg3⟩ : ∃ g, r2.heap.size = g := ⟨_, rfl⟩
        try rw [hr3]
        try rw [hg3]
        simp only [hr3, hg3] at LS3 LO3 LM3 LN3 E3
        try simp only [hr3, hg3]
        clear hr3 hg3
        replace LS3 := Lib.hid LS3
        replace LO3 := Lib.hid LO3
        replace LM3 := Lib.hid LM3
        replace LN3 := Lib.hid LN3
        replace E3 := Lib.hid E3
        refine hK.out _ _ (sK _ LS3.out) (fun hHeld => ?_)
        clear hK K hHeld
        try simp only [Act.put, List.getElem_toArray, List.getElem_cons_zero, List.getElem_cons_succ, List.setIfInBounds_toArray, List.set_cons_zero, List.set_cons_succ]
        refine wpAnyH_ready (rs := [5]) (by kernel_rfl) (by simp) ?_
        refine AllReadyH.cons rfl (fun K hK => ?_) AllReadyH.nil
        go_simp
        refine (K1.out _ gN LN3.out).mono ?_
        rintro e r4 ⟨rfl, hb⟩
        have LS4 := Lib.hid (Blk.next (w := r3) LS3.out hb)
        have LO4 := Lib.hid (Blk.next (w := r3) LO3.out hb)
        have LM4 := Lib.hid (Blk.next (w := r3) LM3.out hb)
        have LN4 := Lib.hid (Blk.next (w := r3) LN3.out hb)
        have E4 := Lib.hid (E3.out.trans (hb.mono E3.out.size))
        clear hb
        go_wp2_with fail
        refine hK.out _ _ (sK _ LS4.out) (fun hHeld => ?_)
        clear hK K hHeld
        try simp only [Act.put, List.getElem_toArray, List.getElem_cons_zero, List.getElem_cons_succ, List.setIfInBounds_toArray, List.set_cons_zero, List.set_cons_succ]
        refine wpAnyH_ready (rs := [11]) (by kernel_rfl) (by simp) ?_
        refine AllReadyH.cons rfl (fun K hK => ?_) AllReadyH.nil
        go_simp
        refine (K2.out _ gM LM4.out).mono ?_
        rintro e r5 ⟨rfl, hb⟩
        have LS5 := Lib.hid (Blk.next (w := r4) LS4.out hb)
        have LO5 := Lib.hid (Blk.next (w := r4) LO4.out hb)
        have LM5 := Lib.hid (Blk.next (w := r4) LM4.out hb)
        have LN5 := Lib.hid (Blk.next (w := r4) LN4.out hb)
        have E5 := Lib.hid (E4.out.trans (hb.mono E4.out.size))
        clear hb
        go_wp2_with fail
        refine hK.out _ _ (sK _ LS5.out) (fun hHeld => ?_)
        clear hK K hHeld
        try simp only [Act.put, List.getElem_toArray, List.getElem_cons_zero, List.getElem_cons_succ, List.setIfInBounds_toArray, List.set_cons_zero, List.set_cons_succ]
        refine wpAnyH_take (i := 12) (v := ?_) rfl (by kernel_rfl) (by kernel_rfl) (by kernel_rfl) (fun _ _ _ h => nomatch h.1) (Or.inl ⟨by rfl, ?_⟩) (sK _ LS5.out) ?_
        rotate_left
        · (intro wS hSw; (try dsimp only at hSw); go_simp; try with_reducible rfl)
        simp only [Act.put, List.getElem_toArray, List.getElem_cons_zero, List.getElem_cons_succ, List.setIfInBounds_toArray, List.set_cons_zero, List.set_cons_succ]
        refine wpAnyH_ready (rs := [22]) (by kernel_rfl) (by simp) ?_
        refine AllReadyH.cons rfl (fun K hK => ?_) AllReadyH.nil
        go_simp
        refine (K3.out _ gO LO5.out).mono ?_
        rintro e r6 ⟨rfl, hb⟩
        have LS6 := Lib.hid (Blk.next (w := r5) LS5.out hb)
        have LO6 := Lib.hid (Blk.next (w := r5) LO5.out hb)
        have LM6 := Lib.hid (Blk.next (w := r5) LM5.out hb)
        have LN6 := Lib.hid (Blk.next (w := r5) LN5.out hb)
        have E6 := Lib.hid (E5.out.trans (hb.mono E5.out.size))
        clear hb
        go_wp2_with fail
        refine hK.out _ _ (sK _ LS6.out) (fun hHeld => ?_)
        clear hK K hHeld
        try simp only [Act.put, List.getElem_toArray, List.getElem_cons_zero, List.getElem_cons_succ, List.setIfInBounds_toArray, List.set_cons_zero, List.set_cons_succ]
        refine wpAnyH_take (i := 23) (v := ?_) rfl (by kernel_rfl) (by kernel_rfl) (by kernel_rfl) (fun _ _ _ h => nomatch h.1) (Or.inl ⟨by rfl, ?_⟩) (sK _ LS6.out) ?_
        rotate_left
        · (intro wS hSw; (try dsimp only at hSw); go_simp; try with_reducible rfl)
        simp only [Act.put, List.getElem_toArray, List.getElem_cons_zero, List.getElem_cons_succ, List.setIfInBounds_toArray, List.set_cons_zero, List.set_cons_succ]
        refine wpAnyH_take (i := 24) (v := ?_) rfl (by kernel_rfl) (by kernel_rfl) (by kernel_rfl) (fun _ _ _ h => nomatch h.1) (Or.inl ⟨by rfl, ?_⟩) (sK _ LS6.out) ?_
        rotate_left
        · (intro wS hSw; (try dsimp only at hSw); go_simp; try with_reducible rfl)
        simp only [Act.put, List.getElem_toArray, List.getElem_cons_zero, List.getElem_cons_succ, List.setIfInBounds_toArray, List.set_cons_zero, List.set_cons_succ]
        refine wpAnyH_done (by kernel_rfl) ?_ _
        exact ⟨rfl, gN, gM, gO, rfl, E6.out, LS6.out⟩
      exact AllReadyH.nil
    exact AllReadyH.nil
  clear HS EE y1 y2
  obtain ⟨rfl, gN, gM, gO, rfl, hE, hB⟩ := hq
  have EE := Lib.hid hE; have HS := Lib.hid hB
  clear hE hB
  rename World => V
  have H0 : Hid (t1 ++ t2 ++ t3 = bL (hdT s0 s1 s2 s3 s4 s5 s6 s7 ++ sgT z 0)) := Lib.hid (by
    rw [← Hht1.out, ← Hht2.out, ← Hht3.out]
    unfold hdT sgT bL
    apply ByteArray.ext; apply Array.ext'; simp)
  have H00 : Hid ((t1 ++ t2 ++ t3).size ≤ 900) := Lib.hid (by rw [ByteArray.size_append, ByteArray.size_append]; omega)
  obtain ⟨T0, hT0⟩ : ∃ T0, t1 ++ t2 ++ t3 = T0 := ⟨_, rfl⟩
  rw [hT0] at H0 H00 ⊢
  have HSZ : Hid (∀ k, k ≤ n → (bL (hdT s0 s1 s2 s3 s4 s5 s6 s7 ++ sgT z k)).size ≤ 4000) := Lib.hid (fun k hk => by
    have h1 := sgT_len z k (fun i hi => HZ.out i (by omega))
    have h2 := H00.out
    rw [H0.out, bL_size, List.length_append] at h2
    rw [bL_size, List.length_append]
    have : (sgT z 0).length = 0 := rfl
    omega)
  clear hT0 K1 K2 K3 Hht1 Hht2 Hht3 st1 st2 st3
  have d8 : V.cell? ⟨w.heap.size, 8, none⟩ = some (.slice A n c) := HS.out.cell 8
  go_wp2_with fail
  go_loopg [5, 6] n (fun gh tv iv wr => ∃ (k : Nat) (t : ByteArray), k ≤ n ∧ gh = n - k ∧ tv = .string t ∧ iv = .int .i64 k ∧ Hid (t = bL (hdT s0 s1 s2 s3 s4 s5 s6 s7 ++ sgT z k)) ∧ Hid (Below w.heap.size w wr) ∧ Hid (Blk wr w.heap.size 25 #[.int .i64 s0, .int .i64 s1, .int .i64 s2, .int .i64 s3, .int .i64 s4, .int .i64 s5, .int .i64 s6, .int .i64 s7, .slice A n c, .int .i64 s9, .int .i64 s10, .int .i64 s11, .int .i64 s12]))
  case atStart => exact ⟨0, T0, Nat.zero_le _, rfl, rfl, rfl, H0, EE, HS⟩
  case round =>
    clear H0 H00 EE HS d8
    obtain ⟨k, t, hk, rfl, rfl, rfl, HTX, EE, HS⟩ := hrel
    rename World => V
    have hts : t.size ≤ 4000 := by rw [HTX.out]; exact HSZ.out k hk
    by_cases hkn : k < n
    · have hki : (k : Int) < (n : Int) := by omega
      have d8 : V.cell? ⟨w.heap.size, 8, none⟩ = some (.slice A n c) := HS.out.cell 8
      obtain ⟨b, o, rfl, hbl, hc⟩ := rdZ_row HR.out (by omega) (by omega)
      have a0 : V.cell? ⟨b, o + k * 3, none⟩ = some (.int .i64 (z k 0)) := (EE.out.cell (p := ⟨b, o + k * 3, none⟩) hbl).trans (hc k 0 hkn (by omega))
      have a1 : V.cell? ⟨b, o + k * 3 + 1, none⟩ = some (.int .i64 (z k 1)) := (EE.out.cell (p := ⟨b, o + k * 3 + 1, none⟩) hbl).trans (hc k 1 hkn (by omega))
      have a2 : V.cell? ⟨b, o + k * 3 + 2, none⟩ = some (.int .i64 (z k 2)) := (EE.out.cell (p := ⟨b, o + k * 3 + 2, none⟩) hbl).trans (hc k 2 hkn (by omega))
      have hzk := HZ.out k hkn
      have HNX : Hid (sgT z (k + 1) = sgT z k ++ lnS ([116, 114, 97, 102, 102, 105, 99, 32] ++ tmW (z k 0)) (fun i : Nat => [z k 1, z k 2].getD i 0) 2) := Lib.hid rfl
      obtain ⟨kk, hkk⟩ : ∃ x, z k 0 = x := ⟨_, rfl⟩
      obtain ⟨tt, htt⟩ : ∃ x, z k 1 = x := ⟨_, rfl⟩
      obtain ⟨rr, hrr⟩ : ∃ x, z k 2 = x := ⟨_, rfl⟩
      rw [hkk] at a0; rw [htt] at a1; rw [hrr] at a2
      rw [hkk, htt, hrr] at hzk HNX
      have Hwt := Lib.hid hzk.2
      have KT := Lib.hid (fun W => dtemp_any kk W)
      obtain ⟨tw, htw⟩ : ∃ x, bL (tmW kk) = x := ⟨_, rfl⟩
      have stw : tw.size ≤ 10 := by rw [← htw, bL_size]; exact tmW_len kk
      rw [htw] at KT
      have Hhtw := Lib.hid htw
      clear hkk htt hrr hzk htw hc
      obtain ⟨t4, ht4⟩ : ∃ t, bL (lnS ([116, 114, 97, 102, 102, 105, 99, 32] ++ tmW kk) (fun i : Nat => [tt, rr].getD i 0) 2) = t := ⟨_, rfl⟩
      have K4 : Hid (∀ (W : World) (g : Nat), Blk W g 3 #[.int .i64 tt, .int .i64 rr] → Calls Tryd.prog 16 #[.string (ByteArray.mk #[116, 114, 97, 102, 102, 105, 99, 32] ++ tw), .slice (some ⟨g, 0, none⟩) 2 2] W fun e w' => e = .returned (.string t4) ∧ Below W.heap.size W w') := Lib.hid (fun W g hB => by
        rw [← ht4]
        rw [← Hhtw.out, show (ByteArray.mk #[116, 114, 97, 102, 102, 105, 99, 32] ++ bL (tmW kk)) = bL ([116, 114, 97, 102, 102, 105, 99, 32] ++ tmW kk) from by unfold bL; apply ByteArray.ext; apply Array.ext'; simp]
        exact dline_any ([116, 114, 97, 102, 102, 105, 99, 32] ++ tmW kk) (some ⟨g, 0, none⟩) 2 2 (fun i : Nat => [tt, rr].getD i 0) W (by decide) (by have := tmW_len kk; simp only [List.length_append, List.length_cons, List.length_nil]; omega) (wf2 Hwt.out.1 Hwt.out.2) (fun _ => ⟨g, 0, rfl, hB.lt, fun i hi => by
          rw [Nat.zero_add, hB.cell i]
          rcases i with _ | _ | i <;> first | rfl | omega⟩))
      have st4 : t4.size ≤ 300 := by
        rw [← ht4, bL_size]
        have := lnS_len ([116, 114, 97, 102, 102, 105, 99, 32] ++ tmW kk) (fun i : Nat => [tt, rr].getD i 0) 2 (wf2 Hwt.out.1 Hwt.out.2)
        have hT := tmW_len kk; simp only [List.length_append, List.length_cons, List.length_nil] at this; omega
      have HNT : Hid (t ++ t4 = bL (hdT s0 s1 s2 s3 s4 s5 s6 s7 ++ sgT z (k + 1))) := Lib.hid (by
        rw [HNX.out, HTX.out, ← ht4]
        unfold bL
        apply ByteArray.ext; apply Array.ext'; simp)
      have y1 : ¬ 9223372036854775807 < 8 + tw.size := by omega
      have y2 : ¬ 9223372036854775807 < t.size + t4.size := by omega
      have e8 : (ByteArray.mk #[116, 114, 97, 102, 102, 105, 99, 32]).size = 8 := rfl
      clear ht4
      have HG := Lib.hid (at3 a0 a1 a2)
      clear a0 a1 a2
      go_wp2_with fail
      clear d8
      have kS0 : V.cell? ⟨w.heap.size, 0, none⟩ = some (.int .i64 s0) := HS.out.cell 0
      have kS1 : V.cell? ⟨w.heap.size, 1, none⟩ = some (.int .i64 s1) := HS.out.cell 1
      have kS2 : V.cell? ⟨w.heap.size, 2, none⟩ = some (.int .i64 s2) := HS.out.cell 2
      have kS3 : V.cell? ⟨w.heap.size, 3, none⟩ = some (.int .i64 s3) := HS.out.cell 3
      have kS4 : V.cell? ⟨w.heap.size, 4, none⟩ = some (.int .i64 s4) := HS.out.cell 4
      have kS5 : V.cell? ⟨w.heap.size, 5, none⟩ = some (.int .i64 s5) := HS.out.cell 5
      have kS6 : V.cell? ⟨w.heap.size, 6, none⟩ = some (.int .i64 s6) := HS.out.cell 6
      have kS7 : V.cell? ⟨w.heap.size, 7, none⟩ = some (.int .i64 s7) := HS.out.cell 7
      have kS8 : V.cell? ⟨w.heap.size, 8, none⟩ = some (.slice (some ⟨b, o, none⟩) n c) := HS.out.cell 8
      have kS9 : V.cell? ⟨w.heap.size, 9, none⟩ = some (.int .i64 s9) := HS.out.cell 9
      have kS10 : V.cell? ⟨w.heap.size, 10, none⟩ = some (.int .i64 s10) := HS.out.cell 10
      have kS11 : V.cell? ⟨w.heap.size, 11, none⟩ = some (.int .i64 s11) := HS.out.cell 11
      have kS12 : V.cell? ⟨w.heap.size, 12, none⟩ = some (.int .i64 s12) := HS.out.cell 12
      have kG0 : V.cell? ⟨b, o + k * 3, none⟩ = some (.int .i64 kk) := HG.out 0 _ rfl
      have kG1 : V.cell? ⟨b, o + k * 3 + 1, none⟩ = some (.int .i64 tt) := HG.out 1 _ rfl
      have kG2 : V.cell? ⟨b, o + k * 3 + 2, none⟩ = some (.int .i64 rr) := HG.out 2 _ rfl
      have sK : ∀ X, Blk X (w.heap.size) 25 #[.int .i64 s0, .int .i64 s1, .int .i64 s2, .int .i64 s3, .int .i64 s4, .int .i64 s5, .int .i64 s6, .int .i64 s7, .slice (some ⟨b, o, none⟩) n c, .int .i64 s9, .int .i64 s10, .int .i64 s11, .int .i64 s12] → At X b (o + k * 3) #[.int .i64 kk, .int .i64 tt, .int .i64 rr] → (fun X => X.cell? ⟨w.heap.size, 0, none⟩ = some (.int .i64 s0) ∧ X.cell? ⟨w.heap.size, 1, none⟩ = some (.int .i64 s1) ∧ X.cell? ⟨w.heap.size, 2, none⟩ = some (.int .i64 s2) ∧ X.cell? ⟨w.heap.size, 3, none⟩ = some (.int .i64 s3) ∧ X.cell? ⟨w.heap.size, 4, none⟩ = some (.int .i64 s4) ∧ X.cell? ⟨w.heap.size, 5, none⟩ = some (.int .i64 s5) ∧ X.cell? ⟨w.heap.size, 6, none⟩ = some (.int .i64 s6) ∧ X.cell? ⟨w.heap.size, 7, none⟩ = some (.int .i64 s7) ∧ X.cell? ⟨w.heap.size, 8, none⟩ = some (.slice (some ⟨b, o, none⟩) n c) ∧ X.cell? ⟨w.heap.size, 9, none⟩ = some (.int .i64 s9) ∧ X.cell? ⟨w.heap.size, 10, none⟩ = some (.int .i64 s10) ∧ X.cell? ⟨w.heap.size, 11, none⟩ = some (.int .i64 s11) ∧ X.cell? ⟨w.heap.size, 12, none⟩ = some (.int .i64 s12) ∧ X.cell? ⟨b, o + k * 3, none⟩ = some (.int .i64 kk) ∧ X.cell? ⟨b, o + k * 3 + 1, none⟩ = some (.int .i64 tt) ∧ X.cell? ⟨b, o + k * 3 + 2, none⟩ = some (.int .i64 rr)) X := fun X hS hG => ⟨hS.cell 0, hS.cell 1, hS.cell 2, hS.cell 3, hS.cell 4, hS.cell 5, hS.cell 6, hS.cell 7, hS.cell 8, hS.cell 9, hS.cell 10, hS.cell 11, hS.cell 12, hG 0 _ rfl, hG 1 _ rfl, hG 2 _ rfl⟩
      have LS0 := Lib.hid (HS.out.drew)
      have LG0 := Lib.hid (HG.out.drew)
      have E0 := Lib.hid (EE.out.drew)
      clear kS0 kS1 kS2 kS3 kS4 kS5 kS6 kS7 kS8 kS9 kS10 kS11 kS12 kG0 kG1 kG2
      refine wp_region_held_drew (S := (fun X => X.cell? ⟨w.heap.size, 0, none⟩ = some (.int .i64 s0) ∧ X.cell? ⟨w.heap.size, 1, none⟩ = some (.int .i64 s1) ∧ X.cell? ⟨w.heap.size, 2, none⟩ = some (.int .i64 s2) ∧ X.cell? ⟨w.heap.size, 3, none⟩ = some (.int .i64 s3) ∧ X.cell? ⟨w.heap.size, 4, none⟩ = some (.int .i64 s4) ∧ X.cell? ⟨w.heap.size, 5, none⟩ = some (.int .i64 s5) ∧ X.cell? ⟨w.heap.size, 6, none⟩ = some (.int .i64 s6) ∧ X.cell? ⟨w.heap.size, 7, none⟩ = some (.int .i64 s7) ∧ X.cell? ⟨w.heap.size, 8, none⟩ = some (.slice (some ⟨b, o, none⟩) n c) ∧ X.cell? ⟨w.heap.size, 9, none⟩ = some (.int .i64 s9) ∧ X.cell? ⟨w.heap.size, 10, none⟩ = some (.int .i64 s10) ∧ X.cell? ⟨w.heap.size, 11, none⟩ = some (.int .i64 s11) ∧ X.cell? ⟨w.heap.size, 12, none⟩ = some (.int .i64 s12) ∧ X.cell? ⟨b, o + k * 3, none⟩ = some (.int .i64 kk) ∧ X.cell? ⟨b, o + k * 3 + 1, none⟩ = some (.int .i64 tt) ∧ X.cell? ⟨b, o + k * 3 + 2, none⟩ = some (.int .i64 rr))) (by kernel_rfl) (sK _ LS0.out LG0.out) (fun hHeld => ?_)
      clear hHeld
      refine wpAnyH_take (i := 0) (v := ?_) rfl (by kernel_rfl) (by kernel_rfl) (by kernel_rfl) (fun _ _ _ h => h) (Or.inl ⟨by rfl, ?_⟩) (sK _ LS0.out LG0.out) ?_
      rotate_left
      · (intro wS hSw; (try dsimp only at hSw); go_simp; try with_reducible rfl)
      simp only [Act.put, List.getElem_toArray, List.getElem_cons_zero, List.getElem_cons_succ, List.setIfInBounds_toArray, List.set_cons_zero, List.set_cons_succ]
      refine wpAnyH_take (i := 1) (v := ?_) rfl (by kernel_rfl) (by kernel_rfl) (by kernel_rfl) (fun _ _ _ h => h) (Or.inl ⟨by rfl, ?_⟩) (sK _ LS0.out LG0.out) ?_
      rotate_left
      · (intro wS hSw; (try dsimp only at hSw); go_simp; try with_reducible rfl)
      simp only [Act.put, List.getElem_toArray, List.getElem_cons_zero, List.getElem_cons_succ, List.setIfInBounds_toArray, List.set_cons_zero, List.set_cons_succ]
      refine wpAnyH_take (i := 3) (v := ?_) rfl (by kernel_rfl) (by kernel_rfl) (by kernel_rfl) (fun _ _ _ h => h) (Or.inl ⟨by rfl, ?_⟩) (sK _ LS0.out LG0.out) ?_
      rotate_left
      · (intro wS hSw; (try dsimp only at hSw); go_simp; try with_reducible rfl)
      simp only [Act.put, List.getElem_toArray, List.getElem_cons_zero, List.getElem_cons_succ, List.setIfInBounds_toArray, List.set_cons_zero, List.set_cons_succ]
      refine wpAnyH_take (i := 9) (v := ?_) rfl (by kernel_rfl) (by kernel_rfl) (by kernel_rfl) (fun _ _ _ h => h) (Or.inl ⟨by rfl, ?_⟩) (sK _ LS0.out LG0.out) ?_
      rotate_left
      · (intro wS hSw; (try dsimp only at hSw); go_simp; try with_reducible rfl)
      simp only [Act.put, List.getElem_toArray, List.getElem_cons_zero, List.getElem_cons_succ, List.setIfInBounds_toArray, List.set_cons_zero, List.set_cons_succ]
      refine wpAnyH_take (i := 11) (v := ?_) rfl (by kernel_rfl) (by kernel_rfl) (by kernel_rfl) (fun _ _ _ h => h) (Or.inl ⟨by rfl, ?_⟩) (sK _ LS0.out LG0.out) ?_
      rotate_left
      · (intro wS hSw; (try dsimp only at hSw); go_simp; try with_reducible rfl)
      simp only [Act.put, List.getElem_toArray, List.getElem_cons_zero, List.getElem_cons_succ, List.setIfInBounds_toArray, List.set_cons_zero, List.set_cons_succ]
      refine wpAnyH_take (i := 15) (v := ?_) rfl (by kernel_rfl) (by kernel_rfl) (by kernel_rfl) (fun _ _ _ h => h) (Or.inl ⟨by rfl, ?_⟩) (sK _ LS0.out LG0.out) ?_
      rotate_left
      · (intro wS hSw; (try dsimp only at hSw); go_simp; try with_reducible rfl)
      simp only [Act.put, List.getElem_toArray, List.getElem_cons_zero, List.getElem_cons_succ, List.setIfInBounds_toArray, List.set_cons_zero, List.set_cons_succ]
      refine wpAnyH_take (i := 17) (v := ?_) rfl (by kernel_rfl) (by kernel_rfl) (by kernel_rfl) (fun _ _ _ h => h) (Or.inl ⟨by rfl, ?_⟩) (sK _ LS0.out LG0.out) ?_
      rotate_left
      · (intro wS hSw; (try dsimp only at hSw); go_simp; try with_reducible rfl)
      simp only [Act.put, List.getElem_toArray, List.getElem_cons_zero, List.getElem_cons_succ, List.setIfInBounds_toArray, List.set_cons_zero, List.set_cons_succ]
      refine wpAnyH_take (i := 2) (v := ?_) rfl (by kernel_rfl) (by kernel_rfl) (by kernel_rfl) (fun _ _ _ h => h) (Or.inl ⟨by rfl, ?_⟩) (sK _ LS0.out LG0.out) ?_
      rotate_left
      · (intro wS hSw; (try dsimp only at hSw); go_simp; try with_reducible rfl)
      simp only [Act.put, List.getElem_toArray, List.getElem_cons_zero, List.getElem_cons_succ, List.setIfInBounds_toArray, List.set_cons_zero, List.set_cons_succ]
      refine wpAnyH_take (i := 10) (v := ?_) rfl (by kernel_rfl) (by kernel_rfl) (by kernel_rfl) (fun _ _ _ h => h) (Or.inl ⟨by rfl, ?_⟩) (sK _ LS0.out LG0.out) ?_
      rotate_left
      · (intro wS hSw; (try dsimp only at hSw); go_simp; try with_reducible rfl)
      simp only [Act.put, List.getElem_toArray, List.getElem_cons_zero, List.getElem_cons_succ, List.setIfInBounds_toArray, List.set_cons_zero, List.set_cons_succ]
      refine wpAnyH_take (i := 16) (v := ?_) rfl (by kernel_rfl) (by kernel_rfl) (by kernel_rfl) (fun _ _ _ h => h) (Or.inl ⟨by rfl, ?_⟩) (sK _ LS0.out LG0.out) ?_
      rotate_left
      · (intro wS hSw; (try dsimp only at hSw); go_simp; try with_reducible rfl)
      simp only [Act.put, List.getElem_toArray, List.getElem_cons_zero, List.getElem_cons_succ, List.setIfInBounds_toArray, List.set_cons_zero, List.set_cons_succ]
      refine wpAnyH_take (i := 4) (v := ?_) rfl (by kernel_rfl) (by kernel_rfl) (by kernel_rfl) (fun _ _ _ h => h) (Or.inl ⟨by rfl, ?_⟩) (sK _ LS0.out LG0.out) ?_
      rotate_left
      · (intro wS hSw; (try dsimp only at hSw); go_simp; try with_reducible rfl)
      simp only [Act.put, List.getElem_toArray, List.getElem_cons_zero, List.getElem_cons_succ, List.setIfInBounds_toArray, List.set_cons_zero, List.set_cons_succ]
      refine wpAnyH_take (i := 12) (v := ?_) rfl (by kernel_rfl) (by kernel_rfl) (by kernel_rfl) (fun _ _ _ h => h) (Or.inl ⟨by rfl, ?_⟩) (sK _ LS0.out LG0.out) ?_
      rotate_left
      · (intro wS hSw; (try dsimp only at hSw); go_simp; try with_reducible rfl)
      simp only [Act.put, List.getElem_toArray, List.getElem_cons_zero, List.getElem_cons_succ, List.setIfInBounds_toArray, List.set_cons_zero, List.set_cons_succ]
      refine wpAnyH_take (i := 18) (v := ?_) rfl (by kernel_rfl) (by kernel_rfl) (by kernel_rfl) (fun _ _ _ h => h) (Or.inl ⟨by rfl, ?_⟩) (sK _ LS0.out LG0.out) ?_
      rotate_left
      · (intro wS hSw; (try dsimp only at hSw); go_simp; try with_reducible rfl)
      simp only [Act.put, List.getElem_toArray, List.getElem_cons_zero, List.getElem_cons_succ, List.setIfInBounds_toArray, List.set_cons_zero, List.set_cons_succ]
      refine wpAnyH_take (i := 5) (v := ?_) rfl (by kernel_rfl) (by kernel_rfl) (by kernel_rfl) (fun _ _ _ h => h) (Or.inl ⟨by rfl, ?_⟩) (sK _ LS0.out LG0.out) ?_
      rotate_left
      · (intro wS hSw; (try dsimp only at hSw); go_simp; try with_reducible rfl)
      simp only [Act.put, List.getElem_toArray, List.getElem_cons_zero, List.getElem_cons_succ, List.setIfInBounds_toArray, List.set_cons_zero, List.set_cons_succ]
      refine wpAnyH_take (i := 13) (v := ?_) rfl (by kernel_rfl) (by kernel_rfl) (by kernel_rfl) (fun _ _ _ h => h) (Or.inl ⟨by rfl, ?_⟩) (sK _ LS0.out LG0.out) ?_
      rotate_left
      · (intro wS hSw; (try dsimp only at hSw); go_simp; try with_reducible rfl)
      simp only [Act.put, List.getElem_toArray, List.getElem_cons_zero, List.getElem_cons_succ, List.setIfInBounds_toArray, List.set_cons_zero, List.set_cons_succ]
      refine wpAnyH_take (i := 19) (v := ?_) rfl (by kernel_rfl) (by kernel_rfl) (by kernel_rfl) (fun _ _ _ h => h) (Or.inl ⟨by rfl, ?_⟩) (sK _ LS0.out LG0.out) ?_
      rotate_left
      · (intro wS hSw; (try dsimp only at hSw); go_simp; try with_reducible rfl)
      simp only [Act.put, List.getElem_toArray, List.getElem_cons_zero, List.getElem_cons_succ, List.setIfInBounds_toArray, List.set_cons_zero, List.set_cons_succ]
      refine wpAnyH_take (i := 6) (v := ?_) rfl (by kernel_rfl) (by kernel_rfl) (by kernel_rfl) (fun _ _ _ h => h) (Or.inl ⟨by rfl, ?_⟩) (sK _ LS0.out LG0.out) ?_
      rotate_left
      · (intro wS hSw; (try dsimp only at hSw); go_simp; try with_reducible rfl)
      simp only [Act.put, List.getElem_toArray, List.getElem_cons_zero, List.getElem_cons_succ, List.setIfInBounds_toArray, List.set_cons_zero, List.set_cons_succ]
      refine wpAnyH_take (i := 14) (v := ?_) rfl (by kernel_rfl) (by kernel_rfl) (by kernel_rfl) (fun _ _ _ h => h) (Or.inl ⟨by rfl, ?_⟩) (sK _ LS0.out LG0.out) ?_
      rotate_left
      · (intro wS hSw; (try dsimp only at hSw); go_simp; try with_reducible rfl)
      simp only [Act.put, List.getElem_toArray, List.getElem_cons_zero, List.getElem_cons_succ, List.setIfInBounds_toArray, List.set_cons_zero, List.set_cons_succ]
      refine wpAnyH_take (i := 20) (v := ?_) rfl (by kernel_rfl) (by kernel_rfl) (by kernel_rfl) (fun _ _ _ h => h) (Or.inl ⟨by rfl, ?_⟩) (sK _ LS0.out LG0.out) ?_
      rotate_left
      · (intro wS hSw; (try dsimp only at hSw); go_simp; try with_reducible rfl)
      simp only [Act.put, List.getElem_toArray, List.getElem_cons_zero, List.getElem_cons_succ, List.setIfInBounds_toArray, List.set_cons_zero, List.set_cons_succ]
      refine wpAnyH_ready (rs := [7, 21]) (by kernel_rfl) (by simp) ?_
      refine AllReadyH.cons rfl (fun K hK => ?_) ?_
      · go_simp
        refine (KT.out _).mono ?_
        rintro e r1 ⟨rfl, hb⟩
        have LS1 := Lib.hid (Blk.next (w := V.drew) LS0.out hb)
        have LG1 := Lib.hid (At.next (w := V.drew) LG0.out hb)
        have E1 := Lib.hid (E0.out.trans (hb.mono E0.out.size))
        clear hb
        go_wp2_with fail
        refine hK.out _ _ (sK _ LS1.out LG1.out) (fun hHeld => ?_)
        clear hK K hHeld
        try simp only [Act.put, List.getElem_toArray, List.getElem_cons_zero, List.getElem_cons_succ, List.setIfInBounds_toArray, List.set_cons_zero, List.set_cons_succ]
        refine wpAnyH_take (i := 8) (v := ?_) rfl (by kernel_rfl) (by kernel_rfl) (by kernel_rfl) (fun _ _ _ h => h) (Or.inl ⟨by rfl, ?_⟩) (sK _ LS1.out LG1.out) ?_
        rotate_left
        · (intro wS hSw; (try dsimp only at hSw); go_simp; try with_reducible rfl)
        simp only [Act.put, List.getElem_toArray, List.getElem_cons_zero, List.getElem_cons_succ, List.setIfInBounds_toArray, List.set_cons_zero, List.set_cons_succ]
        refine wpAnyH_ready (rs := [21]) (by kernel_rfl) (by simp) ?_
        refine AllReadyH.cons rfl (fun K hK => ?_) AllReadyH.nil
        go_simp
        have LS2 : Blk ((r1.alloc (.cells #[.int .i64 tt, .int .i64 rr] 3))) (w.heap.size) 25 #[.int .i64 s0, .int .i64 s1, .int .i64 s2, .int .i64 s3, .int .i64 s4, .int .i64 s5, .int .i64 s6, .int .i64 s7, .slice (some ⟨b, o, none⟩) n c, .int .i64 s9, .int .i64 s10, .int .i64 s11, .int .i64 s12] := Blk.alloc (w := r1) LS1.out (.cells #[.int .i64 tt, .int .i64 rr] 3)
        have LG2 : At ((r1.alloc (.cells #[.int .i64 tt, .int .i64 rr] 3))) b (o + k * 3) #[.int .i64 kk, .int .i64 tt, .int .i64 rr] := At.alloc (w := r1) LG1.out (.cells #[.int .i64 tt, .int .i64 rr] 3)
        have LU2 : Blk ((r1.alloc (.cells #[.int .i64 tt, .int .i64 rr] 3))) r1.heap.size 3 #[.int .i64 tt, .int .i64 rr] := Blk.new r1 _ _
        have E2 : Below w.heap.size w ((r1.alloc (.cells #[.int .i64 tt, .int .i64 rr] 3))) := (E1.out.alloc E1.out.size (.cells #[.int .i64 tt, .int .i64 rr] 3))
        obtain ⟨r2, hr2⟩ : ∃ VV, (r1.alloc (.cells #[.int .i64 tt, .int .i64 rr] 3)) = VV := ⟨_, rfl⟩
        obtain ⟨gU, hg2⟩ : ∃ g, r1.heap.size = g := ⟨_, rfl⟩
        try rw [hr2]
        try rw [hg2]
        simp only [hr2, hg2] at LS2 LG2 LU2 E2
        try simp only [hr2, hg2]
        clear hr2 hg2
        replace LS2 := Lib.hid LS2
        replace LG2 := Lib.hid LG2
        replace LU2 := Lib.hid LU2
        replace E2 := Lib.hid E2
        refine hK.out _ _ (sK _ LS2.out LG2.out) (fun hHeld => ?_)
        clear hK K hHeld
        try simp only [Act.put, List.getElem_toArray, List.getElem_cons_zero, List.getElem_cons_succ, List.setIfInBounds_toArray, List.set_cons_zero, List.set_cons_succ]
        refine wpAnyH_ready (rs := [22]) (by kernel_rfl) (by simp) ?_
        refine AllReadyH.cons rfl (fun K hK => ?_) AllReadyH.nil
        go_simp
        refine (K4.out _ gU LU2.out).mono ?_
        rintro e r3 ⟨rfl, hb⟩
        have LS3 := Lib.hid (Blk.next (w := r2) LS2.out hb)
        have LG3 := Lib.hid (At.next (w := r2) LG2.out hb)
        have LU3 := Lib.hid (Blk.next (w := r2) LU2.out hb)
        have E3 := Lib.hid (E2.out.trans (hb.mono E2.out.size))
        clear hb
        go_wp2_with fail
        refine hK.out _ _ (sK _ LS3.out LG3.out) (fun hHeld => ?_)
        clear hK K hHeld
        try simp only [Act.put, List.getElem_toArray, List.getElem_cons_zero, List.getElem_cons_succ, List.setIfInBounds_toArray, List.set_cons_zero, List.set_cons_succ]
        refine wpAnyH_take (i := 23) (v := ?_) rfl (by kernel_rfl) (by kernel_rfl) (by kernel_rfl) (fun _ _ _ h => h) (Or.inl ⟨by rfl, ?_⟩) (sK _ LS3.out LG3.out) ?_
        rotate_left
        · (intro wS hSw; (try dsimp only at hSw); go_simp; try with_reducible rfl)
        simp only [Act.put, List.getElem_toArray, List.getElem_cons_zero, List.getElem_cons_succ, List.setIfInBounds_toArray, List.set_cons_zero, List.set_cons_succ]
        refine wpAnyH_take (i := 24) (v := ?_) rfl (by kernel_rfl) (by kernel_rfl) (by kernel_rfl) (fun _ _ _ h => h) (Or.inl ⟨by rfl, ?_⟩) (sK _ LS3.out LG3.out) ?_
        rotate_left
        · (intro wS hSw; (try dsimp only at hSw); go_simp; try with_reducible rfl)
        simp only [Act.put, List.getElem_toArray, List.getElem_cons_zero, List.getElem_cons_succ, List.setIfInBounds_toArray, List.set_cons_zero, List.set_cons_succ]
        refine wpAnyH_done (by kernel_rfl) ?_ _
        go_wp2_with fail
        go_roundg (n - (k + 1))
        case measure => omega
        case rel => exact ⟨k + 1, t ++ t4, by omega, rfl, rfl, by go_num, HNT, E3, LS3⟩
      refine AllReadyH.cons rfl (fun K hK => ?_) ?_
      · go_simp
        have LS1 : Blk ((V.alloc (.cells #[.int .i64 tt, .int .i64 rr] 3)).drew) (w.heap.size) 25 #[.int .i64 s0, .int .i64 s1, .int .i64 s2, .int .i64 s3, .int .i64 s4, .int .i64 s5, .int .i64 s6, .int .i64 s7, .slice (some ⟨b, o, none⟩) n c, .int .i64 s9, .int .i64 s10, .int .i64 s11, .int .i64 s12] := Blk.alloc (w := V) HS.out (.cells #[.int .i64 tt, .int .i64 rr] 3)
        have LG1 : At ((V.alloc (.cells #[.int .i64 tt, .int .i64 rr] 3)).drew) b (o + k * 3) #[.int .i64 kk, .int .i64 tt, .int .i64 rr] := At.alloc (w := V) HG.out (.cells #[.int .i64 tt, .int .i64 rr] 3)
        have LU1 : Blk ((V.alloc (.cells #[.int .i64 tt, .int .i64 rr] 3)).drew) V.heap.size 3 #[.int .i64 tt, .int .i64 rr] := Blk.new V _ _
        have E1 : Below w.heap.size w ((V.alloc (.cells #[.int .i64 tt, .int .i64 rr] 3)).drew) := (EE.out.alloc EE.out.size (.cells #[.int .i64 tt, .int .i64 rr] 3)).drew
        obtain ⟨r1, hr1⟩ : ∃ VV, (V.alloc (.cells #[.int .i64 tt, .int .i64 rr] 3)).drew = VV := ⟨_, rfl⟩
        obtain ⟨gU, hg1⟩ : ∃ g, V.heap.size = g := ⟨_, rfl⟩
        try rw [hr1]
        try rw [hg1]
        simp only [hr1, hg1] at LS1 LG1 LU1 E1
        try simp only [hr1, hg1]
        clear hr1 hg1
        replace LS1 := Lib.hid LS1
        replace LG1 := Lib.hid LG1
        replace LU1 := Lib.hid LU1
        replace E1 := Lib.hid E1
        refine hK.out _ _ (sK _ LS1.out LG1.out) (fun hHeld => ?_)
        clear hK K hHeld
        try simp only [Act.put, List.getElem_toArray, List.getElem_cons_zero, List.getElem_cons_succ, List.setIfInBounds_toArray, List.set_cons_zero, List.set_cons_succ]
        refine wpAnyH_ready (rs := [7]) (by kernel_rfl) (by simp) ?_
        refine AllReadyH.cons rfl (fun K hK => ?_) AllReadyH.nil
        go_simp
        refine (KT.out _).mono ?_
        rintro e r2 ⟨rfl, hb⟩
        have LS2 := Lib.hid (Blk.next (w := r1) LS1.out hb)
        have LG2 := Lib.hid (At.next (w := r1) LG1.out hb)
        have LU2 := Lib.hid (Blk.next (w := r1) LU1.out hb)
        have E2 := Lib.hid (E1.out.trans (hb.mono E1.out.size))
        clear hb
        go_wp2_with fail
        refine hK.out _ _ (sK _ LS2.out LG2.out) (fun hHeld => ?_)
        clear hK K hHeld
        try simp only [Act.put, List.getElem_toArray, List.getElem_cons_zero, List.getElem_cons_succ, List.setIfInBounds_toArray, List.set_cons_zero, List.set_cons_succ]
        refine wpAnyH_take (i := 8) (v := ?_) rfl (by kernel_rfl) (by kernel_rfl) (by kernel_rfl) (fun _ _ _ h => h) (Or.inl ⟨by rfl, ?_⟩) (sK _ LS2.out LG2.out) ?_
        rotate_left
        · (intro wS hSw; (try dsimp only at hSw); go_simp; try with_reducible rfl)
        simp only [Act.put, List.getElem_toArray, List.getElem_cons_zero, List.getElem_cons_succ, List.setIfInBounds_toArray, List.set_cons_zero, List.set_cons_succ]
        refine wpAnyH_ready (rs := [22]) (by kernel_rfl) (by simp) ?_
        refine AllReadyH.cons rfl (fun K hK => ?_) AllReadyH.nil
        go_simp
        refine (K4.out _ gU LU2.out).mono ?_
        rintro e r3 ⟨rfl, hb⟩
        have LS3 := Lib.hid (Blk.next (w := r2) LS2.out hb)
        have LG3 := Lib.hid (At.next (w := r2) LG2.out hb)
        have LU3 := Lib.hid (Blk.next (w := r2) LU2.out hb)
        have E3 := Lib.hid (E2.out.trans (hb.mono E2.out.size))
        clear hb
        go_wp2_with fail
        refine hK.out _ _ (sK _ LS3.out LG3.out) (fun hHeld => ?_)
        clear hK K hHeld
        try simp only [Act.put, List.getElem_toArray, List.getElem_cons_zero, List.getElem_cons_succ, List.setIfInBounds_toArray, List.set_cons_zero, List.set_cons_succ]
        refine wpAnyH_take (i := 23) (v := ?_) rfl (by kernel_rfl) (by kernel_rfl) (by kernel_rfl) (fun _ _ _ h => h) (Or.inl ⟨by rfl, ?_⟩) (sK _ LS3.out LG3.out) ?_
        rotate_left
        · (intro wS hSw; (try dsimp only at hSw); go_simp; try with_reducible rfl)
        simp only [Act.put, List.getElem_toArray, List.getElem_cons_zero, List.getElem_cons_succ, List.setIfInBounds_toArray, List.set_cons_zero, List.set_cons_succ]
        refine wpAnyH_take (i := 24) (v := ?_) rfl (by kernel_rfl) (by kernel_rfl) (by kernel_rfl) (fun _ _ _ h => h) (Or.inl ⟨by rfl, ?_⟩) (sK _ LS3.out LG3.out) ?_
        rotate_left
        · (intro wS hSw; (try dsimp only at hSw); go_simp; try with_reducible rfl)
        simp only [Act.put, List.getElem_toArray, List.getElem_cons_zero, List.getElem_cons_succ, List.setIfInBounds_toArray, List.set_cons_zero, List.set_cons_succ]
        refine wpAnyH_done (by kernel_rfl) ?_ _
        go_wp2_with fail
        go_roundg (n - (k + 1))
        case measure => omega
        case rel => exact ⟨k + 1, t ++ t4, by omega, rfl, rfl, by go_num, HNT, E3, LS3⟩
      exact AllReadyH.nil
    · obtain rfl : k = n := by omega
      have hki : ¬ (k : Int) < (k : Int) := by omega
      have d8 : V.cell? ⟨w.heap.size, 8, none⟩ = some (.slice A k c) := HS.out.cell 8
      have KD := Lib.hid (fun W => ddisp_any s9 W)
      obtain ⟨td, htd⟩ : ∃ x, bL (dsW s9) = x := ⟨_, rfl⟩
      have std : td.size ≤ 11 := by rw [← htd, bL_size]; exact dsW_len s9
      rw [htd] at KD
      have Hhtd := Lib.hid htd
      clear htd
      obtain ⟨t5, ht5⟩ : ∃ t, bL (lnS ([100, 105, 115, 112, 97, 116, 99, 104, 101, 114, 32] ++ dsW s9) (fun _ => 0) 0) = t := ⟨_, rfl⟩
      have K5 : Hid (∀ (W : World), Calls Tryd.prog 16 #[.string (ByteArray.mk #[100, 105, 115, 112, 97, 116, 99, 104, 101, 114, 32] ++ td), .slice none 0 0] W fun e w' => e = .returned (.string t5) ∧ Below W.heap.size W w') := Lib.hid (fun W  => by
        rw [← ht5]
        rw [← Hhtd.out, show (ByteArray.mk #[100, 105, 115, 112, 97, 116, 99, 104, 101, 114, 32] ++ bL (dsW s9)) = bL ([100, 105, 115, 112, 97, 116, 99, 104, 101, 114, 32] ++ dsW s9) from by unfold bL; apply ByteArray.ext; apply Array.ext'; simp]
        exact dline_any ([100, 105, 115, 112, 97, 116, 99, 104, 101, 114, 32] ++ dsW s9) none 0 0 (fun _ => 0) W (by decide) (by have := dsW_len s9; simp only [List.length_append, List.length_cons, List.length_nil]; omega) (fun i hi => absurd hi (Nat.not_lt_zero i)) (fun h => absurd h (Nat.lt_irrefl 0)))
      have st5 : t5.size ≤ 300 := by
        rw [← ht5, bL_size]
        have := lnS_len ([100, 105, 115, 112, 97, 116, 99, 104, 101, 114, 32] ++ dsW s9) (fun _ => 0) 0 (fun i hi => absurd hi (Nat.not_lt_zero i))
        have hT := dsW_len s9; simp only [List.length_append, List.length_cons, List.length_nil] at this; omega
      obtain ⟨t6, ht6⟩ : ∃ t, bL (lnS ([104, 111, 114, 105, 122, 111, 110]) (fun i : Nat => [s10].getD i 0) 1) = t := ⟨_, rfl⟩
      have K6 : Hid (∀ (W : World) (g : Nat), Blk W g 3 #[.int .i64 s10] → Calls Tryd.prog 16 #[.string (ByteArray.mk #[104, 111, 114, 105, 122, 111, 110]), .slice (some ⟨g, 0, none⟩) 1 1] W fun e w' => e = .returned (.string t6) ∧ Below W.heap.size W w') := Lib.hid (fun W g hB => by
        rw [← ht6]
        exact dline_any ([104, 111, 114, 105, 122, 111, 110]) (some ⟨g, 0, none⟩) 1 1 (fun i : Nat => [s10].getD i 0) W (by decide) (by decide) (wf1 HOKS.out.2.2.2.1) (fun _ => ⟨g, 0, rfl, hB.lt, fun i hi => by
          rw [Nat.zero_add, hB.cell i]
          rcases i with _ | i <;> first | rfl | omega⟩))
      have st6 : t6.size ≤ 300 := by
        rw [← ht6, bL_size]
        have := lnS_len ([104, 111, 114, 105, 122, 111, 110]) (fun i : Nat => [s10].getD i 0) 1 (wf1 HOKS.out.2.2.2.1)
        simp only [List.length_cons, List.length_nil] at this; omega
      obtain ⟨t7, ht7⟩ : ∃ t, bL (lnS ([98, 105, 110, 115]) (fun i : Nat => [s11, s12].getD i 0) 2) = t := ⟨_, rfl⟩
      have K7 : Hid (∀ (W : World) (g : Nat), Blk W g 3 #[.int .i64 s11, .int .i64 s12] → Calls Tryd.prog 16 #[.string (ByteArray.mk #[98, 105, 110, 115]), .slice (some ⟨g, 0, none⟩) 2 2] W fun e w' => e = .returned (.string t7) ∧ Below W.heap.size W w') := Lib.hid (fun W g hB => by
        rw [← ht7]
        exact dline_any ([98, 105, 110, 115]) (some ⟨g, 0, none⟩) 2 2 (fun i : Nat => [s11, s12].getD i 0) W (by decide) (by decide) (wf2 HOKS.out.2.2.2.2.1 HOKS.out.2.2.2.2.2) (fun _ => ⟨g, 0, rfl, hB.lt, fun i hi => by
          rw [Nat.zero_add, hB.cell i]
          rcases i with _ | _ | i <;> first | rfl | omega⟩))
      have st7 : t7.size ≤ 300 := by
        rw [← ht7, bL_size]
        have := lnS_len ([98, 105, 110, 115]) (fun i : Nat => [s11, s12].getD i 0) 2 (wf2 HOKS.out.2.2.2.2.1 HOKS.out.2.2.2.2.2)
        simp only [List.length_cons, List.length_nil] at this; omega
      have HFI : Hid (t ++ t5 ++ t6 ++ t7 = bL (txT s0 s1 s2 s3 s4 s5 s6 s7 s9 s10 s11 s12 k z)) := Lib.hid (by
        rw [HTX.out, ← ht5, ← ht6, ← ht7]
        unfold txT dpT tlT bL
        apply ByteArray.ext; apply Array.ext'; simp)
      have HQF : Hid (∀ w', Below w.heap.size w w' → Q (.returned (.tuple #[.string (t ++ t5 ++ t6 ++ t7), .int .i64 0])) w') := Lib.hid (fun w' h => by rw [HFI.out]; exact HQ0.out w' h)
      have y0 : ¬ 9223372036854775807 < 11 + td.size := by omega
      have e11 : (ByteArray.mk #[100, 105, 115, 112, 97, 116, 99, 104, 101, 114, 32]).size = 11 := rfl
      have y1 : ¬ 9223372036854775807 < t.size + t5.size := by omega
      have y2 : ¬ 9223372036854775807 < t.size + t5.size + t6.size := by omega
      have y3 : ¬ 9223372036854775807 < t.size + t5.size + t6.size + t7.size := by omega
      clear ht5 ht6 ht7
      go_wp2_with fail
      clear d8
      have kS0 : V.cell? ⟨w.heap.size, 0, none⟩ = some (.int .i64 s0) := HS.out.cell 0
      have kS1 : V.cell? ⟨w.heap.size, 1, none⟩ = some (.int .i64 s1) := HS.out.cell 1
      have kS2 : V.cell? ⟨w.heap.size, 2, none⟩ = some (.int .i64 s2) := HS.out.cell 2
      have kS3 : V.cell? ⟨w.heap.size, 3, none⟩ = some (.int .i64 s3) := HS.out.cell 3
      have kS4 : V.cell? ⟨w.heap.size, 4, none⟩ = some (.int .i64 s4) := HS.out.cell 4
      have kS5 : V.cell? ⟨w.heap.size, 5, none⟩ = some (.int .i64 s5) := HS.out.cell 5
      have kS6 : V.cell? ⟨w.heap.size, 6, none⟩ = some (.int .i64 s6) := HS.out.cell 6
      have kS7 : V.cell? ⟨w.heap.size, 7, none⟩ = some (.int .i64 s7) := HS.out.cell 7
      have kS8 : V.cell? ⟨w.heap.size, 8, none⟩ = some (.slice A k c) := HS.out.cell 8
      have kS9 : V.cell? ⟨w.heap.size, 9, none⟩ = some (.int .i64 s9) := HS.out.cell 9
      have kS10 : V.cell? ⟨w.heap.size, 10, none⟩ = some (.int .i64 s10) := HS.out.cell 10
      have kS11 : V.cell? ⟨w.heap.size, 11, none⟩ = some (.int .i64 s11) := HS.out.cell 11
      have kS12 : V.cell? ⟨w.heap.size, 12, none⟩ = some (.int .i64 s12) := HS.out.cell 12
      have sK : ∀ X, Blk X (w.heap.size) 25 #[.int .i64 s0, .int .i64 s1, .int .i64 s2, .int .i64 s3, .int .i64 s4, .int .i64 s5, .int .i64 s6, .int .i64 s7, .slice A k c, .int .i64 s9, .int .i64 s10, .int .i64 s11, .int .i64 s12] → (fun X => X.cell? ⟨w.heap.size, 0, none⟩ = some (.int .i64 s0) ∧ X.cell? ⟨w.heap.size, 1, none⟩ = some (.int .i64 s1) ∧ X.cell? ⟨w.heap.size, 2, none⟩ = some (.int .i64 s2) ∧ X.cell? ⟨w.heap.size, 3, none⟩ = some (.int .i64 s3) ∧ X.cell? ⟨w.heap.size, 4, none⟩ = some (.int .i64 s4) ∧ X.cell? ⟨w.heap.size, 5, none⟩ = some (.int .i64 s5) ∧ X.cell? ⟨w.heap.size, 6, none⟩ = some (.int .i64 s6) ∧ X.cell? ⟨w.heap.size, 7, none⟩ = some (.int .i64 s7) ∧ X.cell? ⟨w.heap.size, 8, none⟩ = some (.slice A k c) ∧ X.cell? ⟨w.heap.size, 9, none⟩ = some (.int .i64 s9) ∧ X.cell? ⟨w.heap.size, 10, none⟩ = some (.int .i64 s10) ∧ X.cell? ⟨w.heap.size, 11, none⟩ = some (.int .i64 s11) ∧ X.cell? ⟨w.heap.size, 12, none⟩ = some (.int .i64 s12)) X := fun X hS => ⟨hS.cell 0, hS.cell 1, hS.cell 2, hS.cell 3, hS.cell 4, hS.cell 5, hS.cell 6, hS.cell 7, hS.cell 8, hS.cell 9, hS.cell 10, hS.cell 11, hS.cell 12⟩
      have LS0 := Lib.hid (HS.out.drew)
      have E0 := Lib.hid (EE.out.drew)
      clear kS0 kS1 kS2 kS3 kS4 kS5 kS6 kS7 kS8 kS9 kS10 kS11 kS12
      refine wp_region_held_drew (S := (fun X => X.cell? ⟨w.heap.size, 0, none⟩ = some (.int .i64 s0) ∧ X.cell? ⟨w.heap.size, 1, none⟩ = some (.int .i64 s1) ∧ X.cell? ⟨w.heap.size, 2, none⟩ = some (.int .i64 s2) ∧ X.cell? ⟨w.heap.size, 3, none⟩ = some (.int .i64 s3) ∧ X.cell? ⟨w.heap.size, 4, none⟩ = some (.int .i64 s4) ∧ X.cell? ⟨w.heap.size, 5, none⟩ = some (.int .i64 s5) ∧ X.cell? ⟨w.heap.size, 6, none⟩ = some (.int .i64 s6) ∧ X.cell? ⟨w.heap.size, 7, none⟩ = some (.int .i64 s7) ∧ X.cell? ⟨w.heap.size, 8, none⟩ = some (.slice A k c) ∧ X.cell? ⟨w.heap.size, 9, none⟩ = some (.int .i64 s9) ∧ X.cell? ⟨w.heap.size, 10, none⟩ = some (.int .i64 s10) ∧ X.cell? ⟨w.heap.size, 11, none⟩ = some (.int .i64 s11) ∧ X.cell? ⟨w.heap.size, 12, none⟩ = some (.int .i64 s12))) (by kernel_rfl) (sK _ LS0.out) (fun hHeld => ?_)
      clear hHeld
      refine wpAnyH_take (i := 0) (v := ?_) rfl (by kernel_rfl) (by kernel_rfl) (by kernel_rfl) (fun _ _ _ h => h) (Or.inl ⟨by rfl, ?_⟩) (sK _ LS0.out) ?_
      rotate_left
      · (intro wS hSw; (try dsimp only at hSw); go_simp; try with_reducible rfl)
      simp only [Act.put, List.getElem_toArray, List.getElem_cons_zero, List.getElem_cons_succ, List.setIfInBounds_toArray, List.set_cons_zero, List.set_cons_succ]
      refine wpAnyH_take (i := 1) (v := ?_) rfl (by kernel_rfl) (by kernel_rfl) (by kernel_rfl) (fun _ _ _ h => h) (Or.inl ⟨by rfl, ?_⟩) (sK _ LS0.out) ?_
      rotate_left
      · (intro wS hSw; (try dsimp only at hSw); go_simp; try with_reducible rfl)
      simp only [Act.put, List.getElem_toArray, List.getElem_cons_zero, List.getElem_cons_succ, List.setIfInBounds_toArray, List.set_cons_zero, List.set_cons_succ]
      refine wpAnyH_take (i := 7) (v := ?_) rfl (by kernel_rfl) (by kernel_rfl) (by kernel_rfl) (fun _ _ _ h => h) (Or.inl ⟨by rfl, ?_⟩) (sK _ LS0.out) ?_
      rotate_left
      · (intro wS hSw; (try dsimp only at hSw); go_simp; try with_reducible rfl)
      simp only [Act.put, List.getElem_toArray, List.getElem_cons_zero, List.getElem_cons_succ, List.setIfInBounds_toArray, List.set_cons_zero, List.set_cons_succ]
      refine wpAnyH_take (i := 12) (v := ?_) rfl (by kernel_rfl) (by kernel_rfl) (by kernel_rfl) (fun _ _ _ h => h) (Or.inl ⟨by rfl, ?_⟩) (sK _ LS0.out) ?_
      rotate_left
      · (intro wS hSw; (try dsimp only at hSw); go_simp; try with_reducible rfl)
      simp only [Act.put, List.getElem_toArray, List.getElem_cons_zero, List.getElem_cons_succ, List.setIfInBounds_toArray, List.set_cons_zero, List.set_cons_succ]
      refine wpAnyH_take (i := 14) (v := ?_) rfl (by kernel_rfl) (by kernel_rfl) (by kernel_rfl) (fun _ _ _ h => h) (Or.inl ⟨by rfl, ?_⟩) (sK _ LS0.out) ?_
      rotate_left
      · (intro wS hSw; (try dsimp only at hSw); go_simp; try with_reducible rfl)
      simp only [Act.put, List.getElem_toArray, List.getElem_cons_zero, List.getElem_cons_succ, List.setIfInBounds_toArray, List.set_cons_zero, List.set_cons_succ]
      refine wpAnyH_take (i := 2) (v := ?_) rfl (by kernel_rfl) (by kernel_rfl) (by kernel_rfl) (fun _ _ _ h => h) (Or.inl ⟨by rfl, ?_⟩) (sK _ LS0.out) ?_
      rotate_left
      · (intro wS hSw; (try dsimp only at hSw); go_simp; try with_reducible rfl)
      simp only [Act.put, List.getElem_toArray, List.getElem_cons_zero, List.getElem_cons_succ, List.setIfInBounds_toArray, List.set_cons_zero, List.set_cons_succ]
      refine wpAnyH_take (i := 8) (v := ?_) rfl (by kernel_rfl) (by kernel_rfl) (by kernel_rfl) (fun _ _ _ h => h) (Or.inl ⟨by rfl, ?_⟩) (sK _ LS0.out) ?_
      rotate_left
      · (intro wS hSw; (try dsimp only at hSw); go_simp; try with_reducible rfl)
      simp only [Act.put, List.getElem_toArray, List.getElem_cons_zero, List.getElem_cons_succ, List.setIfInBounds_toArray, List.set_cons_zero, List.set_cons_succ]
      refine wpAnyH_take (i := 13) (v := ?_) rfl (by kernel_rfl) (by kernel_rfl) (by kernel_rfl) (fun _ _ _ h => h) (Or.inl ⟨by rfl, ?_⟩) (sK _ LS0.out) ?_
      rotate_left
      · (intro wS hSw; (try dsimp only at hSw); go_simp; try with_reducible rfl)
      simp only [Act.put, List.getElem_toArray, List.getElem_cons_zero, List.getElem_cons_succ, List.setIfInBounds_toArray, List.set_cons_zero, List.set_cons_succ]
      refine wpAnyH_take (i := 15) (v := ?_) rfl (by kernel_rfl) (by kernel_rfl) (by kernel_rfl) (fun _ _ _ h => h) (Or.inl ⟨by rfl, ?_⟩) (sK _ LS0.out) ?_
      rotate_left
      · (intro wS hSw; (try dsimp only at hSw); go_simp; try with_reducible rfl)
      simp only [Act.put, List.getElem_toArray, List.getElem_cons_zero, List.getElem_cons_succ, List.setIfInBounds_toArray, List.set_cons_zero, List.set_cons_succ]
      refine wpAnyH_ready (rs := [3, 9, 16]) (by kernel_rfl) (by simp) ?_
      refine AllReadyH.cons rfl (fun K hK => ?_) ?_
      · go_simp
        refine (KD.out _).mono ?_
        rintro e r1 ⟨rfl, hb⟩
        have LS1 := Lib.hid (Blk.next (w := V.drew) LS0.out hb)
        have E1 := Lib.hid (E0.out.trans (hb.mono E0.out.size))
        clear hb
        go_wp2_with fail
        refine hK.out _ _ (sK _ LS1.out) (fun hHeld => ?_)
        clear hK K hHeld
        try simp only [Act.put, List.getElem_toArray, List.getElem_cons_zero, List.getElem_cons_succ, List.setIfInBounds_toArray, List.set_cons_zero, List.set_cons_succ]
        refine wpAnyH_take (i := 4) (v := ?_) rfl (by kernel_rfl) (by kernel_rfl) (by kernel_rfl) (fun _ _ _ h => h) (Or.inl ⟨by rfl, ?_⟩) (sK _ LS1.out) ?_
        rotate_left
        · (intro wS hSw; (try dsimp only at hSw); go_simp; try with_reducible rfl)
        simp only [Act.put, List.getElem_toArray, List.getElem_cons_zero, List.getElem_cons_succ, List.setIfInBounds_toArray, List.set_cons_zero, List.set_cons_succ]
        refine wpAnyH_ready (rs := [5, 9, 16]) (by kernel_rfl) (by simp) ?_
        refine AllReadyH.cons rfl (fun K hK => ?_) ?_
        · go_simp
          refine (K5.out _ ).mono ?_
          rintro e r2 ⟨rfl, hb⟩
          have LS2 := Lib.hid (Blk.next (w := r1) LS1.out hb)
          have E2 := Lib.hid (E1.out.trans (hb.mono E1.out.size))
          clear hb
          go_wp2_with fail
          refine hK.out _ _ (sK _ LS2.out) (fun hHeld => ?_)
          clear hK K hHeld
          try simp only [Act.put, List.getElem_toArray, List.getElem_cons_zero, List.getElem_cons_succ, List.setIfInBounds_toArray, List.set_cons_zero, List.set_cons_succ]
          refine wpAnyH_take (i := 6) (v := ?_) rfl (by kernel_rfl) (by kernel_rfl) (by kernel_rfl) (fun _ _ _ h => h) (Or.inl ⟨by rfl, ?_⟩) (sK _ LS2.out) ?_
          rotate_left
          · (intro wS hSw; (try dsimp only at hSw); go_simp; try with_reducible rfl)
          simp only [Act.put, List.getElem_toArray, List.getElem_cons_zero, List.getElem_cons_succ, List.setIfInBounds_toArray, List.set_cons_zero, List.set_cons_succ]
          refine wpAnyH_ready (rs := [9, 16]) (by kernel_rfl) (by simp) ?_
          refine AllReadyH.cons rfl (fun K hK => ?_) ?_
          · go_simp
            have LS3 : Blk ((r2.alloc (.cells #[.int .i64 s10] 3))) (w.heap.size) 25 #[.int .i64 s0, .int .i64 s1, .int .i64 s2, .int .i64 s3, .int .i64 s4, .int .i64 s5, .int .i64 s6, .int .i64 s7, .slice A k c, .int .i64 s9, .int .i64 s10, .int .i64 s11, .int .i64 s12] := Blk.alloc (w := r2) LS2.out (.cells #[.int .i64 s10] 3)
            have LX3 : Blk ((r2.alloc (.cells #[.int .i64 s10] 3))) r2.heap.size 3 #[.int .i64 s10] := Blk.new r2 _ _
            have E3 : Below w.heap.size w ((r2.alloc (.cells #[.int .i64 s10] 3))) := (E2.out.alloc E2.out.size (.cells #[.int .i64 s10] 3))
            obtain ⟨r3, hr3⟩ : ∃ VV, (r2.alloc (.cells #[.int .i64 s10] 3)) = VV := ⟨_, rfl⟩
            obtain ⟨gX, hg3⟩ : ∃ g, r2.heap.size = g := ⟨_, rfl⟩
            try rw [hr3]
            try rw [hg3]
            simp only [hr3, hg3] at LS3 LX3 E3
            try simp only [hr3, hg3]
            clear hr3 hg3
            replace LS3 := Lib.hid LS3
            replace LX3 := Lib.hid LX3
            replace E3 := Lib.hid E3
            refine hK.out _ _ (sK _ LS3.out) (fun hHeld => ?_)
            clear hK K hHeld
            try simp only [Act.put, List.getElem_toArray, List.getElem_cons_zero, List.getElem_cons_succ, List.setIfInBounds_toArray, List.set_cons_zero, List.set_cons_succ]
            refine wpAnyH_ready (rs := [10, 16]) (by kernel_rfl) (by simp) ?_
            refine AllReadyH.cons rfl (fun K hK => ?_) ?_
            · go_simp
              refine (K6.out _ gX LX3.out).mono ?_
              rintro e r4 ⟨rfl, hb⟩
              have LS4 := Lib.hid (Blk.next (w := r3) LS3.out hb)
              have LX4 := Lib.hid (Blk.next (w := r3) LX3.out hb)
              have E4 := Lib.hid (E3.out.trans (hb.mono E3.out.size))
              clear hb
              go_wp2_with fail
              refine hK.out _ _ (sK _ LS4.out) (fun hHeld => ?_)
              clear hK K hHeld
              try simp only [Act.put, List.getElem_toArray, List.getElem_cons_zero, List.getElem_cons_succ, List.setIfInBounds_toArray, List.set_cons_zero, List.set_cons_succ]
              refine wpAnyH_take (i := 11) (v := ?_) rfl (by kernel_rfl) (by kernel_rfl) (by kernel_rfl) (fun _ _ _ h => h) (Or.inl ⟨by rfl, ?_⟩) (sK _ LS4.out) ?_
              rotate_left
              · (intro wS hSw; (try dsimp only at hSw); go_simp; try with_reducible rfl)
              simp only [Act.put, List.getElem_toArray, List.getElem_cons_zero, List.getElem_cons_succ, List.setIfInBounds_toArray, List.set_cons_zero, List.set_cons_succ]
              refine wpAnyH_ready (rs := [16]) (by kernel_rfl) (by simp) ?_
              refine AllReadyH.cons rfl (fun K hK => ?_) AllReadyH.nil
              go_simp
              have LS5 : Blk ((r4.alloc (.cells #[.int .i64 s11, .int .i64 s12] 3))) (w.heap.size) 25 #[.int .i64 s0, .int .i64 s1, .int .i64 s2, .int .i64 s3, .int .i64 s4, .int .i64 s5, .int .i64 s6, .int .i64 s7, .slice A k c, .int .i64 s9, .int .i64 s10, .int .i64 s11, .int .i64 s12] := Blk.alloc (w := r4) LS4.out (.cells #[.int .i64 s11, .int .i64 s12] 3)
              have LX5 : Blk ((r4.alloc (.cells #[.int .i64 s11, .int .i64 s12] 3))) (gX) 3 #[.int .i64 s10] := Blk.alloc (w := r4) LX4.out (.cells #[.int .i64 s11, .int .i64 s12] 3)
              have LY5 : Blk ((r4.alloc (.cells #[.int .i64 s11, .int .i64 s12] 3))) r4.heap.size 3 #[.int .i64 s11, .int .i64 s12] := Blk.new r4 _ _
              have E5 : Below w.heap.size w ((r4.alloc (.cells #[.int .i64 s11, .int .i64 s12] 3))) := (E4.out.alloc E4.out.size (.cells #[.int .i64 s11, .int .i64 s12] 3))
              obtain ⟨r5, hr5⟩ : ∃ VV, (r4.alloc (.cells #[.int .i64 s11, .int .i64 s12] 3)) = VV := ⟨_, rfl⟩
              obtain ⟨gY, hg5⟩ : ∃ g, r4.heap.size = g := ⟨_, rfl⟩
              try rw [hr5]
              try rw [hg5]
              simp only [hr5, hg5] at LS5 LX5 LY5 E5
              try simp only [hr5, hg5]
              clear hr5 hg5
              replace LS5 := Lib.hid LS5
              replace LX5 := Lib.hid LX5
              replace LY5 := Lib.hid LY5
              replace E5 := Lib.hid E5
              refine hK.out _ _ (sK _ LS5.out) (fun hHeld => ?_)
              clear hK K hHeld
              try simp only [Act.put, List.getElem_toArray, List.getElem_cons_zero, List.getElem_cons_succ, List.setIfInBounds_toArray, List.set_cons_zero, List.set_cons_succ]
              refine wpAnyH_ready (rs := [17]) (by kernel_rfl) (by simp) ?_
              refine AllReadyH.cons rfl (fun K hK => ?_) AllReadyH.nil
              go_simp
              refine (K7.out _ gY LY5.out).mono ?_
              rintro e r6 ⟨rfl, hb⟩
              have LS6 := Lib.hid (Blk.next (w := r5) LS5.out hb)
              have LX6 := Lib.hid (Blk.next (w := r5) LX5.out hb)
              have LY6 := Lib.hid (Blk.next (w := r5) LY5.out hb)
              have E6 := Lib.hid (E5.out.trans (hb.mono E5.out.size))
              clear hb
              go_wp2_with fail
              refine hK.out _ _ (sK _ LS6.out) (fun hHeld => ?_)
              clear hK K hHeld
              try simp only [Act.put, List.getElem_toArray, List.getElem_cons_zero, List.getElem_cons_succ, List.setIfInBounds_toArray, List.set_cons_zero, List.set_cons_succ]
              refine wpAnyH_take (i := 18) (v := ?_) rfl (by kernel_rfl) (by kernel_rfl) (by kernel_rfl) (fun _ _ _ h => h) (Or.inl ⟨by rfl, ?_⟩) (sK _ LS6.out) ?_
              rotate_left
              · (intro wS hSw; (try dsimp only at hSw); go_simp; try with_reducible rfl)
              simp only [Act.put, List.getElem_toArray, List.getElem_cons_zero, List.getElem_cons_succ, List.setIfInBounds_toArray, List.set_cons_zero, List.set_cons_succ]
              refine wpAnyH_take (i := 19) (v := ?_) rfl (by kernel_rfl) (by kernel_rfl) (by kernel_rfl) (fun _ _ _ h => h) (Or.inl ⟨by rfl, ?_⟩) (sK _ LS6.out) ?_
              rotate_left
              · (intro wS hSw; (try dsimp only at hSw); go_simp; try with_reducible rfl)
              simp only [Act.put, List.getElem_toArray, List.getElem_cons_zero, List.getElem_cons_succ, List.setIfInBounds_toArray, List.set_cons_zero, List.set_cons_succ]
              refine wpAnyH_take (i := 20) (v := ?_) rfl (by kernel_rfl) (by kernel_rfl) (by kernel_rfl) (fun _ _ _ h => h) (Or.inl ⟨by rfl, ?_⟩) (sK _ LS6.out) ?_
              rotate_left
              · (intro wS hSw; (try dsimp only at hSw); go_simp; try with_reducible rfl)
              simp only [Act.put, List.getElem_toArray, List.getElem_cons_zero, List.getElem_cons_succ, List.setIfInBounds_toArray, List.set_cons_zero, List.set_cons_succ]
              refine wpAnyH_done (by kernel_rfl) ?_ _
              go_wp2_with fail
              exact HQF.out _ E6.out
            refine AllReadyH.cons rfl (fun K hK => ?_) ?_
            · go_simp
              have LS4 : Blk ((r3.alloc (.cells #[.int .i64 s11, .int .i64 s12] 3))) (w.heap.size) 25 #[.int .i64 s0, .int .i64 s1, .int .i64 s2, .int .i64 s3, .int .i64 s4, .int .i64 s5, .int .i64 s6, .int .i64 s7, .slice A k c, .int .i64 s9, .int .i64 s10, .int .i64 s11, .int .i64 s12] := Blk.alloc (w := r3) LS3.out (.cells #[.int .i64 s11, .int .i64 s12] 3)
              have LX4 : Blk ((r3.alloc (.cells #[.int .i64 s11, .int .i64 s12] 3))) (gX) 3 #[.int .i64 s10] := Blk.alloc (w := r3) LX3.out (.cells #[.int .i64 s11, .int .i64 s12] 3)
              have LY4 : Blk ((r3.alloc (.cells #[.int .i64 s11, .int .i64 s12] 3))) r3.heap.size 3 #[.int .i64 s11, .int .i64 s12] := Blk.new r3 _ _
              have E4 : Below w.heap.size w ((r3.alloc (.cells #[.int .i64 s11, .int .i64 s12] 3))) := (E3.out.alloc E3.out.size (.cells #[.int .i64 s11, .int .i64 s12] 3))
              obtain ⟨r4, hr4⟩ : ∃ VV, (r3.alloc (.cells #[.int .i64 s11, .int .i64 s12] 3)) = VV := ⟨_, rfl⟩
              obtain ⟨gY, hg4⟩ : ∃ g, r3.heap.size = g := ⟨_, rfl⟩
              try rw [hr4]
              try rw [hg4]
              simp only [hr4, hg4] at LS4 LX4 LY4 E4
              try simp only [hr4, hg4]
              clear hr4 hg4
              replace LS4 := Lib.hid LS4
              replace LX4 := Lib.hid LX4
              replace LY4 := Lib.hid LY4
              replace E4 := Lib.hid E4
              refine hK.out _ _ (sK _ LS4.out) (fun hHeld => ?_)
              clear hK K hHeld
              try simp only [Act.put, List.getElem_toArray, List.getElem_cons_zero, List.getElem_cons_succ, List.setIfInBounds_toArray, List.set_cons_zero, List.set_cons_succ]
              refine wpAnyH_ready (rs := [10]) (by kernel_rfl) (by simp) ?_
              refine AllReadyH.cons rfl (fun K hK => ?_) AllReadyH.nil
              go_simp
              refine (K6.out _ gX LX4.out).mono ?_
              rintro e r5 ⟨rfl, hb⟩
              have LS5 := Lib.hid (Blk.next (w := r4) LS4.out hb)
              have LX5 := Lib.hid (Blk.next (w := r4) LX4.out hb)
              have LY5 := Lib.hid (Blk.next (w := r4) LY4.out hb)
              have E5 := Lib.hid (E4.out.trans (hb.mono E4.out.size))
              clear hb
              go_wp2_with fail
              refine hK.out _ _ (sK _ LS5.out) (fun hHeld => ?_)
              clear hK K hHeld
              try simp only [Act.put, List.getElem_toArray, List.getElem_cons_zero, List.getElem_cons_succ, List.setIfInBounds_toArray, List.set_cons_zero, List.set_cons_succ]
              refine wpAnyH_take (i := 11) (v := ?_) rfl (by kernel_rfl) (by kernel_rfl) (by kernel_rfl) (fun _ _ _ h => h) (Or.inl ⟨by rfl, ?_⟩) (sK _ LS5.out) ?_
              rotate_left
              · (intro wS hSw; (try dsimp only at hSw); go_simp; try with_reducible rfl)
              simp only [Act.put, List.getElem_toArray, List.getElem_cons_zero, List.getElem_cons_succ, List.setIfInBounds_toArray, List.set_cons_zero, List.set_cons_succ]
              refine wpAnyH_ready (rs := [17]) (by kernel_rfl) (by simp) ?_
              refine AllReadyH.cons rfl (fun K hK => ?_) AllReadyH.nil
              go_simp
              refine (K7.out _ gY LY5.out).mono ?_
              rintro e r6 ⟨rfl, hb⟩
              have LS6 := Lib.hid (Blk.next (w := r5) LS5.out hb)
              have LX6 := Lib.hid (Blk.next (w := r5) LX5.out hb)
              have LY6 := Lib.hid (Blk.next (w := r5) LY5.out hb)
              have E6 := Lib.hid (E5.out.trans (hb.mono E5.out.size))
              clear hb
              go_wp2_with fail
              refine hK.out _ _ (sK _ LS6.out) (fun hHeld => ?_)
              clear hK K hHeld
              try simp only [Act.put, List.getElem_toArray, List.getElem_cons_zero, List.getElem_cons_succ, List.setIfInBounds_toArray, List.set_cons_zero, List.set_cons_succ]
              refine wpAnyH_take (i := 18) (v := ?_) rfl (by kernel_rfl) (by kernel_rfl) (by kernel_rfl) (fun _ _ _ h => h) (Or.inl ⟨by rfl, ?_⟩) (sK _ LS6.out) ?_
              rotate_left
              · (intro wS hSw; (try dsimp only at hSw); go_simp; try with_reducible rfl)
              simp only [Act.put, List.getElem_toArray, List.getElem_cons_zero, List.getElem_cons_succ, List.setIfInBounds_toArray, List.set_cons_zero, List.set_cons_succ]
              refine wpAnyH_take (i := 19) (v := ?_) rfl (by kernel_rfl) (by kernel_rfl) (by kernel_rfl) (fun _ _ _ h => h) (Or.inl ⟨by rfl, ?_⟩) (sK _ LS6.out) ?_
              rotate_left
              · (intro wS hSw; (try dsimp only at hSw); go_simp; try with_reducible rfl)
              simp only [Act.put, List.getElem_toArray, List.getElem_cons_zero, List.getElem_cons_succ, List.setIfInBounds_toArray, List.set_cons_zero, List.set_cons_succ]
              refine wpAnyH_take (i := 20) (v := ?_) rfl (by kernel_rfl) (by kernel_rfl) (by kernel_rfl) (fun _ _ _ h => h) (Or.inl ⟨by rfl, ?_⟩) (sK _ LS6.out) ?_
              rotate_left
              · (intro wS hSw; (try dsimp only at hSw); go_simp; try with_reducible rfl)
              simp only [Act.put, List.getElem_toArray, List.getElem_cons_zero, List.getElem_cons_succ, List.setIfInBounds_toArray, List.set_cons_zero, List.set_cons_succ]
              refine wpAnyH_done (by kernel_rfl) ?_ _
              go_wp2_with fail
              exact HQF.out _ E6.out
            exact AllReadyH.nil
          refine AllReadyH.cons rfl (fun K hK => ?_) ?_
          · go_simp
            have LS3 : Blk ((r2.alloc (.cells #[.int .i64 s11, .int .i64 s12] 3))) (w.heap.size) 25 #[.int .i64 s0, .int .i64 s1, .int .i64 s2, .int .i64 s3, .int .i64 s4, .int .i64 s5, .int .i64 s6, .int .i64 s7, .slice A k c, .int .i64 s9, .int .i64 s10, .int .i64 s11, .int .i64 s12] := Blk.alloc (w := r2) LS2.out (.cells #[.int .i64 s11, .int .i64 s12] 3)
            have LY3 : Blk ((r2.alloc (.cells #[.int .i64 s11, .int .i64 s12] 3))) r2.heap.size 3 #[.int .i64 s11, .int .i64 s12] := Blk.new r2 _ _
            have E3 : Below w.heap.size w ((r2.alloc (.cells #[.int .i64 s11, .int .i64 s12] 3))) := (E2.out.alloc E2.out.size (.cells #[.int .i64 s11, .int .i64 s12] 3))
            obtain ⟨r3, hr3⟩ : ∃ VV, (r2.alloc (.cells #[.int .i64 s11, .int .i64 s12] 3)) = VV := ⟨_, rfl⟩
            obtain ⟨gY, hg3⟩ : ∃ g, r2.heap.size = g := ⟨_, rfl⟩
            try rw [hr3]
            try rw [hg3]
            simp only [hr3, hg3] at LS3 LY3 E3
            try simp only [hr3, hg3]
            clear hr3 hg3
            replace LS3 := Lib.hid LS3
            replace LY3 := Lib.hid LY3
            replace E3 := Lib.hid E3
            refine hK.out _ _ (sK _ LS3.out) (fun hHeld => ?_)
            clear hK K hHeld
            try simp only [Act.put, List.getElem_toArray, List.getElem_cons_zero, List.getElem_cons_succ, List.setIfInBounds_toArray, List.set_cons_zero, List.set_cons_succ]
            refine wpAnyH_ready (rs := [9]) (by kernel_rfl) (by simp) ?_
            refine AllReadyH.cons rfl (fun K hK => ?_) AllReadyH.nil
            go_simp
            have LS4 : Blk ((r3.alloc (.cells #[.int .i64 s10] 3))) (w.heap.size) 25 #[.int .i64 s0, .int .i64 s1, .int .i64 s2, .int .i64 s3, .int .i64 s4, .int .i64 s5, .int .i64 s6, .int .i64 s7, .slice A k c, .int .i64 s9, .int .i64 s10, .int .i64 s11, .int .i64 s12] := Blk.alloc (w := r3) LS3.out (.cells #[.int .i64 s10] 3)
            have LY4 : Blk ((r3.alloc (.cells #[.int .i64 s10] 3))) (gY) 3 #[.int .i64 s11, .int .i64 s12] := Blk.alloc (w := r3) LY3.out (.cells #[.int .i64 s10] 3)
            have LX4 : Blk ((r3.alloc (.cells #[.int .i64 s10] 3))) r3.heap.size 3 #[.int .i64 s10] := Blk.new r3 _ _
            have E4 : Below w.heap.size w ((r3.alloc (.cells #[.int .i64 s10] 3))) := (E3.out.alloc E3.out.size (.cells #[.int .i64 s10] 3))
            obtain ⟨r4, hr4⟩ : ∃ VV, (r3.alloc (.cells #[.int .i64 s10] 3)) = VV := ⟨_, rfl⟩
            obtain ⟨gX, hg4⟩ : ∃ g, r3.heap.size = g := ⟨_, rfl⟩
            try rw [hr4]
            try rw [hg4]
            simp only [hr4, hg4] at LS4 LY4 LX4 E4
            try simp only [hr4, hg4]
            clear hr4 hg4
            replace LS4 := Lib.hid LS4
            replace LY4 := Lib.hid LY4
            replace LX4 := Lib.hid LX4
            replace E4 := Lib.hid E4
            refine hK.out _ _ (sK _ LS4.out) (fun hHeld => ?_)
            clear hK K hHeld
            try simp only [Act.put, List.getElem_toArray, List.getElem_cons_zero, List.getElem_cons_succ, List.setIfInBounds_toArray, List.set_cons_zero, List.set_cons_succ]
            refine wpAnyH_ready (rs := [10]) (by kernel_rfl) (by simp) ?_
            refine AllReadyH.cons rfl (fun K hK => ?_) AllReadyH.nil
            go_simp
            refine (K6.out _ gX LX4.out).mono ?_
            rintro e r5 ⟨rfl, hb⟩
            have LS5 := Lib.hid (Blk.next (w := r4) LS4.out hb)
            have LY5 := Lib.hid (Blk.next (w := r4) LY4.out hb)
            have LX5 := Lib.hid (Blk.next (w := r4) LX4.out hb)
            have E5 := Lib.hid (E4.out.trans (hb.mono E4.out.size))
            clear hb
            go_wp2_with fail
            refine hK.out _ _ (sK _ LS5.out) (fun hHeld => ?_)
            clear hK K hHeld
            try simp only [Act.put, List.getElem_toArray, List.getElem_cons_zero, List.getElem_cons_succ, List.setIfInBounds_toArray, List.set_cons_zero, List.set_cons_succ]
            refine wpAnyH_take (i := 11) (v := ?_) rfl (by kernel_rfl) (by kernel_rfl) (by kernel_rfl) (fun _ _ _ h => h) (Or.inl ⟨by rfl, ?_⟩) (sK _ LS5.out) ?_
            rotate_left
            · (intro wS hSw; (try dsimp only at hSw); go_simp; try with_reducible rfl)
            simp only [Act.put, List.getElem_toArray, List.getElem_cons_zero, List.getElem_cons_succ, List.setIfInBounds_toArray, List.set_cons_zero, List.set_cons_succ]
            refine wpAnyH_ready (rs := [17]) (by kernel_rfl) (by simp) ?_
            refine AllReadyH.cons rfl (fun K hK => ?_) AllReadyH.nil
            go_simp
            refine (K7.out _ gY LY5.out).mono ?_
            rintro e r6 ⟨rfl, hb⟩
            have LS6 := Lib.hid (Blk.next (w := r5) LS5.out hb)
            have LY6 := Lib.hid (Blk.next (w := r5) LY5.out hb)
            have LX6 := Lib.hid (Blk.next (w := r5) LX5.out hb)
            have E6 := Lib.hid (E5.out.trans (hb.mono E5.out.size))
            clear hb
            go_wp2_with fail
            refine hK.out _ _ (sK _ LS6.out) (fun hHeld => ?_)
            clear hK K hHeld
            try simp only [Act.put, List.getElem_toArray, List.getElem_cons_zero, List.getElem_cons_succ, List.setIfInBounds_toArray, List.set_cons_zero, List.set_cons_succ]
            refine wpAnyH_take (i := 18) (v := ?_) rfl (by kernel_rfl) (by kernel_rfl) (by kernel_rfl) (fun _ _ _ h => h) (Or.inl ⟨by rfl, ?_⟩) (sK _ LS6.out) ?_
            rotate_left
            · (intro wS hSw; (try dsimp only at hSw); go_simp; try with_reducible rfl)
            simp only [Act.put, List.getElem_toArray, List.getElem_cons_zero, List.getElem_cons_succ, List.setIfInBounds_toArray, List.set_cons_zero, List.set_cons_succ]
            refine wpAnyH_take (i := 19) (v := ?_) rfl (by kernel_rfl) (by kernel_rfl) (by kernel_rfl) (fun _ _ _ h => h) (Or.inl ⟨by rfl, ?_⟩) (sK _ LS6.out) ?_
            rotate_left
            · (intro wS hSw; (try dsimp only at hSw); go_simp; try with_reducible rfl)
            simp only [Act.put, List.getElem_toArray, List.getElem_cons_zero, List.getElem_cons_succ, List.setIfInBounds_toArray, List.set_cons_zero, List.set_cons_succ]
            refine wpAnyH_take (i := 20) (v := ?_) rfl (by kernel_rfl) (by kernel_rfl) (by kernel_rfl) (fun _ _ _ h => h) (Or.inl ⟨by rfl, ?_⟩) (sK _ LS6.out) ?_
            rotate_left
            · (intro wS hSw; (try dsimp only at hSw); go_simp; try with_reducible rfl)
            simp only [Act.put, List.getElem_toArray, List.getElem_cons_zero, List.getElem_cons_succ, List.setIfInBounds_toArray, List.set_cons_zero, List.set_cons_succ]
            refine wpAnyH_done (by kernel_rfl) ?_ _
            go_wp2_with fail
            exact HQF.out _ E6.out
          exact AllReadyH.nil
        refine AllReadyH.cons rfl (fun K hK => ?_) ?_
        · go_simp
          have LS2 : Blk ((r1.alloc (.cells #[.int .i64 s10] 3))) (w.heap.size) 25 #[.int .i64 s0, .int .i64 s1, .int .i64 s2, .int .i64 s3, .int .i64 s4, .int .i64 s5, .int .i64 s6, .int .i64 s7, .slice A k c, .int .i64 s9, .int .i64 s10, .int .i64 s11, .int .i64 s12] := Blk.alloc (w := r1) LS1.out (.cells #[.int .i64 s10] 3)
          have LX2 : Blk ((r1.alloc (.cells #[.int .i64 s10] 3))) r1.heap.size 3 #[.int .i64 s10] := Blk.new r1 _ _
          have E2 : Below w.heap.size w ((r1.alloc (.cells #[.int .i64 s10] 3))) := (E1.out.alloc E1.out.size (.cells #[.int .i64 s10] 3))
          obtain ⟨r2, hr2⟩ : ∃ VV, (r1.alloc (.cells #[.int .i64 s10] 3)) = VV := ⟨_, rfl⟩
          obtain ⟨gX, hg2⟩ : ∃ g, r1.heap.size = g := ⟨_, rfl⟩
          try rw [hr2]
          try rw [hg2]
          simp only [hr2, hg2] at LS2 LX2 E2
          try simp only [hr2, hg2]
          clear hr2 hg2
          replace LS2 := Lib.hid LS2
          replace LX2 := Lib.hid LX2
          replace E2 := Lib.hid E2
          refine hK.out _ _ (sK _ LS2.out) (fun hHeld => ?_)
          clear hK K hHeld
          try simp only [Act.put, List.getElem_toArray, List.getElem_cons_zero, List.getElem_cons_succ, List.setIfInBounds_toArray, List.set_cons_zero, List.set_cons_succ]
          refine wpAnyH_ready (rs := [5, 16]) (by kernel_rfl) (by simp) ?_
          refine AllReadyH.cons rfl (fun K hK => ?_) ?_
          · go_simp
            refine (K5.out _ ).mono ?_
            rintro e r3 ⟨rfl, hb⟩
            have LS3 := Lib.hid (Blk.next (w := r2) LS2.out hb)
            have LX3 := Lib.hid (Blk.next (w := r2) LX2.out hb)
            have E3 := Lib.hid (E2.out.trans (hb.mono E2.out.size))
            clear hb
            go_wp2_with fail
            refine hK.out _ _ (sK _ LS3.out) (fun hHeld => ?_)
            clear hK K hHeld
            try simp only [Act.put, List.getElem_toArray, List.getElem_cons_zero, List.getElem_cons_succ, List.setIfInBounds_toArray, List.set_cons_zero, List.set_cons_succ]
            refine wpAnyH_take (i := 6) (v := ?_) rfl (by kernel_rfl) (by kernel_rfl) (by kernel_rfl) (fun _ _ _ h => h) (Or.inl ⟨by rfl, ?_⟩) (sK _ LS3.out) ?_
            rotate_left
            · (intro wS hSw; (try dsimp only at hSw); go_simp; try with_reducible rfl)
            simp only [Act.put, List.getElem_toArray, List.getElem_cons_zero, List.getElem_cons_succ, List.setIfInBounds_toArray, List.set_cons_zero, List.set_cons_succ]
            refine wpAnyH_ready (rs := [10, 16]) (by kernel_rfl) (by simp) ?_
            refine AllReadyH.cons rfl (fun K hK => ?_) ?_
            · go_simp
              refine (K6.out _ gX LX3.out).mono ?_
              rintro e r4 ⟨rfl, hb⟩
              have LS4 := Lib.hid (Blk.next (w := r3) LS3.out hb)
              have LX4 := Lib.hid (Blk.next (w := r3) LX3.out hb)
              have E4 := Lib.hid (E3.out.trans (hb.mono E3.out.size))
              clear hb
              go_wp2_with fail
              refine hK.out _ _ (sK _ LS4.out) (fun hHeld => ?_)
              clear hK K hHeld
              try simp only [Act.put, List.getElem_toArray, List.getElem_cons_zero, List.getElem_cons_succ, List.setIfInBounds_toArray, List.set_cons_zero, List.set_cons_succ]
              refine wpAnyH_take (i := 11) (v := ?_) rfl (by kernel_rfl) (by kernel_rfl) (by kernel_rfl) (fun _ _ _ h => h) (Or.inl ⟨by rfl, ?_⟩) (sK _ LS4.out) ?_
              rotate_left
              · (intro wS hSw; (try dsimp only at hSw); go_simp; try with_reducible rfl)
              simp only [Act.put, List.getElem_toArray, List.getElem_cons_zero, List.getElem_cons_succ, List.setIfInBounds_toArray, List.set_cons_zero, List.set_cons_succ]
              refine wpAnyH_ready (rs := [16]) (by kernel_rfl) (by simp) ?_
              refine AllReadyH.cons rfl (fun K hK => ?_) AllReadyH.nil
              go_simp
              have LS5 : Blk ((r4.alloc (.cells #[.int .i64 s11, .int .i64 s12] 3))) (w.heap.size) 25 #[.int .i64 s0, .int .i64 s1, .int .i64 s2, .int .i64 s3, .int .i64 s4, .int .i64 s5, .int .i64 s6, .int .i64 s7, .slice A k c, .int .i64 s9, .int .i64 s10, .int .i64 s11, .int .i64 s12] := Blk.alloc (w := r4) LS4.out (.cells #[.int .i64 s11, .int .i64 s12] 3)
              have LX5 : Blk ((r4.alloc (.cells #[.int .i64 s11, .int .i64 s12] 3))) (gX) 3 #[.int .i64 s10] := Blk.alloc (w := r4) LX4.out (.cells #[.int .i64 s11, .int .i64 s12] 3)
              have LY5 : Blk ((r4.alloc (.cells #[.int .i64 s11, .int .i64 s12] 3))) r4.heap.size 3 #[.int .i64 s11, .int .i64 s12] := Blk.new r4 _ _
              have E5 : Below w.heap.size w ((r4.alloc (.cells #[.int .i64 s11, .int .i64 s12] 3))) := (E4.out.alloc E4.out.size (.cells #[.int .i64 s11, .int .i64 s12] 3))
              obtain ⟨r5, hr5⟩ : ∃ VV, (r4.alloc (.cells #[.int .i64 s11, .int .i64 s12] 3)) = VV := ⟨_, rfl⟩
              obtain ⟨gY, hg5⟩ : ∃ g, r4.heap.size = g := ⟨_, rfl⟩
              try rw [hr5]
              try rw [hg5]
              simp only [hr5, hg5] at LS5 LX5 LY5 E5
              try simp only [hr5, hg5]
              clear hr5 hg5
              replace LS5 := Lib.hid LS5
              replace LX5 := Lib.hid LX5
              replace LY5 := Lib.hid LY5
              replace E5 := Lib.hid E5
              refine hK.out _ _ (sK _ LS5.out) (fun hHeld => ?_)
              clear hK K hHeld
              try simp only [Act.put, List.getElem_toArray, List.getElem_cons_zero, List.getElem_cons_succ, List.setIfInBounds_toArray, List.set_cons_zero, List.set_cons_succ]
              refine wpAnyH_ready (rs := [17]) (by kernel_rfl) (by simp) ?_
              refine AllReadyH.cons rfl (fun K hK => ?_) AllReadyH.nil
              go_simp
              refine (K7.out _ gY LY5.out).mono ?_
              rintro e r6 ⟨rfl, hb⟩
              have LS6 := Lib.hid (Blk.next (w := r5) LS5.out hb)
              have LX6 := Lib.hid (Blk.next (w := r5) LX5.out hb)
              have LY6 := Lib.hid (Blk.next (w := r5) LY5.out hb)
              have E6 := Lib.hid (E5.out.trans (hb.mono E5.out.size))
              clear hb
              go_wp2_with fail
              refine hK.out _ _ (sK _ LS6.out) (fun hHeld => ?_)
              clear hK K hHeld
              try simp only [Act.put, List.getElem_toArray, List.getElem_cons_zero, List.getElem_cons_succ, List.setIfInBounds_toArray, List.set_cons_zero, List.set_cons_succ]
              refine wpAnyH_take (i := 18) (v := ?_) rfl (by kernel_rfl) (by kernel_rfl) (by kernel_rfl) (fun _ _ _ h => h) (Or.inl ⟨by rfl, ?_⟩) (sK _ LS6.out) ?_
              rotate_left
              · (intro wS hSw; (try dsimp only at hSw); go_simp; try with_reducible rfl)
              simp only [Act.put, List.getElem_toArray, List.getElem_cons_zero, List.getElem_cons_succ, List.setIfInBounds_toArray, List.set_cons_zero, List.set_cons_succ]
              refine wpAnyH_take (i := 19) (v := ?_) rfl (by kernel_rfl) (by kernel_rfl) (by kernel_rfl) (fun _ _ _ h => h) (Or.inl ⟨by rfl, ?_⟩) (sK _ LS6.out) ?_
              rotate_left
              · (intro wS hSw; (try dsimp only at hSw); go_simp; try with_reducible rfl)
              simp only [Act.put, List.getElem_toArray, List.getElem_cons_zero, List.getElem_cons_succ, List.setIfInBounds_toArray, List.set_cons_zero, List.set_cons_succ]
              refine wpAnyH_take (i := 20) (v := ?_) rfl (by kernel_rfl) (by kernel_rfl) (by kernel_rfl) (fun _ _ _ h => h) (Or.inl ⟨by rfl, ?_⟩) (sK _ LS6.out) ?_
              rotate_left
              · (intro wS hSw; (try dsimp only at hSw); go_simp; try with_reducible rfl)
              simp only [Act.put, List.getElem_toArray, List.getElem_cons_zero, List.getElem_cons_succ, List.setIfInBounds_toArray, List.set_cons_zero, List.set_cons_succ]
              refine wpAnyH_done (by kernel_rfl) ?_ _
              go_wp2_with fail
              exact HQF.out _ E6.out
            refine AllReadyH.cons rfl (fun K hK => ?_) ?_
            · go_simp
              have LS4 : Blk ((r3.alloc (.cells #[.int .i64 s11, .int .i64 s12] 3))) (w.heap.size) 25 #[.int .i64 s0, .int .i64 s1, .int .i64 s2, .int .i64 s3, .int .i64 s4, .int .i64 s5, .int .i64 s6, .int .i64 s7, .slice A k c, .int .i64 s9, .int .i64 s10, .int .i64 s11, .int .i64 s12] := Blk.alloc (w := r3) LS3.out (.cells #[.int .i64 s11, .int .i64 s12] 3)
              have LX4 : Blk ((r3.alloc (.cells #[.int .i64 s11, .int .i64 s12] 3))) (gX) 3 #[.int .i64 s10] := Blk.alloc (w := r3) LX3.out (.cells #[.int .i64 s11, .int .i64 s12] 3)
              have LY4 : Blk ((r3.alloc (.cells #[.int .i64 s11, .int .i64 s12] 3))) r3.heap.size 3 #[.int .i64 s11, .int .i64 s12] := Blk.new r3 _ _
              have E4 : Below w.heap.size w ((r3.alloc (.cells #[.int .i64 s11, .int .i64 s12] 3))) := (E3.out.alloc E3.out.size (.cells #[.int .i64 s11, .int .i64 s12] 3))
              obtain ⟨r4, hr4⟩ : ∃ VV, (r3.alloc (.cells #[.int .i64 s11, .int .i64 s12] 3)) = VV := ⟨_, rfl⟩
              obtain ⟨gY, hg4⟩ : ∃ g, r3.heap.size = g := ⟨_, rfl⟩
              try rw [hr4]
              try rw [hg4]
              simp only [hr4, hg4] at LS4 LX4 LY4 E4
              try simp only [hr4, hg4]
              clear hr4 hg4
              replace LS4 := Lib.hid LS4
              replace LX4 := Lib.hid LX4
              replace LY4 := Lib.hid LY4
              replace E4 := Lib.hid E4
              refine hK.out _ _ (sK _ LS4.out) (fun hHeld => ?_)
              clear hK K hHeld
              try simp only [Act.put, List.getElem_toArray, List.getElem_cons_zero, List.getElem_cons_succ, List.setIfInBounds_toArray, List.set_cons_zero, List.set_cons_succ]
              refine wpAnyH_ready (rs := [10]) (by kernel_rfl) (by simp) ?_
              refine AllReadyH.cons rfl (fun K hK => ?_) AllReadyH.nil
              go_simp
              refine (K6.out _ gX LX4.out).mono ?_
              rintro e r5 ⟨rfl, hb⟩
              have LS5 := Lib.hid (Blk.next (w := r4) LS4.out hb)
              have LX5 := Lib.hid (Blk.next (w := r4) LX4.out hb)
              have LY5 := Lib.hid (Blk.next (w := r4) LY4.out hb)
              have E5 := Lib.hid (E4.out.trans (hb.mono E4.out.size))
              clear hb
              go_wp2_with fail
              refine hK.out _ _ (sK _ LS5.out) (fun hHeld => ?_)
              clear hK K hHeld
              try simp only [Act.put, List.getElem_toArray, List.getElem_cons_zero, List.getElem_cons_succ, List.setIfInBounds_toArray, List.set_cons_zero, List.set_cons_succ]
              refine wpAnyH_take (i := 11) (v := ?_) rfl (by kernel_rfl) (by kernel_rfl) (by kernel_rfl) (fun _ _ _ h => h) (Or.inl ⟨by rfl, ?_⟩) (sK _ LS5.out) ?_
              rotate_left
              · (intro wS hSw; (try dsimp only at hSw); go_simp; try with_reducible rfl)
              simp only [Act.put, List.getElem_toArray, List.getElem_cons_zero, List.getElem_cons_succ, List.setIfInBounds_toArray, List.set_cons_zero, List.set_cons_succ]
              refine wpAnyH_ready (rs := [17]) (by kernel_rfl) (by simp) ?_
              refine AllReadyH.cons rfl (fun K hK => ?_) AllReadyH.nil
              go_simp
              refine (K7.out _ gY LY5.out).mono ?_
              rintro e r6 ⟨rfl, hb⟩
              have LS6 := Lib.hid (Blk.next (w := r5) LS5.out hb)
              have LX6 := Lib.hid (Blk.next (w := r5) LX5.out hb)
              have LY6 := Lib.hid (Blk.next (w := r5) LY5.out hb)
              have E6 := Lib.hid (E5.out.trans (hb.mono E5.out.size))
              clear hb
              go_wp2_with fail
              refine hK.out _ _ (sK _ LS6.out) (fun hHeld => ?_)
              clear hK K hHeld
              try simp only [Act.put, List.getElem_toArray, List.getElem_cons_zero, List.getElem_cons_succ, List.setIfInBounds_toArray, List.set_cons_zero, List.set_cons_succ]
              refine wpAnyH_take (i := 18) (v := ?_) rfl (by kernel_rfl) (by kernel_rfl) (by kernel_rfl) (fun _ _ _ h => h) (Or.inl ⟨by rfl, ?_⟩) (sK _ LS6.out) ?_
              rotate_left
              · (intro wS hSw; (try dsimp only at hSw); go_simp; try with_reducible rfl)
              simp only [Act.put, List.getElem_toArray, List.getElem_cons_zero, List.getElem_cons_succ, List.setIfInBounds_toArray, List.set_cons_zero, List.set_cons_succ]
              refine wpAnyH_take (i := 19) (v := ?_) rfl (by kernel_rfl) (by kernel_rfl) (by kernel_rfl) (fun _ _ _ h => h) (Or.inl ⟨by rfl, ?_⟩) (sK _ LS6.out) ?_
              rotate_left
              · (intro wS hSw; (try dsimp only at hSw); go_simp; try with_reducible rfl)
              simp only [Act.put, List.getElem_toArray, List.getElem_cons_zero, List.getElem_cons_succ, List.setIfInBounds_toArray, List.set_cons_zero, List.set_cons_succ]
              refine wpAnyH_take (i := 20) (v := ?_) rfl (by kernel_rfl) (by kernel_rfl) (by kernel_rfl) (fun _ _ _ h => h) (Or.inl ⟨by rfl, ?_⟩) (sK _ LS6.out) ?_
              rotate_left
              · (intro wS hSw; (try dsimp only at hSw); go_simp; try with_reducible rfl)
              simp only [Act.put, List.getElem_toArray, List.getElem_cons_zero, List.getElem_cons_succ, List.setIfInBounds_toArray, List.set_cons_zero, List.set_cons_succ]
              refine wpAnyH_done (by kernel_rfl) ?_ _
              go_wp2_with fail
              exact HQF.out _ E6.out
            exact AllReadyH.nil
          refine AllReadyH.cons rfl (fun K hK => ?_) ?_
          · go_simp
            have LS3 : Blk ((r2.alloc (.cells #[.int .i64 s11, .int .i64 s12] 3))) (w.heap.size) 25 #[.int .i64 s0, .int .i64 s1, .int .i64 s2, .int .i64 s3, .int .i64 s4, .int .i64 s5, .int .i64 s6, .int .i64 s7, .slice A k c, .int .i64 s9, .int .i64 s10, .int .i64 s11, .int .i64 s12] := Blk.alloc (w := r2) LS2.out (.cells #[.int .i64 s11, .int .i64 s12] 3)
            have LX3 : Blk ((r2.alloc (.cells #[.int .i64 s11, .int .i64 s12] 3))) (gX) 3 #[.int .i64 s10] := Blk.alloc (w := r2) LX2.out (.cells #[.int .i64 s11, .int .i64 s12] 3)
            have LY3 : Blk ((r2.alloc (.cells #[.int .i64 s11, .int .i64 s12] 3))) r2.heap.size 3 #[.int .i64 s11, .int .i64 s12] := Blk.new r2 _ _
            have E3 : Below w.heap.size w ((r2.alloc (.cells #[.int .i64 s11, .int .i64 s12] 3))) := (E2.out.alloc E2.out.size (.cells #[.int .i64 s11, .int .i64 s12] 3))
            obtain ⟨r3, hr3⟩ : ∃ VV, (r2.alloc (.cells #[.int .i64 s11, .int .i64 s12] 3)) = VV := ⟨_, rfl⟩
            obtain ⟨gY, hg3⟩ : ∃ g, r2.heap.size = g := ⟨_, rfl⟩
            try rw [hr3]
            try rw [hg3]
            simp only [hr3, hg3] at LS3 LX3 LY3 E3
            try simp only [hr3, hg3]
            clear hr3 hg3
            replace LS3 := Lib.hid LS3
            replace LX3 := Lib.hid LX3
            replace LY3 := Lib.hid LY3
            replace E3 := Lib.hid E3
            refine hK.out _ _ (sK _ LS3.out) (fun hHeld => ?_)
            clear hK K hHeld
            try simp only [Act.put, List.getElem_toArray, List.getElem_cons_zero, List.getElem_cons_succ, List.setIfInBounds_toArray, List.set_cons_zero, List.set_cons_succ]
            refine wpAnyH_ready (rs := [5]) (by kernel_rfl) (by simp) ?_
            refine AllReadyH.cons rfl (fun K hK => ?_) AllReadyH.nil
            go_simp
            refine (K5.out _ ).mono ?_
            rintro e r4 ⟨rfl, hb⟩
            have LS4 := Lib.hid (Blk.next (w := r3) LS3.out hb)
            have LX4 := Lib.hid (Blk.next (w := r3) LX3.out hb)
            have LY4 := Lib.hid (Blk.next (w := r3) LY3.out hb)
            have E4 := Lib.hid (E3.out.trans (hb.mono E3.out.size))
            clear hb
            go_wp2_with fail
            refine hK.out _ _ (sK _ LS4.out) (fun hHeld => ?_)
            clear hK K hHeld
            try simp only [Act.put, List.getElem_toArray, List.getElem_cons_zero, List.getElem_cons_succ, List.setIfInBounds_toArray, List.set_cons_zero, List.set_cons_succ]
            refine wpAnyH_take (i := 6) (v := ?_) rfl (by kernel_rfl) (by kernel_rfl) (by kernel_rfl) (fun _ _ _ h => h) (Or.inl ⟨by rfl, ?_⟩) (sK _ LS4.out) ?_
            rotate_left
            · (intro wS hSw; (try dsimp only at hSw); go_simp; try with_reducible rfl)
            simp only [Act.put, List.getElem_toArray, List.getElem_cons_zero, List.getElem_cons_succ, List.setIfInBounds_toArray, List.set_cons_zero, List.set_cons_succ]
            refine wpAnyH_ready (rs := [10]) (by kernel_rfl) (by simp) ?_
            refine AllReadyH.cons rfl (fun K hK => ?_) AllReadyH.nil
            go_simp
            refine (K6.out _ gX LX4.out).mono ?_
            rintro e r5 ⟨rfl, hb⟩
            have LS5 := Lib.hid (Blk.next (w := r4) LS4.out hb)
            have LX5 := Lib.hid (Blk.next (w := r4) LX4.out hb)
            have LY5 := Lib.hid (Blk.next (w := r4) LY4.out hb)
            have E5 := Lib.hid (E4.out.trans (hb.mono E4.out.size))
            clear hb
            go_wp2_with fail
            refine hK.out _ _ (sK _ LS5.out) (fun hHeld => ?_)
            clear hK K hHeld
            try simp only [Act.put, List.getElem_toArray, List.getElem_cons_zero, List.getElem_cons_succ, List.setIfInBounds_toArray, List.set_cons_zero, List.set_cons_succ]
            refine wpAnyH_take (i := 11) (v := ?_) rfl (by kernel_rfl) (by kernel_rfl) (by kernel_rfl) (fun _ _ _ h => h) (Or.inl ⟨by rfl, ?_⟩) (sK _ LS5.out) ?_
            rotate_left
            · (intro wS hSw; (try dsimp only at hSw); go_simp; try with_reducible rfl)
            simp only [Act.put, List.getElem_toArray, List.getElem_cons_zero, List.getElem_cons_succ, List.setIfInBounds_toArray, List.set_cons_zero, List.set_cons_succ]
            refine wpAnyH_ready (rs := [17]) (by kernel_rfl) (by simp) ?_
            refine AllReadyH.cons rfl (fun K hK => ?_) AllReadyH.nil
            go_simp
            refine (K7.out _ gY LY5.out).mono ?_
            rintro e r6 ⟨rfl, hb⟩
            have LS6 := Lib.hid (Blk.next (w := r5) LS5.out hb)
            have LX6 := Lib.hid (Blk.next (w := r5) LX5.out hb)
            have LY6 := Lib.hid (Blk.next (w := r5) LY5.out hb)
            have E6 := Lib.hid (E5.out.trans (hb.mono E5.out.size))
            clear hb
            go_wp2_with fail
            refine hK.out _ _ (sK _ LS6.out) (fun hHeld => ?_)
            clear hK K hHeld
            try simp only [Act.put, List.getElem_toArray, List.getElem_cons_zero, List.getElem_cons_succ, List.setIfInBounds_toArray, List.set_cons_zero, List.set_cons_succ]
            refine wpAnyH_take (i := 18) (v := ?_) rfl (by kernel_rfl) (by kernel_rfl) (by kernel_rfl) (fun _ _ _ h => h) (Or.inl ⟨by rfl, ?_⟩) (sK _ LS6.out) ?_
            rotate_left
            · (intro wS hSw; (try dsimp only at hSw); go_simp; try with_reducible rfl)
            simp only [Act.put, List.getElem_toArray, List.getElem_cons_zero, List.getElem_cons_succ, List.setIfInBounds_toArray, List.set_cons_zero, List.set_cons_succ]
            refine wpAnyH_take (i := 19) (v := ?_) rfl (by kernel_rfl) (by kernel_rfl) (by kernel_rfl) (fun _ _ _ h => h) (Or.inl ⟨by rfl, ?_⟩) (sK _ LS6.out) ?_
            rotate_left
            · (intro wS hSw; (try dsimp only at hSw); go_simp; try with_reducible rfl)
            simp only [Act.put, List.getElem_toArray, List.getElem_cons_zero, List.getElem_cons_succ, List.setIfInBounds_toArray, List.set_cons_zero, List.set_cons_succ]
            refine wpAnyH_take (i := 20) (v := ?_) rfl (by kernel_rfl) (by kernel_rfl) (by kernel_rfl) (fun _ _ _ h => h) (Or.inl ⟨by rfl, ?_⟩) (sK _ LS6.out) ?_
            rotate_left
            · (intro wS hSw; (try dsimp only at hSw); go_simp; try with_reducible rfl)
            simp only [Act.put, List.getElem_toArray, List.getElem_cons_zero, List.getElem_cons_succ, List.setIfInBounds_toArray, List.set_cons_zero, List.set_cons_succ]
            refine wpAnyH_done (by kernel_rfl) ?_ _
            go_wp2_with fail
            exact HQF.out _ E6.out
          exact AllReadyH.nil
        refine AllReadyH.cons rfl (fun K hK => ?_) ?_
        · go_simp
          have LS2 : Blk ((r1.alloc (.cells #[.int .i64 s11, .int .i64 s12] 3))) (w.heap.size) 25 #[.int .i64 s0, .int .i64 s1, .int .i64 s2, .int .i64 s3, .int .i64 s4, .int .i64 s5, .int .i64 s6, .int .i64 s7, .slice A k c, .int .i64 s9, .int .i64 s10, .int .i64 s11, .int .i64 s12] := Blk.alloc (w := r1) LS1.out (.cells #[.int .i64 s11, .int .i64 s12] 3)
          have LY2 : Blk ((r1.alloc (.cells #[.int .i64 s11, .int .i64 s12] 3))) r1.heap.size 3 #[.int .i64 s11, .int .i64 s12] := Blk.new r1 _ _
          have E2 : Below w.heap.size w ((r1.alloc (.cells #[.int .i64 s11, .int .i64 s12] 3))) := (E1.out.alloc E1.out.size (.cells #[.int .i64 s11, .int .i64 s12] 3))
          obtain ⟨r2, hr2⟩ : ∃ VV, (r1.alloc (.cells #[.int .i64 s11, .int .i64 s12] 3)) = VV := ⟨_, rfl⟩
          obtain ⟨gY, hg2⟩ : ∃ g, r1.heap.size = g := ⟨_, rfl⟩
          try rw [hr2]
          try rw [hg2]
          simp only [hr2, hg2] at LS2 LY2 E2
          try simp only [hr2, hg2]
          clear hr2 hg2
          replace LS2 := Lib.hid LS2
          replace LY2 := Lib.hid LY2
          replace E2 := Lib.hid E2
          refine hK.out _ _ (sK _ LS2.out) (fun hHeld => ?_)
          clear hK K hHeld
          try simp only [Act.put, List.getElem_toArray, List.getElem_cons_zero, List.getElem_cons_succ, List.setIfInBounds_toArray, List.set_cons_zero, List.set_cons_succ]
          refine wpAnyH_ready (rs := [5, 9]) (by kernel_rfl) (by simp) ?_
          refine AllReadyH.cons rfl (fun K hK => ?_) ?_
          · go_simp
            refine (K5.out _ ).mono ?_
            rintro e r3 ⟨rfl, hb⟩
            have LS3 := Lib.hid (Blk.next (w := r2) LS2.out hb)
            have LY3 := Lib.hid (Blk.next (w := r2) LY2.out hb)
            have E3 := Lib.hid (E2.out.trans (hb.mono E2.out.size))
            clear hb
            go_wp2_with fail
            refine hK.out _ _ (sK _ LS3.out) (fun hHeld => ?_)
            clear hK K hHeld
            try simp only [Act.put, List.getElem_toArray, List.getElem_cons_zero, List.getElem_cons_succ, List.setIfInBounds_toArray, List.set_cons_zero, List.set_cons_succ]
            refine wpAnyH_take (i := 6) (v := ?_) rfl (by kernel_rfl) (by kernel_rfl) (by kernel_rfl) (fun _ _ _ h => h) (Or.inl ⟨by rfl, ?_⟩) (sK _ LS3.out) ?_
            rotate_left
            · (intro wS hSw; (try dsimp only at hSw); go_simp; try with_reducible rfl)
            simp only [Act.put, List.getElem_toArray, List.getElem_cons_zero, List.getElem_cons_succ, List.setIfInBounds_toArray, List.set_cons_zero, List.set_cons_succ]
            refine wpAnyH_ready (rs := [9]) (by kernel_rfl) (by simp) ?_
            refine AllReadyH.cons rfl (fun K hK => ?_) AllReadyH.nil
            go_simp
            have LS4 : Blk ((r3.alloc (.cells #[.int .i64 s10] 3))) (w.heap.size) 25 #[.int .i64 s0, .int .i64 s1, .int .i64 s2, .int .i64 s3, .int .i64 s4, .int .i64 s5, .int .i64 s6, .int .i64 s7, .slice A k c, .int .i64 s9, .int .i64 s10, .int .i64 s11, .int .i64 s12] := Blk.alloc (w := r3) LS3.out (.cells #[.int .i64 s10] 3)
            have LY4 : Blk ((r3.alloc (.cells #[.int .i64 s10] 3))) (gY) 3 #[.int .i64 s11, .int .i64 s12] := Blk.alloc (w := r3) LY3.out (.cells #[.int .i64 s10] 3)
            have LX4 : Blk ((r3.alloc (.cells #[.int .i64 s10] 3))) r3.heap.size 3 #[.int .i64 s10] := Blk.new r3 _ _
            have E4 : Below w.heap.size w ((r3.alloc (.cells #[.int .i64 s10] 3))) := (E3.out.alloc E3.out.size (.cells #[.int .i64 s10] 3))
            obtain ⟨r4, hr4⟩ : ∃ VV, (r3.alloc (.cells #[.int .i64 s10] 3)) = VV := ⟨_, rfl⟩
            obtain ⟨gX, hg4⟩ : ∃ g, r3.heap.size = g := ⟨_, rfl⟩
            try rw [hr4]
            try rw [hg4]
            simp only [hr4, hg4] at LS4 LY4 LX4 E4
            try simp only [hr4, hg4]
            clear hr4 hg4
            replace LS4 := Lib.hid LS4
            replace LY4 := Lib.hid LY4
            replace LX4 := Lib.hid LX4
            replace E4 := Lib.hid E4
            refine hK.out _ _ (sK _ LS4.out) (fun hHeld => ?_)
            clear hK K hHeld
            try simp only [Act.put, List.getElem_toArray, List.getElem_cons_zero, List.getElem_cons_succ, List.setIfInBounds_toArray, List.set_cons_zero, List.set_cons_succ]
            refine wpAnyH_ready (rs := [10]) (by kernel_rfl) (by simp) ?_
            refine AllReadyH.cons rfl (fun K hK => ?_) AllReadyH.nil
            go_simp
            refine (K6.out _ gX LX4.out).mono ?_
            rintro e r5 ⟨rfl, hb⟩
            have LS5 := Lib.hid (Blk.next (w := r4) LS4.out hb)
            have LY5 := Lib.hid (Blk.next (w := r4) LY4.out hb)
            have LX5 := Lib.hid (Blk.next (w := r4) LX4.out hb)
            have E5 := Lib.hid (E4.out.trans (hb.mono E4.out.size))
            clear hb
            go_wp2_with fail
            refine hK.out _ _ (sK _ LS5.out) (fun hHeld => ?_)
            clear hK K hHeld
            try simp only [Act.put, List.getElem_toArray, List.getElem_cons_zero, List.getElem_cons_succ, List.setIfInBounds_toArray, List.set_cons_zero, List.set_cons_succ]
            refine wpAnyH_take (i := 11) (v := ?_) rfl (by kernel_rfl) (by kernel_rfl) (by kernel_rfl) (fun _ _ _ h => h) (Or.inl ⟨by rfl, ?_⟩) (sK _ LS5.out) ?_
            rotate_left
            · (intro wS hSw; (try dsimp only at hSw); go_simp; try with_reducible rfl)
            simp only [Act.put, List.getElem_toArray, List.getElem_cons_zero, List.getElem_cons_succ, List.setIfInBounds_toArray, List.set_cons_zero, List.set_cons_succ]
            refine wpAnyH_ready (rs := [17]) (by kernel_rfl) (by simp) ?_
            refine AllReadyH.cons rfl (fun K hK => ?_) AllReadyH.nil
            go_simp
            refine (K7.out _ gY LY5.out).mono ?_
            rintro e r6 ⟨rfl, hb⟩
            have LS6 := Lib.hid (Blk.next (w := r5) LS5.out hb)
            have LY6 := Lib.hid (Blk.next (w := r5) LY5.out hb)
            have LX6 := Lib.hid (Blk.next (w := r5) LX5.out hb)
            have E6 := Lib.hid (E5.out.trans (hb.mono E5.out.size))
            clear hb
            go_wp2_with fail
            refine hK.out _ _ (sK _ LS6.out) (fun hHeld => ?_)
            clear hK K hHeld
            try simp only [Act.put, List.getElem_toArray, List.getElem_cons_zero, List.getElem_cons_succ, List.setIfInBounds_toArray, List.set_cons_zero, List.set_cons_succ]
            refine wpAnyH_take (i := 18) (v := ?_) rfl (by kernel_rfl) (by kernel_rfl) (by kernel_rfl) (fun _ _ _ h => h) (Or.inl ⟨by rfl, ?_⟩) (sK _ LS6.out) ?_
            rotate_left
            · (intro wS hSw; (try dsimp only at hSw); go_simp; try with_reducible rfl)
            simp only [Act.put, List.getElem_toArray, List.getElem_cons_zero, List.getElem_cons_succ, List.setIfInBounds_toArray, List.set_cons_zero, List.set_cons_succ]
            refine wpAnyH_take (i := 19) (v := ?_) rfl (by kernel_rfl) (by kernel_rfl) (by kernel_rfl) (fun _ _ _ h => h) (Or.inl ⟨by rfl, ?_⟩) (sK _ LS6.out) ?_
            rotate_left
            · (intro wS hSw; (try dsimp only at hSw); go_simp; try with_reducible rfl)
            simp only [Act.put, List.getElem_toArray, List.getElem_cons_zero, List.getElem_cons_succ, List.setIfInBounds_toArray, List.set_cons_zero, List.set_cons_succ]
            refine wpAnyH_take (i := 20) (v := ?_) rfl (by kernel_rfl) (by kernel_rfl) (by kernel_rfl) (fun _ _ _ h => h) (Or.inl ⟨by rfl, ?_⟩) (sK _ LS6.out) ?_
            rotate_left
            · (intro wS hSw; (try dsimp only at hSw); go_simp; try with_reducible rfl)
            simp only [Act.put, List.getElem_toArray, List.getElem_cons_zero, List.getElem_cons_succ, List.setIfInBounds_toArray, List.set_cons_zero, List.set_cons_succ]
            refine wpAnyH_done (by kernel_rfl) ?_ _
            go_wp2_with fail
            exact HQF.out _ E6.out
          refine AllReadyH.cons rfl (fun K hK => ?_) ?_
          · go_simp
            have LS3 : Blk ((r2.alloc (.cells #[.int .i64 s10] 3))) (w.heap.size) 25 #[.int .i64 s0, .int .i64 s1, .int .i64 s2, .int .i64 s3, .int .i64 s4, .int .i64 s5, .int .i64 s6, .int .i64 s7, .slice A k c, .int .i64 s9, .int .i64 s10, .int .i64 s11, .int .i64 s12] := Blk.alloc (w := r2) LS2.out (.cells #[.int .i64 s10] 3)
            have LY3 : Blk ((r2.alloc (.cells #[.int .i64 s10] 3))) (gY) 3 #[.int .i64 s11, .int .i64 s12] := Blk.alloc (w := r2) LY2.out (.cells #[.int .i64 s10] 3)
            have LX3 : Blk ((r2.alloc (.cells #[.int .i64 s10] 3))) r2.heap.size 3 #[.int .i64 s10] := Blk.new r2 _ _
            have E3 : Below w.heap.size w ((r2.alloc (.cells #[.int .i64 s10] 3))) := (E2.out.alloc E2.out.size (.cells #[.int .i64 s10] 3))
            obtain ⟨r3, hr3⟩ : ∃ VV, (r2.alloc (.cells #[.int .i64 s10] 3)) = VV := ⟨_, rfl⟩
            obtain ⟨gX, hg3⟩ : ∃ g, r2.heap.size = g := ⟨_, rfl⟩
            try rw [hr3]
            try rw [hg3]
            simp only [hr3, hg3] at LS3 LY3 LX3 E3
            try simp only [hr3, hg3]
            clear hr3 hg3
            replace LS3 := Lib.hid LS3
            replace LY3 := Lib.hid LY3
            replace LX3 := Lib.hid LX3
            replace E3 := Lib.hid E3
            refine hK.out _ _ (sK _ LS3.out) (fun hHeld => ?_)
            clear hK K hHeld
            try simp only [Act.put, List.getElem_toArray, List.getElem_cons_zero, List.getElem_cons_succ, List.setIfInBounds_toArray, List.set_cons_zero, List.set_cons_succ]
            refine wpAnyH_ready (rs := [5]) (by kernel_rfl) (by simp) ?_
            refine AllReadyH.cons rfl (fun K hK => ?_) AllReadyH.nil
            go_simp
            refine (K5.out _ ).mono ?_
            rintro e r4 ⟨rfl, hb⟩
            have LS4 := Lib.hid (Blk.next (w := r3) LS3.out hb)
            have LY4 := Lib.hid (Blk.next (w := r3) LY3.out hb)
            have LX4 := Lib.hid (Blk.next (w := r3) LX3.out hb)
            have E4 := Lib.hid (E3.out.trans (hb.mono E3.out.size))
            clear hb
            go_wp2_with fail
            refine hK.out _ _ (sK _ LS4.out) (fun hHeld => ?_)
            clear hK K hHeld
            try simp only [Act.put, List.getElem_toArray, List.getElem_cons_zero, List.getElem_cons_succ, List.setIfInBounds_toArray, List.set_cons_zero, List.set_cons_succ]
            refine wpAnyH_take (i := 6) (v := ?_) rfl (by kernel_rfl) (by kernel_rfl) (by kernel_rfl) (fun _ _ _ h => h) (Or.inl ⟨by rfl, ?_⟩) (sK _ LS4.out) ?_
            rotate_left
            · (intro wS hSw; (try dsimp only at hSw); go_simp; try with_reducible rfl)
            simp only [Act.put, List.getElem_toArray, List.getElem_cons_zero, List.getElem_cons_succ, List.setIfInBounds_toArray, List.set_cons_zero, List.set_cons_succ]
            refine wpAnyH_ready (rs := [10]) (by kernel_rfl) (by simp) ?_
            refine AllReadyH.cons rfl (fun K hK => ?_) AllReadyH.nil
            go_simp
            refine (K6.out _ gX LX4.out).mono ?_
            rintro e r5 ⟨rfl, hb⟩
            have LS5 := Lib.hid (Blk.next (w := r4) LS4.out hb)
            have LY5 := Lib.hid (Blk.next (w := r4) LY4.out hb)
            have LX5 := Lib.hid (Blk.next (w := r4) LX4.out hb)
            have E5 := Lib.hid (E4.out.trans (hb.mono E4.out.size))
            clear hb
            go_wp2_with fail
            refine hK.out _ _ (sK _ LS5.out) (fun hHeld => ?_)
            clear hK K hHeld
            try simp only [Act.put, List.getElem_toArray, List.getElem_cons_zero, List.getElem_cons_succ, List.setIfInBounds_toArray, List.set_cons_zero, List.set_cons_succ]
            refine wpAnyH_take (i := 11) (v := ?_) rfl (by kernel_rfl) (by kernel_rfl) (by kernel_rfl) (fun _ _ _ h => h) (Or.inl ⟨by rfl, ?_⟩) (sK _ LS5.out) ?_
            rotate_left
            · (intro wS hSw; (try dsimp only at hSw); go_simp; try with_reducible rfl)
            simp only [Act.put, List.getElem_toArray, List.getElem_cons_zero, List.getElem_cons_succ, List.setIfInBounds_toArray, List.set_cons_zero, List.set_cons_succ]
            refine wpAnyH_ready (rs := [17]) (by kernel_rfl) (by simp) ?_
            refine AllReadyH.cons rfl (fun K hK => ?_) AllReadyH.nil
            go_simp
            refine (K7.out _ gY LY5.out).mono ?_
            rintro e r6 ⟨rfl, hb⟩
            have LS6 := Lib.hid (Blk.next (w := r5) LS5.out hb)
            have LY6 := Lib.hid (Blk.next (w := r5) LY5.out hb)
            have LX6 := Lib.hid (Blk.next (w := r5) LX5.out hb)
            have E6 := Lib.hid (E5.out.trans (hb.mono E5.out.size))
            clear hb
            go_wp2_with fail
            refine hK.out _ _ (sK _ LS6.out) (fun hHeld => ?_)
            clear hK K hHeld
            try simp only [Act.put, List.getElem_toArray, List.getElem_cons_zero, List.getElem_cons_succ, List.setIfInBounds_toArray, List.set_cons_zero, List.set_cons_succ]
            refine wpAnyH_take (i := 18) (v := ?_) rfl (by kernel_rfl) (by kernel_rfl) (by kernel_rfl) (fun _ _ _ h => h) (Or.inl ⟨by rfl, ?_⟩) (sK _ LS6.out) ?_
            rotate_left
            · (intro wS hSw; (try dsimp only at hSw); go_simp; try with_reducible rfl)
            simp only [Act.put, List.getElem_toArray, List.getElem_cons_zero, List.getElem_cons_succ, List.setIfInBounds_toArray, List.set_cons_zero, List.set_cons_succ]
            refine wpAnyH_take (i := 19) (v := ?_) rfl (by kernel_rfl) (by kernel_rfl) (by kernel_rfl) (fun _ _ _ h => h) (Or.inl ⟨by rfl, ?_⟩) (sK _ LS6.out) ?_
            rotate_left
            · (intro wS hSw; (try dsimp only at hSw); go_simp; try with_reducible rfl)
            simp only [Act.put, List.getElem_toArray, List.getElem_cons_zero, List.getElem_cons_succ, List.setIfInBounds_toArray, List.set_cons_zero, List.set_cons_succ]
            refine wpAnyH_take (i := 20) (v := ?_) rfl (by kernel_rfl) (by kernel_rfl) (by kernel_rfl) (fun _ _ _ h => h) (Or.inl ⟨by rfl, ?_⟩) (sK _ LS6.out) ?_
            rotate_left
            · (intro wS hSw; (try dsimp only at hSw); go_simp; try with_reducible rfl)
            simp only [Act.put, List.getElem_toArray, List.getElem_cons_zero, List.getElem_cons_succ, List.setIfInBounds_toArray, List.set_cons_zero, List.set_cons_succ]
            refine wpAnyH_done (by kernel_rfl) ?_ _
            go_wp2_with fail
            exact HQF.out _ E6.out
          exact AllReadyH.nil
        exact AllReadyH.nil
      refine AllReadyH.cons rfl (fun K hK => ?_) ?_
      · go_simp
        have LS1 : Blk ((V.alloc (.cells #[.int .i64 s10] 3)).drew) (w.heap.size) 25 #[.int .i64 s0, .int .i64 s1, .int .i64 s2, .int .i64 s3, .int .i64 s4, .int .i64 s5, .int .i64 s6, .int .i64 s7, .slice A k c, .int .i64 s9, .int .i64 s10, .int .i64 s11, .int .i64 s12] := Blk.alloc (w := V) HS.out (.cells #[.int .i64 s10] 3)
        have LX1 : Blk ((V.alloc (.cells #[.int .i64 s10] 3)).drew) V.heap.size 3 #[.int .i64 s10] := Blk.new V _ _
        have E1 : Below w.heap.size w ((V.alloc (.cells #[.int .i64 s10] 3)).drew) := (EE.out.alloc EE.out.size (.cells #[.int .i64 s10] 3)).drew
        obtain ⟨r1, hr1⟩ : ∃ VV, (V.alloc (.cells #[.int .i64 s10] 3)).drew = VV := ⟨_, rfl⟩
        obtain ⟨gX, hg1⟩ : ∃ g, V.heap.size = g := ⟨_, rfl⟩
        try rw [hr1]
        try rw [hg1]
        simp only [hr1, hg1] at LS1 LX1 E1
        try simp only [hr1, hg1]
        clear hr1 hg1
        replace LS1 := Lib.hid LS1
        replace LX1 := Lib.hid LX1
        replace E1 := Lib.hid E1
        refine hK.out _ _ (sK _ LS1.out) (fun hHeld => ?_)
        clear hK K hHeld
        try simp only [Act.put, List.getElem_toArray, List.getElem_cons_zero, List.getElem_cons_succ, List.setIfInBounds_toArray, List.set_cons_zero, List.set_cons_succ]
        refine wpAnyH_ready (rs := [3, 16]) (by kernel_rfl) (by simp) ?_
        refine AllReadyH.cons rfl (fun K hK => ?_) ?_
        · go_simp
          refine (KD.out _).mono ?_
          rintro e r2 ⟨rfl, hb⟩
          have LS2 := Lib.hid (Blk.next (w := r1) LS1.out hb)
          have LX2 := Lib.hid (Blk.next (w := r1) LX1.out hb)
          have E2 := Lib.hid (E1.out.trans (hb.mono E1.out.size))
          clear hb
          go_wp2_with fail
          refine hK.out _ _ (sK _ LS2.out) (fun hHeld => ?_)
          clear hK K hHeld
          try simp only [Act.put, List.getElem_toArray, List.getElem_cons_zero, List.getElem_cons_succ, List.setIfInBounds_toArray, List.set_cons_zero, List.set_cons_succ]
          refine wpAnyH_take (i := 4) (v := ?_) rfl (by kernel_rfl) (by kernel_rfl) (by kernel_rfl) (fun _ _ _ h => h) (Or.inl ⟨by rfl, ?_⟩) (sK _ LS2.out) ?_
          rotate_left
          · (intro wS hSw; (try dsimp only at hSw); go_simp; try with_reducible rfl)
          simp only [Act.put, List.getElem_toArray, List.getElem_cons_zero, List.getElem_cons_succ, List.setIfInBounds_toArray, List.set_cons_zero, List.set_cons_succ]
          refine wpAnyH_ready (rs := [5, 16]) (by kernel_rfl) (by simp) ?_
          refine AllReadyH.cons rfl (fun K hK => ?_) ?_
          · go_simp
            refine (K5.out _ ).mono ?_
            rintro e r3 ⟨rfl, hb⟩
            have LS3 := Lib.hid (Blk.next (w := r2) LS2.out hb)
            have LX3 := Lib.hid (Blk.next (w := r2) LX2.out hb)
            have E3 := Lib.hid (E2.out.trans (hb.mono E2.out.size))
            clear hb
            go_wp2_with fail
            refine hK.out _ _ (sK _ LS3.out) (fun hHeld => ?_)
            clear hK K hHeld
            try simp only [Act.put, List.getElem_toArray, List.getElem_cons_zero, List.getElem_cons_succ, List.setIfInBounds_toArray, List.set_cons_zero, List.set_cons_succ]
            refine wpAnyH_take (i := 6) (v := ?_) rfl (by kernel_rfl) (by kernel_rfl) (by kernel_rfl) (fun _ _ _ h => h) (Or.inl ⟨by rfl, ?_⟩) (sK _ LS3.out) ?_
            rotate_left
            · (intro wS hSw; (try dsimp only at hSw); go_simp; try with_reducible rfl)
            simp only [Act.put, List.getElem_toArray, List.getElem_cons_zero, List.getElem_cons_succ, List.setIfInBounds_toArray, List.set_cons_zero, List.set_cons_succ]
            refine wpAnyH_ready (rs := [10, 16]) (by kernel_rfl) (by simp) ?_
            refine AllReadyH.cons rfl (fun K hK => ?_) ?_
            · go_simp
              refine (K6.out _ gX LX3.out).mono ?_
              rintro e r4 ⟨rfl, hb⟩
              have LS4 := Lib.hid (Blk.next (w := r3) LS3.out hb)
              have LX4 := Lib.hid (Blk.next (w := r3) LX3.out hb)
              have E4 := Lib.hid (E3.out.trans (hb.mono E3.out.size))
              clear hb
              go_wp2_with fail
              refine hK.out _ _ (sK _ LS4.out) (fun hHeld => ?_)
              clear hK K hHeld
              try simp only [Act.put, List.getElem_toArray, List.getElem_cons_zero, List.getElem_cons_succ, List.setIfInBounds_toArray, List.set_cons_zero, List.set_cons_succ]
              refine wpAnyH_take (i := 11) (v := ?_) rfl (by kernel_rfl) (by kernel_rfl) (by kernel_rfl) (fun _ _ _ h => h) (Or.inl ⟨by rfl, ?_⟩) (sK _ LS4.out) ?_
              rotate_left
              · (intro wS hSw; (try dsimp only at hSw); go_simp; try with_reducible rfl)
              simp only [Act.put, List.getElem_toArray, List.getElem_cons_zero, List.getElem_cons_succ, List.setIfInBounds_toArray, List.set_cons_zero, List.set_cons_succ]
              refine wpAnyH_ready (rs := [16]) (by kernel_rfl) (by simp) ?_
              refine AllReadyH.cons rfl (fun K hK => ?_) AllReadyH.nil
              go_simp
              have LS5 : Blk ((r4.alloc (.cells #[.int .i64 s11, .int .i64 s12] 3))) (w.heap.size) 25 #[.int .i64 s0, .int .i64 s1, .int .i64 s2, .int .i64 s3, .int .i64 s4, .int .i64 s5, .int .i64 s6, .int .i64 s7, .slice A k c, .int .i64 s9, .int .i64 s10, .int .i64 s11, .int .i64 s12] := Blk.alloc (w := r4) LS4.out (.cells #[.int .i64 s11, .int .i64 s12] 3)
              have LX5 : Blk ((r4.alloc (.cells #[.int .i64 s11, .int .i64 s12] 3))) (gX) 3 #[.int .i64 s10] := Blk.alloc (w := r4) LX4.out (.cells #[.int .i64 s11, .int .i64 s12] 3)
              have LY5 : Blk ((r4.alloc (.cells #[.int .i64 s11, .int .i64 s12] 3))) r4.heap.size 3 #[.int .i64 s11, .int .i64 s12] := Blk.new r4 _ _
              have E5 : Below w.heap.size w ((r4.alloc (.cells #[.int .i64 s11, .int .i64 s12] 3))) := (E4.out.alloc E4.out.size (.cells #[.int .i64 s11, .int .i64 s12] 3))
              obtain ⟨r5, hr5⟩ : ∃ VV, (r4.alloc (.cells #[.int .i64 s11, .int .i64 s12] 3)) = VV := ⟨_, rfl⟩
              obtain ⟨gY, hg5⟩ : ∃ g, r4.heap.size = g := ⟨_, rfl⟩
              try rw [hr5]
              try rw [hg5]
              simp only [hr5, hg5] at LS5 LX5 LY5 E5
              try simp only [hr5, hg5]
              clear hr5 hg5
              replace LS5 := Lib.hid LS5
              replace LX5 := Lib.hid LX5
              replace LY5 := Lib.hid LY5
              replace E5 := Lib.hid E5
              refine hK.out _ _ (sK _ LS5.out) (fun hHeld => ?_)
              clear hK K hHeld
              try simp only [Act.put, List.getElem_toArray, List.getElem_cons_zero, List.getElem_cons_succ, List.setIfInBounds_toArray, List.set_cons_zero, List.set_cons_succ]
              refine wpAnyH_ready (rs := [17]) (by kernel_rfl) (by simp) ?_
              refine AllReadyH.cons rfl (fun K hK => ?_) AllReadyH.nil
              go_simp
              refine (K7.out _ gY LY5.out).mono ?_
              rintro e r6 ⟨rfl, hb⟩
              have LS6 := Lib.hid (Blk.next (w := r5) LS5.out hb)
              have LX6 := Lib.hid (Blk.next (w := r5) LX5.out hb)
              have LY6 := Lib.hid (Blk.next (w := r5) LY5.out hb)
              have E6 := Lib.hid (E5.out.trans (hb.mono E5.out.size))
              clear hb
              go_wp2_with fail
              refine hK.out _ _ (sK _ LS6.out) (fun hHeld => ?_)
              clear hK K hHeld
              try simp only [Act.put, List.getElem_toArray, List.getElem_cons_zero, List.getElem_cons_succ, List.setIfInBounds_toArray, List.set_cons_zero, List.set_cons_succ]
              refine wpAnyH_take (i := 18) (v := ?_) rfl (by kernel_rfl) (by kernel_rfl) (by kernel_rfl) (fun _ _ _ h => h) (Or.inl ⟨by rfl, ?_⟩) (sK _ LS6.out) ?_
              rotate_left
              · (intro wS hSw; (try dsimp only at hSw); go_simp; try with_reducible rfl)
              simp only [Act.put, List.getElem_toArray, List.getElem_cons_zero, List.getElem_cons_succ, List.setIfInBounds_toArray, List.set_cons_zero, List.set_cons_succ]
              refine wpAnyH_take (i := 19) (v := ?_) rfl (by kernel_rfl) (by kernel_rfl) (by kernel_rfl) (fun _ _ _ h => h) (Or.inl ⟨by rfl, ?_⟩) (sK _ LS6.out) ?_
              rotate_left
              · (intro wS hSw; (try dsimp only at hSw); go_simp; try with_reducible rfl)
              simp only [Act.put, List.getElem_toArray, List.getElem_cons_zero, List.getElem_cons_succ, List.setIfInBounds_toArray, List.set_cons_zero, List.set_cons_succ]
              refine wpAnyH_take (i := 20) (v := ?_) rfl (by kernel_rfl) (by kernel_rfl) (by kernel_rfl) (fun _ _ _ h => h) (Or.inl ⟨by rfl, ?_⟩) (sK _ LS6.out) ?_
              rotate_left
              · (intro wS hSw; (try dsimp only at hSw); go_simp; try with_reducible rfl)
              simp only [Act.put, List.getElem_toArray, List.getElem_cons_zero, List.getElem_cons_succ, List.setIfInBounds_toArray, List.set_cons_zero, List.set_cons_succ]
              refine wpAnyH_done (by kernel_rfl) ?_ _
              go_wp2_with fail
              exact HQF.out _ E6.out
            refine AllReadyH.cons rfl (fun K hK => ?_) ?_
            · go_simp
              have LS4 : Blk ((r3.alloc (.cells #[.int .i64 s11, .int .i64 s12] 3))) (w.heap.size) 25 #[.int .i64 s0, .int .i64 s1, .int .i64 s2, .int .i64 s3, .int .i64 s4, .int .i64 s5, .int .i64 s6, .int .i64 s7, .slice A k c, .int .i64 s9, .int .i64 s10, .int .i64 s11, .int .i64 s12] := Blk.alloc (w := r3) LS3.out (.cells #[.int .i64 s11, .int .i64 s12] 3)
              have LX4 : Blk ((r3.alloc (.cells #[.int .i64 s11, .int .i64 s12] 3))) (gX) 3 #[.int .i64 s10] := Blk.alloc (w := r3) LX3.out (.cells #[.int .i64 s11, .int .i64 s12] 3)
              have LY4 : Blk ((r3.alloc (.cells #[.int .i64 s11, .int .i64 s12] 3))) r3.heap.size 3 #[.int .i64 s11, .int .i64 s12] := Blk.new r3 _ _
              have E4 : Below w.heap.size w ((r3.alloc (.cells #[.int .i64 s11, .int .i64 s12] 3))) := (E3.out.alloc E3.out.size (.cells #[.int .i64 s11, .int .i64 s12] 3))
              obtain ⟨r4, hr4⟩ : ∃ VV, (r3.alloc (.cells #[.int .i64 s11, .int .i64 s12] 3)) = VV := ⟨_, rfl⟩
              obtain ⟨gY, hg4⟩ : ∃ g, r3.heap.size = g := ⟨_, rfl⟩
              try rw [hr4]
              try rw [hg4]
              simp only [hr4, hg4] at LS4 LX4 LY4 E4
              try simp only [hr4, hg4]
              clear hr4 hg4
              replace LS4 := Lib.hid LS4
              replace LX4 := Lib.hid LX4
              replace LY4 := Lib.hid LY4
              replace E4 := Lib.hid E4
              refine hK.out _ _ (sK _ LS4.out) (fun hHeld => ?_)
              clear hK K hHeld
              try simp only [Act.put, List.getElem_toArray, List.getElem_cons_zero, List.getElem_cons_succ, List.setIfInBounds_toArray, List.set_cons_zero, List.set_cons_succ]
              refine wpAnyH_ready (rs := [10]) (by kernel_rfl) (by simp) ?_
              refine AllReadyH.cons rfl (fun K hK => ?_) AllReadyH.nil
              go_simp
              refine (K6.out _ gX LX4.out).mono ?_
              rintro e r5 ⟨rfl, hb⟩
              have LS5 := Lib.hid (Blk.next (w := r4) LS4.out hb)
              have LX5 := Lib.hid (Blk.next (w := r4) LX4.out hb)
              have LY5 := Lib.hid (Blk.next (w := r4) LY4.out hb)
              have E5 := Lib.hid (E4.out.trans (hb.mono E4.out.size))
              clear hb
              go_wp2_with fail
              refine hK.out _ _ (sK _ LS5.out) (fun hHeld => ?_)
              clear hK K hHeld
              try simp only [Act.put, List.getElem_toArray, List.getElem_cons_zero, List.getElem_cons_succ, List.setIfInBounds_toArray, List.set_cons_zero, List.set_cons_succ]
              refine wpAnyH_take (i := 11) (v := ?_) rfl (by kernel_rfl) (by kernel_rfl) (by kernel_rfl) (fun _ _ _ h => h) (Or.inl ⟨by rfl, ?_⟩) (sK _ LS5.out) ?_
              rotate_left
              · (intro wS hSw; (try dsimp only at hSw); go_simp; try with_reducible rfl)
              simp only [Act.put, List.getElem_toArray, List.getElem_cons_zero, List.getElem_cons_succ, List.setIfInBounds_toArray, List.set_cons_zero, List.set_cons_succ]
              refine wpAnyH_ready (rs := [17]) (by kernel_rfl) (by simp) ?_
              refine AllReadyH.cons rfl (fun K hK => ?_) AllReadyH.nil
              go_simp
              refine (K7.out _ gY LY5.out).mono ?_
              rintro e r6 ⟨rfl, hb⟩
              have LS6 := Lib.hid (Blk.next (w := r5) LS5.out hb)
              have LX6 := Lib.hid (Blk.next (w := r5) LX5.out hb)
              have LY6 := Lib.hid (Blk.next (w := r5) LY5.out hb)
              have E6 := Lib.hid (E5.out.trans (hb.mono E5.out.size))
              clear hb
              go_wp2_with fail
              refine hK.out _ _ (sK _ LS6.out) (fun hHeld => ?_)
              clear hK K hHeld
              try simp only [Act.put, List.getElem_toArray, List.getElem_cons_zero, List.getElem_cons_succ, List.setIfInBounds_toArray, List.set_cons_zero, List.set_cons_succ]
              refine wpAnyH_take (i := 18) (v := ?_) rfl (by kernel_rfl) (by kernel_rfl) (by kernel_rfl) (fun _ _ _ h => h) (Or.inl ⟨by rfl, ?_⟩) (sK _ LS6.out) ?_
              rotate_left
              · (intro wS hSw; (try dsimp only at hSw); go_simp; try with_reducible rfl)
              simp only [Act.put, List.getElem_toArray, List.getElem_cons_zero, List.getElem_cons_succ, List.setIfInBounds_toArray, List.set_cons_zero, List.set_cons_succ]
              refine wpAnyH_take (i := 19) (v := ?_) rfl (by kernel_rfl) (by kernel_rfl) (by kernel_rfl) (fun _ _ _ h => h) (Or.inl ⟨by rfl, ?_⟩) (sK _ LS6.out) ?_
              rotate_left
              · (intro wS hSw; (try dsimp only at hSw); go_simp; try with_reducible rfl)
              simp only [Act.put, List.getElem_toArray, List.getElem_cons_zero, List.getElem_cons_succ, List.setIfInBounds_toArray, List.set_cons_zero, List.set_cons_succ]
              refine wpAnyH_take (i := 20) (v := ?_) rfl (by kernel_rfl) (by kernel_rfl) (by kernel_rfl) (fun _ _ _ h => h) (Or.inl ⟨by rfl, ?_⟩) (sK _ LS6.out) ?_
              rotate_left
              · (intro wS hSw; (try dsimp only at hSw); go_simp; try with_reducible rfl)
              simp only [Act.put, List.getElem_toArray, List.getElem_cons_zero, List.getElem_cons_succ, List.setIfInBounds_toArray, List.set_cons_zero, List.set_cons_succ]
              refine wpAnyH_done (by kernel_rfl) ?_ _
              go_wp2_with fail
              exact HQF.out _ E6.out
            exact AllReadyH.nil
          refine AllReadyH.cons rfl (fun K hK => ?_) ?_
          · go_simp
            have LS3 : Blk ((r2.alloc (.cells #[.int .i64 s11, .int .i64 s12] 3))) (w.heap.size) 25 #[.int .i64 s0, .int .i64 s1, .int .i64 s2, .int .i64 s3, .int .i64 s4, .int .i64 s5, .int .i64 s6, .int .i64 s7, .slice A k c, .int .i64 s9, .int .i64 s10, .int .i64 s11, .int .i64 s12] := Blk.alloc (w := r2) LS2.out (.cells #[.int .i64 s11, .int .i64 s12] 3)
            have LX3 : Blk ((r2.alloc (.cells #[.int .i64 s11, .int .i64 s12] 3))) (gX) 3 #[.int .i64 s10] := Blk.alloc (w := r2) LX2.out (.cells #[.int .i64 s11, .int .i64 s12] 3)
            have LY3 : Blk ((r2.alloc (.cells #[.int .i64 s11, .int .i64 s12] 3))) r2.heap.size 3 #[.int .i64 s11, .int .i64 s12] := Blk.new r2 _ _
            have E3 : Below w.heap.size w ((r2.alloc (.cells #[.int .i64 s11, .int .i64 s12] 3))) := (E2.out.alloc E2.out.size (.cells #[.int .i64 s11, .int .i64 s12] 3))
            obtain ⟨r3, hr3⟩ : ∃ VV, (r2.alloc (.cells #[.int .i64 s11, .int .i64 s12] 3)) = VV := ⟨_, rfl⟩
            obtain ⟨gY, hg3⟩ : ∃ g, r2.heap.size = g := ⟨_, rfl⟩
            try rw [hr3]
            try rw [hg3]
            simp only [hr3, hg3] at LS3 LX3 LY3 E3
            try simp only [hr3, hg3]
            clear hr3 hg3
            replace LS3 := Lib.hid LS3
            replace LX3 := Lib.hid LX3
            replace LY3 := Lib.hid LY3
            replace E3 := Lib.hid E3
            refine hK.out _ _ (sK _ LS3.out) (fun hHeld => ?_)
            clear hK K hHeld
            try simp only [Act.put, List.getElem_toArray, List.getElem_cons_zero, List.getElem_cons_succ, List.setIfInBounds_toArray, List.set_cons_zero, List.set_cons_succ]
            refine wpAnyH_ready (rs := [5]) (by kernel_rfl) (by simp) ?_
            refine AllReadyH.cons rfl (fun K hK => ?_) AllReadyH.nil
            go_simp
            refine (K5.out _ ).mono ?_
            rintro e r4 ⟨rfl, hb⟩
            have LS4 := Lib.hid (Blk.next (w := r3) LS3.out hb)
            have LX4 := Lib.hid (Blk.next (w := r3) LX3.out hb)
            have LY4 := Lib.hid (Blk.next (w := r3) LY3.out hb)
            have E4 := Lib.hid (E3.out.trans (hb.mono E3.out.size))
            clear hb
            go_wp2_with fail
            refine hK.out _ _ (sK _ LS4.out) (fun hHeld => ?_)
            clear hK K hHeld
            try simp only [Act.put, List.getElem_toArray, List.getElem_cons_zero, List.getElem_cons_succ, List.setIfInBounds_toArray, List.set_cons_zero, List.set_cons_succ]
            refine wpAnyH_take (i := 6) (v := ?_) rfl (by kernel_rfl) (by kernel_rfl) (by kernel_rfl) (fun _ _ _ h => h) (Or.inl ⟨by rfl, ?_⟩) (sK _ LS4.out) ?_
            rotate_left
            · (intro wS hSw; (try dsimp only at hSw); go_simp; try with_reducible rfl)
            simp only [Act.put, List.getElem_toArray, List.getElem_cons_zero, List.getElem_cons_succ, List.setIfInBounds_toArray, List.set_cons_zero, List.set_cons_succ]
            refine wpAnyH_ready (rs := [10]) (by kernel_rfl) (by simp) ?_
            refine AllReadyH.cons rfl (fun K hK => ?_) AllReadyH.nil
            go_simp
            refine (K6.out _ gX LX4.out).mono ?_
            rintro e r5 ⟨rfl, hb⟩
            have LS5 := Lib.hid (Blk.next (w := r4) LS4.out hb)
            have LX5 := Lib.hid (Blk.next (w := r4) LX4.out hb)
            have LY5 := Lib.hid (Blk.next (w := r4) LY4.out hb)
            have E5 := Lib.hid (E4.out.trans (hb.mono E4.out.size))
            clear hb
            go_wp2_with fail
            refine hK.out _ _ (sK _ LS5.out) (fun hHeld => ?_)
            clear hK K hHeld
            try simp only [Act.put, List.getElem_toArray, List.getElem_cons_zero, List.getElem_cons_succ, List.setIfInBounds_toArray, List.set_cons_zero, List.set_cons_succ]
            refine wpAnyH_take (i := 11) (v := ?_) rfl (by kernel_rfl) (by kernel_rfl) (by kernel_rfl) (fun _ _ _ h => h) (Or.inl ⟨by rfl, ?_⟩) (sK _ LS5.out) ?_
            rotate_left
            · (intro wS hSw; (try dsimp only at hSw); go_simp; try with_reducible rfl)
            simp only [Act.put, List.getElem_toArray, List.getElem_cons_zero, List.getElem_cons_succ, List.setIfInBounds_toArray, List.set_cons_zero, List.set_cons_succ]
            refine wpAnyH_ready (rs := [17]) (by kernel_rfl) (by simp) ?_
            refine AllReadyH.cons rfl (fun K hK => ?_) AllReadyH.nil
            go_simp
            refine (K7.out _ gY LY5.out).mono ?_
            rintro e r6 ⟨rfl, hb⟩
            have LS6 := Lib.hid (Blk.next (w := r5) LS5.out hb)
            have LX6 := Lib.hid (Blk.next (w := r5) LX5.out hb)
            have LY6 := Lib.hid (Blk.next (w := r5) LY5.out hb)
            have E6 := Lib.hid (E5.out.trans (hb.mono E5.out.size))
            clear hb
            go_wp2_with fail
            refine hK.out _ _ (sK _ LS6.out) (fun hHeld => ?_)
            clear hK K hHeld
            try simp only [Act.put, List.getElem_toArray, List.getElem_cons_zero, List.getElem_cons_succ, List.setIfInBounds_toArray, List.set_cons_zero, List.set_cons_succ]
            refine wpAnyH_take (i := 18) (v := ?_) rfl (by kernel_rfl) (by kernel_rfl) (by kernel_rfl) (fun _ _ _ h => h) (Or.inl ⟨by rfl, ?_⟩) (sK _ LS6.out) ?_
            rotate_left
            · (intro wS hSw; (try dsimp only at hSw); go_simp; try with_reducible rfl)
            simp only [Act.put, List.getElem_toArray, List.getElem_cons_zero, List.getElem_cons_succ, List.setIfInBounds_toArray, List.set_cons_zero, List.set_cons_succ]
            refine wpAnyH_take (i := 19) (v := ?_) rfl (by kernel_rfl) (by kernel_rfl) (by kernel_rfl) (fun _ _ _ h => h) (Or.inl ⟨by rfl, ?_⟩) (sK _ LS6.out) ?_
            rotate_left
            · (intro wS hSw; (try dsimp only at hSw); go_simp; try with_reducible rfl)
            simp only [Act.put, List.getElem_toArray, List.getElem_cons_zero, List.getElem_cons_succ, List.setIfInBounds_toArray, List.set_cons_zero, List.set_cons_succ]
            refine wpAnyH_take (i := 20) (v := ?_) rfl (by kernel_rfl) (by kernel_rfl) (by kernel_rfl) (fun _ _ _ h => h) (Or.inl ⟨by rfl, ?_⟩) (sK _ LS6.out) ?_
            rotate_left
            · (intro wS hSw; (try dsimp only at hSw); go_simp; try with_reducible rfl)
            simp only [Act.put, List.getElem_toArray, List.getElem_cons_zero, List.getElem_cons_succ, List.setIfInBounds_toArray, List.set_cons_zero, List.set_cons_succ]
            refine wpAnyH_done (by kernel_rfl) ?_ _
            go_wp2_with fail
            exact HQF.out _ E6.out
          exact AllReadyH.nil
        refine AllReadyH.cons rfl (fun K hK => ?_) ?_
        · go_simp
          have LS2 : Blk ((r1.alloc (.cells #[.int .i64 s11, .int .i64 s12] 3))) (w.heap.size) 25 #[.int .i64 s0, .int .i64 s1, .int .i64 s2, .int .i64 s3, .int .i64 s4, .int .i64 s5, .int .i64 s6, .int .i64 s7, .slice A k c, .int .i64 s9, .int .i64 s10, .int .i64 s11, .int .i64 s12] := Blk.alloc (w := r1) LS1.out (.cells #[.int .i64 s11, .int .i64 s12] 3)
          have LX2 : Blk ((r1.alloc (.cells #[.int .i64 s11, .int .i64 s12] 3))) (gX) 3 #[.int .i64 s10] := Blk.alloc (w := r1) LX1.out (.cells #[.int .i64 s11, .int .i64 s12] 3)
          have LY2 : Blk ((r1.alloc (.cells #[.int .i64 s11, .int .i64 s12] 3))) r1.heap.size 3 #[.int .i64 s11, .int .i64 s12] := Blk.new r1 _ _
          have E2 : Below w.heap.size w ((r1.alloc (.cells #[.int .i64 s11, .int .i64 s12] 3))) := (E1.out.alloc E1.out.size (.cells #[.int .i64 s11, .int .i64 s12] 3))
          obtain ⟨r2, hr2⟩ : ∃ VV, (r1.alloc (.cells #[.int .i64 s11, .int .i64 s12] 3)) = VV := ⟨_, rfl⟩
          obtain ⟨gY, hg2⟩ : ∃ g, r1.heap.size = g := ⟨_, rfl⟩
          try rw [hr2]
          try rw [hg2]
          simp only [hr2, hg2] at LS2 LX2 LY2 E2
          try simp only [hr2, hg2]
          clear hr2 hg2
          replace LS2 := Lib.hid LS2
          replace LX2 := Lib.hid LX2
          replace LY2 := Lib.hid LY2
          replace E2 := Lib.hid E2
          refine hK.out _ _ (sK _ LS2.out) (fun hHeld => ?_)
          clear hK K hHeld
          try simp only [Act.put, List.getElem_toArray, List.getElem_cons_zero, List.getElem_cons_succ, List.setIfInBounds_toArray, List.set_cons_zero, List.set_cons_succ]
          refine wpAnyH_ready (rs := [3]) (by kernel_rfl) (by simp) ?_
          refine AllReadyH.cons rfl (fun K hK => ?_) AllReadyH.nil
          go_simp
          refine (KD.out _).mono ?_
          rintro e r3 ⟨rfl, hb⟩
          have LS3 := Lib.hid (Blk.next (w := r2) LS2.out hb)
          have LX3 := Lib.hid (Blk.next (w := r2) LX2.out hb)
          have LY3 := Lib.hid (Blk.next (w := r2) LY2.out hb)
          have E3 := Lib.hid (E2.out.trans (hb.mono E2.out.size))
          clear hb
          go_wp2_with fail
          refine hK.out _ _ (sK _ LS3.out) (fun hHeld => ?_)
          clear hK K hHeld
          try simp only [Act.put, List.getElem_toArray, List.getElem_cons_zero, List.getElem_cons_succ, List.setIfInBounds_toArray, List.set_cons_zero, List.set_cons_succ]
          refine wpAnyH_take (i := 4) (v := ?_) rfl (by kernel_rfl) (by kernel_rfl) (by kernel_rfl) (fun _ _ _ h => h) (Or.inl ⟨by rfl, ?_⟩) (sK _ LS3.out) ?_
          rotate_left
          · (intro wS hSw; (try dsimp only at hSw); go_simp; try with_reducible rfl)
          simp only [Act.put, List.getElem_toArray, List.getElem_cons_zero, List.getElem_cons_succ, List.setIfInBounds_toArray, List.set_cons_zero, List.set_cons_succ]
          refine wpAnyH_ready (rs := [5]) (by kernel_rfl) (by simp) ?_
          refine AllReadyH.cons rfl (fun K hK => ?_) AllReadyH.nil
          go_simp
          refine (K5.out _ ).mono ?_
          rintro e r4 ⟨rfl, hb⟩
          have LS4 := Lib.hid (Blk.next (w := r3) LS3.out hb)
          have LX4 := Lib.hid (Blk.next (w := r3) LX3.out hb)
          have LY4 := Lib.hid (Blk.next (w := r3) LY3.out hb)
          have E4 := Lib.hid (E3.out.trans (hb.mono E3.out.size))
          clear hb
          go_wp2_with fail
          refine hK.out _ _ (sK _ LS4.out) (fun hHeld => ?_)
          clear hK K hHeld
          try simp only [Act.put, List.getElem_toArray, List.getElem_cons_zero, List.getElem_cons_succ, List.setIfInBounds_toArray, List.set_cons_zero, List.set_cons_succ]
          refine wpAnyH_take (i := 6) (v := ?_) rfl (by kernel_rfl) (by kernel_rfl) (by kernel_rfl) (fun _ _ _ h => h) (Or.inl ⟨by rfl, ?_⟩) (sK _ LS4.out) ?_
          rotate_left
          · (intro wS hSw; (try dsimp only at hSw); go_simp; try with_reducible rfl)
          simp only [Act.put, List.getElem_toArray, List.getElem_cons_zero, List.getElem_cons_succ, List.setIfInBounds_toArray, List.set_cons_zero, List.set_cons_succ]
          refine wpAnyH_ready (rs := [10]) (by kernel_rfl) (by simp) ?_
          refine AllReadyH.cons rfl (fun K hK => ?_) AllReadyH.nil
          go_simp
          refine (K6.out _ gX LX4.out).mono ?_
          rintro e r5 ⟨rfl, hb⟩
          have LS5 := Lib.hid (Blk.next (w := r4) LS4.out hb)
          have LX5 := Lib.hid (Blk.next (w := r4) LX4.out hb)
          have LY5 := Lib.hid (Blk.next (w := r4) LY4.out hb)
          have E5 := Lib.hid (E4.out.trans (hb.mono E4.out.size))
          clear hb
          go_wp2_with fail
          refine hK.out _ _ (sK _ LS5.out) (fun hHeld => ?_)
          clear hK K hHeld
          try simp only [Act.put, List.getElem_toArray, List.getElem_cons_zero, List.getElem_cons_succ, List.setIfInBounds_toArray, List.set_cons_zero, List.set_cons_succ]
          refine wpAnyH_take (i := 11) (v := ?_) rfl (by kernel_rfl) (by kernel_rfl) (by kernel_rfl) (fun _ _ _ h => h) (Or.inl ⟨by rfl, ?_⟩) (sK _ LS5.out) ?_
          rotate_left
          · (intro wS hSw; (try dsimp only at hSw); go_simp; try with_reducible rfl)
          simp only [Act.put, List.getElem_toArray, List.getElem_cons_zero, List.getElem_cons_succ, List.setIfInBounds_toArray, List.set_cons_zero, List.set_cons_succ]
          refine wpAnyH_ready (rs := [17]) (by kernel_rfl) (by simp) ?_
          refine AllReadyH.cons rfl (fun K hK => ?_) AllReadyH.nil
          go_simp
          refine (K7.out _ gY LY5.out).mono ?_
          rintro e r6 ⟨rfl, hb⟩
          have LS6 := Lib.hid (Blk.next (w := r5) LS5.out hb)
          have LX6 := Lib.hid (Blk.next (w := r5) LX5.out hb)
          have LY6 := Lib.hid (Blk.next (w := r5) LY5.out hb)
          have E6 := Lib.hid (E5.out.trans (hb.mono E5.out.size))
          clear hb
          go_wp2_with fail
          refine hK.out _ _ (sK _ LS6.out) (fun hHeld => ?_)
          clear hK K hHeld
          try simp only [Act.put, List.getElem_toArray, List.getElem_cons_zero, List.getElem_cons_succ, List.setIfInBounds_toArray, List.set_cons_zero, List.set_cons_succ]
          refine wpAnyH_take (i := 18) (v := ?_) rfl (by kernel_rfl) (by kernel_rfl) (by kernel_rfl) (fun _ _ _ h => h) (Or.inl ⟨by rfl, ?_⟩) (sK _ LS6.out) ?_
          rotate_left
          · (intro wS hSw; (try dsimp only at hSw); go_simp; try with_reducible rfl)
          simp only [Act.put, List.getElem_toArray, List.getElem_cons_zero, List.getElem_cons_succ, List.setIfInBounds_toArray, List.set_cons_zero, List.set_cons_succ]
          refine wpAnyH_take (i := 19) (v := ?_) rfl (by kernel_rfl) (by kernel_rfl) (by kernel_rfl) (fun _ _ _ h => h) (Or.inl ⟨by rfl, ?_⟩) (sK _ LS6.out) ?_
          rotate_left
          · (intro wS hSw; (try dsimp only at hSw); go_simp; try with_reducible rfl)
          simp only [Act.put, List.getElem_toArray, List.getElem_cons_zero, List.getElem_cons_succ, List.setIfInBounds_toArray, List.set_cons_zero, List.set_cons_succ]
          refine wpAnyH_take (i := 20) (v := ?_) rfl (by kernel_rfl) (by kernel_rfl) (by kernel_rfl) (fun _ _ _ h => h) (Or.inl ⟨by rfl, ?_⟩) (sK _ LS6.out) ?_
          rotate_left
          · (intro wS hSw; (try dsimp only at hSw); go_simp; try with_reducible rfl)
          simp only [Act.put, List.getElem_toArray, List.getElem_cons_zero, List.getElem_cons_succ, List.setIfInBounds_toArray, List.set_cons_zero, List.set_cons_succ]
          refine wpAnyH_done (by kernel_rfl) ?_ _
          go_wp2_with fail
          exact HQF.out _ E6.out
        exact AllReadyH.nil
      refine AllReadyH.cons rfl (fun K hK => ?_) ?_
      · go_simp
        have LS1 : Blk ((V.alloc (.cells #[.int .i64 s11, .int .i64 s12] 3)).drew) (w.heap.size) 25 #[.int .i64 s0, .int .i64 s1, .int .i64 s2, .int .i64 s3, .int .i64 s4, .int .i64 s5, .int .i64 s6, .int .i64 s7, .slice A k c, .int .i64 s9, .int .i64 s10, .int .i64 s11, .int .i64 s12] := Blk.alloc (w := V) HS.out (.cells #[.int .i64 s11, .int .i64 s12] 3)
        have LY1 : Blk ((V.alloc (.cells #[.int .i64 s11, .int .i64 s12] 3)).drew) V.heap.size 3 #[.int .i64 s11, .int .i64 s12] := Blk.new V _ _
        have E1 : Below w.heap.size w ((V.alloc (.cells #[.int .i64 s11, .int .i64 s12] 3)).drew) := (EE.out.alloc EE.out.size (.cells #[.int .i64 s11, .int .i64 s12] 3)).drew
        obtain ⟨r1, hr1⟩ : ∃ VV, (V.alloc (.cells #[.int .i64 s11, .int .i64 s12] 3)).drew = VV := ⟨_, rfl⟩
        obtain ⟨gY, hg1⟩ : ∃ g, V.heap.size = g := ⟨_, rfl⟩
        try rw [hr1]
        try rw [hg1]
        simp only [hr1, hg1] at LS1 LY1 E1
        try simp only [hr1, hg1]
        clear hr1 hg1
        replace LS1 := Lib.hid LS1
        replace LY1 := Lib.hid LY1
        replace E1 := Lib.hid E1
        refine hK.out _ _ (sK _ LS1.out) (fun hHeld => ?_)
        clear hK K hHeld
        try simp only [Act.put, List.getElem_toArray, List.getElem_cons_zero, List.getElem_cons_succ, List.setIfInBounds_toArray, List.set_cons_zero, List.set_cons_succ]
        refine wpAnyH_ready (rs := [3, 9]) (by kernel_rfl) (by simp) ?_
        refine AllReadyH.cons rfl (fun K hK => ?_) ?_
        · go_simp
          refine (KD.out _).mono ?_
          rintro e r2 ⟨rfl, hb⟩
          have LS2 := Lib.hid (Blk.next (w := r1) LS1.out hb)
          have LY2 := Lib.hid (Blk.next (w := r1) LY1.out hb)
          have E2 := Lib.hid (E1.out.trans (hb.mono E1.out.size))
          clear hb
          go_wp2_with fail
          refine hK.out _ _ (sK _ LS2.out) (fun hHeld => ?_)
          clear hK K hHeld
          try simp only [Act.put, List.getElem_toArray, List.getElem_cons_zero, List.getElem_cons_succ, List.setIfInBounds_toArray, List.set_cons_zero, List.set_cons_succ]
          refine wpAnyH_take (i := 4) (v := ?_) rfl (by kernel_rfl) (by kernel_rfl) (by kernel_rfl) (fun _ _ _ h => h) (Or.inl ⟨by rfl, ?_⟩) (sK _ LS2.out) ?_
          rotate_left
          · (intro wS hSw; (try dsimp only at hSw); go_simp; try with_reducible rfl)
          simp only [Act.put, List.getElem_toArray, List.getElem_cons_zero, List.getElem_cons_succ, List.setIfInBounds_toArray, List.set_cons_zero, List.set_cons_succ]
          refine wpAnyH_ready (rs := [5, 9]) (by kernel_rfl) (by simp) ?_
          refine AllReadyH.cons rfl (fun K hK => ?_) ?_
          · go_simp
            refine (K5.out _ ).mono ?_
            rintro e r3 ⟨rfl, hb⟩
            have LS3 := Lib.hid (Blk.next (w := r2) LS2.out hb)
            have LY3 := Lib.hid (Blk.next (w := r2) LY2.out hb)
            have E3 := Lib.hid (E2.out.trans (hb.mono E2.out.size))
            clear hb
            go_wp2_with fail
            refine hK.out _ _ (sK _ LS3.out) (fun hHeld => ?_)
            clear hK K hHeld
            try simp only [Act.put, List.getElem_toArray, List.getElem_cons_zero, List.getElem_cons_succ, List.setIfInBounds_toArray, List.set_cons_zero, List.set_cons_succ]
            refine wpAnyH_take (i := 6) (v := ?_) rfl (by kernel_rfl) (by kernel_rfl) (by kernel_rfl) (fun _ _ _ h => h) (Or.inl ⟨by rfl, ?_⟩) (sK _ LS3.out) ?_
            rotate_left
            · (intro wS hSw; (try dsimp only at hSw); go_simp; try with_reducible rfl)
            simp only [Act.put, List.getElem_toArray, List.getElem_cons_zero, List.getElem_cons_succ, List.setIfInBounds_toArray, List.set_cons_zero, List.set_cons_succ]
            refine wpAnyH_ready (rs := [9]) (by kernel_rfl) (by simp) ?_
            refine AllReadyH.cons rfl (fun K hK => ?_) AllReadyH.nil
            go_simp
            have LS4 : Blk ((r3.alloc (.cells #[.int .i64 s10] 3))) (w.heap.size) 25 #[.int .i64 s0, .int .i64 s1, .int .i64 s2, .int .i64 s3, .int .i64 s4, .int .i64 s5, .int .i64 s6, .int .i64 s7, .slice A k c, .int .i64 s9, .int .i64 s10, .int .i64 s11, .int .i64 s12] := Blk.alloc (w := r3) LS3.out (.cells #[.int .i64 s10] 3)
            have LY4 : Blk ((r3.alloc (.cells #[.int .i64 s10] 3))) (gY) 3 #[.int .i64 s11, .int .i64 s12] := Blk.alloc (w := r3) LY3.out (.cells #[.int .i64 s10] 3)
            have LX4 : Blk ((r3.alloc (.cells #[.int .i64 s10] 3))) r3.heap.size 3 #[.int .i64 s10] := Blk.new r3 _ _
            have E4 : Below w.heap.size w ((r3.alloc (.cells #[.int .i64 s10] 3))) := (E3.out.alloc E3.out.size (.cells #[.int .i64 s10] 3))
            obtain ⟨r4, hr4⟩ : ∃ VV, (r3.alloc (.cells #[.int .i64 s10] 3)) = VV := ⟨_, rfl⟩
            obtain ⟨gX, hg4⟩ : ∃ g, r3.heap.size = g := ⟨_, rfl⟩
            try rw [hr4]
            try rw [hg4]
            simp only [hr4, hg4] at LS4 LY4 LX4 E4
            try simp only [hr4, hg4]
            clear hr4 hg4
            replace LS4 := Lib.hid LS4
            replace LY4 := Lib.hid LY4
            replace LX4 := Lib.hid LX4
            replace E4 := Lib.hid E4
            refine hK.out _ _ (sK _ LS4.out) (fun hHeld => ?_)
            clear hK K hHeld
            try simp only [Act.put, List.getElem_toArray, List.getElem_cons_zero, List.getElem_cons_succ, List.setIfInBounds_toArray, List.set_cons_zero, List.set_cons_succ]
            refine wpAnyH_ready (rs := [10]) (by kernel_rfl) (by simp) ?_
            refine AllReadyH.cons rfl (fun K hK => ?_) AllReadyH.nil
            go_simp
            refine (K6.out _ gX LX4.out).mono ?_
            rintro e r5 ⟨rfl, hb⟩
            have LS5 := Lib.hid (Blk.next (w := r4) LS4.out hb)
            have LY5 := Lib.hid (Blk.next (w := r4) LY4.out hb)
            have LX5 := Lib.hid (Blk.next (w := r4) LX4.out hb)
            have E5 := Lib.hid (E4.out.trans (hb.mono E4.out.size))
            clear hb
            go_wp2_with fail
            refine hK.out _ _ (sK _ LS5.out) (fun hHeld => ?_)
            clear hK K hHeld
            try simp only [Act.put, List.getElem_toArray, List.getElem_cons_zero, List.getElem_cons_succ, List.setIfInBounds_toArray, List.set_cons_zero, List.set_cons_succ]
            refine wpAnyH_take (i := 11) (v := ?_) rfl (by kernel_rfl) (by kernel_rfl) (by kernel_rfl) (fun _ _ _ h => h) (Or.inl ⟨by rfl, ?_⟩) (sK _ LS5.out) ?_
            rotate_left
            · (intro wS hSw; (try dsimp only at hSw); go_simp; try with_reducible rfl)
            simp only [Act.put, List.getElem_toArray, List.getElem_cons_zero, List.getElem_cons_succ, List.setIfInBounds_toArray, List.set_cons_zero, List.set_cons_succ]
            refine wpAnyH_ready (rs := [17]) (by kernel_rfl) (by simp) ?_
            refine AllReadyH.cons rfl (fun K hK => ?_) AllReadyH.nil
            go_simp
            refine (K7.out _ gY LY5.out).mono ?_
            rintro e r6 ⟨rfl, hb⟩
            have LS6 := Lib.hid (Blk.next (w := r5) LS5.out hb)
            have LY6 := Lib.hid (Blk.next (w := r5) LY5.out hb)
            have LX6 := Lib.hid (Blk.next (w := r5) LX5.out hb)
            have E6 := Lib.hid (E5.out.trans (hb.mono E5.out.size))
            clear hb
            go_wp2_with fail
            refine hK.out _ _ (sK _ LS6.out) (fun hHeld => ?_)
            clear hK K hHeld
            try simp only [Act.put, List.getElem_toArray, List.getElem_cons_zero, List.getElem_cons_succ, List.setIfInBounds_toArray, List.set_cons_zero, List.set_cons_succ]
            refine wpAnyH_take (i := 18) (v := ?_) rfl (by kernel_rfl) (by kernel_rfl) (by kernel_rfl) (fun _ _ _ h => h) (Or.inl ⟨by rfl, ?_⟩) (sK _ LS6.out) ?_
            rotate_left
            · (intro wS hSw; (try dsimp only at hSw); go_simp; try with_reducible rfl)
            simp only [Act.put, List.getElem_toArray, List.getElem_cons_zero, List.getElem_cons_succ, List.setIfInBounds_toArray, List.set_cons_zero, List.set_cons_succ]
            refine wpAnyH_take (i := 19) (v := ?_) rfl (by kernel_rfl) (by kernel_rfl) (by kernel_rfl) (fun _ _ _ h => h) (Or.inl ⟨by rfl, ?_⟩) (sK _ LS6.out) ?_
            rotate_left
            · (intro wS hSw; (try dsimp only at hSw); go_simp; try with_reducible rfl)
            simp only [Act.put, List.getElem_toArray, List.getElem_cons_zero, List.getElem_cons_succ, List.setIfInBounds_toArray, List.set_cons_zero, List.set_cons_succ]
            refine wpAnyH_take (i := 20) (v := ?_) rfl (by kernel_rfl) (by kernel_rfl) (by kernel_rfl) (fun _ _ _ h => h) (Or.inl ⟨by rfl, ?_⟩) (sK _ LS6.out) ?_
            rotate_left
            · (intro wS hSw; (try dsimp only at hSw); go_simp; try with_reducible rfl)
            simp only [Act.put, List.getElem_toArray, List.getElem_cons_zero, List.getElem_cons_succ, List.setIfInBounds_toArray, List.set_cons_zero, List.set_cons_succ]
            refine wpAnyH_done (by kernel_rfl) ?_ _
            go_wp2_with fail
            exact HQF.out _ E6.out
          refine AllReadyH.cons rfl (fun K hK => ?_) ?_
          · go_simp
            have LS3 : Blk ((r2.alloc (.cells #[.int .i64 s10] 3))) (w.heap.size) 25 #[.int .i64 s0, .int .i64 s1, .int .i64 s2, .int .i64 s3, .int .i64 s4, .int .i64 s5, .int .i64 s6, .int .i64 s7, .slice A k c, .int .i64 s9, .int .i64 s10, .int .i64 s11, .int .i64 s12] := Blk.alloc (w := r2) LS2.out (.cells #[.int .i64 s10] 3)
            have LY3 : Blk ((r2.alloc (.cells #[.int .i64 s10] 3))) (gY) 3 #[.int .i64 s11, .int .i64 s12] := Blk.alloc (w := r2) LY2.out (.cells #[.int .i64 s10] 3)
            have LX3 : Blk ((r2.alloc (.cells #[.int .i64 s10] 3))) r2.heap.size 3 #[.int .i64 s10] := Blk.new r2 _ _
            have E3 : Below w.heap.size w ((r2.alloc (.cells #[.int .i64 s10] 3))) := (E2.out.alloc E2.out.size (.cells #[.int .i64 s10] 3))
            obtain ⟨r3, hr3⟩ : ∃ VV, (r2.alloc (.cells #[.int .i64 s10] 3)) = VV := ⟨_, rfl⟩
            obtain ⟨gX, hg3⟩ : ∃ g, r2.heap.size = g := ⟨_, rfl⟩
            try rw [hr3]
            try rw [hg3]
            simp only [hr3, hg3] at LS3 LY3 LX3 E3
            try simp only [hr3, hg3]
            clear hr3 hg3
            replace LS3 := Lib.hid LS3
            replace LY3 := Lib.hid LY3
            replace LX3 := Lib.hid LX3
            replace E3 := Lib.hid E3
            refine hK.out _ _ (sK _ LS3.out) (fun hHeld => ?_)
            clear hK K hHeld
            try simp only [Act.put, List.getElem_toArray, List.getElem_cons_zero, List.getElem_cons_succ, List.setIfInBounds_toArray, List.set_cons_zero, List.set_cons_succ]
            refine wpAnyH_ready (rs := [5]) (by kernel_rfl) (by simp) ?_
            refine AllReadyH.cons rfl (fun K hK => ?_) AllReadyH.nil
            go_simp
            refine (K5.out _ ).mono ?_
            rintro e r4 ⟨rfl, hb⟩
            have LS4 := Lib.hid (Blk.next (w := r3) LS3.out hb)
            have LY4 := Lib.hid (Blk.next (w := r3) LY3.out hb)
            have LX4 := Lib.hid (Blk.next (w := r3) LX3.out hb)
            have E4 := Lib.hid (E3.out.trans (hb.mono E3.out.size))
            clear hb
            go_wp2_with fail
            refine hK.out _ _ (sK _ LS4.out) (fun hHeld => ?_)
            clear hK K hHeld
            try simp only [Act.put, List.getElem_toArray, List.getElem_cons_zero, List.getElem_cons_succ, List.setIfInBounds_toArray, List.set_cons_zero, List.set_cons_succ]
            refine wpAnyH_take (i := 6) (v := ?_) rfl (by kernel_rfl) (by kernel_rfl) (by kernel_rfl) (fun _ _ _ h => h) (Or.inl ⟨by rfl, ?_⟩) (sK _ LS4.out) ?_
            rotate_left
            · (intro wS hSw; (try dsimp only at hSw); go_simp; try with_reducible rfl)
            simp only [Act.put, List.getElem_toArray, List.getElem_cons_zero, List.getElem_cons_succ, List.setIfInBounds_toArray, List.set_cons_zero, List.set_cons_succ]
            refine wpAnyH_ready (rs := [10]) (by kernel_rfl) (by simp) ?_
            refine AllReadyH.cons rfl (fun K hK => ?_) AllReadyH.nil
            go_simp
            refine (K6.out _ gX LX4.out).mono ?_
            rintro e r5 ⟨rfl, hb⟩
            have LS5 := Lib.hid (Blk.next (w := r4) LS4.out hb)
            have LY5 := Lib.hid (Blk.next (w := r4) LY4.out hb)
            have LX5 := Lib.hid (Blk.next (w := r4) LX4.out hb)
            have E5 := Lib.hid (E4.out.trans (hb.mono E4.out.size))
            clear hb
            go_wp2_with fail
            refine hK.out _ _ (sK _ LS5.out) (fun hHeld => ?_)
            clear hK K hHeld
            try simp only [Act.put, List.getElem_toArray, List.getElem_cons_zero, List.getElem_cons_succ, List.setIfInBounds_toArray, List.set_cons_zero, List.set_cons_succ]
            refine wpAnyH_take (i := 11) (v := ?_) rfl (by kernel_rfl) (by kernel_rfl) (by kernel_rfl) (fun _ _ _ h => h) (Or.inl ⟨by rfl, ?_⟩) (sK _ LS5.out) ?_
            rotate_left
            · (intro wS hSw; (try dsimp only at hSw); go_simp; try with_reducible rfl)
            simp only [Act.put, List.getElem_toArray, List.getElem_cons_zero, List.getElem_cons_succ, List.setIfInBounds_toArray, List.set_cons_zero, List.set_cons_succ]
            refine wpAnyH_ready (rs := [17]) (by kernel_rfl) (by simp) ?_
            refine AllReadyH.cons rfl (fun K hK => ?_) AllReadyH.nil
            go_simp
            refine (K7.out _ gY LY5.out).mono ?_
            rintro e r6 ⟨rfl, hb⟩
            have LS6 := Lib.hid (Blk.next (w := r5) LS5.out hb)
            have LY6 := Lib.hid (Blk.next (w := r5) LY5.out hb)
            have LX6 := Lib.hid (Blk.next (w := r5) LX5.out hb)
            have E6 := Lib.hid (E5.out.trans (hb.mono E5.out.size))
            clear hb
            go_wp2_with fail
            refine hK.out _ _ (sK _ LS6.out) (fun hHeld => ?_)
            clear hK K hHeld
            try simp only [Act.put, List.getElem_toArray, List.getElem_cons_zero, List.getElem_cons_succ, List.setIfInBounds_toArray, List.set_cons_zero, List.set_cons_succ]
            refine wpAnyH_take (i := 18) (v := ?_) rfl (by kernel_rfl) (by kernel_rfl) (by kernel_rfl) (fun _ _ _ h => h) (Or.inl ⟨by rfl, ?_⟩) (sK _ LS6.out) ?_
            rotate_left
            · (intro wS hSw; (try dsimp only at hSw); go_simp; try with_reducible rfl)
            simp only [Act.put, List.getElem_toArray, List.getElem_cons_zero, List.getElem_cons_succ, List.setIfInBounds_toArray, List.set_cons_zero, List.set_cons_succ]
            refine wpAnyH_take (i := 19) (v := ?_) rfl (by kernel_rfl) (by kernel_rfl) (by kernel_rfl) (fun _ _ _ h => h) (Or.inl ⟨by rfl, ?_⟩) (sK _ LS6.out) ?_
            rotate_left
            · (intro wS hSw; (try dsimp only at hSw); go_simp; try with_reducible rfl)
            simp only [Act.put, List.getElem_toArray, List.getElem_cons_zero, List.getElem_cons_succ, List.setIfInBounds_toArray, List.set_cons_zero, List.set_cons_succ]
            refine wpAnyH_take (i := 20) (v := ?_) rfl (by kernel_rfl) (by kernel_rfl) (by kernel_rfl) (fun _ _ _ h => h) (Or.inl ⟨by rfl, ?_⟩) (sK _ LS6.out) ?_
            rotate_left
            · (intro wS hSw; (try dsimp only at hSw); go_simp; try with_reducible rfl)
            simp only [Act.put, List.getElem_toArray, List.getElem_cons_zero, List.getElem_cons_succ, List.setIfInBounds_toArray, List.set_cons_zero, List.set_cons_succ]
            refine wpAnyH_done (by kernel_rfl) ?_ _
            go_wp2_with fail
            exact HQF.out _ E6.out
          exact AllReadyH.nil
        refine AllReadyH.cons rfl (fun K hK => ?_) ?_
        · go_simp
          have LS2 : Blk ((r1.alloc (.cells #[.int .i64 s10] 3))) (w.heap.size) 25 #[.int .i64 s0, .int .i64 s1, .int .i64 s2, .int .i64 s3, .int .i64 s4, .int .i64 s5, .int .i64 s6, .int .i64 s7, .slice A k c, .int .i64 s9, .int .i64 s10, .int .i64 s11, .int .i64 s12] := Blk.alloc (w := r1) LS1.out (.cells #[.int .i64 s10] 3)
          have LY2 : Blk ((r1.alloc (.cells #[.int .i64 s10] 3))) (gY) 3 #[.int .i64 s11, .int .i64 s12] := Blk.alloc (w := r1) LY1.out (.cells #[.int .i64 s10] 3)
          have LX2 : Blk ((r1.alloc (.cells #[.int .i64 s10] 3))) r1.heap.size 3 #[.int .i64 s10] := Blk.new r1 _ _
          have E2 : Below w.heap.size w ((r1.alloc (.cells #[.int .i64 s10] 3))) := (E1.out.alloc E1.out.size (.cells #[.int .i64 s10] 3))
          obtain ⟨r2, hr2⟩ : ∃ VV, (r1.alloc (.cells #[.int .i64 s10] 3)) = VV := ⟨_, rfl⟩
          obtain ⟨gX, hg2⟩ : ∃ g, r1.heap.size = g := ⟨_, rfl⟩
          try rw [hr2]
          try rw [hg2]
          simp only [hr2, hg2] at LS2 LY2 LX2 E2
          try simp only [hr2, hg2]
          clear hr2 hg2
          replace LS2 := Lib.hid LS2
          replace LY2 := Lib.hid LY2
          replace LX2 := Lib.hid LX2
          replace E2 := Lib.hid E2
          refine hK.out _ _ (sK _ LS2.out) (fun hHeld => ?_)
          clear hK K hHeld
          try simp only [Act.put, List.getElem_toArray, List.getElem_cons_zero, List.getElem_cons_succ, List.setIfInBounds_toArray, List.set_cons_zero, List.set_cons_succ]
          refine wpAnyH_ready (rs := [3]) (by kernel_rfl) (by simp) ?_
          refine AllReadyH.cons rfl (fun K hK => ?_) AllReadyH.nil
          go_simp
          refine (KD.out _).mono ?_
          rintro e r3 ⟨rfl, hb⟩
          have LS3 := Lib.hid (Blk.next (w := r2) LS2.out hb)
          have LY3 := Lib.hid (Blk.next (w := r2) LY2.out hb)
          have LX3 := Lib.hid (Blk.next (w := r2) LX2.out hb)
          have E3 := Lib.hid (E2.out.trans (hb.mono E2.out.size))
          clear hb
          go_wp2_with fail
          refine hK.out _ _ (sK _ LS3.out) (fun hHeld => ?_)
          clear hK K hHeld
          try simp only [Act.put, List.getElem_toArray, List.getElem_cons_zero, List.getElem_cons_succ, List.setIfInBounds_toArray, List.set_cons_zero, List.set_cons_succ]
          refine wpAnyH_take (i := 4) (v := ?_) rfl (by kernel_rfl) (by kernel_rfl) (by kernel_rfl) (fun _ _ _ h => h) (Or.inl ⟨by rfl, ?_⟩) (sK _ LS3.out) ?_
          rotate_left
          · (intro wS hSw; (try dsimp only at hSw); go_simp; try with_reducible rfl)
          simp only [Act.put, List.getElem_toArray, List.getElem_cons_zero, List.getElem_cons_succ, List.setIfInBounds_toArray, List.set_cons_zero, List.set_cons_succ]
          refine wpAnyH_ready (rs := [5]) (by kernel_rfl) (by simp) ?_
          refine AllReadyH.cons rfl (fun K hK => ?_) AllReadyH.nil
          go_simp
          refine (K5.out _ ).mono ?_
          rintro e r4 ⟨rfl, hb⟩
          have LS4 := Lib.hid (Blk.next (w := r3) LS3.out hb)
          have LY4 := Lib.hid (Blk.next (w := r3) LY3.out hb)
          have LX4 := Lib.hid (Blk.next (w := r3) LX3.out hb)
          have E4 := Lib.hid (E3.out.trans (hb.mono E3.out.size))
          clear hb
          go_wp2_with fail
          refine hK.out _ _ (sK _ LS4.out) (fun hHeld => ?_)
          clear hK K hHeld
          try simp only [Act.put, List.getElem_toArray, List.getElem_cons_zero, List.getElem_cons_succ, List.setIfInBounds_toArray, List.set_cons_zero, List.set_cons_succ]
          refine wpAnyH_take (i := 6) (v := ?_) rfl (by kernel_rfl) (by kernel_rfl) (by kernel_rfl) (fun _ _ _ h => h) (Or.inl ⟨by rfl, ?_⟩) (sK _ LS4.out) ?_
          rotate_left
          · (intro wS hSw; (try dsimp only at hSw); go_simp; try with_reducible rfl)
          simp only [Act.put, List.getElem_toArray, List.getElem_cons_zero, List.getElem_cons_succ, List.setIfInBounds_toArray, List.set_cons_zero, List.set_cons_succ]
          refine wpAnyH_ready (rs := [10]) (by kernel_rfl) (by simp) ?_
          refine AllReadyH.cons rfl (fun K hK => ?_) AllReadyH.nil
          go_simp
          refine (K6.out _ gX LX4.out).mono ?_
          rintro e r5 ⟨rfl, hb⟩
          have LS5 := Lib.hid (Blk.next (w := r4) LS4.out hb)
          have LY5 := Lib.hid (Blk.next (w := r4) LY4.out hb)
          have LX5 := Lib.hid (Blk.next (w := r4) LX4.out hb)
          have E5 := Lib.hid (E4.out.trans (hb.mono E4.out.size))
          clear hb
          go_wp2_with fail
          refine hK.out _ _ (sK _ LS5.out) (fun hHeld => ?_)
          clear hK K hHeld
          try simp only [Act.put, List.getElem_toArray, List.getElem_cons_zero, List.getElem_cons_succ, List.setIfInBounds_toArray, List.set_cons_zero, List.set_cons_succ]
          refine wpAnyH_take (i := 11) (v := ?_) rfl (by kernel_rfl) (by kernel_rfl) (by kernel_rfl) (fun _ _ _ h => h) (Or.inl ⟨by rfl, ?_⟩) (sK _ LS5.out) ?_
          rotate_left
          · (intro wS hSw; (try dsimp only at hSw); go_simp; try with_reducible rfl)
          simp only [Act.put, List.getElem_toArray, List.getElem_cons_zero, List.getElem_cons_succ, List.setIfInBounds_toArray, List.set_cons_zero, List.set_cons_succ]
          refine wpAnyH_ready (rs := [17]) (by kernel_rfl) (by simp) ?_
          refine AllReadyH.cons rfl (fun K hK => ?_) AllReadyH.nil
          go_simp
          refine (K7.out _ gY LY5.out).mono ?_
          rintro e r6 ⟨rfl, hb⟩
          have LS6 := Lib.hid (Blk.next (w := r5) LS5.out hb)
          have LY6 := Lib.hid (Blk.next (w := r5) LY5.out hb)
          have LX6 := Lib.hid (Blk.next (w := r5) LX5.out hb)
          have E6 := Lib.hid (E5.out.trans (hb.mono E5.out.size))
          clear hb
          go_wp2_with fail
          refine hK.out _ _ (sK _ LS6.out) (fun hHeld => ?_)
          clear hK K hHeld
          try simp only [Act.put, List.getElem_toArray, List.getElem_cons_zero, List.getElem_cons_succ, List.setIfInBounds_toArray, List.set_cons_zero, List.set_cons_succ]
          refine wpAnyH_take (i := 18) (v := ?_) rfl (by kernel_rfl) (by kernel_rfl) (by kernel_rfl) (fun _ _ _ h => h) (Or.inl ⟨by rfl, ?_⟩) (sK _ LS6.out) ?_
          rotate_left
          · (intro wS hSw; (try dsimp only at hSw); go_simp; try with_reducible rfl)
          simp only [Act.put, List.getElem_toArray, List.getElem_cons_zero, List.getElem_cons_succ, List.setIfInBounds_toArray, List.set_cons_zero, List.set_cons_succ]
          refine wpAnyH_take (i := 19) (v := ?_) rfl (by kernel_rfl) (by kernel_rfl) (by kernel_rfl) (fun _ _ _ h => h) (Or.inl ⟨by rfl, ?_⟩) (sK _ LS6.out) ?_
          rotate_left
          · (intro wS hSw; (try dsimp only at hSw); go_simp; try with_reducible rfl)
          simp only [Act.put, List.getElem_toArray, List.getElem_cons_zero, List.getElem_cons_succ, List.setIfInBounds_toArray, List.set_cons_zero, List.set_cons_succ]
          refine wpAnyH_take (i := 20) (v := ?_) rfl (by kernel_rfl) (by kernel_rfl) (by kernel_rfl) (fun _ _ _ h => h) (Or.inl ⟨by rfl, ?_⟩) (sK _ LS6.out) ?_
          rotate_left
          · (intro wS hSw; (try dsimp only at hSw); go_simp; try with_reducible rfl)
          simp only [Act.put, List.getElem_toArray, List.getElem_cons_zero, List.getElem_cons_succ, List.setIfInBounds_toArray, List.set_cons_zero, List.set_cons_succ]
          refine wpAnyH_done (by kernel_rfl) ?_ _
          go_wp2_with fail
          exact HQF.out _ E6.out
        exact AllReadyH.nil
      exact AllReadyH.nil
end Go.Proofs.YtmnildjcnpfddaaDoor
