/- The walk of HeapSorts: it answers true for every input, and leaves all old blocks as they were. No condition. -/
import Derived.Test.YtobeppajomhfjaaRows
import Derived.Test.YtobeppajomhfjaaRowKit
import Derived.Test.YtobeppajomhfjaaRowS
import Derived.Test.YtobeppajomhfjaaRowZ
import Derived.Test.YtobeppajomhfjaaSlicesEq
import Derived.Test.YtobeppajomhfjaaSlicesEqM
import Derived.Test.YtobeppajomhfjaaRowL
import Derived.Test.YtobeppajomhfjaaRowM
import Derived.Test.YtobeppajomhfjaaMakeI
import Derived.Test.YtobeppajomhfjaaBlocks
import Derived.Test.YtobeppajomhfjaaAtKit
import Derived.Test.YtobeppajomhfjaaHeapR
import Derived.WalkKit
import Derived.ProofKit
import Derived.OpenShut
import Derived.Deep.QuietTactic
import Derived.BigQuiet
import Derived.Lib.SmallJoins
import Derived.Lib.Hide
import Derived.WalkSpells
import Derived.WalkLawsBesides
import Derived.OwnWalk
import Derived.BigRegion
import Derived.Deep.LoopGhost
import Derived.Deep.RegionHeld3
import Derived.IntWalk
namespace Go.Proofs.Ytobeppajomhfjaa.heapSorts
open Go.ChangeShapes Go.WideShapes Go.ChangeAt Go.RowKit Go.Joins
set_option linter.unusedSimpArgs false
set_option linter.unusedVariables false

theorem sorts_same {M R L : List Ent} (h1 : M.Perm L) (h2 : OrdE M) (h3 : R.Perm L) (h4 : OrdP R) : M = R := ordP_unique M R (ordP_of h2) h4 (h1.trans h3.symm)
theorem isE_arg {w : World} {A : Option Addr} {c k : Nat} {z : Nat → Nat → Int} (ra : RdZ w 3 A k z) (a1 : k ≤ c) (a2 : c ≤ maxLen) (a3 : A = none → c = 0) : IsE w (.slice A k c) ((List.range k).map fun i => (z i 0, z i 1, z i 2)) := by
  have hl : ((List.range k).map fun i => (z i 0, z i 1, z i 2)).length = k := by simp
  refine ⟨A, c, by rw [hl], ?_, by rw [hl]; exact a1, a2, a3⟩
  rw [hl]
  intro i hi
  obtain ⟨a, e, hlt, hc⟩ := ra i hi
  refine ⟨a, e, hlt, fun j hj => ?_⟩
  have e2 : zE ((List.range k).map fun i => (z i 0, z i 1, z i 2)) i j = z i j := by
    have h3 : j = 0 ∨ j = 1 ∨ j = 2 := by omega
    unfold zE
    rw [List.getD_eq_getElem?_getD, List.getElem?_map, List.getElem?_range hi]
    rcases h3 with rfl | rfl | rfl <;> rfl
  rw [e2]; exact hc j hj
set_option maxRecDepth 100000 in
set_option maxHeartbeats 8000000 in
theorem walk {A : Option Addr} {c k : Nat} {z : Nat → Nat → Int} {a b d x y u : Int} {w : World} (a1 : k ≤ c) (a2 : c ≤ maxLen) (ra : RdZ w 3 A k z) (a3 : A = none → c = 0) (_ : (Lit.int .i64 a).wf = true) (_ : (Lit.int .i64 b).wf = true) (_ : (Lit.int .i64 d).wf = true) (_ : (Lit.int .i64 x).wf = true) (_ : (Lit.int .i64 y).wf = true) (_ : (Lit.int .i64 u).wf = true) :
    Calls Try.prog 3 #[.slice A k c, .agg #[.int .i64 a, .int .i64 b, .int .i64 d], .agg #[.int .i64 x, .int .i64 y, .int .i64 u]] w fun e w' => e = .returned (.bool true) ∧ Below w.heap.size w w' := by
  have ha := isE_arg ra a1 a2 a3
  obtain ⟨X, hX⟩ : ∃ X, ((List.range k).map fun i => (z i 0, z i 1, z i 2)) = X := ⟨_, rfl⟩
  have hXl : X.length = k := by rw [← hX]; simp
  rw [hX] at ha
  have HX := Lib.hid ha
  have hM : maxLen ≤ 9223372036854775807 := by decide
  clear ra hX ha
  by_cases g1 : 100 < k
  · have g1' : (100 : Int) < (k : Int) := by omega
    go_enter Try.func3, Try.ntmps3
    go_wp2_with fail
    go_ret
    exact ⟨rfl, ((Below.refl w.heap.size w).alloc (Nat.le_refl _) _).alloc (by simp) _⟩
  have g1' : ¬ (100 : Int) < (k : Int) := by omega
  have KL := Lib.hid (fun W => less_any (a, b, d) (x, y, u) W)
  have KD := Lib.hid (fun W => dless_any (a, b, d) (x, y, u) W)
  unfold aE at KL KD
  dsimp only at KL KD
  obtain ⟨lr, hlr⟩ : ∃ r, ltb (a, b, d) (x, y, u) = r := ⟨_, rfl⟩
  rw [hlr] at KL KD
  clear hlr
  have K1 := Lib.hid (fun W (hb : Below w.heap.size w W) => sorted_any _ X W (HX.out.kept hb) (by omega))
  have K2 := Lib.hid (fun W (hb : Below w.heap.size w W) => dsorted_any _ X W (HX.out.kept hb) (by omega))
  have HXL := Lib.hid hXl
  clear hXl
  go_enter Try.func3, Try.ntmps3
  go_wp2_with fail
  have BA := (Blk.new w #[.int .i64 a, .int .i64 b, .int .i64 d] 24).alloc (.cells #[.int .i64 x, .int .i64 y, .int .i64 u] 24)
  have BB := Blk.new (w.alloc (.cells #[.int .i64 a, .int .i64 b, .int .i64 d] 24)) #[.int .i64 x, .int .i64 y, .int .i64 u] 24
  rw [World.size_alloc] at BB
  have BE : Below w.heap.size w ((w.alloc (.cells #[.int .i64 a, .int .i64 b, .int .i64 d] 24)).alloc (.cells #[.int .i64 x, .int .i64 y, .int .i64 u] 24)) := ((Below.refl w.heap.size w).alloc (Nat.le_refl _) _).alloc (by simp <;> omega) _
  obtain ⟨V0, hV0⟩ : ∃ V, ((w.alloc (.cells #[.int .i64 a, .int .i64 b, .int .i64 d] 24)).alloc (.cells #[.int .i64 x, .int .i64 y, .int .i64 u] 24)) = V := ⟨_, rfl⟩
  rw [hV0] at BA BB BE ⊢
  have HA := Lib.hid BA
  have HB := Lib.hid BB
  have EE := Lib.hid BE
  have ne0_1 : w.heap.size ≠ w.heap.size + 1 := by omega
  have ne1_0 : w.heap.size + 1 ≠ w.heap.size := by omega
  clear hV0 BE BA BB
  have kA0 : V0.cell? ⟨w.heap.size, 0, none⟩ = some (.int .i64 a) := HA.out.cell 0
  have kA1 : V0.cell? ⟨w.heap.size, 1, none⟩ = some (.int .i64 b) := HA.out.cell 1
  have kA2 : V0.cell? ⟨w.heap.size, 2, none⟩ = some (.int .i64 d) := HA.out.cell 2
  have kB0 : V0.cell? ⟨w.heap.size + 1, 0, none⟩ = some (.int .i64 x) := HB.out.cell 0
  have kB1 : V0.cell? ⟨w.heap.size + 1, 1, none⟩ = some (.int .i64 y) := HB.out.cell 1
  have kB2 : V0.cell? ⟨w.heap.size + 1, 2, none⟩ = some (.int .i64 u) := HB.out.cell 2
  go_wp2_with fail
  have sK : ∀ X, Blk X (w.heap.size) 24 #[.int .i64 a, .int .i64 b, .int .i64 d] → Blk X (w.heap.size + 1) 24 #[.int .i64 x, .int .i64 y, .int .i64 u] → (fun X => X.cell? ⟨w.heap.size, 0, none⟩ = some (.int .i64 a) ∧ X.cell? ⟨w.heap.size, 1, none⟩ = some (.int .i64 b) ∧ X.cell? ⟨w.heap.size, 2, none⟩ = some (.int .i64 d) ∧ X.cell? ⟨w.heap.size + 1, 0, none⟩ = some (.int .i64 x) ∧ X.cell? ⟨w.heap.size + 1, 1, none⟩ = some (.int .i64 y) ∧ X.cell? ⟨w.heap.size + 1, 2, none⟩ = some (.int .i64 u)) X := fun X hA hB => ⟨hA.cell 0, hA.cell 1, hA.cell 2, hB.cell 0, hB.cell 1, hB.cell 2⟩
  have LA0 := Lib.hid (HA.out.drew)
  have LB0 := Lib.hid (HB.out.drew)
  have E0 := Lib.hid (EE.out.drew)
  clear kA0 kA1 kA2 kB0 kB1 kB2
  refine wp_region_held_drew (S := (fun X => X.cell? ⟨w.heap.size, 0, none⟩ = some (.int .i64 a) ∧ X.cell? ⟨w.heap.size, 1, none⟩ = some (.int .i64 b) ∧ X.cell? ⟨w.heap.size, 2, none⟩ = some (.int .i64 d) ∧ X.cell? ⟨w.heap.size + 1, 0, none⟩ = some (.int .i64 x) ∧ X.cell? ⟨w.heap.size + 1, 1, none⟩ = some (.int .i64 y) ∧ X.cell? ⟨w.heap.size + 1, 2, none⟩ = some (.int .i64 u))) (by kernel_rfl) (sK _ LA0.out LB0.out) (fun hHeld => ?_)
  clear hHeld
  refine wpAnyH_take (i := 0) (v := ?_) rfl (by kernel_rfl) (by kernel_rfl) (by kernel_rfl) (fun _ _ _ h => h) (Or.inl ⟨by rfl, ?_⟩) (sK _ LA0.out LB0.out) ?_
  rotate_left
  · (intro wS hSw; (try dsimp only at hSw); go_simp; try with_reducible rfl)
  simp only [Act.put, List.getElem_toArray, List.getElem_cons_zero, List.getElem_cons_succ, List.setIfInBounds_toArray, List.set_cons_zero, List.set_cons_succ]
  refine wpAnyH_take (i := 2) (v := ?_) rfl (by kernel_rfl) (by kernel_rfl) (by kernel_rfl) (fun _ _ _ h => h) (Or.inl ⟨by rfl, ?_⟩) (sK _ LA0.out LB0.out) ?_
  rotate_left
  · (intro wS hSw; (try dsimp only at hSw); go_simp; try with_reducible rfl)
  simp only [Act.put, List.getElem_toArray, List.getElem_cons_zero, List.getElem_cons_succ, List.setIfInBounds_toArray, List.set_cons_zero, List.set_cons_succ]
  refine wpAnyH_ready (rs := [1]) (by kernel_rfl) (by simp) ?_
  refine AllReadyH.cons rfl (fun K hK => ?_) AllReadyH.nil
  go_simp
  refine (K1.out _ E0.out).mono ?_
  rintro e r1 ⟨v1, M, rfl, p1, o1, h1, hb⟩
  have LA1 := Lib.hid (Blk.next (w := V0.drew) LA0.out hb)
  have LB1 := Lib.hid (Blk.next (w := V0.drew) LB0.out hb)
  have E1 := Lib.hid (E0.out.trans (hb.mono E0.out.size))
  have P1 := Lib.hid p1; have O1 := Lib.hid o1; have H1 := Lib.hid h1
  clear p1 o1 h1
  clear hb
  go_wp2_with fail
  refine hK.out _ _ (sK _ LA1.out LB1.out) (fun hHeld => ?_)
  clear hK K hHeld
  try simp only [Act.put, List.getElem_toArray, List.getElem_cons_zero, List.getElem_cons_succ, List.setIfInBounds_toArray, List.set_cons_zero, List.set_cons_succ]
  refine wpAnyH_ready (rs := [3]) (by kernel_rfl) (by simp) ?_
  refine AllReadyH.cons rfl (fun K hK => ?_) AllReadyH.nil
  go_simp
  refine (K2.out _ E1.out).mono ?_
  rintro e r2 ⟨v2, R, rfl, p2, o2, h2, hb, _⟩
  have LA2 := Lib.hid (Blk.next (w := r1) LA1.out hb)
  have LB2 := Lib.hid (Blk.next (w := r1) LB1.out hb)
  have E2 := Lib.hid (E1.out.trans (hb.mono E1.out.size))
  obtain rfl := sorts_same P1.out O1.out p2 o2
  have H1b := Lib.hid (H1.out.kept hb); have H2 := Lib.hid h2
  clear p2 o2 h2 K1 K2
  clear hb
  go_wp2_with fail
  refine hK.out _ _ (sK _ LA2.out LB2.out) (fun hHeld => ?_)
  clear hK K hHeld
  try simp only [Act.put, List.getElem_toArray, List.getElem_cons_zero, List.getElem_cons_succ, List.setIfInBounds_toArray, List.set_cons_zero, List.set_cons_succ]
  refine wpAnyH_ready (rs := [4]) (by kernel_rfl) (by simp) ?_
  refine AllReadyH.cons rfl (fun K hK => ?_) AllReadyH.nil
  go_simp
  refine (ents_same v1 v2 M _ H1b.out H2.out (by have := P1.out.length_eq; have := HXL.out; omega)).mono ?_
  rintro e r3 ⟨rfl, hb⟩
  have LA3 := Lib.hid (Blk.next (w := r2) LA2.out hb)
  have LB3 := Lib.hid (Blk.next (w := r2) LB2.out hb)
  have E3 := Lib.hid (E2.out.trans (hb.mono E2.out.size))
  clear hb
  go_wp2_with fail
  refine hK.out _ _ (sK _ LA3.out LB3.out) (fun hHeld => ?_)
  clear hK K hHeld
  try simp only [Act.put, List.getElem_toArray, List.getElem_cons_zero, List.getElem_cons_succ, List.setIfInBounds_toArray, List.set_cons_zero, List.set_cons_succ]
  refine wpAnyH_take (i := 5) (v := ?_) rfl (by kernel_rfl) (by kernel_rfl) (by kernel_rfl) (fun _ _ _ h => h) (Or.inl ⟨by rfl, ?_⟩) (sK _ LA3.out LB3.out) ?_
  rotate_left
  · (intro wS hSw; (try dsimp only at hSw); go_simp; try with_reducible rfl)
  simp only [Act.put, List.getElem_toArray, List.getElem_cons_zero, List.getElem_cons_succ, List.setIfInBounds_toArray, List.set_cons_zero, List.set_cons_succ]
  refine wpAnyH_take (i := 6) (v := ?_) rfl (by kernel_rfl) (by kernel_rfl) (by kernel_rfl) (fun _ _ _ h => h) (Or.inl ⟨by rfl, ?_⟩) (sK _ LA3.out LB3.out) ?_
  rotate_left
  · (intro wS hSw; (try dsimp only at hSw); go_simp; try with_reducible rfl)
  simp only [Act.put, List.getElem_toArray, List.getElem_cons_zero, List.getElem_cons_succ, List.setIfInBounds_toArray, List.set_cons_zero, List.set_cons_succ]
  refine wpAnyH_take (i := 7) (v := ?_) rfl (by kernel_rfl) (by kernel_rfl) (by kernel_rfl) (fun _ _ _ h => h) (Or.inl ⟨by rfl, ?_⟩) (sK _ LA3.out LB3.out) ?_
  rotate_left
  · (intro wS hSw; (try dsimp only at hSw); go_simp; try with_reducible rfl)
  simp only [Act.put, List.getElem_toArray, List.getElem_cons_zero, List.getElem_cons_succ, List.setIfInBounds_toArray, List.set_cons_zero, List.set_cons_succ]
  refine wpAnyH_take (i := 9) (v := ?_) rfl (by kernel_rfl) (by kernel_rfl) (by kernel_rfl) (fun _ _ _ h => h) (Or.inl ⟨by rfl, ?_⟩) (sK _ LA3.out LB3.out) ?_
  rotate_left
  · (intro wS hSw; (try dsimp only at hSw); go_simp; try with_reducible rfl)
  simp only [Act.put, List.getElem_toArray, List.getElem_cons_zero, List.getElem_cons_succ, List.setIfInBounds_toArray, List.set_cons_zero, List.set_cons_succ]
  refine wpAnyH_take (i := 10) (v := ?_) rfl (by kernel_rfl) (by kernel_rfl) (by kernel_rfl) (fun _ _ _ h => h) (Or.inl ⟨by rfl, ?_⟩) (sK _ LA3.out LB3.out) ?_
  rotate_left
  · (intro wS hSw; (try dsimp only at hSw); go_simp; try with_reducible rfl)
  simp only [Act.put, List.getElem_toArray, List.getElem_cons_zero, List.getElem_cons_succ, List.setIfInBounds_toArray, List.set_cons_zero, List.set_cons_succ]
  refine wpAnyH_ready (rs := [8]) (by kernel_rfl) (by simp) ?_
  refine AllReadyH.cons rfl (fun K hK => ?_) AllReadyH.nil
  go_simp
  refine (KL.out _).mono ?_
  rintro e r4 ⟨rfl, hb⟩
  have LA4 := Lib.hid (Blk.next (w := r3) LA3.out hb)
  have LB4 := Lib.hid (Blk.next (w := r3) LB3.out hb)
  have E4 := Lib.hid (E3.out.trans (hb.mono E3.out.size))
  clear hb
  go_wp2_with fail
  refine hK.out _ _ (sK _ LA4.out LB4.out) (fun hHeld => ?_)
  clear hK K hHeld
  try simp only [Act.put, List.getElem_toArray, List.getElem_cons_zero, List.getElem_cons_succ, List.setIfInBounds_toArray, List.set_cons_zero, List.set_cons_succ]
  refine wpAnyH_ready (rs := [11]) (by kernel_rfl) (by simp) ?_
  refine AllReadyH.cons rfl (fun K hK => ?_) AllReadyH.nil
  go_simp
  refine (KD.out _).mono ?_
  rintro e r5 ⟨rfl, hb⟩
  have LA5 := Lib.hid (Blk.next (w := r4) LA4.out hb)
  have LB5 := Lib.hid (Blk.next (w := r4) LB4.out hb)
  have E5 := Lib.hid (E4.out.trans (hb.mono E4.out.size))
  clear hb
  go_wp2_with fail
  refine hK.out _ _ (sK _ LA5.out LB5.out) (fun hHeld => ?_)
  clear hK K hHeld
  try simp only [Act.put, List.getElem_toArray, List.getElem_cons_zero, List.getElem_cons_succ, List.setIfInBounds_toArray, List.set_cons_zero, List.set_cons_succ]
  refine wpAnyH_take (i := 12) (v := ?_) rfl (by kernel_rfl) (by kernel_rfl) (by kernel_rfl) (fun _ _ _ h => h) (Or.inl ⟨by rfl, ?_⟩) (sK _ LA5.out LB5.out) ?_
  rotate_left
  · (intro wS hSw; (try dsimp only at hSw); go_simp; try with_reducible rfl)
  simp only [Act.put, List.getElem_toArray, List.getElem_cons_zero, List.getElem_cons_succ, List.setIfInBounds_toArray, List.set_cons_zero, List.set_cons_succ]
  refine wpAnyH_take (i := 13) (v := ?_) rfl (by kernel_rfl) (by kernel_rfl) (by kernel_rfl) (fun _ _ _ h => h) (Or.inl ⟨by rfl, ?_⟩) (sK _ LA5.out LB5.out) ?_
  rotate_left
  · (intro wS hSw; (try dsimp only at hSw); go_simp; try with_reducible rfl)
  simp only [Act.put, List.getElem_toArray, List.getElem_cons_zero, List.getElem_cons_succ, List.setIfInBounds_toArray, List.set_cons_zero, List.set_cons_succ]
  refine wpAnyH_take (i := 14) (v := ?_) rfl (by kernel_rfl) (by kernel_rfl) (by kernel_rfl) (fun _ _ _ h => h) (Or.inl ⟨by rfl, ?_⟩) (sK _ LA5.out LB5.out) ?_
  rotate_left
  · (intro wS hSw; (try dsimp only at hSw); go_simp; try with_reducible rfl)
  simp only [Act.put, List.getElem_toArray, List.getElem_cons_zero, List.getElem_cons_succ, List.setIfInBounds_toArray, List.set_cons_zero, List.set_cons_succ]
  refine wpAnyH_ready (rs := [15]) (by kernel_rfl) (by simp) ?_
  refine AllReadyH.cons rfl (fun K hK => ?_) AllReadyH.nil
  go_simp
  refine (alive06 _).mono ?_
  rintro e r6 ⟨rfl, hb⟩
  have LA6 := Lib.hid (Blk.next (w := r5) LA5.out hb)
  have LB6 := Lib.hid (Blk.next (w := r5) LB5.out hb)
  have E6 := Lib.hid (E5.out.trans (hb.mono E5.out.size))
  clear hb
  go_wp2_with fail
  refine hK.out _ _ (sK _ LA6.out LB6.out) (fun hHeld => ?_)
  clear hK K hHeld
  try simp only [Act.put, List.getElem_toArray, List.getElem_cons_zero, List.getElem_cons_succ, List.setIfInBounds_toArray, List.set_cons_zero, List.set_cons_succ]
  refine wpAnyH_take (i := 16) (v := ?_) rfl (by kernel_rfl) (by kernel_rfl) (by kernel_rfl) (fun _ _ _ h => h) (Or.inl ⟨by rfl, ?_⟩) (sK _ LA6.out LB6.out) ?_
  rotate_left
  · (intro wS hSw; (try dsimp only at hSw); go_simp; try with_reducible rfl)
  simp only [Act.put, List.getElem_toArray, List.getElem_cons_zero, List.getElem_cons_succ, List.setIfInBounds_toArray, List.set_cons_zero, List.set_cons_succ]
  refine wpAnyH_take (i := 17) (v := ?_) rfl (by kernel_rfl) (by kernel_rfl) (by kernel_rfl) (fun _ _ _ h => h) (Or.inl ⟨by rfl, ?_⟩) (sK _ LA6.out LB6.out) ?_
  rotate_left
  · (intro wS hSw; (try dsimp only at hSw); go_simp; try with_reducible rfl)
  simp only [Act.put, List.getElem_toArray, List.getElem_cons_zero, List.getElem_cons_succ, List.setIfInBounds_toArray, List.set_cons_zero, List.set_cons_succ]
  refine wpAnyH_done (by kernel_rfl) ?_ _
  go_wp2_with fail
  go_ret
  exact ⟨rfl, E6.out⟩

end Go.Proofs.Ytobeppajomhfjaa.heapSorts
