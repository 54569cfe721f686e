/- The walk of WindowsRows: it answers true for every input, and leaves all old blocks as they were. No condition. -/
import Derived.Test.YtffcmfpadaebdabRows
import Derived.Test.YtffcmfpadaebdabRowKit
import Derived.Test.YtffcmfpadaebdabRowKit
import Derived.Test.YtffcmfpadaebdabRowS
import Derived.Test.YtffcmfpadaebdabRowZ
import Derived.Test.YtffcmfpadaebdabSlicesEq
import Derived.Test.YtffcmfpadaebdabRowL
import Derived.Test.YtffcmfpadaebdabRowM
import Derived.Test.YtffcmfpadaebdabBlocks
import Derived.Test.YtffcmfpadaebdabWinMath
import Derived.Test.YtffcmfpadaebdabSlicesEqM
import Derived.Test.YtffcmfpadaebdabMakeI
import Derived.Test.YtffcmfpadaebdabPulseMath
import Derived.Test.YtffcmfpadaebdabPulseA
import Derived.Test.YtffcmfpadaebdabWindowsA
import Derived.Test.YtffcmfpadaebdabWindowsB
import Derived.Test.YtffcmfpadaebdabWindowsC
import Derived.Test.YtffcmfpadaebdabWindowsD
import Derived.Test.YtffcmfpadaebdabWindowsE
import Derived.Test.YtffcmfpadaebdabWindowsR
import Derived.Test.YtffcmfpadaebdabWindowsS
import Derived.Test.YtffcmfpadaebdabWindowsT
import Derived.WalkKit
import Derived.ProofKit
import Derived.OpenShut
import Derived.Deep.QuietTactic
import Derived.BigQuiet
import Derived.Lib.SmallJoins
import Derived.Lib.Hide
import Derived.WalkSpells
import Derived.WalkLawsBesides
import Derived.BigRegion
import Derived.Maps.AppendAt
import Derived.IntWalk
import Derived.OwnWalk
import Derived.Laws.CopyOwn
import Derived.Laws.MakeOwn
import Derived.Laws.OwnMore
import Derived.Deep.LoopGhost
import Derived.Deep.RegionHeld3
namespace Go.Proofs.Ytffcmfpadaebdab.windowsRows
open Go.ChangeShapes Go.WideShapes Go.ChangeAt Go.RowKit Go.Joins
set_option linter.unusedSimpArgs false
set_option linter.unusedVariables false

theorem in_of_wf72 {z : Int} (h : (Lit.int .i64 z).wf = true) : -9223372036854775808 ≤ z ∧ z ≤ 9223372036854775807 := by simpa [Lit.wf, IntKind.min, IntKind.max, IntKind.signed, IntKind.bits] using h
/-- the windows' rows, one by one -/
def wnR (z : Nat → Nat → Int) (n : Nat) (W H : Int) (i j : Nat) : Int := if j = 0 then i * W else if j = 1 then toV W H i else if j = 2 then ofC (i * W) (toV W H i) z n else if j = 3 then ofI (i * W) (toV W H i) z n else if j = 4 then ofO (i * W) (toV W H i) z n else if j = 5 then ofW (i * W) (toV W H i) z n else ofB (i * W) (toV W H i) z n
theorem wnR_eq {W H : Int} {N n : Nat} {z : Nat → Nat → Int} (hW : 1 ≤ W) (hH : 0 ≤ H) (hN : manyP W H = N) {i j : Nat} (hi : i < N) (hj : j < 7) : winF (rowsV W H N z n) W H i j = wnR z n W H i j := by
  have h1 := many_le hW hH hN
  have h2 := many_lt hW hH hN hi
  unfold winF wnR
  rcases (show j = 0 ∨ j = 1 ∨ j = 2 ∨ j = 3 ∨ j = 4 ∨ j = 5 ∨ j = 6 by omega) with rfl | rfl | rfl | rfl | rfl | rfl | rfl
  · rfl
  · rfl
  · exact row_C hW h1 hi n
  · exact row_I hW h1 hi n
  · exact row_O hW h1 hi n
  · exact row_W hW h1 hi n
  · exact row_B hW h1 hi h2 n
theorem rdZ_congr {w : World} {m n : Nat} {A : Option Addr} {a b : Nat → Nat → Int} (h : RdZ w m A n a) (he : ∀ i j, i < n → j < m → a i j = b i j) : RdZ w m A n b := fun i hi => by
  obtain ⟨x, e, hlt, hc⟩ := h i hi
  exact ⟨x, e, hlt, fun j hj => by rw [← he i j hi hj]; exact hc j hj⟩
set_option maxRecDepth 100000 in
set_option maxHeartbeats 4000000 in
theorem walk_f (A : Option Addr) (c n : Nat) (z : Nat → Nat → Int) (p q W H : Int) (w : World) (hr : RdZ w 7 A n z) (hc : n ≤ c) (hm : c ≤ maxLen) (W0 : -9223372036854775808 ≤ W) (W1 : W ≤ 9223372036854775807) (H0 : -9223372036854775808 ≤ H) (H1 : H ≤ 9223372036854775807) :
    Calls Try.prog 3 #[.slice A n c, .agg #[.int .i64 p, .int .i64 q], .agg #[.int .i64 W, .int .i64 H]] w fun e w' => e = .returned (.bool true) ∧ Below w.heap.size w w' := by
  have hn63 : n ≤ 9223372036854775807 := by unfold maxLen at hm; omega
  have HRd := Lib.hid hr
  have GR := Lib.hid (fun w hr => tgreat72 A c n z w hr hn63)
  clear hr
  go_enter Try.func3, Try.ntmps3
  go_wp2_with fail
  have BS := (Blk.new w #[.int .i64 p, .int .i64 q] 24).alloc (.cells #[.int .i64 W, .int .i64 H] 25)
  have BT := Blk.new (w.alloc (.cells #[.int .i64 p, .int .i64 q] 24)) #[.int .i64 W, .int .i64 H] 25
  rw [World.size_alloc] at BT
  have BE : Below w.heap.size w ((w.alloc (.cells #[.int .i64 p, .int .i64 q] 24)).alloc (.cells #[.int .i64 W, .int .i64 H] 25)) := ((Below.refl w.heap.size w).alloc (Nat.le_refl _) _).alloc (by simp <;> omega) _
  obtain ⟨V0, hV0⟩ : ∃ V, ((w.alloc (.cells #[.int .i64 p, .int .i64 q] 24)).alloc (.cells #[.int .i64 W, .int .i64 H] 25)) = V := ⟨_, rfl⟩
  rw [hV0] at BS BT BE ⊢
  have HS := Lib.hid BS
  have HT := Lib.hid BT
  have EE := Lib.hid BE
  have ne0_1 : w.heap.size ≠ w.heap.size + 1 := by omega
  have ne1_0 : w.heap.size + 1 ≠ w.heap.size := by omega
  clear hV0 BE BS BT
  have kS0 : V0.cell? ⟨w.heap.size, 0, none⟩ = some (.int .i64 p) := HS.out.cell 0
  have kS1 : V0.cell? ⟨w.heap.size, 1, none⟩ = some (.int .i64 q) := HS.out.cell 1
  have kT0 : V0.cell? ⟨w.heap.size + 1, 0, none⟩ = some (.int .i64 W) := HT.out.cell 0
  have kT1 : V0.cell? ⟨w.heap.size + 1, 1, none⟩ = some (.int .i64 H) := HT.out.cell 1
  have sK : ∀ X, Blk X (w.heap.size + 1) 25 #[.int .i64 W, .int .i64 H] → (fun X => X.cell? ⟨w.heap.size + 1, 0, none⟩ = some (.int .i64 W) ∧ X.cell? ⟨w.heap.size + 1, 1, none⟩ = some (.int .i64 H)) X := fun X hT => ⟨hT.cell 0, hT.cell 1⟩
  have LS0 := Lib.hid (HS.out.drew)
  have LT0 := Lib.hid (HT.out.drew)
  have E0 := Lib.hid (EE.out.drew)
  clear kS0 kS1 kT0 kT1
  refine wp_region_held_drew (S := (fun X => X.cell? ⟨w.heap.size + 1, 0, none⟩ = some (.int .i64 W) ∧ X.cell? ⟨w.heap.size + 1, 1, none⟩ = some (.int .i64 H))) (by kernel_rfl) (sK _ LT0.out) (fun hHeld => ?_)
  clear hHeld
  refine wpAnyH_take (i := 0) (v := ?_) rfl (by kernel_rfl) (by kernel_rfl) (by kernel_rfl) (fun _ _ _ h => h) (Or.inl ⟨by rfl, ?_⟩) (sK _ LT0.out) ?_
  rotate_left
  · (intro wS hSw; (try dsimp only at hSw); go_simp; try with_reducible rfl)
  simp only [Act.put, List.getElem_toArray, List.getElem_cons_zero, List.getElem_cons_succ, List.setIfInBounds_toArray, List.set_cons_zero, List.set_cons_succ]
  refine wpAnyH_take (i := 1) (v := ?_) rfl (by kernel_rfl) (by kernel_rfl) (by kernel_rfl) (fun _ _ _ h => h) (Or.inl ⟨by rfl, ?_⟩) (sK _ LT0.out) ?_
  rotate_left
  · (intro wS hSw; (try dsimp only at hSw); go_simp; try with_reducible rfl)
  simp only [Act.put, List.getElem_toArray, List.getElem_cons_zero, List.getElem_cons_succ, List.setIfInBounds_toArray, List.set_cons_zero, List.set_cons_succ]
  refine wpAnyH_take (i := 2) (v := ?_) rfl (by kernel_rfl) (by kernel_rfl) (by kernel_rfl) (fun _ _ _ h => h) (Or.inl ⟨by rfl, ?_⟩) (sK _ LT0.out) ?_
  rotate_left
  · (intro wS hSw; (try dsimp only at hSw); go_simp; try with_reducible rfl)
  simp only [Act.put, List.getElem_toArray, List.getElem_cons_zero, List.getElem_cons_succ, List.setIfInBounds_toArray, List.set_cons_zero, List.set_cons_succ]
  refine wpAnyH_take (i := 3) (v := ?_) rfl (by kernel_rfl) (by kernel_rfl) (by kernel_rfl) (fun _ _ _ h => h) (Or.inl ⟨by rfl, ?_⟩) (sK _ LT0.out) ?_
  rotate_left
  · (intro wS hSw; (try dsimp only at hSw); go_simp; try with_reducible rfl)
  simp only [Act.put, List.getElem_toArray, List.getElem_cons_zero, List.getElem_cons_succ, List.setIfInBounds_toArray, List.set_cons_zero, List.set_cons_succ]
  refine wpAnyH_take (i := 4) (v := ?_) rfl (by kernel_rfl) (by kernel_rfl) (by kernel_rfl) (fun _ _ _ h => h) (Or.inl ⟨by rfl, ?_⟩) (sK _ LT0.out) ?_
  rotate_left
  · (intro wS hSw; (try dsimp only at hSw); go_simp; try with_reducible rfl)
  simp only [Act.put, List.getElem_toArray, List.getElem_cons_zero, List.getElem_cons_succ, List.setIfInBounds_toArray, List.set_cons_zero, List.set_cons_succ]
  refine wpAnyH_take (i := 5) (v := ?_) rfl (by kernel_rfl) (by kernel_rfl) (by kernel_rfl) (fun _ _ _ h => h) (Or.inl ⟨by rfl, ?_⟩) (sK _ LT0.out) ?_
  rotate_left
  · (intro wS hSw; (try dsimp only at hSw); go_simp; try with_reducible rfl)
  simp only [Act.put, List.getElem_toArray, List.getElem_cons_zero, List.getElem_cons_succ, List.setIfInBounds_toArray, List.set_cons_zero, List.set_cons_succ]
  refine wpAnyH_done (by kernel_rfl) ?_ _
  have HS := LS0
  have HT := LT0
  have EE := E0
  have kS0 : V0.drew.cell? ⟨w.heap.size, 0, none⟩ = some (.int .i64 p) := HS.out.cell 0
  have kS1 : V0.drew.cell? ⟨w.heap.size, 1, none⟩ = some (.int .i64 q) := HS.out.cell 1
  have kT0 : V0.drew.cell? ⟨w.heap.size + 1, 0, none⟩ = some (.int .i64 W) := HT.out.cell 0
  have kT1 : V0.drew.cell? ⟨w.heap.size + 1, 1, none⟩ = some (.int .i64 H) := HT.out.cell 1
  go_wp2_with fail
  refine (GR.out _ (HRd.out.kept EE.out)).mono ?_
  rintro e v1 ⟨b, rfl, hb, hG⟩
  clear kS0 kS1 kT0 kT1
  have HS := Lib.hid (Blk.next (w := V0.drew) HS.out hb)
  have HT := Lib.hid (Blk.next (w := V0.drew) HT.out hb)
  have EE := Lib.hid (EE.out.trans (hb.mono EE.out.size))
  clear hb
  have kS0 : v1.cell? ⟨w.heap.size, 0, none⟩ = some (.int .i64 p) := HS.out.cell 0
  have kS1 : v1.cell? ⟨w.heap.size, 1, none⟩ = some (.int .i64 q) := HS.out.cell 1
  have kT0 : v1.cell? ⟨w.heap.size + 1, 0, none⟩ = some (.int .i64 W) := HT.out.cell 0
  have kT1 : v1.cell? ⟨w.heap.size + 1, 1, none⟩ = some (.int .i64 H) := HT.out.cell 1
  cases b
  · obtain ⟨hn, hTB⟩ := hG rfl
    have HTB := Lib.hid hTB
    have OF := Lib.hid (fun w hr => of_any A c n z p q w hr hn hTB)
    have RW := Lib.hid (fun w hr => lrow_any A c n z p q w hr hn hTB)
    have RWW := Lib.hid (fun (i : Nat) w hr => lrow_any A c n z ((i : Int) * W) (toV W H i) w hr hn hTB)
    clear hG hTB GR
    by_cases hw : W < 1
    · have AB := Lib.hid (fun w => all_bad A c n W H w (.inl hw))
      clear RWW
      by_cases hpq : p < q
      · have hpd : decide (p < q) = true := decide_eq_true hpq
        go_wp2_with fail
        have sK : ∀ X, Blk X (w.heap.size) 24 #[.int .i64 p, .int .i64 q] → (fun X => X.cell? ⟨w.heap.size, 0, none⟩ = some (.int .i64 p) ∧ X.cell? ⟨w.heap.size, 1, none⟩ = some (.int .i64 q)) X := fun X hS => ⟨hS.cell 0, hS.cell 1⟩
        have LS0 := Lib.hid (HS.out.drew)
        have LT0 := Lib.hid (HT.out.drew)
        have E0 := Lib.hid (EE.out.drew)
        clear kS0 kS1 kT0 kT1
        refine wp_region_held_drew (S := (fun X => X.cell? ⟨w.heap.size, 0, none⟩ = some (.int .i64 p) ∧ X.cell? ⟨w.heap.size, 1, none⟩ = some (.int .i64 q))) (by kernel_rfl) (sK _ LS0.out) (fun hHeld => ?_)
        clear hHeld
        refine wpAnyH_take (i := 0) (v := ?_) rfl (by kernel_rfl) (by kernel_rfl) (by kernel_rfl) (fun _ _ _ h => h) (Or.inl ⟨by rfl, ?_⟩) (sK _ LS0.out) ?_
        rotate_left
        · (intro wS hSw; (try dsimp only at hSw); go_simp; try with_reducible rfl)
        simp only [Act.put, List.getElem_toArray, List.getElem_cons_zero, List.getElem_cons_succ, List.setIfInBounds_toArray, List.set_cons_zero, List.set_cons_succ]
        refine wpAnyH_take (i := 1) (v := ?_) rfl (by kernel_rfl) (by kernel_rfl) (by kernel_rfl) (fun _ _ _ h => h) (Or.inl ⟨by rfl, ?_⟩) (sK _ LS0.out) ?_
        rotate_left
        · (intro wS hSw; (try dsimp only at hSw); go_simp; try with_reducible rfl)
        simp only [Act.put, List.getElem_toArray, List.getElem_cons_zero, List.getElem_cons_succ, List.setIfInBounds_toArray, List.set_cons_zero, List.set_cons_succ]
        refine wpAnyH_take (i := 2) (v := ?_) rfl (by kernel_rfl) (by kernel_rfl) (by kernel_rfl) (fun _ _ _ h => h) (Or.inl ⟨by rfl, ?_⟩) (sK _ LS0.out) ?_
        rotate_left
        · (intro wS hSw; (try dsimp only at hSw); go_simp; try with_reducible rfl)
        simp only [Act.put, List.getElem_toArray, List.getElem_cons_zero, List.getElem_cons_succ, List.setIfInBounds_toArray, List.set_cons_zero, List.set_cons_succ]
        refine wpAnyH_take (i := 3) (v := ?_) rfl (by kernel_rfl) (by kernel_rfl) (by kernel_rfl) (fun _ _ _ h => h) (Or.inl ⟨by rfl, ?_⟩) (sK _ LS0.out) ?_
        rotate_left
        · (intro wS hSw; (try dsimp only at hSw); go_simp; try with_reducible rfl)
        simp only [Act.put, List.getElem_toArray, List.getElem_cons_zero, List.getElem_cons_succ, List.setIfInBounds_toArray, List.set_cons_zero, List.set_cons_succ]
        refine wpAnyH_take (i := 4) (v := ?_) rfl (by kernel_rfl) (by kernel_rfl) (by kernel_rfl) (fun _ _ _ h => h) (Or.inl ⟨by rfl, ?_⟩) (sK _ LS0.out) ?_
        rotate_left
        · (intro wS hSw; (try dsimp only at hSw); go_simp; try with_reducible rfl)
        simp only [Act.put, List.getElem_toArray, List.getElem_cons_zero, List.getElem_cons_succ, List.setIfInBounds_toArray, List.set_cons_zero, List.set_cons_succ]
        refine wpAnyH_take (i := 5) (v := ?_) rfl (by kernel_rfl) (by kernel_rfl) (by kernel_rfl) (fun _ _ _ h => h) (Or.inl ⟨by rfl, ?_⟩) (sK _ LS0.out) ?_
        rotate_left
        · (intro wS hSw; (try dsimp only at hSw); go_simp; try with_reducible rfl)
        simp only [Act.put, List.getElem_toArray, List.getElem_cons_zero, List.getElem_cons_succ, List.setIfInBounds_toArray, List.set_cons_zero, List.set_cons_succ]
        refine wpAnyH_take (i := 6) (v := ?_) rfl (by kernel_rfl) (by kernel_rfl) (by kernel_rfl) (fun _ _ _ h => h) (Or.inl ⟨by rfl, ?_⟩) (sK _ LS0.out) ?_
        rotate_left
        · (intro wS hSw; (try dsimp only at hSw); go_simp; try with_reducible rfl)
        simp only [Act.put, List.getElem_toArray, List.getElem_cons_zero, List.getElem_cons_succ, List.setIfInBounds_toArray, List.set_cons_zero, List.set_cons_succ]
        refine wpAnyH_take (i := 7) (v := ?_) rfl (by kernel_rfl) (by kernel_rfl) (by kernel_rfl) (fun _ _ _ h => h) (Or.inl ⟨by rfl, ?_⟩) (sK _ LS0.out) ?_
        rotate_left
        · (intro wS hSw; (try dsimp only at hSw); go_simp; try with_reducible rfl)
        simp only [Act.put, List.getElem_toArray, List.getElem_cons_zero, List.getElem_cons_succ, List.setIfInBounds_toArray, List.set_cons_zero, List.set_cons_succ]
        refine wpAnyH_take (i := 9) (v := ?_) rfl (by kernel_rfl) (by kernel_rfl) (by kernel_rfl) (fun _ _ _ h => h) (Or.inl ⟨by rfl, ?_⟩) (sK _ LS0.out) ?_
        rotate_left
        · (intro wS hSw; (try dsimp only at hSw); go_simp; try with_reducible rfl)
        simp only [Act.put, List.getElem_toArray, List.getElem_cons_zero, List.getElem_cons_succ, List.setIfInBounds_toArray, List.set_cons_zero, List.set_cons_succ]
        refine wpAnyH_take (i := 10) (v := ?_) rfl (by kernel_rfl) (by kernel_rfl) (by kernel_rfl) (fun _ _ _ h => h) (Or.inl ⟨by rfl, ?_⟩) (sK _ LS0.out) ?_
        rotate_left
        · (intro wS hSw; (try dsimp only at hSw); go_simp; try with_reducible rfl)
        simp only [Act.put, List.getElem_toArray, List.getElem_cons_zero, List.getElem_cons_succ, List.setIfInBounds_toArray, List.set_cons_zero, List.set_cons_succ]
        refine wpAnyH_ready (rs := [8]) (by kernel_rfl) (by simp) ?_
        refine AllReadyH.cons rfl (fun K hK => ?_) AllReadyH.nil
        go_simp
        refine (OF.out _ (HRd.out.kept E0.out)).mono ?_
        rintro e r1 ⟨rfl, hb⟩
        have LS1 := Lib.hid (LS0.out.next hb)
        have LT1 := Lib.hid (LT0.out.next hb)
        have E1 := Lib.hid (E0.out.trans (hb.mono E0.out.size))
        clear hb
        go_wp2_with fail
        refine hK.out _ _ (sK _ LS1.out) (fun hHeld => ?_)
        clear hK K hHeld
        try simp only [Act.put, List.getElem_toArray, List.getElem_cons_zero, List.getElem_cons_succ, List.setIfInBounds_toArray, List.set_cons_zero, List.set_cons_succ]
        refine wpAnyH_ready (rs := [11]) (by kernel_rfl) (by simp) ?_
        refine AllReadyH.cons rfl (fun K hK => ?_) AllReadyH.nil
        go_simp
        refine (RW.out _ (HRd.out.kept E1.out)).mono ?_
        rintro e r2 ⟨rfl, hb⟩
        have LS2 := Lib.hid (LS1.out.next hb)
        have LT2 := Lib.hid (LT1.out.next hb)
        have E2 := Lib.hid (E1.out.trans (hb.mono E1.out.size))
        clear hb
        go_wp2_with fail
        refine hK.out _ _ (sK _ LS2.out) (fun hHeld => ?_)
        clear hK K hHeld
        try simp only [Act.put, List.getElem_toArray, List.getElem_cons_zero, List.getElem_cons_succ, List.setIfInBounds_toArray, List.set_cons_zero, List.set_cons_succ]
        refine wpAnyH_take (i := 12) (v := ?_) rfl (by kernel_rfl) (by kernel_rfl) (by kernel_rfl) (fun _ _ _ h => h) (Or.inl ⟨by rfl, ?_⟩) (sK _ LS2.out) ?_
        rotate_left
        · (intro wS hSw; (try dsimp only at hSw); go_simp; try with_reducible rfl)
        simp only [Act.put, List.getElem_toArray, List.getElem_cons_zero, List.getElem_cons_succ, List.setIfInBounds_toArray, List.set_cons_zero, List.set_cons_succ]
        refine wpAnyH_take (i := 13) (v := ?_) rfl (by kernel_rfl) (by kernel_rfl) (by kernel_rfl) (fun _ _ _ h => h) (Or.inl ⟨by rfl, ?_⟩) (sK _ LS2.out) ?_
        rotate_left
        · (intro wS hSw; (try dsimp only at hSw); go_simp; try with_reducible rfl)
        simp only [Act.put, List.getElem_toArray, List.getElem_cons_zero, List.getElem_cons_succ, List.setIfInBounds_toArray, List.set_cons_zero, List.set_cons_succ]
        refine wpAnyH_done (by kernel_rfl) ?_ _
        have HS := LS2
        have HT := LT2
        have EE := E2
        have kS0 : r2.cell? ⟨w.heap.size, 0, none⟩ = some (.int .i64 p) := HS.out.cell 0
        have kS1 : r2.cell? ⟨w.heap.size, 1, none⟩ = some (.int .i64 q) := HS.out.cell 1
        have kT0 : r2.cell? ⟨w.heap.size + 1, 0, none⟩ = some (.int .i64 W) := HT.out.cell 0
        have kT1 : r2.cell? ⟨w.heap.size + 1, 1, none⟩ = some (.int .i64 H) := HT.out.cell 1
        go_wp2_with fail
        refine (AB.out _).mono ?_
        rintro e v2 ⟨rfl, hk⟩
        have hb : Below r2.heap.size r2 v2 := by rw [← hk]; exact Below.refl _ _
        clear hk
        clear kS0 kS1 kT0 kT1
        have HS := Lib.hid (Blk.next (w := r2) HS.out hb)
        have HT := Lib.hid (Blk.next (w := r2) HT.out hb)
        have EE := Lib.hid (EE.out.trans (hb.mono EE.out.size))
        clear hb
        have kS0 : v2.cell? ⟨w.heap.size, 0, none⟩ = some (.int .i64 p) := HS.out.cell 0
        have kS1 : v2.cell? ⟨w.heap.size, 1, none⟩ = some (.int .i64 q) := HS.out.cell 1
        have kT0 : v2.cell? ⟨w.heap.size + 1, 0, none⟩ = some (.int .i64 W) := HT.out.cell 0
        have kT1 : v2.cell? ⟨w.heap.size + 1, 1, none⟩ = some (.int .i64 H) := HT.out.cell 1
        go_wp2_with fail
        refine (alive72 _).mono ?_
        rintro e v3 ⟨rfl, hb⟩
        clear kS0 kS1 kT0 kT1
        have HS := Lib.hid (Blk.next (w := v2) HS.out hb)
        have HT := Lib.hid (Blk.next (w := v2) HT.out hb)
        have EE := Lib.hid (EE.out.trans (hb.mono EE.out.size))
        clear hb
        have kS0 : v3.cell? ⟨w.heap.size, 0, none⟩ = some (.int .i64 p) := HS.out.cell 0
        have kS1 : v3.cell? ⟨w.heap.size, 1, none⟩ = some (.int .i64 q) := HS.out.cell 1
        have kT0 : v3.cell? ⟨w.heap.size + 1, 0, none⟩ = some (.int .i64 W) := HT.out.cell 0
        have kT1 : v3.cell? ⟨w.heap.size + 1, 1, none⟩ = some (.int .i64 H) := HT.out.cell 1
        go_wp2_with fail
        go_ret
        exact ⟨by first | rfl | (simp; done), EE.out⟩
      · have hpd : decide (p < q) = false := decide_eq_false hpq
        go_wp2_with fail
        have sK : ∀ X, Blk X (w.heap.size) 24 #[.int .i64 p, .int .i64 q] → (fun X => X.cell? ⟨w.heap.size, 0, none⟩ = some (.int .i64 p) ∧ X.cell? ⟨w.heap.size, 1, none⟩ = some (.int .i64 q)) X := fun X hS => ⟨hS.cell 0, hS.cell 1⟩
        have LS0 := Lib.hid (HS.out.drew)
        have LT0 := Lib.hid (HT.out.drew)
        have E0 := Lib.hid (EE.out.drew)
        clear kS0 kS1 kT0 kT1
        refine wp_region_held_drew (S := (fun X => X.cell? ⟨w.heap.size, 0, none⟩ = some (.int .i64 p) ∧ X.cell? ⟨w.heap.size, 1, none⟩ = some (.int .i64 q))) (by kernel_rfl) (sK _ LS0.out) (fun hHeld => ?_)
        clear hHeld
        refine wpAnyH_take (i := 0) (v := ?_) rfl (by kernel_rfl) (by kernel_rfl) (by kernel_rfl) (fun _ _ _ h => h) (Or.inl ⟨by rfl, ?_⟩) (sK _ LS0.out) ?_
        rotate_left
        · (intro wS hSw; (try dsimp only at hSw); go_simp; try with_reducible rfl)
        simp only [Act.put, List.getElem_toArray, List.getElem_cons_zero, List.getElem_cons_succ, List.setIfInBounds_toArray, List.set_cons_zero, List.set_cons_succ]
        refine wpAnyH_take (i := 1) (v := ?_) rfl (by kernel_rfl) (by kernel_rfl) (by kernel_rfl) (fun _ _ _ h => h) (Or.inl ⟨by rfl, ?_⟩) (sK _ LS0.out) ?_
        rotate_left
        · (intro wS hSw; (try dsimp only at hSw); go_simp; try with_reducible rfl)
        simp only [Act.put, List.getElem_toArray, List.getElem_cons_zero, List.getElem_cons_succ, List.setIfInBounds_toArray, List.set_cons_zero, List.set_cons_succ]
        refine wpAnyH_take (i := 2) (v := ?_) rfl (by kernel_rfl) (by kernel_rfl) (by kernel_rfl) (fun _ _ _ h => h) (Or.inl ⟨by rfl, ?_⟩) (sK _ LS0.out) ?_
        rotate_left
        · (intro wS hSw; (try dsimp only at hSw); go_simp; try with_reducible rfl)
        simp only [Act.put, List.getElem_toArray, List.getElem_cons_zero, List.getElem_cons_succ, List.setIfInBounds_toArray, List.set_cons_zero, List.set_cons_succ]
        refine wpAnyH_take (i := 3) (v := ?_) rfl (by kernel_rfl) (by kernel_rfl) (by kernel_rfl) (fun _ _ _ h => h) (Or.inl ⟨by rfl, ?_⟩) (sK _ LS0.out) ?_
        rotate_left
        · (intro wS hSw; (try dsimp only at hSw); go_simp; try with_reducible rfl)
        simp only [Act.put, List.getElem_toArray, List.getElem_cons_zero, List.getElem_cons_succ, List.setIfInBounds_toArray, List.set_cons_zero, List.set_cons_succ]
        refine wpAnyH_take (i := 4) (v := ?_) rfl (by kernel_rfl) (by kernel_rfl) (by kernel_rfl) (fun _ _ _ h => h) (Or.inl ⟨by rfl, ?_⟩) (sK _ LS0.out) ?_
        rotate_left
        · (intro wS hSw; (try dsimp only at hSw); go_simp; try with_reducible rfl)
        simp only [Act.put, List.getElem_toArray, List.getElem_cons_zero, List.getElem_cons_succ, List.setIfInBounds_toArray, List.set_cons_zero, List.set_cons_succ]
        refine wpAnyH_take (i := 5) (v := ?_) rfl (by kernel_rfl) (by kernel_rfl) (by kernel_rfl) (fun _ _ _ h => h) (Or.inl ⟨by rfl, ?_⟩) (sK _ LS0.out) ?_
        rotate_left
        · (intro wS hSw; (try dsimp only at hSw); go_simp; try with_reducible rfl)
        simp only [Act.put, List.getElem_toArray, List.getElem_cons_zero, List.getElem_cons_succ, List.setIfInBounds_toArray, List.set_cons_zero, List.set_cons_succ]
        refine wpAnyH_take (i := 6) (v := undef) rfl (by kernel_rfl) (by kernel_rfl) (by kernel_rfl) (fun _ _ _ h => h) (Or.inr ⟨by kernel_rfl, rfl⟩) (sK _ LS0.out) ?_
        simp only [Act.put, List.getElem_toArray, List.getElem_cons_zero, List.getElem_cons_succ, List.setIfInBounds_toArray, List.set_cons_zero, List.set_cons_succ]
        refine wpAnyH_take (i := 7) (v := undef) rfl (by kernel_rfl) (by kernel_rfl) (by kernel_rfl) (fun _ _ _ h => h) (Or.inr ⟨by kernel_rfl, rfl⟩) (sK _ LS0.out) ?_
        simp only [Act.put, List.getElem_toArray, List.getElem_cons_zero, List.getElem_cons_succ, List.setIfInBounds_toArray, List.set_cons_zero, List.set_cons_succ]
        refine wpAnyH_take (i := 8) (v := undef) rfl (by kernel_rfl) (by kernel_rfl) (by kernel_rfl) (fun _ _ _ h => h) (Or.inr ⟨by kernel_rfl, rfl⟩) (sK _ LS0.out) ?_
        simp only [Act.put, List.getElem_toArray, List.getElem_cons_zero, List.getElem_cons_succ, List.setIfInBounds_toArray, List.set_cons_zero, List.set_cons_succ]
        refine wpAnyH_take (i := 9) (v := undef) rfl (by kernel_rfl) (by kernel_rfl) (by kernel_rfl) (fun _ _ _ h => h) (Or.inr ⟨by kernel_rfl, rfl⟩) (sK _ LS0.out) ?_
        simp only [Act.put, List.getElem_toArray, List.getElem_cons_zero, List.getElem_cons_succ, List.setIfInBounds_toArray, List.set_cons_zero, List.set_cons_succ]
        refine wpAnyH_take (i := 10) (v := undef) rfl (by kernel_rfl) (by kernel_rfl) (by kernel_rfl) (fun _ _ _ h => h) (Or.inr ⟨by kernel_rfl, rfl⟩) (sK _ LS0.out) ?_
        simp only [Act.put, List.getElem_toArray, List.getElem_cons_zero, List.getElem_cons_succ, List.setIfInBounds_toArray, List.set_cons_zero, List.set_cons_succ]
        refine wpAnyH_take (i := 11) (v := undef) rfl (by kernel_rfl) (by kernel_rfl) (by kernel_rfl) (fun _ _ _ h => h) (Or.inr ⟨by kernel_rfl, rfl⟩) (sK _ LS0.out) ?_
        simp only [Act.put, List.getElem_toArray, List.getElem_cons_zero, List.getElem_cons_succ, List.setIfInBounds_toArray, List.set_cons_zero, List.set_cons_succ]
        refine wpAnyH_take (i := 12) (v := undef) rfl (by kernel_rfl) (by kernel_rfl) (by kernel_rfl) (fun _ _ _ h => h) (Or.inr ⟨by kernel_rfl, rfl⟩) (sK _ LS0.out) ?_
        simp only [Act.put, List.getElem_toArray, List.getElem_cons_zero, List.getElem_cons_succ, List.setIfInBounds_toArray, List.set_cons_zero, List.set_cons_succ]
        refine wpAnyH_take (i := 13) (v := ?_) rfl (by kernel_rfl) (by kernel_rfl) (by kernel_rfl) (fun _ _ _ h => h) (Or.inl ⟨by rfl, ?_⟩) (sK _ LS0.out) ?_
        rotate_left
        · (intro wS hSw; (try dsimp only at hSw); go_simp; try with_reducible rfl)
        simp only [Act.put, List.getElem_toArray, List.getElem_cons_zero, List.getElem_cons_succ, List.setIfInBounds_toArray, List.set_cons_zero, List.set_cons_succ]
        refine wpAnyH_done (by kernel_rfl) ?_ _
        have HS := LS0
        have HT := LT0
        have EE := E0
        have kS0 : v1.drew.cell? ⟨w.heap.size, 0, none⟩ = some (.int .i64 p) := HS.out.cell 0
        have kS1 : v1.drew.cell? ⟨w.heap.size, 1, none⟩ = some (.int .i64 q) := HS.out.cell 1
        have kT0 : v1.drew.cell? ⟨w.heap.size + 1, 0, none⟩ = some (.int .i64 W) := HT.out.cell 0
        have kT1 : v1.drew.cell? ⟨w.heap.size + 1, 1, none⟩ = some (.int .i64 H) := HT.out.cell 1
        go_wp2_with fail
        refine (AB.out _).mono ?_
        rintro e v2 ⟨rfl, hk⟩
        have hb : Below v1.drew.heap.size v1.drew v2 := by rw [← hk]; exact Below.refl _ _
        clear hk
        clear kS0 kS1 kT0 kT1
        have HS := Lib.hid (Blk.next (w := v1.drew) HS.out hb)
        have HT := Lib.hid (Blk.next (w := v1.drew) HT.out hb)
        have EE := Lib.hid (EE.out.trans (hb.mono EE.out.size))
        clear hb
        have kS0 : v2.cell? ⟨w.heap.size, 0, none⟩ = some (.int .i64 p) := HS.out.cell 0
        have kS1 : v2.cell? ⟨w.heap.size, 1, none⟩ = some (.int .i64 q) := HS.out.cell 1
        have kT0 : v2.cell? ⟨w.heap.size + 1, 0, none⟩ = some (.int .i64 W) := HT.out.cell 0
        have kT1 : v2.cell? ⟨w.heap.size + 1, 1, none⟩ = some (.int .i64 H) := HT.out.cell 1
        go_wp2_with fail
        refine (alive72 _).mono ?_
        rintro e v3 ⟨rfl, hb⟩
        clear kS0 kS1 kT0 kT1
        have HS := Lib.hid (Blk.next (w := v2) HS.out hb)
        have HT := Lib.hid (Blk.next (w := v2) HT.out hb)
        have EE := Lib.hid (EE.out.trans (hb.mono EE.out.size))
        clear hb
        have kS0 : v3.cell? ⟨w.heap.size, 0, none⟩ = some (.int .i64 p) := HS.out.cell 0
        have kS1 : v3.cell? ⟨w.heap.size, 1, none⟩ = some (.int .i64 q) := HS.out.cell 1
        have kT0 : v3.cell? ⟨w.heap.size + 1, 0, none⟩ = some (.int .i64 W) := HT.out.cell 0
        have kT1 : v3.cell? ⟨w.heap.size + 1, 1, none⟩ = some (.int .i64 H) := HT.out.cell 1
        go_wp2_with fail
        go_ret
        exact ⟨by first | rfl | (simp; done), EE.out⟩
    · have hz : (W == 0) = false := by rw [beq_eq_false_iff_ne]; omega
      have hw1 : 1 ≤ W := by omega
      clear hw
      by_cases hh : H < 0
      · have AB := Lib.hid (fun w => all_bad A c n W H w (.inr hh))
        have hq0 : Int.tdiv H W ≤ 0 := by
          have h1 := Int.neg_tdiv H W
          have h2 : 0 ≤ Int.tdiv (-H) W := Int.tdiv_nonneg (by omega) (by omega)
          rw [Int.neg_tdiv] at h2; omega
        have hq1 : -9223372036854775808 ≤ Int.tdiv H W := by
          have h3 : Int.tdiv (-H) W ≤ -H := by rw [Int.tdiv_eq_ediv_of_nonneg (by omega)]; exact Int.ediv_le_self W (by omega)
          rw [Int.neg_tdiv] at h3; omega
        obtain ⟨dd, hdd⟩ : ∃ d, Int.tdiv H W = d := ⟨_, rfl⟩
        rw [hdd] at hq0 hq1
        have hwq : IntKind.i64.wrap (Int.tdiv H W) = dd := by rw [hdd]; exact IntWalk.i64_in _ (by omega)
        clear RWW
        by_cases hpq : p < q
        · have hpd : decide (p < q) = true := decide_eq_true hpq
          go_wp2_with fail
          have sK : ∀ X, Blk X (w.heap.size) 24 #[.int .i64 p, .int .i64 q] → (fun X => X.cell? ⟨w.heap.size, 0, none⟩ = some (.int .i64 p) ∧ X.cell? ⟨w.heap.size, 1, none⟩ = some (.int .i64 q)) X := fun X hS => ⟨hS.cell 0, hS.cell 1⟩
          have LS0 := Lib.hid (HS.out.drew)
          have LT0 := Lib.hid (HT.out.drew)
          have E0 := Lib.hid (EE.out.drew)
          clear kS0 kS1 kT0 kT1
          refine wp_region_held_drew (S := (fun X => X.cell? ⟨w.heap.size, 0, none⟩ = some (.int .i64 p) ∧ X.cell? ⟨w.heap.size, 1, none⟩ = some (.int .i64 q))) (by kernel_rfl) (sK _ LS0.out) (fun hHeld => ?_)
          clear hHeld
          refine wpAnyH_take (i := 0) (v := ?_) rfl (by kernel_rfl) (by kernel_rfl) (by kernel_rfl) (fun _ _ _ h => h) (Or.inl ⟨by rfl, ?_⟩) (sK _ LS0.out) ?_
          rotate_left
          · (intro wS hSw; (try dsimp only at hSw); go_simp; try with_reducible rfl)
          simp only [Act.put, List.getElem_toArray, List.getElem_cons_zero, List.getElem_cons_succ, List.setIfInBounds_toArray, List.set_cons_zero, List.set_cons_succ]
          refine wpAnyH_take (i := 1) (v := ?_) rfl (by kernel_rfl) (by kernel_rfl) (by kernel_rfl) (fun _ _ _ h => h) (Or.inl ⟨by rfl, ?_⟩) (sK _ LS0.out) ?_
          rotate_left
          · (intro wS hSw; (try dsimp only at hSw); go_simp; try with_reducible rfl)
          simp only [Act.put, List.getElem_toArray, List.getElem_cons_zero, List.getElem_cons_succ, List.setIfInBounds_toArray, List.set_cons_zero, List.set_cons_succ]
          refine wpAnyH_take (i := 2) (v := ?_) rfl (by kernel_rfl) (by kernel_rfl) (by kernel_rfl) (fun _ _ _ h => h) (Or.inl ⟨by rfl, ?_⟩) (sK _ LS0.out) ?_
          rotate_left
          · (intro wS hSw; (try dsimp only at hSw); go_simp; try with_reducible rfl)
          simp only [Act.put, List.getElem_toArray, List.getElem_cons_zero, List.getElem_cons_succ, List.setIfInBounds_toArray, List.set_cons_zero, List.set_cons_succ]
          refine wpAnyH_take (i := 3) (v := ?_) rfl (by kernel_rfl) (by kernel_rfl) (by kernel_rfl) (fun _ _ _ h => h) (Or.inl ⟨by rfl, ?_⟩) (sK _ LS0.out) ?_
          rotate_left
          · (intro wS hSw; (try dsimp only at hSw); go_simp; try with_reducible rfl)
          simp only [Act.put, List.getElem_toArray, List.getElem_cons_zero, List.getElem_cons_succ, List.setIfInBounds_toArray, List.set_cons_zero, List.set_cons_succ]
          refine wpAnyH_take (i := 4) (v := ?_) rfl (by kernel_rfl) (by kernel_rfl) (by kernel_rfl) (fun _ _ _ h => h) (Or.inl ⟨by rfl, ?_⟩) (sK _ LS0.out) ?_
          rotate_left
          · (intro wS hSw; (try dsimp only at hSw); go_simp; try with_reducible rfl)
          simp only [Act.put, List.getElem_toArray, List.getElem_cons_zero, List.getElem_cons_succ, List.setIfInBounds_toArray, List.set_cons_zero, List.set_cons_succ]
          refine wpAnyH_take (i := 5) (v := ?_) rfl (by kernel_rfl) (by kernel_rfl) (by kernel_rfl) (fun _ _ _ h => h) (Or.inl ⟨by rfl, ?_⟩) (sK _ LS0.out) ?_
          rotate_left
          · (intro wS hSw; (try dsimp only at hSw); go_simp; try with_reducible rfl)
          simp only [Act.put, List.getElem_toArray, List.getElem_cons_zero, List.getElem_cons_succ, List.setIfInBounds_toArray, List.set_cons_zero, List.set_cons_succ]
          refine wpAnyH_take (i := 6) (v := ?_) rfl (by kernel_rfl) (by kernel_rfl) (by kernel_rfl) (fun _ _ _ h => h) (Or.inl ⟨by rfl, ?_⟩) (sK _ LS0.out) ?_
          rotate_left
          · (intro wS hSw; (try dsimp only at hSw); go_simp; try with_reducible rfl)
          simp only [Act.put, List.getElem_toArray, List.getElem_cons_zero, List.getElem_cons_succ, List.setIfInBounds_toArray, List.set_cons_zero, List.set_cons_succ]
          refine wpAnyH_take (i := 7) (v := ?_) rfl (by kernel_rfl) (by kernel_rfl) (by kernel_rfl) (fun _ _ _ h => h) (Or.inl ⟨by rfl, ?_⟩) (sK _ LS0.out) ?_
          rotate_left
          · (intro wS hSw; (try dsimp only at hSw); go_simp; try with_reducible rfl)
          simp only [Act.put, List.getElem_toArray, List.getElem_cons_zero, List.getElem_cons_succ, List.setIfInBounds_toArray, List.set_cons_zero, List.set_cons_succ]
          refine wpAnyH_take (i := 9) (v := ?_) rfl (by kernel_rfl) (by kernel_rfl) (by kernel_rfl) (fun _ _ _ h => h) (Or.inl ⟨by rfl, ?_⟩) (sK _ LS0.out) ?_
          rotate_left
          · (intro wS hSw; (try dsimp only at hSw); go_simp; try with_reducible rfl)
          simp only [Act.put, List.getElem_toArray, List.getElem_cons_zero, List.getElem_cons_succ, List.setIfInBounds_toArray, List.set_cons_zero, List.set_cons_succ]
          refine wpAnyH_take (i := 10) (v := ?_) rfl (by kernel_rfl) (by kernel_rfl) (by kernel_rfl) (fun _ _ _ h => h) (Or.inl ⟨by rfl, ?_⟩) (sK _ LS0.out) ?_
          rotate_left
          · (intro wS hSw; (try dsimp only at hSw); go_simp; try with_reducible rfl)
          simp only [Act.put, List.getElem_toArray, List.getElem_cons_zero, List.getElem_cons_succ, List.setIfInBounds_toArray, List.set_cons_zero, List.set_cons_succ]
          refine wpAnyH_ready (rs := [8]) (by kernel_rfl) (by simp) ?_
          refine AllReadyH.cons rfl (fun K hK => ?_) AllReadyH.nil
          go_simp
          refine (OF.out _ (HRd.out.kept E0.out)).mono ?_
          rintro e r1 ⟨rfl, hb⟩
          have LS1 := Lib.hid (LS0.out.next hb)
          have LT1 := Lib.hid (LT0.out.next hb)
          have E1 := Lib.hid (E0.out.trans (hb.mono E0.out.size))
          clear hb
          go_wp2_with fail
          refine hK.out _ _ (sK _ LS1.out) (fun hHeld => ?_)
          clear hK K hHeld
          try simp only [Act.put, List.getElem_toArray, List.getElem_cons_zero, List.getElem_cons_succ, List.setIfInBounds_toArray, List.set_cons_zero, List.set_cons_succ]
          refine wpAnyH_ready (rs := [11]) (by kernel_rfl) (by simp) ?_
          refine AllReadyH.cons rfl (fun K hK => ?_) AllReadyH.nil
          go_simp
          refine (RW.out _ (HRd.out.kept E1.out)).mono ?_
          rintro e r2 ⟨rfl, hb⟩
          have LS2 := Lib.hid (LS1.out.next hb)
          have LT2 := Lib.hid (LT1.out.next hb)
          have E2 := Lib.hid (E1.out.trans (hb.mono E1.out.size))
          clear hb
          go_wp2_with fail
          refine hK.out _ _ (sK _ LS2.out) (fun hHeld => ?_)
          clear hK K hHeld
          try simp only [Act.put, List.getElem_toArray, List.getElem_cons_zero, List.getElem_cons_succ, List.setIfInBounds_toArray, List.set_cons_zero, List.set_cons_succ]
          refine wpAnyH_take (i := 12) (v := ?_) rfl (by kernel_rfl) (by kernel_rfl) (by kernel_rfl) (fun _ _ _ h => h) (Or.inl ⟨by rfl, ?_⟩) (sK _ LS2.out) ?_
          rotate_left
          · (intro wS hSw; (try dsimp only at hSw); go_simp; try with_reducible rfl)
          simp only [Act.put, List.getElem_toArray, List.getElem_cons_zero, List.getElem_cons_succ, List.setIfInBounds_toArray, List.set_cons_zero, List.set_cons_succ]
          refine wpAnyH_take (i := 13) (v := ?_) rfl (by kernel_rfl) (by kernel_rfl) (by kernel_rfl) (fun _ _ _ h => h) (Or.inl ⟨by rfl, ?_⟩) (sK _ LS2.out) ?_
          rotate_left
          · (intro wS hSw; (try dsimp only at hSw); go_simp; try with_reducible rfl)
          simp only [Act.put, List.getElem_toArray, List.getElem_cons_zero, List.getElem_cons_succ, List.setIfInBounds_toArray, List.set_cons_zero, List.set_cons_succ]
          refine wpAnyH_done (by kernel_rfl) ?_ _
          have HS := LS2
          have HT := LT2
          have EE := E2
          have kS0 : r2.cell? ⟨w.heap.size, 0, none⟩ = some (.int .i64 p) := HS.out.cell 0
          have kS1 : r2.cell? ⟨w.heap.size, 1, none⟩ = some (.int .i64 q) := HS.out.cell 1
          have kT0 : r2.cell? ⟨w.heap.size + 1, 0, none⟩ = some (.int .i64 W) := HT.out.cell 0
          have kT1 : r2.cell? ⟨w.heap.size + 1, 1, none⟩ = some (.int .i64 H) := HT.out.cell 1
          go_wp2_with fail
          refine (AB.out _).mono ?_
          rintro e v2 ⟨rfl, hk⟩
          have hb : Below r2.heap.size r2 v2 := by rw [← hk]; exact Below.refl _ _
          clear hk
          clear kS0 kS1 kT0 kT1
          have HS := Lib.hid (Blk.next (w := r2) HS.out hb)
          have HT := Lib.hid (Blk.next (w := r2) HT.out hb)
          have EE := Lib.hid (EE.out.trans (hb.mono EE.out.size))
          clear hb
          have kS0 : v2.cell? ⟨w.heap.size, 0, none⟩ = some (.int .i64 p) := HS.out.cell 0
          have kS1 : v2.cell? ⟨w.heap.size, 1, none⟩ = some (.int .i64 q) := HS.out.cell 1
          have kT0 : v2.cell? ⟨w.heap.size + 1, 0, none⟩ = some (.int .i64 W) := HT.out.cell 0
          have kT1 : v2.cell? ⟨w.heap.size + 1, 1, none⟩ = some (.int .i64 H) := HT.out.cell 1
          go_wp2_with fail
          refine (alive72 _).mono ?_
          rintro e v3 ⟨rfl, hb⟩
          clear kS0 kS1 kT0 kT1
          have HS := Lib.hid (Blk.next (w := v2) HS.out hb)
          have HT := Lib.hid (Blk.next (w := v2) HT.out hb)
          have EE := Lib.hid (EE.out.trans (hb.mono EE.out.size))
          clear hb
          have kS0 : v3.cell? ⟨w.heap.size, 0, none⟩ = some (.int .i64 p) := HS.out.cell 0
          have kS1 : v3.cell? ⟨w.heap.size, 1, none⟩ = some (.int .i64 q) := HS.out.cell 1
          have kT0 : v3.cell? ⟨w.heap.size + 1, 0, none⟩ = some (.int .i64 W) := HT.out.cell 0
          have kT1 : v3.cell? ⟨w.heap.size + 1, 1, none⟩ = some (.int .i64 H) := HT.out.cell 1
          go_wp2_with fail
          go_ret
          exact ⟨by first | rfl | (simp; done), EE.out⟩
        · have hpd : decide (p < q) = false := decide_eq_false hpq
          go_wp2_with fail
          have sK : ∀ X, Blk X (w.heap.size) 24 #[.int .i64 p, .int .i64 q] → (fun X => X.cell? ⟨w.heap.size, 0, none⟩ = some (.int .i64 p) ∧ X.cell? ⟨w.heap.size, 1, none⟩ = some (.int .i64 q)) X := fun X hS => ⟨hS.cell 0, hS.cell 1⟩
          have LS0 := Lib.hid (HS.out.drew)
          have LT0 := Lib.hid (HT.out.drew)
          have E0 := Lib.hid (EE.out.drew)
          clear kS0 kS1 kT0 kT1
          refine wp_region_held_drew (S := (fun X => X.cell? ⟨w.heap.size, 0, none⟩ = some (.int .i64 p) ∧ X.cell? ⟨w.heap.size, 1, none⟩ = some (.int .i64 q))) (by kernel_rfl) (sK _ LS0.out) (fun hHeld => ?_)
          clear hHeld
          refine wpAnyH_take (i := 0) (v := ?_) rfl (by kernel_rfl) (by kernel_rfl) (by kernel_rfl) (fun _ _ _ h => h) (Or.inl ⟨by rfl, ?_⟩) (sK _ LS0.out) ?_
          rotate_left
          · (intro wS hSw; (try dsimp only at hSw); go_simp; try with_reducible rfl)
          simp only [Act.put, List.getElem_toArray, List.getElem_cons_zero, List.getElem_cons_succ, List.setIfInBounds_toArray, List.set_cons_zero, List.set_cons_succ]
          refine wpAnyH_take (i := 1) (v := ?_) rfl (by kernel_rfl) (by kernel_rfl) (by kernel_rfl) (fun _ _ _ h => h) (Or.inl ⟨by rfl, ?_⟩) (sK _ LS0.out) ?_
          rotate_left
          · (intro wS hSw; (try dsimp only at hSw); go_simp; try with_reducible rfl)
          simp only [Act.put, List.getElem_toArray, List.getElem_cons_zero, List.getElem_cons_succ, List.setIfInBounds_toArray, List.set_cons_zero, List.set_cons_succ]
          refine wpAnyH_take (i := 2) (v := ?_) rfl (by kernel_rfl) (by kernel_rfl) (by kernel_rfl) (fun _ _ _ h => h) (Or.inl ⟨by rfl, ?_⟩) (sK _ LS0.out) ?_
          rotate_left
          · (intro wS hSw; (try dsimp only at hSw); go_simp; try with_reducible rfl)
          simp only [Act.put, List.getElem_toArray, List.getElem_cons_zero, List.getElem_cons_succ, List.setIfInBounds_toArray, List.set_cons_zero, List.set_cons_succ]
          refine wpAnyH_take (i := 3) (v := ?_) rfl (by kernel_rfl) (by kernel_rfl) (by kernel_rfl) (fun _ _ _ h => h) (Or.inl ⟨by rfl, ?_⟩) (sK _ LS0.out) ?_
          rotate_left
          · (intro wS hSw; (try dsimp only at hSw); go_simp; try with_reducible rfl)
          simp only [Act.put, List.getElem_toArray, List.getElem_cons_zero, List.getElem_cons_succ, List.setIfInBounds_toArray, List.set_cons_zero, List.set_cons_succ]
          refine wpAnyH_take (i := 4) (v := ?_) rfl (by kernel_rfl) (by kernel_rfl) (by kernel_rfl) (fun _ _ _ h => h) (Or.inl ⟨by rfl, ?_⟩) (sK _ LS0.out) ?_
          rotate_left
          · (intro wS hSw; (try dsimp only at hSw); go_simp; try with_reducible rfl)
          simp only [Act.put, List.getElem_toArray, List.getElem_cons_zero, List.getElem_cons_succ, List.setIfInBounds_toArray, List.set_cons_zero, List.set_cons_succ]
          refine wpAnyH_take (i := 5) (v := ?_) rfl (by kernel_rfl) (by kernel_rfl) (by kernel_rfl) (fun _ _ _ h => h) (Or.inl ⟨by rfl, ?_⟩) (sK _ LS0.out) ?_
          rotate_left
          · (intro wS hSw; (try dsimp only at hSw); go_simp; try with_reducible rfl)
          simp only [Act.put, List.getElem_toArray, List.getElem_cons_zero, List.getElem_cons_succ, List.setIfInBounds_toArray, List.set_cons_zero, List.set_cons_succ]
          refine wpAnyH_take (i := 6) (v := undef) rfl (by kernel_rfl) (by kernel_rfl) (by kernel_rfl) (fun _ _ _ h => h) (Or.inr ⟨by kernel_rfl, rfl⟩) (sK _ LS0.out) ?_
          simp only [Act.put, List.getElem_toArray, List.getElem_cons_zero, List.getElem_cons_succ, List.setIfInBounds_toArray, List.set_cons_zero, List.set_cons_succ]
          refine wpAnyH_take (i := 7) (v := undef) rfl (by kernel_rfl) (by kernel_rfl) (by kernel_rfl) (fun _ _ _ h => h) (Or.inr ⟨by kernel_rfl, rfl⟩) (sK _ LS0.out) ?_
          simp only [Act.put, List.getElem_toArray, List.getElem_cons_zero, List.getElem_cons_succ, List.setIfInBounds_toArray, List.set_cons_zero, List.set_cons_succ]
          refine wpAnyH_take (i := 8) (v := undef) rfl (by kernel_rfl) (by kernel_rfl) (by kernel_rfl) (fun _ _ _ h => h) (Or.inr ⟨by kernel_rfl, rfl⟩) (sK _ LS0.out) ?_
          simp only [Act.put, List.getElem_toArray, List.getElem_cons_zero, List.getElem_cons_succ, List.setIfInBounds_toArray, List.set_cons_zero, List.set_cons_succ]
          refine wpAnyH_take (i := 9) (v := undef) rfl (by kernel_rfl) (by kernel_rfl) (by kernel_rfl) (fun _ _ _ h => h) (Or.inr ⟨by kernel_rfl, rfl⟩) (sK _ LS0.out) ?_
          simp only [Act.put, List.getElem_toArray, List.getElem_cons_zero, List.getElem_cons_succ, List.setIfInBounds_toArray, List.set_cons_zero, List.set_cons_succ]
          refine wpAnyH_take (i := 10) (v := undef) rfl (by kernel_rfl) (by kernel_rfl) (by kernel_rfl) (fun _ _ _ h => h) (Or.inr ⟨by kernel_rfl, rfl⟩) (sK _ LS0.out) ?_
          simp only [Act.put, List.getElem_toArray, List.getElem_cons_zero, List.getElem_cons_succ, List.setIfInBounds_toArray, List.set_cons_zero, List.set_cons_succ]
          refine wpAnyH_take (i := 11) (v := undef) rfl (by kernel_rfl) (by kernel_rfl) (by kernel_rfl) (fun _ _ _ h => h) (Or.inr ⟨by kernel_rfl, rfl⟩) (sK _ LS0.out) ?_
          simp only [Act.put, List.getElem_toArray, List.getElem_cons_zero, List.getElem_cons_succ, List.setIfInBounds_toArray, List.set_cons_zero, List.set_cons_succ]
          refine wpAnyH_take (i := 12) (v := undef) rfl (by kernel_rfl) (by kernel_rfl) (by kernel_rfl) (fun _ _ _ h => h) (Or.inr ⟨by kernel_rfl, rfl⟩) (sK _ LS0.out) ?_
          simp only [Act.put, List.getElem_toArray, List.getElem_cons_zero, List.getElem_cons_succ, List.setIfInBounds_toArray, List.set_cons_zero, List.set_cons_succ]
          refine wpAnyH_take (i := 13) (v := ?_) rfl (by kernel_rfl) (by kernel_rfl) (by kernel_rfl) (fun _ _ _ h => h) (Or.inl ⟨by rfl, ?_⟩) (sK _ LS0.out) ?_
          rotate_left
          · (intro wS hSw; (try dsimp only at hSw); go_simp; try with_reducible rfl)
          simp only [Act.put, List.getElem_toArray, List.getElem_cons_zero, List.getElem_cons_succ, List.setIfInBounds_toArray, List.set_cons_zero, List.set_cons_succ]
          refine wpAnyH_done (by kernel_rfl) ?_ _
          have HS := LS0
          have HT := LT0
          have EE := E0
          have kS0 : v1.drew.cell? ⟨w.heap.size, 0, none⟩ = some (.int .i64 p) := HS.out.cell 0
          have kS1 : v1.drew.cell? ⟨w.heap.size, 1, none⟩ = some (.int .i64 q) := HS.out.cell 1
          have kT0 : v1.drew.cell? ⟨w.heap.size + 1, 0, none⟩ = some (.int .i64 W) := HT.out.cell 0
          have kT1 : v1.drew.cell? ⟨w.heap.size + 1, 1, none⟩ = some (.int .i64 H) := HT.out.cell 1
          go_wp2_with fail
          refine (AB.out _).mono ?_
          rintro e v2 ⟨rfl, hk⟩
          have hb : Below v1.drew.heap.size v1.drew v2 := by rw [← hk]; exact Below.refl _ _
          clear hk
          clear kS0 kS1 kT0 kT1
          have HS := Lib.hid (Blk.next (w := v1.drew) HS.out hb)
          have HT := Lib.hid (Blk.next (w := v1.drew) HT.out hb)
          have EE := Lib.hid (EE.out.trans (hb.mono EE.out.size))
          clear hb
          have kS0 : v2.cell? ⟨w.heap.size, 0, none⟩ = some (.int .i64 p) := HS.out.cell 0
          have kS1 : v2.cell? ⟨w.heap.size, 1, none⟩ = some (.int .i64 q) := HS.out.cell 1
          have kT0 : v2.cell? ⟨w.heap.size + 1, 0, none⟩ = some (.int .i64 W) := HT.out.cell 0
          have kT1 : v2.cell? ⟨w.heap.size + 1, 1, none⟩ = some (.int .i64 H) := HT.out.cell 1
          go_wp2_with fail
          refine (alive72 _).mono ?_
          rintro e v3 ⟨rfl, hb⟩
          clear kS0 kS1 kT0 kT1
          have HS := Lib.hid (Blk.next (w := v2) HS.out hb)
          have HT := Lib.hid (Blk.next (w := v2) HT.out hb)
          have EE := Lib.hid (EE.out.trans (hb.mono EE.out.size))
          clear hb
          have kS0 : v3.cell? ⟨w.heap.size, 0, none⟩ = some (.int .i64 p) := HS.out.cell 0
          have kS1 : v3.cell? ⟨w.heap.size, 1, none⟩ = some (.int .i64 q) := HS.out.cell 1
          have kT0 : v3.cell? ⟨w.heap.size + 1, 0, none⟩ = some (.int .i64 W) := HT.out.cell 0
          have kT1 : v3.cell? ⟨w.heap.size + 1, 1, none⟩ = some (.int .i64 H) := HT.out.cell 1
          go_wp2_with fail
          go_ret
          exact ⟨by first | rfl | (simp; done), EE.out⟩
      · have hh0 : 0 ≤ H := by omega
        clear hh
        have MB := manyP_bd hw1 hh0 H1
        obtain ⟨q0, q1, e0, e1⟩ := MB
        have ME := Lib.hid (fun N (hN : manyP W H = N) => many_eq hw1 hh0 hN)
        obtain ⟨D, hD⟩ : ∃ d, H / W = d := ⟨_, rfl⟩
        obtain ⟨R, hR⟩ : ∃ d, H % W = d := ⟨_, rfl⟩
        obtain ⟨N, hN⟩ : ∃ N, manyP W H = N := ⟨_, rfl⟩
        have MN := ME.out N hN
        rw [hD, hR] at MN
        rw [hD] at q0 q1
        rw [hR] at e0 e1
        have LE := many_le hw1 hh0 hN
        have HNh := Lib.hid hN
        clear ME hN
        by_cases h200 : 200 < D ∧ D < 65536
        · obtain ⟨h2a, h2b⟩ := h200
          clear MN LE
          go_wp2_with fail
          go_ret
          exact ⟨by first | rfl | (simp; done), EE.out⟩
        · rcases (show 65536 < D ∨ (D = 65536 ∧ 0 < R) ∨ (D = 65536 ∧ R = 0) ∨ D ≤ 200 by omega) with hx | ⟨hx, hy⟩ | ⟨hx, hy⟩ | hx
          · have AB := Lib.hid (fun w => all_size A c n W H w hw1 hh0 H1 (by rw [HNh.out]; omega))
            clear RWW MN LE h200
            by_cases hpq : p < q
            · have hpd : decide (p < q) = true := decide_eq_true hpq
              go_wp2_with fail
              have sK : ∀ X, Blk X (w.heap.size) 24 #[.int .i64 p, .int .i64 q] → (fun X => X.cell? ⟨w.heap.size, 0, none⟩ = some (.int .i64 p) ∧ X.cell? ⟨w.heap.size, 1, none⟩ = some (.int .i64 q)) X := fun X hS => ⟨hS.cell 0, hS.cell 1⟩
              have LS0 := Lib.hid (HS.out.drew)
              have LT0 := Lib.hid (HT.out.drew)
              have E0 := Lib.hid (EE.out.drew)
              clear kS0 kS1 kT0 kT1
              refine wp_region_held_drew (S := (fun X => X.cell? ⟨w.heap.size, 0, none⟩ = some (.int .i64 p) ∧ X.cell? ⟨w.heap.size, 1, none⟩ = some (.int .i64 q))) (by kernel_rfl) (sK _ LS0.out) (fun hHeld => ?_)
              clear hHeld
              refine wpAnyH_take (i := 0) (v := ?_) rfl (by kernel_rfl) (by kernel_rfl) (by kernel_rfl) (fun _ _ _ h => h) (Or.inl ⟨by rfl, ?_⟩) (sK _ LS0.out) ?_
              rotate_left
              · (intro wS hSw; (try dsimp only at hSw); go_simp; try with_reducible rfl)
              simp only [Act.put, List.getElem_toArray, List.getElem_cons_zero, List.getElem_cons_succ, List.setIfInBounds_toArray, List.set_cons_zero, List.set_cons_succ]
              refine wpAnyH_take (i := 1) (v := ?_) rfl (by kernel_rfl) (by kernel_rfl) (by kernel_rfl) (fun _ _ _ h => h) (Or.inl ⟨by rfl, ?_⟩) (sK _ LS0.out) ?_
              rotate_left
              · (intro wS hSw; (try dsimp only at hSw); go_simp; try with_reducible rfl)
              simp only [Act.put, List.getElem_toArray, List.getElem_cons_zero, List.getElem_cons_succ, List.setIfInBounds_toArray, List.set_cons_zero, List.set_cons_succ]
              refine wpAnyH_take (i := 2) (v := ?_) rfl (by kernel_rfl) (by kernel_rfl) (by kernel_rfl) (fun _ _ _ h => h) (Or.inl ⟨by rfl, ?_⟩) (sK _ LS0.out) ?_
              rotate_left
              · (intro wS hSw; (try dsimp only at hSw); go_simp; try with_reducible rfl)
              simp only [Act.put, List.getElem_toArray, List.getElem_cons_zero, List.getElem_cons_succ, List.setIfInBounds_toArray, List.set_cons_zero, List.set_cons_succ]
              refine wpAnyH_take (i := 3) (v := ?_) rfl (by kernel_rfl) (by kernel_rfl) (by kernel_rfl) (fun _ _ _ h => h) (Or.inl ⟨by rfl, ?_⟩) (sK _ LS0.out) ?_
              rotate_left
              · (intro wS hSw; (try dsimp only at hSw); go_simp; try with_reducible rfl)
              simp only [Act.put, List.getElem_toArray, List.getElem_cons_zero, List.getElem_cons_succ, List.setIfInBounds_toArray, List.set_cons_zero, List.set_cons_succ]
              refine wpAnyH_take (i := 4) (v := ?_) rfl (by kernel_rfl) (by kernel_rfl) (by kernel_rfl) (fun _ _ _ h => h) (Or.inl ⟨by rfl, ?_⟩) (sK _ LS0.out) ?_
              rotate_left
              · (intro wS hSw; (try dsimp only at hSw); go_simp; try with_reducible rfl)
              simp only [Act.put, List.getElem_toArray, List.getElem_cons_zero, List.getElem_cons_succ, List.setIfInBounds_toArray, List.set_cons_zero, List.set_cons_succ]
              refine wpAnyH_take (i := 5) (v := ?_) rfl (by kernel_rfl) (by kernel_rfl) (by kernel_rfl) (fun _ _ _ h => h) (Or.inl ⟨by rfl, ?_⟩) (sK _ LS0.out) ?_
              rotate_left
              · (intro wS hSw; (try dsimp only at hSw); go_simp; try with_reducible rfl)
              simp only [Act.put, List.getElem_toArray, List.getElem_cons_zero, List.getElem_cons_succ, List.setIfInBounds_toArray, List.set_cons_zero, List.set_cons_succ]
              refine wpAnyH_take (i := 6) (v := ?_) rfl (by kernel_rfl) (by kernel_rfl) (by kernel_rfl) (fun _ _ _ h => h) (Or.inl ⟨by rfl, ?_⟩) (sK _ LS0.out) ?_
              rotate_left
              · (intro wS hSw; (try dsimp only at hSw); go_simp; try with_reducible rfl)
              simp only [Act.put, List.getElem_toArray, List.getElem_cons_zero, List.getElem_cons_succ, List.setIfInBounds_toArray, List.set_cons_zero, List.set_cons_succ]
              refine wpAnyH_take (i := 7) (v := ?_) rfl (by kernel_rfl) (by kernel_rfl) (by kernel_rfl) (fun _ _ _ h => h) (Or.inl ⟨by rfl, ?_⟩) (sK _ LS0.out) ?_
              rotate_left
              · (intro wS hSw; (try dsimp only at hSw); go_simp; try with_reducible rfl)
              simp only [Act.put, List.getElem_toArray, List.getElem_cons_zero, List.getElem_cons_succ, List.setIfInBounds_toArray, List.set_cons_zero, List.set_cons_succ]
              refine wpAnyH_take (i := 9) (v := ?_) rfl (by kernel_rfl) (by kernel_rfl) (by kernel_rfl) (fun _ _ _ h => h) (Or.inl ⟨by rfl, ?_⟩) (sK _ LS0.out) ?_
              rotate_left
              · (intro wS hSw; (try dsimp only at hSw); go_simp; try with_reducible rfl)
              simp only [Act.put, List.getElem_toArray, List.getElem_cons_zero, List.getElem_cons_succ, List.setIfInBounds_toArray, List.set_cons_zero, List.set_cons_succ]
              refine wpAnyH_take (i := 10) (v := ?_) rfl (by kernel_rfl) (by kernel_rfl) (by kernel_rfl) (fun _ _ _ h => h) (Or.inl ⟨by rfl, ?_⟩) (sK _ LS0.out) ?_
              rotate_left
              · (intro wS hSw; (try dsimp only at hSw); go_simp; try with_reducible rfl)
              simp only [Act.put, List.getElem_toArray, List.getElem_cons_zero, List.getElem_cons_succ, List.setIfInBounds_toArray, List.set_cons_zero, List.set_cons_succ]
              refine wpAnyH_ready (rs := [8]) (by kernel_rfl) (by simp) ?_
              refine AllReadyH.cons rfl (fun K hK => ?_) AllReadyH.nil
              go_simp
              refine (OF.out _ (HRd.out.kept E0.out)).mono ?_
              rintro e r1 ⟨rfl, hb⟩
              have LS1 := Lib.hid (LS0.out.next hb)
              have LT1 := Lib.hid (LT0.out.next hb)
              have E1 := Lib.hid (E0.out.trans (hb.mono E0.out.size))
              clear hb
              go_wp2_with fail
              refine hK.out _ _ (sK _ LS1.out) (fun hHeld => ?_)
              clear hK K hHeld
              try simp only [Act.put, List.getElem_toArray, List.getElem_cons_zero, List.getElem_cons_succ, List.setIfInBounds_toArray, List.set_cons_zero, List.set_cons_succ]
              refine wpAnyH_ready (rs := [11]) (by kernel_rfl) (by simp) ?_
              refine AllReadyH.cons rfl (fun K hK => ?_) AllReadyH.nil
              go_simp
              refine (RW.out _ (HRd.out.kept E1.out)).mono ?_
              rintro e r2 ⟨rfl, hb⟩
              have LS2 := Lib.hid (LS1.out.next hb)
              have LT2 := Lib.hid (LT1.out.next hb)
              have E2 := Lib.hid (E1.out.trans (hb.mono E1.out.size))
              clear hb
              go_wp2_with fail
              refine hK.out _ _ (sK _ LS2.out) (fun hHeld => ?_)
              clear hK K hHeld
              try simp only [Act.put, List.getElem_toArray, List.getElem_cons_zero, List.getElem_cons_succ, List.setIfInBounds_toArray, List.set_cons_zero, List.set_cons_succ]
              refine wpAnyH_take (i := 12) (v := ?_) rfl (by kernel_rfl) (by kernel_rfl) (by kernel_rfl) (fun _ _ _ h => h) (Or.inl ⟨by rfl, ?_⟩) (sK _ LS2.out) ?_
              rotate_left
              · (intro wS hSw; (try dsimp only at hSw); go_simp; try with_reducible rfl)
              simp only [Act.put, List.getElem_toArray, List.getElem_cons_zero, List.getElem_cons_succ, List.setIfInBounds_toArray, List.set_cons_zero, List.set_cons_succ]
              refine wpAnyH_take (i := 13) (v := ?_) rfl (by kernel_rfl) (by kernel_rfl) (by kernel_rfl) (fun _ _ _ h => h) (Or.inl ⟨by rfl, ?_⟩) (sK _ LS2.out) ?_
              rotate_left
              · (intro wS hSw; (try dsimp only at hSw); go_simp; try with_reducible rfl)
              simp only [Act.put, List.getElem_toArray, List.getElem_cons_zero, List.getElem_cons_succ, List.setIfInBounds_toArray, List.set_cons_zero, List.set_cons_succ]
              refine wpAnyH_done (by kernel_rfl) ?_ _
              have HS := LS2
              have HT := LT2
              have EE := E2
              have kS0 : r2.cell? ⟨w.heap.size, 0, none⟩ = some (.int .i64 p) := HS.out.cell 0
              have kS1 : r2.cell? ⟨w.heap.size, 1, none⟩ = some (.int .i64 q) := HS.out.cell 1
              have kT0 : r2.cell? ⟨w.heap.size + 1, 0, none⟩ = some (.int .i64 W) := HT.out.cell 0
              have kT1 : r2.cell? ⟨w.heap.size + 1, 1, none⟩ = some (.int .i64 H) := HT.out.cell 1
              go_wp2_with fail
              refine (AB.out _).mono ?_
              rintro e v2 ⟨rfl, hk⟩
              have hb : Below r2.heap.size r2 v2 := by rw [← hk]; exact Below.refl _ _
              clear hk
              clear kS0 kS1 kT0 kT1
              have HS := Lib.hid (Blk.next (w := r2) HS.out hb)
              have HT := Lib.hid (Blk.next (w := r2) HT.out hb)
              have EE := Lib.hid (EE.out.trans (hb.mono EE.out.size))
              clear hb
              have kS0 : v2.cell? ⟨w.heap.size, 0, none⟩ = some (.int .i64 p) := HS.out.cell 0
              have kS1 : v2.cell? ⟨w.heap.size, 1, none⟩ = some (.int .i64 q) := HS.out.cell 1
              have kT0 : v2.cell? ⟨w.heap.size + 1, 0, none⟩ = some (.int .i64 W) := HT.out.cell 0
              have kT1 : v2.cell? ⟨w.heap.size + 1, 1, none⟩ = some (.int .i64 H) := HT.out.cell 1
              go_wp2_with fail
              refine (alive72 _).mono ?_
              rintro e v3 ⟨rfl, hb⟩
              clear kS0 kS1 kT0 kT1
              have HS := Lib.hid (Blk.next (w := v2) HS.out hb)
              have HT := Lib.hid (Blk.next (w := v2) HT.out hb)
              have EE := Lib.hid (EE.out.trans (hb.mono EE.out.size))
              clear hb
              have kS0 : v3.cell? ⟨w.heap.size, 0, none⟩ = some (.int .i64 p) := HS.out.cell 0
              have kS1 : v3.cell? ⟨w.heap.size, 1, none⟩ = some (.int .i64 q) := HS.out.cell 1
              have kT0 : v3.cell? ⟨w.heap.size + 1, 0, none⟩ = some (.int .i64 W) := HT.out.cell 0
              have kT1 : v3.cell? ⟨w.heap.size + 1, 1, none⟩ = some (.int .i64 H) := HT.out.cell 1
              go_wp2_with fail
              go_ret
              exact ⟨by first | rfl | (simp; done), EE.out⟩
            · have hpd : decide (p < q) = false := decide_eq_false hpq
              go_wp2_with fail
              have sK : ∀ X, Blk X (w.heap.size) 24 #[.int .i64 p, .int .i64 q] → (fun X => X.cell? ⟨w.heap.size, 0, none⟩ = some (.int .i64 p) ∧ X.cell? ⟨w.heap.size, 1, none⟩ = some (.int .i64 q)) X := fun X hS => ⟨hS.cell 0, hS.cell 1⟩
              have LS0 := Lib.hid (HS.out.drew)
              have LT0 := Lib.hid (HT.out.drew)
              have E0 := Lib.hid (EE.out.drew)
              clear kS0 kS1 kT0 kT1
              refine wp_region_held_drew (S := (fun X => X.cell? ⟨w.heap.size, 0, none⟩ = some (.int .i64 p) ∧ X.cell? ⟨w.heap.size, 1, none⟩ = some (.int .i64 q))) (by kernel_rfl) (sK _ LS0.out) (fun hHeld => ?_)
              clear hHeld
              refine wpAnyH_take (i := 0) (v := ?_) rfl (by kernel_rfl) (by kernel_rfl) (by kernel_rfl) (fun _ _ _ h => h) (Or.inl ⟨by rfl, ?_⟩) (sK _ LS0.out) ?_
              rotate_left
              · (intro wS hSw; (try dsimp only at hSw); go_simp; try with_reducible rfl)
              simp only [Act.put, List.getElem_toArray, List.getElem_cons_zero, List.getElem_cons_succ, List.setIfInBounds_toArray, List.set_cons_zero, List.set_cons_succ]
              refine wpAnyH_take (i := 1) (v := ?_) rfl (by kernel_rfl) (by kernel_rfl) (by kernel_rfl) (fun _ _ _ h => h) (Or.inl ⟨by rfl, ?_⟩) (sK _ LS0.out) ?_
              rotate_left
              · (intro wS hSw; (try dsimp only at hSw); go_simp; try with_reducible rfl)
              simp only [Act.put, List.getElem_toArray, List.getElem_cons_zero, List.getElem_cons_succ, List.setIfInBounds_toArray, List.set_cons_zero, List.set_cons_succ]
              refine wpAnyH_take (i := 2) (v := ?_) rfl (by kernel_rfl) (by kernel_rfl) (by kernel_rfl) (fun _ _ _ h => h) (Or.inl ⟨by rfl, ?_⟩) (sK _ LS0.out) ?_
              rotate_left
              · (intro wS hSw; (try dsimp only at hSw); go_simp; try with_reducible rfl)
              simp only [Act.put, List.getElem_toArray, List.getElem_cons_zero, List.getElem_cons_succ, List.setIfInBounds_toArray, List.set_cons_zero, List.set_cons_succ]
              refine wpAnyH_take (i := 3) (v := ?_) rfl (by kernel_rfl) (by kernel_rfl) (by kernel_rfl) (fun _ _ _ h => h) (Or.inl ⟨by rfl, ?_⟩) (sK _ LS0.out) ?_
              rotate_left
              · (intro wS hSw; (try dsimp only at hSw); go_simp; try with_reducible rfl)
              simp only [Act.put, List.getElem_toArray, List.getElem_cons_zero, List.getElem_cons_succ, List.setIfInBounds_toArray, List.set_cons_zero, List.set_cons_succ]
              refine wpAnyH_take (i := 4) (v := ?_) rfl (by kernel_rfl) (by kernel_rfl) (by kernel_rfl) (fun _ _ _ h => h) (Or.inl ⟨by rfl, ?_⟩) (sK _ LS0.out) ?_
              rotate_left
              · (intro wS hSw; (try dsimp only at hSw); go_simp; try with_reducible rfl)
              simp only [Act.put, List.getElem_toArray, List.getElem_cons_zero, List.getElem_cons_succ, List.setIfInBounds_toArray, List.set_cons_zero, List.set_cons_succ]
              refine wpAnyH_take (i := 5) (v := ?_) rfl (by kernel_rfl) (by kernel_rfl) (by kernel_rfl) (fun _ _ _ h => h) (Or.inl ⟨by rfl, ?_⟩) (sK _ LS0.out) ?_
              rotate_left
              · (intro wS hSw; (try dsimp only at hSw); go_simp; try with_reducible rfl)
              simp only [Act.put, List.getElem_toArray, List.getElem_cons_zero, List.getElem_cons_succ, List.setIfInBounds_toArray, List.set_cons_zero, List.set_cons_succ]
              refine wpAnyH_take (i := 6) (v := undef) rfl (by kernel_rfl) (by kernel_rfl) (by kernel_rfl) (fun _ _ _ h => h) (Or.inr ⟨by kernel_rfl, rfl⟩) (sK _ LS0.out) ?_
              simp only [Act.put, List.getElem_toArray, List.getElem_cons_zero, List.getElem_cons_succ, List.setIfInBounds_toArray, List.set_cons_zero, List.set_cons_succ]
              refine wpAnyH_take (i := 7) (v := undef) rfl (by kernel_rfl) (by kernel_rfl) (by kernel_rfl) (fun _ _ _ h => h) (Or.inr ⟨by kernel_rfl, rfl⟩) (sK _ LS0.out) ?_
              simp only [Act.put, List.getElem_toArray, List.getElem_cons_zero, List.getElem_cons_succ, List.setIfInBounds_toArray, List.set_cons_zero, List.set_cons_succ]
              refine wpAnyH_take (i := 8) (v := undef) rfl (by kernel_rfl) (by kernel_rfl) (by kernel_rfl) (fun _ _ _ h => h) (Or.inr ⟨by kernel_rfl, rfl⟩) (sK _ LS0.out) ?_
              simp only [Act.put, List.getElem_toArray, List.getElem_cons_zero, List.getElem_cons_succ, List.setIfInBounds_toArray, List.set_cons_zero, List.set_cons_succ]
              refine wpAnyH_take (i := 9) (v := undef) rfl (by kernel_rfl) (by kernel_rfl) (by kernel_rfl) (fun _ _ _ h => h) (Or.inr ⟨by kernel_rfl, rfl⟩) (sK _ LS0.out) ?_
              simp only [Act.put, List.getElem_toArray, List.getElem_cons_zero, List.getElem_cons_succ, List.setIfInBounds_toArray, List.set_cons_zero, List.set_cons_succ]
              refine wpAnyH_take (i := 10) (v := undef) rfl (by kernel_rfl) (by kernel_rfl) (by kernel_rfl) (fun _ _ _ h => h) (Or.inr ⟨by kernel_rfl, rfl⟩) (sK _ LS0.out) ?_
              simp only [Act.put, List.getElem_toArray, List.getElem_cons_zero, List.getElem_cons_succ, List.setIfInBounds_toArray, List.set_cons_zero, List.set_cons_succ]
              refine wpAnyH_take (i := 11) (v := undef) rfl (by kernel_rfl) (by kernel_rfl) (by kernel_rfl) (fun _ _ _ h => h) (Or.inr ⟨by kernel_rfl, rfl⟩) (sK _ LS0.out) ?_
              simp only [Act.put, List.getElem_toArray, List.getElem_cons_zero, List.getElem_cons_succ, List.setIfInBounds_toArray, List.set_cons_zero, List.set_cons_succ]
              refine wpAnyH_take (i := 12) (v := undef) rfl (by kernel_rfl) (by kernel_rfl) (by kernel_rfl) (fun _ _ _ h => h) (Or.inr ⟨by kernel_rfl, rfl⟩) (sK _ LS0.out) ?_
              simp only [Act.put, List.getElem_toArray, List.getElem_cons_zero, List.getElem_cons_succ, List.setIfInBounds_toArray, List.set_cons_zero, List.set_cons_succ]
              refine wpAnyH_take (i := 13) (v := ?_) rfl (by kernel_rfl) (by kernel_rfl) (by kernel_rfl) (fun _ _ _ h => h) (Or.inl ⟨by rfl, ?_⟩) (sK _ LS0.out) ?_
              rotate_left
              · (intro wS hSw; (try dsimp only at hSw); go_simp; try with_reducible rfl)
              simp only [Act.put, List.getElem_toArray, List.getElem_cons_zero, List.getElem_cons_succ, List.setIfInBounds_toArray, List.set_cons_zero, List.set_cons_succ]
              refine wpAnyH_done (by kernel_rfl) ?_ _
              have HS := LS0
              have HT := LT0
              have EE := E0
              have kS0 : v1.drew.cell? ⟨w.heap.size, 0, none⟩ = some (.int .i64 p) := HS.out.cell 0
              have kS1 : v1.drew.cell? ⟨w.heap.size, 1, none⟩ = some (.int .i64 q) := HS.out.cell 1
              have kT0 : v1.drew.cell? ⟨w.heap.size + 1, 0, none⟩ = some (.int .i64 W) := HT.out.cell 0
              have kT1 : v1.drew.cell? ⟨w.heap.size + 1, 1, none⟩ = some (.int .i64 H) := HT.out.cell 1
              go_wp2_with fail
              refine (AB.out _).mono ?_
              rintro e v2 ⟨rfl, hk⟩
              have hb : Below v1.drew.heap.size v1.drew v2 := by rw [← hk]; exact Below.refl _ _
              clear hk
              clear kS0 kS1 kT0 kT1
              have HS := Lib.hid (Blk.next (w := v1.drew) HS.out hb)
              have HT := Lib.hid (Blk.next (w := v1.drew) HT.out hb)
              have EE := Lib.hid (EE.out.trans (hb.mono EE.out.size))
              clear hb
              have kS0 : v2.cell? ⟨w.heap.size, 0, none⟩ = some (.int .i64 p) := HS.out.cell 0
              have kS1 : v2.cell? ⟨w.heap.size, 1, none⟩ = some (.int .i64 q) := HS.out.cell 1
              have kT0 : v2.cell? ⟨w.heap.size + 1, 0, none⟩ = some (.int .i64 W) := HT.out.cell 0
              have kT1 : v2.cell? ⟨w.heap.size + 1, 1, none⟩ = some (.int .i64 H) := HT.out.cell 1
              go_wp2_with fail
              refine (alive72 _).mono ?_
              rintro e v3 ⟨rfl, hb⟩
              clear kS0 kS1 kT0 kT1
              have HS := Lib.hid (Blk.next (w := v2) HS.out hb)
              have HT := Lib.hid (Blk.next (w := v2) HT.out hb)
              have EE := Lib.hid (EE.out.trans (hb.mono EE.out.size))
              clear hb
              have kS0 : v3.cell? ⟨w.heap.size, 0, none⟩ = some (.int .i64 p) := HS.out.cell 0
              have kS1 : v3.cell? ⟨w.heap.size, 1, none⟩ = some (.int .i64 q) := HS.out.cell 1
              have kT0 : v3.cell? ⟨w.heap.size + 1, 0, none⟩ = some (.int .i64 W) := HT.out.cell 0
              have kT1 : v3.cell? ⟨w.heap.size + 1, 1, none⟩ = some (.int .i64 H) := HT.out.cell 1
              go_wp2_with fail
              go_ret
              exact ⟨by first | rfl | (simp; done), EE.out⟩
          · have AB := Lib.hid (fun w => all_size A c n W H w hw1 hh0 H1 (by rw [HNh.out]; omega))
            clear RWW MN LE h200
            by_cases hpq : p < q
            · have hpd : decide (p < q) = true := decide_eq_true hpq
              go_wp2_with fail
              have sK : ∀ X, Blk X (w.heap.size) 24 #[.int .i64 p, .int .i64 q] → (fun X => X.cell? ⟨w.heap.size, 0, none⟩ = some (.int .i64 p) ∧ X.cell? ⟨w.heap.size, 1, none⟩ = some (.int .i64 q)) X := fun X hS => ⟨hS.cell 0, hS.cell 1⟩
              have LS0 := Lib.hid (HS.out.drew)
              have LT0 := Lib.hid (HT.out.drew)
              have E0 := Lib.hid (EE.out.drew)
              clear kS0 kS1 kT0 kT1
              refine wp_region_held_drew (S := (fun X => X.cell? ⟨w.heap.size, 0, none⟩ = some (.int .i64 p) ∧ X.cell? ⟨w.heap.size, 1, none⟩ = some (.int .i64 q))) (by kernel_rfl) (sK _ LS0.out) (fun hHeld => ?_)
              clear hHeld
              refine wpAnyH_take (i := 0) (v := ?_) rfl (by kernel_rfl) (by kernel_rfl) (by kernel_rfl) (fun _ _ _ h => h) (Or.inl ⟨by rfl, ?_⟩) (sK _ LS0.out) ?_
              rotate_left
              · (intro wS hSw; (try dsimp only at hSw); go_simp; try with_reducible rfl)
              simp only [Act.put, List.getElem_toArray, List.getElem_cons_zero, List.getElem_cons_succ, List.setIfInBounds_toArray, List.set_cons_zero, List.set_cons_succ]
              refine wpAnyH_take (i := 1) (v := ?_) rfl (by kernel_rfl) (by kernel_rfl) (by kernel_rfl) (fun _ _ _ h => h) (Or.inl ⟨by rfl, ?_⟩) (sK _ LS0.out) ?_
              rotate_left
              · (intro wS hSw; (try dsimp only at hSw); go_simp; try with_reducible rfl)
              simp only [Act.put, List.getElem_toArray, List.getElem_cons_zero, List.getElem_cons_succ, List.setIfInBounds_toArray, List.set_cons_zero, List.set_cons_succ]
              refine wpAnyH_take (i := 2) (v := ?_) rfl (by kernel_rfl) (by kernel_rfl) (by kernel_rfl) (fun _ _ _ h => h) (Or.inl ⟨by rfl, ?_⟩) (sK _ LS0.out) ?_
              rotate_left
              · (intro wS hSw; (try dsimp only at hSw); go_simp; try with_reducible rfl)
              simp only [Act.put, List.getElem_toArray, List.getElem_cons_zero, List.getElem_cons_succ, List.setIfInBounds_toArray, List.set_cons_zero, List.set_cons_succ]
              refine wpAnyH_take (i := 3) (v := ?_) rfl (by kernel_rfl) (by kernel_rfl) (by kernel_rfl) (fun _ _ _ h => h) (Or.inl ⟨by rfl, ?_⟩) (sK _ LS0.out) ?_
              rotate_left
              · (intro wS hSw; (try dsimp only at hSw); go_simp; try with_reducible rfl)
              simp only [Act.put, List.getElem_toArray, List.getElem_cons_zero, List.getElem_cons_succ, List.setIfInBounds_toArray, List.set_cons_zero, List.set_cons_succ]
              refine wpAnyH_take (i := 4) (v := ?_) rfl (by kernel_rfl) (by kernel_rfl) (by kernel_rfl) (fun _ _ _ h => h) (Or.inl ⟨by rfl, ?_⟩) (sK _ LS0.out) ?_
              rotate_left
              · (intro wS hSw; (try dsimp only at hSw); go_simp; try with_reducible rfl)
              simp only [Act.put, List.getElem_toArray, List.getElem_cons_zero, List.getElem_cons_succ, List.setIfInBounds_toArray, List.set_cons_zero, List.set_cons_succ]
              refine wpAnyH_take (i := 5) (v := ?_) rfl (by kernel_rfl) (by kernel_rfl) (by kernel_rfl) (fun _ _ _ h => h) (Or.inl ⟨by rfl, ?_⟩) (sK _ LS0.out) ?_
              rotate_left
              · (intro wS hSw; (try dsimp only at hSw); go_simp; try with_reducible rfl)
              simp only [Act.put, List.getElem_toArray, List.getElem_cons_zero, List.getElem_cons_succ, List.setIfInBounds_toArray, List.set_cons_zero, List.set_cons_succ]
              refine wpAnyH_take (i := 6) (v := ?_) rfl (by kernel_rfl) (by kernel_rfl) (by kernel_rfl) (fun _ _ _ h => h) (Or.inl ⟨by rfl, ?_⟩) (sK _ LS0.out) ?_
              rotate_left
              · (intro wS hSw; (try dsimp only at hSw); go_simp; try with_reducible rfl)
              simp only [Act.put, List.getElem_toArray, List.getElem_cons_zero, List.getElem_cons_succ, List.setIfInBounds_toArray, List.set_cons_zero, List.set_cons_succ]
              refine wpAnyH_take (i := 7) (v := ?_) rfl (by kernel_rfl) (by kernel_rfl) (by kernel_rfl) (fun _ _ _ h => h) (Or.inl ⟨by rfl, ?_⟩) (sK _ LS0.out) ?_
              rotate_left
              · (intro wS hSw; (try dsimp only at hSw); go_simp; try with_reducible rfl)
              simp only [Act.put, List.getElem_toArray, List.getElem_cons_zero, List.getElem_cons_succ, List.setIfInBounds_toArray, List.set_cons_zero, List.set_cons_succ]
              refine wpAnyH_take (i := 9) (v := ?_) rfl (by kernel_rfl) (by kernel_rfl) (by kernel_rfl) (fun _ _ _ h => h) (Or.inl ⟨by rfl, ?_⟩) (sK _ LS0.out) ?_
              rotate_left
              · (intro wS hSw; (try dsimp only at hSw); go_simp; try with_reducible rfl)
              simp only [Act.put, List.getElem_toArray, List.getElem_cons_zero, List.getElem_cons_succ, List.setIfInBounds_toArray, List.set_cons_zero, List.set_cons_succ]
              refine wpAnyH_take (i := 10) (v := ?_) rfl (by kernel_rfl) (by kernel_rfl) (by kernel_rfl) (fun _ _ _ h => h) (Or.inl ⟨by rfl, ?_⟩) (sK _ LS0.out) ?_
              rotate_left
              · (intro wS hSw; (try dsimp only at hSw); go_simp; try with_reducible rfl)
              simp only [Act.put, List.getElem_toArray, List.getElem_cons_zero, List.getElem_cons_succ, List.setIfInBounds_toArray, List.set_cons_zero, List.set_cons_succ]
              refine wpAnyH_ready (rs := [8]) (by kernel_rfl) (by simp) ?_
              refine AllReadyH.cons rfl (fun K hK => ?_) AllReadyH.nil
              go_simp
              refine (OF.out _ (HRd.out.kept E0.out)).mono ?_
              rintro e r1 ⟨rfl, hb⟩
              have LS1 := Lib.hid (LS0.out.next hb)
              have LT1 := Lib.hid (LT0.out.next hb)
              have E1 := Lib.hid (E0.out.trans (hb.mono E0.out.size))
              clear hb
              go_wp2_with fail
              refine hK.out _ _ (sK _ LS1.out) (fun hHeld => ?_)
              clear hK K hHeld
              try simp only [Act.put, List.getElem_toArray, List.getElem_cons_zero, List.getElem_cons_succ, List.setIfInBounds_toArray, List.set_cons_zero, List.set_cons_succ]
              refine wpAnyH_ready (rs := [11]) (by kernel_rfl) (by simp) ?_
              refine AllReadyH.cons rfl (fun K hK => ?_) AllReadyH.nil
              go_simp
              refine (RW.out _ (HRd.out.kept E1.out)).mono ?_
              rintro e r2 ⟨rfl, hb⟩
              have LS2 := Lib.hid (LS1.out.next hb)
              have LT2 := Lib.hid (LT1.out.next hb)
              have E2 := Lib.hid (E1.out.trans (hb.mono E1.out.size))
              clear hb
              go_wp2_with fail
              refine hK.out _ _ (sK _ LS2.out) (fun hHeld => ?_)
              clear hK K hHeld
              try simp only [Act.put, List.getElem_toArray, List.getElem_cons_zero, List.getElem_cons_succ, List.setIfInBounds_toArray, List.set_cons_zero, List.set_cons_succ]
              refine wpAnyH_take (i := 12) (v := ?_) rfl (by kernel_rfl) (by kernel_rfl) (by kernel_rfl) (fun _ _ _ h => h) (Or.inl ⟨by rfl, ?_⟩) (sK _ LS2.out) ?_
              rotate_left
              · (intro wS hSw; (try dsimp only at hSw); go_simp; try with_reducible rfl)
              simp only [Act.put, List.getElem_toArray, List.getElem_cons_zero, List.getElem_cons_succ, List.setIfInBounds_toArray, List.set_cons_zero, List.set_cons_succ]
              refine wpAnyH_take (i := 13) (v := ?_) rfl (by kernel_rfl) (by kernel_rfl) (by kernel_rfl) (fun _ _ _ h => h) (Or.inl ⟨by rfl, ?_⟩) (sK _ LS2.out) ?_
              rotate_left
              · (intro wS hSw; (try dsimp only at hSw); go_simp; try with_reducible rfl)
              simp only [Act.put, List.getElem_toArray, List.getElem_cons_zero, List.getElem_cons_succ, List.setIfInBounds_toArray, List.set_cons_zero, List.set_cons_succ]
              refine wpAnyH_done (by kernel_rfl) ?_ _
              have HS := LS2
              have HT := LT2
              have EE := E2
              have kS0 : r2.cell? ⟨w.heap.size, 0, none⟩ = some (.int .i64 p) := HS.out.cell 0
              have kS1 : r2.cell? ⟨w.heap.size, 1, none⟩ = some (.int .i64 q) := HS.out.cell 1
              have kT0 : r2.cell? ⟨w.heap.size + 1, 0, none⟩ = some (.int .i64 W) := HT.out.cell 0
              have kT1 : r2.cell? ⟨w.heap.size + 1, 1, none⟩ = some (.int .i64 H) := HT.out.cell 1
              go_wp2_with fail
              refine (AB.out _).mono ?_
              rintro e v2 ⟨rfl, hk⟩
              have hb : Below r2.heap.size r2 v2 := by rw [← hk]; exact Below.refl _ _
              clear hk
              clear kS0 kS1 kT0 kT1
              have HS := Lib.hid (Blk.next (w := r2) HS.out hb)
              have HT := Lib.hid (Blk.next (w := r2) HT.out hb)
              have EE := Lib.hid (EE.out.trans (hb.mono EE.out.size))
              clear hb
              have kS0 : v2.cell? ⟨w.heap.size, 0, none⟩ = some (.int .i64 p) := HS.out.cell 0
              have kS1 : v2.cell? ⟨w.heap.size, 1, none⟩ = some (.int .i64 q) := HS.out.cell 1
              have kT0 : v2.cell? ⟨w.heap.size + 1, 0, none⟩ = some (.int .i64 W) := HT.out.cell 0
              have kT1 : v2.cell? ⟨w.heap.size + 1, 1, none⟩ = some (.int .i64 H) := HT.out.cell 1
              go_wp2_with fail
              refine (alive72 _).mono ?_
              rintro e v3 ⟨rfl, hb⟩
              clear kS0 kS1 kT0 kT1
              have HS := Lib.hid (Blk.next (w := v2) HS.out hb)
              have HT := Lib.hid (Blk.next (w := v2) HT.out hb)
              have EE := Lib.hid (EE.out.trans (hb.mono EE.out.size))
              clear hb
              have kS0 : v3.cell? ⟨w.heap.size, 0, none⟩ = some (.int .i64 p) := HS.out.cell 0
              have kS1 : v3.cell? ⟨w.heap.size, 1, none⟩ = some (.int .i64 q) := HS.out.cell 1
              have kT0 : v3.cell? ⟨w.heap.size + 1, 0, none⟩ = some (.int .i64 W) := HT.out.cell 0
              have kT1 : v3.cell? ⟨w.heap.size + 1, 1, none⟩ = some (.int .i64 H) := HT.out.cell 1
              go_wp2_with fail
              go_ret
              exact ⟨by first | rfl | (simp; done), EE.out⟩
            · have hpd : decide (p < q) = false := decide_eq_false hpq
              go_wp2_with fail
              have sK : ∀ X, Blk X (w.heap.size) 24 #[.int .i64 p, .int .i64 q] → (fun X => X.cell? ⟨w.heap.size, 0, none⟩ = some (.int .i64 p) ∧ X.cell? ⟨w.heap.size, 1, none⟩ = some (.int .i64 q)) X := fun X hS => ⟨hS.cell 0, hS.cell 1⟩
              have LS0 := Lib.hid (HS.out.drew)
              have LT0 := Lib.hid (HT.out.drew)
              have E0 := Lib.hid (EE.out.drew)
              clear kS0 kS1 kT0 kT1
              refine wp_region_held_drew (S := (fun X => X.cell? ⟨w.heap.size, 0, none⟩ = some (.int .i64 p) ∧ X.cell? ⟨w.heap.size, 1, none⟩ = some (.int .i64 q))) (by kernel_rfl) (sK _ LS0.out) (fun hHeld => ?_)
              clear hHeld
              refine wpAnyH_take (i := 0) (v := ?_) rfl (by kernel_rfl) (by kernel_rfl) (by kernel_rfl) (fun _ _ _ h => h) (Or.inl ⟨by rfl, ?_⟩) (sK _ LS0.out) ?_
              rotate_left
              · (intro wS hSw; (try dsimp only at hSw); go_simp; try with_reducible rfl)
              simp only [Act.put, List.getElem_toArray, List.getElem_cons_zero, List.getElem_cons_succ, List.setIfInBounds_toArray, List.set_cons_zero, List.set_cons_succ]
              refine wpAnyH_take (i := 1) (v := ?_) rfl (by kernel_rfl) (by kernel_rfl) (by kernel_rfl) (fun _ _ _ h => h) (Or.inl ⟨by rfl, ?_⟩) (sK _ LS0.out) ?_
              rotate_left
              · (intro wS hSw; (try dsimp only at hSw); go_simp; try with_reducible rfl)
              simp only [Act.put, List.getElem_toArray, List.getElem_cons_zero, List.getElem_cons_succ, List.setIfInBounds_toArray, List.set_cons_zero, List.set_cons_succ]
              refine wpAnyH_take (i := 2) (v := ?_) rfl (by kernel_rfl) (by kernel_rfl) (by kernel_rfl) (fun _ _ _ h => h) (Or.inl ⟨by rfl, ?_⟩) (sK _ LS0.out) ?_
              rotate_left
              · (intro wS hSw; (try dsimp only at hSw); go_simp; try with_reducible rfl)
              simp only [Act.put, List.getElem_toArray, List.getElem_cons_zero, List.getElem_cons_succ, List.setIfInBounds_toArray, List.set_cons_zero, List.set_cons_succ]
              refine wpAnyH_take (i := 3) (v := ?_) rfl (by kernel_rfl) (by kernel_rfl) (by kernel_rfl) (fun _ _ _ h => h) (Or.inl ⟨by rfl, ?_⟩) (sK _ LS0.out) ?_
              rotate_left
              · (intro wS hSw; (try dsimp only at hSw); go_simp; try with_reducible rfl)
              simp only [Act.put, List.getElem_toArray, List.getElem_cons_zero, List.getElem_cons_succ, List.setIfInBounds_toArray, List.set_cons_zero, List.set_cons_succ]
              refine wpAnyH_take (i := 4) (v := ?_) rfl (by kernel_rfl) (by kernel_rfl) (by kernel_rfl) (fun _ _ _ h => h) (Or.inl ⟨by rfl, ?_⟩) (sK _ LS0.out) ?_
              rotate_left
              · (intro wS hSw; (try dsimp only at hSw); go_simp; try with_reducible rfl)
              simp only [Act.put, List.getElem_toArray, List.getElem_cons_zero, List.getElem_cons_succ, List.setIfInBounds_toArray, List.set_cons_zero, List.set_cons_succ]
              refine wpAnyH_take (i := 5) (v := ?_) rfl (by kernel_rfl) (by kernel_rfl) (by kernel_rfl) (fun _ _ _ h => h) (Or.inl ⟨by rfl, ?_⟩) (sK _ LS0.out) ?_
              rotate_left
              · (intro wS hSw; (try dsimp only at hSw); go_simp; try with_reducible rfl)
              simp only [Act.put, List.getElem_toArray, List.getElem_cons_zero, List.getElem_cons_succ, List.setIfInBounds_toArray, List.set_cons_zero, List.set_cons_succ]
              refine wpAnyH_take (i := 6) (v := undef) rfl (by kernel_rfl) (by kernel_rfl) (by kernel_rfl) (fun _ _ _ h => h) (Or.inr ⟨by kernel_rfl, rfl⟩) (sK _ LS0.out) ?_
              simp only [Act.put, List.getElem_toArray, List.getElem_cons_zero, List.getElem_cons_succ, List.setIfInBounds_toArray, List.set_cons_zero, List.set_cons_succ]
              refine wpAnyH_take (i := 7) (v := undef) rfl (by kernel_rfl) (by kernel_rfl) (by kernel_rfl) (fun _ _ _ h => h) (Or.inr ⟨by kernel_rfl, rfl⟩) (sK _ LS0.out) ?_
              simp only [Act.put, List.getElem_toArray, List.getElem_cons_zero, List.getElem_cons_succ, List.setIfInBounds_toArray, List.set_cons_zero, List.set_cons_succ]
              refine wpAnyH_take (i := 8) (v := undef) rfl (by kernel_rfl) (by kernel_rfl) (by kernel_rfl) (fun _ _ _ h => h) (Or.inr ⟨by kernel_rfl, rfl⟩) (sK _ LS0.out) ?_
              simp only [Act.put, List.getElem_toArray, List.getElem_cons_zero, List.getElem_cons_succ, List.setIfInBounds_toArray, List.set_cons_zero, List.set_cons_succ]
              refine wpAnyH_take (i := 9) (v := undef) rfl (by kernel_rfl) (by kernel_rfl) (by kernel_rfl) (fun _ _ _ h => h) (Or.inr ⟨by kernel_rfl, rfl⟩) (sK _ LS0.out) ?_
              simp only [Act.put, List.getElem_toArray, List.getElem_cons_zero, List.getElem_cons_succ, List.setIfInBounds_toArray, List.set_cons_zero, List.set_cons_succ]
              refine wpAnyH_take (i := 10) (v := undef) rfl (by kernel_rfl) (by kernel_rfl) (by kernel_rfl) (fun _ _ _ h => h) (Or.inr ⟨by kernel_rfl, rfl⟩) (sK _ LS0.out) ?_
              simp only [Act.put, List.getElem_toArray, List.getElem_cons_zero, List.getElem_cons_succ, List.setIfInBounds_toArray, List.set_cons_zero, List.set_cons_succ]
              refine wpAnyH_take (i := 11) (v := undef) rfl (by kernel_rfl) (by kernel_rfl) (by kernel_rfl) (fun _ _ _ h => h) (Or.inr ⟨by kernel_rfl, rfl⟩) (sK _ LS0.out) ?_
              simp only [Act.put, List.getElem_toArray, List.getElem_cons_zero, List.getElem_cons_succ, List.setIfInBounds_toArray, List.set_cons_zero, List.set_cons_succ]
              refine wpAnyH_take (i := 12) (v := undef) rfl (by kernel_rfl) (by kernel_rfl) (by kernel_rfl) (fun _ _ _ h => h) (Or.inr ⟨by kernel_rfl, rfl⟩) (sK _ LS0.out) ?_
              simp only [Act.put, List.getElem_toArray, List.getElem_cons_zero, List.getElem_cons_succ, List.setIfInBounds_toArray, List.set_cons_zero, List.set_cons_succ]
              refine wpAnyH_take (i := 13) (v := ?_) rfl (by kernel_rfl) (by kernel_rfl) (by kernel_rfl) (fun _ _ _ h => h) (Or.inl ⟨by rfl, ?_⟩) (sK _ LS0.out) ?_
              rotate_left
              · (intro wS hSw; (try dsimp only at hSw); go_simp; try with_reducible rfl)
              simp only [Act.put, List.getElem_toArray, List.getElem_cons_zero, List.getElem_cons_succ, List.setIfInBounds_toArray, List.set_cons_zero, List.set_cons_succ]
              refine wpAnyH_done (by kernel_rfl) ?_ _
              have HS := LS0
              have HT := LT0
              have EE := E0
              have kS0 : v1.drew.cell? ⟨w.heap.size, 0, none⟩ = some (.int .i64 p) := HS.out.cell 0
              have kS1 : v1.drew.cell? ⟨w.heap.size, 1, none⟩ = some (.int .i64 q) := HS.out.cell 1
              have kT0 : v1.drew.cell? ⟨w.heap.size + 1, 0, none⟩ = some (.int .i64 W) := HT.out.cell 0
              have kT1 : v1.drew.cell? ⟨w.heap.size + 1, 1, none⟩ = some (.int .i64 H) := HT.out.cell 1
              go_wp2_with fail
              refine (AB.out _).mono ?_
              rintro e v2 ⟨rfl, hk⟩
              have hb : Below v1.drew.heap.size v1.drew v2 := by rw [← hk]; exact Below.refl _ _
              clear hk
              clear kS0 kS1 kT0 kT1
              have HS := Lib.hid (Blk.next (w := v1.drew) HS.out hb)
              have HT := Lib.hid (Blk.next (w := v1.drew) HT.out hb)
              have EE := Lib.hid (EE.out.trans (hb.mono EE.out.size))
              clear hb
              have kS0 : v2.cell? ⟨w.heap.size, 0, none⟩ = some (.int .i64 p) := HS.out.cell 0
              have kS1 : v2.cell? ⟨w.heap.size, 1, none⟩ = some (.int .i64 q) := HS.out.cell 1
              have kT0 : v2.cell? ⟨w.heap.size + 1, 0, none⟩ = some (.int .i64 W) := HT.out.cell 0
              have kT1 : v2.cell? ⟨w.heap.size + 1, 1, none⟩ = some (.int .i64 H) := HT.out.cell 1
              go_wp2_with fail
              refine (alive72 _).mono ?_
              rintro e v3 ⟨rfl, hb⟩
              clear kS0 kS1 kT0 kT1
              have HS := Lib.hid (Blk.next (w := v2) HS.out hb)
              have HT := Lib.hid (Blk.next (w := v2) HT.out hb)
              have EE := Lib.hid (EE.out.trans (hb.mono EE.out.size))
              clear hb
              have kS0 : v3.cell? ⟨w.heap.size, 0, none⟩ = some (.int .i64 p) := HS.out.cell 0
              have kS1 : v3.cell? ⟨w.heap.size, 1, none⟩ = some (.int .i64 q) := HS.out.cell 1
              have kT0 : v3.cell? ⟨w.heap.size + 1, 0, none⟩ = some (.int .i64 W) := HT.out.cell 0
              have kT1 : v3.cell? ⟨w.heap.size + 1, 1, none⟩ = some (.int .i64 H) := HT.out.cell 1
              go_wp2_with fail
              go_ret
              exact ⟨by first | rfl | (simp; done), EE.out⟩
          · have AA := Lib.hid (fun w hr => all_any A c n z W H N w hr hn hw1 W1 hh0 H1 HNh.out (by omega) HTB.out)
            clear RWW MN LE h200
            by_cases hpq : p < q
            · have hpd : decide (p < q) = true := decide_eq_true hpq
              go_wp2_with fail
              have sK : ∀ X, Blk X (w.heap.size) 24 #[.int .i64 p, .int .i64 q] → (fun X => X.cell? ⟨w.heap.size, 0, none⟩ = some (.int .i64 p) ∧ X.cell? ⟨w.heap.size, 1, none⟩ = some (.int .i64 q)) X := fun X hS => ⟨hS.cell 0, hS.cell 1⟩
              have LS0 := Lib.hid (HS.out.drew)
              have LT0 := Lib.hid (HT.out.drew)
              have E0 := Lib.hid (EE.out.drew)
              clear kS0 kS1 kT0 kT1
              refine wp_region_held_drew (S := (fun X => X.cell? ⟨w.heap.size, 0, none⟩ = some (.int .i64 p) ∧ X.cell? ⟨w.heap.size, 1, none⟩ = some (.int .i64 q))) (by kernel_rfl) (sK _ LS0.out) (fun hHeld => ?_)
              clear hHeld
              refine wpAnyH_take (i := 0) (v := ?_) rfl (by kernel_rfl) (by kernel_rfl) (by kernel_rfl) (fun _ _ _ h => h) (Or.inl ⟨by rfl, ?_⟩) (sK _ LS0.out) ?_
              rotate_left
              · (intro wS hSw; (try dsimp only at hSw); go_simp; try with_reducible rfl)
              simp only [Act.put, List.getElem_toArray, List.getElem_cons_zero, List.getElem_cons_succ, List.setIfInBounds_toArray, List.set_cons_zero, List.set_cons_succ]
              refine wpAnyH_take (i := 1) (v := ?_) rfl (by kernel_rfl) (by kernel_rfl) (by kernel_rfl) (fun _ _ _ h => h) (Or.inl ⟨by rfl, ?_⟩) (sK _ LS0.out) ?_
              rotate_left
              · (intro wS hSw; (try dsimp only at hSw); go_simp; try with_reducible rfl)
              simp only [Act.put, List.getElem_toArray, List.getElem_cons_zero, List.getElem_cons_succ, List.setIfInBounds_toArray, List.set_cons_zero, List.set_cons_succ]
              refine wpAnyH_take (i := 2) (v := ?_) rfl (by kernel_rfl) (by kernel_rfl) (by kernel_rfl) (fun _ _ _ h => h) (Or.inl ⟨by rfl, ?_⟩) (sK _ LS0.out) ?_
              rotate_left
              · (intro wS hSw; (try dsimp only at hSw); go_simp; try with_reducible rfl)
              simp only [Act.put, List.getElem_toArray, List.getElem_cons_zero, List.getElem_cons_succ, List.setIfInBounds_toArray, List.set_cons_zero, List.set_cons_succ]
              refine wpAnyH_take (i := 3) (v := ?_) rfl (by kernel_rfl) (by kernel_rfl) (by kernel_rfl) (fun _ _ _ h => h) (Or.inl ⟨by rfl, ?_⟩) (sK _ LS0.out) ?_
              rotate_left
              · (intro wS hSw; (try dsimp only at hSw); go_simp; try with_reducible rfl)
              simp only [Act.put, List.getElem_toArray, List.getElem_cons_zero, List.getElem_cons_succ, List.setIfInBounds_toArray, List.set_cons_zero, List.set_cons_succ]
              refine wpAnyH_take (i := 4) (v := ?_) rfl (by kernel_rfl) (by kernel_rfl) (by kernel_rfl) (fun _ _ _ h => h) (Or.inl ⟨by rfl, ?_⟩) (sK _ LS0.out) ?_
              rotate_left
              · (intro wS hSw; (try dsimp only at hSw); go_simp; try with_reducible rfl)
              simp only [Act.put, List.getElem_toArray, List.getElem_cons_zero, List.getElem_cons_succ, List.setIfInBounds_toArray, List.set_cons_zero, List.set_cons_succ]
              refine wpAnyH_take (i := 5) (v := ?_) rfl (by kernel_rfl) (by kernel_rfl) (by kernel_rfl) (fun _ _ _ h => h) (Or.inl ⟨by rfl, ?_⟩) (sK _ LS0.out) ?_
              rotate_left
              · (intro wS hSw; (try dsimp only at hSw); go_simp; try with_reducible rfl)
              simp only [Act.put, List.getElem_toArray, List.getElem_cons_zero, List.getElem_cons_succ, List.setIfInBounds_toArray, List.set_cons_zero, List.set_cons_succ]
              refine wpAnyH_take (i := 6) (v := ?_) rfl (by kernel_rfl) (by kernel_rfl) (by kernel_rfl) (fun _ _ _ h => h) (Or.inl ⟨by rfl, ?_⟩) (sK _ LS0.out) ?_
              rotate_left
              · (intro wS hSw; (try dsimp only at hSw); go_simp; try with_reducible rfl)
              simp only [Act.put, List.getElem_toArray, List.getElem_cons_zero, List.getElem_cons_succ, List.setIfInBounds_toArray, List.set_cons_zero, List.set_cons_succ]
              refine wpAnyH_take (i := 7) (v := ?_) rfl (by kernel_rfl) (by kernel_rfl) (by kernel_rfl) (fun _ _ _ h => h) (Or.inl ⟨by rfl, ?_⟩) (sK _ LS0.out) ?_
              rotate_left
              · (intro wS hSw; (try dsimp only at hSw); go_simp; try with_reducible rfl)
              simp only [Act.put, List.getElem_toArray, List.getElem_cons_zero, List.getElem_cons_succ, List.setIfInBounds_toArray, List.set_cons_zero, List.set_cons_succ]
              refine wpAnyH_take (i := 9) (v := ?_) rfl (by kernel_rfl) (by kernel_rfl) (by kernel_rfl) (fun _ _ _ h => h) (Or.inl ⟨by rfl, ?_⟩) (sK _ LS0.out) ?_
              rotate_left
              · (intro wS hSw; (try dsimp only at hSw); go_simp; try with_reducible rfl)
              simp only [Act.put, List.getElem_toArray, List.getElem_cons_zero, List.getElem_cons_succ, List.setIfInBounds_toArray, List.set_cons_zero, List.set_cons_succ]
              refine wpAnyH_take (i := 10) (v := ?_) rfl (by kernel_rfl) (by kernel_rfl) (by kernel_rfl) (fun _ _ _ h => h) (Or.inl ⟨by rfl, ?_⟩) (sK _ LS0.out) ?_
              rotate_left
              · (intro wS hSw; (try dsimp only at hSw); go_simp; try with_reducible rfl)
              simp only [Act.put, List.getElem_toArray, List.getElem_cons_zero, List.getElem_cons_succ, List.setIfInBounds_toArray, List.set_cons_zero, List.set_cons_succ]
              refine wpAnyH_ready (rs := [8]) (by kernel_rfl) (by simp) ?_
              refine AllReadyH.cons rfl (fun K hK => ?_) AllReadyH.nil
              go_simp
              refine (OF.out _ (HRd.out.kept E0.out)).mono ?_
              rintro e r1 ⟨rfl, hb⟩
              have LS1 := Lib.hid (LS0.out.next hb)
              have LT1 := Lib.hid (LT0.out.next hb)
              have E1 := Lib.hid (E0.out.trans (hb.mono E0.out.size))
              clear hb
              go_wp2_with fail
              refine hK.out _ _ (sK _ LS1.out) (fun hHeld => ?_)
              clear hK K hHeld
              try simp only [Act.put, List.getElem_toArray, List.getElem_cons_zero, List.getElem_cons_succ, List.setIfInBounds_toArray, List.set_cons_zero, List.set_cons_succ]
              refine wpAnyH_ready (rs := [11]) (by kernel_rfl) (by simp) ?_
              refine AllReadyH.cons rfl (fun K hK => ?_) AllReadyH.nil
              go_simp
              refine (RW.out _ (HRd.out.kept E1.out)).mono ?_
              rintro e r2 ⟨rfl, hb⟩
              have LS2 := Lib.hid (LS1.out.next hb)
              have LT2 := Lib.hid (LT1.out.next hb)
              have E2 := Lib.hid (E1.out.trans (hb.mono E1.out.size))
              clear hb
              go_wp2_with fail
              refine hK.out _ _ (sK _ LS2.out) (fun hHeld => ?_)
              clear hK K hHeld
              try simp only [Act.put, List.getElem_toArray, List.getElem_cons_zero, List.getElem_cons_succ, List.setIfInBounds_toArray, List.set_cons_zero, List.set_cons_succ]
              refine wpAnyH_take (i := 12) (v := ?_) rfl (by kernel_rfl) (by kernel_rfl) (by kernel_rfl) (fun _ _ _ h => h) (Or.inl ⟨by rfl, ?_⟩) (sK _ LS2.out) ?_
              rotate_left
              · (intro wS hSw; (try dsimp only at hSw); go_simp; try with_reducible rfl)
              simp only [Act.put, List.getElem_toArray, List.getElem_cons_zero, List.getElem_cons_succ, List.setIfInBounds_toArray, List.set_cons_zero, List.set_cons_succ]
              refine wpAnyH_take (i := 13) (v := ?_) rfl (by kernel_rfl) (by kernel_rfl) (by kernel_rfl) (fun _ _ _ h => h) (Or.inl ⟨by rfl, ?_⟩) (sK _ LS2.out) ?_
              rotate_left
              · (intro wS hSw; (try dsimp only at hSw); go_simp; try with_reducible rfl)
              simp only [Act.put, List.getElem_toArray, List.getElem_cons_zero, List.getElem_cons_succ, List.setIfInBounds_toArray, List.set_cons_zero, List.set_cons_succ]
              refine wpAnyH_done (by kernel_rfl) ?_ _
              have HS := LS2
              have HT := LT2
              have EE := E2
              have kS0 : r2.cell? ⟨w.heap.size, 0, none⟩ = some (.int .i64 p) := HS.out.cell 0
              have kS1 : r2.cell? ⟨w.heap.size, 1, none⟩ = some (.int .i64 q) := HS.out.cell 1
              have kT0 : r2.cell? ⟨w.heap.size + 1, 0, none⟩ = some (.int .i64 W) := HT.out.cell 0
              have kT1 : r2.cell? ⟨w.heap.size + 1, 1, none⟩ = some (.int .i64 H) := HT.out.cell 1
              go_wp2_with fail
              refine (AA.out _ (HRd.out.kept EE.out)).mono ?_
              rintro e v2 ⟨GA, gc, rfl, hgc, hRd, hb⟩
              clear hRd
              clear kS0 kS1 kT0 kT1
              have HS := Lib.hid (Blk.next (w := r2) HS.out hb)
              have HT := Lib.hid (Blk.next (w := r2) HT.out hb)
              have EE := Lib.hid (EE.out.trans (hb.mono EE.out.size))
              clear hb
              have kS0 : v2.cell? ⟨w.heap.size, 0, none⟩ = some (.int .i64 p) := HS.out.cell 0
              have kS1 : v2.cell? ⟨w.heap.size, 1, none⟩ = some (.int .i64 q) := HS.out.cell 1
              have kT0 : v2.cell? ⟨w.heap.size + 1, 0, none⟩ = some (.int .i64 W) := HT.out.cell 0
              have kT1 : v2.cell? ⟨w.heap.size + 1, 1, none⟩ = some (.int .i64 H) := HT.out.cell 1
              go_wp2_with fail
              refine (alive72 _).mono ?_
              rintro e v3 ⟨rfl, hb⟩
              clear kS0 kS1 kT0 kT1
              have HS := Lib.hid (Blk.next (w := v2) HS.out hb)
              have HT := Lib.hid (Blk.next (w := v2) HT.out hb)
              have EE := Lib.hid (EE.out.trans (hb.mono EE.out.size))
              clear hb
              have kS0 : v3.cell? ⟨w.heap.size, 0, none⟩ = some (.int .i64 p) := HS.out.cell 0
              have kS1 : v3.cell? ⟨w.heap.size, 1, none⟩ = some (.int .i64 q) := HS.out.cell 1
              have kT0 : v3.cell? ⟨w.heap.size + 1, 0, none⟩ = some (.int .i64 W) := HT.out.cell 0
              have kT1 : v3.cell? ⟨w.heap.size + 1, 1, none⟩ = some (.int .i64 H) := HT.out.cell 1
              go_wp2_with fail
              go_ret
              exact ⟨by first | rfl | (simp; done), EE.out⟩
            · have hpd : decide (p < q) = false := decide_eq_false hpq
              go_wp2_with fail
              have sK : ∀ X, Blk X (w.heap.size) 24 #[.int .i64 p, .int .i64 q] → (fun X => X.cell? ⟨w.heap.size, 0, none⟩ = some (.int .i64 p) ∧ X.cell? ⟨w.heap.size, 1, none⟩ = some (.int .i64 q)) X := fun X hS => ⟨hS.cell 0, hS.cell 1⟩
              have LS0 := Lib.hid (HS.out.drew)
              have LT0 := Lib.hid (HT.out.drew)
              have E0 := Lib.hid (EE.out.drew)
              clear kS0 kS1 kT0 kT1
              refine wp_region_held_drew (S := (fun X => X.cell? ⟨w.heap.size, 0, none⟩ = some (.int .i64 p) ∧ X.cell? ⟨w.heap.size, 1, none⟩ = some (.int .i64 q))) (by kernel_rfl) (sK _ LS0.out) (fun hHeld => ?_)
              clear hHeld
              refine wpAnyH_take (i := 0) (v := ?_) rfl (by kernel_rfl) (by kernel_rfl) (by kernel_rfl) (fun _ _ _ h => h) (Or.inl ⟨by rfl, ?_⟩) (sK _ LS0.out) ?_
              rotate_left
              · (intro wS hSw; (try dsimp only at hSw); go_simp; try with_reducible rfl)
              simp only [Act.put, List.getElem_toArray, List.getElem_cons_zero, List.getElem_cons_succ, List.setIfInBounds_toArray, List.set_cons_zero, List.set_cons_succ]
              refine wpAnyH_take (i := 1) (v := ?_) rfl (by kernel_rfl) (by kernel_rfl) (by kernel_rfl) (fun _ _ _ h => h) (Or.inl ⟨by rfl, ?_⟩) (sK _ LS0.out) ?_
              rotate_left
              · (intro wS hSw; (try dsimp only at hSw); go_simp; try with_reducible rfl)
              simp only [Act.put, List.getElem_toArray, List.getElem_cons_zero, List.getElem_cons_succ, List.setIfInBounds_toArray, List.set_cons_zero, List.set_cons_succ]
              refine wpAnyH_take (i := 2) (v := ?_) rfl (by kernel_rfl) (by kernel_rfl) (by kernel_rfl) (fun _ _ _ h => h) (Or.inl ⟨by rfl, ?_⟩) (sK _ LS0.out) ?_
              rotate_left
              · (intro wS hSw; (try dsimp only at hSw); go_simp; try with_reducible rfl)
              simp only [Act.put, List.getElem_toArray, List.getElem_cons_zero, List.getElem_cons_succ, List.setIfInBounds_toArray, List.set_cons_zero, List.set_cons_succ]
              refine wpAnyH_take (i := 3) (v := ?_) rfl (by kernel_rfl) (by kernel_rfl) (by kernel_rfl) (fun _ _ _ h => h) (Or.inl ⟨by rfl, ?_⟩) (sK _ LS0.out) ?_
              rotate_left
              · (intro wS hSw; (try dsimp only at hSw); go_simp; try with_reducible rfl)
              simp only [Act.put, List.getElem_toArray, List.getElem_cons_zero, List.getElem_cons_succ, List.setIfInBounds_toArray, List.set_cons_zero, List.set_cons_succ]
              refine wpAnyH_take (i := 4) (v := ?_) rfl (by kernel_rfl) (by kernel_rfl) (by kernel_rfl) (fun _ _ _ h => h) (Or.inl ⟨by rfl, ?_⟩) (sK _ LS0.out) ?_
              rotate_left
              · (intro wS hSw; (try dsimp only at hSw); go_simp; try with_reducible rfl)
              simp only [Act.put, List.getElem_toArray, List.getElem_cons_zero, List.getElem_cons_succ, List.setIfInBounds_toArray, List.set_cons_zero, List.set_cons_succ]
              refine wpAnyH_take (i := 5) (v := ?_) rfl (by kernel_rfl) (by kernel_rfl) (by kernel_rfl) (fun _ _ _ h => h) (Or.inl ⟨by rfl, ?_⟩) (sK _ LS0.out) ?_
              rotate_left
              · (intro wS hSw; (try dsimp only at hSw); go_simp; try with_reducible rfl)
              simp only [Act.put, List.getElem_toArray, List.getElem_cons_zero, List.getElem_cons_succ, List.setIfInBounds_toArray, List.set_cons_zero, List.set_cons_succ]
              refine wpAnyH_take (i := 6) (v := undef) rfl (by kernel_rfl) (by kernel_rfl) (by kernel_rfl) (fun _ _ _ h => h) (Or.inr ⟨by kernel_rfl, rfl⟩) (sK _ LS0.out) ?_
              simp only [Act.put, List.getElem_toArray, List.getElem_cons_zero, List.getElem_cons_succ, List.setIfInBounds_toArray, List.set_cons_zero, List.set_cons_succ]
              refine wpAnyH_take (i := 7) (v := undef) rfl (by kernel_rfl) (by kernel_rfl) (by kernel_rfl) (fun _ _ _ h => h) (Or.inr ⟨by kernel_rfl, rfl⟩) (sK _ LS0.out) ?_
              simp only [Act.put, List.getElem_toArray, List.getElem_cons_zero, List.getElem_cons_succ, List.setIfInBounds_toArray, List.set_cons_zero, List.set_cons_succ]
              refine wpAnyH_take (i := 8) (v := undef) rfl (by kernel_rfl) (by kernel_rfl) (by kernel_rfl) (fun _ _ _ h => h) (Or.inr ⟨by kernel_rfl, rfl⟩) (sK _ LS0.out) ?_
              simp only [Act.put, List.getElem_toArray, List.getElem_cons_zero, List.getElem_cons_succ, List.setIfInBounds_toArray, List.set_cons_zero, List.set_cons_succ]
              refine wpAnyH_take (i := 9) (v := undef) rfl (by kernel_rfl) (by kernel_rfl) (by kernel_rfl) (fun _ _ _ h => h) (Or.inr ⟨by kernel_rfl, rfl⟩) (sK _ LS0.out) ?_
              simp only [Act.put, List.getElem_toArray, List.getElem_cons_zero, List.getElem_cons_succ, List.setIfInBounds_toArray, List.set_cons_zero, List.set_cons_succ]
              refine wpAnyH_take (i := 10) (v := undef) rfl (by kernel_rfl) (by kernel_rfl) (by kernel_rfl) (fun _ _ _ h => h) (Or.inr ⟨by kernel_rfl, rfl⟩) (sK _ LS0.out) ?_
              simp only [Act.put, List.getElem_toArray, List.getElem_cons_zero, List.getElem_cons_succ, List.setIfInBounds_toArray, List.set_cons_zero, List.set_cons_succ]
              refine wpAnyH_take (i := 11) (v := undef) rfl (by kernel_rfl) (by kernel_rfl) (by kernel_rfl) (fun _ _ _ h => h) (Or.inr ⟨by kernel_rfl, rfl⟩) (sK _ LS0.out) ?_
              simp only [Act.put, List.getElem_toArray, List.getElem_cons_zero, List.getElem_cons_succ, List.setIfInBounds_toArray, List.set_cons_zero, List.set_cons_succ]
              refine wpAnyH_take (i := 12) (v := undef) rfl (by kernel_rfl) (by kernel_rfl) (by kernel_rfl) (fun _ _ _ h => h) (Or.inr ⟨by kernel_rfl, rfl⟩) (sK _ LS0.out) ?_
              simp only [Act.put, List.getElem_toArray, List.getElem_cons_zero, List.getElem_cons_succ, List.setIfInBounds_toArray, List.set_cons_zero, List.set_cons_succ]
              refine wpAnyH_take (i := 13) (v := ?_) rfl (by kernel_rfl) (by kernel_rfl) (by kernel_rfl) (fun _ _ _ h => h) (Or.inl ⟨by rfl, ?_⟩) (sK _ LS0.out) ?_
              rotate_left
              · (intro wS hSw; (try dsimp only at hSw); go_simp; try with_reducible rfl)
              simp only [Act.put, List.getElem_toArray, List.getElem_cons_zero, List.getElem_cons_succ, List.setIfInBounds_toArray, List.set_cons_zero, List.set_cons_succ]
              refine wpAnyH_done (by kernel_rfl) ?_ _
              have HS := LS0
              have HT := LT0
              have EE := E0
              have kS0 : v1.drew.cell? ⟨w.heap.size, 0, none⟩ = some (.int .i64 p) := HS.out.cell 0
              have kS1 : v1.drew.cell? ⟨w.heap.size, 1, none⟩ = some (.int .i64 q) := HS.out.cell 1
              have kT0 : v1.drew.cell? ⟨w.heap.size + 1, 0, none⟩ = some (.int .i64 W) := HT.out.cell 0
              have kT1 : v1.drew.cell? ⟨w.heap.size + 1, 1, none⟩ = some (.int .i64 H) := HT.out.cell 1
              go_wp2_with fail
              refine (AA.out _ (HRd.out.kept EE.out)).mono ?_
              rintro e v2 ⟨GA, gc, rfl, hgc, hRd, hb⟩
              clear hRd
              clear kS0 kS1 kT0 kT1
              have HS := Lib.hid (Blk.next (w := v1.drew) HS.out hb)
              have HT := Lib.hid (Blk.next (w := v1.drew) HT.out hb)
              have EE := Lib.hid (EE.out.trans (hb.mono EE.out.size))
              clear hb
              have kS0 : v2.cell? ⟨w.heap.size, 0, none⟩ = some (.int .i64 p) := HS.out.cell 0
              have kS1 : v2.cell? ⟨w.heap.size, 1, none⟩ = some (.int .i64 q) := HS.out.cell 1
              have kT0 : v2.cell? ⟨w.heap.size + 1, 0, none⟩ = some (.int .i64 W) := HT.out.cell 0
              have kT1 : v2.cell? ⟨w.heap.size + 1, 1, none⟩ = some (.int .i64 H) := HT.out.cell 1
              go_wp2_with fail
              refine (alive72 _).mono ?_
              rintro e v3 ⟨rfl, hb⟩
              clear kS0 kS1 kT0 kT1
              have HS := Lib.hid (Blk.next (w := v2) HS.out hb)
              have HT := Lib.hid (Blk.next (w := v2) HT.out hb)
              have EE := Lib.hid (EE.out.trans (hb.mono EE.out.size))
              clear hb
              have kS0 : v3.cell? ⟨w.heap.size, 0, none⟩ = some (.int .i64 p) := HS.out.cell 0
              have kS1 : v3.cell? ⟨w.heap.size, 1, none⟩ = some (.int .i64 q) := HS.out.cell 1
              have kT0 : v3.cell? ⟨w.heap.size + 1, 0, none⟩ = some (.int .i64 W) := HT.out.cell 0
              have kT1 : v3.cell? ⟨w.heap.size + 1, 1, none⟩ = some (.int .i64 H) := HT.out.cell 1
              go_wp2_with fail
              go_ret
              exact ⟨by first | rfl | (simp; done), EE.out⟩
          · have AA := Lib.hid (fun w hr => all_any A c n z W H N w hr hn hw1 W1 hh0 H1 HNh.out (by omega) HTB.out)
            have MT := Lib.hid (fun i (hi : i < N) => many_lt hw1 hh0 HNh.out hi)
            have hN2 : N ≤ 201 := by omega
            have LEh := Lib.hid LE
            clear MN LE h200
            by_cases hpq : p < q
            · have hpd : decide (p < q) = true := decide_eq_true hpq
              go_wp2_with fail
              have sK : ∀ X, Blk X (w.heap.size) 24 #[.int .i64 p, .int .i64 q] → (fun X => X.cell? ⟨w.heap.size, 0, none⟩ = some (.int .i64 p) ∧ X.cell? ⟨w.heap.size, 1, none⟩ = some (.int .i64 q)) X := fun X hS => ⟨hS.cell 0, hS.cell 1⟩
              have LS0 := Lib.hid (HS.out.drew)
              have LT0 := Lib.hid (HT.out.drew)
              have E0 := Lib.hid (EE.out.drew)
              clear kS0 kS1 kT0 kT1
              refine wp_region_held_drew (S := (fun X => X.cell? ⟨w.heap.size, 0, none⟩ = some (.int .i64 p) ∧ X.cell? ⟨w.heap.size, 1, none⟩ = some (.int .i64 q))) (by kernel_rfl) (sK _ LS0.out) (fun hHeld => ?_)
              clear hHeld
              refine wpAnyH_take (i := 0) (v := ?_) rfl (by kernel_rfl) (by kernel_rfl) (by kernel_rfl) (fun _ _ _ h => h) (Or.inl ⟨by rfl, ?_⟩) (sK _ LS0.out) ?_
              rotate_left
              · (intro wS hSw; (try dsimp only at hSw); go_simp; try with_reducible rfl)
              simp only [Act.put, List.getElem_toArray, List.getElem_cons_zero, List.getElem_cons_succ, List.setIfInBounds_toArray, List.set_cons_zero, List.set_cons_succ]
              refine wpAnyH_take (i := 1) (v := ?_) rfl (by kernel_rfl) (by kernel_rfl) (by kernel_rfl) (fun _ _ _ h => h) (Or.inl ⟨by rfl, ?_⟩) (sK _ LS0.out) ?_
              rotate_left
              · (intro wS hSw; (try dsimp only at hSw); go_simp; try with_reducible rfl)
              simp only [Act.put, List.getElem_toArray, List.getElem_cons_zero, List.getElem_cons_succ, List.setIfInBounds_toArray, List.set_cons_zero, List.set_cons_succ]
              refine wpAnyH_take (i := 2) (v := ?_) rfl (by kernel_rfl) (by kernel_rfl) (by kernel_rfl) (fun _ _ _ h => h) (Or.inl ⟨by rfl, ?_⟩) (sK _ LS0.out) ?_
              rotate_left
              · (intro wS hSw; (try dsimp only at hSw); go_simp; try with_reducible rfl)
              simp only [Act.put, List.getElem_toArray, List.getElem_cons_zero, List.getElem_cons_succ, List.setIfInBounds_toArray, List.set_cons_zero, List.set_cons_succ]
              refine wpAnyH_take (i := 3) (v := ?_) rfl (by kernel_rfl) (by kernel_rfl) (by kernel_rfl) (fun _ _ _ h => h) (Or.inl ⟨by rfl, ?_⟩) (sK _ LS0.out) ?_
              rotate_left
              · (intro wS hSw; (try dsimp only at hSw); go_simp; try with_reducible rfl)
              simp only [Act.put, List.getElem_toArray, List.getElem_cons_zero, List.getElem_cons_succ, List.setIfInBounds_toArray, List.set_cons_zero, List.set_cons_succ]
              refine wpAnyH_take (i := 4) (v := ?_) rfl (by kernel_rfl) (by kernel_rfl) (by kernel_rfl) (fun _ _ _ h => h) (Or.inl ⟨by rfl, ?_⟩) (sK _ LS0.out) ?_
              rotate_left
              · (intro wS hSw; (try dsimp only at hSw); go_simp; try with_reducible rfl)
              simp only [Act.put, List.getElem_toArray, List.getElem_cons_zero, List.getElem_cons_succ, List.setIfInBounds_toArray, List.set_cons_zero, List.set_cons_succ]
              refine wpAnyH_take (i := 5) (v := ?_) rfl (by kernel_rfl) (by kernel_rfl) (by kernel_rfl) (fun _ _ _ h => h) (Or.inl ⟨by rfl, ?_⟩) (sK _ LS0.out) ?_
              rotate_left
              · (intro wS hSw; (try dsimp only at hSw); go_simp; try with_reducible rfl)
              simp only [Act.put, List.getElem_toArray, List.getElem_cons_zero, List.getElem_cons_succ, List.setIfInBounds_toArray, List.set_cons_zero, List.set_cons_succ]
              refine wpAnyH_take (i := 6) (v := ?_) rfl (by kernel_rfl) (by kernel_rfl) (by kernel_rfl) (fun _ _ _ h => h) (Or.inl ⟨by rfl, ?_⟩) (sK _ LS0.out) ?_
              rotate_left
              · (intro wS hSw; (try dsimp only at hSw); go_simp; try with_reducible rfl)
              simp only [Act.put, List.getElem_toArray, List.getElem_cons_zero, List.getElem_cons_succ, List.setIfInBounds_toArray, List.set_cons_zero, List.set_cons_succ]
              refine wpAnyH_take (i := 7) (v := ?_) rfl (by kernel_rfl) (by kernel_rfl) (by kernel_rfl) (fun _ _ _ h => h) (Or.inl ⟨by rfl, ?_⟩) (sK _ LS0.out) ?_
              rotate_left
              · (intro wS hSw; (try dsimp only at hSw); go_simp; try with_reducible rfl)
              simp only [Act.put, List.getElem_toArray, List.getElem_cons_zero, List.getElem_cons_succ, List.setIfInBounds_toArray, List.set_cons_zero, List.set_cons_succ]
              refine wpAnyH_take (i := 9) (v := ?_) rfl (by kernel_rfl) (by kernel_rfl) (by kernel_rfl) (fun _ _ _ h => h) (Or.inl ⟨by rfl, ?_⟩) (sK _ LS0.out) ?_
              rotate_left
              · (intro wS hSw; (try dsimp only at hSw); go_simp; try with_reducible rfl)
              simp only [Act.put, List.getElem_toArray, List.getElem_cons_zero, List.getElem_cons_succ, List.setIfInBounds_toArray, List.set_cons_zero, List.set_cons_succ]
              refine wpAnyH_take (i := 10) (v := ?_) rfl (by kernel_rfl) (by kernel_rfl) (by kernel_rfl) (fun _ _ _ h => h) (Or.inl ⟨by rfl, ?_⟩) (sK _ LS0.out) ?_
              rotate_left
              · (intro wS hSw; (try dsimp only at hSw); go_simp; try with_reducible rfl)
              simp only [Act.put, List.getElem_toArray, List.getElem_cons_zero, List.getElem_cons_succ, List.setIfInBounds_toArray, List.set_cons_zero, List.set_cons_succ]
              refine wpAnyH_ready (rs := [8]) (by kernel_rfl) (by simp) ?_
              refine AllReadyH.cons rfl (fun K hK => ?_) AllReadyH.nil
              go_simp
              refine (OF.out _ (HRd.out.kept E0.out)).mono ?_
              rintro e r1 ⟨rfl, hb⟩
              have LS1 := Lib.hid (LS0.out.next hb)
              have LT1 := Lib.hid (LT0.out.next hb)
              have E1 := Lib.hid (E0.out.trans (hb.mono E0.out.size))
              clear hb
              go_wp2_with fail
              refine hK.out _ _ (sK _ LS1.out) (fun hHeld => ?_)
              clear hK K hHeld
              try simp only [Act.put, List.getElem_toArray, List.getElem_cons_zero, List.getElem_cons_succ, List.setIfInBounds_toArray, List.set_cons_zero, List.set_cons_succ]
              refine wpAnyH_ready (rs := [11]) (by kernel_rfl) (by simp) ?_
              refine AllReadyH.cons rfl (fun K hK => ?_) AllReadyH.nil
              go_simp
              refine (RW.out _ (HRd.out.kept E1.out)).mono ?_
              rintro e r2 ⟨rfl, hb⟩
              have LS2 := Lib.hid (LS1.out.next hb)
              have LT2 := Lib.hid (LT1.out.next hb)
              have E2 := Lib.hid (E1.out.trans (hb.mono E1.out.size))
              clear hb
              go_wp2_with fail
              refine hK.out _ _ (sK _ LS2.out) (fun hHeld => ?_)
              clear hK K hHeld
              try simp only [Act.put, List.getElem_toArray, List.getElem_cons_zero, List.getElem_cons_succ, List.setIfInBounds_toArray, List.set_cons_zero, List.set_cons_succ]
              refine wpAnyH_take (i := 12) (v := ?_) rfl (by kernel_rfl) (by kernel_rfl) (by kernel_rfl) (fun _ _ _ h => h) (Or.inl ⟨by rfl, ?_⟩) (sK _ LS2.out) ?_
              rotate_left
              · (intro wS hSw; (try dsimp only at hSw); go_simp; try with_reducible rfl)
              simp only [Act.put, List.getElem_toArray, List.getElem_cons_zero, List.getElem_cons_succ, List.setIfInBounds_toArray, List.set_cons_zero, List.set_cons_succ]
              refine wpAnyH_take (i := 13) (v := ?_) rfl (by kernel_rfl) (by kernel_rfl) (by kernel_rfl) (fun _ _ _ h => h) (Or.inl ⟨by rfl, ?_⟩) (sK _ LS2.out) ?_
              rotate_left
              · (intro wS hSw; (try dsimp only at hSw); go_simp; try with_reducible rfl)
              simp only [Act.put, List.getElem_toArray, List.getElem_cons_zero, List.getElem_cons_succ, List.setIfInBounds_toArray, List.set_cons_zero, List.set_cons_succ]
              refine wpAnyH_done (by kernel_rfl) ?_ _
              have HS := LS2
              have HT := LT2
              have EE := E2
              have kS0 : r2.cell? ⟨w.heap.size, 0, none⟩ = some (.int .i64 p) := HS.out.cell 0
              have kS1 : r2.cell? ⟨w.heap.size, 1, none⟩ = some (.int .i64 q) := HS.out.cell 1
              have kT0 : r2.cell? ⟨w.heap.size + 1, 0, none⟩ = some (.int .i64 W) := HT.out.cell 0
              have kT1 : r2.cell? ⟨w.heap.size + 1, 1, none⟩ = some (.int .i64 H) := HT.out.cell 1
              go_wp2_with fail
              refine (AA.out _ (HRd.out.kept EE.out)).mono ?_
              rintro e v2 ⟨GA, gc, rfl, hgc, hRd, hb⟩
              have GRd := Lib.hid (rdZ_congr hRd (fun i j hi hj => wnR_eq hw1 hh0 HNh.out hi hj))
              clear hRd
              clear kS0 kS1 kT0 kT1
              have HS := Lib.hid (Blk.next (w := r2) HS.out hb)
              have HT := Lib.hid (Blk.next (w := r2) HT.out hb)
              have EE := Lib.hid (EE.out.trans (hb.mono EE.out.size))
              clear hb
              have kS0 : v2.cell? ⟨w.heap.size, 0, none⟩ = some (.int .i64 p) := HS.out.cell 0
              have kS1 : v2.cell? ⟨w.heap.size, 1, none⟩ = some (.int .i64 q) := HS.out.cell 1
              have kT0 : v2.cell? ⟨w.heap.size + 1, 0, none⟩ = some (.int .i64 W) := HT.out.cell 0
              have kT1 : v2.cell? ⟨w.heap.size + 1, 1, none⟩ = some (.int .i64 H) := HT.out.cell 1
              obtain ⟨i0, hi, hz0, hz1, hz2⟩ := info_parts rowInfo
              have WFR : Hid (∀ i j, i < N → j < 7 → (Lit.int .i64 (wnR z n W H i j)).wf = true) := Lib.hid (fun i j hi hj => by rw [← wnR_eq hw1 hh0 HNh.out hi hj]; exact winF_wf HTB.out hn hw1 hh0 H1 HNh.out (by omega) hi)
              have ENV := EE
              go_wp2_with fail
              clear hD hR
              go_loopw [11, 12, 13] (fun rv fv tv wr => ∃ (i : Nat) (F : Int), fv = .int .i64 F ∧ (i < N ∨ (i = 0 ∧ N = 0)) ∧ 0 ≤ F ∧ Hid (F = (i : Int) * W) ∧ Hid (wr.ownsRow v2.heap.size 28 7 rv i (rowM 7 (wnR z n W H) i)) ∧ Below v2.heap.size v2 wr) (fun _ fv _ _ => (H - intOf fv).toNat)
              case atStart => exact ⟨0, 0, rfl, by omega, by omega, Lib.hid (by simp), Lib.hid (World.ownsRow_nil _ _ _ _), Below.refl _ _⟩
              case round =>
                obtain ⟨i, F, rfl, hiN, hF0, HF, HO, hb⟩ := hrel
                obtain ⟨vg, vc, hv⟩ := ownM_slice HO.out
                subst hv
                have HBw := Lib.hid hb
                have GR2 := Lib.hid (GRd.out.kept hb)
                clear kS0 kS1 kT0 kT1
                have HS := Lib.hid (Blk.next (w := v2) HS.out hb)
                have HT := Lib.hid (Blk.next (w := v2) HT.out hb)
                have EE := Lib.hid (EE.out.trans (hb.mono EE.out.size))
                clear hb
                have kS0 : wr.cell? ⟨w.heap.size, 0, none⟩ = some (.int .i64 p) := HS.out.cell 0
                have kS1 : wr.cell? ⟨w.heap.size, 1, none⟩ = some (.int .i64 q) := HS.out.cell 1
                have kT0 : wr.cell? ⟨w.heap.size + 1, 0, none⟩ = some (.int .i64 W) := HT.out.cell 0
                have kT1 : wr.cell? ⟨w.heap.size + 1, 1, none⟩ = some (.int .i64 H) := HT.out.cell 1
                by_cases h : i < N
                · have hFH : F < H := by rw [HF.out]; exact MT.out i h
                  clear hiN
                  by_cases hlast : W < H - F
                  · have hT : toV W H i = F + W := by unfold toV; rw [← HF.out]; omega
                    have hi1 : i + 1 < N := by
                      rcases Nat.lt_or_ge (i + 1) N with c | c
                      · exact c
                      · exfalso
                        have h1 : (N : Int) * W ≤ ((i + 1 : Nat) : Int) * W := Int.mul_le_mul_of_nonneg_right (by omega) (by omega)
                        have h2 : ((i + 1 : Nat) : Int) * W = F + W := by rw [HF.out, Int.natCast_add, Int.add_mul]; simp
                        have h3 := LEh.out
                        omega
                    have HF1 : Hid (F + W = ((i + 1 : Nat) : Int) * W) := Lib.hid (by rw [HF.out, Int.natCast_add, Int.add_mul]; simp)
                    have hne : (F + W == H) = false := by rw [beq_eq_false_iff_ne]; omega
                    have hFW : F + W < H := by omega
                    have RWi := RWW.out i
                    rw [hT, ← HF.out] at RWi
                    have RWh := Lib.hid RWi
                    have RM : Hid (rowM 7 (wnR z n W H) i ++ [.int .i64 F, .int .i64 (F + W), .int .i64 (ofC F (F + W) z n), .int .i64 (ofI F (F + W) z n), .int .i64 (ofO F (F + W) z n), .int .i64 (ofW F (F + W) z n), .int .i64 (ofB F (F + W) z n)] = rowM 7 (wnR z n W H) (i + 1)) := Lib.hid (rowM_one (fun _ _ _ _ => rfl) (by
                      show [Value.int .i64 ((i : Int) * W), .int .i64 (toV W H i), .int .i64 (ofC ((i : Int) * W) (toV W H i) z n), .int .i64 (ofI ((i : Int) * W) (toV W H i) z n), .int .i64 (ofO ((i : Int) * W) (toV W H i) z n), .int .i64 (ofW ((i : Int) * W) (toV W H i) z n), .int .i64 (ofB ((i : Int) * W) (toV W H i) z n)] = _
                      rw [hT, ← HF.out]))
                    clear RWi hT
                    go_wp2_with fail
                    refine (RWh.out _ (HRd.out.kept EE.out)).mono ?_
                    rintro e v3 ⟨rfl, hb⟩
                    have HBn := Lib.hid (HBw.out.trans (hb.mono HBw.out.size))
                    have hown := ownM_below HO.out hb
                    have GR3 := Lib.hid (GR2.out.kept hb)
                    clear kS0 kS1 kT0 kT1
                    have HS := Lib.hid (Blk.next (w := wr) HS.out hb)
                    have HT := Lib.hid (Blk.next (w := wr) HT.out hb)
                    have EE := Lib.hid (EE.out.trans (hb.mono EE.out.size))
                    clear hb
                    have kS0 : v3.cell? ⟨w.heap.size, 0, none⟩ = some (.int .i64 p) := HS.out.cell 0
                    have kS1 : v3.cell? ⟨w.heap.size, 1, none⟩ = some (.int .i64 q) := HS.out.cell 1
                    have kT0 : v3.cell? ⟨w.heap.size + 1, 0, none⟩ = some (.int .i64 W) := HT.out.cell 0
                    have kT1 : v3.cell? ⟨w.heap.size + 1, 1, none⟩ = some (.int .i64 H) := HT.out.cell 1
                    have hown1 := hown.alloc (.cells #[.int .i64 F, .int .i64 (F + W), .int .i64 (ofC F (F + W) z n), .int .i64 (ofI F (F + W) z n), .int .i64 (ofO F (F + W) z n), .int .i64 (ofW F (F + W) z n), .int .i64 (ofB F (F + W) z n)] 28)
                    have hsz := HBn.out.size
                    go_wp2_with (at_builtin; (refine wpList_append_own_at _ rfl _ _ 30 rfl v2.heap.size 28 i0 (.agg #[.int .i64 0, .int .i64 0, .int .i64 0, .int .i64 0, .int .i64 0, .int .i64 0, .int .i64 0]) 7 56 Try.underlying30 hi hz0 hz1 hz2 rfl (by decide) _ _ _ rfl hown1 ⟨_, 0, none⟩ 1 1 [.int .i64 F, .int .i64 (F + W), .int .i64 (ofC F (F + W) z n), .int .i64 (ofI F (F + W) z n), .int .i64 (ofO F (F + W) z n), .int .i64 (ofW F (F + W) z n), .int .i64 (ofB F (F + W) z n)] rfl rfl (newsM_new (cs := #[.int .i64 F, .int .i64 (F + W), .int .i64 (ofC F (F + W) z n), .int .i64 (ofI F (F + W) z n), .int .i64 (ofO F (F + W) z n), .int .i64 (ofW F (F + W) z n), .int .i64 (ofB F (F + W) z n)])) (by intro u hu; simp at hu; rcases hu with rfl | rfl | rfl | rfl | rfl | rfl | rfl <;> rfl) (by unfold maxLen; omega) (by omega) (by simp; omega) ?_); intro v' w1 hown' hgrow _ hat)
                    rw [RM.out] at hown'
                    have hbv : Below v2.heap.size v2 w1 := by
                      refine (HBn.out.alloc HBn.out.size _).grown hgrow (by have := HBn.out.size; simp; omega) (fun g hg => ?_)
                      first | exact (hown1.lt g hg).1 | exact (hown1.lt g hg.symm).1
                    have HO1 := Lib.hid hown'
                    have HB1 := Lib.hid hbv
                    clear hown' hown1 hown hgrow hat hbv
                    go_wp2_with fail
                    go_roundw
                    case rel => first
                      | exact ⟨i + 1, F + W, by go_num, .inl hi1, by omega, HF1, HO1, HB1.out⟩
                      | exact ⟨_, _, _, _, _, _, _, _, _, _, _, _, _, _, _, _, _, _, _, _, _, _, _, _, _, _, _, _, _, ⟨i + 1, F + W, rfl, .inl hi1, by omega, HF1, HO1, HB1.out⟩, rfl⟩
                    case measure => simp [intOf]; omega
                  · have hT : toV W H i = H := by unfold toV; rw [← HF.out]; omega
                    have hi1 : i + 1 = N := by
                      rcases Nat.lt_or_ge (i + 1) N with c | c
                      · exfalso
                        have h1 := MT.out (i + 1) c
                        have h2 : ((i + 1 : Nat) : Int) * W = F + W := by rw [HF.out, Int.natCast_add, Int.add_mul]; simp
                        omega
                      · omega
                    have hHF : (H == H) = true := by simp
                    have RWi := RWW.out i
                    rw [hT, ← HF.out] at RWi
                    have RWh := Lib.hid RWi
                    have RM : Hid (rowM 7 (wnR z n W H) i ++ [.int .i64 F, .int .i64 (H), .int .i64 (ofC F (H) z n), .int .i64 (ofI F (H) z n), .int .i64 (ofO F (H) z n), .int .i64 (ofW F (H) z n), .int .i64 (ofB F (H) z n)] = rowM 7 (wnR z n W H) (i + 1)) := Lib.hid (rowM_one (fun _ _ _ _ => rfl) (by
                      show [Value.int .i64 ((i : Int) * W), .int .i64 (toV W H i), .int .i64 (ofC ((i : Int) * W) (toV W H i) z n), .int .i64 (ofI ((i : Int) * W) (toV W H i) z n), .int .i64 (ofO ((i : Int) * W) (toV W H i) z n), .int .i64 (ofW ((i : Int) * W) (toV W H i) z n), .int .i64 (ofB ((i : Int) * W) (toV W H i) z n)] = _
                      rw [hT, ← HF.out]))
                    clear RWi hT
                    go_wp2_with fail
                    refine (RWh.out _ (HRd.out.kept EE.out)).mono ?_
                    rintro e v3 ⟨rfl, hb⟩
                    have HBn := Lib.hid (HBw.out.trans (hb.mono HBw.out.size))
                    have hown := ownM_below HO.out hb
                    have GR3 := Lib.hid (GR2.out.kept hb)
                    clear kS0 kS1 kT0 kT1
                    have HS := Lib.hid (Blk.next (w := wr) HS.out hb)
                    have HT := Lib.hid (Blk.next (w := wr) HT.out hb)
                    have EE := Lib.hid (EE.out.trans (hb.mono EE.out.size))
                    clear hb
                    have kS0 : v3.cell? ⟨w.heap.size, 0, none⟩ = some (.int .i64 p) := HS.out.cell 0
                    have kS1 : v3.cell? ⟨w.heap.size, 1, none⟩ = some (.int .i64 q) := HS.out.cell 1
                    have kT0 : v3.cell? ⟨w.heap.size + 1, 0, none⟩ = some (.int .i64 W) := HT.out.cell 0
                    have kT1 : v3.cell? ⟨w.heap.size + 1, 1, none⟩ = some (.int .i64 H) := HT.out.cell 1
                    have hown1 := hown.alloc (.cells #[.int .i64 F, .int .i64 (H), .int .i64 (ofC F (H) z n), .int .i64 (ofI F (H) z n), .int .i64 (ofO F (H) z n), .int .i64 (ofW F (H) z n), .int .i64 (ofB F (H) z n)] 28)
                    have hsz := HBn.out.size
                    go_wp2_with (at_builtin; (refine wpList_append_own_at _ rfl _ _ 30 rfl v2.heap.size 28 i0 (.agg #[.int .i64 0, .int .i64 0, .int .i64 0, .int .i64 0, .int .i64 0, .int .i64 0, .int .i64 0]) 7 56 Try.underlying30 hi hz0 hz1 hz2 rfl (by decide) _ _ _ rfl hown1 ⟨_, 0, none⟩ 1 1 [.int .i64 F, .int .i64 (H), .int .i64 (ofC F (H) z n), .int .i64 (ofI F (H) z n), .int .i64 (ofO F (H) z n), .int .i64 (ofW F (H) z n), .int .i64 (ofB F (H) z n)] rfl rfl (newsM_new (cs := #[.int .i64 F, .int .i64 (H), .int .i64 (ofC F (H) z n), .int .i64 (ofI F (H) z n), .int .i64 (ofO F (H) z n), .int .i64 (ofW F (H) z n), .int .i64 (ofB F (H) z n)])) (by intro u hu; simp at hu; rcases hu with rfl | rfl | rfl | rfl | rfl | rfl | rfl <;> rfl) (by unfold maxLen; omega) (by omega) (by simp; omega) ?_); intro v' w1 hown' hgrow _ hat)
                    rw [RM.out] at hown'
                    have hbv : Below v2.heap.size v2 w1 := by
                      refine (HBn.out.alloc HBn.out.size _).grown hgrow (by have := HBn.out.size; simp; omega) (fun g hg => ?_)
                      first | exact (hown1.lt g hg).1 | exact (hown1.lt g hg.symm).1
                    have HO1 := Lib.hid hown'
                    have HB1 := Lib.hid hbv
                    clear hown' hown1 hown hgrow hat hbv
                    subst hi1
                    obtain ⟨wA, wc, hv2, hw2, hw3, hRw⟩ := ownM_rd HO1.out WFR.out
                    subst hv2
                    have HRw := Lib.hid hRw
                    have GR4 := Lib.hid (GRd.out.kept HB1.out)
                    have EQ := Lib.hid (equal_row GA wA gc wc (i + 1) (wnR z n W H) w1 GR4.out HRw.out (by omega))
                    have E9 := Lib.hid (ENV.out.trans (HB1.out.mono ENV.out.size))
                    clear hRw
                    go_wp2_with fail
                    refine EQ.out.mono ?_
                    rintro e w2 ⟨rfl, kk, rfl⟩
                    go_wp2_with fail
                    refine (alive72 _).mono ?_
                    rintro e w3 ⟨rfl, hb3⟩
                    go_wp2_with fail
                    go_ret
                    exact ⟨by first | rfl | (simp; done), (below_drewN E9.out kk).trans (hb3.mono (below_drewN E9.out kk).size)⟩
                · obtain ⟨rfl, hN0⟩ : i = 0 ∧ N = 0 := by omega
                  have hHz : H ≤ 0 := by have := LEh.out; rw [hN0] at this; simpa using this
                  have hFH : ¬ F < H := by omega
                  obtain ⟨wA, wc, hv2, hw2, hw3, hRw⟩ := ownM_rd HO.out (fun i j hi hj => absurd hi (by omega))
                  injection hv2 with e1 e2 e3
                  subst e1; subst e3
                  subst hN0
                  have EQ := Lib.hid (fun X (hX : Below wr.heap.size wr X) => equal_row GA vg gc vc 0 (wnR z n W H) X (fun i hi => absurd hi (by omega)) (fun i hi => absurd hi (by omega)) (by omega))
                  clear hRw
                  go_wp2_with fail
                  refine (EQ.out _ (Below.refl _ _)).mono ?_
                  rintro e w2 ⟨rfl, kk, rfl⟩
                  go_wp2_with fail
                  refine (alive72 _).mono ?_
                  rintro e w3 ⟨rfl, hb3⟩
                  go_wp2_with fail
                  go_ret
                  exact ⟨by first | rfl | (simp; done), (below_drewN EE.out kk).trans (hb3.mono (below_drewN EE.out kk).size)⟩
            · have hpd : decide (p < q) = false := decide_eq_false hpq
              go_wp2_with fail
              have sK : ∀ X, Blk X (w.heap.size) 24 #[.int .i64 p, .int .i64 q] → (fun X => X.cell? ⟨w.heap.size, 0, none⟩ = some (.int .i64 p) ∧ X.cell? ⟨w.heap.size, 1, none⟩ = some (.int .i64 q)) X := fun X hS => ⟨hS.cell 0, hS.cell 1⟩
              have LS0 := Lib.hid (HS.out.drew)
              have LT0 := Lib.hid (HT.out.drew)
              have E0 := Lib.hid (EE.out.drew)
              clear kS0 kS1 kT0 kT1
              refine wp_region_held_drew (S := (fun X => X.cell? ⟨w.heap.size, 0, none⟩ = some (.int .i64 p) ∧ X.cell? ⟨w.heap.size, 1, none⟩ = some (.int .i64 q))) (by kernel_rfl) (sK _ LS0.out) (fun hHeld => ?_)
              clear hHeld
              refine wpAnyH_take (i := 0) (v := ?_) rfl (by kernel_rfl) (by kernel_rfl) (by kernel_rfl) (fun _ _ _ h => h) (Or.inl ⟨by rfl, ?_⟩) (sK _ LS0.out) ?_
              rotate_left
              · (intro wS hSw; (try dsimp only at hSw); go_simp; try with_reducible rfl)
              simp only [Act.put, List.getElem_toArray, List.getElem_cons_zero, List.getElem_cons_succ, List.setIfInBounds_toArray, List.set_cons_zero, List.set_cons_succ]
              refine wpAnyH_take (i := 1) (v := ?_) rfl (by kernel_rfl) (by kernel_rfl) (by kernel_rfl) (fun _ _ _ h => h) (Or.inl ⟨by rfl, ?_⟩) (sK _ LS0.out) ?_
              rotate_left
              · (intro wS hSw; (try dsimp only at hSw); go_simp; try with_reducible rfl)
              simp only [Act.put, List.getElem_toArray, List.getElem_cons_zero, List.getElem_cons_succ, List.setIfInBounds_toArray, List.set_cons_zero, List.set_cons_succ]
              refine wpAnyH_take (i := 2) (v := ?_) rfl (by kernel_rfl) (by kernel_rfl) (by kernel_rfl) (fun _ _ _ h => h) (Or.inl ⟨by rfl, ?_⟩) (sK _ LS0.out) ?_
              rotate_left
              · (intro wS hSw; (try dsimp only at hSw); go_simp; try with_reducible rfl)
              simp only [Act.put, List.getElem_toArray, List.getElem_cons_zero, List.getElem_cons_succ, List.setIfInBounds_toArray, List.set_cons_zero, List.set_cons_succ]
              refine wpAnyH_take (i := 3) (v := ?_) rfl (by kernel_rfl) (by kernel_rfl) (by kernel_rfl) (fun _ _ _ h => h) (Or.inl ⟨by rfl, ?_⟩) (sK _ LS0.out) ?_
              rotate_left
              · (intro wS hSw; (try dsimp only at hSw); go_simp; try with_reducible rfl)
              simp only [Act.put, List.getElem_toArray, List.getElem_cons_zero, List.getElem_cons_succ, List.setIfInBounds_toArray, List.set_cons_zero, List.set_cons_succ]
              refine wpAnyH_take (i := 4) (v := ?_) rfl (by kernel_rfl) (by kernel_rfl) (by kernel_rfl) (fun _ _ _ h => h) (Or.inl ⟨by rfl, ?_⟩) (sK _ LS0.out) ?_
              rotate_left
              · (intro wS hSw; (try dsimp only at hSw); go_simp; try with_reducible rfl)
              simp only [Act.put, List.getElem_toArray, List.getElem_cons_zero, List.getElem_cons_succ, List.setIfInBounds_toArray, List.set_cons_zero, List.set_cons_succ]
              refine wpAnyH_take (i := 5) (v := ?_) rfl (by kernel_rfl) (by kernel_rfl) (by kernel_rfl) (fun _ _ _ h => h) (Or.inl ⟨by rfl, ?_⟩) (sK _ LS0.out) ?_
              rotate_left
              · (intro wS hSw; (try dsimp only at hSw); go_simp; try with_reducible rfl)
              simp only [Act.put, List.getElem_toArray, List.getElem_cons_zero, List.getElem_cons_succ, List.setIfInBounds_toArray, List.set_cons_zero, List.set_cons_succ]
              refine wpAnyH_take (i := 6) (v := undef) rfl (by kernel_rfl) (by kernel_rfl) (by kernel_rfl) (fun _ _ _ h => h) (Or.inr ⟨by kernel_rfl, rfl⟩) (sK _ LS0.out) ?_
              simp only [Act.put, List.getElem_toArray, List.getElem_cons_zero, List.getElem_cons_succ, List.setIfInBounds_toArray, List.set_cons_zero, List.set_cons_succ]
              refine wpAnyH_take (i := 7) (v := undef) rfl (by kernel_rfl) (by kernel_rfl) (by kernel_rfl) (fun _ _ _ h => h) (Or.inr ⟨by kernel_rfl, rfl⟩) (sK _ LS0.out) ?_
              simp only [Act.put, List.getElem_toArray, List.getElem_cons_zero, List.getElem_cons_succ, List.setIfInBounds_toArray, List.set_cons_zero, List.set_cons_succ]
              refine wpAnyH_take (i := 8) (v := undef) rfl (by kernel_rfl) (by kernel_rfl) (by kernel_rfl) (fun _ _ _ h => h) (Or.inr ⟨by kernel_rfl, rfl⟩) (sK _ LS0.out) ?_
              simp only [Act.put, List.getElem_toArray, List.getElem_cons_zero, List.getElem_cons_succ, List.setIfInBounds_toArray, List.set_cons_zero, List.set_cons_succ]
              refine wpAnyH_take (i := 9) (v := undef) rfl (by kernel_rfl) (by kernel_rfl) (by kernel_rfl) (fun _ _ _ h => h) (Or.inr ⟨by kernel_rfl, rfl⟩) (sK _ LS0.out) ?_
              simp only [Act.put, List.getElem_toArray, List.getElem_cons_zero, List.getElem_cons_succ, List.setIfInBounds_toArray, List.set_cons_zero, List.set_cons_succ]
              refine wpAnyH_take (i := 10) (v := undef) rfl (by kernel_rfl) (by kernel_rfl) (by kernel_rfl) (fun _ _ _ h => h) (Or.inr ⟨by kernel_rfl, rfl⟩) (sK _ LS0.out) ?_
              simp only [Act.put, List.getElem_toArray, List.getElem_cons_zero, List.getElem_cons_succ, List.setIfInBounds_toArray, List.set_cons_zero, List.set_cons_succ]
              refine wpAnyH_take (i := 11) (v := undef) rfl (by kernel_rfl) (by kernel_rfl) (by kernel_rfl) (fun _ _ _ h => h) (Or.inr ⟨by kernel_rfl, rfl⟩) (sK _ LS0.out) ?_
              simp only [Act.put, List.getElem_toArray, List.getElem_cons_zero, List.getElem_cons_succ, List.setIfInBounds_toArray, List.set_cons_zero, List.set_cons_succ]
              refine wpAnyH_take (i := 12) (v := undef) rfl (by kernel_rfl) (by kernel_rfl) (by kernel_rfl) (fun _ _ _ h => h) (Or.inr ⟨by kernel_rfl, rfl⟩) (sK _ LS0.out) ?_
              simp only [Act.put, List.getElem_toArray, List.getElem_cons_zero, List.getElem_cons_succ, List.setIfInBounds_toArray, List.set_cons_zero, List.set_cons_succ]
              refine wpAnyH_take (i := 13) (v := ?_) rfl (by kernel_rfl) (by kernel_rfl) (by kernel_rfl) (fun _ _ _ h => h) (Or.inl ⟨by rfl, ?_⟩) (sK _ LS0.out) ?_
              rotate_left
              · (intro wS hSw; (try dsimp only at hSw); go_simp; try with_reducible rfl)
              simp only [Act.put, List.getElem_toArray, List.getElem_cons_zero, List.getElem_cons_succ, List.setIfInBounds_toArray, List.set_cons_zero, List.set_cons_succ]
              refine wpAnyH_done (by kernel_rfl) ?_ _
              have HS := LS0
              have HT := LT0
              have EE := E0
              have kS0 : v1.drew.cell? ⟨w.heap.size, 0, none⟩ = some (.int .i64 p) := HS.out.cell 0
              have kS1 : v1.drew.cell? ⟨w.heap.size, 1, none⟩ = some (.int .i64 q) := HS.out.cell 1
              have kT0 : v1.drew.cell? ⟨w.heap.size + 1, 0, none⟩ = some (.int .i64 W) := HT.out.cell 0
              have kT1 : v1.drew.cell? ⟨w.heap.size + 1, 1, none⟩ = some (.int .i64 H) := HT.out.cell 1
              go_wp2_with fail
              refine (AA.out _ (HRd.out.kept EE.out)).mono ?_
              rintro e v2 ⟨GA, gc, rfl, hgc, hRd, hb⟩
              have GRd := Lib.hid (rdZ_congr hRd (fun i j hi hj => wnR_eq hw1 hh0 HNh.out hi hj))
              clear hRd
              clear kS0 kS1 kT0 kT1
              have HS := Lib.hid (Blk.next (w := v1.drew) HS.out hb)
              have HT := Lib.hid (Blk.next (w := v1.drew) HT.out hb)
              have EE := Lib.hid (EE.out.trans (hb.mono EE.out.size))
              clear hb
              have kS0 : v2.cell? ⟨w.heap.size, 0, none⟩ = some (.int .i64 p) := HS.out.cell 0
              have kS1 : v2.cell? ⟨w.heap.size, 1, none⟩ = some (.int .i64 q) := HS.out.cell 1
              have kT0 : v2.cell? ⟨w.heap.size + 1, 0, none⟩ = some (.int .i64 W) := HT.out.cell 0
              have kT1 : v2.cell? ⟨w.heap.size + 1, 1, none⟩ = some (.int .i64 H) := HT.out.cell 1
              obtain ⟨i0, hi, hz0, hz1, hz2⟩ := info_parts rowInfo
              have WFR : Hid (∀ i j, i < N → j < 7 → (Lit.int .i64 (wnR z n W H i j)).wf = true) := Lib.hid (fun i j hi hj => by rw [← wnR_eq hw1 hh0 HNh.out hi hj]; exact winF_wf HTB.out hn hw1 hh0 H1 HNh.out (by omega) hi)
              have ENV := EE
              go_wp2_with fail
              clear hD hR
              go_loopw [11, 12, 13] (fun rv fv tv wr => ∃ (i : Nat) (F : Int), fv = .int .i64 F ∧ (i < N ∨ (i = 0 ∧ N = 0)) ∧ 0 ≤ F ∧ Hid (F = (i : Int) * W) ∧ Hid (wr.ownsRow v2.heap.size 28 7 rv i (rowM 7 (wnR z n W H) i)) ∧ Below v2.heap.size v2 wr) (fun _ fv _ _ => (H - intOf fv).toNat)
              case atStart => exact ⟨0, 0, rfl, by omega, by omega, Lib.hid (by simp), Lib.hid (World.ownsRow_nil _ _ _ _), Below.refl _ _⟩
              case round =>
                obtain ⟨i, F, rfl, hiN, hF0, HF, HO, hb⟩ := hrel
                obtain ⟨vg, vc, hv⟩ := ownM_slice HO.out
                subst hv
                have HBw := Lib.hid hb
                have GR2 := Lib.hid (GRd.out.kept hb)
                clear kS0 kS1 kT0 kT1
                have HS := Lib.hid (Blk.next (w := v2) HS.out hb)
                have HT := Lib.hid (Blk.next (w := v2) HT.out hb)
                have EE := Lib.hid (EE.out.trans (hb.mono EE.out.size))
                clear hb
                have kS0 : wr.cell? ⟨w.heap.size, 0, none⟩ = some (.int .i64 p) := HS.out.cell 0
                have kS1 : wr.cell? ⟨w.heap.size, 1, none⟩ = some (.int .i64 q) := HS.out.cell 1
                have kT0 : wr.cell? ⟨w.heap.size + 1, 0, none⟩ = some (.int .i64 W) := HT.out.cell 0
                have kT1 : wr.cell? ⟨w.heap.size + 1, 1, none⟩ = some (.int .i64 H) := HT.out.cell 1
                by_cases h : i < N
                · have hFH : F < H := by rw [HF.out]; exact MT.out i h
                  clear hiN
                  by_cases hlast : W < H - F
                  · have hT : toV W H i = F + W := by unfold toV; rw [← HF.out]; omega
                    have hi1 : i + 1 < N := by
                      rcases Nat.lt_or_ge (i + 1) N with c | c
                      · exact c
                      · exfalso
                        have h1 : (N : Int) * W ≤ ((i + 1 : Nat) : Int) * W := Int.mul_le_mul_of_nonneg_right (by omega) (by omega)
                        have h2 : ((i + 1 : Nat) : Int) * W = F + W := by rw [HF.out, Int.natCast_add, Int.add_mul]; simp
                        have h3 := LEh.out
                        omega
                    have HF1 : Hid (F + W = ((i + 1 : Nat) : Int) * W) := Lib.hid (by rw [HF.out, Int.natCast_add, Int.add_mul]; simp)
                    have hne : (F + W == H) = false := by rw [beq_eq_false_iff_ne]; omega
                    have hFW : F + W < H := by omega
                    have RWi := RWW.out i
                    rw [hT, ← HF.out] at RWi
                    have RWh := Lib.hid RWi
                    have RM : Hid (rowM 7 (wnR z n W H) i ++ [.int .i64 F, .int .i64 (F + W), .int .i64 (ofC F (F + W) z n), .int .i64 (ofI F (F + W) z n), .int .i64 (ofO F (F + W) z n), .int .i64 (ofW F (F + W) z n), .int .i64 (ofB F (F + W) z n)] = rowM 7 (wnR z n W H) (i + 1)) := Lib.hid (rowM_one (fun _ _ _ _ => rfl) (by
                      show [Value.int .i64 ((i : Int) * W), .int .i64 (toV W H i), .int .i64 (ofC ((i : Int) * W) (toV W H i) z n), .int .i64 (ofI ((i : Int) * W) (toV W H i) z n), .int .i64 (ofO ((i : Int) * W) (toV W H i) z n), .int .i64 (ofW ((i : Int) * W) (toV W H i) z n), .int .i64 (ofB ((i : Int) * W) (toV W H i) z n)] = _
                      rw [hT, ← HF.out]))
                    clear RWi hT
                    go_wp2_with fail
                    refine (RWh.out _ (HRd.out.kept EE.out)).mono ?_
                    rintro e v3 ⟨rfl, hb⟩
                    have HBn := Lib.hid (HBw.out.trans (hb.mono HBw.out.size))
                    have hown := ownM_below HO.out hb
                    have GR3 := Lib.hid (GR2.out.kept hb)
                    clear kS0 kS1 kT0 kT1
                    have HS := Lib.hid (Blk.next (w := wr) HS.out hb)
                    have HT := Lib.hid (Blk.next (w := wr) HT.out hb)
                    have EE := Lib.hid (EE.out.trans (hb.mono EE.out.size))
                    clear hb
                    have kS0 : v3.cell? ⟨w.heap.size, 0, none⟩ = some (.int .i64 p) := HS.out.cell 0
                    have kS1 : v3.cell? ⟨w.heap.size, 1, none⟩ = some (.int .i64 q) := HS.out.cell 1
                    have kT0 : v3.cell? ⟨w.heap.size + 1, 0, none⟩ = some (.int .i64 W) := HT.out.cell 0
                    have kT1 : v3.cell? ⟨w.heap.size + 1, 1, none⟩ = some (.int .i64 H) := HT.out.cell 1
                    have hown1 := hown.alloc (.cells #[.int .i64 F, .int .i64 (F + W), .int .i64 (ofC F (F + W) z n), .int .i64 (ofI F (F + W) z n), .int .i64 (ofO F (F + W) z n), .int .i64 (ofW F (F + W) z n), .int .i64 (ofB F (F + W) z n)] 28)
                    have hsz := HBn.out.size
                    go_wp2_with (at_builtin; (refine wpList_append_own_at _ rfl _ _ 30 rfl v2.heap.size 28 i0 (.agg #[.int .i64 0, .int .i64 0, .int .i64 0, .int .i64 0, .int .i64 0, .int .i64 0, .int .i64 0]) 7 56 Try.underlying30 hi hz0 hz1 hz2 rfl (by decide) _ _ _ rfl hown1 ⟨_, 0, none⟩ 1 1 [.int .i64 F, .int .i64 (F + W), .int .i64 (ofC F (F + W) z n), .int .i64 (ofI F (F + W) z n), .int .i64 (ofO F (F + W) z n), .int .i64 (ofW F (F + W) z n), .int .i64 (ofB F (F + W) z n)] rfl rfl (newsM_new (cs := #[.int .i64 F, .int .i64 (F + W), .int .i64 (ofC F (F + W) z n), .int .i64 (ofI F (F + W) z n), .int .i64 (ofO F (F + W) z n), .int .i64 (ofW F (F + W) z n), .int .i64 (ofB F (F + W) z n)])) (by intro u hu; simp at hu; rcases hu with rfl | rfl | rfl | rfl | rfl | rfl | rfl <;> rfl) (by unfold maxLen; omega) (by omega) (by simp; omega) ?_); intro v' w1 hown' hgrow _ hat)
                    rw [RM.out] at hown'
                    have hbv : Below v2.heap.size v2 w1 := by
                      refine (HBn.out.alloc HBn.out.size _).grown hgrow (by have := HBn.out.size; simp; omega) (fun g hg => ?_)
                      first | exact (hown1.lt g hg).1 | exact (hown1.lt g hg.symm).1
                    have HO1 := Lib.hid hown'
                    have HB1 := Lib.hid hbv
                    clear hown' hown1 hown hgrow hat hbv
                    go_wp2_with fail
                    go_roundw
                    case rel => first
                      | exact ⟨i + 1, F + W, by go_num, .inl hi1, by omega, HF1, HO1, HB1.out⟩
                      | exact ⟨_, _, _, _, _, _, _, _, _, _, _, _, _, _, _, _, _, _, _, _, _, _, _, _, _, _, _, _, _, ⟨i + 1, F + W, rfl, .inl hi1, by omega, HF1, HO1, HB1.out⟩, rfl⟩
                    case measure => simp [intOf]; omega
                  · have hT : toV W H i = H := by unfold toV; rw [← HF.out]; omega
                    have hi1 : i + 1 = N := by
                      rcases Nat.lt_or_ge (i + 1) N with c | c
                      · exfalso
                        have h1 := MT.out (i + 1) c
                        have h2 : ((i + 1 : Nat) : Int) * W = F + W := by rw [HF.out, Int.natCast_add, Int.add_mul]; simp
                        omega
                      · omega
                    have hHF : (H == H) = true := by simp
                    have RWi := RWW.out i
                    rw [hT, ← HF.out] at RWi
                    have RWh := Lib.hid RWi
                    have RM : Hid (rowM 7 (wnR z n W H) i ++ [.int .i64 F, .int .i64 (H), .int .i64 (ofC F (H) z n), .int .i64 (ofI F (H) z n), .int .i64 (ofO F (H) z n), .int .i64 (ofW F (H) z n), .int .i64 (ofB F (H) z n)] = rowM 7 (wnR z n W H) (i + 1)) := Lib.hid (rowM_one (fun _ _ _ _ => rfl) (by
                      show [Value.int .i64 ((i : Int) * W), .int .i64 (toV W H i), .int .i64 (ofC ((i : Int) * W) (toV W H i) z n), .int .i64 (ofI ((i : Int) * W) (toV W H i) z n), .int .i64 (ofO ((i : Int) * W) (toV W H i) z n), .int .i64 (ofW ((i : Int) * W) (toV W H i) z n), .int .i64 (ofB ((i : Int) * W) (toV W H i) z n)] = _
                      rw [hT, ← HF.out]))
                    clear RWi hT
                    go_wp2_with fail
                    refine (RWh.out _ (HRd.out.kept EE.out)).mono ?_
                    rintro e v3 ⟨rfl, hb⟩
                    have HBn := Lib.hid (HBw.out.trans (hb.mono HBw.out.size))
                    have hown := ownM_below HO.out hb
                    have GR3 := Lib.hid (GR2.out.kept hb)
                    clear kS0 kS1 kT0 kT1
                    have HS := Lib.hid (Blk.next (w := wr) HS.out hb)
                    have HT := Lib.hid (Blk.next (w := wr) HT.out hb)
                    have EE := Lib.hid (EE.out.trans (hb.mono EE.out.size))
                    clear hb
                    have kS0 : v3.cell? ⟨w.heap.size, 0, none⟩ = some (.int .i64 p) := HS.out.cell 0
                    have kS1 : v3.cell? ⟨w.heap.size, 1, none⟩ = some (.int .i64 q) := HS.out.cell 1
                    have kT0 : v3.cell? ⟨w.heap.size + 1, 0, none⟩ = some (.int .i64 W) := HT.out.cell 0
                    have kT1 : v3.cell? ⟨w.heap.size + 1, 1, none⟩ = some (.int .i64 H) := HT.out.cell 1
                    have hown1 := hown.alloc (.cells #[.int .i64 F, .int .i64 (H), .int .i64 (ofC F (H) z n), .int .i64 (ofI F (H) z n), .int .i64 (ofO F (H) z n), .int .i64 (ofW F (H) z n), .int .i64 (ofB F (H) z n)] 28)
                    have hsz := HBn.out.size
                    go_wp2_with (at_builtin; (refine wpList_append_own_at _ rfl _ _ 30 rfl v2.heap.size 28 i0 (.agg #[.int .i64 0, .int .i64 0, .int .i64 0, .int .i64 0, .int .i64 0, .int .i64 0, .int .i64 0]) 7 56 Try.underlying30 hi hz0 hz1 hz2 rfl (by decide) _ _ _ rfl hown1 ⟨_, 0, none⟩ 1 1 [.int .i64 F, .int .i64 (H), .int .i64 (ofC F (H) z n), .int .i64 (ofI F (H) z n), .int .i64 (ofO F (H) z n), .int .i64 (ofW F (H) z n), .int .i64 (ofB F (H) z n)] rfl rfl (newsM_new (cs := #[.int .i64 F, .int .i64 (H), .int .i64 (ofC F (H) z n), .int .i64 (ofI F (H) z n), .int .i64 (ofO F (H) z n), .int .i64 (ofW F (H) z n), .int .i64 (ofB F (H) z n)])) (by intro u hu; simp at hu; rcases hu with rfl | rfl | rfl | rfl | rfl | rfl | rfl <;> rfl) (by unfold maxLen; omega) (by omega) (by simp; omega) ?_); intro v' w1 hown' hgrow _ hat)
                    rw [RM.out] at hown'
                    have hbv : Below v2.heap.size v2 w1 := by
                      refine (HBn.out.alloc HBn.out.size _).grown hgrow (by have := HBn.out.size; simp; omega) (fun g hg => ?_)
                      first | exact (hown1.lt g hg).1 | exact (hown1.lt g hg.symm).1
                    have HO1 := Lib.hid hown'
                    have HB1 := Lib.hid hbv
                    clear hown' hown1 hown hgrow hat hbv
                    subst hi1
                    obtain ⟨wA, wc, hv2, hw2, hw3, hRw⟩ := ownM_rd HO1.out WFR.out
                    subst hv2
                    have HRw := Lib.hid hRw
                    have GR4 := Lib.hid (GRd.out.kept HB1.out)
                    have EQ := Lib.hid (equal_row GA wA gc wc (i + 1) (wnR z n W H) w1 GR4.out HRw.out (by omega))
                    have E9 := Lib.hid (ENV.out.trans (HB1.out.mono ENV.out.size))
                    clear hRw
                    go_wp2_with fail
                    refine EQ.out.mono ?_
                    rintro e w2 ⟨rfl, kk, rfl⟩
                    go_wp2_with fail
                    refine (alive72 _).mono ?_
                    rintro e w3 ⟨rfl, hb3⟩
                    go_wp2_with fail
                    go_ret
                    exact ⟨by first | rfl | (simp; done), (below_drewN E9.out kk).trans (hb3.mono (below_drewN E9.out kk).size)⟩
                · obtain ⟨rfl, hN0⟩ : i = 0 ∧ N = 0 := by omega
                  have hHz : H ≤ 0 := by have := LEh.out; rw [hN0] at this; simpa using this
                  have hFH : ¬ F < H := by omega
                  obtain ⟨wA, wc, hv2, hw2, hw3, hRw⟩ := ownM_rd HO.out (fun i j hi hj => absurd hi (by omega))
                  injection hv2 with e1 e2 e3
                  subst e1; subst e3
                  subst hN0
                  have EQ := Lib.hid (fun X (hX : Below wr.heap.size wr X) => equal_row GA vg gc vc 0 (wnR z n W H) X (fun i hi => absurd hi (by omega)) (fun i hi => absurd hi (by omega)) (by omega))
                  clear hRw
                  go_wp2_with fail
                  refine (EQ.out _ (Below.refl _ _)).mono ?_
                  rintro e w2 ⟨rfl, kk, rfl⟩
                  go_wp2_with fail
                  refine (alive72 _).mono ?_
                  rintro e w3 ⟨rfl, hb3⟩
                  go_wp2_with fail
                  go_ret
                  exact ⟨by first | rfl | (simp; done), (below_drewN EE.out kk).trans (hb3.mono (below_drewN EE.out kk).size)⟩
  · go_wp2_with fail
    go_ret
    exact ⟨by first | rfl | (simp; done), EE.out⟩
theorem walk {A : Option Addr} {c n : Nat} {z : Nat → Nat → Int} {p q W H : Int} {w : World} (hl : n ≤ c) (hm : c ≤ maxLen) (hr : RdZ w 7 A n z) (_ : A = none → c = 0) (_ : (Lit.int .i64 p).wf = true) (_ : (Lit.int .i64 q).wf = true) (hW : (Lit.int .i64 W).wf = true) (hH : (Lit.int .i64 H).wf = true) :
    Calls Try.prog 3 #[.slice A n c, .agg #[.int .i64 p, .int .i64 q], .agg #[.int .i64 W, .int .i64 H]] w fun e w' => e = .returned (.bool true) ∧ Below w.heap.size w w' :=
  walk_f A c n z p q W H w hr hl hm (in_of_wf72 hW).1 (in_of_wf72 hW).2 (in_of_wf72 hH).1 (in_of_wf72 hH).2

end Go.Proofs.Ytffcmfpadaebdab.windowsRows
