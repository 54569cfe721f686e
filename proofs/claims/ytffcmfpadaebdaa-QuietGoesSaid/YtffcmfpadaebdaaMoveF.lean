/- Does a car pass a floor? How far it goes on: the program's. -/
import Derived.Test.YtffcmfpadaebdaaFaceB
import Derived.Test.YtffcmfpadaebdaaCarM
import Derived.Test.YtffcmfpadaebdaaWantM
import Derived.Test.YtffcmfpadaebdaaRows
import Derived.Test.YtffcmfpadaebdaaKitM
import Derived.Test.YtffcmfpadaebdaaBitM
import Derived.Laws.AppendOwnNone
import Derived.WalkKit
import Derived.OwnWalk
import Derived.Laws.MakeOwn
import Derived.Laws.OwnMore
import Derived.Deep.LoopGhost
import Derived.IntWalk
import Derived.Lib.Hide
import Derived.WalkSpells
import Derived.WalkLawsBesides
import Derived.Laws.CopyOwn
import Derived.Deep.QuietTactic
import Derived.Deep.RegionHeld3
import Derived.BigQuiet
import Derived.BigRegion
import Derived.Test.YtffcmfpadaebdaaMoveB
import Derived.Test.YtffcmfpadaebdaaFaceC
import Derived.Test.YtffcmfpadaebdaaFaceD
import Derived.Test.YtffcmfpadaebdaaNearH
import Derived.Test.YtffcmfpadaebdaaPlaceA
import Derived.Test.YtffcmfpadaebdaaMoveMath
import Derived.Test.YtffcmfpadaebdaaMoveC
import Derived.Maps.AppendAt
import Derived.Test.YtffcmfpadaebdaaMoveD
import Derived.Test.YtffcmfpadaebdaaMoveE
namespace Go.Proofs.Ytffcmfpadaebdaa
open Go.RowKit
set_option linter.unusedSimpArgs false
set_option linter.unusedVariables false
/-- does a car go on by its direction at a floor? -/
def passB (R W U D : Nat → Bool) (d f : Int) : Bool := !stopB R W U D f d && (ofWay W U D f d == d)
theorem pass_on {R W U D : Nat → Bool} {d f : Int} (hd : d = 1 ∨ d = -1) (h : passB R W U D d f = true) : neF (byF W f d) = true := by
  unfold passB stopB ofWay othF at h
  rcases hd with rfl | rfl
  all_goals (
    simp only [Int.reduceLT, Int.reduceNeg, Int.reduceEq, if_true, if_false, ite_false, ite_true, reduceIte] at h
    revert h
    cases hasF R f <;> cases callF U D f 1 <;> cases callF U D f (-1) <;> cases neF (byF W f 1) <;> cases neF (byF W f (-1)) <;> simp)
set_option maxRecDepth 100000 in
set_option maxHeartbeats 2000000 in
theorem mpass_any (R W U D : Nat → Bool) (f p d md le : Int) (wa : Bool) (A : Option Addr) (n c : Nat) (z : Nat → Nat → Int) (w : World) (hr : RdZ w 2 A n z) (hl : n ≤ 1000000) (hR : rdF z n = R) :
    Calls Try.prog 30 #[sgtV W U D, carV p d md le wa A n c, .int .i64 f] w fun e w' => e = .returned (.bool (passB R W U D d f)) ∧ Below w.heap.size w w' := by
  have ST := fun w hr => stop_any R W U D f p d md le wa A n c z w hr hl hR
  have WY := fun w => ofway_any W U D f d w
  unfold passB
  unfold sgtV carV at *
  obtain ⟨w0, hw0⟩ : ∃ x, wordX W = x := ⟨_, rfl⟩
  obtain ⟨w1, hw1⟩ : ∃ x, wordY W = x := ⟨_, rfl⟩
  obtain ⟨u0, hu0⟩ : ∃ x, wordX U = x := ⟨_, rfl⟩
  obtain ⟨u1, hu1⟩ : ∃ x, wordY U = x := ⟨_, rfl⟩
  obtain ⟨d0, hd0⟩ : ∃ x, wordX D = x := ⟨_, rfl⟩
  obtain ⟨d1, hd1⟩ : ∃ x, wordY D = x := ⟨_, rfl⟩
  obtain ⟨st, hst⟩ : ∃ b, stopB R W U D f d = b := ⟨_, rfl⟩
  obtain ⟨o, ho⟩ : ∃ b, ofWay W U D f d = b := ⟨_, rfl⟩
  simp only [hw0, hw1, hu0, hu1, hd0, hd1, hst, ho] at ST WY ⊢
  replace ST := Lib.hid ST
  replace WY := Lib.hid WY
  have HRd := Lib.hid hr
  clear hw0 hw1 hu0 hu1 hd0 hd1 hst ho hr hR
  cases st
  · go_enter Try.func30, Try.ntmps30
    go_wp2_with fail
    have BS := (Blk.new w #[.int .u64 w0, .int .u64 w1, .int .u64 u0, .int .u64 u1, .int .u64 d0, .int .u64 d1] 56).alloc (.cells #[.int .i64 p, .int .i64 d, .int .i64 md, .int .i64 le, .bool wa, .slice A n c] 29)
    have BC := Blk.new (w.alloc (.cells #[.int .u64 w0, .int .u64 w1, .int .u64 u0, .int .u64 u1, .int .u64 d0, .int .u64 d1] 56)) #[.int .i64 p, .int .i64 d, .int .i64 md, .int .i64 le, .bool wa, .slice A n c] 29
    rw [World.size_alloc] at BC
    have BE : Below w.heap.size w ((w.alloc (.cells #[.int .u64 w0, .int .u64 w1, .int .u64 u0, .int .u64 u1, .int .u64 d0, .int .u64 d1] 56)).alloc (.cells #[.int .i64 p, .int .i64 d, .int .i64 md, .int .i64 le, .bool wa, .slice A n c] 29)) := ((Below.refl w.heap.size w).alloc (Nat.le_refl _) _).alloc (by simp <;> omega) _
    obtain ⟨V0, hV0⟩ : ∃ V, ((w.alloc (.cells #[.int .u64 w0, .int .u64 w1, .int .u64 u0, .int .u64 u1, .int .u64 d0, .int .u64 d1] 56)).alloc (.cells #[.int .i64 p, .int .i64 d, .int .i64 md, .int .i64 le, .bool wa, .slice A n c] 29)) = V := ⟨_, rfl⟩
    rw [hV0] at BS BC BE ⊢
    have HS := Lib.hid BS
    have HC := Lib.hid BC
    have EE := Lib.hid BE
    have ne0_1 : w.heap.size ≠ w.heap.size + 1 := by omega
    have ne1_0 : w.heap.size + 1 ≠ w.heap.size := by omega
    clear hV0 BE BS BC
    have kS0 : V0.cell? ⟨w.heap.size, 0, none⟩ = some (.int .u64 w0) := HS.out.cell 0
    have kS1 : V0.cell? ⟨w.heap.size, 1, none⟩ = some (.int .u64 w1) := HS.out.cell 1
    have kS2 : V0.cell? ⟨w.heap.size, 2, none⟩ = some (.int .u64 u0) := HS.out.cell 2
    have kS3 : V0.cell? ⟨w.heap.size, 3, none⟩ = some (.int .u64 u1) := HS.out.cell 3
    have kS4 : V0.cell? ⟨w.heap.size, 4, none⟩ = some (.int .u64 d0) := HS.out.cell 4
    have kS5 : V0.cell? ⟨w.heap.size, 5, none⟩ = some (.int .u64 d1) := HS.out.cell 5
    have kC0 : V0.cell? ⟨w.heap.size + 1, 0, none⟩ = some (.int .i64 p) := HC.out.cell 0
    have kC1 : V0.cell? ⟨w.heap.size + 1, 1, none⟩ = some (.int .i64 d) := HC.out.cell 1
    have kC2 : V0.cell? ⟨w.heap.size + 1, 2, none⟩ = some (.int .i64 md) := HC.out.cell 2
    have kC3 : V0.cell? ⟨w.heap.size + 1, 3, none⟩ = some (.int .i64 le) := HC.out.cell 3
    have kC4 : V0.cell? ⟨w.heap.size + 1, 4, none⟩ = some (.bool wa) := HC.out.cell 4
    have kC5 : V0.cell? ⟨w.heap.size + 1, 5, none⟩ = some (.slice A n c) := HC.out.cell 5
    have HRV : Hid (RdZ V0.drew 2 A n z) := Lib.hid (HRd.out.kept EE.out.drew)
    go_region_held3 (fun X => X.cell? ⟨w.heap.size, 0, none⟩ = some (.int .u64 w0) ∧ X.cell? ⟨w.heap.size, 1, none⟩ = some (.int .u64 w1) ∧ X.cell? ⟨w.heap.size, 2, none⟩ = some (.int .u64 u0) ∧ X.cell? ⟨w.heap.size, 3, none⟩ = some (.int .u64 u1) ∧ X.cell? ⟨w.heap.size, 4, none⟩ = some (.int .u64 d0) ∧ X.cell? ⟨w.heap.size, 5, none⟩ = some (.int .u64 d1) ∧ X.cell? ⟨w.heap.size + 1, 0, none⟩ = some (.int .i64 p) ∧ X.cell? ⟨w.heap.size + 1, 1, none⟩ = some (.int .i64 d) ∧ X.cell? ⟨w.heap.size + 1, 2, none⟩ = some (.int .i64 md) ∧ X.cell? ⟨w.heap.size + 1, 3, none⟩ = some (.int .i64 le) ∧ X.cell? ⟨w.heap.size + 1, 4, none⟩ = some (.bool wa) ∧ X.cell? ⟨w.heap.size + 1, 5, none⟩ = some (.slice A n c))
      (go_keep)
      (first
          | (go_at_call 26; refine (ST.out (V0.drew) HRV.out).mono ?_; rintro e v1 ⟨rfl, hb⟩; have nkS00 := Lib.hid (bkeep (w := V0.drew) hb kS0); have nkS10 := Lib.hid (bkeep (w := V0.drew) hb kS1); have nkS20 := Lib.hid (bkeep (w := V0.drew) hb kS2); have nkS30 := Lib.hid (bkeep (w := V0.drew) hb kS3); have nkS40 := Lib.hid (bkeep (w := V0.drew) hb kS4); have nkS50 := Lib.hid (bkeep (w := V0.drew) hb kS5); have nkC00 := Lib.hid (bkeep (w := V0.drew) hb kC0); have nkC10 := Lib.hid (bkeep (w := V0.drew) hb kC1); have nkC20 := Lib.hid (bkeep (w := V0.drew) hb kC2); have nkC30 := Lib.hid (bkeep (w := V0.drew) hb kC3); have nkC40 := Lib.hid (bkeep (w := V0.drew) hb kC4); have nkC50 := Lib.hid (bkeep (w := V0.drew) hb kC5); clear kS0 kS1 kS2 kS3 kS4 kS5 kC0 kC1 kC2 kC3 kC4 kC5; have kS0 := nkS00.out; have kS1 := nkS10.out; have kS2 := nkS20.out; have kS3 := nkS30.out; have kS4 := nkS40.out; have kS5 := nkS50.out; have kC0 := nkC00.out; have kC1 := nkC10.out; have kC2 := nkC20.out; have kC3 := nkC30.out; have kC4 := nkC40.out; have kC5 := nkC50.out; have EE1 := Lib.hid ((EE.out.drew).trans (hb.mono (EE.out.drew).size)); clear hb)
          | (go_at_call 27; refine (WY.out (v1)).mono ?_; rintro e v2 ⟨rfl, hb⟩; have nkS01 := Lib.hid (bkeep (w := v1) hb kS0); have nkS11 := Lib.hid (bkeep (w := v1) hb kS1); have nkS21 := Lib.hid (bkeep (w := v1) hb kS2); have nkS31 := Lib.hid (bkeep (w := v1) hb kS3); have nkS41 := Lib.hid (bkeep (w := v1) hb kS4); have nkS51 := Lib.hid (bkeep (w := v1) hb kS5); have nkC01 := Lib.hid (bkeep (w := v1) hb kC0); have nkC11 := Lib.hid (bkeep (w := v1) hb kC1); have nkC21 := Lib.hid (bkeep (w := v1) hb kC2); have nkC31 := Lib.hid (bkeep (w := v1) hb kC3); have nkC41 := Lib.hid (bkeep (w := v1) hb kC4); have nkC51 := Lib.hid (bkeep (w := v1) hb kC5); clear kS0 kS1 kS2 kS3 kS4 kS5 kC0 kC1 kC2 kC3 kC4 kC5; have kS0 := nkS01.out; have kS1 := nkS11.out; have kS2 := nkS21.out; have kS3 := nkS31.out; have kS4 := nkS41.out; have kS5 := nkS51.out; have kC0 := nkC01.out; have kC1 := nkC11.out; have kC2 := nkC21.out; have kC3 := nkC31.out; have kC4 := nkC41.out; have kC5 := nkC51.out; have EE2 := Lib.hid (EE1.out.trans (hb.mono EE1.out.size)); clear hb))
    go_wp2_with fail
    go_ret
    exact ⟨rfl, EE2.out⟩
  · go_enter Try.func30, Try.ntmps30
    go_wp2_with fail
    have BS := (Blk.new w #[.int .u64 w0, .int .u64 w1, .int .u64 u0, .int .u64 u1, .int .u64 d0, .int .u64 d1] 56).alloc (.cells #[.int .i64 p, .int .i64 d, .int .i64 md, .int .i64 le, .bool wa, .slice A n c] 29)
    have BC := Blk.new (w.alloc (.cells #[.int .u64 w0, .int .u64 w1, .int .u64 u0, .int .u64 u1, .int .u64 d0, .int .u64 d1] 56)) #[.int .i64 p, .int .i64 d, .int .i64 md, .int .i64 le, .bool wa, .slice A n c] 29
    rw [World.size_alloc] at BC
    have BE : Below w.heap.size w ((w.alloc (.cells #[.int .u64 w0, .int .u64 w1, .int .u64 u0, .int .u64 u1, .int .u64 d0, .int .u64 d1] 56)).alloc (.cells #[.int .i64 p, .int .i64 d, .int .i64 md, .int .i64 le, .bool wa, .slice A n c] 29)) := ((Below.refl w.heap.size w).alloc (Nat.le_refl _) _).alloc (by simp <;> omega) _
    obtain ⟨V0, hV0⟩ : ∃ V, ((w.alloc (.cells #[.int .u64 w0, .int .u64 w1, .int .u64 u0, .int .u64 u1, .int .u64 d0, .int .u64 d1] 56)).alloc (.cells #[.int .i64 p, .int .i64 d, .int .i64 md, .int .i64 le, .bool wa, .slice A n c] 29)) = V := ⟨_, rfl⟩
    rw [hV0] at BS BC BE ⊢
    have HS := Lib.hid BS
    have HC := Lib.hid BC
    have EE := Lib.hid BE
    have ne0_1 : w.heap.size ≠ w.heap.size + 1 := by omega
    have ne1_0 : w.heap.size + 1 ≠ w.heap.size := by omega
    clear hV0 BE BS BC
    have kS0 : V0.cell? ⟨w.heap.size, 0, none⟩ = some (.int .u64 w0) := HS.out.cell 0
    have kS1 : V0.cell? ⟨w.heap.size, 1, none⟩ = some (.int .u64 w1) := HS.out.cell 1
    have kS2 : V0.cell? ⟨w.heap.size, 2, none⟩ = some (.int .u64 u0) := HS.out.cell 2
    have kS3 : V0.cell? ⟨w.heap.size, 3, none⟩ = some (.int .u64 u1) := HS.out.cell 3
    have kS4 : V0.cell? ⟨w.heap.size, 4, none⟩ = some (.int .u64 d0) := HS.out.cell 4
    have kS5 : V0.cell? ⟨w.heap.size, 5, none⟩ = some (.int .u64 d1) := HS.out.cell 5
    have kC0 : V0.cell? ⟨w.heap.size + 1, 0, none⟩ = some (.int .i64 p) := HC.out.cell 0
    have kC1 : V0.cell? ⟨w.heap.size + 1, 1, none⟩ = some (.int .i64 d) := HC.out.cell 1
    have kC2 : V0.cell? ⟨w.heap.size + 1, 2, none⟩ = some (.int .i64 md) := HC.out.cell 2
    have kC3 : V0.cell? ⟨w.heap.size + 1, 3, none⟩ = some (.int .i64 le) := HC.out.cell 3
    have kC4 : V0.cell? ⟨w.heap.size + 1, 4, none⟩ = some (.bool wa) := HC.out.cell 4
    have kC5 : V0.cell? ⟨w.heap.size + 1, 5, none⟩ = some (.slice A n c) := HC.out.cell 5
    have sK : ∀ X, Blk X (w.heap.size) 56 #[.int .u64 w0, .int .u64 w1, .int .u64 u0, .int .u64 u1, .int .u64 d0, .int .u64 d1] → Blk X (w.heap.size + 1) 29 #[.int .i64 p, .int .i64 d, .int .i64 md, .int .i64 le, .bool wa, .slice A n c] → (fun X => X.cell? ⟨w.heap.size, 0, none⟩ = some (.int .u64 w0) ∧ X.cell? ⟨w.heap.size, 1, none⟩ = some (.int .u64 w1) ∧ X.cell? ⟨w.heap.size, 2, none⟩ = some (.int .u64 u0) ∧ X.cell? ⟨w.heap.size, 3, none⟩ = some (.int .u64 u1) ∧ X.cell? ⟨w.heap.size, 4, none⟩ = some (.int .u64 d0) ∧ X.cell? ⟨w.heap.size, 5, none⟩ = some (.int .u64 d1) ∧ X.cell? ⟨w.heap.size + 1, 0, none⟩ = some (.int .i64 p) ∧ X.cell? ⟨w.heap.size + 1, 1, none⟩ = some (.int .i64 d) ∧ X.cell? ⟨w.heap.size + 1, 2, none⟩ = some (.int .i64 md) ∧ X.cell? ⟨w.heap.size + 1, 3, none⟩ = some (.int .i64 le) ∧ X.cell? ⟨w.heap.size + 1, 4, none⟩ = some (.bool wa) ∧ X.cell? ⟨w.heap.size + 1, 5, none⟩ = some (.slice A n c)) X := fun X hS hC => ⟨hS.cell 0, hS.cell 1, hS.cell 2, hS.cell 3, hS.cell 4, hS.cell 5, hC.cell 0, hC.cell 1, hC.cell 2, hC.cell 3, hC.cell 4, hC.cell 5⟩
    have LS0 := Lib.hid (HS.out.drew)
    have LC0 := Lib.hid (HC.out.drew)
    have E0 := Lib.hid (EE.out.drew)
    clear kS0 kS1 kS2 kS3 kS4 kS5 kC0 kC1 kC2 kC3 kC4 kC5
    refine wp_region_held_drew (S := (fun X => X.cell? ⟨w.heap.size, 0, none⟩ = some (.int .u64 w0) ∧ X.cell? ⟨w.heap.size, 1, none⟩ = some (.int .u64 w1) ∧ X.cell? ⟨w.heap.size, 2, none⟩ = some (.int .u64 u0) ∧ X.cell? ⟨w.heap.size, 3, none⟩ = some (.int .u64 u1) ∧ X.cell? ⟨w.heap.size, 4, none⟩ = some (.int .u64 d0) ∧ X.cell? ⟨w.heap.size, 5, none⟩ = some (.int .u64 d1) ∧ X.cell? ⟨w.heap.size + 1, 0, none⟩ = some (.int .i64 p) ∧ X.cell? ⟨w.heap.size + 1, 1, none⟩ = some (.int .i64 d) ∧ X.cell? ⟨w.heap.size + 1, 2, none⟩ = some (.int .i64 md) ∧ X.cell? ⟨w.heap.size + 1, 3, none⟩ = some (.int .i64 le) ∧ X.cell? ⟨w.heap.size + 1, 4, none⟩ = some (.bool wa) ∧ X.cell? ⟨w.heap.size + 1, 5, none⟩ = some (.slice A n c))) (by kernel_rfl) (sK _ LS0.out LC0.out) (fun hHeld => ?_)
    clear hHeld
    refine wpAnyH_take (i := 0) (v := ?_) rfl (by kernel_rfl) (by kernel_rfl) (by kernel_rfl) (fun _ _ _ h => h) (Or.inl ⟨by rfl, ?_⟩) (sK _ LS0.out LC0.out) ?_
    rotate_left
    · (intro wS hSw; (try dsimp only at hSw); go_simp; try with_reducible rfl)
    simp only [Act.put, List.getElem_toArray, List.getElem_cons_zero, List.getElem_cons_succ, List.setIfInBounds_toArray, List.set_cons_zero, List.set_cons_succ]
    refine wpAnyH_take (i := 1) (v := ?_) rfl (by kernel_rfl) (by kernel_rfl) (by kernel_rfl) (fun _ _ _ h => h) (Or.inl ⟨by rfl, ?_⟩) (sK _ LS0.out LC0.out) ?_
    rotate_left
    · (intro wS hSw; (try dsimp only at hSw); go_simp; try with_reducible rfl)
    simp only [Act.put, List.getElem_toArray, List.getElem_cons_zero, List.getElem_cons_succ, List.setIfInBounds_toArray, List.set_cons_zero, List.set_cons_succ]
    refine wpAnyH_take (i := 2) (v := ?_) rfl (by kernel_rfl) (by kernel_rfl) (by kernel_rfl) (fun _ _ _ h => h) (Or.inl ⟨by rfl, ?_⟩) (sK _ LS0.out LC0.out) ?_
    rotate_left
    · (intro wS hSw; (try dsimp only at hSw); go_simp; try with_reducible rfl)
    simp only [Act.put, List.getElem_toArray, List.getElem_cons_zero, List.getElem_cons_succ, List.setIfInBounds_toArray, List.set_cons_zero, List.set_cons_succ]
    refine wpAnyH_ready (rs := [3]) (by kernel_rfl) (by simp) ?_
    refine AllReadyH.cons rfl (fun K hK => ?_) AllReadyH.nil
    go_simp
    refine (ST.out _ (HRd.out.kept E0.out)).mono ?_
    rintro e r1 ⟨rfl, hb⟩
    have LS1 := Lib.hid (LS0.out.next hb)
    have LC1 := Lib.hid (LC0.out.next hb)
    have E1 := Lib.hid (E0.out.trans (hb.mono E0.out.size))
    clear hb
    go_wp2_with fail
    refine hK.out _ _ (sK _ LS1.out LC1.out) (fun hHeld => ?_)
    clear hK K hHeld
    try simp only [Act.put, List.getElem_toArray, List.getElem_cons_zero, List.getElem_cons_succ, List.setIfInBounds_toArray, List.set_cons_zero, List.set_cons_succ]
    refine wpAnyH_take (i := 4) (v := ?_) rfl (by kernel_rfl) (by kernel_rfl) (by kernel_rfl) (fun _ _ _ h => h) (Or.inl ⟨by rfl, ?_⟩) (sK _ LS1.out LC1.out) ?_
    rotate_left
    · (intro wS hSw; (try dsimp only at hSw); go_simp; try with_reducible rfl)
    simp only [Act.put, List.getElem_toArray, List.getElem_cons_zero, List.getElem_cons_succ, List.setIfInBounds_toArray, List.set_cons_zero, List.set_cons_succ]
    refine wpAnyH_take (i := 5) (v := ?_) rfl (by kernel_rfl) (by kernel_rfl) (by kernel_rfl) (fun _ _ _ h => h) (Or.inl ⟨by rfl, ?_⟩) (sK _ LS1.out LC1.out) ?_
    rotate_left
    · (intro wS hSw; (try dsimp only at hSw); go_simp; try with_reducible rfl)
    simp only [Act.put, List.getElem_toArray, List.getElem_cons_zero, List.getElem_cons_succ, List.setIfInBounds_toArray, List.set_cons_zero, List.set_cons_succ]
    refine wpAnyH_take (i := 6) (v := undef) rfl (by kernel_rfl) (by kernel_rfl) (by kernel_rfl) (fun _ _ _ h => h) (Or.inr ⟨by kernel_rfl, rfl⟩) (sK _ LS1.out LC1.out) ?_
    simp only [Act.put, List.getElem_toArray, List.getElem_cons_zero, List.getElem_cons_succ, List.setIfInBounds_toArray, List.set_cons_zero, List.set_cons_succ]
    refine wpAnyH_take (i := 7) (v := undef) rfl (by kernel_rfl) (by kernel_rfl) (by kernel_rfl) (fun _ _ _ h => h) (Or.inr ⟨by kernel_rfl, rfl⟩) (sK _ LS1.out LC1.out) ?_
    simp only [Act.put, List.getElem_toArray, List.getElem_cons_zero, List.getElem_cons_succ, List.setIfInBounds_toArray, List.set_cons_zero, List.set_cons_succ]
    refine wpAnyH_take (i := 8) (v := undef) rfl (by kernel_rfl) (by kernel_rfl) (by kernel_rfl) (fun _ _ _ h => h) (Or.inr ⟨by kernel_rfl, rfl⟩) (sK _ LS1.out LC1.out) ?_
    simp only [Act.put, List.getElem_toArray, List.getElem_cons_zero, List.getElem_cons_succ, List.setIfInBounds_toArray, List.set_cons_zero, List.set_cons_succ]
    refine wpAnyH_take (i := 9) (v := undef) rfl (by kernel_rfl) (by kernel_rfl) (by kernel_rfl) (fun _ _ _ h => h) (Or.inr ⟨by kernel_rfl, rfl⟩) (sK _ LS1.out LC1.out) ?_
    simp only [Act.put, List.getElem_toArray, List.getElem_cons_zero, List.getElem_cons_succ, List.setIfInBounds_toArray, List.set_cons_zero, List.set_cons_succ]
    refine wpAnyH_take (i := 10) (v := undef) rfl (by kernel_rfl) (by kernel_rfl) (by kernel_rfl) (fun _ _ _ h => h) (Or.inr ⟨by kernel_rfl, rfl⟩) (sK _ LS1.out LC1.out) ?_
    simp only [Act.put, List.getElem_toArray, List.getElem_cons_zero, List.getElem_cons_succ, List.setIfInBounds_toArray, List.set_cons_zero, List.set_cons_succ]
    refine wpAnyH_take (i := 11) (v := undef) rfl (by kernel_rfl) (by kernel_rfl) (by kernel_rfl) (fun _ _ _ h => h) (Or.inr ⟨by kernel_rfl, rfl⟩) (sK _ LS1.out LC1.out) ?_
    simp only [Act.put, List.getElem_toArray, List.getElem_cons_zero, List.getElem_cons_succ, List.setIfInBounds_toArray, List.set_cons_zero, List.set_cons_succ]
    refine wpAnyH_take (i := 12) (v := undef) rfl (by kernel_rfl) (by kernel_rfl) (by kernel_rfl) (fun _ _ _ h => h) (Or.inr ⟨by kernel_rfl, rfl⟩) (sK _ LS1.out LC1.out) ?_
    simp only [Act.put, List.getElem_toArray, List.getElem_cons_zero, List.getElem_cons_succ, List.setIfInBounds_toArray, List.set_cons_zero, List.set_cons_succ]
    refine wpAnyH_take (i := 13) (v := undef) rfl (by kernel_rfl) (by kernel_rfl) (by kernel_rfl) (fun _ _ _ h => h) (Or.inr ⟨by kernel_rfl, rfl⟩) (sK _ LS1.out LC1.out) ?_
    simp only [Act.put, List.getElem_toArray, List.getElem_cons_zero, List.getElem_cons_succ, List.setIfInBounds_toArray, List.set_cons_zero, List.set_cons_succ]
    refine wpAnyH_take (i := 14) (v := ?_) rfl (by kernel_rfl) (by kernel_rfl) (by kernel_rfl) (fun _ _ _ h => h) (Or.inl ⟨by rfl, ?_⟩) (sK _ LS1.out LC1.out) ?_
    rotate_left
    · (intro wS hSw; (try dsimp only at hSw); go_simp; try with_reducible rfl)
    simp only [Act.put, List.getElem_toArray, List.getElem_cons_zero, List.getElem_cons_succ, List.setIfInBounds_toArray, List.set_cons_zero, List.set_cons_succ]
    refine wpAnyH_take (i := 15) (v := ?_) rfl (by kernel_rfl) (by kernel_rfl) (by kernel_rfl) (fun _ _ _ h => h) (Or.inl ⟨by rfl, ?_⟩) (sK _ LS1.out LC1.out) ?_
    rotate_left
    · (intro wS hSw; (try dsimp only at hSw); go_simp; try with_reducible rfl)
    simp only [Act.put, List.getElem_toArray, List.getElem_cons_zero, List.getElem_cons_succ, List.setIfInBounds_toArray, List.set_cons_zero, List.set_cons_succ]
    refine wpAnyH_done (by kernel_rfl) ?_ _
    go_wp2_with fail
    go_ret
    exact ⟨by first | rfl | simp [go_sem], E1.out⟩
theorem steps_bd {F0 d s0 : Int} {j : Nat} (hd : d = 1 ∨ d = -1) (a0 : 0 ≤ F0) (a1 : F0 ≤ s0 - 1) (b0 : 0 ≤ F0 + j * d) (b1 : F0 + j * d ≤ s0 - 1) (h : s0 ≤ 128) : j ≤ 127 := by
  rcases hd with rfl | rfl <;> omega
/-- how far a car goes on, and to which floor -/
def AhR (s1 top : Int) (P : Int → Bool) (p d : Int) (w : World) (e : Ending) (w' : World) : Prop := ∃ (N : Nat) (F : Int), e = .returned (.tuple #[.int .i64 (N + 1), .int .i64 F]) ∧ p + N * d = F * s1 ∧ (0 ≤ F ∧ F ≤ top) ∧ N ≤ 2100 ∧ FirstAt s1 P p d N ∧ Below w.heap.size w w'
set_option maxRecDepth 100000 in
set_option maxHeartbeats 4000000 in
theorem mahead_any (s : Nat → Int) (SA : Option Addr) (sn sc : Nat) (p d md le : Int) (wa : Bool) (A : Option Addr) (n c : Nat) (z : Nat → Nat → Int) (U D : Nat → Bool) (q r : Int) (w : World) (hr : RdZ w 2 A n z) (hl : n ≤ 1000) (hg : 1 ≤ s 1) (g1 : s 1 ≤ 16) (h0 : 2 ≤ s 0) (h0' : s 0 ≤ 128) (hp : 0 ≤ p) (hp' : p ≤ (s 0 - 1) * s 1) (r0 : 0 ≤ r) (r1 : r < s 1) (e : p = q * s 1 + r) (hd : d = 1 ∨ d = -1)
    (hP : ∀ f, 0 ≤ f → f ≤ s 0 - 1 → passB (rdF z n) (waF z n (s 3) U D) (laF n (s 3) U) (laF n (s 3) D) d f = true → 0 ≤ f + d ∧ f + d ≤ s 0 - 1) :
    Calls Try.prog 12 #[scnV s SA sn sc, carV p d md le wa A n c, setV U, setV D] w (AhR (s 1) (s 0 - 1) (passB (rdF z n) (waF z n (s 3) U D) (laF n (s 3) U) (laF n (s 3) D) d) p d w) := by
  have t1 : (s 0 - 1) * s 1 ≤ 127 * 16 := Int.mul_le_mul (by omega) (by omega) (by omega) (by omega)
  have NB := nx_in (d := d) hg r0 r1 e hp hp'
  have TB := nx_bd (q := q) (d := d) hg r0 r1
  have NX := fun w => pnext_any p (s 1) q r d w hg (by omega) hp (by omega) r0 r1 e
  have SE := fun w hr => see_any p d md le wa A n c z (s 3) U D w hr (by omega)
  have PA := fun f w hr => mpass_any (rdF z n) (waF z n (s 3) U D) (laF n (s 3) U) (laF n (s 3) D) f p d md le wa A n c z w hr (by omega) rfl
  have FIN : ∀ (j : Nat) (t fl : Int) (w' : World), t = nxT (s 1) r d + s 1 * j → fl = nxF q r d + j * d → 0 ≤ fl → fl ≤ s 0 - 1 → t ≤ 2100 → (∀ i : Nat, i < j → passB (rdF z n) (waF z n (s 3) U D) (laF n (s 3) U) (laF n (s 3) D) d (nxF q r d + i * d) = true) → passB (rdF z n) (waF z n (s 3) U D) (laF n (s 3) U) (laF n (s 3) D) d fl = false → Below w.heap.size w w' → AhR (s 1) (s 0 - 1) (passB (rdF z n) (waF z n (s 3) U D) (laF n (s 3) U) (laF n (s 3) D) d) p d w (.returned (.tuple #[.int .i64 (t + 1), .int .i64 fl])) w' := by
    intro j t fl w' ht hf f0 f1 t2 hall hno hb
    have hsj : 0 ≤ s 1 * (j : Int) := Int.mul_nonneg (by omega) (by omega)
    have hT : ((t.toNat : Nat) : Int) = t := Int.toNat_of_nonneg (by omega)
    refine ⟨t.toNat, fl, by rw [hT], ?_, ⟨f0, f1⟩, by omega, ?_, hb⟩
    · rw [hT, ht, hf]; exact nx_far hd e j
    · exact first_of (k := j) hg r0 r1 e hd (by rw [hT, ht]) hall (by rw [← hf]; exact hno)
  unfold scnV carV setV sgtV at *
  obtain ⟨a0, ha0⟩ : ∃ x, wordX U = x := ⟨_, rfl⟩
  obtain ⟨a1, ha1⟩ : ∃ x, wordY U = x := ⟨_, rfl⟩
  obtain ⟨b0, hb0⟩ : ∃ x, wordX D = x := ⟨_, rfl⟩
  obtain ⟨b1, hb1⟩ : ∃ x, wordY D = x := ⟨_, rfl⟩
  obtain ⟨u0, hu0⟩ : ∃ x, wordX (laF n (s 3) U) = x := ⟨_, rfl⟩
  obtain ⟨u1, hu1⟩ : ∃ x, wordY (laF n (s 3) U) = x := ⟨_, rfl⟩
  obtain ⟨l0, hl0⟩ : ∃ x, wordX (laF n (s 3) D) = x := ⟨_, rfl⟩
  obtain ⟨l1, hl1⟩ : ∃ x, wordY (laF n (s 3) D) = x := ⟨_, rfl⟩
  obtain ⟨t0, ht0⟩ : ∃ x, wordX (waF z n (s 3) U D) = x := ⟨_, rfl⟩
  obtain ⟨t1w, ht1w⟩ : ∃ x, wordY (waF z n (s 3) U D) = x := ⟨_, rfl⟩
  obtain ⟨PF, hPF⟩ : ∃ f, passB (rdF z n) (waF z n (s 3) U D) (laF n (s 3) U) (laF n (s 3) D) d = f := ⟨_, rfl⟩
  obtain ⟨T0, hT0⟩ : ∃ f, nxT (s 1) r d = f := ⟨_, rfl⟩
  obtain ⟨F0, hF0⟩ : ∃ f, nxF q r d = f := ⟨_, rfl⟩
  simp only [ha0, ha1, hb0, hb1, hu0, hu1, hl0, hl1, ht0, ht1w, hPF, hT0, hF0] at NX SE PA NB TB FIN hP ⊢
  replace NX := Lib.hid NX
  replace SE := Lib.hid SE
  replace PA := Lib.hid PA
  replace FIN := Lib.hid FIN
  replace hP := Lib.hid hP
  have HDd := Lib.hid hd
  obtain ⟨_, F00, F01⟩ := NB
  obtain ⟨T00, T01⟩ := TB
  have d0 : -1 ≤ d := by omega
  have d1 : d ≤ 1 := by omega
  have HRd := Lib.hid hr
  clear ha0 ha1 hb0 hb1 hu0 hu1 hl0 hl1 ht0 ht1w hPF hT0 hF0 hr e hd
  go_enter Try.func12, Try.ntmps12
  go_wp2_with fail
  have BS := (((Blk.new w #[.int .i64 (s 0), .int .i64 (s 1), .int .i64 (s 2), .int .i64 (s 3), .int .i64 (s 4), .int .i64 (s 5), .int .i64 (s 6), .int .i64 (s 7), .slice SA sn sc, .int .i64 (s 9), .int .i64 (s 10), .int .i64 (s 11), .int .i64 (s 12)] 25).alloc (.cells #[.int .i64 p, .int .i64 d, .int .i64 md, .int .i64 le, .bool wa, .slice A n c] 29)).alloc (.cells #[.int .u64 a0, .int .u64 a1] 32)).alloc (.cells #[.int .u64 b0, .int .u64 b1] 32)
  have BC := ((Blk.new (w.alloc (.cells #[.int .i64 (s 0), .int .i64 (s 1), .int .i64 (s 2), .int .i64 (s 3), .int .i64 (s 4), .int .i64 (s 5), .int .i64 (s 6), .int .i64 (s 7), .slice SA sn sc, .int .i64 (s 9), .int .i64 (s 10), .int .i64 (s 11), .int .i64 (s 12)] 25)) #[.int .i64 p, .int .i64 d, .int .i64 md, .int .i64 le, .bool wa, .slice A n c] 29).alloc (.cells #[.int .u64 a0, .int .u64 a1] 32)).alloc (.cells #[.int .u64 b0, .int .u64 b1] 32)
  rw [World.size_alloc] at BC
  have BU := (Blk.new ((w.alloc (.cells #[.int .i64 (s 0), .int .i64 (s 1), .int .i64 (s 2), .int .i64 (s 3), .int .i64 (s 4), .int .i64 (s 5), .int .i64 (s 6), .int .i64 (s 7), .slice SA sn sc, .int .i64 (s 9), .int .i64 (s 10), .int .i64 (s 11), .int .i64 (s 12)] 25)).alloc (.cells #[.int .i64 p, .int .i64 d, .int .i64 md, .int .i64 le, .bool wa, .slice A n c] 29)) #[.int .u64 a0, .int .u64 a1] 32).alloc (.cells #[.int .u64 b0, .int .u64 b1] 32)
  rw [World.size_alloc, World.size_alloc] at BU
  have BD := Blk.new (((w.alloc (.cells #[.int .i64 (s 0), .int .i64 (s 1), .int .i64 (s 2), .int .i64 (s 3), .int .i64 (s 4), .int .i64 (s 5), .int .i64 (s 6), .int .i64 (s 7), .slice SA sn sc, .int .i64 (s 9), .int .i64 (s 10), .int .i64 (s 11), .int .i64 (s 12)] 25)).alloc (.cells #[.int .i64 p, .int .i64 d, .int .i64 md, .int .i64 le, .bool wa, .slice A n c] 29)).alloc (.cells #[.int .u64 a0, .int .u64 a1] 32)) #[.int .u64 b0, .int .u64 b1] 32
  rw [World.size_alloc, World.size_alloc, World.size_alloc] at BD
  have BE : Below w.heap.size w ((((w.alloc (.cells #[.int .i64 (s 0), .int .i64 (s 1), .int .i64 (s 2), .int .i64 (s 3), .int .i64 (s 4), .int .i64 (s 5), .int .i64 (s 6), .int .i64 (s 7), .slice SA sn sc, .int .i64 (s 9), .int .i64 (s 10), .int .i64 (s 11), .int .i64 (s 12)] 25)).alloc (.cells #[.int .i64 p, .int .i64 d, .int .i64 md, .int .i64 le, .bool wa, .slice A n c] 29)).alloc (.cells #[.int .u64 a0, .int .u64 a1] 32)).alloc (.cells #[.int .u64 b0, .int .u64 b1] 32)) := ((((Below.refl w.heap.size w).alloc (Nat.le_refl _) _).alloc (by simp <;> omega) _).alloc (by simp <;> omega) _).alloc (by simp <;> omega) _
  obtain ⟨V0, hV0⟩ : ∃ V, ((((w.alloc (.cells #[.int .i64 (s 0), .int .i64 (s 1), .int .i64 (s 2), .int .i64 (s 3), .int .i64 (s 4), .int .i64 (s 5), .int .i64 (s 6), .int .i64 (s 7), .slice SA sn sc, .int .i64 (s 9), .int .i64 (s 10), .int .i64 (s 11), .int .i64 (s 12)] 25)).alloc (.cells #[.int .i64 p, .int .i64 d, .int .i64 md, .int .i64 le, .bool wa, .slice A n c] 29)).alloc (.cells #[.int .u64 a0, .int .u64 a1] 32)).alloc (.cells #[.int .u64 b0, .int .u64 b1] 32)) = V := ⟨_, rfl⟩
  rw [hV0] at BS BC BU BD BE ⊢
  have HS := Lib.hid BS
  have HC := Lib.hid BC
  have HU := Lib.hid BU
  have HD := Lib.hid BD
  have EE := Lib.hid BE
  have ne0_1 : w.heap.size ≠ w.heap.size + 1 := by omega
  have ne0_2 : w.heap.size ≠ w.heap.size + 1 + 1 := by omega
  have ne0_3 : w.heap.size ≠ w.heap.size + 1 + 1 + 1 := by omega
  have ne1_0 : w.heap.size + 1 ≠ w.heap.size := by omega
  have ne1_2 : w.heap.size + 1 ≠ w.heap.size + 1 + 1 := by omega
  have ne1_3 : w.heap.size + 1 ≠ w.heap.size + 1 + 1 + 1 := by omega
  have ne2_0 : w.heap.size + 1 + 1 ≠ w.heap.size := by omega
  have ne2_1 : w.heap.size + 1 + 1 ≠ w.heap.size + 1 := by omega
  have ne2_3 : w.heap.size + 1 + 1 ≠ w.heap.size + 1 + 1 + 1 := by omega
  have ne3_0 : w.heap.size + 1 + 1 + 1 ≠ w.heap.size := by omega
  have ne3_1 : w.heap.size + 1 + 1 + 1 ≠ w.heap.size + 1 := by omega
  have ne3_2 : w.heap.size + 1 + 1 + 1 ≠ w.heap.size + 1 + 1 := by omega
  clear hV0 BE BS BC BU BD
  have kS0 : V0.cell? ⟨w.heap.size, 0, none⟩ = some (.int .i64 (s 0)) := HS.out.cell 0
  have kS1 : V0.cell? ⟨w.heap.size, 1, none⟩ = some (.int .i64 (s 1)) := HS.out.cell 1
  have kS2 : V0.cell? ⟨w.heap.size, 2, none⟩ = some (.int .i64 (s 2)) := HS.out.cell 2
  have kS3 : V0.cell? ⟨w.heap.size, 3, none⟩ = some (.int .i64 (s 3)) := HS.out.cell 3
  have kS4 : V0.cell? ⟨w.heap.size, 4, none⟩ = some (.int .i64 (s 4)) := HS.out.cell 4
  have kS5 : V0.cell? ⟨w.heap.size, 5, none⟩ = some (.int .i64 (s 5)) := HS.out.cell 5
  have kS6 : V0.cell? ⟨w.heap.size, 6, none⟩ = some (.int .i64 (s 6)) := HS.out.cell 6
  have kS7 : V0.cell? ⟨w.heap.size, 7, none⟩ = some (.int .i64 (s 7)) := HS.out.cell 7
  have kS8 : V0.cell? ⟨w.heap.size, 8, none⟩ = some (.slice SA sn sc) := HS.out.cell 8
  have kS9 : V0.cell? ⟨w.heap.size, 9, none⟩ = some (.int .i64 (s 9)) := HS.out.cell 9
  have kS10 : V0.cell? ⟨w.heap.size, 10, none⟩ = some (.int .i64 (s 10)) := HS.out.cell 10
  have kS11 : V0.cell? ⟨w.heap.size, 11, none⟩ = some (.int .i64 (s 11)) := HS.out.cell 11
  have kS12 : V0.cell? ⟨w.heap.size, 12, none⟩ = some (.int .i64 (s 12)) := HS.out.cell 12
  have kC0 : V0.cell? ⟨w.heap.size + 1, 0, none⟩ = some (.int .i64 p) := HC.out.cell 0
  have kC1 : V0.cell? ⟨w.heap.size + 1, 1, none⟩ = some (.int .i64 d) := HC.out.cell 1
  have kC2 : V0.cell? ⟨w.heap.size + 1, 2, none⟩ = some (.int .i64 md) := HC.out.cell 2
  have kC3 : V0.cell? ⟨w.heap.size + 1, 3, none⟩ = some (.int .i64 le) := HC.out.cell 3
  have kC4 : V0.cell? ⟨w.heap.size + 1, 4, none⟩ = some (.bool wa) := HC.out.cell 4
  have kC5 : V0.cell? ⟨w.heap.size + 1, 5, none⟩ = some (.slice A n c) := HC.out.cell 5
  have kU0 : V0.cell? ⟨w.heap.size + 1 + 1, 0, none⟩ = some (.int .u64 a0) := HU.out.cell 0
  have kU1 : V0.cell? ⟨w.heap.size + 1 + 1, 1, none⟩ = some (.int .u64 a1) := HU.out.cell 1
  have kD0 : V0.cell? ⟨w.heap.size + 1 + 1 + 1, 0, none⟩ = some (.int .u64 b0) := HD.out.cell 0
  have kD1 : V0.cell? ⟨w.heap.size + 1 + 1 + 1, 1, none⟩ = some (.int .u64 b1) := HD.out.cell 1
  refine (SE.out _ (HRd.out.kept EE.out)).mono ?_
  rintro e v1 ⟨rfl, hb⟩
  clear kS0 kS1 kS2 kS3 kS4 kS5 kS6 kS7 kS8 kS9 kS10 kS11 kS12 kC0 kC1 kC2 kC3 kC4 kC5 kU0 kU1 kD0 kD1
  have HS := Lib.hid (Blk.next (w := V0) HS.out hb)
  have HC := Lib.hid (Blk.next (w := V0) HC.out hb)
  have HU := Lib.hid (Blk.next (w := V0) HU.out hb)
  have HD := Lib.hid (Blk.next (w := V0) HD.out hb)
  have EE := Lib.hid (EE.out.trans (hb.mono EE.out.size))
  clear hb
  have kS0 : v1.cell? ⟨w.heap.size, 0, none⟩ = some (.int .i64 (s 0)) := HS.out.cell 0
  have kS1 : v1.cell? ⟨w.heap.size, 1, none⟩ = some (.int .i64 (s 1)) := HS.out.cell 1
  have kS2 : v1.cell? ⟨w.heap.size, 2, none⟩ = some (.int .i64 (s 2)) := HS.out.cell 2
  have kS3 : v1.cell? ⟨w.heap.size, 3, none⟩ = some (.int .i64 (s 3)) := HS.out.cell 3
  have kS4 : v1.cell? ⟨w.heap.size, 4, none⟩ = some (.int .i64 (s 4)) := HS.out.cell 4
  have kS5 : v1.cell? ⟨w.heap.size, 5, none⟩ = some (.int .i64 (s 5)) := HS.out.cell 5
  have kS6 : v1.cell? ⟨w.heap.size, 6, none⟩ = some (.int .i64 (s 6)) := HS.out.cell 6
  have kS7 : v1.cell? ⟨w.heap.size, 7, none⟩ = some (.int .i64 (s 7)) := HS.out.cell 7
  have kS8 : v1.cell? ⟨w.heap.size, 8, none⟩ = some (.slice SA sn sc) := HS.out.cell 8
  have kS9 : v1.cell? ⟨w.heap.size, 9, none⟩ = some (.int .i64 (s 9)) := HS.out.cell 9
  have kS10 : v1.cell? ⟨w.heap.size, 10, none⟩ = some (.int .i64 (s 10)) := HS.out.cell 10
  have kS11 : v1.cell? ⟨w.heap.size, 11, none⟩ = some (.int .i64 (s 11)) := HS.out.cell 11
  have kS12 : v1.cell? ⟨w.heap.size, 12, none⟩ = some (.int .i64 (s 12)) := HS.out.cell 12
  have kC0 : v1.cell? ⟨w.heap.size + 1, 0, none⟩ = some (.int .i64 p) := HC.out.cell 0
  have kC1 : v1.cell? ⟨w.heap.size + 1, 1, none⟩ = some (.int .i64 d) := HC.out.cell 1
  have kC2 : v1.cell? ⟨w.heap.size + 1, 2, none⟩ = some (.int .i64 md) := HC.out.cell 2
  have kC3 : v1.cell? ⟨w.heap.size + 1, 3, none⟩ = some (.int .i64 le) := HC.out.cell 3
  have kC4 : v1.cell? ⟨w.heap.size + 1, 4, none⟩ = some (.bool wa) := HC.out.cell 4
  have kC5 : v1.cell? ⟨w.heap.size + 1, 5, none⟩ = some (.slice A n c) := HC.out.cell 5
  have kU0 : v1.cell? ⟨w.heap.size + 1 + 1, 0, none⟩ = some (.int .u64 a0) := HU.out.cell 0
  have kU1 : v1.cell? ⟨w.heap.size + 1 + 1, 1, none⟩ = some (.int .u64 a1) := HU.out.cell 1
  have kD0 : v1.cell? ⟨w.heap.size + 1 + 1 + 1, 0, none⟩ = some (.int .u64 b0) := HD.out.cell 0
  have kD1 : v1.cell? ⟨w.heap.size + 1 + 1 + 1, 1, none⟩ = some (.int .u64 b1) := HD.out.cell 1
  have lS := HS.out.lt
  have lC := HC.out.lt
  have lU := HU.out.lt
  have lD := HD.out.lt
  go_wp2_with fail
  clear kS0 kS1 kS2 kS3 kS4 kS5 kS6 kS7 kS8 kS9 kS10 kS11 kS12 kC0 kC1 kC2 kC3 kC4 kC5 kU0 kU1 kD0 kD1 lS lC lU lD
  have GS : Blk (v1.alloc (.cells #[.int .u64 t0, .int .u64 t1w, .int .u64 u0, .int .u64 u1, .int .u64 l0, .int .u64 l1] 56)) (w.heap.size) 25 #[.int .i64 (s 0), .int .i64 (s 1), .int .i64 (s 2), .int .i64 (s 3), .int .i64 (s 4), .int .i64 (s 5), .int .i64 (s 6), .int .i64 (s 7), .slice SA sn sc, .int .i64 (s 9), .int .i64 (s 10), .int .i64 (s 11), .int .i64 (s 12)] := HS.out.alloc (.cells #[.int .u64 t0, .int .u64 t1w, .int .u64 u0, .int .u64 u1, .int .u64 l0, .int .u64 l1] 56)
  have GC : Blk (v1.alloc (.cells #[.int .u64 t0, .int .u64 t1w, .int .u64 u0, .int .u64 u1, .int .u64 l0, .int .u64 l1] 56)) (w.heap.size + 1) 29 #[.int .i64 p, .int .i64 d, .int .i64 md, .int .i64 le, .bool wa, .slice A n c] := HC.out.alloc (.cells #[.int .u64 t0, .int .u64 t1w, .int .u64 u0, .int .u64 u1, .int .u64 l0, .int .u64 l1] 56)
  have GU : Blk (v1.alloc (.cells #[.int .u64 t0, .int .u64 t1w, .int .u64 u0, .int .u64 u1, .int .u64 l0, .int .u64 l1] 56)) (w.heap.size + 1 + 1) 32 #[.int .u64 a0, .int .u64 a1] := HU.out.alloc (.cells #[.int .u64 t0, .int .u64 t1w, .int .u64 u0, .int .u64 u1, .int .u64 l0, .int .u64 l1] 56)
  have GD : Blk (v1.alloc (.cells #[.int .u64 t0, .int .u64 t1w, .int .u64 u0, .int .u64 u1, .int .u64 l0, .int .u64 l1] 56)) (w.heap.size + 1 + 1 + 1) 32 #[.int .u64 b0, .int .u64 b1] := HD.out.alloc (.cells #[.int .u64 t0, .int .u64 t1w, .int .u64 u0, .int .u64 u1, .int .u64 l0, .int .u64 l1] 56)
  have GW : Blk (v1.alloc (.cells #[.int .u64 t0, .int .u64 t1w, .int .u64 u0, .int .u64 u1, .int .u64 l0, .int .u64 l1] 56)) (v1.heap.size) 56 #[.int .u64 t0, .int .u64 t1w, .int .u64 u0, .int .u64 u1, .int .u64 l0, .int .u64 l1] := Blk.new v1 _ _
  have GE : Below w.heap.size w (v1.alloc (.cells #[.int .u64 t0, .int .u64 t1w, .int .u64 u0, .int .u64 u1, .int .u64 l0, .int .u64 l1] 56)) := EE.out.alloc EE.out.size (.cells #[.int .u64 t0, .int .u64 t1w, .int .u64 u0, .int .u64 u1, .int .u64 l0, .int .u64 l1] 56)
  obtain ⟨gw, hgw⟩ : ∃ g, v1.heap.size = g := ⟨_, rfl⟩
  have ne4_0 : gw ≠ w.heap.size := by have := HS.out.lt; omega
  have ne0_4 : w.heap.size ≠ gw := by have := HS.out.lt; omega
  have ne4_1 : gw ≠ w.heap.size + 1 := by have := HC.out.lt; omega
  have ne1_4 : w.heap.size + 1 ≠ gw := by have := HC.out.lt; omega
  have ne4_2 : gw ≠ w.heap.size + 1 + 1 := by have := HU.out.lt; omega
  have ne2_4 : w.heap.size + 1 + 1 ≠ gw := by have := HU.out.lt; omega
  have ne4_3 : gw ≠ w.heap.size + 1 + 1 + 1 := by have := HD.out.lt; omega
  have ne3_4 : w.heap.size + 1 + 1 + 1 ≠ gw := by have := HD.out.lt; omega
  have gegw : w.heap.size ≤ gw := by have := EE.out.size; omega
  rw [hgw] at GW ⊢
  clear hgw
  obtain ⟨v2, hv2⟩ : ∃ V, (v1.alloc (.cells #[.int .u64 t0, .int .u64 t1w, .int .u64 u0, .int .u64 u1, .int .u64 l0, .int .u64 l1] 56)) = V := ⟨_, rfl⟩
  rw [hv2] at GS GC GU GD GW GE ⊢
  have HS := Lib.hid GS
  have HC := Lib.hid GC
  have HU := Lib.hid GU
  have HD := Lib.hid GD
  have HW := Lib.hid GW
  have EE := Lib.hid GE
  clear hv2 GS GC GU GD GW GE
  have kS0 : v2.cell? ⟨w.heap.size, 0, none⟩ = some (.int .i64 (s 0)) := HS.out.cell 0
  have kS1 : v2.cell? ⟨w.heap.size, 1, none⟩ = some (.int .i64 (s 1)) := HS.out.cell 1
  have kS2 : v2.cell? ⟨w.heap.size, 2, none⟩ = some (.int .i64 (s 2)) := HS.out.cell 2
  have kS3 : v2.cell? ⟨w.heap.size, 3, none⟩ = some (.int .i64 (s 3)) := HS.out.cell 3
  have kS4 : v2.cell? ⟨w.heap.size, 4, none⟩ = some (.int .i64 (s 4)) := HS.out.cell 4
  have kS5 : v2.cell? ⟨w.heap.size, 5, none⟩ = some (.int .i64 (s 5)) := HS.out.cell 5
  have kS6 : v2.cell? ⟨w.heap.size, 6, none⟩ = some (.int .i64 (s 6)) := HS.out.cell 6
  have kS7 : v2.cell? ⟨w.heap.size, 7, none⟩ = some (.int .i64 (s 7)) := HS.out.cell 7
  have kS8 : v2.cell? ⟨w.heap.size, 8, none⟩ = some (.slice SA sn sc) := HS.out.cell 8
  have kS9 : v2.cell? ⟨w.heap.size, 9, none⟩ = some (.int .i64 (s 9)) := HS.out.cell 9
  have kS10 : v2.cell? ⟨w.heap.size, 10, none⟩ = some (.int .i64 (s 10)) := HS.out.cell 10
  have kS11 : v2.cell? ⟨w.heap.size, 11, none⟩ = some (.int .i64 (s 11)) := HS.out.cell 11
  have kS12 : v2.cell? ⟨w.heap.size, 12, none⟩ = some (.int .i64 (s 12)) := HS.out.cell 12
  have kC0 : v2.cell? ⟨w.heap.size + 1, 0, none⟩ = some (.int .i64 p) := HC.out.cell 0
  have kC1 : v2.cell? ⟨w.heap.size + 1, 1, none⟩ = some (.int .i64 d) := HC.out.cell 1
  have kC2 : v2.cell? ⟨w.heap.size + 1, 2, none⟩ = some (.int .i64 md) := HC.out.cell 2
  have kC3 : v2.cell? ⟨w.heap.size + 1, 3, none⟩ = some (.int .i64 le) := HC.out.cell 3
  have kC4 : v2.cell? ⟨w.heap.size + 1, 4, none⟩ = some (.bool wa) := HC.out.cell 4
  have kC5 : v2.cell? ⟨w.heap.size + 1, 5, none⟩ = some (.slice A n c) := HC.out.cell 5
  have kU0 : v2.cell? ⟨w.heap.size + 1 + 1, 0, none⟩ = some (.int .u64 a0) := HU.out.cell 0
  have kU1 : v2.cell? ⟨w.heap.size + 1 + 1, 1, none⟩ = some (.int .u64 a1) := HU.out.cell 1
  have kD0 : v2.cell? ⟨w.heap.size + 1 + 1 + 1, 0, none⟩ = some (.int .u64 b0) := HD.out.cell 0
  have kD1 : v2.cell? ⟨w.heap.size + 1 + 1 + 1, 1, none⟩ = some (.int .u64 b1) := HD.out.cell 1
  have kW0 : v2.cell? ⟨gw, 0, none⟩ = some (.int .u64 t0) := HW.out.cell 0
  have kW1 : v2.cell? ⟨gw, 1, none⟩ = some (.int .u64 t1w) := HW.out.cell 1
  have kW2 : v2.cell? ⟨gw, 2, none⟩ = some (.int .u64 u0) := HW.out.cell 2
  have kW3 : v2.cell? ⟨gw, 3, none⟩ = some (.int .u64 u1) := HW.out.cell 3
  have kW4 : v2.cell? ⟨gw, 4, none⟩ = some (.int .u64 l0) := HW.out.cell 4
  have kW5 : v2.cell? ⟨gw, 5, none⟩ = some (.int .u64 l1) := HW.out.cell 5
  refine (NX.out _).mono ?_
  rintro e v3 ⟨rfl, kk, hk⟩
  have hb : Below v2.heap.size v2 v3 := by rw [hk]; exact below_drewN (Below.refl _ _) kk
  clear hk
  clear kS0 kS1 kS2 kS3 kS4 kS5 kS6 kS7 kS8 kS9 kS10 kS11 kS12 kC0 kC1 kC2 kC3 kC4 kC5 kU0 kU1 kD0 kD1 kW0 kW1 kW2 kW3 kW4 kW5
  have HS := Lib.hid (Blk.next (w := v2) HS.out hb)
  have HC := Lib.hid (Blk.next (w := v2) HC.out hb)
  have HU := Lib.hid (Blk.next (w := v2) HU.out hb)
  have HD := Lib.hid (Blk.next (w := v2) HD.out hb)
  have HW := Lib.hid (Blk.next (w := v2) HW.out hb)
  have EE := Lib.hid (EE.out.trans (hb.mono EE.out.size))
  clear hb
  have kS0 : v3.cell? ⟨w.heap.size, 0, none⟩ = some (.int .i64 (s 0)) := HS.out.cell 0
  have kS1 : v3.cell? ⟨w.heap.size, 1, none⟩ = some (.int .i64 (s 1)) := HS.out.cell 1
  have kS2 : v3.cell? ⟨w.heap.size, 2, none⟩ = some (.int .i64 (s 2)) := HS.out.cell 2
  have kS3 : v3.cell? ⟨w.heap.size, 3, none⟩ = some (.int .i64 (s 3)) := HS.out.cell 3
  have kS4 : v3.cell? ⟨w.heap.size, 4, none⟩ = some (.int .i64 (s 4)) := HS.out.cell 4
  have kS5 : v3.cell? ⟨w.heap.size, 5, none⟩ = some (.int .i64 (s 5)) := HS.out.cell 5
  have kS6 : v3.cell? ⟨w.heap.size, 6, none⟩ = some (.int .i64 (s 6)) := HS.out.cell 6
  have kS7 : v3.cell? ⟨w.heap.size, 7, none⟩ = some (.int .i64 (s 7)) := HS.out.cell 7
  have kS8 : v3.cell? ⟨w.heap.size, 8, none⟩ = some (.slice SA sn sc) := HS.out.cell 8
  have kS9 : v3.cell? ⟨w.heap.size, 9, none⟩ = some (.int .i64 (s 9)) := HS.out.cell 9
  have kS10 : v3.cell? ⟨w.heap.size, 10, none⟩ = some (.int .i64 (s 10)) := HS.out.cell 10
  have kS11 : v3.cell? ⟨w.heap.size, 11, none⟩ = some (.int .i64 (s 11)) := HS.out.cell 11
  have kS12 : v3.cell? ⟨w.heap.size, 12, none⟩ = some (.int .i64 (s 12)) := HS.out.cell 12
  have kC0 : v3.cell? ⟨w.heap.size + 1, 0, none⟩ = some (.int .i64 p) := HC.out.cell 0
  have kC1 : v3.cell? ⟨w.heap.size + 1, 1, none⟩ = some (.int .i64 d) := HC.out.cell 1
  have kC2 : v3.cell? ⟨w.heap.size + 1, 2, none⟩ = some (.int .i64 md) := HC.out.cell 2
  have kC3 : v3.cell? ⟨w.heap.size + 1, 3, none⟩ = some (.int .i64 le) := HC.out.cell 3
  have kC4 : v3.cell? ⟨w.heap.size + 1, 4, none⟩ = some (.bool wa) := HC.out.cell 4
  have kC5 : v3.cell? ⟨w.heap.size + 1, 5, none⟩ = some (.slice A n c) := HC.out.cell 5
  have kU0 : v3.cell? ⟨w.heap.size + 1 + 1, 0, none⟩ = some (.int .u64 a0) := HU.out.cell 0
  have kU1 : v3.cell? ⟨w.heap.size + 1 + 1, 1, none⟩ = some (.int .u64 a1) := HU.out.cell 1
  have kD0 : v3.cell? ⟨w.heap.size + 1 + 1 + 1, 0, none⟩ = some (.int .u64 b0) := HD.out.cell 0
  have kD1 : v3.cell? ⟨w.heap.size + 1 + 1 + 1, 1, none⟩ = some (.int .u64 b1) := HD.out.cell 1
  have kW0 : v3.cell? ⟨gw, 0, none⟩ = some (.int .u64 t0) := HW.out.cell 0
  have kW1 : v3.cell? ⟨gw, 1, none⟩ = some (.int .u64 t1w) := HW.out.cell 1
  have kW2 : v3.cell? ⟨gw, 2, none⟩ = some (.int .u64 u0) := HW.out.cell 2
  have kW3 : v3.cell? ⟨gw, 3, none⟩ = some (.int .u64 u1) := HW.out.cell 3
  have kW4 : v3.cell? ⟨gw, 4, none⟩ = some (.int .u64 l0) := HW.out.cell 4
  have kW5 : v3.cell? ⟨gw, 5, none⟩ = some (.int .u64 l1) := HW.out.cell 5
  go_wp2_with fail
  go_loopw [11, 12, 13] (fun a b i wr => ∃ (j : Nat) (t fl : Int), j ≤ 127 ∧ a = .int .i64 t ∧ b = .int .i64 fl ∧ i = .int .i64 j ∧ 0 ≤ t ∧ t ≤ 16 + 16 * (j : Int) ∧ 0 ≤ fl ∧ fl ≤ s 0 - 1 ∧ Hid (t = T0 + s 1 * (j : Int)) ∧ Hid (fl = F0 + (j : Int) * d) ∧ Hid (∀ i : Nat, i < j → PF (F0 + (i : Int) * d) = true) ∧ Below v3.heap.size v3 wr) (fun _ _ i _ => 128 - (intOf i).toNat)
  case atStart => exact ⟨0, T0, F0, by omega, rfl, rfl, rfl, by omega, by omega, F00, F01, Lib.hid (by simp), Lib.hid (by simp), Lib.hid (fun i hi => absurd hi (by omega)), Below.refl _ _⟩
  case round =>
    obtain ⟨j, t, fl, hj, rfl, rfl, rfl, t00, t10, f00, f10, HT, HF, HA, hb⟩ := hrel
    have HBw := Lib.hid hb
    have hj0 : (0 : Int) ≤ (j : Int) := Int.natCast_nonneg _
    have hj1 : (j : Int) ≤ 127 := by omega
    clear kS0 kS1 kS2 kS3 kS4 kS5 kS6 kS7 kS8 kS9 kS10 kS11 kS12 kC0 kC1 kC2 kC3 kC4 kC5 kU0 kU1 kD0 kD1 kW0 kW1 kW2 kW3 kW4 kW5
    have HS := Lib.hid (Blk.next (w := v3) HS.out hb)
    have HC := Lib.hid (Blk.next (w := v3) HC.out hb)
    have HU := Lib.hid (Blk.next (w := v3) HU.out hb)
    have HD := Lib.hid (Blk.next (w := v3) HD.out hb)
    have HW := Lib.hid (Blk.next (w := v3) HW.out hb)
    have EE := Lib.hid (EE.out.trans (hb.mono EE.out.size))
    clear hb
    have kS0 : wr.cell? ⟨w.heap.size, 0, none⟩ = some (.int .i64 (s 0)) := HS.out.cell 0
    have kS1 : wr.cell? ⟨w.heap.size, 1, none⟩ = some (.int .i64 (s 1)) := HS.out.cell 1
    have kS2 : wr.cell? ⟨w.heap.size, 2, none⟩ = some (.int .i64 (s 2)) := HS.out.cell 2
    have kS3 : wr.cell? ⟨w.heap.size, 3, none⟩ = some (.int .i64 (s 3)) := HS.out.cell 3
    have kS4 : wr.cell? ⟨w.heap.size, 4, none⟩ = some (.int .i64 (s 4)) := HS.out.cell 4
    have kS5 : wr.cell? ⟨w.heap.size, 5, none⟩ = some (.int .i64 (s 5)) := HS.out.cell 5
    have kS6 : wr.cell? ⟨w.heap.size, 6, none⟩ = some (.int .i64 (s 6)) := HS.out.cell 6
    have kS7 : wr.cell? ⟨w.heap.size, 7, none⟩ = some (.int .i64 (s 7)) := HS.out.cell 7
    have kS8 : wr.cell? ⟨w.heap.size, 8, none⟩ = some (.slice SA sn sc) := HS.out.cell 8
    have kS9 : wr.cell? ⟨w.heap.size, 9, none⟩ = some (.int .i64 (s 9)) := HS.out.cell 9
    have kS10 : wr.cell? ⟨w.heap.size, 10, none⟩ = some (.int .i64 (s 10)) := HS.out.cell 10
    have kS11 : wr.cell? ⟨w.heap.size, 11, none⟩ = some (.int .i64 (s 11)) := HS.out.cell 11
    have kS12 : wr.cell? ⟨w.heap.size, 12, none⟩ = some (.int .i64 (s 12)) := HS.out.cell 12
    have kC0 : wr.cell? ⟨w.heap.size + 1, 0, none⟩ = some (.int .i64 p) := HC.out.cell 0
    have kC1 : wr.cell? ⟨w.heap.size + 1, 1, none⟩ = some (.int .i64 d) := HC.out.cell 1
    have kC2 : wr.cell? ⟨w.heap.size + 1, 2, none⟩ = some (.int .i64 md) := HC.out.cell 2
    have kC3 : wr.cell? ⟨w.heap.size + 1, 3, none⟩ = some (.int .i64 le) := HC.out.cell 3
    have kC4 : wr.cell? ⟨w.heap.size + 1, 4, none⟩ = some (.bool wa) := HC.out.cell 4
    have kC5 : wr.cell? ⟨w.heap.size + 1, 5, none⟩ = some (.slice A n c) := HC.out.cell 5
    have kU0 : wr.cell? ⟨w.heap.size + 1 + 1, 0, none⟩ = some (.int .u64 a0) := HU.out.cell 0
    have kU1 : wr.cell? ⟨w.heap.size + 1 + 1, 1, none⟩ = some (.int .u64 a1) := HU.out.cell 1
    have kD0 : wr.cell? ⟨w.heap.size + 1 + 1 + 1, 0, none⟩ = some (.int .u64 b0) := HD.out.cell 0
    have kD1 : wr.cell? ⟨w.heap.size + 1 + 1 + 1, 1, none⟩ = some (.int .u64 b1) := HD.out.cell 1
    have kW0 : wr.cell? ⟨gw, 0, none⟩ = some (.int .u64 t0) := HW.out.cell 0
    have kW1 : wr.cell? ⟨gw, 1, none⟩ = some (.int .u64 t1w) := HW.out.cell 1
    have kW2 : wr.cell? ⟨gw, 2, none⟩ = some (.int .u64 u0) := HW.out.cell 2
    have kW3 : wr.cell? ⟨gw, 3, none⟩ = some (.int .u64 u1) := HW.out.cell 3
    have kW4 : wr.cell? ⟨gw, 4, none⟩ = some (.int .u64 l0) := HW.out.cell 4
    have kW5 : wr.cell? ⟨gw, 5, none⟩ = some (.int .u64 l1) := HW.out.cell 5
    obtain ⟨pb, hpb⟩ : ∃ b, PF fl = b := ⟨_, rfl⟩
    have PAf := Lib.hid (PA.out fl)
    rw [hpb] at PAf
    cases pb
    · have HN := Lib.hid hpb
      clear hpb
      go_wp2_with fail
      refine (PAf.out _ (HRd.out.kept EE.out)).mono ?_
      rintro e v9 ⟨rfl, hb⟩
      clear PAf
      clear kS0 kS1 kS2 kS3 kS4 kS5 kS6 kS7 kS8 kS9 kS10 kS11 kS12 kC0 kC1 kC2 kC3 kC4 kC5 kU0 kU1 kD0 kD1 kW0 kW1 kW2 kW3 kW4 kW5
      have HS := Lib.hid (Blk.next (w := wr) HS.out hb)
      have HC := Lib.hid (Blk.next (w := wr) HC.out hb)
      have HU := Lib.hid (Blk.next (w := wr) HU.out hb)
      have HD := Lib.hid (Blk.next (w := wr) HD.out hb)
      have HW := Lib.hid (Blk.next (w := wr) HW.out hb)
      have EE := Lib.hid (EE.out.trans (hb.mono EE.out.size))
      clear hb
      have kS0 : v9.cell? ⟨w.heap.size, 0, none⟩ = some (.int .i64 (s 0)) := HS.out.cell 0
      have kS1 : v9.cell? ⟨w.heap.size, 1, none⟩ = some (.int .i64 (s 1)) := HS.out.cell 1
      have kS2 : v9.cell? ⟨w.heap.size, 2, none⟩ = some (.int .i64 (s 2)) := HS.out.cell 2
      have kS3 : v9.cell? ⟨w.heap.size, 3, none⟩ = some (.int .i64 (s 3)) := HS.out.cell 3
      have kS4 : v9.cell? ⟨w.heap.size, 4, none⟩ = some (.int .i64 (s 4)) := HS.out.cell 4
      have kS5 : v9.cell? ⟨w.heap.size, 5, none⟩ = some (.int .i64 (s 5)) := HS.out.cell 5
      have kS6 : v9.cell? ⟨w.heap.size, 6, none⟩ = some (.int .i64 (s 6)) := HS.out.cell 6
      have kS7 : v9.cell? ⟨w.heap.size, 7, none⟩ = some (.int .i64 (s 7)) := HS.out.cell 7
      have kS8 : v9.cell? ⟨w.heap.size, 8, none⟩ = some (.slice SA sn sc) := HS.out.cell 8
      have kS9 : v9.cell? ⟨w.heap.size, 9, none⟩ = some (.int .i64 (s 9)) := HS.out.cell 9
      have kS10 : v9.cell? ⟨w.heap.size, 10, none⟩ = some (.int .i64 (s 10)) := HS.out.cell 10
      have kS11 : v9.cell? ⟨w.heap.size, 11, none⟩ = some (.int .i64 (s 11)) := HS.out.cell 11
      have kS12 : v9.cell? ⟨w.heap.size, 12, none⟩ = some (.int .i64 (s 12)) := HS.out.cell 12
      have kC0 : v9.cell? ⟨w.heap.size + 1, 0, none⟩ = some (.int .i64 p) := HC.out.cell 0
      have kC1 : v9.cell? ⟨w.heap.size + 1, 1, none⟩ = some (.int .i64 d) := HC.out.cell 1
      have kC2 : v9.cell? ⟨w.heap.size + 1, 2, none⟩ = some (.int .i64 md) := HC.out.cell 2
      have kC3 : v9.cell? ⟨w.heap.size + 1, 3, none⟩ = some (.int .i64 le) := HC.out.cell 3
      have kC4 : v9.cell? ⟨w.heap.size + 1, 4, none⟩ = some (.bool wa) := HC.out.cell 4
      have kC5 : v9.cell? ⟨w.heap.size + 1, 5, none⟩ = some (.slice A n c) := HC.out.cell 5
      have kU0 : v9.cell? ⟨w.heap.size + 1 + 1, 0, none⟩ = some (.int .u64 a0) := HU.out.cell 0
      have kU1 : v9.cell? ⟨w.heap.size + 1 + 1, 1, none⟩ = some (.int .u64 a1) := HU.out.cell 1
      have kD0 : v9.cell? ⟨w.heap.size + 1 + 1 + 1, 0, none⟩ = some (.int .u64 b0) := HD.out.cell 0
      have kD1 : v9.cell? ⟨w.heap.size + 1 + 1 + 1, 1, none⟩ = some (.int .u64 b1) := HD.out.cell 1
      have kW0 : v9.cell? ⟨gw, 0, none⟩ = some (.int .u64 t0) := HW.out.cell 0
      have kW1 : v9.cell? ⟨gw, 1, none⟩ = some (.int .u64 t1w) := HW.out.cell 1
      have kW2 : v9.cell? ⟨gw, 2, none⟩ = some (.int .u64 u0) := HW.out.cell 2
      have kW3 : v9.cell? ⟨gw, 3, none⟩ = some (.int .u64 u1) := HW.out.cell 3
      have kW4 : v9.cell? ⟨gw, 4, none⟩ = some (.int .u64 l0) := HW.out.cell 4
      have kW5 : v9.cell? ⟨gw, 5, none⟩ = some (.int .u64 l1) := HW.out.cell 5
      go_wp2_with fail
      go_ret2
      exact FIN.out j t fl _ HT.out HF.out f00 f10 (by omega) HA.out HN.out EE.out
    · have HB := hP.out fl f00 f10 hpb
      have HA1 : Hid (∀ i : Nat, i < j + 1 → PF (F0 + (i : Int) * d) = true) := Lib.hid fun i hi => by
        by_cases ei : i = j
        · rw [ei, ← HF.out]; exact hpb
        · exact HA.out i (by omega)
      have HT1 : Hid (t + s 1 = T0 + s 1 * ((j + 1 : Nat) : Int)) := Lib.hid (by
        have h := HT.out
        have e2 : s 1 * ((j + 1 : Nat) : Int) = s 1 * j + s 1 := by rw [Int.natCast_add, Int.mul_add]; simp
        rw [e2]; omega)
      have HF1 : Hid (fl + d = F0 + ((j + 1 : Nat) : Int) * d) := Lib.hid (by
        have h := HF.out
        have e2 : ((j + 1 : Nat) : Int) * d = j * d + d := by rw [Int.natCast_add, Int.add_mul]; simp
        rw [e2]; omega)
      have hj2 : j + 1 ≤ 127 := steps_bd HDd.out F00 F01 (by rw [← HF1.out]; exact HB.1) (by rw [← HF1.out]; exact HB.2) h0'
      obtain ⟨HB0, HB1⟩ := HB
      clear hpb
      go_wp2_with fail
      refine (PAf.out _ (HRd.out.kept EE.out)).mono ?_
      rintro e v9 ⟨rfl, hb9⟩
      clear PAf
      have hb : Below wr.heap.size wr v9 := hb9
      have HBW := Lib.hid (HBw.out.trans (hb.mono HBw.out.size))
      clear hb9
      clear kS0 kS1 kS2 kS3 kS4 kS5 kS6 kS7 kS8 kS9 kS10 kS11 kS12 kC0 kC1 kC2 kC3 kC4 kC5 kU0 kU1 kD0 kD1 kW0 kW1 kW2 kW3 kW4 kW5
      have HS := Lib.hid (Blk.next (w := wr) HS.out hb)
      have HC := Lib.hid (Blk.next (w := wr) HC.out hb)
      have HU := Lib.hid (Blk.next (w := wr) HU.out hb)
      have HD := Lib.hid (Blk.next (w := wr) HD.out hb)
      have HW := Lib.hid (Blk.next (w := wr) HW.out hb)
      have EE := Lib.hid (EE.out.trans (hb.mono EE.out.size))
      clear hb
      have kS0 : v9.cell? ⟨w.heap.size, 0, none⟩ = some (.int .i64 (s 0)) := HS.out.cell 0
      have kS1 : v9.cell? ⟨w.heap.size, 1, none⟩ = some (.int .i64 (s 1)) := HS.out.cell 1
      have kS2 : v9.cell? ⟨w.heap.size, 2, none⟩ = some (.int .i64 (s 2)) := HS.out.cell 2
      have kS3 : v9.cell? ⟨w.heap.size, 3, none⟩ = some (.int .i64 (s 3)) := HS.out.cell 3
      have kS4 : v9.cell? ⟨w.heap.size, 4, none⟩ = some (.int .i64 (s 4)) := HS.out.cell 4
      have kS5 : v9.cell? ⟨w.heap.size, 5, none⟩ = some (.int .i64 (s 5)) := HS.out.cell 5
      have kS6 : v9.cell? ⟨w.heap.size, 6, none⟩ = some (.int .i64 (s 6)) := HS.out.cell 6
      have kS7 : v9.cell? ⟨w.heap.size, 7, none⟩ = some (.int .i64 (s 7)) := HS.out.cell 7
      have kS8 : v9.cell? ⟨w.heap.size, 8, none⟩ = some (.slice SA sn sc) := HS.out.cell 8
      have kS9 : v9.cell? ⟨w.heap.size, 9, none⟩ = some (.int .i64 (s 9)) := HS.out.cell 9
      have kS10 : v9.cell? ⟨w.heap.size, 10, none⟩ = some (.int .i64 (s 10)) := HS.out.cell 10
      have kS11 : v9.cell? ⟨w.heap.size, 11, none⟩ = some (.int .i64 (s 11)) := HS.out.cell 11
      have kS12 : v9.cell? ⟨w.heap.size, 12, none⟩ = some (.int .i64 (s 12)) := HS.out.cell 12
      have kC0 : v9.cell? ⟨w.heap.size + 1, 0, none⟩ = some (.int .i64 p) := HC.out.cell 0
      have kC1 : v9.cell? ⟨w.heap.size + 1, 1, none⟩ = some (.int .i64 d) := HC.out.cell 1
      have kC2 : v9.cell? ⟨w.heap.size + 1, 2, none⟩ = some (.int .i64 md) := HC.out.cell 2
      have kC3 : v9.cell? ⟨w.heap.size + 1, 3, none⟩ = some (.int .i64 le) := HC.out.cell 3
      have kC4 : v9.cell? ⟨w.heap.size + 1, 4, none⟩ = some (.bool wa) := HC.out.cell 4
      have kC5 : v9.cell? ⟨w.heap.size + 1, 5, none⟩ = some (.slice A n c) := HC.out.cell 5
      have kU0 : v9.cell? ⟨w.heap.size + 1 + 1, 0, none⟩ = some (.int .u64 a0) := HU.out.cell 0
      have kU1 : v9.cell? ⟨w.heap.size + 1 + 1, 1, none⟩ = some (.int .u64 a1) := HU.out.cell 1
      have kD0 : v9.cell? ⟨w.heap.size + 1 + 1 + 1, 0, none⟩ = some (.int .u64 b0) := HD.out.cell 0
      have kD1 : v9.cell? ⟨w.heap.size + 1 + 1 + 1, 1, none⟩ = some (.int .u64 b1) := HD.out.cell 1
      have kW0 : v9.cell? ⟨gw, 0, none⟩ = some (.int .u64 t0) := HW.out.cell 0
      have kW1 : v9.cell? ⟨gw, 1, none⟩ = some (.int .u64 t1w) := HW.out.cell 1
      have kW2 : v9.cell? ⟨gw, 2, none⟩ = some (.int .u64 u0) := HW.out.cell 2
      have kW3 : v9.cell? ⟨gw, 3, none⟩ = some (.int .u64 u1) := HW.out.cell 3
      have kW4 : v9.cell? ⟨gw, 4, none⟩ = some (.int .u64 l0) := HW.out.cell 4
      have kW5 : v9.cell? ⟨gw, 5, none⟩ = some (.int .u64 l1) := HW.out.cell 5
      go_wp2_with fail
      go_roundw
      case rel => exact ⟨j + 1, t + s 1, fl + d, hj2, by go_num, by go_num, by go_num, by omega, by push_cast; omega, HB0, HB1, HT1, HF1, HA1, HBW.out⟩
      case measure => simp [intOf]; omega
end Go.Proofs.Ytffcmfpadaebdaa
