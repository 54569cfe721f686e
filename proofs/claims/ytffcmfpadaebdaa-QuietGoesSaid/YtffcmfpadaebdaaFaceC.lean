/- Whether a car stops. -/
import Derived.Test.YtffcmfpadaebdaaRows
import Derived.Test.YtffcmfpadaebdaaKitM
import Derived.Test.YtffcmfpadaebdaaBitM
import Derived.Test.YtffcmfpadaebdaaCarM
import Derived.Test.YtffcmfpadaebdaaFaceB
import Derived.WalkKit
import Derived.DeepKeys
import Derived.Deep.LoopGhost
import Derived.IntWalk
import Derived.Lib.Hide
import Derived.WalkSpells
import Derived.WalkLawsBesides
import Derived.Laws.CopyOwn
import Derived.Deep.QuietTactic
import Derived.Deep.RegionHeld3
import Derived.BigQuiet
import Derived.BigRegion
namespace Go.Proofs.Ytffcmfpadaebdaa
open Go.RowKit
set_option linter.unusedSimpArgs false
set_option linter.unusedVariables false
set_option maxRecDepth 100000 in
set_option maxHeartbeats 4000000 in
theorem stop_any (R W U D : Nat → Bool) (f p d md l : Int) (wa : Bool) (A : Option Addr) (n c : Nat) (z : Nat → Nat → Int) (w : World) (hr : RdZ w 2 A n z) (hl : n ≤ 1000000) (hR : rdF z n = R) :
    Calls Try.prog 26 #[sgtV W U D, carV p d md l wa A n c, .int .i64 f] w fun e w' => e = .returned (.bool (stopB R W U D f d)) ∧ Below w.heap.size w w' := by
  have HR := Lib.hid hr
  have RI := fun w hr => rides_any p d md l wa A n c z w hr hl
  have HA := fun w => has_any R f w
  have D1 := fun w => scall_any W U D f 1 w
  have D2 := fun w => scall_any W U D f (-1) w
  have C1 := fun w => scall_any W U D f d w
  have C2 := fun w => scall_any W U D f (othF d) w
  have Y1 := fun w => sbey_any W U D f d w
  have OT := fun w => other_any d w
  rw [hR] at RI
  unfold stopB
  unfold sgtV carV setV at *
  obtain ⟨w0, hw0⟩ : ∃ x, wordX W = x := ⟨_, rfl⟩
  obtain ⟨w1, hw1⟩ : ∃ x, wordY W = x := ⟨_, rfl⟩
  obtain ⟨u0, hu0⟩ : ∃ x, wordX U = x := ⟨_, rfl⟩
  obtain ⟨u1, hu1⟩ : ∃ x, wordY U = x := ⟨_, rfl⟩
  obtain ⟨d0, hd0⟩ : ∃ x, wordX D = x := ⟨_, rfl⟩
  obtain ⟨d1, hd1⟩ : ∃ x, wordY D = x := ⟨_, rfl⟩
  obtain ⟨r0, hr0⟩ : ∃ x, wordX R = x := ⟨_, rfl⟩
  obtain ⟨r1, hr1⟩ : ∃ x, wordY R = x := ⟨_, rfl⟩
  obtain ⟨q, hq⟩ : ∃ q, othF d = q := ⟨_, rfl⟩
  obtain ⟨bh, hbh⟩ : ∃ b, hasF R f = b := ⟨_, rfl⟩
  obtain ⟨e1, he1⟩ : ∃ b, callF U D f 1 = b := ⟨_, rfl⟩
  obtain ⟨e2, he2⟩ : ∃ b, callF U D f (-1) = b := ⟨_, rfl⟩
  obtain ⟨c1, hc1⟩ : ∃ b, callF U D f d = b := ⟨_, rfl⟩
  obtain ⟨y1, hy1⟩ : ∃ b, neF (byF W f d) = b := ⟨_, rfl⟩
  simp only [hw0, hw1, hu0, hu1, hd0, hd1, hr0, hr1, hq, hbh, he1, he2, hc1, hy1] at RI HA D1 D2 C1 C2 Y1 OT ⊢
  obtain ⟨c2, hc2⟩ : ∃ b, callF U D f q = b := ⟨_, rfl⟩
  simp only [hc2] at C2 ⊢
  have sK : ∀ W, Blk W w.heap.size 56 #[.int .u64 w0, .int .u64 w1, .int .u64 u0, .int .u64 u1, .int .u64 d0, .int .u64 d1] → Blk W (w.heap.size + 1) 29 #[.int .i64 p, .int .i64 d, .int .i64 md, .int .i64 l, .bool wa, .slice A n c] → (fun W => W.cell? ⟨w.heap.size, 0, none⟩ = some (.int .u64 w0) ∧ W.cell? ⟨w.heap.size, 1, none⟩ = some (.int .u64 w1) ∧ W.cell? ⟨w.heap.size, 2, none⟩ = some (.int .u64 u0) ∧ W.cell? ⟨w.heap.size, 3, none⟩ = some (.int .u64 u1) ∧ W.cell? ⟨w.heap.size, 4, none⟩ = some (.int .u64 d0) ∧ W.cell? ⟨w.heap.size, 5, none⟩ = some (.int .u64 d1) ∧ W.cell? ⟨w.heap.size + 1, 0, none⟩ = some (.int .i64 p) ∧ W.cell? ⟨w.heap.size + 1, 1, none⟩ = some (.int .i64 d) ∧ W.cell? ⟨w.heap.size + 1, 2, none⟩ = some (.int .i64 md) ∧ W.cell? ⟨w.heap.size + 1, 3, none⟩ = some (.int .i64 l) ∧ W.cell? ⟨w.heap.size + 1, 4, none⟩ = some (.bool wa) ∧ W.cell? ⟨w.heap.size + 1, 5, none⟩ = some (.slice A n c)) W := fun W h h' => ⟨h.cell 0, h.cell 1, h.cell 2, h.cell 3, h.cell 4, h.cell 5, h'.cell 0, h'.cell 1, h'.cell 2, h'.cell 3, h'.cell 4, h'.cell 5⟩
  replace RI := Lib.hid RI
  replace HA := Lib.hid HA
  replace D1 := Lib.hid D1
  replace D2 := Lib.hid D2
  replace C1 := Lib.hid C1
  replace C2 := Lib.hid C2
  replace Y1 := Lib.hid Y1
  replace OT := Lib.hid OT
  clear hw0 hw1 hu0 hu1 hd0 hd1 hr0 hr1 hq hbh he1 he2 hc1 hc2 hy1 hr hR
  cases bh
  case true =>
    clear sK
    go_enter Try.func26, Try.ntmps26
    go_wp2_with fail
    obtain ⟨A0, A1, _, BE⟩ := two_blk (w := w) (Below.refl _ ((w.alloc (.cells #[(.int .u64 w0 : Value), .int .u64 w1, .int .u64 u0, .int .u64 u1, .int .u64 d0, .int .u64 d1] 56)).alloc (.cells #[(.int .i64 p : Value), .int .i64 d, .int .i64 md, .int .i64 l, .bool wa, .slice A n c] 29)))
    obtain ⟨V, hV⟩ : ∃ V, (w.alloc (.cells #[(.int .u64 w0 : Value), .int .u64 w1, .int .u64 u0, .int .u64 u1, .int .u64 d0, .int .u64 d1] 56)).alloc (.cells #[(.int .i64 p : Value), .int .i64 d, .int .i64 md, .int .i64 l, .bool wa, .slice A n c] 29) = V := ⟨_, rfl⟩
    rw [hV] at A0 A1 BE ⊢
    have SBx := Lib.hid A0
    have CBx := Lib.hid A1
    have Ex := Lib.hid BE
    clear hV A0 A1 BE
    refine (RI.out V (HR.out.kept Ex.out)).mono ?_
    rintro e x1 ⟨rfl, hb⟩
    have SBy := Lib.hid (SBx.out.next hb)
    have CBy := Lib.hid (CBx.out.next hb)
    have Ey := Lib.hid (Ex.out.trans (hb.mono Ex.out.size))
    clear hb SBx CBx Ex
    go_wp2_with fail
    refine (HA.out _).mono ?_
    rintro e x2 ⟨rfl, hb⟩
    have SBz := Lib.hid (SBy.out.next hb)
    have CBz := Lib.hid (CBy.out.next hb)
    have Ez := Lib.hid (Ey.out.trans (hb.mono Ey.out.size))
    clear hb SBy CBy Ey
    obtain ⟨s0, s1, s2, s3, s4, s5⟩ := SBz.out.six
    obtain ⟨k0, k1, k2, k3, k4, k5⟩ := CBz.out.six
    go_wp2_with fail
    go_ret
    exact ⟨rfl, Ez.out⟩
  by_cases hd : d = 0
  · subst hd
    clear sK
    cases e1
    · go_enter Try.func26, Try.ntmps26
      go_wp2_with fail
      obtain ⟨A0, A1, _, BE⟩ := two_blk (w := w) (Below.refl _ ((w.alloc (.cells #[(.int .u64 w0 : Value), .int .u64 w1, .int .u64 u0, .int .u64 u1, .int .u64 d0, .int .u64 d1] 56)).alloc (.cells #[(.int .i64 p : Value), .int .i64 0, .int .i64 md, .int .i64 l, .bool wa, .slice A n c] 29)))
      obtain ⟨V, hV⟩ : ∃ V, (w.alloc (.cells #[(.int .u64 w0 : Value), .int .u64 w1, .int .u64 u0, .int .u64 u1, .int .u64 d0, .int .u64 d1] 56)).alloc (.cells #[(.int .i64 p : Value), .int .i64 0, .int .i64 md, .int .i64 l, .bool wa, .slice A n c] 29) = V := ⟨_, rfl⟩
      rw [hV] at A0 A1 BE ⊢
      have SBx := Lib.hid A0
      have CBx := Lib.hid A1
      have Ex := Lib.hid BE
      clear hV A0 A1 BE
      refine (RI.out V (HR.out.kept Ex.out)).mono ?_
      rintro e x1 ⟨rfl, hb⟩
      have SBy := Lib.hid (SBx.out.next hb)
      have CBy := Lib.hid (CBx.out.next hb)
      have Ey := Lib.hid (Ex.out.trans (hb.mono Ex.out.size))
      clear hb SBx CBx Ex
      go_wp2_with fail
      refine (HA.out _).mono ?_
      rintro e x2 ⟨rfl, hb⟩
      have SBz := Lib.hid (SBy.out.next hb)
      have CBz := Lib.hid (CBy.out.next hb)
      have Ez := Lib.hid (Ey.out.trans (hb.mono Ey.out.size))
      clear hb SBy CBy Ey
      obtain ⟨s0, s1, s2, s3, s4, s5⟩ := SBz.out.six
      obtain ⟨k0, k1, k2, k3, k4, k5⟩ := CBz.out.six
      go_wp2_with fail
      refine (D1.out _).mono ?_
      rintro e y1 ⟨rfl, hb⟩
      have SBz1 := Lib.hid (SBz.out.next hb)
      have CBz1 := Lib.hid (CBz.out.next hb)
      have Ez1 := Lib.hid (Ez.out.trans (hb.mono Ez.out.size))
      clear hb s0 s1 s2 s3 s4 s5 k0 k1 k2 k3 k4 k5
      obtain ⟨s0, s1, s2, s3, s4, s5⟩ := SBz1.out.six
      obtain ⟨k0, k1, k2, k3, k4, k5⟩ := CBz1.out.six
      go_wp2_with fail
      refine (D2.out _).mono ?_
      rintro e y2 ⟨rfl, hb⟩
      have SBz2 := Lib.hid (SBz1.out.next hb)
      have CBz2 := Lib.hid (CBz1.out.next hb)
      have Ez2 := Lib.hid (Ez1.out.trans (hb.mono Ez1.out.size))
      clear hb s0 s1 s2 s3 s4 s5 k0 k1 k2 k3 k4 k5
      obtain ⟨s0, s1, s2, s3, s4, s5⟩ := SBz2.out.six
      obtain ⟨k0, k1, k2, k3, k4, k5⟩ := CBz2.out.six
      go_wp2_with fail
      go_ret
      exact ⟨rfl, Ez2.out⟩
    · go_enter Try.func26, Try.ntmps26
      go_wp2_with fail
      obtain ⟨A0, A1, _, BE⟩ := two_blk (w := w) (Below.refl _ ((w.alloc (.cells #[(.int .u64 w0 : Value), .int .u64 w1, .int .u64 u0, .int .u64 u1, .int .u64 d0, .int .u64 d1] 56)).alloc (.cells #[(.int .i64 p : Value), .int .i64 0, .int .i64 md, .int .i64 l, .bool wa, .slice A n c] 29)))
      obtain ⟨V, hV⟩ : ∃ V, (w.alloc (.cells #[(.int .u64 w0 : Value), .int .u64 w1, .int .u64 u0, .int .u64 u1, .int .u64 d0, .int .u64 d1] 56)).alloc (.cells #[(.int .i64 p : Value), .int .i64 0, .int .i64 md, .int .i64 l, .bool wa, .slice A n c] 29) = V := ⟨_, rfl⟩
      rw [hV] at A0 A1 BE ⊢
      have SBx := Lib.hid A0
      have CBx := Lib.hid A1
      have Ex := Lib.hid BE
      clear hV A0 A1 BE
      refine (RI.out V (HR.out.kept Ex.out)).mono ?_
      rintro e x1 ⟨rfl, hb⟩
      have SBy := Lib.hid (SBx.out.next hb)
      have CBy := Lib.hid (CBx.out.next hb)
      have Ey := Lib.hid (Ex.out.trans (hb.mono Ex.out.size))
      clear hb SBx CBx Ex
      go_wp2_with fail
      refine (HA.out _).mono ?_
      rintro e x2 ⟨rfl, hb⟩
      have SBz := Lib.hid (SBy.out.next hb)
      have CBz := Lib.hid (CBy.out.next hb)
      have Ez := Lib.hid (Ey.out.trans (hb.mono Ey.out.size))
      clear hb SBy CBy Ey
      obtain ⟨s0, s1, s2, s3, s4, s5⟩ := SBz.out.six
      obtain ⟨k0, k1, k2, k3, k4, k5⟩ := CBz.out.six
      go_wp2_with fail
      refine (D1.out _).mono ?_
      rintro e y1 ⟨rfl, hb⟩
      have SBz1 := Lib.hid (SBz.out.next hb)
      have CBz1 := Lib.hid (CBz.out.next hb)
      have Ez1 := Lib.hid (Ez.out.trans (hb.mono Ez.out.size))
      clear hb s0 s1 s2 s3 s4 s5 k0 k1 k2 k3 k4 k5
      obtain ⟨s0, s1, s2, s3, s4, s5⟩ := SBz1.out.six
      obtain ⟨k0, k1, k2, k3, k4, k5⟩ := CBz1.out.six
      go_wp2_with fail
      go_ret
      exact ⟨rfl, Ez1.out⟩
  · have hdb : (d == 0) = false := by rw [beq_eq_false_iff_ne]; exact hd
    cases c1
    · cases c2
      · go_enter Try.func26, Try.ntmps26
        go_wp2_with fail
        obtain ⟨A0, A1, _, BE⟩ := two_blk (w := w) (Below.refl _ ((w.alloc (.cells #[(.int .u64 w0 : Value), .int .u64 w1, .int .u64 u0, .int .u64 u1, .int .u64 d0, .int .u64 d1] 56)).alloc (.cells #[(.int .i64 p : Value), .int .i64 d, .int .i64 md, .int .i64 l, .bool wa, .slice A n c] 29)))
        obtain ⟨V, hV⟩ : ∃ V, (w.alloc (.cells #[(.int .u64 w0 : Value), .int .u64 w1, .int .u64 u0, .int .u64 u1, .int .u64 d0, .int .u64 d1] 56)).alloc (.cells #[(.int .i64 p : Value), .int .i64 d, .int .i64 md, .int .i64 l, .bool wa, .slice A n c] 29) = V := ⟨_, rfl⟩
        rw [hV] at A0 A1 BE ⊢
        have SBx := Lib.hid A0
        have CBx := Lib.hid A1
        have Ex := Lib.hid BE
        clear hV A0 A1 BE
        refine (RI.out V (HR.out.kept Ex.out)).mono ?_
        rintro e x1 ⟨rfl, hb⟩
        have SBy := Lib.hid (SBx.out.next hb)
        have CBy := Lib.hid (CBx.out.next hb)
        have Ey := Lib.hid (Ex.out.trans (hb.mono Ex.out.size))
        clear hb SBx CBx Ex
        go_wp2_with fail
        refine (HA.out _).mono ?_
        rintro e x2 ⟨rfl, hb⟩
        have SBz := Lib.hid (SBy.out.next hb)
        have CBz := Lib.hid (CBy.out.next hb)
        have Ez := Lib.hid (Ey.out.trans (hb.mono Ey.out.size))
        clear hb SBy CBy Ey
        obtain ⟨s0, s1, s2, s3, s4, s5⟩ := SBz.out.six
        obtain ⟨k0, k1, k2, k3, k4, k5⟩ := CBz.out.six
        go_wp2_with fail
        have SBd := Lib.hid (SBz.out.drew)
        have CBd := Lib.hid (CBz.out.drew)
        have Ed := Lib.hid (Ez.out.drew)
        clear SBz CBz Ez s0 s1 s2 s3 s4 s5 k0 k1 k2 k3 k4 k5
        refine wp_region_held_drew (S := (fun W => W.cell? ⟨w.heap.size, 0, none⟩ = some (.int .u64 w0) ∧ W.cell? ⟨w.heap.size, 1, none⟩ = some (.int .u64 w1) ∧ W.cell? ⟨w.heap.size, 2, none⟩ = some (.int .u64 u0) ∧ W.cell? ⟨w.heap.size, 3, none⟩ = some (.int .u64 u1) ∧ W.cell? ⟨w.heap.size, 4, none⟩ = some (.int .u64 d0) ∧ W.cell? ⟨w.heap.size, 5, none⟩ = some (.int .u64 d1) ∧ W.cell? ⟨w.heap.size + 1, 0, none⟩ = some (.int .i64 p) ∧ W.cell? ⟨w.heap.size + 1, 1, none⟩ = some (.int .i64 d) ∧ W.cell? ⟨w.heap.size + 1, 2, none⟩ = some (.int .i64 md) ∧ W.cell? ⟨w.heap.size + 1, 3, none⟩ = some (.int .i64 l) ∧ W.cell? ⟨w.heap.size + 1, 4, none⟩ = some (.bool wa) ∧ W.cell? ⟨w.heap.size + 1, 5, none⟩ = some (.slice A n c))) (by kernel_rfl) (sK _ SBd.out CBd.out) (fun hHeld => ?_)
        clear hHeld
        have SB0 := SBd
        have CB0 := CBd
        have E0 := Ed
        refine wpAnyH_take (i := 0) (v := ?_) rfl (by kernel_rfl) (by kernel_rfl) (by kernel_rfl) (fun _ _ _ h => h) (Or.inl ⟨by rfl, ?_⟩) (sK _ SB0.out CB0.out) ?_
        rotate_left
        · (intro wS hSw; (try dsimp only at hSw); go_simp; try with_reducible rfl)
        simp only [Act.put, List.setIfInBounds_toArray, List.set_cons_zero, List.set_cons_succ]
        refine wpAnyH_take (i := 1) (v := ?_) rfl (by kernel_rfl) (by kernel_rfl) (by kernel_rfl) (fun _ _ _ h => h) (Or.inl ⟨by rfl, ?_⟩) (sK _ SB0.out CB0.out) ?_
        rotate_left
        · (intro wS hSw; (try dsimp only at hSw); go_simp; try with_reducible rfl)
        simp only [Act.put, List.setIfInBounds_toArray, List.set_cons_zero, List.set_cons_succ]
        refine wpAnyH_take (i := 2) (v := ?_) rfl (by kernel_rfl) (by kernel_rfl) (by kernel_rfl) (fun _ _ _ h => h) (Or.inl ⟨by rfl, ?_⟩) (sK _ SB0.out CB0.out) ?_
        rotate_left
        · (intro wS hSw; (try dsimp only at hSw); go_simp; try with_reducible rfl)
        simp only [Act.put, List.setIfInBounds_toArray, List.set_cons_zero, List.set_cons_succ]
        refine wpAnyH_take (i := 3) (v := ?_) rfl (by kernel_rfl) (by kernel_rfl) (by kernel_rfl) (fun _ _ _ h => h) (Or.inl ⟨by rfl, ?_⟩) (sK _ SB0.out CB0.out) ?_
        rotate_left
        · (intro wS hSw; (try dsimp only at hSw); go_simp; try with_reducible rfl)
        simp only [Act.put, List.setIfInBounds_toArray, List.set_cons_zero, List.set_cons_succ]
        refine wpAnyH_ready (rs := [4]) (by kernel_rfl) (by simp) ?_
        refine AllReadyH.cons rfl (fun K hK => ?_) AllReadyH.nil
        go_simp
        refine (C1.out _).mono ?_
        rintro e r1 ⟨rfl, hb⟩
        have SB1 := Lib.hid (SB0.out.next hb)
        have CB1 := Lib.hid (CB0.out.next hb)
        have E1 := Lib.hid (E0.out.trans (hb.mono E0.out.size))
        clear hb
        go_wp2_with fail
        refine hK.out _ _ (sK _ SB1.out CB1.out) (fun hHeld => ?_)
        clear hK K hHeld
        try simp only [Act.put, List.setIfInBounds_toArray, List.set_cons_zero, List.set_cons_succ]
        refine wpAnyH_take (i := 5) (v := ?_) rfl (by kernel_rfl) (by kernel_rfl) (by kernel_rfl) (fun _ _ _ h => h) (Or.inl ⟨by rfl, ?_⟩) (sK _ SB1.out CB1.out) ?_
        rotate_left
        · (intro wS hSw; (try dsimp only at hSw); go_simp; try with_reducible rfl)
        simp only [Act.put, List.setIfInBounds_toArray, List.set_cons_zero, List.set_cons_succ]
        refine wpAnyH_take (i := 6) (v := ?_) rfl (by kernel_rfl) (by kernel_rfl) (by kernel_rfl) (fun _ _ _ h => h) (Or.inl ⟨by rfl, ?_⟩) (sK _ SB1.out CB1.out) ?_
        rotate_left
        · (intro wS hSw; (try dsimp only at hSw); go_simp; try with_reducible rfl)
        simp only [Act.put, List.setIfInBounds_toArray, List.set_cons_zero, List.set_cons_succ]
        refine wpAnyH_take (i := 7) (v := ?_) rfl (by kernel_rfl) (by kernel_rfl) (by kernel_rfl) (fun _ _ _ h => h) (Or.inl ⟨by rfl, ?_⟩) (sK _ SB1.out CB1.out) ?_
        rotate_left
        · (intro wS hSw; (try dsimp only at hSw); go_simp; try with_reducible rfl)
        simp only [Act.put, List.setIfInBounds_toArray, List.set_cons_zero, List.set_cons_succ]
        refine wpAnyH_take (i := 8) (v := ?_) rfl (by kernel_rfl) (by kernel_rfl) (by kernel_rfl) (fun _ _ _ h => h) (Or.inl ⟨by rfl, ?_⟩) (sK _ SB1.out CB1.out) ?_
        rotate_left
        · (intro wS hSw; (try dsimp only at hSw); go_simp; try with_reducible rfl)
        simp only [Act.put, List.setIfInBounds_toArray, List.set_cons_zero, List.set_cons_succ]
        refine wpAnyH_take (i := 9) (v := ?_) rfl (by kernel_rfl) (by kernel_rfl) (by kernel_rfl) (fun _ _ _ h => h) (Or.inl ⟨by rfl, ?_⟩) (sK _ SB1.out CB1.out) ?_
        rotate_left
        · (intro wS hSw; (try dsimp only at hSw); go_simp; try with_reducible rfl)
        simp only [Act.put, List.setIfInBounds_toArray, List.set_cons_zero, List.set_cons_succ]
        refine wpAnyH_ready (rs := [10]) (by kernel_rfl) (by simp) ?_
        refine AllReadyH.cons rfl (fun K hK => ?_) AllReadyH.nil
        go_simp
        refine (OT.out _).mono ?_
        rintro e r2 ⟨rfl, rfl⟩
        have SB2 := SB1
        have CB2 := CB1
        have E2 := E1
        go_wp2_with fail
        refine hK.out _ _ (sK _ SB2.out CB2.out) (fun hHeld => ?_)
        clear hK K hHeld
        try simp only [Act.put, List.setIfInBounds_toArray, List.set_cons_zero, List.set_cons_succ]
        refine wpAnyH_ready (rs := [11]) (by kernel_rfl) (by simp) ?_
        refine AllReadyH.cons rfl (fun K hK => ?_) AllReadyH.nil
        go_simp
        refine (C2.out _).mono ?_
        rintro e r3 ⟨rfl, hb⟩
        have SB3 := Lib.hid (SB2.out.next hb)
        have CB3 := Lib.hid (CB2.out.next hb)
        have E3 := Lib.hid (E2.out.trans (hb.mono E2.out.size))
        clear hb
        go_wp2_with fail
        refine hK.out _ _ (sK _ SB3.out CB3.out) (fun hHeld => ?_)
        clear hK K hHeld
        try simp only [Act.put, List.setIfInBounds_toArray, List.set_cons_zero, List.set_cons_succ]
        refine wpAnyH_take (i := 12) (v := ?_) rfl (by kernel_rfl) (by kernel_rfl) (by kernel_rfl) (fun _ _ _ h => h) (Or.inl ⟨by rfl, ?_⟩) (sK _ SB3.out CB3.out) ?_
        rotate_left
        · (intro wS hSw; (try dsimp only at hSw); go_simp; try with_reducible rfl)
        simp only [Act.put, List.setIfInBounds_toArray, List.set_cons_zero, List.set_cons_succ]
        refine wpAnyH_take (i := 13) (v := undef) rfl (by kernel_rfl) (by kernel_rfl) (by kernel_rfl) (fun _ _ _ h => h) (Or.inr ⟨by kernel_rfl, rfl⟩) (sK _ SB3.out CB3.out) ?_
        simp only [Act.put, List.setIfInBounds_toArray, List.set_cons_zero, List.set_cons_succ]
        refine wpAnyH_take (i := 14) (v := undef) rfl (by kernel_rfl) (by kernel_rfl) (by kernel_rfl) (fun _ _ _ h => h) (Or.inr ⟨by kernel_rfl, rfl⟩) (sK _ SB3.out CB3.out) ?_
        simp only [Act.put, List.setIfInBounds_toArray, List.set_cons_zero, List.set_cons_succ]
        refine wpAnyH_take (i := 15) (v := undef) rfl (by kernel_rfl) (by kernel_rfl) (by kernel_rfl) (fun _ _ _ h => h) (Or.inr ⟨by kernel_rfl, rfl⟩) (sK _ SB3.out CB3.out) ?_
        simp only [Act.put, List.setIfInBounds_toArray, List.set_cons_zero, List.set_cons_succ]
        refine wpAnyH_take (i := 16) (v := undef) rfl (by kernel_rfl) (by kernel_rfl) (by kernel_rfl) (fun _ _ _ h => h) (Or.inr ⟨by kernel_rfl, rfl⟩) (sK _ SB3.out CB3.out) ?_
        simp only [Act.put, List.setIfInBounds_toArray, List.set_cons_zero, List.set_cons_succ]
        refine wpAnyH_take (i := 17) (v := undef) rfl (by kernel_rfl) (by kernel_rfl) (by kernel_rfl) (fun _ _ _ h => h) (Or.inr ⟨by kernel_rfl, rfl⟩) (sK _ SB3.out CB3.out) ?_
        simp only [Act.put, List.setIfInBounds_toArray, List.set_cons_zero, List.set_cons_succ]
        refine wpAnyH_take (i := 18) (v := undef) rfl (by kernel_rfl) (by kernel_rfl) (by kernel_rfl) (fun _ _ _ h => h) (Or.inr ⟨by kernel_rfl, rfl⟩) (sK _ SB3.out CB3.out) ?_
        simp only [Act.put, List.setIfInBounds_toArray, List.set_cons_zero, List.set_cons_succ]
        refine wpAnyH_take (i := 19) (v := ?_) rfl (by kernel_rfl) (by kernel_rfl) (by kernel_rfl) (fun _ _ _ h => h) (Or.inl ⟨by rfl, ?_⟩) (sK _ SB3.out CB3.out) ?_
        rotate_left
        · (intro wS hSw; (try dsimp only at hSw); go_simp; try with_reducible rfl)
        simp only [Act.put, List.setIfInBounds_toArray, List.set_cons_zero, List.set_cons_succ]
        refine wpAnyH_take (i := 20) (v := ?_) rfl (by kernel_rfl) (by kernel_rfl) (by kernel_rfl) (fun _ _ _ h => h) (Or.inl ⟨by rfl, ?_⟩) (sK _ SB3.out CB3.out) ?_
        rotate_left
        · (intro wS hSw; (try dsimp only at hSw); go_simp; try with_reducible rfl)
        simp only [Act.put, List.setIfInBounds_toArray, List.set_cons_zero, List.set_cons_succ]
        refine wpAnyH_take (i := 21) (v := ?_) rfl (by kernel_rfl) (by kernel_rfl) (by kernel_rfl) (fun _ _ _ h => h) (Or.inl ⟨by rfl, ?_⟩) (sK _ SB3.out CB3.out) ?_
        rotate_left
        · (intro wS hSw; (try dsimp only at hSw); go_simp; try with_reducible rfl)
        simp only [Act.put, List.setIfInBounds_toArray, List.set_cons_zero, List.set_cons_succ]
        refine wpAnyH_done (by kernel_rfl) ?_ _
        go_wp2_with fail
        go_ret
        exact ⟨rfl, E3.out⟩
      · go_enter Try.func26, Try.ntmps26
        go_wp2_with fail
        obtain ⟨A0, A1, _, BE⟩ := two_blk (w := w) (Below.refl _ ((w.alloc (.cells #[(.int .u64 w0 : Value), .int .u64 w1, .int .u64 u0, .int .u64 u1, .int .u64 d0, .int .u64 d1] 56)).alloc (.cells #[(.int .i64 p : Value), .int .i64 d, .int .i64 md, .int .i64 l, .bool wa, .slice A n c] 29)))
        obtain ⟨V, hV⟩ : ∃ V, (w.alloc (.cells #[(.int .u64 w0 : Value), .int .u64 w1, .int .u64 u0, .int .u64 u1, .int .u64 d0, .int .u64 d1] 56)).alloc (.cells #[(.int .i64 p : Value), .int .i64 d, .int .i64 md, .int .i64 l, .bool wa, .slice A n c] 29) = V := ⟨_, rfl⟩
        rw [hV] at A0 A1 BE ⊢
        have SBx := Lib.hid A0
        have CBx := Lib.hid A1
        have Ex := Lib.hid BE
        clear hV A0 A1 BE
        refine (RI.out V (HR.out.kept Ex.out)).mono ?_
        rintro e x1 ⟨rfl, hb⟩
        have SBy := Lib.hid (SBx.out.next hb)
        have CBy := Lib.hid (CBx.out.next hb)
        have Ey := Lib.hid (Ex.out.trans (hb.mono Ex.out.size))
        clear hb SBx CBx Ex
        go_wp2_with fail
        refine (HA.out _).mono ?_
        rintro e x2 ⟨rfl, hb⟩
        have SBz := Lib.hid (SBy.out.next hb)
        have CBz := Lib.hid (CBy.out.next hb)
        have Ez := Lib.hid (Ey.out.trans (hb.mono Ey.out.size))
        clear hb SBy CBy Ey
        obtain ⟨s0, s1, s2, s3, s4, s5⟩ := SBz.out.six
        obtain ⟨k0, k1, k2, k3, k4, k5⟩ := CBz.out.six
        go_wp2_with fail
        have SBd := Lib.hid (SBz.out.drew)
        have CBd := Lib.hid (CBz.out.drew)
        have Ed := Lib.hid (Ez.out.drew)
        clear SBz CBz Ez s0 s1 s2 s3 s4 s5 k0 k1 k2 k3 k4 k5
        refine wp_region_held_drew (S := (fun W => W.cell? ⟨w.heap.size, 0, none⟩ = some (.int .u64 w0) ∧ W.cell? ⟨w.heap.size, 1, none⟩ = some (.int .u64 w1) ∧ W.cell? ⟨w.heap.size, 2, none⟩ = some (.int .u64 u0) ∧ W.cell? ⟨w.heap.size, 3, none⟩ = some (.int .u64 u1) ∧ W.cell? ⟨w.heap.size, 4, none⟩ = some (.int .u64 d0) ∧ W.cell? ⟨w.heap.size, 5, none⟩ = some (.int .u64 d1) ∧ W.cell? ⟨w.heap.size + 1, 0, none⟩ = some (.int .i64 p) ∧ W.cell? ⟨w.heap.size + 1, 1, none⟩ = some (.int .i64 d) ∧ W.cell? ⟨w.heap.size + 1, 2, none⟩ = some (.int .i64 md) ∧ W.cell? ⟨w.heap.size + 1, 3, none⟩ = some (.int .i64 l) ∧ W.cell? ⟨w.heap.size + 1, 4, none⟩ = some (.bool wa) ∧ W.cell? ⟨w.heap.size + 1, 5, none⟩ = some (.slice A n c))) (by kernel_rfl) (sK _ SBd.out CBd.out) (fun hHeld => ?_)
        clear hHeld
        have SB0 := SBd
        have CB0 := CBd
        have E0 := Ed
        refine wpAnyH_take (i := 0) (v := ?_) rfl (by kernel_rfl) (by kernel_rfl) (by kernel_rfl) (fun _ _ _ h => h) (Or.inl ⟨by rfl, ?_⟩) (sK _ SB0.out CB0.out) ?_
        rotate_left
        · (intro wS hSw; (try dsimp only at hSw); go_simp; try with_reducible rfl)
        simp only [Act.put, List.setIfInBounds_toArray, List.set_cons_zero, List.set_cons_succ]
        refine wpAnyH_take (i := 1) (v := ?_) rfl (by kernel_rfl) (by kernel_rfl) (by kernel_rfl) (fun _ _ _ h => h) (Or.inl ⟨by rfl, ?_⟩) (sK _ SB0.out CB0.out) ?_
        rotate_left
        · (intro wS hSw; (try dsimp only at hSw); go_simp; try with_reducible rfl)
        simp only [Act.put, List.setIfInBounds_toArray, List.set_cons_zero, List.set_cons_succ]
        refine wpAnyH_take (i := 2) (v := ?_) rfl (by kernel_rfl) (by kernel_rfl) (by kernel_rfl) (fun _ _ _ h => h) (Or.inl ⟨by rfl, ?_⟩) (sK _ SB0.out CB0.out) ?_
        rotate_left
        · (intro wS hSw; (try dsimp only at hSw); go_simp; try with_reducible rfl)
        simp only [Act.put, List.setIfInBounds_toArray, List.set_cons_zero, List.set_cons_succ]
        refine wpAnyH_take (i := 3) (v := ?_) rfl (by kernel_rfl) (by kernel_rfl) (by kernel_rfl) (fun _ _ _ h => h) (Or.inl ⟨by rfl, ?_⟩) (sK _ SB0.out CB0.out) ?_
        rotate_left
        · (intro wS hSw; (try dsimp only at hSw); go_simp; try with_reducible rfl)
        simp only [Act.put, List.setIfInBounds_toArray, List.set_cons_zero, List.set_cons_succ]
        refine wpAnyH_ready (rs := [4]) (by kernel_rfl) (by simp) ?_
        refine AllReadyH.cons rfl (fun K hK => ?_) AllReadyH.nil
        go_simp
        refine (C1.out _).mono ?_
        rintro e r1 ⟨rfl, hb⟩
        have SB1 := Lib.hid (SB0.out.next hb)
        have CB1 := Lib.hid (CB0.out.next hb)
        have E1 := Lib.hid (E0.out.trans (hb.mono E0.out.size))
        clear hb
        go_wp2_with fail
        refine hK.out _ _ (sK _ SB1.out CB1.out) (fun hHeld => ?_)
        clear hK K hHeld
        try simp only [Act.put, List.setIfInBounds_toArray, List.set_cons_zero, List.set_cons_succ]
        refine wpAnyH_take (i := 5) (v := ?_) rfl (by kernel_rfl) (by kernel_rfl) (by kernel_rfl) (fun _ _ _ h => h) (Or.inl ⟨by rfl, ?_⟩) (sK _ SB1.out CB1.out) ?_
        rotate_left
        · (intro wS hSw; (try dsimp only at hSw); go_simp; try with_reducible rfl)
        simp only [Act.put, List.setIfInBounds_toArray, List.set_cons_zero, List.set_cons_succ]
        refine wpAnyH_take (i := 6) (v := ?_) rfl (by kernel_rfl) (by kernel_rfl) (by kernel_rfl) (fun _ _ _ h => h) (Or.inl ⟨by rfl, ?_⟩) (sK _ SB1.out CB1.out) ?_
        rotate_left
        · (intro wS hSw; (try dsimp only at hSw); go_simp; try with_reducible rfl)
        simp only [Act.put, List.setIfInBounds_toArray, List.set_cons_zero, List.set_cons_succ]
        refine wpAnyH_take (i := 7) (v := ?_) rfl (by kernel_rfl) (by kernel_rfl) (by kernel_rfl) (fun _ _ _ h => h) (Or.inl ⟨by rfl, ?_⟩) (sK _ SB1.out CB1.out) ?_
        rotate_left
        · (intro wS hSw; (try dsimp only at hSw); go_simp; try with_reducible rfl)
        simp only [Act.put, List.setIfInBounds_toArray, List.set_cons_zero, List.set_cons_succ]
        refine wpAnyH_take (i := 8) (v := ?_) rfl (by kernel_rfl) (by kernel_rfl) (by kernel_rfl) (fun _ _ _ h => h) (Or.inl ⟨by rfl, ?_⟩) (sK _ SB1.out CB1.out) ?_
        rotate_left
        · (intro wS hSw; (try dsimp only at hSw); go_simp; try with_reducible rfl)
        simp only [Act.put, List.setIfInBounds_toArray, List.set_cons_zero, List.set_cons_succ]
        refine wpAnyH_take (i := 9) (v := ?_) rfl (by kernel_rfl) (by kernel_rfl) (by kernel_rfl) (fun _ _ _ h => h) (Or.inl ⟨by rfl, ?_⟩) (sK _ SB1.out CB1.out) ?_
        rotate_left
        · (intro wS hSw; (try dsimp only at hSw); go_simp; try with_reducible rfl)
        simp only [Act.put, List.setIfInBounds_toArray, List.set_cons_zero, List.set_cons_succ]
        refine wpAnyH_ready (rs := [10]) (by kernel_rfl) (by simp) ?_
        refine AllReadyH.cons rfl (fun K hK => ?_) AllReadyH.nil
        go_simp
        refine (OT.out _).mono ?_
        rintro e r2 ⟨rfl, rfl⟩
        have SB2 := SB1
        have CB2 := CB1
        have E2 := E1
        go_wp2_with fail
        refine hK.out _ _ (sK _ SB2.out CB2.out) (fun hHeld => ?_)
        clear hK K hHeld
        try simp only [Act.put, List.setIfInBounds_toArray, List.set_cons_zero, List.set_cons_succ]
        refine wpAnyH_ready (rs := [11]) (by kernel_rfl) (by simp) ?_
        refine AllReadyH.cons rfl (fun K hK => ?_) AllReadyH.nil
        go_simp
        refine (C2.out _).mono ?_
        rintro e r3 ⟨rfl, hb⟩
        have SB3 := Lib.hid (SB2.out.next hb)
        have CB3 := Lib.hid (CB2.out.next hb)
        have E3 := Lib.hid (E2.out.trans (hb.mono E2.out.size))
        clear hb
        go_wp2_with fail
        refine hK.out _ _ (sK _ SB3.out CB3.out) (fun hHeld => ?_)
        clear hK K hHeld
        try simp only [Act.put, List.setIfInBounds_toArray, List.set_cons_zero, List.set_cons_succ]
        refine wpAnyH_take (i := 12) (v := ?_) rfl (by kernel_rfl) (by kernel_rfl) (by kernel_rfl) (fun _ _ _ h => h) (Or.inl ⟨by rfl, ?_⟩) (sK _ SB3.out CB3.out) ?_
        rotate_left
        · (intro wS hSw; (try dsimp only at hSw); go_simp; try with_reducible rfl)
        simp only [Act.put, List.setIfInBounds_toArray, List.set_cons_zero, List.set_cons_succ]
        refine wpAnyH_take (i := 13) (v := ?_) rfl (by kernel_rfl) (by kernel_rfl) (by kernel_rfl) (fun _ _ _ h => h) (Or.inl ⟨by rfl, ?_⟩) (sK _ SB3.out CB3.out) ?_
        rotate_left
        · (intro wS hSw; (try dsimp only at hSw); go_simp; try with_reducible rfl)
        simp only [Act.put, List.setIfInBounds_toArray, List.set_cons_zero, List.set_cons_succ]
        refine wpAnyH_take (i := 14) (v := ?_) rfl (by kernel_rfl) (by kernel_rfl) (by kernel_rfl) (fun _ _ _ h => h) (Or.inl ⟨by rfl, ?_⟩) (sK _ SB3.out CB3.out) ?_
        rotate_left
        · (intro wS hSw; (try dsimp only at hSw); go_simp; try with_reducible rfl)
        simp only [Act.put, List.setIfInBounds_toArray, List.set_cons_zero, List.set_cons_succ]
        refine wpAnyH_take (i := 15) (v := ?_) rfl (by kernel_rfl) (by kernel_rfl) (by kernel_rfl) (fun _ _ _ h => h) (Or.inl ⟨by rfl, ?_⟩) (sK _ SB3.out CB3.out) ?_
        rotate_left
        · (intro wS hSw; (try dsimp only at hSw); go_simp; try with_reducible rfl)
        simp only [Act.put, List.setIfInBounds_toArray, List.set_cons_zero, List.set_cons_succ]
        refine wpAnyH_take (i := 16) (v := ?_) rfl (by kernel_rfl) (by kernel_rfl) (by kernel_rfl) (fun _ _ _ h => h) (Or.inl ⟨by rfl, ?_⟩) (sK _ SB3.out CB3.out) ?_
        rotate_left
        · (intro wS hSw; (try dsimp only at hSw); go_simp; try with_reducible rfl)
        simp only [Act.put, List.setIfInBounds_toArray, List.set_cons_zero, List.set_cons_succ]
        refine wpAnyH_ready (rs := [17]) (by kernel_rfl) (by simp) ?_
        refine AllReadyH.cons rfl (fun K hK => ?_) AllReadyH.nil
        go_simp
        refine (Y1.out _).mono ?_
        rintro e r4 ⟨rfl, hb⟩
        have SB4 := Lib.hid (SB3.out.next hb)
        have CB4 := Lib.hid (CB3.out.next hb)
        have E4 := Lib.hid (E3.out.trans (hb.mono E3.out.size))
        clear hb
        go_wp2_with fail
        refine hK.out _ _ (sK _ SB4.out CB4.out) (fun hHeld => ?_)
        clear hK K hHeld
        try simp only [Act.put, List.setIfInBounds_toArray, List.set_cons_zero, List.set_cons_succ]
        refine wpAnyH_take (i := 18) (v := ?_) rfl (by kernel_rfl) (by kernel_rfl) (by kernel_rfl) (fun _ _ _ h => h) (Or.inl ⟨by rfl, ?_⟩) (sK _ SB4.out CB4.out) ?_
        rotate_left
        · (intro wS hSw; (try dsimp only at hSw); go_simp; try with_reducible rfl)
        simp only [Act.put, List.setIfInBounds_toArray, List.set_cons_zero, List.set_cons_succ]
        refine wpAnyH_take (i := 19) (v := ?_) rfl (by kernel_rfl) (by kernel_rfl) (by kernel_rfl) (fun _ _ _ h => h) (Or.inl ⟨by rfl, ?_⟩) (sK _ SB4.out CB4.out) ?_
        rotate_left
        · (intro wS hSw; (try dsimp only at hSw); go_simp; try with_reducible rfl)
        simp only [Act.put, List.setIfInBounds_toArray, List.set_cons_zero, List.set_cons_succ]
        refine wpAnyH_take (i := 20) (v := ?_) rfl (by kernel_rfl) (by kernel_rfl) (by kernel_rfl) (fun _ _ _ h => h) (Or.inl ⟨by rfl, ?_⟩) (sK _ SB4.out CB4.out) ?_
        rotate_left
        · (intro wS hSw; (try dsimp only at hSw); go_simp; try with_reducible rfl)
        simp only [Act.put, List.setIfInBounds_toArray, List.set_cons_zero, List.set_cons_succ]
        refine wpAnyH_take (i := 21) (v := ?_) rfl (by kernel_rfl) (by kernel_rfl) (by kernel_rfl) (fun _ _ _ h => h) (Or.inl ⟨by rfl, ?_⟩) (sK _ SB4.out CB4.out) ?_
        rotate_left
        · (intro wS hSw; (try dsimp only at hSw); go_simp; try with_reducible rfl)
        simp only [Act.put, List.setIfInBounds_toArray, List.set_cons_zero, List.set_cons_succ]
        refine wpAnyH_done (by kernel_rfl) ?_ _
        go_wp2_with fail
        go_ret
        exact ⟨rfl, E4.out⟩
    · go_enter Try.func26, Try.ntmps26
      go_wp2_with fail
      obtain ⟨A0, A1, _, BE⟩ := two_blk (w := w) (Below.refl _ ((w.alloc (.cells #[(.int .u64 w0 : Value), .int .u64 w1, .int .u64 u0, .int .u64 u1, .int .u64 d0, .int .u64 d1] 56)).alloc (.cells #[(.int .i64 p : Value), .int .i64 d, .int .i64 md, .int .i64 l, .bool wa, .slice A n c] 29)))
      obtain ⟨V, hV⟩ : ∃ V, (w.alloc (.cells #[(.int .u64 w0 : Value), .int .u64 w1, .int .u64 u0, .int .u64 u1, .int .u64 d0, .int .u64 d1] 56)).alloc (.cells #[(.int .i64 p : Value), .int .i64 d, .int .i64 md, .int .i64 l, .bool wa, .slice A n c] 29) = V := ⟨_, rfl⟩
      rw [hV] at A0 A1 BE ⊢
      have SBx := Lib.hid A0
      have CBx := Lib.hid A1
      have Ex := Lib.hid BE
      clear hV A0 A1 BE
      refine (RI.out V (HR.out.kept Ex.out)).mono ?_
      rintro e x1 ⟨rfl, hb⟩
      have SBy := Lib.hid (SBx.out.next hb)
      have CBy := Lib.hid (CBx.out.next hb)
      have Ey := Lib.hid (Ex.out.trans (hb.mono Ex.out.size))
      clear hb SBx CBx Ex
      go_wp2_with fail
      refine (HA.out _).mono ?_
      rintro e x2 ⟨rfl, hb⟩
      have SBz := Lib.hid (SBy.out.next hb)
      have CBz := Lib.hid (CBy.out.next hb)
      have Ez := Lib.hid (Ey.out.trans (hb.mono Ey.out.size))
      clear hb SBy CBy Ey
      obtain ⟨s0, s1, s2, s3, s4, s5⟩ := SBz.out.six
      obtain ⟨k0, k1, k2, k3, k4, k5⟩ := CBz.out.six
      go_wp2_with fail
      have SBd := Lib.hid (SBz.out.drew)
      have CBd := Lib.hid (CBz.out.drew)
      have Ed := Lib.hid (Ez.out.drew)
      clear SBz CBz Ez s0 s1 s2 s3 s4 s5 k0 k1 k2 k3 k4 k5
      refine wp_region_held_drew (S := (fun W => W.cell? ⟨w.heap.size, 0, none⟩ = some (.int .u64 w0) ∧ W.cell? ⟨w.heap.size, 1, none⟩ = some (.int .u64 w1) ∧ W.cell? ⟨w.heap.size, 2, none⟩ = some (.int .u64 u0) ∧ W.cell? ⟨w.heap.size, 3, none⟩ = some (.int .u64 u1) ∧ W.cell? ⟨w.heap.size, 4, none⟩ = some (.int .u64 d0) ∧ W.cell? ⟨w.heap.size, 5, none⟩ = some (.int .u64 d1) ∧ W.cell? ⟨w.heap.size + 1, 0, none⟩ = some (.int .i64 p) ∧ W.cell? ⟨w.heap.size + 1, 1, none⟩ = some (.int .i64 d) ∧ W.cell? ⟨w.heap.size + 1, 2, none⟩ = some (.int .i64 md) ∧ W.cell? ⟨w.heap.size + 1, 3, none⟩ = some (.int .i64 l) ∧ W.cell? ⟨w.heap.size + 1, 4, none⟩ = some (.bool wa) ∧ W.cell? ⟨w.heap.size + 1, 5, none⟩ = some (.slice A n c))) (by kernel_rfl) (sK _ SBd.out CBd.out) (fun hHeld => ?_)
      clear hHeld
      have SB0 := SBd
      have CB0 := CBd
      have E0 := Ed
      refine wpAnyH_take (i := 0) (v := ?_) rfl (by kernel_rfl) (by kernel_rfl) (by kernel_rfl) (fun _ _ _ h => h) (Or.inl ⟨by rfl, ?_⟩) (sK _ SB0.out CB0.out) ?_
      rotate_left
      · (intro wS hSw; (try dsimp only at hSw); go_simp; try with_reducible rfl)
      simp only [Act.put, List.setIfInBounds_toArray, List.set_cons_zero, List.set_cons_succ]
      refine wpAnyH_take (i := 1) (v := ?_) rfl (by kernel_rfl) (by kernel_rfl) (by kernel_rfl) (fun _ _ _ h => h) (Or.inl ⟨by rfl, ?_⟩) (sK _ SB0.out CB0.out) ?_
      rotate_left
      · (intro wS hSw; (try dsimp only at hSw); go_simp; try with_reducible rfl)
      simp only [Act.put, List.setIfInBounds_toArray, List.set_cons_zero, List.set_cons_succ]
      refine wpAnyH_take (i := 2) (v := ?_) rfl (by kernel_rfl) (by kernel_rfl) (by kernel_rfl) (fun _ _ _ h => h) (Or.inl ⟨by rfl, ?_⟩) (sK _ SB0.out CB0.out) ?_
      rotate_left
      · (intro wS hSw; (try dsimp only at hSw); go_simp; try with_reducible rfl)
      simp only [Act.put, List.setIfInBounds_toArray, List.set_cons_zero, List.set_cons_succ]
      refine wpAnyH_take (i := 3) (v := ?_) rfl (by kernel_rfl) (by kernel_rfl) (by kernel_rfl) (fun _ _ _ h => h) (Or.inl ⟨by rfl, ?_⟩) (sK _ SB0.out CB0.out) ?_
      rotate_left
      · (intro wS hSw; (try dsimp only at hSw); go_simp; try with_reducible rfl)
      simp only [Act.put, List.setIfInBounds_toArray, List.set_cons_zero, List.set_cons_succ]
      refine wpAnyH_ready (rs := [4]) (by kernel_rfl) (by simp) ?_
      refine AllReadyH.cons rfl (fun K hK => ?_) AllReadyH.nil
      go_simp
      refine (C1.out _).mono ?_
      rintro e r1 ⟨rfl, hb⟩
      have SB1 := Lib.hid (SB0.out.next hb)
      have CB1 := Lib.hid (CB0.out.next hb)
      have E1 := Lib.hid (E0.out.trans (hb.mono E0.out.size))
      clear hb
      go_wp2_with fail
      refine hK.out _ _ (sK _ SB1.out CB1.out) (fun hHeld => ?_)
      clear hK K hHeld
      try simp only [Act.put, List.setIfInBounds_toArray, List.set_cons_zero, List.set_cons_succ]
      refine wpAnyH_take (i := 5) (v := ?_) rfl (by kernel_rfl) (by kernel_rfl) (by kernel_rfl) (fun _ _ _ h => h) (Or.inl ⟨by rfl, ?_⟩) (sK _ SB1.out CB1.out) ?_
      rotate_left
      · (intro wS hSw; (try dsimp only at hSw); go_simp; try with_reducible rfl)
      simp only [Act.put, List.setIfInBounds_toArray, List.set_cons_zero, List.set_cons_succ]
      refine wpAnyH_take (i := 6) (v := undef) rfl (by kernel_rfl) (by kernel_rfl) (by kernel_rfl) (fun _ _ _ h => h) (Or.inr ⟨by kernel_rfl, rfl⟩) (sK _ SB1.out CB1.out) ?_
      simp only [Act.put, List.setIfInBounds_toArray, List.set_cons_zero, List.set_cons_succ]
      refine wpAnyH_take (i := 7) (v := undef) rfl (by kernel_rfl) (by kernel_rfl) (by kernel_rfl) (fun _ _ _ h => h) (Or.inr ⟨by kernel_rfl, rfl⟩) (sK _ SB1.out CB1.out) ?_
      simp only [Act.put, List.setIfInBounds_toArray, List.set_cons_zero, List.set_cons_succ]
      refine wpAnyH_take (i := 8) (v := undef) rfl (by kernel_rfl) (by kernel_rfl) (by kernel_rfl) (fun _ _ _ h => h) (Or.inr ⟨by kernel_rfl, rfl⟩) (sK _ SB1.out CB1.out) ?_
      simp only [Act.put, List.setIfInBounds_toArray, List.set_cons_zero, List.set_cons_succ]
      refine wpAnyH_take (i := 9) (v := undef) rfl (by kernel_rfl) (by kernel_rfl) (by kernel_rfl) (fun _ _ _ h => h) (Or.inr ⟨by kernel_rfl, rfl⟩) (sK _ SB1.out CB1.out) ?_
      simp only [Act.put, List.setIfInBounds_toArray, List.set_cons_zero, List.set_cons_succ]
      refine wpAnyH_take (i := 10) (v := undef) rfl (by kernel_rfl) (by kernel_rfl) (by kernel_rfl) (fun _ _ _ h => h) (Or.inr ⟨by kernel_rfl, rfl⟩) (sK _ SB1.out CB1.out) ?_
      simp only [Act.put, List.setIfInBounds_toArray, List.set_cons_zero, List.set_cons_succ]
      refine wpAnyH_take (i := 11) (v := undef) rfl (by kernel_rfl) (by kernel_rfl) (by kernel_rfl) (fun _ _ _ h => h) (Or.inr ⟨by kernel_rfl, rfl⟩) (sK _ SB1.out CB1.out) ?_
      simp only [Act.put, List.setIfInBounds_toArray, List.set_cons_zero, List.set_cons_succ]
      refine wpAnyH_take (i := 12) (v := undef) rfl (by kernel_rfl) (by kernel_rfl) (by kernel_rfl) (fun _ _ _ h => h) (Or.inr ⟨by kernel_rfl, rfl⟩) (sK _ SB1.out CB1.out) ?_
      simp only [Act.put, List.setIfInBounds_toArray, List.set_cons_zero, List.set_cons_succ]
      refine wpAnyH_take (i := 13) (v := undef) rfl (by kernel_rfl) (by kernel_rfl) (by kernel_rfl) (fun _ _ _ h => h) (Or.inr ⟨by kernel_rfl, rfl⟩) (sK _ SB1.out CB1.out) ?_
      simp only [Act.put, List.setIfInBounds_toArray, List.set_cons_zero, List.set_cons_succ]
      refine wpAnyH_take (i := 14) (v := undef) rfl (by kernel_rfl) (by kernel_rfl) (by kernel_rfl) (fun _ _ _ h => h) (Or.inr ⟨by kernel_rfl, rfl⟩) (sK _ SB1.out CB1.out) ?_
      simp only [Act.put, List.setIfInBounds_toArray, List.set_cons_zero, List.set_cons_succ]
      refine wpAnyH_take (i := 15) (v := undef) rfl (by kernel_rfl) (by kernel_rfl) (by kernel_rfl) (fun _ _ _ h => h) (Or.inr ⟨by kernel_rfl, rfl⟩) (sK _ SB1.out CB1.out) ?_
      simp only [Act.put, List.setIfInBounds_toArray, List.set_cons_zero, List.set_cons_succ]
      refine wpAnyH_take (i := 16) (v := undef) rfl (by kernel_rfl) (by kernel_rfl) (by kernel_rfl) (fun _ _ _ h => h) (Or.inr ⟨by kernel_rfl, rfl⟩) (sK _ SB1.out CB1.out) ?_
      simp only [Act.put, List.setIfInBounds_toArray, List.set_cons_zero, List.set_cons_succ]
      refine wpAnyH_take (i := 17) (v := undef) rfl (by kernel_rfl) (by kernel_rfl) (by kernel_rfl) (fun _ _ _ h => h) (Or.inr ⟨by kernel_rfl, rfl⟩) (sK _ SB1.out CB1.out) ?_
      simp only [Act.put, List.setIfInBounds_toArray, List.set_cons_zero, List.set_cons_succ]
      refine wpAnyH_take (i := 18) (v := undef) rfl (by kernel_rfl) (by kernel_rfl) (by kernel_rfl) (fun _ _ _ h => h) (Or.inr ⟨by kernel_rfl, rfl⟩) (sK _ SB1.out CB1.out) ?_
      simp only [Act.put, List.setIfInBounds_toArray, List.set_cons_zero, List.set_cons_succ]
      refine wpAnyH_take (i := 19) (v := undef) rfl (by kernel_rfl) (by kernel_rfl) (by kernel_rfl) (fun _ _ _ h => h) (Or.inr ⟨by kernel_rfl, rfl⟩) (sK _ SB1.out CB1.out) ?_
      simp only [Act.put, List.setIfInBounds_toArray, List.set_cons_zero, List.set_cons_succ]
      refine wpAnyH_take (i := 20) (v := ?_) rfl (by kernel_rfl) (by kernel_rfl) (by kernel_rfl) (fun _ _ _ h => h) (Or.inl ⟨by rfl, ?_⟩) (sK _ SB1.out CB1.out) ?_
      rotate_left
      · (intro wS hSw; (try dsimp only at hSw); go_simp; try with_reducible rfl)
      simp only [Act.put, List.setIfInBounds_toArray, List.set_cons_zero, List.set_cons_succ]
      refine wpAnyH_take (i := 21) (v := ?_) rfl (by kernel_rfl) (by kernel_rfl) (by kernel_rfl) (fun _ _ _ h => h) (Or.inl ⟨by rfl, ?_⟩) (sK _ SB1.out CB1.out) ?_
      rotate_left
      · (intro wS hSw; (try dsimp only at hSw); go_simp; try with_reducible rfl)
      simp only [Act.put, List.setIfInBounds_toArray, List.set_cons_zero, List.set_cons_succ]
      refine wpAnyH_done (by kernel_rfl) ?_ _
      go_wp2_with fail
      go_ret
      exact ⟨rfl, E1.out⟩
end Go.Proofs.Ytffcmfpadaebdaa
