/- Contracts of eta's functions. -/
import Derived.Test.YtbjcigkakeffmaaDoorRows
import Derived.Test.YtbjcigkakeffmaaDoorKitM
import Derived.Test.YtbjcigkakeffmaaDoorCmp
import Derived.Test.YtbjcigkakeffmaaDoorPlaceA
import Derived.Test.YtbjcigkakeffmaaDoorVetA
import Derived.Test.YtbjcigkakeffmaaDoorVetB
import Derived.Test.YtbjcigkakeffmaaDoorNearMath
import Derived.Test.YtbjcigkakeffmaaDoorNearA
import Derived.Test.YtbjcigkakeffmaaDoorNearB
import Derived.Test.YtbjcigkakeffmaaDoorNearC
import Derived.Test.YtbjcigkakeffmaaDoorNearG
import Derived.Test.YtbjcigkakeffmaaDoorBitM
import Derived.Test.YtbjcigkakeffmaaDoorBitsL
import Derived.Test.YtbjcigkakeffmaaDoorBitsN
import Derived.Test.YtbjcigkakeffmaaDoorBitsU
import Derived.Test.YtbjcigkakeffmaaDoorBitsV
import Derived.Test.YtbjcigkakeffmaaDoorBitsX
import Derived.Test.YtbjcigkakeffmaaDoorWantA
import Derived.Test.YtbjcigkakeffmaaDoorWantB
import Derived.Test.YtbjcigkakeffmaaDoorWantC
import Derived.WalkKit
import Derived.IntWalk
import Derived.Lib.Hide
import Derived.WalkSpells
import Derived.WalkLawsBesides
import Derived.Laws.CopyOwn
import Derived.Laws.MakeOwn
import Derived.Laws.OwnMore
import Derived.OwnWalk
import Derived.Deep.QuietTactic
import Derived.BigQuiet
import Derived.Deep.RegionHeld3
import Derived.Below
namespace Go.Proofs.YtbjcigkakeffmaaDoor
open Go.RowKit Go.Shelf
set_option linter.unusedSimpArgs false
set_option linter.unusedVariables false
set_option maxHeartbeats 1000000 in
theorem bstop_any (s : Nat → Int) (A : Option Addr) (n c : Nat) (w : World) (h4 : 1 ≤ s 4 ∧ s 4 ≤ 64) (h5 : 1 ≤ s 5 ∧ s 5 ≤ 64) (h6 : 1 ≤ s 6 ∧ s 6 ≤ 64) (h7 : 1 ≤ s 7 ∧ s 7 ≤ 64) :
    Calls Tryd.prog 23 #[scnV s A n c, .int .i64 1] w fun e w' => e = .returned (.int .i64 (s 4 + s 7 + s 5 + s 6)) ∧ Below w.heap.size w w' := by
  have BW := Lib.hid ((Below.refl w.heap.size w).alloc (Nat.le_refl _) (.cells #[(.int .i64 (s 0) : Value), .int .i64 (s 1), .int .i64 (s 2), .int .i64 (s 3), .int .i64 (s 4), .int .i64 (s 5), .int .i64 (s 6), .int .i64 (s 7), .slice A n c, .int .i64 (s 9), .int .i64 (s 10), .int .i64 (s 11), .int .i64 (s 12)] 25))
  have mx : max (0 : Int) 1 = 1 := by decide
  unfold scnV
  obtain ⟨a, ha⟩ : ∃ a, s 4 = a := ⟨_, rfl⟩
  obtain ⟨b, hb⟩ : ∃ a, s 5 = a := ⟨_, rfl⟩
  obtain ⟨e, he⟩ : ∃ a, s 6 = a := ⟨_, rfl⟩
  obtain ⟨f, hf⟩ : ∃ a, s 7 = a := ⟨_, rfl⟩
  rw [ha] at h4 BW ⊢
  rw [hb] at h5 BW ⊢
  rw [he] at h6 BW ⊢
  rw [hf] at h7 BW ⊢
  clear ha hb he hf
  obtain ⟨h40, h41⟩ := h4
  obtain ⟨h50, h51⟩ := h5
  obtain ⟨h60, h61⟩ := h6
  obtain ⟨h70, h71⟩ := h7
  go_enter Tryd.func23, Tryd.ntmps23
  go_wp2_with fail
  go_ret
  exact ⟨nret (by omega), BW.out⟩
set_option maxHeartbeats 1000000 in
theorem edoor_idle (s : Nat → Int) (A : Option Addr) (n c : Nat) (p d le : Int) (bw : Bool) (R : Value) (w : World) :
    Calls Tryd.prog 7 #[scnV s A n c, carV p d 0 le bw R] w fun e w' => e = .returned (.int .i64 0) ∧ Below w.heap.size w w' := by
  have BW := Lib.hid (((Below.refl w.heap.size w).alloc (Nat.le_refl _) (.cells #[(.int .i64 (s 0) : Value), .int .i64 (s 1), .int .i64 (s 2), .int .i64 (s 3), .int .i64 (s 4), .int .i64 (s 5), .int .i64 (s 6), .int .i64 (s 7), .slice A n c, .int .i64 (s 9), .int .i64 (s 10), .int .i64 (s 11), .int .i64 (s 12)] 25)).alloc (by simp <;> omega) (.cells #[(.int .i64 p : Value), .int .i64 d, .int .i64 0, .int .i64 le, .bool bw, R] 36))
  unfold scnV carV
  go_enter Tryd.func7, Tryd.ntmps7
  go_wp2_with fail
  go_ret
  exact ⟨rfl, BW.out⟩
set_option maxHeartbeats 2000000 in
theorem ebetween_any (s : Nat → Int) (A : Option Addr) (n c : Nat) (p d mo le : Int) (bw : Bool) (R : Value) (F : Nat → Bool) (fl t q r : Int) (w : World) (hT : TzT w) (hg : 1 ≤ s 1) (hg' : s 1 ≤ 1048576) (p0 : 0 ≤ p) (p1 : p ≤ 1048576) (r0 : 0 ≤ r) (r1 : r < s 1) (e : p = q * s 1 + r) (t0 : -1 ≤ t) (t1 : t ≤ 1) :
    Calls Tryd.prog 28 #[scnV s A n c, carV p d mo le bw R, setV F, .int .i64 fl, .int .i64 t] w fun e w' => e = .returned (.int .i64 (btP (nxF q r (-t)) fl (itL F 128))) ∧ Below w.heap.size w w' := by
  have KN := Lib.hid (fun w => pnext_any p (s 1) q r (-t) w hg hg' p0 p1 r0 r1 e)
  have KB := fun w hT => between_any F (nxF q r (-t)) fl w hT
  unfold setV at KB ⊢
  obtain ⟨x, hX⟩ : ∃ x, wordX F = x := ⟨_, rfl⟩
  obtain ⟨y, hY⟩ : ∃ y, wordY F = y := ⟨_, rfl⟩
  rw [hX, hY] at KB ⊢
  have HB := Lib.hid KB
  clear e KB hX hY
  have BW := Lib.hid ((((Below.refl w.heap.size w).alloc (Nat.le_refl _) (.cells #[(.int .i64 (s 0) : Value), .int .i64 (s 1), .int .i64 (s 2), .int .i64 (s 3), .int .i64 (s 4), .int .i64 (s 5), .int .i64 (s 6), .int .i64 (s 7), .slice A n c, .int .i64 (s 9), .int .i64 (s 10), .int .i64 (s 11), .int .i64 (s 12)] 25)).alloc (by simp <;> omega) (.cells #[(.int .i64 p : Value), .int .i64 d, .int .i64 mo, .int .i64 le, .bool bw, R] 36)).alloc (by simp <;> omega) (.cells #[(.int .u64 x : Value), .int .u64 y] 40))
  have HT := Lib.hid (hT.kept BW.out)
  obtain ⟨u, hu⟩ : ∃ u, nxF q r (-t) = u := ⟨_, rfl⟩
  rw [hu] at KN HB ⊢
  clear hu hT
  unfold scnV carV
  go_enter Tryd.func28, Tryd.ntmps28
  go_wp2_with (go_at_call 24; refine (KN.out _).mono ?_; rintro e w' ⟨rfl, k, rfl⟩)
  refine (HB.out _ (HT.out.kept (below_drewN (Below.refl _ _) k))).mono ?_
  rintro e w' ⟨rfl, hb⟩
  go_wp2_with fail
  go_ret
  exact ⟨rfl, (below_drewN BW.out k).trans (hb.mono (below_drewN BW.out k).size)⟩
theorem last_zero {F : Nat → Bool} {f r : Int} {b : Bool} (h : IsEnd false (byF F f 0) 0 r b) : r = 0 ∧ b = false := by
  have h0 : IsEnd false (byF F f 0) 0 0 false := by
    unfold IsEnd; rw [if_pos (by simp)]; exact Or.inr ⟨rfl, rfl, fun j _ => by simp [byF]⟩
  exact h.same h0
theorem cmpI_bd (a b : Int) : -1 ≤ cmpI a b ∧ cmpI a b ≤ 1 := by unfold cmpI; repeat' split <;> omega
set_option maxRecDepth 100000 in
set_option maxHeartbeats 4000000 in
theorem eof0_any (s : Nat → Int) (A : Option Addr) (n c : Nat) (p le : Int) (bw : Bool) (R : Value) (F : Nat → Bool) (fl dir m q r : Int) (w : World) (hT : TzT w) (hg : 1 ≤ s 1) (hg' : s 1 ≤ 1048576) (p0 : 0 ≤ p) (p1 : p ≤ 1048576) (r0 : 0 ≤ r) (r1 : r < s 1) (e : p = q * s 1 + r)
    (hm : fl * s 1 = m) (m0 : 0 ≤ m) (m1 : m ≤ 1048576) (h4 : 1 ≤ s 4 ∧ s 4 ≤ 64) (h5 : 1 ≤ s 5 ∧ s 5 ≤ 64) (h6 : 1 ≤ s 6 ∧ s 6 ≤ 64) (h7 : 1 ≤ s 7 ∧ s 7 ≤ 64) :
    Calls Tryd.prog 9 #[scnV s A n c, carV p 0 0 le bw R, setV F, .int .i64 fl, .int .i64 dir] w fun e w' => e = .returned (.int .i64 (farV p m + (s 4 + s 7 + s 5 + s 6) * (btP (nxF q r (-(cmpI m p))) fl (itL F 128)))) ∧ Below w.heap.size w w' := by
  have u0 := cmpI_bd m p
  have KA := fun w => at_any fl (s 1) m w hm (by omega) (by omega)
  have KD := fun w => dir_any p m w
  have KF := fun w => far_any p m w p0 (by omega) m0 (by omega)
  have KS := fun w => bstop_any s A n c w h4 h5 h6 h7
  have KN := fun w => pnext_any p (s 1) q r 0 w hg hg' p0 p1 r0 r1 e
  have KO := fun w => edoor_idle s A n c p 0 le bw R w
  have fb := far_bd p0 p1 m0 m1
  have KL := fun w hT => last_any F (nxF q r 0) 0 w hT
  have KB := fun w hT => ebetween_any s A n c p 0 0 le bw R F fl (cmpI m p) q r w hT hg hg' p0 p1 r0 r1 e u0.1 u0.2
  obtain ⟨X, hX⟩ : ∃ X, farV p m = X := ⟨_, rfl⟩
  obtain ⟨u, hu⟩ : ∃ u, cmpI m p = u := ⟨_, rfl⟩
  rw [hX] at KF fb ⊢
  rw [hu] at KD KB u0 ⊢
  have nl : btP (nxF q r (-u)) fl (itL F 128) ≤ 128 := Nat.le_trans (btP_le _ _ _) (itL_len F 128)
  obtain ⟨N, hN⟩ : ∃ N, btP (nxF q r (-u)) fl (itL F 128) = N := ⟨_, rfl⟩
  rw [hN] at KB nl ⊢
  obtain ⟨st, hst⟩ : ∃ st, s 4 + s 7 + s 5 + s 6 = st := ⟨_, rfl⟩
  have s0 : 4 ≤ st ∧ st ≤ 256 := by omega
  rw [hst] at KS ⊢
  obtain ⟨M, hM⟩ : ∃ M, st * (N : Int) = M := ⟨_, rfl⟩
  have M0 : 0 ≤ M := by rw [← hM]; exact Int.mul_nonneg (by omega) (by omega)
  have M1 : M ≤ 256 * 128 := by rw [← hM]; exact Int.mul_le_mul (by omega) (by omega) (by omega) (by omega)
  have hw : IntKind.i64.wrap (st * (N : Int)) = M := by rw [hM]; exact IntWalk.i64_in _ (by omega)
  rw [hM]
  unfold setV scnV carV at *
  obtain ⟨x, hx⟩ : ∃ x, wordX F = x := ⟨_, rfl⟩
  obtain ⟨y, hy⟩ : ∃ y, wordY F = y := ⟨_, rfl⟩
  rw [hx, hy] at KB KL ⊢
  have HA := Lib.hid KA; have HD := Lib.hid KD; have HF := Lib.hid KF; have HS := Lib.hid KS; have HN := Lib.hid KN; have HO := Lib.hid KO; have HL := Lib.hid KL; have HB := Lib.hid KB
  obtain ⟨fb0, fb1⟩ := fb
  clear e KB KL KA KD KF KS KN KO hx hy hM hst hN hu hX hm nl h4 h5 h6 h7 s0 u0
  have A0 : Blk (((w.alloc (.cells #[(.int .i64 (s 0) : Value), .int .i64 (s 1), .int .i64 (s 2), .int .i64 (s 3), .int .i64 (s 4), .int .i64 (s 5), .int .i64 (s 6), .int .i64 (s 7), .slice A n c, .int .i64 (s 9), .int .i64 (s 10), .int .i64 (s 11), .int .i64 (s 12)] 25)).alloc (.cells #[(.int .i64 p : Value), .int .i64 0, .int .i64 0, .int .i64 le, .bool bw, R] 36)).alloc (.cells #[(.int .u64 x : Value), .int .u64 y] 40)) w.heap.size 25 #[(.int .i64 (s 0) : Value), .int .i64 (s 1), .int .i64 (s 2), .int .i64 (s 3), .int .i64 (s 4), .int .i64 (s 5), .int .i64 (s 6), .int .i64 (s 7), .slice A n c, .int .i64 (s 9), .int .i64 (s 10), .int .i64 (s 11), .int .i64 (s 12)] := ((Blk.new w _ _).alloc _).alloc _
  have A1 : Blk (((w.alloc (.cells #[(.int .i64 (s 0) : Value), .int .i64 (s 1), .int .i64 (s 2), .int .i64 (s 3), .int .i64 (s 4), .int .i64 (s 5), .int .i64 (s 6), .int .i64 (s 7), .slice A n c, .int .i64 (s 9), .int .i64 (s 10), .int .i64 (s 11), .int .i64 (s 12)] 25)).alloc (.cells #[(.int .i64 p : Value), .int .i64 0, .int .i64 0, .int .i64 le, .bool bw, R] 36)).alloc (.cells #[(.int .u64 x : Value), .int .u64 y] 40)) (w.heap.size + 1) 36 #[(.int .i64 p : Value), .int .i64 0, .int .i64 0, .int .i64 le, .bool bw, R] := by
    have h := (Blk.new (w.alloc (.cells #[(.int .i64 (s 0) : Value), .int .i64 (s 1), .int .i64 (s 2), .int .i64 (s 3), .int .i64 (s 4), .int .i64 (s 5), .int .i64 (s 6), .int .i64 (s 7), .slice A n c, .int .i64 (s 9), .int .i64 (s 10), .int .i64 (s 11), .int .i64 (s 12)] 25)) #[(.int .i64 p : Value), .int .i64 0, .int .i64 0, .int .i64 le, .bool bw, R] 36).alloc (.cells #[(.int .u64 x : Value), .int .u64 y] 40)
    rw [show (w.alloc (.cells #[(.int .i64 (s 0) : Value), .int .i64 (s 1), .int .i64 (s 2), .int .i64 (s 3), .int .i64 (s 4), .int .i64 (s 5), .int .i64 (s 6), .int .i64 (s 7), .slice A n c, .int .i64 (s 9), .int .i64 (s 10), .int .i64 (s 11), .int .i64 (s 12)] 25)).heap.size = w.heap.size + 1 by simp] at h
    exact h
  have A2 : Blk (((w.alloc (.cells #[(.int .i64 (s 0) : Value), .int .i64 (s 1), .int .i64 (s 2), .int .i64 (s 3), .int .i64 (s 4), .int .i64 (s 5), .int .i64 (s 6), .int .i64 (s 7), .slice A n c, .int .i64 (s 9), .int .i64 (s 10), .int .i64 (s 11), .int .i64 (s 12)] 25)).alloc (.cells #[(.int .i64 p : Value), .int .i64 0, .int .i64 0, .int .i64 le, .bool bw, R] 36)).alloc (.cells #[(.int .u64 x : Value), .int .u64 y] 40)) (w.heap.size + 2) 40 #[(.int .u64 x : Value), .int .u64 y] := by
    have h := Blk.new ((w.alloc (.cells #[(.int .i64 (s 0) : Value), .int .i64 (s 1), .int .i64 (s 2), .int .i64 (s 3), .int .i64 (s 4), .int .i64 (s 5), .int .i64 (s 6), .int .i64 (s 7), .slice A n c, .int .i64 (s 9), .int .i64 (s 10), .int .i64 (s 11), .int .i64 (s 12)] 25)).alloc (.cells #[(.int .i64 p : Value), .int .i64 0, .int .i64 0, .int .i64 le, .bool bw, R] 36)) #[(.int .u64 x : Value), .int .u64 y] 40
    rw [show ((w.alloc (.cells #[(.int .i64 (s 0) : Value), .int .i64 (s 1), .int .i64 (s 2), .int .i64 (s 3), .int .i64 (s 4), .int .i64 (s 5), .int .i64 (s 6), .int .i64 (s 7), .slice A n c, .int .i64 (s 9), .int .i64 (s 10), .int .i64 (s 11), .int .i64 (s 12)] 25)).alloc (.cells #[(.int .i64 p : Value), .int .i64 0, .int .i64 0, .int .i64 le, .bool bw, R] 36)).heap.size = w.heap.size + 2 by simp] at h
    exact h
  have E0 := ((((Below.refl w.heap.size w).alloc (Nat.le_refl _) (.cells #[(.int .i64 (s 0) : Value), .int .i64 (s 1), .int .i64 (s 2), .int .i64 (s 3), .int .i64 (s 4), .int .i64 (s 5), .int .i64 (s 6), .int .i64 (s 7), .slice A n c, .int .i64 (s 9), .int .i64 (s 10), .int .i64 (s 11), .int .i64 (s 12)] 25)).alloc (by simp <;> omega) (.cells #[(.int .i64 p : Value), .int .i64 0, .int .i64 0, .int .i64 le, .bool bw, R] 36)).alloc (by simp <;> omega) (.cells #[(.int .u64 x : Value), .int .u64 y] 40))
  have HA0 := Lib.hid A0
  have HA1 := Lib.hid A1
  have HA2 := Lib.hid A2
  have HE0 := Lib.hid E0
  have HT := Lib.hid hT
  clear hT A0 A1 A2 E0
  go_enter Tryd.func9, Tryd.ntmps9
  go_wp2_with (first | (go_at_call 21; refine (HA.out _).mono ?_; rintro e w' ⟨rfl, rfl⟩) | (go_at_call 22; refine (HD.out _).mono ?_; rintro e w' ⟨rfl, rfl⟩))
  refine (HS.out _).mono ?_
  rintro e w1 ⟨rfl, hb⟩
  have E1 := Lib.hid (HE0.out.trans (hb.mono HE0.out.size))
  have B0 := HA0.out.next hb
  have B1 := HA1.out.next hb
  have B2 := HA2.out.next hb
  have f0 : w1.cell? ⟨w.heap.size, 0, none⟩ = some (.int .i64 (s 0)) := B0.cell 0
  have f1 : w1.cell? ⟨w.heap.size, 1, none⟩ = some (.int .i64 (s 1)) := B0.cell 1
  have f2 : w1.cell? ⟨w.heap.size, 2, none⟩ = some (.int .i64 (s 2)) := B0.cell 2
  have f3 : w1.cell? ⟨w.heap.size, 3, none⟩ = some (.int .i64 (s 3)) := B0.cell 3
  have f4 : w1.cell? ⟨w.heap.size, 4, none⟩ = some (.int .i64 (s 4)) := B0.cell 4
  have f5 : w1.cell? ⟨w.heap.size, 5, none⟩ = some (.int .i64 (s 5)) := B0.cell 5
  have f6 : w1.cell? ⟨w.heap.size, 6, none⟩ = some (.int .i64 (s 6)) := B0.cell 6
  have f7 : w1.cell? ⟨w.heap.size, 7, none⟩ = some (.int .i64 (s 7)) := B0.cell 7
  have f8 : w1.cell? ⟨w.heap.size, 8, none⟩ = some (.slice A n c) := B0.cell 8
  have f9 : w1.cell? ⟨w.heap.size, 9, none⟩ = some (.int .i64 (s 9)) := B0.cell 9
  have f10 : w1.cell? ⟨w.heap.size, 10, none⟩ = some (.int .i64 (s 10)) := B0.cell 10
  have f11 : w1.cell? ⟨w.heap.size, 11, none⟩ = some (.int .i64 (s 11)) := B0.cell 11
  have f12 : w1.cell? ⟨w.heap.size, 12, none⟩ = some (.int .i64 (s 12)) := B0.cell 12
  have c0 : w1.cell? ⟨w.heap.size + 1, 0, none⟩ = some (.int .i64 p) := B1.cell 0
  have c1 : w1.cell? ⟨w.heap.size + 1, 1, none⟩ = some (.int .i64 0) := B1.cell 1
  have c2 : w1.cell? ⟨w.heap.size + 1, 2, none⟩ = some (.int .i64 0) := B1.cell 2
  have c3 : w1.cell? ⟨w.heap.size + 1, 3, none⟩ = some (.int .i64 le) := B1.cell 3
  have c4 : w1.cell? ⟨w.heap.size + 1, 4, none⟩ = some (.bool bw) := B1.cell 4
  have c5 : w1.cell? ⟨w.heap.size + 1, 5, none⟩ = some (R) := B1.cell 5
  have l0 : w1.cell? ⟨w.heap.size + 2, 0, none⟩ = some (.int .u64 x) := B2.cell 0
  have l1 : w1.cell? ⟨w.heap.size + 2, 1, none⟩ = some (.int .u64 y) := B2.cell 1
  clear hb B0 B1 B2 HA0 HA1 HA2 HE0
  go_wp2_with (go_at_call 24; refine (HN.out _).mono ?_; rintro e w' ⟨rfl, k, rfl⟩)
  refine (HL.out _ (HT.out.kept (below_drewN E1.out k))).mono ?_
  rintro e w2 ⟨r', b', rfl, hE, hb⟩
  obtain ⟨rfl, rfl⟩ := last_zero hE
  have E2 := Lib.hid ((below_drewN E1.out k).trans (hb.mono (below_drewN E1.out k).size))
  have nf0 := Lib.hid (bkeep (w := w1.drewN k) hb f0); have nf1 := Lib.hid (bkeep (w := w1.drewN k) hb f1); have nf2 := Lib.hid (bkeep (w := w1.drewN k) hb f2); have nf3 := Lib.hid (bkeep (w := w1.drewN k) hb f3); have nf4 := Lib.hid (bkeep (w := w1.drewN k) hb f4); have nf5 := Lib.hid (bkeep (w := w1.drewN k) hb f5); have nf6 := Lib.hid (bkeep (w := w1.drewN k) hb f6); have nf7 := Lib.hid (bkeep (w := w1.drewN k) hb f7); have nf8 := Lib.hid (bkeep (w := w1.drewN k) hb f8); have nf9 := Lib.hid (bkeep (w := w1.drewN k) hb f9); have nf10 := Lib.hid (bkeep (w := w1.drewN k) hb f10); have nf11 := Lib.hid (bkeep (w := w1.drewN k) hb f11); have nf12 := Lib.hid (bkeep (w := w1.drewN k) hb f12); have nc0 := Lib.hid (bkeep (w := w1.drewN k) hb c0); have nc1 := Lib.hid (bkeep (w := w1.drewN k) hb c1); have nc2 := Lib.hid (bkeep (w := w1.drewN k) hb c2); have nc3 := Lib.hid (bkeep (w := w1.drewN k) hb c3); have nc4 := Lib.hid (bkeep (w := w1.drewN k) hb c4); have nc5 := Lib.hid (bkeep (w := w1.drewN k) hb c5); have nl0 := Lib.hid (bkeep (w := w1.drewN k) hb l0); have nl1 := Lib.hid (bkeep (w := w1.drewN k) hb l1); clear f0 f1 f2 f3 f4 f5 f6 f7 f8 f9 f10 f11 f12 c0 c1 c2 c3 c4 c5 l0 l1; have f0 := nf0.out; have f1 := nf1.out; have f2 := nf2.out; have f3 := nf3.out; have f4 := nf4.out; have f5 := nf5.out; have f6 := nf6.out; have f7 := nf7.out; have f8 := nf8.out; have f9 := nf9.out; have f10 := nf10.out; have f11 := nf11.out; have f12 := nf12.out; have c0 := nc0.out; have c1 := nc1.out; have c2 := nc2.out; have c3 := nc3.out; have c4 := nc4.out; have c5 := nc5.out; have l0 := nl0.out; have l1 := nl1.out; clear nf0 nf1 nf2 nf3 nf4 nf5 nf6 nf7 nf8 nf9 nf10 nf11 nf12 nc0 nc1 nc2 nc3 nc4 nc5 nl0 nl1
  clear hb hE
  go_wp2_with fail
  go_region_held3 (fun W => W.cell? ⟨w.heap.size, 0, none⟩ = some (.int .i64 (s 0)) ∧ W.cell? ⟨w.heap.size, 1, none⟩ = some (.int .i64 (s 1)) ∧ W.cell? ⟨w.heap.size, 2, none⟩ = some (.int .i64 (s 2)) ∧ W.cell? ⟨w.heap.size, 3, none⟩ = some (.int .i64 (s 3)) ∧ W.cell? ⟨w.heap.size, 4, none⟩ = some (.int .i64 (s 4)) ∧ W.cell? ⟨w.heap.size, 5, none⟩ = some (.int .i64 (s 5)) ∧ W.cell? ⟨w.heap.size, 6, none⟩ = some (.int .i64 (s 6)) ∧ W.cell? ⟨w.heap.size, 7, none⟩ = some (.int .i64 (s 7)) ∧ W.cell? ⟨w.heap.size, 8, none⟩ = some (.slice A n c) ∧ W.cell? ⟨w.heap.size, 9, none⟩ = some (.int .i64 (s 9)) ∧ W.cell? ⟨w.heap.size, 10, none⟩ = some (.int .i64 (s 10)) ∧ W.cell? ⟨w.heap.size, 11, none⟩ = some (.int .i64 (s 11)) ∧ W.cell? ⟨w.heap.size, 12, none⟩ = some (.int .i64 (s 12)) ∧ W.cell? ⟨w.heap.size + 1, 0, none⟩ = some (.int .i64 p) ∧ W.cell? ⟨w.heap.size + 1, 1, none⟩ = some (.int .i64 0) ∧ W.cell? ⟨w.heap.size + 1, 2, none⟩ = some (.int .i64 0) ∧ W.cell? ⟨w.heap.size + 1, 3, none⟩ = some (.int .i64 le) ∧ W.cell? ⟨w.heap.size + 1, 4, none⟩ = some (.bool bw) ∧ W.cell? ⟨w.heap.size + 1, 5, none⟩ = some (R) ∧ W.cell? ⟨w.heap.size + 2, 0, none⟩ = some (.int .u64 x) ∧ W.cell? ⟨w.heap.size + 2, 1, none⟩ = some (.int .u64 y))
    (go_keep)
    (first
      | (go_at_call 7; refine (HO.out _).mono ?_; rintro e v1 ⟨rfl, hb⟩; have nf0 := Lib.hid (bkeep (w := w2.drew) hb f0); have nf1 := Lib.hid (bkeep (w := w2.drew) hb f1); have nf2 := Lib.hid (bkeep (w := w2.drew) hb f2); have nf3 := Lib.hid (bkeep (w := w2.drew) hb f3); have nf4 := Lib.hid (bkeep (w := w2.drew) hb f4); have nf5 := Lib.hid (bkeep (w := w2.drew) hb f5); have nf6 := Lib.hid (bkeep (w := w2.drew) hb f6); have nf7 := Lib.hid (bkeep (w := w2.drew) hb f7); have nf8 := Lib.hid (bkeep (w := w2.drew) hb f8); have nf9 := Lib.hid (bkeep (w := w2.drew) hb f9); have nf10 := Lib.hid (bkeep (w := w2.drew) hb f10); have nf11 := Lib.hid (bkeep (w := w2.drew) hb f11); have nf12 := Lib.hid (bkeep (w := w2.drew) hb f12); have nc0 := Lib.hid (bkeep (w := w2.drew) hb c0); have nc1 := Lib.hid (bkeep (w := w2.drew) hb c1); have nc2 := Lib.hid (bkeep (w := w2.drew) hb c2); have nc3 := Lib.hid (bkeep (w := w2.drew) hb c3); have nc4 := Lib.hid (bkeep (w := w2.drew) hb c4); have nc5 := Lib.hid (bkeep (w := w2.drew) hb c5); have nl0 := Lib.hid (bkeep (w := w2.drew) hb l0); have nl1 := Lib.hid (bkeep (w := w2.drew) hb l1); clear f0 f1 f2 f3 f4 f5 f6 f7 f8 f9 f10 f11 f12 c0 c1 c2 c3 c4 c5 l0 l1; have f0 := nf0.out; have f1 := nf1.out; have f2 := nf2.out; have f3 := nf3.out; have f4 := nf4.out; have f5 := nf5.out; have f6 := nf6.out; have f7 := nf7.out; have f8 := nf8.out; have f9 := nf9.out; have f10 := nf10.out; have f11 := nf11.out; have f12 := nf12.out; have c0 := nc0.out; have c1 := nc1.out; have c2 := nc2.out; have c3 := nc3.out; have c4 := nc4.out; have c5 := nc5.out; have l0 := nl0.out; have l1 := nl1.out; clear nf0 nf1 nf2 nf3 nf4 nf5 nf6 nf7 nf8 nf9 nf10 nf11 nf12 nc0 nc1 nc2 nc3 nc4 nc5 nl0 nl1; have E3 := Lib.hid (E2.out.drew.trans (hb.mono E2.out.drew.size)); have T3 := Lib.hid (HT.out.kept E3.out); clear hb)
      | (go_at_call 27; refine (HF.out _).mono ?_; rintro e w' ⟨rfl, rfl⟩)
      | (go_at_call 28; refine (HB.out _ T3.out).mono ?_; rintro e v2 ⟨rfl, hb⟩; have nf0 := Lib.hid (bkeep (w := v1) hb f0); have nf1 := Lib.hid (bkeep (w := v1) hb f1); have nf2 := Lib.hid (bkeep (w := v1) hb f2); have nf3 := Lib.hid (bkeep (w := v1) hb f3); have nf4 := Lib.hid (bkeep (w := v1) hb f4); have nf5 := Lib.hid (bkeep (w := v1) hb f5); have nf6 := Lib.hid (bkeep (w := v1) hb f6); have nf7 := Lib.hid (bkeep (w := v1) hb f7); have nf8 := Lib.hid (bkeep (w := v1) hb f8); have nf9 := Lib.hid (bkeep (w := v1) hb f9); have nf10 := Lib.hid (bkeep (w := v1) hb f10); have nf11 := Lib.hid (bkeep (w := v1) hb f11); have nf12 := Lib.hid (bkeep (w := v1) hb f12); have nc0 := Lib.hid (bkeep (w := v1) hb c0); have nc1 := Lib.hid (bkeep (w := v1) hb c1); have nc2 := Lib.hid (bkeep (w := v1) hb c2); have nc3 := Lib.hid (bkeep (w := v1) hb c3); have nc4 := Lib.hid (bkeep (w := v1) hb c4); have nc5 := Lib.hid (bkeep (w := v1) hb c5); have nl0 := Lib.hid (bkeep (w := v1) hb l0); have nl1 := Lib.hid (bkeep (w := v1) hb l1); clear f0 f1 f2 f3 f4 f5 f6 f7 f8 f9 f10 f11 f12 c0 c1 c2 c3 c4 c5 l0 l1; have f0 := nf0.out; have f1 := nf1.out; have f2 := nf2.out; have f3 := nf3.out; have f4 := nf4.out; have f5 := nf5.out; have f6 := nf6.out; have f7 := nf7.out; have f8 := nf8.out; have f9 := nf9.out; have f10 := nf10.out; have f11 := nf11.out; have f12 := nf12.out; have c0 := nc0.out; have c1 := nc1.out; have c2 := nc2.out; have c3 := nc3.out; have c4 := nc4.out; have c5 := nc5.out; have l0 := nl0.out; have l1 := nl1.out; clear nf0 nf1 nf2 nf3 nf4 nf5 nf6 nf7 nf8 nf9 nf10 nf11 nf12 nc0 nc1 nc2 nc3 nc4 nc5 nl0 nl1; have E4 := Lib.hid (E3.out.trans (hb.mono E3.out.size)); clear hb))
  go_wp2_with fail
  go_ret
  have wX : IntKind.i64.wrap X = X := IntWalk.i64_in _ (by omega)
  have wM : IntKind.i64.wrap (X + M) = X + M := IntWalk.i64_in _ (by omega)
  refine ⟨?_, E4.out⟩
  first
    | rfl
    | exact nret (by omega)
    | exact nret (by rw [wX, wM])
    | exact nret (by rw [wM])
end Go.Proofs.YtbjcigkakeffmaaDoor
