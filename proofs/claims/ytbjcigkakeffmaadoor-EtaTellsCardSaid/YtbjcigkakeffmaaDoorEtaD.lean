/- The program's eta: any direction. -/
import Derived.Test.YtbjcigkakeffmaaDoorRows
import Derived.Test.YtbjcigkakeffmaaDoorKitM
import Derived.Test.YtbjcigkakeffmaaDoorCmp
import Derived.Test.YtbjcigkakeffmaaDoorPlaceA
import Derived.Test.YtbjcigkakeffmaaDoorVetA
import Derived.Test.YtbjcigkakeffmaaDoorVetB
import Derived.Test.YtbjcigkakeffmaaDoorNearMath
import Derived.Test.YtbjcigkakeffmaaDoorNearA
import Derived.Test.YtbjcigkakeffmaaDoorNearB
import Derived.Test.YtbjcigkakeffmaaDoorNearC
import Derived.Test.YtbjcigkakeffmaaDoorNearG
import Derived.Test.YtbjcigkakeffmaaDoorNearI
import Derived.Test.YtbjcigkakeffmaaDoorBitM
import Derived.Test.YtbjcigkakeffmaaDoorBitsL
import Derived.Test.YtbjcigkakeffmaaDoorBitsN
import Derived.Test.YtbjcigkakeffmaaDoorBitsT
import Derived.Test.YtbjcigkakeffmaaDoorBitsU
import Derived.Test.YtbjcigkakeffmaaDoorBitsV
import Derived.Test.YtbjcigkakeffmaaDoorBitsX
import Derived.Test.YtbjcigkakeffmaaDoorWantA
import Derived.Test.YtbjcigkakeffmaaDoorWantB
import Derived.Test.YtbjcigkakeffmaaDoorWantC
import Derived.Test.YtbjcigkakeffmaaDoorEtaA
import Derived.Test.YtbjcigkakeffmaaDoorEtaB
import Derived.Test.YtbjcigkakeffmaaDoorEtaMath
import Derived.Test.YtbjcigkakeffmaaDoorEtaC
import Derived.WalkKit
import Derived.IntWalk
import Derived.Lib.Hide
import Derived.WalkSpells
import Derived.WalkLawsBesides
import Derived.Laws.CopyOwn
import Derived.Laws.MakeOwn
import Derived.Laws.OwnMore
import Derived.OwnWalk
import Derived.Deep.QuietTactic
import Derived.BigQuiet
import Derived.Deep.RegionHeld3
import Derived.Deep.LoopGhost
import Derived.BigRegion
import Derived.Below
namespace Go.Proofs.YtbjcigkakeffmaaDoor
open Go.RowKit
set_option linter.unusedSimpArgs false
set_option linter.unusedVariables false
set_option maxRecDepth 100000 in
set_option maxHeartbeats 8000000 in
theorem eof_any (s : Nat → Int) (A : Option Addr) (n c : Nat) (p d mo le : Int) (bw : Bool) (R : Value) (F : Nat → Bool) (fl dir q r : Int) (w : World) (hT : TzT w) (hg : 1 ≤ s 1) (hg' : s 1 ≤ 16) (p0 : 0 ≤ p) (p1 : p ≤ 2048) (r0 : 0 ≤ r) (r1 : r < s 1) (e : p = q * s 1 + r) (m0 : 0 ≤ fl * s 1) (m1 : fl * s 1 ≤ 2048) (h4 : 1 ≤ s 4 ∧ s 4 ≤ 64) (h5 : 1 ≤ s 5 ∧ s 5 ≤ 64) (h6 : 1 ≤ s 6 ∧ s 6 ≤ 64) (h7 : 1 ≤ s 7 ∧ s 7 ≤ 64) (d0 : -1 ≤ d) (d1 : d ≤ 1) (o0 : 0 ≤ mo) (o1 : mo ≤ 4) (l0 : 0 ≤ le) (l1 : le ≤ 64) :
    Calls Tryd.prog 9 #[scnV s A n c, carV p d mo le bw R, setV F, .int .i64 fl, .int .i64 dir] w fun e w' => e = .returned (.int .i64 (eofV (doorV (s 7) (s 5) (s 6) mo le) p d (s 1) q r (s 4 + s 7 + s 5 + s 6) fl dir F)) ∧ Below w.heap.size w w' := by
  obtain ⟨m, hm⟩ : ∃ m, fl * s 1 = m := ⟨_, rfl⟩
  rw [hm] at m0 m1
  have u0 := cmpI_bd m p
  have KA := fun w => at_any fl (s 1) m w hm (by omega) (by omega)
  have KD := fun w => dir_any p m w
  have KF := fun w => far_b p m w p0 (by omega) (by omega) (by omega)
  have KS := fun w => bstop_any s A n c w h4 h5 h6 h7
  have KN := fun w => pnext_b p (s 1) q r (-d) w hg (by omega) p0 (by omega) r0 r1 e
  have KO := fun w => edoor_any s A n c p d mo le bw R w h5 h6 h7 o0 o1 l0 l1
  have DB := door_bd (mo := mo) h5 h6 h7 l0 l1
  have fb := far_bd (p := p) (m := m) p0 (by omega) (by omega) (by omega)
  have KL := fun w hT => last_any F (nxF q r (-d)) d w hT
  have KB := fun w hT => ebetween_any s A n c p d mo le bw R F fl (cmpI m p) q r w hT hg (by omega) p0 (by omega) r0 r1 e u0.1 u0.2
  have KG := fun w => straight_any p d mo le bw R F fl dir (cmpI m p) w d0 d1
  have KY := fun w => beyond_any F (nxF q r (-d)) d w
  have KC := fun w => count_any (byF F (nxF q r (-d)) d) w
  have KT : ∀ r', 0 ≤ r' → r' < 128 → 0 ≤ r' * s 1 ∧ r' * s 1 ≤ 2032 := fun r' h1 h2 => ⟨Int.mul_nonneg h1 (by omega), Int.mul_le_mul (show r' ≤ 127 by omega) (show s 1 ≤ 16 by omega) (by omega) (by omega)⟩
  have LT := fun r' => last_trn (G := byF F (nxF q r (-d)) d) (d := d) (r := r')
  have LN := fun r' => last_none (G := byF F (nxF q r (-d)) d) (d := d) (r := r')
  have LB : ∀ r', IsEnd false (byF F (nxF q r (-d)) d) d r' true → 0 ≤ r' ∧ r' < 128 := fun r' h => by
    unfold IsEnd at h
    split at h <;> rcases h with ⟨_, m, rfl, hm, _⟩ | ⟨h, _⟩
    · omega
    · cases h
    · omega
    · cases h
  have SG : sgV d fl dir (cmpI m p) F = true ↔ (¬ cmpI m p = -d ∧ (dir = d ∨ (itL (byF F fl d) 128).length = 0)) := by unfold sgV; simp
  have E1 : (itL (byF F (nxF q r (-d)) d) 128).length = 0 ∨ sgV d fl dir (cmpI m p) F = true → eofV (doorV (s 7) (s 5) (s 6) mo le) p d (s 1) q r (s 4 + s 7 + s 5 + s 6) fl dir F = (doorV (s 7) (s 5) (s 6) mo le) + farV p m + (s 4 + s 7 + s 5 + s 6) * (btP (nxF q r (-(cmpI m p))) fl (itL F 128) : Nat) := fun h => by
    unfold eofV; rw [hm, if_pos (h.imp id SG.1)]
  have E2 : ¬ (itL (byF F (nxF q r (-d)) d) 128).length = 0 → sgV d fl dir (cmpI m p) F = false → cmpI m p = -d → eofV (doorV (s 7) (s 5) (s 6) mo le) p d (s 1) q r (s 4 + s 7 + s 5 + s 6) fl dir F = (doorV (s 7) (s 5) (s 6) mo le) + farV p (trn (itL (byF F (nxF q r (-d)) d) 128) d * s 1) + farV (trn (itL (byF F (nxF q r (-d)) d) 128) d * s 1) m + (s 4 + s 7 + s 5 + s 6) * (((itL (byF F (nxF q r (-d)) d) 128).length + btP (nxF q r (-(cmpI m p))) fl (itL F 128) : Nat) : Int) := fun h h1 h2 => by
    unfold eofV; rw [hm, if_neg (fun h3 => h3.elim h (fun h4 => by rw [SG.2 h4] at h1; cases h1)), if_pos h2]
  have E3 : ¬ (itL (byF F (nxF q r (-d)) d) 128).length = 0 → sgV d fl dir (cmpI m p) F = false → ¬ cmpI m p = -d → eofV (doorV (s 7) (s 5) (s 6) mo le) p d (s 1) q r (s 4 + s 7 + s 5 + s 6) fl dir F = (doorV (s 7) (s 5) (s 6) mo le) + farV p (trn (itL (byF F (nxF q r (-d)) d) 128) d * s 1) + farV (trn (itL (byF F (nxF q r (-d)) d) 128) d * s 1) m + (s 4 + s 7 + s 5 + s 6) * (((itL (byF F (nxF q r (-d)) d) 128).length + 0 : Nat) : Int) := fun h h1 h2 => by
    unfold eofV; rw [hm, if_neg (fun h3 => h3.elim h (fun h4 => by rw [SG.2 h4] at h1; cases h1)), if_neg h2]
  clear SG
  have nl : btP (nxF q r (-(cmpI m p))) fl (itL F 128) ≤ 128 := Nat.le_trans (btP_le _ _ _) (itL_len F 128)
  have cl : (itL (byF F (nxF q r (-d)) d) 128).length ≤ 128 := itL_len _ 128
  obtain ⟨RES, hRES⟩ : ∃ z, eofV (doorV (s 7) (s 5) (s 6) mo le) p d (s 1) q r (s 4 + s 7 + s 5 + s 6) fl dir F = z := ⟨_, rfl⟩
  rw [hRES] at E1 E2 E3 ⊢
  clear hRES
  obtain ⟨D, hD⟩ : ∃ z, (doorV (s 7) (s 5) (s 6) mo le) = z := ⟨_, rfl⟩
  rw [hD] at KO DB E1 E2 E3
  obtain ⟨X, hX⟩ : ∃ X, farV p m = X := ⟨_, rfl⟩
  rw [hX] at KF fb E1
  obtain ⟨u, hu⟩ : ∃ u, cmpI m p = u := ⟨_, rfl⟩
  rw [hu] at KD KB KG u0 E1 E2 E3 nl
  obtain ⟨N, hN⟩ : ∃ N, btP (nxF q r (-u)) fl (itL F 128) = N := ⟨_, rfl⟩
  rw [hN] at KB nl E1 E2
  obtain ⟨st, hst⟩ : ∃ st, s 4 + s 7 + s 5 + s 6 = st := ⟨_, rfl⟩
  have s0 : 4 ≤ st ∧ st ≤ 256 := by omega
  rw [hst] at KS E1 E2 E3
  obtain ⟨G, hG⟩ : ∃ G, byF F (nxF q r (-d)) d = G := ⟨_, rfl⟩
  rw [hG] at KL KY KC LT LN LB E1 E2 E3 cl
  obtain ⟨T, hTT⟩ : ∃ T, nxF q r (-d) = T := ⟨_, rfl⟩
  rw [hTT] at KN KL KY
  obtain ⟨t0, ht0⟩ : ∃ t, nxT (s 1) r (-d) = t := ⟨_, rfl⟩
  rw [ht0] at KN
  obtain ⟨sg, hsg⟩ : ∃ z, sgV d fl dir u F = z := ⟨_, rfl⟩
  rw [hsg] at KG E1 E2 E3
  obtain ⟨cn, hcn⟩ : ∃ z, (itL G 128).length = z := ⟨_, rfl⟩
  rw [hcn] at KC LT LN E1 E2 E3 cl
  obtain ⟨tr, htr⟩ : ∃ z, trn (itL G 128) d = z := ⟨_, rfl⟩
  rw [htr] at LT E2 E3
  have hwd : IntKind.i64.wrap (-d) = -d := IntWalk.i64_in _ (by omega)
  have M0 : 0 ≤ st * (N : Int) := Int.mul_nonneg (by omega) (by omega)
  have M1 : st * (N : Int) ≤ 256 * 128 := Int.mul_le_mul (by omega) (by omega) (by omega) (by omega)
  have P0 : 0 ≤ st * ((cn + N : Nat) : Int) := Int.mul_nonneg (by omega) (by omega)
  have P1 : st * ((cn + N : Nat) : Int) ≤ 256 * 256 := Int.mul_le_mul (by omega) (by omega) (by omega) (by omega)
  have Q0 : 0 ≤ st * ((cn + 0 : Nat) : Int) := Int.mul_nonneg (by omega) (by omega)
  have Q1 : st * ((cn + 0 : Nat) : Int) ≤ 256 * 256 := Int.mul_le_mul (by omega) (by omega) (by omega) (by omega)
  unfold setV scnV carV at *
  obtain ⟨x, hx⟩ : ∃ x, wordX F = x := ⟨_, rfl⟩
  obtain ⟨y, hy⟩ : ∃ y, wordY F = y := ⟨_, rfl⟩
  obtain ⟨gx, hgx⟩ : ∃ x, wordX G = x := ⟨_, rfl⟩
  obtain ⟨gy, hgy⟩ : ∃ y, wordY G = y := ⟨_, rfl⟩
  rw [hx, hy] at KB KL KG KY ⊢
  rw [hgx, hgy] at KY KC
  have JA := Lib.hid KA; have JD := Lib.hid KD; have JF := Lib.hid KF; have JS := Lib.hid KS; have JN := Lib.hid KN; have JO := Lib.hid KO; have JL := Lib.hid KL; have JB := Lib.hid KB; have JG := Lib.hid KG; have JY := Lib.hid KY; have JC := Lib.hid KC
  have HE1 := Lib.hid E1; have HE2 := Lib.hid E2; have HE3 := Lib.hid E3; have HLT := Lib.hid LT; have HLN := Lib.hid LN; have HLB := Lib.hid LB; have HKT := Lib.hid KT
  obtain ⟨fb0, fb1⟩ := fb
  obtain ⟨db0, db1⟩ := DB
  have JT := Lib.hid hT
  have Hg := Lib.hid hg; have Hg' := Lib.hid hg'
  clear e KA KD KF KS KN KO KL KB KG KY KC E1 E2 E3 LT LN LB KT hx hy hgx hgy hst hN hu hX hD hG hTT ht0 hsg hcn htr h4 h5 h6 h7 hT hg hg' hm
  go_enter Tryd.func9, Tryd.ntmps9
  go_wp2_with fail
  have BS := ((Blk.new w #[.int .i64 (s 0), .int .i64 (s 1), .int .i64 (s 2), .int .i64 (s 3), .int .i64 (s 4), .int .i64 (s 5), .int .i64 (s 6), .int .i64 (s 7), .slice A n c, .int .i64 (s 9), .int .i64 (s 10), .int .i64 (s 11), .int .i64 (s 12)] 25).alloc (.cells #[.int .i64 p, .int .i64 d, .int .i64 mo, .int .i64 le, .bool bw, R] 36)).alloc (.cells #[.int .u64 x, .int .u64 y] 40)
  have BC := (Blk.new (w.alloc (.cells #[.int .i64 (s 0), .int .i64 (s 1), .int .i64 (s 2), .int .i64 (s 3), .int .i64 (s 4), .int .i64 (s 5), .int .i64 (s 6), .int .i64 (s 7), .slice A n c, .int .i64 (s 9), .int .i64 (s 10), .int .i64 (s 11), .int .i64 (s 12)] 25)) #[.int .i64 p, .int .i64 d, .int .i64 mo, .int .i64 le, .bool bw, R] 36).alloc (.cells #[.int .u64 x, .int .u64 y] 40)
  rw [World.size_alloc] at BC
  have BT := Blk.new ((w.alloc (.cells #[.int .i64 (s 0), .int .i64 (s 1), .int .i64 (s 2), .int .i64 (s 3), .int .i64 (s 4), .int .i64 (s 5), .int .i64 (s 6), .int .i64 (s 7), .slice A n c, .int .i64 (s 9), .int .i64 (s 10), .int .i64 (s 11), .int .i64 (s 12)] 25)).alloc (.cells #[.int .i64 p, .int .i64 d, .int .i64 mo, .int .i64 le, .bool bw, R] 36)) #[.int .u64 x, .int .u64 y] 40
  rw [World.size_alloc, World.size_alloc] at BT
  have BE : Below w.heap.size w (((w.alloc (.cells #[.int .i64 (s 0), .int .i64 (s 1), .int .i64 (s 2), .int .i64 (s 3), .int .i64 (s 4), .int .i64 (s 5), .int .i64 (s 6), .int .i64 (s 7), .slice A n c, .int .i64 (s 9), .int .i64 (s 10), .int .i64 (s 11), .int .i64 (s 12)] 25)).alloc (.cells #[.int .i64 p, .int .i64 d, .int .i64 mo, .int .i64 le, .bool bw, R] 36)).alloc (.cells #[.int .u64 x, .int .u64 y] 40)) := (((Below.refl w.heap.size w).alloc (Nat.le_refl _) _).alloc (by simp <;> omega) _).alloc (by simp <;> omega) _
  obtain ⟨V0, hV0⟩ : ∃ V, (((w.alloc (.cells #[.int .i64 (s 0), .int .i64 (s 1), .int .i64 (s 2), .int .i64 (s 3), .int .i64 (s 4), .int .i64 (s 5), .int .i64 (s 6), .int .i64 (s 7), .slice A n c, .int .i64 (s 9), .int .i64 (s 10), .int .i64 (s 11), .int .i64 (s 12)] 25)).alloc (.cells #[.int .i64 p, .int .i64 d, .int .i64 mo, .int .i64 le, .bool bw, R] 36)).alloc (.cells #[.int .u64 x, .int .u64 y] 40)) = V := ⟨_, rfl⟩
  rw [hV0] at BS BC BT BE ⊢
  have HS := Lib.hid BS
  have HC := Lib.hid BC
  have HT := Lib.hid BT
  have EE := Lib.hid BE
  have ne0_1 : w.heap.size ≠ w.heap.size + 1 := by omega
  have ne0_2 : w.heap.size ≠ w.heap.size + 1 + 1 := by omega
  have ne1_0 : w.heap.size + 1 ≠ w.heap.size := by omega
  have ne1_2 : w.heap.size + 1 ≠ w.heap.size + 1 + 1 := by omega
  have ne2_0 : w.heap.size + 1 + 1 ≠ w.heap.size := by omega
  have ne2_1 : w.heap.size + 1 + 1 ≠ w.heap.size + 1 := by omega
  clear hV0 BE BS BC BT
  have kS0 : V0.cell? ⟨w.heap.size, 0, none⟩ = some (.int .i64 (s 0)) := HS.out.cell 0
  have kS1 : V0.cell? ⟨w.heap.size, 1, none⟩ = some (.int .i64 (s 1)) := HS.out.cell 1
  have kS2 : V0.cell? ⟨w.heap.size, 2, none⟩ = some (.int .i64 (s 2)) := HS.out.cell 2
  have kS3 : V0.cell? ⟨w.heap.size, 3, none⟩ = some (.int .i64 (s 3)) := HS.out.cell 3
  have kS4 : V0.cell? ⟨w.heap.size, 4, none⟩ = some (.int .i64 (s 4)) := HS.out.cell 4
  have kS5 : V0.cell? ⟨w.heap.size, 5, none⟩ = some (.int .i64 (s 5)) := HS.out.cell 5
  have kS6 : V0.cell? ⟨w.heap.size, 6, none⟩ = some (.int .i64 (s 6)) := HS.out.cell 6
  have kS7 : V0.cell? ⟨w.heap.size, 7, none⟩ = some (.int .i64 (s 7)) := HS.out.cell 7
  have kS8 : V0.cell? ⟨w.heap.size, 8, none⟩ = some (.slice A n c) := HS.out.cell 8
  have kS9 : V0.cell? ⟨w.heap.size, 9, none⟩ = some (.int .i64 (s 9)) := HS.out.cell 9
  have kS10 : V0.cell? ⟨w.heap.size, 10, none⟩ = some (.int .i64 (s 10)) := HS.out.cell 10
  have kS11 : V0.cell? ⟨w.heap.size, 11, none⟩ = some (.int .i64 (s 11)) := HS.out.cell 11
  have kS12 : V0.cell? ⟨w.heap.size, 12, none⟩ = some (.int .i64 (s 12)) := HS.out.cell 12
  have kC0 : V0.cell? ⟨w.heap.size + 1, 0, none⟩ = some (.int .i64 p) := HC.out.cell 0
  have kC1 : V0.cell? ⟨w.heap.size + 1, 1, none⟩ = some (.int .i64 d) := HC.out.cell 1
  have kC2 : V0.cell? ⟨w.heap.size + 1, 2, none⟩ = some (.int .i64 mo) := HC.out.cell 2
  have kC3 : V0.cell? ⟨w.heap.size + 1, 3, none⟩ = some (.int .i64 le) := HC.out.cell 3
  have kC4 : V0.cell? ⟨w.heap.size + 1, 4, none⟩ = some (.bool bw) := HC.out.cell 4
  have kC5 : V0.cell? ⟨w.heap.size + 1, 5, none⟩ = some (R) := HC.out.cell 5
  have kT0 : V0.cell? ⟨w.heap.size + 1 + 1, 0, none⟩ = some (.int .u64 x) := HT.out.cell 0
  have kT1 : V0.cell? ⟨w.heap.size + 1 + 1, 1, none⟩ = some (.int .u64 y) := HT.out.cell 1
  go_wp2_with (first | (go_at_call 21; refine (JA.out _).mono ?_; rintro e w' ⟨rfl, rfl⟩) | (go_at_call 22; refine (JD.out _).mono ?_; rintro e w' ⟨rfl, rfl⟩))
  refine (JS.out _).mono ?_
  rintro e v1 ⟨rfl, hb⟩
  clear kS0 kS1 kS2 kS3 kS4 kS5 kS6 kS7 kS8 kS9 kS10 kS11 kS12 kC0 kC1 kC2 kC3 kC4 kC5 kT0 kT1
  have HS := Lib.hid (Blk.next (w := V0) HS.out hb)
  have HC := Lib.hid (Blk.next (w := V0) HC.out hb)
  have HT := Lib.hid (Blk.next (w := V0) HT.out hb)
  have EE := Lib.hid (EE.out.trans (hb.mono EE.out.size))
  clear hb
  have kS0 : v1.cell? ⟨w.heap.size, 0, none⟩ = some (.int .i64 (s 0)) := HS.out.cell 0
  have kS1 : v1.cell? ⟨w.heap.size, 1, none⟩ = some (.int .i64 (s 1)) := HS.out.cell 1
  have kS2 : v1.cell? ⟨w.heap.size, 2, none⟩ = some (.int .i64 (s 2)) := HS.out.cell 2
  have kS3 : v1.cell? ⟨w.heap.size, 3, none⟩ = some (.int .i64 (s 3)) := HS.out.cell 3
  have kS4 : v1.cell? ⟨w.heap.size, 4, none⟩ = some (.int .i64 (s 4)) := HS.out.cell 4
  have kS5 : v1.cell? ⟨w.heap.size, 5, none⟩ = some (.int .i64 (s 5)) := HS.out.cell 5
  have kS6 : v1.cell? ⟨w.heap.size, 6, none⟩ = some (.int .i64 (s 6)) := HS.out.cell 6
  have kS7 : v1.cell? ⟨w.heap.size, 7, none⟩ = some (.int .i64 (s 7)) := HS.out.cell 7
  have kS8 : v1.cell? ⟨w.heap.size, 8, none⟩ = some (.slice A n c) := HS.out.cell 8
  have kS9 : v1.cell? ⟨w.heap.size, 9, none⟩ = some (.int .i64 (s 9)) := HS.out.cell 9
  have kS10 : v1.cell? ⟨w.heap.size, 10, none⟩ = some (.int .i64 (s 10)) := HS.out.cell 10
  have kS11 : v1.cell? ⟨w.heap.size, 11, none⟩ = some (.int .i64 (s 11)) := HS.out.cell 11
  have kS12 : v1.cell? ⟨w.heap.size, 12, none⟩ = some (.int .i64 (s 12)) := HS.out.cell 12
  have kC0 : v1.cell? ⟨w.heap.size + 1, 0, none⟩ = some (.int .i64 p) := HC.out.cell 0
  have kC1 : v1.cell? ⟨w.heap.size + 1, 1, none⟩ = some (.int .i64 d) := HC.out.cell 1
  have kC2 : v1.cell? ⟨w.heap.size + 1, 2, none⟩ = some (.int .i64 mo) := HC.out.cell 2
  have kC3 : v1.cell? ⟨w.heap.size + 1, 3, none⟩ = some (.int .i64 le) := HC.out.cell 3
  have kC4 : v1.cell? ⟨w.heap.size + 1, 4, none⟩ = some (.bool bw) := HC.out.cell 4
  have kC5 : v1.cell? ⟨w.heap.size + 1, 5, none⟩ = some (R) := HC.out.cell 5
  have kT0 : v1.cell? ⟨w.heap.size + 1 + 1, 0, none⟩ = some (.int .u64 x) := HT.out.cell 0
  have kT1 : v1.cell? ⟨w.heap.size + 1 + 1, 1, none⟩ = some (.int .u64 y) := HT.out.cell 1
  go_wp2_with fail
  refine (JN.out _).mono ?_
  rintro e v2 ⟨rfl, hb⟩
  clear kS0 kS1 kS2 kS3 kS4 kS5 kS6 kS7 kS8 kS9 kS10 kS11 kS12 kC0 kC1 kC2 kC3 kC4 kC5 kT0 kT1
  have HS := Lib.hid (Blk.next (w := v1) HS.out hb)
  have HC := Lib.hid (Blk.next (w := v1) HC.out hb)
  have HT := Lib.hid (Blk.next (w := v1) HT.out hb)
  have EE := Lib.hid (EE.out.trans (hb.mono EE.out.size))
  clear hb
  have kS0 : v2.cell? ⟨w.heap.size, 0, none⟩ = some (.int .i64 (s 0)) := HS.out.cell 0
  have kS1 : v2.cell? ⟨w.heap.size, 1, none⟩ = some (.int .i64 (s 1)) := HS.out.cell 1
  have kS2 : v2.cell? ⟨w.heap.size, 2, none⟩ = some (.int .i64 (s 2)) := HS.out.cell 2
  have kS3 : v2.cell? ⟨w.heap.size, 3, none⟩ = some (.int .i64 (s 3)) := HS.out.cell 3
  have kS4 : v2.cell? ⟨w.heap.size, 4, none⟩ = some (.int .i64 (s 4)) := HS.out.cell 4
  have kS5 : v2.cell? ⟨w.heap.size, 5, none⟩ = some (.int .i64 (s 5)) := HS.out.cell 5
  have kS6 : v2.cell? ⟨w.heap.size, 6, none⟩ = some (.int .i64 (s 6)) := HS.out.cell 6
  have kS7 : v2.cell? ⟨w.heap.size, 7, none⟩ = some (.int .i64 (s 7)) := HS.out.cell 7
  have kS8 : v2.cell? ⟨w.heap.size, 8, none⟩ = some (.slice A n c) := HS.out.cell 8
  have kS9 : v2.cell? ⟨w.heap.size, 9, none⟩ = some (.int .i64 (s 9)) := HS.out.cell 9
  have kS10 : v2.cell? ⟨w.heap.size, 10, none⟩ = some (.int .i64 (s 10)) := HS.out.cell 10
  have kS11 : v2.cell? ⟨w.heap.size, 11, none⟩ = some (.int .i64 (s 11)) := HS.out.cell 11
  have kS12 : v2.cell? ⟨w.heap.size, 12, none⟩ = some (.int .i64 (s 12)) := HS.out.cell 12
  have kC0 : v2.cell? ⟨w.heap.size + 1, 0, none⟩ = some (.int .i64 p) := HC.out.cell 0
  have kC1 : v2.cell? ⟨w.heap.size + 1, 1, none⟩ = some (.int .i64 d) := HC.out.cell 1
  have kC2 : v2.cell? ⟨w.heap.size + 1, 2, none⟩ = some (.int .i64 mo) := HC.out.cell 2
  have kC3 : v2.cell? ⟨w.heap.size + 1, 3, none⟩ = some (.int .i64 le) := HC.out.cell 3
  have kC4 : v2.cell? ⟨w.heap.size + 1, 4, none⟩ = some (.bool bw) := HC.out.cell 4
  have kC5 : v2.cell? ⟨w.heap.size + 1, 5, none⟩ = some (R) := HC.out.cell 5
  have kT0 : v2.cell? ⟨w.heap.size + 1 + 1, 0, none⟩ = some (.int .u64 x) := HT.out.cell 0
  have kT1 : v2.cell? ⟨w.heap.size + 1 + 1, 1, none⟩ = some (.int .u64 y) := HT.out.cell 1
  go_wp2_with fail
  refine (JL.out _ (JT.out.kept EE.out)).mono ?_
  rintro e v3 ⟨r', b', rfl, hE, hb⟩
  have HE := Lib.hid hE
  clear hE
  clear kS0 kS1 kS2 kS3 kS4 kS5 kS6 kS7 kS8 kS9 kS10 kS11 kS12 kC0 kC1 kC2 kC3 kC4 kC5 kT0 kT1
  have HS := Lib.hid (Blk.next (w := v2) HS.out hb)
  have HC := Lib.hid (Blk.next (w := v2) HC.out hb)
  have HT := Lib.hid (Blk.next (w := v2) HT.out hb)
  have EE := Lib.hid (EE.out.trans (hb.mono EE.out.size))
  clear hb
  have kS0 : v3.cell? ⟨w.heap.size, 0, none⟩ = some (.int .i64 (s 0)) := HS.out.cell 0
  have kS1 : v3.cell? ⟨w.heap.size, 1, none⟩ = some (.int .i64 (s 1)) := HS.out.cell 1
  have kS2 : v3.cell? ⟨w.heap.size, 2, none⟩ = some (.int .i64 (s 2)) := HS.out.cell 2
  have kS3 : v3.cell? ⟨w.heap.size, 3, none⟩ = some (.int .i64 (s 3)) := HS.out.cell 3
  have kS4 : v3.cell? ⟨w.heap.size, 4, none⟩ = some (.int .i64 (s 4)) := HS.out.cell 4
  have kS5 : v3.cell? ⟨w.heap.size, 5, none⟩ = some (.int .i64 (s 5)) := HS.out.cell 5
  have kS6 : v3.cell? ⟨w.heap.size, 6, none⟩ = some (.int .i64 (s 6)) := HS.out.cell 6
  have kS7 : v3.cell? ⟨w.heap.size, 7, none⟩ = some (.int .i64 (s 7)) := HS.out.cell 7
  have kS8 : v3.cell? ⟨w.heap.size, 8, none⟩ = some (.slice A n c) := HS.out.cell 8
  have kS9 : v3.cell? ⟨w.heap.size, 9, none⟩ = some (.int .i64 (s 9)) := HS.out.cell 9
  have kS10 : v3.cell? ⟨w.heap.size, 10, none⟩ = some (.int .i64 (s 10)) := HS.out.cell 10
  have kS11 : v3.cell? ⟨w.heap.size, 11, none⟩ = some (.int .i64 (s 11)) := HS.out.cell 11
  have kS12 : v3.cell? ⟨w.heap.size, 12, none⟩ = some (.int .i64 (s 12)) := HS.out.cell 12
  have kC0 : v3.cell? ⟨w.heap.size + 1, 0, none⟩ = some (.int .i64 p) := HC.out.cell 0
  have kC1 : v3.cell? ⟨w.heap.size + 1, 1, none⟩ = some (.int .i64 d) := HC.out.cell 1
  have kC2 : v3.cell? ⟨w.heap.size + 1, 2, none⟩ = some (.int .i64 mo) := HC.out.cell 2
  have kC3 : v3.cell? ⟨w.heap.size + 1, 3, none⟩ = some (.int .i64 le) := HC.out.cell 3
  have kC4 : v3.cell? ⟨w.heap.size + 1, 4, none⟩ = some (.bool bw) := HC.out.cell 4
  have kC5 : v3.cell? ⟨w.heap.size + 1, 5, none⟩ = some (R) := HC.out.cell 5
  have kT0 : v3.cell? ⟨w.heap.size + 1 + 1, 0, none⟩ = some (.int .u64 x) := HT.out.cell 0
  have kT1 : v3.cell? ⟨w.heap.size + 1 + 1, 1, none⟩ = some (.int .u64 y) := HT.out.cell 1
  cases b'
  · have hz : cn = 0 := HLN.out _ HE.out
    have HZ := Lib.hid hz
    clear hz
    have HR : Hid (RES = D + X + st * (N : Int)) := Lib.hid (HE1.out (.inl HZ.out))
    clear HE1 HE2 HE3
    obtain ⟨M, hM⟩ : ∃ M, st * (N : Int) = M := ⟨_, rfl⟩
    rw [hM] at M0 M1
    have hw1 : IntKind.i64.wrap (D + X) = D + X := IntWalk.i64_in _ (by omega)
    have hw2 : IntKind.i64.wrap (st * (N : Int)) = M := by rw [hM]; exact IntWalk.i64_in _ (by omega)
    have hw3 : IntKind.i64.wrap (D + X + M) = D + X + M := IntWalk.i64_in _ (by omega)
    have HM := Lib.hid hM
    clear hM
    go_wp2_with fail
    have sK : ∀ X, Blk X (w.heap.size) 25 #[.int .i64 (s 0), .int .i64 (s 1), .int .i64 (s 2), .int .i64 (s 3), .int .i64 (s 4), .int .i64 (s 5), .int .i64 (s 6), .int .i64 (s 7), .slice A n c, .int .i64 (s 9), .int .i64 (s 10), .int .i64 (s 11), .int .i64 (s 12)] → Blk X (w.heap.size + 1) 36 #[.int .i64 p, .int .i64 d, .int .i64 mo, .int .i64 le, .bool bw, R] → Blk X (w.heap.size + 1 + 1) 40 #[.int .u64 x, .int .u64 y] → (fun X => X.cell? ⟨w.heap.size, 0, none⟩ = some (.int .i64 (s 0)) ∧ X.cell? ⟨w.heap.size, 1, none⟩ = some (.int .i64 (s 1)) ∧ X.cell? ⟨w.heap.size, 2, none⟩ = some (.int .i64 (s 2)) ∧ X.cell? ⟨w.heap.size, 3, none⟩ = some (.int .i64 (s 3)) ∧ X.cell? ⟨w.heap.size, 4, none⟩ = some (.int .i64 (s 4)) ∧ X.cell? ⟨w.heap.size, 5, none⟩ = some (.int .i64 (s 5)) ∧ X.cell? ⟨w.heap.size, 6, none⟩ = some (.int .i64 (s 6)) ∧ X.cell? ⟨w.heap.size, 7, none⟩ = some (.int .i64 (s 7)) ∧ X.cell? ⟨w.heap.size, 8, none⟩ = some (.slice A n c) ∧ X.cell? ⟨w.heap.size, 9, none⟩ = some (.int .i64 (s 9)) ∧ X.cell? ⟨w.heap.size, 10, none⟩ = some (.int .i64 (s 10)) ∧ X.cell? ⟨w.heap.size, 11, none⟩ = some (.int .i64 (s 11)) ∧ X.cell? ⟨w.heap.size, 12, none⟩ = some (.int .i64 (s 12)) ∧ X.cell? ⟨w.heap.size + 1, 0, none⟩ = some (.int .i64 p) ∧ X.cell? ⟨w.heap.size + 1, 1, none⟩ = some (.int .i64 d) ∧ X.cell? ⟨w.heap.size + 1, 2, none⟩ = some (.int .i64 mo) ∧ X.cell? ⟨w.heap.size + 1, 3, none⟩ = some (.int .i64 le) ∧ X.cell? ⟨w.heap.size + 1, 4, none⟩ = some (.bool bw) ∧ X.cell? ⟨w.heap.size + 1, 5, none⟩ = some (R) ∧ X.cell? ⟨w.heap.size + 1 + 1, 0, none⟩ = some (.int .u64 x) ∧ X.cell? ⟨w.heap.size + 1 + 1, 1, none⟩ = some (.int .u64 y)) X := fun X hS hC hT => ⟨hS.cell 0, hS.cell 1, hS.cell 2, hS.cell 3, hS.cell 4, hS.cell 5, hS.cell 6, hS.cell 7, hS.cell 8, hS.cell 9, hS.cell 10, hS.cell 11, hS.cell 12, hC.cell 0, hC.cell 1, hC.cell 2, hC.cell 3, hC.cell 4, hC.cell 5, hT.cell 0, hT.cell 1⟩
    have LS0 := Lib.hid (HS.out.drew)
    have LC0 := Lib.hid (HC.out.drew)
    have LT0 := Lib.hid (HT.out.drew)
    have E0 := Lib.hid (EE.out.drew)
    clear kS0 kS1 kS2 kS3 kS4 kS5 kS6 kS7 kS8 kS9 kS10 kS11 kS12 kC0 kC1 kC2 kC3 kC4 kC5 kT0 kT1
    refine wp_region_held_drew (S := (fun X => X.cell? ⟨w.heap.size, 0, none⟩ = some (.int .i64 (s 0)) ∧ X.cell? ⟨w.heap.size, 1, none⟩ = some (.int .i64 (s 1)) ∧ X.cell? ⟨w.heap.size, 2, none⟩ = some (.int .i64 (s 2)) ∧ X.cell? ⟨w.heap.size, 3, none⟩ = some (.int .i64 (s 3)) ∧ X.cell? ⟨w.heap.size, 4, none⟩ = some (.int .i64 (s 4)) ∧ X.cell? ⟨w.heap.size, 5, none⟩ = some (.int .i64 (s 5)) ∧ X.cell? ⟨w.heap.size, 6, none⟩ = some (.int .i64 (s 6)) ∧ X.cell? ⟨w.heap.size, 7, none⟩ = some (.int .i64 (s 7)) ∧ X.cell? ⟨w.heap.size, 8, none⟩ = some (.slice A n c) ∧ X.cell? ⟨w.heap.size, 9, none⟩ = some (.int .i64 (s 9)) ∧ X.cell? ⟨w.heap.size, 10, none⟩ = some (.int .i64 (s 10)) ∧ X.cell? ⟨w.heap.size, 11, none⟩ = some (.int .i64 (s 11)) ∧ X.cell? ⟨w.heap.size, 12, none⟩ = some (.int .i64 (s 12)) ∧ X.cell? ⟨w.heap.size + 1, 0, none⟩ = some (.int .i64 p) ∧ X.cell? ⟨w.heap.size + 1, 1, none⟩ = some (.int .i64 d) ∧ X.cell? ⟨w.heap.size + 1, 2, none⟩ = some (.int .i64 mo) ∧ X.cell? ⟨w.heap.size + 1, 3, none⟩ = some (.int .i64 le) ∧ X.cell? ⟨w.heap.size + 1, 4, none⟩ = some (.bool bw) ∧ X.cell? ⟨w.heap.size + 1, 5, none⟩ = some (R) ∧ X.cell? ⟨w.heap.size + 1 + 1, 0, none⟩ = some (.int .u64 x) ∧ X.cell? ⟨w.heap.size + 1 + 1, 1, none⟩ = some (.int .u64 y))) (by kernel_rfl) (sK _ LS0.out LC0.out LT0.out) (fun hHeld => ?_)
    clear hHeld
    refine wpAnyH_take (i := 0) (v := ?_) rfl (by kernel_rfl) (by kernel_rfl) (by kernel_rfl) (fun _ _ _ h => h) (Or.inl ⟨by rfl, ?_⟩) (sK _ LS0.out LC0.out LT0.out) ?_
    rotate_left
    · (intro wS hSw; (try dsimp only at hSw); go_simp; try with_reducible rfl)
    simp only [Act.put, List.getElem_toArray, List.getElem_cons_zero, List.getElem_cons_succ, List.setIfInBounds_toArray, List.set_cons_zero, List.set_cons_succ]
    refine wpAnyH_take (i := 1) (v := ?_) rfl (by kernel_rfl) (by kernel_rfl) (by kernel_rfl) (fun _ _ _ h => h) (Or.inl ⟨by rfl, ?_⟩) (sK _ LS0.out LC0.out LT0.out) ?_
    rotate_left
    · (intro wS hSw; (try dsimp only at hSw); go_simp; try with_reducible rfl)
    simp only [Act.put, List.getElem_toArray, List.getElem_cons_zero, List.getElem_cons_succ, List.setIfInBounds_toArray, List.set_cons_zero, List.set_cons_succ]
    refine wpAnyH_take (i := 3) (v := ?_) rfl (by kernel_rfl) (by kernel_rfl) (by kernel_rfl) (fun _ _ _ h => h) (Or.inl ⟨by rfl, ?_⟩) (sK _ LS0.out LC0.out LT0.out) ?_
    rotate_left
    · (intro wS hSw; (try dsimp only at hSw); go_simp; try with_reducible rfl)
    simp only [Act.put, List.getElem_toArray, List.getElem_cons_zero, List.getElem_cons_succ, List.setIfInBounds_toArray, List.set_cons_zero, List.set_cons_succ]
    refine wpAnyH_take (i := 4) (v := ?_) rfl (by kernel_rfl) (by kernel_rfl) (by kernel_rfl) (fun _ _ _ h => h) (Or.inl ⟨by rfl, ?_⟩) (sK _ LS0.out LC0.out LT0.out) ?_
    rotate_left
    · (intro wS hSw; (try dsimp only at hSw); go_simp; try with_reducible rfl)
    simp only [Act.put, List.getElem_toArray, List.getElem_cons_zero, List.getElem_cons_succ, List.setIfInBounds_toArray, List.set_cons_zero, List.set_cons_succ]
    refine wpAnyH_take (i := 5) (v := ?_) rfl (by kernel_rfl) (by kernel_rfl) (by kernel_rfl) (fun _ _ _ h => h) (Or.inl ⟨by rfl, ?_⟩) (sK _ LS0.out LC0.out LT0.out) ?_
    rotate_left
    · (intro wS hSw; (try dsimp only at hSw); go_simp; try with_reducible rfl)
    simp only [Act.put, List.getElem_toArray, List.getElem_cons_zero, List.getElem_cons_succ, List.setIfInBounds_toArray, List.set_cons_zero, List.set_cons_succ]
    refine wpAnyH_take (i := 8) (v := ?_) rfl (by kernel_rfl) (by kernel_rfl) (by kernel_rfl) (fun _ _ _ h => h) (Or.inl ⟨by rfl, ?_⟩) (sK _ LS0.out LC0.out LT0.out) ?_
    rotate_left
    · (intro wS hSw; (try dsimp only at hSw); go_simp; try with_reducible rfl)
    simp only [Act.put, List.getElem_toArray, List.getElem_cons_zero, List.getElem_cons_succ, List.setIfInBounds_toArray, List.set_cons_zero, List.set_cons_succ]
    refine wpAnyH_take (i := 9) (v := ?_) rfl (by kernel_rfl) (by kernel_rfl) (by kernel_rfl) (fun _ _ _ h => h) (Or.inl ⟨by rfl, ?_⟩) (sK _ LS0.out LC0.out LT0.out) ?_
    rotate_left
    · (intro wS hSw; (try dsimp only at hSw); go_simp; try with_reducible rfl)
    simp only [Act.put, List.getElem_toArray, List.getElem_cons_zero, List.getElem_cons_succ, List.setIfInBounds_toArray, List.set_cons_zero, List.set_cons_succ]
    refine wpAnyH_take (i := 10) (v := ?_) rfl (by kernel_rfl) (by kernel_rfl) (by kernel_rfl) (fun _ _ _ h => h) (Or.inl ⟨by rfl, ?_⟩) (sK _ LS0.out LC0.out LT0.out) ?_
    rotate_left
    · (intro wS hSw; (try dsimp only at hSw); go_simp; try with_reducible rfl)
    simp only [Act.put, List.getElem_toArray, List.getElem_cons_zero, List.getElem_cons_succ, List.setIfInBounds_toArray, List.set_cons_zero, List.set_cons_succ]
    refine wpAnyH_take (i := 11) (v := ?_) rfl (by kernel_rfl) (by kernel_rfl) (by kernel_rfl) (fun _ _ _ h => h) (Or.inl ⟨by rfl, ?_⟩) (sK _ LS0.out LC0.out LT0.out) ?_
    rotate_left
    · (intro wS hSw; (try dsimp only at hSw); go_simp; try with_reducible rfl)
    simp only [Act.put, List.getElem_toArray, List.getElem_cons_zero, List.getElem_cons_succ, List.setIfInBounds_toArray, List.set_cons_zero, List.set_cons_succ]
    refine wpAnyH_take (i := 12) (v := ?_) rfl (by kernel_rfl) (by kernel_rfl) (by kernel_rfl) (fun _ _ _ h => h) (Or.inl ⟨by rfl, ?_⟩) (sK _ LS0.out LC0.out LT0.out) ?_
    rotate_left
    · (intro wS hSw; (try dsimp only at hSw); go_simp; try with_reducible rfl)
    simp only [Act.put, List.getElem_toArray, List.getElem_cons_zero, List.getElem_cons_succ, List.setIfInBounds_toArray, List.set_cons_zero, List.set_cons_succ]
    refine wpAnyH_take (i := 13) (v := ?_) rfl (by kernel_rfl) (by kernel_rfl) (by kernel_rfl) (fun _ _ _ h => h) (Or.inl ⟨by rfl, ?_⟩) (sK _ LS0.out LC0.out LT0.out) ?_
    rotate_left
    · (intro wS hSw; (try dsimp only at hSw); go_simp; try with_reducible rfl)
    simp only [Act.put, List.getElem_toArray, List.getElem_cons_zero, List.getElem_cons_succ, List.setIfInBounds_toArray, List.set_cons_zero, List.set_cons_succ]
    refine wpAnyH_ready (rs := [2]) (by kernel_rfl) (by simp) ?_
    refine AllReadyH.cons rfl (fun K hK => ?_) AllReadyH.nil
    go_simp
    refine (JO.out _).mono ?_
    rintro e r1 ⟨rfl, hb⟩
    have LS1 := Lib.hid (LS0.out.next hb)
    have LC1 := Lib.hid (LC0.out.next hb)
    have LT1 := Lib.hid (LT0.out.next hb)
    have E1 := Lib.hid (E0.out.trans (hb.mono E0.out.size))
    clear hb
    go_wp2_with fail
    refine hK.out _ _ (sK _ LS1.out LC1.out LT1.out) (fun hHeld => ?_)
    clear hK K hHeld
    try simp only [Act.put, List.getElem_toArray, List.getElem_cons_zero, List.getElem_cons_succ, List.setIfInBounds_toArray, List.set_cons_zero, List.set_cons_succ]
    refine wpAnyH_ready (rs := [6]) (by kernel_rfl) (by simp) ?_
    refine AllReadyH.cons rfl (fun K hK => ?_) AllReadyH.nil
    go_simp
    refine (JF.out _).mono ?_
    rintro e r2 ⟨rfl, hb⟩
    have LS2 := Lib.hid (LS1.out.next hb)
    have LC2 := Lib.hid (LC1.out.next hb)
    have LT2 := Lib.hid (LT1.out.next hb)
    have E2 := Lib.hid (E1.out.trans (hb.mono E1.out.size))
    clear hb
    go_wp2_with fail
    refine hK.out _ _ (sK _ LS2.out LC2.out LT2.out) (fun hHeld => ?_)
    clear hK K hHeld
    try simp only [Act.put, List.getElem_toArray, List.getElem_cons_zero, List.getElem_cons_succ, List.setIfInBounds_toArray, List.set_cons_zero, List.set_cons_succ]
    refine wpAnyH_take (i := 7) (v := ?_) rfl (by kernel_rfl) (by kernel_rfl) (by kernel_rfl) (fun _ _ _ h => h) (Or.inl ⟨by rfl, ?_⟩) (sK _ LS2.out LC2.out LT2.out) ?_
    rotate_left
    · (intro wS hSw; (try dsimp only at hSw); go_simp; try with_reducible rfl)
    simp only [Act.put, List.getElem_toArray, List.getElem_cons_zero, List.getElem_cons_succ, List.setIfInBounds_toArray, List.set_cons_zero, List.set_cons_succ]
    refine wpAnyH_ready (rs := [14]) (by kernel_rfl) (by simp) ?_
    refine AllReadyH.cons rfl (fun K hK => ?_) AllReadyH.nil
    go_simp
    refine (JB.out _ (JT.out.kept E2.out)).mono ?_
    rintro e r3 ⟨rfl, hb⟩
    have LS3 := Lib.hid (LS2.out.next hb)
    have LC3 := Lib.hid (LC2.out.next hb)
    have LT3 := Lib.hid (LT2.out.next hb)
    have E3 := Lib.hid (E2.out.trans (hb.mono E2.out.size))
    clear hb
    go_wp2_with fail
    refine hK.out _ _ (sK _ LS3.out LC3.out LT3.out) (fun hHeld => ?_)
    clear hK K hHeld
    try simp only [Act.put, List.getElem_toArray, List.getElem_cons_zero, List.getElem_cons_succ, List.setIfInBounds_toArray, List.set_cons_zero, List.set_cons_succ]
    refine wpAnyH_take (i := 15) (v := ?_) rfl (by kernel_rfl) (by kernel_rfl) (by kernel_rfl) (fun _ _ _ h => h) (Or.inl ⟨by rfl, ?_⟩) (sK _ LS3.out LC3.out LT3.out) ?_
    rotate_left
    · (intro wS hSw; (try dsimp only at hSw); go_simp; try with_reducible rfl)
    simp only [Act.put, List.getElem_toArray, List.getElem_cons_zero, List.getElem_cons_succ, List.setIfInBounds_toArray, List.set_cons_zero, List.set_cons_succ]
    refine wpAnyH_take (i := 16) (v := ?_) rfl (by kernel_rfl) (by kernel_rfl) (by kernel_rfl) (fun _ _ _ h => h) (Or.inl ⟨by rfl, ?_⟩) (sK _ LS3.out LC3.out LT3.out) ?_
    rotate_left
    · (intro wS hSw; (try dsimp only at hSw); go_simp; try with_reducible rfl)
    simp only [Act.put, List.getElem_toArray, List.getElem_cons_zero, List.getElem_cons_succ, List.setIfInBounds_toArray, List.set_cons_zero, List.set_cons_succ]
    refine wpAnyH_take (i := 17) (v := ?_) rfl (by kernel_rfl) (by kernel_rfl) (by kernel_rfl) (fun _ _ _ h => h) (Or.inl ⟨by rfl, ?_⟩) (sK _ LS3.out LC3.out LT3.out) ?_
    rotate_left
    · (intro wS hSw; (try dsimp only at hSw); go_simp; try with_reducible rfl)
    simp only [Act.put, List.getElem_toArray, List.getElem_cons_zero, List.getElem_cons_succ, List.setIfInBounds_toArray, List.set_cons_zero, List.set_cons_succ]
    refine wpAnyH_done (by kernel_rfl) ?_ _
    go_wp2_with fail
    try go_ret
    exact ⟨nret (by rw [HR.out, HM.out]), E3.out⟩
  · obtain ⟨hz, htr⟩ := HLT.out _ HE.out
    obtain ⟨HB1, HB2⟩ := HLB.out _ HE.out
    have HTR := Lib.hid htr
    clear htr
    go_wp2_with fail
    refine (JG.out _).mono ?_
    rintro e v4 ⟨rfl, hb⟩
    clear kS0 kS1 kS2 kS3 kS4 kS5 kS6 kS7 kS8 kS9 kS10 kS11 kS12 kC0 kC1 kC2 kC3 kC4 kC5 kT0 kT1
    have HS := Lib.hid (Blk.next (w := v3) HS.out hb)
    have HC := Lib.hid (Blk.next (w := v3) HC.out hb)
    have HT := Lib.hid (Blk.next (w := v3) HT.out hb)
    have EE := Lib.hid (EE.out.trans (hb.mono EE.out.size))
    clear hb
    have kS0 : v4.cell? ⟨w.heap.size, 0, none⟩ = some (.int .i64 (s 0)) := HS.out.cell 0
    have kS1 : v4.cell? ⟨w.heap.size, 1, none⟩ = some (.int .i64 (s 1)) := HS.out.cell 1
    have kS2 : v4.cell? ⟨w.heap.size, 2, none⟩ = some (.int .i64 (s 2)) := HS.out.cell 2
    have kS3 : v4.cell? ⟨w.heap.size, 3, none⟩ = some (.int .i64 (s 3)) := HS.out.cell 3
    have kS4 : v4.cell? ⟨w.heap.size, 4, none⟩ = some (.int .i64 (s 4)) := HS.out.cell 4
    have kS5 : v4.cell? ⟨w.heap.size, 5, none⟩ = some (.int .i64 (s 5)) := HS.out.cell 5
    have kS6 : v4.cell? ⟨w.heap.size, 6, none⟩ = some (.int .i64 (s 6)) := HS.out.cell 6
    have kS7 : v4.cell? ⟨w.heap.size, 7, none⟩ = some (.int .i64 (s 7)) := HS.out.cell 7
    have kS8 : v4.cell? ⟨w.heap.size, 8, none⟩ = some (.slice A n c) := HS.out.cell 8
    have kS9 : v4.cell? ⟨w.heap.size, 9, none⟩ = some (.int .i64 (s 9)) := HS.out.cell 9
    have kS10 : v4.cell? ⟨w.heap.size, 10, none⟩ = some (.int .i64 (s 10)) := HS.out.cell 10
    have kS11 : v4.cell? ⟨w.heap.size, 11, none⟩ = some (.int .i64 (s 11)) := HS.out.cell 11
    have kS12 : v4.cell? ⟨w.heap.size, 12, none⟩ = some (.int .i64 (s 12)) := HS.out.cell 12
    have kC0 : v4.cell? ⟨w.heap.size + 1, 0, none⟩ = some (.int .i64 p) := HC.out.cell 0
    have kC1 : v4.cell? ⟨w.heap.size + 1, 1, none⟩ = some (.int .i64 d) := HC.out.cell 1
    have kC2 : v4.cell? ⟨w.heap.size + 1, 2, none⟩ = some (.int .i64 mo) := HC.out.cell 2
    have kC3 : v4.cell? ⟨w.heap.size + 1, 3, none⟩ = some (.int .i64 le) := HC.out.cell 3
    have kC4 : v4.cell? ⟨w.heap.size + 1, 4, none⟩ = some (.bool bw) := HC.out.cell 4
    have kC5 : v4.cell? ⟨w.heap.size + 1, 5, none⟩ = some (R) := HC.out.cell 5
    have kT0 : v4.cell? ⟨w.heap.size + 1 + 1, 0, none⟩ = some (.int .u64 x) := HT.out.cell 0
    have kT1 : v4.cell? ⟨w.heap.size + 1 + 1, 1, none⟩ = some (.int .u64 y) := HT.out.cell 1
    cases sg
    · have hc : ¬ cn = 0 := by omega
      go_wp2_with fail
      refine (JY.out _).mono ?_
      rintro e v5 ⟨rfl, hb⟩
      clear kS0 kS1 kS2 kS3 kS4 kS5 kS6 kS7 kS8 kS9 kS10 kS11 kS12 kC0 kC1 kC2 kC3 kC4 kC5 kT0 kT1
      have HS := Lib.hid (Blk.next (w := v4) HS.out hb)
      have HC := Lib.hid (Blk.next (w := v4) HC.out hb)
      have HT := Lib.hid (Blk.next (w := v4) HT.out hb)
      have EE := Lib.hid (EE.out.trans (hb.mono EE.out.size))
      clear hb
      have kS0 : v5.cell? ⟨w.heap.size, 0, none⟩ = some (.int .i64 (s 0)) := HS.out.cell 0
      have kS1 : v5.cell? ⟨w.heap.size, 1, none⟩ = some (.int .i64 (s 1)) := HS.out.cell 1
      have kS2 : v5.cell? ⟨w.heap.size, 2, none⟩ = some (.int .i64 (s 2)) := HS.out.cell 2
      have kS3 : v5.cell? ⟨w.heap.size, 3, none⟩ = some (.int .i64 (s 3)) := HS.out.cell 3
      have kS4 : v5.cell? ⟨w.heap.size, 4, none⟩ = some (.int .i64 (s 4)) := HS.out.cell 4
      have kS5 : v5.cell? ⟨w.heap.size, 5, none⟩ = some (.int .i64 (s 5)) := HS.out.cell 5
      have kS6 : v5.cell? ⟨w.heap.size, 6, none⟩ = some (.int .i64 (s 6)) := HS.out.cell 6
      have kS7 : v5.cell? ⟨w.heap.size, 7, none⟩ = some (.int .i64 (s 7)) := HS.out.cell 7
      have kS8 : v5.cell? ⟨w.heap.size, 8, none⟩ = some (.slice A n c) := HS.out.cell 8
      have kS9 : v5.cell? ⟨w.heap.size, 9, none⟩ = some (.int .i64 (s 9)) := HS.out.cell 9
      have kS10 : v5.cell? ⟨w.heap.size, 10, none⟩ = some (.int .i64 (s 10)) := HS.out.cell 10
      have kS11 : v5.cell? ⟨w.heap.size, 11, none⟩ = some (.int .i64 (s 11)) := HS.out.cell 11
      have kS12 : v5.cell? ⟨w.heap.size, 12, none⟩ = some (.int .i64 (s 12)) := HS.out.cell 12
      have kC0 : v5.cell? ⟨w.heap.size + 1, 0, none⟩ = some (.int .i64 p) := HC.out.cell 0
      have kC1 : v5.cell? ⟨w.heap.size + 1, 1, none⟩ = some (.int .i64 d) := HC.out.cell 1
      have kC2 : v5.cell? ⟨w.heap.size + 1, 2, none⟩ = some (.int .i64 mo) := HC.out.cell 2
      have kC3 : v5.cell? ⟨w.heap.size + 1, 3, none⟩ = some (.int .i64 le) := HC.out.cell 3
      have kC4 : v5.cell? ⟨w.heap.size + 1, 4, none⟩ = some (.bool bw) := HC.out.cell 4
      have kC5 : v5.cell? ⟨w.heap.size + 1, 5, none⟩ = some (R) := HC.out.cell 5
      have kT0 : v5.cell? ⟨w.heap.size + 1 + 1, 0, none⟩ = some (.int .u64 x) := HT.out.cell 0
      have kT1 : v5.cell? ⟨w.heap.size + 1 + 1, 1, none⟩ = some (.int .u64 y) := HT.out.cell 1
      go_wp2_with fail
      refine (JC.out _).mono ?_
      rintro e v6 ⟨rfl, hb⟩
      clear kS0 kS1 kS2 kS3 kS4 kS5 kS6 kS7 kS8 kS9 kS10 kS11 kS12 kC0 kC1 kC2 kC3 kC4 kC5 kT0 kT1
      have HS := Lib.hid (Blk.next (w := v5) HS.out hb)
      have HC := Lib.hid (Blk.next (w := v5) HC.out hb)
      have HT := Lib.hid (Blk.next (w := v5) HT.out hb)
      have EE := Lib.hid (EE.out.trans (hb.mono EE.out.size))
      clear hb
      have kS0 : v6.cell? ⟨w.heap.size, 0, none⟩ = some (.int .i64 (s 0)) := HS.out.cell 0
      have kS1 : v6.cell? ⟨w.heap.size, 1, none⟩ = some (.int .i64 (s 1)) := HS.out.cell 1
      have kS2 : v6.cell? ⟨w.heap.size, 2, none⟩ = some (.int .i64 (s 2)) := HS.out.cell 2
      have kS3 : v6.cell? ⟨w.heap.size, 3, none⟩ = some (.int .i64 (s 3)) := HS.out.cell 3
      have kS4 : v6.cell? ⟨w.heap.size, 4, none⟩ = some (.int .i64 (s 4)) := HS.out.cell 4
      have kS5 : v6.cell? ⟨w.heap.size, 5, none⟩ = some (.int .i64 (s 5)) := HS.out.cell 5
      have kS6 : v6.cell? ⟨w.heap.size, 6, none⟩ = some (.int .i64 (s 6)) := HS.out.cell 6
      have kS7 : v6.cell? ⟨w.heap.size, 7, none⟩ = some (.int .i64 (s 7)) := HS.out.cell 7
      have kS8 : v6.cell? ⟨w.heap.size, 8, none⟩ = some (.slice A n c) := HS.out.cell 8
      have kS9 : v6.cell? ⟨w.heap.size, 9, none⟩ = some (.int .i64 (s 9)) := HS.out.cell 9
      have kS10 : v6.cell? ⟨w.heap.size, 10, none⟩ = some (.int .i64 (s 10)) := HS.out.cell 10
      have kS11 : v6.cell? ⟨w.heap.size, 11, none⟩ = some (.int .i64 (s 11)) := HS.out.cell 11
      have kS12 : v6.cell? ⟨w.heap.size, 12, none⟩ = some (.int .i64 (s 12)) := HS.out.cell 12
      have kC0 : v6.cell? ⟨w.heap.size + 1, 0, none⟩ = some (.int .i64 p) := HC.out.cell 0
      have kC1 : v6.cell? ⟨w.heap.size + 1, 1, none⟩ = some (.int .i64 d) := HC.out.cell 1
      have kC2 : v6.cell? ⟨w.heap.size + 1, 2, none⟩ = some (.int .i64 mo) := HC.out.cell 2
      have kC3 : v6.cell? ⟨w.heap.size + 1, 3, none⟩ = some (.int .i64 le) := HC.out.cell 3
      have kC4 : v6.cell? ⟨w.heap.size + 1, 4, none⟩ = some (.bool bw) := HC.out.cell 4
      have kC5 : v6.cell? ⟨w.heap.size + 1, 5, none⟩ = some (R) := HC.out.cell 5
      have kT0 : v6.cell? ⟨w.heap.size + 1 + 1, 0, none⟩ = some (.int .u64 x) := HT.out.cell 0
      have kT1 : v6.cell? ⟨w.heap.size + 1 + 1, 1, none⟩ = some (.int .u64 y) := HT.out.cell 1
      by_cases hu : u = -d
      · have HR0 := HE2.out hc (by first | rfl | trivial) hu
        obtain ⟨t1, t2⟩ := HKT.out r' HB1 HB2
        rw [← HTR.out] at HR0
        have HA2 := Lib.hid (fun w => at_any r' (s 1) (r' * s 1) w rfl (by omega) (by omega))
        obtain ⟨v, hv⟩ : ∃ v, r' * s 1 = v := ⟨_, rfl⟩
        rw [hv] at t1 t2 HR0 HA2
        clear hv
        have HF1 := Lib.hid (fun w => far_b p v w p0 (by omega) t1 (by omega))
        have HF2 := Lib.hid (fun w => far_b v m w t1 (by omega) m0 (by omega))
        have f1 := far_bd (p := p) (m := v) p0 (by omega) t1 (by omega)
        have f2 := far_bd (p := v) (m := m) t1 (by omega) m0 (by omega)
        obtain ⟨Y, hY⟩ : ∃ Y, farV p v = Y := ⟨_, rfl⟩
        obtain ⟨Z, hZ⟩ : ∃ Y, farV v m = Y := ⟨_, rfl⟩
        rw [hY] at HR0 HF1 f1
        rw [hZ] at HR0 HF2 f2
        obtain ⟨M, hM⟩ : ∃ M, st * ((cn + N : Nat) : Int) = M := ⟨_, rfl⟩
        rw [hM] at P0 P1 HR0
        have hw1 : IntKind.i64.wrap (D + Y) = D + Y := IntWalk.i64_in _ (by omega)
        have hw2 : IntKind.i64.wrap (D + Y + Z) = D + Y + Z := IntWalk.i64_in _ (by omega)
        have hw3 : IntKind.i64.wrap (st * ((cn : Int) + (N : Int))) = M := by rw [← hM, Int.natCast_add]; exact IntWalk.i64_in _ (by rw [← Int.natCast_add, hM]; omega)
        have hw4 : IntKind.i64.wrap (D + Y + Z + M) = D + Y + Z + M := IntWalk.i64_in _ (by omega)
        have HR := Lib.hid HR0
        clear HR0 hY hZ hM f1 f2 HE1 HE2 HE3
        have hub : (u == -d) = true := by simp [hu]
        have hcw : IntKind.i64.wrap ((cn : Int) + (N : Int)) = (cn : Int) + N := IntWalk.i64_in _ (by omega)
        have HU := Lib.hid hu
        clear hu
        go_wp2_with fail
        refine (JB.out _ (JT.out.kept EE.out)).mono ?_
        rintro e v7 ⟨rfl, hb⟩
        clear kS0 kS1 kS2 kS3 kS4 kS5 kS6 kS7 kS8 kS9 kS10 kS11 kS12 kC0 kC1 kC2 kC3 kC4 kC5 kT0 kT1
        have HS := Lib.hid (Blk.next (w := v6) HS.out hb)
        have HC := Lib.hid (Blk.next (w := v6) HC.out hb)
        have HT := Lib.hid (Blk.next (w := v6) HT.out hb)
        have EE := Lib.hid (EE.out.trans (hb.mono EE.out.size))
        clear hb
        have kS0 : v7.cell? ⟨w.heap.size, 0, none⟩ = some (.int .i64 (s 0)) := HS.out.cell 0
        have kS1 : v7.cell? ⟨w.heap.size, 1, none⟩ = some (.int .i64 (s 1)) := HS.out.cell 1
        have kS2 : v7.cell? ⟨w.heap.size, 2, none⟩ = some (.int .i64 (s 2)) := HS.out.cell 2
        have kS3 : v7.cell? ⟨w.heap.size, 3, none⟩ = some (.int .i64 (s 3)) := HS.out.cell 3
        have kS4 : v7.cell? ⟨w.heap.size, 4, none⟩ = some (.int .i64 (s 4)) := HS.out.cell 4
        have kS5 : v7.cell? ⟨w.heap.size, 5, none⟩ = some (.int .i64 (s 5)) := HS.out.cell 5
        have kS6 : v7.cell? ⟨w.heap.size, 6, none⟩ = some (.int .i64 (s 6)) := HS.out.cell 6
        have kS7 : v7.cell? ⟨w.heap.size, 7, none⟩ = some (.int .i64 (s 7)) := HS.out.cell 7
        have kS8 : v7.cell? ⟨w.heap.size, 8, none⟩ = some (.slice A n c) := HS.out.cell 8
        have kS9 : v7.cell? ⟨w.heap.size, 9, none⟩ = some (.int .i64 (s 9)) := HS.out.cell 9
        have kS10 : v7.cell? ⟨w.heap.size, 10, none⟩ = some (.int .i64 (s 10)) := HS.out.cell 10
        have kS11 : v7.cell? ⟨w.heap.size, 11, none⟩ = some (.int .i64 (s 11)) := HS.out.cell 11
        have kS12 : v7.cell? ⟨w.heap.size, 12, none⟩ = some (.int .i64 (s 12)) := HS.out.cell 12
        have kC0 : v7.cell? ⟨w.heap.size + 1, 0, none⟩ = some (.int .i64 p) := HC.out.cell 0
        have kC1 : v7.cell? ⟨w.heap.size + 1, 1, none⟩ = some (.int .i64 d) := HC.out.cell 1
        have kC2 : v7.cell? ⟨w.heap.size + 1, 2, none⟩ = some (.int .i64 mo) := HC.out.cell 2
        have kC3 : v7.cell? ⟨w.heap.size + 1, 3, none⟩ = some (.int .i64 le) := HC.out.cell 3
        have kC4 : v7.cell? ⟨w.heap.size + 1, 4, none⟩ = some (.bool bw) := HC.out.cell 4
        have kC5 : v7.cell? ⟨w.heap.size + 1, 5, none⟩ = some (R) := HC.out.cell 5
        have kT0 : v7.cell? ⟨w.heap.size + 1 + 1, 0, none⟩ = some (.int .u64 x) := HT.out.cell 0
        have kT1 : v7.cell? ⟨w.heap.size + 1 + 1, 1, none⟩ = some (.int .u64 y) := HT.out.cell 1
        go_wp2_with (go_at_call 21; refine (HA2.out _).mono ?_; rintro e w' ⟨rfl, rfl⟩)
        have sK : ∀ X, Blk X (w.heap.size) 25 #[.int .i64 (s 0), .int .i64 (s 1), .int .i64 (s 2), .int .i64 (s 3), .int .i64 (s 4), .int .i64 (s 5), .int .i64 (s 6), .int .i64 (s 7), .slice A n c, .int .i64 (s 9), .int .i64 (s 10), .int .i64 (s 11), .int .i64 (s 12)] → Blk X (w.heap.size + 1) 36 #[.int .i64 p, .int .i64 d, .int .i64 mo, .int .i64 le, .bool bw, R] → Blk X (w.heap.size + 1 + 1) 40 #[.int .u64 x, .int .u64 y] → (fun X => X.cell? ⟨w.heap.size, 0, none⟩ = some (.int .i64 (s 0)) ∧ X.cell? ⟨w.heap.size, 1, none⟩ = some (.int .i64 (s 1)) ∧ X.cell? ⟨w.heap.size, 2, none⟩ = some (.int .i64 (s 2)) ∧ X.cell? ⟨w.heap.size, 3, none⟩ = some (.int .i64 (s 3)) ∧ X.cell? ⟨w.heap.size, 4, none⟩ = some (.int .i64 (s 4)) ∧ X.cell? ⟨w.heap.size, 5, none⟩ = some (.int .i64 (s 5)) ∧ X.cell? ⟨w.heap.size, 6, none⟩ = some (.int .i64 (s 6)) ∧ X.cell? ⟨w.heap.size, 7, none⟩ = some (.int .i64 (s 7)) ∧ X.cell? ⟨w.heap.size, 8, none⟩ = some (.slice A n c) ∧ X.cell? ⟨w.heap.size, 9, none⟩ = some (.int .i64 (s 9)) ∧ X.cell? ⟨w.heap.size, 10, none⟩ = some (.int .i64 (s 10)) ∧ X.cell? ⟨w.heap.size, 11, none⟩ = some (.int .i64 (s 11)) ∧ X.cell? ⟨w.heap.size, 12, none⟩ = some (.int .i64 (s 12)) ∧ X.cell? ⟨w.heap.size + 1, 0, none⟩ = some (.int .i64 p) ∧ X.cell? ⟨w.heap.size + 1, 1, none⟩ = some (.int .i64 d) ∧ X.cell? ⟨w.heap.size + 1, 2, none⟩ = some (.int .i64 mo) ∧ X.cell? ⟨w.heap.size + 1, 3, none⟩ = some (.int .i64 le) ∧ X.cell? ⟨w.heap.size + 1, 4, none⟩ = some (.bool bw) ∧ X.cell? ⟨w.heap.size + 1, 5, none⟩ = some (R) ∧ X.cell? ⟨w.heap.size + 1 + 1, 0, none⟩ = some (.int .u64 x) ∧ X.cell? ⟨w.heap.size + 1 + 1, 1, none⟩ = some (.int .u64 y)) X := fun X hS hC hT => ⟨hS.cell 0, hS.cell 1, hS.cell 2, hS.cell 3, hS.cell 4, hS.cell 5, hS.cell 6, hS.cell 7, hS.cell 8, hS.cell 9, hS.cell 10, hS.cell 11, hS.cell 12, hC.cell 0, hC.cell 1, hC.cell 2, hC.cell 3, hC.cell 4, hC.cell 5, hT.cell 0, hT.cell 1⟩
        have LS0 := Lib.hid (HS.out.drew)
        have LC0 := Lib.hid (HC.out.drew)
        have LT0 := Lib.hid (HT.out.drew)
        have E0 := Lib.hid (EE.out.drew)
        clear kS0 kS1 kS2 kS3 kS4 kS5 kS6 kS7 kS8 kS9 kS10 kS11 kS12 kC0 kC1 kC2 kC3 kC4 kC5 kT0 kT1
        refine wp_region_held_drew (S := (fun X => X.cell? ⟨w.heap.size, 0, none⟩ = some (.int .i64 (s 0)) ∧ X.cell? ⟨w.heap.size, 1, none⟩ = some (.int .i64 (s 1)) ∧ X.cell? ⟨w.heap.size, 2, none⟩ = some (.int .i64 (s 2)) ∧ X.cell? ⟨w.heap.size, 3, none⟩ = some (.int .i64 (s 3)) ∧ X.cell? ⟨w.heap.size, 4, none⟩ = some (.int .i64 (s 4)) ∧ X.cell? ⟨w.heap.size, 5, none⟩ = some (.int .i64 (s 5)) ∧ X.cell? ⟨w.heap.size, 6, none⟩ = some (.int .i64 (s 6)) ∧ X.cell? ⟨w.heap.size, 7, none⟩ = some (.int .i64 (s 7)) ∧ X.cell? ⟨w.heap.size, 8, none⟩ = some (.slice A n c) ∧ X.cell? ⟨w.heap.size, 9, none⟩ = some (.int .i64 (s 9)) ∧ X.cell? ⟨w.heap.size, 10, none⟩ = some (.int .i64 (s 10)) ∧ X.cell? ⟨w.heap.size, 11, none⟩ = some (.int .i64 (s 11)) ∧ X.cell? ⟨w.heap.size, 12, none⟩ = some (.int .i64 (s 12)) ∧ X.cell? ⟨w.heap.size + 1, 0, none⟩ = some (.int .i64 p) ∧ X.cell? ⟨w.heap.size + 1, 1, none⟩ = some (.int .i64 d) ∧ X.cell? ⟨w.heap.size + 1, 2, none⟩ = some (.int .i64 mo) ∧ X.cell? ⟨w.heap.size + 1, 3, none⟩ = some (.int .i64 le) ∧ X.cell? ⟨w.heap.size + 1, 4, none⟩ = some (.bool bw) ∧ X.cell? ⟨w.heap.size + 1, 5, none⟩ = some (R) ∧ X.cell? ⟨w.heap.size + 1 + 1, 0, none⟩ = some (.int .u64 x) ∧ X.cell? ⟨w.heap.size + 1 + 1, 1, none⟩ = some (.int .u64 y))) (by kernel_rfl) (sK _ LS0.out LC0.out LT0.out) (fun hHeld => ?_)
        clear hHeld
        refine wpAnyH_take (i := 0) (v := ?_) rfl (by kernel_rfl) (by kernel_rfl) (by kernel_rfl) (fun _ _ _ h => h) (Or.inl ⟨by rfl, ?_⟩) (sK _ LS0.out LC0.out LT0.out) ?_
        rotate_left
        · (intro wS hSw; (try dsimp only at hSw); go_simp; try with_reducible rfl)
        simp only [Act.put, List.getElem_toArray, List.getElem_cons_zero, List.getElem_cons_succ, List.setIfInBounds_toArray, List.set_cons_zero, List.set_cons_succ]
        refine wpAnyH_take (i := 1) (v := ?_) rfl (by kernel_rfl) (by kernel_rfl) (by kernel_rfl) (fun _ _ _ h => h) (Or.inl ⟨by rfl, ?_⟩) (sK _ LS0.out LC0.out LT0.out) ?_
        rotate_left
        · (intro wS hSw; (try dsimp only at hSw); go_simp; try with_reducible rfl)
        simp only [Act.put, List.getElem_toArray, List.getElem_cons_zero, List.getElem_cons_succ, List.setIfInBounds_toArray, List.set_cons_zero, List.set_cons_succ]
        refine wpAnyH_take (i := 3) (v := ?_) rfl (by kernel_rfl) (by kernel_rfl) (by kernel_rfl) (fun _ _ _ h => h) (Or.inl ⟨by rfl, ?_⟩) (sK _ LS0.out LC0.out LT0.out) ?_
        rotate_left
        · (intro wS hSw; (try dsimp only at hSw); go_simp; try with_reducible rfl)
        simp only [Act.put, List.getElem_toArray, List.getElem_cons_zero, List.getElem_cons_succ, List.setIfInBounds_toArray, List.set_cons_zero, List.set_cons_succ]
        refine wpAnyH_take (i := 4) (v := ?_) rfl (by kernel_rfl) (by kernel_rfl) (by kernel_rfl) (fun _ _ _ h => h) (Or.inl ⟨by rfl, ?_⟩) (sK _ LS0.out LC0.out LT0.out) ?_
        rotate_left
        · (intro wS hSw; (try dsimp only at hSw); go_simp; try with_reducible rfl)
        simp only [Act.put, List.getElem_toArray, List.getElem_cons_zero, List.getElem_cons_succ, List.setIfInBounds_toArray, List.set_cons_zero, List.set_cons_succ]
        refine wpAnyH_take (i := 5) (v := ?_) rfl (by kernel_rfl) (by kernel_rfl) (by kernel_rfl) (fun _ _ _ h => h) (Or.inl ⟨by rfl, ?_⟩) (sK _ LS0.out LC0.out LT0.out) ?_
        rotate_left
        · (intro wS hSw; (try dsimp only at hSw); go_simp; try with_reducible rfl)
        simp only [Act.put, List.getElem_toArray, List.getElem_cons_zero, List.getElem_cons_succ, List.setIfInBounds_toArray, List.set_cons_zero, List.set_cons_succ]
        refine wpAnyH_take (i := 8) (v := ?_) rfl (by kernel_rfl) (by kernel_rfl) (by kernel_rfl) (fun _ _ _ h => h) (Or.inl ⟨by rfl, ?_⟩) (sK _ LS0.out LC0.out LT0.out) ?_
        rotate_left
        · (intro wS hSw; (try dsimp only at hSw); go_simp; try with_reducible rfl)
        simp only [Act.put, List.getElem_toArray, List.getElem_cons_zero, List.getElem_cons_succ, List.setIfInBounds_toArray, List.set_cons_zero, List.set_cons_succ]
        refine wpAnyH_take (i := 9) (v := ?_) rfl (by kernel_rfl) (by kernel_rfl) (by kernel_rfl) (fun _ _ _ h => h) (Or.inl ⟨by rfl, ?_⟩) (sK _ LS0.out LC0.out LT0.out) ?_
        rotate_left
        · (intro wS hSw; (try dsimp only at hSw); go_simp; try with_reducible rfl)
        simp only [Act.put, List.getElem_toArray, List.getElem_cons_zero, List.getElem_cons_succ, List.setIfInBounds_toArray, List.set_cons_zero, List.set_cons_succ]
        refine wpAnyH_take (i := 12) (v := ?_) rfl (by kernel_rfl) (by kernel_rfl) (by kernel_rfl) (fun _ _ _ h => h) (Or.inl ⟨by rfl, ?_⟩) (sK _ LS0.out LC0.out LT0.out) ?_
        rotate_left
        · (intro wS hSw; (try dsimp only at hSw); go_simp; try with_reducible rfl)
        simp only [Act.put, List.getElem_toArray, List.getElem_cons_zero, List.getElem_cons_succ, List.setIfInBounds_toArray, List.set_cons_zero, List.set_cons_succ]
        refine wpAnyH_take (i := 13) (v := ?_) rfl (by kernel_rfl) (by kernel_rfl) (by kernel_rfl) (fun _ _ _ h => h) (Or.inl ⟨by rfl, ?_⟩) (sK _ LS0.out LC0.out LT0.out) ?_
        rotate_left
        · (intro wS hSw; (try dsimp only at hSw); go_simp; try with_reducible rfl)
        simp only [Act.put, List.getElem_toArray, List.getElem_cons_zero, List.getElem_cons_succ, List.setIfInBounds_toArray, List.set_cons_zero, List.set_cons_succ]
        refine wpAnyH_take (i := 14) (v := ?_) rfl (by kernel_rfl) (by kernel_rfl) (by kernel_rfl) (fun _ _ _ h => h) (Or.inl ⟨by rfl, ?_⟩) (sK _ LS0.out LC0.out LT0.out) ?_
        rotate_left
        · (intro wS hSw; (try dsimp only at hSw); go_simp; try with_reducible rfl)
        simp only [Act.put, List.getElem_toArray, List.getElem_cons_zero, List.getElem_cons_succ, List.setIfInBounds_toArray, List.set_cons_zero, List.set_cons_succ]
        refine wpAnyH_ready (rs := [2]) (by kernel_rfl) (by simp) ?_
        refine AllReadyH.cons rfl (fun K hK => ?_) AllReadyH.nil
        go_simp
        refine (JO.out _).mono ?_
        rintro e r1 ⟨rfl, hb⟩
        have LS1 := Lib.hid (LS0.out.next hb)
        have LC1 := Lib.hid (LC0.out.next hb)
        have LT1 := Lib.hid (LT0.out.next hb)
        have E1 := Lib.hid (E0.out.trans (hb.mono E0.out.size))
        clear hb
        go_wp2_with fail
        refine hK.out _ _ (sK _ LS1.out LC1.out LT1.out) (fun hHeld => ?_)
        clear hK K hHeld
        try simp only [Act.put, List.getElem_toArray, List.getElem_cons_zero, List.getElem_cons_succ, List.setIfInBounds_toArray, List.set_cons_zero, List.set_cons_succ]
        refine wpAnyH_ready (rs := [6]) (by kernel_rfl) (by simp) ?_
        refine AllReadyH.cons rfl (fun K hK => ?_) AllReadyH.nil
        go_simp
        refine (HF1.out _).mono ?_
        rintro e r2 ⟨rfl, hb⟩
        have LS2 := Lib.hid (LS1.out.next hb)
        have LC2 := Lib.hid (LC1.out.next hb)
        have LT2 := Lib.hid (LT1.out.next hb)
        have E2 := Lib.hid (E1.out.trans (hb.mono E1.out.size))
        clear hb
        go_wp2_with fail
        refine hK.out _ _ (sK _ LS2.out LC2.out LT2.out) (fun hHeld => ?_)
        clear hK K hHeld
        try simp only [Act.put, List.getElem_toArray, List.getElem_cons_zero, List.getElem_cons_succ, List.setIfInBounds_toArray, List.set_cons_zero, List.set_cons_succ]
        refine wpAnyH_take (i := 7) (v := ?_) rfl (by kernel_rfl) (by kernel_rfl) (by kernel_rfl) (fun _ _ _ h => h) (Or.inl ⟨by rfl, ?_⟩) (sK _ LS2.out LC2.out LT2.out) ?_
        rotate_left
        · (intro wS hSw; (try dsimp only at hSw); go_simp; try with_reducible rfl)
        simp only [Act.put, List.getElem_toArray, List.getElem_cons_zero, List.getElem_cons_succ, List.setIfInBounds_toArray, List.set_cons_zero, List.set_cons_succ]
        refine wpAnyH_ready (rs := [10]) (by kernel_rfl) (by simp) ?_
        refine AllReadyH.cons rfl (fun K hK => ?_) AllReadyH.nil
        go_simp
        refine (HF2.out _).mono ?_
        rintro e r3 ⟨rfl, hb⟩
        have LS3 := Lib.hid (LS2.out.next hb)
        have LC3 := Lib.hid (LC2.out.next hb)
        have LT3 := Lib.hid (LT2.out.next hb)
        have E3 := Lib.hid (E2.out.trans (hb.mono E2.out.size))
        clear hb
        go_wp2_with fail
        refine hK.out _ _ (sK _ LS3.out LC3.out LT3.out) (fun hHeld => ?_)
        clear hK K hHeld
        try simp only [Act.put, List.getElem_toArray, List.getElem_cons_zero, List.getElem_cons_succ, List.setIfInBounds_toArray, List.set_cons_zero, List.set_cons_succ]
        refine wpAnyH_take (i := 11) (v := ?_) rfl (by kernel_rfl) (by kernel_rfl) (by kernel_rfl) (fun _ _ _ h => h) (Or.inl ⟨by rfl, ?_⟩) (sK _ LS3.out LC3.out LT3.out) ?_
        rotate_left
        · (intro wS hSw; (try dsimp only at hSw); go_simp; try with_reducible rfl)
        simp only [Act.put, List.getElem_toArray, List.getElem_cons_zero, List.getElem_cons_succ, List.setIfInBounds_toArray, List.set_cons_zero, List.set_cons_succ]
        refine wpAnyH_take (i := 15) (v := ?_) rfl (by kernel_rfl) (by kernel_rfl) (by kernel_rfl) (fun _ _ _ h => h) (Or.inl ⟨by rfl, ?_⟩) (sK _ LS3.out LC3.out LT3.out) ?_
        rotate_left
        · (intro wS hSw; (try dsimp only at hSw); go_simp; try with_reducible rfl)
        simp only [Act.put, List.getElem_toArray, List.getElem_cons_zero, List.getElem_cons_succ, List.setIfInBounds_toArray, List.set_cons_zero, List.set_cons_succ]
        refine wpAnyH_take (i := 16) (v := ?_) rfl (by kernel_rfl) (by kernel_rfl) (by kernel_rfl) (fun _ _ _ h => h) (Or.inl ⟨by rfl, ?_⟩) (sK _ LS3.out LC3.out LT3.out) ?_
        rotate_left
        · (intro wS hSw; (try dsimp only at hSw); go_simp; try with_reducible rfl)
        simp only [Act.put, List.getElem_toArray, List.getElem_cons_zero, List.getElem_cons_succ, List.setIfInBounds_toArray, List.set_cons_zero, List.set_cons_succ]
        refine wpAnyH_done (by kernel_rfl) ?_ _
        go_wp2_with fail
        try go_ret
        exact ⟨nret (by rw [HR.out]), E3.out⟩
      · have HR0 := HE3.out hc (by first | rfl | trivial) hu
        obtain ⟨t1, t2⟩ := HKT.out r' HB1 HB2
        rw [← HTR.out] at HR0
        have HA2 := Lib.hid (fun w => at_any r' (s 1) (r' * s 1) w rfl (by omega) (by omega))
        obtain ⟨v, hv⟩ : ∃ v, r' * s 1 = v := ⟨_, rfl⟩
        rw [hv] at t1 t2 HR0 HA2
        clear hv
        have HF1 := Lib.hid (fun w => far_b p v w p0 (by omega) t1 (by omega))
        have HF2 := Lib.hid (fun w => far_b v m w t1 (by omega) m0 (by omega))
        have f1 := far_bd (p := p) (m := v) p0 (by omega) t1 (by omega)
        have f2 := far_bd (p := v) (m := m) t1 (by omega) m0 (by omega)
        obtain ⟨Y, hY⟩ : ∃ Y, farV p v = Y := ⟨_, rfl⟩
        obtain ⟨Z, hZ⟩ : ∃ Y, farV v m = Y := ⟨_, rfl⟩
        rw [hY] at HR0 HF1 f1
        rw [hZ] at HR0 HF2 f2
        obtain ⟨M, hM⟩ : ∃ M, st * ((cn + 0 : Nat) : Int) = M := ⟨_, rfl⟩
        rw [hM] at Q0 Q1 HR0
        have hw1 : IntKind.i64.wrap (D + Y) = D + Y := IntWalk.i64_in _ (by omega)
        have hw2 : IntKind.i64.wrap (D + Y + Z) = D + Y + Z := IntWalk.i64_in _ (by omega)
        have hw3 : IntKind.i64.wrap (st * (cn : Int)) = M := by rw [← hM]; exact IntWalk.i64_in _ (by rw [show (cn : Int) = ((cn + 0 : Nat) : Int) by omega, hM]; omega)
        have hw4 : IntKind.i64.wrap (D + Y + Z + M) = D + Y + Z + M := IntWalk.i64_in _ (by omega)
        have HR := Lib.hid HR0
        clear HR0 hY hZ hM f1 f2 HE1 HE2 HE3
        have hub : (u == -d) = false := by simp [hu]
        have HU := Lib.hid hu
        clear hu
        go_wp2_with fail
        go_wp2_with (go_at_call 21; refine (HA2.out _).mono ?_; rintro e w' ⟨rfl, rfl⟩)
        have sK : ∀ X, Blk X (w.heap.size) 25 #[.int .i64 (s 0), .int .i64 (s 1), .int .i64 (s 2), .int .i64 (s 3), .int .i64 (s 4), .int .i64 (s 5), .int .i64 (s 6), .int .i64 (s 7), .slice A n c, .int .i64 (s 9), .int .i64 (s 10), .int .i64 (s 11), .int .i64 (s 12)] → Blk X (w.heap.size + 1) 36 #[.int .i64 p, .int .i64 d, .int .i64 mo, .int .i64 le, .bool bw, R] → Blk X (w.heap.size + 1 + 1) 40 #[.int .u64 x, .int .u64 y] → (fun X => X.cell? ⟨w.heap.size, 0, none⟩ = some (.int .i64 (s 0)) ∧ X.cell? ⟨w.heap.size, 1, none⟩ = some (.int .i64 (s 1)) ∧ X.cell? ⟨w.heap.size, 2, none⟩ = some (.int .i64 (s 2)) ∧ X.cell? ⟨w.heap.size, 3, none⟩ = some (.int .i64 (s 3)) ∧ X.cell? ⟨w.heap.size, 4, none⟩ = some (.int .i64 (s 4)) ∧ X.cell? ⟨w.heap.size, 5, none⟩ = some (.int .i64 (s 5)) ∧ X.cell? ⟨w.heap.size, 6, none⟩ = some (.int .i64 (s 6)) ∧ X.cell? ⟨w.heap.size, 7, none⟩ = some (.int .i64 (s 7)) ∧ X.cell? ⟨w.heap.size, 8, none⟩ = some (.slice A n c) ∧ X.cell? ⟨w.heap.size, 9, none⟩ = some (.int .i64 (s 9)) ∧ X.cell? ⟨w.heap.size, 10, none⟩ = some (.int .i64 (s 10)) ∧ X.cell? ⟨w.heap.size, 11, none⟩ = some (.int .i64 (s 11)) ∧ X.cell? ⟨w.heap.size, 12, none⟩ = some (.int .i64 (s 12)) ∧ X.cell? ⟨w.heap.size + 1, 0, none⟩ = some (.int .i64 p) ∧ X.cell? ⟨w.heap.size + 1, 1, none⟩ = some (.int .i64 d) ∧ X.cell? ⟨w.heap.size + 1, 2, none⟩ = some (.int .i64 mo) ∧ X.cell? ⟨w.heap.size + 1, 3, none⟩ = some (.int .i64 le) ∧ X.cell? ⟨w.heap.size + 1, 4, none⟩ = some (.bool bw) ∧ X.cell? ⟨w.heap.size + 1, 5, none⟩ = some (R) ∧ X.cell? ⟨w.heap.size + 1 + 1, 0, none⟩ = some (.int .u64 x) ∧ X.cell? ⟨w.heap.size + 1 + 1, 1, none⟩ = some (.int .u64 y)) X := fun X hS hC hT => ⟨hS.cell 0, hS.cell 1, hS.cell 2, hS.cell 3, hS.cell 4, hS.cell 5, hS.cell 6, hS.cell 7, hS.cell 8, hS.cell 9, hS.cell 10, hS.cell 11, hS.cell 12, hC.cell 0, hC.cell 1, hC.cell 2, hC.cell 3, hC.cell 4, hC.cell 5, hT.cell 0, hT.cell 1⟩
        have LS0 := Lib.hid (HS.out.drew)
        have LC0 := Lib.hid (HC.out.drew)
        have LT0 := Lib.hid (HT.out.drew)
        have E0 := Lib.hid (EE.out.drew)
        clear kS0 kS1 kS2 kS3 kS4 kS5 kS6 kS7 kS8 kS9 kS10 kS11 kS12 kC0 kC1 kC2 kC3 kC4 kC5 kT0 kT1
        refine wp_region_held_drew (S := (fun X => X.cell? ⟨w.heap.size, 0, none⟩ = some (.int .i64 (s 0)) ∧ X.cell? ⟨w.heap.size, 1, none⟩ = some (.int .i64 (s 1)) ∧ X.cell? ⟨w.heap.size, 2, none⟩ = some (.int .i64 (s 2)) ∧ X.cell? ⟨w.heap.size, 3, none⟩ = some (.int .i64 (s 3)) ∧ X.cell? ⟨w.heap.size, 4, none⟩ = some (.int .i64 (s 4)) ∧ X.cell? ⟨w.heap.size, 5, none⟩ = some (.int .i64 (s 5)) ∧ X.cell? ⟨w.heap.size, 6, none⟩ = some (.int .i64 (s 6)) ∧ X.cell? ⟨w.heap.size, 7, none⟩ = some (.int .i64 (s 7)) ∧ X.cell? ⟨w.heap.size, 8, none⟩ = some (.slice A n c) ∧ X.cell? ⟨w.heap.size, 9, none⟩ = some (.int .i64 (s 9)) ∧ X.cell? ⟨w.heap.size, 10, none⟩ = some (.int .i64 (s 10)) ∧ X.cell? ⟨w.heap.size, 11, none⟩ = some (.int .i64 (s 11)) ∧ X.cell? ⟨w.heap.size, 12, none⟩ = some (.int .i64 (s 12)) ∧ X.cell? ⟨w.heap.size + 1, 0, none⟩ = some (.int .i64 p) ∧ X.cell? ⟨w.heap.size + 1, 1, none⟩ = some (.int .i64 d) ∧ X.cell? ⟨w.heap.size + 1, 2, none⟩ = some (.int .i64 mo) ∧ X.cell? ⟨w.heap.size + 1, 3, none⟩ = some (.int .i64 le) ∧ X.cell? ⟨w.heap.size + 1, 4, none⟩ = some (.bool bw) ∧ X.cell? ⟨w.heap.size + 1, 5, none⟩ = some (R) ∧ X.cell? ⟨w.heap.size + 1 + 1, 0, none⟩ = some (.int .u64 x) ∧ X.cell? ⟨w.heap.size + 1 + 1, 1, none⟩ = some (.int .u64 y))) (by kernel_rfl) (sK _ LS0.out LC0.out LT0.out) (fun hHeld => ?_)
        clear hHeld
        refine wpAnyH_take (i := 0) (v := ?_) rfl (by kernel_rfl) (by kernel_rfl) (by kernel_rfl) (fun _ _ _ h => h) (Or.inl ⟨by rfl, ?_⟩) (sK _ LS0.out LC0.out LT0.out) ?_
        rotate_left
        · (intro wS hSw; (try dsimp only at hSw); go_simp; try with_reducible rfl)
        simp only [Act.put, List.getElem_toArray, List.getElem_cons_zero, List.getElem_cons_succ, List.setIfInBounds_toArray, List.set_cons_zero, List.set_cons_succ]
        refine wpAnyH_take (i := 1) (v := ?_) rfl (by kernel_rfl) (by kernel_rfl) (by kernel_rfl) (fun _ _ _ h => h) (Or.inl ⟨by rfl, ?_⟩) (sK _ LS0.out LC0.out LT0.out) ?_
        rotate_left
        · (intro wS hSw; (try dsimp only at hSw); go_simp; try with_reducible rfl)
        simp only [Act.put, List.getElem_toArray, List.getElem_cons_zero, List.getElem_cons_succ, List.setIfInBounds_toArray, List.set_cons_zero, List.set_cons_succ]
        refine wpAnyH_take (i := 3) (v := ?_) rfl (by kernel_rfl) (by kernel_rfl) (by kernel_rfl) (fun _ _ _ h => h) (Or.inl ⟨by rfl, ?_⟩) (sK _ LS0.out LC0.out LT0.out) ?_
        rotate_left
        · (intro wS hSw; (try dsimp only at hSw); go_simp; try with_reducible rfl)
        simp only [Act.put, List.getElem_toArray, List.getElem_cons_zero, List.getElem_cons_succ, List.setIfInBounds_toArray, List.set_cons_zero, List.set_cons_succ]
        refine wpAnyH_take (i := 4) (v := ?_) rfl (by kernel_rfl) (by kernel_rfl) (by kernel_rfl) (fun _ _ _ h => h) (Or.inl ⟨by rfl, ?_⟩) (sK _ LS0.out LC0.out LT0.out) ?_
        rotate_left
        · (intro wS hSw; (try dsimp only at hSw); go_simp; try with_reducible rfl)
        simp only [Act.put, List.getElem_toArray, List.getElem_cons_zero, List.getElem_cons_succ, List.setIfInBounds_toArray, List.set_cons_zero, List.set_cons_succ]
        refine wpAnyH_take (i := 5) (v := ?_) rfl (by kernel_rfl) (by kernel_rfl) (by kernel_rfl) (fun _ _ _ h => h) (Or.inl ⟨by rfl, ?_⟩) (sK _ LS0.out LC0.out LT0.out) ?_
        rotate_left
        · (intro wS hSw; (try dsimp only at hSw); go_simp; try with_reducible rfl)
        simp only [Act.put, List.getElem_toArray, List.getElem_cons_zero, List.getElem_cons_succ, List.setIfInBounds_toArray, List.set_cons_zero, List.set_cons_succ]
        refine wpAnyH_take (i := 8) (v := ?_) rfl (by kernel_rfl) (by kernel_rfl) (by kernel_rfl) (fun _ _ _ h => h) (Or.inl ⟨by rfl, ?_⟩) (sK _ LS0.out LC0.out LT0.out) ?_
        rotate_left
        · (intro wS hSw; (try dsimp only at hSw); go_simp; try with_reducible rfl)
        simp only [Act.put, List.getElem_toArray, List.getElem_cons_zero, List.getElem_cons_succ, List.setIfInBounds_toArray, List.set_cons_zero, List.set_cons_succ]
        refine wpAnyH_take (i := 9) (v := ?_) rfl (by kernel_rfl) (by kernel_rfl) (by kernel_rfl) (fun _ _ _ h => h) (Or.inl ⟨by rfl, ?_⟩) (sK _ LS0.out LC0.out LT0.out) ?_
        rotate_left
        · (intro wS hSw; (try dsimp only at hSw); go_simp; try with_reducible rfl)
        simp only [Act.put, List.getElem_toArray, List.getElem_cons_zero, List.getElem_cons_succ, List.setIfInBounds_toArray, List.set_cons_zero, List.set_cons_succ]
        refine wpAnyH_take (i := 12) (v := ?_) rfl (by kernel_rfl) (by kernel_rfl) (by kernel_rfl) (fun _ _ _ h => h) (Or.inl ⟨by rfl, ?_⟩) (sK _ LS0.out LC0.out LT0.out) ?_
        rotate_left
        · (intro wS hSw; (try dsimp only at hSw); go_simp; try with_reducible rfl)
        simp only [Act.put, List.getElem_toArray, List.getElem_cons_zero, List.getElem_cons_succ, List.setIfInBounds_toArray, List.set_cons_zero, List.set_cons_succ]
        refine wpAnyH_take (i := 13) (v := ?_) rfl (by kernel_rfl) (by kernel_rfl) (by kernel_rfl) (fun _ _ _ h => h) (Or.inl ⟨by rfl, ?_⟩) (sK _ LS0.out LC0.out LT0.out) ?_
        rotate_left
        · (intro wS hSw; (try dsimp only at hSw); go_simp; try with_reducible rfl)
        simp only [Act.put, List.getElem_toArray, List.getElem_cons_zero, List.getElem_cons_succ, List.setIfInBounds_toArray, List.set_cons_zero, List.set_cons_succ]
        refine wpAnyH_take (i := 14) (v := ?_) rfl (by kernel_rfl) (by kernel_rfl) (by kernel_rfl) (fun _ _ _ h => h) (Or.inl ⟨by rfl, ?_⟩) (sK _ LS0.out LC0.out LT0.out) ?_
        rotate_left
        · (intro wS hSw; (try dsimp only at hSw); go_simp; try with_reducible rfl)
        simp only [Act.put, List.getElem_toArray, List.getElem_cons_zero, List.getElem_cons_succ, List.setIfInBounds_toArray, List.set_cons_zero, List.set_cons_succ]
        refine wpAnyH_ready (rs := [2]) (by kernel_rfl) (by simp) ?_
        refine AllReadyH.cons rfl (fun K hK => ?_) AllReadyH.nil
        go_simp
        refine (JO.out _).mono ?_
        rintro e r1 ⟨rfl, hb⟩
        have LS1 := Lib.hid (LS0.out.next hb)
        have LC1 := Lib.hid (LC0.out.next hb)
        have LT1 := Lib.hid (LT0.out.next hb)
        have E1 := Lib.hid (E0.out.trans (hb.mono E0.out.size))
        clear hb
        go_wp2_with fail
        refine hK.out _ _ (sK _ LS1.out LC1.out LT1.out) (fun hHeld => ?_)
        clear hK K hHeld
        try simp only [Act.put, List.getElem_toArray, List.getElem_cons_zero, List.getElem_cons_succ, List.setIfInBounds_toArray, List.set_cons_zero, List.set_cons_succ]
        refine wpAnyH_ready (rs := [6]) (by kernel_rfl) (by simp) ?_
        refine AllReadyH.cons rfl (fun K hK => ?_) AllReadyH.nil
        go_simp
        refine (HF1.out _).mono ?_
        rintro e r2 ⟨rfl, hb⟩
        have LS2 := Lib.hid (LS1.out.next hb)
        have LC2 := Lib.hid (LC1.out.next hb)
        have LT2 := Lib.hid (LT1.out.next hb)
        have E2 := Lib.hid (E1.out.trans (hb.mono E1.out.size))
        clear hb
        go_wp2_with fail
        refine hK.out _ _ (sK _ LS2.out LC2.out LT2.out) (fun hHeld => ?_)
        clear hK K hHeld
        try simp only [Act.put, List.getElem_toArray, List.getElem_cons_zero, List.getElem_cons_succ, List.setIfInBounds_toArray, List.set_cons_zero, List.set_cons_succ]
        refine wpAnyH_take (i := 7) (v := ?_) rfl (by kernel_rfl) (by kernel_rfl) (by kernel_rfl) (fun _ _ _ h => h) (Or.inl ⟨by rfl, ?_⟩) (sK _ LS2.out LC2.out LT2.out) ?_
        rotate_left
        · (intro wS hSw; (try dsimp only at hSw); go_simp; try with_reducible rfl)
        simp only [Act.put, List.getElem_toArray, List.getElem_cons_zero, List.getElem_cons_succ, List.setIfInBounds_toArray, List.set_cons_zero, List.set_cons_succ]
        refine wpAnyH_ready (rs := [10]) (by kernel_rfl) (by simp) ?_
        refine AllReadyH.cons rfl (fun K hK => ?_) AllReadyH.nil
        go_simp
        refine (HF2.out _).mono ?_
        rintro e r3 ⟨rfl, hb⟩
        have LS3 := Lib.hid (LS2.out.next hb)
        have LC3 := Lib.hid (LC2.out.next hb)
        have LT3 := Lib.hid (LT2.out.next hb)
        have E3 := Lib.hid (E2.out.trans (hb.mono E2.out.size))
        clear hb
        go_wp2_with fail
        refine hK.out _ _ (sK _ LS3.out LC3.out LT3.out) (fun hHeld => ?_)
        clear hK K hHeld
        try simp only [Act.put, List.getElem_toArray, List.getElem_cons_zero, List.getElem_cons_succ, List.setIfInBounds_toArray, List.set_cons_zero, List.set_cons_succ]
        refine wpAnyH_take (i := 11) (v := ?_) rfl (by kernel_rfl) (by kernel_rfl) (by kernel_rfl) (fun _ _ _ h => h) (Or.inl ⟨by rfl, ?_⟩) (sK _ LS3.out LC3.out LT3.out) ?_
        rotate_left
        · (intro wS hSw; (try dsimp only at hSw); go_simp; try with_reducible rfl)
        simp only [Act.put, List.getElem_toArray, List.getElem_cons_zero, List.getElem_cons_succ, List.setIfInBounds_toArray, List.set_cons_zero, List.set_cons_succ]
        refine wpAnyH_take (i := 15) (v := ?_) rfl (by kernel_rfl) (by kernel_rfl) (by kernel_rfl) (fun _ _ _ h => h) (Or.inl ⟨by rfl, ?_⟩) (sK _ LS3.out LC3.out LT3.out) ?_
        rotate_left
        · (intro wS hSw; (try dsimp only at hSw); go_simp; try with_reducible rfl)
        simp only [Act.put, List.getElem_toArray, List.getElem_cons_zero, List.getElem_cons_succ, List.setIfInBounds_toArray, List.set_cons_zero, List.set_cons_succ]
        refine wpAnyH_take (i := 16) (v := ?_) rfl (by kernel_rfl) (by kernel_rfl) (by kernel_rfl) (fun _ _ _ h => h) (Or.inl ⟨by rfl, ?_⟩) (sK _ LS3.out LC3.out LT3.out) ?_
        rotate_left
        · (intro wS hSw; (try dsimp only at hSw); go_simp; try with_reducible rfl)
        simp only [Act.put, List.getElem_toArray, List.getElem_cons_zero, List.getElem_cons_succ, List.setIfInBounds_toArray, List.set_cons_zero, List.set_cons_succ]
        refine wpAnyH_done (by kernel_rfl) ?_ _
        go_wp2_with fail
        try go_ret
        exact ⟨nret (by rw [HR.out]), E3.out⟩
    · have HR : Hid (RES = D + X + st * (N : Int)) := Lib.hid (HE1.out (.inr rfl))
      clear HE1 HE2 HE3
      obtain ⟨M, hM⟩ : ∃ M, st * (N : Int) = M := ⟨_, rfl⟩
      rw [hM] at M0 M1
      have hw1 : IntKind.i64.wrap (D + X) = D + X := IntWalk.i64_in _ (by omega)
      have hw2 : IntKind.i64.wrap (st * (N : Int)) = M := by rw [hM]; exact IntWalk.i64_in _ (by omega)
      have hw3 : IntKind.i64.wrap (D + X + M) = D + X + M := IntWalk.i64_in _ (by omega)
      have HM := Lib.hid hM
      clear hM
      go_wp2_with fail
      have sK : ∀ X, Blk X (w.heap.size) 25 #[.int .i64 (s 0), .int .i64 (s 1), .int .i64 (s 2), .int .i64 (s 3), .int .i64 (s 4), .int .i64 (s 5), .int .i64 (s 6), .int .i64 (s 7), .slice A n c, .int .i64 (s 9), .int .i64 (s 10), .int .i64 (s 11), .int .i64 (s 12)] → Blk X (w.heap.size + 1) 36 #[.int .i64 p, .int .i64 d, .int .i64 mo, .int .i64 le, .bool bw, R] → Blk X (w.heap.size + 1 + 1) 40 #[.int .u64 x, .int .u64 y] → (fun X => X.cell? ⟨w.heap.size, 0, none⟩ = some (.int .i64 (s 0)) ∧ X.cell? ⟨w.heap.size, 1, none⟩ = some (.int .i64 (s 1)) ∧ X.cell? ⟨w.heap.size, 2, none⟩ = some (.int .i64 (s 2)) ∧ X.cell? ⟨w.heap.size, 3, none⟩ = some (.int .i64 (s 3)) ∧ X.cell? ⟨w.heap.size, 4, none⟩ = some (.int .i64 (s 4)) ∧ X.cell? ⟨w.heap.size, 5, none⟩ = some (.int .i64 (s 5)) ∧ X.cell? ⟨w.heap.size, 6, none⟩ = some (.int .i64 (s 6)) ∧ X.cell? ⟨w.heap.size, 7, none⟩ = some (.int .i64 (s 7)) ∧ X.cell? ⟨w.heap.size, 8, none⟩ = some (.slice A n c) ∧ X.cell? ⟨w.heap.size, 9, none⟩ = some (.int .i64 (s 9)) ∧ X.cell? ⟨w.heap.size, 10, none⟩ = some (.int .i64 (s 10)) ∧ X.cell? ⟨w.heap.size, 11, none⟩ = some (.int .i64 (s 11)) ∧ X.cell? ⟨w.heap.size, 12, none⟩ = some (.int .i64 (s 12)) ∧ X.cell? ⟨w.heap.size + 1, 0, none⟩ = some (.int .i64 p) ∧ X.cell? ⟨w.heap.size + 1, 1, none⟩ = some (.int .i64 d) ∧ X.cell? ⟨w.heap.size + 1, 2, none⟩ = some (.int .i64 mo) ∧ X.cell? ⟨w.heap.size + 1, 3, none⟩ = some (.int .i64 le) ∧ X.cell? ⟨w.heap.size + 1, 4, none⟩ = some (.bool bw) ∧ X.cell? ⟨w.heap.size + 1, 5, none⟩ = some (R) ∧ X.cell? ⟨w.heap.size + 1 + 1, 0, none⟩ = some (.int .u64 x) ∧ X.cell? ⟨w.heap.size + 1 + 1, 1, none⟩ = some (.int .u64 y)) X := fun X hS hC hT => ⟨hS.cell 0, hS.cell 1, hS.cell 2, hS.cell 3, hS.cell 4, hS.cell 5, hS.cell 6, hS.cell 7, hS.cell 8, hS.cell 9, hS.cell 10, hS.cell 11, hS.cell 12, hC.cell 0, hC.cell 1, hC.cell 2, hC.cell 3, hC.cell 4, hC.cell 5, hT.cell 0, hT.cell 1⟩
      have LS0 := Lib.hid (HS.out.drew)
      have LC0 := Lib.hid (HC.out.drew)
      have LT0 := Lib.hid (HT.out.drew)
      have E0 := Lib.hid (EE.out.drew)
      clear kS0 kS1 kS2 kS3 kS4 kS5 kS6 kS7 kS8 kS9 kS10 kS11 kS12 kC0 kC1 kC2 kC3 kC4 kC5 kT0 kT1
      refine wp_region_held_drew (S := (fun X => X.cell? ⟨w.heap.size, 0, none⟩ = some (.int .i64 (s 0)) ∧ X.cell? ⟨w.heap.size, 1, none⟩ = some (.int .i64 (s 1)) ∧ X.cell? ⟨w.heap.size, 2, none⟩ = some (.int .i64 (s 2)) ∧ X.cell? ⟨w.heap.size, 3, none⟩ = some (.int .i64 (s 3)) ∧ X.cell? ⟨w.heap.size, 4, none⟩ = some (.int .i64 (s 4)) ∧ X.cell? ⟨w.heap.size, 5, none⟩ = some (.int .i64 (s 5)) ∧ X.cell? ⟨w.heap.size, 6, none⟩ = some (.int .i64 (s 6)) ∧ X.cell? ⟨w.heap.size, 7, none⟩ = some (.int .i64 (s 7)) ∧ X.cell? ⟨w.heap.size, 8, none⟩ = some (.slice A n c) ∧ X.cell? ⟨w.heap.size, 9, none⟩ = some (.int .i64 (s 9)) ∧ X.cell? ⟨w.heap.size, 10, none⟩ = some (.int .i64 (s 10)) ∧ X.cell? ⟨w.heap.size, 11, none⟩ = some (.int .i64 (s 11)) ∧ X.cell? ⟨w.heap.size, 12, none⟩ = some (.int .i64 (s 12)) ∧ X.cell? ⟨w.heap.size + 1, 0, none⟩ = some (.int .i64 p) ∧ X.cell? ⟨w.heap.size + 1, 1, none⟩ = some (.int .i64 d) ∧ X.cell? ⟨w.heap.size + 1, 2, none⟩ = some (.int .i64 mo) ∧ X.cell? ⟨w.heap.size + 1, 3, none⟩ = some (.int .i64 le) ∧ X.cell? ⟨w.heap.size + 1, 4, none⟩ = some (.bool bw) ∧ X.cell? ⟨w.heap.size + 1, 5, none⟩ = some (R) ∧ X.cell? ⟨w.heap.size + 1 + 1, 0, none⟩ = some (.int .u64 x) ∧ X.cell? ⟨w.heap.size + 1 + 1, 1, none⟩ = some (.int .u64 y))) (by kernel_rfl) (sK _ LS0.out LC0.out LT0.out) (fun hHeld => ?_)
      clear hHeld
      refine wpAnyH_take (i := 0) (v := ?_) rfl (by kernel_rfl) (by kernel_rfl) (by kernel_rfl) (fun _ _ _ h => h) (Or.inl ⟨by rfl, ?_⟩) (sK _ LS0.out LC0.out LT0.out) ?_
      rotate_left
      · (intro wS hSw; (try dsimp only at hSw); go_simp; try with_reducible rfl)
      simp only [Act.put, List.getElem_toArray, List.getElem_cons_zero, List.getElem_cons_succ, List.setIfInBounds_toArray, List.set_cons_zero, List.set_cons_succ]
      refine wpAnyH_take (i := 1) (v := ?_) rfl (by kernel_rfl) (by kernel_rfl) (by kernel_rfl) (fun _ _ _ h => h) (Or.inl ⟨by rfl, ?_⟩) (sK _ LS0.out LC0.out LT0.out) ?_
      rotate_left
      · (intro wS hSw; (try dsimp only at hSw); go_simp; try with_reducible rfl)
      simp only [Act.put, List.getElem_toArray, List.getElem_cons_zero, List.getElem_cons_succ, List.setIfInBounds_toArray, List.set_cons_zero, List.set_cons_succ]
      refine wpAnyH_take (i := 3) (v := ?_) rfl (by kernel_rfl) (by kernel_rfl) (by kernel_rfl) (fun _ _ _ h => h) (Or.inl ⟨by rfl, ?_⟩) (sK _ LS0.out LC0.out LT0.out) ?_
      rotate_left
      · (intro wS hSw; (try dsimp only at hSw); go_simp; try with_reducible rfl)
      simp only [Act.put, List.getElem_toArray, List.getElem_cons_zero, List.getElem_cons_succ, List.setIfInBounds_toArray, List.set_cons_zero, List.set_cons_succ]
      refine wpAnyH_take (i := 4) (v := ?_) rfl (by kernel_rfl) (by kernel_rfl) (by kernel_rfl) (fun _ _ _ h => h) (Or.inl ⟨by rfl, ?_⟩) (sK _ LS0.out LC0.out LT0.out) ?_
      rotate_left
      · (intro wS hSw; (try dsimp only at hSw); go_simp; try with_reducible rfl)
      simp only [Act.put, List.getElem_toArray, List.getElem_cons_zero, List.getElem_cons_succ, List.setIfInBounds_toArray, List.set_cons_zero, List.set_cons_succ]
      refine wpAnyH_take (i := 5) (v := ?_) rfl (by kernel_rfl) (by kernel_rfl) (by kernel_rfl) (fun _ _ _ h => h) (Or.inl ⟨by rfl, ?_⟩) (sK _ LS0.out LC0.out LT0.out) ?_
      rotate_left
      · (intro wS hSw; (try dsimp only at hSw); go_simp; try with_reducible rfl)
      simp only [Act.put, List.getElem_toArray, List.getElem_cons_zero, List.getElem_cons_succ, List.setIfInBounds_toArray, List.set_cons_zero, List.set_cons_succ]
      refine wpAnyH_take (i := 8) (v := ?_) rfl (by kernel_rfl) (by kernel_rfl) (by kernel_rfl) (fun _ _ _ h => h) (Or.inl ⟨by rfl, ?_⟩) (sK _ LS0.out LC0.out LT0.out) ?_
      rotate_left
      · (intro wS hSw; (try dsimp only at hSw); go_simp; try with_reducible rfl)
      simp only [Act.put, List.getElem_toArray, List.getElem_cons_zero, List.getElem_cons_succ, List.setIfInBounds_toArray, List.set_cons_zero, List.set_cons_succ]
      refine wpAnyH_take (i := 9) (v := ?_) rfl (by kernel_rfl) (by kernel_rfl) (by kernel_rfl) (fun _ _ _ h => h) (Or.inl ⟨by rfl, ?_⟩) (sK _ LS0.out LC0.out LT0.out) ?_
      rotate_left
      · (intro wS hSw; (try dsimp only at hSw); go_simp; try with_reducible rfl)
      simp only [Act.put, List.getElem_toArray, List.getElem_cons_zero, List.getElem_cons_succ, List.setIfInBounds_toArray, List.set_cons_zero, List.set_cons_succ]
      refine wpAnyH_take (i := 10) (v := ?_) rfl (by kernel_rfl) (by kernel_rfl) (by kernel_rfl) (fun _ _ _ h => h) (Or.inl ⟨by rfl, ?_⟩) (sK _ LS0.out LC0.out LT0.out) ?_
      rotate_left
      · (intro wS hSw; (try dsimp only at hSw); go_simp; try with_reducible rfl)
      simp only [Act.put, List.getElem_toArray, List.getElem_cons_zero, List.getElem_cons_succ, List.setIfInBounds_toArray, List.set_cons_zero, List.set_cons_succ]
      refine wpAnyH_take (i := 11) (v := ?_) rfl (by kernel_rfl) (by kernel_rfl) (by kernel_rfl) (fun _ _ _ h => h) (Or.inl ⟨by rfl, ?_⟩) (sK _ LS0.out LC0.out LT0.out) ?_
      rotate_left
      · (intro wS hSw; (try dsimp only at hSw); go_simp; try with_reducible rfl)
      simp only [Act.put, List.getElem_toArray, List.getElem_cons_zero, List.getElem_cons_succ, List.setIfInBounds_toArray, List.set_cons_zero, List.set_cons_succ]
      refine wpAnyH_take (i := 12) (v := ?_) rfl (by kernel_rfl) (by kernel_rfl) (by kernel_rfl) (fun _ _ _ h => h) (Or.inl ⟨by rfl, ?_⟩) (sK _ LS0.out LC0.out LT0.out) ?_
      rotate_left
      · (intro wS hSw; (try dsimp only at hSw); go_simp; try with_reducible rfl)
      simp only [Act.put, List.getElem_toArray, List.getElem_cons_zero, List.getElem_cons_succ, List.setIfInBounds_toArray, List.set_cons_zero, List.set_cons_succ]
      refine wpAnyH_take (i := 13) (v := ?_) rfl (by kernel_rfl) (by kernel_rfl) (by kernel_rfl) (fun _ _ _ h => h) (Or.inl ⟨by rfl, ?_⟩) (sK _ LS0.out LC0.out LT0.out) ?_
      rotate_left
      · (intro wS hSw; (try dsimp only at hSw); go_simp; try with_reducible rfl)
      simp only [Act.put, List.getElem_toArray, List.getElem_cons_zero, List.getElem_cons_succ, List.setIfInBounds_toArray, List.set_cons_zero, List.set_cons_succ]
      refine wpAnyH_ready (rs := [2]) (by kernel_rfl) (by simp) ?_
      refine AllReadyH.cons rfl (fun K hK => ?_) AllReadyH.nil
      go_simp
      refine (JO.out _).mono ?_
      rintro e r1 ⟨rfl, hb⟩
      have LS1 := Lib.hid (LS0.out.next hb)
      have LC1 := Lib.hid (LC0.out.next hb)
      have LT1 := Lib.hid (LT0.out.next hb)
      have E1 := Lib.hid (E0.out.trans (hb.mono E0.out.size))
      clear hb
      go_wp2_with fail
      refine hK.out _ _ (sK _ LS1.out LC1.out LT1.out) (fun hHeld => ?_)
      clear hK K hHeld
      try simp only [Act.put, List.getElem_toArray, List.getElem_cons_zero, List.getElem_cons_succ, List.setIfInBounds_toArray, List.set_cons_zero, List.set_cons_succ]
      refine wpAnyH_ready (rs := [6]) (by kernel_rfl) (by simp) ?_
      refine AllReadyH.cons rfl (fun K hK => ?_) AllReadyH.nil
      go_simp
      refine (JF.out _).mono ?_
      rintro e r2 ⟨rfl, hb⟩
      have LS2 := Lib.hid (LS1.out.next hb)
      have LC2 := Lib.hid (LC1.out.next hb)
      have LT2 := Lib.hid (LT1.out.next hb)
      have E2 := Lib.hid (E1.out.trans (hb.mono E1.out.size))
      clear hb
      go_wp2_with fail
      refine hK.out _ _ (sK _ LS2.out LC2.out LT2.out) (fun hHeld => ?_)
      clear hK K hHeld
      try simp only [Act.put, List.getElem_toArray, List.getElem_cons_zero, List.getElem_cons_succ, List.setIfInBounds_toArray, List.set_cons_zero, List.set_cons_succ]
      refine wpAnyH_take (i := 7) (v := ?_) rfl (by kernel_rfl) (by kernel_rfl) (by kernel_rfl) (fun _ _ _ h => h) (Or.inl ⟨by rfl, ?_⟩) (sK _ LS2.out LC2.out LT2.out) ?_
      rotate_left
      · (intro wS hSw; (try dsimp only at hSw); go_simp; try with_reducible rfl)
      simp only [Act.put, List.getElem_toArray, List.getElem_cons_zero, List.getElem_cons_succ, List.setIfInBounds_toArray, List.set_cons_zero, List.set_cons_succ]
      refine wpAnyH_ready (rs := [14]) (by kernel_rfl) (by simp) ?_
      refine AllReadyH.cons rfl (fun K hK => ?_) AllReadyH.nil
      go_simp
      refine (JB.out _ (JT.out.kept E2.out)).mono ?_
      rintro e r3 ⟨rfl, hb⟩
      have LS3 := Lib.hid (LS2.out.next hb)
      have LC3 := Lib.hid (LC2.out.next hb)
      have LT3 := Lib.hid (LT2.out.next hb)
      have E3 := Lib.hid (E2.out.trans (hb.mono E2.out.size))
      clear hb
      go_wp2_with fail
      refine hK.out _ _ (sK _ LS3.out LC3.out LT3.out) (fun hHeld => ?_)
      clear hK K hHeld
      try simp only [Act.put, List.getElem_toArray, List.getElem_cons_zero, List.getElem_cons_succ, List.setIfInBounds_toArray, List.set_cons_zero, List.set_cons_succ]
      refine wpAnyH_take (i := 15) (v := ?_) rfl (by kernel_rfl) (by kernel_rfl) (by kernel_rfl) (fun _ _ _ h => h) (Or.inl ⟨by rfl, ?_⟩) (sK _ LS3.out LC3.out LT3.out) ?_
      rotate_left
      · (intro wS hSw; (try dsimp only at hSw); go_simp; try with_reducible rfl)
      simp only [Act.put, List.getElem_toArray, List.getElem_cons_zero, List.getElem_cons_succ, List.setIfInBounds_toArray, List.set_cons_zero, List.set_cons_succ]
      refine wpAnyH_take (i := 16) (v := ?_) rfl (by kernel_rfl) (by kernel_rfl) (by kernel_rfl) (fun _ _ _ h => h) (Or.inl ⟨by rfl, ?_⟩) (sK _ LS3.out LC3.out LT3.out) ?_
      rotate_left
      · (intro wS hSw; (try dsimp only at hSw); go_simp; try with_reducible rfl)
      simp only [Act.put, List.getElem_toArray, List.getElem_cons_zero, List.getElem_cons_succ, List.setIfInBounds_toArray, List.set_cons_zero, List.set_cons_succ]
      refine wpAnyH_take (i := 17) (v := ?_) rfl (by kernel_rfl) (by kernel_rfl) (by kernel_rfl) (fun _ _ _ h => h) (Or.inl ⟨by rfl, ?_⟩) (sK _ LS3.out LC3.out LT3.out) ?_
      rotate_left
      · (intro wS hSw; (try dsimp only at hSw); go_simp; try with_reducible rfl)
      simp only [Act.put, List.getElem_toArray, List.getElem_cons_zero, List.getElem_cons_succ, List.setIfInBounds_toArray, List.set_cons_zero, List.set_cons_succ]
      refine wpAnyH_done (by kernel_rfl) ?_ _
      go_wp2_with fail
      try go_ret
      exact ⟨nret (by rw [HR.out, HM.out]), E3.out⟩
end Go.Proofs.YtbjcigkakeffmaaDoor
