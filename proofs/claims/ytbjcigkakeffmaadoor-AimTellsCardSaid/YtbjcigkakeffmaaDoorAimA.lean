/- What a passenger costs a car: the program's, and the law's. -/
import Derived.Test.YtbjcigkakeffmaaDoorRows
import Derived.Test.YtbjcigkakeffmaaDoorKitM
import Derived.Test.YtbjcigkakeffmaaDoorCmp
import Derived.Test.YtbjcigkakeffmaaDoorPlaceA
import Derived.Test.YtbjcigkakeffmaaDoorVetA
import Derived.Test.YtbjcigkakeffmaaDoorVetB
import Derived.Test.YtbjcigkakeffmaaDoorNearMath
import Derived.Test.YtbjcigkakeffmaaDoorNearA
import Derived.Test.YtbjcigkakeffmaaDoorNearB
import Derived.Test.YtbjcigkakeffmaaDoorNearC
import Derived.Test.YtbjcigkakeffmaaDoorNearG
import Derived.Test.YtbjcigkakeffmaaDoorNearI
import Derived.Test.YtbjcigkakeffmaaDoorBitM
import Derived.Test.YtbjcigkakeffmaaDoorBitsL
import Derived.Test.YtbjcigkakeffmaaDoorBitsN
import Derived.Test.YtbjcigkakeffmaaDoorBitsT
import Derived.Test.YtbjcigkakeffmaaDoorBitsU
import Derived.Test.YtbjcigkakeffmaaDoorBitsV
import Derived.Test.YtbjcigkakeffmaaDoorBitsX
import Derived.Test.YtbjcigkakeffmaaDoorWantA
import Derived.Test.YtbjcigkakeffmaaDoorWantB
import Derived.Test.YtbjcigkakeffmaaDoorWantC
import Derived.Test.YtbjcigkakeffmaaDoorEtaA
import Derived.Test.YtbjcigkakeffmaaDoorEtaB
import Derived.Test.YtbjcigkakeffmaaDoorEtaMath
import Derived.Test.YtbjcigkakeffmaaDoorEtaC
import Derived.Test.YtbjcigkakeffmaaDoorEtaD
import Derived.Test.YtbjcigkakeffmaaDoorEtaE
import Derived.Test.YtbjcigkakeffmaaDoorEtaF
import Derived.Test.YtbjcigkakeffmaaDoorEtaG
import Derived.Test.YtbjcigkakeffmaaDoorWantD
import Derived.Test.YtbjcigkakeffmaaDoorAtKit
import Derived.WalkKit
import Derived.IntWalk
import Derived.Lib.Hide
import Derived.WalkSpells
import Derived.WalkLawsBesides
import Derived.Laws.CopyOwn
import Derived.Laws.MakeOwn
import Derived.Laws.OwnMore
import Derived.OwnWalk
import Derived.Deep.QuietTactic
import Derived.BigQuiet
import Derived.Deep.RegionHeld3
import Derived.Deep.LoopGhost
import Derived.BigRegion
import Derived.Deep.AppendLies
import Derived.Maps.AppendAt
import Derived.Below
namespace Go.Proofs.YtbjcigkakeffmaaDoor
open Go.RowKit
set_option linter.unusedSimpArgs false
set_option linter.unusedVariables false
/-- stops that a passenger's own floors cost -/
def ownN (F : Nat → Bool) (fr to : Int) : Nat := (if hasF F fr then 0 else 1) + (if hasF F to then 0 else 1)
/-- what a passenger costs: e in how many ticks the car is there -/
def aimV (e st : Int) (F : Nat → Bool) (fr to : Int) (rn : Nat) : Int := e + ((btP fr to (itL F 128) + ownN F fr to : Nat) : Int) * st + rn
theorem idx2_0 (a b : Int) (w : World) : (Instr.index 72 (.agg #[.int .i64 a, .int .i64 b]) (.int .i64 0)).run Tryd.prog w = .ok (.int .i64 a) w := by kernel_rfl
theorem idx2_1 (a b : Int) (w : World) : (Instr.index 72 (.agg #[.int .i64 a, .int .i64 b]) (.int .i64 1)).run Tryd.prog w = .ok (.int .i64 b) w := by kernel_rfl
theorem dir_b (a b : Int) (w : World) : Calls Tryd.prog 22 #[.int .i64 a, .int .i64 b] w fun e w' => e = .returned (.int .i64 (cmpI b a)) ∧ Below w.heap.size w w' :=
  (dir_any a b w).mono fun e w' ⟨h1, h2⟩ => ⟨h1, h2 ▸ Below.refl _ _⟩
theorem rdir_b (a b : Int) (w : World) : Calls Tryd.prog 36 #[.int .i64 a, .int .i64 b] w fun e w' => e = .returned (.int .i64 (cmpI b a)) ∧ Below w.heap.size w w' := by
  rcases Int.lt_trichotomy b a with h | h | h
  · rw [cmpI_lt h]
    have h1 : ¬ a < b := by omega
    go_enter Tryd.func36, Tryd.ntmps36
    go_wp2_with fail
    go_ret
    exact ⟨rfl, Below.refl _ _⟩
  · rw [cmpI_eq h]
    subst h
    go_enter Tryd.func36, Tryd.ntmps36
    go_wp2_with fail
    go_ret
    exact ⟨rfl, Below.refl _ _⟩
  · rw [cmpI_gt h]
    go_enter Tryd.func36, Tryd.ntmps36
    go_wp2_with fail
    go_ret
    exact ⟨rfl, Below.refl _ _⟩
set_option maxRecDepth 100000 in
set_option maxHeartbeats 8000000 in
theorem acost_any (s : Nat → Int) (A : Option Addr) (n c : Nat) (p d mo le : Int) (bw : Bool) (RA : Option Addr) (rn rc : Nat) (F : Nat → Bool) (i0 i1 fr to e : Int) (w : World) (hN : InN s) (hT : TzT w) (hrn : rn ≤ 64) (e0 : 0 ≤ e) (e1 : e ≤ 1048576)
    (hO : ∀ w, TzT w → Calls Tryd.prog 9 #[scnV s A n c, carV p d mo le bw (.slice RA rn rc), setV F, .int .i64 fr, .int .i64 (cmpI to fr)] w fun e' w' => e' = .returned (.int .i64 e) ∧ Below w.heap.size w w') :
    Calls Tryd.prog 15 #[scnV s A n c, carV p d mo le bw (.slice RA rn rc), setV F, .agg #[.int .i64 i0, .int .i64 i1, .int .i64 fr, .int .i64 to]] w fun e' w' => e' = .returned (.int .i64 (aimV e (s 4 + s 7 + s 5 + s 6) F fr to rn)) ∧ Below w.heap.size w w' := by
  have KB := fun w hT => between_any F fr to w hT
  have KH := fun f w => has_any F f w
  have KS := fun w => bstop_any s A n c w hN.h4 hN.h5 hN.h6 hN.h7
  have KD := fun w => dir_b fr to w
  obtain ⟨h40, h41⟩ := hN.h4; obtain ⟨h50, h51⟩ := hN.h5; obtain ⟨h60, h61⟩ := hN.h6; obtain ⟨h70, h71⟩ := hN.h7
  unfold aimV
  have nb : btP fr to (itL F 128) ≤ 128 := Nat.le_trans (btP_le _ _ _) (itL_len F 128)
  obtain ⟨N, hNN⟩ : ∃ N, btP fr to (itL F 128) = N := ⟨_, rfl⟩
  rw [hNN] at KB nb ⊢
  obtain ⟨u, hu⟩ : ∃ u, cmpI to fr = u := ⟨_, rfl⟩
  rw [hu] at KD hO
  have OW : ownN F fr to = (if hasF F fr then 0 else 1) + (if hasF F to then 0 else 1) := rfl
  obtain ⟨on, hon⟩ : ∃ m, ownN F fr to = m := ⟨_, rfl⟩
  rw [hon] at OW ⊢
  obtain ⟨hf, hhf⟩ : ∃ b, hasF F fr = b := ⟨_, rfl⟩
  obtain ⟨ht, hht⟩ : ∃ b, hasF F to = b := ⟨_, rfl⟩
  have KH1 := fun w => KH fr w
  have KH2 := fun w => KH to w
  rw [hhf] at KH1 OW
  rw [hht] at KH2 OW
  clear KH
  unfold setV scnV carV at *
  obtain ⟨x, hx⟩ : ∃ x, wordX F = x := ⟨_, rfl⟩
  obtain ⟨y, hy⟩ : ∃ y, wordY F = y := ⟨_, rfl⟩
  simp only [hx, hy] at KB KH1 KH2 hO ⊢
  obtain ⟨s4, e4⟩ : ∃ z, s 4 = z := ⟨_, rfl⟩
  obtain ⟨s5, e5⟩ : ∃ z, s 5 = z := ⟨_, rfl⟩
  obtain ⟨s6, e6⟩ : ∃ z, s 6 = z := ⟨_, rfl⟩
  obtain ⟨s7, e7⟩ : ∃ z, s 7 = z := ⟨_, rfl⟩
  rw [e4] at h40 h41; rw [e5] at h50 h51; rw [e6] at h60 h61; rw [e7] at h70 h71
  simp only [e4, e5, e6, e7] at KS hO ⊢
  obtain ⟨st, hst⟩ : ∃ z, s4 + s7 + s5 + s6 = z := ⟨_, rfl⟩
  rw [hst] at KS ⊢
  have st0 : 4 ≤ st ∧ st ≤ 256 := by omega
  have on2 : on ≤ 2 := by rw [OW]; cases hf <;> cases ht <;> simp
  have P0 : 0 ≤ ((N + on : Nat) : Int) * st := Int.mul_nonneg (by omega) (by omega)
  have P1 : ((N + on : Nat) : Int) * st ≤ 130 * 256 := Int.mul_le_mul (by omega) (by omega) (by omega) (by omega)
  have Q0 : 0 ≤ st * (N : Int) := Int.mul_nonneg (by omega) (by omega)
  have Q1 : st * (N : Int) ≤ 256 * 128 := Int.mul_le_mul (by omega) (by omega) (by omega) (by omega)
  have JB := Lib.hid KB; have JH1 := Lib.hid KH1; have JH2 := Lib.hid KH2; have JS := Lib.hid KS; have JD := Lib.hid KD; have JO := Lib.hid hO
  have hs1 : IntKind.i64.wrap (s4 + s7) = s4 + s7 := IntWalk.i64_in _ (by omega)
  have hs2 : IntKind.i64.wrap (s4 + s7 + s5) = s4 + s7 + s5 := IntWalk.i64_in _ (by omega)
  have hs3 : IntKind.i64.wrap (s4 + s7 + s5 + s6) = st := by rw [hst]; exact IntWalk.i64_in _ (by omega)
  have HOW := Lib.hid OW
  have JT := Lib.hid hT
  clear KB KH1 KH2 KS KD hO hNN hu hon hhf hht hx hy e4 e5 e6 e7 OW hst hN hT hs1 hs2 hs3
  go_enter Tryd.func15, Tryd.ntmps15
  go_wp2_with fail
  have BS := (((Blk.new w #[.int .i64 (s 0), .int .i64 (s 1), .int .i64 (s 2), .int .i64 (s 3), .int .i64 s4, .int .i64 s5, .int .i64 s6, .int .i64 s7, .slice A n c, .int .i64 (s 9), .int .i64 (s 10), .int .i64 (s 11), .int .i64 (s 12)] 25).alloc (.cells #[.int .i64 p, .int .i64 d, .int .i64 mo, .int .i64 le, .bool bw, .slice RA rn rc] 36)).alloc (.cells #[.int .u64 x, .int .u64 y] 40)).alloc (.cells #[.int .i64 i0, .int .i64 i1, .int .i64 fr, .int .i64 to] 45)
  have BC := ((Blk.new (w.alloc (.cells #[.int .i64 (s 0), .int .i64 (s 1), .int .i64 (s 2), .int .i64 (s 3), .int .i64 s4, .int .i64 s5, .int .i64 s6, .int .i64 s7, .slice A n c, .int .i64 (s 9), .int .i64 (s 10), .int .i64 (s 11), .int .i64 (s 12)] 25)) #[.int .i64 p, .int .i64 d, .int .i64 mo, .int .i64 le, .bool bw, .slice RA rn rc] 36).alloc (.cells #[.int .u64 x, .int .u64 y] 40)).alloc (.cells #[.int .i64 i0, .int .i64 i1, .int .i64 fr, .int .i64 to] 45)
  rw [World.size_alloc] at BC
  have BT := (Blk.new ((w.alloc (.cells #[.int .i64 (s 0), .int .i64 (s 1), .int .i64 (s 2), .int .i64 (s 3), .int .i64 s4, .int .i64 s5, .int .i64 s6, .int .i64 s7, .slice A n c, .int .i64 (s 9), .int .i64 (s 10), .int .i64 (s 11), .int .i64 (s 12)] 25)).alloc (.cells #[.int .i64 p, .int .i64 d, .int .i64 mo, .int .i64 le, .bool bw, .slice RA rn rc] 36)) #[.int .u64 x, .int .u64 y] 40).alloc (.cells #[.int .i64 i0, .int .i64 i1, .int .i64 fr, .int .i64 to] 45)
  rw [World.size_alloc, World.size_alloc] at BT
  have BP := Blk.new (((w.alloc (.cells #[.int .i64 (s 0), .int .i64 (s 1), .int .i64 (s 2), .int .i64 (s 3), .int .i64 s4, .int .i64 s5, .int .i64 s6, .int .i64 s7, .slice A n c, .int .i64 (s 9), .int .i64 (s 10), .int .i64 (s 11), .int .i64 (s 12)] 25)).alloc (.cells #[.int .i64 p, .int .i64 d, .int .i64 mo, .int .i64 le, .bool bw, .slice RA rn rc] 36)).alloc (.cells #[.int .u64 x, .int .u64 y] 40)) #[.int .i64 i0, .int .i64 i1, .int .i64 fr, .int .i64 to] 45
  rw [World.size_alloc, World.size_alloc, World.size_alloc] at BP
  have BE : Below w.heap.size w ((((w.alloc (.cells #[.int .i64 (s 0), .int .i64 (s 1), .int .i64 (s 2), .int .i64 (s 3), .int .i64 s4, .int .i64 s5, .int .i64 s6, .int .i64 s7, .slice A n c, .int .i64 (s 9), .int .i64 (s 10), .int .i64 (s 11), .int .i64 (s 12)] 25)).alloc (.cells #[.int .i64 p, .int .i64 d, .int .i64 mo, .int .i64 le, .bool bw, .slice RA rn rc] 36)).alloc (.cells #[.int .u64 x, .int .u64 y] 40)).alloc (.cells #[.int .i64 i0, .int .i64 i1, .int .i64 fr, .int .i64 to] 45)) := ((((Below.refl w.heap.size w).alloc (Nat.le_refl _) _).alloc (by simp <;> omega) _).alloc (by simp <;> omega) _).alloc (by simp <;> omega) _
  obtain ⟨V0, hV0⟩ : ∃ V, ((((w.alloc (.cells #[.int .i64 (s 0), .int .i64 (s 1), .int .i64 (s 2), .int .i64 (s 3), .int .i64 s4, .int .i64 s5, .int .i64 s6, .int .i64 s7, .slice A n c, .int .i64 (s 9), .int .i64 (s 10), .int .i64 (s 11), .int .i64 (s 12)] 25)).alloc (.cells #[.int .i64 p, .int .i64 d, .int .i64 mo, .int .i64 le, .bool bw, .slice RA rn rc] 36)).alloc (.cells #[.int .u64 x, .int .u64 y] 40)).alloc (.cells #[.int .i64 i0, .int .i64 i1, .int .i64 fr, .int .i64 to] 45)) = V := ⟨_, rfl⟩
  rw [hV0] at BS BC BT BP BE ⊢
  have HS := Lib.hid BS
  have HC := Lib.hid BC
  have HT := Lib.hid BT
  have HP := Lib.hid BP
  have EE := Lib.hid BE
  have ne0_1 : w.heap.size ≠ w.heap.size + 1 := by omega
  have ne0_2 : w.heap.size ≠ w.heap.size + 1 + 1 := by omega
  have ne0_3 : w.heap.size ≠ w.heap.size + 1 + 1 + 1 := by omega
  have ne1_0 : w.heap.size + 1 ≠ w.heap.size := by omega
  have ne1_2 : w.heap.size + 1 ≠ w.heap.size + 1 + 1 := by omega
  have ne1_3 : w.heap.size + 1 ≠ w.heap.size + 1 + 1 + 1 := by omega
  have ne2_0 : w.heap.size + 1 + 1 ≠ w.heap.size := by omega
  have ne2_1 : w.heap.size + 1 + 1 ≠ w.heap.size + 1 := by omega
  have ne2_3 : w.heap.size + 1 + 1 ≠ w.heap.size + 1 + 1 + 1 := by omega
  have ne3_0 : w.heap.size + 1 + 1 + 1 ≠ w.heap.size := by omega
  have ne3_1 : w.heap.size + 1 + 1 + 1 ≠ w.heap.size + 1 := by omega
  have ne3_2 : w.heap.size + 1 + 1 + 1 ≠ w.heap.size + 1 + 1 := by omega
  clear hV0 BE BS BC BT BP
  have kS0 : V0.cell? ⟨w.heap.size, 0, none⟩ = some (.int .i64 (s 0)) := HS.out.cell 0
  have kS1 : V0.cell? ⟨w.heap.size, 1, none⟩ = some (.int .i64 (s 1)) := HS.out.cell 1
  have kS2 : V0.cell? ⟨w.heap.size, 2, none⟩ = some (.int .i64 (s 2)) := HS.out.cell 2
  have kS3 : V0.cell? ⟨w.heap.size, 3, none⟩ = some (.int .i64 (s 3)) := HS.out.cell 3
  have kS4 : V0.cell? ⟨w.heap.size, 4, none⟩ = some (.int .i64 s4) := HS.out.cell 4
  have kS5 : V0.cell? ⟨w.heap.size, 5, none⟩ = some (.int .i64 s5) := HS.out.cell 5
  have kS6 : V0.cell? ⟨w.heap.size, 6, none⟩ = some (.int .i64 s6) := HS.out.cell 6
  have kS7 : V0.cell? ⟨w.heap.size, 7, none⟩ = some (.int .i64 s7) := HS.out.cell 7
  have kS8 : V0.cell? ⟨w.heap.size, 8, none⟩ = some (.slice A n c) := HS.out.cell 8
  have kS9 : V0.cell? ⟨w.heap.size, 9, none⟩ = some (.int .i64 (s 9)) := HS.out.cell 9
  have kS10 : V0.cell? ⟨w.heap.size, 10, none⟩ = some (.int .i64 (s 10)) := HS.out.cell 10
  have kS11 : V0.cell? ⟨w.heap.size, 11, none⟩ = some (.int .i64 (s 11)) := HS.out.cell 11
  have kS12 : V0.cell? ⟨w.heap.size, 12, none⟩ = some (.int .i64 (s 12)) := HS.out.cell 12
  have kC0 : V0.cell? ⟨w.heap.size + 1, 0, none⟩ = some (.int .i64 p) := HC.out.cell 0
  have kC1 : V0.cell? ⟨w.heap.size + 1, 1, none⟩ = some (.int .i64 d) := HC.out.cell 1
  have kC2 : V0.cell? ⟨w.heap.size + 1, 2, none⟩ = some (.int .i64 mo) := HC.out.cell 2
  have kC3 : V0.cell? ⟨w.heap.size + 1, 3, none⟩ = some (.int .i64 le) := HC.out.cell 3
  have kC4 : V0.cell? ⟨w.heap.size + 1, 4, none⟩ = some (.bool bw) := HC.out.cell 4
  have kC5 : V0.cell? ⟨w.heap.size + 1, 5, none⟩ = some (.slice RA rn rc) := HC.out.cell 5
  have kT0 : V0.cell? ⟨w.heap.size + 1 + 1, 0, none⟩ = some (.int .u64 x) := HT.out.cell 0
  have kT1 : V0.cell? ⟨w.heap.size + 1 + 1, 1, none⟩ = some (.int .u64 y) := HT.out.cell 1
  have kP0 : V0.cell? ⟨w.heap.size + 1 + 1 + 1, 0, none⟩ = some (.int .i64 i0) := HP.out.cell 0
  have kP1 : V0.cell? ⟨w.heap.size + 1 + 1 + 1, 1, none⟩ = some (.int .i64 i1) := HP.out.cell 1
  have kP2 : V0.cell? ⟨w.heap.size + 1 + 1 + 1, 2, none⟩ = some (.int .i64 fr) := HP.out.cell 2
  have kP3 : V0.cell? ⟨w.heap.size + 1 + 1 + 1, 3, none⟩ = some (.int .i64 to) := HP.out.cell 3
  go_wp2_with fail
  refine (JB.out _ (JT.out.kept EE.out)).mono ?_
  rintro e v1 ⟨rfl, hb⟩
  clear kS0 kS1 kS2 kS3 kS4 kS5 kS6 kS7 kS8 kS9 kS10 kS11 kS12 kC0 kC1 kC2 kC3 kC4 kC5 kT0 kT1 kP0 kP1 kP2 kP3
  have HS := Lib.hid (Blk.next (w := V0) HS.out hb)
  have HC := Lib.hid (Blk.next (w := V0) HC.out hb)
  have HT := Lib.hid (Blk.next (w := V0) HT.out hb)
  have HP := Lib.hid (Blk.next (w := V0) HP.out hb)
  have EE := Lib.hid (EE.out.trans (hb.mono EE.out.size))
  clear hb
  have kS0 : v1.cell? ⟨w.heap.size, 0, none⟩ = some (.int .i64 (s 0)) := HS.out.cell 0
  have kS1 : v1.cell? ⟨w.heap.size, 1, none⟩ = some (.int .i64 (s 1)) := HS.out.cell 1
  have kS2 : v1.cell? ⟨w.heap.size, 2, none⟩ = some (.int .i64 (s 2)) := HS.out.cell 2
  have kS3 : v1.cell? ⟨w.heap.size, 3, none⟩ = some (.int .i64 (s 3)) := HS.out.cell 3
  have kS4 : v1.cell? ⟨w.heap.size, 4, none⟩ = some (.int .i64 s4) := HS.out.cell 4
  have kS5 : v1.cell? ⟨w.heap.size, 5, none⟩ = some (.int .i64 s5) := HS.out.cell 5
  have kS6 : v1.cell? ⟨w.heap.size, 6, none⟩ = some (.int .i64 s6) := HS.out.cell 6
  have kS7 : v1.cell? ⟨w.heap.size, 7, none⟩ = some (.int .i64 s7) := HS.out.cell 7
  have kS8 : v1.cell? ⟨w.heap.size, 8, none⟩ = some (.slice A n c) := HS.out.cell 8
  have kS9 : v1.cell? ⟨w.heap.size, 9, none⟩ = some (.int .i64 (s 9)) := HS.out.cell 9
  have kS10 : v1.cell? ⟨w.heap.size, 10, none⟩ = some (.int .i64 (s 10)) := HS.out.cell 10
  have kS11 : v1.cell? ⟨w.heap.size, 11, none⟩ = some (.int .i64 (s 11)) := HS.out.cell 11
  have kS12 : v1.cell? ⟨w.heap.size, 12, none⟩ = some (.int .i64 (s 12)) := HS.out.cell 12
  have kC0 : v1.cell? ⟨w.heap.size + 1, 0, none⟩ = some (.int .i64 p) := HC.out.cell 0
  have kC1 : v1.cell? ⟨w.heap.size + 1, 1, none⟩ = some (.int .i64 d) := HC.out.cell 1
  have kC2 : v1.cell? ⟨w.heap.size + 1, 2, none⟩ = some (.int .i64 mo) := HC.out.cell 2
  have kC3 : v1.cell? ⟨w.heap.size + 1, 3, none⟩ = some (.int .i64 le) := HC.out.cell 3
  have kC4 : v1.cell? ⟨w.heap.size + 1, 4, none⟩ = some (.bool bw) := HC.out.cell 4
  have kC5 : v1.cell? ⟨w.heap.size + 1, 5, none⟩ = some (.slice RA rn rc) := HC.out.cell 5
  have kT0 : v1.cell? ⟨w.heap.size + 1 + 1, 0, none⟩ = some (.int .u64 x) := HT.out.cell 0
  have kT1 : v1.cell? ⟨w.heap.size + 1 + 1, 1, none⟩ = some (.int .u64 y) := HT.out.cell 1
  have kP0 : v1.cell? ⟨w.heap.size + 1 + 1 + 1, 0, none⟩ = some (.int .i64 i0) := HP.out.cell 0
  have kP1 : v1.cell? ⟨w.heap.size + 1 + 1 + 1, 1, none⟩ = some (.int .i64 i1) := HP.out.cell 1
  have kP2 : v1.cell? ⟨w.heap.size + 1 + 1 + 1, 2, none⟩ = some (.int .i64 fr) := HP.out.cell 2
  have kP3 : v1.cell? ⟨w.heap.size + 1 + 1 + 1, 3, none⟩ = some (.int .i64 to) := HP.out.cell 3
  go_wp2_with fail
  clear kS0 kS1 kS2 kS3 kS4 kS5 kS6 kS7 kS8 kS9 kS10 kS11 kS12 kC0 kC1 kC2 kC3 kC4 kC5 kT0 kT1 kP0 kP1 kP2 kP3
  go_loopw [9, 24] (fun m i wr => ∃ k q : Nat, k ≤ 2 ∧ i = .int .i64 k ∧ m = .int .i64 q ∧ q = N + (if k = 0 then 0 else if k = 1 then (if hf then 0 else 1) else on) ∧ Below w.heap.size w wr ∧ Blk wr (w.heap.size) 25 #[.int .i64 (s 0), .int .i64 (s 1), .int .i64 (s 2), .int .i64 (s 3), .int .i64 s4, .int .i64 s5, .int .i64 s6, .int .i64 s7, .slice A n c, .int .i64 (s 9), .int .i64 (s 10), .int .i64 (s 11), .int .i64 (s 12)] ∧ Blk wr (w.heap.size + 1) 36 #[.int .i64 p, .int .i64 d, .int .i64 mo, .int .i64 le, .bool bw, .slice RA rn rc] ∧ Blk wr (w.heap.size + 1 + 1) 40 #[.int .u64 x, .int .u64 y] ∧ Blk wr (w.heap.size + 1 + 1 + 1) 45 #[.int .i64 i0, .int .i64 i1, .int .i64 fr, .int .i64 to]) (fun _ i _ => 2 - (intOf i).toNat)
  case atStart => exact ⟨0, N, by omega, rfl, rfl, by simp, EE.out, HS.out, HC.out, HT.out, HP.out⟩
  case round =>
    clear EE HS HC HT HP
    obtain ⟨k, q, hk, rfl, rfl, hq, hE0, hS0, hC0, hT0, hP0⟩ := hrel
    have EE := Lib.hid hE0; have HS := Lib.hid hS0; have HC := Lib.hid hC0; have HT := Lib.hid hT0; have HP := Lib.hid hP0
    clear hE0 hS0 hC0 hT0 hP0
    rcases (show k = 0 ∨ k = 1 ∨ k = 2 by omega) with rfl | rfl | rfl
    · have hq' : q = N := by simpa using hq
      have hqb : q ≤ 130 := by rw [hq']; omega
      have HQ := Lib.hid hq'
      clear hq hq'
      have kS0 : wr.cell? ⟨w.heap.size, 0, none⟩ = some (.int .i64 (s 0)) := HS.out.cell 0
      have kS1 : wr.cell? ⟨w.heap.size, 1, none⟩ = some (.int .i64 (s 1)) := HS.out.cell 1
      have kS2 : wr.cell? ⟨w.heap.size, 2, none⟩ = some (.int .i64 (s 2)) := HS.out.cell 2
      have kS3 : wr.cell? ⟨w.heap.size, 3, none⟩ = some (.int .i64 (s 3)) := HS.out.cell 3
      have kS4 : wr.cell? ⟨w.heap.size, 4, none⟩ = some (.int .i64 s4) := HS.out.cell 4
      have kS5 : wr.cell? ⟨w.heap.size, 5, none⟩ = some (.int .i64 s5) := HS.out.cell 5
      have kS6 : wr.cell? ⟨w.heap.size, 6, none⟩ = some (.int .i64 s6) := HS.out.cell 6
      have kS7 : wr.cell? ⟨w.heap.size, 7, none⟩ = some (.int .i64 s7) := HS.out.cell 7
      have kS8 : wr.cell? ⟨w.heap.size, 8, none⟩ = some (.slice A n c) := HS.out.cell 8
      have kS9 : wr.cell? ⟨w.heap.size, 9, none⟩ = some (.int .i64 (s 9)) := HS.out.cell 9
      have kS10 : wr.cell? ⟨w.heap.size, 10, none⟩ = some (.int .i64 (s 10)) := HS.out.cell 10
      have kS11 : wr.cell? ⟨w.heap.size, 11, none⟩ = some (.int .i64 (s 11)) := HS.out.cell 11
      have kS12 : wr.cell? ⟨w.heap.size, 12, none⟩ = some (.int .i64 (s 12)) := HS.out.cell 12
      have kC0 : wr.cell? ⟨w.heap.size + 1, 0, none⟩ = some (.int .i64 p) := HC.out.cell 0
      have kC1 : wr.cell? ⟨w.heap.size + 1, 1, none⟩ = some (.int .i64 d) := HC.out.cell 1
      have kC2 : wr.cell? ⟨w.heap.size + 1, 2, none⟩ = some (.int .i64 mo) := HC.out.cell 2
      have kC3 : wr.cell? ⟨w.heap.size + 1, 3, none⟩ = some (.int .i64 le) := HC.out.cell 3
      have kC4 : wr.cell? ⟨w.heap.size + 1, 4, none⟩ = some (.bool bw) := HC.out.cell 4
      have kC5 : wr.cell? ⟨w.heap.size + 1, 5, none⟩ = some (.slice RA rn rc) := HC.out.cell 5
      have kT0 : wr.cell? ⟨w.heap.size + 1 + 1, 0, none⟩ = some (.int .u64 x) := HT.out.cell 0
      have kT1 : wr.cell? ⟨w.heap.size + 1 + 1, 1, none⟩ = some (.int .u64 y) := HT.out.cell 1
      have kP0 : wr.cell? ⟨w.heap.size + 1 + 1 + 1, 0, none⟩ = some (.int .i64 i0) := HP.out.cell 0
      have kP1 : wr.cell? ⟨w.heap.size + 1 + 1 + 1, 1, none⟩ = some (.int .i64 i1) := HP.out.cell 1
      have kP2 : wr.cell? ⟨w.heap.size + 1 + 1 + 1, 2, none⟩ = some (.int .i64 fr) := HP.out.cell 2
      have kP3 : wr.cell? ⟨w.heap.size + 1 + 1 + 1, 3, none⟩ = some (.int .i64 to) := HP.out.cell 3
      have ix := idx2_0 fr to
      go_wp2_with fail
      clear ix
      refine (JH1.out _).mono ?_
      rintro e v2 ⟨rfl, hb⟩
      clear kS0 kS1 kS2 kS3 kS4 kS5 kS6 kS7 kS8 kS9 kS10 kS11 kS12 kC0 kC1 kC2 kC3 kC4 kC5 kT0 kT1 kP0 kP1 kP2 kP3
      have HS := Lib.hid (Blk.next (w := wr) HS.out hb)
      have HC := Lib.hid (Blk.next (w := wr) HC.out hb)
      have HT := Lib.hid (Blk.next (w := wr) HT.out hb)
      have HP := Lib.hid (Blk.next (w := wr) HP.out hb)
      have EE := Lib.hid (EE.out.trans (hb.mono EE.out.size))
      clear hb
      have kS0 : v2.cell? ⟨w.heap.size, 0, none⟩ = some (.int .i64 (s 0)) := HS.out.cell 0
      have kS1 : v2.cell? ⟨w.heap.size, 1, none⟩ = some (.int .i64 (s 1)) := HS.out.cell 1
      have kS2 : v2.cell? ⟨w.heap.size, 2, none⟩ = some (.int .i64 (s 2)) := HS.out.cell 2
      have kS3 : v2.cell? ⟨w.heap.size, 3, none⟩ = some (.int .i64 (s 3)) := HS.out.cell 3
      have kS4 : v2.cell? ⟨w.heap.size, 4, none⟩ = some (.int .i64 s4) := HS.out.cell 4
      have kS5 : v2.cell? ⟨w.heap.size, 5, none⟩ = some (.int .i64 s5) := HS.out.cell 5
      have kS6 : v2.cell? ⟨w.heap.size, 6, none⟩ = some (.int .i64 s6) := HS.out.cell 6
      have kS7 : v2.cell? ⟨w.heap.size, 7, none⟩ = some (.int .i64 s7) := HS.out.cell 7
      have kS8 : v2.cell? ⟨w.heap.size, 8, none⟩ = some (.slice A n c) := HS.out.cell 8
      have kS9 : v2.cell? ⟨w.heap.size, 9, none⟩ = some (.int .i64 (s 9)) := HS.out.cell 9
      have kS10 : v2.cell? ⟨w.heap.size, 10, none⟩ = some (.int .i64 (s 10)) := HS.out.cell 10
      have kS11 : v2.cell? ⟨w.heap.size, 11, none⟩ = some (.int .i64 (s 11)) := HS.out.cell 11
      have kS12 : v2.cell? ⟨w.heap.size, 12, none⟩ = some (.int .i64 (s 12)) := HS.out.cell 12
      have kC0 : v2.cell? ⟨w.heap.size + 1, 0, none⟩ = some (.int .i64 p) := HC.out.cell 0
      have kC1 : v2.cell? ⟨w.heap.size + 1, 1, none⟩ = some (.int .i64 d) := HC.out.cell 1
      have kC2 : v2.cell? ⟨w.heap.size + 1, 2, none⟩ = some (.int .i64 mo) := HC.out.cell 2
      have kC3 : v2.cell? ⟨w.heap.size + 1, 3, none⟩ = some (.int .i64 le) := HC.out.cell 3
      have kC4 : v2.cell? ⟨w.heap.size + 1, 4, none⟩ = some (.bool bw) := HC.out.cell 4
      have kC5 : v2.cell? ⟨w.heap.size + 1, 5, none⟩ = some (.slice RA rn rc) := HC.out.cell 5
      have kT0 : v2.cell? ⟨w.heap.size + 1 + 1, 0, none⟩ = some (.int .u64 x) := HT.out.cell 0
      have kT1 : v2.cell? ⟨w.heap.size + 1 + 1, 1, none⟩ = some (.int .u64 y) := HT.out.cell 1
      have kP0 : v2.cell? ⟨w.heap.size + 1 + 1 + 1, 0, none⟩ = some (.int .i64 i0) := HP.out.cell 0
      have kP1 : v2.cell? ⟨w.heap.size + 1 + 1 + 1, 1, none⟩ = some (.int .i64 i1) := HP.out.cell 1
      have kP2 : v2.cell? ⟨w.heap.size + 1 + 1 + 1, 2, none⟩ = some (.int .i64 fr) := HP.out.cell 2
      have kP3 : v2.cell? ⟨w.heap.size + 1 + 1 + 1, 3, none⟩ = some (.int .i64 to) := HP.out.cell 3
      cases hf
      · go_wp2_with fail
        go_roundw
        case rel => exact ⟨1, q + 1, by omega, by first | rfl | go_num, by first | rfl | go_num, by rw [HQ.out]; simp, EE.out, HS.out, HC.out, HT.out, HP.out⟩
        case measure => simp [intOf]
      · go_wp2_with fail
        go_roundw
        case rel => exact ⟨1, q, by omega, by first | rfl | go_num, by first | rfl | go_num, by rw [HQ.out]; simp, EE.out, HS.out, HC.out, HT.out, HP.out⟩
        case measure => simp [intOf]
    · have hq' : q = N + if hf then 0 else 1 := by simpa using hq
      have hqb : q ≤ 130 := by rw [hq']; split <;> omega
      have HQ := Lib.hid hq'
      clear hq hq'
      have kS0 : wr.cell? ⟨w.heap.size, 0, none⟩ = some (.int .i64 (s 0)) := HS.out.cell 0
      have kS1 : wr.cell? ⟨w.heap.size, 1, none⟩ = some (.int .i64 (s 1)) := HS.out.cell 1
      have kS2 : wr.cell? ⟨w.heap.size, 2, none⟩ = some (.int .i64 (s 2)) := HS.out.cell 2
      have kS3 : wr.cell? ⟨w.heap.size, 3, none⟩ = some (.int .i64 (s 3)) := HS.out.cell 3
      have kS4 : wr.cell? ⟨w.heap.size, 4, none⟩ = some (.int .i64 s4) := HS.out.cell 4
      have kS5 : wr.cell? ⟨w.heap.size, 5, none⟩ = some (.int .i64 s5) := HS.out.cell 5
      have kS6 : wr.cell? ⟨w.heap.size, 6, none⟩ = some (.int .i64 s6) := HS.out.cell 6
      have kS7 : wr.cell? ⟨w.heap.size, 7, none⟩ = some (.int .i64 s7) := HS.out.cell 7
      have kS8 : wr.cell? ⟨w.heap.size, 8, none⟩ = some (.slice A n c) := HS.out.cell 8
      have kS9 : wr.cell? ⟨w.heap.size, 9, none⟩ = some (.int .i64 (s 9)) := HS.out.cell 9
      have kS10 : wr.cell? ⟨w.heap.size, 10, none⟩ = some (.int .i64 (s 10)) := HS.out.cell 10
      have kS11 : wr.cell? ⟨w.heap.size, 11, none⟩ = some (.int .i64 (s 11)) := HS.out.cell 11
      have kS12 : wr.cell? ⟨w.heap.size, 12, none⟩ = some (.int .i64 (s 12)) := HS.out.cell 12
      have kC0 : wr.cell? ⟨w.heap.size + 1, 0, none⟩ = some (.int .i64 p) := HC.out.cell 0
      have kC1 : wr.cell? ⟨w.heap.size + 1, 1, none⟩ = some (.int .i64 d) := HC.out.cell 1
      have kC2 : wr.cell? ⟨w.heap.size + 1, 2, none⟩ = some (.int .i64 mo) := HC.out.cell 2
      have kC3 : wr.cell? ⟨w.heap.size + 1, 3, none⟩ = some (.int .i64 le) := HC.out.cell 3
      have kC4 : wr.cell? ⟨w.heap.size + 1, 4, none⟩ = some (.bool bw) := HC.out.cell 4
      have kC5 : wr.cell? ⟨w.heap.size + 1, 5, none⟩ = some (.slice RA rn rc) := HC.out.cell 5
      have kT0 : wr.cell? ⟨w.heap.size + 1 + 1, 0, none⟩ = some (.int .u64 x) := HT.out.cell 0
      have kT1 : wr.cell? ⟨w.heap.size + 1 + 1, 1, none⟩ = some (.int .u64 y) := HT.out.cell 1
      have kP0 : wr.cell? ⟨w.heap.size + 1 + 1 + 1, 0, none⟩ = some (.int .i64 i0) := HP.out.cell 0
      have kP1 : wr.cell? ⟨w.heap.size + 1 + 1 + 1, 1, none⟩ = some (.int .i64 i1) := HP.out.cell 1
      have kP2 : wr.cell? ⟨w.heap.size + 1 + 1 + 1, 2, none⟩ = some (.int .i64 fr) := HP.out.cell 2
      have kP3 : wr.cell? ⟨w.heap.size + 1 + 1 + 1, 3, none⟩ = some (.int .i64 to) := HP.out.cell 3
      have ix := idx2_1 fr to
      go_wp2_with fail
      clear ix
      refine (JH2.out _).mono ?_
      rintro e v2 ⟨rfl, hb⟩
      clear kS0 kS1 kS2 kS3 kS4 kS5 kS6 kS7 kS8 kS9 kS10 kS11 kS12 kC0 kC1 kC2 kC3 kC4 kC5 kT0 kT1 kP0 kP1 kP2 kP3
      have HS := Lib.hid (Blk.next (w := wr) HS.out hb)
      have HC := Lib.hid (Blk.next (w := wr) HC.out hb)
      have HT := Lib.hid (Blk.next (w := wr) HT.out hb)
      have HP := Lib.hid (Blk.next (w := wr) HP.out hb)
      have EE := Lib.hid (EE.out.trans (hb.mono EE.out.size))
      clear hb
      have kS0 : v2.cell? ⟨w.heap.size, 0, none⟩ = some (.int .i64 (s 0)) := HS.out.cell 0
      have kS1 : v2.cell? ⟨w.heap.size, 1, none⟩ = some (.int .i64 (s 1)) := HS.out.cell 1
      have kS2 : v2.cell? ⟨w.heap.size, 2, none⟩ = some (.int .i64 (s 2)) := HS.out.cell 2
      have kS3 : v2.cell? ⟨w.heap.size, 3, none⟩ = some (.int .i64 (s 3)) := HS.out.cell 3
      have kS4 : v2.cell? ⟨w.heap.size, 4, none⟩ = some (.int .i64 s4) := HS.out.cell 4
      have kS5 : v2.cell? ⟨w.heap.size, 5, none⟩ = some (.int .i64 s5) := HS.out.cell 5
      have kS6 : v2.cell? ⟨w.heap.size, 6, none⟩ = some (.int .i64 s6) := HS.out.cell 6
      have kS7 : v2.cell? ⟨w.heap.size, 7, none⟩ = some (.int .i64 s7) := HS.out.cell 7
      have kS8 : v2.cell? ⟨w.heap.size, 8, none⟩ = some (.slice A n c) := HS.out.cell 8
      have kS9 : v2.cell? ⟨w.heap.size, 9, none⟩ = some (.int .i64 (s 9)) := HS.out.cell 9
      have kS10 : v2.cell? ⟨w.heap.size, 10, none⟩ = some (.int .i64 (s 10)) := HS.out.cell 10
      have kS11 : v2.cell? ⟨w.heap.size, 11, none⟩ = some (.int .i64 (s 11)) := HS.out.cell 11
      have kS12 : v2.cell? ⟨w.heap.size, 12, none⟩ = some (.int .i64 (s 12)) := HS.out.cell 12
      have kC0 : v2.cell? ⟨w.heap.size + 1, 0, none⟩ = some (.int .i64 p) := HC.out.cell 0
      have kC1 : v2.cell? ⟨w.heap.size + 1, 1, none⟩ = some (.int .i64 d) := HC.out.cell 1
      have kC2 : v2.cell? ⟨w.heap.size + 1, 2, none⟩ = some (.int .i64 mo) := HC.out.cell 2
      have kC3 : v2.cell? ⟨w.heap.size + 1, 3, none⟩ = some (.int .i64 le) := HC.out.cell 3
      have kC4 : v2.cell? ⟨w.heap.size + 1, 4, none⟩ = some (.bool bw) := HC.out.cell 4
      have kC5 : v2.cell? ⟨w.heap.size + 1, 5, none⟩ = some (.slice RA rn rc) := HC.out.cell 5
      have kT0 : v2.cell? ⟨w.heap.size + 1 + 1, 0, none⟩ = some (.int .u64 x) := HT.out.cell 0
      have kT1 : v2.cell? ⟨w.heap.size + 1 + 1, 1, none⟩ = some (.int .u64 y) := HT.out.cell 1
      have kP0 : v2.cell? ⟨w.heap.size + 1 + 1 + 1, 0, none⟩ = some (.int .i64 i0) := HP.out.cell 0
      have kP1 : v2.cell? ⟨w.heap.size + 1 + 1 + 1, 1, none⟩ = some (.int .i64 i1) := HP.out.cell 1
      have kP2 : v2.cell? ⟨w.heap.size + 1 + 1 + 1, 2, none⟩ = some (.int .i64 fr) := HP.out.cell 2
      have kP3 : v2.cell? ⟨w.heap.size + 1 + 1 + 1, 3, none⟩ = some (.int .i64 to) := HP.out.cell 3
      cases ht
      · go_wp2_with fail
        go_roundw
        case rel => exact ⟨2, q + 1, by omega, by first | rfl | go_num, by first | rfl | go_num, by rw [HQ.out, HOW.out]; simp <;> omega, EE.out, HS.out, HC.out, HT.out, HP.out⟩
        case measure => simp [intOf]
      · go_wp2_with fail
        go_roundw
        case rel => exact ⟨2, q, by omega, by first | rfl | go_num, by first | rfl | go_num, by rw [HQ.out, HOW.out]; simp <;> omega, EE.out, HS.out, HC.out, HT.out, HP.out⟩
        case measure => simp [intOf]
    · have hq' : q = N + on := by simpa using hq
      subst hq'
      clear hq
      obtain ⟨M, hM⟩ : ∃ M, ((N + on : Nat) : Int) * st = M := ⟨_, rfl⟩
      rw [hM] at P0 P1
      have HM := Lib.hid hM
      have hm1 : IntKind.i64.wrap (((N : Int) + (on : Int)) * st) = M := by rw [← hM, Int.natCast_add]; exact IntWalk.i64_in _ (by rw [← Int.natCast_add, hM]; omega)
      have hm1' : IntKind.i64.wrap (((N + on : Nat) : Int) * st) = M := by rw [hM]; exact IntWalk.i64_in _ (by omega)
      have hm2 : IntKind.i64.wrap (e + M) = e + M := IntWalk.i64_in _ (by omega)
      have hm3 : IntKind.i64.wrap (e + M + (rn : Int)) = e + M + rn := IntWalk.i64_in _ (by omega)
      clear hM
      have kS0 : wr.cell? ⟨w.heap.size, 0, none⟩ = some (.int .i64 (s 0)) := HS.out.cell 0
      have kS1 : wr.cell? ⟨w.heap.size, 1, none⟩ = some (.int .i64 (s 1)) := HS.out.cell 1
      have kS2 : wr.cell? ⟨w.heap.size, 2, none⟩ = some (.int .i64 (s 2)) := HS.out.cell 2
      have kS3 : wr.cell? ⟨w.heap.size, 3, none⟩ = some (.int .i64 (s 3)) := HS.out.cell 3
      have kS4 : wr.cell? ⟨w.heap.size, 4, none⟩ = some (.int .i64 s4) := HS.out.cell 4
      have kS5 : wr.cell? ⟨w.heap.size, 5, none⟩ = some (.int .i64 s5) := HS.out.cell 5
      have kS6 : wr.cell? ⟨w.heap.size, 6, none⟩ = some (.int .i64 s6) := HS.out.cell 6
      have kS7 : wr.cell? ⟨w.heap.size, 7, none⟩ = some (.int .i64 s7) := HS.out.cell 7
      have kS8 : wr.cell? ⟨w.heap.size, 8, none⟩ = some (.slice A n c) := HS.out.cell 8
      have kS9 : wr.cell? ⟨w.heap.size, 9, none⟩ = some (.int .i64 (s 9)) := HS.out.cell 9
      have kS10 : wr.cell? ⟨w.heap.size, 10, none⟩ = some (.int .i64 (s 10)) := HS.out.cell 10
      have kS11 : wr.cell? ⟨w.heap.size, 11, none⟩ = some (.int .i64 (s 11)) := HS.out.cell 11
      have kS12 : wr.cell? ⟨w.heap.size, 12, none⟩ = some (.int .i64 (s 12)) := HS.out.cell 12
      have kC0 : wr.cell? ⟨w.heap.size + 1, 0, none⟩ = some (.int .i64 p) := HC.out.cell 0
      have kC1 : wr.cell? ⟨w.heap.size + 1, 1, none⟩ = some (.int .i64 d) := HC.out.cell 1
      have kC2 : wr.cell? ⟨w.heap.size + 1, 2, none⟩ = some (.int .i64 mo) := HC.out.cell 2
      have kC3 : wr.cell? ⟨w.heap.size + 1, 3, none⟩ = some (.int .i64 le) := HC.out.cell 3
      have kC4 : wr.cell? ⟨w.heap.size + 1, 4, none⟩ = some (.bool bw) := HC.out.cell 4
      have kC5 : wr.cell? ⟨w.heap.size + 1, 5, none⟩ = some (.slice RA rn rc) := HC.out.cell 5
      have kT0 : wr.cell? ⟨w.heap.size + 1 + 1, 0, none⟩ = some (.int .u64 x) := HT.out.cell 0
      have kT1 : wr.cell? ⟨w.heap.size + 1 + 1, 1, none⟩ = some (.int .u64 y) := HT.out.cell 1
      have kP0 : wr.cell? ⟨w.heap.size + 1 + 1 + 1, 0, none⟩ = some (.int .i64 i0) := HP.out.cell 0
      have kP1 : wr.cell? ⟨w.heap.size + 1 + 1 + 1, 1, none⟩ = some (.int .i64 i1) := HP.out.cell 1
      have kP2 : wr.cell? ⟨w.heap.size + 1 + 1 + 1, 2, none⟩ = some (.int .i64 fr) := HP.out.cell 2
      have kP3 : wr.cell? ⟨w.heap.size + 1 + 1 + 1, 3, none⟩ = some (.int .i64 to) := HP.out.cell 3
      go_wp2_with fail
      have sK : ∀ X, Blk X (w.heap.size) 25 #[.int .i64 (s 0), .int .i64 (s 1), .int .i64 (s 2), .int .i64 (s 3), .int .i64 s4, .int .i64 s5, .int .i64 s6, .int .i64 s7, .slice A n c, .int .i64 (s 9), .int .i64 (s 10), .int .i64 (s 11), .int .i64 (s 12)] → Blk X (w.heap.size + 1) 36 #[.int .i64 p, .int .i64 d, .int .i64 mo, .int .i64 le, .bool bw, .slice RA rn rc] → Blk X (w.heap.size + 1 + 1) 40 #[.int .u64 x, .int .u64 y] → Blk X (w.heap.size + 1 + 1 + 1) 45 #[.int .i64 i0, .int .i64 i1, .int .i64 fr, .int .i64 to] → (fun X => X.cell? ⟨w.heap.size, 0, none⟩ = some (.int .i64 (s 0)) ∧ X.cell? ⟨w.heap.size, 1, none⟩ = some (.int .i64 (s 1)) ∧ X.cell? ⟨w.heap.size, 2, none⟩ = some (.int .i64 (s 2)) ∧ X.cell? ⟨w.heap.size, 3, none⟩ = some (.int .i64 (s 3)) ∧ X.cell? ⟨w.heap.size, 4, none⟩ = some (.int .i64 s4) ∧ X.cell? ⟨w.heap.size, 5, none⟩ = some (.int .i64 s5) ∧ X.cell? ⟨w.heap.size, 6, none⟩ = some (.int .i64 s6) ∧ X.cell? ⟨w.heap.size, 7, none⟩ = some (.int .i64 s7) ∧ X.cell? ⟨w.heap.size, 8, none⟩ = some (.slice A n c) ∧ X.cell? ⟨w.heap.size, 9, none⟩ = some (.int .i64 (s 9)) ∧ X.cell? ⟨w.heap.size, 10, none⟩ = some (.int .i64 (s 10)) ∧ X.cell? ⟨w.heap.size, 11, none⟩ = some (.int .i64 (s 11)) ∧ X.cell? ⟨w.heap.size, 12, none⟩ = some (.int .i64 (s 12)) ∧ X.cell? ⟨w.heap.size + 1, 0, none⟩ = some (.int .i64 p) ∧ X.cell? ⟨w.heap.size + 1, 1, none⟩ = some (.int .i64 d) ∧ X.cell? ⟨w.heap.size + 1, 2, none⟩ = some (.int .i64 mo) ∧ X.cell? ⟨w.heap.size + 1, 3, none⟩ = some (.int .i64 le) ∧ X.cell? ⟨w.heap.size + 1, 4, none⟩ = some (.bool bw) ∧ X.cell? ⟨w.heap.size + 1, 5, none⟩ = some (.slice RA rn rc) ∧ X.cell? ⟨w.heap.size + 1 + 1, 0, none⟩ = some (.int .u64 x) ∧ X.cell? ⟨w.heap.size + 1 + 1, 1, none⟩ = some (.int .u64 y) ∧ X.cell? ⟨w.heap.size + 1 + 1 + 1, 0, none⟩ = some (.int .i64 i0) ∧ X.cell? ⟨w.heap.size + 1 + 1 + 1, 1, none⟩ = some (.int .i64 i1) ∧ X.cell? ⟨w.heap.size + 1 + 1 + 1, 2, none⟩ = some (.int .i64 fr) ∧ X.cell? ⟨w.heap.size + 1 + 1 + 1, 3, none⟩ = some (.int .i64 to)) X := fun X hS hC hT hP => ⟨hS.cell 0, hS.cell 1, hS.cell 2, hS.cell 3, hS.cell 4, hS.cell 5, hS.cell 6, hS.cell 7, hS.cell 8, hS.cell 9, hS.cell 10, hS.cell 11, hS.cell 12, hC.cell 0, hC.cell 1, hC.cell 2, hC.cell 3, hC.cell 4, hC.cell 5, hT.cell 0, hT.cell 1, hP.cell 0, hP.cell 1, hP.cell 2, hP.cell 3⟩
      have LS0 := Lib.hid (HS.out.drew)
      have LC0 := Lib.hid (HC.out.drew)
      have LT0 := Lib.hid (HT.out.drew)
      have LP0 := Lib.hid (HP.out.drew)
      have E0 := Lib.hid (EE.out.drew)
      clear kS0 kS1 kS2 kS3 kS4 kS5 kS6 kS7 kS8 kS9 kS10 kS11 kS12 kC0 kC1 kC2 kC3 kC4 kC5 kT0 kT1 kP0 kP1 kP2 kP3
      refine wp_region_held_drew (S := (fun X => X.cell? ⟨w.heap.size, 0, none⟩ = some (.int .i64 (s 0)) ∧ X.cell? ⟨w.heap.size, 1, none⟩ = some (.int .i64 (s 1)) ∧ X.cell? ⟨w.heap.size, 2, none⟩ = some (.int .i64 (s 2)) ∧ X.cell? ⟨w.heap.size, 3, none⟩ = some (.int .i64 (s 3)) ∧ X.cell? ⟨w.heap.size, 4, none⟩ = some (.int .i64 s4) ∧ X.cell? ⟨w.heap.size, 5, none⟩ = some (.int .i64 s5) ∧ X.cell? ⟨w.heap.size, 6, none⟩ = some (.int .i64 s6) ∧ X.cell? ⟨w.heap.size, 7, none⟩ = some (.int .i64 s7) ∧ X.cell? ⟨w.heap.size, 8, none⟩ = some (.slice A n c) ∧ X.cell? ⟨w.heap.size, 9, none⟩ = some (.int .i64 (s 9)) ∧ X.cell? ⟨w.heap.size, 10, none⟩ = some (.int .i64 (s 10)) ∧ X.cell? ⟨w.heap.size, 11, none⟩ = some (.int .i64 (s 11)) ∧ X.cell? ⟨w.heap.size, 12, none⟩ = some (.int .i64 (s 12)) ∧ X.cell? ⟨w.heap.size + 1, 0, none⟩ = some (.int .i64 p) ∧ X.cell? ⟨w.heap.size + 1, 1, none⟩ = some (.int .i64 d) ∧ X.cell? ⟨w.heap.size + 1, 2, none⟩ = some (.int .i64 mo) ∧ X.cell? ⟨w.heap.size + 1, 3, none⟩ = some (.int .i64 le) ∧ X.cell? ⟨w.heap.size + 1, 4, none⟩ = some (.bool bw) ∧ X.cell? ⟨w.heap.size + 1, 5, none⟩ = some (.slice RA rn rc) ∧ X.cell? ⟨w.heap.size + 1 + 1, 0, none⟩ = some (.int .u64 x) ∧ X.cell? ⟨w.heap.size + 1 + 1, 1, none⟩ = some (.int .u64 y) ∧ X.cell? ⟨w.heap.size + 1 + 1 + 1, 0, none⟩ = some (.int .i64 i0) ∧ X.cell? ⟨w.heap.size + 1 + 1 + 1, 1, none⟩ = some (.int .i64 i1) ∧ X.cell? ⟨w.heap.size + 1 + 1 + 1, 2, none⟩ = some (.int .i64 fr) ∧ X.cell? ⟨w.heap.size + 1 + 1 + 1, 3, none⟩ = some (.int .i64 to))) (by kernel_rfl) (sK _ LS0.out LC0.out LT0.out LP0.out) (fun hHeld => ?_)
      clear hHeld
      refine wpAnyH_take (i := 0) (v := ?_) rfl (by kernel_rfl) (by kernel_rfl) (by kernel_rfl) (fun _ _ _ h => h) (Or.inl ⟨by rfl, ?_⟩) (sK _ LS0.out LC0.out LT0.out LP0.out) ?_
      rotate_left
      · (intro wS hSw; (try dsimp only at hSw); go_simp; try with_reducible rfl)
      simp only [Act.put, List.getElem_toArray, List.getElem_cons_zero, List.getElem_cons_succ, List.setIfInBounds_toArray, List.set_cons_zero, List.set_cons_succ]
      refine wpAnyH_take (i := 1) (v := ?_) rfl (by kernel_rfl) (by kernel_rfl) (by kernel_rfl) (fun _ _ _ h => h) (Or.inl ⟨by rfl, ?_⟩) (sK _ LS0.out LC0.out LT0.out LP0.out) ?_
      rotate_left
      · (intro wS hSw; (try dsimp only at hSw); go_simp; try with_reducible rfl)
      simp only [Act.put, List.getElem_toArray, List.getElem_cons_zero, List.getElem_cons_succ, List.setIfInBounds_toArray, List.set_cons_zero, List.set_cons_succ]
      refine wpAnyH_take (i := 2) (v := ?_) rfl (by kernel_rfl) (by kernel_rfl) (by kernel_rfl) (fun _ _ _ h => h) (Or.inl ⟨by rfl, ?_⟩) (sK _ LS0.out LC0.out LT0.out LP0.out) ?_
      rotate_left
      · (intro wS hSw; (try dsimp only at hSw); go_simp; try with_reducible rfl)
      simp only [Act.put, List.getElem_toArray, List.getElem_cons_zero, List.getElem_cons_succ, List.setIfInBounds_toArray, List.set_cons_zero, List.set_cons_succ]
      refine wpAnyH_take (i := 3) (v := ?_) rfl (by kernel_rfl) (by kernel_rfl) (by kernel_rfl) (fun _ _ _ h => h) (Or.inl ⟨by rfl, ?_⟩) (sK _ LS0.out LC0.out LT0.out LP0.out) ?_
      rotate_left
      · (intro wS hSw; (try dsimp only at hSw); go_simp; try with_reducible rfl)
      simp only [Act.put, List.getElem_toArray, List.getElem_cons_zero, List.getElem_cons_succ, List.setIfInBounds_toArray, List.set_cons_zero, List.set_cons_succ]
      refine wpAnyH_take (i := 4) (v := ?_) rfl (by kernel_rfl) (by kernel_rfl) (by kernel_rfl) (fun _ _ _ h => h) (Or.inl ⟨by rfl, ?_⟩) (sK _ LS0.out LC0.out LT0.out LP0.out) ?_
      rotate_left
      · (intro wS hSw; (try dsimp only at hSw); go_simp; try with_reducible rfl)
      simp only [Act.put, List.getElem_toArray, List.getElem_cons_zero, List.getElem_cons_succ, List.setIfInBounds_toArray, List.set_cons_zero, List.set_cons_succ]
      refine wpAnyH_take (i := 5) (v := ?_) rfl (by kernel_rfl) (by kernel_rfl) (by kernel_rfl) (fun _ _ _ h => h) (Or.inl ⟨by rfl, ?_⟩) (sK _ LS0.out LC0.out LT0.out LP0.out) ?_
      rotate_left
      · (intro wS hSw; (try dsimp only at hSw); go_simp; try with_reducible rfl)
      simp only [Act.put, List.getElem_toArray, List.getElem_cons_zero, List.getElem_cons_succ, List.setIfInBounds_toArray, List.set_cons_zero, List.set_cons_succ]
      refine wpAnyH_take (i := 6) (v := ?_) rfl (by kernel_rfl) (by kernel_rfl) (by kernel_rfl) (fun _ _ _ h => h) (Or.inl ⟨by rfl, ?_⟩) (sK _ LS0.out LC0.out LT0.out LP0.out) ?_
      rotate_left
      · (intro wS hSw; (try dsimp only at hSw); go_simp; try with_reducible rfl)
      simp only [Act.put, List.getElem_toArray, List.getElem_cons_zero, List.getElem_cons_succ, List.setIfInBounds_toArray, List.set_cons_zero, List.set_cons_succ]
      refine wpAnyH_take (i := 7) (v := ?_) rfl (by kernel_rfl) (by kernel_rfl) (by kernel_rfl) (fun _ _ _ h => h) (Or.inl ⟨by rfl, ?_⟩) (sK _ LS0.out LC0.out LT0.out LP0.out) ?_
      rotate_left
      · (intro wS hSw; (try dsimp only at hSw); go_simp; try with_reducible rfl)
      simp only [Act.put, List.getElem_toArray, List.getElem_cons_zero, List.getElem_cons_succ, List.setIfInBounds_toArray, List.set_cons_zero, List.set_cons_succ]
      refine wpAnyH_take (i := 8) (v := ?_) rfl (by kernel_rfl) (by kernel_rfl) (by kernel_rfl) (fun _ _ _ h => h) (Or.inl ⟨by rfl, ?_⟩) (sK _ LS0.out LC0.out LT0.out LP0.out) ?_
      rotate_left
      · (intro wS hSw; (try dsimp only at hSw); go_simp; try with_reducible rfl)
      simp only [Act.put, List.getElem_toArray, List.getElem_cons_zero, List.getElem_cons_succ, List.setIfInBounds_toArray, List.set_cons_zero, List.set_cons_succ]
      refine wpAnyH_ready (rs := [9]) (by kernel_rfl) (by simp) ?_
      refine AllReadyH.cons rfl (fun K hK => ?_) AllReadyH.nil
      go_simp
      refine (JD.out _).mono ?_
      rintro e r1 ⟨rfl, hb⟩
      have LS1 := Lib.hid (Blk.next (w := wr.drew) LS0.out hb)
      have LC1 := Lib.hid (Blk.next (w := wr.drew) LC0.out hb)
      have LT1 := Lib.hid (Blk.next (w := wr.drew) LT0.out hb)
      have LP1 := Lib.hid (Blk.next (w := wr.drew) LP0.out hb)
      have E1 := Lib.hid (E0.out.trans (hb.mono E0.out.size))
      clear hb
      go_wp2_with fail
      refine hK.out _ _ (sK _ LS1.out LC1.out LT1.out LP1.out) (fun hHeld => ?_)
      clear hK K hHeld
      try simp only [Act.put, List.getElem_toArray, List.getElem_cons_zero, List.getElem_cons_succ, List.setIfInBounds_toArray, List.set_cons_zero, List.set_cons_succ]
      refine wpAnyH_ready (rs := [10]) (by kernel_rfl) (by simp) ?_
      refine AllReadyH.cons rfl (fun K hK => ?_) AllReadyH.nil
      go_simp
      refine (JO.out _ (JT.out.kept E1.out)).mono ?_
      rintro e r2 ⟨rfl, hb⟩
      have LS2 := Lib.hid (Blk.next (w := r1) LS1.out hb)
      have LC2 := Lib.hid (Blk.next (w := r1) LC1.out hb)
      have LT2 := Lib.hid (Blk.next (w := r1) LT1.out hb)
      have LP2 := Lib.hid (Blk.next (w := r1) LP1.out hb)
      have E2 := Lib.hid (E1.out.trans (hb.mono E1.out.size))
      clear hb
      go_wp2_with fail
      refine hK.out _ _ (sK _ LS2.out LC2.out LT2.out LP2.out) (fun hHeld => ?_)
      clear hK K hHeld
      try simp only [Act.put, List.getElem_toArray, List.getElem_cons_zero, List.getElem_cons_succ, List.setIfInBounds_toArray, List.set_cons_zero, List.set_cons_succ]
      refine wpAnyH_take (i := 11) (v := ?_) rfl (by kernel_rfl) (by kernel_rfl) (by kernel_rfl) (fun _ _ _ h => h) (Or.inl ⟨by rfl, ?_⟩) (sK _ LS2.out LC2.out LT2.out LP2.out) ?_
      rotate_left
      · (intro wS hSw; (try dsimp only at hSw); go_simp; try with_reducible rfl)
      simp only [Act.put, List.getElem_toArray, List.getElem_cons_zero, List.getElem_cons_succ, List.setIfInBounds_toArray, List.set_cons_zero, List.set_cons_succ]
      refine wpAnyH_done (by kernel_rfl) ?_ _
      have HS := LS2
      have HC := LC2
      have HT := LT2
      have HP := LP2
      have EE := E2
      have kS0 : r2.cell? ⟨w.heap.size, 0, none⟩ = some (.int .i64 (s 0)) := HS.out.cell 0
      have kS1 : r2.cell? ⟨w.heap.size, 1, none⟩ = some (.int .i64 (s 1)) := HS.out.cell 1
      have kS2 : r2.cell? ⟨w.heap.size, 2, none⟩ = some (.int .i64 (s 2)) := HS.out.cell 2
      have kS3 : r2.cell? ⟨w.heap.size, 3, none⟩ = some (.int .i64 (s 3)) := HS.out.cell 3
      have kS4 : r2.cell? ⟨w.heap.size, 4, none⟩ = some (.int .i64 s4) := HS.out.cell 4
      have kS5 : r2.cell? ⟨w.heap.size, 5, none⟩ = some (.int .i64 s5) := HS.out.cell 5
      have kS6 : r2.cell? ⟨w.heap.size, 6, none⟩ = some (.int .i64 s6) := HS.out.cell 6
      have kS7 : r2.cell? ⟨w.heap.size, 7, none⟩ = some (.int .i64 s7) := HS.out.cell 7
      have kS8 : r2.cell? ⟨w.heap.size, 8, none⟩ = some (.slice A n c) := HS.out.cell 8
      have kS9 : r2.cell? ⟨w.heap.size, 9, none⟩ = some (.int .i64 (s 9)) := HS.out.cell 9
      have kS10 : r2.cell? ⟨w.heap.size, 10, none⟩ = some (.int .i64 (s 10)) := HS.out.cell 10
      have kS11 : r2.cell? ⟨w.heap.size, 11, none⟩ = some (.int .i64 (s 11)) := HS.out.cell 11
      have kS12 : r2.cell? ⟨w.heap.size, 12, none⟩ = some (.int .i64 (s 12)) := HS.out.cell 12
      have kC0 : r2.cell? ⟨w.heap.size + 1, 0, none⟩ = some (.int .i64 p) := HC.out.cell 0
      have kC1 : r2.cell? ⟨w.heap.size + 1, 1, none⟩ = some (.int .i64 d) := HC.out.cell 1
      have kC2 : r2.cell? ⟨w.heap.size + 1, 2, none⟩ = some (.int .i64 mo) := HC.out.cell 2
      have kC3 : r2.cell? ⟨w.heap.size + 1, 3, none⟩ = some (.int .i64 le) := HC.out.cell 3
      have kC4 : r2.cell? ⟨w.heap.size + 1, 4, none⟩ = some (.bool bw) := HC.out.cell 4
      have kC5 : r2.cell? ⟨w.heap.size + 1, 5, none⟩ = some (.slice RA rn rc) := HC.out.cell 5
      have kT0 : r2.cell? ⟨w.heap.size + 1 + 1, 0, none⟩ = some (.int .u64 x) := HT.out.cell 0
      have kT1 : r2.cell? ⟨w.heap.size + 1 + 1, 1, none⟩ = some (.int .u64 y) := HT.out.cell 1
      have kP0 : r2.cell? ⟨w.heap.size + 1 + 1 + 1, 0, none⟩ = some (.int .i64 i0) := HP.out.cell 0
      have kP1 : r2.cell? ⟨w.heap.size + 1 + 1 + 1, 1, none⟩ = some (.int .i64 i1) := HP.out.cell 1
      have kP2 : r2.cell? ⟨w.heap.size + 1 + 1 + 1, 2, none⟩ = some (.int .i64 fr) := HP.out.cell 2
      have kP3 : r2.cell? ⟨w.heap.size + 1 + 1 + 1, 3, none⟩ = some (.int .i64 to) := HP.out.cell 3
      go_wp2_with fail
      have sK : ∀ X, Blk X (w.heap.size) 25 #[.int .i64 (s 0), .int .i64 (s 1), .int .i64 (s 2), .int .i64 (s 3), .int .i64 s4, .int .i64 s5, .int .i64 s6, .int .i64 s7, .slice A n c, .int .i64 (s 9), .int .i64 (s 10), .int .i64 (s 11), .int .i64 (s 12)] → Blk X (w.heap.size + 1) 36 #[.int .i64 p, .int .i64 d, .int .i64 mo, .int .i64 le, .bool bw, .slice RA rn rc] → Blk X (w.heap.size + 1 + 1) 40 #[.int .u64 x, .int .u64 y] → Blk X (w.heap.size + 1 + 1 + 1) 45 #[.int .i64 i0, .int .i64 i1, .int .i64 fr, .int .i64 to] → (fun X => X.cell? ⟨w.heap.size, 0, none⟩ = some (.int .i64 (s 0)) ∧ X.cell? ⟨w.heap.size, 1, none⟩ = some (.int .i64 (s 1)) ∧ X.cell? ⟨w.heap.size, 2, none⟩ = some (.int .i64 (s 2)) ∧ X.cell? ⟨w.heap.size, 3, none⟩ = some (.int .i64 (s 3)) ∧ X.cell? ⟨w.heap.size, 4, none⟩ = some (.int .i64 s4) ∧ X.cell? ⟨w.heap.size, 5, none⟩ = some (.int .i64 s5) ∧ X.cell? ⟨w.heap.size, 6, none⟩ = some (.int .i64 s6) ∧ X.cell? ⟨w.heap.size, 7, none⟩ = some (.int .i64 s7) ∧ X.cell? ⟨w.heap.size, 8, none⟩ = some (.slice A n c) ∧ X.cell? ⟨w.heap.size, 9, none⟩ = some (.int .i64 (s 9)) ∧ X.cell? ⟨w.heap.size, 10, none⟩ = some (.int .i64 (s 10)) ∧ X.cell? ⟨w.heap.size, 11, none⟩ = some (.int .i64 (s 11)) ∧ X.cell? ⟨w.heap.size, 12, none⟩ = some (.int .i64 (s 12)) ∧ X.cell? ⟨w.heap.size + 1, 0, none⟩ = some (.int .i64 p) ∧ X.cell? ⟨w.heap.size + 1, 1, none⟩ = some (.int .i64 d) ∧ X.cell? ⟨w.heap.size + 1, 2, none⟩ = some (.int .i64 mo) ∧ X.cell? ⟨w.heap.size + 1, 3, none⟩ = some (.int .i64 le) ∧ X.cell? ⟨w.heap.size + 1, 4, none⟩ = some (.bool bw) ∧ X.cell? ⟨w.heap.size + 1, 5, none⟩ = some (.slice RA rn rc) ∧ X.cell? ⟨w.heap.size + 1 + 1, 0, none⟩ = some (.int .u64 x) ∧ X.cell? ⟨w.heap.size + 1 + 1, 1, none⟩ = some (.int .u64 y) ∧ X.cell? ⟨w.heap.size + 1 + 1 + 1, 0, none⟩ = some (.int .i64 i0) ∧ X.cell? ⟨w.heap.size + 1 + 1 + 1, 1, none⟩ = some (.int .i64 i1) ∧ X.cell? ⟨w.heap.size + 1 + 1 + 1, 2, none⟩ = some (.int .i64 fr) ∧ X.cell? ⟨w.heap.size + 1 + 1 + 1, 3, none⟩ = some (.int .i64 to)) X := fun X hS hC hT hP => ⟨hS.cell 0, hS.cell 1, hS.cell 2, hS.cell 3, hS.cell 4, hS.cell 5, hS.cell 6, hS.cell 7, hS.cell 8, hS.cell 9, hS.cell 10, hS.cell 11, hS.cell 12, hC.cell 0, hC.cell 1, hC.cell 2, hC.cell 3, hC.cell 4, hC.cell 5, hT.cell 0, hT.cell 1, hP.cell 0, hP.cell 1, hP.cell 2, hP.cell 3⟩
      have LS0 := Lib.hid (HS.out.drew)
      have LC0 := Lib.hid (HC.out.drew)
      have LT0 := Lib.hid (HT.out.drew)
      have LP0 := Lib.hid (HP.out.drew)
      have E0 := Lib.hid (EE.out.drew)
      clear kS0 kS1 kS2 kS3 kS4 kS5 kS6 kS7 kS8 kS9 kS10 kS11 kS12 kC0 kC1 kC2 kC3 kC4 kC5 kT0 kT1 kP0 kP1 kP2 kP3
      refine wp_region_held_drew (S := (fun X => X.cell? ⟨w.heap.size, 0, none⟩ = some (.int .i64 (s 0)) ∧ X.cell? ⟨w.heap.size, 1, none⟩ = some (.int .i64 (s 1)) ∧ X.cell? ⟨w.heap.size, 2, none⟩ = some (.int .i64 (s 2)) ∧ X.cell? ⟨w.heap.size, 3, none⟩ = some (.int .i64 (s 3)) ∧ X.cell? ⟨w.heap.size, 4, none⟩ = some (.int .i64 s4) ∧ X.cell? ⟨w.heap.size, 5, none⟩ = some (.int .i64 s5) ∧ X.cell? ⟨w.heap.size, 6, none⟩ = some (.int .i64 s6) ∧ X.cell? ⟨w.heap.size, 7, none⟩ = some (.int .i64 s7) ∧ X.cell? ⟨w.heap.size, 8, none⟩ = some (.slice A n c) ∧ X.cell? ⟨w.heap.size, 9, none⟩ = some (.int .i64 (s 9)) ∧ X.cell? ⟨w.heap.size, 10, none⟩ = some (.int .i64 (s 10)) ∧ X.cell? ⟨w.heap.size, 11, none⟩ = some (.int .i64 (s 11)) ∧ X.cell? ⟨w.heap.size, 12, none⟩ = some (.int .i64 (s 12)) ∧ X.cell? ⟨w.heap.size + 1, 0, none⟩ = some (.int .i64 p) ∧ X.cell? ⟨w.heap.size + 1, 1, none⟩ = some (.int .i64 d) ∧ X.cell? ⟨w.heap.size + 1, 2, none⟩ = some (.int .i64 mo) ∧ X.cell? ⟨w.heap.size + 1, 3, none⟩ = some (.int .i64 le) ∧ X.cell? ⟨w.heap.size + 1, 4, none⟩ = some (.bool bw) ∧ X.cell? ⟨w.heap.size + 1, 5, none⟩ = some (.slice RA rn rc) ∧ X.cell? ⟨w.heap.size + 1 + 1, 0, none⟩ = some (.int .u64 x) ∧ X.cell? ⟨w.heap.size + 1 + 1, 1, none⟩ = some (.int .u64 y) ∧ X.cell? ⟨w.heap.size + 1 + 1 + 1, 0, none⟩ = some (.int .i64 i0) ∧ X.cell? ⟨w.heap.size + 1 + 1 + 1, 1, none⟩ = some (.int .i64 i1) ∧ X.cell? ⟨w.heap.size + 1 + 1 + 1, 2, none⟩ = some (.int .i64 fr) ∧ X.cell? ⟨w.heap.size + 1 + 1 + 1, 3, none⟩ = some (.int .i64 to))) (by kernel_rfl) (sK _ LS0.out LC0.out LT0.out LP0.out) (fun hHeld => ?_)
      clear hHeld
      refine wpAnyH_take (i := 0) (v := ?_) rfl (by kernel_rfl) (by kernel_rfl) (by kernel_rfl) (fun _ _ _ h => h) (Or.inl ⟨by rfl, ?_⟩) (sK _ LS0.out LC0.out LT0.out LP0.out) ?_
      rotate_left
      · (intro wS hSw; (try dsimp only at hSw); go_simp; try with_reducible rfl)
      simp only [Act.put, List.getElem_toArray, List.getElem_cons_zero, List.getElem_cons_succ, List.setIfInBounds_toArray, List.set_cons_zero, List.set_cons_succ]
      refine wpAnyH_take (i := 1) (v := ?_) rfl (by kernel_rfl) (by kernel_rfl) (by kernel_rfl) (fun _ _ _ h => h) (Or.inl ⟨by rfl, ?_⟩) (sK _ LS0.out LC0.out LT0.out LP0.out) ?_
      rotate_left
      · (intro wS hSw; (try dsimp only at hSw); go_simp; try with_reducible rfl)
      simp only [Act.put, List.getElem_toArray, List.getElem_cons_zero, List.getElem_cons_succ, List.setIfInBounds_toArray, List.set_cons_zero, List.set_cons_succ]
      refine wpAnyH_take (i := 2) (v := ?_) rfl (by kernel_rfl) (by kernel_rfl) (by kernel_rfl) (fun _ _ _ h => h) (Or.inl ⟨by rfl, ?_⟩) (sK _ LS0.out LC0.out LT0.out LP0.out) ?_
      rotate_left
      · (intro wS hSw; (try dsimp only at hSw); go_simp; try with_reducible rfl)
      simp only [Act.put, List.getElem_toArray, List.getElem_cons_zero, List.getElem_cons_succ, List.setIfInBounds_toArray, List.set_cons_zero, List.set_cons_succ]
      refine wpAnyH_take (i := 6) (v := ?_) rfl (by kernel_rfl) (by kernel_rfl) (by kernel_rfl) (fun _ _ _ h => h) (Or.inl ⟨by rfl, ?_⟩) (sK _ LS0.out LC0.out LT0.out LP0.out) ?_
      rotate_left
      · (intro wS hSw; (try dsimp only at hSw); go_simp; try with_reducible rfl)
      simp only [Act.put, List.getElem_toArray, List.getElem_cons_zero, List.getElem_cons_succ, List.setIfInBounds_toArray, List.set_cons_zero, List.set_cons_succ]
      refine wpAnyH_take (i := 7) (v := ?_) rfl (by kernel_rfl) (by kernel_rfl) (by kernel_rfl) (fun _ _ _ h => h) (Or.inl ⟨by rfl, ?_⟩) (sK _ LS0.out LC0.out LT0.out LP0.out) ?_
      rotate_left
      · (intro wS hSw; (try dsimp only at hSw); go_simp; try with_reducible rfl)
      simp only [Act.put, List.getElem_toArray, List.getElem_cons_zero, List.getElem_cons_succ, List.setIfInBounds_toArray, List.set_cons_zero, List.set_cons_succ]
      refine wpAnyH_take (i := 8) (v := ?_) rfl (by kernel_rfl) (by kernel_rfl) (by kernel_rfl) (fun _ _ _ h => h) (Or.inl ⟨by rfl, ?_⟩) (sK _ LS0.out LC0.out LT0.out LP0.out) ?_
      rotate_left
      · (intro wS hSw; (try dsimp only at hSw); go_simp; try with_reducible rfl)
      simp only [Act.put, List.getElem_toArray, List.getElem_cons_zero, List.getElem_cons_succ, List.setIfInBounds_toArray, List.set_cons_zero, List.set_cons_succ]
      refine wpAnyH_ready (rs := [3]) (by kernel_rfl) (by simp) ?_
      refine AllReadyH.cons rfl (fun K hK => ?_) AllReadyH.nil
      go_simp
      refine (JS.out _).mono ?_
      rintro e r1 ⟨rfl, hb⟩
      have LS1 := Lib.hid (Blk.next (w := r2.drew) LS0.out hb)
      have LC1 := Lib.hid (Blk.next (w := r2.drew) LC0.out hb)
      have LT1 := Lib.hid (Blk.next (w := r2.drew) LT0.out hb)
      have LP1 := Lib.hid (Blk.next (w := r2.drew) LP0.out hb)
      have E1 := Lib.hid (E0.out.trans (hb.mono E0.out.size))
      clear hb
      go_wp2_with fail
      refine hK.out _ _ (sK _ LS1.out LC1.out LT1.out LP1.out) (fun hHeld => ?_)
      clear hK K hHeld
      try simp only [Act.put, List.getElem_toArray, List.getElem_cons_zero, List.getElem_cons_succ, List.setIfInBounds_toArray, List.set_cons_zero, List.set_cons_succ]
      refine wpAnyH_take (i := 4) (v := ?_) rfl (by kernel_rfl) (by kernel_rfl) (by kernel_rfl) (fun _ _ _ h => h) (Or.inl ⟨by rfl, ?_⟩) (sK _ LS1.out LC1.out LT1.out LP1.out) ?_
      rotate_left
      · (intro wS hSw; (try dsimp only at hSw); go_simp; try with_reducible rfl)
      simp only [Act.put, List.getElem_toArray, List.getElem_cons_zero, List.getElem_cons_succ, List.setIfInBounds_toArray, List.set_cons_zero, List.set_cons_succ]
      refine wpAnyH_take (i := 5) (v := ?_) rfl (by kernel_rfl) (by kernel_rfl) (by kernel_rfl) (fun _ _ _ h => h) (Or.inl ⟨by rfl, ?_⟩) (sK _ LS1.out LC1.out LT1.out LP1.out) ?_
      rotate_left
      · (intro wS hSw; (try dsimp only at hSw); go_simp; try with_reducible rfl)
      simp only [Act.put, List.getElem_toArray, List.getElem_cons_zero, List.getElem_cons_succ, List.setIfInBounds_toArray, List.set_cons_zero, List.set_cons_succ]
      refine wpAnyH_take (i := 9) (v := ?_) rfl (by kernel_rfl) (by kernel_rfl) (by kernel_rfl) (fun _ _ _ h => h) (Or.inl ⟨by rfl, ?_⟩) (sK _ LS1.out LC1.out LT1.out LP1.out) ?_
      rotate_left
      · (intro wS hSw; (try dsimp only at hSw); go_simp; try with_reducible rfl)
      simp only [Act.put, List.getElem_toArray, List.getElem_cons_zero, List.getElem_cons_succ, List.setIfInBounds_toArray, List.set_cons_zero, List.set_cons_succ]
      refine wpAnyH_take (i := 10) (v := ?_) rfl (by kernel_rfl) (by kernel_rfl) (by kernel_rfl) (fun _ _ _ h => h) (Or.inl ⟨by rfl, ?_⟩) (sK _ LS1.out LC1.out LT1.out LP1.out) ?_
      rotate_left
      · (intro wS hSw; (try dsimp only at hSw); go_simp; try with_reducible rfl)
      simp only [Act.put, List.getElem_toArray, List.getElem_cons_zero, List.getElem_cons_succ, List.setIfInBounds_toArray, List.set_cons_zero, List.set_cons_succ]
      refine wpAnyH_done (by kernel_rfl) ?_ _
      go_wp2_with fail
      try go_ret
      exact ⟨nret (by rw [HM.out]), E1.out⟩
set_option maxRecDepth 100000 in
set_option maxHeartbeats 8000000 in
theorem lcost_any (s : Nat → Int) (A : Option Addr) (n c : Nat) (p d mo le : Int) (bw : Bool) (RA : Option Addr) (rn rc : Nat) (F : Nat → Bool) (i0 i1 fr to e : Int) (w : World) (hN : InN s) (hrn : rn ≤ 64) (e0 : 0 ≤ e) (e1 : e ≤ 1048576)
    (hO : ∀ w, Calls Tryd.prog 10 #[scnV s A n c, carV p d mo le bw (.slice RA rn rc), setV F, .int .i64 fr, .int .i64 (cmpI to fr)] w fun e' w' => e' = .returned (.int .i64 e) ∧ Below w.heap.size w w') :
    Calls Tryd.prog 14 #[scnV s A n c, carV p d mo le bw (.slice RA rn rc), setV F, .agg #[.int .i64 i0, .int .i64 i1, .int .i64 fr, .int .i64 to]] w fun e' w' => e' = .returned (.int .i64 (aimV e (s 4 + s 7 + s 5 + s 6) F fr to rn)) ∧ Below w.heap.size w w' := by
  have KB := fun w => rbetween_any F fr to w
  have KH := fun f w => rhas_any F f w
  have KS := fun w => bstop_any s A n c w hN.h4 hN.h5 hN.h6 hN.h7
  have KD := fun w => rdir_b fr to w
  obtain ⟨h40, h41⟩ := hN.h4; obtain ⟨h50, h51⟩ := hN.h5; obtain ⟨h60, h61⟩ := hN.h6; obtain ⟨h70, h71⟩ := hN.h7
  unfold aimV
  have nb : btP fr to (itL F 128) ≤ 128 := Nat.le_trans (btP_le _ _ _) (itL_len F 128)
  obtain ⟨N, hNN⟩ : ∃ N, btP fr to (itL F 128) = N := ⟨_, rfl⟩
  rw [hNN] at KB nb ⊢
  obtain ⟨u, hu⟩ : ∃ u, cmpI to fr = u := ⟨_, rfl⟩
  rw [hu] at KD hO
  have OW : ownN F fr to = (if hasF F fr then 0 else 1) + (if hasF F to then 0 else 1) := rfl
  obtain ⟨on, hon⟩ : ∃ m, ownN F fr to = m := ⟨_, rfl⟩
  rw [hon] at OW ⊢
  obtain ⟨hf, hhf⟩ : ∃ b, hasF F fr = b := ⟨_, rfl⟩
  obtain ⟨ht, hht⟩ : ∃ b, hasF F to = b := ⟨_, rfl⟩
  have KH1 := fun w => KH fr w
  have KH2 := fun w => KH to w
  rw [hhf] at KH1 OW
  rw [hht] at KH2 OW
  clear KH
  unfold setV scnV carV at *
  obtain ⟨x, hx⟩ : ∃ x, wordX F = x := ⟨_, rfl⟩
  obtain ⟨y, hy⟩ : ∃ y, wordY F = y := ⟨_, rfl⟩
  simp only [hx, hy] at KB KH1 KH2 hO ⊢
  obtain ⟨s4, e4⟩ : ∃ z, s 4 = z := ⟨_, rfl⟩
  obtain ⟨s5, e5⟩ : ∃ z, s 5 = z := ⟨_, rfl⟩
  obtain ⟨s6, e6⟩ : ∃ z, s 6 = z := ⟨_, rfl⟩
  obtain ⟨s7, e7⟩ : ∃ z, s 7 = z := ⟨_, rfl⟩
  rw [e4] at h40 h41; rw [e5] at h50 h51; rw [e6] at h60 h61; rw [e7] at h70 h71
  simp only [e4, e5, e6, e7] at KS hO ⊢
  obtain ⟨st, hst⟩ : ∃ z, s4 + s7 + s5 + s6 = z := ⟨_, rfl⟩
  rw [hst] at KS ⊢
  have st0 : 4 ≤ st ∧ st ≤ 256 := by omega
  have on2 : on ≤ 2 := by rw [OW]; cases hf <;> cases ht <;> simp
  have P0 : 0 ≤ ((N + on : Nat) : Int) * st := Int.mul_nonneg (by omega) (by omega)
  have P1 : ((N + on : Nat) : Int) * st ≤ 130 * 256 := Int.mul_le_mul (by omega) (by omega) (by omega) (by omega)
  have Q0 : 0 ≤ st * (N : Int) := Int.mul_nonneg (by omega) (by omega)
  have Q1 : st * (N : Int) ≤ 256 * 128 := Int.mul_le_mul (by omega) (by omega) (by omega) (by omega)
  have JB := Lib.hid KB; have JH1 := Lib.hid KH1; have JH2 := Lib.hid KH2; have JS := Lib.hid KS; have JD := Lib.hid KD; have JO := Lib.hid hO
  have hs1 : IntKind.i64.wrap (s4 + s7) = s4 + s7 := IntWalk.i64_in _ (by omega)
  have hs2 : IntKind.i64.wrap (s4 + s7 + s5) = s4 + s7 + s5 := IntWalk.i64_in _ (by omega)
  have hs3 : IntKind.i64.wrap (s4 + s7 + s5 + s6) = st := by rw [hst]; exact IntWalk.i64_in _ (by omega)
  have HOW := Lib.hid OW
  
  clear KB KH1 KH2 KS KD hO hNN hu hon hhf hht hx hy e4 e5 e6 e7 OW hst hN
  go_enter Tryd.func14, Tryd.ntmps14
  go_wp2_with fail
  have BS := (((Blk.new w #[.int .i64 (s 0), .int .i64 (s 1), .int .i64 (s 2), .int .i64 (s 3), .int .i64 s4, .int .i64 s5, .int .i64 s6, .int .i64 s7, .slice A n c, .int .i64 (s 9), .int .i64 (s 10), .int .i64 (s 11), .int .i64 (s 12)] 25).alloc (.cells #[.int .i64 p, .int .i64 d, .int .i64 mo, .int .i64 le, .bool bw, .slice RA rn rc] 36)).alloc (.cells #[.int .u64 x, .int .u64 y] 40)).alloc (.cells #[.int .i64 i0, .int .i64 i1, .int .i64 fr, .int .i64 to] 45)
  have BC := ((Blk.new (w.alloc (.cells #[.int .i64 (s 0), .int .i64 (s 1), .int .i64 (s 2), .int .i64 (s 3), .int .i64 s4, .int .i64 s5, .int .i64 s6, .int .i64 s7, .slice A n c, .int .i64 (s 9), .int .i64 (s 10), .int .i64 (s 11), .int .i64 (s 12)] 25)) #[.int .i64 p, .int .i64 d, .int .i64 mo, .int .i64 le, .bool bw, .slice RA rn rc] 36).alloc (.cells #[.int .u64 x, .int .u64 y] 40)).alloc (.cells #[.int .i64 i0, .int .i64 i1, .int .i64 fr, .int .i64 to] 45)
  rw [World.size_alloc] at BC
  have BT := (Blk.new ((w.alloc (.cells #[.int .i64 (s 0), .int .i64 (s 1), .int .i64 (s 2), .int .i64 (s 3), .int .i64 s4, .int .i64 s5, .int .i64 s6, .int .i64 s7, .slice A n c, .int .i64 (s 9), .int .i64 (s 10), .int .i64 (s 11), .int .i64 (s 12)] 25)).alloc (.cells #[.int .i64 p, .int .i64 d, .int .i64 mo, .int .i64 le, .bool bw, .slice RA rn rc] 36)) #[.int .u64 x, .int .u64 y] 40).alloc (.cells #[.int .i64 i0, .int .i64 i1, .int .i64 fr, .int .i64 to] 45)
  rw [World.size_alloc, World.size_alloc] at BT
  have BP := Blk.new (((w.alloc (.cells #[.int .i64 (s 0), .int .i64 (s 1), .int .i64 (s 2), .int .i64 (s 3), .int .i64 s4, .int .i64 s5, .int .i64 s6, .int .i64 s7, .slice A n c, .int .i64 (s 9), .int .i64 (s 10), .int .i64 (s 11), .int .i64 (s 12)] 25)).alloc (.cells #[.int .i64 p, .int .i64 d, .int .i64 mo, .int .i64 le, .bool bw, .slice RA rn rc] 36)).alloc (.cells #[.int .u64 x, .int .u64 y] 40)) #[.int .i64 i0, .int .i64 i1, .int .i64 fr, .int .i64 to] 45
  rw [World.size_alloc, World.size_alloc, World.size_alloc] at BP
  have BE : Below w.heap.size w ((((w.alloc (.cells #[.int .i64 (s 0), .int .i64 (s 1), .int .i64 (s 2), .int .i64 (s 3), .int .i64 s4, .int .i64 s5, .int .i64 s6, .int .i64 s7, .slice A n c, .int .i64 (s 9), .int .i64 (s 10), .int .i64 (s 11), .int .i64 (s 12)] 25)).alloc (.cells #[.int .i64 p, .int .i64 d, .int .i64 mo, .int .i64 le, .bool bw, .slice RA rn rc] 36)).alloc (.cells #[.int .u64 x, .int .u64 y] 40)).alloc (.cells #[.int .i64 i0, .int .i64 i1, .int .i64 fr, .int .i64 to] 45)) := ((((Below.refl w.heap.size w).alloc (Nat.le_refl _) _).alloc (by simp <;> omega) _).alloc (by simp <;> omega) _).alloc (by simp <;> omega) _
  obtain ⟨V0, hV0⟩ : ∃ V, ((((w.alloc (.cells #[.int .i64 (s 0), .int .i64 (s 1), .int .i64 (s 2), .int .i64 (s 3), .int .i64 s4, .int .i64 s5, .int .i64 s6, .int .i64 s7, .slice A n c, .int .i64 (s 9), .int .i64 (s 10), .int .i64 (s 11), .int .i64 (s 12)] 25)).alloc (.cells #[.int .i64 p, .int .i64 d, .int .i64 mo, .int .i64 le, .bool bw, .slice RA rn rc] 36)).alloc (.cells #[.int .u64 x, .int .u64 y] 40)).alloc (.cells #[.int .i64 i0, .int .i64 i1, .int .i64 fr, .int .i64 to] 45)) = V := ⟨_, rfl⟩
  rw [hV0] at BS BC BT BP BE ⊢
  have HS := Lib.hid BS
  have HC := Lib.hid BC
  have HT := Lib.hid BT
  have HP := Lib.hid BP
  have EE := Lib.hid BE
  have ne0_1 : w.heap.size ≠ w.heap.size + 1 := by omega
  have ne0_2 : w.heap.size ≠ w.heap.size + 1 + 1 := by omega
  have ne0_3 : w.heap.size ≠ w.heap.size + 1 + 1 + 1 := by omega
  have ne1_0 : w.heap.size + 1 ≠ w.heap.size := by omega
  have ne1_2 : w.heap.size + 1 ≠ w.heap.size + 1 + 1 := by omega
  have ne1_3 : w.heap.size + 1 ≠ w.heap.size + 1 + 1 + 1 := by omega
  have ne2_0 : w.heap.size + 1 + 1 ≠ w.heap.size := by omega
  have ne2_1 : w.heap.size + 1 + 1 ≠ w.heap.size + 1 := by omega
  have ne2_3 : w.heap.size + 1 + 1 ≠ w.heap.size + 1 + 1 + 1 := by omega
  have ne3_0 : w.heap.size + 1 + 1 + 1 ≠ w.heap.size := by omega
  have ne3_1 : w.heap.size + 1 + 1 + 1 ≠ w.heap.size + 1 := by omega
  have ne3_2 : w.heap.size + 1 + 1 + 1 ≠ w.heap.size + 1 + 1 := by omega
  clear hV0 BE BS BC BT BP
  have kS0 : V0.cell? ⟨w.heap.size, 0, none⟩ = some (.int .i64 (s 0)) := HS.out.cell 0
  have kS1 : V0.cell? ⟨w.heap.size, 1, none⟩ = some (.int .i64 (s 1)) := HS.out.cell 1
  have kS2 : V0.cell? ⟨w.heap.size, 2, none⟩ = some (.int .i64 (s 2)) := HS.out.cell 2
  have kS3 : V0.cell? ⟨w.heap.size, 3, none⟩ = some (.int .i64 (s 3)) := HS.out.cell 3
  have kS4 : V0.cell? ⟨w.heap.size, 4, none⟩ = some (.int .i64 s4) := HS.out.cell 4
  have kS5 : V0.cell? ⟨w.heap.size, 5, none⟩ = some (.int .i64 s5) := HS.out.cell 5
  have kS6 : V0.cell? ⟨w.heap.size, 6, none⟩ = some (.int .i64 s6) := HS.out.cell 6
  have kS7 : V0.cell? ⟨w.heap.size, 7, none⟩ = some (.int .i64 s7) := HS.out.cell 7
  have kS8 : V0.cell? ⟨w.heap.size, 8, none⟩ = some (.slice A n c) := HS.out.cell 8
  have kS9 : V0.cell? ⟨w.heap.size, 9, none⟩ = some (.int .i64 (s 9)) := HS.out.cell 9
  have kS10 : V0.cell? ⟨w.heap.size, 10, none⟩ = some (.int .i64 (s 10)) := HS.out.cell 10
  have kS11 : V0.cell? ⟨w.heap.size, 11, none⟩ = some (.int .i64 (s 11)) := HS.out.cell 11
  have kS12 : V0.cell? ⟨w.heap.size, 12, none⟩ = some (.int .i64 (s 12)) := HS.out.cell 12
  have kC0 : V0.cell? ⟨w.heap.size + 1, 0, none⟩ = some (.int .i64 p) := HC.out.cell 0
  have kC1 : V0.cell? ⟨w.heap.size + 1, 1, none⟩ = some (.int .i64 d) := HC.out.cell 1
  have kC2 : V0.cell? ⟨w.heap.size + 1, 2, none⟩ = some (.int .i64 mo) := HC.out.cell 2
  have kC3 : V0.cell? ⟨w.heap.size + 1, 3, none⟩ = some (.int .i64 le) := HC.out.cell 3
  have kC4 : V0.cell? ⟨w.heap.size + 1, 4, none⟩ = some (.bool bw) := HC.out.cell 4
  have kC5 : V0.cell? ⟨w.heap.size + 1, 5, none⟩ = some (.slice RA rn rc) := HC.out.cell 5
  have kT0 : V0.cell? ⟨w.heap.size + 1 + 1, 0, none⟩ = some (.int .u64 x) := HT.out.cell 0
  have kT1 : V0.cell? ⟨w.heap.size + 1 + 1, 1, none⟩ = some (.int .u64 y) := HT.out.cell 1
  have kP0 : V0.cell? ⟨w.heap.size + 1 + 1 + 1, 0, none⟩ = some (.int .i64 i0) := HP.out.cell 0
  have kP1 : V0.cell? ⟨w.heap.size + 1 + 1 + 1, 1, none⟩ = some (.int .i64 i1) := HP.out.cell 1
  have kP2 : V0.cell? ⟨w.heap.size + 1 + 1 + 1, 2, none⟩ = some (.int .i64 fr) := HP.out.cell 2
  have kP3 : V0.cell? ⟨w.heap.size + 1 + 1 + 1, 3, none⟩ = some (.int .i64 to) := HP.out.cell 3
  go_wp2_with fail
  have sK : ∀ X, Blk X (w.heap.size) 25 #[.int .i64 (s 0), .int .i64 (s 1), .int .i64 (s 2), .int .i64 (s 3), .int .i64 s4, .int .i64 s5, .int .i64 s6, .int .i64 s7, .slice A n c, .int .i64 (s 9), .int .i64 (s 10), .int .i64 (s 11), .int .i64 (s 12)] → Blk X (w.heap.size + 1) 36 #[.int .i64 p, .int .i64 d, .int .i64 mo, .int .i64 le, .bool bw, .slice RA rn rc] → Blk X (w.heap.size + 1 + 1) 40 #[.int .u64 x, .int .u64 y] → Blk X (w.heap.size + 1 + 1 + 1) 45 #[.int .i64 i0, .int .i64 i1, .int .i64 fr, .int .i64 to] → (fun X => X.cell? ⟨w.heap.size, 0, none⟩ = some (.int .i64 (s 0)) ∧ X.cell? ⟨w.heap.size, 1, none⟩ = some (.int .i64 (s 1)) ∧ X.cell? ⟨w.heap.size, 2, none⟩ = some (.int .i64 (s 2)) ∧ X.cell? ⟨w.heap.size, 3, none⟩ = some (.int .i64 (s 3)) ∧ X.cell? ⟨w.heap.size, 4, none⟩ = some (.int .i64 s4) ∧ X.cell? ⟨w.heap.size, 5, none⟩ = some (.int .i64 s5) ∧ X.cell? ⟨w.heap.size, 6, none⟩ = some (.int .i64 s6) ∧ X.cell? ⟨w.heap.size, 7, none⟩ = some (.int .i64 s7) ∧ X.cell? ⟨w.heap.size, 8, none⟩ = some (.slice A n c) ∧ X.cell? ⟨w.heap.size, 9, none⟩ = some (.int .i64 (s 9)) ∧ X.cell? ⟨w.heap.size, 10, none⟩ = some (.int .i64 (s 10)) ∧ X.cell? ⟨w.heap.size, 11, none⟩ = some (.int .i64 (s 11)) ∧ X.cell? ⟨w.heap.size, 12, none⟩ = some (.int .i64 (s 12)) ∧ X.cell? ⟨w.heap.size + 1, 0, none⟩ = some (.int .i64 p) ∧ X.cell? ⟨w.heap.size + 1, 1, none⟩ = some (.int .i64 d) ∧ X.cell? ⟨w.heap.size + 1, 2, none⟩ = some (.int .i64 mo) ∧ X.cell? ⟨w.heap.size + 1, 3, none⟩ = some (.int .i64 le) ∧ X.cell? ⟨w.heap.size + 1, 4, none⟩ = some (.bool bw) ∧ X.cell? ⟨w.heap.size + 1, 5, none⟩ = some (.slice RA rn rc) ∧ X.cell? ⟨w.heap.size + 1 + 1, 0, none⟩ = some (.int .u64 x) ∧ X.cell? ⟨w.heap.size + 1 + 1, 1, none⟩ = some (.int .u64 y) ∧ X.cell? ⟨w.heap.size + 1 + 1 + 1, 0, none⟩ = some (.int .i64 i0) ∧ X.cell? ⟨w.heap.size + 1 + 1 + 1, 1, none⟩ = some (.int .i64 i1) ∧ X.cell? ⟨w.heap.size + 1 + 1 + 1, 2, none⟩ = some (.int .i64 fr) ∧ X.cell? ⟨w.heap.size + 1 + 1 + 1, 3, none⟩ = some (.int .i64 to)) X := fun X hS hC hT hP => ⟨hS.cell 0, hS.cell 1, hS.cell 2, hS.cell 3, hS.cell 4, hS.cell 5, hS.cell 6, hS.cell 7, hS.cell 8, hS.cell 9, hS.cell 10, hS.cell 11, hS.cell 12, hC.cell 0, hC.cell 1, hC.cell 2, hC.cell 3, hC.cell 4, hC.cell 5, hT.cell 0, hT.cell 1, hP.cell 0, hP.cell 1, hP.cell 2, hP.cell 3⟩
  have LS0 := Lib.hid (HS.out.drew)
  have LC0 := Lib.hid (HC.out.drew)
  have LT0 := Lib.hid (HT.out.drew)
  have LP0 := Lib.hid (HP.out.drew)
  have E0 := Lib.hid (EE.out.drew)
  clear kS0 kS1 kS2 kS3 kS4 kS5 kS6 kS7 kS8 kS9 kS10 kS11 kS12 kC0 kC1 kC2 kC3 kC4 kC5 kT0 kT1 kP0 kP1 kP2 kP3
  refine wp_region_held_drew (S := (fun X => X.cell? ⟨w.heap.size, 0, none⟩ = some (.int .i64 (s 0)) ∧ X.cell? ⟨w.heap.size, 1, none⟩ = some (.int .i64 (s 1)) ∧ X.cell? ⟨w.heap.size, 2, none⟩ = some (.int .i64 (s 2)) ∧ X.cell? ⟨w.heap.size, 3, none⟩ = some (.int .i64 (s 3)) ∧ X.cell? ⟨w.heap.size, 4, none⟩ = some (.int .i64 s4) ∧ X.cell? ⟨w.heap.size, 5, none⟩ = some (.int .i64 s5) ∧ X.cell? ⟨w.heap.size, 6, none⟩ = some (.int .i64 s6) ∧ X.cell? ⟨w.heap.size, 7, none⟩ = some (.int .i64 s7) ∧ X.cell? ⟨w.heap.size, 8, none⟩ = some (.slice A n c) ∧ X.cell? ⟨w.heap.size, 9, none⟩ = some (.int .i64 (s 9)) ∧ X.cell? ⟨w.heap.size, 10, none⟩ = some (.int .i64 (s 10)) ∧ X.cell? ⟨w.heap.size, 11, none⟩ = some (.int .i64 (s 11)) ∧ X.cell? ⟨w.heap.size, 12, none⟩ = some (.int .i64 (s 12)) ∧ X.cell? ⟨w.heap.size + 1, 0, none⟩ = some (.int .i64 p) ∧ X.cell? ⟨w.heap.size + 1, 1, none⟩ = some (.int .i64 d) ∧ X.cell? ⟨w.heap.size + 1, 2, none⟩ = some (.int .i64 mo) ∧ X.cell? ⟨w.heap.size + 1, 3, none⟩ = some (.int .i64 le) ∧ X.cell? ⟨w.heap.size + 1, 4, none⟩ = some (.bool bw) ∧ X.cell? ⟨w.heap.size + 1, 5, none⟩ = some (.slice RA rn rc) ∧ X.cell? ⟨w.heap.size + 1 + 1, 0, none⟩ = some (.int .u64 x) ∧ X.cell? ⟨w.heap.size + 1 + 1, 1, none⟩ = some (.int .u64 y) ∧ X.cell? ⟨w.heap.size + 1 + 1 + 1, 0, none⟩ = some (.int .i64 i0) ∧ X.cell? ⟨w.heap.size + 1 + 1 + 1, 1, none⟩ = some (.int .i64 i1) ∧ X.cell? ⟨w.heap.size + 1 + 1 + 1, 2, none⟩ = some (.int .i64 fr) ∧ X.cell? ⟨w.heap.size + 1 + 1 + 1, 3, none⟩ = some (.int .i64 to))) (by kernel_rfl) (sK _ LS0.out LC0.out LT0.out LP0.out) (fun hHeld => ?_)
  clear hHeld
  
  refine wpAnyH_take (i := 0) (v := ?_) rfl (by kernel_rfl) (by kernel_rfl) (by kernel_rfl) (fun _ _ _ h => h) (Or.inl ⟨by rfl, ?_⟩) (sK _ LS0.out LC0.out LT0.out LP0.out) ?_
  rotate_left
  · (intro wS hSw; (try dsimp only at hSw); go_simp; try with_reducible rfl)
  simp only [Act.put, List.getElem_toArray, List.getElem_cons_zero, List.getElem_cons_succ, List.setIfInBounds_toArray, List.set_cons_zero, List.set_cons_succ]
  refine wpAnyH_take (i := 1) (v := ?_) rfl (by kernel_rfl) (by kernel_rfl) (by kernel_rfl) (fun _ _ _ h => h) (Or.inl ⟨by rfl, ?_⟩) (sK _ LS0.out LC0.out LT0.out LP0.out) ?_
  rotate_left
  · (intro wS hSw; (try dsimp only at hSw); go_simp; try with_reducible rfl)
  simp only [Act.put, List.getElem_toArray, List.getElem_cons_zero, List.getElem_cons_succ, List.setIfInBounds_toArray, List.set_cons_zero, List.set_cons_succ]
  refine wpAnyH_take (i := 2) (v := ?_) rfl (by kernel_rfl) (by kernel_rfl) (by kernel_rfl) (fun _ _ _ h => h) (Or.inl ⟨by rfl, ?_⟩) (sK _ LS0.out LC0.out LT0.out LP0.out) ?_
  rotate_left
  · (intro wS hSw; (try dsimp only at hSw); go_simp; try with_reducible rfl)
  simp only [Act.put, List.getElem_toArray, List.getElem_cons_zero, List.getElem_cons_succ, List.setIfInBounds_toArray, List.set_cons_zero, List.set_cons_succ]
  refine wpAnyH_take (i := 3) (v := ?_) rfl (by kernel_rfl) (by kernel_rfl) (by kernel_rfl) (fun _ _ _ h => h) (Or.inl ⟨by rfl, ?_⟩) (sK _ LS0.out LC0.out LT0.out LP0.out) ?_
  rotate_left
  · (intro wS hSw; (try dsimp only at hSw); go_simp; try with_reducible rfl)
  simp only [Act.put, List.getElem_toArray, List.getElem_cons_zero, List.getElem_cons_succ, List.setIfInBounds_toArray, List.set_cons_zero, List.set_cons_succ]
  refine wpAnyH_take (i := 4) (v := ?_) rfl (by kernel_rfl) (by kernel_rfl) (by kernel_rfl) (fun _ _ _ h => h) (Or.inl ⟨by rfl, ?_⟩) (sK _ LS0.out LC0.out LT0.out LP0.out) ?_
  rotate_left
  · (intro wS hSw; (try dsimp only at hSw); go_simp; try with_reducible rfl)
  simp only [Act.put, List.getElem_toArray, List.getElem_cons_zero, List.getElem_cons_succ, List.setIfInBounds_toArray, List.set_cons_zero, List.set_cons_succ]
  refine wpAnyH_take (i := 5) (v := ?_) rfl (by kernel_rfl) (by kernel_rfl) (by kernel_rfl) (fun _ _ _ h => h) (Or.inl ⟨by rfl, ?_⟩) (sK _ LS0.out LC0.out LT0.out LP0.out) ?_
  rotate_left
  · (intro wS hSw; (try dsimp only at hSw); go_simp; try with_reducible rfl)
  simp only [Act.put, List.getElem_toArray, List.getElem_cons_zero, List.getElem_cons_succ, List.setIfInBounds_toArray, List.set_cons_zero, List.set_cons_succ]
  refine wpAnyH_take (i := 6) (v := ?_) rfl (by kernel_rfl) (by kernel_rfl) (by kernel_rfl) (fun _ _ _ h => h) (Or.inl ⟨by rfl, ?_⟩) (sK _ LS0.out LC0.out LT0.out LP0.out) ?_
  rotate_left
  · (intro wS hSw; (try dsimp only at hSw); go_simp; try with_reducible rfl)
  simp only [Act.put, List.getElem_toArray, List.getElem_cons_zero, List.getElem_cons_succ, List.setIfInBounds_toArray, List.set_cons_zero, List.set_cons_succ]
  refine wpAnyH_take (i := 7) (v := ?_) rfl (by kernel_rfl) (by kernel_rfl) (by kernel_rfl) (fun _ _ _ h => h) (Or.inl ⟨by rfl, ?_⟩) (sK _ LS0.out LC0.out LT0.out LP0.out) ?_
  rotate_left
  · (intro wS hSw; (try dsimp only at hSw); go_simp; try with_reducible rfl)
  simp only [Act.put, List.getElem_toArray, List.getElem_cons_zero, List.getElem_cons_succ, List.setIfInBounds_toArray, List.set_cons_zero, List.set_cons_succ]
  refine wpAnyH_take (i := 8) (v := ?_) rfl (by kernel_rfl) (by kernel_rfl) (by kernel_rfl) (fun _ _ _ h => h) (Or.inl ⟨by rfl, ?_⟩) (sK _ LS0.out LC0.out LT0.out LP0.out) ?_
  rotate_left
  · (intro wS hSw; (try dsimp only at hSw); go_simp; try with_reducible rfl)
  simp only [Act.put, List.getElem_toArray, List.getElem_cons_zero, List.getElem_cons_succ, List.setIfInBounds_toArray, List.set_cons_zero, List.set_cons_succ]
  refine wpAnyH_take (i := 11) (v := ?_) rfl (by kernel_rfl) (by kernel_rfl) (by kernel_rfl) (fun _ _ _ h => h) (Or.inl ⟨by rfl, ?_⟩) (sK _ LS0.out LC0.out LT0.out LP0.out) ?_
  rotate_left
  · (intro wS hSw; (try dsimp only at hSw); go_simp; try with_reducible rfl)
  simp only [Act.put, List.getElem_toArray, List.getElem_cons_zero, List.getElem_cons_succ, List.setIfInBounds_toArray, List.set_cons_zero, List.set_cons_succ]
  refine wpAnyH_take (i := 12) (v := ?_) rfl (by kernel_rfl) (by kernel_rfl) (by kernel_rfl) (fun _ _ _ h => h) (Or.inl ⟨by rfl, ?_⟩) (sK _ LS0.out LC0.out LT0.out LP0.out) ?_
  rotate_left
  · (intro wS hSw; (try dsimp only at hSw); go_simp; try with_reducible rfl)
  simp only [Act.put, List.getElem_toArray, List.getElem_cons_zero, List.getElem_cons_succ, List.setIfInBounds_toArray, List.set_cons_zero, List.set_cons_succ]
  refine wpAnyH_take (i := 13) (v := ?_) rfl (by kernel_rfl) (by kernel_rfl) (by kernel_rfl) (fun _ _ _ h => h) (Or.inl ⟨by rfl, ?_⟩) (sK _ LS0.out LC0.out LT0.out LP0.out) ?_
  rotate_left
  · (intro wS hSw; (try dsimp only at hSw); go_simp; try with_reducible rfl)
  simp only [Act.put, List.getElem_toArray, List.getElem_cons_zero, List.getElem_cons_succ, List.setIfInBounds_toArray, List.set_cons_zero, List.set_cons_succ]
  refine wpAnyH_take (i := 14) (v := ?_) rfl (by kernel_rfl) (by kernel_rfl) (by kernel_rfl) (fun _ _ _ h => h) (Or.inl ⟨by rfl, ?_⟩) (sK _ LS0.out LC0.out LT0.out LP0.out) ?_
  rotate_left
  · (intro wS hSw; (try dsimp only at hSw); go_simp; try with_reducible rfl)
  simp only [Act.put, List.getElem_toArray, List.getElem_cons_zero, List.getElem_cons_succ, List.setIfInBounds_toArray, List.set_cons_zero, List.set_cons_succ]
  refine wpAnyH_take (i := 15) (v := ?_) rfl (by kernel_rfl) (by kernel_rfl) (by kernel_rfl) (fun _ _ _ h => h) (Or.inl ⟨by rfl, ?_⟩) (sK _ LS0.out LC0.out LT0.out LP0.out) ?_
  rotate_left
  · (intro wS hSw; (try dsimp only at hSw); go_simp; try with_reducible rfl)
  simp only [Act.put, List.getElem_toArray, List.getElem_cons_zero, List.getElem_cons_succ, List.setIfInBounds_toArray, List.set_cons_zero, List.set_cons_succ]
  refine wpAnyH_take (i := 16) (v := ?_) rfl (by kernel_rfl) (by kernel_rfl) (by kernel_rfl) (fun _ _ _ h => h) (Or.inl ⟨by rfl, ?_⟩) (sK _ LS0.out LC0.out LT0.out LP0.out) ?_
  rotate_left
  · (intro wS hSw; (try dsimp only at hSw); go_simp; try with_reducible rfl)
  simp only [Act.put, List.getElem_toArray, List.getElem_cons_zero, List.getElem_cons_succ, List.setIfInBounds_toArray, List.set_cons_zero, List.set_cons_succ]
  refine wpAnyH_take (i := 20) (v := ?_) rfl (by kernel_rfl) (by kernel_rfl) (by kernel_rfl) (fun _ _ _ h => h) (Or.inl ⟨by rfl, ?_⟩) (sK _ LS0.out LC0.out LT0.out LP0.out) ?_
  rotate_left
  · (intro wS hSw; (try dsimp only at hSw); go_simp; try with_reducible rfl)
  simp only [Act.put, List.getElem_toArray, List.getElem_cons_zero, List.getElem_cons_succ, List.setIfInBounds_toArray, List.set_cons_zero, List.set_cons_succ]
  refine wpAnyH_take (i := 21) (v := ?_) rfl (by kernel_rfl) (by kernel_rfl) (by kernel_rfl) (fun _ _ _ h => h) (Or.inl ⟨by rfl, ?_⟩) (sK _ LS0.out LC0.out LT0.out LP0.out) ?_
  rotate_left
  · (intro wS hSw; (try dsimp only at hSw); go_simp; try with_reducible rfl)
  simp only [Act.put, List.getElem_toArray, List.getElem_cons_zero, List.getElem_cons_succ, List.setIfInBounds_toArray, List.set_cons_zero, List.set_cons_succ]
  refine wpAnyH_take (i := 22) (v := ?_) rfl (by kernel_rfl) (by kernel_rfl) (by kernel_rfl) (fun _ _ _ h => h) (Or.inl ⟨by rfl, ?_⟩) (sK _ LS0.out LC0.out LT0.out LP0.out) ?_
  rotate_left
  · (intro wS hSw; (try dsimp only at hSw); go_simp; try with_reducible rfl)
  simp only [Act.put, List.getElem_toArray, List.getElem_cons_zero, List.getElem_cons_succ, List.setIfInBounds_toArray, List.set_cons_zero, List.set_cons_succ]
  obtain ⟨M, hM⟩ : ∃ M, st * (N : Int) = M := ⟨_, rfl⟩
  have hm1 : IntKind.i64.wrap (st * (N : Int)) = M := by rw [hM]; exact IntWalk.i64_in _ (by omega)
  rw [hM] at Q0 Q1
  have hm2 : IntKind.i64.wrap (e + M) = e + M := IntWalk.i64_in _ (by omega)
  have hm3 : IntKind.i64.wrap (e + M + (rn : Int)) = e + M + rn := IntWalk.i64_in _ (by omega)
  have hm4 : IntKind.i64.wrap (e + M + (rn : Int) + st) = e + M + rn + st := IntWalk.i64_in _ (by omega)
  have hm5 : IntKind.i64.wrap (e + M + (rn : Int) + st + st) = e + M + rn + st + st := IntWalk.i64_in _ (by omega)
  have RS : e + ((N + on : Nat) : Int) * st + rn = e + M + rn + (on : Int) * st := by rw [← hM, Int.natCast_add, Int.add_mul, Int.mul_comm (N : Int)]; omega
  have HRS := Lib.hid RS
  have HM := Lib.hid hM
  clear hM RS P0 P1
  refine wpAnyH_ready (rs := [9]) (by kernel_rfl) (by simp) ?_
  refine AllReadyH.cons rfl (fun K hK => ?_) AllReadyH.nil
  go_simp
  refine (JD.out _).mono ?_
  rintro e r1 ⟨rfl, hb⟩
  have LS1 := Lib.hid (Blk.next (w := V0.drew) LS0.out hb)
  have LC1 := Lib.hid (Blk.next (w := V0.drew) LC0.out hb)
  have LT1 := Lib.hid (Blk.next (w := V0.drew) LT0.out hb)
  have LP1 := Lib.hid (Blk.next (w := V0.drew) LP0.out hb)
  have E1 := Lib.hid (E0.out.trans (hb.mono E0.out.size))
  clear hb
  go_wp2_with fail
  refine hK.out _ _ (sK _ LS1.out LC1.out LT1.out LP1.out) (fun hHeld => ?_)
  clear hK K hHeld
  try simp only [Act.put, List.getElem_toArray, List.getElem_cons_zero, List.getElem_cons_succ, List.setIfInBounds_toArray, List.set_cons_zero, List.set_cons_succ]
  refine wpAnyH_ready (rs := [10]) (by kernel_rfl) (by simp) ?_
  refine AllReadyH.cons rfl (fun K hK => ?_) AllReadyH.nil
  go_simp
  refine (JO.out _).mono ?_
  rintro e r2 ⟨rfl, hb⟩
  have LS2 := Lib.hid (Blk.next (w := r1) LS1.out hb)
  have LC2 := Lib.hid (Blk.next (w := r1) LC1.out hb)
  have LT2 := Lib.hid (Blk.next (w := r1) LT1.out hb)
  have LP2 := Lib.hid (Blk.next (w := r1) LP1.out hb)
  have E2 := Lib.hid (E1.out.trans (hb.mono E1.out.size))
  clear hb
  go_wp2_with fail
  refine hK.out _ _ (sK _ LS2.out LC2.out LT2.out LP2.out) (fun hHeld => ?_)
  clear hK K hHeld
  try simp only [Act.put, List.getElem_toArray, List.getElem_cons_zero, List.getElem_cons_succ, List.setIfInBounds_toArray, List.set_cons_zero, List.set_cons_succ]
  refine wpAnyH_ready (rs := [17]) (by kernel_rfl) (by simp) ?_
  refine AllReadyH.cons rfl (fun K hK => ?_) AllReadyH.nil
  go_simp
  refine (JB.out _).mono ?_
  rintro e r3 ⟨rfl, hb⟩
  have LS3 := Lib.hid (Blk.next (w := r2) LS2.out hb)
  have LC3 := Lib.hid (Blk.next (w := r2) LC2.out hb)
  have LT3 := Lib.hid (Blk.next (w := r2) LT2.out hb)
  have LP3 := Lib.hid (Blk.next (w := r2) LP2.out hb)
  have E3 := Lib.hid (E2.out.trans (hb.mono E2.out.size))
  clear hb
  go_wp2_with fail
  refine hK.out _ _ (sK _ LS3.out LC3.out LT3.out LP3.out) (fun hHeld => ?_)
  clear hK K hHeld
  try simp only [Act.put, List.getElem_toArray, List.getElem_cons_zero, List.getElem_cons_succ, List.setIfInBounds_toArray, List.set_cons_zero, List.set_cons_succ]
  refine wpAnyH_take (i := 18) (v := ?_) rfl (by kernel_rfl) (by kernel_rfl) (by kernel_rfl) (fun _ _ _ h => h) (Or.inl ⟨by rfl, ?_⟩) (sK _ LS3.out LC3.out LT3.out LP3.out) ?_
  rotate_left
  · (intro wS hSw; (try dsimp only at hSw); go_simp; try with_reducible rfl)
  simp only [Act.put, List.getElem_toArray, List.getElem_cons_zero, List.getElem_cons_succ, List.setIfInBounds_toArray, List.set_cons_zero, List.set_cons_succ]
  refine wpAnyH_take (i := 19) (v := ?_) rfl (by kernel_rfl) (by kernel_rfl) (by kernel_rfl) (fun _ _ _ h => h) (Or.inl ⟨by rfl, ?_⟩) (sK _ LS3.out LC3.out LT3.out LP3.out) ?_
  rotate_left
  · (intro wS hSw; (try dsimp only at hSw); go_simp; try with_reducible rfl)
  simp only [Act.put, List.getElem_toArray, List.getElem_cons_zero, List.getElem_cons_succ, List.setIfInBounds_toArray, List.set_cons_zero, List.set_cons_succ]
  refine wpAnyH_take (i := 23) (v := ?_) rfl (by kernel_rfl) (by kernel_rfl) (by kernel_rfl) (fun _ _ _ h => h) (Or.inl ⟨by rfl, ?_⟩) (sK _ LS3.out LC3.out LT3.out LP3.out) ?_
  rotate_left
  · (intro wS hSw; (try dsimp only at hSw); go_simp; try with_reducible rfl)
  simp only [Act.put, List.getElem_toArray, List.getElem_cons_zero, List.getElem_cons_succ, List.setIfInBounds_toArray, List.set_cons_zero, List.set_cons_succ]
  refine wpAnyH_take (i := 24) (v := ?_) rfl (by kernel_rfl) (by kernel_rfl) (by kernel_rfl) (fun _ _ _ h => h) (Or.inl ⟨by rfl, ?_⟩) (sK _ LS3.out LC3.out LT3.out LP3.out) ?_
  rotate_left
  · (intro wS hSw; (try dsimp only at hSw); go_simp; try with_reducible rfl)
  simp only [Act.put, List.getElem_toArray, List.getElem_cons_zero, List.getElem_cons_succ, List.setIfInBounds_toArray, List.set_cons_zero, List.set_cons_succ]
  refine wpAnyH_done (by kernel_rfl) ?_ _
  have HS := LS3
  have HC := LC3
  have HT := LT3
  have HP := LP3
  have EE := E3
  have kS0 : r3.cell? ⟨w.heap.size, 0, none⟩ = some (.int .i64 (s 0)) := HS.out.cell 0
  have kS1 : r3.cell? ⟨w.heap.size, 1, none⟩ = some (.int .i64 (s 1)) := HS.out.cell 1
  have kS2 : r3.cell? ⟨w.heap.size, 2, none⟩ = some (.int .i64 (s 2)) := HS.out.cell 2
  have kS3 : r3.cell? ⟨w.heap.size, 3, none⟩ = some (.int .i64 (s 3)) := HS.out.cell 3
  have kS4 : r3.cell? ⟨w.heap.size, 4, none⟩ = some (.int .i64 s4) := HS.out.cell 4
  have kS5 : r3.cell? ⟨w.heap.size, 5, none⟩ = some (.int .i64 s5) := HS.out.cell 5
  have kS6 : r3.cell? ⟨w.heap.size, 6, none⟩ = some (.int .i64 s6) := HS.out.cell 6
  have kS7 : r3.cell? ⟨w.heap.size, 7, none⟩ = some (.int .i64 s7) := HS.out.cell 7
  have kS8 : r3.cell? ⟨w.heap.size, 8, none⟩ = some (.slice A n c) := HS.out.cell 8
  have kS9 : r3.cell? ⟨w.heap.size, 9, none⟩ = some (.int .i64 (s 9)) := HS.out.cell 9
  have kS10 : r3.cell? ⟨w.heap.size, 10, none⟩ = some (.int .i64 (s 10)) := HS.out.cell 10
  have kS11 : r3.cell? ⟨w.heap.size, 11, none⟩ = some (.int .i64 (s 11)) := HS.out.cell 11
  have kS12 : r3.cell? ⟨w.heap.size, 12, none⟩ = some (.int .i64 (s 12)) := HS.out.cell 12
  have kC0 : r3.cell? ⟨w.heap.size + 1, 0, none⟩ = some (.int .i64 p) := HC.out.cell 0
  have kC1 : r3.cell? ⟨w.heap.size + 1, 1, none⟩ = some (.int .i64 d) := HC.out.cell 1
  have kC2 : r3.cell? ⟨w.heap.size + 1, 2, none⟩ = some (.int .i64 mo) := HC.out.cell 2
  have kC3 : r3.cell? ⟨w.heap.size + 1, 3, none⟩ = some (.int .i64 le) := HC.out.cell 3
  have kC4 : r3.cell? ⟨w.heap.size + 1, 4, none⟩ = some (.bool bw) := HC.out.cell 4
  have kC5 : r3.cell? ⟨w.heap.size + 1, 5, none⟩ = some (.slice RA rn rc) := HC.out.cell 5
  have kT0 : r3.cell? ⟨w.heap.size + 1 + 1, 0, none⟩ = some (.int .u64 x) := HT.out.cell 0
  have kT1 : r3.cell? ⟨w.heap.size + 1 + 1, 1, none⟩ = some (.int .u64 y) := HT.out.cell 1
  have kP0 : r3.cell? ⟨w.heap.size + 1 + 1 + 1, 0, none⟩ = some (.int .i64 i0) := HP.out.cell 0
  have kP1 : r3.cell? ⟨w.heap.size + 1 + 1 + 1, 1, none⟩ = some (.int .i64 i1) := HP.out.cell 1
  have kP2 : r3.cell? ⟨w.heap.size + 1 + 1 + 1, 2, none⟩ = some (.int .i64 fr) := HP.out.cell 2
  have kP3 : r3.cell? ⟨w.heap.size + 1 + 1 + 1, 3, none⟩ = some (.int .i64 to) := HP.out.cell 3
  go_wp2_with fail
  refine (JH1.out _).mono ?_
  rintro e v1 ⟨rfl, hb⟩
  clear kS0 kS1 kS2 kS3 kS4 kS5 kS6 kS7 kS8 kS9 kS10 kS11 kS12 kC0 kC1 kC2 kC3 kC4 kC5 kT0 kT1 kP0 kP1 kP2 kP3
  have HS := Lib.hid (Blk.next (w := r3) HS.out hb)
  have HC := Lib.hid (Blk.next (w := r3) HC.out hb)
  have HT := Lib.hid (Blk.next (w := r3) HT.out hb)
  have HP := Lib.hid (Blk.next (w := r3) HP.out hb)
  have EE := Lib.hid (EE.out.trans (hb.mono EE.out.size))
  clear hb
  have kS0 : v1.cell? ⟨w.heap.size, 0, none⟩ = some (.int .i64 (s 0)) := HS.out.cell 0
  have kS1 : v1.cell? ⟨w.heap.size, 1, none⟩ = some (.int .i64 (s 1)) := HS.out.cell 1
  have kS2 : v1.cell? ⟨w.heap.size, 2, none⟩ = some (.int .i64 (s 2)) := HS.out.cell 2
  have kS3 : v1.cell? ⟨w.heap.size, 3, none⟩ = some (.int .i64 (s 3)) := HS.out.cell 3
  have kS4 : v1.cell? ⟨w.heap.size, 4, none⟩ = some (.int .i64 s4) := HS.out.cell 4
  have kS5 : v1.cell? ⟨w.heap.size, 5, none⟩ = some (.int .i64 s5) := HS.out.cell 5
  have kS6 : v1.cell? ⟨w.heap.size, 6, none⟩ = some (.int .i64 s6) := HS.out.cell 6
  have kS7 : v1.cell? ⟨w.heap.size, 7, none⟩ = some (.int .i64 s7) := HS.out.cell 7
  have kS8 : v1.cell? ⟨w.heap.size, 8, none⟩ = some (.slice A n c) := HS.out.cell 8
  have kS9 : v1.cell? ⟨w.heap.size, 9, none⟩ = some (.int .i64 (s 9)) := HS.out.cell 9
  have kS10 : v1.cell? ⟨w.heap.size, 10, none⟩ = some (.int .i64 (s 10)) := HS.out.cell 10
  have kS11 : v1.cell? ⟨w.heap.size, 11, none⟩ = some (.int .i64 (s 11)) := HS.out.cell 11
  have kS12 : v1.cell? ⟨w.heap.size, 12, none⟩ = some (.int .i64 (s 12)) := HS.out.cell 12
  have kC0 : v1.cell? ⟨w.heap.size + 1, 0, none⟩ = some (.int .i64 p) := HC.out.cell 0
  have kC1 : v1.cell? ⟨w.heap.size + 1, 1, none⟩ = some (.int .i64 d) := HC.out.cell 1
  have kC2 : v1.cell? ⟨w.heap.size + 1, 2, none⟩ = some (.int .i64 mo) := HC.out.cell 2
  have kC3 : v1.cell? ⟨w.heap.size + 1, 3, none⟩ = some (.int .i64 le) := HC.out.cell 3
  have kC4 : v1.cell? ⟨w.heap.size + 1, 4, none⟩ = some (.bool bw) := HC.out.cell 4
  have kC5 : v1.cell? ⟨w.heap.size + 1, 5, none⟩ = some (.slice RA rn rc) := HC.out.cell 5
  have kT0 : v1.cell? ⟨w.heap.size + 1 + 1, 0, none⟩ = some (.int .u64 x) := HT.out.cell 0
  have kT1 : v1.cell? ⟨w.heap.size + 1 + 1, 1, none⟩ = some (.int .u64 y) := HT.out.cell 1
  have kP0 : v1.cell? ⟨w.heap.size + 1 + 1 + 1, 0, none⟩ = some (.int .i64 i0) := HP.out.cell 0
  have kP1 : v1.cell? ⟨w.heap.size + 1 + 1 + 1, 1, none⟩ = some (.int .i64 i1) := HP.out.cell 1
  have kP2 : v1.cell? ⟨w.heap.size + 1 + 1 + 1, 2, none⟩ = some (.int .i64 fr) := HP.out.cell 2
  have kP3 : v1.cell? ⟨w.heap.size + 1 + 1 + 1, 3, none⟩ = some (.int .i64 to) := HP.out.cell 3
  cases hf
  · go_wp2_with fail
    refine (JH2.out _).mono ?_
    rintro e v2 ⟨rfl, hb⟩
    clear kS0 kS1 kS2 kS3 kS4 kS5 kS6 kS7 kS8 kS9 kS10 kS11 kS12 kC0 kC1 kC2 kC3 kC4 kC5 kT0 kT1 kP0 kP1 kP2 kP3
    have HS := Lib.hid (Blk.next (w := v1) HS.out hb)
    have HC := Lib.hid (Blk.next (w := v1) HC.out hb)
    have HT := Lib.hid (Blk.next (w := v1) HT.out hb)
    have HP := Lib.hid (Blk.next (w := v1) HP.out hb)
    have EE := Lib.hid (EE.out.trans (hb.mono EE.out.size))
    clear hb
    have kS0 : v2.cell? ⟨w.heap.size, 0, none⟩ = some (.int .i64 (s 0)) := HS.out.cell 0
    have kS1 : v2.cell? ⟨w.heap.size, 1, none⟩ = some (.int .i64 (s 1)) := HS.out.cell 1
    have kS2 : v2.cell? ⟨w.heap.size, 2, none⟩ = some (.int .i64 (s 2)) := HS.out.cell 2
    have kS3 : v2.cell? ⟨w.heap.size, 3, none⟩ = some (.int .i64 (s 3)) := HS.out.cell 3
    have kS4 : v2.cell? ⟨w.heap.size, 4, none⟩ = some (.int .i64 s4) := HS.out.cell 4
    have kS5 : v2.cell? ⟨w.heap.size, 5, none⟩ = some (.int .i64 s5) := HS.out.cell 5
    have kS6 : v2.cell? ⟨w.heap.size, 6, none⟩ = some (.int .i64 s6) := HS.out.cell 6
    have kS7 : v2.cell? ⟨w.heap.size, 7, none⟩ = some (.int .i64 s7) := HS.out.cell 7
    have kS8 : v2.cell? ⟨w.heap.size, 8, none⟩ = some (.slice A n c) := HS.out.cell 8
    have kS9 : v2.cell? ⟨w.heap.size, 9, none⟩ = some (.int .i64 (s 9)) := HS.out.cell 9
    have kS10 : v2.cell? ⟨w.heap.size, 10, none⟩ = some (.int .i64 (s 10)) := HS.out.cell 10
    have kS11 : v2.cell? ⟨w.heap.size, 11, none⟩ = some (.int .i64 (s 11)) := HS.out.cell 11
    have kS12 : v2.cell? ⟨w.heap.size, 12, none⟩ = some (.int .i64 (s 12)) := HS.out.cell 12
    have kC0 : v2.cell? ⟨w.heap.size + 1, 0, none⟩ = some (.int .i64 p) := HC.out.cell 0
    have kC1 : v2.cell? ⟨w.heap.size + 1, 1, none⟩ = some (.int .i64 d) := HC.out.cell 1
    have kC2 : v2.cell? ⟨w.heap.size + 1, 2, none⟩ = some (.int .i64 mo) := HC.out.cell 2
    have kC3 : v2.cell? ⟨w.heap.size + 1, 3, none⟩ = some (.int .i64 le) := HC.out.cell 3
    have kC4 : v2.cell? ⟨w.heap.size + 1, 4, none⟩ = some (.bool bw) := HC.out.cell 4
    have kC5 : v2.cell? ⟨w.heap.size + 1, 5, none⟩ = some (.slice RA rn rc) := HC.out.cell 5
    have kT0 : v2.cell? ⟨w.heap.size + 1 + 1, 0, none⟩ = some (.int .u64 x) := HT.out.cell 0
    have kT1 : v2.cell? ⟨w.heap.size + 1 + 1, 1, none⟩ = some (.int .u64 y) := HT.out.cell 1
    have kP0 : v2.cell? ⟨w.heap.size + 1 + 1 + 1, 0, none⟩ = some (.int .i64 i0) := HP.out.cell 0
    have kP1 : v2.cell? ⟨w.heap.size + 1 + 1 + 1, 1, none⟩ = some (.int .i64 i1) := HP.out.cell 1
    have kP2 : v2.cell? ⟨w.heap.size + 1 + 1 + 1, 2, none⟩ = some (.int .i64 fr) := HP.out.cell 2
    have kP3 : v2.cell? ⟨w.heap.size + 1 + 1 + 1, 3, none⟩ = some (.int .i64 to) := HP.out.cell 3
    cases ht
    · go_wp2_with fail
      go_ret
      exact ⟨nret (by rw [HRS.out, HOW.out]; simp <;> omega), EE.out⟩
    · go_wp2_with fail
      go_ret
      exact ⟨nret (by rw [HRS.out, HOW.out]; simp <;> omega), EE.out⟩
  · go_wp2_with fail
    refine (JH2.out _).mono ?_
    rintro e v2 ⟨rfl, hb⟩
    clear kS0 kS1 kS2 kS3 kS4 kS5 kS6 kS7 kS8 kS9 kS10 kS11 kS12 kC0 kC1 kC2 kC3 kC4 kC5 kT0 kT1 kP0 kP1 kP2 kP3
    have HS := Lib.hid (Blk.next (w := v1) HS.out hb)
    have HC := Lib.hid (Blk.next (w := v1) HC.out hb)
    have HT := Lib.hid (Blk.next (w := v1) HT.out hb)
    have HP := Lib.hid (Blk.next (w := v1) HP.out hb)
    have EE := Lib.hid (EE.out.trans (hb.mono EE.out.size))
    clear hb
    have kS0 : v2.cell? ⟨w.heap.size, 0, none⟩ = some (.int .i64 (s 0)) := HS.out.cell 0
    have kS1 : v2.cell? ⟨w.heap.size, 1, none⟩ = some (.int .i64 (s 1)) := HS.out.cell 1
    have kS2 : v2.cell? ⟨w.heap.size, 2, none⟩ = some (.int .i64 (s 2)) := HS.out.cell 2
    have kS3 : v2.cell? ⟨w.heap.size, 3, none⟩ = some (.int .i64 (s 3)) := HS.out.cell 3
    have kS4 : v2.cell? ⟨w.heap.size, 4, none⟩ = some (.int .i64 s4) := HS.out.cell 4
    have kS5 : v2.cell? ⟨w.heap.size, 5, none⟩ = some (.int .i64 s5) := HS.out.cell 5
    have kS6 : v2.cell? ⟨w.heap.size, 6, none⟩ = some (.int .i64 s6) := HS.out.cell 6
    have kS7 : v2.cell? ⟨w.heap.size, 7, none⟩ = some (.int .i64 s7) := HS.out.cell 7
    have kS8 : v2.cell? ⟨w.heap.size, 8, none⟩ = some (.slice A n c) := HS.out.cell 8
    have kS9 : v2.cell? ⟨w.heap.size, 9, none⟩ = some (.int .i64 (s 9)) := HS.out.cell 9
    have kS10 : v2.cell? ⟨w.heap.size, 10, none⟩ = some (.int .i64 (s 10)) := HS.out.cell 10
    have kS11 : v2.cell? ⟨w.heap.size, 11, none⟩ = some (.int .i64 (s 11)) := HS.out.cell 11
    have kS12 : v2.cell? ⟨w.heap.size, 12, none⟩ = some (.int .i64 (s 12)) := HS.out.cell 12
    have kC0 : v2.cell? ⟨w.heap.size + 1, 0, none⟩ = some (.int .i64 p) := HC.out.cell 0
    have kC1 : v2.cell? ⟨w.heap.size + 1, 1, none⟩ = some (.int .i64 d) := HC.out.cell 1
    have kC2 : v2.cell? ⟨w.heap.size + 1, 2, none⟩ = some (.int .i64 mo) := HC.out.cell 2
    have kC3 : v2.cell? ⟨w.heap.size + 1, 3, none⟩ = some (.int .i64 le) := HC.out.cell 3
    have kC4 : v2.cell? ⟨w.heap.size + 1, 4, none⟩ = some (.bool bw) := HC.out.cell 4
    have kC5 : v2.cell? ⟨w.heap.size + 1, 5, none⟩ = some (.slice RA rn rc) := HC.out.cell 5
    have kT0 : v2.cell? ⟨w.heap.size + 1 + 1, 0, none⟩ = some (.int .u64 x) := HT.out.cell 0
    have kT1 : v2.cell? ⟨w.heap.size + 1 + 1, 1, none⟩ = some (.int .u64 y) := HT.out.cell 1
    have kP0 : v2.cell? ⟨w.heap.size + 1 + 1 + 1, 0, none⟩ = some (.int .i64 i0) := HP.out.cell 0
    have kP1 : v2.cell? ⟨w.heap.size + 1 + 1 + 1, 1, none⟩ = some (.int .i64 i1) := HP.out.cell 1
    have kP2 : v2.cell? ⟨w.heap.size + 1 + 1 + 1, 2, none⟩ = some (.int .i64 fr) := HP.out.cell 2
    have kP3 : v2.cell? ⟨w.heap.size + 1 + 1 + 1, 3, none⟩ = some (.int .i64 to) := HP.out.cell 3
    cases ht
    · go_wp2_with fail
      go_ret
      exact ⟨nret (by rw [HRS.out, HOW.out]; simp <;> omega), EE.out⟩
    · go_wp2_with fail
      go_ret
      exact ⟨nret (by rw [HRS.out, HOW.out]; simp <;> omega), EE.out⟩
end Go.Proofs.YtbjcigkakeffmaaDoor
