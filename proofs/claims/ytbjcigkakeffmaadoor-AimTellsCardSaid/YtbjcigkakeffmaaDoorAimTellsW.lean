/- The walk of AimTells: it answers true for every input, and leaves all old blocks as they were. No condition but the laid tables, which are tied to the text. -/
import Derived.Test.YtbjcigkakeffmaaDoorRows
import Derived.Test.YtbjcigkakeffmaaDoorKitM
import Derived.Test.YtbjcigkakeffmaaDoorRowN
import Derived.Test.YtbjcigkakeffmaaDoorAtKit
import Derived.Test.YtbjcigkakeffmaaDoorEnergyMin
import Derived.Test.YtbjcigkakeffmaaDoorCmp
import Derived.Test.YtbjcigkakeffmaaDoorPlaceA
import Derived.Test.YtbjcigkakeffmaaDoorVetA
import Derived.Test.YtbjcigkakeffmaaDoorVetB
import Derived.Test.YtbjcigkakeffmaaDoorNearMath
import Derived.Test.YtbjcigkakeffmaaDoorNearA
import Derived.Test.YtbjcigkakeffmaaDoorNearB
import Derived.Test.YtbjcigkakeffmaaDoorNearC
import Derived.Test.YtbjcigkakeffmaaDoorNearG
import Derived.Test.YtbjcigkakeffmaaDoorNearI
import Derived.Test.YtbjcigkakeffmaaDoorBitM
import Derived.Test.YtbjcigkakeffmaaDoorBitsU
import Derived.Test.YtbjcigkakeffmaaDoorWantA
import Derived.Test.YtbjcigkakeffmaaDoorWantB
import Derived.Test.YtbjcigkakeffmaaDoorWantC
import Derived.Test.YtbjcigkakeffmaaDoorEtaA
import Derived.Test.YtbjcigkakeffmaaDoorEtaB
import Derived.Test.YtbjcigkakeffmaaDoorEtaMath
import Derived.Test.YtbjcigkakeffmaaDoorEtaC
import Derived.Test.YtbjcigkakeffmaaDoorEtaD
import Derived.Test.YtbjcigkakeffmaaDoorEtaF
import Derived.Test.YtbjcigkakeffmaaDoorEtaG
import Derived.Test.YtbjcigkakeffmaaDoorAimA
import Derived.Test.YtbjcigkakeffmaaDoorAimB
import Derived.WalkKit
import Derived.ProofKit
import Derived.OpenShut
import Derived.Deep.QuietTactic
import Derived.BigQuiet
import Derived.Lib.SmallJoins
import Derived.Lib.Hide
import Derived.WalkSpells
import Derived.WalkLawsBesides
import Derived.Laws.MakeOwn
import Derived.Maps.AppendAt
import Derived.Deep.AppendLies
import Derived.OwnWalk
import Derived.BigRegion
import Derived.IntWalk
import Derived.Deep.RegionHeld3
import Derived.Deep.LoopGhost
import Derived.Lib.LaidU8
import Derived.Lib.LaidTab
import Derived.Lib.TrailingZeros
namespace Go.Proofs.YtbjcigkakeffmaaDoor.aimTells
open Go.ChangeShapes Go.WideShapes Go.ChangeAt Go.RowKit Go.Joins
set_option linter.unusedSimpArgs false
set_option linter.unusedVariables false

theorem bz_gT : Tryd.prog.globalNamed "math/bits.deBruijn64tab" = some 0 := by kernel_rfl
theorem bz_gTType : (Tryd.prog.globals[0]?).map (·.type) = some 97 := by kernel_rfl
theorem tz_of_laid {w : World} (h0 : laidMetH Tryd.prog Rows.aimTellsRow.laid w) : TzT w := by
  have h : laidMet Tryd.prog Rows.aimTellsRow.laid w := h0
  obtain ⟨g', t', cs, fuel, p, hg', ht', hvar, hd⟩ := Lib.laidMet.reads h (.head _)
  obtain rfl := Option.some.inj (bz_gT.symm.trans hg')
  obtain rfl := Option.some.inj (bz_gTType.symm.trans ht')
  have e := Lib.cells_of_tab (zs := Lib.deBruijn64tab.map Int.ofNat) Tryd.underlying97 Tryd.underlying5 (by kernel_rfl) (by kernel_rfl) hd
  unfold World.var? at hvar
  rw [bz_gT] at hvar
  simp only [Option.bind_some] at hvar
  split at hvar
  · rename_i cs' t fr hg
    cases hvar
    intro j hj
    show w.cell? _ = _
    rw [cell_of_row w _ j cs t fr hg, ← Array.getElem?_toList, e, List.getElem?_map, List.getElem?_map, List.getElem?_eq_getElem hj, List.getD_eq_getElem?_getD, List.getElem?_eq_getElem hj]
    rfl
  · cases hvar
theorem numsN {s : Nat → Int} (h0 : 2 ≤ s 0 ∧ s 0 ≤ 128) (h1 : 1 ≤ s 1 ∧ s 1 ≤ 16) (h : NumsOk (numV (s 0) (s 1) (s 2) (s 3) (s 4) (s 5) (s 6) (s 7) (s 10) (s 11) (s 12)) 11) : InN s :=
  ⟨h1.1, h1.2, h0.1, h0.2, of_decide_eq_true (h 4 (by decide)), of_decide_eq_true (h 5 (by decide)), of_decide_eq_true (h 6 (by decide)), of_decide_eq_true (h 7 (by decide))⟩
set_option maxRecDepth 100000 in
set_option maxHeartbeats 32000000 in
theorem walk_f (s : Nat → Int) (A C ZA : Option Addr) (n c k d K zd : Nat) (z : Nat → Nat → Int) (v : Nat → Nat → Value) (sz : Nat → Nat → Int) (i0 i1 fr to : Int) (w : World) (hT : TzT w) (hr : RdZ w 3 A n z) (hv : RdV w 6 shCar C k v) (hs : RdK w .u64 2 ZA K sz) (hK : K ≤ zd) (hKm : zd ≤ maxLen) (hkm : k ≤ maxLen) :
    Calls Tryd.prog 4 #[scnV s A n c, .slice C k d, .agg #[.slice ZA K zd, .int .i64 i0, .int .i64 i1, .int .i64 fr, .int .i64 to]] w fun e w' => e = .returned (.bool true) ∧ Below w.heap.size w w' := by
  obtain ⟨ii, hi, hz0, hz1, hz2⟩ := info_parts mkInfo
  have WC := fun w (hr : RdZ w 3 A n z) (hv : RdV w 6 shCar C k v) => withinC_any s A C n c k d z v w hr hv
  have WS := fun w (hs : RdK w .u64 2 ZA K sz) => stops_any s A n c ZA K zd sz w hs hK hKm
  have EB := fun hN hI m0 m1 hk w hT hv hz => abest_any s A C ZA n c k d K zd v sz i0 i1 fr to w hT hv hz hk hN hI m0 m1
  have EO := fun hN hI m0 m1 i p q mo le bw R rk rc w hT hi hp hd hm hl hr => am_prog s A n c v sz k K i0 i1 fr to i p q mo le bw R rk rc w hT hN hI m0 m1 hi hp hd hm hl hr
  have RO := fun hN hI m0 m1 i p q mo le bw R rk rc w hi hp hd hm hl hr => am_law s A n c v sz k K i0 i1 fr to i p q mo le bw R rk rc w hN hI m0 m1 hi hp hd hm hl hr
  unfold scnV at *
  have JWC := Lib.hid WC; have JWS := Lib.hid WS; have JEB := Lib.hid EB; have JEO := Lib.hid EO; have JRO := Lib.hid RO
  have JT := Lib.hid hT; have JR := Lib.hid hr; have JV := Lib.hid hv; have JS := Lib.hid hs
  unfold maxLen at hKm hkm
  have kI : (k : Int) ≤ 9223372036854775807 := by omega
  have KI : (K : Int) ≤ 9223372036854775807 := by omega
  clear WC WS EB EO RO hT hr hv hs
  go_enter Tryd.func4, Tryd.ntmps4
  go_wp2_with fail
  have BS := ((Blk.new w #[.int .i64 (s 0), .int .i64 (s 1), .int .i64 (s 2), .int .i64 (s 3), .int .i64 (s 4), .int .i64 (s 5), .int .i64 (s 6), .int .i64 (s 7), .slice A n c, .int .i64 (s 9), .int .i64 (s 10), .int .i64 (s 11), .int .i64 (s 12)] 25).alloc (.cells #[.slice ZA K zd, .int .i64 i0, .int .i64 i1, .int .i64 fr, .int .i64 to] 47)).alloc (.cells #[.int .i64 i0, .int .i64 i1, .int .i64 fr, .int .i64 to] 45)
  have BK := (Blk.new (w.alloc (.cells #[.int .i64 (s 0), .int .i64 (s 1), .int .i64 (s 2), .int .i64 (s 3), .int .i64 (s 4), .int .i64 (s 5), .int .i64 (s 6), .int .i64 (s 7), .slice A n c, .int .i64 (s 9), .int .i64 (s 10), .int .i64 (s 11), .int .i64 (s 12)] 25)) #[.slice ZA K zd, .int .i64 i0, .int .i64 i1, .int .i64 fr, .int .i64 to] 47).alloc (.cells #[.int .i64 i0, .int .i64 i1, .int .i64 fr, .int .i64 to] 45)
  rw [World.size_alloc] at BK
  have BP := Blk.new ((w.alloc (.cells #[.int .i64 (s 0), .int .i64 (s 1), .int .i64 (s 2), .int .i64 (s 3), .int .i64 (s 4), .int .i64 (s 5), .int .i64 (s 6), .int .i64 (s 7), .slice A n c, .int .i64 (s 9), .int .i64 (s 10), .int .i64 (s 11), .int .i64 (s 12)] 25)).alloc (.cells #[.slice ZA K zd, .int .i64 i0, .int .i64 i1, .int .i64 fr, .int .i64 to] 47)) #[.int .i64 i0, .int .i64 i1, .int .i64 fr, .int .i64 to] 45
  rw [World.size_alloc, World.size_alloc] at BP
  have BE : Below w.heap.size w (((w.alloc (.cells #[.int .i64 (s 0), .int .i64 (s 1), .int .i64 (s 2), .int .i64 (s 3), .int .i64 (s 4), .int .i64 (s 5), .int .i64 (s 6), .int .i64 (s 7), .slice A n c, .int .i64 (s 9), .int .i64 (s 10), .int .i64 (s 11), .int .i64 (s 12)] 25)).alloc (.cells #[.slice ZA K zd, .int .i64 i0, .int .i64 i1, .int .i64 fr, .int .i64 to] 47)).alloc (.cells #[.int .i64 i0, .int .i64 i1, .int .i64 fr, .int .i64 to] 45)) := (((Below.refl w.heap.size w).alloc (Nat.le_refl _) _).alloc (by simp <;> omega) _).alloc (by simp <;> omega) _
  obtain ⟨V0, hV0⟩ : ∃ V, (((w.alloc (.cells #[.int .i64 (s 0), .int .i64 (s 1), .int .i64 (s 2), .int .i64 (s 3), .int .i64 (s 4), .int .i64 (s 5), .int .i64 (s 6), .int .i64 (s 7), .slice A n c, .int .i64 (s 9), .int .i64 (s 10), .int .i64 (s 11), .int .i64 (s 12)] 25)).alloc (.cells #[.slice ZA K zd, .int .i64 i0, .int .i64 i1, .int .i64 fr, .int .i64 to] 47)).alloc (.cells #[.int .i64 i0, .int .i64 i1, .int .i64 fr, .int .i64 to] 45)) = V := ⟨_, rfl⟩
  rw [hV0] at BS BK BP BE ⊢
  have HS := Lib.hid BS
  have HK := Lib.hid BK
  have HP := Lib.hid BP
  have EE := Lib.hid BE
  have ne0_1 : w.heap.size ≠ w.heap.size + 1 := by omega
  have ne0_2 : w.heap.size ≠ w.heap.size + 1 + 1 := by omega
  have ne1_0 : w.heap.size + 1 ≠ w.heap.size := by omega
  have ne1_2 : w.heap.size + 1 ≠ w.heap.size + 1 + 1 := by omega
  have ne2_0 : w.heap.size + 1 + 1 ≠ w.heap.size := by omega
  have ne2_1 : w.heap.size + 1 + 1 ≠ w.heap.size + 1 := by omega
  clear hV0 BE BS BK BP
  have kS0 : V0.cell? ⟨w.heap.size, 0, none⟩ = some (.int .i64 (s 0)) := HS.out.cell 0
  have kS1 : V0.cell? ⟨w.heap.size, 1, none⟩ = some (.int .i64 (s 1)) := HS.out.cell 1
  have kS2 : V0.cell? ⟨w.heap.size, 2, none⟩ = some (.int .i64 (s 2)) := HS.out.cell 2
  have kS3 : V0.cell? ⟨w.heap.size, 3, none⟩ = some (.int .i64 (s 3)) := HS.out.cell 3
  have kS4 : V0.cell? ⟨w.heap.size, 4, none⟩ = some (.int .i64 (s 4)) := HS.out.cell 4
  have kS5 : V0.cell? ⟨w.heap.size, 5, none⟩ = some (.int .i64 (s 5)) := HS.out.cell 5
  have kS6 : V0.cell? ⟨w.heap.size, 6, none⟩ = some (.int .i64 (s 6)) := HS.out.cell 6
  have kS7 : V0.cell? ⟨w.heap.size, 7, none⟩ = some (.int .i64 (s 7)) := HS.out.cell 7
  have kS8 : V0.cell? ⟨w.heap.size, 8, none⟩ = some (.slice A n c) := HS.out.cell 8
  have kS9 : V0.cell? ⟨w.heap.size, 9, none⟩ = some (.int .i64 (s 9)) := HS.out.cell 9
  have kS10 : V0.cell? ⟨w.heap.size, 10, none⟩ = some (.int .i64 (s 10)) := HS.out.cell 10
  have kS11 : V0.cell? ⟨w.heap.size, 11, none⟩ = some (.int .i64 (s 11)) := HS.out.cell 11
  have kS12 : V0.cell? ⟨w.heap.size, 12, none⟩ = some (.int .i64 (s 12)) := HS.out.cell 12
  have kK0 : V0.cell? ⟨w.heap.size + 1, 0, none⟩ = some (.slice ZA K zd) := HK.out.cell 0
  have kK1 : V0.cell? ⟨w.heap.size + 1, 1, none⟩ = some (.int .i64 i0) := HK.out.cell 1
  have kK2 : V0.cell? ⟨w.heap.size + 1, 2, none⟩ = some (.int .i64 i1) := HK.out.cell 2
  have kK3 : V0.cell? ⟨w.heap.size + 1, 3, none⟩ = some (.int .i64 fr) := HK.out.cell 3
  have kK4 : V0.cell? ⟨w.heap.size + 1, 4, none⟩ = some (.int .i64 to) := HK.out.cell 4
  have kP0 : V0.cell? ⟨w.heap.size + 1 + 1, 0, none⟩ = some (.int .i64 i0) := HP.out.cell 0
  have kP1 : V0.cell? ⟨w.heap.size + 1 + 1, 1, none⟩ = some (.int .i64 i1) := HP.out.cell 1
  have kP2 : V0.cell? ⟨w.heap.size + 1 + 1, 2, none⟩ = some (.int .i64 fr) := HP.out.cell 2
  have kP3 : V0.cell? ⟨w.heap.size + 1 + 1, 3, none⟩ = some (.int .i64 to) := HP.out.cell 3
  go_wp2_with fail
  refine (JWC.out _ (JR.out.kept EE.out) (JV.out.kept EE.out)).mono ?_
  rintro e v1 ⟨b1, rfl, hb, hW⟩
  have HW := Lib.hid hW
  clear hW
  clear kS0 kS1 kS2 kS3 kS4 kS5 kS6 kS7 kS8 kS9 kS10 kS11 kS12 kK0 kK1 kK2 kK3 kK4 kP0 kP1 kP2 kP3
  have HS := Lib.hid (Blk.next (w := V0) HS.out hb)
  have HK := Lib.hid (Blk.next (w := V0) HK.out hb)
  have HP := Lib.hid (Blk.next (w := V0) HP.out hb)
  have EE := Lib.hid (EE.out.trans (hb.mono EE.out.size))
  clear hb
  have kS0 : v1.cell? ⟨w.heap.size, 0, none⟩ = some (.int .i64 (s 0)) := HS.out.cell 0
  have kS1 : v1.cell? ⟨w.heap.size, 1, none⟩ = some (.int .i64 (s 1)) := HS.out.cell 1
  have kS2 : v1.cell? ⟨w.heap.size, 2, none⟩ = some (.int .i64 (s 2)) := HS.out.cell 2
  have kS3 : v1.cell? ⟨w.heap.size, 3, none⟩ = some (.int .i64 (s 3)) := HS.out.cell 3
  have kS4 : v1.cell? ⟨w.heap.size, 4, none⟩ = some (.int .i64 (s 4)) := HS.out.cell 4
  have kS5 : v1.cell? ⟨w.heap.size, 5, none⟩ = some (.int .i64 (s 5)) := HS.out.cell 5
  have kS6 : v1.cell? ⟨w.heap.size, 6, none⟩ = some (.int .i64 (s 6)) := HS.out.cell 6
  have kS7 : v1.cell? ⟨w.heap.size, 7, none⟩ = some (.int .i64 (s 7)) := HS.out.cell 7
  have kS8 : v1.cell? ⟨w.heap.size, 8, none⟩ = some (.slice A n c) := HS.out.cell 8
  have kS9 : v1.cell? ⟨w.heap.size, 9, none⟩ = some (.int .i64 (s 9)) := HS.out.cell 9
  have kS10 : v1.cell? ⟨w.heap.size, 10, none⟩ = some (.int .i64 (s 10)) := HS.out.cell 10
  have kS11 : v1.cell? ⟨w.heap.size, 11, none⟩ = some (.int .i64 (s 11)) := HS.out.cell 11
  have kS12 : v1.cell? ⟨w.heap.size, 12, none⟩ = some (.int .i64 (s 12)) := HS.out.cell 12
  have kK0 : v1.cell? ⟨w.heap.size + 1, 0, none⟩ = some (.slice ZA K zd) := HK.out.cell 0
  have kK1 : v1.cell? ⟨w.heap.size + 1, 1, none⟩ = some (.int .i64 i0) := HK.out.cell 1
  have kK2 : v1.cell? ⟨w.heap.size + 1, 2, none⟩ = some (.int .i64 i1) := HK.out.cell 2
  have kK3 : v1.cell? ⟨w.heap.size + 1, 3, none⟩ = some (.int .i64 fr) := HK.out.cell 3
  have kK4 : v1.cell? ⟨w.heap.size + 1, 4, none⟩ = some (.int .i64 to) := HK.out.cell 4
  have kP0 : v1.cell? ⟨w.heap.size + 1 + 1, 0, none⟩ = some (.int .i64 i0) := HP.out.cell 0
  have kP1 : v1.cell? ⟨w.heap.size + 1 + 1, 1, none⟩ = some (.int .i64 i1) := HP.out.cell 1
  have kP2 : v1.cell? ⟨w.heap.size + 1 + 1, 2, none⟩ = some (.int .i64 fr) := HP.out.cell 2
  have kP3 : v1.cell? ⟨w.heap.size + 1 + 1, 3, none⟩ = some (.int .i64 to) := HP.out.cell 3
  cases b1
  · go_wp2_with fail
    go_ret
    exact ⟨rfl, EE.out⟩
  · go_wp2_with fail
    refine (JWS.out _ (JS.out.kept EE.out)).mono ?_
    rintro e v2 ⟨b2, rfl, hb, hW2⟩
    clear hW2
    clear kS0 kS1 kS2 kS3 kS4 kS5 kS6 kS7 kS8 kS9 kS10 kS11 kS12 kK0 kK1 kK2 kK3 kK4 kP0 kP1 kP2 kP3
    have HS := Lib.hid (Blk.next (w := v1) HS.out hb)
    have HK := Lib.hid (Blk.next (w := v1) HK.out hb)
    have HP := Lib.hid (Blk.next (w := v1) HP.out hb)
    have EE := Lib.hid (EE.out.trans (hb.mono EE.out.size))
    clear hb
    have kS0 : v2.cell? ⟨w.heap.size, 0, none⟩ = some (.int .i64 (s 0)) := HS.out.cell 0
    have kS1 : v2.cell? ⟨w.heap.size, 1, none⟩ = some (.int .i64 (s 1)) := HS.out.cell 1
    have kS2 : v2.cell? ⟨w.heap.size, 2, none⟩ = some (.int .i64 (s 2)) := HS.out.cell 2
    have kS3 : v2.cell? ⟨w.heap.size, 3, none⟩ = some (.int .i64 (s 3)) := HS.out.cell 3
    have kS4 : v2.cell? ⟨w.heap.size, 4, none⟩ = some (.int .i64 (s 4)) := HS.out.cell 4
    have kS5 : v2.cell? ⟨w.heap.size, 5, none⟩ = some (.int .i64 (s 5)) := HS.out.cell 5
    have kS6 : v2.cell? ⟨w.heap.size, 6, none⟩ = some (.int .i64 (s 6)) := HS.out.cell 6
    have kS7 : v2.cell? ⟨w.heap.size, 7, none⟩ = some (.int .i64 (s 7)) := HS.out.cell 7
    have kS8 : v2.cell? ⟨w.heap.size, 8, none⟩ = some (.slice A n c) := HS.out.cell 8
    have kS9 : v2.cell? ⟨w.heap.size, 9, none⟩ = some (.int .i64 (s 9)) := HS.out.cell 9
    have kS10 : v2.cell? ⟨w.heap.size, 10, none⟩ = some (.int .i64 (s 10)) := HS.out.cell 10
    have kS11 : v2.cell? ⟨w.heap.size, 11, none⟩ = some (.int .i64 (s 11)) := HS.out.cell 11
    have kS12 : v2.cell? ⟨w.heap.size, 12, none⟩ = some (.int .i64 (s 12)) := HS.out.cell 12
    have kK0 : v2.cell? ⟨w.heap.size + 1, 0, none⟩ = some (.slice ZA K zd) := HK.out.cell 0
    have kK1 : v2.cell? ⟨w.heap.size + 1, 1, none⟩ = some (.int .i64 i0) := HK.out.cell 1
    have kK2 : v2.cell? ⟨w.heap.size + 1, 2, none⟩ = some (.int .i64 i1) := HK.out.cell 2
    have kK3 : v2.cell? ⟨w.heap.size + 1, 3, none⟩ = some (.int .i64 fr) := HK.out.cell 3
    have kK4 : v2.cell? ⟨w.heap.size + 1, 4, none⟩ = some (.int .i64 to) := HK.out.cell 4
    have kP0 : v2.cell? ⟨w.heap.size + 1 + 1, 0, none⟩ = some (.int .i64 i0) := HP.out.cell 0
    have kP1 : v2.cell? ⟨w.heap.size + 1 + 1, 1, none⟩ = some (.int .i64 i1) := HP.out.cell 1
    have kP2 : v2.cell? ⟨w.heap.size + 1 + 1, 2, none⟩ = some (.int .i64 fr) := HP.out.cell 2
    have kP3 : v2.cell? ⟨w.heap.size + 1 + 1, 3, none⟩ = some (.int .i64 to) := HP.out.cell 3
    cases b2
    · go_wp2_with fail
      go_ret
      exact ⟨rfl, EE.out⟩
    · rcases (show fr < 0 ∨ (0 ≤ fr ∧ s 0 ≤ fr) ∨ (0 ≤ fr ∧ fr < s 0 ∧ to < 0) ∨ (0 ≤ fr ∧ fr < s 0 ∧ 0 ≤ to ∧ s 0 ≤ to) ∨ (0 ≤ fr ∧ fr < s 0 ∧ 0 ≤ to ∧ to < s 0 ∧ (fr == to) = true) ∨ (0 ≤ fr ∧ fr < s 0 ∧ 0 ≤ to ∧ to < s 0 ∧ (fr == to) = false) by cases h : (fr == to) <;> simp <;> omega) with h | ⟨h, h1⟩ | ⟨h, h1, h2⟩ | ⟨h, h1, h2, h3⟩ | ⟨h, h1, h2, h3, h4⟩ | ⟨h, h1, h3, h4, h5⟩
      · go_wp2_with fail
        go_ret
        exact ⟨rfl, EE.out⟩
      · go_wp2_with fail
        go_ret
        exact ⟨rfl, EE.out⟩
      · go_wp2_with fail
        go_ret
        exact ⟨rfl, EE.out⟩
      · go_wp2_with fail
        go_ret
        exact ⟨rfl, EE.out⟩
      · go_wp2_with fail
        go_ret
        exact ⟨rfl, EE.out⟩
      · have HN0 := HW.out (by first | rfl | trivial)
        obtain ⟨hk16, b0, b1, hI, hNm⟩ := HN0
        have hN := numsN b0 b1 hNm
        have m0 : 0 ≤ fr * s 1 := Int.mul_nonneg h (by omega)
        have m1 : fr * s 1 ≤ 127 * 16 := Int.mul_le_mul (by omega) (by omega) (by omega) (by omega)
        have AMB := Lib.hid (fun i (hi : i < k) => am_bd (z := sz) (K := K) (to := to) hN hI m0 (by omega) hi)
        have O1 := fun i p q mo le bw R rk rc w hT hi hp hd hm hl hr => JEO.out hN hI m0 (by omega) i p q mo le bw R rk rc w hT hi hp hd hm hl hr
        have O2 := fun i p q mo le bw R rk rc w hi hp hd hm hl hr => JRO.out hN hI m0 (by omega) i p q mo le bw R rk rc w hi hp hd hm hl hr
        have B1 := fun w hT hv hz => JEB.out hN hI m0 (by omega) hk16 w hT hv hz
        obtain ⟨f, hf⟩ : ∃ f, amF s v sz K fr to = f := ⟨_, rfl⟩
        rw [hf] at AMB
        simp only [hf] at O1 O2 B1
        have JO1 := Lib.hid O1; have JO2 := Lib.hid O2; have JB1 := Lib.hid B1
        clear hI hNm hN m0 m1 JEB JRO JEO HW JWC JWS b0 b1 O1 O2 B1 hf
        go_wp2_with fail
        clear kS0 kS1 kS2 kS3 kS4 kS5 kS6 kS7 kS8 kS9 kS10 kS11 kS12 kK0 kK1 kK2 kK3 kK4 kP0 kP1 kP2 kP3
        obtain ⟨X0, hX0⟩ : ∃ X, v2 = X := ⟨_, rfl⟩
        rw [hX0] at HS HK HP EE ⊢
        clear hX0
        have hX0s : w.heap.size + 1 + 1 + 1 ≤ X0.heap.size := by have := HP.out.lt; omega
        have HX := Lib.hid hX0s
        clear hX0s
        go_loopw [8, 9] (fun V i wr => ∃ j : Nat, j ≤ k ∧ i = .int .i64 j ∧ Below w.heap.size w wr ∧ wr.ownsRow (w.heap.size + 1 + 1 + 1) 3 1 V j ((rowL f j).map (Value.int .i64)) ∧ Blk wr (w.heap.size) 25 #[.int .i64 (s 0), .int .i64 (s 1), .int .i64 (s 2), .int .i64 (s 3), .int .i64 (s 4), .int .i64 (s 5), .int .i64 (s 6), .int .i64 (s 7), .slice A n c, .int .i64 (s 9), .int .i64 (s 10), .int .i64 (s 11), .int .i64 (s 12)] ∧ Blk wr (w.heap.size + 1) 47 #[.slice ZA K zd, .int .i64 i0, .int .i64 i1, .int .i64 fr, .int .i64 to] ∧ Blk wr (w.heap.size + 1 + 1) 45 #[.int .i64 i0, .int .i64 i1, .int .i64 fr, .int .i64 to]) (fun _ i _ => k - (intOf i).toNat)
        case atStart => exact ⟨0, by omega, rfl, EE.out, World.ownsRow_nil _ _ _ _, HS.out, HK.out, HP.out⟩
        case round =>
          clear EE HS HK HP
          obtain ⟨j, hj, rfl, hE0, hown, hS0, hK0, hP0⟩ := hrel
          have EE := Lib.hid hE0; have HS := Lib.hid hS0; have HK := Lib.hid hK0; have HP := Lib.hid hP0
          clear hE0 hS0 hK0 hP0
          obtain ⟨vA, vc, hvv⟩ := mkSlice hown
          subst hvv
          have kS0 : wr.cell? ⟨w.heap.size, 0, none⟩ = some (.int .i64 (s 0)) := HS.out.cell 0
          have kS1 : wr.cell? ⟨w.heap.size, 1, none⟩ = some (.int .i64 (s 1)) := HS.out.cell 1
          have kS2 : wr.cell? ⟨w.heap.size, 2, none⟩ = some (.int .i64 (s 2)) := HS.out.cell 2
          have kS3 : wr.cell? ⟨w.heap.size, 3, none⟩ = some (.int .i64 (s 3)) := HS.out.cell 3
          have kS4 : wr.cell? ⟨w.heap.size, 4, none⟩ = some (.int .i64 (s 4)) := HS.out.cell 4
          have kS5 : wr.cell? ⟨w.heap.size, 5, none⟩ = some (.int .i64 (s 5)) := HS.out.cell 5
          have kS6 : wr.cell? ⟨w.heap.size, 6, none⟩ = some (.int .i64 (s 6)) := HS.out.cell 6
          have kS7 : wr.cell? ⟨w.heap.size, 7, none⟩ = some (.int .i64 (s 7)) := HS.out.cell 7
          have kS8 : wr.cell? ⟨w.heap.size, 8, none⟩ = some (.slice A n c) := HS.out.cell 8
          have kS9 : wr.cell? ⟨w.heap.size, 9, none⟩ = some (.int .i64 (s 9)) := HS.out.cell 9
          have kS10 : wr.cell? ⟨w.heap.size, 10, none⟩ = some (.int .i64 (s 10)) := HS.out.cell 10
          have kS11 : wr.cell? ⟨w.heap.size, 11, none⟩ = some (.int .i64 (s 11)) := HS.out.cell 11
          have kS12 : wr.cell? ⟨w.heap.size, 12, none⟩ = some (.int .i64 (s 12)) := HS.out.cell 12
          have kK0 : wr.cell? ⟨w.heap.size + 1, 0, none⟩ = some (.slice ZA K zd) := HK.out.cell 0
          have kK1 : wr.cell? ⟨w.heap.size + 1, 1, none⟩ = some (.int .i64 i0) := HK.out.cell 1
          have kK2 : wr.cell? ⟨w.heap.size + 1, 2, none⟩ = some (.int .i64 i1) := HK.out.cell 2
          have kK3 : wr.cell? ⟨w.heap.size + 1, 3, none⟩ = some (.int .i64 fr) := HK.out.cell 3
          have kK4 : wr.cell? ⟨w.heap.size + 1, 4, none⟩ = some (.int .i64 to) := HK.out.cell 4
          have kP0 : wr.cell? ⟨w.heap.size + 1 + 1, 0, none⟩ = some (.int .i64 i0) := HP.out.cell 0
          have kP1 : wr.cell? ⟨w.heap.size + 1 + 1, 1, none⟩ = some (.int .i64 i1) := HP.out.cell 1
          have kP2 : wr.cell? ⟨w.heap.size + 1 + 1, 2, none⟩ = some (.int .i64 fr) := HP.out.cell 2
          have kP3 : wr.cell? ⟨w.heap.size + 1 + 1, 3, none⟩ = some (.int .i64 to) := HP.out.cell 3
          by_cases h2 : j < k
          · have RV := JV.out.kept EE.out
            obtain ⟨y, bw, R, rk, rc, e0, e1, e2, e3, e4, e5, rm, _, _⟩ := car_at RV h2
            obtain ⟨b, off, rfl, hlt0, _⟩ := rdV_row JV.out (by omega) (by omega)
            obtain ⟨b', off', e', hlt, hcl⟩ := rdV_row RV (by omega) (by omega)
            cases e'
            have c0 : wr.cell? ⟨b, off + j * 6, none⟩ = some (.int .i64 (y 0)) := (hcl j 0 h2 (by omega)).trans (by rw [e0])
            have HC := Lib.hid (at6 c0 ((hcl j 1 h2 (by omega)).trans (congrArg some e1)) ((hcl j 2 h2 (by omega)).trans (congrArg some e2)) ((hcl j 3 h2 (by omega)).trans (congrArg some e3)) ((hcl j 4 h2 (by omega)).trans (congrArg some e4)) ((hcl j 5 h2 (by omega)).trans (congrArg some e5)))
            have P1 := fun w hT => JO1.out j (y 0) (y 1) (y 2) (y 3) bw R rk rc w hT h2 (by rw [e0]; rfl) (by rw [e1]; rfl) (by rw [e2]; rfl) (by rw [e3]; rfl) e5
            have P2 := fun w => JO2.out j (y 0) (y 1) (y 2) (y 3) bw R rk rc w h2 (by rw [e0]; rfl) (by rw [e1]; rfl) (by rw [e2]; rfl) (by rw [e3]; rfl) e5
            obtain ⟨p, hp⟩ : ∃ p, y 0 = p := ⟨_, rfl⟩
            obtain ⟨q, hq⟩ : ∃ p, y 1 = p := ⟨_, rfl⟩
            obtain ⟨mo, hmo⟩ : ∃ p, y 2 = p := ⟨_, rfl⟩
            obtain ⟨le, hle⟩ : ∃ p, y 3 = p := ⟨_, rfl⟩
            obtain ⟨x, hx⟩ : ∃ q, f j = q := ⟨_, rfl⟩
            have HXV := Lib.hid hx
            simp only [hx] at P1 P2
            rw [hp, hq, hmo, hle] at HC
            simp only [hp, hq, hmo, hle] at P1 P2
            unfold carV at P1 P2
            have j0 : (0 : Int) ≤ (j : Int) := Int.natCast_nonneg _
            have j1 : (j : Int) < (k : Int) := by omega
            have j2 : (j : Int) < (j : Int) + 1 := by omega
            have qe : (x != x) = false := by simp
            have agb : (Value.slice vA j vc).ownBlock ≠ some b := fun e => by have := ownR_ge hown e; omega
            have agS : (Value.slice vA j vc).ownBlock ≠ some w.heap.size := fun e => by have := ownR_ge hown e; omega
            have agK : (Value.slice vA j vc).ownBlock ≠ some (w.heap.size + 1) := fun e => by have := ownR_ge hown e; omega
            have agP : (Value.slice vA j vc).ownBlock ≠ some (w.heap.size + 1 + 1) := fun e => by have := ownR_ge hown e; omega
            have agg : (Value.slice vA j vc).ownBlock ≠ some wr.heap.size := fun e => by have := hown.lt _ e; omega
            have HO := Lib.hid hown
            have gr3 : w.heap.size + 1 + 1 + 1 ≤ wr.heap.size := by have := HP.out.lt; omega
            clear RV hcl c0 e0 e1 e2 e3 e4 e5 hp hq hmo hle hx hown
            by_cases hK2 : j < K
            · rw [st_in hK2] at P1 P2
              obtain ⟨bb, oo, rfl, hltS, hcs⟩ := rdK_row (JS.out.kept EE.out) (by omega) (by omega)
              obtain ⟨x0, x1, ex0, ex1, eX⟩ := set_words (JS.out.kept EE.out) (i := j) hK2
              have g0 : wr.cell? ⟨bb, oo + j * 2, none⟩ = some (.int .u64 x0) := (hcs j 0 hK2 (by omega)).trans (by rw [ex0])
              have g1 : wr.cell? ⟨bb, oo + j * 2 + 1, none⟩ = some (.int .u64 x1) := (hcs j 1 hK2 (by omega)).trans (by rw [ex1])
              rw [← eX] at P1 P2
              have JP1 := Lib.hid P1; have JP2 := Lib.hid P2
              have jK : (j : Int) < (K : Int) := by omega
              have decK : decide (j < K) = true := by simpa using hK2
              clear P1 P2 hcs ex0 ex1 eX
              have lS := HS.out.lt
              have lK := HK.out.lt
              have lP := HP.out.lt
              go_wp2_with fail
              clear kS0 kS1 kS2 kS3 kS4 kS5 kS6 kS7 kS8 kS9 kS10 kS11 kS12 kK0 kK1 kK2 kK3 kK4 kP0 kP1 kP2 kP3 lS lK lP
              have HO2 := Lib.hid (HO.out.alloc (.cells #[.int .u64 x0, .int .u64 x1] 40))
              clear HO
              obtain ⟨gz, hgz⟩ : ∃ g, wr.heap.size = g := ⟨_, rfl⟩
              have GZ : Blk (wr.alloc (.cells #[.int .u64 x0, .int .u64 x1] 40)) wr.heap.size 40 #[.int .u64 x0, .int .u64 x1] := Blk.new wr _ _
              have GS := HS.out.alloc (.cells #[.int .u64 x0, .int .u64 x1] 40)
              have GK := HK.out.alloc (.cells #[.int .u64 x0, .int .u64 x1] 40)
              have GP := HP.out.alloc (.cells #[.int .u64 x0, .int .u64 x1] 40)
              have GC := HC.out.alloc (.cells #[.int .u64 x0, .int .u64 x1] 40)
              have GE := EE.out.alloc EE.out.size (.cells #[.int .u64 x0, .int .u64 x1] 40)
              rw [hgz] at GZ agg gr3 ⊢
              clear hgz
              obtain ⟨w2, hw2⟩ : ∃ X, wr.alloc (.cells #[.int .u64 x0, .int .u64 x1] 40) = X := ⟨_, rfl⟩
              rw [hw2] at HO2 GE GS GK GP GC GZ ⊢
              have HS := Lib.hid GS
              have HK := Lib.hid GK
              have HP := Lib.hid GP
              have HC := Lib.hid GC
              have HZ := Lib.hid GZ
              have EE := Lib.hid GE
              clear hw2 GE GS GK GP GC GZ
              have kS0 : w2.cell? ⟨w.heap.size, 0, none⟩ = some (.int .i64 (s 0)) := HS.out.cell 0
              have kS1 : w2.cell? ⟨w.heap.size, 1, none⟩ = some (.int .i64 (s 1)) := HS.out.cell 1
              have kS2 : w2.cell? ⟨w.heap.size, 2, none⟩ = some (.int .i64 (s 2)) := HS.out.cell 2
              have kS3 : w2.cell? ⟨w.heap.size, 3, none⟩ = some (.int .i64 (s 3)) := HS.out.cell 3
              have kS4 : w2.cell? ⟨w.heap.size, 4, none⟩ = some (.int .i64 (s 4)) := HS.out.cell 4
              have kS5 : w2.cell? ⟨w.heap.size, 5, none⟩ = some (.int .i64 (s 5)) := HS.out.cell 5
              have kS6 : w2.cell? ⟨w.heap.size, 6, none⟩ = some (.int .i64 (s 6)) := HS.out.cell 6
              have kS7 : w2.cell? ⟨w.heap.size, 7, none⟩ = some (.int .i64 (s 7)) := HS.out.cell 7
              have kS8 : w2.cell? ⟨w.heap.size, 8, none⟩ = some (.slice A n c) := HS.out.cell 8
              have kS9 : w2.cell? ⟨w.heap.size, 9, none⟩ = some (.int .i64 (s 9)) := HS.out.cell 9
              have kS10 : w2.cell? ⟨w.heap.size, 10, none⟩ = some (.int .i64 (s 10)) := HS.out.cell 10
              have kS11 : w2.cell? ⟨w.heap.size, 11, none⟩ = some (.int .i64 (s 11)) := HS.out.cell 11
              have kS12 : w2.cell? ⟨w.heap.size, 12, none⟩ = some (.int .i64 (s 12)) := HS.out.cell 12
              have kK0 : w2.cell? ⟨w.heap.size + 1, 0, none⟩ = some (.slice (some ⟨bb, oo, none⟩) K zd) := HK.out.cell 0
              have kK1 : w2.cell? ⟨w.heap.size + 1, 1, none⟩ = some (.int .i64 i0) := HK.out.cell 1
              have kK2 : w2.cell? ⟨w.heap.size + 1, 2, none⟩ = some (.int .i64 i1) := HK.out.cell 2
              have kK3 : w2.cell? ⟨w.heap.size + 1, 3, none⟩ = some (.int .i64 fr) := HK.out.cell 3
              have kK4 : w2.cell? ⟨w.heap.size + 1, 4, none⟩ = some (.int .i64 to) := HK.out.cell 4
              have kP0 : w2.cell? ⟨w.heap.size + 1 + 1, 0, none⟩ = some (.int .i64 i0) := HP.out.cell 0
              have kP1 : w2.cell? ⟨w.heap.size + 1 + 1, 1, none⟩ = some (.int .i64 i1) := HP.out.cell 1
              have kP2 : w2.cell? ⟨w.heap.size + 1 + 1, 2, none⟩ = some (.int .i64 fr) := HP.out.cell 2
              have kP3 : w2.cell? ⟨w.heap.size + 1 + 1, 3, none⟩ = some (.int .i64 to) := HP.out.cell 3
              have kC0 : w2.cell? ⟨b, off + j * 6, none⟩ = some (.int .i64 p) := HC.out 0 _ rfl
              have kC1 : w2.cell? ⟨b, off + j * 6 + 1, none⟩ = some (.int .i64 q) := HC.out 1 _ rfl
              have kC2 : w2.cell? ⟨b, off + j * 6 + 2, none⟩ = some (.int .i64 mo) := HC.out 2 _ rfl
              have kC3 : w2.cell? ⟨b, off + j * 6 + 3, none⟩ = some (.int .i64 le) := HC.out 3 _ rfl
              have kC4 : w2.cell? ⟨b, off + j * 6 + 4, none⟩ = some (.bool bw) := HC.out 4 _ rfl
              have kC5 : w2.cell? ⟨b, off + j * 6 + 5, none⟩ = some (.slice R rk rc) := HC.out 5 _ rfl
              have kZ0 : w2.cell? ⟨gz, 0, none⟩ = some (.int .u64 x0) := HZ.out.cell 0
              have kZ1 : w2.cell? ⟨gz, 1, none⟩ = some (.int .u64 x1) := HZ.out.cell 1
              have lS := HS.out.lt; have lP := HP.out.lt; have lZ := HZ.out.lt; have lB : b < w2.heap.size := lt_of_cell kC0
              go_wp2_with fail
              go_region_held3 (fun X => X.cell? ⟨w.heap.size, 0, none⟩ = some (.int .i64 (s 0)) ∧ X.cell? ⟨w.heap.size, 1, none⟩ = some (.int .i64 (s 1)) ∧ X.cell? ⟨w.heap.size, 2, none⟩ = some (.int .i64 (s 2)) ∧ X.cell? ⟨w.heap.size, 3, none⟩ = some (.int .i64 (s 3)) ∧ X.cell? ⟨w.heap.size, 4, none⟩ = some (.int .i64 (s 4)) ∧ X.cell? ⟨w.heap.size, 5, none⟩ = some (.int .i64 (s 5)) ∧ X.cell? ⟨w.heap.size, 6, none⟩ = some (.int .i64 (s 6)) ∧ X.cell? ⟨w.heap.size, 7, none⟩ = some (.int .i64 (s 7)) ∧ X.cell? ⟨w.heap.size, 8, none⟩ = some (.slice A n c) ∧ X.cell? ⟨w.heap.size, 9, none⟩ = some (.int .i64 (s 9)) ∧ X.cell? ⟨w.heap.size, 10, none⟩ = some (.int .i64 (s 10)) ∧ X.cell? ⟨w.heap.size, 11, none⟩ = some (.int .i64 (s 11)) ∧ X.cell? ⟨w.heap.size, 12, none⟩ = some (.int .i64 (s 12)) ∧ X.cell? ⟨w.heap.size + 1 + 1, 0, none⟩ = some (.int .i64 i0) ∧ X.cell? ⟨w.heap.size + 1 + 1, 1, none⟩ = some (.int .i64 i1) ∧ X.cell? ⟨w.heap.size + 1 + 1, 2, none⟩ = some (.int .i64 fr) ∧ X.cell? ⟨w.heap.size + 1 + 1, 3, none⟩ = some (.int .i64 to) ∧ X.cell? ⟨b, off + j * 6, none⟩ = some (.int .i64 p) ∧ X.cell? ⟨b, off + j * 6 + 1, none⟩ = some (.int .i64 q) ∧ X.cell? ⟨b, off + j * 6 + 2, none⟩ = some (.int .i64 mo) ∧ X.cell? ⟨b, off + j * 6 + 3, none⟩ = some (.int .i64 le) ∧ X.cell? ⟨b, off + j * 6 + 4, none⟩ = some (.bool bw) ∧ X.cell? ⟨b, off + j * 6 + 5, none⟩ = some (.slice R rk rc) ∧ X.cell? ⟨gz, 0, none⟩ = some (.int .u64 x0) ∧ X.cell? ⟨gz, 1, none⟩ = some (.int .u64 x1))
                (first
                  | go_keep
                  | (go_split_ands
                     refine ⟨?_, ?_, ?_, ?_, ?_, ?_, ?_, ?_, ?_, ?_, ?_, ?_, ?_, ?_, ?_, ?_, ?_, ?_, ?_, ?_, ?_, ?_, ?_, ?_, ?_⟩
                     · (rw [hgrow.cell_far _ (by simp; omega) (Ne.symm agS)]; assumption)
                     · (rw [hgrow.cell_far _ (by simp; omega) (Ne.symm agS)]; assumption)
                     · (rw [hgrow.cell_far _ (by simp; omega) (Ne.symm agS)]; assumption)
                     · (rw [hgrow.cell_far _ (by simp; omega) (Ne.symm agS)]; assumption)
                     · (rw [hgrow.cell_far _ (by simp; omega) (Ne.symm agS)]; assumption)
                     · (rw [hgrow.cell_far _ (by simp; omega) (Ne.symm agS)]; assumption)
                     · (rw [hgrow.cell_far _ (by simp; omega) (Ne.symm agS)]; assumption)
                     · (rw [hgrow.cell_far _ (by simp; omega) (Ne.symm agS)]; assumption)
                     · (rw [hgrow.cell_far _ (by simp; omega) (Ne.symm agS)]; assumption)
                     · (rw [hgrow.cell_far _ (by simp; omega) (Ne.symm agS)]; assumption)
                     · (rw [hgrow.cell_far _ (by simp; omega) (Ne.symm agS)]; assumption)
                     · (rw [hgrow.cell_far _ (by simp; omega) (Ne.symm agS)]; assumption)
                     · (rw [hgrow.cell_far _ (by simp; omega) (Ne.symm agS)]; assumption)
                     · (rw [hgrow.cell_far _ (by simp; omega) (Ne.symm agP)]; assumption)
                     · (rw [hgrow.cell_far _ (by simp; omega) (Ne.symm agP)]; assumption)
                     · (rw [hgrow.cell_far _ (by simp; omega) (Ne.symm agP)]; assumption)
                     · (rw [hgrow.cell_far _ (by simp; omega) (Ne.symm agP)]; assumption)
                     · (rw [hgrow.cell_far _ (by simp; omega) (Ne.symm agb)]; assumption)
                     · (rw [hgrow.cell_far _ (by simp; omega) (Ne.symm agb)]; assumption)
                     · (rw [hgrow.cell_far _ (by simp; omega) (Ne.symm agb)]; assumption)
                     · (rw [hgrow.cell_far _ (by simp; omega) (Ne.symm agb)]; assumption)
                     · (rw [hgrow.cell_far _ (by simp; omega) (Ne.symm agb)]; assumption)
                     · (rw [hgrow.cell_far _ (by simp; omega) (Ne.symm agb)]; assumption)
                     · (rw [hgrow.cell_far _ (by simp; omega) (Ne.symm agg)]; assumption)
                     · (rw [hgrow.cell_far _ (by simp; omega) (Ne.symm agg)]; assumption)))
                (first
                  | (go_at_call 14; refine (JP2.out _).mono ?_; rintro e w3 ⟨rfl, hb3⟩; have own3 := mkOwn_below (w := w2.drew) HO2.out hb3; have BB := Lib.hid hb3; have B3 := Lib.hid (EE.out.drew.trans (hb3.mono EE.out.drew.size)); have hz3 := B3.out.size; have hsz2 := hb3.size; have hl0 : w.heap.size < w3.heap.size := (by simp at hsz2; omega); have hl1 : w.heap.size + 1 + 1 < w3.heap.size := (by simp at hsz2; omega); have hl2 : b < w3.heap.size := (by simp at hsz2; omega); have hl3 : gz < w3.heap.size := (by simp at hsz2; omega); have nkS0 := Lib.hid (keepn (w := w2.drew) hb3 kS0); have nkS1 := Lib.hid (keepn (w := w2.drew) hb3 kS1); have nkS2 := Lib.hid (keepn (w := w2.drew) hb3 kS2); have nkS3 := Lib.hid (keepn (w := w2.drew) hb3 kS3); have nkS4 := Lib.hid (keepn (w := w2.drew) hb3 kS4); have nkS5 := Lib.hid (keepn (w := w2.drew) hb3 kS5); have nkS6 := Lib.hid (keepn (w := w2.drew) hb3 kS6); have nkS7 := Lib.hid (keepn (w := w2.drew) hb3 kS7); have nkS8 := Lib.hid (keepn (w := w2.drew) hb3 kS8); have nkS9 := Lib.hid (keepn (w := w2.drew) hb3 kS9); have nkS10 := Lib.hid (keepn (w := w2.drew) hb3 kS10); have nkS11 := Lib.hid (keepn (w := w2.drew) hb3 kS11); have nkS12 := Lib.hid (keepn (w := w2.drew) hb3 kS12); have nkP0 := Lib.hid (keepn (w := w2.drew) hb3 kP0); have nkP1 := Lib.hid (keepn (w := w2.drew) hb3 kP1); have nkP2 := Lib.hid (keepn (w := w2.drew) hb3 kP2); have nkP3 := Lib.hid (keepn (w := w2.drew) hb3 kP3); have nkC0 := Lib.hid (keepn (w := w2.drew) hb3 kC0); have nkC1 := Lib.hid (keepn (w := w2.drew) hb3 kC1); have nkC2 := Lib.hid (keepn (w := w2.drew) hb3 kC2); have nkC3 := Lib.hid (keepn (w := w2.drew) hb3 kC3); have nkC4 := Lib.hid (keepn (w := w2.drew) hb3 kC4); have nkC5 := Lib.hid (keepn (w := w2.drew) hb3 kC5); have nkZ0 := Lib.hid (keepn (w := w2.drew) hb3 kZ0); have nkZ1 := Lib.hid (keepn (w := w2.drew) hb3 kZ1); clear kS0 kS1 kS2 kS3 kS4 kS5 kS6 kS7 kS8 kS9 kS10 kS11 kS12 kP0 kP1 kP2 kP3 kC0 kC1 kC2 kC3 kC4 kC5 kZ0 kZ1; have kS0 := nkS0.out; have kS1 := nkS1.out; have kS2 := nkS2.out; have kS3 := nkS3.out; have kS4 := nkS4.out; have kS5 := nkS5.out; have kS6 := nkS6.out; have kS7 := nkS7.out; have kS8 := nkS8.out; have kS9 := nkS9.out; have kS10 := nkS10.out; have kS11 := nkS11.out; have kS12 := nkS12.out; have kP0 := nkP0.out; have kP1 := nkP1.out; have kP2 := nkP2.out; have kP3 := nkP3.out; have kC0 := nkC0.out; have kC1 := nkC1.out; have kC2 := nkC2.out; have kC3 := nkC3.out; have kC4 := nkC4.out; have kC5 := nkC5.out; have kZ0 := nkZ0.out; have kZ1 := nkZ1.out; clear hb3)
                  | (refine step_append_lies _ (by rfl) _ _ _ (by rfl) (w.heap.size + 1 + 1 + 1) 3 ii _ 1 8 Tryd.underlying48 hi hz0 hz1 hz2 rfl (by omega) (.slice vA j vc) j ((rowL f j).map (Value.int .i64)) (by rfl) (own3.alloc _) ⟨w3.heap.size, 0, none⟩ 1 1 [.int .i64 x] (by rfl) (by rfl) (World.news_of_block (cs := #[.int .i64 x]) (t := 3) (fr := (0, 0)) (heap_alloc_new w3 _)) (by simp [Value.oneCell']) (by omega) (by unfold maxLen; omega) (by omega) (by simp; omega) (w3.heap.size + 1) (by simp) ?_; intro gg cap2 w4 hown' hgrow hat hlt2))
              have hb5 : Below w.heap.size w w4 := by
                refine (B3.out.alloc B3.out.size _).grown hgrow (by simp; omega) (fun g hg => ?_)
                have : w.heap.size + 1 + 1 + 1 ≤ g := by first | exact ownR_ge own3 hg | exact ownR_ge own3 hg.symm
                omega
              have hgl := hlt2
              clear kS0 kS1 kS2 kS3 kS4 kS5 kS6 kS7 kS8 kS9 kS10 kS11 kS12 kK0 kK1 kK2 kK3 kK4 kP0 kP1 kP2 kP3 kC0 kC1 kC2 kC3 kC4 kC5 kZ0 kZ1
              have GS := Lib.hid (Blk.grownR ((Blk.next (w := w2.drew) HS.out BB.out).alloc _) hgrow (fun k hk e => agS (by rw [hk, e])))
              have GK := Lib.hid (Blk.grownR ((Blk.next (w := w2.drew) HK.out BB.out).alloc _) hgrow (fun k hk e => agK (by rw [hk, e])))
              have GP := Lib.hid (Blk.grownR ((Blk.next (w := w2.drew) HP.out BB.out).alloc _) hgrow (fun k hk e => agP (by rw [hk, e])))
              have GC := Lib.hid (At.grown ((At.next (w := w2.drew) HC.out BB.out).alloc _) hgrow (by simp; omega) agb)
              have GZ := Lib.hid (Blk.grownR ((Blk.next (w := w2.drew) HZ.out BB.out).alloc _) hgrow (fun k hk e => agg (by rw [hk, e])))
              clear HS HK HP HC HZ EE B3 BB hgrow HO2 own3
              have HS := GS
              have HK := GK
              have HP := GP
              have HC := GC
              have HZ := GZ
              have EE := Lib.hid hb5
              clear hb5 GS GK GP GC GZ
              have hown2 : w4.ownsRow (w.heap.size + 1 + 1 + 1) 3 1 (.slice (some ⟨gg, 0, none⟩) (j + 1) cap2) (j + 1) ((rowL f (j + 1)).map (Value.int .i64)) := by
                rw [rowL_succ, List.map_append, HXV.out]; exact hown'
              have HL := Lib.hid (at1 (show w4.cell? ⟨gg, j, none⟩ = some (.int .i64 x) by rw [ownR_cell hown2 (show j < j + 1 by omega), HXV.out]))
              have HO := Lib.hid hown2
              clear hown' hown2
              have kS0 : w4.cell? ⟨w.heap.size, 0, none⟩ = some (.int .i64 (s 0)) := HS.out.cell 0
              have kS1 : w4.cell? ⟨w.heap.size, 1, none⟩ = some (.int .i64 (s 1)) := HS.out.cell 1
              have kS2 : w4.cell? ⟨w.heap.size, 2, none⟩ = some (.int .i64 (s 2)) := HS.out.cell 2
              have kS3 : w4.cell? ⟨w.heap.size, 3, none⟩ = some (.int .i64 (s 3)) := HS.out.cell 3
              have kS4 : w4.cell? ⟨w.heap.size, 4, none⟩ = some (.int .i64 (s 4)) := HS.out.cell 4
              have kS5 : w4.cell? ⟨w.heap.size, 5, none⟩ = some (.int .i64 (s 5)) := HS.out.cell 5
              have kS6 : w4.cell? ⟨w.heap.size, 6, none⟩ = some (.int .i64 (s 6)) := HS.out.cell 6
              have kS7 : w4.cell? ⟨w.heap.size, 7, none⟩ = some (.int .i64 (s 7)) := HS.out.cell 7
              have kS8 : w4.cell? ⟨w.heap.size, 8, none⟩ = some (.slice A n c) := HS.out.cell 8
              have kS9 : w4.cell? ⟨w.heap.size, 9, none⟩ = some (.int .i64 (s 9)) := HS.out.cell 9
              have kS10 : w4.cell? ⟨w.heap.size, 10, none⟩ = some (.int .i64 (s 10)) := HS.out.cell 10
              have kS11 : w4.cell? ⟨w.heap.size, 11, none⟩ = some (.int .i64 (s 11)) := HS.out.cell 11
              have kS12 : w4.cell? ⟨w.heap.size, 12, none⟩ = some (.int .i64 (s 12)) := HS.out.cell 12
              have kK0 : w4.cell? ⟨w.heap.size + 1, 0, none⟩ = some (.slice (some ⟨bb, oo, none⟩) K zd) := HK.out.cell 0
              have kK1 : w4.cell? ⟨w.heap.size + 1, 1, none⟩ = some (.int .i64 i0) := HK.out.cell 1
              have kK2 : w4.cell? ⟨w.heap.size + 1, 2, none⟩ = some (.int .i64 i1) := HK.out.cell 2
              have kK3 : w4.cell? ⟨w.heap.size + 1, 3, none⟩ = some (.int .i64 fr) := HK.out.cell 3
              have kK4 : w4.cell? ⟨w.heap.size + 1, 4, none⟩ = some (.int .i64 to) := HK.out.cell 4
              have kP0 : w4.cell? ⟨w.heap.size + 1 + 1, 0, none⟩ = some (.int .i64 i0) := HP.out.cell 0
              have kP1 : w4.cell? ⟨w.heap.size + 1 + 1, 1, none⟩ = some (.int .i64 i1) := HP.out.cell 1
              have kP2 : w4.cell? ⟨w.heap.size + 1 + 1, 2, none⟩ = some (.int .i64 fr) := HP.out.cell 2
              have kP3 : w4.cell? ⟨w.heap.size + 1 + 1, 3, none⟩ = some (.int .i64 to) := HP.out.cell 3
              have kC0 : w4.cell? ⟨b, off + j * 6, none⟩ = some (.int .i64 p) := HC.out 0 _ rfl
              have kC1 : w4.cell? ⟨b, off + j * 6 + 1, none⟩ = some (.int .i64 q) := HC.out 1 _ rfl
              have kC2 : w4.cell? ⟨b, off + j * 6 + 2, none⟩ = some (.int .i64 mo) := HC.out 2 _ rfl
              have kC3 : w4.cell? ⟨b, off + j * 6 + 3, none⟩ = some (.int .i64 le) := HC.out 3 _ rfl
              have kC4 : w4.cell? ⟨b, off + j * 6 + 4, none⟩ = some (.bool bw) := HC.out 4 _ rfl
              have kC5 : w4.cell? ⟨b, off + j * 6 + 5, none⟩ = some (.slice R rk rc) := HC.out 5 _ rfl
              have kZ0 : w4.cell? ⟨gz, 0, none⟩ = some (.int .u64 x0) := HZ.out.cell 0
              have kZ1 : w4.cell? ⟨gz, 1, none⟩ = some (.int .u64 x1) := HZ.out.cell 1
              have kL0 : w4.cell? ⟨gg, j, none⟩ = some (.int .i64 x) := HL.out 0 _ rfl
              go_wp2_with fail
              have sK : ∀ X, Blk X (w.heap.size) 25 #[.int .i64 (s 0), .int .i64 (s 1), .int .i64 (s 2), .int .i64 (s 3), .int .i64 (s 4), .int .i64 (s 5), .int .i64 (s 6), .int .i64 (s 7), .slice A n c, .int .i64 (s 9), .int .i64 (s 10), .int .i64 (s 11), .int .i64 (s 12)] → Blk X (w.heap.size + 1 + 1) 45 #[.int .i64 i0, .int .i64 i1, .int .i64 fr, .int .i64 to] → At X b (off + j * 6) #[.int .i64 p, .int .i64 q, .int .i64 mo, .int .i64 le, .bool bw, .slice R rk rc] → Blk X (gz) 40 #[.int .u64 x0, .int .u64 x1] → At X gg (j) #[.int .i64 x] → (fun X => X.cell? ⟨w.heap.size, 0, none⟩ = some (.int .i64 (s 0)) ∧ X.cell? ⟨w.heap.size, 1, none⟩ = some (.int .i64 (s 1)) ∧ X.cell? ⟨w.heap.size, 2, none⟩ = some (.int .i64 (s 2)) ∧ X.cell? ⟨w.heap.size, 3, none⟩ = some (.int .i64 (s 3)) ∧ X.cell? ⟨w.heap.size, 4, none⟩ = some (.int .i64 (s 4)) ∧ X.cell? ⟨w.heap.size, 5, none⟩ = some (.int .i64 (s 5)) ∧ X.cell? ⟨w.heap.size, 6, none⟩ = some (.int .i64 (s 6)) ∧ X.cell? ⟨w.heap.size, 7, none⟩ = some (.int .i64 (s 7)) ∧ X.cell? ⟨w.heap.size, 8, none⟩ = some (.slice A n c) ∧ X.cell? ⟨w.heap.size, 9, none⟩ = some (.int .i64 (s 9)) ∧ X.cell? ⟨w.heap.size, 10, none⟩ = some (.int .i64 (s 10)) ∧ X.cell? ⟨w.heap.size, 11, none⟩ = some (.int .i64 (s 11)) ∧ X.cell? ⟨w.heap.size, 12, none⟩ = some (.int .i64 (s 12)) ∧ X.cell? ⟨w.heap.size + 1 + 1, 0, none⟩ = some (.int .i64 i0) ∧ X.cell? ⟨w.heap.size + 1 + 1, 1, none⟩ = some (.int .i64 i1) ∧ X.cell? ⟨w.heap.size + 1 + 1, 2, none⟩ = some (.int .i64 fr) ∧ X.cell? ⟨w.heap.size + 1 + 1, 3, none⟩ = some (.int .i64 to) ∧ X.cell? ⟨b, off + j * 6, none⟩ = some (.int .i64 p) ∧ X.cell? ⟨b, off + j * 6 + 1, none⟩ = some (.int .i64 q) ∧ X.cell? ⟨b, off + j * 6 + 2, none⟩ = some (.int .i64 mo) ∧ X.cell? ⟨b, off + j * 6 + 3, none⟩ = some (.int .i64 le) ∧ X.cell? ⟨b, off + j * 6 + 4, none⟩ = some (.bool bw) ∧ X.cell? ⟨b, off + j * 6 + 5, none⟩ = some (.slice R rk rc) ∧ X.cell? ⟨gz, 0, none⟩ = some (.int .u64 x0) ∧ X.cell? ⟨gz, 1, none⟩ = some (.int .u64 x1) ∧ X.cell? ⟨gg, j, none⟩ = some (.int .i64 x)) X := fun X hS hP hC hZ hL => ⟨hS.cell 0, hS.cell 1, hS.cell 2, hS.cell 3, hS.cell 4, hS.cell 5, hS.cell 6, hS.cell 7, hS.cell 8, hS.cell 9, hS.cell 10, hS.cell 11, hS.cell 12, hP.cell 0, hP.cell 1, hP.cell 2, hP.cell 3, hC 0 _ rfl, hC 1 _ rfl, hC 2 _ rfl, hC 3 _ rfl, hC 4 _ rfl, hC 5 _ rfl, hZ.cell 0, hZ.cell 1, hL 0 _ rfl⟩
              have LS0 := Lib.hid (HS.out.drew)
              have LK0 := Lib.hid (HK.out.drew)
              have LP0 := Lib.hid (HP.out.drew)
              have LC0 := Lib.hid (HC.out.drew)
              have LZ0 := Lib.hid (HZ.out.drew)
              have LL0 := Lib.hid (HL.out.drew)
              have E0 := Lib.hid (EE.out.drew)
              clear kS0 kS1 kS2 kS3 kS4 kS5 kS6 kS7 kS8 kS9 kS10 kS11 kS12 kK0 kK1 kK2 kK3 kK4 kP0 kP1 kP2 kP3 kC0 kC1 kC2 kC3 kC4 kC5 kZ0 kZ1 kL0
              refine wp_region_held_drew (S := (fun X => X.cell? ⟨w.heap.size, 0, none⟩ = some (.int .i64 (s 0)) ∧ X.cell? ⟨w.heap.size, 1, none⟩ = some (.int .i64 (s 1)) ∧ X.cell? ⟨w.heap.size, 2, none⟩ = some (.int .i64 (s 2)) ∧ X.cell? ⟨w.heap.size, 3, none⟩ = some (.int .i64 (s 3)) ∧ X.cell? ⟨w.heap.size, 4, none⟩ = some (.int .i64 (s 4)) ∧ X.cell? ⟨w.heap.size, 5, none⟩ = some (.int .i64 (s 5)) ∧ X.cell? ⟨w.heap.size, 6, none⟩ = some (.int .i64 (s 6)) ∧ X.cell? ⟨w.heap.size, 7, none⟩ = some (.int .i64 (s 7)) ∧ X.cell? ⟨w.heap.size, 8, none⟩ = some (.slice A n c) ∧ X.cell? ⟨w.heap.size, 9, none⟩ = some (.int .i64 (s 9)) ∧ X.cell? ⟨w.heap.size, 10, none⟩ = some (.int .i64 (s 10)) ∧ X.cell? ⟨w.heap.size, 11, none⟩ = some (.int .i64 (s 11)) ∧ X.cell? ⟨w.heap.size, 12, none⟩ = some (.int .i64 (s 12)) ∧ X.cell? ⟨w.heap.size + 1 + 1, 0, none⟩ = some (.int .i64 i0) ∧ X.cell? ⟨w.heap.size + 1 + 1, 1, none⟩ = some (.int .i64 i1) ∧ X.cell? ⟨w.heap.size + 1 + 1, 2, none⟩ = some (.int .i64 fr) ∧ X.cell? ⟨w.heap.size + 1 + 1, 3, none⟩ = some (.int .i64 to) ∧ X.cell? ⟨b, off + j * 6, none⟩ = some (.int .i64 p) ∧ X.cell? ⟨b, off + j * 6 + 1, none⟩ = some (.int .i64 q) ∧ X.cell? ⟨b, off + j * 6 + 2, none⟩ = some (.int .i64 mo) ∧ X.cell? ⟨b, off + j * 6 + 3, none⟩ = some (.int .i64 le) ∧ X.cell? ⟨b, off + j * 6 + 4, none⟩ = some (.bool bw) ∧ X.cell? ⟨b, off + j * 6 + 5, none⟩ = some (.slice R rk rc) ∧ X.cell? ⟨gz, 0, none⟩ = some (.int .u64 x0) ∧ X.cell? ⟨gz, 1, none⟩ = some (.int .u64 x1) ∧ X.cell? ⟨gg, j, none⟩ = some (.int .i64 x))) (by kernel_rfl) (sK _ LS0.out LP0.out LC0.out LZ0.out LL0.out) (fun hHeld => ?_)
              clear hHeld
              refine wpAnyH_take (i := 0) (v := ?_) rfl (by kernel_rfl) (by kernel_rfl) (by kernel_rfl) (fun _ _ _ h => h) (Or.inl ⟨by rfl, ?_⟩) (sK _ LS0.out LP0.out LC0.out LZ0.out LL0.out) ?_
              rotate_left
              · (intro wS hSw; (try dsimp only at hSw); go_simp; try with_reducible rfl)
              simp only [Act.put, List.getElem_toArray, List.getElem_cons_zero, List.getElem_cons_succ, List.setIfInBounds_toArray, List.set_cons_zero, List.set_cons_succ]
              refine wpAnyH_take (i := 1) (v := ?_) rfl (by kernel_rfl) (by kernel_rfl) (by kernel_rfl) (fun _ _ _ h => h) (Or.inl ⟨by rfl, ?_⟩) (sK _ LS0.out LP0.out LC0.out LZ0.out LL0.out) ?_
              rotate_left
              · (intro wS hSw; (try dsimp only at hSw); go_simp; try with_reducible rfl)
              simp only [Act.put, List.getElem_toArray, List.getElem_cons_zero, List.getElem_cons_succ, List.setIfInBounds_toArray, List.set_cons_zero, List.set_cons_succ]
              refine wpAnyH_take (i := 2) (v := ?_) rfl (by kernel_rfl) (by kernel_rfl) (by kernel_rfl) (fun _ _ _ h => h) (Or.inl ⟨by rfl, ?_⟩) (sK _ LS0.out LP0.out LC0.out LZ0.out LL0.out) ?_
              rotate_left
              · (intro wS hSw; (try dsimp only at hSw); go_simp; try with_reducible rfl)
              simp only [Act.put, List.getElem_toArray, List.getElem_cons_zero, List.getElem_cons_succ, List.setIfInBounds_toArray, List.set_cons_zero, List.set_cons_succ]
              refine wpAnyH_take (i := 3) (v := ?_) rfl (by kernel_rfl) (by kernel_rfl) (by kernel_rfl) (fun _ _ _ h => h) (Or.inl ⟨by rfl, ?_⟩) (sK _ LS0.out LP0.out LC0.out LZ0.out LL0.out) ?_
              rotate_left
              · (intro wS hSw; (try dsimp only at hSw); go_simp; try with_reducible rfl)
              simp only [Act.put, List.getElem_toArray, List.getElem_cons_zero, List.getElem_cons_succ, List.setIfInBounds_toArray, List.set_cons_zero, List.set_cons_succ]
              refine wpAnyH_take (i := 4) (v := ?_) rfl (by kernel_rfl) (by kernel_rfl) (by kernel_rfl) (fun _ _ _ h => h) (Or.inl ⟨by rfl, ?_⟩) (sK _ LS0.out LP0.out LC0.out LZ0.out LL0.out) ?_
              rotate_left
              · (intro wS hSw; (try dsimp only at hSw); go_simp; try with_reducible rfl)
              simp only [Act.put, List.getElem_toArray, List.getElem_cons_zero, List.getElem_cons_succ, List.setIfInBounds_toArray, List.set_cons_zero, List.set_cons_succ]
              refine wpAnyH_take (i := 5) (v := ?_) rfl (by kernel_rfl) (by kernel_rfl) (by kernel_rfl) (fun _ _ _ h => h) (Or.inl ⟨by rfl, ?_⟩) (sK _ LS0.out LP0.out LC0.out LZ0.out LL0.out) ?_
              rotate_left
              · (intro wS hSw; (try dsimp only at hSw); go_simp; try with_reducible rfl)
              simp only [Act.put, List.getElem_toArray, List.getElem_cons_zero, List.getElem_cons_succ, List.setIfInBounds_toArray, List.set_cons_zero, List.set_cons_succ]
              refine wpAnyH_take (i := 6) (v := ?_) rfl (by kernel_rfl) (by kernel_rfl) (by kernel_rfl) (fun _ _ _ h => h) (Or.inl ⟨by rfl, ?_⟩) (sK _ LS0.out LP0.out LC0.out LZ0.out LL0.out) ?_
              rotate_left
              · (intro wS hSw; (try dsimp only at hSw); go_simp; try with_reducible rfl)
              simp only [Act.put, List.getElem_toArray, List.getElem_cons_zero, List.getElem_cons_succ, List.setIfInBounds_toArray, List.set_cons_zero, List.set_cons_succ]
              refine wpAnyH_take (i := 8) (v := ?_) rfl (by kernel_rfl) (by kernel_rfl) (by kernel_rfl) (fun _ _ _ h => h) (Or.inl ⟨by rfl, ?_⟩) (sK _ LS0.out LP0.out LC0.out LZ0.out LL0.out) ?_
              rotate_left
              · (intro wS hSw; (try dsimp only at hSw); go_simp; try with_reducible rfl)
              simp only [Act.put, List.getElem_toArray, List.getElem_cons_zero, List.getElem_cons_succ, List.setIfInBounds_toArray, List.set_cons_zero, List.set_cons_succ]
              refine wpAnyH_take (i := 9) (v := ?_) rfl (by kernel_rfl) (by kernel_rfl) (by kernel_rfl) (fun _ _ _ h => h) (Or.inl ⟨by rfl, ?_⟩) (sK _ LS0.out LP0.out LC0.out LZ0.out LL0.out) ?_
              rotate_left
              · (intro wS hSw; (try dsimp only at hSw); go_simp; try with_reducible rfl)
              simp only [Act.put, List.getElem_toArray, List.getElem_cons_zero, List.getElem_cons_succ, List.setIfInBounds_toArray, List.set_cons_zero, List.set_cons_succ]
              refine wpAnyH_take (i := 10) (v := ?_) rfl (by kernel_rfl) (by kernel_rfl) (by kernel_rfl) (fun _ _ _ h => h) (Or.inl ⟨by rfl, ?_⟩) (sK _ LS0.out LP0.out LC0.out LZ0.out LL0.out) ?_
              rotate_left
              · (intro wS hSw; (try dsimp only at hSw); go_simp; try with_reducible rfl)
              simp only [Act.put, List.getElem_toArray, List.getElem_cons_zero, List.getElem_cons_succ, List.setIfInBounds_toArray, List.set_cons_zero, List.set_cons_succ]
              refine wpAnyH_take (i := 11) (v := ?_) rfl (by kernel_rfl) (by kernel_rfl) (by kernel_rfl) (fun _ _ _ h => h) (Or.inl ⟨by rfl, ?_⟩) (sK _ LS0.out LP0.out LC0.out LZ0.out LL0.out) ?_
              rotate_left
              · (intro wS hSw; (try dsimp only at hSw); go_simp; try with_reducible rfl)
              simp only [Act.put, List.getElem_toArray, List.getElem_cons_zero, List.getElem_cons_succ, List.setIfInBounds_toArray, List.set_cons_zero, List.set_cons_succ]
              refine wpAnyH_ready (rs := [7]) (by kernel_rfl) (by simp) ?_
              refine AllReadyH.cons rfl (fun K hK => ?_) AllReadyH.nil
              go_simp
              refine (JP1.out _ (JT.out.kept E0.out)).mono ?_
              rintro e r1 ⟨rfl, hb⟩
              have LS1 := Lib.hid (Blk.next (w := w4.drew) LS0.out hb)
              have LK1 := Lib.hid (Blk.next (w := w4.drew) LK0.out hb)
              have LP1 := Lib.hid (Blk.next (w := w4.drew) LP0.out hb)
              have LC1 := Lib.hid (At.next (w := w4.drew) LC0.out hb)
              have LZ1 := Lib.hid (Blk.next (w := w4.drew) LZ0.out hb)
              have LL1 := Lib.hid (At.next (w := w4.drew) LL0.out hb)
              have E1 := Lib.hid (E0.out.trans (hb.mono E0.out.size))
              have HO := Lib.hid (mkOwn_below (w := w4.drew) HO.out hb)
              clear hb
              go_wp2_with fail
              refine hK.out _ _ (sK _ LS1.out LP1.out LC1.out LZ1.out LL1.out) (fun hHeld => ?_)
              clear hK K hHeld
              try simp only [Act.put, List.getElem_toArray, List.getElem_cons_zero, List.getElem_cons_succ, List.setIfInBounds_toArray, List.set_cons_zero, List.set_cons_succ]
              refine wpAnyH_take (i := 12) (v := ?_) rfl (by kernel_rfl) (by kernel_rfl) (by kernel_rfl) (fun _ _ _ h => h) (Or.inl ⟨by rfl, ?_⟩) (sK _ LS1.out LP1.out LC1.out LZ1.out LL1.out) ?_
              rotate_left
              · (intro wS hSw; (try dsimp only at hSw); go_simp; try with_reducible rfl)
              simp only [Act.put, List.getElem_toArray, List.getElem_cons_zero, List.getElem_cons_succ, List.setIfInBounds_toArray, List.set_cons_zero, List.set_cons_succ]
              refine wpAnyH_done (by kernel_rfl) ?_ _
              go_wp2_with fail
              go_roundw
              case rel => exact ⟨j + 1, by omega, by go_num, E1.out, HO.out, LS1.out, LK1.out, LP1.out⟩
              case measure => simp [intOf]; omega
            · rw [st_out hK2] at P1 P2
              have JP1 := Lib.hid P1; have JP2 := Lib.hid P2
              have jK : ¬ ((j : Int) < (K : Int)) := by omega
              have decK : decide (j < K) = false := by simpa using hK2
              clear P1 P2
              have lS := HS.out.lt
              have lK := HK.out.lt
              have lP := HP.out.lt
              go_wp2_with fail
              clear kS0 kS1 kS2 kS3 kS4 kS5 kS6 kS7 kS8 kS9 kS10 kS11 kS12 kK0 kK1 kK2 kK3 kK4 kP0 kP1 kP2 kP3 lS lK lP
              have HO2 := Lib.hid (HO.out.alloc (.cells #[.int .u64 0, .int .u64 0] 40))
              clear HO
              obtain ⟨gz, hgz⟩ : ∃ g, wr.heap.size = g := ⟨_, rfl⟩
              have GZ : Blk (wr.alloc (.cells #[.int .u64 0, .int .u64 0] 40)) wr.heap.size 40 #[.int .u64 0, .int .u64 0] := Blk.new wr _ _
              have GS := HS.out.alloc (.cells #[.int .u64 0, .int .u64 0] 40)
              have GK := HK.out.alloc (.cells #[.int .u64 0, .int .u64 0] 40)
              have GP := HP.out.alloc (.cells #[.int .u64 0, .int .u64 0] 40)
              have GC := HC.out.alloc (.cells #[.int .u64 0, .int .u64 0] 40)
              have GE := EE.out.alloc EE.out.size (.cells #[.int .u64 0, .int .u64 0] 40)
              rw [hgz] at GZ agg gr3 ⊢
              clear hgz
              obtain ⟨w2, hw2⟩ : ∃ X, wr.alloc (.cells #[.int .u64 0, .int .u64 0] 40) = X := ⟨_, rfl⟩
              rw [hw2] at HO2 GE GS GK GP GC GZ ⊢
              have HS := Lib.hid GS
              have HK := Lib.hid GK
              have HP := Lib.hid GP
              have HC := Lib.hid GC
              have HZ := Lib.hid GZ
              have EE := Lib.hid GE
              clear hw2 GE GS GK GP GC GZ
              have kS0 : w2.cell? ⟨w.heap.size, 0, none⟩ = some (.int .i64 (s 0)) := HS.out.cell 0
              have kS1 : w2.cell? ⟨w.heap.size, 1, none⟩ = some (.int .i64 (s 1)) := HS.out.cell 1
              have kS2 : w2.cell? ⟨w.heap.size, 2, none⟩ = some (.int .i64 (s 2)) := HS.out.cell 2
              have kS3 : w2.cell? ⟨w.heap.size, 3, none⟩ = some (.int .i64 (s 3)) := HS.out.cell 3
              have kS4 : w2.cell? ⟨w.heap.size, 4, none⟩ = some (.int .i64 (s 4)) := HS.out.cell 4
              have kS5 : w2.cell? ⟨w.heap.size, 5, none⟩ = some (.int .i64 (s 5)) := HS.out.cell 5
              have kS6 : w2.cell? ⟨w.heap.size, 6, none⟩ = some (.int .i64 (s 6)) := HS.out.cell 6
              have kS7 : w2.cell? ⟨w.heap.size, 7, none⟩ = some (.int .i64 (s 7)) := HS.out.cell 7
              have kS8 : w2.cell? ⟨w.heap.size, 8, none⟩ = some (.slice A n c) := HS.out.cell 8
              have kS9 : w2.cell? ⟨w.heap.size, 9, none⟩ = some (.int .i64 (s 9)) := HS.out.cell 9
              have kS10 : w2.cell? ⟨w.heap.size, 10, none⟩ = some (.int .i64 (s 10)) := HS.out.cell 10
              have kS11 : w2.cell? ⟨w.heap.size, 11, none⟩ = some (.int .i64 (s 11)) := HS.out.cell 11
              have kS12 : w2.cell? ⟨w.heap.size, 12, none⟩ = some (.int .i64 (s 12)) := HS.out.cell 12
              have kK0 : w2.cell? ⟨w.heap.size + 1, 0, none⟩ = some (.slice ZA K zd) := HK.out.cell 0
              have kK1 : w2.cell? ⟨w.heap.size + 1, 1, none⟩ = some (.int .i64 i0) := HK.out.cell 1
              have kK2 : w2.cell? ⟨w.heap.size + 1, 2, none⟩ = some (.int .i64 i1) := HK.out.cell 2
              have kK3 : w2.cell? ⟨w.heap.size + 1, 3, none⟩ = some (.int .i64 fr) := HK.out.cell 3
              have kK4 : w2.cell? ⟨w.heap.size + 1, 4, none⟩ = some (.int .i64 to) := HK.out.cell 4
              have kP0 : w2.cell? ⟨w.heap.size + 1 + 1, 0, none⟩ = some (.int .i64 i0) := HP.out.cell 0
              have kP1 : w2.cell? ⟨w.heap.size + 1 + 1, 1, none⟩ = some (.int .i64 i1) := HP.out.cell 1
              have kP2 : w2.cell? ⟨w.heap.size + 1 + 1, 2, none⟩ = some (.int .i64 fr) := HP.out.cell 2
              have kP3 : w2.cell? ⟨w.heap.size + 1 + 1, 3, none⟩ = some (.int .i64 to) := HP.out.cell 3
              have kC0 : w2.cell? ⟨b, off + j * 6, none⟩ = some (.int .i64 p) := HC.out 0 _ rfl
              have kC1 : w2.cell? ⟨b, off + j * 6 + 1, none⟩ = some (.int .i64 q) := HC.out 1 _ rfl
              have kC2 : w2.cell? ⟨b, off + j * 6 + 2, none⟩ = some (.int .i64 mo) := HC.out 2 _ rfl
              have kC3 : w2.cell? ⟨b, off + j * 6 + 3, none⟩ = some (.int .i64 le) := HC.out 3 _ rfl
              have kC4 : w2.cell? ⟨b, off + j * 6 + 4, none⟩ = some (.bool bw) := HC.out 4 _ rfl
              have kC5 : w2.cell? ⟨b, off + j * 6 + 5, none⟩ = some (.slice R rk rc) := HC.out 5 _ rfl
              have kZ0 : w2.cell? ⟨gz, 0, none⟩ = some (.int .u64 0) := HZ.out.cell 0
              have kZ1 : w2.cell? ⟨gz, 1, none⟩ = some (.int .u64 0) := HZ.out.cell 1
              have lS := HS.out.lt; have lP := HP.out.lt; have lZ := HZ.out.lt; have lB : b < w2.heap.size := lt_of_cell kC0
              go_wp2_with fail
              go_region_held3 (fun X => X.cell? ⟨w.heap.size, 0, none⟩ = some (.int .i64 (s 0)) ∧ X.cell? ⟨w.heap.size, 1, none⟩ = some (.int .i64 (s 1)) ∧ X.cell? ⟨w.heap.size, 2, none⟩ = some (.int .i64 (s 2)) ∧ X.cell? ⟨w.heap.size, 3, none⟩ = some (.int .i64 (s 3)) ∧ X.cell? ⟨w.heap.size, 4, none⟩ = some (.int .i64 (s 4)) ∧ X.cell? ⟨w.heap.size, 5, none⟩ = some (.int .i64 (s 5)) ∧ X.cell? ⟨w.heap.size, 6, none⟩ = some (.int .i64 (s 6)) ∧ X.cell? ⟨w.heap.size, 7, none⟩ = some (.int .i64 (s 7)) ∧ X.cell? ⟨w.heap.size, 8, none⟩ = some (.slice A n c) ∧ X.cell? ⟨w.heap.size, 9, none⟩ = some (.int .i64 (s 9)) ∧ X.cell? ⟨w.heap.size, 10, none⟩ = some (.int .i64 (s 10)) ∧ X.cell? ⟨w.heap.size, 11, none⟩ = some (.int .i64 (s 11)) ∧ X.cell? ⟨w.heap.size, 12, none⟩ = some (.int .i64 (s 12)) ∧ X.cell? ⟨w.heap.size + 1 + 1, 0, none⟩ = some (.int .i64 i0) ∧ X.cell? ⟨w.heap.size + 1 + 1, 1, none⟩ = some (.int .i64 i1) ∧ X.cell? ⟨w.heap.size + 1 + 1, 2, none⟩ = some (.int .i64 fr) ∧ X.cell? ⟨w.heap.size + 1 + 1, 3, none⟩ = some (.int .i64 to) ∧ X.cell? ⟨b, off + j * 6, none⟩ = some (.int .i64 p) ∧ X.cell? ⟨b, off + j * 6 + 1, none⟩ = some (.int .i64 q) ∧ X.cell? ⟨b, off + j * 6 + 2, none⟩ = some (.int .i64 mo) ∧ X.cell? ⟨b, off + j * 6 + 3, none⟩ = some (.int .i64 le) ∧ X.cell? ⟨b, off + j * 6 + 4, none⟩ = some (.bool bw) ∧ X.cell? ⟨b, off + j * 6 + 5, none⟩ = some (.slice R rk rc) ∧ X.cell? ⟨gz, 0, none⟩ = some (.int .u64 0) ∧ X.cell? ⟨gz, 1, none⟩ = some (.int .u64 0))
                (first
                  | go_keep
                  | (go_split_ands
                     refine ⟨?_, ?_, ?_, ?_, ?_, ?_, ?_, ?_, ?_, ?_, ?_, ?_, ?_, ?_, ?_, ?_, ?_, ?_, ?_, ?_, ?_, ?_, ?_, ?_, ?_⟩
                     · (rw [hgrow.cell_far _ (by simp; omega) (Ne.symm agS)]; assumption)
                     · (rw [hgrow.cell_far _ (by simp; omega) (Ne.symm agS)]; assumption)
                     · (rw [hgrow.cell_far _ (by simp; omega) (Ne.symm agS)]; assumption)
                     · (rw [hgrow.cell_far _ (by simp; omega) (Ne.symm agS)]; assumption)
                     · (rw [hgrow.cell_far _ (by simp; omega) (Ne.symm agS)]; assumption)
                     · (rw [hgrow.cell_far _ (by simp; omega) (Ne.symm agS)]; assumption)
                     · (rw [hgrow.cell_far _ (by simp; omega) (Ne.symm agS)]; assumption)
                     · (rw [hgrow.cell_far _ (by simp; omega) (Ne.symm agS)]; assumption)
                     · (rw [hgrow.cell_far _ (by simp; omega) (Ne.symm agS)]; assumption)
                     · (rw [hgrow.cell_far _ (by simp; omega) (Ne.symm agS)]; assumption)
                     · (rw [hgrow.cell_far _ (by simp; omega) (Ne.symm agS)]; assumption)
                     · (rw [hgrow.cell_far _ (by simp; omega) (Ne.symm agS)]; assumption)
                     · (rw [hgrow.cell_far _ (by simp; omega) (Ne.symm agS)]; assumption)
                     · (rw [hgrow.cell_far _ (by simp; omega) (Ne.symm agP)]; assumption)
                     · (rw [hgrow.cell_far _ (by simp; omega) (Ne.symm agP)]; assumption)
                     · (rw [hgrow.cell_far _ (by simp; omega) (Ne.symm agP)]; assumption)
                     · (rw [hgrow.cell_far _ (by simp; omega) (Ne.symm agP)]; assumption)
                     · (rw [hgrow.cell_far _ (by simp; omega) (Ne.symm agb)]; assumption)
                     · (rw [hgrow.cell_far _ (by simp; omega) (Ne.symm agb)]; assumption)
                     · (rw [hgrow.cell_far _ (by simp; omega) (Ne.symm agb)]; assumption)
                     · (rw [hgrow.cell_far _ (by simp; omega) (Ne.symm agb)]; assumption)
                     · (rw [hgrow.cell_far _ (by simp; omega) (Ne.symm agb)]; assumption)
                     · (rw [hgrow.cell_far _ (by simp; omega) (Ne.symm agb)]; assumption)
                     · (rw [hgrow.cell_far _ (by simp; omega) (Ne.symm agg)]; assumption)
                     · (rw [hgrow.cell_far _ (by simp; omega) (Ne.symm agg)]; assumption)))
                (first
                  | (go_at_call 14; refine (JP2.out _).mono ?_; rintro e w3 ⟨rfl, hb3⟩; have own3 := mkOwn_below (w := w2.drew) HO2.out hb3; have BB := Lib.hid hb3; have B3 := Lib.hid (EE.out.drew.trans (hb3.mono EE.out.drew.size)); have hz3 := B3.out.size; have hsz2 := hb3.size; have hl0 : w.heap.size < w3.heap.size := (by simp at hsz2; omega); have hl1 : w.heap.size + 1 + 1 < w3.heap.size := (by simp at hsz2; omega); have hl2 : b < w3.heap.size := (by simp at hsz2; omega); have hl3 : gz < w3.heap.size := (by simp at hsz2; omega); have nkS0 := Lib.hid (keepn (w := w2.drew) hb3 kS0); have nkS1 := Lib.hid (keepn (w := w2.drew) hb3 kS1); have nkS2 := Lib.hid (keepn (w := w2.drew) hb3 kS2); have nkS3 := Lib.hid (keepn (w := w2.drew) hb3 kS3); have nkS4 := Lib.hid (keepn (w := w2.drew) hb3 kS4); have nkS5 := Lib.hid (keepn (w := w2.drew) hb3 kS5); have nkS6 := Lib.hid (keepn (w := w2.drew) hb3 kS6); have nkS7 := Lib.hid (keepn (w := w2.drew) hb3 kS7); have nkS8 := Lib.hid (keepn (w := w2.drew) hb3 kS8); have nkS9 := Lib.hid (keepn (w := w2.drew) hb3 kS9); have nkS10 := Lib.hid (keepn (w := w2.drew) hb3 kS10); have nkS11 := Lib.hid (keepn (w := w2.drew) hb3 kS11); have nkS12 := Lib.hid (keepn (w := w2.drew) hb3 kS12); have nkP0 := Lib.hid (keepn (w := w2.drew) hb3 kP0); have nkP1 := Lib.hid (keepn (w := w2.drew) hb3 kP1); have nkP2 := Lib.hid (keepn (w := w2.drew) hb3 kP2); have nkP3 := Lib.hid (keepn (w := w2.drew) hb3 kP3); have nkC0 := Lib.hid (keepn (w := w2.drew) hb3 kC0); have nkC1 := Lib.hid (keepn (w := w2.drew) hb3 kC1); have nkC2 := Lib.hid (keepn (w := w2.drew) hb3 kC2); have nkC3 := Lib.hid (keepn (w := w2.drew) hb3 kC3); have nkC4 := Lib.hid (keepn (w := w2.drew) hb3 kC4); have nkC5 := Lib.hid (keepn (w := w2.drew) hb3 kC5); have nkZ0 := Lib.hid (keepn (w := w2.drew) hb3 kZ0); have nkZ1 := Lib.hid (keepn (w := w2.drew) hb3 kZ1); clear kS0 kS1 kS2 kS3 kS4 kS5 kS6 kS7 kS8 kS9 kS10 kS11 kS12 kP0 kP1 kP2 kP3 kC0 kC1 kC2 kC3 kC4 kC5 kZ0 kZ1; have kS0 := nkS0.out; have kS1 := nkS1.out; have kS2 := nkS2.out; have kS3 := nkS3.out; have kS4 := nkS4.out; have kS5 := nkS5.out; have kS6 := nkS6.out; have kS7 := nkS7.out; have kS8 := nkS8.out; have kS9 := nkS9.out; have kS10 := nkS10.out; have kS11 := nkS11.out; have kS12 := nkS12.out; have kP0 := nkP0.out; have kP1 := nkP1.out; have kP2 := nkP2.out; have kP3 := nkP3.out; have kC0 := nkC0.out; have kC1 := nkC1.out; have kC2 := nkC2.out; have kC3 := nkC3.out; have kC4 := nkC4.out; have kC5 := nkC5.out; have kZ0 := nkZ0.out; have kZ1 := nkZ1.out; clear hb3)
                  | (refine step_append_lies _ (by rfl) _ _ _ (by rfl) (w.heap.size + 1 + 1 + 1) 3 ii _ 1 8 Tryd.underlying48 hi hz0 hz1 hz2 rfl (by omega) (.slice vA j vc) j ((rowL f j).map (Value.int .i64)) (by rfl) (own3.alloc _) ⟨w3.heap.size, 0, none⟩ 1 1 [.int .i64 x] (by rfl) (by rfl) (World.news_of_block (cs := #[.int .i64 x]) (t := 3) (fr := (0, 0)) (heap_alloc_new w3 _)) (by simp [Value.oneCell']) (by omega) (by unfold maxLen; omega) (by omega) (by simp; omega) (w3.heap.size + 1) (by simp) ?_; intro gg cap2 w4 hown' hgrow hat hlt2))
              have hb5 : Below w.heap.size w w4 := by
                refine (B3.out.alloc B3.out.size _).grown hgrow (by simp; omega) (fun g hg => ?_)
                have : w.heap.size + 1 + 1 + 1 ≤ g := by first | exact ownR_ge own3 hg | exact ownR_ge own3 hg.symm
                omega
              have hgl := hlt2
              clear kS0 kS1 kS2 kS3 kS4 kS5 kS6 kS7 kS8 kS9 kS10 kS11 kS12 kK0 kK1 kK2 kK3 kK4 kP0 kP1 kP2 kP3 kC0 kC1 kC2 kC3 kC4 kC5 kZ0 kZ1
              have GS := Lib.hid (Blk.grownR ((Blk.next (w := w2.drew) HS.out BB.out).alloc _) hgrow (fun k hk e => agS (by rw [hk, e])))
              have GK := Lib.hid (Blk.grownR ((Blk.next (w := w2.drew) HK.out BB.out).alloc _) hgrow (fun k hk e => agK (by rw [hk, e])))
              have GP := Lib.hid (Blk.grownR ((Blk.next (w := w2.drew) HP.out BB.out).alloc _) hgrow (fun k hk e => agP (by rw [hk, e])))
              have GC := Lib.hid (At.grown ((At.next (w := w2.drew) HC.out BB.out).alloc _) hgrow (by simp; omega) agb)
              have GZ := Lib.hid (Blk.grownR ((Blk.next (w := w2.drew) HZ.out BB.out).alloc _) hgrow (fun k hk e => agg (by rw [hk, e])))
              clear HS HK HP HC HZ EE B3 BB hgrow HO2 own3
              have HS := GS
              have HK := GK
              have HP := GP
              have HC := GC
              have HZ := GZ
              have EE := Lib.hid hb5
              clear hb5 GS GK GP GC GZ
              have hown2 : w4.ownsRow (w.heap.size + 1 + 1 + 1) 3 1 (.slice (some ⟨gg, 0, none⟩) (j + 1) cap2) (j + 1) ((rowL f (j + 1)).map (Value.int .i64)) := by
                rw [rowL_succ, List.map_append, HXV.out]; exact hown'
              have HL := Lib.hid (at1 (show w4.cell? ⟨gg, j, none⟩ = some (.int .i64 x) by rw [ownR_cell hown2 (show j < j + 1 by omega), HXV.out]))
              have HO := Lib.hid hown2
              clear hown' hown2
              have kS0 : w4.cell? ⟨w.heap.size, 0, none⟩ = some (.int .i64 (s 0)) := HS.out.cell 0
              have kS1 : w4.cell? ⟨w.heap.size, 1, none⟩ = some (.int .i64 (s 1)) := HS.out.cell 1
              have kS2 : w4.cell? ⟨w.heap.size, 2, none⟩ = some (.int .i64 (s 2)) := HS.out.cell 2
              have kS3 : w4.cell? ⟨w.heap.size, 3, none⟩ = some (.int .i64 (s 3)) := HS.out.cell 3
              have kS4 : w4.cell? ⟨w.heap.size, 4, none⟩ = some (.int .i64 (s 4)) := HS.out.cell 4
              have kS5 : w4.cell? ⟨w.heap.size, 5, none⟩ = some (.int .i64 (s 5)) := HS.out.cell 5
              have kS6 : w4.cell? ⟨w.heap.size, 6, none⟩ = some (.int .i64 (s 6)) := HS.out.cell 6
              have kS7 : w4.cell? ⟨w.heap.size, 7, none⟩ = some (.int .i64 (s 7)) := HS.out.cell 7
              have kS8 : w4.cell? ⟨w.heap.size, 8, none⟩ = some (.slice A n c) := HS.out.cell 8
              have kS9 : w4.cell? ⟨w.heap.size, 9, none⟩ = some (.int .i64 (s 9)) := HS.out.cell 9
              have kS10 : w4.cell? ⟨w.heap.size, 10, none⟩ = some (.int .i64 (s 10)) := HS.out.cell 10
              have kS11 : w4.cell? ⟨w.heap.size, 11, none⟩ = some (.int .i64 (s 11)) := HS.out.cell 11
              have kS12 : w4.cell? ⟨w.heap.size, 12, none⟩ = some (.int .i64 (s 12)) := HS.out.cell 12
              have kK0 : w4.cell? ⟨w.heap.size + 1, 0, none⟩ = some (.slice ZA K zd) := HK.out.cell 0
              have kK1 : w4.cell? ⟨w.heap.size + 1, 1, none⟩ = some (.int .i64 i0) := HK.out.cell 1
              have kK2 : w4.cell? ⟨w.heap.size + 1, 2, none⟩ = some (.int .i64 i1) := HK.out.cell 2
              have kK3 : w4.cell? ⟨w.heap.size + 1, 3, none⟩ = some (.int .i64 fr) := HK.out.cell 3
              have kK4 : w4.cell? ⟨w.heap.size + 1, 4, none⟩ = some (.int .i64 to) := HK.out.cell 4
              have kP0 : w4.cell? ⟨w.heap.size + 1 + 1, 0, none⟩ = some (.int .i64 i0) := HP.out.cell 0
              have kP1 : w4.cell? ⟨w.heap.size + 1 + 1, 1, none⟩ = some (.int .i64 i1) := HP.out.cell 1
              have kP2 : w4.cell? ⟨w.heap.size + 1 + 1, 2, none⟩ = some (.int .i64 fr) := HP.out.cell 2
              have kP3 : w4.cell? ⟨w.heap.size + 1 + 1, 3, none⟩ = some (.int .i64 to) := HP.out.cell 3
              have kC0 : w4.cell? ⟨b, off + j * 6, none⟩ = some (.int .i64 p) := HC.out 0 _ rfl
              have kC1 : w4.cell? ⟨b, off + j * 6 + 1, none⟩ = some (.int .i64 q) := HC.out 1 _ rfl
              have kC2 : w4.cell? ⟨b, off + j * 6 + 2, none⟩ = some (.int .i64 mo) := HC.out 2 _ rfl
              have kC3 : w4.cell? ⟨b, off + j * 6 + 3, none⟩ = some (.int .i64 le) := HC.out 3 _ rfl
              have kC4 : w4.cell? ⟨b, off + j * 6 + 4, none⟩ = some (.bool bw) := HC.out 4 _ rfl
              have kC5 : w4.cell? ⟨b, off + j * 6 + 5, none⟩ = some (.slice R rk rc) := HC.out 5 _ rfl
              have kZ0 : w4.cell? ⟨gz, 0, none⟩ = some (.int .u64 0) := HZ.out.cell 0
              have kZ1 : w4.cell? ⟨gz, 1, none⟩ = some (.int .u64 0) := HZ.out.cell 1
              have kL0 : w4.cell? ⟨gg, j, none⟩ = some (.int .i64 x) := HL.out 0 _ rfl
              go_wp2_with fail
              have sK : ∀ X, Blk X (w.heap.size) 25 #[.int .i64 (s 0), .int .i64 (s 1), .int .i64 (s 2), .int .i64 (s 3), .int .i64 (s 4), .int .i64 (s 5), .int .i64 (s 6), .int .i64 (s 7), .slice A n c, .int .i64 (s 9), .int .i64 (s 10), .int .i64 (s 11), .int .i64 (s 12)] → Blk X (w.heap.size + 1 + 1) 45 #[.int .i64 i0, .int .i64 i1, .int .i64 fr, .int .i64 to] → At X b (off + j * 6) #[.int .i64 p, .int .i64 q, .int .i64 mo, .int .i64 le, .bool bw, .slice R rk rc] → Blk X (gz) 40 #[.int .u64 0, .int .u64 0] → At X gg (j) #[.int .i64 x] → (fun X => X.cell? ⟨w.heap.size, 0, none⟩ = some (.int .i64 (s 0)) ∧ X.cell? ⟨w.heap.size, 1, none⟩ = some (.int .i64 (s 1)) ∧ X.cell? ⟨w.heap.size, 2, none⟩ = some (.int .i64 (s 2)) ∧ X.cell? ⟨w.heap.size, 3, none⟩ = some (.int .i64 (s 3)) ∧ X.cell? ⟨w.heap.size, 4, none⟩ = some (.int .i64 (s 4)) ∧ X.cell? ⟨w.heap.size, 5, none⟩ = some (.int .i64 (s 5)) ∧ X.cell? ⟨w.heap.size, 6, none⟩ = some (.int .i64 (s 6)) ∧ X.cell? ⟨w.heap.size, 7, none⟩ = some (.int .i64 (s 7)) ∧ X.cell? ⟨w.heap.size, 8, none⟩ = some (.slice A n c) ∧ X.cell? ⟨w.heap.size, 9, none⟩ = some (.int .i64 (s 9)) ∧ X.cell? ⟨w.heap.size, 10, none⟩ = some (.int .i64 (s 10)) ∧ X.cell? ⟨w.heap.size, 11, none⟩ = some (.int .i64 (s 11)) ∧ X.cell? ⟨w.heap.size, 12, none⟩ = some (.int .i64 (s 12)) ∧ X.cell? ⟨w.heap.size + 1 + 1, 0, none⟩ = some (.int .i64 i0) ∧ X.cell? ⟨w.heap.size + 1 + 1, 1, none⟩ = some (.int .i64 i1) ∧ X.cell? ⟨w.heap.size + 1 + 1, 2, none⟩ = some (.int .i64 fr) ∧ X.cell? ⟨w.heap.size + 1 + 1, 3, none⟩ = some (.int .i64 to) ∧ X.cell? ⟨b, off + j * 6, none⟩ = some (.int .i64 p) ∧ X.cell? ⟨b, off + j * 6 + 1, none⟩ = some (.int .i64 q) ∧ X.cell? ⟨b, off + j * 6 + 2, none⟩ = some (.int .i64 mo) ∧ X.cell? ⟨b, off + j * 6 + 3, none⟩ = some (.int .i64 le) ∧ X.cell? ⟨b, off + j * 6 + 4, none⟩ = some (.bool bw) ∧ X.cell? ⟨b, off + j * 6 + 5, none⟩ = some (.slice R rk rc) ∧ X.cell? ⟨gz, 0, none⟩ = some (.int .u64 0) ∧ X.cell? ⟨gz, 1, none⟩ = some (.int .u64 0) ∧ X.cell? ⟨gg, j, none⟩ = some (.int .i64 x)) X := fun X hS hP hC hZ hL => ⟨hS.cell 0, hS.cell 1, hS.cell 2, hS.cell 3, hS.cell 4, hS.cell 5, hS.cell 6, hS.cell 7, hS.cell 8, hS.cell 9, hS.cell 10, hS.cell 11, hS.cell 12, hP.cell 0, hP.cell 1, hP.cell 2, hP.cell 3, hC 0 _ rfl, hC 1 _ rfl, hC 2 _ rfl, hC 3 _ rfl, hC 4 _ rfl, hC 5 _ rfl, hZ.cell 0, hZ.cell 1, hL 0 _ rfl⟩
              have LS0 := Lib.hid (HS.out.drew)
              have LK0 := Lib.hid (HK.out.drew)
              have LP0 := Lib.hid (HP.out.drew)
              have LC0 := Lib.hid (HC.out.drew)
              have LZ0 := Lib.hid (HZ.out.drew)
              have LL0 := Lib.hid (HL.out.drew)
              have E0 := Lib.hid (EE.out.drew)
              clear kS0 kS1 kS2 kS3 kS4 kS5 kS6 kS7 kS8 kS9 kS10 kS11 kS12 kK0 kK1 kK2 kK3 kK4 kP0 kP1 kP2 kP3 kC0 kC1 kC2 kC3 kC4 kC5 kZ0 kZ1 kL0
              refine wp_region_held_drew (S := (fun X => X.cell? ⟨w.heap.size, 0, none⟩ = some (.int .i64 (s 0)) ∧ X.cell? ⟨w.heap.size, 1, none⟩ = some (.int .i64 (s 1)) ∧ X.cell? ⟨w.heap.size, 2, none⟩ = some (.int .i64 (s 2)) ∧ X.cell? ⟨w.heap.size, 3, none⟩ = some (.int .i64 (s 3)) ∧ X.cell? ⟨w.heap.size, 4, none⟩ = some (.int .i64 (s 4)) ∧ X.cell? ⟨w.heap.size, 5, none⟩ = some (.int .i64 (s 5)) ∧ X.cell? ⟨w.heap.size, 6, none⟩ = some (.int .i64 (s 6)) ∧ X.cell? ⟨w.heap.size, 7, none⟩ = some (.int .i64 (s 7)) ∧ X.cell? ⟨w.heap.size, 8, none⟩ = some (.slice A n c) ∧ X.cell? ⟨w.heap.size, 9, none⟩ = some (.int .i64 (s 9)) ∧ X.cell? ⟨w.heap.size, 10, none⟩ = some (.int .i64 (s 10)) ∧ X.cell? ⟨w.heap.size, 11, none⟩ = some (.int .i64 (s 11)) ∧ X.cell? ⟨w.heap.size, 12, none⟩ = some (.int .i64 (s 12)) ∧ X.cell? ⟨w.heap.size + 1 + 1, 0, none⟩ = some (.int .i64 i0) ∧ X.cell? ⟨w.heap.size + 1 + 1, 1, none⟩ = some (.int .i64 i1) ∧ X.cell? ⟨w.heap.size + 1 + 1, 2, none⟩ = some (.int .i64 fr) ∧ X.cell? ⟨w.heap.size + 1 + 1, 3, none⟩ = some (.int .i64 to) ∧ X.cell? ⟨b, off + j * 6, none⟩ = some (.int .i64 p) ∧ X.cell? ⟨b, off + j * 6 + 1, none⟩ = some (.int .i64 q) ∧ X.cell? ⟨b, off + j * 6 + 2, none⟩ = some (.int .i64 mo) ∧ X.cell? ⟨b, off + j * 6 + 3, none⟩ = some (.int .i64 le) ∧ X.cell? ⟨b, off + j * 6 + 4, none⟩ = some (.bool bw) ∧ X.cell? ⟨b, off + j * 6 + 5, none⟩ = some (.slice R rk rc) ∧ X.cell? ⟨gz, 0, none⟩ = some (.int .u64 0) ∧ X.cell? ⟨gz, 1, none⟩ = some (.int .u64 0) ∧ X.cell? ⟨gg, j, none⟩ = some (.int .i64 x))) (by kernel_rfl) (sK _ LS0.out LP0.out LC0.out LZ0.out LL0.out) (fun hHeld => ?_)
              clear hHeld
              refine wpAnyH_take (i := 0) (v := ?_) rfl (by kernel_rfl) (by kernel_rfl) (by kernel_rfl) (fun _ _ _ h => h) (Or.inl ⟨by rfl, ?_⟩) (sK _ LS0.out LP0.out LC0.out LZ0.out LL0.out) ?_
              rotate_left
              · (intro wS hSw; (try dsimp only at hSw); go_simp; try with_reducible rfl)
              simp only [Act.put, List.getElem_toArray, List.getElem_cons_zero, List.getElem_cons_succ, List.setIfInBounds_toArray, List.set_cons_zero, List.set_cons_succ]
              refine wpAnyH_take (i := 1) (v := ?_) rfl (by kernel_rfl) (by kernel_rfl) (by kernel_rfl) (fun _ _ _ h => h) (Or.inl ⟨by rfl, ?_⟩) (sK _ LS0.out LP0.out LC0.out LZ0.out LL0.out) ?_
              rotate_left
              · (intro wS hSw; (try dsimp only at hSw); go_simp; try with_reducible rfl)
              simp only [Act.put, List.getElem_toArray, List.getElem_cons_zero, List.getElem_cons_succ, List.setIfInBounds_toArray, List.set_cons_zero, List.set_cons_succ]
              refine wpAnyH_take (i := 2) (v := ?_) rfl (by kernel_rfl) (by kernel_rfl) (by kernel_rfl) (fun _ _ _ h => h) (Or.inl ⟨by rfl, ?_⟩) (sK _ LS0.out LP0.out LC0.out LZ0.out LL0.out) ?_
              rotate_left
              · (intro wS hSw; (try dsimp only at hSw); go_simp; try with_reducible rfl)
              simp only [Act.put, List.getElem_toArray, List.getElem_cons_zero, List.getElem_cons_succ, List.setIfInBounds_toArray, List.set_cons_zero, List.set_cons_succ]
              refine wpAnyH_take (i := 3) (v := ?_) rfl (by kernel_rfl) (by kernel_rfl) (by kernel_rfl) (fun _ _ _ h => h) (Or.inl ⟨by rfl, ?_⟩) (sK _ LS0.out LP0.out LC0.out LZ0.out LL0.out) ?_
              rotate_left
              · (intro wS hSw; (try dsimp only at hSw); go_simp; try with_reducible rfl)
              simp only [Act.put, List.getElem_toArray, List.getElem_cons_zero, List.getElem_cons_succ, List.setIfInBounds_toArray, List.set_cons_zero, List.set_cons_succ]
              refine wpAnyH_take (i := 4) (v := ?_) rfl (by kernel_rfl) (by kernel_rfl) (by kernel_rfl) (fun _ _ _ h => h) (Or.inl ⟨by rfl, ?_⟩) (sK _ LS0.out LP0.out LC0.out LZ0.out LL0.out) ?_
              rotate_left
              · (intro wS hSw; (try dsimp only at hSw); go_simp; try with_reducible rfl)
              simp only [Act.put, List.getElem_toArray, List.getElem_cons_zero, List.getElem_cons_succ, List.setIfInBounds_toArray, List.set_cons_zero, List.set_cons_succ]
              refine wpAnyH_take (i := 5) (v := ?_) rfl (by kernel_rfl) (by kernel_rfl) (by kernel_rfl) (fun _ _ _ h => h) (Or.inl ⟨by rfl, ?_⟩) (sK _ LS0.out LP0.out LC0.out LZ0.out LL0.out) ?_
              rotate_left
              · (intro wS hSw; (try dsimp only at hSw); go_simp; try with_reducible rfl)
              simp only [Act.put, List.getElem_toArray, List.getElem_cons_zero, List.getElem_cons_succ, List.setIfInBounds_toArray, List.set_cons_zero, List.set_cons_succ]
              refine wpAnyH_take (i := 6) (v := ?_) rfl (by kernel_rfl) (by kernel_rfl) (by kernel_rfl) (fun _ _ _ h => h) (Or.inl ⟨by rfl, ?_⟩) (sK _ LS0.out LP0.out LC0.out LZ0.out LL0.out) ?_
              rotate_left
              · (intro wS hSw; (try dsimp only at hSw); go_simp; try with_reducible rfl)
              simp only [Act.put, List.getElem_toArray, List.getElem_cons_zero, List.getElem_cons_succ, List.setIfInBounds_toArray, List.set_cons_zero, List.set_cons_succ]
              refine wpAnyH_take (i := 8) (v := ?_) rfl (by kernel_rfl) (by kernel_rfl) (by kernel_rfl) (fun _ _ _ h => h) (Or.inl ⟨by rfl, ?_⟩) (sK _ LS0.out LP0.out LC0.out LZ0.out LL0.out) ?_
              rotate_left
              · (intro wS hSw; (try dsimp only at hSw); go_simp; try with_reducible rfl)
              simp only [Act.put, List.getElem_toArray, List.getElem_cons_zero, List.getElem_cons_succ, List.setIfInBounds_toArray, List.set_cons_zero, List.set_cons_succ]
              refine wpAnyH_take (i := 9) (v := ?_) rfl (by kernel_rfl) (by kernel_rfl) (by kernel_rfl) (fun _ _ _ h => h) (Or.inl ⟨by rfl, ?_⟩) (sK _ LS0.out LP0.out LC0.out LZ0.out LL0.out) ?_
              rotate_left
              · (intro wS hSw; (try dsimp only at hSw); go_simp; try with_reducible rfl)
              simp only [Act.put, List.getElem_toArray, List.getElem_cons_zero, List.getElem_cons_succ, List.setIfInBounds_toArray, List.set_cons_zero, List.set_cons_succ]
              refine wpAnyH_take (i := 10) (v := ?_) rfl (by kernel_rfl) (by kernel_rfl) (by kernel_rfl) (fun _ _ _ h => h) (Or.inl ⟨by rfl, ?_⟩) (sK _ LS0.out LP0.out LC0.out LZ0.out LL0.out) ?_
              rotate_left
              · (intro wS hSw; (try dsimp only at hSw); go_simp; try with_reducible rfl)
              simp only [Act.put, List.getElem_toArray, List.getElem_cons_zero, List.getElem_cons_succ, List.setIfInBounds_toArray, List.set_cons_zero, List.set_cons_succ]
              refine wpAnyH_take (i := 11) (v := ?_) rfl (by kernel_rfl) (by kernel_rfl) (by kernel_rfl) (fun _ _ _ h => h) (Or.inl ⟨by rfl, ?_⟩) (sK _ LS0.out LP0.out LC0.out LZ0.out LL0.out) ?_
              rotate_left
              · (intro wS hSw; (try dsimp only at hSw); go_simp; try with_reducible rfl)
              simp only [Act.put, List.getElem_toArray, List.getElem_cons_zero, List.getElem_cons_succ, List.setIfInBounds_toArray, List.set_cons_zero, List.set_cons_succ]
              refine wpAnyH_ready (rs := [7]) (by kernel_rfl) (by simp) ?_
              refine AllReadyH.cons rfl (fun K hK => ?_) AllReadyH.nil
              go_simp
              refine (JP1.out _ (JT.out.kept E0.out)).mono ?_
              rintro e r1 ⟨rfl, hb⟩
              have LS1 := Lib.hid (Blk.next (w := w4.drew) LS0.out hb)
              have LK1 := Lib.hid (Blk.next (w := w4.drew) LK0.out hb)
              have LP1 := Lib.hid (Blk.next (w := w4.drew) LP0.out hb)
              have LC1 := Lib.hid (At.next (w := w4.drew) LC0.out hb)
              have LZ1 := Lib.hid (Blk.next (w := w4.drew) LZ0.out hb)
              have LL1 := Lib.hid (At.next (w := w4.drew) LL0.out hb)
              have E1 := Lib.hid (E0.out.trans (hb.mono E0.out.size))
              have HO := Lib.hid (mkOwn_below (w := w4.drew) HO.out hb)
              clear hb
              go_wp2_with fail
              refine hK.out _ _ (sK _ LS1.out LP1.out LC1.out LZ1.out LL1.out) (fun hHeld => ?_)
              clear hK K hHeld
              try simp only [Act.put, List.getElem_toArray, List.getElem_cons_zero, List.getElem_cons_succ, List.setIfInBounds_toArray, List.set_cons_zero, List.set_cons_succ]
              refine wpAnyH_take (i := 12) (v := ?_) rfl (by kernel_rfl) (by kernel_rfl) (by kernel_rfl) (fun _ _ _ h => h) (Or.inl ⟨by rfl, ?_⟩) (sK _ LS1.out LP1.out LC1.out LZ1.out LL1.out) ?_
              rotate_left
              · (intro wS hSw; (try dsimp only at hSw); go_simp; try with_reducible rfl)
              simp only [Act.put, List.getElem_toArray, List.getElem_cons_zero, List.getElem_cons_succ, List.setIfInBounds_toArray, List.set_cons_zero, List.set_cons_succ]
              refine wpAnyH_done (by kernel_rfl) ?_ _
              go_wp2_with fail
              go_roundw
              case rel => exact ⟨j + 1, by omega, by go_num, E1.out, HO.out, LS1.out, LK1.out, LP1.out⟩
              case measure => simp [intOf]; omega
          · obtain rfl : j = k := by omega
            have h' : ¬ ((j : Int) < j) := by omega
            obtain ⟨lA, lc, e, hR⟩ := ownR_rd (ownR_len hown (rowL_len f j)) (fun i hi => by
              rw [rowL_len] at hi
              rw [rowL_at _ hi]
              have := AMB.out i hi
              exact WalkArith.wf_i64 (by omega))
            rw [rowL_len] at e
            cases e
            have HRL := Lib.hid hR
            obtain ⟨ev, hev⟩ : ∃ q, lstV (rowL f j) j = q := ⟨_, rfl⟩
            have B1 := JB1.out
            have B2 := fun w hr => rleast_b vA vc j (rowL f j) w (rowL_len f j) hr (by omega)
            simp only [hev] at B1 B2
            have JC1 := Lib.hid B1; have JC2 := Lib.hid B2
            have qb : (ev == ev) = true := by simp
            clear B1 B2 hev hown hR
            go_wp2_with fail
            refine (JC1.out _ (JT.out.kept EE.out) (JV.out.kept EE.out) (JS.out.kept EE.out)).mono ?_
            rintro e v3 ⟨rfl, hb⟩
            have HRL := Lib.hid (RdI.kept (w := wr) HRL.out hb)
            clear kS0 kS1 kS2 kS3 kS4 kS5 kS6 kS7 kS8 kS9 kS10 kS11 kS12 kK0 kK1 kK2 kK3 kK4 kP0 kP1 kP2 kP3
            have HS := Lib.hid (Blk.next (w := wr) HS.out hb)
            have HK := Lib.hid (Blk.next (w := wr) HK.out hb)
            have HP := Lib.hid (Blk.next (w := wr) HP.out hb)
            have EE := Lib.hid (EE.out.trans (hb.mono EE.out.size))
            clear hb
            have kS0 : v3.cell? ⟨w.heap.size, 0, none⟩ = some (.int .i64 (s 0)) := HS.out.cell 0
            have kS1 : v3.cell? ⟨w.heap.size, 1, none⟩ = some (.int .i64 (s 1)) := HS.out.cell 1
            have kS2 : v3.cell? ⟨w.heap.size, 2, none⟩ = some (.int .i64 (s 2)) := HS.out.cell 2
            have kS3 : v3.cell? ⟨w.heap.size, 3, none⟩ = some (.int .i64 (s 3)) := HS.out.cell 3
            have kS4 : v3.cell? ⟨w.heap.size, 4, none⟩ = some (.int .i64 (s 4)) := HS.out.cell 4
            have kS5 : v3.cell? ⟨w.heap.size, 5, none⟩ = some (.int .i64 (s 5)) := HS.out.cell 5
            have kS6 : v3.cell? ⟨w.heap.size, 6, none⟩ = some (.int .i64 (s 6)) := HS.out.cell 6
            have kS7 : v3.cell? ⟨w.heap.size, 7, none⟩ = some (.int .i64 (s 7)) := HS.out.cell 7
            have kS8 : v3.cell? ⟨w.heap.size, 8, none⟩ = some (.slice A n c) := HS.out.cell 8
            have kS9 : v3.cell? ⟨w.heap.size, 9, none⟩ = some (.int .i64 (s 9)) := HS.out.cell 9
            have kS10 : v3.cell? ⟨w.heap.size, 10, none⟩ = some (.int .i64 (s 10)) := HS.out.cell 10
            have kS11 : v3.cell? ⟨w.heap.size, 11, none⟩ = some (.int .i64 (s 11)) := HS.out.cell 11
            have kS12 : v3.cell? ⟨w.heap.size, 12, none⟩ = some (.int .i64 (s 12)) := HS.out.cell 12
            have kK0 : v3.cell? ⟨w.heap.size + 1, 0, none⟩ = some (.slice ZA K zd) := HK.out.cell 0
            have kK1 : v3.cell? ⟨w.heap.size + 1, 1, none⟩ = some (.int .i64 i0) := HK.out.cell 1
            have kK2 : v3.cell? ⟨w.heap.size + 1, 2, none⟩ = some (.int .i64 i1) := HK.out.cell 2
            have kK3 : v3.cell? ⟨w.heap.size + 1, 3, none⟩ = some (.int .i64 fr) := HK.out.cell 3
            have kK4 : v3.cell? ⟨w.heap.size + 1, 4, none⟩ = some (.int .i64 to) := HK.out.cell 4
            have kP0 : v3.cell? ⟨w.heap.size + 1 + 1, 0, none⟩ = some (.int .i64 i0) := HP.out.cell 0
            have kP1 : v3.cell? ⟨w.heap.size + 1 + 1, 1, none⟩ = some (.int .i64 i1) := HP.out.cell 1
            have kP2 : v3.cell? ⟨w.heap.size + 1 + 1, 2, none⟩ = some (.int .i64 fr) := HP.out.cell 2
            have kP3 : v3.cell? ⟨w.heap.size + 1 + 1, 3, none⟩ = some (.int .i64 to) := HP.out.cell 3
            go_wp2_with fail
            refine (JC2.out _ HRL.out).mono ?_
            rintro e v4 ⟨rfl, hb⟩
            clear kS0 kS1 kS2 kS3 kS4 kS5 kS6 kS7 kS8 kS9 kS10 kS11 kS12 kK0 kK1 kK2 kK3 kK4 kP0 kP1 kP2 kP3
            have HS := Lib.hid (Blk.next (w := v3) HS.out hb)
            have HK := Lib.hid (Blk.next (w := v3) HK.out hb)
            have HP := Lib.hid (Blk.next (w := v3) HP.out hb)
            have EE := Lib.hid (EE.out.trans (hb.mono EE.out.size))
            clear hb
            have kS0 : v4.cell? ⟨w.heap.size, 0, none⟩ = some (.int .i64 (s 0)) := HS.out.cell 0
            have kS1 : v4.cell? ⟨w.heap.size, 1, none⟩ = some (.int .i64 (s 1)) := HS.out.cell 1
            have kS2 : v4.cell? ⟨w.heap.size, 2, none⟩ = some (.int .i64 (s 2)) := HS.out.cell 2
            have kS3 : v4.cell? ⟨w.heap.size, 3, none⟩ = some (.int .i64 (s 3)) := HS.out.cell 3
            have kS4 : v4.cell? ⟨w.heap.size, 4, none⟩ = some (.int .i64 (s 4)) := HS.out.cell 4
            have kS5 : v4.cell? ⟨w.heap.size, 5, none⟩ = some (.int .i64 (s 5)) := HS.out.cell 5
            have kS6 : v4.cell? ⟨w.heap.size, 6, none⟩ = some (.int .i64 (s 6)) := HS.out.cell 6
            have kS7 : v4.cell? ⟨w.heap.size, 7, none⟩ = some (.int .i64 (s 7)) := HS.out.cell 7
            have kS8 : v4.cell? ⟨w.heap.size, 8, none⟩ = some (.slice A n c) := HS.out.cell 8
            have kS9 : v4.cell? ⟨w.heap.size, 9, none⟩ = some (.int .i64 (s 9)) := HS.out.cell 9
            have kS10 : v4.cell? ⟨w.heap.size, 10, none⟩ = some (.int .i64 (s 10)) := HS.out.cell 10
            have kS11 : v4.cell? ⟨w.heap.size, 11, none⟩ = some (.int .i64 (s 11)) := HS.out.cell 11
            have kS12 : v4.cell? ⟨w.heap.size, 12, none⟩ = some (.int .i64 (s 12)) := HS.out.cell 12
            have kK0 : v4.cell? ⟨w.heap.size + 1, 0, none⟩ = some (.slice ZA K zd) := HK.out.cell 0
            have kK1 : v4.cell? ⟨w.heap.size + 1, 1, none⟩ = some (.int .i64 i0) := HK.out.cell 1
            have kK2 : v4.cell? ⟨w.heap.size + 1, 2, none⟩ = some (.int .i64 i1) := HK.out.cell 2
            have kK3 : v4.cell? ⟨w.heap.size + 1, 3, none⟩ = some (.int .i64 fr) := HK.out.cell 3
            have kK4 : v4.cell? ⟨w.heap.size + 1, 4, none⟩ = some (.int .i64 to) := HK.out.cell 4
            have kP0 : v4.cell? ⟨w.heap.size + 1 + 1, 0, none⟩ = some (.int .i64 i0) := HP.out.cell 0
            have kP1 : v4.cell? ⟨w.heap.size + 1 + 1, 1, none⟩ = some (.int .i64 i1) := HP.out.cell 1
            have kP2 : v4.cell? ⟨w.heap.size + 1 + 1, 2, none⟩ = some (.int .i64 fr) := HP.out.cell 2
            have kP3 : v4.cell? ⟨w.heap.size + 1 + 1, 3, none⟩ = some (.int .i64 to) := HP.out.cell 3
            go_wp2_with fail
            refine (aalive _ (JT.out.kept EE.out)).mono ?_
            rintro e v5 ⟨rfl, hb⟩
            clear kS0 kS1 kS2 kS3 kS4 kS5 kS6 kS7 kS8 kS9 kS10 kS11 kS12 kK0 kK1 kK2 kK3 kK4 kP0 kP1 kP2 kP3
            have HS := Lib.hid (Blk.next (w := v4) HS.out hb)
            have HK := Lib.hid (Blk.next (w := v4) HK.out hb)
            have HP := Lib.hid (Blk.next (w := v4) HP.out hb)
            have EE := Lib.hid (EE.out.trans (hb.mono EE.out.size))
            clear hb
            have kS0 : v5.cell? ⟨w.heap.size, 0, none⟩ = some (.int .i64 (s 0)) := HS.out.cell 0
            have kS1 : v5.cell? ⟨w.heap.size, 1, none⟩ = some (.int .i64 (s 1)) := HS.out.cell 1
            have kS2 : v5.cell? ⟨w.heap.size, 2, none⟩ = some (.int .i64 (s 2)) := HS.out.cell 2
            have kS3 : v5.cell? ⟨w.heap.size, 3, none⟩ = some (.int .i64 (s 3)) := HS.out.cell 3
            have kS4 : v5.cell? ⟨w.heap.size, 4, none⟩ = some (.int .i64 (s 4)) := HS.out.cell 4
            have kS5 : v5.cell? ⟨w.heap.size, 5, none⟩ = some (.int .i64 (s 5)) := HS.out.cell 5
            have kS6 : v5.cell? ⟨w.heap.size, 6, none⟩ = some (.int .i64 (s 6)) := HS.out.cell 6
            have kS7 : v5.cell? ⟨w.heap.size, 7, none⟩ = some (.int .i64 (s 7)) := HS.out.cell 7
            have kS8 : v5.cell? ⟨w.heap.size, 8, none⟩ = some (.slice A n c) := HS.out.cell 8
            have kS9 : v5.cell? ⟨w.heap.size, 9, none⟩ = some (.int .i64 (s 9)) := HS.out.cell 9
            have kS10 : v5.cell? ⟨w.heap.size, 10, none⟩ = some (.int .i64 (s 10)) := HS.out.cell 10
            have kS11 : v5.cell? ⟨w.heap.size, 11, none⟩ = some (.int .i64 (s 11)) := HS.out.cell 11
            have kS12 : v5.cell? ⟨w.heap.size, 12, none⟩ = some (.int .i64 (s 12)) := HS.out.cell 12
            have kK0 : v5.cell? ⟨w.heap.size + 1, 0, none⟩ = some (.slice ZA K zd) := HK.out.cell 0
            have kK1 : v5.cell? ⟨w.heap.size + 1, 1, none⟩ = some (.int .i64 i0) := HK.out.cell 1
            have kK2 : v5.cell? ⟨w.heap.size + 1, 2, none⟩ = some (.int .i64 i1) := HK.out.cell 2
            have kK3 : v5.cell? ⟨w.heap.size + 1, 3, none⟩ = some (.int .i64 fr) := HK.out.cell 3
            have kK4 : v5.cell? ⟨w.heap.size + 1, 4, none⟩ = some (.int .i64 to) := HK.out.cell 4
            have kP0 : v5.cell? ⟨w.heap.size + 1 + 1, 0, none⟩ = some (.int .i64 i0) := HP.out.cell 0
            have kP1 : v5.cell? ⟨w.heap.size + 1 + 1, 1, none⟩ = some (.int .i64 i1) := HP.out.cell 1
            have kP2 : v5.cell? ⟨w.heap.size + 1 + 1, 2, none⟩ = some (.int .i64 fr) := HP.out.cell 2
            have kP3 : v5.cell? ⟨w.heap.size + 1 + 1, 3, none⟩ = some (.int .i64 to) := HP.out.cell 3
            go_wp2_with fail
            go_ret
            exact ⟨rfl, EE.out⟩
theorem walk {s0 s1 s2 s3 s4 s5 s6 s7 s9 s10 s11 s12 : Int} {A : Option Addr} {c n : Nat} {z : Nat → Nat → Int} {C : Option Addr} {d k : Nat} {v : Nat → Nat → Value} {ZA : Option Addr} {zd K : Nat} {sz : Nat → Nat → Int} {i0 i1 fr to : Int} {w : World} (hs0 : (Lit.int .i64 s0).wf = true) (hs1 : (Lit.int .i64 s1).wf = true) (hs2 : (Lit.int .i64 s2).wf = true) (hs3 : (Lit.int .i64 s3).wf = true) (hs4 : (Lit.int .i64 s4).wf = true) (hs5 : (Lit.int .i64 s5).wf = true) (hs6 : (Lit.int .i64 s6).wf = true) (hs7 : (Lit.int .i64 s7).wf = true) (hl : n ≤ c) (hm : c ≤ maxLen) (hr : RdZ w 3 A n z) (_ : A = none → c = 0) (hs9 : (Lit.int .i64 s9).wf = true) (hs10 : (Lit.int .i64 s10).wf = true) (hs11 : (Lit.int .i64 s11).wf = true) (hs12 : (Lit.int .i64 s12).wf = true) (hk : k ≤ d) (hdm : d ≤ maxLen) (hv : RdV w 6 shCar C k v) (_ : C = none → d = 0) (hK : K ≤ zd) (hKm : zd ≤ maxLen) (hs : RdK w .u64 2 ZA K sz) (_ : ZA = none → zd = 0) (h0 : (Lit.int .i64 i0).wf = true) (h1 : (Lit.int .i64 i1).wf = true) (hfr : (Lit.int .i64 fr).wf = true) (hto : (Lit.int .i64 to).wf = true) (hL : laidMetH Tryd.prog Rows.aimTellsRow.laid w) :
    Calls Tryd.prog 4 #[.agg #[.int .i64 s0, .int .i64 s1, .int .i64 s2, .int .i64 s3, .int .i64 s4, .int .i64 s5, .int .i64 s6, .int .i64 s7, .slice A n c, .int .i64 s9, .int .i64 s10, .int .i64 s11, .int .i64 s12], .slice C k d, .agg #[.slice ZA K zd, .int .i64 i0, .int .i64 i1, .int .i64 fr, .int .i64 to]] w fun e w' => e = .returned (.bool true) ∧ Below w.heap.size w w' := by
  obtain ⟨s, hs'⟩ : ∃ s : Nat → Int, s 0 = s0 ∧ s 1 = s1 ∧ s 2 = s2 ∧ s 3 = s3 ∧ s 4 = s4 ∧ s 5 = s5 ∧ s 6 = s6 ∧ s 7 = s7 ∧ s 9 = s9 ∧ s 10 = s10 ∧ s 11 = s11 ∧ s 12 = s12 :=
    ⟨fun j => if j = 0 then s0 else if j = 1 then s1 else if j = 2 then s2 else if j = 3 then s3 else if j = 4 then s4 else if j = 5 then s5 else if j = 6 then s6 else if j = 7 then s7 else if j = 9 then s9 else if j = 10 then s10 else if j = 11 then s11 else s12, rfl, rfl, rfl, rfl, rfl, rfl, rfl, rfl, rfl, rfl, rfl, rfl⟩
  obtain ⟨rfl, rfl, rfl, rfl, rfl, rfl, rfl, rfl, rfl, rfl, rfl, rfl⟩ := hs'
  exact walk_f s A C ZA n c k d K zd z v sz i0 i1 fr to w (tz_of_laid hL) hr hv hs hK hKm (by omega)

end Go.Proofs.YtbjcigkakeffmaaDoor.aimTells
