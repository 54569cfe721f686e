/- Which car a passenger costs least: the program's. -/
import Derived.Test.YtbjcigkakeffmaaDoorRows
import Derived.Test.YtbjcigkakeffmaaDoorKitM
import Derived.Test.YtbjcigkakeffmaaDoorCmp
import Derived.Test.YtbjcigkakeffmaaDoorPlaceA
import Derived.Test.YtbjcigkakeffmaaDoorVetA
import Derived.Test.YtbjcigkakeffmaaDoorVetB
import Derived.Test.YtbjcigkakeffmaaDoorNearMath
import Derived.Test.YtbjcigkakeffmaaDoorNearA
import Derived.Test.YtbjcigkakeffmaaDoorNearB
import Derived.Test.YtbjcigkakeffmaaDoorNearC
import Derived.Test.YtbjcigkakeffmaaDoorNearG
import Derived.Test.YtbjcigkakeffmaaDoorNearI
import Derived.Test.YtbjcigkakeffmaaDoorBitM
import Derived.Test.YtbjcigkakeffmaaDoorBitsL
import Derived.Test.YtbjcigkakeffmaaDoorBitsN
import Derived.Test.YtbjcigkakeffmaaDoorBitsT
import Derived.Test.YtbjcigkakeffmaaDoorBitsU
import Derived.Test.YtbjcigkakeffmaaDoorBitsV
import Derived.Test.YtbjcigkakeffmaaDoorBitsX
import Derived.Test.YtbjcigkakeffmaaDoorWantA
import Derived.Test.YtbjcigkakeffmaaDoorWantB
import Derived.Test.YtbjcigkakeffmaaDoorWantC
import Derived.Test.YtbjcigkakeffmaaDoorEtaA
import Derived.Test.YtbjcigkakeffmaaDoorEtaB
import Derived.Test.YtbjcigkakeffmaaDoorEtaMath
import Derived.Test.YtbjcigkakeffmaaDoorEtaC
import Derived.Test.YtbjcigkakeffmaaDoorEtaD
import Derived.Test.YtbjcigkakeffmaaDoorEtaE
import Derived.Test.YtbjcigkakeffmaaDoorEtaF
import Derived.Test.YtbjcigkakeffmaaDoorEtaG
import Derived.Test.YtbjcigkakeffmaaDoorAimA
import Derived.Test.YtbjcigkakeffmaaDoorWantD
import Derived.Test.YtbjcigkakeffmaaDoorAtKit
import Derived.WalkKit
import Derived.IntWalk
import Derived.Lib.Hide
import Derived.WalkSpells
import Derived.WalkLawsBesides
import Derived.Laws.CopyOwn
import Derived.Laws.MakeOwn
import Derived.Laws.OwnMore
import Derived.OwnWalk
import Derived.Deep.QuietTactic
import Derived.BigQuiet
import Derived.Deep.RegionHeld3
import Derived.Deep.LoopGhost
import Derived.BigRegion
import Derived.Deep.AppendLies
import Derived.Maps.AppendAt
import Derived.Below
namespace Go.Proofs.YtbjcigkakeffmaaDoor
open Go.RowKit
set_option linter.unusedSimpArgs false
set_option linter.unusedVariables false
/-- what a passenger costs each car -/
def amF (s : Nat → Int) (v : Nat → Nat → Value) (z : Nat → Nat → Int) (K : Nat) (fr to : Int) (i : Nat) : Int :=
  aimV (efF s v z K fr (cmpI to fr) i) (s 4 + s 7 + s 5 + s 6) (stF z K i) fr to (lenOf (v i 5))
theorem own_le (F : Nat → Bool) (fr to : Int) : ownN F fr to ≤ 2 := by unfold ownN; cases hasF F fr <;> cases hasF F to <;> simp
theorem am_bd {s : Nat → Int} {v : Nat → Nat → Value} {z : Nat → Nat → Int} {k K : Nat} {fr to : Int} (hN : InN s) (hI : InC v k ((s 0 - 1) * s 1)) (m0 : 0 ≤ fr * s 1) (m1 : fr * s 1 ≤ 2048) {i : Nat} (hi : i < k) : 0 ≤ amF s v z K fr to i ∧ amF s v z K fr to i ≤ 16777216 := by
  have e := ef_bd (z := z) (K := K) (dir := cmpI to fr) hN hI m0 m1 hi
  obtain ⟨_, _, _, _, _, _, _, _, k1⟩ := hI i hi
  have nb : btP fr to (itL (stF z K i) 128) ≤ 128 := Nat.le_trans (btP_le _ _ _) (itL_len _ 128)
  have ol := own_le (stF z K i) fr to
  obtain ⟨h40, h41⟩ := hN.h4; obtain ⟨h50, h51⟩ := hN.h5; obtain ⟨h60, h61⟩ := hN.h6; obtain ⟨h70, h71⟩ := hN.h7
  unfold amF aimV
  obtain ⟨x, hx⟩ : ∃ x, btP fr to (itL (stF z K i) 128) + ownN (stF z K i) fr to = x := ⟨_, rfl⟩
  rw [hx]
  have P0 : 0 ≤ (x : Int) * (s 4 + s 7 + s 5 + s 6) := Int.mul_nonneg (by omega) (by omega)
  have P1 : (x : Int) * (s 4 + s 7 + s 5 + s 6) ≤ 130 * 256 := Int.mul_le_mul (by omega) (by omega) (by omega) (by omega)
  omega
theorem am_prog (s : Nat → Int) (A : Option Addr) (n c : Nat) (v : Nat → Nat → Value) (z : Nat → Nat → Int) (k K : Nat) (i0 i1 fr to : Int) (i : Nat) (p d mo le : Int) (bw : Bool) (R : Option Addr) (rk rc : Nat) (w : World) (hT : TzT w) (hN : InN s) (hI : InC v k ((s 0 - 1) * s 1)) (m0 : 0 ≤ fr * s 1) (m1 : fr * s 1 ≤ 2048) (hi : i < k) (hp : intOf (v i 0) = p) (hd : intOf (v i 1) = d) (hm : intOf (v i 2) = mo) (hl : intOf (v i 3) = le) (hr : v i 5 = .slice R rk rc) :
    Calls Tryd.prog 15 #[scnV s A n c, carV p d mo le bw (.slice R rk rc), setV (stF z K i), .agg #[.int .i64 i0, .int .i64 i1, .int .i64 fr, .int .i64 to]] w fun e w' => e = .returned (.int .i64 (amF s v z K fr to i)) ∧ Below w.heap.size w w' := by
  have e := ef_bd (z := z) (K := K) (dir := cmpI to fr) hN hI m0 m1 hi
  obtain ⟨_, _, _, _, _, _, _, _, k1⟩ := hI i hi
  have hk : lenOf (v i 5) = rk := by rw [hr]; rfl
  rw [hk] at k1
  have h := acost_any s A n c p d mo le bw R rk rc (stF z K i) i0 i1 fr to _ w hN hT k1 e.1 e.2 (fun w hT => ef_prog s A n c v z k K fr (cmpI to fr) i p d mo le bw _ w hT hN hI m0 m1 hi hp hd hm hl)
  unfold amF; rw [hk]; exact h
theorem am_law (s : Nat → Int) (A : Option Addr) (n c : Nat) (v : Nat → Nat → Value) (z : Nat → Nat → Int) (k K : Nat) (i0 i1 fr to : Int) (i : Nat) (p d mo le : Int) (bw : Bool) (R : Option Addr) (rk rc : Nat) (w : World) (hN : InN s) (hI : InC v k ((s 0 - 1) * s 1)) (m0 : 0 ≤ fr * s 1) (m1 : fr * s 1 ≤ 2048) (hi : i < k) (hp : intOf (v i 0) = p) (hd : intOf (v i 1) = d) (hm : intOf (v i 2) = mo) (hl : intOf (v i 3) = le) (hr : v i 5 = .slice R rk rc) :
    Calls Tryd.prog 14 #[scnV s A n c, carV p d mo le bw (.slice R rk rc), setV (stF z K i), .agg #[.int .i64 i0, .int .i64 i1, .int .i64 fr, .int .i64 to]] w fun e w' => e = .returned (.int .i64 (amF s v z K fr to i)) ∧ Below w.heap.size w w' := by
  have e := ef_bd (z := z) (K := K) (dir := cmpI to fr) hN hI m0 m1 hi
  obtain ⟨_, _, _, _, _, _, _, _, k1⟩ := hI i hi
  have hk : lenOf (v i 5) = rk := by rw [hr]; rfl
  rw [hk] at k1
  have h := lcost_any s A n c p d mo le bw R rk rc (stF z K i) i0 i1 fr to _ w hN k1 e.1 e.2 (fun w => ef_ref s A n c v z k K fr (cmpI to fr) i p d mo le bw _ w hN hI m0 m1 hi hp hd hm hl)
  unfold amF; rw [hk]; exact h
set_option maxRecDepth 100000 in
set_option maxHeartbeats 8000000 in
theorem abest_any (s : Nat → Int) (A C ZA : Option Addr) (n c k d K zd : Nat) (v : Nat → Nat → Value) (z : Nat → Nat → Int) (i0 i1 fr to : Int) (w : World) (hT : TzT w) (hv : RdV w 6 shCar C k v) (hz : RdK w .u64 2 ZA K z) (hk : k ≤ 16) (hN : InN s) (hI : InC v k ((s 0 - 1) * s 1)) (m0 : 0 ≤ fr * s 1) (m1 : fr * s 1 ≤ 2048) :
    Calls Tryd.prog 16 #[scnV s A n c, .slice C k d, .slice ZA K zd, .agg #[.int .i64 i0, .int .i64 i1, .int .i64 fr, .int .i64 to]] w fun e w' => e = .returned (.int .i64 (lstV (rowL (amF s v z K fr to) k) k)) ∧ Below w.heap.size w w' := by
  obtain ⟨ii, hi, hz0, hz1, hz2⟩ := info_parts mkInfo
  have KC := Lib.hid (fun i p q mo le bw R rk rc w hT hi hp hd hm hl hr => am_prog s A n c v z k K i0 i1 fr to i p q mo le bw R rk rc w hT hN hI m0 m1 hi hp hd hm hl hr)
  have HBD := Lib.hid (fun i (hi : i < k) => am_bd (z := z) (K := K) (to := to) hN hI m0 m1 hi)
  obtain ⟨f, hf⟩ : ∃ f, amF s v z K fr to = f := ⟨_, rfl⟩
  rw [hf] at HBD ⊢
  simp only [hf] at KC
  obtain ⟨W, hW⟩ : ∃ W, (w.alloc (.cells (scnC s A n c) 25)).alloc (.cells #[.int .i64 i0, .int .i64 i1, .int .i64 fr, .int .i64 to] 45) = W := ⟨_, rfl⟩
  have HB0 := Lib.hid (show Below w.heap.size w W by rw [← hW]; exact ((Below.refl w.heap.size w).alloc (Nat.le_refl _) _).alloc (by simp <;> omega) _)
  have BX := Lib.hid (show Box W w.heap.size (scnC s A n c) by rw [← hW]; exact (box_new w (scnC s A n c) 25).next ((Below.refl _ _).alloc (Nat.le_refl _) _))
  have BP := Lib.hid (show Blk W (w.heap.size + 1) 45 #[.int .i64 i0, .int .i64 i1, .int .i64 fr, .int .i64 to] by
    rw [← hW]
    have h := Blk.new (w.alloc (.cells (scnC s A n c) 25)) #[.int .i64 i0, .int .i64 i1, .int .i64 fr, .int .i64 to] 45
    rw [World.size_alloc] at h
    exact h)
  have HV := Lib.hid (hv.kept HB0.out)
  have HK := Lib.hid (hz.kept HB0.out)
  have HT := Lib.hid (hT.kept HB0.out)
  have HW := Lib.hid (show (w.alloc (.cells #[.int .i64 (s 0), .int .i64 (s 1), .int .i64 (s 2), .int .i64 (s 3), .int .i64 (s 4), .int .i64 (s 5), .int .i64 (s 6), .int .i64 (s 7), .slice A n c, .int .i64 (s 9), .int .i64 (s 10), .int .i64 (s 11), .int .i64 (s 12)] 25)).alloc (.cells #[.int .i64 i0, .int .i64 i1, .int .i64 fr, .int .i64 to] 45) = W from hW)
  have hsW : W.heap.size = w.heap.size + 1 + 1 := by rw [← hW]; simp
  unfold scnV at KC ⊢
  clear hv hI hz hW hf hN m0 m1 hT
  go_enter Tryd.func16, Tryd.ntmps16
  go_wp2_with (at_make; refine wpList_make_own _ rfl _ _ 48 rfl _ 3 ii (.int .i64 0) 1 Tryd.underlying48 hi hz0 hz1 _ _ _ k rfl rfl (by omega) (by rw [hz2]; omega) (by unfold maxLen; omega) (Nat.le_refl _) ?_; intro w2 hown2 hgrow2)
  rw [HW.out] at hown2 hgrow2
  have hb2 : Below W.heap.size W w2 := (Below.refl _ _).grown hgrow2 (Nat.le_refl _) (fun k h => by cases h)
  have HO := Lib.hid (show FRow f 0 (.slice (some ⟨w.heap.size + 1 + 1, 0, none⟩) 0 k) W w2 from ⟨by have h := hown2; rw [hsW] at h; rw [hsW]; exact h, hb2⟩)
  clear hown2 hgrow2 hb2
  go_wp2_with fail
  go_loopw [9, 18] (fun V i wr => ∃ j : Nat, j ≤ k ∧ i = .int .i64 j ∧ FRow f j V W wr) (fun _ i _ => k - (intOf i).toNat)
  case atStart => exact ⟨0, by omega, rfl, HO.out⟩
  case round =>
    obtain ⟨j, hj, rfl, hown, hb⟩ := hrel
    have HB := Lib.hid hb
    have hsz := hb.size
    by_cases h : j < k
    · have RV := HV.out.kept hb
      obtain ⟨y, bw, R, rk, rc, e0, e1, e2, e3, e4, e5, rm, _, _⟩ := car_at RV h
      obtain ⟨b, off, rfl, hltW, _⟩ := rdV_row HV.out (by omega) (by omega)
      obtain ⟨b', off', e', hlt, hcl⟩ := rdV_row RV (by omega) (by omega)
      cases e'
      have c0 : wr.cell? ⟨b, off + j * 6, none⟩ = some (.int .i64 (y 0)) := (hcl j 0 h (by omega)).trans (by rw [e0])
      have c1 := (hcl j 1 h (by omega)).trans (congrArg some e1)
      have c2 := (hcl j 2 h (by omega)).trans (congrArg some e2)
      have c3 := (hcl j 3 h (by omega)).trans (congrArg some e3)
      have c4 := (hcl j 4 h (by omega)).trans (congrArg some e4)
      have c5 := (hcl j 5 h (by omega)).trans (congrArg some e5)
      have X2 := BX.out.next hb
      have BP2 := BP.out.next hb
      have KJ := fun w hT => KC.out j (y 0) (y 1) (y 2) (y 3) bw R rk rc w hT h (by rw [e0]; rfl) (by rw [e1]; rfl) (by rw [e2]; rfl) (by rw [e3]; rfl) e5
      obtain ⟨x, hx⟩ : ∃ x, f j = x := ⟨_, rfl⟩
      have X := Lib.hid hx
      simp only [hx] at KJ
      obtain ⟨p, hp⟩ : ∃ p, y 0 = p := ⟨_, rfl⟩
      obtain ⟨q, hq⟩ : ∃ q, y 1 = q := ⟨_, rfl⟩
      obtain ⟨mo, hmo⟩ : ∃ p, y 2 = p := ⟨_, rfl⟩
      obtain ⟨le, hle⟩ : ∃ p, y 3 = p := ⟨_, rfl⟩
      simp only [hp, hq, hmo, hle] at KJ c0 c1 c2 c3
      unfold carV at KJ
      have f0 : wr.cell? ⟨w.heap.size, 0, none⟩ = some (.int .i64 (s 0)) := X2 0 _ rfl
      have f1 : wr.cell? ⟨w.heap.size, 1, none⟩ = some (.int .i64 (s 1)) := X2 1 _ rfl
      have f2 : wr.cell? ⟨w.heap.size, 2, none⟩ = some (.int .i64 (s 2)) := X2 2 _ rfl
      have f3 : wr.cell? ⟨w.heap.size, 3, none⟩ = some (.int .i64 (s 3)) := X2 3 _ rfl
      have f4 : wr.cell? ⟨w.heap.size, 4, none⟩ = some (.int .i64 (s 4)) := X2 4 _ rfl
      have f5 : wr.cell? ⟨w.heap.size, 5, none⟩ = some (.int .i64 (s 5)) := X2 5 _ rfl
      have f6 : wr.cell? ⟨w.heap.size, 6, none⟩ = some (.int .i64 (s 6)) := X2 6 _ rfl
      have f7 : wr.cell? ⟨w.heap.size, 7, none⟩ = some (.int .i64 (s 7)) := X2 7 _ rfl
      have f8 : wr.cell? ⟨w.heap.size, 8, none⟩ = some (.slice A n c) := X2 8 _ rfl
      have f9 : wr.cell? ⟨w.heap.size, 9, none⟩ = some (.int .i64 (s 9)) := X2 9 _ rfl
      have f10 : wr.cell? ⟨w.heap.size, 10, none⟩ = some (.int .i64 (s 10)) := X2 10 _ rfl
      have f11 : wr.cell? ⟨w.heap.size, 11, none⟩ = some (.int .i64 (s 11)) := X2 11 _ rfl
      have f12 : wr.cell? ⟨w.heap.size, 12, none⟩ = some (.int .i64 (s 12)) := X2 12 _ rfl
      have p0 : wr.cell? ⟨w.heap.size + 1, 0, none⟩ = some (.int .i64 i0) := BP2.cell 0
      have p1 : wr.cell? ⟨w.heap.size + 1, 1, none⟩ = some (.int .i64 i1) := BP2.cell 1
      have p2 : wr.cell? ⟨w.heap.size + 1, 2, none⟩ = some (.int .i64 fr) := BP2.cell 2
      have p3 : wr.cell? ⟨w.heap.size + 1, 3, none⟩ = some (.int .i64 to) := BP2.cell 3
      have hgs : w.heap.size < wr.heap.size := lt_of_cell f0
      have hgp : w.heap.size + 1 < wr.heap.size := lt_of_cell p0
      obtain ⟨vA, vc, hvv⟩ := mkSlice hown
      subst hvv
      have j0 : (0 : Int) ≤ (j : Int) := Int.natCast_nonneg _
      have j1 : (j : Int) < (k : Int) := by omega
      have RKj := HK.out.kept hb
      clear RV hcl e0 e1 e2 e3 e4 e5 X2 BP2 hp hq hmo hle hx
      by_cases hK : j < K
      · rw [st_in hK] at KJ
        obtain ⟨bb, oo, rfl, hltS, hcs⟩ := rdK_row RKj (by omega) (by omega)
        obtain ⟨x0, x1, ex0, ex1, eX⟩ := set_words RKj (i := j) hK
        have g0 : wr.cell? ⟨bb, oo + j * 2, none⟩ = some (.int .u64 x0) := (hcs j 0 hK (by omega)).trans (by rw [ex0])
        have g1 : wr.cell? ⟨bb, oo + j * 2 + 1, none⟩ = some (.int .u64 x1) := (hcs j 1 hK (by omega)).trans (by rw [ex1])
        rw [← eX] at KJ
        have HKJ := Lib.hid KJ
        have jK : (j : Int) < (K : Int) := by omega
        have decK : decide (j < K) = true := by simpa using hK
        clear KJ hcs ex0 ex1 eX RKj hb
        go_wp2_with fail
        have hW3 := ((HB.out.alloc HB.out.size (.cells #[.int .i64 p, .int .i64 q, .int .i64 mo, .int .i64 le, .bool bw, .slice R rk rc] 36)).alloc (by have := HB.out.size; simp; omega) (.cells #[.int .u64 x0, .int .u64 x1] 40))
        refine (HKJ.out _ (HT.out.kept hW3)).mono ?_
        rintro e w3 ⟨rfl, hb3⟩
        have hown3 := mkOwn_below ((hown.alloc (.cells #[.int .i64 p, .int .i64 q, .int .i64 mo, .int .i64 le, .bool bw, .slice R rk rc] 36)).alloc (.cells #[.int .u64 x0, .int .u64 x1] 40)) hb3
        have hb4 : Below W.heap.size W w3 := hW3.trans (hb3.mono hW3.size)
        have hz3 := hb4.size
        clear hown hW3
        go_wp2_with (at_builtin; refine wpList_append_own _ rfl _ _ 48 rfl W.heap.size 3 ii (.int .i64 0) 1 8 Tryd.underlying48 hi hz0 hz1 hz2 rfl (by decide) _ _ _ rfl (hown3.alloc _) ⟨_, 0, none⟩ 1 1 [.int .i64 _] rfl rfl one_newR (by intro u hu; simp at hu; subst hu; rfl) (by unfold maxLen; omega) (by omega) (by simp; omega) ?_; intro v' w4 hown' hgrow _)
        have hb5 : Below W.heap.size W w4 := by
          refine (hb4.alloc hb4.size _).grown hgrow (by simp; omega) (fun g hg => ?_)
          first | exact ownR_ge hown3 hg | exact ownR_ge hown3 hg.symm
        have HR := Lib.hid (frow_push X.out hown' hb5)
        clear hown' hgrow
        go_wp2_with fail
        go_roundw
        case rel => exact ⟨j + 1, by omega, by go_num, HR.out⟩
        case measure => simp [intOf]; omega
      · rw [st_out hK] at KJ
        have HKJ := Lib.hid KJ
        have jK : (K : Int) ≤ (j : Int) := by omega
        have decK : decide (j < K) = false := by simpa using hK
        clear KJ RKj hb
        go_wp2_with fail
        have hW3 := ((HB.out.alloc HB.out.size (.cells #[.int .i64 p, .int .i64 q, .int .i64 mo, .int .i64 le, .bool bw, .slice R rk rc] 36)).alloc (by have := HB.out.size; simp; omega) (.cells #[.int .u64 0, .int .u64 0] 40))
        refine (HKJ.out _ (HT.out.kept hW3)).mono ?_
        rintro e w3 ⟨rfl, hb3⟩
        have hown3 := mkOwn_below ((hown.alloc (.cells #[.int .i64 p, .int .i64 q, .int .i64 mo, .int .i64 le, .bool bw, .slice R rk rc] 36)).alloc (.cells #[.int .u64 0, .int .u64 0] 40)) hb3
        have hb4 : Below W.heap.size W w3 := hW3.trans (hb3.mono hW3.size)
        have hz3 := hb4.size
        clear hown hW3
        go_wp2_with (at_builtin; refine wpList_append_own _ rfl _ _ 48 rfl W.heap.size 3 ii (.int .i64 0) 1 8 Tryd.underlying48 hi hz0 hz1 hz2 rfl (by decide) _ _ _ rfl (hown3.alloc _) ⟨_, 0, none⟩ 1 1 [.int .i64 _] rfl rfl one_newR (by intro u hu; simp at hu; subst hu; rfl) (by unfold maxLen; omega) (by omega) (by simp; omega) ?_; intro v' w4 hown' hgrow _)
        have hb5 : Below W.heap.size W w4 := by
          refine (hb4.alloc hb4.size _).grown hgrow (by simp; omega) (fun g hg => ?_)
          first | exact ownR_ge hown3 hg | exact ownR_ge hown3 hg.symm
        have HR := Lib.hid (frow_push X.out hown' hb5)
        clear hown' hgrow
        go_wp2_with fail
        go_roundw
        case rel => exact ⟨j + 1, by omega, by go_num, HR.out⟩
        case measure => simp [intOf]; omega
    · obtain rfl : j = k := by omega
      have h' : ¬ ((j : Int) < j) := by omega
      obtain ⟨vA, vc, e, hR⟩ := frow_rd ⟨hown, hb⟩ HBD.out
      subst e
      have hlen := rowL_len f j
      have KL := least_any vA vc (rowL f j) wr hR (by rw [hlen]; omega)
      rw [hlen] at KL
      have HL := Lib.hid KL
      have HF := Lib.hid (HB0.out.trans (hb.mono HB0.out.size))
      clear hown hb hR hlen KL
      go_wp2_with fail
      refine HL.out.mono ?_
      rintro e w3 ⟨rfl, rfl⟩
      go_wp2_with fail
      go_ret
      exact ⟨rfl, HF.out⟩
set_option maxHeartbeats 1000000 in
theorem aalive (w : World) (hT : TzT w) : Calls Tryd.prog 18 #[] w fun e w' => e = .returned (.bool true) ∧ Below w.heap.size w w' := by
  have IN : InN (fun j => if j = 0 then 3 else if j = 10 then 9 else 1) := ⟨by decide, by decide, by decide, by decide, by decide, by decide, by decide, by decide⟩
  have EV : ∀ d, eofV (doorV 1 1 1 0 0) 0 0 1 0 0 4 0 d (fun _ => false) = 0 := fun d => by
    unfold eofV
    rw [if_pos (.inl (by rw [by_zero]; rfl)), btP_none]
    decide
  have KO := fun A w hT => acost_any (fun j => if j = 0 then 3 else if j = 10 then 9 else 1) A 1 1 0 0 0 0 false none 0 0 (fun _ => false) 0 0 0 2 0 w IN hT (by omega) (by omega) (by omega) (fun w hT => by
    have h := eof_any (fun j => if j = 0 then 3 else if j = 10 then 9 else 1) A 1 1 0 0 0 0 false (.slice none 0 0) (fun _ => false) 0 (cmpI 2 0) 0 0 w hT (by decide) (by decide) (by decide) (by decide) (by decide) (by decide) (by decide) (by decide) (by decide) (by decide) (by decide) (by decide) (by decide) (by decide) (by decide) (by decide) (by decide) (by decide) (by decide)
    have e := EV (cmpI 2 0)
    refine h.mono fun e' w' h' => ⟨h'.1.trans ?_, h'.2⟩
    exact congrArg (fun z => Ending.returned (.int .i64 z)) e)
  have V : aimV 0 (1 + 1 + 1 + 1) (fun _ => false) 0 2 0 = 8 := by
    unfold aimV ownN
    rw [btP_none]
    decide
  have z : setV (fun _ => false) = .agg #[.int .u64 0, .int .u64 0] := by unfold setV; rw [word_none.1, word_none.2]; rfl
  rw [z] at KO
  unfold scnV carV at KO
  have HO : Hid (∀ A w, TzT w → Calls Tryd.prog 15 #[.agg #[.int .i64 3, .int .i64 1, .int .i64 1, .int .i64 1, .int .i64 1, .int .i64 1, .int .i64 1, .int .i64 1, .slice A 1 1, .int .i64 1, .int .i64 9, .int .i64 1, .int .i64 1], .agg #[.int .i64 0, .int .i64 0, .int .i64 0, .int .i64 0, .bool false, .slice none 0 0], .agg #[.int .u64 0, .int .u64 0], .agg #[.int .i64 0, .int .i64 0, .int .i64 0, .int .i64 2]] w fun e w' => e = .returned (.int .i64 8) ∧ Below w.heap.size w w') := Lib.hid fun A w hT => (KO A w hT).mono fun e w' h => ⟨h.1.trans (congrArg (fun z => Ending.returned (.int .i64 z)) V), h.2⟩
  have BW := Lib.hid ((Below.refl w.heap.size w).alloc (Nat.le_refl _) (.cells #[.int .i64 1, .int .i64 1, .int .i64 0] 69))
  have HT := Lib.hid hT
  clear KO hT z V EV IN
  go_enter Tryd.func18, Tryd.ntmps18
  go_wp2_with fail
  refine (HO.out _ _ (HT.out.kept BW.out)).mono ?_
  rintro e w1 ⟨rfl, hb⟩
  go_wp2_with fail
  go_ret
  exact ⟨rfl, BW.out.trans (hb.mono BW.out.size)⟩
theorem rleast_b (A : Option Addr) (c n : Nat) (zs : List Int) (w : World) (hn : zs.length = n) (hr : RdI w .i64 A zs) (hl : n ≤ 1000000) :
    Calls Tryd.prog 17 #[.slice A n c] w fun e w' => e = .returned (.int .i64 (lstV zs n)) ∧ Below w.heap.size w w' :=
  (rleast_any A c n zs w hn hr hl).mono fun e w' ⟨h1, k, h2⟩ => ⟨h1, h2 ▸ below_drewN (Below.refl _ _) k⟩
end Go.Proofs.YtbjcigkakeffmaaDoor
