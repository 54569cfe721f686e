/- Parking: rows of plans with one car more. -/
import Derived.Test.YtloplambpfjioaaRows
import Derived.Test.YtloplambpfjioaaRowKit
import Derived.Test.YtloplambpfjioaaRowS
import Derived.Test.YtloplambpfjioaaRowZ
import Derived.Test.YtloplambpfjioaaSlicesEq
import Derived.Test.YtloplambpfjioaaSlicesEqM
import Derived.Test.YtloplambpfjioaaRowL
import Derived.Test.YtloplambpfjioaaRowM
import Derived.Test.YtloplambpfjioaaMakeI
import Derived.Test.YtloplambpfjioaaBlocks
import Derived.Test.YtloplambpfjioaaParkE
import Derived.Test.YtloplambpfjioaaParkPlan
import Derived.Test.YtloplambpfjioaaRowM
import Derived.Test.YtloplambpfjioaaPlaceA
import Derived.Test.YtloplambpfjioaaShelf
import Derived.WalkKit
import Derived.IntWalk
import Derived.Lib.Hide
import Derived.WalkSpells
import Derived.WalkLawsBesides
import Derived.Laws.CopyOwn
import Derived.Laws.MakeOwn
import Derived.Laws.OwnMore
import Derived.OwnWalk
import Derived.Deep.QuietTactic
import Derived.BigQuiet
import Derived.Deep.RegionHeld3
import Derived.Deep.LoopGhost
import Derived.BigRegion
import Derived.Deep.AppendLies
import Derived.Maps.AppendAt
import Derived.Below
namespace Go.Proofs.Ytloplambpfjioaa
open Go.RowKit
set_option linter.unusedSimpArgs false
set_option linter.unusedVariables false
def WmR (F : Nat → Nat → Int) (A : Nat → Nat → Nat → Int) (n : Nat) (w : World) (e : Ending) (w' : World) : Prop := ∃ g, e = .returned (.slice (some ⟨g, 0, none⟩) (n + 1) (n + 1)) ∧ Blk w' g 43 (rowQ (fun e j => stp F A e e j) (n + 1)) ∧ Below w.heap.size w w'
def loQ (F : Nat → Nat → Int) (A : Nat → Nat → Nat → Int) (e : Nat) : Nat → Nat → Int := fun p j => if p < e then stp F A p p j else 0
theorem loQ_lt (F : Nat → Nat → Int) (A : Nat → Nat → Nat → Int) {e p : Nat} (j : Nat) (h : p < e) : loQ F A e p j = stp F A p p j := if_pos h
theorem loQ_ge (F : Nat → Nat → Int) (A : Nat → Nat → Nat → Int) {e p : Nat} (j : Nat) (h : ¬ p < e) : loQ F A e p j = 0 := if_neg h
def mixE (F : Nat → Nat → Int) (A : Nat → Nat → Nat → Int) (e t : Nat) : Nat → Nat → Int := fun p j => if p = e then stp F A e t j else loQ F A e p j
theorem mixE_at (F : Nat → Nat → Int) (A : Nat → Nat → Nat → Int) (e t j : Nat) : mixE F A e t e j = stp F A e t j := if_pos rfl
theorem mixE_ne (F : Nat → Nat → Int) (A : Nat → Nat → Nat → Int) {e p : Nat} (t j : Nat) (h : p ≠ e) : mixE F A e t p j = loQ F A e p j := if_neg h
theorem mixE_start (F : Nat → Nat → Int) (A : Nat → Nat → Nat → Int) (e n : Nat) : rowQ (put3 (loQ F A e) e (A 0 e 0) (A 0 e 1) (A 0 e 2)) n = rowQ (mixE F A e 1) n := rowQ_congr fun p j _ hj => by
  by_cases q : p = e
  · subst q
    obtain ⟨p0, p1, p2⟩ := put3_at (loQ F A p) p (A 0 p 0) (A 0 p 1) (A 0 p 2)
    rw [mixE_at, stp_one]
    rcases (by omega : j = 0 ∨ j = 1 ∨ j = 2) with rfl | rfl | rfl
    · exact p0
    · exact p1
    · exact p2
  · rw [put3_ne _ _ _ _ _ q, mixE_ne _ _ _ _ q]
theorem mixE_keep (F : Nat → Nat → Int) (A : Nat → Nat → Nat → Int) (e t n : Nat) (h : ¬ A t e 2 + F t 2 < stp F A e t 2) : rowQ (mixE F A e t) n = rowQ (mixE F A e (t + 1)) n := rowQ_congr fun p j _ hj => by
  by_cases q : p = e
  · subst q
    rw [mixE_at, mixE_at, stp_succ, if_neg (fun q => h q.2)]
  · rw [mixE_ne _ _ _ _ q, mixE_ne _ _ _ _ q]
theorem mixE_put (F : Nat → Nat → Int) (A : Nat → Nat → Nat → Int) (e t n : Nat) (h0 : 0 < t) (h : A t e 2 + F t 2 < stp F A e t 2) : rowQ (put3 (mixE F A e t) e (A t e 0) (A t e 1) (A t e 2 + F t 2)) n = rowQ (mixE F A e (t + 1)) n := rowQ_congr fun p j _ hj => by
  by_cases q : p = e
  · subst q
    obtain ⟨p0, p1, p2⟩ := put3_at (mixE F A p t) p (A t p 0) (A t p 1) (A t p 2 + F t 2)
    rw [mixE_at, stp_succ, if_pos ⟨h0, h⟩]
    rcases (by omega : j = 0 ∨ j = 1 ∨ j = 2) with rfl | rfl | rfl
    · rw [p0]; simp
    · rw [p1]; simp
    · rw [p2]; simp
  · rw [put3_ne _ _ _ _ _ q, mixE_ne _ _ _ _ q, mixE_ne _ _ _ _ q]
theorem mixE_end (F : Nat → Nat → Int) (A : Nat → Nat → Nat → Int) (e t n : Nat) (h : t = e ∨ (e = 0 ∧ t = 1)) : rowQ (mixE F A e t) n = rowQ (loQ F A (e + 1)) n := rowQ_congr fun p j _ hj => by
  by_cases q : p = e
  · subst q
    rw [mixE_at, loQ_lt _ _ _ (by omega)]
    rcases h with h | ⟨h1, h2⟩
    · rw [h]
    · rw [h1, h2, stp_one, stp_zero]
  · rw [mixE_ne _ _ _ _ q]
    by_cases h1 : p < e
    · rw [loQ_lt _ _ _ h1, loQ_lt _ _ _ (by omega)]
    · rw [loQ_ge _ _ _ h1, loQ_ge _ _ _ (by omega)]
set_option maxRecDepth 100000 in
set_option maxHeartbeats 20000000 in
theorem more_any (B gf n : Nat) (v : Value) (G : Nat → Nat) (F : Nat → Nat → Int) (A : Nat → Nat → Nat → Int) (w : World) (h0n : 0 < n) (h128 : n ≤ 128) (hf : Blk w gf 43 (rowQ F (n + 1))) (hw : RwS w B n v n G A)
    (hA : ∀ b e, b < e → e ≤ n → 0 ≤ A b e 2 ∧ A b e 2 ≤ 17179869184) (hF : ∀ b, b ≤ n → 0 ≤ F b 2 ∧ F b 2 ≤ 17179869184) :
    Calls Try.prog 19 #[.slice (some ⟨gf, 0, none⟩) (n + 1) (n + 1), v] w (WmR F A n w) := by
  obtain ⟨i0, hi, hz0, hz1, hz2⟩ := info_parts plInfo
  obtain ⟨ga, cap, rfl, hcap, _, hcell⟩ := hw.at h0n
  have HCL := Lib.hid hcell
  have HF := Lib.hid hf; have HW := Lib.hid hw
  have hgal : ga < w.heap.size := lt_of_cell (hcell 0 h0n)
  have HAB := Lib.hid hA; have HFB := Lib.hid hF
  obtain ⟨R, hR⟩ : ∃ R : Ending → World → Prop, WmR F A n w = R := ⟨_, rfl⟩
  have HRR := Lib.hid hR
  rw [hR]
  clear hf hw hR hcell hA hF hcap
  go_enter Try.func19, Try.ntmps19
  go_wp2_with (at_make; refine wpList_make_full _ rfl _ _ 41 rfl w.heap.size 43 i0 (.agg #[.int .i64 0, .int .i64 0, .int .i64 0]) 3 Try.underlying41 hi hz0 hz1 _ _ _ _ (n + 1) rfl rfl (by omega) (by omega) (by rw [hz2]; omega) (by unfold maxLen; omega) (Nat.le_refl _) ?_; intro w2 hown0 hgrow0)
  have HB : Hid (Blk w2 w.heap.size 43 (rowQ (loQ F A 0) (n + 1))) := Lib.hid (by
    have h := made_q hown0
    rw [rowQ_congr (b := loQ F A 0) (fun p j _ _ => (loQ_ge F A j (Nat.not_lt_zero _)).symm)] at h
    exact h)
  have EE : Hid (Below w.heap.size w w2) := Lib.hid ((Below.refl _ _).grown hgrow0 (Nat.le_refl _) (fun k h => by cases h))
  have hne : ∀ i, i < n → G i ≠ w.heap.size := fun i hi => by have := HW.out.less hi; omega
  have HNE := Lib.hid hne
  have hgf := HF.out.lt
  obtain ⟨g, hg⟩ : ∃ g, w.heap.size = g := ⟨_, rfl⟩
  rw [hg] at HB HNE ⊢
  have hgg : w.heap.size ≤ g := by omega
  have n1 : ga ≠ g := by omega
  have n2 : gf ≠ g := by omega
  clear hown0 hgrow0 hne hg
  go_wp2_with fail
  go_loopg [14] (n + 1) (fun gh i wr => ∃ e : Nat, e ≤ n + 1 ∧ gh = n + 1 - e ∧ i = .int .i64 e ∧ Hid (Blk wr g 43 (rowQ (loQ F A e) (n + 1))) ∧ Hid (Below w.heap.size w wr))
  case atStart => exact ⟨0, by omega, rfl, rfl, HB, EE⟩
  case round =>
    clear HB EE
    obtain ⟨e, he, rfl, rfl, HB, EE⟩ := hrel
    rename World => w1
    by_cases hen : e < n + 1
    · have hei : (e : Int) < (n : Int) + 1 := by omega
      have ca : w1.cell? ⟨ga, 0, none⟩ = some (.slice (some ⟨G 0, 0, none⟩) (n + 1) (n + 1)) := (EE.out.cell (p := ⟨ga, 0, none⟩) hgal).trans (HCL.out 0 h0n)
      have ba := (HW.out.blk 0 h0n).next EE.out
      have b0 : w1.cell? ⟨G 0, e * 3, none⟩ = some (.int .i64 (A 0 e 0)) := blk_q ba (j := 0) hen (by omega)
      have b1 := blk_q ba (j := 1) hen (by omega)
      have b2 := blk_q ba (j := 2) hen (by omega)
      have c0 : w1.cell? ⟨g, e * 3, none⟩ = some _ := blk_q HB.out (j := 0) hen (by omega)
      have c1 := blk_q HB.out (j := 1) hen (by omega)
      have c2 := blk_q HB.out (j := 2) hen (by omega)
      have f0 := HB.out.frozen (e * 3)
      have f1 := HB.out.frozen (e * 3 + 1)
      have f2 := HB.out.frozen (e * 3 + 2)
      have h0i : (0 : Int) < (n : Int) := by omega
      have HB2 := Lib.hid (blk_put3 HB.out e (A 0 e 0) (A 0 e 1) (A 0 e 2))
      rw [mixE_start] at HB2
      have E2 : Hid (Below w.heap.size w (((w1.setCell ⟨g, e * 3, none⟩ (.int .i64 (A 0 e 0))).setCell ⟨g, e * 3 + 1, none⟩ (.int .i64 (A 0 e 1))).setCell ⟨g, e * 3 + 2, none⟩ (.int .i64 (A 0 e 2)))) := Lib.hid (((EE.out.setCell (p := ⟨g, e * 3, none⟩) hgg _).setCell (p := ⟨g, e * 3 + 1, none⟩) hgg _).setCell (p := ⟨g, e * 3 + 2, none⟩) hgg _)
      clear ba HB EE
      go_wp2_with fail
      go_loopg [7] e (fun gh tv wr => ∃ t : Nat, 1 ≤ t ∧ (t ≤ e ∨ t = 1) ∧ gh = e + 1 - t ∧ tv = .int .i64 t ∧ Hid (Blk wr g 43 (rowQ (mixE F A e t) (n + 1))) ∧ Hid (Below w.heap.size w wr))
      case atStart => exact ⟨1, by omega, by omega, by omega, rfl, HB2, E2⟩
      case round =>
        clear HB2 E2 ca b0 b1 b2 c0 c1 c2 f0 f1 f2
        obtain ⟨t, ht1, ht2, rfl, rfl, HB, EE⟩ := hrel
        rename World => w3
        by_cases hte : t < e
        · have hti : (t : Int) < (e : Int) := by omega
          have htn : (t : Int) < (n : Int) := by omega
          have htn1 : (t : Int) < (n : Int) + 1 := by omega
          have htN : t < n := by omega
          have ca : w3.cell? ⟨ga, t, none⟩ = some (.slice (some ⟨G t, 0, none⟩) (n + 1) (n + 1)) := (EE.out.cell (p := ⟨ga, t, none⟩) hgal).trans (HCL.out t htN)
          have ba := (HW.out.blk t htN).next EE.out
          have bf := HF.out.next EE.out
          have hbA := HAB.out t e hte (by omega)
          have hbF := HFB.out t (by omega)
          obtain ⟨gt, hgt⟩ : ∃ q, G t = q := ⟨_, rfl⟩
          rw [hgt] at ca ba
          have b0 : w3.cell? ⟨gt, e * 3, none⟩ = some (.int .i64 (A t e 0)) := blk_q ba (j := 0) hen (by omega)
          have b1 := blk_q ba (j := 1) hen (by omega)
          have b2 := blk_q ba (j := 2) hen (by omega)
          have hlt := HB.out.lt
          have hltf := bf.lt
          obtain ⟨x0, hx0⟩ : ∃ x, A t e 0 = x := ⟨_, rfl⟩
          obtain ⟨x1, hx1⟩ : ∃ x, A t e 1 = x := ⟨_, rfl⟩
          obtain ⟨x2, hx2⟩ : ∃ x, A t e 2 = x := ⟨_, rfl⟩
          obtain ⟨y, hy⟩ : ∃ x, F t 2 = x := ⟨_, rfl⟩
          obtain ⟨s, hs⟩ : ∃ x, stp F A e t 2 = x := ⟨_, rfl⟩
          rw [hx0] at b0; rw [hx1] at b1; rw [hx2] at b2 hbA; rw [hy] at hbF
          have HX := Lib.hid (And.intro hx0 (And.intro hx1 (And.intro hx2 (And.intro hy hs))))
          have HV := Lib.hid (Blk.new w3 #[.int .i64 x0, .int .i64 x1, .int .i64 x2] 43)
          have HBV := Lib.hid (HB.out.alloc (.cells #[.int .i64 x0, .int .i64 x1, .int .i64 x2] 43))
          have HFV := Lib.hid (bf.alloc (.cells #[.int .i64 x0, .int .i64 x1, .int .i64 x2] 43))
          have EV := Lib.hid (EE.out.alloc EE.out.size (.cells #[.int .i64 x0, .int .i64 x1, .int .i64 x2] 43))
          obtain ⟨z, hz⟩ : ∃ z, x2 + y = z := ⟨_, rfl⟩
          have q1 : IntKind.i64.wrap (x2 + y) = z := by rw [hz]; exact IntWalk.i64_in _ (by omega)
          have q2 : wrap64 (x2 + y) = z := by rw [hz]; exact IntWalk.wrap64_in _ (by omega)
          have HZ := Lib.hid hz
          clear hbA hbF ba bf hx0 hx1 hx2 hy hs hz hgt HB
          have EE0 := EE
          clear EE
          go_wp2_with fail
          have k2 : (w3.alloc (.cells #[.int .i64 x0, .int .i64 x1, .int .i64 x2] 43)).drew.cell? ⟨w3.heap.size, 2, none⟩ = some (.int .i64 x2) := HV.out.cell 2
          have kf : (w3.alloc (.cells #[.int .i64 x0, .int .i64 x1, .int .i64 x2] 43)).drew.frozen? ⟨w3.heap.size, 2, none⟩ = false := HV.out.frozen 2
          have ky : (w3.alloc (.cells #[.int .i64 x0, .int .i64 x1, .int .i64 x2] 43)).drew.cell? ⟨gf, t * 3 + 2, none⟩ = some (.int .i64 y) := by
            have h := blk_q HFV.out (j := 2) (show t < n + 1 by omega) (by omega)
            rw [HX.out.2.2.2.1] at h; exact h
          have hneh : Hid (g ≠ w3.heap.size) := Lib.hid (by omega)
          have hgeh : Hid (w.heap.size ≤ w3.heap.size) := Lib.hid EE0.out.size
          obtain ⟨V, hV⟩ : ∃ V, w3.alloc (.cells #[.int .i64 x0, .int .i64 x1, .int .i64 x2] 43) = V := ⟨_, rfl⟩
          obtain ⟨h, hh⟩ : ∃ h, w3.heap.size = h := ⟨_, rfl⟩
          rw [hV] at k2 kf ky HV HBV EV ⊢
          rw [hh] at k2 kf HV hneh hgeh ⊢
          have HV2 := Lib.hid ((HV.out.set 2 (.int .i64 z)).drew)
          have HBV2 := Lib.hid ((HBV.out.far (p := ⟨h, 2, none⟩) hneh.out (.int .i64 z)).drew)
          have EV2 := Lib.hid ((EV.out.setCell (p := ⟨h, 2, none⟩) hgeh.out (.int .i64 z)).drew)
          clear HV HBV EV HFV hV hh hlt hltf ca b0 b1 b2 EE0
          go_region
          clear k2 kf ky q1 q2
          go_wp2_with fail
          obtain ⟨V2, hV2⟩ : ∃ V2, (V.setCell ⟨h, 2, none⟩ (.int .i64 z)).drew = V2 := ⟨_, rfl⟩
          rw [hV2] at HV2 HBV2 EV2 ⊢
          clear hV2
          have k2 : V2.drew.cell? ⟨h, 2, none⟩ = some (.int .i64 z) := HV2.out.cell 2
          have ks : V2.drew.cell? ⟨g, e * 3 + 2, none⟩ = some (.int .i64 s) := by
            have h := blk_q HBV2.out (j := 2) hen (by omega)
            rw [mixE_at, HX.out.2.2.2.2] at h; exact h
          go_region
          clear k2 ks
          have HV3 := Lib.hid (HV2.out.drew)
          have HB3 := Lib.hid (HBV2.out.drew)
          have E3 := Lib.hid (EV2.out.drew)
          obtain ⟨V3, hV3⟩ : ∃ V3, V2.drew = V3 := ⟨_, rfl⟩
          rw [hV3] at HV3 HB3 E3 ⊢
          clear HV2 HBV2 EV2 hV3
          by_cases hzs : z < s
          · have k0 : V3.cell? ⟨h, 0, none⟩ = some (.int .i64 x0) := HV3.out.cell 0
            have k1 : V3.cell? ⟨h, 1, none⟩ = some (.int .i64 x1) := HV3.out.cell 1
            have k2 : V3.cell? ⟨h, 2, none⟩ = some (.int .i64 z) := HV3.out.cell 2
            have r0 : V3.cell? ⟨g, e * 3, none⟩ = some _ := blk_q HB3.out (j := 0) hen (by omega)
            have r1 := blk_q HB3.out (j := 1) hen (by omega)
            have r2 := blk_q HB3.out (j := 2) hen (by omega)
            have s0 := HB3.out.frozen (e * 3)
            have s1 := HB3.out.frozen (e * 3 + 1)
            have s2 := HB3.out.frozen (e * 3 + 2)
            have HB4 := Lib.hid (blk_put3 HB3.out e x0 x1 z)
            have hput := mixE_put F A e t (n + 1) (by omega) (by rw [HX.out.2.2.1, HX.out.2.2.2.1, HX.out.2.2.2.2, HZ.out]; exact hzs)
            rw [HX.out.1, HX.out.2.1, HX.out.2.2.1, HX.out.2.2.2.1, HZ.out] at hput
            rw [hput] at HB4
            have E4 : Hid (Below w.heap.size w (((V3.setCell ⟨g, e * 3, none⟩ (.int .i64 x0)).setCell ⟨g, e * 3 + 1, none⟩ (.int .i64 x1)).setCell ⟨g, e * 3 + 2, none⟩ (.int .i64 z))) := Lib.hid (((E3.out.setCell (p := ⟨g, e * 3, none⟩) hgg _).setCell (p := ⟨g, e * 3 + 1, none⟩) hgg _).setCell (p := ⟨g, e * 3 + 2, none⟩) hgg _)
            clear hput HB3 E3 HV3
            go_wp2_with fail
            go_roundg (e + 1 - (t + 1))
            case measure => omega
            case rel => exact ⟨t + 1, by omega, by omega, rfl, by go_num, HB4, E4⟩
          · have HB4 := Lib.hid HB3.out
            rw [mixE_keep F A e t (n + 1) (by rw [HX.out.2.2.1, HX.out.2.2.2.1, HX.out.2.2.2.2, HZ.out]; exact hzs)] at HB4
            go_wp2_with fail
            go_roundg (e + 1 - (t + 1))
            case measure => omega
            case rel => exact ⟨t + 1, by omega, by omega, rfl, by go_num, HB4, E3⟩
        · have HB4 := Lib.hid HB.out
          rw [mixE_end F A e t (n + 1) (by omega)] at HB4
          clear HB
          have hti : ¬ (t : Int) < (e : Int) := by omega
          go_wp2_with fail
          go_roundg (n + 1 - (e + 1))
          case measure => omega
          case rel => exact ⟨e + 1, by omega, rfl, by go_num, HB4, EE⟩
    · obtain rfl : e = n + 1 := by omega
      go_wp2_with fail
      rw [← HRR.out]
      refine ⟨g, rfl, ?_, EE.out⟩
      have h := HB.out
      rw [rowQ_congr (b := fun e j => stp F A e e j) (fun p j hp _ => loQ_lt F A j hp)] at h
      exact h
end Go.Proofs.Ytloplambpfjioaa
