/- Contracts of near.Best and of the document's. -/
import Derived.Test.YtcofafiacpecnaaRows
import Derived.Test.YtcofafiacpecnaaRowKit
import Derived.Test.YtcofafiacpecnaaRowS
import Derived.Test.YtcofafiacpecnaaRowZ
import Derived.Test.YtcofafiacpecnaaRowV
import Derived.Test.YtcofafiacpecnaaSlicesEq
import Derived.Test.YtcofafiacpecnaaSlicesEqM
import Derived.Test.YtcofafiacpecnaaRowL
import Derived.Test.YtcofafiacpecnaaMakeI
import Derived.Test.YtcofafiacpecnaaCmp
import Derived.Test.YtcofafiacpecnaaPlaceA
import Derived.Test.YtcofafiacpecnaaBlocks
import Derived.Test.YtcofafiacpecnaaVetA
import Derived.Test.YtcofafiacpecnaaVetB
import Derived.Test.YtcofafiacpecnaaNearMath
import Derived.Test.YtcofafiacpecnaaNearA
import Derived.Test.YtcofafiacpecnaaNearB
import Derived.Test.YtcofafiacpecnaaNearC
import Derived.Test.YtcofafiacpecnaaNearD
import Derived.WalkKit
import Derived.IntWalk
import Derived.Lib.Hide
import Derived.WalkSpells
import Derived.WalkLawsBesides
import Derived.Laws.CopyOwn
import Derived.Laws.MakeOwn
import Derived.Laws.OwnMore
import Derived.OwnWalk
import Derived.Deep.QuietTactic
import Derived.BigQuiet
import Derived.Deep.RegionHeld3
import Derived.Deep.RegionWith
import Derived.Below
namespace Go.Proofs.Ytcofafiacpecnaa
open Go.RowKit
set_option linter.unusedSimpArgs false
set_option linter.unusedVariables false
def CRow (v : Nat → Nat → Value) (m t dir : Int) (k : Nat) (V : Value) (w wr : World) : Prop := wr.ownsRow w.heap.size 3 1 V k ((rowL (cstF v m t dir) k).map (Value.int .i64)) ∧ Below w.heap.size w wr
theorem crow_push {v : Nat → Nat → Value} {m t dir : Int} {k : Nat} {w wr : World} {V : Value} {x : Int} (hx : x = cstF v m t dir k) (h : wr.ownsRow w.heap.size 3 1 V (k + 1) ((rowL (cstF v m t dir) k).map (Value.int .i64) ++ [.int .i64 x])) (hb : Below w.heap.size w wr) : CRow v m t dir (k + 1) V w wr := by
  refine ⟨?_, hb⟩
  rw [rowL_succ, List.map_append]
  rw [hx] at h
  exact h
theorem crow_rd {v : Nat → Nat → Value} {m t dir : Int} {k : Nat} {w wr : World} {V : Value} (h : CRow v m t dir k V w wr) (hI : InB v k t) (m0 : 0 ≤ m) (m1 : m ≤ t) (t1 : t ≤ 1048576) : ∃ A c, V = .slice A k c ∧ RdI wr .i64 A (rowL (cstF v m t dir) k) := by
  have hlen := rowL_len (cstF v m t dir) k
  obtain ⟨A, c, e, hR⟩ := ownR_rd (ownR_len h.1 hlen) (fun i hi => by
    rw [hlen] at hi
    rw [rowL_at _ hi]
    have := cst_bd (dir := dir) hI hi m0 m1 t1
    have e1 : IntKind.i64.min = -9223372036854775808 := by decide
    have e2 : IntKind.i64.max = 9223372036854775807 := by decide
    simp [Lit.wf, e1, e2]; omega)
  rw [hlen] at e
  exact ⟨A, c, e, hR⟩
set_option maxRecDepth 100000 in
set_option maxHeartbeats 2000000 in
theorem nbest_any (s : Nat → Int) (A C : Option Addr) (n c k d : Nat) (v : Nat → Nat → Value) (f dir m t : Int) (w : World) (hv : RdV w 6 shCar C k v) (hk : k ≤ 16) (hI : InB v k t) (hm : f * s 1 = m) (m0 : 0 ≤ m) (m1 : m ≤ t) (ht : (s 0 - 1) * s 1 = t) (t1 : t ≤ 1048576) (s0 : 0 ≤ s 0) (s1 : s 0 ≤ 1048576) :
    Calls Try.prog 31 #[scnV s A n c, .slice C k d, .int .i64 f, .int .i64 dir] w fun e w' => e = .returned (.int .i64 (lstV (rowL (cstF v m t dir) k) k)) ∧ Below w.heap.size w w' := by
  obtain ⟨i0, hi, hz0, hz1, hz2⟩ := info_parts mkInfo
  have KC := Lib.hid (fun p q mo le bw R w (p0 : 0 ≤ p) (p1 : p ≤ t) (q0 : -1 ≤ q) (q1 : q ≤ 1) => cost_any s A n c p q mo le bw R f dir m t w hm m0 (by omega) ht (by omega) t1 s0 s1 p0 (by omega) q0 q1)
  have HI := Lib.hid hI
  obtain ⟨W, hW⟩ : ∃ W, w.alloc (.cells (scnC s A n c) 51) = W := ⟨_, rfl⟩
  have HB0 := Lib.hid (show Below w.heap.size w W by rw [← hW]; exact (Below.refl w.heap.size w).alloc (Nat.le_refl _) _)
  have BX := Lib.hid (show Box W w.heap.size (scnC s A n c) by rw [← hW]; exact box_new w (scnC s A n c) 51)
  have HV := Lib.hid (hv.kept HB0.out)
  have HW := Lib.hid (show w.alloc (.cells #[.int .i64 (s 0), .int .i64 (s 1), .int .i64 (s 2), .int .i64 (s 3), .int .i64 (s 4), .int .i64 (s 5), .int .i64 (s 6), .int .i64 (s 7), .slice A n c, .int .i64 (s 9), .int .i64 (s 10), .int .i64 (s 11), .int .i64 (s 12)] 51) = W from hW)
  unfold scnV at KC ⊢
  clear hv hI hm ht hW
  go_enter Try.func31, Try.ntmps31
  go_wp2_with (at_make; refine wpList_make_own _ rfl _ _ 23 rfl _ 3 i0 (.int .i64 0) 1 Try.underlying23 hi hz0 hz1 _ _ _ k rfl rfl (by omega) (by rw [hz2]; omega) (by unfold maxLen; omega) (Nat.le_refl _) ?_; intro w2 hown2 hgrow2)
  rw [HW.out] at hown2 hgrow2
  have hs : W.heap.size = w.heap.size + 1 := by rw [← HW.out]; simp
  have hb2 : Below W.heap.size W w2 := (Below.refl _ _).grown hgrow2 (Nat.le_refl _) (fun k h => by cases h)
  have HO := Lib.hid (show CRow v m t dir 0 (.slice (some ⟨w.heap.size + 1, 0, none⟩) 0 k) W w2 from ⟨by have h := hown2; rw [hs] at h; rw [hs]; exact h, hb2⟩)
  clear hown2 hgrow2 hb2
  go_wp2_with fail
  go_loopw [9, 17] (fun V i wr => ∃ j : Nat, j ≤ k ∧ i = .int .i64 j ∧ CRow v m t dir j V W wr) (fun _ i _ => k - (intOf i).toNat)
  case atStart => exact ⟨0, by omega, rfl, HO.out⟩
  case round =>
    obtain ⟨j, hj, rfl, hown, hb⟩ := hrel
    have HB := Lib.hid hb
    have hz := hb.size
    by_cases h : j < k
    · have RV := HV.out.kept hb
      obtain ⟨y, bw, R, rk, rc, e0, e1, e2, e3, e4, e5, rm, _, _⟩ := car_at RV h
      obtain ⟨b, off, rfl, hlt, hcl⟩ := rdV_row RV (by omega) (by omega)
      have c0 : wr.cell? ⟨b, off + j * 6, none⟩ = some (.int .i64 (y 0)) := (hcl j 0 h (by omega)).trans (by rw [e0])
      have c1 := (hcl j 1 h (by omega)).trans (congrArg some e1)
      have c2 := (hcl j 2 h (by omega)).trans (congrArg some e2)
      have c3 := (hcl j 3 h (by omega)).trans (congrArg some e3)
      have c4 := (hcl j 4 h (by omega)).trans (congrArg some e4)
      have c5 := (hcl j 5 h (by omega)).trans (congrArg some e5)
      have X2 := BX.out.next hb
      have f0 : wr.cell? ⟨w.heap.size, 0, none⟩ = some (.int .i64 (s 0)) := X2 0 _ rfl
      have hgs : w.heap.size < wr.heap.size := lt_of_cell f0
      have f1 : wr.cell? ⟨w.heap.size, 1, none⟩ = some (.int .i64 (s 1)) := X2 1 _ rfl
      have f2 : wr.cell? ⟨w.heap.size, 2, none⟩ = some (.int .i64 (s 2)) := X2 2 _ rfl
      have f3 : wr.cell? ⟨w.heap.size, 3, none⟩ = some (.int .i64 (s 3)) := X2 3 _ rfl
      have f4 : wr.cell? ⟨w.heap.size, 4, none⟩ = some (.int .i64 (s 4)) := X2 4 _ rfl
      have f5 : wr.cell? ⟨w.heap.size, 5, none⟩ = some (.int .i64 (s 5)) := X2 5 _ rfl
      have f6 : wr.cell? ⟨w.heap.size, 6, none⟩ = some (.int .i64 (s 6)) := X2 6 _ rfl
      have f7 : wr.cell? ⟨w.heap.size, 7, none⟩ = some (.int .i64 (s 7)) := X2 7 _ rfl
      have f8 : wr.cell? ⟨w.heap.size, 8, none⟩ = some (.slice A n c) := X2 8 _ rfl
      have f9 : wr.cell? ⟨w.heap.size, 9, none⟩ = some (.int .i64 (s 9)) := X2 9 _ rfl
      have f10 : wr.cell? ⟨w.heap.size, 10, none⟩ = some (.int .i64 (s 10)) := X2 10 _ rfl
      have f11 : wr.cell? ⟨w.heap.size, 11, none⟩ = some (.int .i64 (s 11)) := X2 11 _ rfl
      have f12 : wr.cell? ⟨w.heap.size, 12, none⟩ = some (.int .i64 (s 12)) := X2 12 _ rfl
      obtain ⟨⟨i1, i2⟩, ⟨i3, i4⟩⟩ := HI.out j h
      rw [e0] at i1 i2
      rw [e1] at i3 i4
      have KJ := fun w => KC.out (y 0) (y 1) (y 2) (y 3) bw (.slice R rk rc) w i1 i2 i3 i4
      obtain ⟨x, hx⟩ : ∃ x, costV (y 0) m t (y 1) dir = x := ⟨_, rfl⟩
      have X := Lib.hid (show x = cstF v m t dir j by unfold cstF; rw [e0, e1]; exact hx.symm)
      simp only [hx] at KJ
      obtain ⟨p, hp⟩ : ∃ p, y 0 = p := ⟨_, rfl⟩
      obtain ⟨q, hq⟩ : ∃ q, y 1 = q := ⟨_, rfl⟩
      obtain ⟨mo, hmo⟩ : ∃ p, y 2 = p := ⟨_, rfl⟩
      obtain ⟨le, hle⟩ : ∃ p, y 3 = p := ⟨_, rfl⟩
      simp only [hp, hq, hmo, hle] at KJ c0 c1 c2 c3
      unfold carV at KJ
      have HK := Lib.hid KJ
      obtain ⟨vA, vc, hv⟩ := mkSlice hown
      subst hv
      clear RV hcl e0 e1 e2 e3 e4 e5 X2 hp hq hmo hle KJ hx i1 i2 i3 i4
      go_wp2_with fail
      refine (HK.out _).mono ?_
      rintro e w3 ⟨rfl, hb3⟩
      have hown3 := mkOwn_below (hown.alloc (.cells #[.int .i64 p, .int .i64 q, .int .i64 mo, .int .i64 le, .bool bw, .slice R rk rc] 59)) hb3
      have hb4 : Below W.heap.size W w3 := (HB.out.alloc HB.out.size _).trans (hb3.mono (by have := HB.out.size; simp; omega))
      have hz3 := hb4.size
      clear hown hb
      go_wp2_with (at_builtin; refine wpList_append_own _ rfl _ _ 23 rfl W.heap.size 3 i0 (.int .i64 0) 1 8 Try.underlying23 hi hz0 hz1 hz2 rfl (by decide) _ _ _ rfl (hown3.alloc _) ⟨_, 0, none⟩ 1 1 [.int .i64 _] rfl rfl one_newR (by intro u hu; simp at hu; subst hu; rfl) (by unfold maxLen; omega) (by omega) (by simp; omega) ?_; intro v' w4 hown' hgrow _)
      have hb5 : Below W.heap.size W w4 := by
        refine (hb4.alloc hb4.size _).grown hgrow (by simp; omega) (fun g hg => ?_)
        first | exact ownR_ge hown3 hg | exact ownR_ge hown3 hg.symm
      have HR := Lib.hid (crow_push X.out hown' hb5)
      clear hown' hgrow
      go_wp2_with fail
      go_roundw
      case rel => exact ⟨j + 1, by omega, by go_num, HR.out⟩
      case measure => simp [intOf]; omega
    · obtain rfl : j = k := by omega
      obtain ⟨vA, vc, e, hR⟩ := crow_rd ⟨hown, hb⟩ HI.out m0 m1 t1
      subst e
      have hlen := rowL_len (cstF v m t dir) j
      have KL := least_any vA vc (rowL (cstF v m t dir) j) wr hR (by rw [hlen]; omega)
      rw [hlen] at KL
      have HL := Lib.hid KL
      have HF := Lib.hid (HB0.out.trans (hb.mono HB0.out.size))
      clear hown hb hR hlen KL
      go_wp2_with fail
      refine HL.out.mono ?_
      rintro e w3 ⟨rfl, rfl⟩
      go_wp2_with fail
      go_ret
      exact ⟨rfl, HF.out⟩
end Go.Proofs.Ytcofafiacpecnaa
