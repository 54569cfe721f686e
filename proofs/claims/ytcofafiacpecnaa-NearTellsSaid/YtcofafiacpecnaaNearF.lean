/- The contract of the document's Best. -/
import Derived.Test.YtcofafiacpecnaaRows
import Derived.Test.YtcofafiacpecnaaRowKit
import Derived.Test.YtcofafiacpecnaaRowS
import Derived.Test.YtcofafiacpecnaaRowZ
import Derived.Test.YtcofafiacpecnaaRowV
import Derived.Test.YtcofafiacpecnaaSlicesEq
import Derived.Test.YtcofafiacpecnaaSlicesEqM
import Derived.Test.YtcofafiacpecnaaRowL
import Derived.Test.YtcofafiacpecnaaMakeI
import Derived.Test.YtcofafiacpecnaaCmp
import Derived.Test.YtcofafiacpecnaaPlaceA
import Derived.Test.YtcofafiacpecnaaBlocks
import Derived.Test.YtcofafiacpecnaaVetA
import Derived.Test.YtcofafiacpecnaaVetB
import Derived.Test.YtcofafiacpecnaaNearMath
import Derived.Test.YtcofafiacpecnaaNearA
import Derived.Test.YtcofafiacpecnaaNearB
import Derived.Test.YtcofafiacpecnaaNearC
import Derived.Test.YtcofafiacpecnaaNearD
import Derived.Test.YtcofafiacpecnaaNearE
import Derived.WalkKit
import Derived.IntWalk
import Derived.Lib.Hide
import Derived.WalkSpells
import Derived.WalkLawsBesides
import Derived.Laws.CopyOwn
import Derived.Laws.MakeOwn
import Derived.Laws.OwnMore
import Derived.OwnWalk
import Derived.Deep.QuietTactic
import Derived.BigQuiet
import Derived.Deep.RegionHeld3
import Derived.Deep.RegionWith
import Derived.Deep.AppendLies
import Derived.Lib.SmallJoins
import Derived.Below
namespace Go.Proofs.Ytcofafiacpecnaa
open Go.RowKit
set_option linter.unusedSimpArgs false
set_option linter.unusedVariables false
theorem keepn {w w1 : World} (hb : Below w.heap.size w w1) {b o : Nat} {v : Value} (h : w.cell? ⟨b, o, none⟩ = some v) : w1.cell? ⟨b, o, none⟩ = some v :=
  (hb.cell (p := ⟨b, o, none⟩) (lt_of_cell h)).trans h
set_option maxRecDepth 100000 in
set_option maxHeartbeats 4000000 in
theorem rbest_any (s : Nat → Int) (A C : Option Addr) (n c k d : Nat) (v : Nat → Nat → Value) (f dir m t : Int) (w : World) (hv : RdV w 6 shCar C k v) (hk : k ≤ 16) (hI : InB v k t) (hm : f * s 1 = m) (m0 : 0 ≤ m) (m1 : m ≤ t) (ht : (s 0 - 1) * s 1 = t) (t1 : t ≤ 1048576) (s0 : 0 ≤ s 1) (s1 : s 1 ≤ 1048576) :
    Calls Try.prog 32 #[scnV s A n c, .slice C k d, .int .i64 f, .int .i64 dir] w fun e w' => e = .returned (.int .i64 (lstV (rowL (cstF v m t dir) k) k)) ∧ Below w.heap.size w w' := by
  obtain ⟨i0, hi, hz0, hz1, hz2⟩ := info_parts mkInfo
  have KC := Lib.hid (fun p q mo le bw R w (p0 : 0 ≤ p) (p1 : p ≤ t) (q0 : -1 ≤ q) (q1 : q ≤ 1) => rcost_any s A n c p q mo le bw R f dir m t w hm m0 (by omega) ht (by omega) t1 s0 s1 p0 (by omega) q0 q1)
  have HI := Lib.hid hI
  obtain ⟨W, hW⟩ : ∃ W, w.alloc (.cells (scnC s A n c) 51) = W := ⟨_, rfl⟩
  have HB0 := Lib.hid (show Below w.heap.size w W by rw [← hW]; exact (Below.refl w.heap.size w).alloc (Nat.le_refl _) _)
  have BX := Lib.hid (show Box W w.heap.size (scnC s A n c) by rw [← hW]; exact box_new w (scnC s A n c) 51)
  have HV := Lib.hid (hv.kept HB0.out)
  have HW := Lib.hid (show w.alloc (.cells #[.int .i64 (s 0), .int .i64 (s 1), .int .i64 (s 2), .int .i64 (s 3), .int .i64 (s 4), .int .i64 (s 5), .int .i64 (s 6), .int .i64 (s 7), .slice A n c, .int .i64 (s 9), .int .i64 (s 10), .int .i64 (s 11), .int .i64 (s 12)] 51) = W from hW)
  unfold scnV at KC ⊢
  clear hv hI hm ht hW
  go_enter Try.func32, Try.ntmps32
  have hs : W.heap.size = w.heap.size + 1 := by rw [← HW.out]; simp
  go_wp2_with fail
  rw [HW.out]
  go_loopw [9, 10] (fun V i wr => ∃ j : Nat, j ≤ k ∧ i = .int .i64 j ∧ CRow v m t dir j V W wr) (fun _ i _ => k - (intOf i).toNat)
  case atStart => exact ⟨0, by omega, rfl, ⟨⟨rfl, Or.inl ⟨rfl, rfl⟩⟩, Below.refl _ _⟩⟩
  case round =>
    obtain ⟨j, hj, rfl, hown, hb⟩ := hrel
    have HB := Lib.hid hb
    have hz := hb.size
    by_cases h : j < k
    · have RV := HV.out.kept hb
      obtain ⟨y, bw, R, rk, rc, e0, e1, e2, e3, e4, e5, rm, _, _⟩ := car_at RV h
      obtain ⟨b, off, rfl, hltW, _⟩ := rdV_row HV.out (by omega) (by omega)
      obtain ⟨b', off', e', hlt, hcl⟩ := rdV_row RV (by omega) (by omega)
      cases e'
      have c0 : wr.cell? ⟨b, off + j * 6, none⟩ = some (.int .i64 (y 0)) := (hcl j 0 h (by omega)).trans (by rw [e0])
      have c1 := (hcl j 1 h (by omega)).trans (congrArg some e1)
      have c2 := (hcl j 2 h (by omega)).trans (congrArg some e2)
      have c3 := (hcl j 3 h (by omega)).trans (congrArg some e3)
      have c4 := (hcl j 4 h (by omega)).trans (congrArg some e4)
      have c5 := (hcl j 5 h (by omega)).trans (congrArg some e5)
      have X2 := BX.out.next hb
      have f0 : wr.cell? ⟨w.heap.size, 0, none⟩ = some (.int .i64 (s 0)) := X2 0 _ rfl
      have hgs : w.heap.size < wr.heap.size := lt_of_cell f0
      have f1 : wr.cell? ⟨w.heap.size, 1, none⟩ = some (.int .i64 (s 1)) := X2 1 _ rfl
      have f2 : wr.cell? ⟨w.heap.size, 2, none⟩ = some (.int .i64 (s 2)) := X2 2 _ rfl
      have f3 : wr.cell? ⟨w.heap.size, 3, none⟩ = some (.int .i64 (s 3)) := X2 3 _ rfl
      have f4 : wr.cell? ⟨w.heap.size, 4, none⟩ = some (.int .i64 (s 4)) := X2 4 _ rfl
      have f5 : wr.cell? ⟨w.heap.size, 5, none⟩ = some (.int .i64 (s 5)) := X2 5 _ rfl
      have f6 : wr.cell? ⟨w.heap.size, 6, none⟩ = some (.int .i64 (s 6)) := X2 6 _ rfl
      have f7 : wr.cell? ⟨w.heap.size, 7, none⟩ = some (.int .i64 (s 7)) := X2 7 _ rfl
      have f8 : wr.cell? ⟨w.heap.size, 8, none⟩ = some (.slice A n c) := X2 8 _ rfl
      have f9 : wr.cell? ⟨w.heap.size, 9, none⟩ = some (.int .i64 (s 9)) := X2 9 _ rfl
      have f10 : wr.cell? ⟨w.heap.size, 10, none⟩ = some (.int .i64 (s 10)) := X2 10 _ rfl
      have f11 : wr.cell? ⟨w.heap.size, 11, none⟩ = some (.int .i64 (s 11)) := X2 11 _ rfl
      have f12 : wr.cell? ⟨w.heap.size, 12, none⟩ = some (.int .i64 (s 12)) := X2 12 _ rfl
      obtain ⟨⟨i1, i2⟩, ⟨i3, i4⟩⟩ := HI.out j h
      rw [e0] at i1 i2
      rw [e1] at i3 i4
      have KJ := fun w => KC.out (y 0) (y 1) (y 2) (y 3) bw (.slice R rk rc) w i1 i2 i3 i4
      obtain ⟨x, hx⟩ : ∃ x, costV (y 0) m t (y 1) dir = x := ⟨_, rfl⟩
      have X := Lib.hid (show x = cstF v m t dir j by unfold cstF; rw [e0, e1]; exact hx.symm)
      simp only [hx] at KJ
      obtain ⟨p, hp⟩ : ∃ p, y 0 = p := ⟨_, rfl⟩
      obtain ⟨q, hq⟩ : ∃ q, y 1 = q := ⟨_, rfl⟩
      obtain ⟨mo, hmo⟩ : ∃ p, y 2 = p := ⟨_, rfl⟩
      obtain ⟨le, hle⟩ : ∃ p, y 3 = p := ⟨_, rfl⟩
      simp only [hp, hq, hmo, hle] at KJ c0 c1 c2 c3
      unfold carV at KJ
      have HK := Lib.hid KJ
      obtain ⟨vA, vc, hv⟩ := mkSlice hown
      subst hv
      clear RV hcl e0 e1 e2 e3 e4 e5 X2 hp hq hmo hle KJ hx i1 i2 i3 i4
      have agb : (Value.slice vA j vc).ownBlock ≠ some b := fun e => by have := ownR_ge hown e; omega
      have agw : (Value.slice vA j vc).ownBlock ≠ some w.heap.size := fun e => by have := ownR_ge hown e; omega
      have j0 : (0 : Int) ≤ (j : Int) := Int.natCast_nonneg _
      have j1 : (j : Int) < (k : Int) := by omega
      clear hb
      go_wp2_with fail
      go_region_held3 (fun X => X.cell? ⟨w.heap.size, 0, none⟩ = some (.int .i64 (s 0)) ∧ X.cell? ⟨w.heap.size, 1, none⟩ = some (.int .i64 (s 1)) ∧ X.cell? ⟨w.heap.size, 2, none⟩ = some (.int .i64 (s 2)) ∧ X.cell? ⟨w.heap.size, 3, none⟩ = some (.int .i64 (s 3)) ∧ X.cell? ⟨w.heap.size, 4, none⟩ = some (.int .i64 (s 4)) ∧ X.cell? ⟨w.heap.size, 5, none⟩ = some (.int .i64 (s 5)) ∧ X.cell? ⟨w.heap.size, 6, none⟩ = some (.int .i64 (s 6)) ∧ X.cell? ⟨w.heap.size, 7, none⟩ = some (.int .i64 (s 7)) ∧ X.cell? ⟨w.heap.size, 8, none⟩ = some (.slice A n c) ∧ X.cell? ⟨w.heap.size, 9, none⟩ = some (.int .i64 (s 9)) ∧ X.cell? ⟨w.heap.size, 10, none⟩ = some (.int .i64 (s 10)) ∧ X.cell? ⟨w.heap.size, 11, none⟩ = some (.int .i64 (s 11)) ∧ X.cell? ⟨w.heap.size, 12, none⟩ = some (.int .i64 (s 12)) ∧ X.cell? ⟨b, off + j * 6, none⟩ = some (.int .i64 p) ∧ X.cell? ⟨b, off + j * 6 + 1, none⟩ = some (.int .i64 q) ∧ X.cell? ⟨b, off + j * 6 + 2, none⟩ = some (.int .i64 mo) ∧ X.cell? ⟨b, off + j * 6 + 3, none⟩ = some (.int .i64 le) ∧ X.cell? ⟨b, off + j * 6 + 4, none⟩ = some (.bool bw) ∧ X.cell? ⟨b, off + j * 6 + 5, none⟩ = some (.slice R rk rc))
        (first
          | go_keep
          | (go_split_ands
             refine ⟨?_, ?_, ?_, ?_, ?_, ?_, ?_, ?_, ?_, ?_, ?_, ?_, ?_, ?_, ?_, ?_, ?_, ?_, ?_⟩
             · (rw [hgrow.cell_far _ (by simp; omega) (Ne.symm agw)]; assumption)
             · (rw [hgrow.cell_far _ (by simp; omega) (Ne.symm agw)]; assumption)
             · (rw [hgrow.cell_far _ (by simp; omega) (Ne.symm agw)]; assumption)
             · (rw [hgrow.cell_far _ (by simp; omega) (Ne.symm agw)]; assumption)
             · (rw [hgrow.cell_far _ (by simp; omega) (Ne.symm agw)]; assumption)
             · (rw [hgrow.cell_far _ (by simp; omega) (Ne.symm agw)]; assumption)
             · (rw [hgrow.cell_far _ (by simp; omega) (Ne.symm agw)]; assumption)
             · (rw [hgrow.cell_far _ (by simp; omega) (Ne.symm agw)]; assumption)
             · (rw [hgrow.cell_far _ (by simp; omega) (Ne.symm agw)]; assumption)
             · (rw [hgrow.cell_far _ (by simp; omega) (Ne.symm agw)]; assumption)
             · (rw [hgrow.cell_far _ (by simp; omega) (Ne.symm agw)]; assumption)
             · (rw [hgrow.cell_far _ (by simp; omega) (Ne.symm agw)]; assumption)
             · (rw [hgrow.cell_far _ (by simp; omega) (Ne.symm agw)]; assumption)
             · (rw [hgrow.cell_far _ (by simp; omega) (Ne.symm agb)]; assumption)
             · (rw [hgrow.cell_far _ (by simp; omega) (Ne.symm agb)]; assumption)
             · (rw [hgrow.cell_far _ (by simp; omega) (Ne.symm agb)]; assumption)
             · (rw [hgrow.cell_far _ (by simp; omega) (Ne.symm agb)]; assumption)
             · (rw [hgrow.cell_far _ (by simp; omega) (Ne.symm agb)]; assumption)
             · (rw [hgrow.cell_far _ (by simp; omega) (Ne.symm agb)]; assumption)))
        (first
          | (go_at_call 30; refine (HK.out _).mono ?_; rintro e w3 ⟨rfl, hb3⟩; have own3 := mkOwn_below (w := wr.drew) hown hb3; have B3 := Lib.hid (HB.out.drew.trans (hb3.mono HB.out.drew.size)); have hz3 := B3.out.size; have hl3 : b < w3.heap.size := (by omega); have hg3 : w.heap.size < w3.heap.size := (by omega); have nf0 := Lib.hid (keepn hb3 f0); have nf1 := Lib.hid (keepn hb3 f1); have nf2 := Lib.hid (keepn hb3 f2); have nf3 := Lib.hid (keepn hb3 f3); have nf4 := Lib.hid (keepn hb3 f4); have nf5 := Lib.hid (keepn hb3 f5); have nf6 := Lib.hid (keepn hb3 f6); have nf7 := Lib.hid (keepn hb3 f7); have nf8 := Lib.hid (keepn hb3 f8); have nf9 := Lib.hid (keepn hb3 f9); have nf10 := Lib.hid (keepn hb3 f10); have nf11 := Lib.hid (keepn hb3 f11); have nf12 := Lib.hid (keepn hb3 f12); have nc0 := Lib.hid (keepn hb3 c0); have nc1 := Lib.hid (keepn hb3 c1); have nc2 := Lib.hid (keepn hb3 c2); have nc3 := Lib.hid (keepn hb3 c3); have nc4 := Lib.hid (keepn hb3 c4); have nc5 := Lib.hid (keepn hb3 c5); clear f0 f1 f2 f3 f4 f5 f6 f7 f8 f9 f10 f11 f12 c0 c1 c2 c3 c4 c5; have f0 := nf0.out; have f1 := nf1.out; have f2 := nf2.out; have f3 := nf3.out; have f4 := nf4.out; have f5 := nf5.out; have f6 := nf6.out; have f7 := nf7.out; have f8 := nf8.out; have f9 := nf9.out; have f10 := nf10.out; have f11 := nf11.out; have f12 := nf12.out; have c0 := nc0.out; have c1 := nc1.out; have c2 := nc2.out; have c3 := nc3.out; have c4 := nc4.out; have c5 := nc5.out; clear hb3)
          | (refine step_append_lies _ (by rfl) _ _ _ (by rfl) W.heap.size 3 i0 _ 1 8 Try.underlying23 hi hz0 hz1 hz2 rfl (by omega) (.slice vA j vc) j ((rowL (cstF v m t dir) j).map (Value.int .i64)) (by rfl) (own3.alloc _) ⟨w3.heap.size, 0, none⟩ 1 1 [.int .i64 x] (by rfl) (by rfl) (World.news_of_block (cs := #[.int .i64 x]) (t := 3) (fr := (0, 0)) (heap_alloc_new w3 _)) (by simp [Value.oneCell']) (by omega) (by unfold maxLen; omega) (by omega) (by simp; omega) (w3.heap.size + 1) (by simp) ?_; intro gg cap2 w4 hown' hgrow hat hlt2))
      have hb5 : Below W.heap.size W w4 := by
        refine (B3.out.alloc B3.out.size _).grown hgrow (by simp; omega) (fun g hg => ?_)
        first | exact ownR_ge own3 hg | exact ownR_ge own3 hg.symm
      have HR := Lib.hid (crow_push X.out hown' hb5)
      clear hown' hgrow
      go_wp2_with fail
      go_roundw
      case rel => exact ⟨j + 1, by omega, by go_num, HR.out⟩
      case measure => simp [intOf]; omega
    · obtain rfl : j = k := by omega
      obtain ⟨vA, vc, e, hR⟩ := crow_rd ⟨hown, hb⟩ HI.out m0 m1 t1
      subst e
      have hlen := rowL_len (cstF v m t dir) j
      have KL := rleast_any vA vc j (rowL (cstF v m t dir) j) wr hlen hR (by omega)
      have HL := Lib.hid KL
      have HF := Lib.hid (HB0.out.trans (hb.mono HB0.out.size))
      clear hown hb hR hlen KL
      go_wp2_with fail
      refine HL.out.mono ?_
      rintro e w3 ⟨rfl, q3, rfl⟩
      go_wp2_with fail
      go_ret
      exact ⟨rfl, below_drewN HF.out _⟩
end Go.Proofs.Ytcofafiacpecnaa
