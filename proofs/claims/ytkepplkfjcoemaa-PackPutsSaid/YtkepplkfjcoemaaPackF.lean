/- The walk of PackPuts without bytes. -/
import Derived.Test.YtkepplkfjcoemaaRows
import Derived.Test.YtkepplkfjcoemaaRowKit
import Derived.Test.YtkepplkfjcoemaaShelf
import Derived.Test.YtkepplkfjcoemaaSlicesEq
import Derived.Test.YtkepplkfjcoemaaRowL
import Derived.Test.YtkepplkfjcoemaaPackA
import Derived.Test.YtkepplkfjcoemaaPackB
import Derived.Test.YtkepplkfjcoemaaPackC
import Derived.Test.YtkepplkfjcoemaaBlocks
import Derived.Test.YtkepplkfjcoemaaPackD
import Derived.Test.YtkepplkfjcoemaaPackE
import Derived.Lib.AppendStr
import Derived.Laws.AppendOwnNone
import Derived.WalkKit
import Derived.IntWalk
import Derived.Lib.Hide
import Derived.Lib.BitFns
import Derived.WalkSpells
import Derived.WalkLawsBesides
import Derived.Laws.IdiomStrings
import Derived.Laws.CopyOwn
import Derived.Laws.MakeOwn
import Derived.Laws.OwnMore
import Derived.Deep.Onto
import Derived.Deep.WholeRow
import Derived.Deep.QuietTactic
import Derived.BigQuiet
namespace Go.Proofs.Ytkepplkfjcoemaa
open Go.RowKit Go.Sort
set_option linter.unusedSimpArgs false
set_option linter.unusedVariables false
set_option maxRecDepth 100000 in
set_option maxHeartbeats 2000000 in
theorem law_nil (n : Int) (s : ByteArray) (w : World) (hs : s.size ≤ 300) (n0 : -9223372036854775808 ≤ n) (n1 : n ≤ 9223372036854775807) :
    Calls Try.prog 3 #[.slice none 0 0, .int .i64 n, .string s] w fun e w' => e = .returned (.bool true) ∧ Below w.heap.size w w' := by
  obtain ⟨i0, hi, hz0, hz1, hz2⟩ := info_parts info8p
  obtain ⟨ub0, ub1⟩ := fold_bd n0 n1
  obtain ⟨U, hU⟩ := Int.eq_ofNat_of_zero_le ub0
  have HF := fun w => dfold_any n w n0 n1
  have HG := fun w => pfold_any n w n0 n1
  have hu : U < 18446744073709551616 := by omega
  have HN := fun w => punfold_any U w hu
  have hn : unfoldI U = n := by rw [← hU, unfold_fold]
  rw [hn] at HN
  rw [hU] at HF HG
  have HI := fun v B w => pputint_any [] v n U B w n0 n1 hU (by simp)
  have HT := fun v B w => pputtext_any [] v s B w (by omega) (by simp)
  have HP := fun v B w => pput_any [] v U B w hu (by simp)
  have HD := fun w => dput_any U w hu
  have HE := fun w => dput_any s.size w (by omega)
  have HS := fun w => psize_any U w hu
  have hzi : ∀ z, z ∈ ([] : List Int) → 0 ≤ z ∧ z < 256 := by intro z hz; cases hz
  have hW := in_app hzi (putB_in64 hu)
  have hV := in_app (in_app hzi (putB_in64 (u := s.size) (by omega))) (strI_in s)
  obtain ⟨p0, p1⟩ := putB_ten hu
  obtain ⟨q0, q1⟩ := putB_ten (n := s.size) (by omega)
  have sl := strI_len s
  have sc := strI_cells s
  have w64 : IntKind.u64.wrap (s.size : Int) = s.size := by rw [IntKind.wrap_u64]; omega
  generalize strI s = S at *
  generalize putB U = P at *
  generalize putB s.size = Q at *
  have HQ : ∀ z, z ∈ ([] : List Int) ++ Q ++ S → 0 ≤ z ∧ z < 256 := hV
  obtain ⟨W, hWd⟩ : ∃ W, ([] : List Int) ++ P = W := ⟨_, rfl⟩
  obtain ⟨T, hTd⟩ : ∃ T, ([] : List Int) ++ Q ++ S = T := ⟨_, rfl⟩
  have WL : W.length ≤ 310 := by rw [← hWd, List.nil_append]; omega
  have TL : T.length ≤ 610 := by rw [← hTd, List.nil_append, List.length_append]; omega
  simp only [hWd] at hW HI HP
  simp only [hTd] at hV HT
  have WD := Lib.hid hWd
  have TD := Lib.hid hTd
  have WL := Lib.hid WL
  have TL := Lib.hid TL
  clear hWd hTd HQ
  have HF := Lib.hid HF
  have HG := Lib.hid HG
  have HN := Lib.hid HN
  have HI := Lib.hid HI
  have HT := Lib.hid HT
  have HP := Lib.hid HP
  have HD := Lib.hid HD
  have HE := Lib.hid HE
  have HS := Lib.hid HS
  have HW := Lib.hid hW
  have HV := Lib.hid hV
  have SC := Lib.hid sc
  have SL := Lib.hid sl
  have PB := Lib.hid (And.intro p0 p1)
  have QB := Lib.hid (And.intro q0 q1)
  clear hU ub0 ub1 hzi hW hV p0 p1 q0 q1 sl sc
  have k2 : ¬ (300 : Int) < (s.size : Int) := by omega
  go_enter Try.func3, Try.ntmps3
  go_wp2_with fail
  refine (HF.out _).mono ?_
  rintro e w' ⟨rfl, rfl⟩
  have o1 := owB_zero w
  have b1 : RowKit.Below w.heap.size w (w.alloc (.cells #[] 5)) := (RowKit.Below.refl _ _).alloc (Nat.le_refl _) _
  go_wp2_with (at_builtin; refine wpList_append_own_none rfl _ _ 22 rfl w.heap.size 5 i0 1 Try.underlying22 hi _ _ _ rfl o1 rfl ?_)
  have h1 := o1
  have b2 := b1
  refine (HD.out _).mono ?_
  rintro e w2 ⟨v2, rfl, h2, d2⟩
  obtain ⟨g2, c2, rfl, _, n2⟩ := owB_row h2 (by have := PB.out; omega)
  have h1' := owB_next h1 d2
  have b3 := b2.trans (d2.mono b2.size)
  clear h1 h2
  go_wp2_with (first
    | (at_builtin; refine wpList_append_own _ rfl _ _ 22 rfl w.heap.size 5 i0 (.int .u8 0) 1 1 Try.underlying22 hi hz0 hz1 hz2 rfl (by decide) _ _ _ rfl h1' ⟨g2, 0, none⟩ P.length c2 (P.map (Value.int .u8)) rfl (by simp) n2 (one_cells _) (by have := PB.out; unfold maxLen; simp; omega) (by have := PB.out; simp; omega) b3.size ?_; intro v3 w3 ow3 g3 _; have h3 : OwB w3 w.heap.size v3 (([] : List Int) ++ P) := owB_len ow3 rfl; rw [WD.out] at h3; have b4 : RowKit.Below w.heap.size w w3 := b3.grown g3 b3.size (fun g hg => by first | exact ownR_ge h1' hg | exact ownR_ge h1' hg.symm); obtain ⟨A8, c8, rfl, r8⟩ := owB_rd h3 HW.out; have o5 := owB_zero w3; have b5 : RowKit.Below w.heap.size w (w3.alloc (.cells #[] 5)) := b4.alloc b4.size _; have B4 : RowKit.Below w3.heap.size w3 (w3.alloc (.cells #[] 5)) := (RowKit.Below.refl _ _).alloc (Nat.le_refl _) _)
    | (at_builtin; refine wpList_append_own_none rfl _ _ 22 rfl w3.heap.size 5 i0 1 Try.underlying22 hi _ _ _ rfl o5 rfl ?_))
  clear ow3 g3 h1' h3 n2 d2
  have h5 := o5
  have B5 := B4
  refine (HE.out _).mono ?_
  rintro e w6 ⟨v6, rfl, h6, d6⟩
  obtain ⟨g6, c6, rfl, _, n6⟩ := owB_row h6 (by have := QB.out; omega)
  have h5' := owB_next h5 d6
  have B6 := B5.trans (d6.mono B5.size)
  clear h5 h6
  go_wp2_with (first
    | (at_builtin; refine wpList_append_own _ rfl _ _ 22 rfl w3.heap.size 5 i0 (.int .u8 0) 1 1 Try.underlying22 hi hz0 hz1 hz2 rfl (by decide) _ _ _ rfl h5' ⟨g6, 0, none⟩ Q.length c6 (Q.map (Value.int .u8)) rfl (by simp) n6 (one_cells _) (by have := QB.out; unfold maxLen; simp; omega) (by have := QB.out; simp; omega) B6.size ?_; intro v7 w7 ow7 g7 _; have h7 : OwB w7 w3.heap.size v7 (([] : List Int) ++ Q) := owB_len ow7 rfl; have B7 : RowKit.Below w3.heap.size w3 w7 := B6.grown g7 B6.size (fun g hg => by first | exact ownR_ge h5' hg | exact ownR_ge h5' hg.symm))
    | (at_builtin; refine Lib.wpList_append_own_string _ rfl _ _ 22 9 rfl w3.heap.size 5 i0 Try.underlying22 Try.underlying9 hi hz0 hz1 hz2 _ _ _ rfl h7 _ rfl (by have := QB.out; rw [List.nil_append]; unfold maxLen; omega) (by have := QB.out; rw [List.nil_append]; omega) B7.size ?_; intro v9 w9 ow9 g9 _))
  have h9 : OwB w9 w3.heap.size v9 (([] : List Int) ++ Q ++ S) := by rw [SC.out] at ow9; exact owB_len ow9 (by rw [SL.out])
  rw [TD.out] at h9
  have B9 : RowKit.Below w3.heap.size w3 w9 := B7.grown g9 B7.size (fun g hg => by first | exact ownR_ge h7 hg | exact ownR_ge h7 hg.symm)
  obtain ⟨A9, c9, rfl, r9⟩ := owB_rd h9 HV.out
  have b9 := b4.trans (B9.mono b4.size)
  have r8 := rdI_next r8 B9
  clear ow9 g9 h7 h9 n6 d6 ow7 g7 h5' B6 B7 B5 B4 b5 b1 b2 b3 B9
  go_wp2_with fail
  refine (clone_nil 0 _).mono ?_
  rintro e w' ⟨rfl, rfl⟩
  have h10 := owB_nil w9 w9.heap.size
  go_wp2_with fail
  refine (HI.out (.slice none 0 0) w9.heap.size _ (Nat.le_refl _) h10).mono ?_
  rintro e w11 ⟨v11, rfl, h11, d11⟩
  have D11 := d11
  obtain ⟨A11, c11, rfl, r11⟩ := owB_rd h11 HW.out
  clear h10 h11
  go_wp2_with fail
  refine (equal_u8 A11 A8 c11 c8 W _ r11 (rdI_next r8 D11) (by have := WL.out; omega)).mono ?_
  rintro e w' ⟨rfl, k1, rfl⟩
  have b11 : RowKit.Below w.heap.size w (w11.drewN k1) := below_drewN (b9.trans (D11.mono b9.size)) k1
  have r8 : RdI (w11.drewN k1) .u8 A8 W := by have q := rdI_next r8 D11; exact q
  have r9 : RdI (w11.drewN k1) .u8 A9 T := by have q := rdI_next r9 D11; exact q
  clear D11 d11 r11 b9
  generalize w11.drewN k1 = x1 at *
  go_wp2_with fail
  refine (clone_nil 0 _).mono ?_
  rintro e w' ⟨rfl, rfl⟩
  have h12 := owB_nil x1 x1.heap.size
  go_wp2_with fail
  refine (HT.out (.slice none 0 0) x1.heap.size _ (Nat.le_refl _) h12).mono ?_
  rintro e w13 ⟨v13, rfl, h13, d13⟩
  have D13 := d13
  obtain ⟨A13, c13, rfl, r13⟩ := owB_rd h13 HV.out
  clear h12 h13
  go_wp2_with fail
  refine (equal_u8 A13 A9 c13 c9 T _ r13 (rdI_next r9 D13) (by have := TL.out; omega)).mono ?_
  rintro e w' ⟨rfl, k2, rfl⟩
  have b13 : RowKit.Below w.heap.size w (w13.drewN k2) := below_drewN (b11.trans (D13.mono b11.size)) k2
  have r8 : RdI (w13.drewN k2) .u8 A8 W := by have q := rdI_next r8 D13; exact q
  clear D13 d13 r13 b11 r9
  generalize w13.drewN k2 = x2 at *
  go_wp2_with fail
  refine (clone_nil 0 _).mono ?_
  rintro e w' ⟨rfl, rfl⟩
  have h14 := owB_nil x2 x2.heap.size
  go_wp2_with fail
  refine (HP.out (.slice none 0 0) x2.heap.size _ (Nat.le_refl _) h14).mono ?_
  rintro e w15 ⟨v15, rfl, h15, d15⟩
  have D15 := d15
  obtain ⟨A15, c15, rfl, r15⟩ := owB_rd h15 HW.out
  clear h14 h15
  go_wp2_with fail
  refine (equal_u8 A15 A8 c15 c8 W _ r15 (rdI_next r8 D15) (by have := WL.out; omega)).mono ?_
  rintro e w' ⟨rfl, k3, rfl⟩
  have b15 : RowKit.Below w.heap.size w (w15.drewN k3) := below_drewN (b13.trans (D15.mono b13.size)) k3
  clear D15 d15 r15 b13 r8
  generalize w15.drewN k3 = x3 at *
  go_wp2_with fail
  refine (HG.out _).mono ?_
  rintro e w' ⟨rfl, rfl⟩
  go_wp2_with fail
  refine (HN.out _).mono ?_
  rintro e w' ⟨rfl, rfl⟩
  go_wp2_with fail
  refine (HS.out _).mono ?_
  rintro e w' ⟨rfl, rfl⟩
  go_wp2_with fail
  refine (HD.out _).mono ?_
  rintro e w16 ⟨v16, rfl, h16, d16⟩
  obtain ⟨g16, c16, rfl, _, _⟩ := owB_row h16 (by have := PB.out; omega)
  have b16 := b15.trans (d16.mono b15.size)
  clear h16 d16
  go_wp2_with fail
  refine (pkalive _).mono ?_
  rintro e w17 ⟨rfl, d17⟩
  go_wp2_with fail
  go_ret
  exact ⟨rfl, b16.trans (d17.mono b16.size)⟩
end Go.Proofs.Ytkepplkfjcoemaa
