/- Contracts of pack.Size and of the law's example. -/
import Derived.Test.YtnjdeikikdieoabRows
import Derived.Test.YtnjdeikikdieoabRowKit
import Derived.Test.YtnjdeikikdieoabShelf
import Derived.Test.YtnjdeikikdieoabSlicesEq
import Derived.Test.YtnjdeikikdieoabRowL
import Derived.Test.YtnjdeikikdieoabPackA
import Derived.Test.YtnjdeikikdieoabPackB
import Derived.Test.YtnjdeikikdieoabPackC
import Derived.Test.YtnjdeikikdieoabBlocks
import Derived.WalkKit
import Derived.IntWalk
import Derived.Lib.Hide
import Derived.Lib.BitFns
import Derived.WalkSpells
import Derived.WalkLawsBesides
import Derived.Laws.IdiomStrings
import Derived.Laws.CopyOwn
import Derived.Laws.MakeOwn
import Derived.Laws.OwnMore
import Derived.Deep.Onto
import Derived.Deep.WholeRow
import Derived.Deep.QuietTactic
import Derived.BigQuiet
namespace Go.Proofs.Ytnjdeikikdieoab
open Go.RowKit Go.Sort
set_option linter.unusedSimpArgs false
set_option linter.unusedVariables false
theorem bl_small : ∀ n : Fin 128, (max 1 (Lib.bitLen n.val) + 6) / 7 = 1 := by decide +kernel
theorem bl_seven {u : Nat} (h : ¬ u < 128) (hu : u < 18446744073709551616) : Lib.bitLen u = 7 + Lib.bitLen (u / 128) ∧ 1 ≤ Lib.bitLen (u / 128) := by
  have hu' : u < 2 ^ 64 := hu
  have e1 := Lib.bitLen_half u (by omega) hu'
  have e2 := Lib.bitLen_half (u / 2) (by omega) (by omega)
  have e3 := Lib.bitLen_half (u / 2 / 2) (by omega) (by omega)
  have e4 := Lib.bitLen_half (u / 2 / 2 / 2) (by omega) (by omega)
  have e5 := Lib.bitLen_half (u / 2 / 2 / 2 / 2) (by omega) (by omega)
  have e6 := Lib.bitLen_half (u / 2 / 2 / 2 / 2 / 2) (by omega) (by omega)
  have e7 := Lib.bitLen_half (u / 2 / 2 / 2 / 2 / 2 / 2) (by omega) (by omega)
  have e8 := Lib.bitLen_half (u / 128) (by omega) (by omega)
  have q : u / 2 / 2 / 2 / 2 / 2 / 2 / 2 = u / 128 := by omega
  rw [q] at e7
  omega
theorem size_len : ∀ (k u : Nat), u < 128 ^ (k + 1) → u < 18446744073709551616 → (max 1 (Lib.bitLen u) + 6) / 7 = (putB u).length
  | 0, u, h, hu => by
    have h' : u < 128 := by simpa using h
    rw [putB_lo h']; exact bl_small ⟨u, h'⟩
  | k + 1, u, h, hu => by
    by_cases q : u < 128
    · rw [putB_lo q]; exact bl_small ⟨u, q⟩
    · have ih := size_len k (u / 128) (by rw [Nat.pow_succ] at h; exact Nat.div_lt_of_lt_mul (by rw [Nat.mul_comm]; exact h)) (by omega)
      obtain ⟨e, b⟩ := bl_seven q hu
      rw [putB_hi q, List.length_cons, ← ih, e]
      omega
theorem bl_le {u : Nat} (hu : u < 18446744073709551616) : Lib.bitLen u ≤ 64 := Any.bitLen_le64 u (by omega) (by omega)
set_option maxHeartbeats 400000 in
theorem psize_any (u : Nat) (w : World) (hu : u < 18446744073709551616) :
    Calls Try.prog 57 #[.int .u64 u] w fun e w' => e = .returned (.int .i64 ((putB u).length : Nat)) ∧ w = w' := by
  have H := Try.bits_Len64 (u : Int) w (by omega) (by omega)
  rw [Int.toNat_natCast] at H
  have b := bl_le hu
  have s := size_len 9 u (Nat.lt_of_lt_of_le hu (by decide)) hu
  rw [← s]
  generalize Lib.bitLen u = l at *
  have H := Lib.hid H
  clear s
  go_enter Try.func57, Try.ntmps57
  by_cases h1 : l ≤ 1
  · have m1 : max 1 l = 1 := by omega
    have m2 : max (1 : Int) (l : Int) = 1 := by omega
    rw [m1]
    go_wp2_with (go_at_call 71; refine H.out.mono ?_; rintro e w' ⟨rfl, rfl⟩)
    go_ret
    exact ⟨rfl, rfl⟩
  · have m1 : max 1 l = l := by omega
    have m2 : max (1 : Int) (l : Int) = (l : Int) := by omega
    rw [m1]
    go_wp2_with (go_at_call 71; refine H.out.mono ?_; rintro e w' ⟨rfl, rfl⟩)
    go_ret
    refine ⟨?_, rfl⟩
    refine ret1p ?_
    omega
set_option maxRecDepth 100000 in
set_option maxHeartbeats 1000000 in
theorem pfirst_eg (g : Nat) (w : World) (c0 : w.cell? ⟨g, 0, none⟩ = some (.int .u8 172)) (c1 : w.cell? ⟨g, 1, none⟩ = some (.int .u8 2)) :
    Calls Try.prog 43 #[.slice (some ⟨g, 0, none⟩) 2 2] w fun e w' => e = .returned (.tuple #[.int .u64 300, .int .i64 2]) ∧ w = w' := by
  have H := Lib.hid (psize_any 18446744073709551615 w (by decide))
  have L : (putB 18446744073709551615).length = 10 := by
    rw [← size_len 9 18446744073709551615 (by decide) (by decide)]; decide +kernel
  rw [L] at H
  have H := Lib.hid H.out
  clear L
  go_enter Try.func43, Try.ntmps43
  go_wp2_with (go_at_call 57; refine H.out.mono ?_; rintro e w' ⟨rfl, rfl⟩)
  go_loop [4, 16] (fun n i => (n = .int .u64 0 ∧ i = .int .i64 0) ∨ (n = .int .u64 44 ∧ i = .int .i64 1)) (fun _ i => 2 - (intOf i).toNat)
  case atStart => exact Or.inl ⟨rfl, rfl⟩
  case round =>
    rcases hrel with ⟨rfl, rfl⟩ | ⟨rfl, rfl⟩
    · go_wp2_with fail
      go_round
      case rel => exact Or.inr ⟨rfl, rfl⟩
      case measure => simp [intOf]
    · go_wp2_with fail
      go_ret2
      exact ⟨rfl, rfl⟩
set_option maxRecDepth 100000 in
set_option maxHeartbeats 1000000 in
theorem pread_eg (g : Nat) (w : World) (c0 : w.cell? ⟨g, 0, none⟩ = some (.int .u8 172)) (c1 : w.cell? ⟨g, 1, none⟩ = some (.int .u8 2)) :
    Calls Try.prog 24 #[.slice (some ⟨g, 0, none⟩) 2 2] w fun e w' => e = .returned (.tuple #[.int .u64 300, .int .i64 0]) ∧ w = w' := by
  have H := Lib.hid (pfirst_eg g w c0 c1)
  clear c0 c1
  go_enter Try.func24, Try.ntmps24
  go_wp2_with (go_at_call 43; refine H.out.mono ?_; rintro e w' ⟨rfl, rfl⟩)
  go_ret2
  exact ⟨rfl, rfl⟩
theorem putB_300 : putB 300 = [172, 2] := by rw [putB_hi (by decide), putB_lo (by decide)]; rfl
theorem wf8 {z : Int} (h : 0 ≤ z ∧ z < 256) : (Lit.int .u8 z).wf = true := by
  obtain ⟨h0, h1⟩ := h
  have e1 : IntKind.u8.min = 0 := by decide
  have e2 : IntKind.u8.max = 255 := by decide
  show (decide (IntKind.u8.min ≤ z) && decide (z ≤ IntKind.u8.max)) = true
  rw [e1, e2]
  simp
  omega
theorem rdI_next {w w' : World} {k : IntKind} {A : Option Addr} {zs : List Int} (h : RdI w k A zs) (hb : Below w.heap.size w w') : RdI w' k A zs := fun i hi => by
  obtain ⟨a, e, hlt, hc, hw⟩ := h i hi
  exact ⟨a, e, Nat.lt_of_lt_of_le hlt hb.size, (hb.cell (p := a.add i) (by rw [block_add]; exact hlt)).trans hc, hw⟩
theorem putB_in64 {u : Nat} (hu : u < 18446744073709551616) : ∀ z, z ∈ putB u → 0 ≤ z ∧ z < 256 := putB_in 9 u (Nat.lt_of_lt_of_le hu (by decide))
theorem wf_at {ys : List Int} (h : ∀ z, z ∈ ys → 0 ≤ z ∧ z < 256) : ∀ i, i < ys.length → (Lit.int .u8 (zat ys i)).wf = true := by
  intro i hi
  refine wf8 (h _ ?_)
  unfold zat
  rw [List.getD_eq_getElem?_getD, List.getElem?_eq_getElem hi]
  exact List.getElem_mem hi
theorem owB_rd {w : World} {B : Nat} {v : Value} {ys : List Int} (h : OwB w B v ys) (hz : ∀ z, z ∈ ys → 0 ≤ z ∧ z < 256) : ∃ A c, v = .slice A ys.length c ∧ RdI w .u8 A ys := ownR_rd h (wf_at hz)
theorem two_rd {w : World} {g : Nat} (c0 : w.cell? ⟨g, 0, none⟩ = some (.int .u8 172)) (c1 : w.cell? ⟨g, 1, none⟩ = some (.int .u8 2)) : RdI w .u8 (some ⟨g, 0, none⟩) [172, 2] := by
  refine rdI_mk fun i hi => ?_
  have hi' : i < 2 := hi
  rcases (show i = 0 ∨ i = 1 by omega) with rfl | rfl
  · exact ⟨c0, by decide⟩
  · exact ⟨c1, by decide⟩
set_option maxRecDepth 100000 in
set_option maxHeartbeats 1000000 in
theorem pkalive (w : World) :
    Calls Try.prog 23 #[] w fun e w' => e = .returned (.bool true) ∧ Below w.heap.size w w' := by
  have H1 := Lib.hid (fun g w => pread_eg g w)
  have H2 := Lib.hid (fun w => pput_any [] (.slice none 0 0) 300 w.heap.size w (by omega) (by simp) (Nat.le_refl _) (owB_nil w _))
  have H3 := Lib.hid (fun A B c d w => equal_u8 A B c d [172, 2] w)
  go_enter Try.func23, Try.ntmps23
  go_wp2_with fail
  refine (H1.out w.heap.size _ ((Blk.new w _ _).cell 0) ((Blk.new w _ _).cell 1)).mono ?_
  rintro e w' ⟨rfl, rfl⟩
  have hb0 : RowKit.Below w.heap.size w (w.alloc (.cells #[.int .u8 172, .int .u8 2] 5)) := (RowKit.Below.refl _ _).alloc (Nat.le_refl _) _
  go_wp2_with fail
  refine (H2.out _).mono ?_
  rintro e w1 ⟨v1, rfl, how, hb1⟩
  rw [List.nil_append, putB_300] at how
  obtain ⟨A, c, rfl, hr⟩ := owB_rd how (by intro z hz; simp at hz; omega)
  have hb2 := hb0.trans (hb1.mono hb0.size)
  clear how
  go_wp2_with fail
  refine (H3.out A _ c _ _ (rdI_next hr ((RowKit.Below.refl _ _).alloc (Nat.le_refl _) _)) (two_rd ((Blk.new w1 _ _).cell 0) ((Blk.new w1 _ _).cell 1)) (by decide)).mono ?_
  rintro e w2 ⟨rfl, k, rfl⟩
  go_wp2_with fail
  go_ret
  exact ⟨rfl, by first | exact Below.drewN (hb2.alloc hb2.size _) _ | exact below_drewN (hb2.alloc hb2.size _) _⟩
end Go.Proofs.Ytnjdeikikdieoab
