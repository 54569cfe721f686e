/- The weights and tables as rows that are read; the law's alive. -/
import Derived.Test.YtkepplkfjcoemabRows
import Derived.Test.YtkepplkfjcoemabRowKit
import Derived.Test.YtkepplkfjcoemabSlicesEq
import Derived.Test.YtkepplkfjcoemabSlicesEqM
import Derived.Test.YtkepplkfjcoemabRowL
import Derived.Test.YtkepplkfjcoemabCumulMath
import Derived.Test.YtkepplkfjcoemabCumulA
import Derived.Test.YtkepplkfjcoemabCumulB
import Derived.WalkKit
import Derived.IntWalk
import Derived.Lib.Hide
import Derived.WalkSpells
import Derived.WalkLawsBesides
import Derived.Laws.OwnMore
import Derived.Deep.QuietTactic
import Derived.BigQuiet
namespace Go.Proofs.Ytkepplkfjcoemab
open Go.RowKit
set_option linter.unusedSimpArgs false
set_option linter.unusedVariables false
/-- a rate that may be, and how many weights it has -/
structure Cnt (r n : Nat) : Prop where
  hr : r ≤ 4000
  n1 : 1 ≤ n
  n2 : n ≤ 40
  hz : wk 67108864 r n = 0
  hp : ∀ i, i < n → 0 < wk 67108864 r i
  hs : ∀ k, k ≤ n → sm 67108864 r k < 4294967296
  h0 : 0 < sm 67108864 r n
theorem cnt_ex {r : Nat} (hr : r ≤ 4000) : ∃ n, Cnt r n := by
  obtain ⟨n, h1, h2, h3, h4, h5, h6⟩ := many_weights hr
  exact ⟨n, hr, h1, h2, h3, h4, h5, h6⟩
theorem wkI_bd {r n : Nat} (h : Cnt r n) {i : Nat} (hi : i < n) : 0 ≤ wkI r i ∧ wkI r i ≤ 4294967295 := by
  have h1 := Nat.lt_of_le_of_lt (wk_le_sm 67108864 r i) (h.hs (i + 1) hi)
  unfold wkI; omega
theorem tbI_bd {r n : Nat} (h : Cnt r n) {i : Nat} (hi : i < n) : 0 ≤ tbI r n i ∧ tbI r n i ≤ 4294967296 := by
  have h1 := tbv_le 4294967296 67108864 r n hi h.h0
  unfold tbI; omega
theorem wk_wf {r n : Nat} (h : Cnt r n) : ∀ i, i < (rowL (wkI r) n).length → (Lit.int .u64 (zat (rowL (wkI r) n) i)).wf = true := by
  intro i hi
  rw [rowL_len] at hi
  rw [rowL_at _ hi]
  have := wkI_bd h hi
  exact WalkArith.wf_u64 (by omega)
theorem tb_wf {r n : Nat} (h : Cnt r n) : ∀ i, i < (rowL (tbI r n) n).length → (Lit.int .u64 (zat (rowL (tbI r n) n) i)).wf = true := by
  intro i hi
  rw [rowL_len] at hi
  rw [rowL_at _ hi]
  have := tbI_bd h hi
  exact WalkArith.wf_u64 (by omega)
/-- a row that is read, and no error -/
def RdR (ys : List Int) (n : Nat) (w : World) (e : Ending) (w' : World) : Prop := ∃ A c, e = .returned (.tuple #[.slice A n c, .int .i64 0]) ∧ RdI w' .u64 A ys ∧ Below w.heap.size w w'
def RdS (ys : List Int) (n : Nat) (w : World) (e : Ending) (w' : World) : Prop := ∃ A c, e = .returned (.slice A n c) ∧ RdI w' .u64 A ys ∧ Below w.heap.size w w'
theorem rdR_of {E : TypeId} {ys : List Int} {n : Nat} (hn : ys.length = n) (hwf : ∀ i, i < ys.length → (Lit.int .u64 (zat ys i)).wf = true) {w : World} {e : Ending} {w' : World} (h : MadeR E ys w e w') : RdR ys n w e w' := by
  obtain ⟨v, rfl, hown, hb⟩ := h
  obtain ⟨A, c, rfl, hR⟩ := ownR_rd hown hwf
  exact ⟨A, c, by rw [hn], hR, hb⟩
theorem rdS_of {E : TypeId} {ys : List Int} {n : Nat} (hn : ys.length = n) (hwf : ∀ i, i < ys.length → (Lit.int .u64 (zat ys i)).wf = true) {w : World} {e : Ending} {w' : World} (h : MadeS E ys w e w') : RdS ys n w e w' := by
  obtain ⟨v, rfl, hown, hb⟩ := h
  obtain ⟨A, c, rfl, hR⟩ := ownR_rd hown hwf
  exact ⟨A, c, by rw [hn], hR, hb⟩
theorem weights_rd {r n : Nat} (h : Cnt r n) (w : World) : Calls Try.prog 22 #[.int .i64 r] w (RdR (rowL (wkI r) n) n w) :=
  (weights_any r n w h.hr h.n1 h.n2 h.hz h.hp h.hs).mono fun _ _ => rdR_of (rowL_len _ _) (wk_wf h)
theorem table_rd {r n : Nat} (h : Cnt r n) (w : World) : Calls Try.prog 23 #[.int .i64 r] w (RdR (rowL (tbI r n) n) n w) :=
  (table_any r n w h.hr h.n1 h.n2 h.hz h.hp h.hs h.h0).mono fun _ _ => rdR_of (rowL_len _ _) (tb_wf h)
theorem rweights_rd {r n : Nat} (h : Cnt r n) (w : World) : Calls Try.prog 26 #[.int .i64 r] w (RdS (rowL (wkI r) n) n w) :=
  (rweights_any r n w h.hr h.n1 h.n2 h.hz h.hp h.hs).mono fun _ _ => rdS_of (rowL_len _ _) (wk_wf h)
theorem rtable_rd {r n : Nat} (h : Cnt r n) (w : World) : Calls Try.prog 27 #[.int .i64 r] w (RdS (rowL (tbI r n) n) n w) :=
  (rtable_any r n w h.hr h.n1 h.n2 h.hz h.hp h.hs h.h0).mono fun _ _ => rdS_of (rowL_len _ _) (tb_wf h)
theorem equal_n (A B : Option Addr) (c d n : Nat) (ys : List Int) (w : World) (hn : ys.length = n) (ha : RdI w .u64 A ys) (hb : RdI w .u64 B ys) (hl : n ≤ 9223372036854775807) :
    Calls Try.prog 25 #[.slice A n c, .slice B n d] w fun e w' => e = .returned (.bool true) ∧ ∃ k, w' = w.drewN k := by
  subst hn; exact equal_u64 A B c d ys w ha hb hl
theorem cnt_zero : Cnt 0 1 := by
  refine ⟨by decide, by decide, by decide, by decide +kernel, fun i hi => ?_, fun k hk => ?_, by decide +kernel⟩
  · obtain rfl : i = 0 := by omega
    decide +kernel
  · rcases (show k = 0 ∨ k = 1 by omega) with rfl | rfl
    · decide +kernel
    · decide +kernel
theorem tb_zero : rowL (tbI 0 1) 1 = [4294967296] := by
  unfold rowL tbI tbv
  decide +kernel
theorem rd_one (w : World) : RdI (w.alloc (.cells #[.int .u64 4294967296] 31)) .u64 (some ⟨w.heap.size, 0, none⟩) [4294967296] := by
  apply rdI_mk
  intro i hi
  match i, hi with
  | 0, _ => exact ⟨World.cell?_alloc_mark w _ _ _ 0, rfl⟩
set_option maxHeartbeats 1000000 in
theorem cualive (w : World) :
    Calls Try.prog 24 #[] w fun e w' => e = .returned (.bool true) ∧ Below w.heap.size w w' := by
  have H := Lib.hid (table_rd cnt_zero w)
  have L := Lib.hid tb_zero
  go_enter Try.func24, Try.ntmps24
  go_wp2_with fail
  refine H.out.mono ?_
  rintro e w1 ⟨A, c, rfl, hR, hb⟩
  have R := Lib.hid hR
  rw [L.out] at R
  clear hR
  go_wp2_with fail
  refine (equal_n A _ c 1 1 [4294967296] _ rfl (R.out.kept ((Below.refl _ _).alloc (Nat.le_refl _) _)) (rd_one _) (by omega)).mono ?_
  rintro e w2 ⟨rfl, q, rfl⟩
  go_wp2_with fail
  go_ret
  exact ⟨rfl, below_drewN (hb.alloc hb.size _) q⟩
end Go.Proofs.Ytkepplkfjcoemab
