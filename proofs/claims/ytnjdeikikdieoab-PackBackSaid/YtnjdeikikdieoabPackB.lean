/- Contracts of the document's Put, of pack.PutInt, pack.Size, and of slices.Equal at bytes. -/
import Derived.Test.YtnjdeikikdieoabRows
import Derived.Test.YtnjdeikikdieoabRowKit
import Derived.Test.YtnjdeikikdieoabShelf
import Derived.Test.YtnjdeikikdieoabSlicesEq
import Derived.Test.YtnjdeikikdieoabRowL
import Derived.Test.YtnjdeikikdieoabPackA
import Derived.WalkKit
import Derived.IntWalk
import Derived.Lib.Hide
import Derived.Lib.AppendStr
import Derived.WalkSpells
import Derived.WalkLawsBesides
import Derived.Laws.IdiomStrings
import Derived.Laws.CopyOwn
import Derived.Laws.MakeOwn
import Derived.Laws.OwnMore
import Derived.Deep.Onto
import Derived.Deep.WholeRow
import Derived.Deep.QuietTactic
import Derived.BigQuiet
namespace Go.Proofs.Ytnjdeikikdieoab
open Go.RowKit Go.Sort
set_option linter.unusedSimpArgs false
set_option linter.unusedVariables false
theorem owB_next {w w' : World} {B : Nat} {v : Value} {ys : List Int} (h : OwB w B v ys) (hb : Below w.heap.size w w') : OwB w' B v ys := by
  obtain ⟨h1, h2⟩ := h
  refine ⟨h1, ?_⟩
  rcases h2 with h2 | ⟨g, cap, cur, e1, e2, e3, r⟩
  · exact Or.inl h2
  · exact Or.inr ⟨g, cap, cur, e1, e2, (hb.block g (Array.getElem?_eq_some_iff.1 e3).1).trans e3, r⟩
theorem owB_new (w : World) (z : Int) : OwB (w.alloc (.cells #[.int .u8 z] 5)) w.heap.size (.slice (some ⟨w.heap.size, 0, none⟩) 1 1) [z] :=
  ⟨rfl, Or.inr ⟨w.heap.size, 1, #[.int .u8 z], rfl, Nat.le_refl _, heap_alloc_last w _, Nat.le_refl _, by decide, rfl, rfl⟩⟩
theorem owB_row {w : World} {B : Nat} {v : Value} {ys : List Int} (h : OwB w B v ys) (hn : 0 < ys.length) : ∃ g cap, v = .slice (some ⟨g, 0, none⟩) ys.length cap ∧ B ≤ g ∧ (∀ j u, (ys.map (Value.int .u8))[j]? = some u → w.cell? ((⟨g, 0, none⟩ : Addr).add j) = some u) := by
  obtain ⟨g, cap, rfl, hg, hc⟩ := ownR_head h hn
  exact ⟨g, cap, rfl, hg, h.cells (g := g) rfl⟩
theorem one_cells (ys : List Int) : ∀ u ∈ ys.map (Value.int .u8), u.oneCell' = true := by
  intro u hu
  obtain ⟨x, _, rfl⟩ := List.mem_map.1 hu
  rfl
set_option maxRecDepth 100000 in
set_option maxHeartbeats 1000000 in
theorem dput_lo (u : Nat) (w : World) (h : u < 128) :
    Calls Try.prog 44 #[.int .u64 u] w fun e w' => ∃ v', e = .returned v' ∧ OwB w' w.heap.size v' (putB u) ∧ Below w.heap.size w w' := by
  rw [putB_lo h]
  have l2 : IntKind.u8.wrap (u : Int) = u := by rw [IntKind.wrap_u8]; omega
  go_enter Try.func44, Try.ntmps44
  go_wp2_with fail
  go_ret
  exact ⟨_, rfl, owB_new w u, (Below.refl _ _).alloc (Nat.le_refl _) _⟩
set_option maxRecDepth 100000 in
set_option maxHeartbeats 1000000 in
theorem dput_hi (u : Nat) (w : World) (h : ¬ u < 128) (hu : u < 18446744073709551616)
    (ih : ∀ w, Calls Try.prog 44 #[.int .u64 (u / 128 : Nat)] w fun e w' => ∃ v', e = .returned v' ∧ OwB w' w.heap.size v' (putB (u / 128)) ∧ Below w.heap.size w w') :
    Calls Try.prog 44 #[.int .u64 u] w fun e w' => ∃ v', e = .returned v' ∧ OwB w' w.heap.size v' (putB u) ∧ Below w.heap.size w w' := by
  obtain ⟨i0, hi, hz0, hz1, hz2⟩ := info_parts info8p
  obtain ⟨b1, b2⟩ := putB_ten (n := u / 128) (by omega)
  have hp := putB_hi h
  obtain ⟨C, hC⟩ : ∃ C : Int, ((u % 128 + 128 : Nat) : Int) = C := ⟨_, rfl⟩
  have c1 : 128 + (u : Int) % 128 = C := by omega
  have c3 : 128 ≤ C ∧ C < 256 := by omega
  have w8 : IntKind.u8.wrap C = C := by rw [IntKind.wrap_u8]; omega
  have w64 : IntKind.u64.wrap (128 + (u : Int) % 128) = C := by rw [IntKind.wrap_u64]; omega
  have t1 : ((u : Int)).tmod 128 = (u : Int) % 128 := Int.tmod_eq_emod_of_nonneg (by omega)
  have t2 : ((u : Int)).tdiv 128 = ((u / 128 : Nat) : Int) := by rw [Int.tdiv_eq_ediv_of_nonneg (by omega)]; omega
  have l1 : ¬ (u : Int) < 128 := by omega
  rw [hp, hC]
  generalize putB (u / 128) = P at *
  have IH := Lib.hid ih
  obtain ⟨pl, hpl⟩ : ∃ pl, P.length = pl := ⟨_, rfl⟩
  have HPL := Lib.hid hpl
  rw [hpl] at b1 b2
  clear hC ih hpl hp
  go_enter Try.func44, Try.ntmps44
  go_wp2_with (first
    | (go_at_call 44; refine (IH.out _).mono ?_; rintro e w1 ⟨v1, rfl, hown1, hb1⟩; obtain ⟨g, cap, rfl, hg, hcs⟩ := owB_row hown1 (by rw [HPL.out]; omega); have hown0 := owB_next (owB_new w C) hb1)
    | (at_builtin; refine wpList_append_own _ rfl _ _ 42 rfl w.heap.size 5 i0 (.int .u8 0) 1 1 Try.underlying42 hi hz0 hz1 hz2 rfl (by decide) _ _ _ rfl hown0 ⟨g, 0, none⟩ P.length cap (P.map (Value.int .u8)) rfl (by simp) hcs (one_cells P) (by have := HPL.out; unfold maxLen; simp; omega) (by have := HPL.out; simp; omega) (by have := hb1.size; simp at this; omega) ?_; intro v' w2 hown' hgrow _))
  have s1 := hb1.size
  have hb2 : RowKit.Below w.heap.size w w1 := ((RowKit.Below.refl _ _).alloc (Nat.le_refl _) _).trans (hb1.mono (by simp))
  have hb3 : RowKit.Below w.heap.size w w2 := by
    refine hb2.grown hgrow hb2.size (fun g hg => ?_)
    first | exact ownR_ge hown0 hg | exact ownR_ge hown0 hg.symm
  have how : OwB w2 w.heap.size v' ([C] ++ P) := owB_len hown' rfl
  clear hown' hgrow hown0 hown1
  go_wp2_with fail
  go_ret
  exact ⟨_, rfl, how, hb3⟩
theorem dput_rec : ∀ (k u : Nat) (w : World), u < 128 ^ (k + 1) → u < 18446744073709551616 →
    Calls Try.prog 44 #[.int .u64 u] w fun e w' => ∃ v', e = .returned v' ∧ OwB w' w.heap.size v' (putB u) ∧ Below w.heap.size w w'
  | 0, u, w, h, hu => dput_lo u w (by simpa using h)
  | k + 1, u, w, h, hu => by
    by_cases q : u < 128
    · exact dput_lo u w q
    · exact dput_hi u w q hu fun w => dput_rec k (u / 128) w (by rw [Nat.pow_succ] at h; exact Nat.div_lt_of_lt_mul (by rw [Nat.mul_comm]; exact h)) (by omega)
theorem dput_any (u : Nat) (w : World) (hu : u < 18446744073709551616) :
    Calls Try.prog 44 #[.int .u64 u] w fun e w' => ∃ v', e = .returned v' ∧ OwB w' w.heap.size v' (putB u) ∧ Below w.heap.size w w' := dput_rec 9 u w (Nat.lt_of_lt_of_le hu (by decide)) hu
set_option maxHeartbeats 400000 in
theorem pputint_any (ys : List Int) (v : Value) (n : Int) (U B : Nat) (w : World) (h0 : -9223372036854775808 ≤ n) (h1 : n ≤ 9223372036854775807) (hU : foldI n = (U : Int)) (hy : ys.length ≤ 1000000) (hB : B ≤ w.heap.size) (hown : OwB w B v ys) :
    Calls Try.prog 16 #[v, .int .i64 n] w fun e w' => ∃ v', e = .returned v' ∧ OwB w' B v' (ys ++ putB U) ∧ Below B w w' := by
  have H1 := pfold_any n w h0 h1
  have b := fold_bd h0 h1
  rw [hU] at H1 b
  have H1 := Lib.hid H1
  have H2 := Lib.hid (pput_any ys v U B w (by omega) hy hB hown)
  clear hown hU b
  go_enter Try.func16, Try.ntmps16
  go_wp2_with (first
    | (go_at_call 38; refine H1.out.mono ?_; rintro e w' ⟨rfl, rfl⟩)
    | (go_at_call 37; refine H2.out.mono ?_; rintro e w1 ⟨v1, rfl, hown1, hb1⟩))
  go_ret
  exact ⟨_, rfl, hown1, hb1⟩
/-- a text's bytes as numbers -/
def strI (s : ByteArray) : List Int := s.data.toList.map fun b => (b.toNat : Int)
theorem strI_len (s : ByteArray) : (strI s).length = s.size := by unfold strI; simp
theorem strI_cells (s : ByteArray) : Lib.strCells s = (strI s).map (Value.int .u8) := by unfold strI Lib.strCells; simp [ByteArray.toList_eq]
set_option maxRecDepth 100000 in
set_option maxHeartbeats 1000000 in
theorem pputtext_any (ys : List Int) (v : Value) (s : ByteArray) (B : Nat) (w : World) (hs : s.size ≤ 1000000) (hy : ys.length ≤ 1000000) (hB : B ≤ w.heap.size) (hown : OwB w B v ys) :
    Calls Try.prog 17 #[v, .string s] w fun e w' => ∃ v', e = .returned v' ∧ OwB w' B v' (ys ++ putB s.size ++ strI s) ∧ Below B w w' := by
  obtain ⟨i0, hi, hz0, hz1, hz2⟩ := info_parts info8p
  obtain ⟨b1, b2⟩ := putB_ten (n := s.size) (by omega)
  have H2 := Lib.hid (pput_any ys v s.size B w (by omega) hy hB hown)
  have HC := Lib.hid (strI_cells s)
  have HL := Lib.hid (strI_len s)
  have w64 : IntKind.u64.wrap (s.size : Int) = s.size := by rw [IntKind.wrap_u64]; omega
  have hzl : (ys ++ putB s.size).length ≤ 1000010 := by rw [List.length_append]; omega
  generalize ys ++ putB s.size = zs at *
  obtain ⟨zl, hz⟩ : ∃ zl, zs.length = zl := ⟨_, rfl⟩
  have HZ := Lib.hid hz
  rw [hz] at hzl
  clear hown hz
  go_enter Try.func17, Try.ntmps17
  go_wp2_with (first
    | (go_at_call 37; refine H2.out.mono ?_; rintro e w1 ⟨v1, rfl, hown1, hb1⟩; unfold OwB at hown1; rw [HZ.out] at hown1)
    | (at_builtin; refine Lib.wpList_append_own_string _ rfl _ _ 42 9 rfl B 5 i0 Try.underlying42 Try.underlying9 hi hz0 hz1 hz2 _ _ _ rfl hown1 _ rfl (by unfold maxLen; omega) (by omega) (Nat.le_trans hB hb1.size) ?_; intro v' w2 hown' hgrow _))
  have hb3 : RowKit.Below B w w2 := by
    refine hb1.grown hgrow (Nat.le_trans hB hb1.size) (fun g hg => ?_)
    first | exact ownR_ge hown1 hg | exact ownR_ge hown1 hg.symm
  have how : OwB w2 B v' (zs ++ strI s) := by rw [HC.out] at hown'; exact owB_len hown' (by rw [HZ.out, HL.out])
  clear hown' hgrow hown1
  go_wp2_with fail
  go_ret
  exact ⟨_, rfl, how, hb3⟩
set_option maxHeartbeats 400000 in
theorem equal_u8_0 (A B : Option Addr) (c d : Nat) (w : World) :
    Calls Try.prog 42 #[.slice A 0 c, .slice B 0 d] w fun e w' => e = .returned (.bool true) ∧ ∃ k, w' = w.drewN k := by
  go_enter Try.func42, Try.ntmps42
  go_wp2_with fail
  go_loop [13] (fun i => i = .int .i64 0) (fun i => 0)
  case atStart => exact rfl
  case round =>
    obtain rfl := hrel
    go_wp2_with fail
    go_ret
    exact ⟨rfl, 0, rfl⟩
set_option maxHeartbeats 400000 in
theorem equal_u8 (A B : Option Addr) (c d : Nat) (zs : List Int) (w : World) (ha : RdI w .u8 A zs) (hb : RdI w .u8 B zs) (hl : zs.length ≤ 9223372036854775807) :
    Calls Try.prog 42 #[.slice A zs.length c, .slice B zs.length d] w fun e w' => e = .returned (.bool true) ∧ ∃ k, w' = w.drewN k := by
  by_cases hn : zs.length = 0
  · rw [hn]; exact equal_u8_0 A B c d w
  · obtain ⟨b1, o1, rfl, _, h1⟩ := rdI_row ha (by omega)
    obtain ⟨b2, o2, rfl, _, h2⟩ := rdI_row hb (by omega)
    have H1 := Lib.hid h1
    have H2 := Lib.hid h2
    clear ha hb h1 h2
    go_enter Try.func42, Try.ntmps42
    go_wp2_with fail
    go_loopw [13] (fun i wr => ∃ k : Nat, k ≤ zs.length ∧ i = .int .i64 k ∧ ∃ q, wr = w.drewN q) (fun i _ => zs.length - (intOf i).toNat)
    case atStart => exact ⟨0, by omega, rfl, 0, rfl⟩
    case round =>
      obtain ⟨k, hk, rfl, q, rfl⟩ := hrel
      by_cases h : k < zs.length
      · have c1 := H1.out k h
        have c2 := H2.out k h
        go_wp2_with fail
        go_quiet (fail)
        go_wp2_with fail
        go_roundw
        case rel => exact ⟨k + 1, by omega, by go_num, _, rfl⟩
        case measure => simp [intOf]; omega
      · go_wp2_with fail
        go_ret
        exact ⟨rfl, _, rfl⟩
end Go.Proofs.Ytnjdeikikdieoab
