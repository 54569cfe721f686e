/- Columns: slices.Contains at bytes, cols.Cells, too great rows. -/
import Derived.Test.YtkonghjmipclmaaDoorRows
import Derived.Test.YtkonghjmipclmaaDoorRowKit
import Derived.Test.YtkonghjmipclmaaDoorShelf
import Derived.Test.YtkonghjmipclmaaDoorBlocks
import Derived.Test.YtkonghjmipclmaaDoorSlicesEq
import Derived.Test.YtkonghjmipclmaaDoorRowT
import Derived.Test.YtkonghjmipclmaaDoorDigE
import Derived.Test.YtkonghjmipclmaaDoorBuA
import Derived.Test.YtkonghjmipclmaaDoorColM
import Derived.Test.YtkonghjmipclmaaDoorColA
import Derived.Test.YtkonghjmipclmaaDoorColF
import Derived.WalkKit
import Derived.IntWalk
import Derived.Lib.Hide
import Derived.WalkSpells
import Derived.WalkLawsBesides
import Derived.Laws.IdiomStrings
import Derived.Laws.OwnMore
import Derived.OwnWalk
import Derived.Deep.QuietTactic
import Derived.BigQuiet
import Derived.BigRegion
import Derived.Deep.LoopGhost
namespace Go.Proofs.YtkonghjmipclmaaDoor
open Go.RowKit Go.Sort
set_option linter.unusedSimpArgs false
set_option linter.unusedVariables false
def BAt (w : World) (b o : Nat) (z : Nat → Int) (n : Nat) : Prop := ∀ j, j < n → w.cell? ⟨b, o + j, none⟩ = some (.int .u8 (z j))
set_option maxHeartbeats 1000000 in
theorem bindex_none (b o c n : Nat) (z : Nat → Int) (x : Int) (w : World) (hc : BAt w b o z n) (hn : n ≤ 1000) (h : ∀ j, j < n → z j ≠ x) :
    Calls Tryd.prog 23 #[.slice (some ⟨b, o, none⟩) n c, .int .u8 x] w fun e w' => e = .returned (.int .i64 (-1)) ∧ w = w' := by
  have HC := Lib.hid hc
  have HX := Lib.hid h
  clear hc h
  go_enter Tryd.func23, Tryd.ntmps23
  go_wp2_with fail
  go_loopg [8] n (fun g i wr => w = wr ∧ ∃ k : Nat, k ≤ n ∧ g = n - k ∧ i = .int .i64 k)
  case atStart => exact ⟨rfl, 0, by omega, rfl, rfl⟩
  case round =>
    obtain ⟨rfl, k, hk, rfl, rfl⟩ := hrel
    by_cases h : k < n
    · have c1 := HC.out k h
      have hx := HX.out k h
      obtain ⟨y, hy⟩ : ∃ y, z k = y := ⟨_, rfl⟩
      rw [hy] at c1 hx
      have q1 : (x == y) = false := by rw [beq_eq_false_iff_ne]; exact fun e => hx e.symm
      clear hx hy
      go_wp2_with fail
      go_roundg (n - (k + 1))
      case measure => omega
      case rel => exact ⟨rfl, k + 1, by omega, rfl, by go_num⟩
    · obtain rfl : k = n := by omega
      go_wp2_with fail
      go_ret
      exact ⟨rfl, rfl⟩
set_option maxHeartbeats 1000000 in
theorem bindex_some (b o c n m : Nat) (z : Nat → Int) (x : Int) (w : World) (hc : BAt w b o z n) (hn : n ≤ 1000) (hm : m < n) (hzm : z m = x) (h : ∀ j, j < m → z j ≠ x) :
    Calls Tryd.prog 23 #[.slice (some ⟨b, o, none⟩) n c, .int .u8 x] w fun e w' => e = .returned (.int .i64 m) ∧ w = w' := by
  have HC := Lib.hid hc
  have HX := Lib.hid h
  have HM := Lib.hid hzm
  clear hc h hzm
  go_enter Tryd.func23, Tryd.ntmps23
  go_wp2_with fail
  go_loopg [8] n (fun g i wr => w = wr ∧ ∃ k : Nat, k ≤ m ∧ g = n - k ∧ i = .int .i64 k)
  case atStart => exact ⟨rfl, 0, by omega, rfl, rfl⟩
  case round =>
    obtain ⟨rfl, k, hk, rfl, rfl⟩ := hrel
    have hkn : k < n := by omega
    have c1 := HC.out k hkn
    by_cases h : k < m
    · have hx := HX.out k h
      obtain ⟨y, hy⟩ : ∃ y, z k = y := ⟨_, rfl⟩
      rw [hy] at c1 hx
      have q1 : (x == y) = false := by rw [beq_eq_false_iff_ne]; exact fun e => hx e.symm
      clear hx hy
      go_wp2_with fail
      go_roundg (n - (k + 1))
      case measure => omega
      case rel => exact ⟨rfl, k + 1, by omega, rfl, by go_num⟩
    · obtain rfl : k = m := by omega
      rw [HM.out] at c1
      go_wp2_with fail
      go_ret
      exact ⟨rfl, rfl⟩
theorem bfirst {z : Nat → Int} {x : Int} : ∀ n, (∃ j, j < n ∧ z j = x) → ∃ m, m < n ∧ z m = x ∧ ∀ j, j < m → z j ≠ x
  | 0, ⟨j, hj, _⟩ => absurd hj (by omega)
  | n + 1, ⟨j, hj, e⟩ => by
    by_cases h : ∃ j, j < n ∧ z j = x
    · obtain ⟨m, hm, h1, h2⟩ := bfirst n h; exact ⟨m, by omega, h1, h2⟩
    · have : j = n := by
        by_cases e2 : j = n
        · exact e2
        · exact absurd ⟨j, by omega, e⟩ h
      subst this
      exact ⟨j, by omega, e, fun i hi c => h ⟨i, hi, c⟩⟩
set_option maxHeartbeats 1000000 in
theorem bcontains (b o c n : Nat) (z : Nat → Int) (x : Int) (w : World) (hc : BAt w b o z n) (hn : n ≤ 1000) :
    Calls Tryd.prog 13 #[.slice (some ⟨b, o, none⟩) n c, .int .u8 x] w fun e w' => ∃ r, e = .returned (.bool r) ∧ (r = false → ∀ j, j < n → z j ≠ x) ∧ w = w' := by
  by_cases h : ∃ j, j < n ∧ z j = x
  · obtain ⟨m, hm, e, hf⟩ := bfirst n h
    have H := Lib.hid (bindex_some b o c n m z x w hc hn hm e hf)
    clear hc h hf e
    go_enter Tryd.func13, Tryd.ntmps13
    go_wp2_with fail
    refine H.out.mono ?_
    rintro e w' ⟨rfl, rfl⟩
    go_wp2_with fail
    go_ret
    exact ⟨true, rfl, fun h => (by cases h), rfl⟩
  · have h2 : ∀ j, j < n → z j ≠ x := fun j hj e => h ⟨j, hj, e⟩
    have H := Lib.hid (bindex_none b o c n z x w hc hn h2)
    have H2 := Lib.hid h2
    clear hc h h2
    go_enter Tryd.func13, Tryd.ntmps13
    go_wp2_with fail
    refine H.out.mono ?_
    rintro e w' ⟨rfl, rfl⟩
    go_wp2_with fail
    go_ret
    exact ⟨false, rfl, fun _ => H2.out, rfl⟩
/-! Cells -/
theorem isblank_any (x : Nat) (w : World) : Calls Tryd.prog 25 #[.int .i32 x] w fun e w' => e = .returned (.bool (p32 x)) ∧ w = w' := by
  have hp : ((x : Int) == 32) = p32 x := by
    unfold p32
    by_cases h : x = 32
    · subst h; rfl
    · rw [beq_eq_false_iff_ne.2 h, beq_eq_false_iff_ne]; omega
  go_enter Tryd.func25, Tryd.ntmps25
  go_wp2_with fail
  go_ret
  exact ⟨by rw [← hp]; rfl, rfl⟩
/-! too great rows -/
def RdTT (w : World) (R : Option Addr) (N : Nat) (A : Nat → Option Addr) (n c : Nat → Nat) (tb : Nat → Nat → ByteArray) : Prop :=
  ∀ i, i < N → ∃ b o, R = some ⟨b, o, none⟩ ∧ b < w.heap.size ∧ w.cell? ⟨b, o + i, none⟩ = some (.slice (A i) (n i) (c i)) ∧ n i ≤ 9223372036854775807 ∧ RdT w (A i) (n i) (tb i)
def FineT (n : Nat → Nat) (tb : Nat → Nat → ByteArray) (k : Nat) : Prop := ∀ i, i < k → n i ≤ 20 ∧ ∀ j, j < n i → (tb i j).size ≤ 60
set_option maxHeartbeats 4000000 in
theorem great16_any (R : Option Addr) (cr N : Nat) (A : Nat → Option Addr) (n c : Nat → Nat) (tb : Nat → Nat → ByteArray) (w : World) (hr : RdTT w R N A n c tb) (hl : N ≤ 9223372036854775807) :
    Calls Tryd.prog 6 #[.slice R N cr] w fun e w' => ∃ r, e = .returned (.bool r) ∧ (r = false → N ≤ 30 ∧ FineT n tb N) ∧ w = w' := by
  have HR := Lib.hid hr
  by_cases g1 : 30 < N
  · have gi : (30 : Int) < (N : Int) := by omega
    clear hr
    go_enter Tryd.func6, Tryd.ntmps6
    go_wp2_with fail
    go_ret
    exact ⟨true, rfl, (fun h => by cases h), rfl⟩
  have gi : ¬ (30 : Int) < (N : Int) := by omega
  have g2 : N ≤ 30 := by omega
  clear hr hl g1
  go_enter Tryd.func6, Tryd.ntmps6
  go_wp2_with fail
  go_loopg [3] N (fun g i wr => w = wr ∧ ∃ k : Nat, k ≤ N ∧ g = N - k ∧ i = .int .i64 k ∧ Hid (FineT n tb k))
  case atStart => exact ⟨rfl, 0, by omega, rfl, rfl, Lib.hid fun i hi => absurd hi (by omega)⟩
  case round =>
    obtain ⟨rfl, k, hk, rfl, rfl, HF⟩ := hrel
    by_cases h : k < N
    · obtain ⟨b, o, rfl, hb, c0, hl, ht⟩ := HR.out k h
      have HT := Lib.hid ht
      have HFK := Lib.hid (fun (x : n k ≤ 20) (y : ∀ j, j < n k → (tb k j).size ≤ 60) (i : Nat) (hi : i < k + 1) => show n i ≤ 20 ∧ ∀ j, j < n i → (tb i j).size ≤ 60 from by
        by_cases e : i < k
        · exact HF.out i e
        · obtain rfl : i = k := by omega
          exact ⟨x, y⟩)
      obtain ⟨m, hm⟩ : ∃ m, n k = m := ⟨_, rfl⟩
      obtain ⟨ck, hck⟩ : ∃ ck, c k = ck := ⟨_, rfl⟩
      obtain ⟨Ak, hA⟩ : ∃ Ak, A k = Ak := ⟨_, rfl⟩
      rw [hm] at c0 hl HT HFK
      rw [hck, hA] at c0
      rw [hA] at HT
      clear hm hck hA ht hb HF
      by_cases q : 20 < m
      · have qi : (20 : Int) < (m : Int) := by omega
        go_wp2_with fail
        go_ret
        exact ⟨true, rfl, (fun h => by cases h), rfl⟩
      · have qi : ¬ (20 : Int) < (m : Int) := by omega
        have q2 : m ≤ 20 := by omega
        clear q hl
        go_wp2_with fail
        go_loopg [4] m (fun g i wr => w = wr ∧ ∃ u : Nat, u ≤ m ∧ g = m - u ∧ i = .int .i64 u ∧ Hid (∀ j, j < u → (tb k j).size ≤ 60))
        case atStart => exact ⟨rfl, 0, by omega, rfl, rfl, Lib.hid fun i hi => absurd hi (by omega)⟩
        case round =>
          obtain ⟨rfl, u, hu, rfl, rfl, HU⟩ := hrel
          by_cases hum : u < m
          · obtain ⟨ba, oa, rfl, hlt, hca⟩ := rdT_row HT.out (by omega)
            have c1 := hca u hum
            have hx := (HT.out u hum).choose_spec.2.2.2
            clear hca hlt
            obtain ⟨s, hs⟩ : ∃ s, tb k u = s := ⟨_, rfl⟩
            rw [hs] at c1 hx
            have HS := Lib.hid hs
            clear hs
            by_cases q3 : 60 < s.size
            · have q3i : (60 : Int) < (s.size : Int) := by omega
              clear q3
              go_wp2_with fail
              go_ret
              exact ⟨true, rfl, (fun h => by cases h), rfl⟩
            · have q3i : ¬ (60 : Int) < (s.size : Int) := by omega
              have HU2 : Hid (∀ j, j < u + 1 → (tb k j).size ≤ 60) := Lib.hid fun j hj => by
                by_cases e : j < u
                · exact HU.out j e
                · obtain rfl : j = u := by omega
                  rw [HS.out]; omega
              clear q3 hx
              go_wp2_with fail
              go_roundg (m - (u + 1))
              case measure => omega
              case rel => exact ⟨rfl, u + 1, by omega, rfl, by go_num, HU2⟩
          · obtain rfl : u = m := by omega
            have HF2 := Lib.hid (HFK.out q2 HU.out)
            go_wp2_with fail
            go_roundg (N - (k + 1))
            case measure => omega
            case rel => exact ⟨rfl, k + 1, by omega, rfl, by go_num, HF2⟩
    · obtain rfl : k = N := by omega
      go_wp2_with fail
      go_ret
      exact ⟨false, rfl, fun _ => ⟨g2, HF.out⟩, rfl⟩
set_option maxHeartbeats 2000000 in
theorem cells_any (s : ByteArray) (w : World) (hs : s.size ≤ 4294967296) :
    Calls Tryd.prog 15 #[.string s] w fun e w' => ∃ A, e = .returned (.slice (some ⟨A, 0, none⟩) (Lib.goFieldsP p32 s).length (Lib.goFieldsP p32 s).length) ∧ w'.ownsRow w.heap.size 9 1 (.slice (some ⟨A, 0, none⟩) (Lib.goFieldsP p32 s).length (Lib.goFieldsP p32 s).length) (Lib.goFieldsP p32 s).length ((Lib.goFieldsP p32 s).map Value.string) ∧ Below w.heap.size w w' := by
  have KF := Lib.hid (Tryd.strings_FieldsFunc_runes 25 #[] (fun args W => by rfl) p32 s w hs (fun W x _ _ => (isblank_any x W).mono fun e w' h => ⟨h.1, 0, h.2.symm⟩))
  clear hs
  go_enter Tryd.func15, Tryd.ntmps15
  go_wp2_with fail
  refine KF.out.mono ?_
  rintro e w' ⟨B, rfl, hB, hown, hbel⟩
  have HO := Lib.hid hown
  have HB := Lib.hid hbel
  clear hown hbel
  go_wp2_with fail
  go_ret
  exact ⟨B, rfl, HO.out, HB.out⟩
end Go.Proofs.YtkonghjmipclmaaDoor
