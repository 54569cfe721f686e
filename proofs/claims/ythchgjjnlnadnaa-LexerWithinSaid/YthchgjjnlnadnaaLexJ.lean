/- Lexer: slices.Equal at tokens; the example. -/
import Derived.Test.YthchgjjnlnadnaaRows
import Derived.Test.YthchgjjnlnadnaaRowKit
import Derived.Test.YthchgjjnlnadnaaShelf
import Derived.Test.YthchgjjnlnadnaaBlocks
import Derived.Test.YthchgjjnlnadnaaBL
import Derived.Test.YthchgjjnlnadnaaLexM
import Derived.Test.YthchgjjnlnadnaaRowL
import Derived.Test.YthchgjjnlnadnaaRowM
import Derived.Test.YthchgjjnlnadnaaLexA
import Derived.Test.YthchgjjnlnadnaaLexB
import Derived.Test.YthchgjjnlnadnaaLexC
import Derived.Test.YthchgjjnlnadnaaLexD
import Derived.Test.YthchgjjnlnadnaaLexE
import Derived.Test.YthchgjjnlnadnaaLexF
import Derived.Test.YthchgjjnlnadnaaCut
import Derived.Test.YthchgjjnlnadnaaLexG
import Derived.Laws.MakeOwn
import Derived.Laws.AppendOwnNone
import Derived.Deep.RegionHeld3
import Derived.WalkKit
import Derived.IntWalk
import Derived.Lib.Hide
import Derived.WalkSpells
import Derived.WalkLawsBesides
import Derived.Laws.IdiomStrings
import Derived.Laws.OwnMore
import Derived.OwnWalk
import Derived.Deep.QuietTactic
import Derived.BigQuiet
import Derived.BigRegion
import Derived.Deep.LoopGhost
namespace Go.Proofs.Ythchgjjnlnadnaa
open Go.RowKit Go.Sort
set_option linter.unusedSimpArgs false
set_option linter.unusedVariables false
theorem owT_head {B : Nat} {w : World} {v : Value} {L : List Tk} (h : OwT B w v L) : ∃ (A : Option Addr) (cap : Nat), v = .slice A L.length cap ∧ (0 < L.length → ∃ g, A = some ⟨g, 0, none⟩ ∧ B ≤ g) := by
  by_cases h0 : 0 < L.length
  · obtain ⟨g, cap, e, hg, _⟩ := ownM_head h h0
    exact ⟨_, cap, e, fun _ => ⟨g, rfl, hg⟩⟩
  · obtain ⟨A, cap, e⟩ := ownM_slice h
    exact ⟨A, cap, e, fun q => absurd q h0⟩
set_option maxRecDepth 100000 in
set_option maxHeartbeats 4000000 in
theorem toks_eq (B1 B2 : Nat) (v1 v2 : Value) (L : List Tk) (w : World) (h1 : OwT B1 w v1 L) (h2 : OwT B2 w v2 L) (hl : L.length ≤ 100000) :
    Calls Try.prog 8 #[v1, v2] w fun e w' => e = .returned (.bool true) ∧ ∃ k, w' = w.drewN k := by
  obtain ⟨A, c, rfl, hA⟩ := owT_head h1
  obtain ⟨B, d, rfl, hB⟩ := owT_head h2
  obtain ⟨n, hn⟩ : ∃ n, L.length = n := ⟨_, rfl⟩
  by_cases h0 : n = 0
  · rw [hn, h0]
    clear hA hB h1 h2
    go_enter Try.func8, Try.ntmps8
    go_wp2_with fail
    go_loop [13] (fun i => i = .int .i64 0) (fun i => 0)
    case atStart => exact rfl
    case round =>
      obtain rfl := hrel
      go_wp2_with fail
      go_ret
      exact ⟨rfl, 0, rfl⟩
  · obtain ⟨g1, rfl, _⟩ := hA (by omega)
    obtain ⟨g2, rfl, _⟩ := hB (by omega)
    have H1 := Lib.hid (fun i t hi => owT_cell (i := i) (t := t) h1 hi)
    have H2 := Lib.hid (fun i t hi => owT_cell (i := i) (t := t) h2 hi)
    have HG : Hid (∀ i, i < n → ∃ t, L[i]? = some t) := Lib.hid (fun i hi => ⟨L[i]'(by omega), List.getElem?_eq_getElem _⟩)
    rw [hn]
    have hl' : n ≤ 100000 := by omega
    clear hA hB h1 h2 hn hl
    go_enter Try.func8, Try.ntmps8
    go_wp2_with fail
    go_loopw [13] (fun i wr => ∃ k : Nat, k ≤ n ∧ i = .int .i64 k ∧ ∃ q, wr = w.drewN q) (fun i _ => n - (intOf i).toNat)
    case atStart => exact ⟨0, by omega, rfl, 0, rfl⟩
    case round =>
      obtain ⟨k, hk, rfl, q, rfl⟩ := hrel
      by_cases h : k < n
      · obtain ⟨t, ht⟩ := HG.out k h
        have a0 : w.cell? ⟨g1, k * 5, none⟩ = some (.int .i64 (t.k : Nat)) := H1.out k t ht 0 (by omega)
        have a1 : w.cell? ⟨g1, k * 5 + 1, none⟩ = some (.string (bL t.t)) := H1.out k t ht 1 (by omega)
        have a2 : w.cell? ⟨g1, k * 5 + 2, none⟩ = some (.int .i64 (t.n : Nat)) := H1.out k t ht 2 (by omega)
        have a3 : w.cell? ⟨g1, k * 5 + 3, none⟩ = some (.int .i64 (t.l : Nat)) := H1.out k t ht 3 (by omega)
        have a4 : w.cell? ⟨g1, k * 5 + 4, none⟩ = some (.int .i64 (t.c : Nat)) := H1.out k t ht 4 (by omega)
        have e0 : w.cell? ⟨g2, k * 5, none⟩ = some (.int .i64 (t.k : Nat)) := H2.out k t ht 0 (by omega)
        have e1 : w.cell? ⟨g2, k * 5 + 1, none⟩ = some (.string (bL t.t)) := H2.out k t ht 1 (by omega)
        have e2 : w.cell? ⟨g2, k * 5 + 2, none⟩ = some (.int .i64 (t.n : Nat)) := H2.out k t ht 2 (by omega)
        have e3 : w.cell? ⟨g2, k * 5 + 3, none⟩ = some (.int .i64 (t.l : Nat)) := H2.out k t ht 3 (by omega)
        have e4 : w.cell? ⟨g2, k * 5 + 4, none⟩ = some (.int .i64 (t.c : Nat)) := H2.out k t ht 4 (by omega)
        obtain ⟨x0, hx0⟩ : ∃ x : Int, ((t.k : Nat) : Int) = x := ⟨_, rfl⟩
        obtain ⟨x1, hx1⟩ : ∃ x, bL t.t = x := ⟨_, rfl⟩
        obtain ⟨x2, hx2⟩ : ∃ x : Int, ((t.n : Nat) : Int) = x := ⟨_, rfl⟩
        obtain ⟨x3, hx3⟩ : ∃ x : Int, ((t.l : Nat) : Int) = x := ⟨_, rfl⟩
        obtain ⟨x4, hx4⟩ : ∃ x : Int, ((t.c : Nat) : Int) = x := ⟨_, rfl⟩
        rw [hx0] at a0 e0; rw [hx1] at a1 e1; rw [hx2] at a2 e2; rw [hx3] at a3 e3; rw [hx4] at a4 e4
        clear hx0 hx1 hx2 hx3 hx4 ht
        go_wp2_with fail
        go_quiet (fail)
        go_wp2_with fail
        go_roundw
        case rel => exact ⟨k + 1, by omega, by go_num, _, rfl⟩
        case measure => simp [intOf]; omega
      · go_wp2_with fail
        go_ret
        exact ⟨rfl, _, rfl⟩
theorem scan_cars : scL [99, 97, 114, 115, 32, 50] 1 1 [] = .ok [⟨1, [99, 97, 114, 115], 0, 1, 1⟩, ⟨2, [50], 2, 1, 6⟩, ⟨3, [], 0, 1, 7⟩] := by
  rw [scL_go (x := 99) (k := 4) (by decide) (by omega) (fun q => by omega)]
  rw [show (rnL 4 [97, 114, 115, 32, 50]) = [97, 114, 115] by decide]
  show scL [32, 50] 1 (1 + 1 + 3) ([] ++ tokL 4 [99, 97, 114, 115] 1 1) = _
  rw [scL_go (x := 32) (k := 1) (by decide) (by omega) (fun q => by omega)]
  rw [show (rnL 1 [50]) = [] by decide]
  show scL [50] 1 (1 + 1 + 3 + 1) ([] ++ tokL 4 [99, 97, 114, 115] 1 1 ++ []) = _
  rw [scL_go (x := 50) (k := 5) (by decide) (by omega) (fun q => by decide)]
  rw [show (rnL 5 []) = [] by decide]
  show scL [] 1 (1 + 1 + 3 + 1 + 1) ([] ++ tokL 4 [99, 97, 114, 115] 1 1 ++ [] ++ tokL 5 [50] 1 (1 + 1 + 3 + 1)) = _
  rw [scL_nil]
  rfl
set_option maxRecDepth 100000 in
set_option maxHeartbeats 4000000 in
theorem alive19 (w : World) : Calls Try.prog 9 #[] w fun e w' => e = .returned (.bool true) ∧ Below w.heap.size w w' := by
  have K := scan_any [99, 97, 114, 115, 32, 50] w (by decide)
  unfold ScanR at K
  rw [scan_cars] at K
  have K := Lib.hid K
  go_enter Try.func9, Try.ntmps9
  go_wp2_with fail
  refine K.out.mono ?_
  rintro e w1 ⟨⟨v, rfl, ho, _⟩, hb⟩
  obtain ⟨A, c, rfl, hA⟩ := owT_head ho
  obtain ⟨g, rfl, hg⟩ := hA (by decide)
  have hlt : g < w1.heap.size := by
    have h' : w1.ownsRow w.heap.size 31 5 _ 3 (encT _) := ho
    exact (h'.lt g rfl).2
  have a0 : w1.cell? ⟨g, 1, none⟩ = some (.string (ByteArray.mk #[99, 97, 114, 115])) := owT_cell (i := 0) ho rfl 1 (by omega)
  have a1 : w1.cell? ⟨g, 7, none⟩ = some (.int .i64 2) := owT_cell (i := 1) ho rfl 2 (by omega)
  have a2 : w1.cell? ⟨g, 9, none⟩ = some (.int .i64 6) := owT_cell (i := 1) ho rfl 4 (by omega)
  have a3 : w1.cell? ⟨g, 10, none⟩ = some (.int .i64 3) := owT_cell (i := 2) ho rfl 0 (by omega)
  have a4 : w1.cell? ⟨g, 14, none⟩ = some (.int .i64 7) := owT_cell (i := 2) ho rfl 4 (by omega)
  have HB := Lib.hid hb
  have hne : ¬ g = w1.heap.size := by omega
  have hne2 : ¬ w1.heap.size = g := by omega
  clear ho hb hA hg
  simp only [List.length_cons, List.length_nil]
  go_wp2_with fail
  go_ret
  first | exact ⟨rfl, HB.out.alloc HB.out.size _⟩ | exact ⟨rfl, (HB.out.alloc HB.out.size _).trans (Below.refl _ _)⟩
end Go.Proofs.Ythchgjjnlnadnaa
