/- The walk of WordsDraw: it answers true for every input, and leaves all old blocks as they were. No condition. -/
import Derived.Test.YtbbcohgkiejhjaaRows
import Derived.Test.YtbbcohgkiejhjaaRowKit
import Derived.Test.YtbbcohgkiejhjaaSlicesEq
import Derived.Test.YtbbcohgkiejhjaaBlocks
import Derived.Test.YtbbcohgkiejhjaaWordsA
import Derived.Test.YtbbcohgkiejhjaaWordsB
import Derived.WalkKit
import Derived.ProofKit
import Derived.OpenShut
import Derived.Deep.QuietTactic
import Derived.BigQuiet
import Derived.Lib.SmallJoins
import Derived.Lib.Hide
import Derived.WalkSpells
import Derived.WalkLawsBesides
import Derived.IntWalk
import Derived.Deep.WholeRow
import Derived.Laws.CopyOwn
import Derived.Deep.RegionHeld3
namespace Go.Proofs.Ytbbcohgkiejhjaa.wordsDraw
open Go.ChangeShapes Go.WideShapes Go.ChangeAt Go.RowKit Go.Joins
set_option linter.unusedSimpArgs false
set_option linter.unusedVariables false

def Du (w X : World) (u : Nat) (t : TypeId) (a b c d : Value) : Prop := Blk X w.heap.size t #[a, b] ∧ Blk X u t #[c, d] ∧ w.heap.size < X.heap.size ∧ Below w.heap.size w X
theorem Du.next {w X Y : World} {u : Nat} {t : TypeId} {a b c d : Value} (h : Du w X u t a b c d) (hb : Below X.heap.size X Y) : Du w Y u t a b c d :=
  ⟨h.1.next hb, h.2.1.next hb, Nat.lt_of_lt_of_le h.2.2.1 hb.size, h.2.2.2.trans (hb.mono (Nat.le_of_lt h.2.2.1))⟩
theorem Du.draw {w X : World} {u : Nat} {t : TypeId} {a b c d : Value} (h : Du w X u t a b c d) (n : Nat) : Du w (X.drewN n) u t a b c d := ⟨h.1, h.2.1, h.2.2.1, below_drewN h.2.2.2 n⟩
theorem Du.cells {w X : World} {u : Nat} {t : TypeId} {a b c d : Value} (h : Du w X u t a b c d) : X.cell? ⟨w.heap.size, 0, none⟩ = some a ∧ X.cell? ⟨w.heap.size, 1, none⟩ = some b ∧ X.cell? ⟨u, 0, none⟩ = some c ∧ X.cell? ⟨u, 1, none⟩ = some d :=
  ⟨h.1.cell 0, h.1.cell 1, h.2.1.cell 0, h.2.1.cell 1⟩
set_option maxRecDepth 100000 in
set_option maxHeartbeats 2000000 in
theorem walk_dry_neg (A : Option Addr) (c : Nat) (zs : List Int) (a : Int) (w : World) (hr : RdI w .u32 A zs) (hl : zs.length ≤ 1000) (ha : -9223372036854775808 ≤ a) (ha' : a ≤ 9223372036854775807) (h : lf zs.length a = 0) (m : Int) (hm : m < 0) :
    Calls Try.prog 7 #[.agg #[.slice A zs.length c, .int .i64 a], .int .i64 m] w fun e w' => e = .returned (.bool true) ∧ Below w.heap.size w w' := by
  have R := Lib.hid hr
  have hlf := fun W => lleft_any A zs.length c a W (by omega) ha ha'
  have hlg := fun W => left_any A zs.length c a W (by omega) ha ha'
  rw [h] at hlf hlg
  have HL := Lib.hid hlf
  have HG := Lib.hid hlg
  have H := Lib.hid h
  clear hr hlf hlg h
  go_enter Try.func7, Try.ntmps7
  go_wp2_with fail
  refine (next_dry A zs.length c a _ (by omega) ha ha' H.out).mono ?_
  rintro e w1 ⟨rfl, hb1⟩
  obtain ⟨g1, hz, hb⟩ := one_blk hb1
  clear hb1
  obtain ⟨k0, k1, f0, f1⟩ := g1.two
  have G := Lib.hid g1
  clear g1
  go_wp2_with fail
  refine (HL.out _).mono ?_
  rintro e w2 ⟨rfl, hb2⟩
  obtain ⟨t1, hz2, hb3⟩ := one_blk hb2
  clear hb2
  have s1 := G.out.next hb3
  clear k0 k1 f0 f1
  obtain ⟨k0, k1, f0, f1⟩ := s1.two
  obtain ⟨l0, l1, e0, e1⟩ := t1.two
  have G2 := Lib.hid (And.intro s1 t1)
  have hbw2 : Below w.heap.size w w2 := hb.trans (hb3.mono hb.size)
  have hz3 : w.heap.size < w2.heap.size := by omega
  clear s1 t1 hb hb3
  go_wp2_with fail
  refine (same_any A A c c a zs _ (R.out.kept hbw2) (R.out.kept hbw2) (by omega)).mono ?_
  rintro e w3 ⟨rfl, hb4⟩
  have G3 := Lib.hid (G2.out.1.next hb4)
  have hbw3 := hbw2.trans (hb4.mono (by omega))
  have hz4 : w.heap.size < w3.heap.size := Nat.lt_of_lt_of_le hz3 hb4.size
  clear k0 k1 f0 f1 l0 l1 e0 e1 hb4 G2 G
  obtain ⟨k0, k1, f0, f1⟩ := G3.out.two
  go_wp2_with fail
  refine (many_none A zs.length c a m 22 _ (by omega) ha ha' (.inl ⟨hm, rfl⟩)).mono ?_
  rintro e w4 ⟨rfl, hb4⟩
  have G4 : Hid (Blk w4 w.heap.size 61 #[.slice A zs.length c, .int .i64 a]) := by first | exact G3.out.next hb4 | exact (G3.out.draw _).next hb4
  have hbw4 : Below w.heap.size w w4 := by first | exact hbw3.trans (hb4.mono (by omega)) | exact (below_drewN hbw3 _).trans (hb4.mono (Nat.le_of_lt hz4))
  have hz5 : w.heap.size < w4.heap.size := Nat.lt_of_lt_of_le hz4 hb4.size
  clear k0 k1 f0 f1 hb4 G3
  obtain ⟨k0, k1, f0, f1⟩ := G4.out.two
  go_wp2_with fail
  obtain ⟨u, hu⟩ : ∃ u : Nat, w4.heap.size = u := ⟨_, rfl⟩
  obtain ⟨X, hX⟩ : ∃ X : World, w4.alloc (Obj.cells #[.slice A zs.length c, .int .i64 a] 61) = X := ⟨_, rfl⟩
  have D : Du w X u 61 (.slice A zs.length c) (.int .i64 a) (.slice A zs.length c) (.int .i64 a) := by rw [← hX, ← hu]; exact ⟨G4.out.alloc _, Blk.new _ _ _, Nat.lt_trans hz5 (by simp), hbw4.alloc hbw4.size _⟩
  rw [hX]
  clear hX k0 k1 f0 f1
  obtain ⟨k0, k1, l0, l1⟩ := D.cells
  have D0 := Lib.hid D
  clear D
  try rw [hu]
  go_region_held3 (fun W => W.cell? ⟨w.heap.size, 0, none⟩ = some (.slice A zs.length c) ∧ W.cell? ⟨w.heap.size, 1, none⟩ = some (.int .i64 a) ∧ W.cell? ⟨u, 0, none⟩ = some (.slice A zs.length c) ∧ W.cell? ⟨u, 1, none⟩ = some (.int .i64 a))
    (go_keep)
    (first
      | (go_at_call 36; refine (HG.out _).mono ?_; rintro e y1 ⟨rfl, h1⟩; have D1 := Lib.hid ((D0.out.draw _).next h1); clear k0 k1 l0 l1; obtain ⟨k0, k1, l0, l1⟩ := D1.out.cells)
      | (go_at_call 32; refine (HL.out _).mono ?_; rintro e y2 ⟨rfl, h2⟩; have D2 := Lib.hid (D1.out.next h2); clear k0 k1 l0 l1; obtain ⟨k0, k1, l0, l1⟩ := D2.out.cells)
      | (go_at_call 33; refine (same_any A A c c a zs _ (R.out.kept D2.out.2.2.2) (R.out.kept D2.out.2.2.2) (by omega)).mono ?_; rintro e y3 ⟨rfl, h3⟩; have D3 := Lib.hid (D2.out.next h3); clear k0 k1 l0 l1; obtain ⟨k0, k1, l0, l1⟩ := D3.out.cells)
      | (go_at_call 37; refine (walive_any _).mono ?_; rintro e y4 ⟨rfl, h4⟩; have D4 := Lib.hid (D3.out.next h4); clear k0 k1 l0 l1; obtain ⟨k0, k1, l0, l1⟩ := D4.out.cells))
  go_wp2_with fail
  go_ret
  exact ⟨rfl, D4.out.2.2.2⟩
set_option maxRecDepth 100000 in
set_option maxHeartbeats 2000000 in
theorem walk_dry_none (A : Option Addr) (c : Nat) (zs : List Int) (a : Int) (w : World) (hr : RdI w .u32 A zs) (hl : zs.length ≤ 1000) (ha : -9223372036854775808 ≤ a) (ha' : a ≤ 9223372036854775807) (h : lf zs.length a = 0)  :
    Calls Try.prog 7 #[.agg #[.slice A zs.length c, .int .i64 a], .int .i64 0] w fun e w' => e = .returned (.bool true) ∧ Below w.heap.size w w' := by
  have R := Lib.hid hr
  have hlf := fun W => lleft_any A zs.length c a W (by omega) ha ha'
  have hlg := fun W => left_any A zs.length c a W (by omega) ha ha'
  rw [h] at hlf hlg
  have HL := Lib.hid hlf
  have HG := Lib.hid hlg
  have H := Lib.hid h
  clear hr hlf hlg h
  go_enter Try.func7, Try.ntmps7
  go_wp2_with fail
  refine (next_dry A zs.length c a _ (by omega) ha ha' H.out).mono ?_
  rintro e w1 ⟨rfl, hb1⟩
  obtain ⟨g1, hz, hb⟩ := one_blk hb1
  clear hb1
  obtain ⟨k0, k1, f0, f1⟩ := g1.two
  have G := Lib.hid g1
  clear g1
  go_wp2_with fail
  refine (HL.out _).mono ?_
  rintro e w2 ⟨rfl, hb2⟩
  obtain ⟨t1, hz2, hb3⟩ := one_blk hb2
  clear hb2
  have s1 := G.out.next hb3
  clear k0 k1 f0 f1
  obtain ⟨k0, k1, f0, f1⟩ := s1.two
  obtain ⟨l0, l1, e0, e1⟩ := t1.two
  have G2 := Lib.hid (And.intro s1 t1)
  have hbw2 : Below w.heap.size w w2 := hb.trans (hb3.mono hb.size)
  have hz3 : w.heap.size < w2.heap.size := by omega
  clear s1 t1 hb hb3
  go_wp2_with fail
  refine (same_any A A c c a zs _ (R.out.kept hbw2) (R.out.kept hbw2) (by omega)).mono ?_
  rintro e w3 ⟨rfl, hb4⟩
  have G3 := Lib.hid (G2.out.1.next hb4)
  have hbw3 := hbw2.trans (hb4.mono (by omega))
  have hz4 : w.heap.size < w3.heap.size := Nat.lt_of_lt_of_le hz3 hb4.size
  clear k0 k1 f0 f1 l0 l1 e0 e1 hb4 G2 G
  obtain ⟨k0, k1, f0, f1⟩ := G3.out.two
  go_wp2_with fail
  refine (many_none A zs.length c a 0 0 _ (by omega) ha ha' (.inr (.inl ⟨rfl, rfl⟩))).mono ?_
  rintro e w4 ⟨rfl, hb4⟩
  have G4 : Hid (Blk w4 w.heap.size 61 #[.slice A zs.length c, .int .i64 a]) := by first | exact G3.out.next hb4 | exact (G3.out.draw _).next hb4
  have hbw4 : Below w.heap.size w w4 := by first | exact hbw3.trans (hb4.mono (by omega)) | exact (below_drewN hbw3 _).trans (hb4.mono (Nat.le_of_lt hz4))
  have hz5 : w.heap.size < w4.heap.size := Nat.lt_of_lt_of_le hz4 hb4.size
  clear k0 k1 f0 f1 hb4 G3
  obtain ⟨k0, k1, f0, f1⟩ := G4.out.two
  go_wp2_with fail
  refine (HL.out _).mono ?_
  rintro e w5 ⟨rfl, hb5⟩
  obtain ⟨t5, hz6, hb6⟩ := one_blk hb5
  have s5 := G4.out.next hb6
  have hbw5 : Below w.heap.size w w5 := hbw4.trans (hb6.mono hbw4.size)
  clear hb5 hb6 k0 k1 f0 f1
  obtain ⟨k0, k1, f0, f1⟩ := s5.two
  obtain ⟨j0, j1, i0, i1⟩ := t5.two
  go_wp2_with fail
  clear j0 j1 i0 i1
  obtain ⟨u, hu⟩ : ∃ u : Nat, w4.heap.size = u := ⟨_, rfl⟩
  obtain ⟨X, hX⟩ : ∃ X : World, w5 = X := ⟨_, rfl⟩
  have D : Du w X u 61 (.slice A zs.length c) (.int .i64 a) (.slice A zs.length c) (.int .i64 a) := by rw [← hX, ← hu]; exact ⟨s5, t5, Nat.lt_trans hz5 hz6, hbw5⟩
  rw [hX]
  clear hX k0 k1 f0 f1
  obtain ⟨k0, k1, l0, l1⟩ := D.cells
  have D0 := Lib.hid D
  clear D
  try rw [hu]
  go_region_held3 (fun W => W.cell? ⟨w.heap.size, 0, none⟩ = some (.slice A zs.length c) ∧ W.cell? ⟨w.heap.size, 1, none⟩ = some (.int .i64 a) ∧ W.cell? ⟨u, 0, none⟩ = some (.slice A zs.length c) ∧ W.cell? ⟨u, 1, none⟩ = some (.int .i64 a))
    (go_keep)
    (first
      | (go_at_call 36; refine (HG.out _).mono ?_; rintro e y1 ⟨rfl, h1⟩; have D1 := Lib.hid ((D0.out.draw _).next h1); clear k0 k1 l0 l1; obtain ⟨k0, k1, l0, l1⟩ := D1.out.cells)
      | (go_at_call 32; refine (HL.out _).mono ?_; rintro e y2 ⟨rfl, h2⟩; have D2 := Lib.hid (D1.out.next h2); clear k0 k1 l0 l1; obtain ⟨k0, k1, l0, l1⟩ := D2.out.cells)
      | (go_at_call 33; refine (same_any A A c c a zs _ (R.out.kept D2.out.2.2.2) (R.out.kept D2.out.2.2.2) (by omega)).mono ?_; rintro e y3 ⟨rfl, h3⟩; have D3 := Lib.hid (D2.out.next h3); clear k0 k1 l0 l1; obtain ⟨k0, k1, l0, l1⟩ := D3.out.cells)
      | (go_at_call 37; refine (walive_any _).mono ?_; rintro e y4 ⟨rfl, h4⟩; have D4 := Lib.hid (D3.out.next h4); clear k0 k1 l0 l1; obtain ⟨k0, k1, l0, l1⟩ := D4.out.cells))
  go_wp2_with fail
  go_ret
  exact ⟨rfl, D4.out.2.2.2⟩
set_option maxRecDepth 100000 in
set_option maxHeartbeats 2000000 in
theorem walk_dry_far (A : Option Addr) (c : Nat) (zs : List Int) (a : Int) (w : World) (hr : RdI w .u32 A zs) (hl : zs.length ≤ 1000) (ha : -9223372036854775808 ≤ a) (ha' : a ≤ 9223372036854775807) (h : lf zs.length a = 0) (m : Int) (hm : 0 < m) :
    Calls Try.prog 7 #[.agg #[.slice A zs.length c, .int .i64 a], .int .i64 m] w fun e w' => e = .returned (.bool true) ∧ Below w.heap.size w w' := by
  have R := Lib.hid hr
  have hlf := fun W => lleft_any A zs.length c a W (by omega) ha ha'
  have hlg := fun W => left_any A zs.length c a W (by omega) ha ha'
  rw [h] at hlf hlg
  have HL := Lib.hid hlf
  have HG := Lib.hid hlg
  have H := Lib.hid h
  clear hr hlf hlg h
  go_enter Try.func7, Try.ntmps7
  go_wp2_with fail
  refine (next_dry A zs.length c a _ (by omega) ha ha' H.out).mono ?_
  rintro e w1 ⟨rfl, hb1⟩
  obtain ⟨g1, hz, hb⟩ := one_blk hb1
  clear hb1
  obtain ⟨k0, k1, f0, f1⟩ := g1.two
  have G := Lib.hid g1
  clear g1
  go_wp2_with fail
  refine (HL.out _).mono ?_
  rintro e w2 ⟨rfl, hb2⟩
  obtain ⟨t1, hz2, hb3⟩ := one_blk hb2
  clear hb2
  have s1 := G.out.next hb3
  clear k0 k1 f0 f1
  obtain ⟨k0, k1, f0, f1⟩ := s1.two
  obtain ⟨l0, l1, e0, e1⟩ := t1.two
  have G2 := Lib.hid (And.intro s1 t1)
  have hbw2 : Below w.heap.size w w2 := hb.trans (hb3.mono hb.size)
  have hz3 : w.heap.size < w2.heap.size := by omega
  clear s1 t1 hb hb3
  go_wp2_with fail
  refine (same_any A A c c a zs _ (R.out.kept hbw2) (R.out.kept hbw2) (by omega)).mono ?_
  rintro e w3 ⟨rfl, hb4⟩
  have G3 := Lib.hid (G2.out.1.next hb4)
  have hbw3 := hbw2.trans (hb4.mono (by omega))
  have hz4 : w.heap.size < w3.heap.size := Nat.lt_of_lt_of_le hz3 hb4.size
  clear k0 k1 f0 f1 l0 l1 e0 e1 hb4 G2 G
  obtain ⟨k0, k1, f0, f1⟩ := G3.out.two
  go_wp2_with fail
  refine (many_none A zs.length c a m 50 _ (by omega) ha ha' (.inr (.inr ⟨hm, by rw [H.out]; exact hm, rfl⟩))).mono ?_
  rintro e w4 ⟨rfl, hb4⟩
  have G4 : Hid (Blk w4 w.heap.size 61 #[.slice A zs.length c, .int .i64 a]) := by first | exact G3.out.next hb4 | exact (G3.out.draw _).next hb4
  have hbw4 : Below w.heap.size w w4 := by first | exact hbw3.trans (hb4.mono (by omega)) | exact (below_drewN hbw3 _).trans (hb4.mono (Nat.le_of_lt hz4))
  have hz5 : w.heap.size < w4.heap.size := Nat.lt_of_lt_of_le hz4 hb4.size
  clear k0 k1 f0 f1 hb4 G3
  obtain ⟨k0, k1, f0, f1⟩ := G4.out.two
  go_wp2_with fail
  refine (HL.out _).mono ?_
  rintro e w5 ⟨rfl, hb5⟩
  obtain ⟨t5, hz6, hb6⟩ := one_blk hb5
  have s5 := G4.out.next hb6
  have hbw5 : Below w.heap.size w w5 := hbw4.trans (hb6.mono hbw4.size)
  clear hb5 hb6 k0 k1 f0 f1
  obtain ⟨k0, k1, f0, f1⟩ := s5.two
  obtain ⟨j0, j1, i0, i1⟩ := t5.two
  go_wp2_with fail
  clear j0 j1 i0 i1
  obtain ⟨u, hu⟩ : ∃ u : Nat, w4.heap.size = u := ⟨_, rfl⟩
  obtain ⟨X, hX⟩ : ∃ X : World, w5 = X := ⟨_, rfl⟩
  have D : Du w X u 61 (.slice A zs.length c) (.int .i64 a) (.slice A zs.length c) (.int .i64 a) := by rw [← hX, ← hu]; exact ⟨s5, t5, Nat.lt_trans hz5 hz6, hbw5⟩
  rw [hX]
  clear hX k0 k1 f0 f1
  obtain ⟨k0, k1, l0, l1⟩ := D.cells
  have D0 := Lib.hid D
  clear D
  try rw [hu]
  go_region_held3 (fun W => W.cell? ⟨w.heap.size, 0, none⟩ = some (.slice A zs.length c) ∧ W.cell? ⟨w.heap.size, 1, none⟩ = some (.int .i64 a) ∧ W.cell? ⟨u, 0, none⟩ = some (.slice A zs.length c) ∧ W.cell? ⟨u, 1, none⟩ = some (.int .i64 a))
    (go_keep)
    (first
      | (go_at_call 36; refine (HG.out _).mono ?_; rintro e y1 ⟨rfl, h1⟩; have D1 := Lib.hid ((D0.out.draw _).next h1); clear k0 k1 l0 l1; obtain ⟨k0, k1, l0, l1⟩ := D1.out.cells)
      | (go_at_call 32; refine (HL.out _).mono ?_; rintro e y2 ⟨rfl, h2⟩; have D2 := Lib.hid (D1.out.next h2); clear k0 k1 l0 l1; obtain ⟨k0, k1, l0, l1⟩ := D2.out.cells)
      | (go_at_call 33; refine (same_any A A c c a zs _ (R.out.kept D2.out.2.2.2) (R.out.kept D2.out.2.2.2) (by omega)).mono ?_; rintro e y3 ⟨rfl, h3⟩; have D3 := Lib.hid (D2.out.next h3); clear k0 k1 l0 l1; obtain ⟨k0, k1, l0, l1⟩ := D3.out.cells)
      | (go_at_call 37; refine (walive_any _).mono ?_; rintro e y4 ⟨rfl, h4⟩; have D4 := Lib.hid (D3.out.next h4); clear k0 k1 l0 l1; obtain ⟨k0, k1, l0, l1⟩ := D4.out.cells))
  go_wp2_with fail
  go_ret
  exact ⟨rfl, D4.out.2.2.2⟩
set_option maxRecDepth 100000 in
set_option maxHeartbeats 2000000 in
theorem walk_some_neg (b off c k : Nat) (zs : List Int) (v : Int) (w : World) (hr : RdI w .u32 (some ⟨b, off, none⟩) zs) (hl : zs.length ≤ 1000) (hlc : zs.length ≤ c) (hc' : c ≤ 9223372036854775807) (hk : k < zs.length) (hc : w.cell? ⟨b, off + k, none⟩ = some (.int .u32 v)) (m : Int) (hm : m < 0) :
    Calls Try.prog 7 #[.agg #[.slice (some ⟨b, off, none⟩) zs.length c, .int .i64 k], .int .i64 m] w fun e w' => e = .returned (.bool true) ∧ Below w.heap.size w w' := by
  have R := Lib.hid hr
  have hlf := fun W => lleft_any (some ⟨b, off, none⟩) zs.length c k W (by omega) (by omega) (by omega)
  have hlg := fun W => left_any (some ⟨b, off, none⟩) zs.length c k W (by omega) (by omega) (by omega)
  rw [lf_in (by omega)] at hlf hlg
  have HL := Lib.hid hlf
  have HG := Lib.hid hlg
  have C := Lib.hid hc
  clear hr hlf hlg hc
  have hz1 : (((zs.length : Int) - k) == 0) = false := by rw [beq_eq_false_iff_ne]; omega
  go_enter Try.func7, Try.ntmps7
  go_wp2_with fail
  refine (next_some b off zs.length c k v _ (by omega) hk ((((Below.refl _ _).alloc (Nat.le_refl _) _).cell (lt_of_cell C.out)).trans C.out)).mono ?_
  rintro e w1 ⟨rfl, hb1⟩
  obtain ⟨g1, hz, hb⟩ := one_blk hb1
  clear hb1
  obtain ⟨k0, k1, f0, f1⟩ := g1.two
  have G := Lib.hid g1
  clear g1
  go_wp2_with fail
  refine (HL.out _).mono ?_
  rintro e w2 ⟨rfl, hb2⟩
  obtain ⟨t1, hz2, hb3⟩ := one_blk hb2
  clear hb2
  have s1 := G.out.next hb3
  clear k0 k1 f0 f1
  obtain ⟨k0, k1, f0, f1⟩ := s1.two
  obtain ⟨l0, l1, e0, e1⟩ := t1.two
  have G2 := Lib.hid (And.intro s1 t1)
  have hbw2 : Below w.heap.size w w2 := hb.trans (hb3.mono hb.size)
  have hz3 : w.heap.size < w2.heap.size := by omega
  clear s1 t1 hb hb3
  have hcw : w2.cell? ⟨b, off + k, none⟩ = some (.int .u32 v) := (hbw2.cell (lt_of_cell C.out)).trans C.out
  have hx : IntKind.i64.wrap ((k : Int) + 1) = (k : Int) + 1 := IntWalk.i64_in _ (by omega)
  go_wp2_with fail
  try go_quiet ((go_at_call 34; exact equal_u32 (some ⟨b, off, none⟩) (some ⟨b, off, none⟩) c c zs _ (rdI_drewN (R.out.kept hbw2) _) (rdI_drewN (R.out.kept hbw2) _) (by omega)))
  try (refine (equal_u32 (some ⟨b, off, none⟩) (some ⟨b, off, none⟩) c c zs _ (R.out.kept hbw2) (R.out.kept hbw2) (by omega)).mono ?_; rintro e w3 ⟨rfl, q, rfl⟩)
  clear hx hcw
  obtain ⟨w3, hw3⟩ : ∃ X : World, w2 = X := ⟨_, rfl⟩
  subst hw3
  have hbw3 := hbw2
  have G3 := Lib.hid G2.out.1
  have hz4 := hz3
  go_wp2_with fail
  refine (many_none (some ⟨b, off, none⟩) zs.length c k m 22 _ (by omega) (by omega) (by omega) (.inl ⟨hm, rfl⟩)).mono ?_
  rintro e w4 ⟨rfl, hb4⟩
  have G4 : Hid (Blk w4 w.heap.size 61 #[.slice (some ⟨b, off, none⟩) zs.length c, .int .i64 k]) := by first | exact G3.out.next hb4 | exact (G3.out.draw _).next hb4
  have hbw4 : Below w.heap.size w w4 := by first | exact hbw3.trans (hb4.mono (by omega)) | exact (below_drewN hbw3 _).trans (hb4.mono (Nat.le_of_lt hz4))
  have hz5 : w.heap.size < w4.heap.size := Nat.lt_of_lt_of_le hz4 hb4.size
  clear k0 k1 f0 f1 hb4 G3
  obtain ⟨k0, k1, f0, f1⟩ := G4.out.two
  go_wp2_with fail
  obtain ⟨u, hu⟩ : ∃ u : Nat, w4.heap.size = u := ⟨_, rfl⟩
  obtain ⟨X, hX⟩ : ∃ X : World, w4.alloc (Obj.cells #[.slice (some ⟨b, off, none⟩) zs.length c, .int .i64 k] 61) = X := ⟨_, rfl⟩
  have D : Du w X u 61 (.slice (some ⟨b, off, none⟩) zs.length c) (.int .i64 k) (.slice (some ⟨b, off, none⟩) zs.length c) (.int .i64 k) := by rw [← hX, ← hu]; exact ⟨G4.out.alloc _, Blk.new _ _ _, Nat.lt_trans hz5 (by simp), hbw4.alloc hbw4.size _⟩
  rw [hX]
  clear hX k0 k1 f0 f1
  obtain ⟨k0, k1, l0, l1⟩ := D.cells
  have D0 := Lib.hid D
  clear D
  try rw [hu]
  go_region_held3 (fun W => W.cell? ⟨w.heap.size, 0, none⟩ = some (.slice (some ⟨b, off, none⟩) zs.length c) ∧ W.cell? ⟨w.heap.size, 1, none⟩ = some (.int .i64 k) ∧ W.cell? ⟨u, 0, none⟩ = some (.slice (some ⟨b, off, none⟩) zs.length c) ∧ W.cell? ⟨u, 1, none⟩ = some (.int .i64 k))
    (go_keep)
    (first
      | (go_at_call 36; refine (HG.out _).mono ?_; rintro e y1 ⟨rfl, h1⟩; have D1 := Lib.hid ((D0.out.draw _).next h1); clear k0 k1 l0 l1; obtain ⟨k0, k1, l0, l1⟩ := D1.out.cells)
      | (go_at_call 32; refine (HL.out _).mono ?_; rintro e y2 ⟨rfl, h2⟩; have D2 := Lib.hid (D1.out.next h2); clear k0 k1 l0 l1; obtain ⟨k0, k1, l0, l1⟩ := D2.out.cells)
      | (go_at_call 33; refine (same_any (some ⟨b, off, none⟩) (some ⟨b, off, none⟩) c c k zs _ (R.out.kept D2.out.2.2.2) (R.out.kept D2.out.2.2.2) (by omega)).mono ?_; rintro e y3 ⟨rfl, h3⟩; have D3 := Lib.hid (D2.out.next h3); clear k0 k1 l0 l1; obtain ⟨k0, k1, l0, l1⟩ := D3.out.cells)
      | (go_at_call 37; refine (walive_any _).mono ?_; rintro e y4 ⟨rfl, h4⟩; have D4 := Lib.hid (D3.out.next h4); clear k0 k1 l0 l1; obtain ⟨k0, k1, l0, l1⟩ := D4.out.cells))
  go_wp2_with fail
  go_ret
  exact ⟨rfl, D4.out.2.2.2⟩
set_option maxRecDepth 100000 in
set_option maxHeartbeats 2000000 in
theorem walk_some_none (b off c k : Nat) (zs : List Int) (v : Int) (w : World) (hr : RdI w .u32 (some ⟨b, off, none⟩) zs) (hl : zs.length ≤ 1000) (hlc : zs.length ≤ c) (hc' : c ≤ 9223372036854775807) (hk : k < zs.length) (hc : w.cell? ⟨b, off + k, none⟩ = some (.int .u32 v))  :
    Calls Try.prog 7 #[.agg #[.slice (some ⟨b, off, none⟩) zs.length c, .int .i64 k], .int .i64 0] w fun e w' => e = .returned (.bool true) ∧ Below w.heap.size w w' := by
  have R := Lib.hid hr
  have hlf := fun W => lleft_any (some ⟨b, off, none⟩) zs.length c k W (by omega) (by omega) (by omega)
  have hlg := fun W => left_any (some ⟨b, off, none⟩) zs.length c k W (by omega) (by omega) (by omega)
  rw [lf_in (by omega)] at hlf hlg
  have HL := Lib.hid hlf
  have HG := Lib.hid hlg
  have C := Lib.hid hc
  clear hr hlf hlg hc
  have hz1 : (((zs.length : Int) - k) == 0) = false := by rw [beq_eq_false_iff_ne]; omega
  go_enter Try.func7, Try.ntmps7
  go_wp2_with fail
  refine (next_some b off zs.length c k v _ (by omega) hk ((((Below.refl _ _).alloc (Nat.le_refl _) _).cell (lt_of_cell C.out)).trans C.out)).mono ?_
  rintro e w1 ⟨rfl, hb1⟩
  obtain ⟨g1, hz, hb⟩ := one_blk hb1
  clear hb1
  obtain ⟨k0, k1, f0, f1⟩ := g1.two
  have G := Lib.hid g1
  clear g1
  go_wp2_with fail
  refine (HL.out _).mono ?_
  rintro e w2 ⟨rfl, hb2⟩
  obtain ⟨t1, hz2, hb3⟩ := one_blk hb2
  clear hb2
  have s1 := G.out.next hb3
  clear k0 k1 f0 f1
  obtain ⟨k0, k1, f0, f1⟩ := s1.two
  obtain ⟨l0, l1, e0, e1⟩ := t1.two
  have G2 := Lib.hid (And.intro s1 t1)
  have hbw2 : Below w.heap.size w w2 := hb.trans (hb3.mono hb.size)
  have hz3 : w.heap.size < w2.heap.size := by omega
  clear s1 t1 hb hb3
  have hcw : w2.cell? ⟨b, off + k, none⟩ = some (.int .u32 v) := (hbw2.cell (lt_of_cell C.out)).trans C.out
  have hx : IntKind.i64.wrap ((k : Int) + 1) = (k : Int) + 1 := IntWalk.i64_in _ (by omega)
  go_wp2_with fail
  try go_quiet ((go_at_call 34; exact equal_u32 (some ⟨b, off, none⟩) (some ⟨b, off, none⟩) c c zs _ (rdI_drewN (R.out.kept hbw2) _) (rdI_drewN (R.out.kept hbw2) _) (by omega)))
  try (refine (equal_u32 (some ⟨b, off, none⟩) (some ⟨b, off, none⟩) c c zs _ (R.out.kept hbw2) (R.out.kept hbw2) (by omega)).mono ?_; rintro e w3 ⟨rfl, q, rfl⟩)
  clear hx hcw
  obtain ⟨w3, hw3⟩ : ∃ X : World, w2 = X := ⟨_, rfl⟩
  subst hw3
  have hbw3 := hbw2
  have G3 := Lib.hid G2.out.1
  have hz4 := hz3
  go_wp2_with fail
  refine (many_none (some ⟨b, off, none⟩) zs.length c k 0 0 _ (by omega) (by omega) (by omega) (.inr (.inl ⟨rfl, rfl⟩))).mono ?_
  rintro e w4 ⟨rfl, hb4⟩
  have G4 : Hid (Blk w4 w.heap.size 61 #[.slice (some ⟨b, off, none⟩) zs.length c, .int .i64 k]) := by first | exact G3.out.next hb4 | exact (G3.out.draw _).next hb4
  have hbw4 : Below w.heap.size w w4 := by first | exact hbw3.trans (hb4.mono (by omega)) | exact (below_drewN hbw3 _).trans (hb4.mono (Nat.le_of_lt hz4))
  have hz5 : w.heap.size < w4.heap.size := Nat.lt_of_lt_of_le hz4 hb4.size
  clear k0 k1 f0 f1 hb4 G3
  obtain ⟨k0, k1, f0, f1⟩ := G4.out.two
  go_wp2_with fail
  refine (HL.out _).mono ?_
  rintro e w5 ⟨rfl, hb5⟩
  obtain ⟨t5, hz6, hb6⟩ := one_blk hb5
  have s5 := G4.out.next hb6
  have hbw5 : Below w.heap.size w w5 := hbw4.trans (hb6.mono hbw4.size)
  clear hb5 hb6 k0 k1 f0 f1
  obtain ⟨k0, k1, f0, f1⟩ := s5.two
  obtain ⟨j0, j1, i0, i1⟩ := t5.two
  go_wp2_with fail
  clear j0 j1 i0 i1
  obtain ⟨u, hu⟩ : ∃ u : Nat, w4.heap.size = u := ⟨_, rfl⟩
  obtain ⟨X, hX⟩ : ∃ X : World, w5 = X := ⟨_, rfl⟩
  have D : Du w X u 61 (.slice (some ⟨b, off, none⟩) zs.length c) (.int .i64 k) (.slice (some ⟨b, off, none⟩) zs.length c) (.int .i64 k) := by rw [← hX, ← hu]; exact ⟨s5, t5, Nat.lt_trans hz5 hz6, hbw5⟩
  rw [hX]
  clear hX k0 k1 f0 f1
  obtain ⟨k0, k1, l0, l1⟩ := D.cells
  have D0 := Lib.hid D
  clear D
  try rw [hu]
  go_region_held3 (fun W => W.cell? ⟨w.heap.size, 0, none⟩ = some (.slice (some ⟨b, off, none⟩) zs.length c) ∧ W.cell? ⟨w.heap.size, 1, none⟩ = some (.int .i64 k) ∧ W.cell? ⟨u, 0, none⟩ = some (.slice (some ⟨b, off, none⟩) zs.length c) ∧ W.cell? ⟨u, 1, none⟩ = some (.int .i64 k))
    (go_keep)
    (first
      | (go_at_call 36; refine (HG.out _).mono ?_; rintro e y1 ⟨rfl, h1⟩; have D1 := Lib.hid ((D0.out.draw _).next h1); clear k0 k1 l0 l1; obtain ⟨k0, k1, l0, l1⟩ := D1.out.cells)
      | (go_at_call 32; refine (HL.out _).mono ?_; rintro e y2 ⟨rfl, h2⟩; have D2 := Lib.hid (D1.out.next h2); clear k0 k1 l0 l1; obtain ⟨k0, k1, l0, l1⟩ := D2.out.cells)
      | (go_at_call 33; refine (same_any (some ⟨b, off, none⟩) (some ⟨b, off, none⟩) c c k zs _ (R.out.kept D2.out.2.2.2) (R.out.kept D2.out.2.2.2) (by omega)).mono ?_; rintro e y3 ⟨rfl, h3⟩; have D3 := Lib.hid (D2.out.next h3); clear k0 k1 l0 l1; obtain ⟨k0, k1, l0, l1⟩ := D3.out.cells)
      | (go_at_call 37; refine (walive_any _).mono ?_; rintro e y4 ⟨rfl, h4⟩; have D4 := Lib.hid (D3.out.next h4); clear k0 k1 l0 l1; obtain ⟨k0, k1, l0, l1⟩ := D4.out.cells))
  go_wp2_with fail
  go_ret
  exact ⟨rfl, D4.out.2.2.2⟩
set_option maxRecDepth 100000 in
set_option maxHeartbeats 2000000 in
theorem walk_some_far (b off c k : Nat) (zs : List Int) (v : Int) (w : World) (hr : RdI w .u32 (some ⟨b, off, none⟩) zs) (hl : zs.length ≤ 1000) (hlc : zs.length ≤ c) (hc' : c ≤ 9223372036854775807) (hk : k < zs.length) (hc : w.cell? ⟨b, off + k, none⟩ = some (.int .u32 v)) (m : Int) (hm : 0 < m) (hm2 : (zs.length : Int) - k < m) :
    Calls Try.prog 7 #[.agg #[.slice (some ⟨b, off, none⟩) zs.length c, .int .i64 k], .int .i64 m] w fun e w' => e = .returned (.bool true) ∧ Below w.heap.size w w' := by
  have R := Lib.hid hr
  have hlf := fun W => lleft_any (some ⟨b, off, none⟩) zs.length c k W (by omega) (by omega) (by omega)
  have hlg := fun W => left_any (some ⟨b, off, none⟩) zs.length c k W (by omega) (by omega) (by omega)
  rw [lf_in (by omega)] at hlf hlg
  have HL := Lib.hid hlf
  have HG := Lib.hid hlg
  have C := Lib.hid hc
  clear hr hlf hlg hc
  have hz1 : (((zs.length : Int) - k) == 0) = false := by rw [beq_eq_false_iff_ne]; omega
  go_enter Try.func7, Try.ntmps7
  go_wp2_with fail
  refine (next_some b off zs.length c k v _ (by omega) hk ((((Below.refl _ _).alloc (Nat.le_refl _) _).cell (lt_of_cell C.out)).trans C.out)).mono ?_
  rintro e w1 ⟨rfl, hb1⟩
  obtain ⟨g1, hz, hb⟩ := one_blk hb1
  clear hb1
  obtain ⟨k0, k1, f0, f1⟩ := g1.two
  have G := Lib.hid g1
  clear g1
  go_wp2_with fail
  refine (HL.out _).mono ?_
  rintro e w2 ⟨rfl, hb2⟩
  obtain ⟨t1, hz2, hb3⟩ := one_blk hb2
  clear hb2
  have s1 := G.out.next hb3
  clear k0 k1 f0 f1
  obtain ⟨k0, k1, f0, f1⟩ := s1.two
  obtain ⟨l0, l1, e0, e1⟩ := t1.two
  have G2 := Lib.hid (And.intro s1 t1)
  have hbw2 : Below w.heap.size w w2 := hb.trans (hb3.mono hb.size)
  have hz3 : w.heap.size < w2.heap.size := by omega
  clear s1 t1 hb hb3
  have hcw : w2.cell? ⟨b, off + k, none⟩ = some (.int .u32 v) := (hbw2.cell (lt_of_cell C.out)).trans C.out
  have hx : IntKind.i64.wrap ((k : Int) + 1) = (k : Int) + 1 := IntWalk.i64_in _ (by omega)
  go_wp2_with fail
  try go_quiet ((go_at_call 34; exact equal_u32 (some ⟨b, off, none⟩) (some ⟨b, off, none⟩) c c zs _ (rdI_drewN (R.out.kept hbw2) _) (rdI_drewN (R.out.kept hbw2) _) (by omega)))
  try (refine (equal_u32 (some ⟨b, off, none⟩) (some ⟨b, off, none⟩) c c zs _ (R.out.kept hbw2) (R.out.kept hbw2) (by omega)).mono ?_; rintro e w3 ⟨rfl, q, rfl⟩)
  clear hx hcw
  obtain ⟨w3, hw3⟩ : ∃ X : World, w2 = X := ⟨_, rfl⟩
  subst hw3
  have hbw3 := hbw2
  have G3 := Lib.hid G2.out.1
  have hz4 := hz3
  go_wp2_with fail
  refine (many_none (some ⟨b, off, none⟩) zs.length c k m 50 _ (by omega) (by omega) (by omega) (.inr (.inr ⟨hm, by rw [lf_in (by omega)]; exact hm2, rfl⟩))).mono ?_
  rintro e w4 ⟨rfl, hb4⟩
  have G4 : Hid (Blk w4 w.heap.size 61 #[.slice (some ⟨b, off, none⟩) zs.length c, .int .i64 k]) := by first | exact G3.out.next hb4 | exact (G3.out.draw _).next hb4
  have hbw4 : Below w.heap.size w w4 := by first | exact hbw3.trans (hb4.mono (by omega)) | exact (below_drewN hbw3 _).trans (hb4.mono (Nat.le_of_lt hz4))
  have hz5 : w.heap.size < w4.heap.size := Nat.lt_of_lt_of_le hz4 hb4.size
  clear k0 k1 f0 f1 hb4 G3
  obtain ⟨k0, k1, f0, f1⟩ := G4.out.two
  go_wp2_with fail
  refine (HL.out _).mono ?_
  rintro e w5 ⟨rfl, hb5⟩
  obtain ⟨t5, hz6, hb6⟩ := one_blk hb5
  have s5 := G4.out.next hb6
  have hbw5 : Below w.heap.size w w5 := hbw4.trans (hb6.mono hbw4.size)
  clear hb5 hb6 k0 k1 f0 f1
  obtain ⟨k0, k1, f0, f1⟩ := s5.two
  obtain ⟨j0, j1, i0, i1⟩ := t5.two
  go_wp2_with fail
  clear j0 j1 i0 i1
  obtain ⟨u, hu⟩ : ∃ u : Nat, w4.heap.size = u := ⟨_, rfl⟩
  obtain ⟨X, hX⟩ : ∃ X : World, w5 = X := ⟨_, rfl⟩
  have D : Du w X u 61 (.slice (some ⟨b, off, none⟩) zs.length c) (.int .i64 k) (.slice (some ⟨b, off, none⟩) zs.length c) (.int .i64 k) := by rw [← hX, ← hu]; exact ⟨s5, t5, Nat.lt_trans hz5 hz6, hbw5⟩
  rw [hX]
  clear hX k0 k1 f0 f1
  obtain ⟨k0, k1, l0, l1⟩ := D.cells
  have D0 := Lib.hid D
  clear D
  try rw [hu]
  go_region_held3 (fun W => W.cell? ⟨w.heap.size, 0, none⟩ = some (.slice (some ⟨b, off, none⟩) zs.length c) ∧ W.cell? ⟨w.heap.size, 1, none⟩ = some (.int .i64 k) ∧ W.cell? ⟨u, 0, none⟩ = some (.slice (some ⟨b, off, none⟩) zs.length c) ∧ W.cell? ⟨u, 1, none⟩ = some (.int .i64 k))
    (go_keep)
    (first
      | (go_at_call 36; refine (HG.out _).mono ?_; rintro e y1 ⟨rfl, h1⟩; have D1 := Lib.hid ((D0.out.draw _).next h1); clear k0 k1 l0 l1; obtain ⟨k0, k1, l0, l1⟩ := D1.out.cells)
      | (go_at_call 32; refine (HL.out _).mono ?_; rintro e y2 ⟨rfl, h2⟩; have D2 := Lib.hid (D1.out.next h2); clear k0 k1 l0 l1; obtain ⟨k0, k1, l0, l1⟩ := D2.out.cells)
      | (go_at_call 33; refine (same_any (some ⟨b, off, none⟩) (some ⟨b, off, none⟩) c c k zs _ (R.out.kept D2.out.2.2.2) (R.out.kept D2.out.2.2.2) (by omega)).mono ?_; rintro e y3 ⟨rfl, h3⟩; have D3 := Lib.hid (D2.out.next h3); clear k0 k1 l0 l1; obtain ⟨k0, k1, l0, l1⟩ := D3.out.cells)
      | (go_at_call 37; refine (walive_any _).mono ?_; rintro e y4 ⟨rfl, h4⟩; have D4 := Lib.hid (D3.out.next h4); clear k0 k1 l0 l1; obtain ⟨k0, k1, l0, l1⟩ := D4.out.cells))
  go_wp2_with fail
  go_ret
  exact ⟨rfl, D4.out.2.2.2⟩

theorem equal_sub (A B : Option Addr) (c d m : Nat) (ys : List Int) (w : World) (ha : RdI w .u32 A ys) (hb : RdI w .u32 B ys) (h : ys.length = m) (hl : m ≤ 9223372036854775807) :
    Calls Try.prog 34 #[.slice A m c, .slice B m d] w fun e w' => e = .returned (.bool true) ∧ ∃ k, w' = w.drewN k := by
  subst h; exact equal_u32 A B c d ys w ha hb hl
set_option maxRecDepth 100000 in
set_option maxHeartbeats 2000000 in
theorem walk_some_many (b off c k : Nat) (zs : List Int) (v : Int) (w : World) (hr : RdI w .u32 (some ⟨b, off, none⟩) zs) (hl : zs.length ≤ 1000) (hlc : zs.length ≤ c) (hc' : c ≤ 9223372036854775807) (hk : k < zs.length) (hc : w.cell? ⟨b, off + k, none⟩ = some (.int .u32 v)) (m : Nat) (hm : 0 < m) (hkm : k + m ≤ zs.length) :
    Calls Try.prog 7 #[.agg #[.slice (some ⟨b, off, none⟩) zs.length c, .int .i64 k], .int .i64 m] w fun e w' => e = .returned (.bool true) ∧ Below w.heap.size w w' := by
  have R := Lib.hid hr
  have hlf := fun W => lleft_any (some ⟨b, off, none⟩) zs.length c k W (by omega) (by omega) (by omega)
  have hlg := fun W => left_any (some ⟨b, off, none⟩) zs.length c k W (by omega) (by omega) (by omega)
  rw [lf_in (by omega)] at hlf hlg
  have HL := Lib.hid hlf
  have HG := Lib.hid hlg
  have C := Lib.hid hc
  clear hr hlf hlg hc
  have hz1 : (((zs.length : Int) - k) == 0) = false := by rw [beq_eq_false_iff_ne]; omega
  go_enter Try.func7, Try.ntmps7
  go_wp2_with fail
  refine (next_some b off zs.length c k v _ (by omega) hk ((((Below.refl _ _).alloc (Nat.le_refl _) _).cell (lt_of_cell C.out)).trans C.out)).mono ?_
  rintro e w1 ⟨rfl, hb1⟩
  obtain ⟨g1, hz, hb⟩ := one_blk hb1
  clear hb1
  obtain ⟨k0, k1, f0, f1⟩ := g1.two
  have G := Lib.hid g1
  clear g1
  go_wp2_with fail
  refine (HL.out _).mono ?_
  rintro e w2 ⟨rfl, hb2⟩
  obtain ⟨t1, hz2, hb3⟩ := one_blk hb2
  clear hb2
  have s1 := G.out.next hb3
  clear k0 k1 f0 f1
  obtain ⟨k0, k1, f0, f1⟩ := s1.two
  obtain ⟨l0, l1, e0, e1⟩ := t1.two
  have G2 := Lib.hid (And.intro s1 t1)
  have hbw2 : Below w.heap.size w w2 := hb.trans (hb3.mono hb.size)
  have hz3 : w.heap.size < w2.heap.size := by omega
  clear s1 t1 hb hb3
  have hcw : w2.cell? ⟨b, off + k, none⟩ = some (.int .u32 v) := (hbw2.cell (lt_of_cell C.out)).trans C.out
  have hx : IntKind.i64.wrap ((k : Int) + 1) = (k : Int) + 1 := IntWalk.i64_in _ (by omega)
  go_wp2_with fail
  try go_quiet ((go_at_call 34; exact equal_u32 (some ⟨b, off, none⟩) (some ⟨b, off, none⟩) c c zs _ (rdI_drewN (R.out.kept hbw2) _) (rdI_drewN (R.out.kept hbw2) _) (by omega)))
  try (refine (equal_u32 (some ⟨b, off, none⟩) (some ⟨b, off, none⟩) c c zs _ (R.out.kept hbw2) (R.out.kept hbw2) (by omega)).mono ?_; rintro e w3 ⟨rfl, q, rfl⟩)
  clear hx hcw
  obtain ⟨w3, hw3⟩ : ∃ X : World, w2 = X := ⟨_, rfl⟩
  subst hw3
  have hbw3 := hbw2
  have G3 := Lib.hid G2.out.1
  have hz4 := hz3
  have hm0 : ((m : Int) == 0) = false := by rw [beq_eq_false_iff_ne]; omega
  go_wp2_with fail
  refine (many_some b off c k m zs _ (by first | exact R.out.kept hbw3 | exact rdI_drewN (R.out.kept hbw3) _) hl hlc hc' hm hkm).mono ?_
  rintro e w4 ⟨g, cc, rfl, hR, hb4⟩
  have L1 := Lib.hid (sub_len zs k m hkm)
  rw [L1.out]
  have G4 : Hid (Blk w4 w.heap.size 61 #[.slice (some ⟨b, off, none⟩) zs.length c, .int .i64 k]) := by first | exact G3.out.next hb4 | exact (G3.out.draw _).next hb4
  have hbw4 : Below w.heap.size w w4 := by first | exact hbw3.trans (hb4.mono (by omega)) | exact (below_drewN hbw3 _).trans (hb4.mono (Nat.le_of_lt hz4))
  have hz5 : w.heap.size < w4.heap.size := Nat.lt_of_lt_of_le hz4 hb4.size
  have RL := Lib.hid hR
  clear k0 k1 f0 f1 hb4 G3 hR
  obtain ⟨k0, k1, f0, f1⟩ := G4.out.two
  go_wp2_with fail
  refine (HL.out _).mono ?_
  rintro e w5 ⟨rfl, hb5⟩
  obtain ⟨t5, hz6, hb6⟩ := one_blk hb5
  have s5 := G4.out.next hb6
  have hbw5 : Below w.heap.size w w5 := hbw4.trans (hb6.mono hbw4.size)
  have RL5 := Lib.hid (RL.out.kept hb6)
  clear hb5 hb6 k0 k1 f0 f1
  obtain ⟨k0, k1, f0, f1⟩ := s5.two
  obtain ⟨j0, j1, i0, i1⟩ := t5.two
  go_wp2_with fail
  clear j0 j1 i0 i1
  obtain ⟨u, hu⟩ : ∃ u : Nat, w4.heap.size = u := ⟨_, rfl⟩
  have D : Du w w5 u 61 (.slice (some ⟨b, off, none⟩) zs.length c) (.int .i64 k) (.slice (some ⟨b, off, none⟩) zs.length c) (.int .i64 (k + m)) := by rw [← hu]; exact ⟨s5, t5, Nat.lt_trans hz5 hz6, hbw5⟩
  clear k0 k1 f0 f1
  obtain ⟨k0, k1, l0, l1⟩ := D.cells
  have D0 := Lib.hid D
  clear D
  try rw [hu]
  have hw1 : IntKind.i64.wrap ((k : Int) + m) = (k : Int) + m := IntWalk.i64_in _ (by omega)
  have hw2 : 0 ≤ (k : Int) + m := by omega
  have hw3 : ((k : Int) + m).toNat = k + m := by omega
  have hck : ¬ c = k := by omega
  have s1 : 0 ≤ (k : Int) := by omega
  have s2 : (k : Int) ≤ (k : Int) + m := by omega
  have s3 : (k : Int) + m ≤ (c : Int) := by omega
  have hkm' : k + m - k = m := by omega
  go_region_held3 (fun W => W.cell? ⟨w.heap.size, 0, none⟩ = some (.slice (some ⟨b, off, none⟩) zs.length c) ∧ W.cell? ⟨w.heap.size, 1, none⟩ = some (.int .i64 k) ∧ W.cell? ⟨u, 0, none⟩ = some (.slice (some ⟨b, off, none⟩) zs.length c) ∧ W.cell? ⟨u, 1, none⟩ = some (.int .i64 (k + m)))
    (go_keep)
    (first
      | (go_at_call 36; refine (HG.out _).mono ?_; rintro e y1 ⟨rfl, h1⟩; have D1 := Lib.hid ((D0.out.draw _).next h1); have RL1 := Lib.hid ((rdI_drewN RL5.out _).kept h1); clear k0 k1 l0 l1; obtain ⟨k0, k1, l0, l1⟩ := D1.out.cells)
      | (go_at_call 32; refine (HL.out _).mono ?_; rintro e y2 ⟨rfl, h2⟩; have D2 := Lib.hid (D1.out.next h2); have RL2 := Lib.hid (RL1.out.kept h2); clear k0 k1 l0 l1; obtain ⟨k0, k1, l0, l1⟩ := D2.out.cells)
      | (go_at_call_of 34 (Value.slice (some ⟨g, 0, none⟩) m cc); refine (equal_sub (some ⟨g, 0, none⟩) (some ⟨b, off + k, none⟩) cc (c - k) m (sub zs k m) _ RL2.out (sub_row (R.out.kept D2.out.2.2.2) hkm) L1.out (by omega)).mono ?_; rintro e y3 ⟨rfl, q3, rfl⟩)
      | (go_at_call_of 34 (Value.slice (some ⟨b, off, none⟩) zs.length c); refine (equal_u32 (some ⟨b, off, none⟩) (some ⟨b, off, none⟩) c c zs _ (rdI_drewN (R.out.kept D2.out.2.2.2) _) (rdI_drewN (R.out.kept D2.out.2.2.2) _) (by omega)).mono ?_; rintro e y4 ⟨rfl, q4, rfl⟩)
      | (go_at_call 37; refine (walive_any _).mono ?_; rintro e y5 ⟨rfl, h5⟩; have D5 := Lib.hid ((D2.out.draw _).next h5); clear k0 k1 l0 l1; obtain ⟨k0, k1, l0, l1⟩ := D5.out.cells))
  go_wp2_with fail
  go_ret
  exact ⟨rfl, D5.out.2.2.2⟩
set_option maxRecDepth 100000 in
set_option maxHeartbeats 1000000 in
theorem walk_big (A : Option Addr) (c n : Nat) (a d : Int) (w : World) (hl : 1000 < n) (hc : n ≤ 9223372036854775807) :
    Calls Try.prog 7 #[.agg #[.slice A n c, .int .i64 a], .int .i64 d] w fun e w' => e = .returned (.bool true) ∧ Below w.heap.size w w' := by
  go_enter Try.func7, Try.ntmps7
  go_wp2_with fail
  go_ret
  exact ⟨rfl, (Below.refl _ _).alloc (Nat.le_refl _) _⟩
theorem walk {A : Option Addr} {c : Nat} {zs : List Int} {a m : Int} (hl : zs.length ≤ c) (hm : c ≤ maxLen) {w : World} (hr : RdI w .u32 A zs) (wa : (Lit.int .i64 a).wf = true) (wm : (Lit.int .i64 m).wf = true) :
    Calls Try.prog 7 #[.agg #[.slice A zs.length c, .int .i64 a], .int .i64 m] w fun e w' => e = .returned (.bool true) ∧ Below w.heap.size w w' := by
  obtain ⟨a1, a2⟩ := bounds_i64 wa
  unfold maxLen at hm
  by_cases h : zs.length ≤ 1000
  · by_cases h1 : 0 ≤ a ∧ a < zs.length
    · obtain ⟨k, rfl⟩ := Int.eq_ofNat_of_zero_le h1.1
      obtain ⟨b, off, rfl, _, hc⟩ := rdI_row hr (by omega)
      by_cases m0 : m < 0
      · exact walk_some_neg b off c k zs _ w hr h hl (by omega) (by omega) (hc k (by omega)) m m0
      · by_cases m1 : m = 0
        · subst m1; exact walk_some_none b off c k zs _ w hr h hl (by omega) (by omega) (hc k (by omega))
        · by_cases m2 : (zs.length : Int) - k < m
          · exact walk_some_far b off c k zs _ w hr h hl (by omega) (by omega) (hc k (by omega)) m (by omega) m2
          · obtain ⟨n, rfl⟩ := Int.eq_ofNat_of_zero_le (show 0 ≤ m by omega)
            exact walk_some_many b off c k zs _ w hr h hl (by omega) (by omega) (hc k (by omega)) n (by omega) (by omega)
    · have hlf : lf zs.length a = 0 := by unfold lf; split <;> omega
      by_cases m0 : m < 0
      · exact walk_dry_neg A c zs a w hr h a1 a2 hlf m m0
      · by_cases m1 : m = 0
        · subst m1; exact walk_dry_none A c zs a w hr h a1 a2 hlf
        · exact walk_dry_far A c zs a w hr h a1 a2 hlf m (by omega)
  · exact walk_big A c zs.length a m w (by omega) (by omega)

end Go.Proofs.Ytbbcohgkiejhjaa.wordsDraw
