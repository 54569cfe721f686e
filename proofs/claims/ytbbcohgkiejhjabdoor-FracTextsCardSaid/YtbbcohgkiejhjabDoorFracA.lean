/- Contracts of frac.Of, Right, Least and of the document's. -/
import Derived.Test.YtbbcohgkiejhjabDoorRows
import Derived.Test.YtbbcohgkiejhjabDoorNumsMath
import Derived.Test.YtbbcohgkiejhjabDoorNumsA
import Derived.Test.YtbbcohgkiejhjabDoorNumsE
import Derived.Test.YtbbcohgkiejhjabDoorRowKit
import Derived.WalkKit
import Derived.Lib.Hide
import Derived.WalkSpells
import Derived.WalkLawsBesides
import Derived.Laws.CopyOwn
import Derived.Deep.WholeRow
import Derived.Deep.QuietTactic
import Derived.BigQuiet
namespace Go.Proofs.YtbbcohgkiejhjabDoor
open Go.RowKit
set_option linter.unusedSimpArgs false
set_option linter.unusedVariables false
theorem bcell {W w1 : World} (hb : Below W.heap.size W w1) : (∀ b o, b < W.heap.size → w1.cell? ⟨b, o, none⟩ = W.cell? ⟨b, o, none⟩) ∧ (∀ b o, b < W.heap.size → w1.frozen? ⟨b, o, none⟩ = W.frozen? ⟨b, o, none⟩) :=
  ⟨fun b o h => hb.cell (p := ⟨b, o, none⟩) h, fun b o h => hb.frozen (p := ⟨b, o, none⟩) h⟩
/-- a quotient as the program keeps it -/
def frV (a b c : Int) : Value := .agg #[.int .i64 a, .int .i64 b, .int .i64 c]
set_option maxHeartbeats 400000 in
theorem of_neg (n m : Int) (w : World) (h : n < 0 ∨ m < 0) :
    Calls Tryd.prog 8 #[.int .i64 n, .int .i64 m] w fun e w' => e = .returned (.tuple #[.agg #[.int .i64 0, .int .i64 0, .int .i64 0], .int .i64 22]) ∧ Below w.heap.size w w' := by
  by_cases h1 : n < 0
  · go_enter Tryd.func8, Tryd.ntmps8
    go_wp2
    exact bodyPost_ret (v := .tuple #[.agg #[.int .i64 0, .int .i64 0, .int .i64 0], .int .i64 22]) (by simp [results, Tryd.results8, go_sem]) rfl ⟨rfl, (Below.refl _ _).alloc (Nat.le_refl _) _⟩
  · have h2 : m < 0 := by omega
    go_enter Tryd.func8, Tryd.ntmps8
    go_wp2
    exact bodyPost_ret (v := .tuple #[.agg #[.int .i64 0, .int .i64 0, .int .i64 0], .int .i64 22]) (by simp [results, Tryd.results8, go_sem]) rfl ⟨rfl, (Below.refl _ _).alloc (Nat.le_refl _) _⟩
set_option maxHeartbeats 400000 in
theorem of_zero (n : Int) (w : World) (h : 0 ≤ n) :
    Calls Tryd.prog 8 #[.int .i64 n, .int .i64 0] w fun e w' => e = .returned (.tuple #[.agg #[.int .i64 0, .int .i64 0, .int .i64 0], .int .i64 11]) ∧ Below w.heap.size w w' := by
  go_enter Tryd.func8, Tryd.ntmps8
  go_wp2
  exact bodyPost_ret (v := .tuple #[.agg #[.int .i64 0, .int .i64 0, .int .i64 0], .int .i64 11]) (by simp [results, Tryd.results8, go_sem]) rfl ⟨rfl, (Below.refl _ _).alloc (Nat.le_refl _) _⟩
set_option maxHeartbeats 400000 in
theorem of_ok (n m : Int) (w : World) (h : 0 ≤ n) (h' : 1 ≤ m) (h1 : n ≤ 9223372036854775807) :
    Calls Tryd.prog 8 #[.int .i64 n, .int .i64 m] w fun e w' => e = .returned (.tuple #[.agg #[.int .i64 (n / m), .int .i64 (n % m), .int .i64 m], .int .i64 0]) ∧ Below w.heap.size w w' := by
  have hz : (m == 0) = false := by simp; omega
  go_enter Tryd.func8, Tryd.ntmps8
  go_wp2
  go_region
  all_goals
    go_wp2
    exact bodyPost_ret (v := .tuple #[.agg #[.int .i64 (n / m), .int .i64 (n % m), .int .i64 m], .int .i64 0]) (by simp [results, Tryd.results8, go_sem]) rfl ⟨rfl, ((Below.refl _ _).alloc (Nat.le_refl _) _).drew⟩
set_option maxHeartbeats 400000 in
theorem right_yes (a b c : Int) (w : World) (h1 : 0 ≤ a) (h2 : 0 ≤ b) (h3 : b < c) :
    Calls Tryd.prog 9 #[.agg #[.int .i64 a, .int .i64 b, .int .i64 c]] w fun e w' => e = .returned (.bool true) ∧ Below w.heap.size w w' := by
  go_enter Tryd.func9, Tryd.ntmps9
  go_wp2
  go_ret
  exact ⟨rfl, (Below.refl _ _).alloc (Nat.le_refl _) _⟩
set_option maxHeartbeats 400000 in
theorem right_no (a b c : Int) (w : World) (h : ¬ (0 ≤ a ∧ 0 ≤ b ∧ b < c)) :
    Calls Tryd.prog 9 #[.agg #[.int .i64 a, .int .i64 b, .int .i64 c]] w fun e w' => e = .returned (.bool false) ∧ Below w.heap.size w w' := by
  by_cases h1 : 0 ≤ a
  · by_cases h2 : 0 ≤ b
    · have h3 : c ≤ b := by omega
      clear h
      go_enter Tryd.func9, Tryd.ntmps9
      go_wp2
      go_ret
      exact ⟨by simp [h3], (Below.refl _ _).alloc (Nat.le_refl _) _⟩
    · clear h
      go_enter Tryd.func9, Tryd.ntmps9
      go_wp2
      go_ret
      exact ⟨rfl, (Below.refl _ _).alloc (Nat.le_refl _) _⟩
  · clear h
    go_enter Tryd.func9, Tryd.ntmps9
    go_wp2
    go_ret
    exact ⟨rfl, (Below.refl _ _).alloc (Nat.le_refl _) _⟩
set_option maxHeartbeats 400000 in
theorem rright_yes (a b c : Int) (w : World) (h1 : 0 ≤ a) (h2 : 0 ≤ b) (h3 : b < c) :
    Calls Tryd.prog 10 #[.agg #[.int .i64 a, .int .i64 b, .int .i64 c]] w fun e w' => e = .returned (.bool true) ∧ Below w.heap.size w w' := by
  go_enter Tryd.func10, Tryd.ntmps10
  go_wp2
  go_ret
  exact ⟨rfl, (Below.refl _ _).alloc (Nat.le_refl _) _⟩
set_option maxHeartbeats 400000 in
theorem rright_no (a b c : Int) (w : World) (h : ¬ (0 ≤ a ∧ 0 ≤ b ∧ b < c)) :
    Calls Tryd.prog 10 #[.agg #[.int .i64 a, .int .i64 b, .int .i64 c]] w fun e w' => e = .returned (.bool false) ∧ Below w.heap.size w w' := by
  by_cases h1 : 0 ≤ a
  · by_cases h2 : 0 ≤ b
    · have h3 : c ≤ b := by omega
      clear h
      go_enter Tryd.func10, Tryd.ntmps10
      go_wp2
      go_ret
      exact ⟨by simp [h3], (Below.refl _ _).alloc (Nat.le_refl _) _⟩
    · clear h
      go_enter Tryd.func10, Tryd.ntmps10
      go_wp2
      go_ret
      exact ⟨rfl, (Below.refl _ _).alloc (Nat.le_refl _) _⟩
  · clear h
    go_enter Tryd.func10, Tryd.ntmps10
    go_wp2
    go_ret
    exact ⟨rfl, (Below.refl _ _).alloc (Nat.le_refl _) _⟩
/-- what is known of the two blocks behind a call -/
theorem two_blocks {w w1 : World} {c d : Array Value} {t s : TypeId} (hb : Below ((w.alloc (.cells c t)).alloc (.cells d s)).heap.size ((w.alloc (.cells c t)).alloc (.cells d s)) w1) :
    w1.heap[w.heap.size]? = some (.cells c t) ∧ w1.heap[w.heap.size + 1]? = some (.cells d s) ∧ w.heap.size + 2 ≤ w1.heap.size ∧ Below w.heap.size w w1 := by
  have h1 := hb.block w.heap.size (by simp; omega)
  have h2 := hb.block (w.heap.size + 1) (by simp)
  refine ⟨h1.trans ?_, h2.trans ?_, by have := hb.size; simp at this; omega, ?_⟩
  · rw [Below.heap_alloc _ _ _ (by simp)]; exact heap_alloc_last w _
  · have := heap_alloc_last (w.alloc (.cells c t)) (.cells d s); simpa using this
  · exact (((Below.refl _ _).alloc (Nat.le_refl _) _).alloc (by simp) _).trans (hb.mono (by simp; omega))
theorem blk_cell {w : World} {g : Nat} {cs : Array Value} {t : TypeId} (h : w.heap[g]? = some (.cells cs t)) (i : Nat) : w.cell? ⟨g, i, none⟩ = cs[i]? := cell_of_row w g i cs t (0, 0) h
theorem blk_frozen {w : World} {g : Nat} {cs : Array Value} {t : TypeId} (h : w.heap[g]? = some (.cells cs t)) (i : Nat) : w.frozen? ⟨g, i, none⟩ = false := by simp [World.frozen?, h]
set_option maxHeartbeats 400000 in
theorem least_no (a b c : Int) (w : World) (h : ¬ (0 ≤ a ∧ 0 ≤ b ∧ b < c)) :
    Calls Tryd.prog 11 #[.agg #[.int .i64 a, .int .i64 b, .int .i64 c]] w fun e w' => e = .returned (.agg #[.int .i64 a, .int .i64 b, .int .i64 c]) ∧ Below w.heap.size w w' := by
  have H := Lib.hid h
  clear h
  go_enter Tryd.func11, Tryd.ntmps11
  go_wp2_with fail
  refine (right_no _ _ _ _ H.out).mono ?_
  rintro e w1 ⟨rfl, hb1⟩
  obtain ⟨h1, h2, hz, hb⟩ := two_blocks hb1
  clear hb1
  have k0 := blk_cell h1 0
  have k1 := blk_cell h1 1
  have k2 := blk_cell h1 2
  have l0 := blk_cell h2 0
  have l1 := blk_cell h2 1
  have l2 := blk_cell h2 2
  have f0 := blk_frozen h2 0
  have f1 := blk_frozen h2 1
  have f2 := blk_frozen h2 2
  have H1 := Lib.hid h1
  have H2 := Lib.hid h2
  clear h1 h2
  simp at k0 k1 k2 l0 l1 l2
  go_wp2_with fail
  exact bodyPost_ret (v := .agg #[.int .i64 a, .int .i64 b, .int .i64 c]) (by simp [results, Tryd.results11, go_sem, *]) rfl ⟨rfl, by repeat (first | exact hb | apply Below.setCell | exact Nat.le_succ _)⟩
set_option maxHeartbeats 400000 in
theorem least_yes (a b c : Int) (w : World) (h1 : 0 ≤ a) (h2 : 0 ≤ b) (h3 : b < c) (h4 : c ≤ 9223372036854775807) :
    Calls Tryd.prog 11 #[.agg #[.int .i64 a, .int .i64 b, .int .i64 c]] w fun e w' => e = .returned (.agg #[.int .i64 a, .int .i64 (b / (Nat.gcd b.natAbs c.natAbs : Nat)), .int .i64 (c / (Nat.gcd b.natAbs c.natAbs : Nat))]) ∧ Below w.heap.size w w' := by
  have G0 : 0 < Nat.gcd b.natAbs c.natAbs := Nat.gcd_pos_of_pos_right _ (by omega)
  have G1 : Nat.gcd b.natAbs c.natAbs ≤ c.natAbs := Nat.gcd_le_right _ (by omega)
  have G2 : Nat.gcd b.natAbs c.natAbs ≤ 9223372036854775807 := by omega
  clear G1
  go_enter Tryd.func11, Tryd.ntmps11
  go_wp2_with fail
  refine (right_yes _ _ _ _ h1 h2 h3).mono ?_
  rintro e w1 ⟨rfl, hb1⟩
  obtain ⟨g1, g2, hz, hb⟩ := two_blocks hb1
  clear hb1
  have k0 := blk_cell g1 0
  have k1 := blk_cell g1 1
  have k2 := blk_cell g1 2
  have l0 := blk_cell g2 0
  have l1 := blk_cell g2 1
  have l2 := blk_cell g2 2
  have f0 := blk_frozen g2 0
  have f1 := blk_frozen g2 1
  have f2 := blk_frozen g2 2
  have H1 := Lib.hid g1
  have H2 := Lib.hid g2
  clear g1 g2
  simp at k0 k1 k2 l0 l1 l2
  go_wp2_with fail
  refine (gcd_any _ _ _ (by omega) (by omega) (by omega) (by omega)).mono ?_
  rintro e w' ⟨rfl, k, rfl⟩
  go_wp2_with fail
  go_region
  all_goals go_wp2
  all_goals
    exact bodyPost_ret (v := .agg #[.int .i64 a, .int .i64 (b / (Nat.gcd b.natAbs c.natAbs : Nat)), .int .i64 (c / (Nat.gcd b.natAbs c.natAbs : Nat))]) (by simp [results, Tryd.results11, go_sem, *]) rfl ⟨rfl, by repeat (first | exact below_drewN hb _ | exact hb.drew | exact hb | apply Below.drew | apply Below.setCell | exact Nat.le_succ _)⟩
set_option maxHeartbeats 400000 in
theorem rleast_no (a b c : Int) (w : World) (h : ¬ (0 ≤ a ∧ 0 ≤ b ∧ b < c)) :
    Calls Tryd.prog 12 #[.agg #[.int .i64 a, .int .i64 b, .int .i64 c]] w fun e w' => e = .returned (.agg #[.int .i64 a, .int .i64 b, .int .i64 c]) ∧ Below w.heap.size w w' := by
  have H := Lib.hid h
  clear h
  go_enter Tryd.func12, Tryd.ntmps12
  go_wp2_with fail
  refine (rright_no _ _ _ _ H.out).mono ?_
  rintro e w1 ⟨rfl, hb1⟩
  obtain ⟨h1, h2, hz, hb⟩ := two_blocks hb1
  clear hb1
  have k0 := blk_cell h1 0
  have k1 := blk_cell h1 1
  have k2 := blk_cell h1 2
  have l0 := blk_cell h2 0
  have l1 := blk_cell h2 1
  have l2 := blk_cell h2 2
  have f0 := blk_frozen h2 0
  have f1 := blk_frozen h2 1
  have f2 := blk_frozen h2 2
  have H1 := Lib.hid h1
  have H2 := Lib.hid h2
  clear h1 h2
  simp at k0 k1 k2 l0 l1 l2
  go_wp2_with fail
  exact bodyPost_ret (v := .agg #[.int .i64 a, .int .i64 b, .int .i64 c]) (by simp [results, Tryd.results12, go_sem, *]) rfl ⟨rfl, by repeat (first | exact hb | apply Below.setCell | exact Nat.le_succ _)⟩
set_option maxHeartbeats 400000 in
theorem rleast_yes (a b c : Int) (w : World) (h1 : 0 ≤ a) (h2 : 0 ≤ b) (h3 : b < c) (h4 : c ≤ 9223372036854775807) :
    Calls Tryd.prog 12 #[.agg #[.int .i64 a, .int .i64 b, .int .i64 c]] w fun e w' => e = .returned (.agg #[.int .i64 a, .int .i64 (b / (Nat.gcd b.natAbs c.natAbs : Nat)), .int .i64 (c / (Nat.gcd b.natAbs c.natAbs : Nat))]) ∧ Below w.heap.size w w' := by
  have G0 : 0 < Nat.gcd b.natAbs c.natAbs := Nat.gcd_pos_of_pos_right _ (by omega)
  have G1 : Nat.gcd b.natAbs c.natAbs ≤ c.natAbs := Nat.gcd_le_right _ (by omega)
  have G2 : Nat.gcd b.natAbs c.natAbs ≤ 9223372036854775807 := by omega
  clear G1
  go_enter Tryd.func12, Tryd.ntmps12
  go_wp2_with fail
  refine (rright_yes _ _ _ _ h1 h2 h3).mono ?_
  rintro e w1 ⟨rfl, hb1⟩
  obtain ⟨g1, g2, hz, hb⟩ := two_blocks hb1
  clear hb1
  have k0 := blk_cell g1 0
  have k1 := blk_cell g1 1
  have k2 := blk_cell g1 2
  have l0 := blk_cell g2 0
  have l1 := blk_cell g2 1
  have l2 := blk_cell g2 2
  have f0 := blk_frozen g2 0
  have f1 := blk_frozen g2 1
  have f2 := blk_frozen g2 2
  have H1 := Lib.hid g1
  have H2 := Lib.hid g2
  clear g1 g2
  simp at k0 k1 k2 l0 l1 l2
  go_wp2_with fail
  have eb : b = (b.natAbs : Nat) := by omega
  have ec : c = (c.natAbs : Nat) := by omega
  have hg := fun W => rgcd_all b.natAbs c.natAbs W (by omega) (by omega)
  rw [← eb, ← ec] at hg
  have HG := Lib.hid hg
  clear hg eb ec
  refine (HG.out _).mono ?_
  rintro e w' ⟨rfl, rfl⟩
  go_wp2_with fail
  go_region
  all_goals go_wp2
  all_goals
    exact bodyPost_ret (v := .agg #[.int .i64 a, .int .i64 (b / (Nat.gcd b.natAbs c.natAbs : Nat)), .int .i64 (c / (Nat.gcd b.natAbs c.natAbs : Nat))]) (by simp [results, Tryd.results12, go_sem, *]) rfl ⟨rfl, by repeat (first | exact below_drewN hb _ | exact hb.drew | exact hb | apply Below.drew | apply Below.setCell | exact Nat.le_succ _)⟩
/-- may a quotient be? -/
def rgt (a b c : Int) : Bool := decide (0 ≤ a ∧ 0 ≤ b ∧ b < c)
/-- what is left, over as little as may be -/
def lsB (a b c : Int) : Int := if rgt a b c then b / (Nat.gcd b.natAbs c.natAbs : Nat) else b
def lsC (a b c : Int) : Int := if rgt a b c then c / (Nat.gcd b.natAbs c.natAbs : Nat) else c
theorem rgt_yes {a b c : Int} (h : 0 ≤ a ∧ 0 ≤ b ∧ b < c) : rgt a b c = true := decide_eq_true h
theorem rgt_no {a b c : Int} (h : ¬ (0 ≤ a ∧ 0 ≤ b ∧ b < c)) : rgt a b c = false := decide_eq_false h
theorem right_any (a b c : Int) (w : World) :
    Calls Tryd.prog 9 #[.agg #[.int .i64 a, .int .i64 b, .int .i64 c]] w fun e w' => e = .returned (.bool (rgt a b c)) ∧ Below w.heap.size w w' := by
  by_cases h : 0 ≤ a ∧ 0 ≤ b ∧ b < c
  · rw [rgt_yes h]; exact right_yes a b c w h.1 h.2.1 h.2.2
  · rw [rgt_no h]; exact right_no a b c w h
theorem rright_any (a b c : Int) (w : World) :
    Calls Tryd.prog 10 #[.agg #[.int .i64 a, .int .i64 b, .int .i64 c]] w fun e w' => e = .returned (.bool (rgt a b c)) ∧ Below w.heap.size w w' := by
  by_cases h : 0 ≤ a ∧ 0 ≤ b ∧ b < c
  · rw [rgt_yes h]; exact rright_yes a b c w h.1 h.2.1 h.2.2
  · rw [rgt_no h]; exact rright_no a b c w h
theorem least_any (a b c : Int) (w : World) (hc : c ≤ 9223372036854775807) :
    Calls Tryd.prog 11 #[.agg #[.int .i64 a, .int .i64 b, .int .i64 c]] w fun e w' => e = .returned (.agg #[.int .i64 a, .int .i64 (lsB a b c), .int .i64 (lsC a b c)]) ∧ Below w.heap.size w w' := by
  unfold lsB lsC
  by_cases h : 0 ≤ a ∧ 0 ≤ b ∧ b < c
  · rw [rgt_yes h]; exact least_yes a b c w h.1 h.2.1 h.2.2 hc
  · rw [rgt_no h]; exact least_no a b c w h
theorem rleast_any (a b c : Int) (w : World) (hc : c ≤ 9223372036854775807) :
    Calls Tryd.prog 12 #[.agg #[.int .i64 a, .int .i64 b, .int .i64 c]] w fun e w' => e = .returned (.agg #[.int .i64 a, .int .i64 (lsB a b c), .int .i64 (lsC a b c)]) ∧ Below w.heap.size w w' := by
  unfold lsB lsC
  by_cases h : 0 ≤ a ∧ 0 ≤ b ∧ b < c
  · rw [rgt_yes h]; exact rleast_yes a b c w h.1 h.2.1 h.2.2 hc
  · rw [rgt_no h]; exact rleast_no a b c w h
theorem keep3 {X Y : World} {g : Nat} {va vb vc : Value} (hb : Below X.heap.size X Y) (hlt : g < X.heap.size) (h : X.cell? ⟨g, 0, none⟩ = some va ∧ X.cell? ⟨g, 1, none⟩ = some vb ∧ X.cell? ⟨g, 2, none⟩ = some vc) :
    Y.cell? ⟨g, 0, none⟩ = some va ∧ Y.cell? ⟨g, 1, none⟩ = some vb ∧ Y.cell? ⟨g, 2, none⟩ = some vc ∧ g < Y.heap.size :=
  ⟨(hb.cell (p := ⟨g, 0, none⟩) hlt).trans h.1, (hb.cell (p := ⟨g, 1, none⟩) hlt).trans h.2.1, (hb.cell (p := ⟨g, 2, none⟩) hlt).trans h.2.2, Nat.lt_of_lt_of_le hlt hb.size⟩
end Go.Proofs.YtbbcohgkiejhjabDoor
