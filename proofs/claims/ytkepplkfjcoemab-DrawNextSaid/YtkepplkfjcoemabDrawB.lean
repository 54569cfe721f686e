/- Contracts of draw.Next. -/
import Derived.Test.YtkepplkfjcoemabRows
import Derived.Test.YtkepplkfjcoemabRowKit
import Derived.Test.YtkepplkfjcoemabSlicesEq
import Derived.Test.YtkepplkfjcoemabBlocks
import Derived.Test.YtkepplkfjcoemabWordsA
import Derived.Test.YtkepplkfjcoemabSorted
import Derived.Test.YtkepplkfjcoemabDrawA
import Derived.WalkKit
import Derived.IntWalk
import Derived.Lib.Hide
import Derived.WalkSpells
import Derived.WalkLawsBesides
import Derived.Laws.CopyOwn
import Derived.Deep.WholeRow
import Derived.Deep.RegionHeld3
import Derived.Deep.QuietTactic
import Derived.BigQuiet
namespace Go.Proofs.Ytkepplkfjcoemab
open Go.RowKit
set_option linter.unusedSimpArgs false
set_option linter.unusedVariables false
theorem rdI_drewN {w : World} {k : IntKind} {A : Option Addr} {zs : List Int} (h : RdI w k A zs) (n : Nat) : RdI (w.drewN n) k A zs := h
theorem below_of_drewN {W w1 : World} {q : Nat} (h : Below (W.drewN q).heap.size (W.drewN q) w1) : Below W.heap.size W w1 := (below_drewN (Below.refl _ _) q).trans h
set_option maxRecDepth 100000 in
set_option maxHeartbeats 1000000 in
theorem dnext_form (A : Option Addr) (n c : Nat) (a : Int) (B : Option Addr) (d : Nat) (zs : List Int) (w : World) (hr : RdI w .u64 B zs) (hl : zs.length ≤ 1000) (he : rightV zs = false) :
    Calls Try.prog 32 #[.slice B zs.length d, .agg #[.slice A n c, .int .i64 a]] w fun e w' => e = .returned (.tuple #[.int .i64 0, .agg #[.slice A n c, .int .i64 a], .int .i64 20]) ∧ Below w.heap.size w w' := by
  have HR := Lib.hid (fun W (h : RdI W .u64 B zs) => by have := right_any B d zs W h hl; rw [he] at this; exact this)
  have HZ := Lib.hid hr
  clear hr he
  go_enter Try.func32, Try.ntmps32
  go_wp2_with fail
  refine (HR.out _ (HZ.out.kept (((Below.refl _ _).alloc (Nat.le_refl _) _).alloc (by simp) _))).mono ?_
  rintro e w' ⟨rfl, q, rfl⟩
  obtain ⟨W, hW⟩ : ∃ W : World, ((w.alloc (.cells #[Value.slice A n c, Value.int .i64 a] 46)).alloc (.cells #[Value.slice none 0 0, Value.int .i64 0] 46)).drewN q = W := ⟨_, rfl⟩
  obtain ⟨g1, g2, hzz, hb⟩ := two_blk (w := w) (w1 := W) (c := #[Value.slice A n c, Value.int .i64 a]) (d := #[Value.slice none 0 0, Value.int .i64 0]) (t := 46) (s := 46) (by rw [← hW]; exact below_drewN (Below.refl _ _) q)
  go_wp2_with fail
  try rw [hW]
  clear hW
  obtain ⟨k0, k1, f0, f1⟩ := g1.two
  obtain ⟨l0, l1, e0, e1⟩ := g2.two
  try go_wp2_with fail
  try go_region
  all_goals go_wp2_with fail
  all_goals exact bodyPost_ret (v := .tuple #[.int .i64 0, .agg #[.slice A n c, .int .i64 a], .int .i64 20]) (by simp [results, Try.results32, go_sem, *]) rfl ⟨rfl, by repeat (first | exact hb | apply below_drewN | apply Below.drew | apply Below.setCell | exact Nat.le_refl _ | exact Nat.le_succ _)⟩
set_option maxRecDepth 100000 in
set_option maxHeartbeats 1000000 in
theorem dnext_dry (A : Option Addr) (n c : Nat) (a : Int) (B : Option Addr) (d : Nat) (zs : List Int) (w : World) (hr : RdI w .u64 B zs) (hl : zs.length ≤ 1000) (he : rightV zs = true) (hn : n ≤ 9223372036854775807) (ha : -9223372036854775808 ≤ a) (ha' : a ≤ 9223372036854775807) (h : lf n a = 0) :
    Calls Try.prog 32 #[.slice B zs.length d, .agg #[.slice A n c, .int .i64 a]] w fun e w' => e = .returned (.tuple #[.int .i64 0, .agg #[.slice A n c, .int .i64 a], .int .i64 50]) ∧ Below w.heap.size w w' := by
  have HR := Lib.hid (fun W (h : RdI W .u64 B zs) => by have := right_any B d zs W h hl; rw [he] at this; exact this)
  have HZ := Lib.hid hr
  have H := Lib.hid h
  clear hr he h
  go_enter Try.func32, Try.ntmps32
  go_wp2_with fail
  refine (HR.out _ (HZ.out.kept (((Below.refl _ _).alloc (Nat.le_refl _) _).alloc (by simp) _))).mono ?_
  rintro e w' ⟨rfl, q, rfl⟩
  go_wp2_with fail
  refine (next_dry A n c a _ hn ha ha' H.out).mono ?_
  rintro e w1 ⟨rfl, hb1⟩
  obtain ⟨g1, g2, hzz, hb⟩ := two_blk (below_of_drewN hb1)
  clear hb1
  obtain ⟨X, hX⟩ : ∃ X : World, w1.alloc (.cells #[Value.slice A n c, Value.int .i64 a] 46) = X := ⟨_, rfl⟩
  have gX := g1.alloc (.cells #[Value.slice A n c, Value.int .i64 a] 46)
  have gY := g2.alloc (.cells #[Value.slice A n c, Value.int .i64 a] 46)
  have hbX : Below w.heap.size w X := by rw [← hX]; exact hb.alloc hb.size _
  go_wp2_with fail
  try rw [hX]
  rw [hX] at gX gY
  clear hX
  obtain ⟨k0, k1, f0, f1⟩ := gX.two
  obtain ⟨l0, l1, e0, e1⟩ := gY.two
  go_region
  all_goals go_wp2_with fail
  all_goals exact bodyPost_ret (v := .tuple #[.int .i64 0, .agg #[.slice A n c, .int .i64 a], .int .i64 50]) (by simp [results, Try.results32, go_sem, *]) rfl ⟨rfl, by repeat (first | exact hbX | apply Below.drew | apply Below.setCell | exact Nat.le_refl _ | exact Nat.le_succ _)⟩
set_option maxRecDepth 100000 in
set_option maxHeartbeats 1000000 in
theorem dnext_some (b off n c k : Nat) (v : Int) (B : Option Addr) (d : Nat) (zs : List Int) (m : Nat) (w : World) (hr : RdI w .u64 B zs) (hl : zs.length ≤ 1000) (he : rightV zs = true) (hn : n ≤ 9223372036854775807) (hk : k < n) (hc : w.cell? ⟨b, off + k, none⟩ = some (.int .u32 v)) (hv : 0 ≤ v) (hv' : v ≤ 4294967295) (hm : FirstAb zs v m) :
    Calls Try.prog 32 #[.slice B zs.length d, .agg #[.slice (some ⟨b, off, none⟩) n c, .int .i64 k]] w fun e w' => e = .returned (.tuple #[.int .i64 m, .agg #[.slice (some ⟨b, off, none⟩) n c, .int .i64 (k + 1)], .int .i64 0]) ∧ Below w.heap.size w w' := by
  have HR := Lib.hid (fun W (h : RdI W .u64 B zs) => by have := right_any B d zs W h hl; rw [he] at this; exact this)
  have HZ := Lib.hid hr
  have HC := Lib.hid hc
  have HA := Lib.hid (fun W (h : RdI W .u64 B zs) => dof_any B d m zs v W h hl hm hv hv')
  clear hr he hc hm
  go_enter Try.func32, Try.ntmps32
  go_wp2_with fail
  refine (HR.out _ (HZ.out.kept (((Below.refl _ _).alloc (Nat.le_refl _) _).alloc (by simp) _))).mono ?_
  rintro e w' ⟨rfl, q, rfl⟩
  go_wp2_with fail
  refine (next_some b off n c k v _ hn hk (cell_draw (((((Below.refl _ _).alloc (Nat.le_refl _) _).alloc (by simp) _).cell (lt_of_cell HC.out)).trans HC.out) q)).mono ?_
  rintro e w1 ⟨rfl, hb1⟩
  obtain ⟨g1, g2, hzz, hb⟩ := two_blk (below_of_drewN hb1)
  clear hb1
  have g3 := Blk.new w1 #[Value.slice (some ⟨b, off, none⟩) n c, Value.int .i64 (k + 1)] 46
  obtain ⟨X, hX⟩ : ∃ X : World, w1.alloc (.cells #[Value.slice (some ⟨b, off, none⟩) n c, Value.int .i64 (k + 1)] 46) = X := ⟨_, rfl⟩
  have gX := g2.alloc (.cells #[Value.slice (some ⟨b, off, none⟩) n c, Value.int .i64 (k + 1)] 46)
  have hbX : Below w.heap.size w X := by rw [← hX]; exact hb.alloc hb.size _
  go_wp2_with fail
  rw [hX] at g3 gX
  try rw [hX]
  clear hX
  obtain ⟨u, hu⟩ : ∃ u : Nat, w1.heap.size = u := ⟨_, rfl⟩
  rw [hu] at g3
  obtain ⟨k0, k1, f0, f1⟩ := g3.two
  obtain ⟨l0, l1, e0, e1⟩ := gX.two
  have hne : w.heap.size + 1 ≠ u := by omega
  have hne2 : u ≠ w.heap.size + 1 := by omega
  try rw [hu]
  have RX := Lib.hid (HZ.out.kept hbX)
  have G := Lib.hid (And.intro g3 gX)
  clear g1 g2 g3 gX hb hzz
  go_region_held3 (fun W => W.cell? ⟨u, 0, none⟩ = some (.slice (some ⟨b, off, none⟩) n c) ∧ W.cell? ⟨u, 1, none⟩ = some (.int .i64 (k + 1)))
    (go_keep)
    (first
      | (go_at_call 36; refine (HA.out _ (rdI_drewN RX.out _)).mono ?_; rintro e w2 ⟨rfl, hb2⟩; have G2 := Lib.hid (And.intro (Blk.next (G.out.1.draw _) hb2) (Blk.next (G.out.2.draw _) hb2)); clear k0 k1 f0 f1 l0 l1 e0 e1; obtain ⟨k0, k1, f0, f1⟩ := G2.out.1.two; obtain ⟨l0, l1, e0, e1⟩ := G2.out.2.two))
  have hw2 : Below w.heap.size w w2 := (below_drewN hbX 1).trans (hb2.mono (by have := hbX.size; simpa using this))
  go_wp2_with fail
  all_goals exact bodyPost_ret (v := .tuple #[.int .i64 m, .agg #[.slice (some ⟨b, off, none⟩) n c, .int .i64 (k + 1)], .int .i64 0]) (by simp [results, Try.results32, go_sem, *]) rfl ⟨rfl, by repeat (first | exact hw2 | apply below_drewN | apply Below.drew | apply Below.setCell | exact Nat.le_refl _ | exact Nat.le_succ _)⟩
end Go.Proofs.Ytkepplkfjcoemab
