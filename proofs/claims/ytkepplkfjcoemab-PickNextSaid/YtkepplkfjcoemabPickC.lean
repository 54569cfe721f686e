/- Contracts of pick.Next. -/
import Derived.Test.YtkepplkfjcoemabRows
import Derived.Test.YtkepplkfjcoemabRowKit
import Derived.Test.YtkepplkfjcoemabSlicesEq
import Derived.Test.YtkepplkfjcoemabBlocks
import Derived.Test.YtkepplkfjcoemabWordsA
import Derived.Test.YtkepplkfjcoemabPickMath
import Derived.Test.YtkepplkfjcoemabPickA
import Derived.Test.YtkepplkfjcoemabPickB
import Derived.Laws.CopyOwn
import Derived.Deep.WholeRow
import Derived.Deep.RegionHeld3
import Derived.WalkKit
import Derived.IntWalk
import Derived.Lib.Hide
import Derived.WalkSpells
import Derived.WalkLawsBesides
import Derived.Deep.QuietTactic
import Derived.BigQuiet
namespace Go.Proofs.Ytkepplkfjcoemab
open Go.RowKit
set_option linter.unusedSimpArgs false
set_option linter.unusedVariables false
theorem rdI_drewN {w : World} {k : IntKind} {A : Option Addr} {zs : List Int} (h : RdI w k A zs) (n : Nat) : RdI (w.drewN n) k A zs := h
set_option maxRecDepth 100000 in
set_option maxHeartbeats 1000000 in
theorem pnext_bad (A : Option Addr) (n c : Nat) (a : Int) (B : Option Addr) (d : Nat) (zs : List Int) (w : World) (hr : RdI w .i64 B zs) (hl : zs.length ≤ 1000) (he : totE zs ≠ 0) :
    Calls Try.prog 43 #[.agg #[.slice A n c, .int .i64 a], .slice B zs.length d] w fun e w' => e = .returned (.tuple #[.int .i64 0, .agg #[.slice A n c, .int .i64 a], .int .i64 (totE zs)]) ∧ Below w.heap.size w w' := by
  have HR := Lib.hid hr
  have hne : (totE zs != 0) = true := by rw [bne_iff_ne]; exact he
  clear hr he
  go_enter Try.func43, Try.ntmps43
  go_wp2_with fail
  refine (total_any B d zs _ (HR.out.kept (((Below.refl _ _).alloc (Nat.le_refl _) _).alloc (by simp) _)) hl).mono ?_
  rintro e w' ⟨rfl, rfl⟩
  go_wp2_with fail
  try go_region
  all_goals go_wp2_with fail
  all_goals exact bodyPost_ret (v := .tuple #[.int .i64 0, .agg #[.slice A n c, .int .i64 a], .int .i64 (totE zs)]) (by simp [results, Try.results43, go_sem, *]) rfl ⟨rfl, by repeat (first | exact (((Below.refl _ _).alloc (Nat.le_refl _) _).alloc (by simp) _) | apply Below.drew | (apply Below.setCell; simp))⟩
set_option maxRecDepth 100000 in
set_option maxHeartbeats 1000000 in
theorem pnext_dry (A : Option Addr) (n c : Nat) (a : Int) (B : Option Addr) (d : Nat) (zs : List Int) (w : World) (hr : RdI w .i64 B zs) (hl : zs.length ≤ 1000) (hM : May zs) (hn : n ≤ 9223372036854775807) (ha : -9223372036854775808 ≤ a) (ha' : a ≤ 9223372036854775807) (h : lf n a = 0) :
    Calls Try.prog 43 #[.agg #[.slice A n c, .int .i64 a], .slice B zs.length d] w fun e w' => e = .returned (.tuple #[.int .i64 0, .agg #[.slice A n c, .int .i64 a], .int .i64 50]) ∧ Below w.heap.size w w' := by
  have HR := Lib.hid hr
  obtain ⟨e1, e2⟩ := tot_ok hM.1 hM.2.1 hM.2.2
  obtain ⟨T, hT⟩ : ∃ T, ps zs zs.length = T := ⟨_, rfl⟩
  have t0 := hM.2.2
  have t1 := hM.2.1
  rw [hT] at t0 t1 e1
  have HT := Lib.hid (fun W (h : RdI W .i64 B zs) => by have := total_any B d zs W h hl; rw [e1, e2] at this; exact this)
  have H := Lib.hid h
  clear hr hM e1 e2 hT h
  go_enter Try.func43, Try.ntmps43
  go_wp2_with fail
  refine (HT.out _ (HR.out.kept (((Below.refl _ _).alloc (Nat.le_refl _) _).alloc (by simp) _))).mono ?_
  rintro e w' ⟨rfl, rfl⟩
  go_wp2_with fail
  refine (below_dry A n c a T _ hn ha ha' H.out (by omega) (by omega)).mono ?_
  rintro e w1 ⟨rfl, hb1⟩
  obtain ⟨g1, g2, hzz, hb⟩ := two_blk hb1
  clear hb1
  obtain ⟨X, hX⟩ : ∃ X : World, w1.alloc (.cells #[Value.slice A n c, Value.int .i64 a] 46) = X := ⟨_, rfl⟩
  have gX := g1.alloc (.cells #[Value.slice A n c, Value.int .i64 a] 46)
  have gY := g2.alloc (.cells #[Value.slice A n c, Value.int .i64 a] 46)
  have hbX : Below w.heap.size w X := by rw [← hX]; exact hb.alloc hb.size _
  go_wp2_with fail
  try rw [hX]
  rw [hX] at gX gY
  clear hX
  obtain ⟨k0, k1, f0, f1⟩ := gX.two
  obtain ⟨l0, l1, e0, e1⟩ := gY.two
  go_region
  all_goals go_wp2_with fail
  all_goals exact bodyPost_ret (v := .tuple #[.int .i64 0, .agg #[.slice A n c, .int .i64 a], .int .i64 50]) (by simp [results, Try.results43, go_sem, *]) rfl ⟨rfl, by repeat (first | exact hbX | apply Below.drew | apply Below.setCell | exact Nat.le_refl _ | exact Nat.le_succ _)⟩
set_option maxRecDepth 100000 in
set_option maxHeartbeats 1000000 in
theorem pnext_some (b off n c k : Nat) (v : Int) (bb bo d : Nat) (zs : List Int) (m : Nat) (w : World) (hr : RdI w .i64 (some ⟨bb, bo, none⟩) zs) (hl : zs.length ≤ 1000) (hM : May zs) (hn : n ≤ 9223372036854775807) (hk : k < n) (hc : w.cell? ⟨b, off + k, none⟩ = some (.int .u32 v)) (hv : 0 ≤ v) (hv' : v ≤ 4294967295) (hm : AtP zs (v * ps zs zs.length / 4294967296) m) :
    Calls Try.prog 43 #[.agg #[.slice (some ⟨b, off, none⟩) n c, .int .i64 k], .slice (some ⟨bb, bo, none⟩) zs.length d] w fun e w' => e = .returned (.tuple #[.int .i64 m, .agg #[.slice (some ⟨b, off, none⟩) n c, .int .i64 (k + 1)], .int .i64 0]) ∧ Below w.heap.size w w' := by
  have HR := Lib.hid hr
  obtain ⟨e1, e2⟩ := tot_ok hM.1 hM.2.1 hM.2.2
  obtain ⟨T, hT⟩ : ∃ T, ps zs zs.length = T := ⟨_, rfl⟩
  have t0 := hM.2.2
  have t1 := hM.2.1
  rw [hT] at t0 t1 e1 hm
  obtain ⟨s0, s1⟩ := scaled hv hv' t0
  have HT := Lib.hid (fun W (h : RdI W .i64 (some ⟨bb, bo, none⟩) zs) => by have := total_any (some ⟨bb, bo, none⟩) d zs W h hl; rw [e1, e2] at this; exact this)
  have HA := Lib.hid (fun W (h : RdI W .i64 (some ⟨bb, bo, none⟩) zs) => at_pick bb bo d zs _ m W h hl hM.1 hm s0 (by omega))
  have HC := Lib.hid hc
  clear hr hM e1 e2 hT hc hm s0 s1
  go_enter Try.func43, Try.ntmps43
  go_wp2_with fail
  refine (HT.out _ (HR.out.kept (((Below.refl _ _).alloc (Nat.le_refl _) _).alloc (by simp) _))).mono ?_
  rintro e w' ⟨rfl, rfl⟩
  go_wp2_with fail
  refine (below_some b off n c k v T _ hn hk (((((Below.refl _ _).alloc (Nat.le_refl _) _).alloc (by simp) _).cell (lt_of_cell HC.out)).trans HC.out) hv hv' (by omega) (by omega)).mono ?_
  rintro e w1 ⟨rfl, hb1⟩
  obtain ⟨g1, g2, hzz, hb⟩ := two_blk hb1
  clear hb1
  have g3 := Blk.new w1 #[Value.slice (some ⟨b, off, none⟩) n c, Value.int .i64 (k + 1)] 46
  obtain ⟨X, hX⟩ : ∃ X : World, w1.alloc (.cells #[Value.slice (some ⟨b, off, none⟩) n c, Value.int .i64 (k + 1)] 46) = X := ⟨_, rfl⟩
  have gX := g2.alloc (.cells #[Value.slice (some ⟨b, off, none⟩) n c, Value.int .i64 (k + 1)] 46)
  have hbX : Below w.heap.size w X := by rw [← hX]; exact hb.alloc hb.size _
  obtain ⟨k0, k1, f0, f1⟩ := g1.two
  go_wp2_with fail
  rw [hX] at g3 gX
  try rw [hX]
  clear k0 k1 f0 f1 hX
  obtain ⟨k0, k1, f0, f1⟩ := g3.two
  obtain ⟨l0, l1, e0, e1⟩ := gX.two
  obtain ⟨u, hu⟩ : ∃ u : Nat, w1.heap.size = u := ⟨_, rfl⟩
  rw [hu] at k0 k1 f0 f1
  have hne : w.heap.size + 1 ≠ u := by omega
  have hne2 : u ≠ w.heap.size + 1 := by omega
  try rw [hu]
  have RX := Lib.hid (HR.out.kept hbX)
  clear g1 g2 g3 gX hb hzz
  go_region_held3 (fun W => W.cell? ⟨u, 0, none⟩ = some (.slice (some ⟨b, off, none⟩) n c) ∧ W.cell? ⟨u, 1, none⟩ = some (.int .i64 (k + 1)))
    (go_keep)
    (first
      | (go_at_call 66; refine (HA.out _ (by first | exact RX.out | exact rdI_drewN RX.out _)).mono ?_; rintro e w2 ⟨rfl, rfl⟩))
  all_goals go_wp2_with fail
  all_goals exact bodyPost_ret (v := .tuple #[.int .i64 m, .agg #[.slice (some ⟨b, off, none⟩) n c, .int .i64 (k + 1)], .int .i64 0]) (by simp [results, Try.results43, go_sem, *]) rfl ⟨rfl, by repeat (first | exact hbX | apply below_drewN | apply Below.drew | apply Below.setCell | exact Nat.le_refl _ | exact Nat.le_succ _)⟩
end Go.Proofs.Ytkepplkfjcoemab
