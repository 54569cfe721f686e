/- alive of layer 20. -/
import Derived.Test.YtmdjncknjbjmbaaRows
import Derived.Test.YtmdjncknjbjmbaaRowKit
import Derived.Test.YtmdjncknjbjmbaaRowS
import Derived.Test.YtmdjncknjbjmbaaRowZ
import Derived.Test.YtmdjncknjbjmbaaBlocks
import Derived.Test.YtmdjncknjbjmbaaVetA
import Derived.Test.YtmdjncknjbjmbaaVetB
import Derived.Test.YtmdjncknjbjmbaaVetC
import Derived.Test.YtmdjncknjbjmbaaVetD
import Derived.Test.YtmdjncknjbjmbaaVetE
import Derived.Test.YtmdjncknjbjmbaaVetF
import Derived.WalkKit
import Derived.IntWalk
import Derived.Lib.Hide
import Derived.Lib.SmallJoins
import Derived.WalkSpells
import Derived.WalkLawsBesides
import Derived.Deep.QuietTactic
import Derived.Deep.RegionHeld3
import Derived.Deep.LoopGhost
import Derived.BigQuiet
import Derived.Below
import Derived.Lib.Strings
namespace Go.Proofs.Ytmdjncknjbjmbaa
open Go.RowKit
set_option linter.unusedSimpArgs false
set_option linter.unusedVariables false
theorem rdz_none (w : World) (z : Nat → Nat → Int) : RdZ w 3 none 0 z := fun i hi => absurd hi (by omega)
/-- the segment that may be -/
def oneS (i j : Nat) : Int := if j = 2 then 0 else 1
theorem one_rd (w : World) (T : TypeId) : RdZ (w.alloc (.cells #[.int .i64 1, .int .i64 1, .int .i64 0] T)) 3 (some ⟨w.heap.size, 0, none⟩) 1 oneS := by
  refine rdZ_mk (fun i j hi hj => ?_) (by simp)
  obtain rfl : i = 0 := by omega
  match j, hj with
  | 0, _ => exact ⟨(World.cell?_alloc_mark w _ _ _ 0).trans rfl, rfl⟩
  | 1, _ => exact ⟨(World.cell?_alloc_mark w _ _ _ 1).trans rfl, rfl⟩
  | 2, _ => exact ⟨(World.cell?_alloc_mark w _ _ _ 2).trans rfl, rfl⟩
theorem ck_empty (z : Nat → Nat → Int) : ckA (numV 0 0 0 0 0 0 0 0 0 0 0) 0 0 z = 264 := ck_num (k := 0) (by decide) (by decide)
theorem ck_fine : ckA (numV 2 1 1 1 1 1 1 1 1 1 1) 1 1 oneS = 0 := by
  have h : NumsOk (numV 2 1 1 1 1 1 1 1 1 1 1) 11 := by
    intro j hj
    match j, hj with
    | 0, _ => decide
    | 1, _ => decide
    | 2, _ => decide
    | 3, _ => decide
    | 4, _ => decide
    | 5, _ => decide
    | 6, _ => decide
    | 7, _ => decide
    | 8, _ => decide
    | 9, _ => decide
    | 10, _ => decide
  rw [ck_seg h (by decide) (by decide) (by decide), segs_next rfl]
  exact segE_ok (by decide) (by decide) (by decide) (by decide)
/-- a box -/
def OB (w : World) (a : Nat) (F : Array Value) : Prop := ∀ j v, F[j]? = some v → w.cell? ⟨a, j, none⟩ = some v
theorem OB.next {w w' : World} {a : Nat} {F : Array Value} (h : OB w a F) (hb : Below w.heap.size w w') : OB w' a F := fun j v hv => keepv hb (h j v hv)
set_option maxRecDepth 100000 in
set_option maxHeartbeats 8000000 in
theorem valive (w : World) :
    Calls Try.prog 19 #[] w fun e w' => e = .returned (.bool true) ∧ Below w.heap.size w w' := by
  have H1 := fun W => pcheck_any 0 0 0 0 0 0 0 0 0 0 0 0 none 0 0 (fun _ _ => 0) W (rdz_none W _) (by omega)
  rw [ck_empty] at H1
  have H1 := Lib.hid H1
  have H2 := fun W hr => pcheck_any 2 1 1 1 1 1 1 1 1 1 1 1 (some ⟨w.heap.size, 0, none⟩) 1 1 oneS W hr (by omega)
  rw [ck_fine] at H2
  have H2 := Lib.hid H2
  have H3 := Lib.hid (fun W hr => psame_s 2 1 1 1 1 1 1 1 1 1 1 1 2 1 1 1 1 1 1 1 1 1 1 (some ⟨w.heap.size, 0, none⟩) (some ⟨w.heap.size, 0, none⟩) 1 1 1 1 oneS oneS W (by decide) true (fun W ha hb => by
    have := seq_same (some ⟨w.heap.size, 0, none⟩) (some ⟨w.heap.size, 0, none⟩) 1 1 1 oneS oneS W ha hb (by omega)
    rwa [show sgB oneS oneS 1 = true by decide] at this) hr hr)
  have R0 := Lib.hid (one_rd w 101)
  have O0 := Lib.hid (show OB ((w.alloc (.cells #[.int .i64 1, .int .i64 1, .int .i64 0] 101)).alloc (.cells #[.int .i64 2, .int .i64 1, .int .i64 1, .int .i64 1, .int .i64 1, .int .i64 1, .int .i64 1, .int .i64 1, .slice (some ⟨w.heap.size, 0, none⟩) 1 1, .int .i64 1, .int .i64 1, .int .i64 1, .int .i64 1] 29)) (w.heap.size + 1) #[.int .i64 2, .int .i64 1, .int .i64 1, .int .i64 1, .int .i64 1, .int .i64 1, .int .i64 1, .int .i64 1, .slice (some ⟨w.heap.size, 0, none⟩) 1 1, .int .i64 1, .int .i64 1, .int .i64 1, .int .i64 1] from fun j v hv => by rw [(blk_new2 w _ _ _).cell j]; exact hv)
  have B0 := Lib.hid (((Below.refl w.heap.size w).alloc (Nat.le_refl _) (.cells #[.int .i64 1, .int .i64 1, .int .i64 0] 101)).alloc (by simp) (.cells #[.int .i64 2, .int .i64 1, .int .i64 1, .int .i64 1, .int .i64 1, .int .i64 1, .int .i64 1, .int .i64 1, .slice (some ⟨w.heap.size, 0, none⟩) 1 1, .int .i64 1, .int .i64 1, .int .i64 1, .int .i64 1] 29))
  go_enter Try.func19, Try.ntmps19
  go_wp2_with fail
  refine (H1.out _).mono ?_
  rintro e w1 ⟨rfl, hb1⟩
  have O1 := O0.out.next hb1
  have c0 := O1 0 _ rfl
  have c1 := O1 1 _ rfl
  have c2 := O1 2 _ rfl
  have c3 := O1 3 _ rfl
  have c4 := O1 4 _ rfl
  have c5 := O1 5 _ rfl
  have c6 := O1 6 _ rfl
  have c7 := O1 7 _ rfl
  have c8 := O1 8 _ rfl
  have c9 := O1 9 _ rfl
  have c10 := O1 10 _ rfl
  have c11 := O1 11 _ rfl
  have c12 := O1 12 _ rfl
  have RK := Lib.hid ((R0.out.kept ((Below.refl _ _).alloc (Nat.le_refl _) _)).kept hb1)
  have BK := Lib.hid (B0.out.trans (Joins.below_le hb1 B0.out.size))
  have O1h := Lib.hid O1
  clear O1 hb1
  go_wp2_with fail
  refine (H2.out _ RK.out).mono ?_
  rintro e w2 ⟨rfl, hb2⟩
  have O2 := O1h.out.next hb2
  have d0 := O2 0 _ rfl
  have d1 := O2 1 _ rfl
  have d2 := O2 2 _ rfl
  have d3 := O2 3 _ rfl
  have d4 := O2 4 _ rfl
  have d5 := O2 5 _ rfl
  have d6 := O2 6 _ rfl
  have d7 := O2 7 _ rfl
  have d8 := O2 8 _ rfl
  have d9 := O2 9 _ rfl
  have d10 := O2 10 _ rfl
  have d11 := O2 11 _ rfl
  have d12 := O2 12 _ rfl
  have RK2 := Lib.hid (RK.out.kept hb2)
  have BK2 := Lib.hid (BK.out.trans (Joins.below_le hb2 BK.out.size))
  clear O2 hb2 c0 c1 c2 c3 c4 c5 c6 c7 c8 c9 c10 c11 c12
  go_wp2_with fail
  refine (H3.out _ RK2.out).mono ?_
  rintro e w3 ⟨rfl, hb3⟩
  go_wp2_with fail
  go_ret
  exact ⟨rfl, BK2.out.trans (Joins.below_le hb3 BK2.out.size)⟩
end Go.Proofs.Ytmdjncknjbjmbaa
