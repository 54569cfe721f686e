/- the law's example. -/
import Derived.Test.YtodfjghgcphhhabRows
import Derived.Test.YtodfjghgcphhhabRowKit
import Derived.Test.YtodfjghgcphhhabRowS
import Derived.Test.YtodfjghgcphhhabRowZ
import Derived.Test.YtodfjghgcphhhabSlicesEq
import Derived.Test.YtodfjghgcphhhabRowV
import Derived.Test.YtodfjghgcphhhabRowW
import Derived.Test.YtodfjghgcphhhabBlocks
import Derived.Test.YtodfjghgcphhhabDiffEq
import Derived.Test.YtodfjghgcphhhabDiffLeg
import Derived.Test.YtodfjghgcphhhabDiffF
import Derived.Test.YtodfjghgcphhhabDiffT
import Derived.Test.YtodfjghgcphhhabDiffS
import Derived.Below
import Derived.WalkKit
import Derived.Lib.Hide
import Derived.WalkSpells
import Derived.WalkLawsBesides
import Derived.Deep.QuietTactic
import Derived.BigQuiet
namespace Go.Proofs.Ytodfjghgcphhhab
open Go.RowKit
set_option linter.unusedSimpArgs false
set_option linter.unusedVariables false
set_option maxRecDepth 100000 in
set_option maxHeartbeats 4000000 in
theorem alive_any (w : World) : Calls Try.prog 10 #[] w fun e w' => e = .returned (.bool true) ∧ Below w.heap.size w w' := by
  have BE : Below w.heap.size w ((w.alloc (.cells #[.int .i64 0, .int .i64 0, .int .i64 0, .int .i64 0, .int .i64 0, .int .i64 0, .int .i64 0] 34)).alloc (.cells #[.int .i64 0, .int .i64 0, .int .i64 0, .int .i64 0, .int .i64 0, .int .i64 0, .int .i64 0, .int .i64 0, .int .i64 0, .int .i64 0, .int .i64 0, .int .i64 0, .int .i64 0, .int .i64 0] 34)) := ((Below.refl w.heap.size w).alloc (Nat.le_refl _) _).alloc (by simp) _
  have BL := Blk.alloc (Blk.new w #[.int .i64 0, .int .i64 0, .int .i64 0, .int .i64 0, .int .i64 0, .int .i64 0, .int .i64 0] 34) (.cells #[.int .i64 0, .int .i64 0, .int .i64 0, .int .i64 0, .int .i64 0, .int .i64 0, .int .i64 0, .int .i64 0, .int .i64 0, .int .i64 0, .int .i64 0, .int .i64 0, .int .i64 0, .int .i64 0] 34)
  have BM := Blk.new (w.alloc (.cells #[.int .i64 0, .int .i64 0, .int .i64 0, .int .i64 0, .int .i64 0, .int .i64 0, .int .i64 0] 34)) #[.int .i64 0, .int .i64 0, .int .i64 0, .int .i64 0, .int .i64 0, .int .i64 0, .int .i64 0, .int .i64 0, .int .i64 0, .int .i64 0, .int .i64 0, .int .i64 0, .int .i64 0, .int .i64 0] 34
  rw [World.size_alloc] at BM
  go_enter Try.func10, Try.ntmps10
  go_wp2_with fail
  obtain ⟨V0, hV0⟩ : ∃ V, ((w.alloc (.cells #[.int .i64 0, .int .i64 0, .int .i64 0, .int .i64 0, .int .i64 0, .int .i64 0, .int .i64 0] 34)).alloc (.cells #[.int .i64 0, .int .i64 0, .int .i64 0, .int .i64 0, .int .i64 0, .int .i64 0, .int .i64 0, .int .i64 0, .int .i64 0, .int .i64 0, .int .i64 0, .int .i64 0, .int .i64 0, .int .i64 0] 34)) = V := ⟨_, rfl⟩
  rw [hV0] at BL BM BE ⊢
  clear hV0
  have R1 : RdZ V0 7 (some ⟨w.heap.size, 0, none⟩) 1 (fun _ _ => 0) := rdZ_mk (fun i j hi hj => by
    have := BL.cell (i * 7 + j)
    rw [Nat.zero_add]
    rcases i with _ | i
    · rcases j with _ | _ | _ | _ | _ | _ | _ | j <;> first | omega | exact ⟨this, by decide⟩
    · omega) BL.lt
  have R2 : RdZ V0 7 (some ⟨w.heap.size + 1, 0, none⟩) 2 (fun _ _ => 0) := rdZ_mk (fun i j hi hj => by
    have := BM.cell (i * 7 + j)
    rw [Nat.zero_add]
    rcases i with _ | _ | i
    · rcases j with _ | _ | _ | _ | _ | _ | _ | j <;> first | omega | exact ⟨this, by decide⟩
    · rcases j with _ | _ | _ | _ | _ | _ | _ | j <;> first | omega | exact ⟨this, by decide⟩
    · omega) BM.lt
  have HE := Lib.hid BE
  clear BL BM BE
  refine (dtrips_any (some ⟨w.heap.size, 0, none⟩) (some ⟨w.heap.size + 1, 0, none⟩) 1 2 1 2 _ _ V0 R1 R2 (by omega) (by omega)).mono fun e W1 ⟨i, b, he, hp, k, hk⟩ => ?_
  obtain ⟨rfl, rfl⟩ : b = true ∧ i = 1 := by
    rcases hp.out with ⟨_, _, h, _⟩ | ⟨h, _, ⟨_, _, h3⟩ | ⟨h3, _⟩ | ⟨_, h3⟩⟩
    · omega
    · exact absurd (fun j hj => rfl) h3
    · exact ⟨h, h3⟩
    · omega
  subst he hk
  clear hp R1 R2
  have HS : sameL 0 0 0 0 (fun _ _ => 0) (fun _ _ => 0) 0 0 (fun _ => 0) (fun _ => 0) (fun _ _ _ => undef) (fun _ _ _ => undef) = true := by simp [sameL, sameZ, sameW]
  have K2 := fun q => dsame_any none none none none 0 0 0 0 0 0 0 0 0 0 (fun _ _ => 0) (fun _ _ => 0) (fun _ => none) (fun _ => none) (fun _ => 0) (fun _ => 0) (fun _ => 0) (fun _ => 0) (fun _ _ _ => undef) (fun _ _ _ => undef) (V0.drewN q) (fun i hi => absurd hi (by omega)) (fun i hi => absurd hi (by omega)) (fun i hi => absurd hi (by omega)) (fun i hi => absurd hi (by omega)) (by omega) (by omega) (by omega) (by omega)
  simp only [HS] at K2
  have J2 := Lib.hid K2
  clear K2 HS
  go_wp2_with fail
  refine (J2.out _).mono fun e W2 ⟨he, hb⟩ => ?_
  subst he
  have E2 := Lib.hid ((below_drewN HE.out k).trans (hb.mono (below_drewN HE.out k).size))
  clear hb
  go_wp2_with fail
  go_ret
  exact ⟨rfl, E2.out⟩
end Go.Proofs.Ytodfjghgcphhhab
