/- diff.Same at any two logs. -/
import Derived.Test.YtodfjghgcphhhabRows
import Derived.Test.YtodfjghgcphhhabRowKit
import Derived.Test.YtodfjghgcphhhabRowS
import Derived.Test.YtodfjghgcphhhabRowZ
import Derived.Test.YtodfjghgcphhhabSlicesEq
import Derived.Test.YtodfjghgcphhhabRowV
import Derived.Test.YtodfjghgcphhhabRowW
import Derived.Test.YtodfjghgcphhhabBlocks
import Derived.Test.YtodfjghgcphhhabDiffEq
import Derived.Test.YtodfjghgcphhhabDiffLeg
import Derived.Test.YtodfjghgcphhhabDiffF
import Derived.Below
import Derived.WalkKit
import Derived.Lib.Hide
import Derived.WalkSpells
import Derived.WalkLawsBesides
import Derived.Deep.QuietTactic
import Derived.BigQuiet
namespace Go.Proofs.Ytodfjghgcphhhab
open Go.RowKit
set_option linter.unusedSimpArgs false
set_option linter.unusedVariables false
/-- are two logs the same? -/
noncomputable def sameL (u u2 : Int) (nt nt2 : Nat) (z z2 : Nat → Nat → Int) (n n2 : Nat) (ln ln2 : Nat → Nat) (v v2 : Nat → Nat → Nat → Value) : Bool := (u == u2) && (sameZ 7 nt nt2 z z2 && sameW n n2 ln ln2 v v2)
set_option maxRecDepth 100000 in
set_option maxHeartbeats 4000000 in
theorem dsame_any (T T2 A A2 : Option Addr) (ct ct2 d d2 nt nt2 n n2 : Nat) (u u2 : Int) (z z2 : Nat → Nat → Int) (P P2 : Nat → Option Addr) (ln ln2 cp cp2 : Nat → Nat) (v v2 : Nat → Nat → Nat → Value) (w : World)
    (ha : RdZ w 7 T nt z) (ha2 : RdZ w 7 T2 nt2 z2) (hb : RdW w 4 shLeg A n P ln cp v) (hb2 : RdW w 4 shLeg A2 n2 P2 ln2 cp2 v2) (hl : n ≤ 9223372036854775807) (hl2 : n2 ≤ 9223372036854775807) (hl3 : nt ≤ 9223372036854775807) (hl4 : nt2 ≤ 9223372036854775807) :
    Calls Try.prog 29 #[.agg #[.slice T nt ct, .slice A n d, .int .i64 u], .agg #[.slice T2 nt2 ct2, .slice A2 n2 d2, .int .i64 u2]] w fun e w' => e = .returned (.bool (sameL u u2 nt nt2 z z2 n n2 ln ln2 v v2)) ∧ Below w.heap.size w w' := by
  have BE : Below w.heap.size w ((w.alloc (.cells #[.slice T nt ct, .slice A n d, .int .i64 u] 69)).alloc (.cells #[.slice T2 nt2 ct2, .slice A2 n2 d2, .int .i64 u2] 69)) := ((Below.refl w.heap.size w).alloc (Nat.le_refl _) _).alloc (by simp) _
  by_cases hu : u = u2
  case neg =>
    have e : sameL u u2 nt nt2 z z2 n n2 ln ln2 v v2 = false := by simp [sameL, hu]
    rw [e]
    have HE := Lib.hid BE
    have hne : (u == u2) = false := by simpa using hu
    clear ha ha2 hb hb2 e BE
    go_enter Try.func29, Try.ntmps29
    go_wp2_with fail
    go_ret
    exact ⟨rfl, HE.out⟩
  subst hu
  obtain ⟨r1, hr1⟩ : ∃ r, sameZ 7 nt nt2 z z2 = r := ⟨_, rfl⟩
  obtain ⟨r2, hr2⟩ : ∃ r, sameW n n2 ln ln2 v v2 = r := ⟨_, rfl⟩
  have e : sameL u u nt nt2 z z2 n n2 ln ln2 v v2 = (r1 && r2) := by simp [sameL, hr1, hr2]
  rw [e]
  have K1 := trips_eq T T2 ct ct2 nt nt2 z z2 _ (RdZ.kept ha BE) (RdZ.kept ha2 BE) hl3 hl4
  have K2 := fun k => lists_eq A A2 d d2 n n2 P P2 ln ln2 cp cp2 v v2 _ (RdW.kept hb (below_drewN BE k)) (RdW.kept hb2 (below_drewN BE k)) hl hl2
  rw [hr1] at K1
  simp only [hr2] at K2
  have J1 := Lib.hid K1
  have J2 := Lib.hid K2
  have HE := Lib.hid BE
  clear ha ha2 hb hb2 e BE hr1 hr2 K1 K2
  go_enter Try.func29, Try.ntmps29
  go_wp2_with fail
  refine J1.out.mono fun e W1 ⟨he, k, hk⟩ => ?_
  subst he hk
  cases r1
  · go_wp2_with fail
    go_ret
    exact ⟨rfl, below_drewN HE.out _⟩
  · go_wp2_with fail
    refine (J2.out _).mono fun e W1 ⟨he, k2, hk2⟩ => ?_
    subst he hk2
    go_wp2_with fail
    go_ret
    exact ⟨by cases r2 <;> rfl, below_drewN HE.out _⟩
end Go.Proofs.Ytodfjghgcphhhab
