/- The walk of PickNext: it answers true for every input, and leaves all old blocks as they were. No condition. -/
import Derived.Test.YtkepplkfjcoemabRows
import Derived.Test.YtkepplkfjcoemabRowKit
import Derived.Test.YtkepplkfjcoemabSlicesEq
import Derived.Test.YtkepplkfjcoemabBlocks
import Derived.Test.YtkepplkfjcoemabWordsA
import Derived.Test.YtkepplkfjcoemabPickMath
import Derived.Test.YtkepplkfjcoemabPickA
import Derived.Test.YtkepplkfjcoemabPickB
import Derived.Test.YtkepplkfjcoemabPickC
import Derived.WalkKit
import Derived.ProofKit
import Derived.OpenShut
import Derived.Deep.QuietTactic
import Derived.BigQuiet
import Derived.Lib.SmallJoins
import Derived.Lib.Hide
import Derived.WalkSpells
import Derived.WalkLawsBesides
namespace Go.Proofs.Ytkepplkfjcoemab.pickNext
open Go.ChangeShapes Go.WideShapes Go.ChangeAt Go.RowKit Go.Joins
set_option linter.unusedSimpArgs false
set_option linter.unusedVariables false

set_option maxRecDepth 100000 in
set_option maxHeartbeats 1000000 in
theorem walk_bad (A : Option Addr) (c : Nat) (ws : List Int) (a : Int) (B : Option Addr) (d : Nat) (zs : List Int) (w : World) (hw : RdI w .u32 A ws) (hr : RdI w .i64 B zs) (hl1 : ws.length ≤ 500) (hl2 : zs.length ≤ 200) (he : totE zs ≠ 0) :
    Calls Try.prog 11 #[.agg #[.slice A ws.length c, .int .i64 a], .slice B zs.length d] w fun e w' => e = .returned (.bool true) ∧ Below w.heap.size w w' := by
  have HW := Lib.hid hw
  have HR := Lib.hid hr
  have HE := Lib.hid he
  have HT := Lib.hid (fun W (h : RdI W .i64 B zs) => rtotal_any B d zs W h (by omega))
  have hne : (totE zs != 0) = true := by rw [bne_iff_ne]; exact he
  have hne2 : (totE zs == 0) = false := by rw [beq_eq_false_iff_ne]; exact he
  clear hw hr he
  go_enter Try.func11, Try.ntmps11
  go_wp2_with fail
  refine (pnext_bad A ws.length c a B d zs _ (HR.out.kept ((Below.refl _ _).alloc (Nat.le_refl _) _)) (by omega) HE.out).mono ?_
  rintro e w1 ⟨rfl, hb1⟩
  obtain ⟨g1, hz, hb⟩ := one_blk hb1
  clear hb1
  obtain ⟨X, hX⟩ : ∃ X : World, w1.alloc (.cells #[Value.slice A ws.length c, Value.int .i64 (a)] 46) = X := ⟨_, rfl⟩
  have g3 := Blk.new w1 #[Value.slice A ws.length c, Value.int .i64 (a)] 46
  have gX := g1.alloc (.cells #[Value.slice A ws.length c, Value.int .i64 (a)] 46)
  have hbX : Below w.heap.size w X := by rw [← hX]; exact hb.alloc hb.size _
  have hzX : w.heap.size ≤ X.heap.size := hbX.size
  go_wp2_with fail
  try rw [hX]
  rw [hX] at g3 gX
  clear hX hb
  refine (HT.out _ (HR.out.kept hbX)).mono ?_
  rintro e w' ⟨rfl, rfl⟩
  obtain ⟨u, hu⟩ : ∃ u : Nat, w1.heap.size = u := ⟨_, rfl⟩
  rw [hu] at g3
  obtain ⟨k0, k1, f0, f1⟩ := gX.two
  obtain ⟨l0, l1, e0, e1⟩ := g3.two
  try rw [hu]
  clear g1 g3 gX hz
  go_wp2_with fail
  refine (equal_u32 A A c c ws _ (HW.out.kept hbX) (HW.out.kept hbX) (by omega)).mono ?_
  rintro e w3 ⟨rfl, q, rfl⟩
  go_wp2_with fail
  refine (pkalive _).mono ?_
  rintro e w4 ⟨rfl, hb5⟩
  go_wp2_with fail
  go_ret
  exact ⟨rfl, (below_drewN hbX q).trans (hb5.mono hzX)⟩
set_option maxRecDepth 100000 in
set_option maxHeartbeats 1000000 in
theorem walk_dryx (A : Option Addr) (c : Nat) (ws : List Int) (a : Int) (B : Option Addr) (d : Nat) (zs : List Int) (w : World) (hw : RdI w .u32 A ws) (hr : RdI w .i64 B zs) (hl1 : ws.length ≤ 500) (hl2 : zs.length ≤ 200) (hM : May zs) (ha : -9223372036854775808 ≤ a) (ha2 : a ≤ 9223372036854775807) (hx : a < 0) :
    Calls Try.prog 11 #[.agg #[.slice A ws.length c, .int .i64 a], .slice B zs.length d] w fun e w' => e = .returned (.bool true) ∧ Below w.heap.size w w' := by
  have HW := Lib.hid hw
  have HR := Lib.hid hr
  have HM := Lib.hid hM
  obtain ⟨e1, e2⟩ := may_tot hM
  have HT := Lib.hid (fun W (h : RdI W .i64 B zs) => by have := rtotal_any B d zs W h (by omega); rw [e1, e2] at this; exact this)
  have HL : Hid (lf ws.length a = 0) := by unfold Hid lf; split <;> omega
  clear hw hr hM e1 e2
  go_enter Try.func11, Try.ntmps11
  go_wp2_with fail
  refine (pnext_dry A ws.length c a B d zs _ (HR.out.kept ((Below.refl _ _).alloc (Nat.le_refl _) _)) (by omega) HM.out (by omega) ha ha2 HL.out).mono ?_
  rintro e w1 ⟨rfl, hb1⟩
  obtain ⟨g1, hz, hb⟩ := one_blk hb1
  clear hb1
  obtain ⟨X, hX⟩ : ∃ X : World, w1.alloc (.cells #[Value.slice A ws.length c, Value.int .i64 (a)] 46) = X := ⟨_, rfl⟩
  have g3 := Blk.new w1 #[Value.slice A ws.length c, Value.int .i64 (a)] 46
  have gX := g1.alloc (.cells #[Value.slice A ws.length c, Value.int .i64 (a)] 46)
  have hbX : Below w.heap.size w X := by rw [← hX]; exact hb.alloc hb.size _
  have hzX : w.heap.size ≤ X.heap.size := hbX.size
  go_wp2_with fail
  try rw [hX]
  rw [hX] at g3 gX
  clear hX hb
  refine (HT.out _ (HR.out.kept hbX)).mono ?_
  rintro e w' ⟨rfl, rfl⟩
  obtain ⟨u, hu⟩ : ∃ u : Nat, w1.heap.size = u := ⟨_, rfl⟩
  rw [hu] at g3
  obtain ⟨k0, k1, f0, f1⟩ := gX.two
  obtain ⟨l0, l1, e0, e1⟩ := g3.two
  try rw [hu]
  clear g1 g3 gX hz
  go_wp2_with fail
  refine (equal_u32 A A c c ws _ (HW.out.kept hbX) (HW.out.kept hbX) (by omega)).mono ?_
  rintro e w3 ⟨rfl, q, rfl⟩
  go_wp2_with fail
  refine (pkalive _).mono ?_
  rintro e w4 ⟨rfl, hb5⟩
  go_wp2_with fail
  go_ret
  exact ⟨rfl, (below_drewN hbX q).trans (hb5.mono hzX)⟩
set_option maxRecDepth 100000 in
set_option maxHeartbeats 1000000 in
theorem walk_dryy (A : Option Addr) (c : Nat) (ws : List Int) (a : Int) (B : Option Addr) (d : Nat) (zs : List Int) (w : World) (hw : RdI w .u32 A ws) (hr : RdI w .i64 B zs) (hl1 : ws.length ≤ 500) (hl2 : zs.length ≤ 200) (hM : May zs) (ha : -9223372036854775808 ≤ a) (ha2 : a ≤ 9223372036854775807) (hx : (ws.length : Int) ≤ a) :
    Calls Try.prog 11 #[.agg #[.slice A ws.length c, .int .i64 a], .slice B zs.length d] w fun e w' => e = .returned (.bool true) ∧ Below w.heap.size w w' := by
  have HW := Lib.hid hw
  have HR := Lib.hid hr
  have HM := Lib.hid hM
  obtain ⟨e1, e2⟩ := may_tot hM
  have HT := Lib.hid (fun W (h : RdI W .i64 B zs) => by have := rtotal_any B d zs W h (by omega); rw [e1, e2] at this; exact this)
  have HL : Hid (lf ws.length a = 0) := by unfold Hid lf; split <;> omega
  clear hw hr hM e1 e2
  have hx2 : ¬ a < 0 := by omega
  go_enter Try.func11, Try.ntmps11
  go_wp2_with fail
  refine (pnext_dry A ws.length c a B d zs _ (HR.out.kept ((Below.refl _ _).alloc (Nat.le_refl _) _)) (by omega) HM.out (by omega) ha ha2 HL.out).mono ?_
  rintro e w1 ⟨rfl, hb1⟩
  obtain ⟨g1, hz, hb⟩ := one_blk hb1
  clear hb1
  obtain ⟨X, hX⟩ : ∃ X : World, w1.alloc (.cells #[Value.slice A ws.length c, Value.int .i64 (a)] 46) = X := ⟨_, rfl⟩
  have g3 := Blk.new w1 #[Value.slice A ws.length c, Value.int .i64 (a)] 46
  have gX := g1.alloc (.cells #[Value.slice A ws.length c, Value.int .i64 (a)] 46)
  have hbX : Below w.heap.size w X := by rw [← hX]; exact hb.alloc hb.size _
  have hzX : w.heap.size ≤ X.heap.size := hbX.size
  go_wp2_with fail
  try rw [hX]
  rw [hX] at g3 gX
  clear hX hb
  refine (HT.out _ (HR.out.kept hbX)).mono ?_
  rintro e w' ⟨rfl, rfl⟩
  obtain ⟨u, hu⟩ : ∃ u : Nat, w1.heap.size = u := ⟨_, rfl⟩
  rw [hu] at g3
  obtain ⟨k0, k1, f0, f1⟩ := gX.two
  obtain ⟨l0, l1, e0, e1⟩ := g3.two
  try rw [hu]
  clear g1 g3 gX hz
  go_wp2_with fail
  refine (equal_u32 A A c c ws _ (HW.out.kept hbX) (HW.out.kept hbX) (by omega)).mono ?_
  rintro e w3 ⟨rfl, q, rfl⟩
  go_wp2_with fail
  refine (pkalive _).mono ?_
  rintro e w4 ⟨rfl, hb5⟩
  go_wp2_with fail
  go_ret
  exact ⟨rfl, (below_drewN hbX q).trans (hb5.mono hzX)⟩
set_option maxRecDepth 100000 in
set_option maxHeartbeats 1000000 in
theorem walk_some (b off c k : Nat) (ws : List Int) (v : Int) (bb bo d : Nat) (zs : List Int) (m : Nat) (w : World) (hw : RdI w .u32 (some ⟨b, off, none⟩) ws) (hr : RdI w .i64 (some ⟨bb, bo, none⟩) zs) (hl1 : ws.length ≤ 500) (hl2 : zs.length ≤ 200) (hM : May zs) (hk : k < ws.length) (hc : w.cell? ⟨b, off + k, none⟩ = some (.int .u32 v)) (hv : 0 ≤ v) (hv2 : v ≤ 4294967295) (hm : AtP zs (v * ps zs zs.length / 4294967296) m) :
    Calls Try.prog 11 #[.agg #[.slice (some ⟨b, off, none⟩) ws.length c, .int .i64 k], .slice (some ⟨bb, bo, none⟩) zs.length d] w fun e w' => e = .returned (.bool true) ∧ Below w.heap.size w w' := by
  have HW := Lib.hid hw
  have HR := Lib.hid hr
  have HM := Lib.hid hM
  have HC := Lib.hid hc
  have HA := Lib.hid hm
  obtain ⟨e1, e2⟩ := may_tot hM
  have HT := Lib.hid (fun W (h : RdI W .i64 (some ⟨bb, bo, none⟩) zs) => by have := rtotal_any (some ⟨bb, bo, none⟩) d zs W h (by omega); rw [e1, e2] at this; exact this)
  clear hw hr hM e1 e2 hc hm
  go_enter Try.func11, Try.ntmps11
  go_wp2_with fail
  refine (pnext_some b off ws.length c k v bb bo d zs m _ (HR.out.kept ((Below.refl _ _).alloc (Nat.le_refl _) _)) (by omega) HM.out (by omega) hk ((((Below.refl _ _).alloc (Nat.le_refl _) _).cell (lt_of_cell HC.out)).trans HC.out) hv hv2 HA.out).mono ?_
  rintro e w1 ⟨rfl, hb1⟩
  obtain ⟨g1, hz, hb⟩ := one_blk hb1
  clear hb1
  obtain ⟨X, hX⟩ : ∃ X : World, w1.alloc (.cells #[Value.slice (some ⟨b, off, none⟩) ws.length c, Value.int .i64 (k + 1)] 46) = X := ⟨_, rfl⟩
  have g3 := Blk.new w1 #[Value.slice (some ⟨b, off, none⟩) ws.length c, Value.int .i64 (k + 1)] 46
  have gX := g1.alloc (.cells #[Value.slice (some ⟨b, off, none⟩) ws.length c, Value.int .i64 (k + 1)] 46)
  have hbX : Below w.heap.size w X := by rw [← hX]; exact hb.alloc hb.size _
  have hzX : w.heap.size ≤ X.heap.size := hbX.size
  go_wp2_with fail
  try rw [hX]
  rw [hX] at g3 gX
  clear hX hb
  refine (HT.out _ (HR.out.kept hbX)).mono ?_
  rintro e w' ⟨rfl, rfl⟩
  obtain ⟨u, hu⟩ : ∃ u : Nat, w1.heap.size = u := ⟨_, rfl⟩
  rw [hu] at g3
  obtain ⟨k0, k1, f0, f1⟩ := gX.two
  obtain ⟨l0, l1, e0, e1⟩ := g3.two
  try rw [hu]
  clear g1 g3 gX hz
  have hcX : X.cell? ⟨b, off + k, none⟩ = some (.int .u32 v) := (hbX.cell (lt_of_cell HC.out)).trans HC.out
  go_wp2_with fail
  refine (rof_may (some ⟨bb, bo, none⟩) d zs v m _ (HR.out.kept hbX) (by omega) HM.out hv (by omega) HA.out).mono ?_
  rintro e w' ⟨rfl, rfl⟩
  go_wp2_with fail
  refine (equal_u32 (some ⟨b, off, none⟩) (some ⟨b, off, none⟩) c c ws _ (HW.out.kept hbX) (HW.out.kept hbX) (by omega)).mono ?_
  rintro e w3 ⟨rfl, q, rfl⟩
  go_wp2_with fail
  refine (pkalive _).mono ?_
  rintro e w4 ⟨rfl, hb5⟩
  go_wp2_with fail
  go_ret
  exact ⟨rfl, (below_drewN hbX q).trans (hb5.mono hzX)⟩
set_option maxHeartbeats 1000000 in
theorem walk_big (A : Option Addr) (c n : Nat) (a : Int) (B : Option Addr) (d m : Nat) (w : World) (hl : 200 < m ∨ 500 < n) :
    Calls Try.prog 11 #[.agg #[.slice A n c, .int .i64 a], .slice B m d] w fun e w' => e = .returned (.bool true) ∧ Below w.heap.size w w' := by
  by_cases h : 200 < m
  · clear hl
    go_enter Try.func11, Try.ntmps11
    go_wp2_with fail
    go_ret
    exact ⟨rfl, (Below.refl _ _).alloc (Nat.le_refl _) _⟩
  · have h2 : 500 < n := by omega
    clear hl
    go_enter Try.func11, Try.ntmps11
    go_wp2_with fail
    go_ret
    exact ⟨rfl, (Below.refl _ _).alloc (Nat.le_refl _) _⟩
theorem walk {A : Option Addr} {c : Nat} {ws : List Int} {a : Int} {B : Option Addr} {d : Nat} {zs : List Int} (hlc : ws.length ≤ c) (hm : c ≤ maxLen) {w : World} (hw : RdI w .u32 A ws) (wa : (Lit.int .i64 a).wf = true) (hld : zs.length ≤ d) (hmd : d ≤ maxLen) (hr : RdI w .i64 B zs) :
    Calls Try.prog 11 #[.agg #[.slice A ws.length c, .int .i64 a], .slice B zs.length d] w fun e w' => e = .returned (.bool true) ∧ Below w.heap.size w w' := by
  obtain ⟨a1, a2⟩ := bounds_i64 wa
  by_cases h : ws.length ≤ 500 ∧ zs.length ≤ 200
  · by_cases he : totE zs ≠ 0
    · exact walk_bad A c ws a B d zs w hw hr h.1 h.2 he
    · have hM := may_of he
      by_cases h0 : a < 0
      · exact walk_dryx A c ws a B d zs w hw hr h.1 h.2 hM a1 a2 h0
      · by_cases h1 : (ws.length : Int) ≤ a
        · exact walk_dryy A c ws a B d zs w hw hr h.1 h.2 hM a1 a2 h1
        · obtain ⟨k, rfl⟩ := Int.eq_ofNat_of_zero_le (show 0 ≤ a by omega)
          obtain ⟨b, off, rfl, _, hc⟩ := rdI_row hw (by omega)
          obtain ⟨_, _, _, _, hww⟩ := hw k (by omega)
          obtain ⟨v1, v2⟩ := bounds_u32 hww
          obtain ⟨m, hm⟩ := at_of hM v1 (by omega)
          obtain ⟨bb, bo, rfl, _⟩ := rdI_row hr (by have := hm.1; omega)
          exact walk_some b off c k ws _ bb bo d zs m w hw hr h.1 h.2 hM (by omega) (hc k (by omega)) v1 (by omega) hm
  · exact walk_big A c ws.length a B d zs.length w (by omega)

end Go.Proofs.Ytkepplkfjcoemab.pickNext
