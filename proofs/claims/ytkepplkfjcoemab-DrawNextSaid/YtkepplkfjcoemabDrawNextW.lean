/- The walk of DrawNext: it answers true for every input, and leaves all old blocks as they were. No condition. -/
import Derived.Test.YtkepplkfjcoemabRows
import Derived.Test.YtkepplkfjcoemabRowKit
import Derived.Test.YtkepplkfjcoemabSlicesEq
import Derived.Test.YtkepplkfjcoemabBlocks
import Derived.Test.YtkepplkfjcoemabWordsA
import Derived.Test.YtkepplkfjcoemabSorted
import Derived.Test.YtkepplkfjcoemabCumulS
import Derived.Test.YtkepplkfjcoemabDrawA
import Derived.Test.YtkepplkfjcoemabDrawB
import Derived.WalkKit
import Derived.ProofKit
import Derived.OpenShut
import Derived.Deep.QuietTactic
import Derived.BigQuiet
import Derived.Lib.SmallJoins
import Derived.Lib.Hide
import Derived.WalkSpells
import Derived.WalkLawsBesides
namespace Go.Proofs.Ytkepplkfjcoemab.drawNext
open Go.ChangeShapes Go.WideShapes Go.ChangeAt Go.RowKit Go.Joins
set_option linter.unusedSimpArgs false
set_option linter.unusedVariables false

set_option maxRecDepth 100000 in
set_option maxHeartbeats 1000000 in
theorem walk_formx (A : Option Addr) (c : Nat) (ws : List Int) (a : Int) (B : Option Addr) (d : Nat) (zs : List Int) (w : World) (hw : RdI w .u32 A ws) (hr : RdI w .u64 B zs) (hl1 : ws.length ≤ 500) (hl2 : zs.length ≤ 200) (he : rightV zs = false) (hx : a < 0) :
    Calls Try.prog 8 #[.slice B zs.length d, .agg #[.slice A ws.length c, .int .i64 a]] w fun e w' => e = .returned (.bool true) ∧ Below w.heap.size w w' := by
  have HW := Lib.hid hw
  have HR := Lib.hid hr
  have HE := Lib.hid he
  have HT := Lib.hid (fun W (h : RdI W .u64 B zs) => by have := rright_any B d zs W h (by omega); rw [he] at this; exact this)
  clear hw hr he
  go_enter Try.func8, Try.ntmps8
  go_wp2_with fail
  refine (dnext_form A ws.length c a B d zs _ (HR.out.kept ((Below.refl _ _).alloc (Nat.le_refl _) _)) (by omega) HE.out).mono ?_
  rintro e w1 ⟨rfl, hb1⟩
  obtain ⟨g1, hz, hb⟩ := one_blk hb1
  clear hb1
  obtain ⟨X, hX⟩ : ∃ X : World, w1.alloc (.cells #[Value.slice A ws.length c, Value.int .i64 (a)] 46) = X := ⟨_, rfl⟩
  have g3 := Blk.new w1 #[Value.slice A ws.length c, Value.int .i64 (a)] 46
  have gX := g1.alloc (.cells #[Value.slice A ws.length c, Value.int .i64 (a)] 46)
  have hbX : Below w.heap.size w X := by rw [← hX]; exact hb.alloc hb.size _
  have hzX : w.heap.size ≤ X.heap.size := hbX.size
  rw [hX] at g3 gX
  obtain ⟨u, hu⟩ : ∃ u : Nat, w1.heap.size = u := ⟨_, rfl⟩
  rw [hu] at g3
  obtain ⟨k0, k1, f0, f1⟩ := gX.two
  obtain ⟨l0, l1, e0, e1⟩ := g3.two
  clear g1 g3 gX hz hb
  go_wp2_with fail
  refine (HT.out _ (HR.out.kept hbX)).mono ?_
  rintro e w' ⟨rfl, q, rfl⟩
  go_wp2_with fail
  refine (equal_u32 A A c c ws _ (HW.out.kept (below_drewN hbX q)) (HW.out.kept (below_drewN hbX q)) (by omega)).mono ?_
  rintro e w3 ⟨rfl, q2, rfl⟩
  go_wp2_with fail
  refine (dralive _).mono ?_
  rintro e w4 ⟨rfl, hb5⟩
  go_wp2_with fail
  go_ret
  exact ⟨rfl, by first | exact (below_drewN (below_drewN hbX q) q2).trans (hb5.mono hzX) | exact (below_drewN hbX (q + q2)).trans (hb5.mono hzX)⟩
set_option maxRecDepth 100000 in
set_option maxHeartbeats 1000000 in
theorem walk_formy (A : Option Addr) (c : Nat) (ws : List Int) (a : Int) (B : Option Addr) (d : Nat) (zs : List Int) (w : World) (hw : RdI w .u32 A ws) (hr : RdI w .u64 B zs) (hl1 : ws.length ≤ 500) (hl2 : zs.length ≤ 200) (he : rightV zs = false) (hx : (ws.length : Int) ≤ a) :
    Calls Try.prog 8 #[.slice B zs.length d, .agg #[.slice A ws.length c, .int .i64 a]] w fun e w' => e = .returned (.bool true) ∧ Below w.heap.size w w' := by
  have HW := Lib.hid hw
  have HR := Lib.hid hr
  have HE := Lib.hid he
  have HT := Lib.hid (fun W (h : RdI W .u64 B zs) => by have := rright_any B d zs W h (by omega); rw [he] at this; exact this)
  clear hw hr he
  have hx2 : ¬ a < 0 := by omega
  go_enter Try.func8, Try.ntmps8
  go_wp2_with fail
  refine (dnext_form A ws.length c a B d zs _ (HR.out.kept ((Below.refl _ _).alloc (Nat.le_refl _) _)) (by omega) HE.out).mono ?_
  rintro e w1 ⟨rfl, hb1⟩
  obtain ⟨g1, hz, hb⟩ := one_blk hb1
  clear hb1
  obtain ⟨X, hX⟩ : ∃ X : World, w1.alloc (.cells #[Value.slice A ws.length c, Value.int .i64 (a)] 46) = X := ⟨_, rfl⟩
  have g3 := Blk.new w1 #[Value.slice A ws.length c, Value.int .i64 (a)] 46
  have gX := g1.alloc (.cells #[Value.slice A ws.length c, Value.int .i64 (a)] 46)
  have hbX : Below w.heap.size w X := by rw [← hX]; exact hb.alloc hb.size _
  have hzX : w.heap.size ≤ X.heap.size := hbX.size
  rw [hX] at g3 gX
  obtain ⟨u, hu⟩ : ∃ u : Nat, w1.heap.size = u := ⟨_, rfl⟩
  rw [hu] at g3
  obtain ⟨k0, k1, f0, f1⟩ := gX.two
  obtain ⟨l0, l1, e0, e1⟩ := g3.two
  clear g1 g3 gX hz hb
  go_wp2_with fail
  refine (HT.out _ (HR.out.kept hbX)).mono ?_
  rintro e w' ⟨rfl, q, rfl⟩
  go_wp2_with fail
  refine (equal_u32 A A c c ws _ (HW.out.kept (below_drewN hbX q)) (HW.out.kept (below_drewN hbX q)) (by omega)).mono ?_
  rintro e w3 ⟨rfl, q2, rfl⟩
  go_wp2_with fail
  refine (dralive _).mono ?_
  rintro e w4 ⟨rfl, hb5⟩
  go_wp2_with fail
  go_ret
  exact ⟨rfl, by first | exact (below_drewN (below_drewN hbX q) q2).trans (hb5.mono hzX) | exact (below_drewN hbX (q + q2)).trans (hb5.mono hzX)⟩
set_option maxRecDepth 100000 in
set_option maxHeartbeats 1000000 in
theorem walk_formz (A : Option Addr) (c : Nat) (ws : List Int) (a : Int) (B : Option Addr) (d : Nat) (zs : List Int) (w : World) (hw : RdI w .u32 A ws) (hr : RdI w .u64 B zs) (hl1 : ws.length ≤ 500) (hl2 : zs.length ≤ 200) (he : rightV zs = false) (hx : 0 ≤ a ∧ a < (ws.length : Int)) :
    Calls Try.prog 8 #[.slice B zs.length d, .agg #[.slice A ws.length c, .int .i64 a]] w fun e w' => e = .returned (.bool true) ∧ Below w.heap.size w w' := by
  have HW := Lib.hid hw
  have HR := Lib.hid hr
  have HE := Lib.hid he
  have HT := Lib.hid (fun W (h : RdI W .u64 B zs) => by have := rright_any B d zs W h (by omega); rw [he] at this; exact this)
  clear hw hr he
  obtain ⟨hx2, hx3⟩ := hx
  have hx4 : ¬ a < 0 := by omega
  have hx5 : ¬ (ws.length : Int) ≤ a := by omega
  go_enter Try.func8, Try.ntmps8
  go_wp2_with fail
  refine (dnext_form A ws.length c a B d zs _ (HR.out.kept ((Below.refl _ _).alloc (Nat.le_refl _) _)) (by omega) HE.out).mono ?_
  rintro e w1 ⟨rfl, hb1⟩
  obtain ⟨g1, hz, hb⟩ := one_blk hb1
  clear hb1
  obtain ⟨X, hX⟩ : ∃ X : World, w1.alloc (.cells #[Value.slice A ws.length c, Value.int .i64 (a)] 46) = X := ⟨_, rfl⟩
  have g3 := Blk.new w1 #[Value.slice A ws.length c, Value.int .i64 (a)] 46
  have gX := g1.alloc (.cells #[Value.slice A ws.length c, Value.int .i64 (a)] 46)
  have hbX : Below w.heap.size w X := by rw [← hX]; exact hb.alloc hb.size _
  have hzX : w.heap.size ≤ X.heap.size := hbX.size
  rw [hX] at g3 gX
  obtain ⟨u, hu⟩ : ∃ u : Nat, w1.heap.size = u := ⟨_, rfl⟩
  rw [hu] at g3
  obtain ⟨k0, k1, f0, f1⟩ := gX.two
  obtain ⟨l0, l1, e0, e1⟩ := g3.two
  clear g1 g3 gX hz hb
  go_wp2_with fail
  refine (HT.out _ (HR.out.kept hbX)).mono ?_
  rintro e w' ⟨rfl, q, rfl⟩
  go_wp2_with fail
  refine (equal_u32 A A c c ws _ (HW.out.kept (below_drewN hbX q)) (HW.out.kept (below_drewN hbX q)) (by omega)).mono ?_
  rintro e w3 ⟨rfl, q2, rfl⟩
  go_wp2_with fail
  refine (dralive _).mono ?_
  rintro e w4 ⟨rfl, hb5⟩
  go_wp2_with fail
  go_ret
  exact ⟨rfl, by first | exact (below_drewN (below_drewN hbX q) q2).trans (hb5.mono hzX) | exact (below_drewN hbX (q + q2)).trans (hb5.mono hzX)⟩
set_option maxRecDepth 100000 in
set_option maxHeartbeats 1000000 in
theorem walk_dryx (A : Option Addr) (c : Nat) (ws : List Int) (a : Int) (B : Option Addr) (d : Nat) (zs : List Int) (w : World) (hw : RdI w .u32 A ws) (hr : RdI w .u64 B zs) (hl1 : ws.length ≤ 500) (hl2 : zs.length ≤ 200) (he : rightV zs = true) (ha : -9223372036854775808 ≤ a) (ha2 : a ≤ 9223372036854775807) (hx : a < 0) :
    Calls Try.prog 8 #[.slice B zs.length d, .agg #[.slice A ws.length c, .int .i64 a]] w fun e w' => e = .returned (.bool true) ∧ Below w.heap.size w w' := by
  have HW := Lib.hid hw
  have HR := Lib.hid hr
  have HE := Lib.hid he
  have HT := Lib.hid (fun W (h : RdI W .u64 B zs) => by have := rright_any B d zs W h (by omega); rw [he] at this; exact this)
  have HL : Hid (lf ws.length a = 0) := by unfold Hid lf; split <;> omega
  clear hw hr he
  go_enter Try.func8, Try.ntmps8
  go_wp2_with fail
  refine (dnext_dry A ws.length c a B d zs _ (HR.out.kept ((Below.refl _ _).alloc (Nat.le_refl _) _)) (by omega) HE.out (by omega) ha ha2 HL.out).mono ?_
  rintro e w1 ⟨rfl, hb1⟩
  obtain ⟨g1, hz, hb⟩ := one_blk hb1
  clear hb1
  obtain ⟨X, hX⟩ : ∃ X : World, w1.alloc (.cells #[Value.slice A ws.length c, Value.int .i64 (a)] 46) = X := ⟨_, rfl⟩
  have g3 := Blk.new w1 #[Value.slice A ws.length c, Value.int .i64 (a)] 46
  have gX := g1.alloc (.cells #[Value.slice A ws.length c, Value.int .i64 (a)] 46)
  have hbX : Below w.heap.size w X := by rw [← hX]; exact hb.alloc hb.size _
  have hzX : w.heap.size ≤ X.heap.size := hbX.size
  rw [hX] at g3 gX
  obtain ⟨u, hu⟩ : ∃ u : Nat, w1.heap.size = u := ⟨_, rfl⟩
  rw [hu] at g3
  obtain ⟨k0, k1, f0, f1⟩ := gX.two
  obtain ⟨l0, l1, e0, e1⟩ := g3.two
  clear g1 g3 gX hz hb
  go_wp2_with fail
  refine (HT.out _ (HR.out.kept hbX)).mono ?_
  rintro e w' ⟨rfl, q, rfl⟩
  go_wp2_with fail
  refine (equal_u32 A A c c ws _ (HW.out.kept (below_drewN hbX q)) (HW.out.kept (below_drewN hbX q)) (by omega)).mono ?_
  rintro e w3 ⟨rfl, q2, rfl⟩
  go_wp2_with fail
  refine (dralive _).mono ?_
  rintro e w4 ⟨rfl, hb5⟩
  go_wp2_with fail
  go_ret
  exact ⟨rfl, by first | exact (below_drewN (below_drewN hbX q) q2).trans (hb5.mono hzX) | exact (below_drewN hbX (q + q2)).trans (hb5.mono hzX)⟩
set_option maxRecDepth 100000 in
set_option maxHeartbeats 1000000 in
theorem walk_dryy (A : Option Addr) (c : Nat) (ws : List Int) (a : Int) (B : Option Addr) (d : Nat) (zs : List Int) (w : World) (hw : RdI w .u32 A ws) (hr : RdI w .u64 B zs) (hl1 : ws.length ≤ 500) (hl2 : zs.length ≤ 200) (he : rightV zs = true) (ha : -9223372036854775808 ≤ a) (ha2 : a ≤ 9223372036854775807) (hx : (ws.length : Int) ≤ a) :
    Calls Try.prog 8 #[.slice B zs.length d, .agg #[.slice A ws.length c, .int .i64 a]] w fun e w' => e = .returned (.bool true) ∧ Below w.heap.size w w' := by
  have HW := Lib.hid hw
  have HR := Lib.hid hr
  have HE := Lib.hid he
  have HT := Lib.hid (fun W (h : RdI W .u64 B zs) => by have := rright_any B d zs W h (by omega); rw [he] at this; exact this)
  have HL : Hid (lf ws.length a = 0) := by unfold Hid lf; split <;> omega
  clear hw hr he
  have hx2 : ¬ a < 0 := by omega
  go_enter Try.func8, Try.ntmps8
  go_wp2_with fail
  refine (dnext_dry A ws.length c a B d zs _ (HR.out.kept ((Below.refl _ _).alloc (Nat.le_refl _) _)) (by omega) HE.out (by omega) ha ha2 HL.out).mono ?_
  rintro e w1 ⟨rfl, hb1⟩
  obtain ⟨g1, hz, hb⟩ := one_blk hb1
  clear hb1
  obtain ⟨X, hX⟩ : ∃ X : World, w1.alloc (.cells #[Value.slice A ws.length c, Value.int .i64 (a)] 46) = X := ⟨_, rfl⟩
  have g3 := Blk.new w1 #[Value.slice A ws.length c, Value.int .i64 (a)] 46
  have gX := g1.alloc (.cells #[Value.slice A ws.length c, Value.int .i64 (a)] 46)
  have hbX : Below w.heap.size w X := by rw [← hX]; exact hb.alloc hb.size _
  have hzX : w.heap.size ≤ X.heap.size := hbX.size
  rw [hX] at g3 gX
  obtain ⟨u, hu⟩ : ∃ u : Nat, w1.heap.size = u := ⟨_, rfl⟩
  rw [hu] at g3
  obtain ⟨k0, k1, f0, f1⟩ := gX.two
  obtain ⟨l0, l1, e0, e1⟩ := g3.two
  clear g1 g3 gX hz hb
  go_wp2_with fail
  refine (HT.out _ (HR.out.kept hbX)).mono ?_
  rintro e w' ⟨rfl, q, rfl⟩
  go_wp2_with fail
  refine (equal_u32 A A c c ws _ (HW.out.kept (below_drewN hbX q)) (HW.out.kept (below_drewN hbX q)) (by omega)).mono ?_
  rintro e w3 ⟨rfl, q2, rfl⟩
  go_wp2_with fail
  refine (dralive _).mono ?_
  rintro e w4 ⟨rfl, hb5⟩
  go_wp2_with fail
  go_ret
  exact ⟨rfl, by first | exact (below_drewN (below_drewN hbX q) q2).trans (hb5.mono hzX) | exact (below_drewN hbX (q + q2)).trans (hb5.mono hzX)⟩
set_option maxRecDepth 100000 in
set_option maxHeartbeats 1000000 in
theorem walk_some (b off c k : Nat) (ws : List Int) (v : Int) (B : Option Addr) (d : Nat) (zs : List Int) (m : Nat) (w : World) (hw : RdI w .u32 (some ⟨b, off, none⟩) ws) (hr : RdI w .u64 B zs) (hl1 : ws.length ≤ 500) (hl2 : zs.length ≤ 200) (he : rightV zs = true) (hk : k < ws.length) (hc : w.cell? ⟨b, off + k, none⟩ = some (.int .u32 v)) (hv : 0 ≤ v) (hv2 : v ≤ 4294967295) (hm : FirstAb zs v m) :
    Calls Try.prog 8 #[.slice B zs.length d, .agg #[.slice (some ⟨b, off, none⟩) ws.length c, .int .i64 k]] w fun e w' => e = .returned (.bool true) ∧ Below w.heap.size w w' := by
  have HW := Lib.hid hw
  have HR := Lib.hid hr
  have HE := Lib.hid he
  have HT := Lib.hid (fun W (h : RdI W .u64 B zs) => by have := rright_any B d zs W h (by omega); rw [he] at this; exact this)
  have HC := Lib.hid hc
  have HM := Lib.hid hm
  clear hc hm
  clear hw hr he
  go_enter Try.func8, Try.ntmps8
  go_wp2_with fail
  refine (dnext_some b off ws.length c k v B d zs m _ (HR.out.kept ((Below.refl _ _).alloc (Nat.le_refl _) _)) (by omega) HE.out (by omega) hk ((((Below.refl _ _).alloc (Nat.le_refl _) _).cell (lt_of_cell HC.out)).trans HC.out) hv hv2 HM.out).mono ?_
  rintro e w1 ⟨rfl, hb1⟩
  obtain ⟨g1, hz, hb⟩ := one_blk hb1
  clear hb1
  obtain ⟨X, hX⟩ : ∃ X : World, w1.alloc (.cells #[Value.slice (some ⟨b, off, none⟩) ws.length c, Value.int .i64 (k + 1)] 46) = X := ⟨_, rfl⟩
  have g3 := Blk.new w1 #[Value.slice (some ⟨b, off, none⟩) ws.length c, Value.int .i64 (k + 1)] 46
  have gX := g1.alloc (.cells #[Value.slice (some ⟨b, off, none⟩) ws.length c, Value.int .i64 (k + 1)] 46)
  have hbX : Below w.heap.size w X := by rw [← hX]; exact hb.alloc hb.size _
  have hzX : w.heap.size ≤ X.heap.size := hbX.size
  rw [hX] at g3 gX
  obtain ⟨u, hu⟩ : ∃ u : Nat, w1.heap.size = u := ⟨_, rfl⟩
  rw [hu] at g3
  obtain ⟨k0, k1, f0, f1⟩ := gX.two
  obtain ⟨l0, l1, e0, e1⟩ := g3.two
  clear g1 g3 gX hz hb
  have hcX : X.cell? ⟨b, off + k, none⟩ = some (.int .u32 v) := (hbX.cell (lt_of_cell HC.out)).trans HC.out
  go_wp2_with fail
  refine (HT.out _ (HR.out.kept hbX)).mono ?_
  rintro e w' ⟨rfl, q, rfl⟩
  go_wp2_with fail
  refine (rmeans_any B d m zs v _ (HR.out.kept (below_drewN hbX q)) (by omega) HM.out hv hv2).mono ?_
  rintro e w' ⟨rfl, rfl⟩
  go_wp2_with fail
  refine (equal_u32 (some ⟨b, off, none⟩) (some ⟨b, off, none⟩) c c ws _ (HW.out.kept (below_drewN hbX q)) (HW.out.kept (below_drewN hbX q)) (by omega)).mono ?_
  rintro e w3 ⟨rfl, q2, rfl⟩
  go_wp2_with fail
  refine (dralive _).mono ?_
  rintro e w4 ⟨rfl, hb5⟩
  go_wp2_with fail
  go_ret
  exact ⟨rfl, by first | exact (below_drewN (below_drewN hbX q) q2).trans (hb5.mono hzX) | exact (below_drewN hbX (q + q2)).trans (hb5.mono hzX)⟩
set_option maxHeartbeats 1000000 in
theorem walk_big (A : Option Addr) (c n : Nat) (a : Int) (B : Option Addr) (d m : Nat) (w : World) (hl : 200 < m ∨ 500 < n) :
    Calls Try.prog 8 #[.slice B m d, .agg #[.slice A n c, .int .i64 a]] w fun e w' => e = .returned (.bool true) ∧ Below w.heap.size w w' := by
  by_cases h : 200 < m
  · clear hl
    go_enter Try.func8, Try.ntmps8
    go_wp2_with fail
    go_ret
    exact ⟨rfl, (Below.refl _ _).alloc (Nat.le_refl _) _⟩
  · have h2 : 500 < n := by omega
    clear hl
    go_enter Try.func8, Try.ntmps8
    go_wp2_with fail
    go_ret
    exact ⟨rfl, (Below.refl _ _).alloc (Nat.le_refl _) _⟩
theorem walk {B : Option Addr} {d : Nat} {zs : List Int} {A : Option Addr} {c : Nat} {ws : List Int} {a : Int} (hld : zs.length ≤ d) (hmd : d ≤ maxLen) {w : World} (hr : RdI w .u64 B zs) (hlc : ws.length ≤ c) (hm : c ≤ maxLen) (hw : RdI w .u32 A ws) (wa : (Lit.int .i64 a).wf = true) :
    Calls Try.prog 8 #[.slice B zs.length d, .agg #[.slice A ws.length c, .int .i64 a]] w fun e w' => e = .returned (.bool true) ∧ Below w.heap.size w w' := by
  obtain ⟨a1, a2⟩ := bounds_i64 wa
  by_cases h : ws.length ≤ 500 ∧ zs.length ≤ 200
  · by_cases he : rightV zs = false
    · by_cases h0 : a < 0
      · exact walk_formx A c ws a B d zs w hw hr h.1 h.2 he h0
      · by_cases h1 : (ws.length : Int) ≤ a
        · exact walk_formy A c ws a B d zs w hw hr h.1 h.2 he h1
        · exact walk_formz A c ws a B d zs w hw hr h.1 h.2 he (by omega)
    · have he : rightV zs = true := by simpa using he
      by_cases h0 : a < 0
      · exact walk_dryx A c ws a B d zs w hw hr h.1 h.2 he a1 a2 h0
      · by_cases h1 : (ws.length : Int) ≤ a
        · exact walk_dryy A c ws a B d zs w hw hr h.1 h.2 he a1 a2 h1
        · obtain ⟨k, rfl⟩ := Int.eq_ofNat_of_zero_le (show 0 ≤ a by omega)
          obtain ⟨b, off, rfl, _, hc⟩ := rdI_row hw (by omega)
          obtain ⟨_, _, _, _, hww⟩ := hw k (by omega)
          obtain ⟨v1, v2⟩ := bounds_u32 hww
          obtain ⟨m, hm⟩ := firstAb_ex zs (zat ws k)
          exact walk_some b off c k ws _ B d zs m w hw hr h.1 h.2 he (by omega) (hc k (by omega)) v1 (by omega) hm
  · exact walk_big A c ws.length a B d zs.length w (by omega)

end Go.Proofs.Ytkepplkfjcoemab.drawNext
