/- Contracts of grid.Compare and of the chapter's example. -/
import Derived.Test.YtbbcohgkiejhjabRows
import Derived.Test.YtbbcohgkiejhjabRowKit
import Derived.Test.YtbbcohgkiejhjabBlocks
import Derived.Test.YtbbcohgkiejhjabCmp
import Derived.WalkKit
import Derived.Lib.Hide
import Derived.WalkSpells
import Derived.WalkLawsBesides
import Derived.Laws.CopyOwn
import Derived.Maps.OwnSet
import Derived.Maps.OwnOps
import Derived.DeepKeys4
import Derived.Deep.RegionHeld3
import Derived.Deep.QuietTactic
import Derived.BigQuiet
namespace Go.Proofs.Ytbbcohgkiejhjab
open Go.RowKit Go.Maps
set_option linter.unusedSimpArgs false
set_option linter.unusedVariables false
theorem wideCell : (match Try.prog.underlying 43 with | some (.array _ _) | some (.struct _) => true | _ => false) = true := by rw [Try.underlying43]
set_option maxRecDepth 100000 in
theorem cellLaw : Keyed Try.prog 43 := Keyed.of_law (Go.deep_law_laid laidOut (m := 2) (by omega) (of_decide_eq_true (by kernel_rfl)) (by kernel_rfl) wideCell)
set_option maxRecDepth 100000 in
theorem key12 : ∃ kl, keyOf Try.prog 43 (.agg #[.int .i64 1, .int .i64 2]) = some kl := Option.isSome_iff_exists.1 (by kernel_rfl)
theorem zeroInt (w : World) : (zeroValue 3).run Try.prog w = .ok (.int .i64 0) w := by kernel_rfl
set_option maxRecDepth 100000 in
set_option maxHeartbeats 400000 in
theorem gcompare_any (a b c d : Int) (w : World) :
    Calls Try.prog 21 #[.agg #[.int .i64 a, .int .i64 b], .agg #[.int .i64 c, .int .i64 d]] w fun e w' => e = .returned (.int .i64 (or2 (cmpI a c) (cmpI b d))) ∧ Below w.heap.size w w' := by
  go_enter Try.func21, Try.ntmps21
  go_wp2_with fail
  go_region_held3 (fun W => W.cell? ⟨w.heap.size, 0, none⟩ = some (.int .i64 a) ∧ W.cell? ⟨w.heap.size, 1, none⟩ = some (.int .i64 b) ∧ W.cell? ⟨w.heap.size + 1, 0, none⟩ = some (.int .i64 c) ∧ W.cell? ⟨w.heap.size + 1, 1, none⟩ = some (.int .i64 d))
    (go_keep)
    (first
      | (go_at_call_of 48 (Value.int IntKind.i64 a); refine (compareI a c _).mono ?_; rintro r w' ⟨rfl, rfl⟩)
      | (go_at_call_of 48 (Value.int IntKind.i64 b); refine (compareI b d _).mono ?_; rintro r w' ⟨rfl, rfl⟩)
      | (go_at_call 47; refine (or_two _ (cmpI a c) (cmpI b d) _ (by go_simp) (by go_simp)).mono ?_; rintro r w' ⟨rfl, rfl⟩))
  all_goals go_wp2_with fail
  all_goals go_ret
  all_goals exact ⟨rfl, ((((Below.refl _ _).alloc (Nat.le_refl _) _).alloc (by simp) _).alloc (by simp; omega) _).drew⟩
/-- the pair of the example -/
def c12 : Value := .agg #[.int .i64 1, .int .i64 2]
theorem ownsMap_drewN {H : Type} {w : World} {P : Program} {k : TypeId} {R : Value → Option (DataW H × List MemPlace)} {b n : Nat} {D : DataW H} (h : w.ownsMap P k R b n D) (j : Nat) : (w.drewN j).ownsMap P k R b n D := h
set_option maxRecDepth 100000 in
set_option maxHeartbeats 400000 in
theorem gget_nil (g : Nat) (kl : Lit) (w : World) (h : w.cell? ⟨g, 0, none⟩ = some (.map none)) (hk : keyOf Try.prog 43 (.agg #[.int .i64 1, .int .i64 2]) = some kl) :
    Calls Try.prog 50 #[.pointer (some ⟨g, 0, none⟩), (.agg #[.int .i64 1, .int .i64 2])] w fun e w' => e = .returned (.int .i64 0) ∧ Below w.heap.size w w' := by
  have hrun : ∀ W : World, (Instr.lookup 78 (.map none) (.agg #[.int .i64 1, .int .i64 2]) false).run Try.prog W = .ok (.int .i64 0) W := fun W => by
    have := look_nil (w := W) false cellLaw Try.underlying78 (zeroInt _) hk
    simpa using this
  have hb : g < w.heap.size := lt_of_cell (a := ⟨g, 0, none⟩) h
  clear hk
  go_enter Try.func50, Try.ntmps50
  go_wp2_with fail
  go_quiet (fail)
  go_wp2_with fail
  go_ret
  exact ⟨rfl, below_drewN ((Below.refl _ _).alloc (Nat.le_refl _) _) _⟩
set_option maxRecDepth 100000 in
set_option maxHeartbeats 400000 in
theorem gget_own {H : Type} (g m n : Nat) (v : Int) (kl : Lit) (D : DataW H) (w : World) (h : w.cell? ⟨g, 0, none⟩ = some (.map (some m))) (hk : keyOf Try.prog 43 (.agg #[.int .i64 1, .int .i64 2]) = some kl)
    (hown : w.ownsMap Try.prog 43 (plainElem Try.prog 3) m n D) (hat : D.atKey kl (.lit (.int .i64 0)) = .lit (.int .i64 v)) :
    Calls Try.prog 50 #[.pointer (some ⟨g, 0, none⟩), (.agg #[.int .i64 1, .int .i64 2])] w fun e w' => e = .returned (.int .i64 v) ∧ Below w.heap.size w w' := by
  have hrun : ∀ j : Nat, (Instr.lookup 78 (.map (some m)) (.agg #[.int .i64 1, .int .i64 2]) false).run Try.prog ((w.alloc (.cells #[.int .i64 1, .int .i64 2] 43)).drewN j) = .ok (.int .i64 v) ((w.alloc (.cells #[.int .i64 1, .int .i64 2] 43)).drewN j) := fun j => by
    obtain ⟨c, hr, hc, _⟩ := (ownsMap_drewN (hown.alloc (.cells #[.int .i64 1, .int .i64 2] 43)) j).lookup_int cellLaw Try.underlying78 Try.underlying3 (zeroInt _) hk
    rw [hat] at hc
    cases hc
    exact hr
  have hb : g < w.heap.size := lt_of_cell (a := ⟨g, 0, none⟩) h
  clear hk hown hat
  go_enter Try.func50, Try.ntmps50
  go_wp2_with fail
  go_quiet (fail)
  go_wp2_with fail
  go_ret
  exact ⟨rfl, below_drewN ((Below.refl _ _).alloc (Nat.le_refl _) _) _⟩
set_option maxRecDepth 100000 in
set_option maxHeartbeats 400000 in
theorem glen_own {H : Type} (g m n : Nat) (D : DataW H) (w : World) (h : w.cell? ⟨g, 0, none⟩ = some (.map (some m))) (hown : w.ownsMap Try.prog 43 (plainElem Try.prog 3) m n D) :
    Calls Try.prog 52 #[.pointer (some ⟨g, 0, none⟩)] w fun e w' => e = .returned (.int .i64 (Maps.size D)) ∧ Below w.heap.size w w' := by
  go_enter Try.func52, Try.ntmps52
  go_wp2_with (at_len; refine wpList_len_own _ rfl _ 78 rfl 43 3 Try.underlying78 _ m n D rfl hown ?_)
  go_ret
  exact ⟨rfl, Below.refl _ _⟩
theorem World.frozen?_alloc_lt' {w : World} {o : Obj} {a : Addr} (h : a.block < w.heap.size) : (w.alloc o).frozen? a = w.frozen? a := by
  have hh := Below.heap_alloc w o a.block h
  unfold World.frozen?; rw [hh]
theorem cell_next {w w' : World} {a : Addr} {v : Value} (hb : Below w.heap.size w w') (h : w.cell? a = some v) : w'.cell? a = some v := (hb.cell (lt_of_cell h)).trans h
theorem cell_draw {w : World} {a : Addr} {v : Value} (h : w.cell? a = some v) (n : Nat) : (w.drewN n).cell? a = some v := h
theorem frozen_next {w w' : World} {a : Addr} {v : Value} (hb : Below w.heap.size w w') (h : w.cell? a = some v) (hf : w.frozen? a = false) : w'.frozen? a = false := (hb.frozen (lt_of_cell h)).trans hf
theorem blk_grown {w w' : World} {g r : Nat} {t : TypeId} {cs : Array Value} (h : Blk w g t cs) (hg : w.grownBy w' (some r)) (hne : g ≠ r) : Blk w' g t cs := (hg.block g h.lt (fun e => hne (by simpa using e))).trans h
def SetP (g : Nat) (kl : Lit) (v : Int) (w : World) (e : Ending) (w' : World) : Prop := e = .returned (.tuple #[]) ∧ ∃ m, w'.cell? ⟨g, 0, none⟩ = some (.map (some m)) ∧ w'.frozen? ⟨g, 0, none⟩ = false ∧ g < m ∧
  w'.ownsMap Try.prog 43 (plainElem (H := Unit) Try.prog 3) m 1 (DataW.put (.map []) kl (.lit (.int .i64 v))) ∧ w.grownBy w' (some g) ∧ g < w'.heap.size
set_option maxRecDepth 100000 in
set_option maxHeartbeats 400000 in
theorem gset_first (g : Nat) (v : Int) (kl : Lit) (w : World) (h : w.cell? ⟨g, 0, none⟩ = some (.map none)) (hf : w.frozen? ⟨g, 0, none⟩ = false) (hk : keyOf Try.prog 43 (.agg #[.int .i64 1, .int .i64 2]) = some kl) (hv : (Lit.int .i64 v).wf = true) (hv0 : (v == 0) = false) :
    Calls Try.prog 51 #[.pointer (some ⟨g, 0, none⟩), (.agg #[.int .i64 1, .int .i64 2]), .int .i64 v] w (SetP g kl v w) := by
  have hmm := @run_makeMap Try.prog
  have heq : ∀ W : World, (binOp .eql 78 (.map none) (.map none)).run Try.prog W = .ok (.bool true) W := fun W => by
    simp only [binOp]
    simp [run_equal_map_nil W 78 43 3 none Try.underlying78]
  have hb : g < w.heap.size := lt_of_cell (a := ⟨g, 0, none⟩) h
  have hk' := Lib.hid hk
  clear hk
  have n1 : g ≠ w.heap.size := by omega
  have n2 : g ≠ w.heap.size + 1 := by omega
  go_enter Try.func51, Try.ntmps51
  go_wp2_with fail
  obtain ⟨X, hX⟩ : ∃ X : World, (((w.setCell ⟨g, 0, none⟩ (.map (some (w.heap.size + 1)))).alloc (Obj.cells #[.int .i64 1, .int .i64 2] 43)).alloc (Obj.map #[] 0)) = X := ⟨_, rfl⟩
  have hs0 : (w.setCell ⟨g, 0, none⟩ (.map (some (w.heap.size + 1)))).heap.size = w.heap.size := by simp [World.setCell]
  have hXs : X.heap.size = w.heap.size + 2 := by rw [← hX]; simp [World.setCell]
  have kW : (w.setCell ⟨g, 0, none⟩ (.map (some (w.heap.size + 1)))).cell? ⟨g, 0, none⟩ = some (.map (some (w.heap.size + 1))) := World.cell?_setCell_same _ _ _ h
  have kX : X.cell? ⟨g, 0, none⟩ = some (.map (some (w.heap.size + 1))) := by
    rw [← hX, World.cell?_alloc_lt _ _ _ (by simp [hs0]; omega), World.cell?_alloc_lt _ _ _ (by rw [hs0]; exact hb)]
    exact kW
  have gX : Blk X w.heap.size 43 #[.int .i64 1, .int .i64 2] := by
    have := (Blk.new (w.setCell ⟨g, 0, none⟩ (.map (some (w.heap.size + 1)))) #[.int .i64 1, .int .i64 2] 43).alloc (Obj.map #[] 0)
    rw [hX, hs0] at this
    exact this
  have fX : X.frozen? ⟨g, 0, none⟩ = false := by
    rw [← hX, World.frozen?_alloc_lt' (by simp [hs0]; omega), World.frozen?_alloc_lt' (by rw [hs0]; exact hb), World.frozen?_setCell]
    exact hf
  have hoX : X.ownsMap Try.prog 43 (plainElem (H := Unit) Try.prog 3) (w.heap.size + 1) 0 (.map []) := by
    have := World.ownsMap_made ((w.setCell ⟨g, 0, none⟩ (.map (some (w.heap.size + 1)))).alloc (Obj.cells #[.int .i64 1, .int .i64 2] 43)) Try.prog 43 (plainElem (H := Unit) Try.prog 3)
    rw [hX] at this
    simpa [hs0] using this
  have hbX : Below g w X := by rw [← hX]; exact (((Below.refl g w).setCell (p := ⟨g, 0, none⟩) (show g ≤ g from Nat.le_refl g) _).alloc (by rw [hs0]; omega) _).alloc (by simp [hs0]; omega) _
  have gwX : w.grownBy X (some g) := ⟨hbX.os, hbX.tape, hbX.output, hbX.size, fun i hi hne => by
    rw [← hX]
    refine (Below.heap_alloc _ _ i (by simp [hs0]; omega)).trans ((Below.heap_alloc _ _ i (by rw [hs0]; omega)).trans (Below.heap_setCell w _ _ i (fun e => hne (by rw [e]))))⟩
  obtain ⟨Y, hrun, hoY, hgY⟩ := hoX.drew.update cellLaw Try.underlying78 (by unfold maxLen; omega) hk'.out (plainElem_int (H := Unit) Try.underlying3 hv)
  have gwY : w.grownBy Y (some g) := ⟨hgY.os.trans gwX.os, hgY.tape.trans gwX.tape, hgY.output.trans gwX.output, Nat.le_trans gwX.size hgY.size, fun i hi hne => (hgY.block i (by simp [hXs]; omega) (by simp; omega)).trans (gwX.block i hi hne)⟩
  have hbY : Below g w Y := hbX.drew.grown hgY (by simp [hXs]; omega) (fun b hb' => by cases hb'; omega)
  have kY : Y.cell? ⟨g, 0, none⟩ = some (.map (some (w.heap.size + 1))) := (World.cell?_of_block (hgY.block g (by simp [hXs]; omega) (by simp; omega))).trans kX
  have fY : Y.frozen? ⟨g, 0, none⟩ = false := by
    have hblk := hgY.block g (by simp [hXs]; omega) (by simp; omega)
    have : Y.frozen? ⟨g, 0, none⟩ = X.drew.frozen? ⟨g, 0, none⟩ := by unfold World.frozen?; rw [hblk]
    rw [this]; exact fX
  have sY : g < Y.heap.size := Nat.lt_of_lt_of_le (by simp [hXs]; omega) hgY.size
  obtain ⟨c0, c1, _, _⟩ := gX.two
  rw [hX]
  clear hX hs0 kW hoX hbX gX hf h hmm heq hgY hk' fX
  go_region
  go_wp2_with fail
  go_end0
  exact ⟨rfl, w.heap.size + 1, kY, fY, by omega, hoY, gwY, sY⟩
set_option maxRecDepth 100000 in
set_option maxHeartbeats 400000 in
theorem gset_del {H : Type} (g m n : Nat) (kl : Lit) (D : DataW H) (w : World) (h : w.cell? ⟨g, 0, none⟩ = some (.map (some m))) (hk : keyOf Try.prog 43 (.agg #[.int .i64 1, .int .i64 2]) = some kl) (hgm : g < m)
    (hown : w.ownsMap Try.prog 43 (plainElem Try.prog 3) m n D) :
    Calls Try.prog 51 #[.pointer (some ⟨g, 0, none⟩), (.agg #[.int .i64 1, .int .i64 2]), .int .i64 0] w fun e w' => e = .returned (.tuple #[]) ∧ w'.cell? ⟨g, 0, none⟩ = some (.map (some m)) ∧ w'.ownsMap Try.prog 43 (plainElem Try.prog 3) m n (D.del kl) ∧ Below g w w' := by
  have hb : g < w.heap.size := lt_of_cell (a := ⟨g, 0, none⟩) h
  have hm : m < w.heap.size := hown.lt
  have hk' := Lib.hid hk
  clear hk
  go_enter Try.func51, Try.ntmps51
  go_wp2_with fail
  have hoX := hown.alloc (Obj.cells #[.int .i64 1, .int .i64 2] 43)
  have gX := Blk.new w #[.int .i64 1, .int .i64 2] 43
  have kX : (w.alloc (Obj.cells #[.int .i64 1, .int .i64 2] 43)).cell? ⟨g, 0, none⟩ = some (.map (some m)) := by rw [World.cell?_alloc_lt _ _ _ hb]; exact h
  have hbX : Below g w (w.alloc (Obj.cells #[.int .i64 1, .int .i64 2] 43)) := (Below.refl _ _).alloc (Nat.le_of_lt hb) _
  have hXs : (w.alloc (Obj.cells #[.int .i64 1, .int .i64 2] 43)).heap.size = w.heap.size + 1 := by simp
  obtain ⟨X, hX⟩ : ∃ X : World, w.alloc (Obj.cells #[.int .i64 1, .int .i64 2] 43) = X := ⟨_, rfl⟩
  rw [hX] at hoX gX kX hbX hXs
  rw [hX]
  obtain ⟨Y, hrun, hoY, hT⟩ := hoX.drew.drop cellLaw Try.underlying78 hk'.out 0
  have hgY := hT.grown
  have hbY : Below g w Y := hbX.drew.grown hgY (by simp [hXs]; omega) (fun b hb' => by cases hb'; omega)
  have kY : Y.cell? ⟨g, 0, none⟩ = some (.map (some m)) := (World.cell?_of_block (hgY.block g (by simp [hXs]; omega) (by simp; omega))).trans kX
  obtain ⟨c0, c1, _, _⟩ := gX.two
  clear hX hoX hbX gX h hgY hk' hT hown
  go_region
  go_wp2_with fail
  refine bodyPost_ret (results_none rfl _ _ _) rfl ?_
  exact ⟨rfl, kY, hoY, hbY⟩
set_option maxRecDepth 100000 in
set_option maxHeartbeats 400000 in
theorem gadd_first (g : Nat) (kl : Lit) (w : World) (h : w.cell? ⟨g, 0, none⟩ = some (.map none)) (hf : w.frozen? ⟨g, 0, none⟩ = false) (hk : keyOf Try.prog 43 (.agg #[.int .i64 1, .int .i64 2]) = some kl) :
    Calls Try.prog 49 #[.pointer (some ⟨g, 0, none⟩), (.agg #[.int .i64 1, .int .i64 2]), .int .i64 5] w (SetP g kl 5 w) := by
  have hb : g < w.heap.size := lt_of_cell (a := ⟨g, 0, none⟩) h
  have hk' := Lib.hid hk
  clear hk
  go_enter Try.func49, Try.ntmps49
  go_wp2_with fail
  have gX := Blk.new w #[.int .i64 1, .int .i64 2] 43
  have kX : (w.alloc (Obj.cells #[.int .i64 1, .int .i64 2] 43)).cell? ⟨g, 0, none⟩ = some (.map none) := by rw [World.cell?_alloc_lt _ _ _ hb]; exact h
  have fX : (w.alloc (Obj.cells #[.int .i64 1, .int .i64 2] 43)).frozen? ⟨g, 0, none⟩ = false := by rw [World.frozen?_alloc_lt' hb]; exact hf
  have gwX : w.grownBy (w.alloc (Obj.cells #[.int .i64 1, .int .i64 2] 43)) (some g) := World.grownBy_alloc w _ _
  have hXs : (w.alloc (Obj.cells #[.int .i64 1, .int .i64 2] 43)).heap.size = w.heap.size + 1 := by simp
  obtain ⟨X, hX⟩ : ∃ X : World, w.alloc (Obj.cells #[.int .i64 1, .int .i64 2] 43) = X := ⟨_, rfl⟩
  rw [hX] at gX kX fX gwX hXs
  rw [hX]
  obtain ⟨c0, c1, _, _⟩ := gX.two
  have F := Lib.hid (And.intro gX (And.intro kX fX))
  clear hX h hf kX fX gX
  go_region_held3 (fun W => W.cell? ⟨w.heap.size, 0, none⟩ = some (.int .i64 1) ∧ W.cell? ⟨w.heap.size, 1, none⟩ = some (.int .i64 2))
    (go_keep)
    (first
      | (go_at_call 50; refine (gget_nil g kl _ (cell_draw F.out.2.1 _) hk'.out).mono ?_; rintro e y1 ⟨rfl, h1⟩; have F1 := Lib.hid (And.intro (Blk.next (F.out.1.draw _) h1) (And.intro (cell_next h1 (cell_draw F.out.2.1 _)) (frozen_next h1 (cell_draw F.out.2.1 _) F.out.2.2))); clear c0 c1; obtain ⟨c0, c1, _, _⟩ := F1.out.1.two)
      | (go_at_call 51; refine (gset_first g 5 kl _ F1.out.2.1 F1.out.2.2 hk'.out (by decide) (by decide)).mono ?_; rintro e y2 ⟨rfl, m, km, fm, hgm, hom, gwm, sm⟩; have F2 := Lib.hid (blk_grown F1.out.1 gwm (by omega)); clear c0 c1; obtain ⟨c0, c1, _, _⟩ := F2.out.two))
  go_wp2_with fail
  go_end0
  have e1 : w.heap.size ≤ y1.heap.size := by have := h1.size; simp at this; omega
  exact ⟨rfl, m, km, fm, hgm, hom, ⟨gwm.os.trans (h1.os.trans gwX.os), gwm.tape.trans (h1.tape.trans gwX.tape), gwm.output.trans (h1.output.trans gwX.output), Nat.le_trans e1 gwm.size, fun i hi hne => (gwm.block i (by omega) hne).trans ((h1.block i (by simp; omega)).trans (gwX.block i hi hne))⟩, sm⟩
theorem below_grown {w w' : World} (h : Below w.heap.size w w') : w.grownBy w' none := ⟨h.os, h.tape, h.output, h.size, fun i hi _ => h.block i hi⟩
theorem same12 {kl : Lit} (hk : keyOf Try.prog 43 (.agg #[.int .i64 1, .int .i64 2]) = some kl) : kl.sameKey kl = true := WideAt.sameKey_self (cellLaw.key hk)
theorem put_at {kl : Lit} (h : kl.sameKey kl = true) (v z : DataW Unit) : (DataW.put (.map []) kl v).atKey kl z = v := by
  simp [DataW.put, DataW.insert, DataW.atKey, h]
theorem put_del {kl : Lit} (h : kl.sameKey kl = true) (v : DataW Unit) : Maps.size ((DataW.put (.map []) kl v).del kl) = 0 := by
  simp [DataW.put, DataW.insert, DataW.del, Maps.size, h]
set_option maxRecDepth 100000 in
set_option maxHeartbeats 400000 in
theorem galive_any (w : World) :
    Calls Try.prog 22 #[] w fun e w' => e = .returned (.bool true) ∧ Below w.heap.size w w' := by
  obtain ⟨kl, hk⟩ := key12
  have hs := Lib.hid (same12 hk)
  have hk' := Lib.hid hk
  clear hk
  go_enter Try.func22, Try.ntmps22
  go_wp2_with fail
  have gX := Blk.new w #[.map none] 80
  have hbX : Below w.heap.size w (w.alloc (Obj.cells #[.map none] 80)) := (Below.refl _ _).alloc (Nat.le_refl _) _
  refine (gadd_first w.heap.size kl _ (gX.cell 0) (gX.frozen 0) hk'.out).mono ?_
  rintro e x1 ⟨rfl, m, km, fm, hgm, hom, gwm, sm⟩
  have hb1 : Below w.heap.size w x1 := hbX.grown gwm (by simp) (fun b hb => by cases hb; exact Nat.le_refl _)
  have M1 := Lib.hid hom
  clear hom gX hbX gwm
  go_wp2_with fail
  refine (gget_own w.heap.size m 1 5 kl _ _ km hk'.out M1.out (put_at hs.out _ _)).mono ?_
  rintro e x2 ⟨rfl, h2⟩
  have k2 := cell_next h2 km
  have M2 := Lib.hid (M1.out.kept (below_grown h2) (by simp))
  have hb2 := hb1.trans (h2.mono hb1.size)
  clear km fm hb1 h2 M1
  go_wp2_with fail
  refine (gset_del w.heap.size m 1 kl _ _ k2 hk'.out hgm M2.out).mono ?_
  rintro e x3 ⟨rfl, k3, hom3, h3⟩
  have M3 := Lib.hid hom3
  have hb3 := hb2.trans h3
  clear hom3 hb2 h3 k2 M2
  go_wp2_with fail
  have hl := fun W : World => W
  refine (glen_own w.heap.size m 1 _ _ k3 M3.out).mono ?_
  rintro e x4 ⟨rfl, h4⟩
  rw [put_del hs.out]
  go_wp2_with fail
  go_ret
  exact ⟨rfl, hb3.trans (h4.mono hb3.size)⟩
end Go.Proofs.Ytbbcohgkiejhjab
