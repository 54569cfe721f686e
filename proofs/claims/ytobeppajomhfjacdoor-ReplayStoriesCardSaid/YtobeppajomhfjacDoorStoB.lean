/- Stories: what became of anyone, as a line. -/
import Derived.Test.YtobeppajomhfjacDoorRows
import Derived.Test.YtobeppajomhfjacDoorRowKit
import Derived.Test.YtobeppajomhfjacDoorRowS
import Derived.Test.YtobeppajomhfjacDoorRowZ
import Derived.Test.YtobeppajomhfjacDoorRowV
import Derived.Test.YtobeppajomhfjacDoorRowW
import Derived.Test.YtobeppajomhfjacDoorSlicesEq
import Derived.Test.YtobeppajomhfjacDoorBlocks
import Derived.Test.YtobeppajomhfjacDoorAtKit
import Derived.Test.YtobeppajomhfjacDoorGanttMath
import Derived.Test.YtobeppajomhfjacDoorTrackA
import Derived.WalkKit
import Derived.IntWalk
import Derived.Lib.Hide
import Derived.WalkSpells
import Derived.WalkLawsBesides
import Derived.OwnWalk
import Derived.Deep.QuietTactic
import Derived.BigQuiet
import Derived.Deep.RegionHeld3
import Derived.Deep.LoopGhost
import Derived.BigRegion
import Derived.Below
import Derived.Test.YtobeppajomhfjacDoorTrackA
import Derived.Test.YtobeppajomhfjacDoorRowW
import Derived.Test.YtobeppajomhfjacDoorRowS
import Derived.Test.YtobeppajomhfjacDoorRowZ
import Derived.Test.YtobeppajomhfjacDoorTab
import Derived.Test.YtobeppajomhfjacDoorDigB
import Derived.Test.YtobeppajomhfjacDoorShelf
import Derived.Lib.ItoaLen
import Derived.Lib.Join
namespace Go.Proofs.YtobeppajomhfjacDoor
open Go.RowKit
set_option linter.unusedSimpArgs false
set_option linter.unusedVariables false
def cmL (a b c d : Int) : List UInt8 := Lib.itoa a ++ [32, 99, 97, 109, 101, 32, 97, 116, 32] ++ Lib.itoa b ++ [32, 102, 114, 111, 109, 32] ++ Lib.itoa c ++ [32, 116, 111, 32] ++ Lib.itoa d
def inTL (a b : Int) : List UInt8 := [105, 110, 32, 97, 116, 32] ++ Lib.itoa a ++ [32, 98, 121, 32, 99, 97, 114, 32] ++ Lib.itoa b
def outTL (a : Int) : List UInt8 := [111, 117, 116, 32, 97, 116, 32] ++ Lib.itoa a
/-- what became of one of these numbers -/
def storyL (t0 t1 t2 t3 t4 t5 t6 : Int) : List UInt8 := if 0 ≤ t6 then cmL t0 t1 t2 t3 ++ [44, 32] ++ inTL t5 t4 ++ [44, 32] ++ outTL t6 else if 0 ≤ t5 then cmL t0 t1 t2 t3 ++ [44, 32] ++ inTL t5 t4 ++ [44, 32, 114, 105, 100, 101, 115] else cmL t0 t1 t2 t3 ++ [44, 32, 119, 97, 105, 116, 115]
theorem came_join (a b c d : Int) : Lib.join [Lib.itoa a, [99, 97, 109, 101, 32, 97, 116], Lib.itoa b, [102, 114, 111, 109], Lib.itoa c, [116, 111], Lib.itoa d] [32] = cmL a b c d := by
  simp [Lib.join, List.intercalate, cmL]
theorem in_join (a b : Int) : Lib.join [[105, 110, 32, 97, 116], Lib.itoa a, [98, 121, 32, 99, 97, 114], Lib.itoa b] [32] = inTL a b := by
  simp [Lib.join, List.intercalate, inTL]
theorem out_join (a : Int) : Lib.join [[111, 117, 116, 32, 97, 116], Lib.itoa a] [32] = outTL a := by
  simp [Lib.join, List.intercalate, outTL]
theorem words_any (g k : Nat) (Ls : List (List UInt8)) (w : World) (hk : Ls.length = k) (hg : Blk w g 9 (Ls.map fun l => Value.string ⟨l.toArray⟩).toArray) (hl : (Lib.join Ls [32]).length ≤ 1000) (hk2 : k ≤ 100) :
    Calls Tryd.prog 8 #[.slice (some ⟨g, 0, none⟩) k k] w fun e w' => e = .returned (.string ⟨(Lib.join Ls [32]).toArray⟩) ∧ Below w.heap.size w w' := by
  subst hk
  have hj : (Ls.map fun l => ByteArray.mk l.toArray).map (·.data.toList) = Ls := by simp [List.map_map, Function.comp_def]
  have hc : ∀ (j : Nat) x, (Ls.map fun l => ByteArray.mk l.toArray)[j]? = some x → w.cell? ⟨g, 0 + j, none⟩ = some (.string x) := fun j x hx => by
    have := hg.cell j
    rw [Nat.zero_add, this]
    rw [List.getElem?_map] at hx
    cases h : Ls[j]? with
    | none => rw [h] at hx; cases hx
    | some l => rw [h] at hx; simp at hx; subst hx; simp [h]
  have hlt := hg.lt
  have K := Lib.hid (Tryd.strings_Join g 0 Ls.length (Ls.map fun l => ByteArray.mk l.toArray) ⟨#[32]⟩ w hc hlt (by simp; omega) (by simp) (by rw [hj]; exact Nat.le_trans hl (by omega)))
  rw [hj, List.length_map] at K
  clear hg hc hj
  go_enter Tryd.func8, Tryd.ntmps8
  go_wp2_with fail
  refine K.out.mono ?_
  rintro e w1 ⟨rfl, hb⟩
  have HB := Lib.hid hb
  clear hb
  go_wp2_with fail
  go_ret
  exact ⟨rfl, HB.out⟩
def atT (t5 t6 : Int) : Int := if 0 ≤ t6 then 2 else if 0 ≤ t5 then 1 else 0
theorem tat_any (t0 t1 t2 t3 t4 t5 t6 : Int) (w : World) : Calls Tryd.prog 10 #[.agg #[.int .i64 t0, .int .i64 t1, .int .i64 t2, .int .i64 t3, .int .i64 t4, .int .i64 t5, .int .i64 t6]] w fun e w' => e = .returned (.int .i64 (atT t5 t6)) ∧ Below w.heap.size w w' := by
  have EE : Hid (Below w.heap.size w (w.alloc (.cells #[.int .i64 t0, .int .i64 t1, .int .i64 t2, .int .i64 t3, .int .i64 t4, .int .i64 t5, .int .i64 t6] 30))) := Lib.hid ((Below.refl w.heap.size w).alloc (Nat.le_refl _) _)
  by_cases h6 : 0 ≤ t6
  · have e : atT t5 t6 = 2 := if_pos h6
    rw [e]
    go_enter Tryd.func10, Tryd.ntmps10
    go_wp2_with fail
    go_ret
    exact ⟨rfl, EE.out⟩
  · by_cases h5 : 0 ≤ t5
    · have e : atT t5 t6 = 1 := by unfold atT; rw [if_neg h6, if_pos h5]
      rw [e]
      go_enter Tryd.func10, Tryd.ntmps10
      go_wp2_with fail
      go_ret
      exact ⟨rfl, EE.out⟩
    · have e : atT t5 t6 = 0 := by unfold atT; rw [if_neg h6, if_neg h5]
      rw [e]
      go_enter Tryd.func10, Tryd.ntmps10
      go_wp2_with fail
      go_ret
      exact ⟨rfl, EE.out⟩
def WfT (z : Nat → Nat → Int) (nt : Nat) : Prop := ∀ i j, i < nt → j < 7 → -9223372036854775808 ≤ z i j ∧ z i j ≤ 9223372036854775807
def stoF (z : Nat → Nat → Int) (nt : Nat) (id : Int) : List UInt8 := if 0 ≤ id ∧ id < nt then storyL (z id.toNat 0) (z id.toNat 1) (z id.toNat 2) (z id.toNat 3) (z id.toNat 4) (z id.toNat 5) (z id.toNat 6) else []
theorem tabB {w w' : World} (h : Tab w) (hb : Below w.heap.size w w') : Tab w' := tab_next h hb
theorem dof2_any (n : Int) (w : World) (ht : Hid (Tab w)) (h0 : -9223372036854775808 ≤ n) (h1 : n ≤ 9223372036854775807) :
    Calls Tryd.prog 9 #[.int .i64 n] w fun e w' => e = .returned (.string ⟨(Lib.itoa n).toArray⟩) ∧ Below w.heap.size w w' :=
  (of_any n w h0 h1 ht.out).mono fun e w' ⟨he, k, os, hw⟩ => ⟨he, by rw [hw]; exact below_grow (below_drewN (Below.refl _ _) _) (Nat.le_refl _) os⟩
set_option maxRecDepth 100000 in
set_option maxHeartbeats 40000000 in
theorem story_any {T A : Option Addr} {ct nt d n : Nat} {u id : Int} {z : Nat → Nat → Int} (w : World) (ht : Tab w) (l1 : nt ≤ ct) (m1 : ct ≤ maxLen) (ha : RdZ w 7 T nt z) (hid : (Lit.int .i64 id).wf = true) :
    Calls Tryd.prog 5 #[.agg #[.slice T nt ct, .slice A n d, .int .i64 u], .int .i64 id] w fun e w' => e = .returned (.string ⟨(stoF z nt id).toArray⟩) ∧ Below w.heap.size w w' := by
  have hM : maxLen ≤ 9223372036854775807 := by decide
  have HA := Lib.hid ha; have HTB := Lib.hid ht
  have BG := Blk.new w #[.slice T nt ct, .slice A n d, .int .i64 u] 25
  have BE : Below w.heap.size w (w.alloc (.cells #[.slice T nt ct, .slice A n d, .int .i64 u] 25)) := (Below.refl w.heap.size w).alloc (Nat.le_refl _) _
  have HBE := Lib.hid BE
  have q0 := BG.cell 0
  clear ht BG
  by_cases hn : id < 0
  · have e : stoF z nt id = [] := if_neg (by omega)
    rw [e]
    clear ha
    go_enter Tryd.func5, Tryd.ntmps5
    go_wp2_with fail
    go_ret
    exact ⟨rfl, HBE.out⟩
  obtain ⟨k, rfl⟩ : ∃ k : Nat, id = k := ⟨id.toNat, by omega⟩
  by_cases hk : nt ≤ k
  · have e : stoF z nt k = [] := if_neg (by omega)
    rw [e]
    have hki : (nt : Int) ≤ (k : Int) := by omega
    clear ha
    go_enter Tryd.func5, Tryd.ntmps5
    go_wp2_with fail
    go_ret
    exact ⟨rfl, HBE.out⟩
  have hkn : k < nt := by omega
  have hki : (k : Int) < (nt : Int) := by omega
  have hki2 : ¬ (nt : Int) ≤ (k : Int) := by omega
  have e : stoF z nt k = storyL (z k 0) (z k 1) (z k 2) (z k 3) (z k 4) (z k 5) (z k 6) := if_pos (by omega)
  rw [e]
  obtain ⟨b, o, rfl, _, hcell⟩ := rdZ_row ha (by omega) (by omega)
  have c0 : w.cell? ⟨b, o + k * 7, none⟩ = _ := hcell k 0 hkn (by omega)
  have c1 : w.cell? ⟨b, o + k * 7 + 1, none⟩ = _ := hcell k 1 hkn (by omega)
  have c2 : w.cell? ⟨b, o + k * 7 + 2, none⟩ = _ := hcell k 2 hkn (by omega)
  have c3 : w.cell? ⟨b, o + k * 7 + 3, none⟩ = _ := hcell k 3 hkn (by omega)
  have c4 : w.cell? ⟨b, o + k * 7 + 4, none⟩ = _ := hcell k 4 hkn (by omega)
  have c5 : w.cell? ⟨b, o + k * 7 + 5, none⟩ = _ := hcell k 5 hkn (by omega)
  have c6 : w.cell? ⟨b, o + k * 7 + 6, none⟩ = _ := hcell k 6 hkn (by omega)
  obtain ⟨g00, g01⟩ := rdZ_wf ha hkn (show 0 < 7 by omega)
  obtain ⟨g10, g11⟩ := rdZ_wf ha hkn (show 1 < 7 by omega)
  obtain ⟨g20, g21⟩ := rdZ_wf ha hkn (show 2 < 7 by omega)
  obtain ⟨g30, g31⟩ := rdZ_wf ha hkn (show 3 < 7 by omega)
  obtain ⟨g40, g41⟩ := rdZ_wf ha hkn (show 4 < 7 by omega)
  obtain ⟨g50, g51⟩ := rdZ_wf ha hkn (show 5 < 7 by omega)
  obtain ⟨g60, g61⟩ := rdZ_wf ha hkn (show 6 < 7 by omega)
  obtain ⟨t0, ht0⟩ : ∃ x, z k 0 = x := ⟨_, rfl⟩
  rw [ht0] at c0 g00 g01 ⊢
  have d0 := (BE.cell (p := ⟨b, o + k * 7, none⟩) (lt_of_cell c0)).trans c0
  clear c0 ht0
  obtain ⟨t1, ht1⟩ : ∃ x, z k 1 = x := ⟨_, rfl⟩
  rw [ht1] at c1 g10 g11 ⊢
  have d1 := (BE.cell (p := ⟨b, o + k * 7 + 1, none⟩) (lt_of_cell c1)).trans c1
  clear c1 ht1
  obtain ⟨t2, ht2⟩ : ∃ x, z k 2 = x := ⟨_, rfl⟩
  rw [ht2] at c2 g20 g21 ⊢
  have d2 := (BE.cell (p := ⟨b, o + k * 7 + 2, none⟩) (lt_of_cell c2)).trans c2
  clear c2 ht2
  obtain ⟨t3, ht3⟩ : ∃ x, z k 3 = x := ⟨_, rfl⟩
  rw [ht3] at c3 g30 g31 ⊢
  have d3 := (BE.cell (p := ⟨b, o + k * 7 + 3, none⟩) (lt_of_cell c3)).trans c3
  clear c3 ht3
  obtain ⟨t4, ht4⟩ : ∃ x, z k 4 = x := ⟨_, rfl⟩
  rw [ht4] at c4 g40 g41 ⊢
  have d4 := (BE.cell (p := ⟨b, o + k * 7 + 4, none⟩) (lt_of_cell c4)).trans c4
  clear c4 ht4
  obtain ⟨t5, ht5⟩ : ∃ x, z k 5 = x := ⟨_, rfl⟩
  rw [ht5] at c5 g50 g51 ⊢
  have d5 := (BE.cell (p := ⟨b, o + k * 7 + 5, none⟩) (lt_of_cell c5)).trans c5
  clear c5 ht5
  obtain ⟨t6, ht6⟩ : ∃ x, z k 6 = x := ⟨_, rfl⟩
  rw [ht6] at c6 g60 g61 ⊢
  have d6 := (BE.cell (p := ⟨b, o + k * 7 + 6, none⟩) (lt_of_cell c6)).trans c6
  clear c6 ht6
  have D0 := Lib.hid (fun W (hb : Below w.heap.size w W) => dof2_any t0 W (Lib.hid (tabB HTB.out hb)) (by omega) (by omega))
  have D1 := Lib.hid (fun W (hb : Below w.heap.size w W) => dof2_any t1 W (Lib.hid (tabB HTB.out hb)) (by omega) (by omega))
  have D2 := Lib.hid (fun W (hb : Below w.heap.size w W) => dof2_any t2 W (Lib.hid (tabB HTB.out hb)) (by omega) (by omega))
  have D3 := Lib.hid (fun W (hb : Below w.heap.size w W) => dof2_any t3 W (Lib.hid (tabB HTB.out hb)) (by omega) (by omega))
  have D4 := Lib.hid (fun W (hb : Below w.heap.size w W) => dof2_any t4 W (Lib.hid (tabB HTB.out hb)) (by omega) (by omega))
  have D5 := Lib.hid (fun W (hb : Below w.heap.size w W) => dof2_any t5 W (Lib.hid (tabB HTB.out hb)) (by omega) (by omega))
  have D6 := Lib.hid (fun W (hb : Below w.heap.size w W) => dof2_any t6 W (Lib.hid (tabB HTB.out hb)) (by omega) (by omega))
  have L0 := Lib.itoa_length_le t0 (by omega) (by omega)
  have L1 := Lib.itoa_length_le t1 (by omega) (by omega)
  have L2 := Lib.itoa_length_le t2 (by omega) (by omega)
  have L3 := Lib.itoa_length_le t3 (by omega) (by omega)
  have L4 := Lib.itoa_length_le t4 (by omega) (by omega)
  have L5 := Lib.itoa_length_le t5 (by omega) (by omega)
  have L6 := Lib.itoa_length_le t6 (by omega) (by omega)
  have HLEN := Lib.hid (And.intro L0 (And.intro L1 (And.intro L2 (And.intro L3 (And.intro L4 (And.intro L5 L6))))))
  have WC := Lib.hid (fun g W hg => words_any g 7 [Lib.itoa t0, [99, 97, 109, 101, 32, 97, 116], Lib.itoa t1, [102, 114, 111, 109], Lib.itoa t2, [116, 111], Lib.itoa t3] W rfl hg (by rw [came_join]; simp [cmL]; omega) (by omega))
  have WI := Lib.hid (fun g W hg => words_any g 4 [[105, 110, 32, 97, 116], Lib.itoa t5, [98, 121, 32, 99, 97, 114], Lib.itoa t4] W rfl hg (by rw [in_join]; simp [inTL]; omega) (by omega))
  have WT := Lib.hid (fun g W hg => words_any g 2 [[111, 117, 116, 32, 97, 116], Lib.itoa t6] W rfl hg (by rw [out_join]; simp [outTL]; omega) (by omega))
  rw [came_join] at WC
  rw [in_join] at WI
  rw [out_join] at WT
  have HAT := Lib.hid (fun W => tat_any t0 t1 t2 t3 t4 t5 t6 W)
  clear L0 L1 L2 L3 L4 L5 L6 hcell ha BE e g00 g01 g10 g11 g20 g21 g30 g31 g40 g41 g50 g51 g60 g61
  go_enter Tryd.func5, Tryd.ntmps5
  go_wp2_with fail
  have BB := (Blk.new w #[.slice (some ⟨b, o, none⟩) nt ct, .slice A n d, .int .i64 u] 25).alloc (.cells #[.int .i64 t0, .int .i64 t1, .int .i64 t2, .int .i64 t3, .int .i64 t4, .int .i64 t5, .int .i64 t6] 30)
  have BG := Blk.new (w.alloc (.cells #[.slice (some ⟨b, o, none⟩) nt ct, .slice A n d, .int .i64 u] 25)) #[.int .i64 t0, .int .i64 t1, .int .i64 t2, .int .i64 t3, .int .i64 t4, .int .i64 t5, .int .i64 t6] 30
  rw [World.size_alloc] at BG
  have BE : Below w.heap.size w ((w.alloc (.cells #[.slice (some ⟨b, o, none⟩) nt ct, .slice A n d, .int .i64 u] 25)).alloc (.cells #[.int .i64 t0, .int .i64 t1, .int .i64 t2, .int .i64 t3, .int .i64 t4, .int .i64 t5, .int .i64 t6] 30)) := ((Below.refl w.heap.size w).alloc (Nat.le_refl _) _).alloc (by simp <;> omega) _
  obtain ⟨V0, hV0⟩ : ∃ V, ((w.alloc (.cells #[.slice (some ⟨b, o, none⟩) nt ct, .slice A n d, .int .i64 u] 25)).alloc (.cells #[.int .i64 t0, .int .i64 t1, .int .i64 t2, .int .i64 t3, .int .i64 t4, .int .i64 t5, .int .i64 t6] 30)) = V := ⟨_, rfl⟩
  rw [hV0] at BB BG BE ⊢
  have HB := Lib.hid BB
  have HG := Lib.hid BG
  have EE := Lib.hid BE
  have ne0_1 : w.heap.size ≠ w.heap.size + 1 := by omega
  have ne1_0 : w.heap.size + 1 ≠ w.heap.size := by omega
  clear hV0 BE BB BG
  have kB0 : V0.cell? ⟨w.heap.size, 0, none⟩ = some (.slice (some ⟨b, o, none⟩) nt ct) := HB.out.cell 0
  have kB1 : V0.cell? ⟨w.heap.size, 1, none⟩ = some (.slice A n d) := HB.out.cell 1
  have kB2 : V0.cell? ⟨w.heap.size, 2, none⟩ = some (.int .i64 u) := HB.out.cell 2
  have kG0 : V0.cell? ⟨w.heap.size + 1, 0, none⟩ = some (.int .i64 t0) := HG.out.cell 0
  have kG1 : V0.cell? ⟨w.heap.size + 1, 1, none⟩ = some (.int .i64 t1) := HG.out.cell 1
  have kG2 : V0.cell? ⟨w.heap.size + 1, 2, none⟩ = some (.int .i64 t2) := HG.out.cell 2
  have kG3 : V0.cell? ⟨w.heap.size + 1, 3, none⟩ = some (.int .i64 t3) := HG.out.cell 3
  have kG4 : V0.cell? ⟨w.heap.size + 1, 4, none⟩ = some (.int .i64 t4) := HG.out.cell 4
  have kG5 : V0.cell? ⟨w.heap.size + 1, 5, none⟩ = some (.int .i64 t5) := HG.out.cell 5
  have kG6 : V0.cell? ⟨w.heap.size + 1, 6, none⟩ = some (.int .i64 t6) := HG.out.cell 6
  clear kB0 kB1 kB2 kG0 kG1 kG2 kG3 kG4 kG5 kG6
  clear q0 d0 d1 d2 d3 d4 d5 d6
  have kB0 : V0.cell? ⟨w.heap.size, 0, none⟩ = some (.slice (some ⟨b, o, none⟩) nt ct) := HB.out.cell 0
  have kB1 : V0.cell? ⟨w.heap.size, 1, none⟩ = some (.slice A n d) := HB.out.cell 1
  have kB2 : V0.cell? ⟨w.heap.size, 2, none⟩ = some (.int .i64 u) := HB.out.cell 2
  have kG0 : V0.cell? ⟨w.heap.size + 1, 0, none⟩ = some (.int .i64 t0) := HG.out.cell 0
  have kG1 : V0.cell? ⟨w.heap.size + 1, 1, none⟩ = some (.int .i64 t1) := HG.out.cell 1
  have kG2 : V0.cell? ⟨w.heap.size + 1, 2, none⟩ = some (.int .i64 t2) := HG.out.cell 2
  have kG3 : V0.cell? ⟨w.heap.size + 1, 3, none⟩ = some (.int .i64 t3) := HG.out.cell 3
  have kG4 : V0.cell? ⟨w.heap.size + 1, 4, none⟩ = some (.int .i64 t4) := HG.out.cell 4
  have kG5 : V0.cell? ⟨w.heap.size + 1, 5, none⟩ = some (.int .i64 t5) := HG.out.cell 5
  have kG6 : V0.cell? ⟨w.heap.size + 1, 6, none⟩ = some (.int .i64 t6) := HG.out.cell 6
  have sK : ∀ X, Blk X (w.heap.size + 1) 30 #[.int .i64 t0, .int .i64 t1, .int .i64 t2, .int .i64 t3, .int .i64 t4, .int .i64 t5, .int .i64 t6] → (fun X => X.cell? ⟨w.heap.size + 1, 0, none⟩ = some (.int .i64 t0) ∧ X.cell? ⟨w.heap.size + 1, 1, none⟩ = some (.int .i64 t1) ∧ X.cell? ⟨w.heap.size + 1, 2, none⟩ = some (.int .i64 t2) ∧ X.cell? ⟨w.heap.size + 1, 3, none⟩ = some (.int .i64 t3) ∧ X.cell? ⟨w.heap.size + 1, 4, none⟩ = some (.int .i64 t4) ∧ X.cell? ⟨w.heap.size + 1, 5, none⟩ = some (.int .i64 t5) ∧ X.cell? ⟨w.heap.size + 1, 6, none⟩ = some (.int .i64 t6)) X := fun X hG => ⟨hG.cell 0, hG.cell 1, hG.cell 2, hG.cell 3, hG.cell 4, hG.cell 5, hG.cell 6⟩
  have LG0 := Lib.hid (HG.out.drew)
  have E0 := Lib.hid (EE.out.drew)
  clear kB0 kB1 kB2 kG0 kG1 kG2 kG3 kG4 kG5 kG6
  refine wp_region_held_drew (S := (fun X => X.cell? ⟨w.heap.size + 1, 0, none⟩ = some (.int .i64 t0) ∧ X.cell? ⟨w.heap.size + 1, 1, none⟩ = some (.int .i64 t1) ∧ X.cell? ⟨w.heap.size + 1, 2, none⟩ = some (.int .i64 t2) ∧ X.cell? ⟨w.heap.size + 1, 3, none⟩ = some (.int .i64 t3) ∧ X.cell? ⟨w.heap.size + 1, 4, none⟩ = some (.int .i64 t4) ∧ X.cell? ⟨w.heap.size + 1, 5, none⟩ = some (.int .i64 t5) ∧ X.cell? ⟨w.heap.size + 1, 6, none⟩ = some (.int .i64 t6))) (by kernel_rfl) (sK _ LG0.out) (fun hHeld => ?_)
  clear hHeld
  refine wpAnyH_take (i := 0) (v := ?_) rfl (by kernel_rfl) (by kernel_rfl) (by kernel_rfl) (fun _ _ _ h => h) (Or.inl ⟨by rfl, ?_⟩) (sK _ LG0.out) ?_
  rotate_left
  · (intro wS hSw; (try dsimp only at hSw); go_simp; try with_reducible rfl)
  simp only [Act.put, List.getElem_toArray, List.getElem_cons_zero, List.getElem_cons_succ, List.setIfInBounds_toArray, List.set_cons_zero, List.set_cons_succ]
  refine wpAnyH_take (i := 1) (v := ?_) rfl (by kernel_rfl) (by kernel_rfl) (by kernel_rfl) (fun _ _ _ h => h) (Or.inl ⟨by rfl, ?_⟩) (sK _ LG0.out) ?_
  rotate_left
  · (intro wS hSw; (try dsimp only at hSw); go_simp; try with_reducible rfl)
  simp only [Act.put, List.getElem_toArray, List.getElem_cons_zero, List.getElem_cons_succ, List.setIfInBounds_toArray, List.set_cons_zero, List.set_cons_succ]
  refine wpAnyH_take (i := 3) (v := ?_) rfl (by kernel_rfl) (by kernel_rfl) (by kernel_rfl) (fun _ _ _ h => h) (Or.inl ⟨by rfl, ?_⟩) (sK _ LG0.out) ?_
  rotate_left
  · (intro wS hSw; (try dsimp only at hSw); go_simp; try with_reducible rfl)
  simp only [Act.put, List.getElem_toArray, List.getElem_cons_zero, List.getElem_cons_succ, List.setIfInBounds_toArray, List.set_cons_zero, List.set_cons_succ]
  refine wpAnyH_take (i := 4) (v := ?_) rfl (by kernel_rfl) (by kernel_rfl) (by kernel_rfl) (fun _ _ _ h => h) (Or.inl ⟨by rfl, ?_⟩) (sK _ LG0.out) ?_
  rotate_left
  · (intro wS hSw; (try dsimp only at hSw); go_simp; try with_reducible rfl)
  simp only [Act.put, List.getElem_toArray, List.getElem_cons_zero, List.getElem_cons_succ, List.setIfInBounds_toArray, List.set_cons_zero, List.set_cons_succ]
  refine wpAnyH_take (i := 6) (v := ?_) rfl (by kernel_rfl) (by kernel_rfl) (by kernel_rfl) (fun _ _ _ h => h) (Or.inl ⟨by rfl, ?_⟩) (sK _ LG0.out) ?_
  rotate_left
  · (intro wS hSw; (try dsimp only at hSw); go_simp; try with_reducible rfl)
  simp only [Act.put, List.getElem_toArray, List.getElem_cons_zero, List.getElem_cons_succ, List.setIfInBounds_toArray, List.set_cons_zero, List.set_cons_succ]
  refine wpAnyH_take (i := 7) (v := ?_) rfl (by kernel_rfl) (by kernel_rfl) (by kernel_rfl) (fun _ _ _ h => h) (Or.inl ⟨by rfl, ?_⟩) (sK _ LG0.out) ?_
  rotate_left
  · (intro wS hSw; (try dsimp only at hSw); go_simp; try with_reducible rfl)
  simp only [Act.put, List.getElem_toArray, List.getElem_cons_zero, List.getElem_cons_succ, List.setIfInBounds_toArray, List.set_cons_zero, List.set_cons_succ]
  refine wpAnyH_take (i := 9) (v := ?_) rfl (by kernel_rfl) (by kernel_rfl) (by kernel_rfl) (fun _ _ _ h => h) (Or.inl ⟨by rfl, ?_⟩) (sK _ LG0.out) ?_
  rotate_left
  · (intro wS hSw; (try dsimp only at hSw); go_simp; try with_reducible rfl)
  simp only [Act.put, List.getElem_toArray, List.getElem_cons_zero, List.getElem_cons_succ, List.setIfInBounds_toArray, List.set_cons_zero, List.set_cons_succ]
  refine wpAnyH_take (i := 10) (v := ?_) rfl (by kernel_rfl) (by kernel_rfl) (by kernel_rfl) (fun _ _ _ h => h) (Or.inl ⟨by rfl, ?_⟩) (sK _ LG0.out) ?_
  rotate_left
  · (intro wS hSw; (try dsimp only at hSw); go_simp; try with_reducible rfl)
  simp only [Act.put, List.getElem_toArray, List.getElem_cons_zero, List.getElem_cons_succ, List.setIfInBounds_toArray, List.set_cons_zero, List.set_cons_succ]
  refine wpAnyH_ready (rs := [2]) (by kernel_rfl) (by simp) ?_
  refine AllReadyH.cons rfl (fun K hK => ?_) AllReadyH.nil
  go_simp
  refine (D0.out _ E0.out).mono ?_
  rintro e r1 ⟨rfl, hb⟩
  have LG1 := Lib.hid (Blk.next (w := V0.drew) LG0.out hb)
  have E1 := Lib.hid (E0.out.trans (hb.mono E0.out.size))
  clear hb
  go_wp2_with fail
  refine hK.out _ _ (sK _ LG1.out) (fun hHeld => ?_)
  clear hK K hHeld
  try simp only [Act.put, List.getElem_toArray, List.getElem_cons_zero, List.getElem_cons_succ, List.setIfInBounds_toArray, List.set_cons_zero, List.set_cons_succ]
  refine wpAnyH_ready (rs := [5]) (by kernel_rfl) (by simp) ?_
  refine AllReadyH.cons rfl (fun K hK => ?_) AllReadyH.nil
  go_simp
  refine (D1.out _ E1.out).mono ?_
  rintro e r2 ⟨rfl, hb⟩
  have LG2 := Lib.hid (Blk.next (w := r1) LG1.out hb)
  have E2 := Lib.hid (E1.out.trans (hb.mono E1.out.size))
  clear hb
  go_wp2_with fail
  refine hK.out _ _ (sK _ LG2.out) (fun hHeld => ?_)
  clear hK K hHeld
  try simp only [Act.put, List.getElem_toArray, List.getElem_cons_zero, List.getElem_cons_succ, List.setIfInBounds_toArray, List.set_cons_zero, List.set_cons_succ]
  refine wpAnyH_ready (rs := [8]) (by kernel_rfl) (by simp) ?_
  refine AllReadyH.cons rfl (fun K hK => ?_) AllReadyH.nil
  go_simp
  refine (D2.out _ E2.out).mono ?_
  rintro e r3 ⟨rfl, hb⟩
  have LG3 := Lib.hid (Blk.next (w := r2) LG2.out hb)
  have E3 := Lib.hid (E2.out.trans (hb.mono E2.out.size))
  clear hb
  go_wp2_with fail
  refine hK.out _ _ (sK _ LG3.out) (fun hHeld => ?_)
  clear hK K hHeld
  try simp only [Act.put, List.getElem_toArray, List.getElem_cons_zero, List.getElem_cons_succ, List.setIfInBounds_toArray, List.set_cons_zero, List.set_cons_succ]
  refine wpAnyH_ready (rs := [11]) (by kernel_rfl) (by simp) ?_
  refine AllReadyH.cons rfl (fun K hK => ?_) AllReadyH.nil
  go_simp
  refine (D3.out _ E3.out).mono ?_
  rintro e r4 ⟨rfl, hb⟩
  have LG4 := Lib.hid (Blk.next (w := r3) LG3.out hb)
  have E4 := Lib.hid (E3.out.trans (hb.mono E3.out.size))
  clear hb
  go_wp2_with fail
  refine hK.out _ _ (sK _ LG4.out) (fun hHeld => ?_)
  clear hK K hHeld
  try simp only [Act.put, List.getElem_toArray, List.getElem_cons_zero, List.getElem_cons_succ, List.setIfInBounds_toArray, List.set_cons_zero, List.set_cons_succ]
  refine wpAnyH_ready (rs := [12]) (by kernel_rfl) (by simp) ?_
  refine AllReadyH.cons rfl (fun K hK => ?_) AllReadyH.nil
  go_simp
  have LG5 : Blk ((r4.alloc (.cells #[.string ⟨(Lib.itoa t0).toArray⟩, .string ⟨#[99, 97, 109, 101, 32, 97, 116]⟩, .string ⟨(Lib.itoa t1).toArray⟩, .string ⟨#[102, 114, 111, 109]⟩, .string ⟨(Lib.itoa t2).toArray⟩, .string ⟨#[116, 111]⟩, .string ⟨(Lib.itoa t3).toArray⟩] 9))) (w.heap.size + 1) 30 #[.int .i64 t0, .int .i64 t1, .int .i64 t2, .int .i64 t3, .int .i64 t4, .int .i64 t5, .int .i64 t6] := Blk.alloc (w := r4) LG4.out (.cells #[.string ⟨(Lib.itoa t0).toArray⟩, .string ⟨#[99, 97, 109, 101, 32, 97, 116]⟩, .string ⟨(Lib.itoa t1).toArray⟩, .string ⟨#[102, 114, 111, 109]⟩, .string ⟨(Lib.itoa t2).toArray⟩, .string ⟨#[116, 111]⟩, .string ⟨(Lib.itoa t3).toArray⟩] 9)
  have LN5 : Blk ((r4.alloc (.cells #[.string ⟨(Lib.itoa t0).toArray⟩, .string ⟨#[99, 97, 109, 101, 32, 97, 116]⟩, .string ⟨(Lib.itoa t1).toArray⟩, .string ⟨#[102, 114, 111, 109]⟩, .string ⟨(Lib.itoa t2).toArray⟩, .string ⟨#[116, 111]⟩, .string ⟨(Lib.itoa t3).toArray⟩] 9))) r4.heap.size 9 #[.string ⟨(Lib.itoa t0).toArray⟩, .string ⟨#[99, 97, 109, 101, 32, 97, 116]⟩, .string ⟨(Lib.itoa t1).toArray⟩, .string ⟨#[102, 114, 111, 109]⟩, .string ⟨(Lib.itoa t2).toArray⟩, .string ⟨#[116, 111]⟩, .string ⟨(Lib.itoa t3).toArray⟩] := Blk.new r4 _ _
  have E5 : Below w.heap.size w ((r4.alloc (.cells #[.string ⟨(Lib.itoa t0).toArray⟩, .string ⟨#[99, 97, 109, 101, 32, 97, 116]⟩, .string ⟨(Lib.itoa t1).toArray⟩, .string ⟨#[102, 114, 111, 109]⟩, .string ⟨(Lib.itoa t2).toArray⟩, .string ⟨#[116, 111]⟩, .string ⟨(Lib.itoa t3).toArray⟩] 9))) := (E4.out.alloc E4.out.size (.cells #[.string ⟨(Lib.itoa t0).toArray⟩, .string ⟨#[99, 97, 109, 101, 32, 97, 116]⟩, .string ⟨(Lib.itoa t1).toArray⟩, .string ⟨#[102, 114, 111, 109]⟩, .string ⟨(Lib.itoa t2).toArray⟩, .string ⟨#[116, 111]⟩, .string ⟨(Lib.itoa t3).toArray⟩] 9))
  obtain ⟨r5, hr5⟩ : ∃ V, (r4.alloc (.cells #[.string ⟨(Lib.itoa t0).toArray⟩, .string ⟨#[99, 97, 109, 101, 32, 97, 116]⟩, .string ⟨(Lib.itoa t1).toArray⟩, .string ⟨#[102, 114, 111, 109]⟩, .string ⟨(Lib.itoa t2).toArray⟩, .string ⟨#[116, 111]⟩, .string ⟨(Lib.itoa t3).toArray⟩] 9)) = V := ⟨_, rfl⟩
  obtain ⟨ge, hg5⟩ : ∃ g, r4.heap.size = g := ⟨_, rfl⟩
  try rw [hr5]
  try rw [hg5]
  simp only [hr5, hg5] at LG5 LN5 E5
  try simp only [hr5, hg5]
  clear hr5 hg5
  replace LG5 := Lib.hid LG5
  replace LN5 := Lib.hid LN5
  replace E5 := Lib.hid E5
  refine hK.out _ _ (sK _ LG5.out) (fun hHeld => ?_)
  clear hK K hHeld
  try simp only [Act.put, List.getElem_toArray, List.getElem_cons_zero, List.getElem_cons_succ, List.setIfInBounds_toArray, List.set_cons_zero, List.set_cons_succ]
  refine wpAnyH_ready (rs := [13]) (by kernel_rfl) (by simp) ?_
  refine AllReadyH.cons rfl (fun K hK => ?_) AllReadyH.nil
  go_simp
  refine (WC.out _ _ LN5.out).mono ?_
  rintro e r6 ⟨rfl, hb⟩
  have LG6 := Lib.hid (Blk.next (w := r5) LG5.out hb)
  have E6 := Lib.hid (E5.out.trans (hb.mono E5.out.size))
  clear hb
  go_wp2_with fail
  refine hK.out _ _ (sK _ LG6.out) (fun hHeld => ?_)
  clear hK K hHeld
  try simp only [Act.put, List.getElem_toArray, List.getElem_cons_zero, List.getElem_cons_succ, List.setIfInBounds_toArray, List.set_cons_zero, List.set_cons_succ]
  refine wpAnyH_take (i := 14) (v := ?_) rfl (by kernel_rfl) (by kernel_rfl) (by kernel_rfl) (fun _ _ _ h => h) (Or.inl ⟨by rfl, ?_⟩) (sK _ LG6.out) ?_
  rotate_left
  · (intro wS hSw; (try dsimp only at hSw); go_simp; try with_reducible rfl)
  simp only [Act.put, List.getElem_toArray, List.getElem_cons_zero, List.getElem_cons_succ, List.setIfInBounds_toArray, List.set_cons_zero, List.set_cons_succ]
  refine wpAnyH_done (by kernel_rfl) ?_ _
  have HG := LG6
  have EE := E6
  have kG0 : r6.cell? ⟨w.heap.size + 1, 0, none⟩ = some (.int .i64 t0) := HG.out.cell 0
  have kG1 : r6.cell? ⟨w.heap.size + 1, 1, none⟩ = some (.int .i64 t1) := HG.out.cell 1
  have kG2 : r6.cell? ⟨w.heap.size + 1, 2, none⟩ = some (.int .i64 t2) := HG.out.cell 2
  have kG3 : r6.cell? ⟨w.heap.size + 1, 3, none⟩ = some (.int .i64 t3) := HG.out.cell 3
  have kG4 : r6.cell? ⟨w.heap.size + 1, 4, none⟩ = some (.int .i64 t4) := HG.out.cell 4
  have kG5 : r6.cell? ⟨w.heap.size + 1, 5, none⟩ = some (.int .i64 t5) := HG.out.cell 5
  have kG6 : r6.cell? ⟨w.heap.size + 1, 6, none⟩ = some (.int .i64 t6) := HG.out.cell 6
  clear kG0 kG1 kG2 kG3 kG4 kG5 kG6
  obtain ⟨V1, rfl⟩ : ∃ V, V = r6 := ⟨_, rfl⟩
  have kG0 : V1.cell? ⟨w.heap.size + 1, 0, none⟩ = some (.int .i64 t0) := HG.out.cell 0
  have kG1 : V1.cell? ⟨w.heap.size + 1, 1, none⟩ = some (.int .i64 t1) := HG.out.cell 1
  have kG2 : V1.cell? ⟨w.heap.size + 1, 2, none⟩ = some (.int .i64 t2) := HG.out.cell 2
  have kG3 : V1.cell? ⟨w.heap.size + 1, 3, none⟩ = some (.int .i64 t3) := HG.out.cell 3
  have kG4 : V1.cell? ⟨w.heap.size + 1, 4, none⟩ = some (.int .i64 t4) := HG.out.cell 4
  have kG5 : V1.cell? ⟨w.heap.size + 1, 5, none⟩ = some (.int .i64 t5) := HG.out.cell 5
  have kG6 : V1.cell? ⟨w.heap.size + 1, 6, none⟩ = some (.int .i64 t6) := HG.out.cell 6
  go_wp2_with fail
  have sK : ∀ X, Blk X (w.heap.size + 1) 30 #[.int .i64 t0, .int .i64 t1, .int .i64 t2, .int .i64 t3, .int .i64 t4, .int .i64 t5, .int .i64 t6] → (fun X => X.cell? ⟨w.heap.size + 1, 0, none⟩ = some (.int .i64 t0) ∧ X.cell? ⟨w.heap.size + 1, 1, none⟩ = some (.int .i64 t1) ∧ X.cell? ⟨w.heap.size + 1, 2, none⟩ = some (.int .i64 t2) ∧ X.cell? ⟨w.heap.size + 1, 3, none⟩ = some (.int .i64 t3) ∧ X.cell? ⟨w.heap.size + 1, 4, none⟩ = some (.int .i64 t4) ∧ X.cell? ⟨w.heap.size + 1, 5, none⟩ = some (.int .i64 t5) ∧ X.cell? ⟨w.heap.size + 1, 6, none⟩ = some (.int .i64 t6)) X := fun X hG => ⟨hG.cell 0, hG.cell 1, hG.cell 2, hG.cell 3, hG.cell 4, hG.cell 5, hG.cell 6⟩
  have LG0 := Lib.hid (HG.out.drew)
  have E0 := Lib.hid (EE.out.drew)
  clear kG0 kG1 kG2 kG3 kG4 kG5 kG6
  refine wp_region_held_drew (S := (fun X => X.cell? ⟨w.heap.size + 1, 0, none⟩ = some (.int .i64 t0) ∧ X.cell? ⟨w.heap.size + 1, 1, none⟩ = some (.int .i64 t1) ∧ X.cell? ⟨w.heap.size + 1, 2, none⟩ = some (.int .i64 t2) ∧ X.cell? ⟨w.heap.size + 1, 3, none⟩ = some (.int .i64 t3) ∧ X.cell? ⟨w.heap.size + 1, 4, none⟩ = some (.int .i64 t4) ∧ X.cell? ⟨w.heap.size + 1, 5, none⟩ = some (.int .i64 t5) ∧ X.cell? ⟨w.heap.size + 1, 6, none⟩ = some (.int .i64 t6))) (by kernel_rfl) (sK _ LG0.out) (fun hHeld => ?_)
  clear hHeld
  refine wpAnyH_take (i := 0) (v := ?_) rfl (by kernel_rfl) (by kernel_rfl) (by kernel_rfl) (fun _ _ _ h => h) (Or.inl ⟨by rfl, ?_⟩) (sK _ LG0.out) ?_
  rotate_left
  · (intro wS hSw; (try dsimp only at hSw); go_simp; try with_reducible rfl)
  simp only [Act.put, List.getElem_toArray, List.getElem_cons_zero, List.getElem_cons_succ, List.setIfInBounds_toArray, List.set_cons_zero, List.set_cons_succ]
  refine wpAnyH_take (i := 1) (v := ?_) rfl (by kernel_rfl) (by kernel_rfl) (by kernel_rfl) (fun _ _ _ h => h) (Or.inl ⟨by rfl, ?_⟩) (sK _ LG0.out) ?_
  rotate_left
  · (intro wS hSw; (try dsimp only at hSw); go_simp; try with_reducible rfl)
  simp only [Act.put, List.getElem_toArray, List.getElem_cons_zero, List.getElem_cons_succ, List.setIfInBounds_toArray, List.set_cons_zero, List.set_cons_succ]
  refine wpAnyH_take (i := 3) (v := ?_) rfl (by kernel_rfl) (by kernel_rfl) (by kernel_rfl) (fun _ _ _ h => h) (Or.inl ⟨by rfl, ?_⟩) (sK _ LG0.out) ?_
  rotate_left
  · (intro wS hSw; (try dsimp only at hSw); go_simp; try with_reducible rfl)
  simp only [Act.put, List.getElem_toArray, List.getElem_cons_zero, List.getElem_cons_succ, List.setIfInBounds_toArray, List.set_cons_zero, List.set_cons_succ]
  refine wpAnyH_take (i := 4) (v := ?_) rfl (by kernel_rfl) (by kernel_rfl) (by kernel_rfl) (fun _ _ _ h => h) (Or.inl ⟨by rfl, ?_⟩) (sK _ LG0.out) ?_
  rotate_left
  · (intro wS hSw; (try dsimp only at hSw); go_simp; try with_reducible rfl)
  simp only [Act.put, List.getElem_toArray, List.getElem_cons_zero, List.getElem_cons_succ, List.setIfInBounds_toArray, List.set_cons_zero, List.set_cons_succ]
  refine wpAnyH_ready (rs := [2]) (by kernel_rfl) (by simp) ?_
  refine AllReadyH.cons rfl (fun K hK => ?_) AllReadyH.nil
  go_simp
  refine (D5.out _ E0.out).mono ?_
  rintro e r1 ⟨rfl, hb⟩
  have LG1 := Lib.hid (Blk.next (w := V1.drew) LG0.out hb)
  have E1 := Lib.hid (E0.out.trans (hb.mono E0.out.size))
  clear hb
  go_wp2_with fail
  refine hK.out _ _ (sK _ LG1.out) (fun hHeld => ?_)
  clear hK K hHeld
  try simp only [Act.put, List.getElem_toArray, List.getElem_cons_zero, List.getElem_cons_succ, List.setIfInBounds_toArray, List.set_cons_zero, List.set_cons_succ]
  refine wpAnyH_ready (rs := [5]) (by kernel_rfl) (by simp) ?_
  refine AllReadyH.cons rfl (fun K hK => ?_) AllReadyH.nil
  go_simp
  refine (D4.out _ E1.out).mono ?_
  rintro e r2 ⟨rfl, hb⟩
  have LG2 := Lib.hid (Blk.next (w := r1) LG1.out hb)
  have E2 := Lib.hid (E1.out.trans (hb.mono E1.out.size))
  clear hb
  go_wp2_with fail
  refine hK.out _ _ (sK _ LG2.out) (fun hHeld => ?_)
  clear hK K hHeld
  try simp only [Act.put, List.getElem_toArray, List.getElem_cons_zero, List.getElem_cons_succ, List.setIfInBounds_toArray, List.set_cons_zero, List.set_cons_succ]
  refine wpAnyH_ready (rs := [6]) (by kernel_rfl) (by simp) ?_
  refine AllReadyH.cons rfl (fun K hK => ?_) AllReadyH.nil
  go_simp
  have LG3 : Blk ((r2.alloc (.cells #[.string ⟨#[105, 110, 32, 97, 116]⟩, .string ⟨(Lib.itoa t5).toArray⟩, .string ⟨#[98, 121, 32, 99, 97, 114]⟩, .string ⟨(Lib.itoa t4).toArray⟩] 9))) (w.heap.size + 1) 30 #[.int .i64 t0, .int .i64 t1, .int .i64 t2, .int .i64 t3, .int .i64 t4, .int .i64 t5, .int .i64 t6] := Blk.alloc (w := r2) LG2.out (.cells #[.string ⟨#[105, 110, 32, 97, 116]⟩, .string ⟨(Lib.itoa t5).toArray⟩, .string ⟨#[98, 121, 32, 99, 97, 114]⟩, .string ⟨(Lib.itoa t4).toArray⟩] 9)
  have LN3 : Blk ((r2.alloc (.cells #[.string ⟨#[105, 110, 32, 97, 116]⟩, .string ⟨(Lib.itoa t5).toArray⟩, .string ⟨#[98, 121, 32, 99, 97, 114]⟩, .string ⟨(Lib.itoa t4).toArray⟩] 9))) r2.heap.size 9 #[.string ⟨#[105, 110, 32, 97, 116]⟩, .string ⟨(Lib.itoa t5).toArray⟩, .string ⟨#[98, 121, 32, 99, 97, 114]⟩, .string ⟨(Lib.itoa t4).toArray⟩] := Blk.new r2 _ _
  have E3 : Below w.heap.size w ((r2.alloc (.cells #[.string ⟨#[105, 110, 32, 97, 116]⟩, .string ⟨(Lib.itoa t5).toArray⟩, .string ⟨#[98, 121, 32, 99, 97, 114]⟩, .string ⟨(Lib.itoa t4).toArray⟩] 9))) := (E2.out.alloc E2.out.size (.cells #[.string ⟨#[105, 110, 32, 97, 116]⟩, .string ⟨(Lib.itoa t5).toArray⟩, .string ⟨#[98, 121, 32, 99, 97, 114]⟩, .string ⟨(Lib.itoa t4).toArray⟩] 9))
  obtain ⟨r3, hr3⟩ : ∃ V, (r2.alloc (.cells #[.string ⟨#[105, 110, 32, 97, 116]⟩, .string ⟨(Lib.itoa t5).toArray⟩, .string ⟨#[98, 121, 32, 99, 97, 114]⟩, .string ⟨(Lib.itoa t4).toArray⟩] 9)) = V := ⟨_, rfl⟩
  obtain ⟨gi, hg3⟩ : ∃ g, r2.heap.size = g := ⟨_, rfl⟩
  try rw [hr3]
  try rw [hg3]
  simp only [hr3, hg3] at LG3 LN3 E3
  try simp only [hr3, hg3]
  clear hr3 hg3
  replace LG3 := Lib.hid LG3
  replace LN3 := Lib.hid LN3
  replace E3 := Lib.hid E3
  refine hK.out _ _ (sK _ LG3.out) (fun hHeld => ?_)
  clear hK K hHeld
  try simp only [Act.put, List.getElem_toArray, List.getElem_cons_zero, List.getElem_cons_succ, List.setIfInBounds_toArray, List.set_cons_zero, List.set_cons_succ]
  refine wpAnyH_ready (rs := [7]) (by kernel_rfl) (by simp) ?_
  refine AllReadyH.cons rfl (fun K hK => ?_) AllReadyH.nil
  go_simp
  refine (WI.out _ _ LN3.out).mono ?_
  rintro e r4 ⟨rfl, hb⟩
  have LG4 := Lib.hid (Blk.next (w := r3) LG3.out hb)
  have E4 := Lib.hid (E3.out.trans (hb.mono E3.out.size))
  clear hb
  go_wp2_with fail
  refine hK.out _ _ (sK _ LG4.out) (fun hHeld => ?_)
  clear hK K hHeld
  try simp only [Act.put, List.getElem_toArray, List.getElem_cons_zero, List.getElem_cons_succ, List.setIfInBounds_toArray, List.set_cons_zero, List.set_cons_succ]
  refine wpAnyH_take (i := 8) (v := ?_) rfl (by kernel_rfl) (by kernel_rfl) (by kernel_rfl) (fun _ _ _ h => h) (Or.inl ⟨by rfl, ?_⟩) (sK _ LG4.out) ?_
  rotate_left
  · (intro wS hSw; (try dsimp only at hSw); go_simp; try with_reducible rfl)
  simp only [Act.put, List.getElem_toArray, List.getElem_cons_zero, List.getElem_cons_succ, List.setIfInBounds_toArray, List.set_cons_zero, List.set_cons_succ]
  refine wpAnyH_done (by kernel_rfl) ?_ _
  have HG := LG4
  have EE := E4
  have kG0 : r4.cell? ⟨w.heap.size + 1, 0, none⟩ = some (.int .i64 t0) := HG.out.cell 0
  have kG1 : r4.cell? ⟨w.heap.size + 1, 1, none⟩ = some (.int .i64 t1) := HG.out.cell 1
  have kG2 : r4.cell? ⟨w.heap.size + 1, 2, none⟩ = some (.int .i64 t2) := HG.out.cell 2
  have kG3 : r4.cell? ⟨w.heap.size + 1, 3, none⟩ = some (.int .i64 t3) := HG.out.cell 3
  have kG4 : r4.cell? ⟨w.heap.size + 1, 4, none⟩ = some (.int .i64 t4) := HG.out.cell 4
  have kG5 : r4.cell? ⟨w.heap.size + 1, 5, none⟩ = some (.int .i64 t5) := HG.out.cell 5
  have kG6 : r4.cell? ⟨w.heap.size + 1, 6, none⟩ = some (.int .i64 t6) := HG.out.cell 6
  clear kG0 kG1 kG2 kG3 kG4 kG5 kG6
  obtain ⟨V2, rfl⟩ : ∃ V, V = r4 := ⟨_, rfl⟩
  have kG0 : V2.cell? ⟨w.heap.size + 1, 0, none⟩ = some (.int .i64 t0) := HG.out.cell 0
  have kG1 : V2.cell? ⟨w.heap.size + 1, 1, none⟩ = some (.int .i64 t1) := HG.out.cell 1
  have kG2 : V2.cell? ⟨w.heap.size + 1, 2, none⟩ = some (.int .i64 t2) := HG.out.cell 2
  have kG3 : V2.cell? ⟨w.heap.size + 1, 3, none⟩ = some (.int .i64 t3) := HG.out.cell 3
  have kG4 : V2.cell? ⟨w.heap.size + 1, 4, none⟩ = some (.int .i64 t4) := HG.out.cell 4
  have kG5 : V2.cell? ⟨w.heap.size + 1, 5, none⟩ = some (.int .i64 t5) := HG.out.cell 5
  have kG6 : V2.cell? ⟨w.heap.size + 1, 6, none⟩ = some (.int .i64 t6) := HG.out.cell 6
  go_wp2_with fail
  refine (HAT.out _).mono ?_
  rintro e v1 ⟨rfl, hb⟩
  clear kG0 kG1 kG2 kG3 kG4 kG5 kG6
  have HG := Lib.hid (Blk.next (w := V2) HG.out hb)
  have EE := Lib.hid (EE.out.trans (hb.mono EE.out.size))
  clear hb
  have kG0 : v1.cell? ⟨w.heap.size + 1, 0, none⟩ = some (.int .i64 t0) := HG.out.cell 0
  have kG1 : v1.cell? ⟨w.heap.size + 1, 1, none⟩ = some (.int .i64 t1) := HG.out.cell 1
  have kG2 : v1.cell? ⟨w.heap.size + 1, 2, none⟩ = some (.int .i64 t2) := HG.out.cell 2
  have kG3 : v1.cell? ⟨w.heap.size + 1, 3, none⟩ = some (.int .i64 t3) := HG.out.cell 3
  have kG4 : v1.cell? ⟨w.heap.size + 1, 4, none⟩ = some (.int .i64 t4) := HG.out.cell 4
  have kG5 : v1.cell? ⟨w.heap.size + 1, 5, none⟩ = some (.int .i64 t5) := HG.out.cell 5
  have kG6 : v1.cell? ⟨w.heap.size + 1, 6, none⟩ = some (.int .i64 t6) := HG.out.cell 6
  clear kG0 kG1 kG2 kG3 kG4 kG5 kG6
  have lcm : (cmL t0 t1 t2 t3).length ≤ 200 := by have := HLEN.out; simp [cmL]; omega
  have lin : (inTL t5 t4).length ≤ 200 := by have := HLEN.out; simp [inTL]; omega
  have lou : (outTL t6).length ≤ 200 := by have := HLEN.out; simp [outTL]; omega
  have hst : storyL t0 t1 t2 t3 t4 t5 t6 = if 0 ≤ t6 then cmL t0 t1 t2 t3 ++ [44, 32] ++ inTL t5 t4 ++ [44, 32] ++ outTL t6 else if 0 ≤ t5 then cmL t0 t1 t2 t3 ++ [44, 32] ++ inTL t5 t4 ++ [44, 32, 114, 105, 100, 101, 115] else cmL t0 t1 t2 t3 ++ [44, 32, 119, 97, 105, 116, 115] := rfl
  obtain ⟨CM, hCM⟩ : ∃ l, cmL t0 t1 t2 t3 = l := ⟨_, rfl⟩
  obtain ⟨IN, hIN⟩ : ∃ l, inTL t5 t4 = l := ⟨_, rfl⟩
  obtain ⟨OU, hOU⟩ : ∃ l, outTL t6 = l := ⟨_, rfl⟩
  obtain ⟨SL, hSL⟩ : ∃ l, storyL t0 t1 t2 t3 t4 t5 t6 = l := ⟨_, rfl⟩
  rw [hOU] at WT
  rw [hCM, hIN, hOU, hSL] at hst
  rw [hCM] at lcm ⊢
  rw [hIN] at lin ⊢
  rw [hOU] at lou
  have HSL := Lib.hid hst
  have y1 : ¬ 9223372036854775807 < CM.length + 7 := by omega
  have y2 : ¬ 9223372036854775807 < CM.length + 2 := by omega
  have y3 : ¬ 9223372036854775807 < CM.length + 2 + IN.length := by omega
  have y4 : ¬ 9223372036854775807 < CM.length + 2 + IN.length + 7 := by omega
  have y5 : ¬ 9223372036854775807 < CM.length + 2 + IN.length + 2 := by omega
  have y6 : ¬ 9223372036854775807 < CM.length + 2 + IN.length + 2 + OU.length := by omega
  clear hCM hIN hOU hst WC WI
  by_cases h6 : 0 ≤ t6
  · have ea : atT t5 t6 = 2 := if_pos h6
    rw [ea]
    have kG0 : v1.cell? ⟨w.heap.size + 1, 0, none⟩ = some (.int .i64 t0) := HG.out.cell 0
    have kG1 : v1.cell? ⟨w.heap.size + 1, 1, none⟩ = some (.int .i64 t1) := HG.out.cell 1
    have kG2 : v1.cell? ⟨w.heap.size + 1, 2, none⟩ = some (.int .i64 t2) := HG.out.cell 2
    have kG3 : v1.cell? ⟨w.heap.size + 1, 3, none⟩ = some (.int .i64 t3) := HG.out.cell 3
    have kG4 : v1.cell? ⟨w.heap.size + 1, 4, none⟩ = some (.int .i64 t4) := HG.out.cell 4
    have kG5 : v1.cell? ⟨w.heap.size + 1, 5, none⟩ = some (.int .i64 t5) := HG.out.cell 5
    have kG6 : v1.cell? ⟨w.heap.size + 1, 6, none⟩ = some (.int .i64 t6) := HG.out.cell 6
    go_wp2_with fail
    refine (D6.out _ EE.out).mono ?_
    rintro e v2 ⟨rfl, hb⟩
    clear kG0 kG1 kG2 kG3 kG4 kG5 kG6
    have HG := Lib.hid (Blk.next (w := v1) HG.out hb)
    have EE := Lib.hid (EE.out.trans (hb.mono EE.out.size))
    clear hb
    have kG0 : v2.cell? ⟨w.heap.size + 1, 0, none⟩ = some (.int .i64 t0) := HG.out.cell 0
    have kG1 : v2.cell? ⟨w.heap.size + 1, 1, none⟩ = some (.int .i64 t1) := HG.out.cell 1
    have kG2 : v2.cell? ⟨w.heap.size + 1, 2, none⟩ = some (.int .i64 t2) := HG.out.cell 2
    have kG3 : v2.cell? ⟨w.heap.size + 1, 3, none⟩ = some (.int .i64 t3) := HG.out.cell 3
    have kG4 : v2.cell? ⟨w.heap.size + 1, 4, none⟩ = some (.int .i64 t4) := HG.out.cell 4
    have kG5 : v2.cell? ⟨w.heap.size + 1, 5, none⟩ = some (.int .i64 t5) := HG.out.cell 5
    have kG6 : v2.cell? ⟨w.heap.size + 1, 6, none⟩ = some (.int .i64 t6) := HG.out.cell 6
    clear kG0 kG1 kG2 kG3 kG4 kG5 kG6
    have BN : Blk (v2.alloc (.cells #[.string ⟨#[111, 117, 116, 32, 97, 116]⟩, .string ⟨(Lib.itoa t6).toArray⟩] 9)) v2.heap.size 9 #[.string ⟨#[111, 117, 116, 32, 97, 116]⟩, .string ⟨(Lib.itoa t6).toArray⟩] := Blk.new v2 _ _
    have EN := Lib.hid (EE.out.alloc EE.out.size (.cells #[.string ⟨#[111, 117, 116, 32, 97, 116]⟩, .string ⟨(Lib.itoa t6).toArray⟩] 9))
    go_wp2_with fail
    refine (WT.out _ _ BN).mono ?_
    rintro e v9 ⟨rfl, hb⟩
    have EE := Lib.hid (EN.out.trans (hb.mono EN.out.size))
    clear hb
    go_wp2_with fail
    go_ret
    exact ⟨by rw [hSL, HSL.out, if_pos h6]; simp [ByteArray.mk_append_mk, List.append_assoc], EE.out⟩
  · by_cases h5 : 0 ≤ t5
    · have ea : atT t5 t6 = 1 := by unfold atT; rw [if_neg h6, if_pos h5]
      rw [ea]
      go_wp2_with fail
      go_ret
      exact ⟨by rw [hSL, HSL.out, if_neg (show ¬ 0 ≤ t6 by omega), if_pos h5]; simp [ByteArray.mk_append_mk, List.append_assoc], EE.out⟩
    · have ea : atT t5 t6 = 0 := by unfold atT; rw [if_neg h6, if_neg h5]
      rw [ea]
      go_wp2_with fail
      go_ret
      exact ⟨by rw [hSL, HSL.out, if_neg (show ¬ 0 ≤ t6 by omega), if_neg (show ¬ 0 ≤ t5 by omega)]; simp [ByteArray.mk_append_mk, List.append_assoc], EE.out⟩
end Go.Proofs.YtobeppajomhfjacDoor
